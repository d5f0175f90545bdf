/-
  What has turned while one row of bytes was written: blocks of bytes from base on, and no others. Numbers behind one another.
-/
import Derived.Test.YtalgkokgaibloaaBodM
import Derived.Test.YtalgkokgaibloaaSpM
import Derived.Test.YtalgkokgaibloaaGrowT
import Derived.Test.YtalgkokgaibloaaRows3
namespace Go.Proofs.Ytalgkokgaibloaa
open Go.RowKit
set_option linter.unusedVariables false

/-- w' is w but for blocks of type t from base on, and what is new. -/
structure Wr (t : TypeId) (base : Nat) (w w' : World) : Prop where
  os : w'.os = w.os
  tape : w'.tape = w.tape
  output : w'.output = w.output
  size : w.heap.size ≤ w'.heap.size
  block : ∀ k, k < w.heap.size → (k < base ∨ ∀ cs fr, w.heap[k]? ≠ some (.cells cs t fr)) → w'.heap[k]? = w.heap[k]?
section
variable {t t' : TypeId} {base B lo hi g : Nat} {a b c w w' : World} {cs : Array Value} {A : Option Addr} {xs : List UInt8} {n : Nat}
theorem Wr.refl (t : TypeId) (base : Nat) (w : World) : Wr t base w w := ⟨rfl, rfl, rfl, Nat.le_refl _, fun _ _ _ => rfl⟩
theorem Wr.trans (h : Wr t base a b) (k : Wr t base b c) : Wr t base a c :=
  ⟨k.os.trans h.os, k.tape.trans h.tape, k.output.trans h.output, Nat.le_trans h.size k.size, fun i hi hn => by
    have h1 := h.block i hi hn
    refine (k.block i (Nat.lt_of_lt_of_le hi h.size) ?_).trans h1
    rcases hn with hn | hn
    · exact .inl hn
    · exact .inr (by rw [h1]; exact hn)⟩
theorem Wr.mono (h : Wr t B a b) (hb : base ≤ B) : Wr t base a b := ⟨h.os, h.tape, h.output, h.size, fun i hi hn => h.block i hi (hn.elim (fun x => .inl (by omega)) .inr)⟩
theorem Wr.of_below (h : Below a.heap.size a b) (t : TypeId) (base : Nat) : Wr t base a b := ⟨h.os, h.tape, h.output, h.size, fun i hi _ => h.block i hi⟩
theorem Wr.then_ (h : Wr t base a b) (k : Below b.heap.size b c) : Wr t base a c := h.trans (Wr.of_below k t base)
theorem Wr.alloc (h : Wr t base a b) (o : Obj) : Wr t base a (b.alloc o) := h.then_ (below_new b o)
theorem Wr.drewN (h : Wr t base a b) (n : Nat) : Wr t base a (b.drewN n) := ⟨h.os, h.tape, h.output, h.size, h.block⟩
theorem Wr.below (h : Wr t base a b) : Below base a b ∨ a.heap.size < base := by
  rcases Nat.lt_or_ge a.heap.size base with hl | hl
  · exact .inr hl
  · exact .inl ⟨h.os, h.tape, h.output, h.size, fun i hi => h.block i (by omega) (.inl hi)⟩
theorem Wr.below_ (h : Wr t base a b) (hb : base ≤ a.heap.size) : Below base a b := ⟨h.os, h.tape, h.output, h.size, fun i hi => h.block i (by omega) (.inl hi)⟩
theorem Wr.of_grown {n c : Nat} (ho : Own8 w t base A n c xs) (hg : w.grownBy w' (A.map (·.block))) : Wr t base w w' :=
  ⟨hg.os, hg.tape, hg.output, hg.size, fun i hi hn => hg.block i hi fun e => by
    rcases ho.2 with ⟨rfl, _⟩ | ⟨q, zs, rfl, hq, hr, _⟩
    · cases e
    · have e : i = q := by injection e
      subst e
      rcases hn with hn | hn
      · omega
      · exact hn _ _ hr⟩
theorem Blk.wr (h : Blk w g t' cs) (hw : Wr t base w w') (ht : t' ≠ t) : Blk w' g t' cs :=
  (hw.block g h.lt (.inr fun cs' fr e => by
    have h1 : w.heap[g]? = _ := h
    rw [h1] at e
    injection e with e
    injection e with _ e
    exact ht e)).trans h
theorem Wr.cell_ (hw : Wr t base w w') {p : Addr} (hp : p.block < base) (hb : base ≤ w.heap.size) : w'.cell? p = w.cell? p := (hw.below_ hb).cell hp
theorem Rd.wr (h : Rd w B A xs) (hw : Wr t base w w') (hB : B ≤ base) (hb : base ≤ w.heap.size) : Rd w' B A xs := h.keep fun p hp => hw.cell_ (by omega) hb
theorem Ri.wr {q : IntKind} {zs : List Int} (h : Ri q w B A zs) (hw : Wr t base w w') (hB : B ≤ base) (hb : base ≤ w.heap.size) : Ri q w' B A zs := h.keep fun p hp => hw.cell_ (by omega) hb
theorem Rg.wr {L : List (Nat × Nat)} (h : Rg w lo hi A L) (hw : Wr t base w w') (hB : hi ≤ base) (hb : base ≤ w.heap.size) : Rg w' lo hi A L := by
  rcases h with h | ⟨b, o, ha, hl, hb', hc⟩
  · exact .inl h
  · refine .inr ⟨b, o, ha, hl, hb', fun j p hp => ⟨?_, ?_⟩⟩
    · exact (hw.cell_ (p := ⟨b, o + j * 2, none⟩) (by show b < _; omega) hb).trans (hc j p hp).1
    · exact (hw.cell_ (p := ⟨b, o + j * 2 + 1, none⟩) (by show b < _; omega) hb).trans (hc j p hp).2
theorem Rg.below_ {L : List (Nat × Nat)} (h : Rg w lo hi A L) (hw : Below hi w w') : Rg w' lo hi A L := by
  rcases h with h | ⟨b, o, ha, hl, hb', hc⟩
  · exact .inl h
  · refine .inr ⟨b, o, ha, hl, hb', fun j p hp => ⟨?_, ?_⟩⟩
    · exact (hw.cell (p := ⟨b, o + j * 2, none⟩) (by show b < _; omega)).trans (hc j p hp).1
    · exact (hw.cell (p := ⟨b, o + j * 2 + 1, none⟩) (by show b < _; omega)).trans (hc j p hp).2
/-- A block of numbers of another type reads on. -/
theorem Ri.of_blk {q : IntKind} (zs : List Int) (h : Blk w g t' cs) (hcs : cs = (zs.map (Value.int q)).toArray) : Ri q w w.heap.size (some ⟨g, 0, none⟩) zs :=
  .inr ⟨g, 0, rfl, h.lt, fun j x hx => by rw [h.cell, hcs]; simp [hx]⟩
end

/-- A region that draws its order; the walk stops ahead of it. -/
def Drawn (id : Nat) (ops : Array Oper) : Code := .region id ops true
theorem drawn_eq (id : Nat) (ops : Array Oper) : Code.region id ops true = Drawn id ops := rfl

/-- The number at a place, 0 where it is not within. -/
def numO (xs : List UInt8) (a s : Nat) : Nat := if a + s ≤ xs.length then num xs a s else 0
theorem numO_in {xs : List UInt8} {a s : Nat} (h : a + s ≤ xs.length) : numO xs a s = num xs a s := if_pos h
theorem numO_out {xs : List UInt8} {a s : Nat} (h : ¬ a + s ≤ xs.length) : numO xs a s = 0 := if_neg h
theorem numO_lt (xs : List UInt8) (a s : Nat) : numO xs a s < 256 ^ s := by
  unfold numO
  split
  · exact num_lt xs a s
  · exact Nat.pow_pos (by decide)

/-- Numbers of s bytes each. -/
def numsB (s : Nat) (vs : List Int) : List UInt8 := (vs.map fun x => enc (x % 18446744073709551616).toNat s).flatten
theorem numsB_nil (s : Nat) : numsB s [] = [] := rfl
theorem length_numsB (s : Nat) : ∀ vs, (numsB s vs).length = s * vs.length
  | [] => rfl
  | v :: vs => by
    have := length_numsB s vs
    simp only [numsB, List.map_cons, List.flatten_cons, List.length_append, List.length_cons] at this ⊢
    rw [this, length_enc, Nat.mul_succ]
    omega
theorem numsB_snoc (s : Nat) (vs : List Int) (x : Int) : numsB s (vs ++ [x]) = numsB s vs ++ enc (x % 18446744073709551616).toNat s := by simp [numsB]
theorem numsB_take (s : Nat) (vs : List Int) (k : Nat) (h : k < vs.length) : numsB s (vs.take (k + 1)) = numsB s (vs.take k) ++ enc (vs[k] % 18446744073709551616).toNat s := by
  rw [List.take_add_one, List.getElem?_eq_getElem h]
  exact numsB_snoc s _ _
theorem toNat_small (a : Nat) (h : a < 18446744073709551616) : ((a : Int) % 18446744073709551616).toNat = a := by omega
end Go.Proofs.Ytalgkokgaibloaa
