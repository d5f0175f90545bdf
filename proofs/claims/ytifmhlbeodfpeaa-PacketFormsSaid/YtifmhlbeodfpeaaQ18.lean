/-
  A []api.Chunk of the call's own, each body a row of its own.
-/
import Derived.Test.YtifmhlbeodfpeaaQ8
import Derived.Test.YtifmhlbeodfpeaaQ11
import Derived.Test.YtifmhlbeodfpeaaQ12
import Derived.Test.YtifmhlbeodfpeaaQ15
import Derived.Test.YtifmhlbeodfpeaaQ2
import Derived.Test.YtifmhlbeodfpeaaQ17
namespace Go.Proofs.Ytifmhlbeodfpeaa
open Go.RowKit
set_option linter.unusedVariables false

/-- A chunk in memory: kind, flags, where its body lies, the body. -/
structure CE where
  k : UInt8
  f : UInt8
  A : Option Addr
  n : Nat
  c : Nat
  xs : List UInt8
def CE.cells (e : CE) : List Value := [.int .u8 (e.k.toNat : Int), .int .u8 (e.f.toNat : Int), .slice e.A e.n e.c]
def CE.chk (e : CE) : Chk := (e.k, e.f, e.xs)
def flatC (es : List CE) : List Value := es.flatMap CE.cells
theorem length_flatC : ∀ es : List CE, (flatC es).length = es.length * 3
  | [] => rfl
  | e :: es => by
    have := length_flatC es
    unfold flatC at this ⊢
    rw [List.flatMap_cons, List.length_append, this, List.length_cons]
    simp [CE.cells]
    omega
theorem flatC_snoc (es : List CE) (e : CE) : flatC (es ++ [e]) = flatC es ++ e.cells := by simp [flatC]
theorem get_flatC : ∀ (es : List CE) (j : Nat) (e : CE), es[j]? = some e → ∀ i, i < 3 → (flatC es)[j * 3 + i]? = e.cells[i]?
  | [], j, e, h, i, hi => by cases h
  | x :: es, 0, e, h, i, hi => by
    obtain rfl := Option.some.inj h
    unfold flatC
    rw [List.flatMap_cons, Nat.zero_mul, Nat.zero_add, List.getElem?_append_left (by simpa [CE.cells] using hi)]
  | x :: es, j + 1, e, h, i, hi => by
    have ih := get_flatC es j e (by simpa using h) i hi
    have e2 : (flatC (x :: es)) = x.cells ++ flatC es := by simp [flatC]
    rw [e2, List.getElem?_append_right (by simp [CE.cells]; omega), ← ih]
    congr 1
    simp [CE.cells]
    omega
theorem oneCell_flatC (es : List CE) : ∀ u ∈ flatC es, u.oneCell' = true := by
  intro u hu
  unfold flatC at hu
  rw [List.mem_flatMap] at hu
  obtain ⟨e, _, he⟩ := hu
  simp [CE.cells] at he
  rcases he with rfl | rfl | rfl <;> rfl

/-- A block of another type is not the own row. -/
theorem ownsRow_ne {w : World} {base sz n g : Nat} {t t' : TypeId} {v : Value} {xs : List Value} {cs : Array Value} (h : w.ownsRow base t sz v n xs) (hb : Blk w g t' cs) (ht : t ≠ t') : some g ≠ v.ownBlock := by
  rcases h.2 with ⟨rfl, _⟩ | ⟨q, cap, cur, rfl, hq, hg, _⟩
  · simp [Value.ownBlock]
  · intro e
    simp [Value.ownBlock] at e
    subst e
    have h2 : w.heap[g]? = _ := hb
    rw [hg] at h2
    injection h2 with h2
    injection h2 with _ h2
    exact ht h2
theorem ownsRow_keep {w w' : World} {base sz n : Nat} {t : TypeId} {v : Value} {xs : List Value} (h : w.ownsRow base t sz v n xs) (hk : ∀ g, v.ownBlock = some g → w'.heap[g]? = w.heap[g]?) : w'.ownsRow base t sz v n xs := by
  refine ⟨h.1, ?_⟩
  rcases h.2 with hn | ⟨g, cap, cur, rfl, hb, hg, rest⟩
  · exact .inl hn
  · exact .inr ⟨g, cap, cur, rfl, hb, (hk g rfl).trans hg, rest⟩
theorem ownsRow_more {w : World} {base base' sz n : Nat} {t : TypeId} {v : Value} {xs : List Value} (h : w.ownsRow base t sz v n xs) (hb : base' ≤ base) : w.ownsRow base' t sz v n xs := by
  refine ⟨h.1, ?_⟩
  rcases h.2 with hn | ⟨g, cap, cur, rfl, hq, hg, rest⟩
  · exact .inl hn
  · exact .inr ⟨g, cap, cur, rfl, by omega, hg, rest⟩
theorem ownsRow_ge {w : World} {base sz n : Nat} {t : TypeId} {v : Value} {xs : List Value} (h : w.ownsRow base t sz v n xs) : ∀ b, v.ownBlock = some b → base ≤ b := by
  intro b hb
  rcases h.2 with ⟨rfl, _⟩ | ⟨q, cap, cur, rfl, hq, hg, _⟩
  · simp [Value.ownBlock] at hb
  · simp [Value.ownBlock] at hb
    omega
/-- A body's row is not the row of chunks. -/
theorem Own8.row_ne {w : World} {base b sz n m c : Nat} {t t' : TypeId} {v : Value} {A : Option Addr} {xs : List UInt8} {ys : List Value} (ho : Own8 w t b A m c xs) (h : w.ownsRow base t' sz v n ys) (ht : t ≠ t') : ∀ q, A = some ⟨q, 0, none⟩ → some q ≠ v.ownBlock := by
  intro q hq
  rcases ho.2 with ⟨rfl, _⟩ | ⟨g, zs, rfl, hg, hr, _⟩
  · cases hq
  · injection hq with hq
    injection hq with hq
    subst hq
    exact ownsRow_ne h (show Blk w g t _ from hr) (fun e => ht e.symm)

/-- A slice of chunks of the call's own, their bodies rows of its own. -/
structure OC (w : World) (base : Nat) (v : Value) (es : List CE) : Prop where
  row : w.ownsRow base 41 3 v es.length (flatC es)
  bod : ∀ e ∈ es, Own8 w 5 base e.A e.n e.c e.xs
  far : es.Pairwise fun x y => Far x.A y.A
section
variable {w w' : World} {base : Nat} {v : Value} {es : List CE}
theorem OC.nil (w : World) (base : Nat) : OC w base (.slice none 0 0) [] := ⟨World.ownsRow_nil _ _ _ _, fun e h => (by cases h), List.Pairwise.nil⟩
theorem OC.below (h : OC w base v es) (hb : Below w.heap.size w w') : OC w' base v es :=
  ⟨ownsRow_keep h.row fun g hg => hb.block g (World.ownsRow.lt h.row g hg).2, fun e he => (h.bod e he).below hb (Nat.le_refl _), h.far⟩
theorem OC.alloc (h : OC w base v es) (o : Obj) : OC (w.alloc o) base v es := h.below (below_new w o)
theorem OC.drewN (h : OC w base v es) (n : Nat) : OC (w.drewN n) base v es := ⟨ownsRow_keep h.row fun g hg => rfl, fun e he => (h.bod e he).drewN n, h.far⟩
theorem OC.more (h : OC w base v es) {base' : Nat} (hb : base' ≤ base) : OC w base' v es := ⟨ownsRow_more h.row hb, fun e he => (h.bod e he).more hb, h.far⟩
/-- A store into a block of another type. -/
theorem OC.setBlk {g : Nat} {t' : TypeId} {cs : Array Value} (h : OC w base v es) (hb : Blk w g t' cs) (h1 : 41 ≠ t') (h2 : 5 ≠ t') (i : Nat) (u : Value) : OC (w.setCell ⟨g, i, none⟩ u) base v es :=
  ⟨ownsRow_keep h.row fun q hq => Below.heap_setCell w ⟨g, i, none⟩ u q (fun e => ownsRow_ne h.row hb h1 (by rw [hq]; exact congrArg some (Eq.symm e))),
   fun e he => (h.bod e he).keep fun q hq => Below.heap_setCell w ⟨g, i, none⟩ u q (fun e2 => (h.bod e he).ne_blk hb h2 q hq (by simpa using e2)), h.far⟩
theorem OC.form (h : OC w base v es) : ∃ A c, v = .slice A es.length c ∧ es.length ≤ c ∧ c ≤ maxLen := by
  rcases h.row.2 with ⟨rfl, hn⟩ | ⟨g, cap, cur, rfl, hb, hg, hnc, hcm, hcs, htake⟩
  · exact ⟨none, 0, by rw [hn], by omega, Nat.zero_le _⟩
  · exact ⟨_, _, rfl, hnc, hcm⟩
theorem OC.chunks {A : Option Addr} {n c : Nat} (h : OC w base (.slice A n c) es) : Chunks w w.heap.size A (es.map CE.chk) := by
  rcases h.row.2 with ⟨_, hn⟩ | ⟨g, cap, cur, he, hb, hg, hnc, hcm, hcs, htake⟩
  · exact .inl (by rw [List.eq_nil_of_length_eq_zero hn]; rfl)
  · injection he with e1 e2 e3
    subst e1
    have hlt : g < w.heap.size := (Array.getElem?_eq_some_iff.1 hg).1
    have hcell : ∀ j u, (flatC es)[j]? = some u → w.cell? ⟨g, 0 + j, none⟩ = some u := fun j u hu => by
      have h2 := h.row.cells (g := g) rfl j u hu
      rwa [Addr.add_lit] at h2
    refine .inr ⟨g, 0, rfl, hlt, fun i x hx => ?_⟩
    rw [List.getElem?_map, Option.map_eq_some_iff] at hx
    obtain ⟨e, he, rfl⟩ := hx
    have ho := h.bod e (List.mem_of_getElem? he)
    have hg := get_flatC es i e he
    refine ⟨?_, ?_, e.A, e.n, e.c, ?_, ho.cap.1, ho.cap.2, ho.len, ho.rd⟩
    · exact hcell _ _ ((hg 0 (by omega)).trans rfl)
    · rw [Nat.add_assoc]; exact hcell _ _ ((hg 1 (by omega)).trans rfl)
    · rw [Nat.add_assoc]; exact hcell _ _ ((hg 2 (by omega)).trans rfl)
end
theorem Try.infoChunk : (Try.prog.info? 41).map (fun i => (i.zero, i.size, i.bytes)) = some (some (.agg #[.int .u8 0, .int .u8 0, .slice none 0 0]), 3, 32) := by kernel_rfl
/-- append of one chunk that lies in a block of its own. -/
theorem OC.push {w : World} {base : Nat} {A : Option Addr} {m c g : Nat} {es : List CE} (ty : TypeId) (e : CE) (h : OC w base (.slice A m c) es) (hm : es.length = m) (hg : Blk w g 41 e.cells.toArray)
    (ho : Own8 w 5 base e.A e.n e.c e.xs) (hf : ∀ x ∈ es, Far x.A e.A) (hbd : m ≤ 1048576) (hbase : base ≤ w.heap.size) :
    ∃ A2 c2 w', (Builtin.append_ #[23, 23] ty #[.slice A m c, .slice (some ⟨g, 0, none⟩) 1 1]).run Try.prog w = .ok (.slice A2 (m + 1 : Nat) c2) w' ∧ OC w' base (.slice A2 (m + 1) c2) (es ++ [e]) ∧ w.grownBy w' (Value.slice A m c).ownBlock := by
  obtain ⟨i0, hi, hz0, hz1, hz2⟩ := info_parts Try.infoChunk
  subst hm
  have hl : (flatC es ++ e.cells).length = (es.length + 1) * 3 := by simp [length_flatC, CE.cells]; omega
  obtain ⟨v', w', hrun, hown, hgr, _⟩ := run_append_own w base 23 ty 41 i0 _ 3 32 Try.underlying23 hi hz0 hz1 hz2 rfl (by decide) (.slice A es.length c) es.length (flatC es) h.row ⟨g, 0, none⟩ 1 1 e.cells rfl
    (fun j u hu => by rw [Addr.add_lit, Nat.zero_add, hg.cell j]; simpa using hu) (by intro u hu; simp [CE.cells] at hu; rcases hu with rfl | rfl | rfl <;> rfl) (by unfold maxLen; omega) (by omega) hbase
  have hrow : w'.ownsRow base 41 3 v' (es ++ [e]).length (flatC (es ++ [e])) := by
    rw [flatC_snoc, List.length_append]
    exact hown
  have hbod : ∀ x ∈ es ++ [e], Own8 w' 5 base x.A x.n x.c x.xs := by
    intro x hx
    have hox : Own8 w 5 base x.A x.n x.c x.xs := by
      rcases List.mem_append.1 hx with hx | hx
      · exact h.bod x hx
      · rw [List.mem_singleton] at hx; rw [hx]; exact ho
    exact hox.keep fun q hq => hgr.block q (hox.lt q hq).2 (Own8.row_ne hox h.row (by decide) q hq)
  have hoc : OC w' base v' (es ++ [e]) := ⟨hrow, hbod, List.pairwise_append.2 ⟨h.far, List.pairwise_singleton _ _, fun x hx y hy => by rw [List.mem_singleton] at hy; rw [hy]; exact hf x hx⟩⟩
  obtain ⟨A2, c2, rfl, _⟩ := hoc.form
  have hl1 : (es ++ [e]).length = es.length + 1 := by simp
  rw [hl1] at hrun hoc
  exact ⟨A2, c2, w', hrun, hoc, hgr⟩
theorem far_new {w w' : World} {es : List CE} {base base' : Nat} {v : Value} {A : Option Addr} {n c : Nat} {xs : List UInt8} (h : OC w base v es) (ho : Own8 w' 5 base' A n c xs) (hb : w.heap.size ≤ base') : ∀ x ∈ es, Far x.A A :=
  fun x hx => far_of (h.bod x hx) ho hb

/-- A fresh block that holds a chunk whose body is a row of its own. -/
def NewCk (base : Nat) (k f : UInt8) (n : Nat) (xs : List UInt8) : Tell := fun v w => ∃ g A c, v = .slice (some ⟨g, 0, none⟩) 1 1 ∧ base ≤ g ∧ Blk w g 41 #[.int .u8 (k.toNat : Int), .int .u8 (f.toNat : Int), .slice A n c] ∧ Own8 w 5 base A n c xs
theorem Lasts.newCk (base : Nat) (k f : UInt8) (n : Nat) (xs : List UInt8) : Lasts (NewCk base k f n xs) := fun v x y hg ⟨g, A, c, h1, h2, h3, h4⟩ => ⟨g, A, c, h1, h2, h3.below hg h3.lt, h4.below hg (Nat.le_refl _)⟩
end Go.Proofs.Ytifmhlbeodfpeaa
