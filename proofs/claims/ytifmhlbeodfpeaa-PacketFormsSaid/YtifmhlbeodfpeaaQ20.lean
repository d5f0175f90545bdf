/-
  The functions of package crc and of its reference.
  What has turned while one row of bytes was written: blocks of bytes from base on, and no others. Numbers behind one another.
-/
import Derived.Test.YtifmhlbeodfpeaaQ6
import Derived.Test.YtifmhlbeodfpeaaRows
import Derived.Test.YtifmhlbeodfpeaaQ1
import Derived.WalkSpells
import Derived.Laws.BitsAllLaws
import Derived.Test.YtifmhlbeodfpeaaQ5
import Derived.Test.YtifmhlbeodfpeaaQ17
import Derived.Test.YtifmhlbeodfpeaaQ11
import Derived.Test.YtifmhlbeodfpeaaQ12
namespace Go.Proofs.Ytifmhlbeodfpeaa
open Go.RowKit
set_option linter.unusedVariables false

/-- A register as a value. -/
abbrev rv (r : R) : Value := .int .u32 (r.toNat : Int)
/-- A bit as a value. -/
abbrev bv (b : Bool) : Value := .int .u32 ((bitv b).toNat : Int)

theorem xor_u32 (a b : R) : bits .xor .u32 (a.toNat : Int) (b.toNat : Int) = ((a ^^^ b).toNat : Int) := by
  rw [u32_xor_nat _ _ a.isLt b.isLt, BitVec.toNat_xor]
theorem shr1_u32 (r : R) : (r.toNat : Int) / (2 : Int) = ((r >>> 1).toNat : Int) := by
  rw [BitVec.toNat_ushiftRight, Nat.shiftRight_eq_div_pow]
  rfl
theorem fb_u32 (r : R) : bits .xor .u32 ((r.toNat : Int) / (2 : Int)) 2197175160 = (((r >>> 1) ^^^ fb).toNat : Int) := by
  rw [shr1_u32]
  exact xor_u32 _ fb
theorem bitv_toNat (b : Bool) : (bitv b).toNat = b.toNat := by cases b <;> rfl
theorem and1_nat (n : Nat) (h : n < 4294967296) : bits .and .u32 (n : Int) 1 = ((bitv (n.testBit 0)).toNat : Int) := by
  have := u32_and_nat n 1 h (by omega)
  rw [show ((1 : Nat) : Int) = 1 from rfl] at this
  rw [this, bitv_toNat, Nat.and_one_is_mod, Nat.testBit_zero]
  have h2 : n % 2 = 0 ∨ n % 2 = 1 := by omega
  rcases h2 with h2 | h2 <;> simp [h2]
theorem and1_u32 (r : R) : bits .and .u32 (r.toNat : Int) 1 = ((bitv (r.getLsbD 0)).toNat : Int) := and1_nat _ r.isLt
theorem bit_u32 (x : UInt8) (k : Nat) : bits .and .u32 ((x.toNat : Int) / 2 ^ k) 1 = ((bitv (x.toNat.testBit k)).toNat : Int) := by
  have hx := x.toNat_lt
  have h1 : x.toNat / 2 ^ k < 4294967296 := Nat.lt_of_le_of_lt (Nat.div_le_self _ _) (by omega)
  have := and1_nat (x.toNat / 2 ^ k) h1
  rw [Nat.testBit_div_two_pow, Nat.zero_add] at this
  rw [← this]
  norm_cast
theorem bitv_ne (a b : Bool) : (((bitv a).toNat : Int) != ((bitv b).toNat : Int)) = (a ^^ b) := by cases a <;> cases b <;> rfl
theorem rv_inj (a b : R) : ((a.toNat : Int) == (b.toNat : Int)) = decide (a = b) := by
  rw [Bool.eq_iff_iff, beq_iff_eq, decide_eq_true_iff, ← BitVec.toNat_inj]
  omega
/-- A register, each bit turned. A definition of its own, so that the walk leaves it. -/
def inv (r : R) : R := ~~~ r
theorem ext_inv (s : R) (xs : List UInt8) : ext s xs = inv (reg (bitAt xs) (inv s) (8 * xs.length)) := rfl
theorem not_u32 (r : R) : bits .xor .u32 IntKind.u32.max (r.toNat : Int) = ((inv r).toNat : Int) := by
  have h2 := xor_u32 (BitVec.allOnes 32) r
  rw [BitVec.allOnes_xor] at h2
  exact h2
theorem xor_ones (r : R) : bits .xor .u32 (r.toNat : Int) 4294967295 = ((inv r).toNat : Int) := by
  have h2 := xor_u32 r (BitVec.allOnes 32)
  rw [BitVec.xor_allOnes] at h2
  exact h2
theorem rv_val {a b : R} (h : a = b) : Value.int .u32 (a.toNat : Int) = .int .u32 (b.toNat : Int) := by rw [h]
theorem stp_true {r : R} {b : Bool} (h : (r.getLsbD 0 ^^ b) = true) : stp r b = (r >>> 1) ^^^ fb := by unfold stp; rw [h]; rfl
theorem stp_false {r : R} {b : Bool} (h : (r.getLsbD 0 ^^ b) = false) : stp r b = r >>> 1 := by unfold stp; rw [h]; simp [msk]

set_option maxHeartbeats 400000 in
theorem step_any (r : R) (b : Bool) (w : World) :
    Calls Try.prog 63 #[rv r, bv b] w fun e w' => e = .returned (rv (stp r b)) ∧ w = w' := by
  have h1 : r.toNat < 4294967296 := r.isLt
  have h2 : (bitv b).toNat < 4294967296 := (bitv b).isLt
  have hn : (bits .and .u32 (r.toNat : Int) 1 != ((bitv b).toNat : Int)) = (r.getLsbD 0 ^^ b) := by rw [and1_u32, bitv_ne]
  cases hb : (r.getLsbD 0 ^^ b)
  all_goals
    rw [hb] at hn
    have HB := Lib.hid hb
    clear hb
    go_enter Try.func63, Try.ntmps63
    go_wp2
    go_ret
  · exact ⟨ret_int (by rw [stp_false HB.out, shr1_u32]), rfl⟩
  · exact ⟨ret_int (by rw [stp_true HB.out, fb_u32]), rfl⟩

theorem reg_step (xs : List UInt8) (r : R) (j k : Nat) (hj : j < xs.length) (hk : k < 8) : stp (reg (bitAt xs) r (8 * j + k)) ((xs[j]).toNat.testBit k) = reg (bitAt xs) r (8 * j + (k + 1)) := by
  rw [← bitAt_at xs j k hj hk]
  rfl

set_option maxHeartbeats 1000000 in
theorem ext_cells (b o : Nat) (n c : Nat) (xs : List UInt8) (s : R) (w : World) (hn : n ≤ maxLen) (hx : xs.length = n)
    (hcx : ∀ k (hk : k < xs.length), w.cell? ⟨b, o + k, none⟩ = some (.int .u8 ((xs[k]).toNat : Int))) :
    Calls Try.prog 55 #[rv s, .slice (some ⟨b, o, none⟩) n c] w fun e w' => e = .returned (rv (ext s xs)) ∧ w = w' := by
  unfold maxLen at hn
  have HX := Lib.hid hx
  have HC := Lib.hid hcx
  clear hx hcx
  have hs : s.toNat < 4294967296 := s.isLt
  go_enter Try.func55, Try.ntmps55
  go_wp2
  rw [not_u32]
  go_loop [5, 13] (fun r i => ∃ k : Nat, k ≤ n ∧ i = .int .i64 k ∧ r = rv (reg (bitAt xs) (inv s) (8 * k))) (fun _ i => n - (intOf i).toNat)
  case atStart => exact ⟨0, Nat.zero_le _, rfl, rfl⟩
  case round =>
    obtain ⟨j, hj, rfl, rfl⟩ := hrel
    by_cases hlt : j < n
    · have hjl : j < xs.length := by rw [HX.out]; exact hlt
      have hc := HC.out j hjl
      have hb := (xs[j]).toNat_lt
      go_wp2
      go_loop [5, 17] (fun r i => ∃ k : Nat, k ≤ 8 ∧ i = .int .i64 k ∧ r = rv (reg (bitAt xs) (inv s) (8 * j + k))) (fun _ i => 8 - (intOf i).toNat)
      case atStart => exact ⟨0, Nat.zero_le _, rfl, rfl⟩
      case round =>
        obtain ⟨k, hk, rfl, rfl⟩ := hrel
        by_cases hk8 : k < 8
        · have hbit := bit_u32 (xs[j]) k
          have HR := Lib.hid (reg_step xs (inv s) j k hjl hk8)
          go_wp2_with (go_at_call 63; refine (step_any _ _ _).mono ?_; rintro e w' ⟨rfl, rfl⟩)
          go_round
          case rel => exact ⟨k + 1, by omega, by go_num, rv_val HR.out⟩
          case measure => simp [intOf]; omega
        · obtain rfl : k = 8 := by omega
          go_wp2
          go_round
          case rel => exact ⟨j + 1, by omega, by go_num, rfl⟩
          case measure => simp [intOf]; omega
    · obtain rfl : j = n := by omega
      go_wp2
      rw [not_u32]
      go_ret
      exact ⟨ret_int (by rw [ext_inv, HX.out]), rfl⟩

theorem inv_inv (r : R) : inv (inv r) = r := BitVec.not_not
set_option maxHeartbeats 400000 in
theorem ext_none (A : Option Addr) (c : Nat) (s : R) (w : World) :
    Calls Try.prog 55 #[rv s, .slice A 0 c] w fun e w' => e = .returned (rv s) ∧ w = w' := by
  have hs : s.toNat < 4294967296 := s.isLt
  go_enter Try.func55, Try.ntmps55
  go_wp2
  rw [not_u32]
  refine wp_loop_rounds 1 ?_
  rw [rounds_succ]
  go_wp2
  rw [not_u32, inv_inv]
  go_ret
  exact ⟨rfl, rfl⟩

/-- crc.Extend. -/
theorem ext_any (B : Nat) (A : Option Addr) (n c : Nat) (xs : List UInt8) (s : R) (w : World) (hn : n ≤ maxLen) (hx : xs.length = n) (hr : Rd w B A xs) :
    Calls Try.prog 55 #[rv s, .slice A n c] w fun e w' => e = .returned (rv (ext s xs)) ∧ w = w' := by
  by_cases h0 : n = 0
  · subst h0
    obtain rfl := List.eq_nil_of_length_eq_zero hx
    rw [ext_nil]
    exact ext_none A c s w
  · obtain ⟨b, o, rfl, _, hcx⟩ := hr.at_ (by rintro rfl; simp at hx; omega)
    exact ext_cells b o n c xs s w hn hx hcx

set_option maxHeartbeats 400000 in
/-- crc.Sum. -/
theorem sum_any (B : Nat) (A : Option Addr) (n c : Nat) (xs : List UInt8) (w : World) (hn : n ≤ maxLen) (hx : xs.length = n) (hr : Rd w B A xs) :
    Calls Try.prog 54 #[.slice A n c] w fun e w' => e = .returned (rv (sum xs)) ∧ w = w' := by
  have HX := Lib.hid hx
  clear hx
  go_enter Try.func54, Try.ntmps54
  go_wp2_with (go_at_call 55; refine (ext_any _ _ _ _ _ 0#32 _ hn HX.out hr).mono ?_; rintro e w' ⟨rfl, rfl⟩)
  go_ret
  exact ⟨rfl, rfl⟩

set_option maxHeartbeats 1000000 in
theorem refExt_cells (b o : Nat) (n c : Nat) (xs : List UInt8) (s : R) (w : World) (hn : n ≤ maxLen) (hx : xs.length = n)
    (hcx : ∀ k (hk : k < xs.length), w.cell? ⟨b, o + k, none⟩ = some (.int .u8 ((xs[k]).toNat : Int))) :
    Calls Try.prog 57 #[rv s, .slice (some ⟨b, o, none⟩) n c] w fun e w' => e = .returned (rv (ext s xs)) ∧ w = w' := by
  unfold maxLen at hn
  have HX := Lib.hid hx
  have HC := Lib.hid hcx
  clear hx hcx
  have hs : s.toNat < 4294967296 := s.isLt
  go_enter Try.func57, Try.ntmps57
  go_wp2
  rw [xor_ones]
  go_loop [5, 6] (fun r i => ∃ k : Nat, k ≤ n ∧ i = .int .i64 k ∧ r = rv (reg (bitAt xs) (inv s) (8 * k))) (fun _ i => n - (intOf i).toNat)
  case atStart => exact ⟨0, Nat.zero_le _, rfl, rfl⟩
  case round =>
    obtain ⟨j, hj, rfl, rfl⟩ := hrel
    by_cases hlt : j < n
    · have hjl : j < xs.length := by rw [HX.out]; exact hlt
      have hc := HC.out j hjl
      have hb := (xs[j]).toNat_lt
      go_wp2
      go_loop [5, 7] (fun r i => ∃ k : Nat, k ≤ 8 ∧ i = .int .i64 k ∧ r = rv (reg (bitAt xs) (inv s) (8 * j + k))) (fun _ i => 8 - (intOf i).toNat)
      case atStart => exact ⟨0, Nat.zero_le _, rfl, rfl⟩
      case round =>
        obtain ⟨k, hk, rfl, rfl⟩ := hrel
        by_cases hk8 : k < 8
        · have hbit := bit_u32 (xs[j]) k
          have HR := Lib.hid (reg_step xs (inv s) j k hjl hk8)
          generalize hq : reg (bitAt xs) (inv s) (8 * j + k) = q at *
          have HQ := Lib.hid hq
          clear hq
          have h1 : q.toNat < 4294967296 := q.isLt
          have h2 : (bitv ((xs[j]).toNat.testBit k)).toNat < 4294967296 := (bitv _).isLt
          have hn : (((bitv ((xs[j]).toNat.testBit k)).toNat : Int) != bits .and .u32 (q.toNat : Int) 1) = (q.getLsbD 0 ^^ (xs[j]).toNat.testBit k) := by rw [and1_u32, bitv_ne, Bool.xor_comm]
          cases hb : (q.getLsbD 0 ^^ (xs[j]).toNat.testBit k)
          all_goals
            rw [hb] at hn
            have HB := Lib.hid hb
            clear hb
            go_wp2
            go_round
            case rel => exact ⟨k + 1, by omega, by go_num, by rw [← HR.out]; first | (rw [stp_false HB.out, shr1_u32]) | (rw [stp_true HB.out, fb_u32])⟩
            case measure => simp [intOf]; omega
        · obtain rfl : k = 8 := by omega
          go_wp2
          go_round
          case rel => exact ⟨j + 1, by omega, by go_num, rfl⟩
          case measure => simp [intOf]; omega
    · obtain rfl : j = n := by omega
      go_wp2
      rw [xor_ones]
      go_ret
      exact ⟨ret_int (by rw [ext_inv, HX.out]), rfl⟩

set_option maxHeartbeats 400000 in
theorem refExt_none (A : Option Addr) (c : Nat) (s : R) (w : World) :
    Calls Try.prog 57 #[rv s, .slice A 0 c] w fun e w' => e = .returned (rv s) ∧ w = w' := by
  have hs : s.toNat < 4294967296 := s.isLt
  go_enter Try.func57, Try.ntmps57
  go_wp2
  rw [xor_ones]
  refine wp_loop_rounds 1 ?_
  rw [rounds_succ]
  go_wp2
  rw [xor_ones, inv_inv]
  go_ret
  exact ⟨rfl, rfl⟩

/-- The reference's Extend. -/
theorem refExt_any (B : Nat) (A : Option Addr) (n c : Nat) (xs : List UInt8) (s : R) (w : World) (hn : n ≤ maxLen) (hx : xs.length = n) (hr : Rd w B A xs) :
    Calls Try.prog 57 #[rv s, .slice A n c] w fun e w' => e = .returned (rv (ext s xs)) ∧ w = w' := by
  by_cases h0 : n = 0
  · subst h0
    obtain rfl := List.eq_nil_of_length_eq_zero hx
    rw [ext_nil]
    exact refExt_none A c s w
  · obtain ⟨b, o, rfl, _, hcx⟩ := hr.at_ (by rintro rfl; simp at hx; omega)
    exact refExt_cells b o n c xs s w hn hx hcx

set_option maxHeartbeats 400000 in
/-- The reference's Sum. -/
theorem refSum_any (B : Nat) (A : Option Addr) (n c : Nat) (xs : List UInt8) (w : World) (hn : n ≤ maxLen) (hx : xs.length = n) (hr : Rd w B A xs) :
    Calls Try.prog 39 #[.slice A n c] w fun e w' => e = .returned (rv (sum xs)) ∧ w = w' := by
  have HX := Lib.hid hx
  clear hx
  go_enter Try.func39, Try.ntmps39
  go_wp2_with (go_at_call 57; refine (refExt_any _ _ _ _ _ 0#32 _ hn HX.out hr).mono ?_; rintro e w' ⟨rfl, rfl⟩)
  go_ret
  exact ⟨rfl, rfl⟩
end Go.Proofs.Ytifmhlbeodfpeaa

namespace Go.Proofs.Ytifmhlbeodfpeaa
open Go.RowKit
set_option linter.unusedVariables false

/-- w' is w but for blocks of type t from base on, and what is new. -/
structure Wr (t : TypeId) (base : Nat) (w w' : World) : Prop where
  os : w'.os = w.os
  tape : w'.tape = w.tape
  output : w'.output = w.output
  size : w.heap.size ≤ w'.heap.size
  block : ∀ k, k < w.heap.size → (k < base ∨ ∀ cs fr, w.heap[k]? ≠ some (.cells cs t fr)) → w'.heap[k]? = w.heap[k]?
section
variable {t t' : TypeId} {base B lo hi g : Nat} {a b c w w' : World} {cs : Array Value} {A : Option Addr} {xs : List UInt8} {n : Nat}
theorem Wr.refl (t : TypeId) (base : Nat) (w : World) : Wr t base w w := ⟨rfl, rfl, rfl, Nat.le_refl _, fun _ _ _ => rfl⟩
theorem Wr.trans (h : Wr t base a b) (k : Wr t base b c) : Wr t base a c :=
  ⟨k.os.trans h.os, k.tape.trans h.tape, k.output.trans h.output, Nat.le_trans h.size k.size, fun i hi hn => by
    have h1 := h.block i hi hn
    refine (k.block i (Nat.lt_of_lt_of_le hi h.size) ?_).trans h1
    rcases hn with hn | hn
    · exact .inl hn
    · exact .inr (by rw [h1]; exact hn)⟩
theorem Wr.mono (h : Wr t B a b) (hb : base ≤ B) : Wr t base a b := ⟨h.os, h.tape, h.output, h.size, fun i hi hn => h.block i hi (hn.elim (fun x => .inl (by omega)) .inr)⟩
theorem Wr.of_below (h : Below a.heap.size a b) (t : TypeId) (base : Nat) : Wr t base a b := ⟨h.os, h.tape, h.output, h.size, fun i hi _ => h.block i hi⟩
theorem Wr.then_ (h : Wr t base a b) (k : Below b.heap.size b c) : Wr t base a c := h.trans (Wr.of_below k t base)
theorem Wr.alloc (h : Wr t base a b) (o : Obj) : Wr t base a (b.alloc o) := h.then_ (below_new b o)
theorem Wr.drewN (h : Wr t base a b) (n : Nat) : Wr t base a (b.drewN n) := ⟨h.os, h.tape, h.output, h.size, h.block⟩
theorem Wr.below (h : Wr t base a b) : Below base a b ∨ a.heap.size < base := by
  rcases Nat.lt_or_ge a.heap.size base with hl | hl
  · exact .inr hl
  · exact .inl ⟨h.os, h.tape, h.output, h.size, fun i hi => h.block i (by omega) (.inl hi)⟩
theorem Wr.below_ (h : Wr t base a b) (hb : base ≤ a.heap.size) : Below base a b := ⟨h.os, h.tape, h.output, h.size, fun i hi => h.block i (by omega) (.inl hi)⟩
theorem Wr.of_grown {n c : Nat} (ho : Own8 w t base A n c xs) (hg : w.grownBy w' (A.map (·.block))) : Wr t base w w' :=
  ⟨hg.os, hg.tape, hg.output, hg.size, fun i hi hn => hg.block i hi fun e => by
    rcases ho.2 with ⟨rfl, _⟩ | ⟨q, zs, rfl, hq, hr, _⟩
    · cases e
    · have e : i = q := by injection e
      subst e
      rcases hn with hn | hn
      · omega
      · exact hn _ _ hr⟩
theorem Blk.wr (h : Blk w g t' cs) (hw : Wr t base w w') (ht : t' ≠ t) : Blk w' g t' cs :=
  (hw.block g h.lt (.inr fun cs' fr e => by
    have h1 : w.heap[g]? = _ := h
    rw [h1] at e
    injection e with e
    injection e with _ e
    exact ht e)).trans h
theorem Wr.cell_ (hw : Wr t base w w') {p : Addr} (hp : p.block < base) (hb : base ≤ w.heap.size) : w'.cell? p = w.cell? p := (hw.below_ hb).cell hp
theorem Rd.wr (h : Rd w B A xs) (hw : Wr t base w w') (hB : B ≤ base) (hb : base ≤ w.heap.size) : Rd w' B A xs := h.keep fun p hp => hw.cell_ (by omega) hb
theorem Ri.wr {q : IntKind} {zs : List Int} (h : Ri q w B A zs) (hw : Wr t base w w') (hB : B ≤ base) (hb : base ≤ w.heap.size) : Ri q w' B A zs := h.keep fun p hp => hw.cell_ (by omega) hb
theorem Rg.wr {L : List (Nat × Nat)} (h : Rg w lo hi A L) (hw : Wr t base w w') (hB : hi ≤ base) (hb : base ≤ w.heap.size) : Rg w' lo hi A L := by
  rcases h with h | ⟨b, o, ha, hl, hb', hc⟩
  · exact .inl h
  · refine .inr ⟨b, o, ha, hl, hb', fun j p hp => ⟨?_, ?_⟩⟩
    · exact (hw.cell_ (p := ⟨b, o + j * 2, none⟩) (by show b < _; omega) hb).trans (hc j p hp).1
    · exact (hw.cell_ (p := ⟨b, o + j * 2 + 1, none⟩) (by show b < _; omega) hb).trans (hc j p hp).2
theorem Rg.below_ {L : List (Nat × Nat)} (h : Rg w lo hi A L) (hw : Below hi w w') : Rg w' lo hi A L := by
  rcases h with h | ⟨b, o, ha, hl, hb', hc⟩
  · exact .inl h
  · refine .inr ⟨b, o, ha, hl, hb', fun j p hp => ⟨?_, ?_⟩⟩
    · exact (hw.cell (p := ⟨b, o + j * 2, none⟩) (by show b < _; omega)).trans (hc j p hp).1
    · exact (hw.cell (p := ⟨b, o + j * 2 + 1, none⟩) (by show b < _; omega)).trans (hc j p hp).2
/-- A block of numbers of another type reads on. -/
theorem Ri.of_blk {q : IntKind} (zs : List Int) (h : Blk w g t' cs) (hcs : cs = (zs.map (Value.int q)).toArray) : Ri q w w.heap.size (some ⟨g, 0, none⟩) zs :=
  .inr ⟨g, 0, rfl, h.lt, fun j x hx => by rw [h.cell, hcs]; simp [hx]⟩
end

/-- A region that draws its order; the walk stops ahead of it. -/
def Drawn (id : Nat) (ops : Array Oper) : Code := .region id ops true
theorem drawn_eq (id : Nat) (ops : Array Oper) : Code.region id ops true = Drawn id ops := rfl

/-- The number at a place, 0 where it is not within. -/
def numO (xs : List UInt8) (a s : Nat) : Nat := if a + s ≤ xs.length then num xs a s else 0
theorem numO_in {xs : List UInt8} {a s : Nat} (h : a + s ≤ xs.length) : numO xs a s = num xs a s := if_pos h
theorem numO_out {xs : List UInt8} {a s : Nat} (h : ¬ a + s ≤ xs.length) : numO xs a s = 0 := if_neg h
theorem numO_lt (xs : List UInt8) (a s : Nat) : numO xs a s < 256 ^ s := by
  unfold numO
  split
  · exact num_lt xs a s
  · exact Nat.pow_pos (by decide)

/-- Numbers of s bytes each. -/
def numsB (s : Nat) (vs : List Int) : List UInt8 := (vs.map fun x => enc (x % 18446744073709551616).toNat s).flatten
theorem numsB_nil (s : Nat) : numsB s [] = [] := rfl
theorem length_numsB (s : Nat) : ∀ vs, (numsB s vs).length = s * vs.length
  | [] => rfl
  | v :: vs => by
    have := length_numsB s vs
    simp only [numsB, List.map_cons, List.flatten_cons, List.length_append, List.length_cons] at this ⊢
    rw [this, length_enc, Nat.mul_succ]
    omega
theorem numsB_snoc (s : Nat) (vs : List Int) (x : Int) : numsB s (vs ++ [x]) = numsB s vs ++ enc (x % 18446744073709551616).toNat s := by simp [numsB]
theorem numsB_take (s : Nat) (vs : List Int) (k : Nat) (h : k < vs.length) : numsB s (vs.take (k + 1)) = numsB s (vs.take k) ++ enc (vs[k] % 18446744073709551616).toNat s := by
  rw [List.take_add_one, List.getElem?_eq_getElem h]
  exact numsB_snoc s _ _
theorem toNat_small (a : Nat) (h : a < 18446744073709551616) : ((a : Int) % 18446744073709551616).toNat = a := by omega
end Go.Proofs.Ytifmhlbeodfpeaa
