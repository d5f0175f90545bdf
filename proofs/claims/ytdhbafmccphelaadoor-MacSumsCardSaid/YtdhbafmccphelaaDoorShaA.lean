/-
  The small functions of package sha and of its reference: rotations, shifts, words of bytes.
-/
import Derived.Test.YtdhbafmccphelaaDoorShaM
import Derived.Test.YtdhbafmccphelaaDoorRows
import Derived.Test.YtdhbafmccphelaaDoorRun
import Derived.WalkSpells
import Derived.Laws.BitsAllLaws
import Derived.Lib.Hide
import Derived.BigQuiet
import Derived.Laws.Rows
namespace Go.Proofs.YtdhbafmccphelaaDoor
open Go.RowKit
set_option linter.unusedVariables false
set_option maxRecDepth 100000

/-- A word as a value. -/
abbrev rv (r : R) : Value := .int .u32 (r.toNat : Int)
theorem rv_val {a b : R} (h : a = b) : Value.int .u32 (a.toNat : Int) = .int .u32 (b.toNat : Int) := by rw [h]

theorem shr_int (x : R) (n : Nat) : (x.toNat : Int) / 2 ^ n = ((x >>> n).toNat : Int) := by
  rw [BitVec.toNat_ushiftRight, Nat.shiftRight_eq_div_pow]
  norm_cast
theorem shl_int (x : R) (n : Nat) : (x.toNat : Int) * 2 ^ n % 4294967296 = ((x <<< n).toNat : Int) := by
  rw [BitVec.toNat_shiftLeft, Nat.shiftLeft_eq, show (2 : Nat) ^ 32 = 4294967296 from rfl, Int.natCast_emod, Int.natCast_mul, Int.natCast_pow]
  rfl
theorem or_u32 (a b : R) : bits .or .u32 (a.toNat : Int) (b.toNat : Int) = ((a ||| b).toNat : Int) := by
  rw [u32_or_nat _ _ a.isLt b.isLt, BitVec.toNat_or]
theorem and_u32 (a b : R) : bits .and .u32 (a.toNat : Int) (b.toNat : Int) = ((a &&& b).toNat : Int) := by
  rw [u32_and_nat _ _ a.isLt b.isLt, BitVec.toNat_and]
theorem xor_u32 (a b : R) : bits .xor .u32 (a.toNat : Int) (b.toNat : Int) = ((a ^^^ b).toNat : Int) := by
  rw [u32_xor_nat _ _ a.isLt b.isLt, BitVec.toNat_xor]
theorem add_u32 (a b : R) : ((a.toNat : Int) + (b.toNat : Int)) % 4294967296 = ((a + b).toNat : Int) := by
  rw [BitVec.toNat_add, show (2 : Nat) ^ 32 = 4294967296 from rfl, Int.natCast_emod, Int.natCast_add]
  rfl
theorem not_u32 (r : R) : bits .xor .u32 IntKind.u32.max (r.toNat : Int) = ((~~~ r).toNat : Int) := by
  have h2 := xor_u32 (BitVec.allOnes 32) r
  rw [BitVec.allOnes_xor] at h2
  exact h2
theorem not_if (r : R) : bits .xor .u32 (if IntKind.u32.signed = true then -1 else IntKind.u32.max) (r.toNat : Int) = ((~~~ r).toNat : Int) := not_u32 r
theorem xor_ones (r : R) : bits .xor .u32 (r.toNat : Int) 4294967295 = ((~~~ r).toNat : Int) := by
  have h2 := xor_u32 r (BitVec.allOnes 32)
  rw [BitVec.xor_allOnes] at h2
  exact h2
theorem ror_int (x : R) (n : Nat) (h : n ≤ 32) : bits .or .u32 ((x.toNat : Int) / 2 ^ n) ((x.toNat : Int) * 2 ^ (32 - n) % 4294967296) = ((ror x n).toNat : Int) := by
  rw [shr_int, shl_int, or_u32]
  rfl

set_option maxHeartbeats 400000 in
theorem down_any (x : R) (n : Nat) (w : World) (hn : n < 32) :
    Calls Tryd.prog 37 #[rv x, .int .i64 n] w fun e w' => e = .returned (rv (dwn x n)) ∧ ∃ k, w' = w.drewN k := by
  have hx : x.toNat < 4294967296 := x.isLt
  go_enter Tryd.func37, Tryd.ntmps37
  go_wp2
  go_ret
  exact ⟨ret_int (shr_int x n), 0, rfl⟩
set_option maxHeartbeats 400000 in
theorem right_any (x : R) (n : Nat) (w : World) (h0 : 1 ≤ n) (hn : n < 32) :
    Calls Tryd.prog 35 #[rv x, .int .i64 n] w fun e w' => e = .returned (rv (ror x n)) ∧ ∃ k, w' = w.drewN k := by
  have hx : x.toNat < 4294967296 := x.isLt
  go_enter Tryd.func35, Tryd.ntmps35
  go_wp2
  go_region
  go_wp2
  go_ret
  exact ⟨ret_int (ror_int x n (by omega)), 1, rfl⟩
set_option maxHeartbeats 400000 in
theorem refRight_any (x : R) (n : Nat) (w : World) (h0 : 1 ≤ n) (hn : n < 32) :
    Calls Tryd.prog 28 #[rv x, .int .i64 n] w fun e w' => e = .returned (rv (ror x n)) ∧ w = w' := by
  have hx : x.toNat < 4294967296 := x.isLt
  go_enter Tryd.func28, Tryd.ntmps28
  go_wp2
  go_ret
  exact ⟨ret_int (ror_int x n (by omega)), rfl⟩

theorem right_lit (x : R) (L : Int) (w : World) (h : (decide (1 ≤ L) && decide (L < 32)) = true) :
    Calls Tryd.prog 35 #[rv x, .int .i64 L] w fun e w' => e = .returned (rv (ror x L.toNat)) ∧ ∃ k, w' = w.drewN k := by
  simp only [Bool.and_eq_true, decide_eq_true_eq] at h
  obtain ⟨n, rfl⟩ : ∃ n : Nat, L = (n : Int) := ⟨L.toNat, by omega⟩
  exact right_any x n w (by omega) (by omega)
theorem down_lit (x : R) (L : Int) (w : World) (h : (decide (1 ≤ L) && decide (L < 32)) = true) :
    Calls Tryd.prog 37 #[rv x, .int .i64 L] w fun e w' => e = .returned (rv (dwn x L.toNat)) ∧ ∃ k, w' = w.drewN k := by
  simp only [Bool.and_eq_true, decide_eq_true_eq] at h
  obtain ⟨n, rfl⟩ : ∃ n : Nat, L = (n : Int) := ⟨L.toNat, by omega⟩
  exact down_any x n w (by omega)
theorem refRight_lit (x : R) (L : Int) (w : World) (h : (decide (1 ≤ L) && decide (L < 32)) = true) :
    Calls Tryd.prog 28 #[rv x, .int .i64 L] w fun e w' => e = .returned (rv (ror x L.toNat)) ∧ ∃ k, w' = w.drewN k := by
  simp only [Bool.and_eq_true, decide_eq_true_eq] at h
  obtain ⟨n, rfl⟩ : ∃ n : Nat, L = (n : Int) := ⟨L.toNat, by omega⟩
  exact (refRight_any x n w (by omega) (by omega)).mono fun _ _ ⟨he, hw⟩ => ⟨he, 0, hw.symm⟩

theorem or_be (a b c d : Nat) (hb : b < 256) (hc : c < 256) (hd : d < 256) : (((a * 2 ^ 24 ||| b * 2 ^ 16) ||| c * 2 ^ 8) ||| d) = a * 2 ^ 24 + b * 2 ^ 16 + c * 2 ^ 8 + d := by
  have h1 := Nat.two_pow_add_eq_or_of_lt (i := 8) (b := d) (by omega) c
  have h2 := Nat.two_pow_add_eq_or_of_lt (i := 16) (b := 2 ^ 8 * c + d) (by omega) b
  have h3 := Nat.two_pow_add_eq_or_of_lt (i := 24) (b := 2 ^ 16 * b + (2 ^ 8 * c + d)) (by omega) a
  rw [Nat.or_assoc, Nat.or_assoc, Nat.mul_comm a, Nat.mul_comm b, Nat.mul_comm c, ← h1, ← h2, ← h3]
  omega
theorem be4_toNat (x0 x1 x2 x3 : UInt8) : (be4 x0 x1 x2 x3).toNat = x0.toNat * 2 ^ 24 + x1.toNat * 2 ^ 16 + x2.toNat * 2 ^ 8 + x3.toNat := by
  have := x0.toNat_lt; have := x1.toNat_lt; have := x2.toNat_lt; have := x3.toNat_lt
  unfold be4
  rw [BitVec.toNat_ofNat, Nat.mod_eq_of_lt (by omega)]

set_option maxHeartbeats 800000 in
theorem word_any (b o n c : Nat) (x0 x1 x2 x3 : UInt8) (w : World) (hn : 4 ≤ n) (h0 : w.cell? ⟨b, o, none⟩ = some (.int .u8 (x0.toNat : Int))) (h1 : w.cell? ⟨b, o + 1, none⟩ = some (.int .u8 (x1.toNat : Int)))
    (h2 : w.cell? ⟨b, o + 2, none⟩ = some (.int .u8 (x2.toNat : Int))) (h3 : w.cell? ⟨b, o + 3, none⟩ = some (.int .u8 (x3.toNat : Int))) :
    Calls Tryd.prog 36 #[.slice (some ⟨b, o, none⟩) n c] w fun e w' => e = .returned (rv (be4 x0 x1 x2 x3)) ∧ ∃ k, w' = w.drewN k := by
  have g0 := x0.toNat_lt; have g1 := x1.toNat_lt; have g2 := x2.toNat_lt; have g3 := x3.toNat_lt
  have i0 : 0 < n := by omega
  have i1 : 1 < n := by omega
  have i2 : 2 < n := by omega
  have i3 : 3 < n := by omega
  go_enter Tryd.func36, Tryd.ntmps36
  go_wp2_with fail
  go_quiet (fail)
  go_wp2_with fail
  go_ret
  refine ⟨ret_int ?_, nq, rfl⟩
  rw [be4_toNat, ← or_be x0.toNat x1.toNat x2.toNat x3.toNat g1 g2 g3]
  have e0 : (x0.toNat : Int) * 16777216 = ((x0.toNat * 2 ^ 24 : Nat) : Int) := by rw [Int.natCast_mul]; rfl
  have e1 : (x1.toNat : Int) * 65536 = ((x1.toNat * 2 ^ 16 : Nat) : Int) := by rw [Int.natCast_mul]; rfl
  have e2 : (x2.toNat : Int) * 256 = ((x2.toNat * 2 ^ 8 : Nat) : Int) := by rw [Int.natCast_mul]; rfl
  have l0 : x0.toNat * 2 ^ 24 < 4294967296 := Nat.lt_of_lt_of_le (Nat.mul_lt_mul_of_pos_right g0 (by decide)) (by decide)
  have l1 : x1.toNat * 2 ^ 16 < 4294967296 := Nat.lt_of_lt_of_le (Nat.mul_lt_mul_of_pos_right g1 (by decide)) (by decide)
  have l2 : x2.toNat * 2 ^ 8 < 4294967296 := Nat.lt_of_lt_of_le (Nat.mul_lt_mul_of_pos_right g2 (by decide)) (by decide)
  rw [e0, e1, e2, u32_or_nat _ _ l0 l1, u32_or_nat _ _ (Nat.or_lt_two_pow (n := 32) l0 l1) l2, u32_or_nat _ _ (Nat.or_lt_two_pow (n := 32) (Nat.or_lt_two_pow (n := 32) l0 l1) l2) (by omega)]

theorem byt_toNat (n : Nat) : ((byt n).toNat : Int) = (n : Int) % 256 := by
  unfold byt
  rw [UInt8.toNat_ofNat']
  omega
theorem putw_cells (w : World) (t : TypeId) (g o : Nat) (ys : List UInt8) (x : R) (hr : RowAt w t g ys) :
    RowAt ((((w.setCell ⟨g, o, none⟩ (.int .u8 ((x.toNat : Int) / 16777216))).setCell ⟨g, o + 1, none⟩ (.int .u8 ((x.toNat : Int) / 65536 % 256))).setCell ⟨g, o + 2, none⟩ (.int .u8 ((x.toNat : Int) / 256 % 256))).setCell ⟨g, o + 3, none⟩ (.int .u8 ((x.toNat : Int) % 256))) t g (putw ys o x) := by
  have hx : x.toNat < 4294967296 := x.isLt
  have e0 : ((byt (x.toNat / 16777216)).toNat : Int) = (x.toNat : Int) / 16777216 := by rw [byt_toNat]; omega
  have e1 := byt_toNat (x.toNat / 2 ^ 16)
  have e2 := byt_toNat (x.toNat / 2 ^ 8)
  have e3 := byt_toNat x.toNat
  rw [show (2 : Nat) ^ 16 = 65536 from rfl, Int.natCast_ediv] at e1
  rw [show (2 : Nat) ^ 8 = 256 from rfl, Int.natCast_ediv] at e2
  rw [show (65536 : Int) = ((65536 : Nat) : Int) from rfl, show (x.toNat : Int) / 256 = (x.toNat : Int) / ((256 : Nat) : Int) from rfl]
  rw [← e0, ← e1, ← e2, ← e3]
  exact (((hr.set_ o _).set_ (o + 1) _).set_ (o + 2) _).set_ (o + 3) _

set_option maxHeartbeats 800000 in
theorem putWord_any (g o n c : Nat) (t : TypeId) (ys : List UInt8) (x : R) (w : World) (hn : 4 ≤ n) (hr : RowAt w t g ys) (ho : o + 4 ≤ ys.length) :
    Calls Tryd.prog 32 #[.slice (some ⟨g, o, none⟩) n c, rv x] w fun e w' => e = .returned (.tuple #[]) ∧ RowAt w' t g (putw ys o x) ∧ Tw [g] w w' := by
  have hx : x.toNat < 4294967296 := x.isLt
  have c0 := hr.cell o (by omega)
  have c1 := hr.cell (o + 1) (by omega)
  have c2 := hr.cell (o + 2) (by omega)
  have c3 := hr.cell (o + 3) (by omega)
  have f0 := hr.frozen o
  have f1 := hr.frozen (o + 1)
  have f2 := hr.frozen (o + 2)
  have f3 := hr.frozen (o + 3)
  have i0 : 0 < n := by omega
  have i1 : 1 < n := by omega
  have i2 : 2 < n := by omega
  have i3 : 3 < n := by omega
  have HR := Lib.hid (putw_cells w t g o ys x hr)
  clear hr
  go_enter Tryd.func32, Tryd.ntmps32
  go_wp2_with fail
  go_end0
  exact ⟨rfl, HR.out, ((((Tw.setCell _ _ _ (by simp)).trans (Tw.setCell _ _ _ (by simp))).trans (Tw.setCell _ _ _ (by simp))).trans (Tw.setCell _ _ _ (by simp)))⟩
end Go.Proofs.YtdhbafmccphelaaDoor
