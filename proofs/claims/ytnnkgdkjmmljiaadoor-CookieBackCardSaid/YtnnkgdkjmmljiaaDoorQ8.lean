/-
  The small functions of package sha and of its reference: rotations, shifts, words of bytes.
  '[]byte("..")' of a constant, in any world: the row is marked; its cells, and all others, read as before. Rows that a region lays in an order of its own.
-/
import Derived.Test.YtnnkgdkjmmljiaaDoorQ4
import Derived.Test.YtnnkgdkjmmljiaaDoorRows
import Derived.Test.YtnnkgdkjmmljiaaDoorQ7
import Derived.WalkSpells
import Derived.Laws.BitsAllLaws
import Derived.Lib.Hide
import Derived.BigQuiet
import Derived.Laws.Rows
import Derived.Test.YtnnkgdkjmmljiaaDoorQ1
namespace Go.Proofs.YtnnkgdkjmmljiaaDoor
open Go.RowKit
set_option linter.unusedVariables false
set_option maxRecDepth 100000

/-- A word as a value. -/
abbrev rv (r : R) : Value := .int .u32 (r.toNat : Int)
theorem rv_val {a b : R} (h : a = b) : Value.int .u32 (a.toNat : Int) = .int .u32 (b.toNat : Int) := by rw [h]

theorem shr_int (x : R) (n : Nat) : (x.toNat : Int) / 2 ^ n = ((x >>> n).toNat : Int) := by
  rw [BitVec.toNat_ushiftRight, Nat.shiftRight_eq_div_pow]
  norm_cast
theorem shl_int (x : R) (n : Nat) : (x.toNat : Int) * 2 ^ n % 4294967296 = ((x <<< n).toNat : Int) := by
  rw [BitVec.toNat_shiftLeft, Nat.shiftLeft_eq, show (2 : Nat) ^ 32 = 4294967296 from rfl, Int.natCast_emod, Int.natCast_mul, Int.natCast_pow]
  rfl
theorem or_u32 (a b : R) : bits .or .u32 (a.toNat : Int) (b.toNat : Int) = ((a ||| b).toNat : Int) := by
  rw [u32_or_nat _ _ a.isLt b.isLt, BitVec.toNat_or]
theorem and_u32 (a b : R) : bits .and .u32 (a.toNat : Int) (b.toNat : Int) = ((a &&& b).toNat : Int) := by
  rw [u32_and_nat _ _ a.isLt b.isLt, BitVec.toNat_and]
theorem xor_u32 (a b : R) : bits .xor .u32 (a.toNat : Int) (b.toNat : Int) = ((a ^^^ b).toNat : Int) := by
  rw [u32_xor_nat _ _ a.isLt b.isLt, BitVec.toNat_xor]
theorem add_u32 (a b : R) : ((a.toNat : Int) + (b.toNat : Int)) % 4294967296 = ((a + b).toNat : Int) := by
  rw [BitVec.toNat_add, show (2 : Nat) ^ 32 = 4294967296 from rfl, Int.natCast_emod, Int.natCast_add]
  rfl
theorem not_u32 (r : R) : bits .xor .u32 IntKind.u32.max (r.toNat : Int) = ((~~~ r).toNat : Int) := by
  have h2 := xor_u32 (BitVec.allOnes 32) r
  rw [BitVec.allOnes_xor] at h2
  exact h2
theorem not_if (r : R) : bits .xor .u32 (if IntKind.u32.signed = true then -1 else IntKind.u32.max) (r.toNat : Int) = ((~~~ r).toNat : Int) := not_u32 r
theorem xor_ones (r : R) : bits .xor .u32 (r.toNat : Int) 4294967295 = ((~~~ r).toNat : Int) := by
  have h2 := xor_u32 r (BitVec.allOnes 32)
  rw [BitVec.xor_allOnes] at h2
  exact h2
theorem ror_int (x : R) (n : Nat) (h : n ≤ 32) : bits .or .u32 ((x.toNat : Int) / 2 ^ n) ((x.toNat : Int) * 2 ^ (32 - n) % 4294967296) = ((ror x n).toNat : Int) := by
  rw [shr_int, shl_int, or_u32]
  rfl

set_option maxHeartbeats 400000 in
theorem down_any (x : R) (n : Nat) (w : World) (hn : n < 32) :
    Calls Tryd.prog 62 #[rv x, .int .i64 n] w fun e w' => e = .returned (rv (dwn x n)) ∧ ∃ k, w' = w.drewN k := by
  have hx : x.toNat < 4294967296 := x.isLt
  go_enter Tryd.func62, Tryd.ntmps62
  go_wp2
  go_ret
  exact ⟨ret_int (shr_int x n), 0, rfl⟩
set_option maxHeartbeats 400000 in
theorem right_any (x : R) (n : Nat) (w : World) (h0 : 1 ≤ n) (hn : n < 32) :
    Calls Tryd.prog 60 #[rv x, .int .i64 n] w fun e w' => e = .returned (rv (ror x n)) ∧ ∃ k, w' = w.drewN k := by
  have hx : x.toNat < 4294967296 := x.isLt
  go_enter Tryd.func60, Tryd.ntmps60
  go_wp2
  go_region
  go_wp2
  go_ret
  exact ⟨ret_int (ror_int x n (by omega)), 1, rfl⟩
set_option maxHeartbeats 400000 in
theorem refRight_any (x : R) (n : Nat) (w : World) (h0 : 1 ≤ n) (hn : n < 32) :
    Calls Tryd.prog 51 #[rv x, .int .i64 n] w fun e w' => e = .returned (rv (ror x n)) ∧ w = w' := by
  have hx : x.toNat < 4294967296 := x.isLt
  go_enter Tryd.func51, Tryd.ntmps51
  go_wp2
  go_ret
  exact ⟨ret_int (ror_int x n (by omega)), rfl⟩

theorem right_lit (x : R) (L : Int) (w : World) (h : (decide (1 ≤ L) && decide (L < 32)) = true) :
    Calls Tryd.prog 60 #[rv x, .int .i64 L] w fun e w' => e = .returned (rv (ror x L.toNat)) ∧ ∃ k, w' = w.drewN k := by
  simp only [Bool.and_eq_true, decide_eq_true_eq] at h
  obtain ⟨n, rfl⟩ : ∃ n : Nat, L = (n : Int) := ⟨L.toNat, by omega⟩
  exact right_any x n w (by omega) (by omega)
theorem down_lit (x : R) (L : Int) (w : World) (h : (decide (1 ≤ L) && decide (L < 32)) = true) :
    Calls Tryd.prog 62 #[rv x, .int .i64 L] w fun e w' => e = .returned (rv (dwn x L.toNat)) ∧ ∃ k, w' = w.drewN k := by
  simp only [Bool.and_eq_true, decide_eq_true_eq] at h
  obtain ⟨n, rfl⟩ : ∃ n : Nat, L = (n : Int) := ⟨L.toNat, by omega⟩
  exact down_any x n w (by omega)
theorem refRight_lit (x : R) (L : Int) (w : World) (h : (decide (1 ≤ L) && decide (L < 32)) = true) :
    Calls Tryd.prog 51 #[rv x, .int .i64 L] w fun e w' => e = .returned (rv (ror x L.toNat)) ∧ ∃ k, w' = w.drewN k := by
  simp only [Bool.and_eq_true, decide_eq_true_eq] at h
  obtain ⟨n, rfl⟩ : ∃ n : Nat, L = (n : Int) := ⟨L.toNat, by omega⟩
  exact (refRight_any x n w (by omega) (by omega)).mono fun _ _ ⟨he, hw⟩ => ⟨he, 0, hw.symm⟩

theorem or_be (a b c d : Nat) (hb : b < 256) (hc : c < 256) (hd : d < 256) : (((a * 2 ^ 24 ||| b * 2 ^ 16) ||| c * 2 ^ 8) ||| d) = a * 2 ^ 24 + b * 2 ^ 16 + c * 2 ^ 8 + d := by
  have h1 := Nat.two_pow_add_eq_or_of_lt (i := 8) (b := d) (by omega) c
  have h2 := Nat.two_pow_add_eq_or_of_lt (i := 16) (b := 2 ^ 8 * c + d) (by omega) b
  have h3 := Nat.two_pow_add_eq_or_of_lt (i := 24) (b := 2 ^ 16 * b + (2 ^ 8 * c + d)) (by omega) a
  rw [Nat.or_assoc, Nat.or_assoc, Nat.mul_comm a, Nat.mul_comm b, Nat.mul_comm c, ← h1, ← h2, ← h3]
  omega
theorem be4_toNat (x0 x1 x2 x3 : UInt8) : (be4 x0 x1 x2 x3).toNat = x0.toNat * 2 ^ 24 + x1.toNat * 2 ^ 16 + x2.toNat * 2 ^ 8 + x3.toNat := by
  have := x0.toNat_lt; have := x1.toNat_lt; have := x2.toNat_lt; have := x3.toNat_lt
  unfold be4
  rw [BitVec.toNat_ofNat, Nat.mod_eq_of_lt (by omega)]

set_option maxHeartbeats 800000 in
theorem word_any (b o n c : Nat) (x0 x1 x2 x3 : UInt8) (w : World) (hn : 4 ≤ n) (h0 : w.cell? ⟨b, o, none⟩ = some (.int .u8 (x0.toNat : Int))) (h1 : w.cell? ⟨b, o + 1, none⟩ = some (.int .u8 (x1.toNat : Int)))
    (h2 : w.cell? ⟨b, o + 2, none⟩ = some (.int .u8 (x2.toNat : Int))) (h3 : w.cell? ⟨b, o + 3, none⟩ = some (.int .u8 (x3.toNat : Int))) :
    Calls Tryd.prog 61 #[.slice (some ⟨b, o, none⟩) n c] w fun e w' => e = .returned (rv (be4 x0 x1 x2 x3)) ∧ ∃ k, w' = w.drewN k := by
  have g0 := x0.toNat_lt; have g1 := x1.toNat_lt; have g2 := x2.toNat_lt; have g3 := x3.toNat_lt
  have i0 : 0 < n := by omega
  have i1 : 1 < n := by omega
  have i2 : 2 < n := by omega
  have i3 : 3 < n := by omega
  go_enter Tryd.func61, Tryd.ntmps61
  go_wp2_with fail
  go_quiet (fail)
  go_wp2_with fail
  go_ret
  refine ⟨ret_int ?_, nq, rfl⟩
  rw [be4_toNat, ← or_be x0.toNat x1.toNat x2.toNat x3.toNat g1 g2 g3]
  have e0 : (x0.toNat : Int) * 16777216 = ((x0.toNat * 2 ^ 24 : Nat) : Int) := by rw [Int.natCast_mul]; rfl
  have e1 : (x1.toNat : Int) * 65536 = ((x1.toNat * 2 ^ 16 : Nat) : Int) := by rw [Int.natCast_mul]; rfl
  have e2 : (x2.toNat : Int) * 256 = ((x2.toNat * 2 ^ 8 : Nat) : Int) := by rw [Int.natCast_mul]; rfl
  have l0 : x0.toNat * 2 ^ 24 < 4294967296 := Nat.lt_of_lt_of_le (Nat.mul_lt_mul_of_pos_right g0 (by decide)) (by decide)
  have l1 : x1.toNat * 2 ^ 16 < 4294967296 := Nat.lt_of_lt_of_le (Nat.mul_lt_mul_of_pos_right g1 (by decide)) (by decide)
  have l2 : x2.toNat * 2 ^ 8 < 4294967296 := Nat.lt_of_lt_of_le (Nat.mul_lt_mul_of_pos_right g2 (by decide)) (by decide)
  rw [e0, e1, e2, u32_or_nat _ _ l0 l1, u32_or_nat _ _ (Nat.or_lt_two_pow (n := 32) l0 l1) l2, u32_or_nat _ _ (Nat.or_lt_two_pow (n := 32) (Nat.or_lt_two_pow (n := 32) l0 l1) l2) (by omega)]

theorem byt_toNat (n : Nat) : ((byt n).toNat : Int) = (n : Int) % 256 := by
  unfold byt
  rw [UInt8.toNat_ofNat']
  omega
theorem putw_cells (w : World) (t : TypeId) (g o : Nat) (ys : List UInt8) (x : R) (hr : RowAt w t g ys) :
    RowAt ((((w.setCell ⟨g, o, none⟩ (.int .u8 ((x.toNat : Int) / 16777216))).setCell ⟨g, o + 1, none⟩ (.int .u8 ((x.toNat : Int) / 65536 % 256))).setCell ⟨g, o + 2, none⟩ (.int .u8 ((x.toNat : Int) / 256 % 256))).setCell ⟨g, o + 3, none⟩ (.int .u8 ((x.toNat : Int) % 256))) t g (putw ys o x) := by
  have hx : x.toNat < 4294967296 := x.isLt
  have e0 : ((byt (x.toNat / 16777216)).toNat : Int) = (x.toNat : Int) / 16777216 := by rw [byt_toNat]; omega
  have e1 := byt_toNat (x.toNat / 2 ^ 16)
  have e2 := byt_toNat (x.toNat / 2 ^ 8)
  have e3 := byt_toNat x.toNat
  rw [show (2 : Nat) ^ 16 = 65536 from rfl, Int.natCast_ediv] at e1
  rw [show (2 : Nat) ^ 8 = 256 from rfl, Int.natCast_ediv] at e2
  rw [show (65536 : Int) = ((65536 : Nat) : Int) from rfl, show (x.toNat : Int) / 256 = (x.toNat : Int) / ((256 : Nat) : Int) from rfl]
  rw [← e0, ← e1, ← e2, ← e3]
  exact (((hr.set_ o _).set_ (o + 1) _).set_ (o + 2) _).set_ (o + 3) _

set_option maxHeartbeats 800000 in
theorem putWord_any (g o n c : Nat) (t : TypeId) (ys : List UInt8) (x : R) (w : World) (hn : 4 ≤ n) (hr : RowAt w t g ys) (ho : o + 4 ≤ ys.length) :
    Calls Tryd.prog 57 #[.slice (some ⟨g, o, none⟩) n c, rv x] w fun e w' => e = .returned (.tuple #[]) ∧ RowAt w' t g (putw ys o x) ∧ Tw [g] w w' := by
  have hx : x.toNat < 4294967296 := x.isLt
  have c0 := hr.cell o (by omega)
  have c1 := hr.cell (o + 1) (by omega)
  have c2 := hr.cell (o + 2) (by omega)
  have c3 := hr.cell (o + 3) (by omega)
  have f0 := hr.frozen o
  have f1 := hr.frozen (o + 1)
  have f2 := hr.frozen (o + 2)
  have f3 := hr.frozen (o + 3)
  have i0 : 0 < n := by omega
  have i1 : 1 < n := by omega
  have i2 : 2 < n := by omega
  have i3 : 3 < n := by omega
  have HR := Lib.hid (putw_cells w t g o ys x hr)
  clear hr
  go_enter Tryd.func57, Tryd.ntmps57
  go_wp2_with fail
  go_end0
  exact ⟨rfl, HR.out, ((((Tw.setCell _ _ _ (by simp)).trans (Tw.setCell _ _ _ (by simp))).trans (Tw.setCell _ _ _ (by simp))).trans (Tw.setCell _ _ _ (by simp)))⟩
end Go.Proofs.YtnnkgdkjmmljiaaDoor

namespace Go.Proofs.YtnnkgdkjmmljiaaDoor
open Go.RowKit
set_option linter.unusedVariables false

/-- The world with block g's mark laid. A definition of its own, so that the walk leaves it. -/
def marked (w : World) (g : Nat) : World := match w.shape? g with
  | some (_, k) => w.freeze ⟨g, k, none⟩ 1
  | none => w

theorem run_mark {P : Program} {t e : TypeId} (ht : P.underlying t = some (.slice e)) (he : P.underlying e = some (.int .u8)) (w : World) (g n c : Nat) :
    (convert t t (.slice (some ⟨g, 0, none⟩) n c)).run P w = .ok (.slice (some ⟨g, 0, none⟩) n c) (marked w g) := by
  unfold marked
  cases h : w.shape? g with
  | none => simp [convert, run_underlying ht, run_underlying he, markStringish, h]
  | some x => simp [convert, run_underlying ht, run_underlying he, markStringish, h]

theorem heap_freeze (w : World) (g k i : Nat) : (w.freeze ⟨g, k, none⟩ 1).heap.size = w.heap.size ∧ (i ≠ g → (w.freeze ⟨g, k, none⟩ 1).heap[i]? = w.heap[i]?) ∧ ∀ j, (w.freeze ⟨g, k, none⟩ 1).cell? ⟨i, j, none⟩ = w.cell? ⟨i, j, none⟩ := by
  unfold World.freeze
  rw [if_neg (by decide)]
  refine ⟨by simp, fun h => by simp [Array.getElem?_modify, Ne.symm h], fun j => ?_⟩
  simp only [World.cell?, Array.getElem?_modify]
  by_cases h : g = i
  · subst h
    simp
    cases w.heap[g]? with
    | none => rfl
    | some o => cases o <;> rfl
  · simp [h]
theorem size_marked (w : World) (g : Nat) : (marked w g).heap.size = w.heap.size := by
  unfold marked
  split
  · exact (heap_freeze w g _ 0).1
  · rfl
theorem cell_marked (w : World) (g i j : Nat) : (marked w g).cell? ⟨i, j, none⟩ = w.cell? ⟨i, j, none⟩ := by
  unfold marked
  split
  · exact (heap_freeze w g _ i).2.2 j
  · rfl
theorem below_marked {B : Nat} {a w : World} (h : Below B a w) (g : Nat) (hg : B ≤ g) : Below B a (marked w g) := by
  unfold marked
  split
  · refine h.trans ⟨?_, ?_, ?_, Nat.le_of_eq (heap_freeze w g _ 0).1.symm, fun k hk => (heap_freeze w g _ k).2.1 (by omega)⟩
    all_goals (unfold World.freeze; rw [if_neg (by decide)])
  · exact h

/-- Block g begins with these bytes. -/
def Has (w : World) (g : Nat) (ys : List UInt8) : Prop := ∀ j x, ys[j]? = some x → w.cell? ⟨g, j, none⟩ = some (.int .u8 (x.toNat : Int))
section
variable {w : World} {g : Nat} {ys : List UInt8}
theorem Has.mk_ (w : World) (t : TypeId) (cs : Array Value) (ys : List UInt8) (fr : Nat × Nat) (g : Nat) (hg : g = w.heap.size) (hc : cs = row8 ys) : Has (w.alloc (.cells cs t fr)) g ys := by
  subst hg hc
  intro j x hx
  rw [World.cell?_alloc_mark, get_row8, hx]
  rfl
theorem Has.alloc (h : Has w g ys) (o : Obj) : Has (w.alloc o) g ys := by
  intro j x hx
  have := h j x hx
  rw [World.cell?_alloc_lt w o _ (World.block_lt_of_cell? w _ this)]
  exact this
theorem Has.drew (h : Has w g ys) : Has w.drew g ys := h
theorem Has.marked (h : Has w g ys) (i : Nat) : Has (marked w i) g ys := fun j x hx => (cell_marked w i g j).trans (h j x hx)
theorem Has.rd (h : Has w g ys) : Rd w (g + 1) (some ⟨g, 0, none⟩) ys := .inr ⟨g, 0, rfl, Nat.lt_succ_self _, fun j x hx => by rw [Nat.zero_add]; exact h j x hx⟩
end
end Go.Proofs.YtnnkgdkjmmljiaaDoor
