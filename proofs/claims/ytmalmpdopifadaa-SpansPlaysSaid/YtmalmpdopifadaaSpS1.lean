/-
  Layer 4 (spans): contracts of the reference: shift.
-/
import Derived.Test.YtmalmpdopifadaaSpR
import Derived.BigRegion
namespace Go.Proofs.Ytmalmpdopifadaa
open Go.RowKit
set_option linter.unusedVariables false

/-- Moved as far as k. -/
def midF (f : Nat → Bool) (n k : Nat) : Nat → Bool := fun j => if (decide (1 ≤ j) && decide (j < k)) = true then f (j + n) else f j
theorem mid_at {f : Nat → Bool} {n k j : Nat} (h : k ≤ j) : midF f n k j = f j := by
  unfold midF
  rw [decide_eq_false (show ¬ j < k by omega), Bool.and_false]
  rfl
theorem mid_here {f : Nat → Bool} {n k : Nat} (h : 1 ≤ k) : midF f n (k + 1) k = f (k + n) := by
  unfold midF
  rw [decide_eq_true h, decide_eq_true (show k < k + 1 by omega)]
  rfl
theorem mid_there {f : Nat → Bool} {n k j : Nat} (h : j ≠ k) : midF f n (k + 1) j = midF f n k j := by
  unfold midF
  rw [show decide (j < k + 1) = decide (j < k) from by rw [decide_eq_decide]; omega]
theorem mid_end {f : Nat → Bool} (hw : Win f) (n : Nat) (B : Int) : refCells B (midF f n 4097) = refCells B (shF f n) := by
  refine ref_ext (ref_size _ _) (ref_base _ _) fun i hi => ?_
  rw [ref_at _ _ _ hi]
  congr 2
  unfold midF shF
  by_cases h : 1 ≤ i
  · rw [decide_eq_true h, decide_eq_true (show i < 4097 by omega)]; rfl
  · obtain rfl : i = 0 := by omega
    simp [win_zero hw]
theorem mid_start {f : Nat → Bool} (n : Nat) (B : Int) : refCells B f = refCells B (midF f n 1) := by
  refine ref_ext (ref_size _ _) (ref_base _ _) fun i hi => ?_
  rw [ref_at _ _ _ hi]
  congr 2
  unfold midF
  rw [if_neg (by simp; omega)]

section
variable {w w' : World} {q : Nat} {B : Int} {f : Nat → Bool} {S : List Nat}

set_option maxRecDepth 100000 in
set_option maxHeartbeats 800000 in
theorem refShift_any (n : Nat) (h : RefS w q B f) (hn : n ≤ 4096) :
    Calls Try.prog 33 #[.pointer (some ⟨q, 0, none⟩), .int .i64 n] w fun e w' => e = .returned (.tuple #[]) ∧ RefS w' q ((B + n) % 4294967296) (shF f n) ∧ Tw [q] w w' := by
  have hw := h.win
  have hB := h.base
  have h0 := h.blk
  rw [mid_start n B] at h0
  clear h
  go_enter Try.func33, Try.ntmps33
  go_wp2_with fail
  go_loopw [4] (fun i wr => ∃ k : Nat, 1 ≤ k ∧ k ≤ 4097 ∧ i = .int .i64 k ∧ Blk wr q 30 (refCells B (midF f n k)) ∧ Tw [q] w wr) (fun i _ => 4097 - (intOf i).toNat)
  case atStart => exact ⟨1, by omega, by omega, rfl, h0, Tw.refl _ _⟩
  case round =>
    obtain ⟨k, hk1, hk2, rfl, hb, htw⟩ := hrel
    by_cases hlt : k ≤ 4096
    · have ck := (hb.cell (1 + k)).trans (ref_at _ _ k hlt)
      have fk := hb.frozen (1 + k)
      rw [mid_at (Nat.le_refl _)] at ck
      by_cases hm : k + n ≤ 4096
      · have cm := (hb.cell (1 + (k + n))).trans (ref_at _ _ (k + n) hm)
        rw [mid_at (by omega)] at cm
        have HSET : Hid (Blk (wr.drew.setCell ⟨q, 1 + k, none⟩ (.bool (f (k + n)))) q 30 (refCells B (midF f n (k + 1)))) := Lib.hid (ref_set (w := wr.drew) (f := midF f n k) hb k (f (k + n)) (mid_here hk1) (fun j _ hj => mid_there hj) hlt)
        obtain ⟨m, hmm⟩ : ∃ m, m = k + n := ⟨_, rfl⟩
        rw [← hmm] at cm HSET hm
        have hs : IntKind.i64.wrap ((k : Int) + (n : Int)) = (m : Int) := by rw [IntWalk.i64_in _ (by omega)]; omega
        have hg : decide ((m : Int) ≤ 4096) = true := decide_eq_true (by omega)
        have hm7 : (m : Int) < 4097 := by omega
        have hk7 : (k : Int) < 4097 := by omega
        clear hmm
        go_wp2_with fail
        go_still_tail 19, (by kernel_rfl)
        clear hs hg cm
        go_wp2_with fail
        go_roundw
        case rel => exact ⟨k + 1, by omega, by omega, by go_num, HSET.out, (htw.drewN 1).trans (Tw.setCell _ _ _ (by simp))⟩
        case measure => simp [intOf]; omega
      · have HSET : Hid (Blk (wr.drew.setCell ⟨q, 1 + k, none⟩ (.bool false)) q 30 (refCells B (midF f n (k + 1)))) := Lib.hid (ref_set (w := wr.drew) (f := midF f n k) hb k false ((mid_here hk1).trans (win_far hw (by omega))) (fun j _ hj => mid_there hj) hlt)
        obtain ⟨m, hmm⟩ : ∃ m, m = k + n := ⟨_, rfl⟩
        have hs : IntKind.i64.wrap ((k : Int) + (n : Int)) = (m : Int) := by rw [IntWalk.i64_in _ (by omega)]; omega
        have hg : decide ((m : Int) ≤ 4096) = false := decide_eq_false (by omega)
        have hk7 : (k : Int) < 4097 := by omega
        have hk0 : (0 : Int) ≤ (k : Int) := by omega
        clear hmm hm
        go_wp2_with fail
        go_region
        clear hs hg
        go_wp2_with fail
        go_roundw
        case rel => exact ⟨k + 1, by omega, by omega, by go_num, HSET.out, (htw.drewN 1).trans (Tw.setCell _ _ _ (by simp))⟩
        case measure => simp [intOf]; omega
    · obtain rfl : k = 4097 := by omega
      rw [mid_end hw n B] at hb
      have c0 := (hb.cell 0).trans (ref_base _ _)
      have f0 := hb.frozen 0
      have HSET := Lib.hid (ref_rebase hb ((B + n) % 4294967296))
      clear hb h0
      go_wp2_with fail
      go_end0
      exact ⟨rfl, ⟨HSET.out, win_sh hw n, by omega⟩, htw.trans (Tw.setCell _ _ _ (by simp))⟩

end
end Go.Proofs.Ytmalmpdopifadaa
