/-
  Layer 5 (ring): works; RingNew.
-/
import Derived.Test.YtlfebfgdgjaidaaRgI
namespace Go.Proofs.Ytlfebfgdgjaidaa
open Go.RowKit
set_option linter.unusedVariables false

set_option maxHeartbeats 1600000 in
theorem works_any (w : World) : Calls Try.prog 10 #[] w fun e w' => e = .returned (.bool true) ∧ Below w.heap.size w w' := by
  go_enter Try.func10, Try.ntmps10
  go_wp2_with fail
  refine (newI_any 2 w (by omega)).mono ?_
  rintro e w1 ⟨rfl, h, hb⟩
  obtain ⟨B, hB⟩ : ∃ B, B = w.heap.size := ⟨_, rfl⟩
  rw [← hB] at h hb ⊢
  have hBw : B ≤ w.heap.size := by omega
  have HB := Lib.hid hB
  clear hB
  go_wp2_with fail
  refine (pushI_room 7 h (by simp)).mono ?_
  rintro e w2 ⟨rfl, A2, m2, n2, f2, ys2, h2, hm2, ht2⟩
  have hb2 := tw_below hb ht2 (by simp) hBw
  have hm2' : B ≤ m2 := by rcases hm2 with rfl | hm2; exact Nat.le_succ _; exact Nat.le_trans (Nat.le_trans hBw hb.size) hm2
  clear h hb ht2 hm2
  go_wp2_with fail
  refine (pushI_room 8 h2 (by simp)).mono ?_
  rintro e w3 ⟨rfl, A3, m3, n3, f3, ys3, h3, hm3, ht3⟩
  have hb3 := tw_below hb2 ht3 (by simp; omega) hBw
  have hm3' : B ≤ m3 := by rcases hm3 with rfl | hm3; exact hm2'; exact Nat.le_trans (Nat.le_trans hBw hb2.size) hm3
  clear h2 hb2 ht3 hm3 hm2'
  go_wp2_with fail
  refine (pushI_full 9 h3 (by simp)).mono ?_
  rintro e w4 ⟨rfl, rfl⟩
  go_wp2_with fail
  refine (popI_some (x := 7) (q := [8]) h3).mono ?_
  rintro e w4 ⟨rfl, f4, ys4, h4, ht4⟩
  have hb4 := tw_below hb3 ht4 (by simp; omega) hBw
  clear h3 hb3 ht4
  go_wp2_with fail
  refine (atI_any 0 h4 (by simp)).mono ?_
  rintro e w5 ⟨rfl, k, rfl⟩
  have h5 := h4.drewN k
  have hb5 := below_drewN hb4 k
  clear h4 hb4
  generalize w4.drewN k = w5 at h5 hb5 ⊢
  go_wp2_with fail
  refine (lenI_any h5).mono ?_
  rintro e w6 ⟨rfl, rfl⟩
  go_wp2_with fail
  refine (roomI_any h5 (by simp)).mono ?_
  rintro e w6 ⟨rfl, k, rfl⟩
  go_wp2_with fail
  go_ret
  exact ⟨by simp, by rw [← HB.out]; exact below_drewN hb5 k⟩
end Go.Proofs.Ytlfebfgdgjaidaa
