/-
  Layer 5 (ring): RingNew, RingNil, walked.
-/
import Derived.Test.YtlfebfgdgjaidaaRgB
import Derived.Test.YtlfebfgdgjaidaaRgS
import Derived.Test.YtlfebfgdgjaidaaRgW
namespace Go.Proofs.Ytlfebfgdgjaidaa
open Go.RowKit
set_option linter.unusedVariables false

theorem wf_i64 {a : Int} (h : (Lit.int .i64 a).wf = true) : -9223372036854775808 ≤ a ∧ a ≤ 9223372036854775807 := by
  simp [Lit.wf, IntKind.min, IntKind.max, IntKind.signed, IntKind.bits] at h
  omega

set_option maxHeartbeats 1600000 in
theorem ringNew_walk (a : Int) (w : World) (hw : (Lit.int .i64 a).wf = true) : Calls Try.prog 8 #[.int .i64 a] w fun e w' => e = .returned (.bool true) ∧ Below w.heap.size w w' := by
  have hwf := wf_i64 hw
  obtain ⟨lo, hi⟩ := hwf
  clear hw
  by_cases h1 : 4000 < a ∧ a < 1048576
  · obtain ⟨h1, h2⟩ := h1
    have d1 : decide ((4000 : Int) < a) = true := decide_eq_true h1
    have d2 : decide (a < 1048576) = true := decide_eq_true h2
    go_enter Try.func8, Try.ntmps8
    go_wp2_with fail
    refine (works_any w).mono ?_
    rintro e w1 ⟨rfl, hb⟩
    go_wp2_with fail
    go_ret
    exact ⟨rfl, hb⟩
  · by_cases h2 : a < 1 ∨ 1048576 < a
    · have HN := Lib.hid (newB_err a w h2)
      have hg : (decide ((4000 : Int) < a) && decide (a < 1048576)) = false := by
        rw [Bool.and_eq_false_iff, decide_eq_false_iff_not, decide_eq_false_iff_not]
        omega
      have hor : (decide (a < 1) || decide (1048576 < a)) = true := by simpa using h2
      rcases h2 with h2 | h2
      all_goals
        go_enter Try.func8, Try.ntmps8
        go_wp2_with fail
        refine HN.out.mono ?_
        rintro e w1 ⟨rfl, rfl⟩
        go_wp2_with fail
        refine (works_any w).mono ?_
        rintro e w1 ⟨rfl, hb⟩
        go_wp2_with fail
        go_ret
        exact ⟨rfl, hb⟩
    · obtain ⟨m, rfl⟩ : ∃ m : Nat, a = m := ⟨a.toNat, by omega⟩
      have hN := newB_any m w (by omega)
      have d1 : decide ((m : Int) < 1) = false := decide_eq_false (by omega)
      have d2 : decide (1048576 < (m : Int)) = false := decide_eq_false (by omega)
      have hm : m ≤ 1048576 := by omega
      have HN := Lib.hid hN
      clear hN
      rcases (show (m : Int) ≤ 4000 ∨ (4000 < (m : Int) ∧ 1048576 ≤ (m : Int)) by omega) with h3 | ⟨h3, h4⟩
      · have d3 : decide ((4000 : Int) < (m : Int)) = false := decide_eq_false (by omega)
        go_enter Try.func8, Try.ntmps8
        go_wp2_with fail
        refine HN.out.mono ?_
        rintro e w1 ⟨rfl, h, hb⟩
        go_wp2_with fail
        refine (lenB_any h).mono ?_
        rintro e w2 ⟨rfl, rfl⟩
        go_wp2_with fail
        refine (roomB_any h (by omega)).mono ?_
        rintro e w2 ⟨rfl, k, rfl⟩
        go_wp2_with fail
        refine (works_any _).mono ?_
        rintro e w2 ⟨rfl, hb2⟩
        go_wp2_with fail
        go_ret
        exact ⟨rfl, below_then (below_drewN hb k) (Nat.le_refl _) hb2⟩
      · have d3 : decide ((4000 : Int) < (m : Int)) = true := decide_eq_true (by omega)
        have d4 : decide ((m : Int) < 1048576) = false := decide_eq_false (by omega)
        go_enter Try.func8, Try.ntmps8
        go_wp2_with fail
        refine HN.out.mono ?_
        rintro e w1 ⟨rfl, h, hb⟩
        go_wp2_with fail
        refine (lenB_any h).mono ?_
        rintro e w2 ⟨rfl, rfl⟩
        go_wp2_with fail
        refine (roomB_any h (by omega)).mono ?_
        rintro e w2 ⟨rfl, k, rfl⟩
        go_wp2_with fail
        refine (works_any _).mono ?_
        rintro e w2 ⟨rfl, hb2⟩
        go_wp2_with fail
        go_ret
        exact ⟨rfl, below_then (below_drewN hb k) (Nat.le_refl _) hb2⟩

set_option maxHeartbeats 1600000 in
theorem ringNil_walk (x : ByteArray) (i : Int) (w : World) (hx : x.size ≤ maxLen) (hw : (Lit.int .i64 i).wf = true) : Calls Try.prog 9 #[.string x, .int .i64 i] w fun e w' => e = .returned (.bool true) ∧ Below w.heap.size w w' := by
  go_enter Try.func9, Try.ntmps9
  go_wp2_with fail
  refine (clearS_nil w).mono ?_
  rintro e w1 ⟨rfl, rfl⟩
  go_wp2_with fail
  refine (popS_nil w).mono ?_
  rintro e w1 ⟨rfl, rfl⟩
  go_wp2_with fail
  refine (atS_nil i w).mono ?_
  rintro e w1 ⟨rfl, rfl⟩
  go_wp2_with fail
  refine (pushS_nil x w).mono ?_
  rintro e w1 ⟨rfl, rfl⟩
  go_wp2_with fail
  refine (lenS_nil w).mono ?_
  rintro e w1 ⟨rfl, rfl⟩
  go_wp2_with fail
  refine (roomS_nil w).mono ?_
  rintro e w1 ⟨rfl, rfl⟩
  go_wp2_with fail
  refine (works_any w).mono ?_
  rintro e w1 ⟨rfl, hb⟩
  go_wp2_with fail
  go_ret
  exact ⟨rfl, hb⟩
end Go.Proofs.Ytlfebfgdgjaidaa
