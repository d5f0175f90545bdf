/-
  Layer 4 (spans): SpansFew, SpansOrder, walked.
-/
import Derived.Test.YtmalmpdopifadaaSpL3
namespace Go.Proofs.Ytmalmpdopifadaa
open Go.RowKit
set_option linter.unusedVariables false

theorem runs_len (f : Nat → Bool) (h0 : f 0 = false) (e : Nat) : (runsTo f e).length ≤ e := by
  induction e with
  | zero => exact Nat.le_refl _
  | succ e ih =>
    rw [runs_succ]
    split
    · split
      · rename_i _ he
        rw [length_ext (runs_ne h0 e he)]; omega
      · rw [List.length_append]; simp; omega
    · omega
theorem gaps_all {f : Nat → Bool} (hw : Win f) : gapsF f 4096 = runsTo f 4096 := by
  unfold gapsF
  exact List.take_of_length_le (runs_len f (win_zero hw) 4096)

set_option maxHeartbeats 1600000 in
theorem spansFew_big (base most : Int) (A : Option Addr) (n c : Nat) (w : World) (h : 200 < n) (hm : n ≤ maxLen) :
    Calls Try.prog 8 #[.int .u32 base, .slice A n c, .int .i64 most] w fun e w' => e = .returned (.bool true) ∧ Below w.heap.size w w' := by
  unfold maxLen at hm
  go_enter Try.func8, Try.ntmps8
  go_wp2_with fail
  refine (works_any w).mono ?_
  rintro e w1 ⟨rfl, hb1⟩
  go_wp2_with fail
  go_ret
  exact ⟨rfl, hb1⟩

set_option maxHeartbeats 1600000 in
theorem spansFew_small (base most : Int) (A : Option Addr) (n c : Nat) (xs : List Int) (w : World) (hn : xs.length = n) (h : n ≤ 200) (hr : Ri .u32 w w.heap.size A xs) (hxs : ∀ x ∈ xs, 0 ≤ x ∧ x < 4294967296) (hB : 0 ≤ base ∧ base < 4294967296) (hmo : -9223372036854775808 ≤ most ∧ most ≤ 9223372036854775807) :
    Calls Try.prog 8 #[.int .u32 base, .slice A n c, .int .i64 most] w fun e w' => e = .returned (.bool true) ∧ Below w.heap.size w w' := by
  have HN := Lib.hid hn
  have HX := Lib.hid hxs
  clear hn hxs
  go_enter Try.func8, Try.ntmps8
  go_wp2_with fail
  refine (filled_any base A n c xs w HN.out (by omega) hr HX.out hB).mono ?_
  rintro e w1 ⟨rfl, hset1, hb1⟩
  obtain ⟨f, hf⟩ : ∃ f, f = inB xs := ⟨_, rfl⟩
  rw [← hf] at hset1
  have hw : Win f := hset1.win
  clear hf
  go_wp2_with fail
  refine (gaps_any 4096 hset1 (by omega)).mono ?_
  rintro e w2 ⟨v, rfl, hog2, hb2⟩
  rw [gaps_all hw] at hog2
  obtain ⟨A2, c2, rfl, hlc2, hcm2, hrg2⟩ := hog2.form
  obtain ⟨l, hl⟩ : ∃ l, l = (runsTo f 4096).length := ⟨_, rfl⟩
  have hl4 := runs_len f (win_zero hw) 4096
  rw [← hl] at hlc2 hl4 ⊢
  have HL := Lib.hid hl
  have hb2' := below_then hb1 (Nat.le_refl _) hb2
  have hset2 := hset1.below hb2
  clear hl hog2 hb1 hset1 hb2
  go_wp2_with fail
  refine (gaps_any most hset2 hmo).mono ?_
  rintro e w3 ⟨v, rfl, hog3, hb3⟩
  obtain ⟨A3, c3, rfl, hlc3, hcm3, hrg3⟩ := hog3.form
  have hrg2' := hrg2.tw (Tw.of_below hb3 []) (by simp) (Nat.le_refl _)
  have hb3' := below_then hb2' (Nat.le_refl _) hb3
  clear hog3 hset2 hb2' hrg2 hb3
  have hk : ∃ k : Nat, k ≤ l ∧ max 0 (min most (l : Int)) = (k : Int) ∧ (gapsF f most).length = k ∧ gapsF f most = (runsTo f 4096).take k := by
    refine ⟨(gapsF f most).length, ?_, ?_, rfl, ?_⟩
    · unfold gapsF; rw [List.length_take, HL.out]; omega
    · unfold gapsF; rw [List.length_take, HL.out]; omega
    · unfold gapsF; rw [List.length_take, List.take_eq_take_iff]; omega
  obtain ⟨k, hkl, hk1, hk2, hk3⟩ := hk
  rw [hk2] at hlc3 ⊢
  rw [hk3] at hrg3
  have H1 := Lib.hid hk1
  have H2 := Lib.hid hk2
  have H3 := Lib.hid hk3
  clear hk1 hk2 hk3
  unfold maxLen at hcm2 hcm3
  have hcase : (most < 0 ∧ k = 0) ∨ (0 < l ∧ most = 0 ∧ k = 0) ∨ (l = 0 ∧ most = 0 ∧ k = 0) ∨ (0 < most ∧ l = 0 ∧ k = 0) ∨ (0 < k ∧ most < (l : Int) ∧ most = (k : Int)) ∨ (0 < k ∧ most = (k : Int) ∧ l = k) ∨ (0 < k ∧ (k : Int) < most ∧ l = k) := by
    have := H1.out
    omega
  rcases hcase with ⟨hc1, rfl⟩ | ⟨hc1, rfl, rfl⟩ | ⟨rfl, rfl, rfl⟩ | ⟨hc1, rfl, rfl⟩ | ⟨hc0, hc1, rfl⟩ | ⟨hc0, rfl, rfl⟩ | ⟨hc0, hc1, rfl⟩
  all_goals
    go_wp2_with fail
    refine (same_any A3 A2 _ c3 c2 _ _ _ _ _ w3 (by rw [← H3.out]; exact H2.out) (by omega) hrg3 (hrg2'.take _)).mono ?_
    rintro e w4 ⟨rfl, q, rfl⟩
    go_wp2_with fail
    refine (works_any _).mono ?_
    rintro e w5 ⟨rfl, hb5⟩
    go_wp2_with fail
    go_ret
    exact ⟨rfl, below_then (below_drewN hb3' q) (Nat.le_refl _) hb5⟩
end Go.Proofs.Ytmalmpdopifadaa
