/-
  Layer 4 (spans): the anchor; SpansNil, SpansFew, walked.
-/
import Derived.Test.YtmalmpdopifadaaSpL2
namespace Go.Proofs.Ytmalmpdopifadaa
open Go.RowKit
set_option linter.unusedVariables false

/-- What the anchor puts in. -/
def two : Nat → Bool := addF (addF noF 2) 1
theorem two_win : Win two := win_add (win_add win_no 2) 1
theorem two_is (i : Nat) : two i = (i == 2 || i == 1) := by
  unfold two addF noF
  simp [inW]
theorem two_cnt : cnt two 4096 = 2 := by
  unfold two
  rw [cnt_add (by simp [addF, noF]) (by simp [inW]), cnt_add rfl (by simp [inW]), cnt_no]
  rfl
theorem two_run : rnl two = 2 := by
  refine (rnl_is two_win (fun j h1 h2 => ?_) ?_).symm
  · rw [two_is]
    rcases (show j = 1 ∨ j = 2 by omega) with rfl | rfl <;> rfl
  · rw [two_is]; rfl
theorem two_sh : shF two 2 = noF := by
  funext i
  unfold shF
  rw [two_is]
  unfold noF
  by_cases h : 1 ≤ i
  · have : (i + 2 == 2) = false := by simp; omega
    have h2 : (i + 2 == 1) = false := by simp
    rw [this, h2]; simp
  · simp [h]
theorem lst_no : lst noF 4096 = 0 := lst_is win_no (.inl rfl) (fun i hi => by cases hi)
theorem runs_no : runsTo noF 4096 = [] := by
  have := runs_same (f := noF) 0 4096 (by rw [cnt_no, cnt_no])
  rw [Nat.zero_add] at this
  exact this
theorem gaps_no (most : Int) : gapsF noF most = [] := by unfold gapsF; rw [runs_no, List.take_nil]

set_option maxHeartbeats 1600000 in
theorem works_any (w : World) :
    Calls Try.prog 10 #[] w fun e w' => e = .returned (.bool true) ∧ Below w.heap.size w w' := by
  go_enter Try.func10, Try.ntmps10
  go_wp2_with fail
  refine (new_any 4294967295 w (by omega)).mono ?_
  rintro e w1 ⟨rfl, hset1, hb1, hs1⟩
  clear hs1
  go_wp2_with fail
  refine (add_any 1 hset1 (by omega)).mono ?_
  rintro e w2 ⟨rfl, hset2, ht2⟩
  rw [show addOk noF (dst 4294967295 1) = true by decide]
  rw [show dst 4294967295 1 = 2 by decide] at hset2
  have hb2 := hb1.trans (ht2.below (B := w.heap.size) (by simp) hb1.size)
  clear ht2 hb1 hset1
  go_wp2_with fail
  refine (add_any 1 hset2 (by omega)).mono ?_
  rintro e w3 ⟨rfl, hset3, ht3⟩
  rw [show addOk (addF noF 2) (dst 4294967295 1) = false by decide]
  rw [show dst 4294967295 1 = 2 by decide, add_same (.inl (by decide))] at hset3
  have hb3 := hb2.trans (ht3.below (B := w.heap.size) (by simp) hb2.size)
  clear ht3 hb2 hset2
  go_wp2_with fail
  refine (add_any 0 hset3 (by omega)).mono ?_
  rintro e w4 ⟨rfl, hset4, ht4⟩
  rw [show addOk (addF noF 2) (dst 4294967295 0) = true by decide]
  rw [show dst 4294967295 0 = 1 by decide] at hset4
  have hset4 : SpSet w4 (w.heap.size + 1) w.heap.size 4294967295 two := hset4
  have hb4 := hb3.trans (ht4.below (B := w.heap.size) (by simp) hb3.size)
  clear ht4 hb3 hset3
  go_wp2_with fail
  refine (count_any hset4).mono ?_
  rintro e w5 ⟨rfl, rfl⟩
  rw [two_cnt]
  go_wp2_with fail
  refine (settle_any hset4).mono ?_
  rintro e w5 ⟨rfl, hset5, ht5⟩
  rw [two_run, two_sh, show (4294967295 + ((2 : Nat) : Int)) % 4294967296 = 1 by decide] at hset5
  rw [two_run]
  have hb5 := hb4.trans (ht5.below (B := w.heap.size) (by simp) hb4.size)
  clear ht5 hb4 hset4
  go_wp2_with fail
  refine (base_any hset5).mono ?_
  rintro e w6 ⟨rfl, rfl⟩
  go_wp2_with fail
  refine (count_any hset5).mono ?_
  rintro e w6 ⟨rfl, rfl⟩
  rw [cnt_no]
  go_wp2_with fail
  refine (last_any hset5).mono ?_
  rintro e w6 ⟨rfl, hb6⟩
  rw [lst_no]
  have hset6 := hset5.below hb6
  have hb6' := below_then hb5 (Nat.le_refl _) hb6
  clear hb6 hb5 hset5
  go_wp2_with fail
  refine (gaps_any 9 hset6 (by omega)).mono ?_
  rintro e w7 ⟨v, rfl, hog, hb7⟩
  rw [gaps_no] at hog
  obtain ⟨A, c, rfl, _⟩ := hog.form
  have hb7' := below_then hb6' (Nat.le_refl _) hb7
  clear hog
  go_wp2_with fail
  go_ret
  exact ⟨rfl, hb7'⟩

theorem spansNil_walk (x n : Int) (w : World) (hx : (Lit.int .u32 x).wf = true) (hn : (Lit.int .i64 n).wf = true) :
    Calls Try.prog 9 #[.int .u32 x, .int .i64 n] w fun e w' => e = .returned (.bool true) ∧ Below w.heap.size w w' := by
  clear hx hn
  go_enter Try.func9, Try.ntmps9
  go_wp2_with (first
    | (go_at_call 23; refine (base_nil _).mono ?_; rintro e w' ⟨rfl, rfl⟩)
    | (go_at_call 12; refine (add_nil _ _).mono ?_; rintro e w' ⟨rfl, rfl⟩)
    | (go_at_call 14; refine (has_nil _ _).mono ?_; rintro e w' ⟨rfl, rfl⟩)
    | (go_at_call 24; refine (count_nil _).mono ?_; rintro e w' ⟨rfl, rfl⟩)
    | (go_at_call 26; refine (last_nil _).mono ?_; rintro e w' ⟨rfl, rfl⟩)
    | (go_at_call 16; refine (settle_nil _).mono ?_; rintro e w' ⟨rfl, rfl⟩)
    | (go_at_call 18; refine (move_nil _ _).mono ?_; rintro e w' ⟨rfl, rfl⟩)
    | (go_at_call 21; refine (gaps_nil _ _).mono ?_; rintro e w' ⟨rfl, rfl⟩)
    | (go_at_call 10; refine (works_any _).mono ?_; rintro e w' ⟨rfl, hb⟩))
  go_ret
  exact ⟨rfl, by assumption⟩
end Go.Proofs.Ytmalmpdopifadaa
