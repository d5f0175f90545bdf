/-
  Layer 4 (spans): contracts of the reference: Gaps.
-/
import Derived.Test.YtmalmpdopifadaaSpS
import Derived.Test.YtmalmpdopifadaaSpL4
namespace Go.Proofs.Ytmalmpdopifadaa
open Go.RowKit
set_option linter.unusedVariables false

/-- Which runs have been told when all up to e has been looked at: those that end up to j. -/
def At (f : Nat → Bool) (e j : Nat) : Prop :=
  (f e = true ∧ e ≤ j ∧ j ≤ 4096 ∧ (∀ k, e ≤ k → k ≤ j → f k = true) ∧ f (j + 1) = false) ∨ (f e = false ∧ j = e)
section
variable {f : Nat → Bool} {e j : Nat}
theorem at_le (h : At f e j) (he : e ≤ 4096) : e ≤ j ∧ j ≤ 4096 := by
  rcases h with ⟨_, h1, h2, _⟩ | ⟨_, rfl⟩
  · exact ⟨h1, h2⟩
  · exact ⟨Nat.le_refl _, he⟩
theorem at_zero (hw : Win f) : At f 0 0 := .inr ⟨win_zero hw, rfl⟩
theorem at_no (h : At f e j) (hf : f (e + 1) = false) : At f (e + 1) (e + 1) ∧ runsTo f (e + 1) = runsTo f j := by
  have hr : runsTo f (e + 1) = runsTo f e := by rw [runs_succ, hf]; rfl
  refine ⟨.inr ⟨hf, rfl⟩, ?_⟩
  rcases h with ⟨h0, h1, h2, h3, h4⟩ | ⟨_, rfl⟩
  · have : j = e := by
      rcases Nat.lt_or_ge e j with hl | hl
      · have := h3 (e + 1) (by omega) (by omega)
        rw [hf] at this; cases this
      · omega
    rw [hr, this]
  · exact hr
theorem at_in (h : At f e j) (hf : f (e + 1) = true) (he : f e = true) : At f (e + 1) j := by
  rcases h with ⟨h0, h1, h2, h3, h4⟩ | ⟨h0, rfl⟩
  · have : j ≠ e := by intro e'; rw [e', hf] at h4; cases h4
    exact .inl ⟨hf, by omega, h2, fun k a b => h3 k (by omega) b, h4⟩
  · rw [h0] at he; cases he
theorem at_new (h : At f e j) (he : f e = false) : j = e := by
  rcases h with ⟨h0, _⟩ | ⟨_, rfl⟩
  · rw [h0] at he; cases he
  · rfl
theorem at_run (hw : Win f) (he : f e = false) {k : Nat} (h1 : e + 1 ≤ k) (h2 : k ≤ 4096) (h3 : ∀ x, e + 1 ≤ x → x ≤ k → f x = true) (h4 : k = 4096 ∨ f (k + 1) = false) :
    At f (e + 1) k ∧ runsTo f k = runsTo f e ++ [(e + 1, k)] := by
  have h5 : f (k + 1) = false := by
    rcases h4 with rfl | h4
    · exact win_far hw (by omega)
    · exact h4
  refine ⟨.inl ⟨h3 (e + 1) (Nat.le_refl _) h1, h1, h2, h3, h5⟩, ?_⟩
  have := runs_whole e he (k - (e + 1)) (fun x a b => h3 x a (by omega))
  rwa [show e + 1 + (k - (e + 1)) = k by omega] at this
theorem at_take (h : At f e j) (he : e ≤ 4096) {m : Nat} (hm : (runsTo f j).length = m) : (runsTo f 4096).take m = runsTo f j := by
  rcases h with ⟨h0, h1, h2, h3, h4⟩ | ⟨h0, rfl⟩
  · by_cases h5 : j = 4096
    · rw [h5] at hm ⊢
      exact List.take_of_length_le (by omega)
    · have hr : runsTo f (j + 1) = runsTo f j := by rw [runs_succ, h4]; rfl
      have := runs_take (f := f) (j + 1) 4096 (by omega) h4 m (by rw [hr]; exact hm)
      rw [this, hr]
  · exact runs_take j 4096 he h0 m hm
theorem at_end (h : At f 4096 j) : j = 4096 := by
  have := at_le h (Nat.le_refl _)
  omega
end

theorem app_pair {w wr w1 : World} {t : TypeId} {v v' : Value} {L M : List (Nat × Nat)} {a b : Nat} {u : Obj} (hbel : Below w.heap.size w wr) (hM : M = L ++ [(a, b)]) (ho : Og (wr.alloc u) t w.heap.size v L)
    (h1 : w1.ownsRow w.heap.size t 2 v' (L.length + 1) (flat L ++ [.int .u16 (a : Nat), .int .u16 (b : Nat)])) (h2 : (wr.alloc u).grownBy w1 v.ownBlock) :
    ∃ A' c' n', v' = .slice A' n' c' ∧ Hid (M.length = n') ∧ Og w1 t w.heap.size (.slice A' n' c') M ∧ Below w.heap.size w w1 := by
  have hl : M.length = L.length + 1 := by rw [hM]; simp
  have hog : Og w1 t w.heap.size v' M := by
    unfold Og
    rw [hl, hM, flat_snoc]
    exact h1
  obtain ⟨A', c', rfl, _⟩ := hog.form
  refine ⟨A', c', _, rfl, Lib.hid rfl, hog, ?_⟩
  have hsz := hbel.size
  exact (hbel.alloc hsz u).grown h2 (by simp; omega) fun j hj => (World.ownsRow.lt ho j hj).1

section
variable {w : World} {q : Nat} {B : Int} {f : Nat → Bool}

set_option maxRecDepth 100000 in
set_option maxHeartbeats 3200000 in
theorem refGaps_any (most : Int) (h : RefS w q B f) (hm : -9223372036854775808 ≤ most ∧ most ≤ 9223372036854775807) :
    Calls Try.prog 22 #[.pointer (some ⟨q, 0, none⟩), .int .i64 most] w fun e w' => ∃ v, e = .returned v ∧ Og w' 45 w.heap.size v (gapsF f most) ∧ Below w.heap.size w w' := by
  obtain ⟨i0, hi, hz0, hz1, hz2⟩ := info_parts Try.infoGap
  have HI := Lib.hid hi
  have HZ0 := Lib.hid hz0
  have HZ1 := Lib.hid hz1
  have HZ2 := Lib.hid hz2
  have hw := h.win
  clear hi hz0 hz1 hz2
  go_enter Try.func22, Try.ntmps22
  go_wp2_with fail
  go_loopw [5, 6] (fun r i wr => ∃ (e j n c : Nat) (A : Option Addr), e ≤ 4096 ∧ i = .int .i64 ((e : Int) + 1) ∧ r = .slice A n c ∧ Hid (At f e j) ∧ Hid ((runsTo f j).length = n) ∧ Hid (n ≤ most.toNat) ∧ n ≤ 4096 ∧
      Og wr 45 w.heap.size (.slice A n c) (runsTo f j) ∧ Below w.heap.size w wr) (fun _ i _ => 4097 - (intOf i).toNat)
  case atStart => exact ⟨0, 0, 0, 0, none, by omega, by simp, rfl, Lib.hid (at_zero hw), Lib.hid rfl, Lib.hid (Nat.zero_le _), by omega, World.ownsRow_nil _ _ _ _, Below.refl _ _⟩
  case round =>
    obtain ⟨e, j, n, c, A, he, rfl, rfl, HAT, HN, HM, hn4, hog, hbel⟩ := hrel
    have href := h.below hbel
    by_cases hlt : e < 4096
    · have hle : decide ((e : Int) + 1 ≤ 4096) = true := decide_eq_true (by omega)
      by_cases hmost : (n : Int) < most
      · have ci := href.ci (e + 1) (by omega)
        have hk7 : (e : Int) + 1 < 4097 := by omega
        have hmd : decide ((n : Int) < most) = true := decide_eq_true hmost
        have HM' : Hid (n + 1 ≤ most.toNat) := Lib.hid (by omega)
        clear hmost
        by_cases hf : f (e + 1) = true
        · rw [hf] at ci
          by_cases hg : f e = true
          · have he1 : 1 ≤ e := (hw e hg).1
            have ci0 := href.ci e (by omega)
            rw [hg] at ci0
            have hk70 : (e : Int) < 4097 := by omega
            have HAT' := Lib.hid (at_in HAT.out hf hg)
            have hgt : decide (1 < (e : Int) + 1) = true := decide_eq_true (by omega)
            clear hf hg
            go_wp2_with fail
            go_roundw
            case rel => exact ⟨e + 1, j, n, c, A, by omega, by go_num, rfl, HAT', HN, HM, hn4, hog, hbel⟩
            case measure => simp [intOf]; omega
          · have hg : f e = false := by simpa using hg
            have ci0 := href.ci e (by omega)
            rw [hg] at ci0
            have hk70 : (e : Int) < 4097 := by omega
            have hj : j = e := at_new HAT.out hg
            subst hj
            have HF := Lib.hid hf
            have HG := Lib.hid hg
            clear hf hg
            rcases (show j < 1 ∨ 1 ≤ j by omega) with hj1 | hj1
            all_goals
              first
                | have hgt : decide (1 < (j : Int) + 1) = false := decide_eq_false (by omega)
                | have hgt : decide (1 < (j : Int) + 1) = true := decide_eq_true (by omega)
              go_wp2_with fail
              go_loop [7] (fun i => ∃ k : Nat, j + 1 ≤ k ∧ k ≤ 4096 ∧ i = .int .i64 k ∧ Hid (∀ x, j + 1 ≤ x → x ≤ k → f x = true)) (fun i => 4096 - (intOf i).toNat)
              case atStart => exact ⟨j + 1, by omega, by omega, by go_num, Lib.hid (fun x a b => by rw [show x = j + 1 by omega]; exact HF.out)⟩
              case round =>
                obtain ⟨k, hk1, hk2, rfl, HK⟩ := hrel
                by_cases hk4 : k < 4096
                · have cj := href.ci (k + 1) (by omega)
                  have hk8 : (k : Int) + 1 < 4097 := by omega
                  have hkd : decide ((k : Int) < 4096) = true := decide_eq_true (by omega)
                  by_cases hfk : f (k + 1) = true
                  · rw [hfk] at cj
                    have HFK := Lib.hid hfk
                    clear hfk
                    go_wp2_with fail
                    go_round
                    case rel => exact ⟨k + 1, by omega, by omega, by go_num, Lib.hid (fun x a b => by
                      rcases Nat.lt_or_ge x (k + 1) with hl | hl
                      · exact HK.out x a (by omega)
                      · obtain rfl : x = k + 1 := by omega
                        exact HFK.out)⟩
                    case measure => simp [intOf]; omega
                  · have hfk : f (k + 1) = false := by simpa using hfk
                    rw [hfk] at cj
                    have hrun := at_run hw HG.out hk1 hk2 HK.out (.inr hfk)
                    have HRUN := Lib.hid hrun
                    have HO := Lib.hid (hog.alloc (.cells #[.int .u16 ((j : Int) + 1), .int .u16 (k : Int)] 45))
                    clear hrun hfk
                    go_wp2_with (at_builtin; refine wpList_append_own _ rfl _ _ 37 rfl w.heap.size 45 i0 _ 2 4 Try.underlying37 HI.out HZ0.out HZ1.out HZ2.out rfl (by decide) _ (runsTo f j).length (flat (runsTo f j)) rfl (HO.out) ⟨wr.heap.size, 0, none⟩ 1 1 [.int .u16 ((j : Int) + 1), .int .u16 (k : Int)] rfl rfl (cell_two_new wr _ _ _) (by intro u hu; simp at hu; rcases hu with rfl | rfl <;> rfl) (by rw [HN.out]; unfold maxLen; omega) (by rw [HN.out]; omega) (by have := hbel.size; simp; omega) (fun v' w1 hown' hgrow hnil => ?_); obtain ⟨A', c', n', rfl, HN', hog', hbel'⟩ := app_pair (a := j + 1) (b := k) hbel HRUN.out.2 HO.out hown' hgrow; clear hown' hgrow hnil)
                    go_roundw
                    case rel => exact ⟨j + 1, k, n', c', A', by omega, by go_num, rfl, Lib.hid HRUN.out.1, HN', Lib.hid (by have h1 := HN'.out; rw [HRUN.out.2, List.length_append, HN.out] at h1; have := HM'.out; simp at h1; omega), by have h1 := HN'.out; have h2 := runs_len f (win_zero hw) k; omega, hog', hbel'⟩
                    case measure => simp [intOf]; omega
                · obtain rfl : k = 4096 := by omega
                  have hkd : decide (((4096 : Nat) : Int) < 4096) = false := by decide
                  have hrun := at_run hw HG.out hk1 hk2 HK.out (.inl rfl)
                  have HRUN := Lib.hid hrun
                  have HO := Lib.hid (hog.alloc (.cells #[.int .u16 ((j : Int) + 1), .int .u16 4096] 45))
                  clear hrun
                  go_wp2_with (at_builtin; refine wpList_append_own _ rfl _ _ 37 rfl w.heap.size 45 i0 _ 2 4 Try.underlying37 HI.out HZ0.out HZ1.out HZ2.out rfl (by decide) _ (runsTo f j).length (flat (runsTo f j)) rfl (HO.out) ⟨wr.heap.size, 0, none⟩ 1 1 [.int .u16 ((j : Int) + 1), .int .u16 4096] rfl rfl (cell_two_new wr _ _ _) (by intro u hu; simp at hu; rcases hu with rfl | rfl <;> rfl) (by rw [HN.out]; unfold maxLen; omega) (by rw [HN.out]; omega) (by have := hbel.size; simp; omega) (fun v' w1 hown' hgrow hnil => ?_); obtain ⟨A', c', n', rfl, HN', hog', hbel'⟩ := app_pair (a := j + 1) (b := 4096) hbel HRUN.out.2 HO.out hown' hgrow; clear hown' hgrow hnil)
                  go_roundw
                  case rel => exact ⟨j + 1, 4096, n', c', A', by omega, by go_num, rfl, Lib.hid HRUN.out.1, HN', Lib.hid (by have h1 := HN'.out; rw [HRUN.out.2, List.length_append, HN.out] at h1; have := HM'.out; simp at h1; omega), by have h1 := HN'.out; have h2 := runs_len f (win_zero hw) 4096; omega, hog', hbel'⟩
                  case measure => simp [intOf]; omega
        · have hf : f (e + 1) = false := by simpa using hf
          rw [hf] at ci
          have hno := at_no HAT.out hf
          have HNO := Lib.hid hno
          clear hno hf
          go_wp2_with fail
          go_roundw
          case rel => exact ⟨e + 1, e + 1, n, c, A, by omega, by go_num, rfl, Lib.hid HNO.out.1, by rw [HNO.out.2]; exact HN, HM, hn4, by rw [HNO.out.2]; exact hog, hbel⟩
          case measure => simp [intOf]; omega
      · have hmd : decide ((n : Int) < most) = false := decide_eq_false hmost
        have HR : Hid (Og wr 45 w.heap.size (.slice A n c) (gapsF f most)) := by
          show Hid (Og _ _ _ _ ((runsTo f 4096).take most.toNat))
          rw [at_take HAT.out he (m := most.toNat) (by have := HN.out; have := HM.out; omega)]
          exact Lib.hid hog
        clear hmost
        go_wp2_with fail
        go_ret
        exact ⟨_, rfl, HR.out, hbel⟩
    · obtain rfl : e = 4096 := by omega
      have hj := at_end HAT.out
      subst hj
      have hle : decide (((4096 : Nat) : Int) + 1 ≤ 4096) = false := by decide
      have HR : Hid (Og wr 45 w.heap.size (.slice A n c) (gapsF f most)) := by
        show Hid (Og _ _ _ _ ((runsTo f 4096).take most.toNat))
        rw [List.take_of_length_le (by rw [HN.out]; exact HM.out)]
        exact Lib.hid hog
      go_wp2_with fail
      go_ret
      exact ⟨_, rfl, HR.out, hbel⟩
end
end Go.Proofs.Ytmalmpdopifadaa
