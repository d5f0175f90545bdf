/-
  Layer 1's statements, walked: what each of them does to any world.
-/
import Derived.Test.YthhmdbgmokdadaaWorks
import Derived.Test.YthhmdbgmokdadaaKept
import Derived.Test.YthhmdbgmokdadaaApart
namespace Go.Proofs.Ythhmdbgmokdadaa
open Go.RowKit
set_option linter.unusedVariables false

theorem round_some (n : Int) (h0 : 0 ≤ n) (h1 : n ≤ 4611686018427387904) (w : World) : Calls Try.prog 24 #[.int .i64 n] w fun e w' => ∃ r : Int, e = .returned (.int .i64 r) ∧ r % 4 = 0 ∧ n ≤ r ∧ r < n + 4 ∧ r ≤ 4611686018427387904 ∧ w = w' :=
  (round_yes n h0 h1 w).mono fun e w' ⟨he, hw⟩ => ⟨_, he, by omega, by omega, by omega, by omega, hw⟩
theorem round_same (n : Int) (h0 : 0 ≤ n) (h1 : n ≤ 4611686018427387904) (h4 : n % 4 = 0) (w : World) : Calls Try.prog 24 #[.int .i64 n] w fun e w' => e = .returned (.int .i64 n) ∧ w = w' :=
  (round_yes n h0 h1 w).mono fun e w' ⟨he, hw⟩ => ⟨by rw [he]; exact ret_int (by omega), hw⟩

set_option maxHeartbeats 400000 in
theorem octetRounds_walk (n : Int) (w : World) (_ : (Lit.int .i64 n).wf = true) :
    Calls Try.prog 7 #[.int .i64 n] w fun e w' => e = .returned (.bool true) ∧ Below w.heap.size w w' := by
  by_cases h : n < 0 ∨ 4611686018427387904 < n
  · have H := Lib.hid h
    by_cases h0 : n < 0
    · clear h
      go_enter Try.func7, Try.ntmps7
      go_wp2_with (first | (go_at_call 24; refine (round_no n H.out _).mono ?_; rintro e w' ⟨rfl, rfl⟩) | (go_at_call 11; refine (works_any _).mono ?_; rintro e w' ⟨rfl, hb⟩))
      go_ret
      exact ⟨rfl, hb⟩
    · have h1 : 0 ≤ n := by omega
      have h2 : 4611686018427387904 < n := by omega
      clear h h0
      go_enter Try.func7, Try.ntmps7
      go_wp2_with (first | (go_at_call 24; refine (round_no n H.out _).mono ?_; rintro e w' ⟨rfl, rfl⟩) | (go_at_call 11; refine (works_any _).mono ?_; rintro e w' ⟨rfl, hb⟩))
      go_ret
      exact ⟨rfl, hb⟩
  · have h0 : 0 ≤ n := by omega
    have h1 : n ≤ 4611686018427387904 := by omega
    clear h
    go_enter Try.func7, Try.ntmps7
    go_wp2_with fail
    refine (round_some n h0 h1 _).mono ?_
    rintro e w' ⟨r, rfl, hr4, hr1, hr2, hr3, rfl⟩
    have H4 := Lib.hid hr4
    have hb4 : (r % 4 == 0) = true := by rw [beq_iff_eq]; exact hr4
    clear hr4
    go_wp2_with (first | (go_at_call 24; refine (round_same r (by omega) hr3 H4.out _).mono ?_; rintro e w' ⟨rfl, rfl⟩) | (go_at_call 11; refine (works_any _).mono ?_; rintro e w' ⟨rfl, hb⟩))
    go_ret
    exact ⟨rfl, hb⟩

theorem rd_in {w : World} {g : Nat} {xs : List UInt8} (h : RowAt w 5 g (xs ++ marks16)) : Rd w w.heap.size (some ⟨g, 0, none⟩) xs := h.rd 0 xs (fun j hj => by rw [Nat.zero_add, List.getElem?_append_left hj])

set_option maxHeartbeats 400000 in
theorem octetGets_big (A : Option Addr) (n c : Nat) (at_ s : Int) (w : World) (h : 131072 < n) :
    Calls Try.prog 3 #[.slice A n c, .int .i64 at_, .int .i64 s] w fun e w' => e = .returned (.bool true) ∧ Below w.heap.size w w' := by
  go_enter Try.func3, Try.ntmps3
  go_wp2_with (go_at_call 11; refine (works_any _).mono ?_; rintro e w' ⟨rfl, hb⟩)
  go_ret
  exact ⟨rfl, hb⟩

set_option maxHeartbeats 400000 in
theorem octetGets_small (A : Option Addr) (n c : Nat) (at_ s : Int) (xs : List UInt8) (w : World) (h : n ≤ 131072) (hc : n ≤ c) (hcm : c ≤ maxLen) (hx : xs.length = n) (hr : Rd w w.heap.size A xs) :
    Calls Try.prog 3 #[.slice A n c, .int .i64 at_, .int .i64 s] w fun e w' => e = .returned (.bool true) ∧ Below w.heap.size w w' := by
  have HX := Lib.hid hx
  have HM := Lib.hid hcm
  clear hx hcm
  by_cases hok : IsSize s ∧ Within n at_ s
  · obtain ⟨hs, hi⟩ := hok
    obtain ⟨h1, h2, h3, h4⟩ := hi
    obtain ⟨a, rfl⟩ := Int.eq_ofNat_of_zero_le h1
    obtain ⟨k, rfl⟩ := Int.eq_ofNat_of_zero_le h2
    have h5 : a + k ≤ n := by omega
    have HS : Hid (IsSize k) := hs
    clear hs h1 h2 h3 h4
    go_enter Try.func3, Try.ntmps3
    go_wp2_with (first
      | (go_at_call 12; refine (roomy_any _ _ _ _ _ (by omega) HX.out hr).mono ?_; rintro e w1 ⟨g, rfl, hg, hrow, hb1⟩)
      | (go_at_call 13; refine (get_yes _ _ _ _ _ _ _ _ (by unfold maxLen; omega) HX.out (rd_in hrow) HS.out h5).mono ?_; rintro e w2 ⟨rfl, rfl⟩)
      | (go_at_call 14; refine (refGet_yes _ _ _ _ _ _ _ (by omega) hc HM.out HX.out ((hr.below hb1).more hb1.size) HS.out h5).mono ?_; rintro e w2 ⟨rfl, hb2⟩)
      | (go_at_call 15; refine (kept_any _ _ _ _ _ _ _ (by omega) HX.out ((hr.below hb1).below (hb2.mono hb1.size)) (hrow.below hb2 hrow.lt)).mono ?_; rintro e w3 ⟨rfl, q, rfl⟩)
      | (go_at_call 11; refine (works_any _).mono ?_; rintro e w4 ⟨rfl, hb4⟩))
    go_ret
    exact ⟨rfl, below_then (below_drewN (below_then hb1 (Nat.le_refl _) hb2) _) (Nat.le_refl _) hb4⟩
  · by_cases hi : Within n at_ s
    · have hs : ¬ IsSize s := fun h => hok ⟨h, hi⟩
      obtain ⟨h1, h2, h3, h4⟩ := hi
      obtain ⟨a, rfl⟩ := Int.eq_ofNat_of_zero_le h1
      obtain ⟨k, rfl⟩ := Int.eq_ofNat_of_zero_le h2
      have h5 : a + k ≤ n := by omega
      have HS : Hid (¬ IsSize k) := hs
      have HO := Lib.hid hok
      clear hs h1 h2 h3 h4 hok
      go_enter Try.func3, Try.ntmps3
      go_wp2_with (first
        | (go_at_call 12; refine (roomy_any _ _ _ _ _ (by omega) HX.out hr).mono ?_; rintro e w1 ⟨g, rfl, hg, hrow, hb1⟩)
        | (go_at_call 13; refine (get_no _ _ _ _ _ _ (by unfold maxLen; omega) HO.out).mono ?_; rintro e w2 ⟨rfl, rfl⟩)
        | (go_at_call 14; refine (refGet_size _ _ _ _ _ _ _ (by omega) hc HM.out HX.out ((hr.below hb1).more hb1.size) HS.out h5).mono ?_; rintro e w2 ⟨rfl, hb2⟩)
        | (go_at_call 15; refine (kept_any _ _ _ _ _ _ _ (by omega) HX.out ((hr.below hb1).below (hb2.mono hb1.size)) (hrow.below hb2 hrow.lt)).mono ?_; rintro e w3 ⟨rfl, q, rfl⟩)
        | (go_at_call 11; refine (works_any _).mono ?_; rintro e w4 ⟨rfl, hb4⟩))
      go_ret
      exact ⟨rfl, below_then (below_drewN (below_then hb1 (Nat.le_refl _) hb2) _) (Nat.le_refl _) hb4⟩
    · have HI := Lib.hid hi
      have HO := Lib.hid hok
      clear hi hok
      go_enter Try.func3, Try.ntmps3
      go_wp2_with (first
        | (go_at_call 12; refine (roomy_any _ _ _ _ _ (by omega) HX.out hr).mono ?_; rintro e w1 ⟨g, rfl, hg, hrow, hb1⟩)
        | (go_at_call 13; refine (get_no _ _ _ _ _ _ (by unfold maxLen; omega) HO.out).mono ?_; rintro e w2 ⟨rfl, rfl⟩)
        | (go_at_call 14; refine (refGet_out _ _ _ _ _ _ (by unfold maxLen; omega) HI.out).mono ?_; rintro e w2 ⟨rfl, hb2⟩)
        | (go_at_call 15; refine (kept_any _ _ _ _ _ _ _ (by omega) HX.out ((hr.below hb1).below (hb2.mono hb1.size)) (hrow.below hb2 hrow.lt)).mono ?_; rintro e w3 ⟨rfl, q, rfl⟩)
        | (go_at_call 11; refine (works_any _).mono ?_; rintro e w4 ⟨rfl, hb4⟩))
      go_ret
      exact ⟨rfl, below_then (below_drewN (below_then hb1 (Nat.le_refl _) hb2) _) (Nat.le_refl _) hb4⟩

theorem octetGets_walk (A : Option Addr) (n c : Nat) (xs : List UInt8) (at_ s : Int) (w : World) (hc : n ≤ c) (hcm : c ≤ maxLen) (hx : xs.length = n) (hr : Rd w w.heap.size A xs) (_ : (Lit.int .i64 at_).wf = true) (_ : (Lit.int .i64 s).wf = true) :
    Calls Try.prog 3 #[.slice A n c, .int .i64 at_, .int .i64 s] w fun e w' => e = .returned (.bool true) ∧ Below w.heap.size w w' := by
  by_cases h : 131072 < n
  · exact octetGets_big A n c at_ s w h
  · exact octetGets_small A n c at_ s xs w (by omega) hc hcm hx hr
end Go.Proofs.Ythhmdbgmokdadaa
