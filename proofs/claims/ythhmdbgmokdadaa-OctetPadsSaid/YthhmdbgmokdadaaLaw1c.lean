/-
  OctetPads, OctetParts, walked.
-/
import Derived.Test.YthhmdbgmokdadaaLaw1b
namespace Go.Proofs.Ythhmdbgmokdadaa
open Go.RowKit
set_option linter.unusedVariables false

theorem refPadOwn (A : Option Addr) (n c : Nat) (xs : List UInt8) (w : World) (hn : n ≤ 140737488355300) (hx : xs.length = n) (hr : Rd w w.heap.size A xs) :
    Calls Try.prog 23 #[.slice A n c] w fun e w' => ∃ A2 c2, e = .returned (.slice A2 (up4 n) c2) ∧ Own8 w' 5 w.heap.size A2 (up4 n) c2 (padS xs) ∧ Below w.heap.size w w' := by
  refine (refPad_any A n c xs w hn hx hr).mono fun e w' ⟨A2, c2, he, ho, hb⟩ => ⟨A2, c2, he, ?_, hb⟩
  rw [padS, hx]
  exact ho

set_option maxHeartbeats 400000 in
theorem octetPads_small (A : Option Addr) (n c : Nat) (xs : List UInt8) (w : World) (h : n ≤ 131072) (hx : xs.length = n) (hr : Rd w w.heap.size A xs) :
    Calls Try.prog 6 #[.slice A n c] w fun e w' => e = .returned (.bool true) ∧ Below w.heap.size w w' := by
  have HX := Lib.hid hx
  have hu := up4_bd n
  have HU : Hid (up4 (up4 n) = up4 n) := (by unfold up4; omega : _ = _)
  clear hx
  go_enter Try.func6, Try.ntmps6
  go_wp2_with fail
  refine (roomy_any _ _ _ _ _ (by omega) HX.out hr).mono ?_
  rintro e w1 ⟨g, rfl, hg, hrow, hb1⟩
  go_wp2_with fail
  refine (padOwn _ _ _ _ _ (by omega) HX.out (rd_in hrow)).mono ?_
  rintro e w2 ⟨A2, rfl, ho2, hb2⟩
  go_wp2_with fail
  refine (refPadOwn _ _ _ _ _ (by omega) HX.out (((hr.below hb1).below (hb2.mono hb1.size)).more (Nat.le_trans hb1.size hb2.size))).mono ?_
  rintro e w3 ⟨A3, c3, rfl, ho3, hb3⟩
  go_wp2_with fail
  refine (eqBytes_same _ _ _ _ _ _ _ _ _ ho2.len (by unfold maxLen; omega) ((ho2.below hb3 (Nat.le_refl _)).rd) ho3.rd).mono ?_
  rintro e w4 ⟨rfl, q, rfl⟩
  go_wp2_with fail
  have hr3 := ((hr.below hb1).below (hb2.mono hb1.size)).below (hb3.mono (Nat.le_trans hb1.size hb2.size))
  have hrow3 := (hrow.below hb2 hrow.lt).below hb3 (Nat.lt_of_lt_of_le hrow.lt hb2.size)
  have ho2' := ho2.below hb3 (Nat.le_refl _)
  refine (kept_any w.heap.size _ _ _ _ _ _ (by omega) HX.out (hr3.drewN q) (hrow3.drewN q)).mono ?_
  rintro e w5 ⟨rfl, q5, rfl⟩
  go_wp2_with fail
  refine (padOwn _ _ _ _ _ (by omega) HX.out (rd_in (hrow3.drewN _))).mono ?_
  rintro e w6 ⟨A6, rfl, ho6, hb6⟩
  go_wp2_with fail
  refine (padOwn _ _ _ _ _ (by omega) ho6.len ho6.rd).mono ?_
  rintro e w7 ⟨A7, rfl, ho7, hb7⟩
  rw [padS_padS, HU.out] at ho7
  rw [HU.out]
  have ho2s := ((ho2'.drewN (q + q5)).below hb6 (Nat.le_refl _)).below hb7 (Nat.le_refl _)
  go_wp2_with fail
  refine (eqBytes_same _ _ _ _ _ _ _ _ _ ho7.len (by unfold maxLen; omega) ho7.rd ho2s.rd).mono ?_
  rintro e w8 ⟨rfl, q8, rfl⟩
  go_wp2_with fail
  have oin := own_in hrow HX.out hg (by omega)
  refine (apart3 (ho2s.drewN q8) ((ho6.below hb7 (Nat.le_refl _)).drewN q8) ((own_in (((hrow3.drewN (q + q5)).below hb6 hrow3.lt).below hb7 (Nat.lt_of_lt_of_le hrow3.lt hb6.size)) HX.out (Nat.le_refl _) (by omega)).drewN q8) (far_of ho2' ho6 (Nat.le_refl _))
    (far_of oin ho2 (Nat.le_refl _)).symm (far_of oin ho6 (Nat.le_trans hb2.size hb3.size)).symm _).mono ?_
  rintro e w9 ⟨rfl, hb9⟩
  go_wp2_with fail
  refine (works_any _).mono ?_
  rintro e w10 ⟨rfl, hb10⟩
  go_wp2_with fail
  go_ret
  refine ⟨rfl, ?_⟩
  have h3 := below_then (below_then hb1 (Nat.le_refl _) hb2) (Nat.le_refl _) hb3
  exact below_then (below_then (below_drewN (below_then (below_then (below_drewN h3 (q + q5)) (Nat.le_refl _) hb6) (Nat.le_refl _) hb7) q8) (Nat.le_refl _) hb9) (Nat.le_refl _) hb10

theorem octetPads_walk (A : Option Addr) (n c : Nat) (xs : List UInt8) (w : World) (hc : n ≤ c) (hcm : c ≤ maxLen) (hx : xs.length = n) (hr : Rd w w.heap.size A xs) :
    Calls Try.prog 6 #[.slice A n c] w fun e w' => e = .returned (.bool true) ∧ Below w.heap.size w w' := by
  by_cases h : 131072 < n
  · exact octetPads_big A n c w h
  · exact octetPads_small A n c xs w (by omega) hx hr
end Go.Proofs.Ythhmdbgmokdadaa
