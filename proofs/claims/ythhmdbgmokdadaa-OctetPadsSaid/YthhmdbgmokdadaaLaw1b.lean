/-
  OctetPuts, OctetCuts, OctetPads, walked.
-/
import Derived.Test.YthhmdbgmokdadaaLaw1
import Derived.Test.YthhmdbgmokdadaaRows3
namespace Go.Proofs.Ythhmdbgmokdadaa
open Go.RowKit
set_option linter.unusedVariables false

open Classical in
/-- What Put answers. -/
noncomputable def putS (xs : List UInt8) (x : Nat) (s : Int) : List UInt8 := if IsSize s then xs ++ enc x s.toNat else xs
theorem putS_len (xs : List UInt8) (x : Nat) (s : Int) : (putS xs x s).length ≤ xs.length + 8 := by
  unfold putS
  split
  · rename_i h
    rw [List.length_append, length_enc]
    unfold IsSize at h; omega
  · omega

theorem put_any (A : Option Addr) (n c : Nat) (x : Nat) (s : Int) (xs : List UInt8) (w : World) (hn : n ≤ 140737488355300) (hxb : x < 18446744073709551616) (hx : xs.length = n) (hr : Rd w w.heap.size A xs) :
    Calls Try.prog 16 #[.slice A n c, .int .u64 x, .int .i64 s] w fun e w' => ∃ A2 m c2, e = .returned (.slice A2 m c2) ∧ Own8 w' 5 w.heap.size A2 m c2 (putS xs x s) ∧ Below w.heap.size w w' := by
  by_cases hs : IsSize s
  · have h0 : 0 ≤ s := by unfold IsSize at hs; omega
    obtain ⟨k, rfl⟩ := Int.eq_ofNat_of_zero_le h0
    have hk : k ≤ 8 := by unfold IsSize at hs; omega
    refine (put_yes A n c x k xs w hn hxb hx hr hs).mono fun e w' ⟨g, he, hg, hrow, hb⟩ => ⟨_, _, _, he, ?_, hb⟩
    rw [putS, if_pos hs, Int.toNat_natCast]
    exact Own8.of_row hrow hg (by rw [List.length_append, length_enc, hx]) (by unfold maxLen; omega)
  · refine (put_no A n c x s xs w (by omega) hx hr hs).mono fun e w' ⟨A2, c2, he, ho, hb⟩ => ⟨_, _, _, he, ?_, hb⟩
    rw [putS, if_neg hs]
    exact ho
theorem refPut_any (A : Option Addr) (n c : Nat) (x : Nat) (s : Int) (xs : List UInt8) (w : World) (hn : n ≤ 140737488355300) (hxb : x < 18446744073709551616) (hx : xs.length = n) (hr : Rd w w.heap.size A xs) :
    Calls Try.prog 18 #[.slice A n c, .int .u64 x, .int .i64 s] w fun e w' => ∃ A2 m c2, e = .returned (.slice A2 m c2) ∧ Own8 w' 5 w.heap.size A2 m c2 (putS xs x s) ∧ Below w.heap.size w w' := by
  by_cases hs : IsSize s
  · have h0 : 0 ≤ s := by unfold IsSize at hs; omega
    obtain ⟨k, rfl⟩ := Int.eq_ofNat_of_zero_le h0
    refine (refPut_yes A n c x k xs w hn hxb hx hr hs).mono fun e w' ⟨A2, c2, he, ho, hb⟩ => ⟨_, _, _, he, ?_, hb⟩
    rw [putS, if_pos hs, Int.toNat_natCast]
    exact ho
  · refine (refPut_no A n c x s xs w (by omega) hx hr hs).mono fun e w' ⟨A2, c2, he, ho, hb⟩ => ⟨_, _, _, he, ?_, hb⟩
    rw [putS, if_neg hs]
    exact ho

set_option maxHeartbeats 400000 in
theorem octetPuts_big (A : Option Addr) (n c : Nat) (x s : Int) (w : World) (h : 131072 < n) :
    Calls Try.prog 4 #[.slice A n c, .int .u64 x, .int .i64 s] w fun e w' => e = .returned (.bool true) ∧ Below w.heap.size w w' := by
  go_enter Try.func4, Try.ntmps4
  go_wp2_with (go_at_call 11; refine (works_any _).mono ?_; rintro e w' ⟨rfl, hb⟩)
  go_ret
  exact ⟨rfl, hb⟩

set_option maxHeartbeats 400000 in
theorem octetPuts_small (A : Option Addr) (n c x : Nat) (s : Int) (xs : List UInt8) (w : World) (h : n ≤ 131072) (hxb : x < 18446744073709551616) (hx : xs.length = n) (hr : Rd w w.heap.size A xs) :
    Calls Try.prog 4 #[.slice A n c, .int .u64 x, .int .i64 s] w fun e w' => e = .returned (.bool true) ∧ Below w.heap.size w w' := by
  have HX := Lib.hid hx
  have HB := Lib.hid hxb
  have HL : Hid ((putS xs x s).length ≤ maxLen) := (by have := putS_len xs x s; unfold maxLen; omega : _ ≤ _)
  clear hx hxb
  go_enter Try.func4, Try.ntmps4
  go_wp2_with fail
  refine (roomy_any _ _ _ _ _ (by omega) HX.out hr).mono ?_
  rintro e w1 ⟨g, rfl, hg, hrow, hb1⟩
  go_wp2_with fail
  refine (put_any _ _ _ _ _ _ _ (by omega) HB.out HX.out (rd_in hrow)).mono ?_
  rintro e w2 ⟨A2, m2, c2, rfl, ho2, hb2⟩
  go_wp2_with fail
  refine (refPut_any _ _ _ _ _ _ _ (by omega) HB.out HX.out (((hr.below hb1).below (hb2.mono hb1.size)).more (Nat.le_trans hb1.size hb2.size))).mono ?_
  rintro e w3 ⟨A3, m3, c3, rfl, ho3, hb3⟩
  have hm : m3 = m2 := ho3.len.symm.trans ho2.len
  subst hm
  go_wp2_with fail
  refine (eqBytes_same _ _ _ _ _ _ _ _ _ ho2.len (by rw [← ho2.len]; exact HL.out) ((ho2.below hb3 (Nat.le_refl _)).rd) ho3.rd).mono ?_
  rintro e w4 ⟨rfl, q, rfl⟩
  go_wp2_with fail
  have hr3 := ((hr.below hb1).below (hb2.mono hb1.size)).below (hb3.mono (Nat.le_trans hb1.size hb2.size))
  have hrow3 := (hrow.below hb2 hrow.lt).below hb3 (Nat.lt_of_lt_of_le hrow.lt hb2.size)
  have ho2' := ho2.below hb3 (Nat.le_refl _)
  refine (kept_any w.heap.size _ _ _ _ _ _ (by omega) HX.out (hr3.drewN q) (hrow3.drewN q)).mono ?_
  rintro e w5 ⟨rfl, q5, rfl⟩
  go_wp2_with fail
  refine (put_any _ _ _ _ _ _ _ (by omega) HB.out HX.out (rd_in (hrow3.drewN _))).mono ?_
  rintro e w6 ⟨A6, m6, c6, rfl, ho6, hb6⟩
  go_wp2_with fail
  have oin := own_in hrow HX.out hg (by omega)
  refine (apart3 ((ho2'.drewN (q + q5)).below hb6 (Nat.le_refl _)) ho6 (own_in ((hrow3.drewN (q + q5)).below hb6 hrow3.lt) HX.out (Nat.le_refl _) (by omega)) (far_of ho2' ho6 (Nat.le_refl _))
    (far_of oin ho2 (Nat.le_refl _)).symm (far_of oin ho6 (Nat.le_trans hb2.size hb3.size)).symm _).mono ?_
  rintro e w7 ⟨rfl, hb7⟩
  go_wp2_with fail
  refine (works_any _).mono ?_
  rintro e w8 ⟨rfl, hb8⟩
  go_wp2_with fail
  go_ret
  refine ⟨rfl, ?_⟩
  have h3 := below_then (below_then hb1 (Nat.le_refl _) hb2) (Nat.le_refl _) hb3
  exact below_then (below_then (below_then (below_drewN h3 (q + q5)) (Nat.le_refl _) hb6) (Nat.le_refl _) hb7) (Nat.le_refl _) hb8

theorem octetPuts_walk (A : Option Addr) (n c : Nat) (xs : List UInt8) (x s : Int) (w : World) (hc : n ≤ c) (hcm : c ≤ maxLen) (hx : xs.length = n) (hr : Rd w w.heap.size A xs) (hxw : (Lit.int .u64 x).wf = true) (_ : (Lit.int .i64 s).wf = true) :
    Calls Try.prog 4 #[.slice A n c, .int .u64 x, .int .i64 s] w fun e w' => e = .returned (.bool true) ∧ Below w.heap.size w w' := by
  by_cases h : 131072 < n
  · exact octetPuts_big A n c x s w h
  · have hb : 0 ≤ x ∧ x ≤ 18446744073709551615 := by simpa [Lit.wf, IntKind.min, IntKind.max, IntKind.signed, IntKind.bits] using hxw
    obtain ⟨y, rfl⟩ := Int.eq_ofNat_of_zero_le hb.1
    exact octetPuts_small A n c y s xs w (by omega) (by omega) hx hr

/-! ### OctetCuts -/
open Classical in
noncomputable def cutS (xs : List UInt8) (a k : Int) : List UInt8 := if Within xs.length a k then (xs.drop a.toNat).take k.toNat else []
open Classical in
noncomputable def cutB (n : Nat) (a k : Int) : Bool := if Within n a k then true else false
theorem cutS_len (xs : List UInt8) (a k : Int) : (cutS xs a k).length ≤ xs.length := by
  unfold cutS
  split
  · simp; omega
  · simp

theorem cut_any (A : Option Addr) (n c : Nat) (a k : Int) (xs : List UInt8) (w : World) (hn : n ≤ 140737488355300) (hc : n ≤ c) (hcm : c ≤ maxLen) (hx : xs.length = n) (hr : Rd w w.heap.size A xs) :
    Calls Try.prog 20 #[.slice A n c, .int .i64 a, .int .i64 k] w fun e w' => ∃ A2 m c2, e = .returned (.tuple #[.slice A2 m c2, .bool (cutB n a k)]) ∧ Own8 w' 5 w.heap.size A2 m c2 (cutS xs a k) ∧ Below w.heap.size w w' := by
  by_cases h : Within n a k
  · obtain ⟨h1, h2, h3, h4⟩ := id h
    obtain ⟨a, rfl⟩ := Int.eq_ofNat_of_zero_le h1
    obtain ⟨k, rfl⟩ := Int.eq_ofNat_of_zero_le h2
    refine (cut_yes A n c a k xs w (by omega) hc hcm hx hr (by omega)).mono fun e w' ⟨A2, c2, he, ho, hb⟩ => ⟨A2, k, c2, ?_, ?_, hb⟩
    · rw [he, cutB, if_pos h]
    · rw [cutS, hx, if_pos h]; exact ho
  · refine (cutNo A n c a k w (by unfold maxLen; omega) h).mono fun e w' ⟨he, hw⟩ => ⟨none, 0, 0, ?_, ?_, hw ▸ Below.refl _ _⟩
    · rw [he, cutB, if_neg h]
    · rw [cutS, hx, if_neg h]; exact Own8.nil _ _ _
theorem refCut_any (A : Option Addr) (n c : Nat) (a k : Int) (xs : List UInt8) (w : World) (hn : n ≤ 140737488355300) (hc : n ≤ c) (hcm : c ≤ maxLen) (hx : xs.length = n) (hr : Rd w w.heap.size A xs) :
    Calls Try.prog 21 #[.slice A n c, .int .i64 a, .int .i64 k] w fun e w' => ∃ A2 m c2, e = .returned (.tuple #[.slice A2 m c2, .bool (cutB n a k)]) ∧ Own8 w' 5 w.heap.size A2 m c2 (cutS xs a k) ∧ Below w.heap.size w w' := by
  by_cases h : Within n a k
  · obtain ⟨h1, h2, h3, h4⟩ := id h
    obtain ⟨a, rfl⟩ := Int.eq_ofNat_of_zero_le h1
    obtain ⟨k, rfl⟩ := Int.eq_ofNat_of_zero_le h2
    refine (refCut_yes A n c a k xs w (by omega) hc hcm hx hr (by omega)).mono fun e w' ⟨A2, c2, he, ho, hb⟩ => ⟨A2, k, c2, ?_, ?_, hb⟩
    · rw [he, cutB, if_pos h]
    · rw [cutS, hx, if_pos h]; exact ho
  · refine (refCutNo A n c a k w (by unfold maxLen; omega) h).mono fun e w' ⟨he, hw⟩ => ⟨none, 0, 0, ?_, ?_, hw ▸ Below.refl _ _⟩
    · rw [he, cutB, if_neg h]
    · rw [cutS, hx, if_neg h]; exact Own8.nil _ _ _

set_option maxHeartbeats 400000 in
theorem octetCuts_big (A : Option Addr) (n c : Nat) (a k : Int) (w : World) (h : 131072 < n) :
    Calls Try.prog 5 #[.slice A n c, .int .i64 a, .int .i64 k] w fun e w' => e = .returned (.bool true) ∧ Below w.heap.size w w' := by
  go_enter Try.func5, Try.ntmps5
  go_wp2_with (go_at_call 11; refine (works_any _).mono ?_; rintro e w' ⟨rfl, hb⟩)
  go_ret
  exact ⟨rfl, hb⟩

set_option maxHeartbeats 400000 in
theorem octetCuts_small (A : Option Addr) (n c : Nat) (a k : Int) (xs : List UInt8) (w : World) (h : n ≤ 131072) (hc : n ≤ c) (hcm : c ≤ maxLen) (hx : xs.length = n) (hr : Rd w w.heap.size A xs) :
    Calls Try.prog 5 #[.slice A n c, .int .i64 a, .int .i64 k] w fun e w' => e = .returned (.bool true) ∧ Below w.heap.size w w' := by
  have HX := Lib.hid hx
  have HM := Lib.hid hcm
  have HL : Hid ((cutS xs a k).length ≤ maxLen) := (by have := cutS_len xs a k; unfold maxLen; omega : _ ≤ _)
  clear hx hcm
  go_enter Try.func5, Try.ntmps5
  go_wp2_with fail
  refine (roomy_any _ _ _ _ _ (by omega) HX.out hr).mono ?_
  rintro e w1 ⟨g, rfl, hg, hrow, hb1⟩
  go_wp2_with fail
  refine (cut_any _ _ _ _ _ _ _ (by omega) (by omega) (by unfold maxLen; omega) HX.out (rd_in hrow)).mono ?_
  rintro e w2 ⟨A2, m2, c2, rfl, ho2, hb2⟩
  go_wp2_with fail
  refine (refCut_any _ _ _ _ _ _ _ (by omega) hc HM.out HX.out (((hr.below hb1).below (hb2.mono hb1.size)).more (Nat.le_trans hb1.size hb2.size))).mono ?_
  rintro e w3 ⟨A3, m3, c3, rfl, ho3, hb3⟩
  have hm : m3 = m2 := ho3.len.symm.trans ho2.len
  subst hm
  have hbb : ∀ W, (binOp .neq 4 (.bool (cutB n a k)) (.bool (cutB n a k))).run Try.prog W = .ok (.bool false) W := fun W => by
    cases cutB n a k <;> kernel_rfl
  go_wp2_with fail
  refine (eqBytes_same _ _ _ _ _ _ _ _ _ ho2.len (by rw [← ho2.len]; exact HL.out) ((ho2.below hb3 (Nat.le_refl _)).rd) ho3.rd).mono ?_
  rintro e w4 ⟨rfl, q, rfl⟩
  go_wp2_with fail
  have hr3 := ((hr.below hb1).below (hb2.mono hb1.size)).below (hb3.mono (Nat.le_trans hb1.size hb2.size))
  have hrow3 := (hrow.below hb2 hrow.lt).below hb3 (Nat.lt_of_lt_of_le hrow.lt hb2.size)
  have ho2' := ho2.below hb3 (Nat.le_refl _)
  refine (kept_any w.heap.size _ _ _ _ _ _ (by omega) HX.out (hr3.drewN q) (hrow3.drewN q)).mono ?_
  rintro e w5 ⟨rfl, q5, rfl⟩
  go_wp2_with fail
  refine (cut_any _ _ _ _ _ _ _ (by omega) (by omega) (by unfold maxLen; omega) HX.out (rd_in (hrow3.drewN _))).mono ?_
  rintro e w6 ⟨A6, m6, c6, rfl, ho6, hb6⟩
  go_wp2_with fail
  have oin := own_in hrow HX.out hg (by omega)
  refine (apart3 ((ho2'.drewN (q + q5)).below hb6 (Nat.le_refl _)) ho6 (own_in ((hrow3.drewN (q + q5)).below hb6 hrow3.lt) HX.out (Nat.le_refl _) (by omega)) (far_of ho2' ho6 (Nat.le_refl _))
    (far_of oin ho2 (Nat.le_refl _)).symm (far_of oin ho6 (Nat.le_trans hb2.size hb3.size)).symm _).mono ?_
  rintro e w7 ⟨rfl, hb7⟩
  go_wp2_with fail
  refine (works_any _).mono ?_
  rintro e w8 ⟨rfl, hb8⟩
  go_wp2_with fail
  go_ret
  refine ⟨rfl, ?_⟩
  have h3 := below_then (below_then hb1 (Nat.le_refl _) hb2) (Nat.le_refl _) hb3
  exact below_then (below_then (below_then (below_drewN h3 (q + q5)) (Nat.le_refl _) hb6) (Nat.le_refl _) hb7) (Nat.le_refl _) hb8

theorem octetCuts_walk (A : Option Addr) (n c : Nat) (xs : List UInt8) (a k : Int) (w : World) (hc : n ≤ c) (hcm : c ≤ maxLen) (hx : xs.length = n) (hr : Rd w w.heap.size A xs) (_ : (Lit.int .i64 a).wf = true) (_ : (Lit.int .i64 k).wf = true) :
    Calls Try.prog 5 #[.slice A n c, .int .i64 a, .int .i64 k] w fun e w' => e = .returned (.bool true) ∧ Below w.heap.size w w' := by
  by_cases h : 131072 < n
  · exact octetCuts_big A n c a k w h
  · exact octetCuts_small A n c a k xs w (by omega) hc hcm hx hr

/-! ### OctetPads -/
set_option maxHeartbeats 400000 in
theorem octetPads_big (A : Option Addr) (n c : Nat) (w : World) (h : 131072 < n) :
    Calls Try.prog 6 #[.slice A n c] w fun e w' => e = .returned (.bool true) ∧ Below w.heap.size w w' := by
  go_enter Try.func6, Try.ntmps6
  go_wp2_with (go_at_call 11; refine (works_any _).mono ?_; rintro e w' ⟨rfl, hb⟩)
  go_ret
  exact ⟨rfl, hb⟩

/-- What Pad answers. -/
def padS (xs : List UInt8) : List UInt8 := xs ++ List.replicate (up4 xs.length - xs.length) 0
theorem padS_len (xs : List UInt8) : (padS xs).length = up4 xs.length := by
  have := up4_bd xs.length
  simp [padS]; omega
theorem padS_padS (xs : List UInt8) : padS (padS xs) = padS xs := by
  have h : up4 (up4 xs.length) = up4 xs.length := by unfold up4; omega
  rw [padS, padS_len, h, Nat.sub_self]
  simp
theorem padOwn (A : Option Addr) (n c : Nat) (xs : List UInt8) (w : World) (hn : n ≤ 140737488355300) (hx : xs.length = n) (hr : Rd w w.heap.size A xs) :
    Calls Try.prog 22 #[.slice A n c] w fun e w' => ∃ A2, e = .returned (.slice A2 (up4 n) (up4 n)) ∧ Own8 w' 5 w.heap.size A2 (up4 n) (up4 n) (padS xs) ∧ Below w.heap.size w w' := by
  have hu := up4_bd n
  refine (pad_any A n c xs w hn hx hr).mono fun e w' ⟨g, he, hg, hrow, hb⟩ => ⟨_, he, ?_, hb⟩
  refine Own8.of_row ?_ hg (by rw [padS_len, hx]) (by unfold maxLen; omega)
  rw [padS, hx]
  exact hrow
end Go.Proofs.Ythhmdbgmokdadaa
