/-
  Layer 4 (spans): contracts of the reference: Settle, Move, Count, Last.
-/
import Derived.Test.YtmalmpdopifadaaSpS1
namespace Go.Proofs.Ytmalmpdopifadaa
open Go.RowKit
set_option linter.unusedVariables false

section
variable {w w' : World} {q : Nat} {B : Int} {f : Nat → Bool} {S : List Nat}

set_option maxRecDepth 100000 in
set_option maxHeartbeats 1600000 in
theorem refSettle_any (h : RefS w q B f) :
    Calls Try.prog 17 #[.pointer (some ⟨q, 0, none⟩)] w fun e w' => e = .returned (.int .i64 (rnl f : Nat)) ∧ RefS w' q ((B + (rnl f : Nat)) % 4294967296) (shF f (rnl f)) ∧ Tw [q] w w' := by
  have hs := rnl_spec h.win
  have hle := hs.1
  have HS := Lib.hid hs.2
  clear hs
  go_enter Try.func17, Try.ntmps17
  go_wp2_with fail
  go_loop [3] (fun i => ∃ k : Nat, k ≤ rnl f ∧ i = .int .i64 k) (fun i => 4096 - (intOf i).toNat)
  case atStart => exact ⟨0, Nat.zero_le _, rfl⟩
  case round =>
    obtain ⟨k, hk, rfl⟩ := hrel
    by_cases hk4 : k < 4096
    · have ci := h.ci (k + 1) (by omega)
      have hk7 : (k : Int) + 1 < 4097 := by omega
      have hd : decide ((k : Int) < 4096) = true := decide_eq_true (by omega)
      by_cases hlt : k < rnl f
      · rw [HS.out.1 (k + 1) (by omega) (by omega)] at ci
        go_wp2_with fail
        go_round
        case rel => exact ⟨k + 1, by omega, by go_num⟩
        case measure => simp [intOf]; omega
      · obtain rfl : k = rnl f := by omega
        rw [HS.out.2] at ci
        go_wp2_with fail
        refine (refShift_any (rnl f) h hle).mono ?_
        rintro e w2 ⟨rfl, hr, ht⟩
        go_wp2_with fail
        go_ret
        exact ⟨rfl, hr, ht⟩
    · have e : rnl f = 4096 := by omega
      obtain rfl : k = 4096 := by omega
      have hd : decide (((4096 : Nat) : Int) < 4096) = false := by decide
      have HE := Lib.hid e
      clear e
      go_wp2_with fail
      refine (refShift_any 4096 h (by omega)).mono ?_
      rintro e w2 ⟨rfl, hr, ht⟩
      go_wp2_with fail
      go_ret
      rw [HE.out]
      exact ⟨rfl, hr, ht⟩

set_option maxRecDepth 100000 in
set_option maxHeartbeats 1600000 in
theorem refMove_any (x : Int) (h : RefS w q B f) (hx : 0 ≤ x ∧ x < 4294967296) :
    Calls Try.prog 19 #[.pointer (some ⟨q, 0, none⟩), .int .u32 x] w fun e w' => e = .returned (.int .i64 (mvN f (dst B x) : Nat)) ∧ RefS w' q ((B + (mvN f (dst B x) : Nat)) % 4294967296) (shF f (mvN f (dst B x))) ∧ Tw [q] w w' := by
  have c0 := h.c0
  have hB := h.base
  have hi := inW_of hx hB
  by_cases h1 : inW (dst B x) = true
  · have HM := Lib.hid (mv_in (f := f) h1)
    have hd : dst B x ≤ 4096 := by unfold inW at h1; simp at h1; omega
    have hu : (x - B) % 4294967296 = ((dst B x : Nat) : Int) := by unfold dst; omega
    have hr4 := (rnl_spec (win_sh h.win (dst B x))).1
    rw [h1] at hi
    have HI := Lib.hid hi
    obtain ⟨d, hdd⟩ : ∃ d, d = dst B x := ⟨_, rfl⟩
    rw [← hdd] at hu hd HM hr4 ⊢
    clear hi h1 hdd
    go_enter Try.func19, Try.ntmps19
    go_wp2_with fail
    refine (refIn32 x B w hx hB).mono ?_
    rintro e w2 ⟨rfl, rfl⟩
    rw [HI.out]
    go_wp2_with fail
    clear hu
    refine (refShift_any d h hd).mono ?_
    rintro e w2 ⟨rfl, hr2, ht2⟩
    go_wp2_with fail
    refine (refSettle_any hr2).mono ?_
    rintro e w3 ⟨rfl, hr3, ht3⟩
    rw [mod_add, sh_sh, Nat.add_comm] at hr3
    go_wp2_with fail
    go_ret
    rw [HM.out]
    refine ⟨ret_int (by omega), ?_, ht2.trans ht3⟩
    rw [show B + ((d + rnl (shF f d) : Nat) : Int) = B + d + (rnl (shF f d) : Nat) by omega]
    exact hr3
  · have h1 : inW (dst B x) = false := by simpa using h1
    have HM := Lib.hid (mv_out (f := f) h1)
    rw [h1] at hi
    have HI := Lib.hid hi
    clear hi h1
    go_enter Try.func19, Try.ntmps19
    go_wp2_with fail
    refine (refIn32 x B w hx hB).mono ?_
    rintro e w2 ⟨rfl, rfl⟩
    rw [HI.out]
    go_wp2_with fail
    go_ret
    rw [HM.out]
    refine ⟨rfl, ?_, Tw.refl _ _⟩
    rw [sh_zero h.win, show (B + (0 : Nat)) % 4294967296 = B by omega]
    exact h

set_option maxRecDepth 100000 in
set_option maxHeartbeats 1600000 in
theorem refCount_any (h : RefS w q B f) :
    Calls Try.prog 25 #[.pointer (some ⟨q, 0, none⟩)] w fun e w' => e = .returned (.int .i64 (cnt f 4096 : Nat)) ∧ w = w' := by
  go_enter Try.func25, Try.ntmps25
  go_wp2_with fail
  go_loop [3, 4] (fun t i => ∃ k s : Nat, k ≤ 4096 ∧ i = .int .i64 ((k : Int) + 1) ∧ t = .int .i64 s ∧ s ≤ k ∧ Hid (s = cnt f k)) (fun _ i => 4097 - (intOf i).toNat)
  case atStart => exact ⟨0, 0, by omega, by simp, rfl, by omega, Lib.hid rfl⟩
  case round =>
    obtain ⟨k, s, hk, rfl, rfl, hsk, HS⟩ := hrel
    by_cases hlt : k < 4096
    · have ci := h.ci (k + 1) (by omega)
      have hk7 : (k : Int) + 1 < 4097 := by omega
      have hc := cnt_succ (f := f) k
      cases hf : f (k + 1)
      · rw [hf] at ci hc
        have HC := Lib.hid hc
        clear hc hf
        go_wp2_with fail
        go_round
        case rel => exact ⟨k + 1, s, by omega, by go_num, rfl, by omega, Lib.hid (by have := HC.out; have := HS.out; simp at *; omega)⟩
        case measure => simp [intOf]; omega
      · rw [hf] at ci hc
        have HC := Lib.hid hc
        clear hc hf
        go_wp2_with fail
        go_round
        case rel => exact ⟨k + 1, s + 1, by omega, by go_num, by go_num, by omega, Lib.hid (by have := HC.out; have := HS.out; simp at *; omega)⟩
        case measure => simp [intOf]; omega
    · obtain rfl : k = 4096 := by omega
      go_wp2_with fail
      go_ret
      exact ⟨ret_int (by rw [HS.out]), rfl⟩

set_option maxRecDepth 100000 in
set_option maxHeartbeats 1600000 in
theorem refLast_any (h : RefS w q B f) :
    Calls Try.prog 27 #[.pointer (some ⟨q, 0, none⟩)] w fun e w' => e = .returned (.int .u32 ((B + (lst f 4096 : Nat)) % 4294967296)) ∧ w = w' := by
  have c0 := h.c0
  have hB := h.base
  go_enter Try.func27, Try.ntmps27
  go_wp2_with fail
  go_loop [3] (fun i => ∃ k : Nat, k ≤ 4096 ∧ i = .int .i64 k ∧ Hid (lst f 4096 = lst f k)) (fun i => (intOf i).toNat)
  case atStart => exact ⟨4096, by omega, rfl, Lib.hid rfl⟩
  case round =>
    obtain ⟨k, hk, rfl, HL⟩ := hrel
    by_cases hlt : 0 < k
    · obtain ⟨j, rfl⟩ : ∃ j, k = j + 1 := ⟨k - 1, by omega⟩
      have ci := h.ci (j + 1) hk
      have hk7 : (j : Int) + 1 < 4097 := by omega
      have hc : lst f (j + 1) = if f (j + 1) = true then j + 1 else lst f j := rfl
      cases hf : f (j + 1)
      · rw [hf] at ci hc
        have HC := Lib.hid hc
        clear hc hf
        go_wp2_with fail
        go_round
        case rel => exact ⟨j, by omega, by go_num, Lib.hid (by rw [HL.out, HC.out]; rfl)⟩
        case measure => simp [intOf]
      · rw [hf] at ci hc
        have HC := Lib.hid hc
        clear hc hf
        go_wp2_with fail
        go_ret
        exact ⟨ret_int (by rw [HL.out, HC.out]; simp), rfl⟩
    · obtain rfl : k = 0 := by omega
      go_wp2_with fail
      go_ret
      exact ⟨ret_int (by rw [HL.out]; show B = (B + ((0 : Nat) : Int)) % 4294967296; omega), rfl⟩
end
end Go.Proofs.Ytmalmpdopifadaa
