/-
  Layer 4 (spans): SpansSettle, walked.
-/
import Derived.Test.YtmalmpdopifadaaSpL5
namespace Go.Proofs.Ytmalmpdopifadaa
open Go.RowKit
set_option linter.unusedVariables false

theorem cnt_shr {f : Nat → Bool} (hw : Win f) (r : Nat) (h : ∀ j, 1 ≤ j → j ≤ r → f j = true) : cnt (shF f r) 4096 + r = cnt f 4096 := by
  induction r with
  | zero => rw [sh_zero hw, Nat.add_zero]
  | succ r ih =>
    have h1 := ih (fun j h1 h2 => h j h1 (by omega))
    have h2 := cnt_step (win_sh hw r)
    have h3 : shF f r 1 = true := by show (decide (1 ≤ 1) && f (1 + r)) = true; rw [Nat.add_comm]; simp; exact h (r + 1) (by omega) (by omega)
    rw [h3, sh_sh] at h2
    rw [Nat.add_comm r 1]
    simp at h2
    omega
theorem sh_at {f : Nat → Bool} (r i : Nat) (hi : 1 ≤ i) : shF f r i = f (i + r) := by unfold shF; simp [hi]
theorem rnl_again {f : Nat → Bool} (hw : Win f) : rnl (shF f (rnl f)) = 0 := by
  refine (rnl_is (win_sh hw _) (fun j h1 h2 => by omega) ?_).symm
  rw [sh_at _ _ (by omega), Nat.add_comm]
  exact (rnl_spec hw).2.2
/-- What was at k is at k - r when the base has gone on by r, and none where k is no more beyond it. -/
theorem sh_dst {f : Nat → Bool} (hw : Win f) {B : Int} (hB : 0 ≤ B ∧ B < 4294967296) (r k : Nat) (hr : r ≤ 4096) (hk : k < 4294967296) :
    shF f r (dst ((B + r) % 4294967296) ((B + k) % 4294967296)) = (decide (r < k) && f k) := by
  by_cases h : r < k
  · have e : dst ((B + r) % 4294967296) ((B + k) % 4294967296) = k - r := by unfold dst; omega
    rw [e, sh_at _ _ (by omega), show k - r + r = k by omega]
    simp [h]
  · by_cases he : r = k
    · have e : dst ((B + r) % 4294967296) ((B + k) % 4294967296) = 0 := by unfold dst; omega
      rw [e]
      simp [h, shF]
    · have e : 4096 < dst ((B + r) % 4294967296) ((B + k) % 4294967296) := by unfold dst; omega
      rw [win_far (win_sh hw r) e]
      simp [h]

set_option maxHeartbeats 1600000 in
theorem spansSettle_big (base : Int) (A : Option Addr) (n c : Nat) (w : World) (h : 200 < n) (hm : n ≤ maxLen) :
    Calls Try.prog 5 #[.int .u32 base, .slice A n c] w fun e w' => e = .returned (.bool true) ∧ Below w.heap.size w w' := by
  unfold maxLen at hm
  go_enter Try.func5, Try.ntmps5
  go_wp2_with fail
  refine (works_any w).mono ?_
  rintro e w1 ⟨rfl, hb1⟩
  go_wp2_with fail
  go_ret
  exact ⟨rfl, hb1⟩

set_option maxHeartbeats 3200000 in
theorem spansSettle_small (base : Int) (A : Option Addr) (n c : Nat) (xs : List Int) (w : World) (hn : xs.length = n) (h : n ≤ 200) (hr : Ri .u32 w w.heap.size A xs) (hxs : ∀ x ∈ xs, 0 ≤ x ∧ x < 4294967296) (hB : 0 ≤ base ∧ base < 4294967296) :
    Calls Try.prog 5 #[.int .u32 base, .slice A n c] w fun e w' => e = .returned (.bool true) ∧ Below w.heap.size w w' := by
  have HN := Lib.hid hn
  have HX := Lib.hid hxs
  clear hn hxs
  go_enter Try.func5, Try.ntmps5
  go_wp2_with fail
  refine (filled_any base A n c xs w HN.out (by omega) hr HX.out hB).mono ?_
  rintro e w1 ⟨rfl, hset1, hb1⟩
  obtain ⟨f, hf⟩ : ∃ f, f = inB xs := ⟨_, rfl⟩
  rw [← hf] at hset1
  have hw : Win f := hset1.win
  have HF := Lib.hid hf
  clear hf
  go_wp2_with fail
  refine (count_any hset1).mono ?_
  rintro e w2 ⟨rfl, rfl⟩
  have hc4 := cnt_le (f := f) 4096
  obtain ⟨cf, hcf⟩ : ∃ cf, cf = cnt f 4096 := ⟨_, rfl⟩
  rw [← hcf] at hc4 ⊢
  have HCF := Lib.hid hcf
  clear hcf
  go_wp2_with fail
  refine (settle_any hset1).mono ?_
  rintro e w2 ⟨rfl, hset2, ht2⟩
  have hb2 := hb1.trans (ht2.below (B := w.heap.size) (by simp) hb1.size)
  have hs := rnl_spec hw
  have hcs := cnt_shr hw (rnl f) hs.2.1
  rw [← HCF.out] at hcs
  have hag := rnl_again hw
  obtain ⟨r, hr'⟩ : ∃ r, r = rnl f := ⟨_, rfl⟩
  rw [← hr'] at hs hcs hag hset2 ⊢
  have hr4 := hs.1
  have HS := Lib.hid hs.2
  have HCS := Lib.hid hcs
  have HAG := Lib.hid hag
  have hrb2 := hr.below hb2
  clear hs hcs hag hr' ht2 hb1 hset1
  go_wp2_with fail
  go_loop [8] (fun i => ∃ k : Nat, 1 ≤ k ∧ k ≤ r + 1 ∧ i = .int .i64 k) (fun i => r + 1 - (intOf i).toNat)
  case atStart => exact ⟨1, by omega, by omega, rfl⟩
  case round =>
    obtain ⟨k, hk1, hk2, rfl⟩ := hrel
    by_cases hlt : k ≤ r
    · have hin : inB xs (k : Int).toNat = true := by rw [Int.toNat_natCast, ← HF.out]; exact HS.out.1 k hk1 hlt
      have hha := sh_dst hw hB r k hr4 (by omega)
      rw [decide_eq_false (show ¬ r < k by omega), Bool.false_and] at hha
      have HIN := Lib.hid hin
      have HHA := Lib.hid hha
      clear hin hha
      go_wp2_with fail
      refine (within_law A n c _ xs (k : Int) w2 HN.out (by omega) hrb2 (by omega)).mono ?_
      rintro e w3 ⟨rfl, rfl⟩
      rw [HIN.out]
      go_wp2_with fail
      refine (has_any ((base + (k : Int)) % 4294967296) hset2 (by omega)).mono ?_
      rintro e w3 ⟨rfl, rfl⟩
      rw [HHA.out]
      go_wp2_with fail
      go_round
      case rel => exact ⟨k + 1, by omega, by omega, by go_num⟩
      case measure => simp [intOf]; omega
    · obtain rfl : k = r + 1 := by omega
      clear hlt hk1 hk2
      go_wp2_with fail
      have HO1 : Hid (inB xs ((r : Int) + 1).toNat = false) := Lib.hid (by rw [show ((r : Int) + 1).toNat = r + 1 by omega, ← HF.out]; exact HS.out.2)
      refine (within_law A n c _ xs ((r : Int) + 1) w2 HN.out (by omega) hrb2 (by omega)).mono ?_
      rintro e w3 ⟨rfl, rfl⟩
      rw [HO1.out]
      go_wp2_with fail
      refine (base_any hset2).mono ?_
      rintro e w3 ⟨rfl, rfl⟩
      go_wp2_with fail
      refine (count_any hset2).mono ?_
      rintro e w3 ⟨rfl, rfl⟩
      obtain ⟨c2, hc2⟩ : ∃ c2, c2 = cnt (shF f r) 4096 := ⟨_, rfl⟩
      have hcd : ((c2 : Int) != (cf : Int) - (r : Int)) = false := by have := HCS.out; rw [← hc2] at this; simp; omega
      rw [← hc2]
      clear hc2
      go_wp2_with fail
      clear hcd
      refine (settle_any hset2).mono ?_
      rintro e w3 ⟨rfl, hset3, ht3⟩
      rw [HAG.out, sh_zero hset2.win, mod_add, show base + (r : Int) + ((0 : Nat) : Int) = base + r by omega] at hset3
      rw [HAG.out]
      have hb3 := hb2.trans (ht3.below (B := w.heap.size) (by simp) hb2.size)
      have hrb3 := hr.below hb3
      clear ht3 hset2 hb2 hrb2
      go_wp2_with fail
      go_loop [9] (fun i => ∃ k : Nat, k ≤ n ∧ i = .int .i64 k) (fun i => n - (intOf i).toNat)
      case atStart => exact ⟨0, by omega, rfl⟩
      case round =>
        obtain ⟨k, hk, rfl⟩ := hrel
        by_cases hlt : k < n
        · have hl : xs ≠ [] := by intro e; have := HN.out; rw [e] at this; simp at this; omega
          obtain ⟨b, o, rfl, hb, hc⟩ := hrb3.at_ hl
          have hkl : k < xs.length := by rw [HN.out]; exact hlt
          have a1 := hc k hkl
          have hy0 := HX.out _ (List.getElem_mem hkl)
          have hym : xs[k] ∈ xs := List.getElem_mem hkl
          obtain ⟨y, hy⟩ : ∃ y, y = xs[k] := ⟨_, rfl⟩
          rw [← hy] at a1 hy0 hym
          have HM := Lib.hid hym
          clear hc hy hl hym
          rcases (show y ≤ r ∨ ((r : Int) < y ∧ y ≤ 4096) ∨ ((r : Int) < y ∧ 4096 < y) by omega) with hy1 | ⟨hy1, hy2⟩ | ⟨hy1, hy2⟩
          · go_wp2_with fail
            go_round
            case rel => exact ⟨k + 1, by omega, by go_num⟩
            case measure => simp [intOf]; omega
          · have hha := sh_dst hw hB r y.toNat hr4 (by omega)
            rw [decide_eq_true (show r < y.toNat by omega), Bool.true_and, show ((y.toNat : Nat) : Int) = y by omega] at hha
            have hin : f y.toNat = true := by
              rw [HF.out]
              unfold inB inW
              have : (xs.any fun x => x == (y.toNat : Int)) = true := List.any_eq_true.2 ⟨y, HM.out, by simp; omega⟩
              rw [this]; simp; omega
            have HHA := Lib.hid (hha.trans hin)
            clear hha hin
            go_wp2_with fail
            refine (has_any ((base + y) % 4294967296) hset3 (by omega)).mono ?_
            rintro e w4 ⟨rfl, rfl⟩
            rw [HHA.out]
            go_wp2_with fail
            go_round
            case rel => exact ⟨k + 1, by omega, by go_num⟩
            case measure => simp [intOf]; omega
          · go_wp2_with fail
            go_round
            case rel => exact ⟨k + 1, by omega, by go_num⟩
            case measure => simp [intOf]; omega
        · obtain rfl : k = n := by omega
          have hha : shF f r (dst ((base + (r : Int)) % 4294967296) ((base + (r : Int) + 1) % 4294967296)) = false := by
            have e : dst ((base + (r : Int)) % 4294967296) ((base + (r : Int) + 1) % 4294967296) = 1 := by unfold dst; omega
            rw [e, sh_at _ _ (by omega), Nat.add_comm]
            exact HS.out.2
          have HHA := Lib.hid hha
          clear hha
          go_wp2_with fail
          refine (base_any hset3).mono ?_
          rintro e w4 ⟨rfl, rfl⟩
          go_wp2_with fail
          refine (has_any ((base + (r : Int) + 1) % 4294967296) hset3 (by omega)).mono ?_
          rintro e w4 ⟨rfl, rfl⟩
          rw [HHA.out]
          go_wp2_with fail
          refine (works_any _).mono ?_
          rintro e w5 ⟨rfl, hb5⟩
          go_wp2_with fail
          go_ret
          exact ⟨rfl, below_then hb3 (Nat.le_refl _) hb5⟩
end Go.Proofs.Ytmalmpdopifadaa
