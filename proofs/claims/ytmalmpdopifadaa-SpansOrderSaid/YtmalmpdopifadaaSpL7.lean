/-
  Layer 4 (spans): SpansMove, walked.
-/
import Derived.Test.YtmalmpdopifadaaSpL6
namespace Go.Proofs.Ytmalmpdopifadaa
open Go.RowKit
set_option linter.unusedVariables false

theorem mv_spec {f : Nat → Bool} (hw : Win f) {d : Nat} (hd : inW d = true) : d ≤ mvN f d ∧ mvN f d ≤ 4096 ∧ (∀ k, d < k → k ≤ mvN f d → f k = true) ∧ f (mvN f d + 1) = false := by
  rw [mv_in hd]
  have hd1 : 1 ≤ d ∧ d ≤ 4096 := by unfold inW at hd; simpa using hd
  have hs := rnl_spec (win_sh hw d)
  have h1 : ∀ k, d < k → k ≤ d + rnl (shF f d) → f k = true := fun k h1 h2 => by
    have := hs.2.1 (k - d) (by omega) (by omega)
    rw [sh_at _ _ (by omega), show k - d + d = k by omega] at this
    exact this
  refine ⟨by omega, ?_, h1, ?_⟩
  · by_cases h0 : rnl (shF f d) = 0
    · omega
    · exact (hw _ (h1 (d + rnl (shF f d)) (by omega) (Nat.le_refl _))).2
  · have := hs.2.2
    rw [sh_at _ _ (by omega)] at this
    rw [← this]
    congr 1
    omega

theorem move_stay {g m : Nat} {B : Int} {f : Nat → Bool} {w : World} (x : Int) (h : SpSet w g m B f) (hx : 0 ≤ x ∧ x < 4294967296) (hi : inW (dst B x) = false) :
    Calls Try.prog 18 #[.pointer (some ⟨g, 0, none⟩), .int .u32 x] w fun e w' => e = .returned (.int .i64 0) ∧ SpSet w' g m B f ∧ Tw [g, m] w w' :=
  (move_any x h hx).mono fun e w' ⟨he, hs, ht⟩ => by
    rw [mv_out hi] at he hs
    have hB := h.base
    rw [sh_zero h.win, show (B + ((0 : Nat) : Int)) % 4294967296 = B by omega] at hs
    exact ⟨he, hs, ht⟩
theorem move_to {g m : Nat} {B : Int} {f : Nat → Bool} {w : World} (x : Int) (d : Nat) (h : SpSet w g m B f) (hx : 0 ≤ x ∧ x < 4294967296) (hd : dst B x = d) :
    Calls Try.prog 18 #[.pointer (some ⟨g, 0, none⟩), .int .u32 x] w fun e w' => e = .returned (.int .i64 (mvN f d : Nat)) ∧ SpSet w' g m ((B + (mvN f d : Nat)) % 4294967296) (shF f (mvN f d)) ∧ Tw [g, m] w w' := by
  rw [← hd]; exact move_any x h hx

set_option maxHeartbeats 1600000 in
theorem spansMove_big (base to : Int) (A : Option Addr) (n c : Nat) (w : World) (h : 200 < n) (hm : n ≤ maxLen) :
    Calls Try.prog 7 #[.int .u32 base, .slice A n c, .int .u32 to] w fun e w' => e = .returned (.bool true) ∧ Below w.heap.size w w' := by
  unfold maxLen at hm
  go_enter Try.func7, Try.ntmps7
  go_wp2_with fail
  refine (works_any w).mono ?_
  rintro e w1 ⟨rfl, hb1⟩
  go_wp2_with fail
  go_ret
  exact ⟨rfl, hb1⟩

set_option maxHeartbeats 3200000 in
theorem spansMove_no (base to : Int) (A : Option Addr) (n c : Nat) (xs : List Int) (w : World) (hn : xs.length = n) (h : n ≤ 200) (hr : Ri .u32 w w.heap.size A xs) (hxs : ∀ x ∈ xs, 0 ≤ x ∧ x < 4294967296) (hB : 0 ≤ base ∧ base < 4294967296) (hT : 0 ≤ to ∧ to < 4294967296)
    (hno : to < 1 ∨ 4096 < to) :
    Calls Try.prog 7 #[.int .u32 base, .slice A n c, .int .u32 to] w fun e w' => e = .returned (.bool true) ∧ Below w.heap.size w w' := by
  have HN := Lib.hid hn
  have HX := Lib.hid hxs
  clear hn hxs
  have hd : dst base ((base + to) % 4294967296) = to.toNat := by unfold dst; omega
  have HD := Lib.hid hd
  clear hd
  rcases (show to = 0 ∨ (0 < to ∧ 4096 < to) by omega) with rfl | ⟨ht0, ht1⟩
  all_goals
    clear hno
    go_enter Try.func7, Try.ntmps7
    go_wp2_with fail
    refine (filled_any base A n c xs w HN.out (by omega) hr HX.out hB).mono ?_
    rintro e w1 ⟨rfl, hset1, hb1⟩
    obtain ⟨f, hf⟩ : ∃ f, f = inB xs := ⟨_, rfl⟩
    rw [← hf] at hset1
    have hw : Win f := hset1.win
    clear hf
    have hl4 := runs_len f (win_zero hw) 4096
    obtain ⟨l, hl⟩ : ∃ l, l = (runsTo f 4096).length := ⟨_, rfl⟩
    rw [← hl] at hl4
    have HL4 := Lib.hid hl
    clear hl
    go_wp2_with fail
    refine (gaps_any 4096 hset1 (by omega)).mono ?_
    rintro e w2 ⟨v, rfl, hog, hb⟩
    rw [gaps_all hw] at hog
    obtain ⟨A2, c2, rfl, _, _, hrg2⟩ := hog.form
    rw [← HL4.out]
    have hset2 := hset1.below hb
    have hb2 := below_then hb1 (Nat.le_refl _) hb
    have hsz1 : w.heap.size + 1 < w1.heap.size := hset1.blk.lt
    clear hog hb hb1 hset1
    go_wp2_with fail
    refine (move_stay _ hset2 (by omega) (by unfold inW dst; simp <;> omega)).mono ?_
    rintro e w3 ⟨rfl, hset3, ht3⟩
    have hb3 := hb2.trans (ht3.below (B := w.heap.size) (by simp) hb2.size)
    have hrg3 := hrg2.tw ht3 (by simp; omega) (Nat.le_refl _)
    have hsz3 := ht3.size
    have hsz2 : w.heap.size + 1 < w2.heap.size := hset2.blk.lt
    clear ht3 hset2 hb2 hrg2
    go_wp2_with fail
    refine (base_any hset3).mono ?_
    rintro e w4 ⟨rfl, rfl⟩
    go_wp2_with fail
    refine (gaps_any 4096 hset3 (by omega)).mono ?_
    rintro e w4 ⟨v, rfl, hog, hb⟩
    rw [gaps_all hw] at hog
    obtain ⟨A4, c4, rfl, _, _, hrg4⟩ := hog.form
    rw [← HL4.out]
    have hrg4' := hrg3.tw (Tw.of_below hb []) (by simp) (by omega)
    have hb4 := below_then hb3 (Nat.le_refl _) hb
    clear hog hb hb3 hrg3
    go_wp2_with fail
    refine (same_any A4 A2 l c4 c2 _ _ _ _ _ w4 HL4.out.symm hl4 hrg4 hrg4').mono ?_
    rintro e w5 ⟨rfl, q, rfl⟩
    go_wp2_with fail
    refine (works_any _).mono ?_
    rintro e w6 ⟨rfl, hb6⟩
    go_wp2_with fail
    go_ret
    exact ⟨rfl, below_then (below_drewN hb4 q) (Nat.le_refl _) hb6⟩

set_option maxHeartbeats 3200000 in
theorem spansMove_yes (base to : Int) (A : Option Addr) (n c : Nat) (xs : List Int) (w : World) (hn : xs.length = n) (h : n ≤ 200) (hr : Ri .u32 w w.heap.size A xs) (hxs : ∀ x ∈ xs, 0 ≤ x ∧ x < 4294967296) (hB : 0 ≤ base ∧ base < 4294967296) (hT : 1 ≤ to ∧ to ≤ 4096) :
    Calls Try.prog 7 #[.int .u32 base, .slice A n c, .int .u32 to] w fun e w' => e = .returned (.bool true) ∧ Below w.heap.size w w' := by
  have HN := Lib.hid hn
  have HX := Lib.hid hxs
  clear hn hxs
  obtain ⟨d, rfl⟩ : ∃ d : Nat, to = d := ⟨to.toNat, by omega⟩
  have hdw : Hid (inW d = true) := Lib.hid (by unfold inW; simp; omega)
  have HD : Hid (dst base ((base + (d : Int)) % 4294967296) = d) := Lib.hid (dst_add hB d (by omega))
  have hd1 : 1 ≤ d ∧ d ≤ 4096 := by omega
  clear hT
  go_enter Try.func7, Try.ntmps7
  go_wp2_with fail
  refine (filled_any base A n c xs w HN.out (by omega) hr HX.out hB).mono ?_
  rintro e w1 ⟨rfl, hset1, hb1⟩
  obtain ⟨f, hf⟩ : ∃ f, f = inB xs := ⟨_, rfl⟩
  rw [← hf] at hset1
  have hw : Win f := hset1.win
  have HF := Lib.hid hf
  clear hf
  go_wp2_with fail
  refine (gaps_any 4096 hset1 (by omega)).mono ?_
  rintro e w2 ⟨v, rfl, hog, hb⟩
  obtain ⟨A2, c2, rfl, _, _, _⟩ := hog.form
  have hset2 := hset1.below hb
  have hb2 := below_then hb1 (Nat.le_refl _) hb
  clear hog hb hb1 hset1
  go_wp2_with fail
  refine (move_to _ d hset2 (by omega) HD.out).mono ?_
  rintro e w3 ⟨rfl, hset3, ht3⟩
  have hs := mv_spec hw hdw.out
  obtain ⟨r, hr'⟩ : ∃ r, r = mvN f d := ⟨_, rfl⟩
  rw [← hr'] at hs hset3 ⊢
  have hr4 := hs.2.1
  have hrd := hs.1
  have HS := Lib.hid hs.2.2
  have hb3 := hb2.trans (ht3.below (B := w.heap.size) (by simp) hb2.size)
  clear hr' hs ht3 hset2 hb2
  have hrb3 := hr.below hb3
  have hrdd : decide (r < d) = false := decide_eq_false (by omega)
  go_wp2_with fail
  refine (base_any hset3).mono ?_
  rintro e w4 ⟨rfl, rfl⟩
  go_wp2_with fail
  go_loop [10] (fun i => ∃ k : Nat, d + 1 ≤ k ∧ k ≤ r + 1 ∧ i = .int .i64 k) (fun i => r + 1 - (intOf i).toNat)
  case atStart => exact ⟨d + 1, by omega, by omega, by go_num⟩
  case round =>
    obtain ⟨k, hk1, hk2, rfl⟩ := hrel
    by_cases hlt : k ≤ r
    · have hin : inB xs (k : Int).toNat = true := by rw [Int.toNat_natCast, ← HF.out]; exact HS.out.1 k (by omega) hlt
      have HIN := Lib.hid hin
      clear hin
      go_wp2_with fail
      refine (within_law A n c _ xs (k : Int) w3 HN.out (by omega) hrb3 (by omega)).mono ?_
      rintro e w4 ⟨rfl, rfl⟩
      rw [HIN.out]
      go_wp2_with fail
      go_round
      case rel => exact ⟨k + 1, by omega, by omega, by go_num⟩
      case measure => simp [intOf]; omega
    · obtain rfl : k = r + 1 := by omega
      clear hlt hk1 hk2
      have HO1 : Hid (inB xs ((r : Int) + 1).toNat = false) := Lib.hid (by rw [show ((r : Int) + 1).toNat = r + 1 by omega, ← HF.out]; exact HS.out.2)
      go_wp2_with fail
      refine (within_law A n c _ xs ((r : Int) + 1) w3 HN.out (by omega) hrb3 (by omega)).mono ?_
      rintro e w4 ⟨rfl, rfl⟩
      rw [HO1.out]
      clear hrb3
      go_wp2_with fail
      go_loopw [11] (fun i wr => ∃ k : Nat, k ≤ n ∧ i = .int .i64 k ∧ SpSet wr (w.heap.size + 1) w.heap.size ((base + (r : Int)) % 4294967296) (shF f r) ∧ Below w.heap.size w wr) (fun i _ => n - (intOf i).toNat)
      case atStart => exact ⟨0, by omega, rfl, hset3, hb3⟩
      case round =>
        obtain ⟨k, hk, rfl, hset, hbel⟩ := hrel
        by_cases hlt : k < n
        · have hl : xs ≠ [] := by intro e; have := HN.out; rw [e] at this; simp at this; omega
          obtain ⟨b, o, rfl, hb, hc⟩ := (hr.below hbel).at_ hl
          have hkl : k < xs.length := by rw [HN.out]; exact hlt
          have a1 := hc k hkl
          have hy0 := HX.out _ (List.getElem_mem hkl)
          have hym : xs[k] ∈ xs := List.getElem_mem hkl
          obtain ⟨y, hy⟩ : ∃ y, y = xs[k] := ⟨_, rfl⟩
          rw [← hy] at a1 hy0 hym
          have hha := sh_dst hw hB r y.toNat hr4 (by omega)
          rw [show ((y.toNat : Nat) : Int) = y by omega] at hha
          have hin : f y.toNat = inW y.toNat := by
            rw [HF.out]
            unfold inB
            have : (xs.any fun x => x == (y.toNat : Int)) = true := List.any_eq_true.2 ⟨y, hym, by simp; omega⟩
            rw [this, Bool.and_true]
          rw [hin] at hha
          have hu : IntKind.u32.wrap (base + y) = (base + y) % 4294967296 := wrap_u32 _
          have hur : IntKind.u32.wrap (r : Int) = (r : Int) := by rw [wrap_u32]; omega
          clear hc hy hl hym hin
          rcases (show y ≤ r ∨ ((r : Int) < y ∧ y ≤ 4096) ∨ ((r : Int) < y ∧ 4096 < y) by omega) with hy1 | ⟨hy1, hy2⟩ | ⟨hy1, hy2⟩
          · have hv : (decide (r < y.toNat) && inW y.toNat) = false := by rw [decide_eq_false (by omega)]; rfl
            rw [hv] at hha
            have HHAS : Hid (∀ q, Calls Try.prog 14 #[.pointer (some ⟨w.heap.size + 1, 0, none⟩), .int .u32 ((base + y) % 4294967296)] (wr.drewN q) fun e w' => e = .returned (.bool false) ∧ wr.drewN q = w') :=
              Lib.hid (fun q => by have := has_any ((base + y) % 4294967296) (hset.drewN q) (by omega); rw [hha] at this; exact this)
            have hyd : decide ((r : Int) < y) = false := decide_eq_false (by omega)
            clear hha hv hy1
            go_wp2_with fail
            go_quiet ((go_at_call 14; exact still_left (HHAS.out _)))
            clear hu hur
            go_wp2_with fail
            go_roundw
            case rel => exact ⟨k + 1, by omega, by go_num, hset.drewN _, below_drewN hbel _⟩
            case measure => simp [intOf]; omega
          · have hv : (decide (r < y.toNat) && inW y.toNat) = true := by rw [decide_eq_true (by omega)]; unfold inW; simp; omega
            rw [hv] at hha
            have HHAS : Hid (∀ q, Calls Try.prog 14 #[.pointer (some ⟨w.heap.size + 1, 0, none⟩), .int .u32 ((base + y) % 4294967296)] (wr.drewN q) fun e w' => e = .returned (.bool true) ∧ wr.drewN q = w') :=
              Lib.hid (fun q => by have := has_any ((base + y) % 4294967296) (hset.drewN q) (by omega); rw [hha] at this; exact this)
            have hyd : decide ((r : Int) < y) = true := decide_eq_true (by omega)
            have hye : decide (y ≤ 4096) = true := decide_eq_true (by omega)
            clear hha hv hy1 hy2
            go_wp2_with fail
            go_quiet ((go_at_call 14; exact still_left (HHAS.out _)))
            clear hu hur
            go_wp2_with fail
            go_roundw
            case rel => exact ⟨k + 1, by omega, by go_num, hset.drewN _, below_drewN hbel _⟩
            case measure => simp [intOf]; omega
          · have hv : (decide (r < y.toNat) && inW y.toNat) = false := by unfold inW; rw [decide_eq_false (show ¬ y.toNat ≤ 4096 by omega), Bool.and_false, Bool.and_false]
            rw [hv] at hha
            have HHAS : Hid (∀ q, Calls Try.prog 14 #[.pointer (some ⟨w.heap.size + 1, 0, none⟩), .int .u32 ((base + y) % 4294967296)] (wr.drewN q) fun e w' => e = .returned (.bool false) ∧ wr.drewN q = w') :=
              Lib.hid (fun q => by have := has_any ((base + y) % 4294967296) (hset.drewN q) (by omega); rw [hha] at this; exact this)
            have hyd : decide ((r : Int) < y) = true := decide_eq_true (by omega)
            have hye : decide (y ≤ 4096) = false := decide_eq_false (by omega)
            clear hha hv hy1 hy2
            go_wp2_with fail
            go_quiet ((go_at_call 14; exact still_left (HHAS.out _)))
            clear hu hur
            go_wp2_with fail
            go_roundw
            case rel => exact ⟨k + 1, by omega, by go_num, hset.drewN _, below_drewN hbel _⟩
            case measure => simp [intOf]; omega
        · obtain rfl : k = n := by omega
          go_wp2_with fail
          refine (works_any _).mono ?_
          rintro e w5 ⟨rfl, hb5⟩
          go_wp2_with fail
          go_ret
          exact ⟨rfl, below_then hbel (Nat.le_refl _) hb5⟩
end Go.Proofs.Ytmalmpdopifadaa
