/-
  Layer 4 (spans): SpansGaps, walked.
-/
import Derived.Test.YtmalmpdopifadaaSpL7
import Derived.Test.YtmalmpdopifadaaGrowV
namespace Go.Proofs.Ytmalmpdopifadaa
open Go.RowKit
set_option linter.unusedVariables false

set_option maxHeartbeats 1600000 in
theorem spansGaps_big (base : Int) (A : Option Addr) (n c : Nat) (w : World) (h : 200 < n) (hm : n ≤ maxLen) :
    Calls Try.prog 4 #[.int .u32 base, .slice A n c] w fun e w' => e = .returned (.bool true) ∧ Below w.heap.size w w' := by
  unfold maxLen at hm
  go_enter Try.func4, Try.ntmps4
  go_wp2_with fail
  refine (works_any w).mono ?_
  rintro e w1 ⟨rfl, hb1⟩
  go_wp2_with fail
  go_ret
  exact ⟨rfl, hb1⟩

theorem sumR_take {L : List (Nat × Nat)} {k : Nat} (h : k < L.length) : sumR (L.take (k + 1)) = sumR (L.take k) + (L[k].2 + 1 - L[k].1) := by
  rw [List.take_succ_eq_append_getElem h, sumR_snoc]
theorem sumR_append (A M : List (Nat × Nat)) : sumR (A ++ M) = sumR A + sumR M := by simp [sumR]
theorem sumR_le {f : Nat → Bool} {L : List (Nat × Nat)} (ha : Apt f 4096 L) (j : Nat) : sumR (L.take j) ≤ 4096 := by
  have h1 := sumR_append (L.take j) (L.drop j)
  rw [List.take_append_drop] at h1
  have h2 := ha.2.2.2
  have h3 := cnt_le (f := f) 4096
  omega
/-- The end of the run ahead of k, as the law has it. -/
def lastE (L : List (Nat × Nat)) : Nat → Int
  | 0 => -1
  | k + 1 => ((L.getD k (0, 0)).2 : Nat)
theorem lastE_at {f : Nat → Bool} {L : List (Nat × Nat)} (ha : Apt f 4096 L) {k : Nat} (h : k < L.length) : -1 ≤ lastE L k ∧ lastE L k + 2 ≤ (L[k].1 : Int) ∧ lastE L (k + 1) = (L[k].2 : Int) := by
  refine ⟨?_, ?_, by simp [lastE, h]⟩
  · cases k <;> simp [lastE] <;> omega
  · cases k with
    | zero =>
      have := (ha.1 0 L[0] (List.getElem?_eq_getElem h)).1
      show (-1 : Int) + 2 ≤ _
      omega
    | succ k =>
      have hk : k < L.length := by omega
      have := ha.2.1 k L[k] L[k + 1] (List.getElem?_eq_getElem hk) (List.getElem?_eq_getElem h)
      have e : lastE L (k + 1) = (L[k].2 : Int) := by simp [lastE, hk]
      rw [e]
      omega

set_option maxRecDepth 100000 in
set_option maxHeartbeats 3200000 in
theorem spansGaps_small (base : Int) (A : Option Addr) (n c : Nat) (xs : List Int) (w : World) (hn : xs.length = n) (h : n ≤ 200) (hr : Ri .u32 w w.heap.size A xs) (hxs : ∀ x ∈ xs, 0 ≤ x ∧ x < 4294967296) (hB : 0 ≤ base ∧ base < 4294967296) :
    Calls Try.prog 4 #[.int .u32 base, .slice A n c] w fun e w' => e = .returned (.bool true) ∧ Below w.heap.size w w' := by
  have HN := Lib.hid hn
  have HX := Lib.hid hxs
  clear hn hxs
  go_enter Try.func4, Try.ntmps4
  go_wp2_with fail
  refine (filled_any base A n c xs w HN.out (by omega) hr HX.out hB).mono ?_
  rintro e w1 ⟨rfl, hset1, hb1⟩
  obtain ⟨f, hf⟩ : ∃ f, f = inB xs := ⟨_, rfl⟩
  rw [← hf] at hset1
  have hw : Win f := hset1.win
  have HF := Lib.hid hf
  clear hf
  go_wp2_with fail
  refine (gaps_any 4096 hset1 (by omega)).mono ?_
  rintro e w2 ⟨v, rfl, hog, hb⟩
  rw [gaps_all hw] at hog
  have hapt := apt (win_zero hw) 4096
  have hl4 := runs_len f (win_zero hw) 4096
  obtain ⟨G, hG⟩ : ∃ G, G = runsTo f 4096 := ⟨_, rfl⟩
  rw [← hG] at hog hapt hl4
  obtain ⟨A2, c2, rfl, hlc2, hcm2, hrg2⟩ := hog.form
  obtain ⟨l, hl⟩ : ∃ l, l = G.length := ⟨_, rfl⟩
  rw [← hl] at hl4 hlc2 ⊢
  have hset2 := hset1.below hb
  have hb2 := below_then hb1 (Nat.le_refl _) hb
  have HL := Lib.hid hl
  have HA := Lib.hid hapt
  clear hl hapt hG hog hb hb1 hset1
  have hrb2 := hr.below hb2
  go_wp2_with fail
  go_loop [7, 8, 9] (fun t u i => ∃ (k s : Nat) (z : Int), k ≤ l ∧ i = .int .i64 k ∧ t = .int .i64 s ∧ Hid (s = sumR (G.take k)) ∧ s ≤ 4096 ∧ u = .int .i64 z ∧ Hid (z = lastE G k)) (fun _ _ i => l - (intOf i).toNat)
  case atStart => exact ⟨0, 0, -1, Nat.zero_le _, rfl, rfl, Lib.hid rfl, by omega, rfl, Lib.hid rfl⟩
  case round =>
    obtain ⟨k, s, z, hk, rfl, rfl, HS, hs4, rfl, HZ⟩ := hrel
    by_cases hlt : k < l
    · have hkl : k < G.length := by rw [← HL.out]; exact hlt
      have hne : G ≠ [] := by intro e; rw [e] at hkl; simp at hkl
      obtain ⟨b, o, rfl, hlo, hhi, hc⟩ := hrg2.at_ hne
      obtain ⟨a1, a2⟩ := hc k hkl
      have hp := HA.out.1 k G[k] (List.getElem?_eq_getElem hkl)
      have hz := lastE_at HA.out hkl
      have hsum := sumR_take hkl
      obtain ⟨p1, hp1⟩ : ∃ p, p = G[k].1 := ⟨_, rfl⟩
      obtain ⟨p2, hp2⟩ : ∃ p, p = G[k].2 := ⟨_, rfl⟩
      rw [← hp1] at a1 hp hz hsum
      rw [← hp2] at a2 hp hz hsum
      obtain ⟨g1, g2, g3, g4⟩ := hp
      obtain ⟨z1, z2, z3⟩ := hz
      rw [← HZ.out] at z1 z2
      rw [← HS.out] at hsum
      have HSUM := Lib.hid hsum
      have HZ3 := Lib.hid z3
      have HG4 := Lib.hid g4
      clear hc hp1 hp2 z3 hsum g4 hne
      have hs42 : s + (p2 + 1 - p1) ≤ 4096 := by rw [← HSUM.out]; exact sumR_le HA.out _
      have b1 : decide ((p1 : Int) < z + 2) = false := decide_eq_false (by omega)
      have b2 : decide (p2 < p1) = false := decide_eq_false (by omega)
      have b3 : decide (4096 < (p2 : Int)) = false := decide_eq_false (by omega)
      have b4 : decide ((p1 : Int) < 1) = false := decide_eq_false (by omega)
      go_wp2_with fail
      go_loop [12] (fun i => ∃ j : Nat, p1 ≤ j ∧ j ≤ p2 + 1 ∧ i = .int .i64 j) (fun i => p2 + 1 - (intOf i).toNat)
      case atStart => exact ⟨p1, by omega, by omega, rfl⟩
      case round =>
        obtain ⟨j, hj1, hj2, rfl⟩ := hrel
        by_cases hjl : j ≤ p2
        · have hfj := HG4.out j hj1 hjl
          have hin : inB xs (j : Int).toNat = true := by rw [Int.toNat_natCast, ← HF.out]; exact hfj
          have hha : f (dst base ((base + (j : Int)) % 4294967296)) = true := by rw [dst_add hB j (by omega)]; exact hfj
          have HIN := Lib.hid hin
          have HHA := Lib.hid hha
          clear hin hha hfj
          go_wp2_with fail
          refine (within_law A n c _ xs (j : Int) _ HN.out (by omega) hrb2 (by omega)).mono ?_
          rintro e w3 ⟨rfl, rfl⟩
          rw [HIN.out]
          go_wp2_with fail
          refine (has_any ((base + (j : Int)) % 4294967296) hset2 (by omega)).mono ?_
          rintro e w3 ⟨rfl, rfl⟩
          rw [HHA.out]
          go_wp2_with fail
          go_round
          case rel => exact ⟨j + 1, by omega, by omega, by go_num⟩
          case measure => simp [intOf]; omega
        · obtain rfl : j = p2 + 1 := by omega
          clear hjl hj1 hj2 b1 b2 b3 b4
          go_wp2_with fail
          go_round
          case rel => exact ⟨k + 1, s + (p2 + 1 - p1), p2, by omega, by go_num, by go_num, Lib.hid HSUM.out.symm, hs42, rfl, Lib.hid HZ3.out.symm⟩
          case measure => simp [intOf]; omega
    · obtain rfl : k = l := by omega
      have ht : G.take k = G := List.take_of_length_le (by rw [HL.out]; exact Nat.le_refl _)
      rw [ht] at HS
      have hsc : s = cnt f 4096 := by rw [HS.out]; exact HA.out.2.2.2
      have hll : Hid ((G.getLast?.getD (0, 0)).2 = lst f 4096) := Lib.hid HA.out.2.2.1
      have HSC := Lib.hid hsc
      clear ht hsc HZ HS
      go_wp2_with fail
      go_loopw [13] (fun i wr => ∃ k : Nat, k ≤ n ∧ i = .int .i64 k ∧ SpSet wr (w.heap.size + 1) w.heap.size base f ∧ Below w.heap.size w wr ∧ Rg wr w1.heap.size w2.heap.size A2 G ∧ w2.heap.size ≤ wr.heap.size) (fun i _ => n - (intOf i).toNat)
      case atStart => exact ⟨0, by omega, rfl, hset2, hb2, hrg2, Nat.le_refl _⟩
      case round =>
        obtain ⟨j, hj, rfl, hset, hbel, hrg, hsz⟩ := hrel
        by_cases hjl : j < n
        · have hl : xs ≠ [] := by intro e; have := HN.out; rw [e] at this; simp at this; omega
          obtain ⟨b, o, rfl, hb, hc⟩ := (hr.below hbel).at_ hl
          have hkl : j < xs.length := by rw [HN.out]; exact hjl
          have a1 := hc j hkl
          have hy0 := HX.out _ (List.getElem_mem hkl)
          have hym : xs[j] ∈ xs := List.getElem_mem hkl
          obtain ⟨y, hy⟩ : ∃ y, y = xs[j] := ⟨_, rfl⟩
          rw [← hy] at a1 hy0 hym
          have hha : f (dst base ((base + y) % 4294967296)) = inW y.toNat := by
            have e : dst base ((base + y) % 4294967296) = y.toNat := by unfold dst; omega
            rw [e, HF.out]
            unfold inB
            have : (xs.any fun x => x == (y.toNat : Int)) = true := List.any_eq_true.2 ⟨y, hym, by simp; omega⟩
            rw [this, Bool.and_true]
          have hu : IntKind.u32.wrap (base + y) = (base + y) % 4294967296 := wrap_u32 _
          clear hc hy hl hym
          rcases (show y < 1 ∨ (1 ≤ y ∧ y ≤ 4096) ∨ (1 ≤ y ∧ 4096 < y) by omega) with hy1 | ⟨hy1, hy2⟩ | ⟨hy1, hy2⟩
          · have hv : inW y.toNat = false := by unfold inW; rw [decide_eq_false (show ¬ 1 ≤ y.toNat by omega)]; rfl
            rw [hv] at hha
            have HHAS : Hid (∀ q, Calls Try.prog 14 #[.pointer (some ⟨w.heap.size + 1, 0, none⟩), .int .u32 ((base + y) % 4294967296)] (wr.drewN q) fun e w' => e = .returned (.bool false) ∧ wr.drewN q = w') :=
              Lib.hid (fun q => by have := has_any ((base + y) % 4294967296) (hset.drewN q) (by omega); rw [hha] at this; exact this)
            have hyd : decide (1 ≤ y) = false := decide_eq_false (by omega)
            clear hha hv hy1
            go_wp2_with fail
            go_quiet ((go_at_call 14; exact still_left (HHAS.out _)))
            clear hu
            go_wp2_with fail
            go_roundw
            case rel => exact ⟨j + 1, by omega, by go_num, hset.drewN _, below_drewN hbel _, hrg.drewN _, hsz⟩
            case measure => simp [intOf]; omega
          · have hv : inW y.toNat = true := by unfold inW; simp; omega
            rw [hv] at hha
            have HHAS : Hid (∀ q, Calls Try.prog 14 #[.pointer (some ⟨w.heap.size + 1, 0, none⟩), .int .u32 ((base + y) % 4294967296)] (wr.drewN q) fun e w' => e = .returned (.bool true) ∧ wr.drewN q = w') :=
              Lib.hid (fun q => by have := has_any ((base + y) % 4294967296) (hset.drewN q) (by omega); rw [hha] at this; exact this)
            have hyd : decide (1 ≤ y) = true := decide_eq_true (by omega)
            have hye : decide (y ≤ 4096) = true := decide_eq_true (by omega)
            clear hha hv hy1 hy2
            go_wp2_with fail
            go_quiet ((go_at_call 14; exact still_left (HHAS.out _)))
            clear hu
            go_wp2_with fail
            go_roundw
            case rel => exact ⟨j + 1, by omega, by go_num, hset.drewN _, below_drewN hbel _, hrg.drewN _, hsz⟩
            case measure => simp [intOf]; omega
          · have hv : inW y.toNat = false := by unfold inW; rw [decide_eq_false (show ¬ y.toNat ≤ 4096 by omega), Bool.and_false]
            rw [hv] at hha
            have HHAS : Hid (∀ q, Calls Try.prog 14 #[.pointer (some ⟨w.heap.size + 1, 0, none⟩), .int .u32 ((base + y) % 4294967296)] (wr.drewN q) fun e w' => e = .returned (.bool false) ∧ wr.drewN q = w') :=
              Lib.hid (fun q => by have := has_any ((base + y) % 4294967296) (hset.drewN q) (by omega); rw [hha] at this; exact this)
            have hyd : decide (1 ≤ y) = true := decide_eq_true (by omega)
            have hye : decide (y ≤ 4096) = false := decide_eq_false (by omega)
            clear hha hv hy1 hy2
            go_wp2_with fail
            go_quiet ((go_at_call 14; exact still_left (HHAS.out _)))
            clear hu
            go_wp2_with fail
            go_roundw
            case rel => exact ⟨j + 1, by omega, by go_num, hset.drewN _, below_drewN hbel _, hrg.drewN _, hsz⟩
            case measure => simp [intOf]; omega
        · obtain rfl : j = n := by omega
          have hsetd : SpSet wr.drew (w.heap.size + 1) w.heap.size base f := hset.drewN 1
          rcases (show k = 0 ∨ 0 < k by omega) with rfl | hl0
          · have hll0 : (base + (lst f 4096 : Nat)) % 4294967296 = base := by
              have : G = [] := List.eq_nil_of_length_eq_zero HL.out.symm
              have h0 := hll.out
              rw [this] at h0
              rw [← h0]
              show (base + ((0 : Nat) : Int)) % 4294967296 = base
              omega
            have HLL := Lib.hid hll0
            clear hll0
            go_wp2_with fail
            refine wp_region_vals (by kernel_rfl) wr.heap.size [.slice A2 0 c2, .int .i64 0, .bool false, .bool false, undef, undef, undef, undef, undef, undef, undef, undef, undef, undef, undef, undef, undef, .bool false, .bool false, .slice A2 0 c2, .int .i64 0, .bool true, .bool true, .pointer (some ⟨w.heap.size + 1, 0, none⟩), .int .u32 base, .int .u32 base, .bool false, .bool false, .bool false] rfl (by kernel_rfl) ?_ ?_
            · refine ⟨?_, ?_, ?_, ?_, ?_, ?_, ?_, ?_, ?_, ?_, ?_, ?_, ?_, ?_, ?_, ?_, ?_, ?_, ?_, ?_, ?_, ?_, ?_, ?_, ?_, ?_, ?_, ?_, ?_, trivial⟩
              · intro listed a w1 hl hc
                have h6 : a.tmps[6]?.getD undef = .slice A2 0 c2 := (hc.was 6 (by kernel_rfl)).trans rfl
                refine does_value rfl rfl (.slice A2 0 c2) w1 ?_ (Grew.refl _ _) rfl
                clear hc hl
                go_simp
              · intro listed a w1 hl hc
                have h114 : a.tmps[114]?.getD undef = .slice A2 0 c2 := hc.dep hl 0 114 rfl (by kernel_rfl)
                refine does_value rfl rfl (.int .i64 0) w1 ?_ (Grew.refl _ _) rfl
                clear hc hl
                go_simp
              · intro listed a w1 hl hc
                have h115 : a.tmps[115]?.getD undef = .int .i64 0 := hc.dep hl 1 115 rfl (by kernel_rfl)
                refine does_value rfl rfl (.bool false) w1 ?_ (Grew.refl _ _) rfl
                clear hc hl
                go_simp
              · intro listed a w1 hl hc
                have h116 : a.tmps[116]?.getD undef = .bool false := hc.dep hl 2 116 rfl (by kernel_rfl)
                refine does_value rfl rfl (.bool false) w1 ?_ (Grew.refl _ _) rfl
                clear hc hl
                go_simp
              · intro listed a w1 hl hc
                exact does_skip (Grew.refl _) rfl (unwanted_at rfl rfl (hc.dep hl 3 117 rfl (by kernel_rfl))) rfl
              · intro listed a w1 hl hc
                exact does_skip (Grew.refl _) rfl (unwanted_at rfl rfl (hc.dep hl 3 117 rfl (by kernel_rfl))) rfl
              · intro listed a w1 hl hc
                exact does_skip (Grew.refl _) rfl (unwanted_at rfl rfl (hc.dep hl 3 117 rfl (by kernel_rfl))) rfl
              · intro listed a w1 hl hc
                exact does_skip (Grew.refl _) rfl (unwanted_at rfl rfl (hc.dep hl 3 117 rfl (by kernel_rfl))) rfl
              · intro listed a w1 hl hc
                exact does_skip (Grew.refl _) rfl (unwanted_at rfl rfl (hc.dep hl 3 117 rfl (by kernel_rfl))) rfl
              · intro listed a w1 hl hc
                exact does_skip (Grew.refl _) rfl (unwanted_at rfl rfl (hc.dep hl 3 117 rfl (by kernel_rfl))) rfl
              · intro listed a w1 hl hc
                exact does_skip (Grew.refl _) rfl (unwanted_at rfl rfl (hc.dep hl 3 117 rfl (by kernel_rfl))) rfl
              · intro listed a w1 hl hc
                exact does_skip (Grew.refl _) rfl (unwanted_at rfl rfl (hc.dep hl 3 117 rfl (by kernel_rfl))) rfl
              · intro listed a w1 hl hc
                exact does_skip (Grew.refl _) rfl (unwanted_at rfl rfl (hc.dep hl 3 117 rfl (by kernel_rfl))) rfl
              · intro listed a w1 hl hc
                exact does_skip (Grew.refl _) rfl (unwanted_at rfl rfl (hc.dep hl 3 117 rfl (by kernel_rfl))) rfl
              · intro listed a w1 hl hc
                exact does_skip (Grew.refl _) rfl (unwanted_at rfl rfl (hc.dep hl 3 117 rfl (by kernel_rfl))) rfl
              · intro listed a w1 hl hc
                exact does_skip (Grew.refl _) rfl (unwanted_at rfl rfl (hc.dep hl 3 117 rfl (by kernel_rfl))) rfl
              · intro listed a w1 hl hc
                exact does_skip (Grew.refl _) rfl (unwanted_at rfl rfl (hc.dep hl 3 117 rfl (by kernel_rfl))) rfl
              · intro listed a w1 hl hc
                have h117 : a.tmps[117]?.getD undef = .bool false := hc.dep hl 3 117 rfl (by kernel_rfl)
                have h130 : a.tmps[130]?.getD undef = undef := hc.dep hl 16 130 rfl (by kernel_rfl)
                refine does_value rfl rfl (.bool false) w1 ?_ (Grew.refl _ _) rfl
                clear hc hl
                go_simp
              · intro listed a w1 hl hc
                have h131 : a.tmps[131]?.getD undef = .bool false := hc.dep hl 17 131 rfl (by kernel_rfl)
                refine does_value rfl rfl (.bool false) w1 ?_ (Grew.refl _ _) rfl
                clear hc hl
                go_simp
              · intro listed a w1 hl hc
                have h6 : a.tmps[6]?.getD undef = .slice A2 0 c2 := (hc.was 6 (by kernel_rfl)).trans rfl
                refine does_value rfl (wanted_at rfl rfl (hc.dep hl 18 132 rfl (by kernel_rfl))) (.slice A2 0 c2) w1 ?_ (Grew.refl _ _) rfl
                clear hc hl
                go_simp
              · intro listed a w1 hl hc
                have h133 : a.tmps[133]?.getD undef = .slice A2 0 c2 := hc.dep hl 19 133 rfl (by kernel_rfl)
                refine does_value rfl (wanted_at rfl rfl (hc.dep hl 18 132 rfl (by kernel_rfl))) (.int .i64 0) w1 ?_ (Grew.refl _ _) rfl
                clear hc hl
                go_simp
              · intro listed a w1 hl hc
                have h134 : a.tmps[134]?.getD undef = .int .i64 0 := hc.dep hl 20 134 rfl (by kernel_rfl)
                refine does_value rfl (wanted_at rfl rfl (hc.dep hl 18 132 rfl (by kernel_rfl))) (.bool true) w1 ?_ (Grew.refl _ _) rfl
                clear hc hl
                go_simp
              · intro listed a w1 hl hc
                have h135 : a.tmps[135]?.getD undef = .bool true := hc.dep hl 21 135 rfl (by kernel_rfl)
                refine does_value rfl (wanted_at rfl rfl (hc.dep hl 18 132 rfl (by kernel_rfl))) (.bool true) w1 ?_ (Grew.refl _ _) rfl
                clear hc hl
                go_simp
              · intro listed a w1 hl hc
                have h5 : a.tmps[5]?.getD undef = .pointer (some ⟨w.heap.size + 1, 0, none⟩) := (hc.was 5 (by kernel_rfl)).trans rfl
                refine does_value rfl (wanted_at rfl rfl (hc.dep hl 22 136 rfl (by kernel_rfl))) (.pointer (some ⟨w.heap.size + 1, 0, none⟩)) w1 ?_ (Grew.refl _ _) rfl
                clear hc hl
                go_simp
              · intro listed a w1 hl hc
                have h137 : a.tmps[137]?.getD undef = .pointer (some ⟨w.heap.size + 1, 0, none⟩) := hc.dep hl 23 137 rfl (by kernel_rfl)
                refine does_call rfl (wanted_at rfl rfl (hc.dep hl 22 136 rfl (by kernel_rfl))) 26 #[.pointer (some ⟨w.heap.size + 1, 0, none⟩)] ?_ ((last_any (hset.below hc.g.below)).mono fun e w' ⟨he, hw⟩ => ⟨_, by rw [he, HLL.out]; rfl, Grew.of_below hw (by simpa using hc.g.below.size), rfl⟩)
                clear hc hl
                go_simp
              · intro listed a w1 hl hc
                have h0 : a.tmps[0]?.getD undef = .int .u32 base := (hc.was 0 (by kernel_rfl)).trans rfl
                refine does_value rfl (wanted_at rfl rfl (hc.dep hl 22 136 rfl (by kernel_rfl))) (.int .u32 base) w1 ?_ (Grew.refl _ _) rfl
                clear hc hl
                go_simp
              · intro listed a w1 hl hc
                have h138 : a.tmps[138]?.getD undef = .int .u32 base := hc.dep hl 24 138 rfl (by kernel_rfl)
                have h139 : a.tmps[139]?.getD undef = .int .u32 base := hc.dep hl 25 139 rfl (by kernel_rfl)
                refine does_value rfl (wanted_at rfl rfl (hc.dep hl 22 136 rfl (by kernel_rfl))) (.bool false) w1 ?_ (Grew.refl _ _) rfl
                clear hc hl
                go_simp
              · intro listed a w1 hl hc
                have h136 : a.tmps[136]?.getD undef = .bool true := hc.dep hl 22 136 rfl (by kernel_rfl)
                have h140 : a.tmps[140]?.getD undef = .bool false := hc.dep hl 26 140 rfl (by kernel_rfl)
                refine does_value rfl (wanted_at rfl rfl (hc.dep hl 18 132 rfl (by kernel_rfl))) (.bool false) w1 ?_ (Grew.refl _ _) rfl
                clear hc hl
                go_simp
              · intro listed a w1 hl hc
                have h132 : a.tmps[132]?.getD undef = .bool false := hc.dep hl 18 132 rfl (by kernel_rfl)
                have h141 : a.tmps[141]?.getD undef = .bool false := hc.dep hl 27 141 rfl (by kernel_rfl)
                refine does_value rfl rfl (.bool false) w1 ?_ (Grew.refl _ _) rfl
                clear hc hl
                go_simp

            · intro w3 hg3
              have hset3 := hset.below hg3.below
              have hbel3 := below_then hbel (Nat.le_refl _) hg3.below
              simp only [lay]
              go_frame
              go_wp2_with fail
              refine (count_any hset3).mono ?_
              rintro e w4 ⟨rfl, rfl⟩
              rw [← HSC.out]
              go_wp2_with fail
              refine (works_any _).mono ?_
              rintro e w5 ⟨rfl, hb5⟩
              go_wp2_with fail
              go_ret
              exact ⟨rfl, below_then hbel3 (Nat.le_refl _) hb5⟩
          · obtain ⟨k', hk'⟩ : ∃ k', k = k' + 1 := ⟨k - 1, by omega⟩
            subst hk'
            obtain ⟨k, hkk⟩ : ∃ k, k = k' := ⟨_, rfl⟩
            subst hkk
            have hkl : k < G.length := by have := HL.out; omega
            have hne : G ≠ [] := by intro e; rw [e] at hkl; simp at hkl
            obtain ⟨b, o, rfl, hlo, hhi, hc⟩ := hrg.at_ hne
            obtain ⟨a1, a2⟩ := hc k hkl
            obtain ⟨p2, hp2⟩ : ∃ p, p = G[k].2 := ⟨_, rfl⟩
            rw [← hp2] at a2
            have hp2l : p2 = lst f 4096 := by
              rw [← hll.out, hp2, List.getLast?_eq_getElem?, ← HL.out, Nat.add_sub_cancel, List.getElem?_eq_getElem hkl]; rfl
            have hp24 : p2 ≤ 4096 := by rw [hp2l]; exact lst_le _
            obtain ⟨q, hq⟩ : ∃ q : Int, (base + (p2 : Int)) % 4294967296 = q := ⟨_, rfl⟩
            have hq2 : (base + (lst f 4096 : Nat)) % 4294967296 = q := by rw [← hp2l]; exact hq
            have HQ := Lib.hid hq2
            have HQP := Lib.hid hq
            clear hc a1 hp2 hp2l hq hq2 hne
            go_wp2_with fail
            refine wp_region_vals (by kernel_rfl) wr.heap.size [.slice (some ⟨b, o, none⟩) (k + 1) c2, .int .i64 ((k : Int) + 1), .bool true, .bool true, .pointer (some ⟨w.heap.size + 1, 0, none⟩), .int .u32 q, .int .u32 base, .slice (some ⟨b, o, none⟩) (k + 1) c2, .slice (some ⟨b, o, none⟩) (k + 1) c2, .int .i64 ((k : Int) + 1), .int .i64 (k : Int), .pointer (some ⟨b, o + k * 2, none⟩), .pointer (some ⟨b, o + k * 2 + 1, none⟩), .int .u16 (p2 : Int), .int .u32 (p2 : Int), .int .u32 q, .bool false, .bool false, .bool false, .slice (some ⟨b, o, none⟩) (k + 1) c2, .int .i64 ((k : Int) + 1), .bool false, .bool false, undef, undef, undef, undef, .bool false, .bool false] rfl (by kernel_rfl) ?_ ?_
            · refine ⟨?_, ?_, ?_, ?_, ?_, ?_, ?_, ?_, ?_, ?_, ?_, ?_, ?_, ?_, ?_, ?_, ?_, ?_, ?_, ?_, ?_, ?_, ?_, ?_, ?_, ?_, ?_, ?_, ?_, trivial⟩
              · intro listed a w1 hl hc
                have h6 : a.tmps[6]?.getD undef = .slice (some ⟨b, o, none⟩) (k + 1) c2 := (hc.was 6 (by kernel_rfl)).trans rfl
                refine does_value rfl rfl (.slice (some ⟨b, o, none⟩) (k + 1) c2) w1 ?_ (Grew.refl _ _) rfl
                clear hc hl
                go_simp
              · intro listed a w1 hl hc
                have h114 : a.tmps[114]?.getD undef = .slice (some ⟨b, o, none⟩) (k + 1) c2 := hc.dep hl 0 114 rfl (by kernel_rfl)
                refine does_value rfl rfl (.int .i64 ((k : Int) + 1)) w1 ?_ (Grew.refl _ _) rfl
                clear hc hl
                go_simp
              · intro listed a w1 hl hc
                have h115 : a.tmps[115]?.getD undef = .int .i64 ((k : Int) + 1) := hc.dep hl 1 115 rfl (by kernel_rfl)
                refine does_value rfl rfl (.bool true) w1 ?_ (Grew.refl _ _) rfl
                clear hc hl
                go_simp
              · intro listed a w1 hl hc
                have h116 : a.tmps[116]?.getD undef = .bool true := hc.dep hl 2 116 rfl (by kernel_rfl)
                refine does_value rfl rfl (.bool true) w1 ?_ (Grew.refl _ _) rfl
                clear hc hl
                go_simp
              · intro listed a w1 hl hc
                have h5 : a.tmps[5]?.getD undef = .pointer (some ⟨w.heap.size + 1, 0, none⟩) := (hc.was 5 (by kernel_rfl)).trans rfl
                refine does_value rfl (wanted_at rfl rfl (hc.dep hl 3 117 rfl (by kernel_rfl))) (.pointer (some ⟨w.heap.size + 1, 0, none⟩)) w1 ?_ (Grew.refl _ _) rfl
                clear hc hl
                go_simp
              · intro listed a w1 hl hc
                have h118 : a.tmps[118]?.getD undef = .pointer (some ⟨w.heap.size + 1, 0, none⟩) := hc.dep hl 4 118 rfl (by kernel_rfl)
                refine does_call rfl (wanted_at rfl rfl (hc.dep hl 3 117 rfl (by kernel_rfl))) 26 #[.pointer (some ⟨w.heap.size + 1, 0, none⟩)] ?_ ((last_any (hset.below hc.g.below)).mono fun e w' ⟨he, hw⟩ => ⟨_, by rw [he, HQ.out]; rfl, Grew.of_below hw (by simpa using hc.g.below.size), rfl⟩)
                clear hc hl
                go_simp
              · intro listed a w1 hl hc
                have h0 : a.tmps[0]?.getD undef = .int .u32 base := (hc.was 0 (by kernel_rfl)).trans rfl
                refine does_value rfl (wanted_at rfl rfl (hc.dep hl 3 117 rfl (by kernel_rfl))) (.int .u32 base) w1 ?_ (Grew.refl _ _) rfl
                clear hc hl
                go_simp
              · intro listed a w1 hl hc
                have h6 : a.tmps[6]?.getD undef = .slice (some ⟨b, o, none⟩) (k + 1) c2 := (hc.was 6 (by kernel_rfl)).trans rfl
                refine does_value rfl (wanted_at rfl rfl (hc.dep hl 3 117 rfl (by kernel_rfl))) (.slice (some ⟨b, o, none⟩) (k + 1) c2) w1 ?_ (Grew.refl _ _) rfl
                clear hc hl
                go_simp
              · intro listed a w1 hl hc
                have h6 : a.tmps[6]?.getD undef = .slice (some ⟨b, o, none⟩) (k + 1) c2 := (hc.was 6 (by kernel_rfl)).trans rfl
                refine does_value rfl (wanted_at rfl rfl (hc.dep hl 3 117 rfl (by kernel_rfl))) (.slice (some ⟨b, o, none⟩) (k + 1) c2) w1 ?_ (Grew.refl _ _) rfl
                clear hc hl
                go_simp
              · intro listed a w1 hl hc
                have h122 : a.tmps[122]?.getD undef = .slice (some ⟨b, o, none⟩) (k + 1) c2 := hc.dep hl 8 122 rfl (by kernel_rfl)
                refine does_value rfl (wanted_at rfl rfl (hc.dep hl 3 117 rfl (by kernel_rfl))) (.int .i64 ((k : Int) + 1)) w1 ?_ (Grew.refl _ _) rfl
                clear hc hl
                go_simp
              · intro listed a w1 hl hc
                have h123 : a.tmps[123]?.getD undef = .int .i64 ((k : Int) + 1) := hc.dep hl 9 123 rfl (by kernel_rfl)
                refine does_value rfl (wanted_at rfl rfl (hc.dep hl 3 117 rfl (by kernel_rfl))) (.int .i64 (k : Int)) w1 ?_ (Grew.refl _ _) rfl
                clear hc hl
                go_simp
                exact IntWalk.i64_in _ (by omega)
              · intro listed a w1 hl hc
                have h121 : a.tmps[121]?.getD undef = .slice (some ⟨b, o, none⟩) (k + 1) c2 := hc.dep hl 7 121 rfl (by kernel_rfl)
                have h124 : a.tmps[124]?.getD undef = .int .i64 (k : Int) := hc.dep hl 10 124 rfl (by kernel_rfl)
                refine does_value rfl (wanted_at rfl rfl (hc.dep hl 3 117 rfl (by kernel_rfl))) (.pointer (some ⟨b, o + k * 2, none⟩)) w1 ?_ (Grew.refl _ _) rfl
                clear hc hl
                go_simp
                intro h; omega
              · intro listed a w1 hl hc
                have h125 : a.tmps[125]?.getD undef = .pointer (some ⟨b, o + k * 2, none⟩) := hc.dep hl 11 125 rfl (by kernel_rfl)
                refine does_value rfl (wanted_at rfl rfl (hc.dep hl 3 117 rfl (by kernel_rfl))) (.pointer (some ⟨b, o + k * 2 + 1, none⟩)) w1 ?_ (Grew.refl _ _) rfl
                clear hc hl
                go_simp
              · intro listed a w1 hl hc
                have h126 : a.tmps[126]?.getD undef = .pointer (some ⟨b, o + k * 2 + 1, none⟩) := hc.dep hl 12 126 rfl (by kernel_rfl)
                have hcell := hc.g.cell _ _ a2
                refine does_value rfl (wanted_at rfl rfl (hc.dep hl 3 117 rfl (by kernel_rfl))) (.int .u16 (p2 : Int)) w1 ?_ (Grew.refl _ _) rfl
                clear hc hl
                go_simp
              · intro listed a w1 hl hc
                have h127 : a.tmps[127]?.getD undef = .int .u16 (p2 : Int) := hc.dep hl 13 127 rfl (by kernel_rfl)
                refine does_value rfl (wanted_at rfl rfl (hc.dep hl 3 117 rfl (by kernel_rfl))) (.int .u32 (p2 : Int)) w1 ?_ (Grew.refl _ _) rfl
                clear hc hl
                go_simp
                rw [wrap_u32]; omega
              · intro listed a w1 hl hc
                have h120 : a.tmps[120]?.getD undef = .int .u32 base := hc.dep hl 6 120 rfl (by kernel_rfl)
                have h128 : a.tmps[128]?.getD undef = .int .u32 (p2 : Int) := hc.dep hl 14 128 rfl (by kernel_rfl)
                refine does_value rfl (wanted_at rfl rfl (hc.dep hl 3 117 rfl (by kernel_rfl))) (.int .u32 q) w1 ?_ (Grew.refl _ _) rfl
                clear hc hl
                go_simp
                rw [wrap_u32]; exact HQP.out
              · intro listed a w1 hl hc
                have h119 : a.tmps[119]?.getD undef = .int .u32 q := hc.dep hl 5 119 rfl (by kernel_rfl)
                have h129 : a.tmps[129]?.getD undef = .int .u32 q := hc.dep hl 15 129 rfl (by kernel_rfl)
                refine does_value rfl (wanted_at rfl rfl (hc.dep hl 3 117 rfl (by kernel_rfl))) (.bool false) w1 ?_ (Grew.refl _ _) rfl
                clear hc hl
                go_simp
              · intro listed a w1 hl hc
                have h117 : a.tmps[117]?.getD undef = .bool true := hc.dep hl 3 117 rfl (by kernel_rfl)
                have h130 : a.tmps[130]?.getD undef = .bool false := hc.dep hl 16 130 rfl (by kernel_rfl)
                refine does_value rfl rfl (.bool false) w1 ?_ (Grew.refl _ _) rfl
                clear hc hl
                go_simp
              · intro listed a w1 hl hc
                have h131 : a.tmps[131]?.getD undef = .bool false := hc.dep hl 17 131 rfl (by kernel_rfl)
                refine does_value rfl rfl (.bool false) w1 ?_ (Grew.refl _ _) rfl
                clear hc hl
                go_simp
              · intro listed a w1 hl hc
                have h6 : a.tmps[6]?.getD undef = .slice (some ⟨b, o, none⟩) (k + 1) c2 := (hc.was 6 (by kernel_rfl)).trans rfl
                refine does_value rfl (wanted_at rfl rfl (hc.dep hl 18 132 rfl (by kernel_rfl))) (.slice (some ⟨b, o, none⟩) (k + 1) c2) w1 ?_ (Grew.refl _ _) rfl
                clear hc hl
                go_simp
              · intro listed a w1 hl hc
                have h133 : a.tmps[133]?.getD undef = .slice (some ⟨b, o, none⟩) (k + 1) c2 := hc.dep hl 19 133 rfl (by kernel_rfl)
                refine does_value rfl (wanted_at rfl rfl (hc.dep hl 18 132 rfl (by kernel_rfl))) (.int .i64 ((k : Int) + 1)) w1 ?_ (Grew.refl _ _) rfl
                clear hc hl
                go_simp
              · intro listed a w1 hl hc
                have h134 : a.tmps[134]?.getD undef = .int .i64 ((k : Int) + 1) := hc.dep hl 20 134 rfl (by kernel_rfl)
                refine does_value rfl (wanted_at rfl rfl (hc.dep hl 18 132 rfl (by kernel_rfl))) (.bool false) w1 ?_ (Grew.refl _ _) rfl
                clear hc hl
                go_simp
                omega
              · intro listed a w1 hl hc
                have h135 : a.tmps[135]?.getD undef = .bool false := hc.dep hl 21 135 rfl (by kernel_rfl)
                refine does_value rfl (wanted_at rfl rfl (hc.dep hl 18 132 rfl (by kernel_rfl))) (.bool false) w1 ?_ (Grew.refl _ _) rfl
                clear hc hl
                go_simp
              · intro listed a w1 hl hc
                exact does_skip (Grew.refl _) rfl (unwanted_at rfl rfl (hc.dep hl 22 136 rfl (by kernel_rfl))) rfl
              · intro listed a w1 hl hc
                exact does_skip (Grew.refl _) rfl (unwanted_at rfl rfl (hc.dep hl 22 136 rfl (by kernel_rfl))) rfl
              · intro listed a w1 hl hc
                exact does_skip (Grew.refl _) rfl (unwanted_at rfl rfl (hc.dep hl 22 136 rfl (by kernel_rfl))) rfl
              · intro listed a w1 hl hc
                exact does_skip (Grew.refl _) rfl (unwanted_at rfl rfl (hc.dep hl 22 136 rfl (by kernel_rfl))) rfl
              · intro listed a w1 hl hc
                have h136 : a.tmps[136]?.getD undef = .bool false := hc.dep hl 22 136 rfl (by kernel_rfl)
                have h140 : a.tmps[140]?.getD undef = undef := hc.dep hl 26 140 rfl (by kernel_rfl)
                refine does_value rfl (wanted_at rfl rfl (hc.dep hl 18 132 rfl (by kernel_rfl))) (.bool false) w1 ?_ (Grew.refl _ _) rfl
                clear hc hl
                go_simp
              · intro listed a w1 hl hc
                have h132 : a.tmps[132]?.getD undef = .bool false := hc.dep hl 18 132 rfl (by kernel_rfl)
                have h141 : a.tmps[141]?.getD undef = .bool false := hc.dep hl 27 141 rfl (by kernel_rfl)
                refine does_value rfl rfl (.bool false) w1 ?_ (Grew.refl _ _) rfl
                clear hc hl
                go_simp

            · intro w3 hg3
              have hset3 := hset.below hg3.below
              have hbel3 := below_then hbel (Nat.le_refl _) hg3.below
              simp only [lay]
              go_frame
              go_wp2_with fail
              refine (count_any hset3).mono ?_
              rintro e w4 ⟨rfl, rfl⟩
              rw [← HSC.out]
              go_wp2_with fail
              refine (works_any _).mono ?_
              rintro e w5 ⟨rfl, hb5⟩
              go_wp2_with fail
              go_ret
              exact ⟨rfl, below_then hbel3 (Nat.le_refl _) hb5⟩
end Go.Proofs.Ytmalmpdopifadaa
