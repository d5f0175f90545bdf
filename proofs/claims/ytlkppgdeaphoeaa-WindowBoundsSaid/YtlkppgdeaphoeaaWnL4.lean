/-
  Package window: WindowBounds, walked.
-/
import Derived.Test.YtlkppgdeaphoeaaWnL1
namespace Go.Proofs.Ytlkppgdeaphoeaa
open Go.RowKit
set_option linter.unusedVariables false

set_option maxRecDepth 100000 in
set_option maxHeartbeats 4000000 in
theorem windowBounds_no (m x : Int) (A : Option Addr) (n c : Nat) (w : World) (hn : ¬ winOk m x) : Calls Try.prog 4 #[.int .i64 m, .int .i64 x, .slice A n c] w fun e w' => e = .returned (.bool true) ∧ Below w.heap.size w w' := by
  go_enter Try.func4, Try.ntmps4
  go_wp2_with fail
  refine (codeNew_no m x w hn).mono ?_
  rintro e w1 ⟨rfl, rfl⟩
  go_wp2_with fail
  refine (works_any w1).mono ?_
  rintro e w8 ⟨rfl, hb8⟩
  go_wp2_with fail
  go_ret
  exact ⟨rfl, hb8⟩
set_option maxRecDepth 100000 in
set_option maxHeartbeats 4000000 in
theorem windowBounds_big (m x : Int) (A : Option Addr) (n c : Nat) (w : World) (h : winOk m x) (hb : 500 < n) (hm : n ≤ maxLen) : Calls Try.prog 4 #[.int .i64 m, .int .i64 x, .slice A n c] w fun e w' => e = .returned (.bool true) ∧ Below w.heap.size w w' := by
  have HN := Lib.hid h
  unfold maxLen at hm
  clear h
  go_enter Try.func4, Try.ntmps4
  go_wp2_with fail
  refine (codeNew m x w HN.out).mono ?_
  rintro e w1 ⟨rfl, K1, B1⟩
  obtain ⟨g, hg⟩ : ∃ g, g = w.heap.size := ⟨_, rfl⟩
  rw [← hg] at K1 ⊢
  have HG : Hid (∀ k ∈ [g], w.heap.size ≤ k) := Lib.hid (by simp; omega)
  have HB := Lib.hid B1
  have K0 := Lib.hid K1
  clear hg K1 B1
  go_wp2_with fail
  refine (works_any w1).mono ?_
  rintro e w8 ⟨rfl, hb8⟩
  go_wp2_with fail
  go_ret
  exact ⟨rfl, below_then HB.out (Nat.le_refl _) hb8⟩
set_option maxRecDepth 100000 in
set_option maxHeartbeats 4000000 in
theorem windowBounds_yes (m x : Int) (A : Option Addr) (n c : Nat) (L : List (Int × Int × Bool)) (w : World) (h : winOk m x) (hb : n ≤ 500) (hn : L.length = n) (hr : Wop w w.heap.size A L) : Calls Try.prog 4 #[.int .i64 m, .int .i64 x, .slice A n c] w fun e w' => e = .returned (.bool true) ∧ Below w.heap.size w w' := by
  have HN := Lib.hid h
  have HE0 := Lib.hid (newW_ok h)
  have HM0 : Hid ((newW m x).mtu = m) := Lib.hid rfl
  have HX0 : Hid ((newW m x).most = x) := Lib.hid rfl
  obtain ⟨b1, b2, b3, b4⟩ := h
  have HL := Lib.hid hn
  clear hn
  go_enter Try.func4, Try.ntmps4
  go_wp2_with fail
  refine (codeNew m x w HN.out).mono ?_
  rintro e w1 ⟨rfl, K1, B1⟩
  obtain ⟨g, hg⟩ : ∃ g, g = w.heap.size := ⟨_, rfl⟩
  rw [← hg] at K1 ⊢
  have HG : Hid (∀ k ∈ [g], w.heap.size ≤ k) := Lib.hid (by simp; omega)
  have HB := Lib.hid B1
  have K0 := Lib.hid K1
  clear hg K1 B1
  go_wp2_with fail
  go_loopw [9, 10, 11] (fun i _ _ wr => ∃ (k : Nat) (s : Wn), k ≤ n ∧ i = .int .i64 k ∧ Hid (s.Ok ((k : Int) * 16777216)) ∧ Hid (s.mtu = m) ∧ Hid (s.most = x) ∧ Hid (Blk wr g 46 #[.int .i64 s.mtu, .int .i64 s.most, .int .i64 s.size, .int .i64 s.thr, .int .i64 s.part]) ∧ Hid (Below w.heap.size w wr)) (fun i _ _ _ => n - (intOf i).toNat)
  case atStart => exact ⟨0, _, by omega, by go_num, HE0, HM0, HX0, K0, HB⟩
  case round =>
    clear K0 HB HE0 HM0 HX0
    obtain ⟨k, s, hk, rfl, HE, HMT, HMS, K0, HB⟩ := hrel
    by_cases hkn : k < n
    · skip
      obtain ⟨b, o, rfl, hbl, c0, c1, c2⟩ := hr.at_ k (by rw [HL.out]; exact hkn)
      obtain ⟨kd, hkd⟩ : ∃ x, x = (L[k]'(by rw [HL.out]; exact hkn)).1 := ⟨_, rfl⟩
      obtain ⟨no, hno⟩ : ∃ x, x = (L[k]'(by rw [HL.out]; exact hkn)).2.1 := ⟨_, rfl⟩
      obtain ⟨fu, hfu⟩ : ∃ x, x = (L[k]'(by rw [HL.out]; exact hkn)).2.2 := ⟨_, rfl⟩
      rw [← hkd] at c0
      rw [← hno] at c1
      rw [← hfu] at c2
      have c0 : wr.cell? ⟨b, o + k * 3, none⟩ = some (.int .i64 kd) := (HB.out.cell hbl).trans c0
      have c1 : wr.cell? ⟨b, o + k * 3 + 1, none⟩ = some (.int .i64 no) := (HB.out.cell hbl).trans c1
      have c2 : wr.cell? ⟨b, o + k * 3 + 2, none⟩ = some (.bool fu) := (HB.out.cell hbl).trans c2
      clear hkd hno hfu hr
      obtain ⟨z, hz0⟩ : ∃ z, s.size = z := ⟨_, rfl⟩
      have HZ := Lib.hid hz0
      have z0 : m ≤ z := by have := HE.out.z0; rw [HMT.out, hz0] at this; exact this
      have z1 : z ≤ x := by have := HE.out.z1; rw [HMS.out, hz0] at this; exact this
      obtain ⟨t, ht0⟩ : ∃ t, s.thr = t := ⟨_, rfl⟩
      have HT := Lib.hid ht0
      have t0 : 4 * m ≤ t := by have := HE.out.t0; rw [HMT.out, ht0] at this; exact this
      have t1 : t ≤ x := by have := HE.out.t1; rw [HMS.out, ht0] at this; exact this
      clear hz0 ht0
      go_wp2_with fail
      refine (codeSizeN s z HZ.out g wr K0.out).mono ?_
      rintro e v1 ⟨rfl, rfl⟩
      go_wp2_with fail
      refine (codeThresholdN s t HT.out g v1 K0.out).mono ?_
      rintro e v2 ⟨rfl, rfl⟩
      go_wp2_with fail
      refine (does_any s kd no fu _ g v2 HE.out (by omega) K0.out).mono ?_
      rintro e w3 ⟨rfl, k2, t2⟩
      have HBo := HB.out
      have HB := Lib.hid (tw_below HB.out t2 HG.out (Nat.le_refl _))
      have K0 : Hid (Blk w3 g 46 #[.int .i64 (s.act kd no fu).mtu, .int .i64 (s.act kd no fu).most, .int .i64 (s.act kd no fu).size, .int .i64 (s.act kd no fu).thr, .int .i64 (s.act kd no fu).part]) := Lib.hid k2
      clear k2 t2
      have c0 : w3.cell? ⟨b, o + k * 3, none⟩ = some (.int .i64 kd) := (HB.out.cell hbl).trans ((HBo.cell hbl).symm.trans c0)
      have c2 : w3.cell? ⟨b, o + k * 3 + 2, none⟩ = some (.bool fu) := (HB.out.cell hbl).trans ((HBo.cell hbl).symm.trans c2)
      clear HBo c1
      have HE2 : Hid ((s.act kd no fu).Ok (((k + 1 : Nat) : Int) * 16777216)) := Lib.hid (by rw [show ((k + 1 : Nat) : Int) * 16777216 = (k : Int) * 16777216 + 16777216 from by omega]; exact HE.out.act)
      have HM2 : Hid ((s.act kd no fu).mtu = m) := Lib.hid (by rw [act_mtu]; exact HMT.out)
      have HX2 : Hid ((s.act kd no fu).most = x) := Lib.hid (by rw [act_most]; exact HMS.out)
      have y0 : m ≤ (s.act kd no fu).size := by have := HE2.out.z0; rw [HM2.out] at this; exact this
      have y1 : (s.act kd no fu).size ≤ x := by have := HE2.out.z1; rw [HX2.out] at this; exact this
      by_cases h0 : kd = 0
      · have HA : Hid (s.act kd no fu = s.ack no fu) := Lib.hid (by unfold Wn.act; rw [if_pos h0])
        rw [HA.out] at y0 y1
        have hb0 : (kd == 0) = true := by simp [h0]
        clear h0
        have hy := ack_size (n := no) (full := fu) HE.out
        rw [HZ.out, HMT.out] at hy
        obtain ⟨hy1, hy2, hy3⟩ := hy
        have hu := ack_thr (s := s) (n := no) (full := fu)
        rw [HT.out] at hu
        obtain ⟨y, hy⟩ : ∃ y, (s.ack no fu).size = y := ⟨_, rfl⟩
        rw [hy] at hy1 hy2 hy3 y0 y1
        have HU : Hid ((s.act kd no fu).thr = t) := Lib.hid (by rw [HA.out]; exact hu)
        cases fu
        · skip
          have HY : Hid ((s.act kd no false).size = z) := Lib.hid (by rw [HA.out, hy]; exact hy3 rfl)
          clear hy hy1 hy2 hy3 hu HE HZ HT HMT
          go_wp2_with fail
          refine (codeSizeN (s.act kd no false) z HY.out g w3 K0.out).mono ?_
          rintro e w4 ⟨rfl, rfl⟩
          go_wp2_with fail
          refine (codeSizeN (s.act kd no false) z HY.out g w4 K0.out).mono ?_
          rintro e w5 ⟨rfl, rfl⟩
          go_wp2_with fail
          refine (codeThresholdN (s.act kd no false) t HU.out g w5 K0.out).mono ?_
          rintro e w6 ⟨rfl, rfl⟩
          go_wp2_with fail
          refine (codeThresholdN (s.act kd no false) t HU.out g w6 K0.out).mono ?_
          rintro e w7 ⟨rfl, rfl⟩
          go_wp2_with fail
          refine (codeSizeN (s.act kd no false) z HY.out g w7 K0.out).mono ?_
          rintro e v1 ⟨rfl, rfl⟩
          go_wp2_with fail
          refine (codeSizeN (s.act kd no false) z HY.out g v1 K0.out).mono ?_
          rintro e v2 ⟨rfl, rfl⟩
          go_wp2_with fail
          refine (codeThresholdN (s.act kd no false) t HU.out g v2 K0.out).mono ?_
          rintro e v3 ⟨rfl, rfl⟩
          go_wp2_with fail
          refine (codeSizeN (s.act kd no false) z HY.out g v3 K0.out).mono ?_
          rintro e v4 ⟨rfl, rfl⟩
          go_wp2_with fail
          go_roundw
          case rel => exact ⟨k + 1, _, by omega, by go_num, HE2, HM2, HX2, K0, HB⟩
          case measure => simp [intOf]; omega
        · skip
          have HY : Hid ((s.act kd no true).size = y) := Lib.hid (by rw [HA.out, hy])
          clear hy hy3 hu HE HZ HT HMT
          go_wp2_with fail
          refine (codeSizeN (s.act kd no true) y HY.out g w3 K0.out).mono ?_
          rintro e w4 ⟨rfl, rfl⟩
          go_wp2_with fail
          refine (codeSizeN (s.act kd no true) y HY.out g w4 K0.out).mono ?_
          rintro e w5 ⟨rfl, rfl⟩
          go_wp2_with fail
          refine (codeThresholdN (s.act kd no true) t HU.out g w5 K0.out).mono ?_
          rintro e w6 ⟨rfl, rfl⟩
          go_wp2_with fail
          refine (codeThresholdN (s.act kd no true) t HU.out g w6 K0.out).mono ?_
          rintro e w7 ⟨rfl, rfl⟩
          go_wp2_with fail
          refine (codeSizeN (s.act kd no true) y HY.out g w7 K0.out).mono ?_
          rintro e v1 ⟨rfl, rfl⟩
          go_wp2_with fail
          refine (codeSizeN (s.act kd no true) y HY.out g v1 K0.out).mono ?_
          rintro e v2 ⟨rfl, rfl⟩
          go_wp2_with fail
          refine (codeThresholdN (s.act kd no true) t HU.out g v2 K0.out).mono ?_
          rintro e v3 ⟨rfl, rfl⟩
          go_wp2_with fail
          go_roundw
          case rel => exact ⟨k + 1, _, by omega, by go_num, HE2, HM2, HX2, K0, HB⟩
          case measure => simp [intOf]; omega
      · clear y0 y1
        by_cases h1 : kd = 1
        · have HA : Hid (s.act kd no fu = s.fast) := Lib.hid (by unfold Wn.act; rw [if_neg h0, if_pos h1])
          have hb0 : (kd == 0) = false := by simp [h0]
          have hb1 : (kd == 1) = true := by simp [h1]
          clear h0 h1 c2
          have hy := fast_size (s := s)
          rw [HZ.out] at hy
          obtain ⟨hy1, hy2⟩ := hy
          obtain ⟨y, hy⟩ : ∃ y, s.fast.size = y := ⟨_, rfl⟩
          obtain ⟨u, hu⟩ : ∃ u, s.fast.thr = u := ⟨_, rfl⟩
          rw [hy] at hy1 hy2
          rw [hu] at hy2
          have HY : Hid ((s.act kd no fu).size = y) := Lib.hid (by rw [HA.out, hy])
          have HU : Hid ((s.act kd no fu).thr = u) := Lib.hid (by rw [HA.out, hu])
          have y0 : m ≤ y := by rw [← hy]; have := HE.out.fast.z0; rw [show s.fast.mtu = m from HMT.out] at this; exact this
          have y1 : y ≤ x := by rw [← hy]; have := HE.out.fast.z1; rw [show s.fast.most = x from HMS.out] at this; exact this
          have u0 : 4 * m ≤ u := by rw [← hu]; have := HE.out.fast.t0; rw [show s.fast.mtu = m from HMT.out] at this; exact this
          have u1 : u ≤ x := by rw [← hu]; have := HE.out.fast.t1; rw [show s.fast.most = x from HMS.out] at this; exact this
          clear hy hu HE HZ HT HMT HMS
          go_wp2_with fail
          refine (codeSizeN (s.act kd no fu) y HY.out g w3 K0.out).mono ?_
          rintro e w4 ⟨rfl, rfl⟩
          go_wp2_with fail
          refine (codeSizeN (s.act kd no fu) y HY.out g w4 K0.out).mono ?_
          rintro e w5 ⟨rfl, rfl⟩
          go_wp2_with fail
          refine (codeThresholdN (s.act kd no fu) u HU.out g w5 K0.out).mono ?_
          rintro e w6 ⟨rfl, rfl⟩
          go_wp2_with fail
          refine (codeThresholdN (s.act kd no fu) u HU.out g w6 K0.out).mono ?_
          rintro e w7 ⟨rfl, rfl⟩
          go_wp2_with fail
          refine (codeSizeN (s.act kd no fu) y HY.out g w7 K0.out).mono ?_
          rintro e v1 ⟨rfl, rfl⟩
          go_wp2_with fail
          refine (codeSizeN (s.act kd no fu) y HY.out g v1 K0.out).mono ?_
          rintro e v2 ⟨rfl, rfl⟩
          go_wp2_with fail
          refine (codeThresholdN (s.act kd no fu) u HU.out g v2 K0.out).mono ?_
          rintro e v3 ⟨rfl, rfl⟩
          go_wp2_with fail
          go_roundw
          case rel => exact ⟨k + 1, _, by omega, by go_num, HE2, HM2, HX2, K0, HB⟩
          case measure => simp [intOf]; omega
        · by_cases h2 : kd = 2
          · have HA : Hid (s.act kd no fu = s.out) := Lib.hid (by unfold Wn.act; rw [if_neg h0, if_neg h1, if_pos h2])
            have hb0 : (kd == 0) = false := by simp [h0]
            have hb1 : (kd == 1) = false := by simp [h1]
            have hb2 : (kd == 2) = true := by simp [h2]
            clear h0 h1 h2 c2
            obtain ⟨u, hu⟩ : ∃ u, s.out.thr = u := ⟨_, rfl⟩
            have HY : Hid ((s.act kd no fu).size = m) := Lib.hid (by rw [HA.out]; exact HMT.out)
            have HU : Hid ((s.act kd no fu).thr = u) := Lib.hid (by rw [HA.out, hu])
            have u0 : 4 * m ≤ u := by rw [← hu]; have := HE.out.out.t0; rw [show s.out.mtu = m from HMT.out] at this; exact this
            have u1 : u ≤ x := by rw [← hu]; have := HE.out.out.t1; rw [show s.out.most = x from HMS.out] at this; exact this
            clear hu HE HZ HT HMT HMS
            go_wp2_with fail
            refine (codeSizeN (s.act kd no fu) m HY.out g w3 K0.out).mono ?_
            rintro e w4 ⟨rfl, rfl⟩
            go_wp2_with fail
            refine (codeSizeN (s.act kd no fu) m HY.out g w4 K0.out).mono ?_
            rintro e w5 ⟨rfl, rfl⟩
            go_wp2_with fail
            refine (codeThresholdN (s.act kd no fu) u HU.out g w5 K0.out).mono ?_
            rintro e w6 ⟨rfl, rfl⟩
            go_wp2_with fail
            refine (codeThresholdN (s.act kd no fu) u HU.out g w6 K0.out).mono ?_
            rintro e w7 ⟨rfl, rfl⟩
            go_wp2_with fail
            refine (codeSizeN (s.act kd no fu) m HY.out g w7 K0.out).mono ?_
            rintro e v1 ⟨rfl, rfl⟩
            go_wp2_with fail
            go_roundw
            case rel => exact ⟨k + 1, _, by omega, by go_num, HE2, HM2, HX2, K0, HB⟩
            case measure => simp [intOf]; omega
          · have HA : Hid (s.act kd no fu = s) := Lib.hid (by unfold Wn.act; rw [if_neg h0, if_neg h1, if_neg h2])
            have hb0 : (kd == 0) = false := by simp [h0]
            have hb1 : (kd == 1) = false := by simp [h1]
            have hb2 : (kd == 2) = false := by simp [h2]
            clear h0 h1 h2 c2
            have HY : Hid ((s.act kd no fu).size = z) := Lib.hid (by rw [HA.out]; exact HZ.out)
            have HU : Hid ((s.act kd no fu).thr = t) := Lib.hid (by rw [HA.out]; exact HT.out)
            clear HE HZ HT HMT HMS
            go_wp2_with fail
            refine (codeSizeN (s.act kd no fu) z HY.out g w3 K0.out).mono ?_
            rintro e w4 ⟨rfl, rfl⟩
            go_wp2_with fail
            refine (codeSizeN (s.act kd no fu) z HY.out g w4 K0.out).mono ?_
            rintro e w5 ⟨rfl, rfl⟩
            go_wp2_with fail
            refine (codeThresholdN (s.act kd no fu) t HU.out g w5 K0.out).mono ?_
            rintro e w6 ⟨rfl, rfl⟩
            go_wp2_with fail
            refine (codeThresholdN (s.act kd no fu) t HU.out g w6 K0.out).mono ?_
            rintro e w7 ⟨rfl, rfl⟩
            go_wp2_with fail
            refine (codeSizeN (s.act kd no fu) z HY.out g w7 K0.out).mono ?_
            rintro e v1 ⟨rfl, rfl⟩
            go_wp2_with fail
            refine (codeThresholdN (s.act kd no fu) t HU.out g v1 K0.out).mono ?_
            rintro e v2 ⟨rfl, rfl⟩
            go_wp2_with fail
            go_roundw
            case rel => exact ⟨k + 1, _, by omega, by go_num, HE2, HM2, HX2, K0, HB⟩
            case measure => simp [intOf]; omega
    · obtain rfl : k = n := by omega
      clear hkn
      go_wp2_with fail
      refine (works_any wr).mono ?_
      rintro e w8 ⟨rfl, hb8⟩
      go_wp2_with fail
      go_ret
      exact ⟨rfl, below_then HB.out (Nat.le_refl _) hb8⟩
theorem windowBounds_walk (m x : Int) (A : Option Addr) (n c : Nat) (rows : List (List Value)) (w : World) (h1 : (Lit.int .i64 m).wf = true) (h2 : (Lit.int .i64 x).wf = true) (h4 : n ≤ c) (h5 : c ≤ maxLen) (h6 : rows.length = n) (h7 : Rows_ w w.heap.size A 3 rows) (h8 : ∀ row ∈ rows, OpRow row) : Calls Try.prog 4 #[.int .i64 m, .int .i64 x, .slice A n c] w fun e w' => e = .returned (.bool true) ∧ Below w.heap.size w w' := by
  by_cases h : winOk m x
  · by_cases hb : 500 < n
    · exact windowBounds_big m x A n c w h hb (Nat.le_trans h4 h5)
    · obtain ⟨L, hl, hL⟩ := wop_of h7 h8
      exact windowBounds_yes m x A n c L w h (by omega) (by omega) hL
  · exact windowBounds_no m x A n c w h
end Go.Proofs.Ytlkppgdeaphoeaa
