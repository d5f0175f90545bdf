/-
  Package window: WindowHalves, walked.
-/
import Derived.Test.YtlkppgdeaphoeaaWnL1
namespace Go.Proofs.Ytlkppgdeaphoeaa
open Go.RowKit
set_option linter.unusedVariables false

set_option maxRecDepth 100000 in
set_option maxHeartbeats 4000000 in
theorem windowHalves_no (m x : Int) (A : Option Addr) (n c : Nat) (tm : Bool) (w : World) (hn : ¬ winOk m x) : Calls Try.prog 7 #[.int .i64 m, .int .i64 x, .slice A n c, .bool tm] w fun e w' => e = .returned (.bool true) ∧ Below w.heap.size w w' := by
  go_enter Try.func7, Try.ntmps7
  go_wp2_with fail
  refine (codeNew_no m x w hn).mono ?_
  rintro e w1 ⟨rfl, rfl⟩
  go_wp2_with fail
  refine (works_any w1).mono ?_
  rintro e w8 ⟨rfl, hb8⟩
  go_wp2_with fail
  go_ret
  exact ⟨rfl, hb8⟩
set_option maxRecDepth 100000 in
set_option maxHeartbeats 4000000 in
theorem windowHalves_big (m x : Int) (A : Option Addr) (n c : Nat) (tm : Bool) (w : World) (h : winOk m x) (hb : 500 < n) (hm : n ≤ maxLen) : Calls Try.prog 7 #[.int .i64 m, .int .i64 x, .slice A n c, .bool tm] w fun e w' => e = .returned (.bool true) ∧ Below w.heap.size w w' := by
  have HN := Lib.hid h
  unfold maxLen at hm
  clear h
  go_enter Try.func7, Try.ntmps7
  go_wp2_with fail
  refine (codeNew m x w HN.out).mono ?_
  rintro e w1 ⟨rfl, K1, B1⟩
  obtain ⟨g, hg⟩ : ∃ g, g = w.heap.size := ⟨_, rfl⟩
  rw [← hg] at K1 ⊢
  have HG : Hid (∀ k ∈ [g], w.heap.size ≤ k) := Lib.hid (by simp; omega)
  have HB := Lib.hid B1
  have K0 := Lib.hid K1
  clear hg K1 B1
  go_wp2_with fail
  refine (works_any w1).mono ?_
  rintro e w8 ⟨rfl, hb8⟩
  go_wp2_with fail
  go_ret
  exact ⟨rfl, below_then HB.out (Nat.le_refl _) hb8⟩
set_option maxRecDepth 100000 in
set_option maxHeartbeats 4000000 in
theorem windowHalves_yes (m x : Int) (A : Option Addr) (n c : Nat) (tm : Bool) (L : List (Int × Int × Bool)) (w : World) (h : winOk m x) (hb : n ≤ 500) (hn : L.length = n) (hr : Wop w w.heap.size A L) : Calls Try.prog 7 #[.int .i64 m, .int .i64 x, .slice A n c, .bool tm] w fun e w' => e = .returned (.bool true) ∧ Below w.heap.size w w' := by
  have HN := Lib.hid h
  have HE0 := Lib.hid (newW_ok h)
  have HM0 : Hid ((newW m x).mtu = m) := Lib.hid rfl
  have HX0 : Hid ((newW m x).most = x) := Lib.hid rfl
  obtain ⟨b1, b2, b3, b4⟩ := h
  have HL := Lib.hid hn
  clear hn
  go_enter Try.func7, Try.ntmps7
  go_wp2_with fail
  refine (codeNew m x w HN.out).mono ?_
  rintro e w1 ⟨rfl, K1, B1⟩
  obtain ⟨g, hg⟩ : ∃ g, g = w.heap.size := ⟨_, rfl⟩
  rw [← hg] at K1 ⊢
  have HG : Hid (∀ k ∈ [g], w.heap.size ≤ k) := Lib.hid (by simp; omega)
  have HB := Lib.hid B1
  have K0 := Lib.hid K1
  clear hg K1 B1
  go_wp2_with fail
  go_loopw [11] (fun i wr => ∃ (k : Nat) (s : Wn), k ≤ n ∧ i = .int .i64 k ∧ Hid (s.Ok ((k : Int) * 16777216)) ∧ Hid (s.mtu = m) ∧ Hid (s.most = x) ∧ Hid (Blk wr g 46 #[.int .i64 s.mtu, .int .i64 s.most, .int .i64 s.size, .int .i64 s.thr, .int .i64 s.part]) ∧ Hid (Below w.heap.size w wr)) (fun i _ => n - (intOf i).toNat)
  case atStart => exact ⟨0, _, by omega, by go_num, HE0, HM0, HX0, K0, HB⟩
  case round =>
    clear K0 HB HE0 HM0 HX0
    obtain ⟨k, s, hk, rfl, HE, HMT, HMS, K0, HB⟩ := hrel
    by_cases hkn : k < n
    · skip
      obtain ⟨b, o, rfl, hbl, c0, c1, c2⟩ := hr.at_ k (by rw [HL.out]; exact hkn)
      obtain ⟨kd, hkd⟩ : ∃ x, x = (L[k]'(by rw [HL.out]; exact hkn)).1 := ⟨_, rfl⟩
      obtain ⟨no, hno⟩ : ∃ x, x = (L[k]'(by rw [HL.out]; exact hkn)).2.1 := ⟨_, rfl⟩
      obtain ⟨fu, hfu⟩ : ∃ x, x = (L[k]'(by rw [HL.out]; exact hkn)).2.2 := ⟨_, rfl⟩
      rw [← hkd] at c0
      rw [← hno] at c1
      rw [← hfu] at c2
      have c0 : wr.cell? ⟨b, o + k * 3, none⟩ = some (.int .i64 kd) := (HB.out.cell hbl).trans c0
      have c1 : wr.cell? ⟨b, o + k * 3 + 1, none⟩ = some (.int .i64 no) := (HB.out.cell hbl).trans c1
      have c2 : wr.cell? ⟨b, o + k * 3 + 2, none⟩ = some (.bool fu) := (HB.out.cell hbl).trans c2
      clear hkd hno hfu hr
      go_wp2_with fail
      refine (does_any s kd no fu _ g wr HE.out (by omega) K0.out).mono ?_
      rintro e w3 ⟨rfl, k2, t2⟩
      have HB := Lib.hid (tw_below HB.out t2 HG.out (Nat.le_refl _))
      have K0 : Hid (Blk w3 g 46 #[.int .i64 (s.act kd no fu).mtu, .int .i64 (s.act kd no fu).most, .int .i64 (s.act kd no fu).size, .int .i64 (s.act kd no fu).thr, .int .i64 (s.act kd no fu).part]) := Lib.hid k2
      clear k2 t2
      have HE2 : Hid ((s.act kd no fu).Ok (((k + 1 : Nat) : Int) * 16777216)) := Lib.hid (by rw [show ((k + 1 : Nat) : Int) * 16777216 = (k : Int) * 16777216 + 16777216 from by omega]; exact HE.out.act)
      have HM2 : Hid ((s.act kd no fu).mtu = m) := Lib.hid (by rw [act_mtu]; exact HMT.out)
      have HX2 : Hid ((s.act kd no fu).most = x) := Lib.hid (by rw [act_most]; exact HMS.out)
      clear c0 c1 c2 HE HMT HMS
      go_wp2_with fail
      go_roundw
      case rel => exact ⟨k + 1, _, by omega, by go_num, HE2, HM2, HX2, K0, HB⟩
      case measure => simp [intOf]; omega
    · obtain rfl : k = n := by omega
      clear hkn
      obtain ⟨z, hz0⟩ : ∃ z, s.size = z := ⟨_, rfl⟩
      have HZ := Lib.hid hz0
      have z0 : m ≤ z := by have := HE.out.z0; rw [HMT.out, hz0] at this; exact this
      have z1 : z ≤ x := by have := HE.out.z1; rw [HMS.out, hz0] at this; exact this
      clear hz0
      by_cases hz : z / 2 < 4 * m
      · skip
        cases tm
        · by_cases hzh : z ≤ (4 * m)
          · skip
            have HO1 : Hid (s.fast.Ok 0) := Lib.hid HE.out.fast
            have HT1 : Hid (s.fast.thr = (4 * m)) := Lib.hid (by show s.half = _; rw [half_max HE.out, HZ.out, HMT.out]; omega)
            have HS1 : Hid (s.fast.size = z) := Lib.hid (by show min s.size s.half = _; rw [half_max HE.out, HZ.out, HMT.out]; omega)
            have HG2 := again_thr HO1.out (by rw [HS1.out, HT1.out]; omega)
            rw [HT1.out, show s.fast.mtu = m from HMT.out] at HG2
            obtain ⟨T2, hT2⟩ : ∃ T2, s.fast.out.thr = T2 := ⟨_, rfl⟩
            rw [hT2] at HG2
            obtain ⟨gg1, gg2⟩ := HG2
            have HT2 := Lib.hid hT2
            have HS2 : Hid (s.fast.out.size = m) := Lib.hid HMT.out
            clear hT2
            go_wp2_with fail
            refine (codeSizeN _ z HZ.out g wr K0.out).mono ?_
            rintro e w2 ⟨rfl, rfl⟩
            go_wp2_with fail
            refine (codeFast s _ g w2 HE.out K0.out).mono ?_
            rintro e w3 ⟨rfl, k2, t2⟩
            have HB := Lib.hid (tw_below HB.out t2 HG.out (Nat.le_refl _))
            have K0 : Hid (Blk w3 g 46 #[.int .i64 s.fast.mtu, .int .i64 s.fast.most, .int .i64 s.fast.size, .int .i64 s.fast.thr, .int .i64 s.fast.part]) := Lib.hid k2
            clear k2 t2
            go_wp2_with fail
            refine (codeThresholdN _ (4 * m) HT1.out g w3 K0.out).mono ?_
            rintro e w4 ⟨rfl, rfl⟩
            go_wp2_with fail
            refine (codeSizeN _ z HS1.out g w4 K0.out).mono ?_
            rintro e w5 ⟨rfl, rfl⟩
            go_wp2_with fail
            refine (codeTimeout _ _ g w5 HO1.out K0.out).mono ?_
            rintro e w6 ⟨rfl, k2, t2⟩
            have HB := Lib.hid (tw_below HB.out t2 HG.out (Nat.le_refl _))
            have K0 : Hid (Blk w6 g 46 #[.int .i64 s.fast.out.mtu, .int .i64 s.fast.out.most, .int .i64 s.fast.out.size, .int .i64 s.fast.out.thr, .int .i64 s.fast.out.part]) := Lib.hid k2
            clear k2 t2
            go_wp2_with fail
            refine (codeThresholdN _ T2 HT2.out g w6 K0.out).mono ?_
            rintro e w7 ⟨rfl, rfl⟩
            go_wp2_with fail
            refine (codeThresholdN _ T2 HT2.out g w7 K0.out).mono ?_
            rintro e w9 ⟨rfl, rfl⟩
            go_wp2_with fail
            refine (codeSizeN _ m HS2.out g w9 K0.out).mono ?_
            rintro e w10 ⟨rfl, rfl⟩
            go_wp2_with fail
            refine (works_any w10).mono ?_
            rintro e w8 ⟨rfl, hb8⟩
            go_wp2_with fail
            go_ret
            exact ⟨rfl, below_then HB.out (Nat.le_refl _) hb8⟩
          · skip
            have HO1 : Hid (s.fast.Ok 0) := Lib.hid HE.out.fast
            have HT1 : Hid (s.fast.thr = (4 * m)) := Lib.hid (by show s.half = _; rw [half_max HE.out, HZ.out, HMT.out]; omega)
            have HS1 : Hid (s.fast.size = (4 * m)) := Lib.hid (by show min s.size s.half = _; rw [half_max HE.out, HZ.out, HMT.out]; omega)
            have HG2 := again_thr HO1.out (by rw [HS1.out, HT1.out]; omega)
            rw [HT1.out, show s.fast.mtu = m from HMT.out] at HG2
            obtain ⟨T2, hT2⟩ : ∃ T2, s.fast.out.thr = T2 := ⟨_, rfl⟩
            rw [hT2] at HG2
            obtain ⟨gg1, gg2⟩ := HG2
            have HT2 := Lib.hid hT2
            have HS2 : Hid (s.fast.out.size = m) := Lib.hid HMT.out
            clear hT2
            go_wp2_with fail
            refine (codeSizeN _ z HZ.out g wr K0.out).mono ?_
            rintro e w2 ⟨rfl, rfl⟩
            go_wp2_with fail
            refine (codeFast s _ g w2 HE.out K0.out).mono ?_
            rintro e w3 ⟨rfl, k2, t2⟩
            have HB := Lib.hid (tw_below HB.out t2 HG.out (Nat.le_refl _))
            have K0 : Hid (Blk w3 g 46 #[.int .i64 s.fast.mtu, .int .i64 s.fast.most, .int .i64 s.fast.size, .int .i64 s.fast.thr, .int .i64 s.fast.part]) := Lib.hid k2
            clear k2 t2
            go_wp2_with fail
            refine (codeThresholdN _ (4 * m) HT1.out g w3 K0.out).mono ?_
            rintro e w4 ⟨rfl, rfl⟩
            go_wp2_with fail
            refine (codeSizeN _ (4 * m) HS1.out g w4 K0.out).mono ?_
            rintro e w5 ⟨rfl, rfl⟩
            go_wp2_with fail
            refine (codeTimeout _ _ g w5 HO1.out K0.out).mono ?_
            rintro e w6 ⟨rfl, k2, t2⟩
            have HB := Lib.hid (tw_below HB.out t2 HG.out (Nat.le_refl _))
            have K0 : Hid (Blk w6 g 46 #[.int .i64 s.fast.out.mtu, .int .i64 s.fast.out.most, .int .i64 s.fast.out.size, .int .i64 s.fast.out.thr, .int .i64 s.fast.out.part]) := Lib.hid k2
            clear k2 t2
            go_wp2_with fail
            refine (codeThresholdN _ T2 HT2.out g w6 K0.out).mono ?_
            rintro e w7 ⟨rfl, rfl⟩
            go_wp2_with fail
            refine (codeThresholdN _ T2 HT2.out g w7 K0.out).mono ?_
            rintro e w9 ⟨rfl, rfl⟩
            go_wp2_with fail
            refine (codeSizeN _ m HS2.out g w9 K0.out).mono ?_
            rintro e w10 ⟨rfl, rfl⟩
            go_wp2_with fail
            refine (works_any w10).mono ?_
            rintro e w8 ⟨rfl, hb8⟩
            go_wp2_with fail
            go_ret
            exact ⟨rfl, below_then HB.out (Nat.le_refl _) hb8⟩
        · skip
          have HO1 : Hid (s.out.Ok 0) := Lib.hid HE.out.out
          have HT1 : Hid (s.out.thr = (4 * m)) := Lib.hid (by show s.half = _; rw [half_max HE.out, HZ.out, HMT.out]; omega)
          have HS1 : Hid (s.out.size = m) := Lib.hid (by show s.mtu = m; exact HMT.out)
          have HG2 := again_thr HO1.out (by rw [HS1.out, HT1.out]; omega)
          rw [HT1.out, show s.out.mtu = m from HMT.out] at HG2
          obtain ⟨T2, hT2⟩ : ∃ T2, s.out.out.thr = T2 := ⟨_, rfl⟩
          rw [hT2] at HG2
          obtain ⟨gg1, gg2⟩ := HG2
          have HT2 := Lib.hid hT2
          have HS2 : Hid (s.out.out.size = m) := Lib.hid HMT.out
          clear hT2
          go_wp2_with fail
          refine (codeSizeN _ z HZ.out g wr K0.out).mono ?_
          rintro e w2 ⟨rfl, rfl⟩
          go_wp2_with fail
          refine (codeTimeout s _ g w2 HE.out K0.out).mono ?_
          rintro e w3 ⟨rfl, k2, t2⟩
          have HB := Lib.hid (tw_below HB.out t2 HG.out (Nat.le_refl _))
          have K0 : Hid (Blk w3 g 46 #[.int .i64 s.out.mtu, .int .i64 s.out.most, .int .i64 s.out.size, .int .i64 s.out.thr, .int .i64 s.out.part]) := Lib.hid k2
          clear k2 t2
          go_wp2_with fail
          refine (codeThresholdN _ (4 * m) HT1.out g w3 K0.out).mono ?_
          rintro e w4 ⟨rfl, rfl⟩
          go_wp2_with fail
          refine (codeSizeN _ m HS1.out g w4 K0.out).mono ?_
          rintro e w5 ⟨rfl, rfl⟩
          go_wp2_with fail
          refine (codeTimeout _ _ g w5 HO1.out K0.out).mono ?_
          rintro e w6 ⟨rfl, k2, t2⟩
          have HB := Lib.hid (tw_below HB.out t2 HG.out (Nat.le_refl _))
          have K0 : Hid (Blk w6 g 46 #[.int .i64 s.out.out.mtu, .int .i64 s.out.out.most, .int .i64 s.out.out.size, .int .i64 s.out.out.thr, .int .i64 s.out.out.part]) := Lib.hid k2
          clear k2 t2
          go_wp2_with fail
          refine (codeThresholdN _ T2 HT2.out g w6 K0.out).mono ?_
          rintro e w7 ⟨rfl, rfl⟩
          go_wp2_with fail
          refine (codeThresholdN _ T2 HT2.out g w7 K0.out).mono ?_
          rintro e w9 ⟨rfl, rfl⟩
          go_wp2_with fail
          refine (codeSizeN _ m HS2.out g w9 K0.out).mono ?_
          rintro e w10 ⟨rfl, rfl⟩
          go_wp2_with fail
          refine (works_any w10).mono ?_
          rintro e w8 ⟨rfl, hb8⟩
          go_wp2_with fail
          go_ret
          exact ⟨rfl, below_then HB.out (Nat.le_refl _) hb8⟩
      · skip
        cases tm
        · by_cases hzh : z ≤ (z / 2)
          · skip
            exfalso
            omega
          · skip
            have HO1 : Hid (s.fast.Ok 0) := Lib.hid HE.out.fast
            have HT1 : Hid (s.fast.thr = (z / 2)) := Lib.hid (by show s.half = _; rw [half_max HE.out, HZ.out, HMT.out]; omega)
            have HS1 : Hid (s.fast.size = (z / 2)) := Lib.hid (by show min s.size s.half = _; rw [half_max HE.out, HZ.out, HMT.out]; omega)
            have HG2 := again_thr HO1.out (by rw [HS1.out, HT1.out]; omega)
            rw [HT1.out, show s.fast.mtu = m from HMT.out] at HG2
            obtain ⟨T2, hT2⟩ : ∃ T2, s.fast.out.thr = T2 := ⟨_, rfl⟩
            rw [hT2] at HG2
            obtain ⟨gg1, gg2⟩ := HG2
            have HT2 := Lib.hid hT2
            have HS2 : Hid (s.fast.out.size = m) := Lib.hid HMT.out
            clear hT2
            go_wp2_with fail
            refine (codeSizeN _ z HZ.out g wr K0.out).mono ?_
            rintro e w2 ⟨rfl, rfl⟩
            go_wp2_with fail
            refine (codeFast s _ g w2 HE.out K0.out).mono ?_
            rintro e w3 ⟨rfl, k2, t2⟩
            have HB := Lib.hid (tw_below HB.out t2 HG.out (Nat.le_refl _))
            have K0 : Hid (Blk w3 g 46 #[.int .i64 s.fast.mtu, .int .i64 s.fast.most, .int .i64 s.fast.size, .int .i64 s.fast.thr, .int .i64 s.fast.part]) := Lib.hid k2
            clear k2 t2
            go_wp2_with fail
            refine (codeThresholdN _ (z / 2) HT1.out g w3 K0.out).mono ?_
            rintro e w4 ⟨rfl, rfl⟩
            go_wp2_with fail
            refine (codeSizeN _ (z / 2) HS1.out g w4 K0.out).mono ?_
            rintro e w5 ⟨rfl, rfl⟩
            go_wp2_with fail
            refine (codeTimeout _ _ g w5 HO1.out K0.out).mono ?_
            rintro e w6 ⟨rfl, k2, t2⟩
            have HB := Lib.hid (tw_below HB.out t2 HG.out (Nat.le_refl _))
            have K0 : Hid (Blk w6 g 46 #[.int .i64 s.fast.out.mtu, .int .i64 s.fast.out.most, .int .i64 s.fast.out.size, .int .i64 s.fast.out.thr, .int .i64 s.fast.out.part]) := Lib.hid k2
            clear k2 t2
            go_wp2_with fail
            refine (codeThresholdN _ T2 HT2.out g w6 K0.out).mono ?_
            rintro e w7 ⟨rfl, rfl⟩
            go_wp2_with fail
            refine (codeThresholdN _ T2 HT2.out g w7 K0.out).mono ?_
            rintro e w9 ⟨rfl, rfl⟩
            go_wp2_with fail
            refine (codeSizeN _ m HS2.out g w9 K0.out).mono ?_
            rintro e w10 ⟨rfl, rfl⟩
            go_wp2_with fail
            refine (works_any w10).mono ?_
            rintro e w8 ⟨rfl, hb8⟩
            go_wp2_with fail
            go_ret
            exact ⟨rfl, below_then HB.out (Nat.le_refl _) hb8⟩
        · skip
          have HO1 : Hid (s.out.Ok 0) := Lib.hid HE.out.out
          have HT1 : Hid (s.out.thr = (z / 2)) := Lib.hid (by show s.half = _; rw [half_max HE.out, HZ.out, HMT.out]; omega)
          have HS1 : Hid (s.out.size = m) := Lib.hid (by show s.mtu = m; exact HMT.out)
          have HG2 := again_thr HO1.out (by rw [HS1.out, HT1.out]; omega)
          rw [HT1.out, show s.out.mtu = m from HMT.out] at HG2
          obtain ⟨T2, hT2⟩ : ∃ T2, s.out.out.thr = T2 := ⟨_, rfl⟩
          rw [hT2] at HG2
          obtain ⟨gg1, gg2⟩ := HG2
          have HT2 := Lib.hid hT2
          have HS2 : Hid (s.out.out.size = m) := Lib.hid HMT.out
          clear hT2
          go_wp2_with fail
          refine (codeSizeN _ z HZ.out g wr K0.out).mono ?_
          rintro e w2 ⟨rfl, rfl⟩
          go_wp2_with fail
          refine (codeTimeout s _ g w2 HE.out K0.out).mono ?_
          rintro e w3 ⟨rfl, k2, t2⟩
          have HB := Lib.hid (tw_below HB.out t2 HG.out (Nat.le_refl _))
          have K0 : Hid (Blk w3 g 46 #[.int .i64 s.out.mtu, .int .i64 s.out.most, .int .i64 s.out.size, .int .i64 s.out.thr, .int .i64 s.out.part]) := Lib.hid k2
          clear k2 t2
          go_wp2_with fail
          refine (codeThresholdN _ (z / 2) HT1.out g w3 K0.out).mono ?_
          rintro e w4 ⟨rfl, rfl⟩
          go_wp2_with fail
          refine (codeSizeN _ m HS1.out g w4 K0.out).mono ?_
          rintro e w5 ⟨rfl, rfl⟩
          go_wp2_with fail
          refine (codeTimeout _ _ g w5 HO1.out K0.out).mono ?_
          rintro e w6 ⟨rfl, k2, t2⟩
          have HB := Lib.hid (tw_below HB.out t2 HG.out (Nat.le_refl _))
          have K0 : Hid (Blk w6 g 46 #[.int .i64 s.out.out.mtu, .int .i64 s.out.out.most, .int .i64 s.out.out.size, .int .i64 s.out.out.thr, .int .i64 s.out.out.part]) := Lib.hid k2
          clear k2 t2
          go_wp2_with fail
          refine (codeThresholdN _ T2 HT2.out g w6 K0.out).mono ?_
          rintro e w7 ⟨rfl, rfl⟩
          go_wp2_with fail
          refine (codeThresholdN _ T2 HT2.out g w7 K0.out).mono ?_
          rintro e w9 ⟨rfl, rfl⟩
          go_wp2_with fail
          refine (codeSizeN _ m HS2.out g w9 K0.out).mono ?_
          rintro e w10 ⟨rfl, rfl⟩
          go_wp2_with fail
          refine (works_any w10).mono ?_
          rintro e w8 ⟨rfl, hb8⟩
          go_wp2_with fail
          go_ret
          exact ⟨rfl, below_then HB.out (Nat.le_refl _) hb8⟩
theorem windowHalves_walk (m x : Int) (A : Option Addr) (n c : Nat) (rows : List (List Value)) (tm : Bool) (w : World) (h1 : (Lit.int .i64 m).wf = true) (h2 : (Lit.int .i64 x).wf = true) (h4 : n ≤ c) (h5 : c ≤ maxLen) (h6 : rows.length = n) (h7 : Rows_ w w.heap.size A 3 rows) (h8 : ∀ row ∈ rows, OpRow row) : Calls Try.prog 7 #[.int .i64 m, .int .i64 x, .slice A n c, .bool tm] w fun e w' => e = .returned (.bool true) ∧ Below w.heap.size w w' := by
  by_cases h : winOk m x
  · by_cases hb : 500 < n
    · exact windowHalves_big m x A n c tm w h hb (Nat.le_trans h4 h5)
    · obtain ⟨L, hl, hL⟩ := wop_of h7 h8
      exact windowHalves_yes m x A n c tm L w h (by omega) (by omega) hL
  · exact windowHalves_no m x A n c tm w h
end Go.Proofs.Ytlkppgdeaphoeaa
