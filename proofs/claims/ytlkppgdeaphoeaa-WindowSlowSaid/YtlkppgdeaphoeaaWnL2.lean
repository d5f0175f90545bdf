/-
  Package window: WindowSlow, walked.
-/
import Derived.Test.YtlkppgdeaphoeaaWnL1
namespace Go.Proofs.Ytlkppgdeaphoeaa
open Go.RowKit
set_option linter.unusedVariables false

set_option maxRecDepth 100000 in
set_option maxHeartbeats 4000000 in
theorem windowSlow_no (m x n : Int) (w : World) (hn : ¬ winOk m x) : Calls Try.prog 5 #[.int .i64 m, .int .i64 x, .int .u16 n] w fun e w' => e = .returned (.bool true) ∧ Below w.heap.size w w' := by
  go_enter Try.func5, Try.ntmps5
  go_wp2_with fail
  refine (codeNew_no m x w hn).mono ?_
  rintro e w1 ⟨rfl, rfl⟩
  go_wp2_with fail
  refine (works_any w1).mono ?_
  rintro e w8 ⟨rfl, hb8⟩
  go_wp2_with fail
  go_ret
  exact ⟨rfl, hb8⟩
set_option maxRecDepth 100000 in
set_option maxHeartbeats 4000000 in
theorem windowSlow_yes (m x n : Int) (w : World) (h : winOk m x) (n0 : 0 ≤ n) (n1 : n ≤ 65535) : Calls Try.prog 5 #[.int .i64 m, .int .i64 x, .int .u16 n] w fun e w' => e = .returned (.bool true) ∧ Below w.heap.size w w' := by
  have HN := Lib.hid h
  have HO := Lib.hid (newW_ok h)
  have HE0 := Lib.hid (Slow.start h)
  obtain ⟨b1, b2, b3, b4⟩ := h
  go_enter Try.func5, Try.ntmps5
  go_wp2_with fail
  refine (codeNew m x w HN.out).mono ?_
  rintro e w1 ⟨rfl, K1, B1⟩
  obtain ⟨g, hg⟩ : ∃ g, g = w.heap.size := ⟨_, rfl⟩
  rw [← hg] at K1 ⊢
  have HG : Hid (∀ k ∈ [g], w.heap.size ≤ k) := Lib.hid (by simp; omega)
  have HB := Lib.hid B1
  have K0 := Lib.hid K1
  clear hg K1 B1
  go_wp2_with fail
  refine (codeTimeout _ _ g w1 HO.out K0.out).mono ?_
  rintro e w2 ⟨rfl, k2, t2⟩
  have HB := Lib.hid (tw_below HB.out t2 HG.out (Nat.le_refl _))
  have K0 : Hid (Blk w2 g 46 #[.int .i64 (newW m x).out.mtu, .int .i64 (newW m x).out.most, .int .i64 (newW m x).out.size, .int .i64 (newW m x).out.thr, .int .i64 (newW m x).out.part]) := Lib.hid k2
  clear k2 t2
  go_wp2_with fail
  refine (codeTimeout _ _ g w2 HO.out.out K0.out).mono ?_
  rintro e w3 ⟨rfl, k2, t2⟩
  have HB := Lib.hid (tw_below HB.out t2 HG.out (Nat.le_refl _))
  have K0 : Hid (Blk w3 g 46 #[.int .i64 (newW m x).out.out.mtu, .int .i64 (newW m x).out.out.most, .int .i64 (newW m x).out.out.size, .int .i64 (newW m x).out.out.thr, .int .i64 (newW m x).out.out.part]) := Lib.hid k2
  clear k2 t2
  go_wp2_with fail
  refine (codeThresholdN _ (4 * m) HE0.out.th g w3 K0.out).mono ?_
  rintro e w4 ⟨rfl, rfl⟩
  have HO : Hid True := Lib.hid trivial
  obtain ⟨q, hq⟩ : ∃ q, q = n % 300 := ⟨_, rfl⟩
  have q0 : 0 ≤ q := by omega
  have q1 : q < 300 := by omega
  have hqe : n % 300 = q := hq.symm
  clear hq
  go_wp2_with fail
  go_loopw [10] (fun i wr => ∃ (j : Int) (s : Wn), 1 ≤ j ∧ j ≤ q + 1 ∧ i = .int .i64 j ∧ Hid (Slow s m x (j - 1)) ∧ Hid (Blk wr g 46 #[.int .i64 s.mtu, .int .i64 s.most, .int .i64 s.size, .int .i64 s.thr, .int .i64 s.part]) ∧ Hid (Below w.heap.size w wr)) (fun i _ => 400 - (intOf i).toNat)
  case atStart => exact ⟨1, _, by omega, by omega, by go_num, HE0, K0, HB⟩
  case round =>
    clear K0 HB HE0
    obtain ⟨j, s, j1, j2, rfl, HE, K0, HB⟩ := hrel
    by_cases hj : j ≤ q
    · go_wp2_with fail
      refine (codeAcked s m true _ g wr HE.out.ok (by omega) K0.out).mono ?_
      rintro e w3 ⟨rfl, k2, t2⟩
      have HB := Lib.hid (tw_below HB.out t2 HG.out (Nat.le_refl _))
      have K0 : Hid (Blk w3 g 46 #[.int .i64 (s.ack m true).mtu, .int .i64 (s.ack m true).most, .int .i64 (s.ack m true).size, .int .i64 (s.ack m true).thr, .int .i64 (s.ack m true).part]) := Lib.hid k2
      clear k2 t2
      have HNX := Lib.hid (HE.out.next)
      rw [show j - 1 + 1 = j from by omega] at HNX
      have HN1 := Lib.hid HNX.out.1
      have HN2 := Lib.hid HNX.out.2
      obtain ⟨X, hX⟩ : ∃ X, X = j * m := ⟨_, rfl⟩
      rw [← hX] at HN1 HN2
      have x0 : 0 ≤ X := by rw [hX]; exact Int.mul_nonneg (by omega) (by omega)
      have x1 : X ≤ 300 * 1500 := by rw [hX]; exact Int.le_trans (Int.mul_le_mul_of_nonneg_right (show j ≤ 300 by omega) (by omega)) (by omega)
      have hw1 : IntKind.i64.wrap (j * m) = X := by rw [← hX]; exact wrap_i64 (by omega) (by omega)
      obtain ⟨S, hS0⟩ : ∃ S, (s.ack m true).size = S := ⟨_, rfl⟩
      have HS := Lib.hid hS0
      have hSl : S ≤ x := by rw [← hS0]; have := HE.out.ok.ack (n := m) (full := true); have h2 := this.z1; rw [ack_most, HE.out.ms] at h2; exact h2
      have hSg : 0 ≤ S := by rw [← hS0]; have := (HE.out.ok.ack (n := m) (full := true)).z0; have h2 := (HE.out.ok.ack (n := m) (full := true)).m0; omega
      clear hS0 hX HE HNX
      by_cases hx : m + X ≤ x
      · skip
        have HV : Hid (min (m + X) x = (m + X)) := Lib.hid (by omega)
        by_cases hS : S = (m + X)
        · have HN := Lib.hid (HN1.out (by rw [HV.out, ← hS]; exact HS.out))
          have HS2 : Hid ((s.ack m true).size = (m + X)) := Lib.hid (by rw [← hS]; exact HS.out)
          clear hS HS HN1 HN2 hSl
          go_wp2_with fail
          refine (codeSizeN (s.ack m true) (m + X) HS2.out g w3 K0.out).mono ?_
          rintro e w4 ⟨rfl, rfl⟩
          go_wp2_with fail
          go_roundw
          case rel => exact ⟨j + 1, _, by omega, by omega, by go_num, by rw [show j + 1 - 1 = j from by omega]; exact HN, K0, HB⟩
          case measure => simp [intOf]; omega
        · obtain ⟨g1, g2⟩ := HN2.out (by rw [HV.out, HS.out]; exact hS)
          rw [HS.out] at g1 g2
          rw [HV.out] at g2
          have hb : (S == (m + X)) = false := by simpa using hS
          clear hS HN1 HN2
          go_wp2_with fail
          refine (codeSizeN (s.ack m true) S HS.out g w3 K0.out).mono ?_
          rintro e w4 ⟨rfl, rfl⟩
          go_wp2_with fail
          refine (codeSizeN (s.ack m true) S HS.out g w4 K0.out).mono ?_
          rintro e w5 ⟨rfl, rfl⟩
          go_wp2_with fail
          refine (codeSizeN (s.ack m true) S HS.out g w5 K0.out).mono ?_
          rintro e w6 ⟨rfl, rfl⟩
          go_wp2_with fail
          refine (works_any w6).mono ?_
          rintro e w8 ⟨rfl, hb8⟩
          go_wp2_with fail
          go_ret
          exact ⟨rfl, below_then HB.out (Nat.le_refl _) hb8⟩
      · skip
        have HV : Hid (min (m + X) x = x) := Lib.hid (by omega)
        by_cases hS : S = x
        · have HN := Lib.hid (HN1.out (by rw [HV.out, ← hS]; exact HS.out))
          have HS2 : Hid ((s.ack m true).size = x) := Lib.hid (by rw [← hS]; exact HS.out)
          clear hS HS HN1 HN2 hSl
          go_wp2_with fail
          refine (codeSizeN (s.ack m true) x HS2.out g w3 K0.out).mono ?_
          rintro e w4 ⟨rfl, rfl⟩
          go_wp2_with fail
          go_roundw
          case rel => exact ⟨j + 1, _, by omega, by omega, by go_num, by rw [show j + 1 - 1 = j from by omega]; exact HN, K0, HB⟩
          case measure => simp [intOf]; omega
        · obtain ⟨g1, g2⟩ := HN2.out (by rw [HV.out, HS.out]; exact hS)
          rw [HS.out] at g1 g2
          rw [HV.out] at g2
          have hb : (S == x) = false := by simpa using hS
          clear hS HN1 HN2
          go_wp2_with fail
          refine (codeSizeN (s.ack m true) S HS.out g w3 K0.out).mono ?_
          rintro e w4 ⟨rfl, rfl⟩
          go_wp2_with fail
          refine (codeSizeN (s.ack m true) S HS.out g w4 K0.out).mono ?_
          rintro e w5 ⟨rfl, rfl⟩
          go_wp2_with fail
          refine (codeSizeN (s.ack m true) S HS.out g w5 K0.out).mono ?_
          rintro e w6 ⟨rfl, rfl⟩
          go_wp2_with fail
          refine (works_any w6).mono ?_
          rintro e w8 ⟨rfl, hb8⟩
          go_wp2_with fail
          go_ret
          exact ⟨rfl, below_then HB.out (Nat.le_refl _) hb8⟩
    · obtain rfl : j = q + 1 := by omega
      clear hj
      go_wp2_with fail
      refine (works_any wr).mono ?_
      rintro e w8 ⟨rfl, hb8⟩
      go_wp2_with fail
      go_ret
      exact ⟨rfl, below_then HB.out (Nat.le_refl _) hb8⟩
theorem windowSlow_walk (m x n : Int) (w : World) (h1 : (Lit.int .i64 m).wf = true) (h2 : (Lit.int .i64 x).wf = true) (h3 : (Lit.int .u16 n).wf = true) : Calls Try.prog 5 #[.int .i64 m, .int .i64 x, .int .u16 n] w fun e w' => e = .returned (.bool true) ∧ Below w.heap.size w w' := by
  obtain ⟨n0, n1⟩ := wf_u16b h3
  by_cases h : winOk m x
  · exact windowSlow_yes m x n w h n0 n1
  · exact windowSlow_no m x n w h
end Go.Proofs.Ytlkppgdeaphoeaa
