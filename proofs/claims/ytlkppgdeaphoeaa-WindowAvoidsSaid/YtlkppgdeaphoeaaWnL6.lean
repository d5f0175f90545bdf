/-
  Package window: WindowAvoids, walked.
-/
import Derived.Test.YtlkppgdeaphoeaaWnL1
import Derived.Deep.LoopGhost
namespace Go.Proofs.Ytlkppgdeaphoeaa
open Go.RowKit
set_option linter.unusedVariables false

theorem Avoid.le {s : Wn} {m told size P : Int} (h : Avoid s m told size P) : size ≤ 40 * m ∧ 5 * m ≤ size := by
  obtain ⟨j, j5, j40, hj⟩ := h.j
  have := h.ok.m0
  rw [h.mt] at this
  rw [hj]
  exact ⟨Int.mul_le_mul_of_nonneg_right j40 (by omega), Int.mul_le_mul_of_nonneg_right j5 (by omega)⟩
set_option maxRecDepth 100000 in
set_option maxHeartbeats 4000000 in
theorem windowAvoids_no (m : Int) (A : Option Addr) (n c : Nat) (w : World) (hm : n ≤ maxLen) (hn : ¬ (128 ≤ m ∧ m ≤ 1500 ∧ n ≤ 200)) : Calls Try.prog 6 #[.int .i64 m, .slice A n c] w fun e w' => e = .returned (.bool true) ∧ Below w.heap.size w w' := by
  unfold maxLen at hm
  by_cases h1 : m < 128
  · clear hn
    go_enter Try.func6, Try.ntmps6
    go_wp2_with fail
    refine (works_any w).mono ?_
    rintro e w8 ⟨rfl, hb8⟩
    go_wp2_with fail
    go_ret
    exact ⟨rfl, hb8⟩
  · by_cases h2 : 1500 < m
    · clear hn
      go_enter Try.func6, Try.ntmps6
      go_wp2_with fail
      refine (works_any w).mono ?_
      rintro e w8 ⟨rfl, hb8⟩
      go_wp2_with fail
      go_ret
      exact ⟨rfl, hb8⟩
    · have h3 : 200 < n := by omega
      clear hn
      go_enter Try.func6, Try.ntmps6
      go_wp2_with fail
      refine (works_any w).mono ?_
      rintro e w8 ⟨rfl, hb8⟩
      go_wp2_with fail
      go_ret
      exact ⟨rfl, hb8⟩
set_option maxRecDepth 100000 in
set_option maxHeartbeats 4000000 in
theorem windowAvoids_yes (m : Int) (A : Option Addr) (n c : Nat) (xs : List Int) (w : World) (b1 : 128 ≤ m) (b2 : m ≤ 1500) (hb : n ≤ 200) (hn : xs.length = n) (hr : Ri .u16 w w.heap.size A xs) (hx : ∀ x ∈ xs, 0 ≤ x ∧ x ≤ 65535) : Calls Try.prog 6 #[.int .i64 m, .slice A n c] w fun e w' => e = .returned (.bool true) ∧ Below w.heap.size w w' := by
  have h : winOk m (40 * m) := ⟨b1, b2, by omega, by omega⟩
  have HN := Lib.hid h
  have HO := Lib.hid (newW_ok h)
  have HU := Lib.hid (Up.start h)
  have HL := Lib.hid hn
  have HXS := Lib.hid hx
  have HR := Lib.hid hr
  clear h hn hx hr
  go_enter Try.func6, Try.ntmps6
  go_wp2_with fail
  refine (codeNew m (40 * m) w HN.out).mono ?_
  rintro e w1 ⟨rfl, K1, B1⟩
  obtain ⟨g, hg⟩ : ∃ g, g = w.heap.size := ⟨_, rfl⟩
  rw [← hg] at K1 ⊢
  have HG : Hid (∀ k ∈ [g], w.heap.size ≤ k) := Lib.hid (by simp; omega)
  have HB := Lib.hid B1
  have K0 := Lib.hid K1
  clear hg K1 B1
  go_wp2_with fail
  refine (codeTimeout _ _ g w1 HO.out K0.out).mono ?_
  rintro e w2 ⟨rfl, k2, t2⟩
  have HB := Lib.hid (tw_below HB.out t2 HG.out (Nat.le_refl _))
  have K0 : Hid (Blk w2 g 46 #[.int .i64 (newW m (40 * m)).out.mtu, .int .i64 (newW m (40 * m)).out.most, .int .i64 (newW m (40 * m)).out.size, .int .i64 (newW m (40 * m)).out.thr, .int .i64 (newW m (40 * m)).out.part]) := Lib.hid k2
  clear k2 t2
  go_wp2_with fail
  refine (codeTimeout _ _ g w2 HO.out.out K0.out).mono ?_
  rintro e w3 ⟨rfl, k2, t2⟩
  have HB := Lib.hid (tw_below HB.out t2 HG.out (Nat.le_refl _))
  have K0 : Hid (Blk w3 g 46 #[.int .i64 (newW m (40 * m)).out.out.mtu, .int .i64 (newW m (40 * m)).out.out.most, .int .i64 (newW m (40 * m)).out.out.size, .int .i64 (newW m (40 * m)).out.out.thr, .int .i64 (newW m (40 * m)).out.out.part]) := Lib.hid k2
  clear k2 t2
  have HO : Hid True := Lib.hid trivial
  go_wp2_with fail
  go_loopg [7] 5 (fun gk _ wr => ∃ (j : Int) (s : Wn), (gk : Int) = 6 - j ∧ Hid (Up s m j) ∧ Hid (Blk wr g 46 #[.int .i64 s.mtu, .int .i64 s.most, .int .i64 s.size, .int .i64 s.thr, .int .i64 s.part]) ∧ Hid (Below w.heap.size w wr))
  case atStart => exact ⟨1, _, by omega, HU, K0, HB⟩
  case round =>
    clear K0 HB HU
    obtain ⟨j, s, hgk, HU, K0, HB⟩ := hrel
    obtain ⟨z, hz⟩ : ∃ z, s.size = z := ⟨_, rfl⟩
    have HZ := Lib.hid hz
    have z0 : m ≤ z := by rw [← hz]; have := HU.out.ok.z0; rw [HU.out.mt] at this; exact this
    have z1 : z ≤ 40 * m := by rw [← hz]; have := HU.out.ok.z1; rw [HU.out.ms] at this; exact this
    clear hz
    have HGK := Lib.hid hgk
    clear hgk
    go_wp2_with fail
    refine (codeSizeN s z HZ.out g wr K0.out).mono ?_
    rintro e w2 ⟨rfl, rfl⟩
    go_wp2_with fail
    refine (codeThresholdN s (4 * m) HU.out.th g w2 K0.out).mono ?_
    rintro e w3 ⟨rfl, rfl⟩
    by_cases hzt : z ≤ 4 * m
    · have HNX := Lib.hid (HU.out.next (by rw [HZ.out, HU.out.th]; exact hzt))
      have hj : j ≤ 4 := HU.out.le.1 (by rw [HZ.out, HU.out.th]; exact hzt)
      go_wp2_with fail
      refine (codeSizeN s z HZ.out g w3 K0.out).mono ?_
      rintro e w4 ⟨rfl, rfl⟩
      go_wp2_with fail
      refine (codeAcked s m true _ g w4 HU.out.ok (by decide) K0.out).mono ?_
      rintro e w5 ⟨rfl, k2, t2⟩
      have HB := Lib.hid (tw_below HB.out t2 HG.out (Nat.le_refl _))
      have K0 : Hid (Blk w5 g 46 #[.int .i64 (s.ack m true).mtu, .int .i64 (s.ack m true).most, .int .i64 (s.ack m true).size, .int .i64 (s.ack m true).thr, .int .i64 (s.ack m true).part]) := Lib.hid k2
      clear k2 t2
      obtain ⟨y, hy⟩ : ∃ y, (s.ack m true).size = y := ⟨_, rfl⟩
      have HY := Lib.hid hy
      have hzy : z < y := by rw [← hy, ← HZ.out]; exact HNX.out.2
      have hyx : y ≤ 40 * m := by rw [← hy]; have := HNX.out.1.ok.z1; rw [HNX.out.1.ms] at this; exact this
      have HU2 := Lib.hid HNX.out.1
      clear hy HNX
      go_wp2_with fail
      refine (codeSizeN (s.ack m true) y HY.out g w5 K0.out).mono ?_
      rintro e w6 ⟨rfl, rfl⟩
      go_wp2_with fail
      go_roundg (gk - 1)
      case rel => exact ⟨j + 1, _, by have := HGK.out; omega, HU2, K0, HB⟩
      case measure => have := HGK.out; omega
    · have HA0 : Hid (Avoid s m 0 z 0) := Lib.hid (by have := HU.out.end_ (by rw [HZ.out, HU.out.th]; exact hzt); rw [HZ.out] at this; exact this)
      clear HU HGK
      go_wp2_with fail
      refine (codeSizeN s z HZ.out g w3 K0.out).mono ?_
      rintro e w4 ⟨rfl, rfl⟩
      go_wp2_with fail
      go_loopg [8, 9, 10, 11] n (fun gk q8 q9 q10 _ wr => ∃ (k : Nat) (s : Wn) (told size : Int), k ≤ n ∧ gk = n - k ∧ q8 = .int .i64 size ∧ q9 = .int .i64 told ∧ q10 = .int .i64 k ∧ Hid (Avoid s m told size ((k : Int) * 16777216)) ∧ Hid (Blk wr g 46 #[.int .i64 s.mtu, .int .i64 s.most, .int .i64 s.size, .int .i64 s.thr, .int .i64 s.part]) ∧ Hid (Below w.heap.size w wr))
      case atStart => exact ⟨0, _, 0, z, by omega, by omega, rfl, rfl, by go_num, HA0, K0, HB⟩
      case round =>
        clear K0 HB HA0 HZ z0 z1 hzt
        obtain ⟨k, s, told, size, hk, rfl, rfl, rfl, rfl, HA, K0, HB⟩ := hrel
        by_cases hkn : k < n
        · obtain ⟨b, o, rfl, hbl, hc⟩ := HR.out.at_ (by intro h0; have := HL.out; rw [h0] at this; simp at this; omega)
          have c0 := hc k (by rw [HL.out]; exact hkn)
          obtain ⟨X, hX⟩ : ∃ X, X = xs[k]'(by rw [HL.out]; exact hkn) := ⟨_, rfl⟩
          rw [← hX] at c0
          have c0 : wr.cell? ⟨b, o + k, none⟩ = some (.int .u16 X) := (HB.out.cell hbl).trans c0
          have X0 := HXS.out X (by rw [hX]; exact List.getElem_mem _)
          obtain ⟨X0, X1⟩ := X0
          obtain ⟨nn, hnn⟩ : ∃ nn, nn = X % m := ⟨_, rfl⟩
          have n0 : 0 ≤ nn := by rw [hnn]; exact Int.emod_nonneg _ (by omega)
          have n1 : nn < m := by rw [hnn]; exact Int.emod_lt_of_pos _ (by omega)
          have hm1 : X % m = nn := hnn.symm
          have hm2 : X.tmod m = nn := by rw [hnn]; exact Int.tmod_eq_emod_of_nonneg X0
          have t0 := HA.out.t0
          have tp : told ≤ 200 * 16777216 := by have := HA.out.tp; omega
          obtain ⟨s40, s5⟩ := HA.out.le
          have HNX := Lib.hid (HA.out.next n0 n1)
          have HP : Hid ((k : Int) * 16777216 ≤ 1125899906842624) := Lib.hid (by omega)
          clear hX hnn hc
          go_wp2_with fail
          refine (codeAcked s nn true _ g wr HA.out.ok HP.out K0.out).mono ?_
          rintro e w5 ⟨rfl, k2, t2⟩
          have HB := Lib.hid (tw_below HB.out t2 HG.out (Nat.le_refl _))
          have K0 : Hid (Blk w5 g 46 #[.int .i64 (s.ack nn true).mtu, .int .i64 (s.ack nn true).most, .int .i64 (s.ack nn true).size, .int .i64 (s.ack nn true).thr, .int .i64 (s.ack nn true).part]) := Lib.hid k2
          clear k2 t2
          clear c0
          by_cases hc : size ≤ told + nn ∧ size < 40 * m
          · obtain ⟨d1, d2⟩ := HNX.out.1 hc
            obtain ⟨e1, e2⟩ := hc
            have HAV := Lib.hid d2
            clear HNX HA d2
            go_wp2_with fail
            refine wp_loop_rounds 2 ?_
            rw [rounds_succ]
            go_wp2_with fail
            rw [rounds_succ]
            go_wp2_with fail
            have HA := Lib.hid HAV.out
            have hle := HA.out.le
            have HS2 : Hid ((s.ack nn true).size = (size + m)) := Lib.hid HA.out.sz
            go_wp2_with fail
            refine (codeSizeN (s.ack nn true) (size + m) HS2.out g w5 K0.out).mono ?_
            rintro e w6 ⟨rfl, rfl⟩
            go_wp2_with fail
            go_roundg (n - (k + 1))
            case rel => exact ⟨k + 1, _, (told + nn - size), (size + m), by omega, rfl, rfl, rfl, by go_num, by rw [show ((k + 1 : Nat) : Int) * 16777216 = (k : Int) * 16777216 + 16777216 from by omega]; exact HA, K0, HB⟩
            case measure => omega
          · have d2 := HNX.out.2 hc
            have HAV := Lib.hid d2
            clear HNX HA d2
            by_cases e1 : size ≤ told + nn
            · have e2 : ¬ size < 40 * m := fun h => hc ⟨e1, h⟩
              clear hc
              go_wp2_with fail
              refine wp_loop_rounds 1 ?_
              rw [rounds_succ]
              go_wp2_with fail
              have HA := Lib.hid HAV.out
              have hle := HA.out.le
              have HS2 : Hid ((s.ack nn true).size = size) := Lib.hid HA.out.sz
              go_wp2_with fail
              refine (codeSizeN (s.ack nn true) size HS2.out g w5 K0.out).mono ?_
              rintro e w6 ⟨rfl, rfl⟩
              go_wp2_with fail
              go_roundg (n - (k + 1))
              case rel => exact ⟨k + 1, _, (told + nn), size, by omega, rfl, rfl, rfl, by go_num, by rw [show ((k + 1 : Nat) : Int) * 16777216 = (k : Int) * 16777216 + 16777216 from by omega]; exact HA, K0, HB⟩
              case measure => omega
            · clear hc
              go_wp2_with fail
              refine wp_loop_rounds 1 ?_
              rw [rounds_succ]
              go_wp2_with fail
              have HA := Lib.hid HAV.out
              have hle := HA.out.le
              have HS2 : Hid ((s.ack nn true).size = size) := Lib.hid HA.out.sz
              go_wp2_with fail
              refine (codeSizeN (s.ack nn true) size HS2.out g w5 K0.out).mono ?_
              rintro e w6 ⟨rfl, rfl⟩
              go_wp2_with fail
              go_roundg (n - (k + 1))
              case rel => exact ⟨k + 1, _, (told + nn), size, by omega, rfl, rfl, rfl, by go_num, by rw [show ((k + 1 : Nat) : Int) * 16777216 = (k : Int) * 16777216 + 16777216 from by omega]; exact HA, K0, HB⟩
              case measure => omega
        · obtain rfl : k = n := by omega
          clear hkn
          go_wp2_with fail
          refine (works_any wr).mono ?_
          rintro e w8 ⟨rfl, hb8⟩
          go_wp2_with fail
          go_ret
          exact ⟨rfl, below_then HB.out (Nat.le_refl _) hb8⟩
theorem windowAvoids_walk (m : Int) (A : Option Addr) (n c : Nat) (xs : List Int) (w : World) (h1 : (Lit.int .i64 m).wf = true) (h4 : n ≤ c) (h5 : c ≤ maxLen) (h6 : xs.length = n) (h7 : Ri .u16 w w.heap.size A xs) (h8 : ∀ x ∈ xs, (Lit.int .u16 x).wf = true) : Calls Try.prog 6 #[.int .i64 m, .slice A n c] w fun e w' => e = .returned (.bool true) ∧ Below w.heap.size w w' := by
  by_cases h : 128 ≤ m ∧ m ≤ 1500 ∧ n ≤ 200
  · exact windowAvoids_yes m A n c xs w h.1 h.2.1 h.2.2 h6 h7 (fun x hx => wf_u16b (h8 x hx))
  · exact windowAvoids_no m A n c w (Nat.le_trans h4 h5) h
end Go.Proofs.Ytlkppgdeaphoeaa
