/-
  Package window: WindowPlays, walked.
-/
import Derived.Test.YtlkppgdeaphoeaaWnL1
namespace Go.Proofs.Ytlkppgdeaphoeaa
open Go.RowKit
set_option linter.unusedVariables false

set_option maxRecDepth 100000 in
set_option maxHeartbeats 4000000 in
theorem windowPlays_big (m x : Int) (A : Option Addr) (n c : Nat) (w : World) (hb : 500 < n) (hm : n ≤ maxLen) : Calls Try.prog 3 #[.int .i64 m, .int .i64 x, .slice A n c] w fun e w' => e = .returned (.bool true) ∧ Below w.heap.size w w' := by
  unfold maxLen at hm
  go_enter Try.func3, Try.ntmps3
  go_wp2_with fail
  refine (works_any w).mono ?_
  rintro e w8 ⟨rfl, hb8⟩
  go_wp2_with fail
  go_ret
  exact ⟨rfl, hb8⟩
set_option maxRecDepth 100000 in
set_option maxHeartbeats 4000000 in
theorem windowPlays_no (m x : Int) (A : Option Addr) (n c : Nat) (L : List (Int × Int × Bool)) (w : World) (h : ¬ winOk m x) (hb : n ≤ 500) (hn : L.length = n) (hr : Wop w w.heap.size A L) : Calls Try.prog 3 #[.int .i64 m, .int .i64 x, .slice A n c] w fun e w' => e = .returned (.bool true) ∧ Below w.heap.size w w' := by
  have HN := Lib.hid h
  have HL := Lib.hid hn
  clear h hn
  go_enter Try.func3, Try.ntmps3
  go_wp2_with fail
  refine (codeNew_no m x w HN.out).mono ?_
  rintro e w1 ⟨rfl, rfl⟩
  go_wp2_with fail
  refine (refNew_no m x w1 HN.out).mono ?_
  rintro e w2 ⟨rfl, rfl⟩
  have HB : Hid (Below w2.heap.size w2 w2) := Lib.hid (Below.refl _ _)
  go_wp2_with fail
  go_loopw [11] (fun i wr => ∃ (k : Nat), k ≤ n ∧ i = .int .i64 k ∧ Hid (Below w2.heap.size w2 wr)) (fun i _ => n - (intOf i).toNat)
  case atStart => exact ⟨0, by omega, by go_num, HB⟩
  case round =>
    clear HB
    obtain ⟨k, hk, rfl, HB⟩ := hrel
    by_cases hkn : k < n
    · skip
      obtain ⟨b, o, rfl, hbl, c0, c1, c2⟩ := hr.at_ k (by rw [HL.out]; exact hkn)
      obtain ⟨kd, hkd⟩ : ∃ x, x = (L[k]'(by rw [HL.out]; exact hkn)).1 := ⟨_, rfl⟩
      obtain ⟨no, hno⟩ : ∃ x, x = (L[k]'(by rw [HL.out]; exact hkn)).2.1 := ⟨_, rfl⟩
      obtain ⟨fu, hfu⟩ : ∃ x, x = (L[k]'(by rw [HL.out]; exact hkn)).2.2 := ⟨_, rfl⟩
      rw [← hkd] at c0
      rw [← hno] at c1
      rw [← hfu] at c2
      have c0 : wr.cell? ⟨b, o + k * 3, none⟩ = some (.int .i64 kd) := (HB.out.cell hbl).trans c0
      have c1 : wr.cell? ⟨b, o + k * 3 + 1, none⟩ = some (.int .i64 no) := (HB.out.cell hbl).trans c1
      have c2 : wr.cell? ⟨b, o + k * 3 + 2, none⟩ = some (.bool fu) := (HB.out.cell hbl).trans c2
      clear hkd hno hfu hr
      go_wp2_with fail
      refine (does_nil kd no fu wr).mono ?_
      rintro e w3 ⟨rfl, b3⟩
      have c0 : w3.cell? ⟨b, o + k * 3, none⟩ = some (.int .i64 kd) := (b3.cell (Nat.lt_of_lt_of_le hbl HB.out.size)).trans c0
      have c1 : w3.cell? ⟨b, o + k * 3 + 1, none⟩ = some (.int .i64 no) := (b3.cell (Nat.lt_of_lt_of_le hbl HB.out.size)).trans c1
      have c2 : w3.cell? ⟨b, o + k * 3 + 2, none⟩ = some (.bool fu) := (b3.cell (Nat.lt_of_lt_of_le hbl HB.out.size)).trans c2
      have HB := Lib.hid (below_then HB.out (Nat.le_refl _) b3)
      clear b3
      go_wp2_with fail
      refine (meant_nil kd no fu w3).mono ?_
      rintro e w4 ⟨rfl, b3⟩
      have HB := Lib.hid (below_then HB.out (Nat.le_refl _) b3)
      clear b3 c0 c1 c2
      go_wp2_with fail
      refine (codeSize_nil w4).mono ?_
      rintro e u1 ⟨rfl, rfl⟩
      go_wp2_with fail
      refine (refSize_nil u1).mono ?_
      rintro e u2 ⟨rfl, rfl⟩
      go_wp2_with fail
      refine (codeThreshold_nil u2).mono ?_
      rintro e u3 ⟨rfl, rfl⟩
      go_wp2_with fail
      refine (refThreshold_nil u3).mono ?_
      rintro e u4 ⟨rfl, rfl⟩
      go_wp2_with fail
      go_roundw
      case rel => exact ⟨k + 1, by omega, by go_num, HB⟩
      case measure => simp [intOf]; omega
    · obtain rfl : k = n := by omega
      clear hkn
      go_wp2_with fail
      refine (works_any wr).mono ?_
      rintro e w8 ⟨rfl, hb8⟩
      go_wp2_with fail
      go_ret
      exact ⟨rfl, below_then HB.out (Nat.le_refl _) hb8⟩
set_option maxRecDepth 100000 in
set_option maxHeartbeats 4000000 in
theorem windowPlays_yes (m x : Int) (A : Option Addr) (n c : Nat) (L : List (Int × Int × Bool)) (w : World) (h : winOk m x) (hb : n ≤ 500) (hn : L.length = n) (hr : Wop w w.heap.size A L) : Calls Try.prog 3 #[.int .i64 m, .int .i64 x, .slice A n c] w fun e w' => e = .returned (.bool true) ∧ Below w.heap.size w w' := by
  have HN := Lib.hid h
  have HE0 := Lib.hid (newW_ok h)
  have HL := Lib.hid hn
  clear h hn
  go_enter Try.func3, Try.ntmps3
  go_wp2_with fail
  refine (codeNew m x w HN.out).mono ?_
  rintro e w1 ⟨rfl, K1, B1⟩
  obtain ⟨g, hg⟩ : ∃ g, g = w.heap.size := ⟨_, rfl⟩
  rw [← hg] at K1 ⊢
  have HG : Hid (∀ k ∈ [g], w.heap.size ≤ k) := Lib.hid (by simp; omega)
  have HB := Lib.hid B1
  have K0 := Lib.hid K1
  clear hg K1 B1
  go_wp2_with fail
  refine (refNew m x w1 HN.out).mono ?_
  rintro e w2 ⟨rfl, K1, B1⟩
  have gz : g ≠ w1.heap.size := by have := K0.out.lt; omega
  have hz : w.heap.size ≤ w1.heap.size := HB.out.size
  obtain ⟨q, hg⟩ : ∃ g, g = w1.heap.size := ⟨_, rfl⟩
  rw [← hg] at K1 gz hz ⊢
  have HZ : Hid (∀ k ∈ [q], w.heap.size ≤ k) := Lib.hid (by simp; omega)
  have N1 : Hid (g ∉ [q]) := Lib.hid (by simp; omega)
  have N2 : Hid (q ∉ [g]) := Lib.hid (by simp; omega)
  have K0 := Lib.hid (K0.out.below B1 K0.out.lt)
  have HB := Lib.hid (below_then HB.out (Nat.le_refl _) B1)
  have KZ := Lib.hid K1
  clear hg K1 B1 gz hz
  go_wp2_with fail
  go_loopw [11] (fun i wr => ∃ (k : Nat) (s : Wn), k ≤ n ∧ i = .int .i64 k ∧ Hid (s.Ok ((k : Int) * 16777216)) ∧ Hid (Blk wr g 46 #[.int .i64 s.mtu, .int .i64 s.most, .int .i64 s.size, .int .i64 s.thr, .int .i64 s.part]) ∧ Hid (Blk wr q 48 #[.int .i64 s.mtu, .int .i64 s.most, .int .i64 s.size, .int .i64 s.thr, .int .i64 s.part]) ∧ Hid (Below w.heap.size w wr)) (fun i _ => n - (intOf i).toNat)
  case atStart => exact ⟨0, _, by omega, by go_num, HE0, K0, KZ, HB⟩
  case round =>
    clear K0 HB HE0 KZ
    obtain ⟨k, s, hk, rfl, HE, K0, KZ, HB⟩ := hrel
    by_cases hkn : k < n
    · skip
      obtain ⟨b, o, rfl, hbl, c0, c1, c2⟩ := hr.at_ k (by rw [HL.out]; exact hkn)
      obtain ⟨kd, hkd⟩ : ∃ x, x = (L[k]'(by rw [HL.out]; exact hkn)).1 := ⟨_, rfl⟩
      obtain ⟨no, hno⟩ : ∃ x, x = (L[k]'(by rw [HL.out]; exact hkn)).2.1 := ⟨_, rfl⟩
      obtain ⟨fu, hfu⟩ : ∃ x, x = (L[k]'(by rw [HL.out]; exact hkn)).2.2 := ⟨_, rfl⟩
      rw [← hkd] at c0
      rw [← hno] at c1
      rw [← hfu] at c2
      have c0 : wr.cell? ⟨b, o + k * 3, none⟩ = some (.int .i64 kd) := (HB.out.cell hbl).trans c0
      have c1 : wr.cell? ⟨b, o + k * 3 + 1, none⟩ = some (.int .i64 no) := (HB.out.cell hbl).trans c1
      have c2 : wr.cell? ⟨b, o + k * 3 + 2, none⟩ = some (.bool fu) := (HB.out.cell hbl).trans c2
      clear hkd hno hfu hr
      have HE2 : Hid ((s.act kd no fu).Ok (((k + 1 : Nat) : Int) * 16777216)) := Lib.hid (by rw [show ((k + 1 : Nat) : Int) * 16777216 = (k : Int) * 16777216 + 16777216 from by omega]; exact HE.out.act)
      go_wp2_with fail
      refine (does_any s kd no fu _ g wr HE.out (by omega) K0.out).mono ?_
      rintro e w3 ⟨rfl, k2, t2⟩
      have HBo := HB.out
      have KZ := Lib.hid (KZ.out.tw t2 N2.out)
      have HB := Lib.hid (tw_below HB.out t2 HG.out (Nat.le_refl _))
      have K0 : Hid (Blk w3 g 46 #[.int .i64 (s.act kd no fu).mtu, .int .i64 (s.act kd no fu).most, .int .i64 (s.act kd no fu).size, .int .i64 (s.act kd no fu).thr, .int .i64 (s.act kd no fu).part]) := Lib.hid k2
      clear k2 t2
      have c0 : w3.cell? ⟨b, o + k * 3, none⟩ = some (.int .i64 kd) := (HB.out.cell hbl).trans ((HBo.cell hbl).symm.trans c0)
      have c1 : w3.cell? ⟨b, o + k * 3 + 1, none⟩ = some (.int .i64 no) := (HB.out.cell hbl).trans ((HBo.cell hbl).symm.trans c1)
      have c2 : w3.cell? ⟨b, o + k * 3 + 2, none⟩ = some (.bool fu) := (HB.out.cell hbl).trans ((HBo.cell hbl).symm.trans c2)
      clear HBo
      go_wp2_with fail
      refine (meant_any s kd no fu _ q w3 HE.out (by omega) KZ.out).mono ?_
      rintro e w4 ⟨rfl, k2, t2⟩
      have HB := Lib.hid (tw_below HB.out t2 HZ.out (Nat.le_refl _))
      have K0 := Lib.hid (K0.out.tw t2 N1.out)
      have KZ : Hid (Blk w4 q 48 #[.int .i64 (s.act kd no fu).mtu, .int .i64 (s.act kd no fu).most, .int .i64 (s.act kd no fu).size, .int .i64 (s.act kd no fu).thr, .int .i64 (s.act kd no fu).part]) := Lib.hid k2
      obtain ⟨y, hy⟩ : ∃ y, (s.act kd no fu).size = y := ⟨_, rfl⟩
      obtain ⟨u, hu⟩ : ∃ u, (s.act kd no fu).thr = u := ⟨_, rfl⟩
      have HY := Lib.hid hy
      have HU := Lib.hid hu
      clear k2 t2 c0 c1 c2 HE hy hu
      go_wp2_with fail
      refine (codeSizeN _ y HY.out g _ K0.out).mono ?_
      rintro e u1 ⟨rfl, rfl⟩
      go_wp2_with fail
      refine (refSizeN _ y HY.out q _ KZ.out).mono ?_
      rintro e u2 ⟨rfl, rfl⟩
      go_wp2_with fail
      refine (codeThresholdN _ u HU.out g _ K0.out).mono ?_
      rintro e u3 ⟨rfl, rfl⟩
      go_wp2_with fail
      refine (refThresholdN _ u HU.out q _ KZ.out).mono ?_
      rintro e u4 ⟨rfl, rfl⟩
      go_wp2_with fail
      go_roundw
      case rel => exact ⟨k + 1, _, by omega, by go_num, HE2, K0, KZ, HB⟩
      case measure => simp [intOf]; omega
    · obtain rfl : k = n := by omega
      clear hkn
      go_wp2_with fail
      refine (works_any wr).mono ?_
      rintro e w8 ⟨rfl, hb8⟩
      go_wp2_with fail
      go_ret
      exact ⟨rfl, below_then HB.out (Nat.le_refl _) hb8⟩
theorem windowPlays_walk (m x : Int) (A : Option Addr) (n c : Nat) (rows : List (List Value)) (w : World) (h1 : (Lit.int .i64 m).wf = true) (h2 : (Lit.int .i64 x).wf = true) (h4 : n ≤ c) (h5 : c ≤ maxLen) (h6 : rows.length = n) (h7 : Rows_ w w.heap.size A 3 rows) (h8 : ∀ row ∈ rows, OpRow row) : Calls Try.prog 3 #[.int .i64 m, .int .i64 x, .slice A n c] w fun e w' => e = .returned (.bool true) ∧ Below w.heap.size w w' := by
  by_cases hb : 500 < n
  · exact windowPlays_big m x A n c w hb (Nat.le_trans h4 h5)
  · obtain ⟨L, hl, hL⟩ := wop_of h7 h8
    by_cases h : winOk m x
    · exact windowPlays_yes m x A n c L w h (by omega) (by omega) hL
    · exact windowPlays_no m x A n c L w h (by omega) (by omega) hL
end Go.Proofs.Ytlkppgdeaphoeaa
