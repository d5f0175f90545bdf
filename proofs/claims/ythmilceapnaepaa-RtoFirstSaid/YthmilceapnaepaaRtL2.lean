/-
  Package rto: RtoFirst, walked.
-/
import Derived.Test.YthmilceapnaepaaRtL1
namespace Go.Proofs.Ythmilceapnaepaa
open Go.RowKit
set_option linter.unusedVariables false

/-- No sample yet; its bounds. -/
structure Early (r : Re) (l m : Int) : Prop where
  ok : r.Ok
  any : r.any = false
  l_ : r.l = l
  m_ : r.m = m
theorem Early.new {f l m : Int} (h : newOk f l m) : Early (new f l m) l m := ⟨h.ok, rfl, rfl, rfl⟩
theorem Early.back {r : Re} {l m : Int} (h : Early r l m) : Early r.back l m := ⟨h.ok.back, h.any, h.l_, h.m_⟩
theorem early_take {r : Re} {l m t : Int} (h : Early r l m) : r.take t = ⟨r.x, r.l, r.m, true, 8 * t, 2 * t⟩ := by
  unfold Re.take
  rw [h.any, if_neg (by decide)]
theorem early_s {r : Re} {l m t u : Int} (h : Early r l m) (hu : u = min t 1048576) : (r.smp t).s / 8 = u := by
  show (r.take (min t 1048576)).s / 8 = u
  rw [early_take h, ← hu]
  show 8 * u / 8 = u
  omega
theorem early_x {r : Re} {l m t u : Int} (h : Early r l m) (hu : u = min t 1048576) : (r.smp t).x = cl (u + max 1 (2 * u)) l m := by
  show cl (r.take (min t 1048576)).want (r.take (min t 1048576)).l (r.take (min t 1048576)).m = _
  unfold Re.want
  rw [early_take h, ← hu]
  show cl (8 * u / 8 + max 1 (2 * u)) r.l r.m = _
  rw [h.l_, h.m_, show 8 * u / 8 = u from by omega]

set_option maxRecDepth 100000 in
set_option maxHeartbeats 4000000 in
theorem rtoFirst_no (f l m t b : Int) (w : World) (hn : ¬ newOk f l m) : Calls Try.prog 7 #[.int .i64 f, .int .i64 l, .int .i64 m, .int .i64 t, .int .u8 b] w fun e w' => e = .returned (.bool true) ∧ Below w.heap.size w w' := by
  go_enter Try.func7, Try.ntmps7
  go_wp2_with fail
  refine (codeNew_no f l m w hn).mono ?_
  rintro e w1 ⟨rfl, rfl⟩
  go_wp2_with fail
  refine (works_any w1).mono ?_
  rintro e w2 ⟨rfl, hb⟩
  go_wp2_with fail
  go_ret
  exact ⟨rfl, hb⟩
set_option maxRecDepth 100000 in
set_option maxHeartbeats 4000000 in
theorem rtoFirst_yes (f l m t : Int) (n : Nat) (w : World) (h : newOk f l m) (hn : n ≤ 255) (ht : -9223372036854775808 ≤ t ∧ t ≤ 9223372036854775807) : Calls Try.prog 7 #[.int .i64 f, .int .i64 l, .int .i64 m, .int .i64 t, .int .u8 n] w fun e w' => e = .returned (.bool true) ∧ Below w.heap.size w w' := by
  have HE0 := Lib.hid (Early.new h)
  have HN := Lib.hid h
  obtain ⟨h1, h2, h3, h4⟩ := h
  go_enter Try.func7, Try.ntmps7
  go_wp2_with fail
  refine (codeNew f l m w HN.out).mono ?_
  rintro e w1 ⟨rfl, K1, B1⟩
  obtain ⟨g, hg⟩ : ∃ g, g = w.heap.size := ⟨_, rfl⟩
  rw [← hg] at K1 ⊢
  have HG : Hid (∀ k ∈ [g], w.heap.size ≤ k) := Lib.hid (by simp; omega)
  have HB := Lib.hid B1
  have K0 := Lib.hid K1
  clear hg K1 B1 h1 h2 h3 h4
  go_wp2_with fail
  go_loopw [13] (fun i wr => ∃ (k : Nat) (r : Re), k ≤ n ∧ i = .int .i64 k ∧ Hid (Early r l m) ∧ Hid (Blk wr g 44 #[.int .i64 r.x, .int .i64 r.l, .int .i64 r.m, .bool r.any, .int .i64 r.s, .int .i64 r.v]) ∧ Hid (Below w.heap.size w wr)) (fun i _ => n - (intOf i).toNat)
  case atStart => exact ⟨0, _, by omega, by go_num, HE0, K0, HB⟩
  case round =>
    clear K0 HB HE0
    obtain ⟨k, r, hk, rfl, HE, K0, HB⟩ := hrel
    by_cases hkn : k < n
    · skip
      go_wp2_with fail
      refine (codeBack r g wr HE.out.ok K0.out).mono ?_
      rintro e w2 ⟨rfl, k2, t2⟩
      have HB := Lib.hid (tw_below HB.out t2 HG.out (Nat.le_refl _))
      have HE2 := Lib.hid HE.out.back
      have K2 : Hid (Blk w2 g 44 #[.int .i64 r.back.x, .int .i64 r.back.l, .int .i64 r.back.m, .bool r.back.any, .int .i64 r.back.s, .int .i64 r.back.v]) := Lib.hid k2
      clear k2 t2 K0 HE
      go_wp2_with fail
      go_roundw
      case rel => exact ⟨k + 1, _, by omega, by go_num, HE2, K2, HB⟩
      case measure => simp [intOf]; omega
    · obtain rfl : k = n := by omega
      clear hkn
      go_wp2_with fail
      refine (codeValue r g wr K0.out).mono ?_
      rintro e wz ⟨rfl, rfl⟩
      by_cases ht0 : t < 0
      · go_wp2_with fail
        refine (codeSample_neg t g wz ht0).mono ?_
        rintro e w2 ⟨rfl, rfl⟩
        go_wp2_with fail
        refine (codeSmooth0 r HE.out.ok.s0 HE.out.ok.s1 HE.out.any g w2 K0.out).mono ?_
        rintro e w3 ⟨rfl, rfl⟩
        go_wp2_with fail
        refine (codeValue r g w3 K0.out).mono ?_
        rintro e w4 ⟨rfl, rfl⟩
        go_wp2_with fail
        refine (works_any w4).mono ?_
        rintro e w8 ⟨rfl, hb8⟩
        go_wp2_with fail
        go_ret
        exact ⟨rfl, below_then HB.out (Nat.le_refl _) hb8⟩
      · have t0 : 0 ≤ t := by omega
        by_cases htm : t ≤ 1048576
        · skip
          have HS : Hid ((r.smp t).s / 8 = t) := Lib.hid (early_s HE.out (by omega))
          have HX : Hid ((r.smp t).x = cl (t + max 1 (2 * t)) l m) := Lib.hid (early_x HE.out (by omega))
          go_wp2_with fail
          refine (codeSample r t g wz HE.out.ok t0 K0.out).mono ?_
          rintro e w5 ⟨rfl, k2, t2⟩
          have HB := Lib.hid (tw_below HB.out t2 HG.out (Nat.le_refl _))
          have K0 : Hid (Blk w5 g 44 #[.int .i64 (r.smp t).x, .int .i64 (r.smp t).l, .int .i64 (r.smp t).m, .bool (r.smp t).any, .int .i64 (r.smp t).s, .int .i64 (r.smp t).v]) := Lib.hid k2
          have OK : Hid ((r.smp t).Ok) := Lib.hid (HE.out.ok.smp t0)
          clear k2 t2
          go_wp2_with fail
          refine (codeSmoothN _ _ OK.out.s0 OK.out.s1 smp_any HS.out g w5 K0.out).mono ?_
          rintro e w6 ⟨rfl, rfl⟩
          rcases (show (1 < 2 * t ∧ t + 2 * t < l ∧ l ≤ m) ∨ (1 < 2 * t ∧ t + 2 * t < l ∧ ¬ l ≤ m) ∨ (1 < 2 * t ∧ ¬ t + 2 * t < l ∧ t + 2 * t ≤ m) ∨ (1 < 2 * t ∧ ¬ t + 2 * t < l ∧ ¬ t + 2 * t ≤ m) ∨ (¬ 1 < 2 * t ∧ t + 1 < l ∧ l ≤ m) ∨ (¬ 1 < 2 * t ∧ t + 1 < l ∧ ¬ l ≤ m) ∨ (¬ 1 < 2 * t ∧ ¬ t + 1 < l ∧ t + 1 ≤ m) ∨ (¬ 1 < 2 * t ∧ ¬ t + 1 < l ∧ ¬ t + 1 ≤ m) by omega) with hh | hh | hh | hh | hh | hh | hh | hh
          · obtain ⟨h1, h2, h3⟩ := hh
            have hv : (r.smp t).x = l := by rw [HX.out]; unfold cl; omega
            go_wp2_with fail
            refine (codeValueN _ _ hv g w6 K0.out).mono ?_
            rintro e w7 ⟨rfl, rfl⟩
            clear hv
            go_wp2_with fail
            refine (works_any w7).mono ?_
            rintro e w8 ⟨rfl, hb8⟩
            go_wp2_with fail
            go_ret
            exact ⟨rfl, below_then HB.out (Nat.le_refl _) hb8⟩
          · obtain ⟨h1, h2, h3⟩ := hh
            have hv : (r.smp t).x = m := by rw [HX.out]; unfold cl; omega
            go_wp2_with fail
            refine (codeValueN _ _ hv g w6 K0.out).mono ?_
            rintro e w7 ⟨rfl, rfl⟩
            clear hv
            go_wp2_with fail
            refine (works_any w7).mono ?_
            rintro e w8 ⟨rfl, hb8⟩
            go_wp2_with fail
            go_ret
            exact ⟨rfl, below_then HB.out (Nat.le_refl _) hb8⟩
          · obtain ⟨h1, h2, h3⟩ := hh
            have hv : (r.smp t).x = t + 2 * t := by rw [HX.out]; unfold cl; omega
            go_wp2_with fail
            refine (codeValueN _ _ hv g w6 K0.out).mono ?_
            rintro e w7 ⟨rfl, rfl⟩
            clear hv
            go_wp2_with fail
            refine (works_any w7).mono ?_
            rintro e w8 ⟨rfl, hb8⟩
            go_wp2_with fail
            go_ret
            exact ⟨rfl, below_then HB.out (Nat.le_refl _) hb8⟩
          · obtain ⟨h1, h2, h3⟩ := hh
            have hv : (r.smp t).x = m := by rw [HX.out]; unfold cl; omega
            go_wp2_with fail
            refine (codeValueN _ _ hv g w6 K0.out).mono ?_
            rintro e w7 ⟨rfl, rfl⟩
            clear hv
            go_wp2_with fail
            refine (works_any w7).mono ?_
            rintro e w8 ⟨rfl, hb8⟩
            go_wp2_with fail
            go_ret
            exact ⟨rfl, below_then HB.out (Nat.le_refl _) hb8⟩
          · obtain ⟨h1, h2, h3⟩ := hh
            have hv : (r.smp t).x = l := by rw [HX.out]; unfold cl; omega
            go_wp2_with fail
            refine (codeValueN _ _ hv g w6 K0.out).mono ?_
            rintro e w7 ⟨rfl, rfl⟩
            clear hv
            go_wp2_with fail
            refine (works_any w7).mono ?_
            rintro e w8 ⟨rfl, hb8⟩
            go_wp2_with fail
            go_ret
            exact ⟨rfl, below_then HB.out (Nat.le_refl _) hb8⟩
          · obtain ⟨h1, h2, h3⟩ := hh
            have hv : (r.smp t).x = m := by rw [HX.out]; unfold cl; omega
            go_wp2_with fail
            refine (codeValueN _ _ hv g w6 K0.out).mono ?_
            rintro e w7 ⟨rfl, rfl⟩
            clear hv
            go_wp2_with fail
            refine (works_any w7).mono ?_
            rintro e w8 ⟨rfl, hb8⟩
            go_wp2_with fail
            go_ret
            exact ⟨rfl, below_then HB.out (Nat.le_refl _) hb8⟩
          · obtain ⟨h1, h2, h3⟩ := hh
            have hv : (r.smp t).x = t + 1 := by rw [HX.out]; unfold cl; omega
            go_wp2_with fail
            refine (codeValueN _ _ hv g w6 K0.out).mono ?_
            rintro e w7 ⟨rfl, rfl⟩
            clear hv
            go_wp2_with fail
            refine (works_any w7).mono ?_
            rintro e w8 ⟨rfl, hb8⟩
            go_wp2_with fail
            go_ret
            exact ⟨rfl, below_then HB.out (Nat.le_refl _) hb8⟩
          · obtain ⟨h1, h2, h3⟩ := hh
            have hv : (r.smp t).x = m := by rw [HX.out]; unfold cl; omega
            go_wp2_with fail
            refine (codeValueN _ _ hv g w6 K0.out).mono ?_
            rintro e w7 ⟨rfl, rfl⟩
            clear hv
            go_wp2_with fail
            refine (works_any w7).mono ?_
            rintro e w8 ⟨rfl, hb8⟩
            go_wp2_with fail
            go_ret
            exact ⟨rfl, below_then HB.out (Nat.le_refl _) hb8⟩
        · skip
          have HS : Hid ((r.smp t).s / 8 = 1048576) := Lib.hid (early_s HE.out (by omega))
          have HX : Hid ((r.smp t).x = cl (1048576 + max 1 (2 * 1048576)) l m) := Lib.hid (early_x HE.out (by omega))
          go_wp2_with fail
          refine (codeSample r t g wz HE.out.ok t0 K0.out).mono ?_
          rintro e w5 ⟨rfl, k2, t2⟩
          have HB := Lib.hid (tw_below HB.out t2 HG.out (Nat.le_refl _))
          have K0 : Hid (Blk w5 g 44 #[.int .i64 (r.smp t).x, .int .i64 (r.smp t).l, .int .i64 (r.smp t).m, .bool (r.smp t).any, .int .i64 (r.smp t).s, .int .i64 (r.smp t).v]) := Lib.hid k2
          have OK : Hid ((r.smp t).Ok) := Lib.hid (HE.out.ok.smp t0)
          clear k2 t2
          go_wp2_with fail
          refine (codeSmoothN _ _ OK.out.s0 OK.out.s1 smp_any HS.out g w5 K0.out).mono ?_
          rintro e w6 ⟨rfl, rfl⟩
          rcases (show ((0 : Int) < 1 ∧ 3145728 < l ∧ l ≤ m) ∨ ((0 : Int) < 1 ∧ 3145728 < l ∧ ¬ l ≤ m) ∨ ((0 : Int) < 1 ∧ ¬ 3145728 < l ∧ 3145728 ≤ m) ∨ ((0 : Int) < 1 ∧ ¬ 3145728 < l ∧ ¬ 3145728 ≤ m) by omega) with hh | hh | hh | hh
          · obtain ⟨h1, h2, h3⟩ := hh
            have hv : (r.smp t).x = l := by rw [HX.out]; unfold cl; omega
            go_wp2_with fail
            refine (codeValueN _ _ hv g w6 K0.out).mono ?_
            rintro e w7 ⟨rfl, rfl⟩
            clear hv
            go_wp2_with fail
            refine (works_any w7).mono ?_
            rintro e w8 ⟨rfl, hb8⟩
            go_wp2_with fail
            go_ret
            exact ⟨rfl, below_then HB.out (Nat.le_refl _) hb8⟩
          · obtain ⟨h1, h2, h3⟩ := hh
            have hv : (r.smp t).x = m := by rw [HX.out]; unfold cl; omega
            go_wp2_with fail
            refine (codeValueN _ _ hv g w6 K0.out).mono ?_
            rintro e w7 ⟨rfl, rfl⟩
            clear hv
            go_wp2_with fail
            refine (works_any w7).mono ?_
            rintro e w8 ⟨rfl, hb8⟩
            go_wp2_with fail
            go_ret
            exact ⟨rfl, below_then HB.out (Nat.le_refl _) hb8⟩
          · obtain ⟨h1, h2, h3⟩ := hh
            have hv : (r.smp t).x = 3145728 := by rw [HX.out]; unfold cl; omega
            go_wp2_with fail
            refine (codeValueN _ _ hv g w6 K0.out).mono ?_
            rintro e w7 ⟨rfl, rfl⟩
            clear hv
            go_wp2_with fail
            refine (works_any w7).mono ?_
            rintro e w8 ⟨rfl, hb8⟩
            go_wp2_with fail
            go_ret
            exact ⟨rfl, below_then HB.out (Nat.le_refl _) hb8⟩
          · obtain ⟨h1, h2, h3⟩ := hh
            have hv : (r.smp t).x = m := by rw [HX.out]; unfold cl; omega
            go_wp2_with fail
            refine (codeValueN _ _ hv g w6 K0.out).mono ?_
            rintro e w7 ⟨rfl, rfl⟩
            clear hv
            go_wp2_with fail
            refine (works_any w7).mono ?_
            rintro e w8 ⟨rfl, hb8⟩
            go_wp2_with fail
            go_ret
            exact ⟨rfl, below_then HB.out (Nat.le_refl _) hb8⟩
theorem rtoFirst_walk (f l m t b : Int) (w : World) (h1 : (Lit.int .i64 f).wf = true) (h2 : (Lit.int .i64 l).wf = true) (h3 : (Lit.int .i64 m).wf = true) (h4 : (Lit.int .i64 t).wf = true) (h5 : (Lit.int .u8 b).wf = true) : Calls Try.prog 7 #[.int .i64 f, .int .i64 l, .int .i64 m, .int .i64 t, .int .u8 b] w fun e w' => e = .returned (.bool true) ∧ Below w.heap.size w w' := by
  by_cases h : newOk f l m
  · have hb := wf_u8b h5
    obtain ⟨n, rfl⟩ : ∃ n : Nat, b = n := ⟨b.toNat, by omega⟩
    exact rtoFirst_yes f l m t n w h (by omega) (wf_i64b h4)
  · exact rtoFirst_no f l m t b w h
end Go.Proofs.Ythmilceapnaepaa
