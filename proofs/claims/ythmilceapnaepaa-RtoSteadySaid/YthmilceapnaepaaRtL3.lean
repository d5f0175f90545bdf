/-
  Package rto: RtoSteady, walked.
-/
import Derived.Test.YthmilceapnaepaaRtL2
namespace Go.Proofs.Ythmilceapnaepaa
open Go.RowKit
set_option linter.unusedVariables false

/-- How far the variation is at most, so many samples behind the first. -/
def bnd : Nat → Int
  | 0 => 2097152
  | k + 1 => bnd k - bnd k / 4
theorem bnd_99 : bnd 99 ≤ 3 := by decide +kernel
/-- All samples were t; the variation is at most c. -/
structure Std (r : Re) (l m t c : Int) : Prop where
  ok : r.Ok
  any : r.any = true
  l_ : r.l = l
  m_ : r.m = m
  s_ : r.s = 8 * t
  v_ : r.v ≤ c
  x_ : r.x = cl (t + max 1 r.v) l m
theorem Std.first {r : Re} {l m t : Int} (h : Early r l m) (t0 : 0 ≤ t) (t1 : t ≤ 1048576) : Std (r.smp t) l m t (bnd 0) := by
  have hu : t = min t 1048576 := by omega
  have hs : (r.smp t).s = 8 * t := by
    show (r.take (min t 1048576)).s = _
    rw [← hu, early_take h]
  have hv : (r.smp t).v = 2 * t := by
    show (r.take (min t 1048576)).v = _
    rw [← hu, early_take h]
  refine ⟨h.ok.smp t0, smp_any, smp_l.trans h.l_, smp_m.trans h.m_, hs, ?_, ?_⟩
  · rw [hv]; unfold bnd; omega
  · rw [early_x h hu, hv]
theorem Std.next_v {r : Re} {l m t c : Int} (h : Std r l m t c) (t1 : t ≤ 1048576) : (r.smp t).v = r.v - r.v / 4 := by
  show (r.take (min t 1048576)).v = _
  unfold Re.take
  rw [if_pos h.any, show min t 1048576 = t from by omega]
  show r.v - r.v / 4 + off r.s t = _
  unfold off
  rw [h.s_]
  omega
theorem Std.next {r : Re} {l m t c : Int} (h : Std r l m t c) (t0 : 0 ≤ t) (t1 : t ≤ 1048576) : Std (r.smp t) l m t (c - c / 4) := by
  have hv := h.next_v t1
  have hs : (r.smp t).s = 8 * t := by
    show (r.take (min t 1048576)).s = _
    unfold Re.take
    rw [if_pos h.any, show min t 1048576 = t from by omega]
    show r.s - r.s / 8 + t = _
    rw [h.s_]
    omega
  refine ⟨h.ok.smp t0, smp_any, smp_l.trans h.l_, smp_m.trans h.m_, hs, ?_, ?_⟩
  · rw [hv]
    have := h.v_
    omega
  · show cl ((r.smp t).s / 8 + max 1 (r.smp t).v) (r.smp t).l (r.smp t).m = _
    rw [hs, smp_l, smp_m, h.l_, h.m_, show 8 * t / 8 = t from by omega]
theorem Std.smp8 {r : Re} {l m t c : Int} (h : Std r l m t c) : r.s / 8 = t := by
  rw [h.s_]
  omega
/-- k samples were, all of them t. -/
def StdK (r : Re) (l m t : Int) (k : Nat) : Prop := (k = 0 ∧ Early r l m) ∨ ∃ j, k = j + 1 ∧ Std r l m t (bnd j)
theorem StdK.next {r : Re} {l m t : Int} {k : Nat} (h : StdK r l m t k) (t0 : 0 ≤ t) (t1 : t ≤ 1048576) : Std (r.smp t) l m t (bnd k) := by
  rcases h with ⟨rfl, h⟩ | ⟨j, rfl, h⟩
  · exact Std.first h t0 t1
  · exact h.next t0 t1
theorem StdK.ok {r : Re} {l m t : Int} {k : Nat} (h : StdK r l m t k) : r.Ok := by
  rcases h with ⟨rfl, h⟩ | ⟨j, rfl, h⟩
  · exact h.ok
  · exact h.ok
theorem StdK.end_ {r : Re} {l m t : Int} (h : StdK r l m t 100) : Std r l m t 3 := by
  rcases h with ⟨h, _⟩ | ⟨j, hj, h⟩
  · cases h
  · obtain rfl : j = 99 := by omega
    exact ⟨h.ok, h.any, h.l_, h.m_, h.s_, Int.le_trans h.v_ bnd_99, h.x_⟩
theorem Std.less {r r2 : Re} {l m t c c2 : Int} (h : Std r l m t c) (h2 : Std r2 l m t c2) (hv : r2.v ≤ r.v) : r2.x ≤ r.x := by
  rw [h.x_, h2.x_]
  unfold cl
  omega

set_option maxRecDepth 100000 in
set_option maxHeartbeats 4000000 in
theorem rtoSteady_no (f l m t : Int) (w : World) (hn : ¬ newOk f l m) : Calls Try.prog 5 #[.int .i64 f, .int .i64 l, .int .i64 m, .int .i64 t] w fun e w' => e = .returned (.bool true) ∧ Below w.heap.size w w' := by
  go_enter Try.func5, Try.ntmps5
  go_wp2_with fail
  refine (codeNew_no f l m w hn).mono ?_
  rintro e w1 ⟨rfl, rfl⟩
  go_wp2_with fail
  refine (works_any w1).mono ?_
  rintro e w2 ⟨rfl, hb⟩
  go_wp2_with fail
  go_ret
  exact ⟨rfl, hb⟩
set_option maxRecDepth 100000 in
set_option maxHeartbeats 4000000 in
theorem rtoSteady_out (f l m t : Int) (w : World) (h : newOk f l m) (ht : t < 0 ∨ 1048576 < t) : Calls Try.prog 5 #[.int .i64 f, .int .i64 l, .int .i64 m, .int .i64 t] w fun e w' => e = .returned (.bool true) ∧ Below w.heap.size w w' := by
  have HN := Lib.hid h
  clear h
  rcases ht with ht | ht
  · skip
    go_enter Try.func5, Try.ntmps5
    go_wp2_with fail
    refine (codeNew f l m w HN.out).mono ?_
    rintro e w1 ⟨rfl, K1, B1⟩
    obtain ⟨g, hg⟩ : ∃ g, g = w.heap.size := ⟨_, rfl⟩
    rw [← hg] at K1 ⊢
    have HG : Hid (∀ k ∈ [g], w.heap.size ≤ k) := Lib.hid (by simp; omega)
    have HB := Lib.hid B1
    have K0 := Lib.hid K1
    clear hg K1 B1
    go_wp2_with fail
    refine (works_any w1).mono ?_
    rintro e w8 ⟨rfl, hb8⟩
    go_wp2_with fail
    go_ret
    exact ⟨rfl, below_then HB.out (Nat.le_refl _) hb8⟩
  · have ht0 : ¬ t < 0 := by omega
    go_enter Try.func5, Try.ntmps5
    go_wp2_with fail
    refine (codeNew f l m w HN.out).mono ?_
    rintro e w1 ⟨rfl, K1, B1⟩
    obtain ⟨g, hg⟩ : ∃ g, g = w.heap.size := ⟨_, rfl⟩
    rw [← hg] at K1 ⊢
    have HG : Hid (∀ k ∈ [g], w.heap.size ≤ k) := Lib.hid (by simp; omega)
    have HB := Lib.hid B1
    have K0 := Lib.hid K1
    clear hg K1 B1
    go_wp2_with fail
    refine (works_any w1).mono ?_
    rintro e w8 ⟨rfl, hb8⟩
    go_wp2_with fail
    go_ret
    exact ⟨rfl, below_then HB.out (Nat.le_refl _) hb8⟩
set_option maxRecDepth 100000 in
set_option maxHeartbeats 4000000 in
theorem rtoSteady_yes (f l m t : Int) (w : World) (h : newOk f l m) (t0 : 0 ≤ t) (t1 : t ≤ 1048576) : Calls Try.prog 5 #[.int .i64 f, .int .i64 l, .int .i64 m, .int .i64 t] w fun e w' => e = .returned (.bool true) ∧ Below w.heap.size w w' := by
  have HE0 : Hid (StdK (new f l m) l m t 0) := Lib.hid (.inl ⟨rfl, Early.new h⟩)
  have HN := Lib.hid h
  have lm : l ≤ m := by have := h.2.1; have := h.2.2.1; omega
  clear h
  go_enter Try.func5, Try.ntmps5
  go_wp2_with fail
  refine (codeNew f l m w HN.out).mono ?_
  rintro e w1 ⟨rfl, K1, B1⟩
  obtain ⟨g, hg⟩ : ∃ g, g = w.heap.size := ⟨_, rfl⟩
  rw [← hg] at K1 ⊢
  have HG : Hid (∀ k ∈ [g], w.heap.size ≤ k) := Lib.hid (by simp; omega)
  have HB := Lib.hid B1
  have K0 := Lib.hid K1
  clear hg K1 B1
  go_wp2_with fail
  go_loopw [11, 12, 13] (fun i _ _ wr => ∃ (k : Nat) (r : Re), k ≤ 100 ∧ i = .int .i64 k ∧ Hid (StdK r l m t k) ∧ Hid (Blk wr g 44 #[.int .i64 r.x, .int .i64 r.l, .int .i64 r.m, .bool r.any, .int .i64 r.s, .int .i64 r.v]) ∧ Hid (Below w.heap.size w wr)) (fun i _ _ _ => 100 - (intOf i).toNat)
  case atStart => exact ⟨0, _, by omega, by go_num, HE0, K0, HB⟩
  case round =>
    clear K0 HB HE0
    obtain ⟨k, r, hk, rfl, HE, K0, HB⟩ := hrel
    by_cases hkn : k < 100
    · skip
      go_wp2_with fail
      refine (codeSample r t g wr HE.out.ok t0 K0.out).mono ?_
      rintro e w2 ⟨rfl, k2, t2⟩
      have HB := Lib.hid (tw_below HB.out t2 HG.out (Nat.le_refl _))
      have HE2 := Lib.hid (HE.out.next t0 t1)
      have K2 : Hid (Blk w2 g 44 #[.int .i64 (r.smp t).x, .int .i64 (r.smp t).l, .int .i64 (r.smp t).m, .bool (r.smp t).any, .int .i64 (r.smp t).s, .int .i64 (r.smp t).v]) := Lib.hid k2
      clear k2 t2 K0 HE
      go_wp2_with fail
      refine (codeSmoothN _ t HE2.out.ok.s0 HE2.out.ok.s1 HE2.out.any HE2.out.smp8 g w2 K2.out).mono ?_
      rintro e w3 ⟨rfl, rfl⟩
      go_wp2_with fail
      go_roundw
      case rel => exact ⟨k + 1, _, by omega, by go_num, Lib.hid (.inr ⟨k, rfl, HE2.out⟩), K2, HB⟩
      case measure => simp [intOf]; omega
    · obtain rfl : k = 100 := by omega
      have HS := Lib.hid HE.out.end_
      clear hkn hk HE
      obtain ⟨x, hx⟩ : ∃ x, r.x = x := ⟨_, rfl⟩
      have HX := Lib.hid hx
      clear hx
      go_wp2_with fail
      refine (codeValueN r x HX.out g wr K0.out).mono ?_
      rintro e wz ⟨rfl, rfl⟩
      go_wp2_with fail
      go_loopw [15] (fun i wx => ∃ (k : Nat) (r2 : Re), k ≤ 20 ∧ i = .int .i64 k ∧ Hid (Std r2 l m t 3) ∧ Hid (r2.v ≤ r.v) ∧ Hid (Blk wx g 44 #[.int .i64 r2.x, .int .i64 r2.l, .int .i64 r2.m, .bool r2.any, .int .i64 r2.s, .int .i64 r2.v]) ∧ Hid (Below w.heap.size w wx)) (fun i _ => 20 - (intOf i).toNat)
      case atStart => exact ⟨0, r, by omega, by go_num, HS, Lib.hid (Int.le_refl _), K0, HB⟩
      case round =>
      clear K0 HB
      obtain ⟨k, r2, hk, rfl, HE, HV, K0, HB⟩ := hrel
      by_cases hkn : k < 20
      · skip
        go_wp2_with fail
        refine (codeSample r2 t g _ HE.out.ok t0 K0.out).mono ?_
        rintro e w2 ⟨rfl, k2, t2⟩
        have HB := Lib.hid (tw_below HB.out t2 HG.out (Nat.le_refl _))
        have HE2 : Hid (Std (r2.smp t) l m t 3) := Lib.hid (by
          have h := HE.out.next t0 t1
          exact ⟨h.ok, h.any, h.l_, h.m_, h.s_, Int.le_trans h.v_ (by decide), h.x_⟩)
        have HV2 : Hid ((r2.smp t).v ≤ r.v) := Lib.hid (by
          rw [HE.out.next_v t1]
          have := HV.out
          have := HE.out.ok.v0
          omega)
        have K2 : Hid (Blk w2 g 44 #[.int .i64 (r2.smp t).x, .int .i64 (r2.smp t).l, .int .i64 (r2.smp t).m, .bool (r2.smp t).any, .int .i64 (r2.smp t).s, .int .i64 (r2.smp t).v]) := Lib.hid k2
        clear k2 t2 K0 HE HV
        go_wp2_with fail
        go_roundw
        case rel => exact ⟨k + 1, _, by omega, by go_num, HE2, HV2, K2, HB⟩
        case measure => simp [intOf]; omega
      · obtain rfl : k = 20 := by omega
        clear hkn hk
        have K2 := K0
        have HB2 := HB
        obtain ⟨y, hy⟩ : ∃ y, r2.x = y := ⟨_, rfl⟩
        have HYE := Lib.hid hy
        have HY : Hid (y = cl (t + max 1 r2.v) l m) := Lib.hid (by rw [← hy]; exact HE.out.x_)
        have HV3 := Lib.hid HE.out.v_
        have yx : y ≤ x := by rw [← hy, ← HX.out]; exact Std.less HS.out HE.out HV.out
        clear hy K0 HB HE HV
        rcases (show (t + 3 < l ∧ t + 1 < l ∧ l ≤ m ∧ l ≤ m) ∨ (¬ t + 3 < l ∧ t + 1 < l ∧ t + 3 ≤ m ∧ l ≤ m) ∨ (¬ t + 3 < l ∧ t + 1 < l ∧ ¬ t + 3 ≤ m ∧ l ≤ m) ∨ (¬ t + 3 < l ∧ ¬ t + 1 < l ∧ t + 3 ≤ m ∧ t + 1 ≤ m) ∨ (¬ t + 3 < l ∧ ¬ t + 1 < l ∧ ¬ t + 3 ≤ m ∧ t + 1 ≤ m) ∨ (¬ t + 3 < l ∧ ¬ t + 1 < l ∧ ¬ t + 3 ≤ m ∧ ¬ t + 1 ≤ m) by omega) with hh | hh | hh | hh | hh | hh
        · obtain ⟨h1, h2, h3, h4⟩ := hh
          have y1 : l ≤ y := by have := HY.out; unfold cl at this; omega
          have y2 : y ≤ l := by have a1 := HY.out; have a2 := HV3.out; unfold cl at a1; omega
          skip
          go_wp2_with fail
          refine (codeValueN r2 y HYE.out g _ K2.out).mono ?_
          rintro e wz ⟨rfl, rfl⟩
          go_wp2_with fail
          refine (codeValueN r2 y HYE.out g wz K2.out).mono ?_
          rintro e wz ⟨rfl, rfl⟩
          go_wp2_with fail
          refine (codeValueN r2 y HYE.out g wz K2.out).mono ?_
          rintro e wz ⟨rfl, rfl⟩
          go_wp2_with fail
          refine (works_any wz).mono ?_
          rintro e w8 ⟨rfl, hb8⟩
          go_wp2_with fail
          go_ret
          exact ⟨rfl, below_then HB2.out (Nat.le_refl _) hb8⟩
        · obtain ⟨h1, h2, h3, h4⟩ := hh
          have y1 : l ≤ y := by have := HY.out; unfold cl at this; omega
          have y2 : y ≤ t + 3 := by have a1 := HY.out; have a2 := HV3.out; unfold cl at a1; omega
          skip
          go_wp2_with fail
          refine (codeValueN r2 y HYE.out g _ K2.out).mono ?_
          rintro e wz ⟨rfl, rfl⟩
          go_wp2_with fail
          refine (codeValueN r2 y HYE.out g wz K2.out).mono ?_
          rintro e wz ⟨rfl, rfl⟩
          go_wp2_with fail
          refine (codeValueN r2 y HYE.out g wz K2.out).mono ?_
          rintro e wz ⟨rfl, rfl⟩
          go_wp2_with fail
          refine (works_any wz).mono ?_
          rintro e w8 ⟨rfl, hb8⟩
          go_wp2_with fail
          go_ret
          exact ⟨rfl, below_then HB2.out (Nat.le_refl _) hb8⟩
        · obtain ⟨h1, h2, h3, h4⟩ := hh
          have y1 : l ≤ y := by have := HY.out; unfold cl at this; omega
          have y2 : y ≤ m := by have a1 := HY.out; have a2 := HV3.out; unfold cl at a1; omega
          skip
          go_wp2_with fail
          refine (codeValueN r2 y HYE.out g _ K2.out).mono ?_
          rintro e wz ⟨rfl, rfl⟩
          go_wp2_with fail
          refine (codeValueN r2 y HYE.out g wz K2.out).mono ?_
          rintro e wz ⟨rfl, rfl⟩
          go_wp2_with fail
          refine (codeValueN r2 y HYE.out g wz K2.out).mono ?_
          rintro e wz ⟨rfl, rfl⟩
          go_wp2_with fail
          refine (works_any wz).mono ?_
          rintro e w8 ⟨rfl, hb8⟩
          go_wp2_with fail
          go_ret
          exact ⟨rfl, below_then HB2.out (Nat.le_refl _) hb8⟩
        · obtain ⟨h1, h2, h3, h4⟩ := hh
          have y1 : t + 1 ≤ y := by have := HY.out; unfold cl at this; omega
          have y2 : y ≤ t + 3 := by have a1 := HY.out; have a2 := HV3.out; unfold cl at a1; omega
          skip
          go_wp2_with fail
          refine (codeValueN r2 y HYE.out g _ K2.out).mono ?_
          rintro e wz ⟨rfl, rfl⟩
          go_wp2_with fail
          refine (codeValueN r2 y HYE.out g wz K2.out).mono ?_
          rintro e wz ⟨rfl, rfl⟩
          go_wp2_with fail
          refine (codeValueN r2 y HYE.out g wz K2.out).mono ?_
          rintro e wz ⟨rfl, rfl⟩
          go_wp2_with fail
          refine (works_any wz).mono ?_
          rintro e w8 ⟨rfl, hb8⟩
          go_wp2_with fail
          go_ret
          exact ⟨rfl, below_then HB2.out (Nat.le_refl _) hb8⟩
        · obtain ⟨h1, h2, h3, h4⟩ := hh
          have y1 : t + 1 ≤ y := by have := HY.out; unfold cl at this; omega
          have y2 : y ≤ m := by have a1 := HY.out; have a2 := HV3.out; unfold cl at a1; omega
          skip
          go_wp2_with fail
          refine (codeValueN r2 y HYE.out g _ K2.out).mono ?_
          rintro e wz ⟨rfl, rfl⟩
          go_wp2_with fail
          refine (codeValueN r2 y HYE.out g wz K2.out).mono ?_
          rintro e wz ⟨rfl, rfl⟩
          go_wp2_with fail
          refine (codeValueN r2 y HYE.out g wz K2.out).mono ?_
          rintro e wz ⟨rfl, rfl⟩
          go_wp2_with fail
          refine (works_any wz).mono ?_
          rintro e w8 ⟨rfl, hb8⟩
          go_wp2_with fail
          go_ret
          exact ⟨rfl, below_then HB2.out (Nat.le_refl _) hb8⟩
        · obtain ⟨h1, h2, h3, h4⟩ := hh
          have y1 : m ≤ y := by have := HY.out; unfold cl at this; omega
          have y2 : y ≤ m := by have a1 := HY.out; have a2 := HV3.out; unfold cl at a1; omega
          skip
          go_wp2_with fail
          refine (codeValueN r2 y HYE.out g _ K2.out).mono ?_
          rintro e wz ⟨rfl, rfl⟩
          go_wp2_with fail
          refine (codeValueN r2 y HYE.out g wz K2.out).mono ?_
          rintro e wz ⟨rfl, rfl⟩
          go_wp2_with fail
          refine (codeValueN r2 y HYE.out g wz K2.out).mono ?_
          rintro e wz ⟨rfl, rfl⟩
          go_wp2_with fail
          refine (works_any wz).mono ?_
          rintro e w8 ⟨rfl, hb8⟩
          go_wp2_with fail
          go_ret
          exact ⟨rfl, below_then HB2.out (Nat.le_refl _) hb8⟩
theorem rtoSteady_walk (f l m t : Int) (w : World) (h1 : (Lit.int .i64 f).wf = true) (h2 : (Lit.int .i64 l).wf = true) (h3 : (Lit.int .i64 m).wf = true) (h4 : (Lit.int .i64 t).wf = true) : Calls Try.prog 5 #[.int .i64 f, .int .i64 l, .int .i64 m, .int .i64 t] w fun e w' => e = .returned (.bool true) ∧ Below w.heap.size w w' := by
  by_cases h : newOk f l m
  · by_cases ht : 0 ≤ t ∧ t ≤ 1048576
    · exact rtoSteady_yes f l m t w h ht.1 ht.2
    · exact rtoSteady_out f l m t w h (by omega)
  · exact rtoSteady_no f l m t w h
end Go.Proofs.Ythmilceapnaepaa
