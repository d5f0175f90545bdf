/-
  Package rto: Back and Sample of the reference over a state.
-/
import Derived.Test.YthmilceapnaepaaRtB
import Derived.Deep.DeepCutAuto
namespace Go.Proofs.Ythmilceapnaepaa
open Go.RowKit
set_option linter.unusedVariables false

set_option maxRecDepth 100000 in
set_option maxHeartbeats 4000000 in
theorem refBack (r : Re) (g : Nat) (w : World) (h : r.Ok) (K : Blk w g 46 #[.int .i64 r.x, .int .i64 r.l, .int .i64 r.m, .bool r.any, .int .i64 r.s, .int .i64 r.v]) : Calls Try.prog 13 #[.pointer (some ⟨g, 0, none⟩)] w fun e w' => e = .returned (.tuple #[]) ∧ Blk w' g 46 #[.int .i64 r.back.x, .int .i64 r.back.l, .int .i64 r.back.m, .bool r.back.any, .int .i64 r.back.s, .int .i64 r.back.v] ∧ Tw [g] w w' := by
  obtain ⟨a1, a2, a3, a4, a5, -, -, -, -⟩ := h
  obtain ⟨x, l, m, b, s, v⟩ := r
  change 1 ≤ l at a1
  change l ≤ m at a2
  change m ≤ 1048576 at a3
  change l ≤ x at a4
  change x ≤ m at a5
  change Blk w g 46 #[.int .i64 x, .int .i64 l, .int .i64 m, .bool b, .int .i64 s, .int .i64 v] at K
  have j0 : w.cell? ⟨g, 0, none⟩ = some (.int .i64 x) := K.cell 0
  have jz0 := K.frozen 0
  have j2 : w.cell? ⟨g, 2, none⟩ = some (.int .i64 m) := K.cell 2
  have jz2 := K.frozen 2
  by_cases h2 : 2 * x ≤ m
  · skip
    have HR : Hid (Blk (w.setCell ⟨g, 0, none⟩ (.int .i64 (2 * x))).drew g 46 #[.int .i64 (2 * x), .int .i64 l, .int .i64 m, .bool b, .int .i64 s, .int .i64 v]) := Lib.hid ((K.set_ 0 _).drewN 1)
    have HT : Hid (Tw [g] w (w.setCell ⟨g, 0, none⟩ (.int .i64 (2 * x))).drew) := Lib.hid ((Tw.setCell w ⟨g, 0, none⟩ _ (by simp)).drewN 1)
    have E := Lib.hid (show 2 * x = cl (2 * x) l m by unfold cl; omega)
    clear K
    go_enter Try.func13, Try.ntmps13
    go_wp2_with fail
    go_region
    go_wp2_with fail
    go_end0
    refine ⟨rfl, ?_, HT.out⟩
    change Blk _ g 46 #[.int .i64 (cl (2 * x) l m), .int .i64 l, .int .i64 m, .bool b, .int .i64 s, .int .i64 v]
    rw [← E.out]
    exact HR.out
  · skip
    have HR : Hid (Blk (w.setCell ⟨g, 0, none⟩ (.int .i64 (m))).drew g 46 #[.int .i64 (m), .int .i64 l, .int .i64 m, .bool b, .int .i64 s, .int .i64 v]) := Lib.hid ((K.set_ 0 _).drewN 1)
    have HT : Hid (Tw [g] w (w.setCell ⟨g, 0, none⟩ (.int .i64 (m))).drew) := Lib.hid ((Tw.setCell w ⟨g, 0, none⟩ _ (by simp)).drewN 1)
    have E := Lib.hid (show m = cl (2 * x) l m by unfold cl; omega)
    clear K
    go_enter Try.func13, Try.ntmps13
    go_wp2_with fail
    go_region
    go_wp2_with fail
    go_end0
    refine ⟨rfl, ?_, HT.out⟩
    change Blk _ g 46 #[.int .i64 (cl (2 * x) l m), .int .i64 l, .int .i64 m, .bool b, .int .i64 s, .int .i64 v]
    rw [← E.out]
    exact HR.out

set_option maxRecDepth 100000 in
set_option maxHeartbeats 4000000 in
theorem refSample (r : Re) (t : Int) (g : Nat) (w : World) (h : r.Ok) (t0 : 0 ≤ t) (K : Blk w g 46 #[.int .i64 r.x, .int .i64 r.l, .int .i64 r.m, .bool r.any, .int .i64 r.s, .int .i64 r.v]) :
    Calls Try.prog 15 #[.pointer (some ⟨g, 0, none⟩), .int .i64 t] w fun e w' => e = .returned (.int .i64 0) ∧ Blk w' g 46 #[.int .i64 (r.smp t).x, .int .i64 (r.smp t).l, .int .i64 (r.smp t).m, .bool (r.smp t).any, .int .i64 (r.smp t).s, .int .i64 (r.smp t).v] ∧ Tw [g] w w' := by
  obtain ⟨u, hu⟩ : ∃ u, u = min t 1048576 := ⟨_, rfl⟩
  have q0 : 0 ≤ u := by omega
  have q1 : u ≤ 1048576 := by omega
  have h2 : (r.take u).Ok := h.take q0 q1
  have HE0 := Lib.hid (smp_of hu (rfl : r.take u = r.take u))
  have HU := Lib.hid hu
  obtain ⟨-, -, -, -, -, a6, a7, a8, a9⟩ := h
  obtain ⟨-, -, -, -, -, s20, s21, v20, v21⟩ := h2
  clear hu
  obtain ⟨x, l, m, b, s, v⟩ := r
  change 0 ≤ s at a6
  change s ≤ 8388608 at a7
  change 0 ≤ v at a8
  change v ≤ 4194307 at a9
  change Blk w g 46 #[.int .i64 x, .int .i64 l, .int .i64 m, .bool b, .int .i64 s, .int .i64 v] at K
  go_enter Try.func15, Try.ntmps15
  rw [held_eq 5, held_eq 6, drawn_eq 13, drawn_eq 14, drawn_eq 15, drawn_eq 16]
  go_wp2_with fail
  rw [← held_eq 5]
  go_cut [0, 1] (fun p s wx => p = .pointer (some ⟨g, 0, none⟩) ∧ s = .int .i64 u ∧ wx = w)
  case first =>
    by_cases ht : t ≤ 1048576
    · have E := Lib.hid (show t = u by have := HU.out; omega)
      go_wp2_with fail
      go_meet
      case rel => exact ⟨rfl, by rw [E.out], rfl⟩
    · have E := Lib.hid (show 1048576 = u by have := HU.out; omega)
      go_wp2_with fail
      go_meet
      case rel => exact ⟨rfl, by rw [E.out], rfl⟩
  case rest =>
    obtain ⟨rfl, rfl, hwc⟩ := hcut
    rw [hwc]
    clear hwc HU
    cases b
    · change Blk w g 46 #[.int .i64 x, .int .i64 l, .int .i64 m, .bool false, .int .i64 s, .int .i64 v] at K
      have j3 : w.cell? ⟨g, 3, none⟩ = some (.bool false) := K.cell 3
      have jz3 := K.frozen 3
      have j4 : w.cell? ⟨g, 4, none⟩ = some (.int .i64 s) := K.cell 4
      have jz4 := K.frozen 4
      have j5 : w.cell? ⟨g, 5, none⟩ = some (.int .i64 v) := K.cell 5
      have jz5 := K.frozen 5
      have HE : Hid (Re.smp ⟨x, l, m, false, s, v⟩ t = Re.set ⟨x, l, m, true, 8 * u, 2 * u⟩) := Lib.hid HE0.out
      change 0 ≤ 8 * u at s20
      change 8 * u ≤ 8388608 at s21
      change 0 ≤ 2 * u at v20
      change 2 * u ≤ 4194307 at v21
      obtain ⟨s2, hs2⟩ : ∃ s2, s2 = 8 * u := ⟨_, rfl⟩
      obtain ⟨v2, hv2⟩ : ∃ v2, v2 = 2 * u := ⟨_, rfl⟩
      rw [← hs2] at s20 s21 HE
      rw [← hv2] at v20 v21 HE
      have HR : Hid (Blk (((w.setCell ⟨g, 3, none⟩ (.bool true)).setCell ⟨g, 4, none⟩ (.int .i64 s2)).setCell ⟨g, 5, none⟩ (.int .i64 v2)) g 46 #[.int .i64 x, .int .i64 l, .int .i64 m, .bool true, .int .i64 s2, .int .i64 v2]) := Lib.hid (((K.set_ 3 _).set_ 4 _).set_ 5 _)
      have HT : Hid (Tw [g] w (((w.setCell ⟨g, 3, none⟩ (.bool true)).setCell ⟨g, 4, none⟩ (.int .i64 s2)).setCell ⟨g, 5, none⟩ (.int .i64 v2))) := Lib.hid (((Tw.setCell w ⟨g, 3, none⟩ _ (by simp)).trans (Tw.setCell _ ⟨g, 4, none⟩ _ (by simp))).trans (Tw.setCell _ ⟨g, 5, none⟩ _ (by simp)))
      have HS2 := Lib.hid hs2
      have HV2 := Lib.hid hv2
      clear K hs2 hv2 s20 s21 v20 v21
      go_wp2_with fail
      rw [← held_eq 6]
      go_wp2_with fail
      rw [← HS2.out, ← HV2.out]
      have s20 : 0 ≤ s2 := by have := HS2.out; omega
      have s21 : s2 ≤ 8388608 := by have := HS2.out; omega
      have v20 : 0 ≤ v2 := by have := HV2.out; omega
      have v21 : v2 ≤ 4194307 := by have := HV2.out; omega
      clear j3 j4 j5 jz3 jz4 jz5 a6 a7 a8 a9 q0 q1
      generalize ((w.setCell ⟨g, 3, none⟩ (.bool true)).setCell ⟨g, 4, none⟩ (.int .i64 s2)).setCell ⟨g, 5, none⟩ (.int .i64 v2) = w3 at HR HT ⊢
      have j0 : w3.cell? ⟨g, 0, none⟩ = some (.int .i64 x) := HR.out.cell 0
      have jz0 := HR.out.frozen 0
      have j4 : w3.cell? ⟨g, 4, none⟩ = some (.int .i64 s2) := HR.out.cell 4
      have jz4 := HR.out.frozen 4
      have j5 : w3.cell? ⟨g, 5, none⟩ = some (.int .i64 v2) := HR.out.cell 5
      have jz5 := HR.out.frozen 5
      obtain ⟨X, hX⟩ : ∃ X, X = s2 / 8 + max 1 v2 := ⟨_, rfl⟩
      have HX : Hid (X = s2 / 8 + max 1 v2) := Lib.hid hX
      have HR3 : Hid (Blk (w3.setCell ⟨g, 0, none⟩ (.int .i64 X)).drew g 46 #[.int .i64 X, .int .i64 l, .int .i64 m, .bool true, .int .i64 s2, .int .i64 v2]) := Lib.hid ((HR.out.set_ 0 _).drewN 1)
      have HT3 : Hid (Tw [g] w (w3.setCell ⟨g, 0, none⟩ (.int .i64 X)).drew) := Lib.hid ((HT.out.trans (Tw.setCell w3 ⟨g, 0, none⟩ _ (by simp))).drewN 1)
      clear HR HT hX
      obtain ⟨M, hM⟩ : ∃ M, M = (if 1 < v2 then v2 else 1) := ⟨_, rfl⟩
      have E : Hid (s2 / 8 + M = X) := Lib.hid (by rw [HX.out, hM]; split <;> omega)
      have HM := Lib.hid hM
      clear hM
      rw [← drawn_eq 15]
      go_region
      rw [← HM.out, E.out]
      clear j0 j4 j5 jz0 jz4 jz5
      generalize (w3.setCell ⟨g, 0, none⟩ (.int .i64 X)).drew = w4 at HR3 HT3 ⊢
      have j0 : w4.cell? ⟨g, 0, none⟩ = some (.int .i64 X) := HR3.out.cell 0
      have jz0 := HR3.out.frozen 0
      have j1 : w4.cell? ⟨g, 1, none⟩ = some (.int .i64 l) := HR3.out.cell 1
      have jz1 := HR3.out.frozen 1
      have j2 : w4.cell? ⟨g, 2, none⟩ = some (.int .i64 m) := HR3.out.cell 2
      have jz2 := HR3.out.frozen 2
      clear s20 s21 v20 v21
      go_wp2_with fail
      rw [← drawn_eq 16]
      go_region
      obtain ⟨Y, hY⟩ : ∃ Y, Y = (if X < l then l else X) := ⟨_, rfl⟩
      rw [← hY]
      obtain ⟨Z, hZ⟩ : ∃ Z, Z = (if m < Y then m else Y) := ⟨_, rfl⟩
      rw [← hZ]
      have E3 : Hid (Z = cl X l m) := Lib.hid (by rw [hZ, hY]; unfold cl; split <;> split <;> omega)
      clear hY hZ
      have HR5 : Hid (Blk (w4.setCell ⟨g, 0, none⟩ (.int .i64 Z)).drew g 46 #[.int .i64 Z, .int .i64 l, .int .i64 m, .bool true, .int .i64 s2, .int .i64 v2]) := Lib.hid ((HR3.out.set_ 0 _).drewN 1)
      have HT5 : Hid (Tw [g] w (w4.setCell ⟨g, 0, none⟩ (.int .i64 Z)).drew) := Lib.hid ((HT3.out.trans (Tw.setCell w4 ⟨g, 0, none⟩ _ (by simp))).drewN 1)
      go_wp2_with fail
      go_ret
      refine ⟨rfl, ?_, HT5.out⟩
      rw [HE.out]
      change Blk _ g 46 #[.int .i64 (cl (s2 / 8 + max 1 v2) l m), .int .i64 l, .int .i64 m, .bool true, .int .i64 s2, .int .i64 v2]
      rw [← HX.out, ← E3.out]
      exact HR5.out
    · change Blk w g 46 #[.int .i64 x, .int .i64 l, .int .i64 m, .bool true, .int .i64 s, .int .i64 v] at K
      have j3 : w.cell? ⟨g, 3, none⟩ = some (.bool true) := K.cell 3
      have jz3 := K.frozen 3
      have j4 : w.cell? ⟨g, 4, none⟩ = some (.int .i64 s) := K.cell 4
      have jz4 := K.frozen 4
      have j5 : w.cell? ⟨g, 5, none⟩ = some (.int .i64 v) := K.cell 5
      have jz5 := K.frozen 5
      have HE : Hid (Re.smp ⟨x, l, m, true, s, v⟩ t = Re.set ⟨x, l, m, true, s - s / 8 + u, v - v / 4 + off s u⟩) := Lib.hid HE0.out
      change 0 ≤ s - s / 8 + u at s20
      change s - s / 8 + u ≤ 8388608 at s21
      change 0 ≤ v - v / 4 + off s u at v20
      change v - v / 4 + off s u ≤ 4194307 at v21
      obtain ⟨s2, hs2⟩ : ∃ s2, s2 = s - s / 8 + u := ⟨_, rfl⟩
      obtain ⟨v2, hv2⟩ : ∃ v2, v2 = v - v / 4 + off s u := ⟨_, rfl⟩
      rw [← hs2] at s20 s21 HE
      rw [← hv2] at v20 v21 HE
      obtain ⟨D, hD⟩ : ∃ D, D = s / 8 - u := ⟨_, rfl⟩
      have d0 : -1048576 ≤ D := by omega
      have d1 : D ≤ 1048576 := by omega
      have HD := Lib.hid hD
      have HS2 := Lib.hid hs2
      have HV2 := Lib.hid hv2
      have B2 := Lib.hid (And.intro s20 (And.intro s21 (And.intro v20 v21)))
      clear hs2 hv2 s20 s21 v20 v21 hD
      by_cases hd : D < 0
      · have hdd : s / 8 - u < 0 := by have := HD.out; omega
        go_wp2_with fail
        rw [← held_eq 6]
        go_wp2_with fail
        rw [← HD.out]
        clear hdd
        have E : Hid (v - v / 4 + -D = v2) := Lib.hid (by rw [HV2.out]; unfold off; have := HD.out; omega)
        have HR : Hid (Blk (w.setCell ⟨g, 5, none⟩ (.int .i64 v2)).drew g 46 #[.int .i64 x, .int .i64 l, .int .i64 m, .bool true, .int .i64 s, .int .i64 v2]) := Lib.hid ((K.set_ 5 _).drewN 1)
        have HT : Hid (Tw [g] w (w.setCell ⟨g, 5, none⟩ (.int .i64 v2)).drew) := Lib.hid ((Tw.setCell w ⟨g, 5, none⟩ _ (by simp)).drewN 1)
        clear K
        rw [← drawn_eq 13]
        go_region
        rw [E.out]
        clear j3 j4 j5 jz3 jz4 jz5 a8 a9 hd d0 d1
        generalize (w.setCell ⟨g, 5, none⟩ (.int .i64 v2)).drew = w1 at HR HT ⊢
        have j4 : w1.cell? ⟨g, 4, none⟩ = some (.int .i64 s) := HR.out.cell 4
        have jz4 := HR.out.frozen 4
        have E2 : Hid (s - s / 8 + u = s2) := Lib.hid HS2.out.symm
        have HR2 : Hid (Blk (w1.setCell ⟨g, 4, none⟩ (.int .i64 s2)).drew g 46 #[.int .i64 x, .int .i64 l, .int .i64 m, .bool true, .int .i64 s2, .int .i64 v2]) := Lib.hid ((HR.out.set_ 4 _).drewN 1)
        have HT2 : Hid (Tw [g] w (w1.setCell ⟨g, 4, none⟩ (.int .i64 s2)).drew) := Lib.hid ((HT.out.trans (Tw.setCell w1 ⟨g, 4, none⟩ _ (by simp))).drewN 1)
        clear HR HT
        go_wp2_with fail
        rw [← drawn_eq 14]
        go_region
        rw [E2.out]
        clear j4 jz4 a6 a7 q0 q1
        obtain ⟨s20, s21, v20, v21⟩ := B2.out
        generalize (w1.setCell ⟨g, 4, none⟩ (.int .i64 s2)).drew = w3 at HR2 HT2 ⊢
        have HR := HR2
        have HT := HT2
        clear HR2 HT2
        go_wp2_with fail
        have j0 : w3.cell? ⟨g, 0, none⟩ = some (.int .i64 x) := HR.out.cell 0
        have jz0 := HR.out.frozen 0
        have j4 : w3.cell? ⟨g, 4, none⟩ = some (.int .i64 s2) := HR.out.cell 4
        have jz4 := HR.out.frozen 4
        have j5 : w3.cell? ⟨g, 5, none⟩ = some (.int .i64 v2) := HR.out.cell 5
        have jz5 := HR.out.frozen 5
        obtain ⟨X, hX⟩ : ∃ X, X = s2 / 8 + max 1 v2 := ⟨_, rfl⟩
        have HX : Hid (X = s2 / 8 + max 1 v2) := Lib.hid hX
        have HR3 : Hid (Blk (w3.setCell ⟨g, 0, none⟩ (.int .i64 X)).drew g 46 #[.int .i64 X, .int .i64 l, .int .i64 m, .bool true, .int .i64 s2, .int .i64 v2]) := Lib.hid ((HR.out.set_ 0 _).drewN 1)
        have HT3 : Hid (Tw [g] w (w3.setCell ⟨g, 0, none⟩ (.int .i64 X)).drew) := Lib.hid ((HT.out.trans (Tw.setCell w3 ⟨g, 0, none⟩ _ (by simp))).drewN 1)
        clear HR HT hX
        obtain ⟨M, hM⟩ : ∃ M, M = (if 1 < v2 then v2 else 1) := ⟨_, rfl⟩
        have E : Hid (s2 / 8 + M = X) := Lib.hid (by rw [HX.out, hM]; split <;> omega)
        have HM := Lib.hid hM
        clear hM
        rw [← drawn_eq 15]
        go_region
        rw [← HM.out, E.out]
        clear j0 j4 j5 jz0 jz4 jz5
        generalize (w3.setCell ⟨g, 0, none⟩ (.int .i64 X)).drew = w4 at HR3 HT3 ⊢
        have j0 : w4.cell? ⟨g, 0, none⟩ = some (.int .i64 X) := HR3.out.cell 0
        have jz0 := HR3.out.frozen 0
        have j1 : w4.cell? ⟨g, 1, none⟩ = some (.int .i64 l) := HR3.out.cell 1
        have jz1 := HR3.out.frozen 1
        have j2 : w4.cell? ⟨g, 2, none⟩ = some (.int .i64 m) := HR3.out.cell 2
        have jz2 := HR3.out.frozen 2
        clear s20 s21 v20 v21
        go_wp2_with fail
        rw [← drawn_eq 16]
        go_region
        obtain ⟨Y, hY⟩ : ∃ Y, Y = (if X < l then l else X) := ⟨_, rfl⟩
        rw [← hY]
        obtain ⟨Z, hZ⟩ : ∃ Z, Z = (if m < Y then m else Y) := ⟨_, rfl⟩
        rw [← hZ]
        have E3 : Hid (Z = cl X l m) := Lib.hid (by rw [hZ, hY]; unfold cl; split <;> split <;> omega)
        clear hY hZ
        have HR5 : Hid (Blk (w4.setCell ⟨g, 0, none⟩ (.int .i64 Z)).drew g 46 #[.int .i64 Z, .int .i64 l, .int .i64 m, .bool true, .int .i64 s2, .int .i64 v2]) := Lib.hid ((HR3.out.set_ 0 _).drewN 1)
        have HT5 : Hid (Tw [g] w (w4.setCell ⟨g, 0, none⟩ (.int .i64 Z)).drew) := Lib.hid ((HT3.out.trans (Tw.setCell w4 ⟨g, 0, none⟩ _ (by simp))).drewN 1)
        go_wp2_with fail
        go_ret
        refine ⟨rfl, ?_, HT5.out⟩
        rw [HE.out]
        change Blk _ g 46 #[.int .i64 (cl (s2 / 8 + max 1 v2) l m), .int .i64 l, .int .i64 m, .bool true, .int .i64 s2, .int .i64 v2]
        rw [← HX.out, ← E3.out]
        exact HR5.out
      · have hdd : ¬ s / 8 - u < 0 := by have := HD.out; omega
        go_wp2_with fail
        rw [← held_eq 6]
        go_wp2_with fail
        rw [← HD.out]
        clear hdd
        have E : Hid (v - v / 4 + D = v2) := Lib.hid (by rw [HV2.out]; unfold off; have := HD.out; omega)
        have HR : Hid (Blk (w.setCell ⟨g, 5, none⟩ (.int .i64 v2)).drew g 46 #[.int .i64 x, .int .i64 l, .int .i64 m, .bool true, .int .i64 s, .int .i64 v2]) := Lib.hid ((K.set_ 5 _).drewN 1)
        have HT : Hid (Tw [g] w (w.setCell ⟨g, 5, none⟩ (.int .i64 v2)).drew) := Lib.hid ((Tw.setCell w ⟨g, 5, none⟩ _ (by simp)).drewN 1)
        clear K
        rw [← drawn_eq 13]
        go_region
        rw [E.out]
        clear j3 j4 j5 jz3 jz4 jz5 a8 a9 hd d0 d1
        generalize (w.setCell ⟨g, 5, none⟩ (.int .i64 v2)).drew = w1 at HR HT ⊢
        have j4 : w1.cell? ⟨g, 4, none⟩ = some (.int .i64 s) := HR.out.cell 4
        have jz4 := HR.out.frozen 4
        have E2 : Hid (s - s / 8 + u = s2) := Lib.hid HS2.out.symm
        have HR2 : Hid (Blk (w1.setCell ⟨g, 4, none⟩ (.int .i64 s2)).drew g 46 #[.int .i64 x, .int .i64 l, .int .i64 m, .bool true, .int .i64 s2, .int .i64 v2]) := Lib.hid ((HR.out.set_ 4 _).drewN 1)
        have HT2 : Hid (Tw [g] w (w1.setCell ⟨g, 4, none⟩ (.int .i64 s2)).drew) := Lib.hid ((HT.out.trans (Tw.setCell w1 ⟨g, 4, none⟩ _ (by simp))).drewN 1)
        clear HR HT
        go_wp2_with fail
        rw [← drawn_eq 14]
        go_region
        rw [E2.out]
        clear j4 jz4 a6 a7 q0 q1
        obtain ⟨s20, s21, v20, v21⟩ := B2.out
        generalize (w1.setCell ⟨g, 4, none⟩ (.int .i64 s2)).drew = w3 at HR2 HT2 ⊢
        have HR := HR2
        have HT := HT2
        clear HR2 HT2
        go_wp2_with fail
        have j0 : w3.cell? ⟨g, 0, none⟩ = some (.int .i64 x) := HR.out.cell 0
        have jz0 := HR.out.frozen 0
        have j4 : w3.cell? ⟨g, 4, none⟩ = some (.int .i64 s2) := HR.out.cell 4
        have jz4 := HR.out.frozen 4
        have j5 : w3.cell? ⟨g, 5, none⟩ = some (.int .i64 v2) := HR.out.cell 5
        have jz5 := HR.out.frozen 5
        obtain ⟨X, hX⟩ : ∃ X, X = s2 / 8 + max 1 v2 := ⟨_, rfl⟩
        have HX : Hid (X = s2 / 8 + max 1 v2) := Lib.hid hX
        have HR3 : Hid (Blk (w3.setCell ⟨g, 0, none⟩ (.int .i64 X)).drew g 46 #[.int .i64 X, .int .i64 l, .int .i64 m, .bool true, .int .i64 s2, .int .i64 v2]) := Lib.hid ((HR.out.set_ 0 _).drewN 1)
        have HT3 : Hid (Tw [g] w (w3.setCell ⟨g, 0, none⟩ (.int .i64 X)).drew) := Lib.hid ((HT.out.trans (Tw.setCell w3 ⟨g, 0, none⟩ _ (by simp))).drewN 1)
        clear HR HT hX
        obtain ⟨M, hM⟩ : ∃ M, M = (if 1 < v2 then v2 else 1) := ⟨_, rfl⟩
        have E : Hid (s2 / 8 + M = X) := Lib.hid (by rw [HX.out, hM]; split <;> omega)
        have HM := Lib.hid hM
        clear hM
        rw [← drawn_eq 15]
        go_region
        rw [← HM.out, E.out]
        clear j0 j4 j5 jz0 jz4 jz5
        generalize (w3.setCell ⟨g, 0, none⟩ (.int .i64 X)).drew = w4 at HR3 HT3 ⊢
        have j0 : w4.cell? ⟨g, 0, none⟩ = some (.int .i64 X) := HR3.out.cell 0
        have jz0 := HR3.out.frozen 0
        have j1 : w4.cell? ⟨g, 1, none⟩ = some (.int .i64 l) := HR3.out.cell 1
        have jz1 := HR3.out.frozen 1
        have j2 : w4.cell? ⟨g, 2, none⟩ = some (.int .i64 m) := HR3.out.cell 2
        have jz2 := HR3.out.frozen 2
        clear s20 s21 v20 v21
        go_wp2_with fail
        rw [← drawn_eq 16]
        go_region
        obtain ⟨Y, hY⟩ : ∃ Y, Y = (if X < l then l else X) := ⟨_, rfl⟩
        rw [← hY]
        obtain ⟨Z, hZ⟩ : ∃ Z, Z = (if m < Y then m else Y) := ⟨_, rfl⟩
        rw [← hZ]
        have E3 : Hid (Z = cl X l m) := Lib.hid (by rw [hZ, hY]; unfold cl; split <;> split <;> omega)
        clear hY hZ
        have HR5 : Hid (Blk (w4.setCell ⟨g, 0, none⟩ (.int .i64 Z)).drew g 46 #[.int .i64 Z, .int .i64 l, .int .i64 m, .bool true, .int .i64 s2, .int .i64 v2]) := Lib.hid ((HR3.out.set_ 0 _).drewN 1)
        have HT5 : Hid (Tw [g] w (w4.setCell ⟨g, 0, none⟩ (.int .i64 Z)).drew) := Lib.hid ((HT3.out.trans (Tw.setCell w4 ⟨g, 0, none⟩ _ (by simp))).drewN 1)
        go_wp2_with fail
        go_ret
        refine ⟨rfl, ?_, HT5.out⟩
        rw [HE.out]
        change Blk _ g 46 #[.int .i64 (cl (s2 / 8 + max 1 v2) l m), .int .i64 l, .int .i64 m, .bool true, .int .i64 s2, .int .i64 v2]
        rw [← HX.out, ← E3.out]
        exact HR5.out

end Go.Proofs.Ythmilceapnaepaa
