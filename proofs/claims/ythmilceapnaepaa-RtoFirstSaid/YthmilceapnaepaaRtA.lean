/-
  Package rto: the code's functions over a state.
-/
import Derived.Test.YthmilceapnaepaaRtM
import Derived.Test.YthmilceapnaepaaRun
import Derived.Test.YthmilceapnaepaaQuietTail
import Derived.Test.YthmilceapnaepaaHeld
import Derived.Test.YthmilceapnaepaaRows
import Derived.WalkSpells
import Derived.StillTailTactics
import Derived.RegionTactic
namespace Go.Proofs.Ythmilceapnaepaa
open Go.RowKit
set_option linter.unusedVariables false

theorem wrap_i64 {x : Int} (h1 : -9223372036854775808 ≤ x) (h2 : x ≤ 9223372036854775807) : IntKind.i64.wrap x = x := by
  unfold IntKind.wrap
  simp [IntKind.signed, IntKind.bits]
  omega
set_option maxRecDepth 100000 in
set_option maxHeartbeats 4000000 in
theorem limited_any (x l m : Int) (w : World) :
    Calls Try.prog 20 #[.int .i64 x, .int .i64 l, .int .i64 m] w fun e w' => e = .returned (.int .i64 (cl x l m)) ∧ w' = w := by
  by_cases h1 : x < l
  · by_cases h2 : l ≤ m
    · have E := Lib.hid (show l = cl x l m by unfold cl; omega)
      go_enter Try.func20, Try.ntmps20
      go_wp2_with fail
      go_ret
      exact ⟨ret_int E.out, rfl⟩
    · have E := Lib.hid (show m = cl x l m by unfold cl; omega)
      go_enter Try.func20, Try.ntmps20
      go_wp2_with fail
      go_ret
      exact ⟨ret_int E.out, rfl⟩
  · by_cases h2 : x ≤ m
    · have E := Lib.hid (show x = cl x l m by unfold cl; omega)
      go_enter Try.func20, Try.ntmps20
      go_wp2_with fail
      go_ret
      exact ⟨ret_int E.out, rfl⟩
    · have E := Lib.hid (show m = cl x l m by unfold cl; omega)
      go_enter Try.func20, Try.ntmps20
      go_wp2_with fail
      go_ret
      exact ⟨ret_int E.out, rfl⟩

set_option maxRecDepth 100000 in
set_option maxHeartbeats 4000000 in
theorem codeBack (r : Re) (g : Nat) (w : World) (h : r.Ok) (K : Blk w g 44 #[.int .i64 r.x, .int .i64 r.l, .int .i64 r.m, .bool r.any, .int .i64 r.s, .int .i64 r.v]) :
    Calls Try.prog 12 #[.pointer (some ⟨g, 0, none⟩)] w fun e w' => e = .returned (.tuple #[]) ∧ Blk w' g 44 #[.int .i64 r.back.x, .int .i64 r.back.l, .int .i64 r.back.m, .bool r.back.any, .int .i64 r.back.s, .int .i64 r.back.v] ∧ Tw [g] w w' := by
  obtain ⟨a1, a2, a3, a4, a5, -, -, -, -⟩ := h
  obtain ⟨x, l, m, b, s, v⟩ := r
  change 1 ≤ l at a1
  change l ≤ m at a2
  change m ≤ 1048576 at a3
  change l ≤ x at a4
  change x ≤ m at a5
  change Blk w g 44 #[.int .i64 x, .int .i64 l, .int .i64 m, .bool b, .int .i64 s, .int .i64 v] at K
  have hw : IntKind.i64.wrap (2 * x) = 2 * x := wrap_i64 (by omega) (by omega)
  have j0 : w.cell? ⟨g, 0, none⟩ = some (.int .i64 x) := K.cell 0
  have jz0 := K.frozen 0
  have j1 : w.cell? ⟨g, 1, none⟩ = some (.int .i64 l) := K.cell 1
  have jz1 := K.frozen 1
  have j2 : w.cell? ⟨g, 2, none⟩ = some (.int .i64 m) := K.cell 2
  have jz2 := K.frozen 2
  have HL : Hid (∀ W : World, Calls Try.prog 20 #[.int .i64 (2 * x), .int .i64 l, .int .i64 m] W fun e W' => e = .returned (.int .i64 (cl (2 * x) l m)) ∧ ∃ k, W' = W.drewN k) := Lib.hid fun W => (limited_any (2 * x) l m W).mono fun e W' h => ⟨h.1, 0, h.2⟩
  have HR : Hid (∀ d u, Blk ((w.drewN d).setCell ⟨g, 0, none⟩ (.int .i64 u)) g 44 #[.int .i64 u, .int .i64 l, .int .i64 m, .bool b, .int .i64 s, .int .i64 v]) := Lib.hid fun d u => (K.drewN d).set_ 0 _
  have HT : Hid (∀ d u, Tw [g] w ((w.drewN d).setCell ⟨g, 0, none⟩ (.int .i64 u))) := Lib.hid fun d u => ((Tw.refl [g] w).drewN d).trans (Tw.setCell _ ⟨g, 0, none⟩ _ (by simp))
  clear K
  go_enter Try.func12, Try.ntmps12
  go_wp2_with fail
  refine wp_region_quiet_tail 15 (by kernel_rfl) (by kernel_rfl) ?_
  simp only [List.take_succ_cons, List.take_zero, List.drop_succ_cons, List.drop_zero]
  repeat (go_big_quiet_step ((go_at_call 20; exact still_any (v := .int .i64 (cl (2 * x) l m)) (HL.out _))))
  refine wpQuiet_nil ?_
  rintro _ ⟨n, rfl⟩
  go_wp2_with fail
  go_end0
  exact ⟨rfl, HR.out n _, HT.out n _⟩

theorem codeValue (r : Re) (g : Nat) (w : World) (K : Blk w g 44 #[.int .i64 r.x, .int .i64 r.l, .int .i64 r.m, .bool r.any, .int .i64 r.s, .int .i64 r.v]) : Calls Try.prog 18 #[.pointer (some ⟨g, 0, none⟩)] w fun e w' => e = .returned (.int .i64 r.x) ∧ w' = w := by
  have j0 : w.cell? ⟨g, 0, none⟩ = some (.int .i64 r.x) := K.cell 0
  go_enter Try.func18, Try.ntmps18
  go_wp2_with fail
  go_ret
  exact ⟨rfl, rfl⟩
theorem codeValue_nil (w : World) : Calls Try.prog 18 #[.pointer none] w fun e w' => e = .returned (.int .i64 0) ∧ w' = w := by
  go_enter Try.func18, Try.ntmps18
  go_wp2_with fail
  go_ret
  exact ⟨rfl, rfl⟩
theorem codeSmooth (r : Re) (g : Nat) (w : World) (hs : 0 ≤ r.s) (h1 : r.s ≤ 8388608) (K : Blk w g 44 #[.int .i64 r.x, .int .i64 r.l, .int .i64 r.m, .bool r.any, .int .i64 r.s, .int .i64 r.v]) : Calls Try.prog 16 #[.pointer (some ⟨g, 0, none⟩)] w fun e w' => e = .returned (.tuple #[.int .i64 (if r.any then r.s / 8 else 0), .bool r.any]) ∧ w' = w := by
  obtain ⟨x, l, m, b, s, v⟩ := r
  change 0 ≤ s at hs
  change s ≤ 8388608 at h1
  have j3 : w.cell? ⟨g, 3, none⟩ = some (.bool b) := K.cell 3
  have j4 : w.cell? ⟨g, 4, none⟩ = some (.int .i64 s) := K.cell 4
  cases b
  · skip
    go_enter Try.func16, Try.ntmps16
    go_wp2_with fail
    go_ret2
    exact ⟨rfl, rfl⟩
  · skip
    go_enter Try.func16, Try.ntmps16
    go_wp2_with fail
    go_ret2
    exact ⟨rfl, rfl⟩
theorem codeSmooth_nil (w : World) : Calls Try.prog 16 #[.pointer none] w fun e w' => e = .returned (.tuple #[.int .i64 0, .bool false]) ∧ w' = w := by
  go_enter Try.func16, Try.ntmps16
  go_wp2_with fail
  go_ret2
  exact ⟨rfl, rfl⟩
theorem refValue (r : Re) (g : Nat) (w : World) (K : Blk w g 46 #[.int .i64 r.x, .int .i64 r.l, .int .i64 r.m, .bool r.any, .int .i64 r.s, .int .i64 r.v]) : Calls Try.prog 19 #[.pointer (some ⟨g, 0, none⟩)] w fun e w' => e = .returned (.int .i64 r.x) ∧ w' = w := by
  have j0 : w.cell? ⟨g, 0, none⟩ = some (.int .i64 r.x) := K.cell 0
  go_enter Try.func19, Try.ntmps19
  go_wp2_with fail
  go_ret
  exact ⟨rfl, rfl⟩
theorem refValue_nil (w : World) : Calls Try.prog 19 #[.pointer none] w fun e w' => e = .returned (.int .i64 0) ∧ w' = w := by
  go_enter Try.func19, Try.ntmps19
  go_wp2_with fail
  go_ret
  exact ⟨rfl, rfl⟩
theorem refSmooth (r : Re) (g : Nat) (w : World) (hs : 0 ≤ r.s) (h1 : r.s ≤ 8388608) (K : Blk w g 46 #[.int .i64 r.x, .int .i64 r.l, .int .i64 r.m, .bool r.any, .int .i64 r.s, .int .i64 r.v]) : Calls Try.prog 17 #[.pointer (some ⟨g, 0, none⟩)] w fun e w' => e = .returned (.tuple #[.int .i64 (if r.any then r.s / 8 else 0), .bool r.any]) ∧ w' = w := by
  obtain ⟨x, l, m, b, s, v⟩ := r
  change 0 ≤ s at hs
  change s ≤ 8388608 at h1
  have j3 : w.cell? ⟨g, 3, none⟩ = some (.bool b) := K.cell 3
  have j4 : w.cell? ⟨g, 4, none⟩ = some (.int .i64 s) := K.cell 4
  cases b
  · skip
    go_enter Try.func17, Try.ntmps17
    go_wp2_with fail
    go_ret2
    exact ⟨rfl, rfl⟩
  · skip
    go_enter Try.func17, Try.ntmps17
    go_wp2_with fail
    go_ret2
    exact ⟨rfl, rfl⟩
theorem refSmooth_nil (w : World) : Calls Try.prog 17 #[.pointer none] w fun e w' => e = .returned (.tuple #[.int .i64 0, .bool false]) ∧ w' = w := by
  go_enter Try.func17, Try.ntmps17
  go_wp2_with fail
  go_ret2
  exact ⟨rfl, rfl⟩
theorem codeSample_nil (t : Int) (w : World) : Calls Try.prog 14 #[.pointer none, .int .i64 t] w fun e w' => e = .returned (.int .i64 2) ∧ w' = w := by
  go_enter Try.func14, Try.ntmps14
  go_wp2_with fail
  go_ret
  exact ⟨rfl, rfl⟩
theorem codeSample_neg (t : Int) (g : Nat) (w : World) (ht : t < 0) : Calls Try.prog 14 #[.pointer (some ⟨g, 0, none⟩), .int .i64 t] w fun e w' => e = .returned (.int .i64 1) ∧ w' = w := by
  go_enter Try.func14, Try.ntmps14
  go_wp2_with fail
  go_ret
  exact ⟨rfl, rfl⟩
theorem codeBack_nil (w : World) : Calls Try.prog 12 #[.pointer none] w fun e w' => e = .returned (.tuple #[]) ∧ w' = w := by
  go_enter Try.func12, Try.ntmps12
  go_wp2_with fail
  refine bodyPost_ret (results_none rfl _ _ _) rfl ?_
  exact ⟨rfl, rfl⟩
theorem refSample_nil (t : Int) (w : World) : Calls Try.prog 15 #[.pointer none, .int .i64 t] w fun e w' => e = .returned (.int .i64 2) ∧ w' = w := by
  go_enter Try.func15, Try.ntmps15
  go_wp2_with fail
  go_ret
  exact ⟨rfl, rfl⟩
theorem refSample_neg (t : Int) (g : Nat) (w : World) (ht : t < 0) : Calls Try.prog 15 #[.pointer (some ⟨g, 0, none⟩), .int .i64 t] w fun e w' => e = .returned (.int .i64 1) ∧ w' = w := by
  go_enter Try.func15, Try.ntmps15
  go_wp2_with fail
  go_ret
  exact ⟨rfl, rfl⟩
theorem refBack_nil (w : World) : Calls Try.prog 13 #[.pointer none] w fun e w' => e = .returned (.tuple #[]) ∧ w' = w := by
  go_enter Try.func13, Try.ntmps13
  go_wp2_with fail
  go_end0
  exact ⟨rfl, rfl⟩
set_option maxRecDepth 100000 in
set_option maxHeartbeats 4000000 in
theorem codeTake (r : Re) (t : Int) (g : Nat) (w : World) (h : r.Ok) (t0 : 0 ≤ t) (t1 : t ≤ 1048576) (K : Blk w g 44 #[.int .i64 r.x, .int .i64 r.l, .int .i64 r.m, .bool r.any, .int .i64 r.s, .int .i64 r.v]) :
    Calls Try.prog 21 #[.pointer (some ⟨g, 0, none⟩), .int .i64 t] w fun e w' => e = .returned (.tuple #[]) ∧ Blk w' g 44 #[.int .i64 (r.take t).x, .int .i64 (r.take t).l, .int .i64 (r.take t).m, .bool (r.take t).any, .int .i64 (r.take t).s, .int .i64 (r.take t).v] ∧ Tw [g] w w' := by
  obtain ⟨-, -, -, -, -, a6, a7, a8, a9⟩ := h
  obtain ⟨x, l, m, b, s, v⟩ := r
  change 0 ≤ s at a6
  change s ≤ 8388608 at a7
  change 0 ≤ v at a8
  change v ≤ 4194307 at a9
  cases b
  · change Blk w g 44 #[.int .i64 x, .int .i64 l, .int .i64 m, .bool false, .int .i64 s, .int .i64 v] at K
    have j3 : w.cell? ⟨g, 3, none⟩ = some (.bool false) := K.cell 3
    have jz3 := K.frozen 3
    have j4 : w.cell? ⟨g, 4, none⟩ = some (.int .i64 s) := K.cell 4
    have jz4 := K.frozen 4
    have j5 : w.cell? ⟨g, 5, none⟩ = some (.int .i64 v) := K.cell 5
    have jz5 := K.frozen 5
    have HR : Hid (Blk (((w.setCell ⟨g, 3, none⟩ (.bool true)).setCell ⟨g, 4, none⟩ (.int .i64 (8 * t))).setCell ⟨g, 5, none⟩ (.int .i64 (2 * t))) g 44 #[.int .i64 x, .int .i64 l, .int .i64 m, .bool true, .int .i64 (8 * t), .int .i64 (2 * t)]) := Lib.hid (((K.set_ 3 _).set_ 4 _).set_ 5 _)
    have HT : Hid (Tw [g] w (((w.setCell ⟨g, 3, none⟩ (.bool true)).setCell ⟨g, 4, none⟩ (.int .i64 (8 * t))).setCell ⟨g, 5, none⟩ (.int .i64 (2 * t)))) := Lib.hid (((Tw.setCell w ⟨g, 3, none⟩ _ (by simp)).trans (Tw.setCell _ ⟨g, 4, none⟩ _ (by simp))).trans (Tw.setCell _ ⟨g, 5, none⟩ _ (by simp)))
    clear K
    go_enter Try.func21, Try.ntmps21
    go_wp2_with fail
    refine bodyPost_ret (results_none rfl _ _ _) rfl ?_
    exact ⟨rfl, HR.out, HT.out⟩
  · change Blk w g 44 #[.int .i64 x, .int .i64 l, .int .i64 m, .bool true, .int .i64 s, .int .i64 v] at K
    have j3 : w.cell? ⟨g, 3, none⟩ = some (.bool true) := K.cell 3
    have jz3 := K.frozen 3
    have j4 : w.cell? ⟨g, 4, none⟩ = some (.int .i64 s) := K.cell 4
    have jz4 := K.frozen 4
    have j5 : w.cell? ⟨g, 5, none⟩ = some (.int .i64 v) := K.cell 5
    have jz5 := K.frozen 5
    go_enter Try.func21, Try.ntmps21
    go_wp2_with fail
    obtain ⟨D, hD⟩ : ∃ D, D = s / 8 - t := ⟨_, rfl⟩
    rw [← hD]
    have d0 : -1048576 ≤ D := by omega
    have d1 : D ≤ 1048576 := by omega
    have HD := Lib.hid hD
    clear hD
    by_cases hd : D < -D
    · skip
      obtain ⟨u, hu⟩ : ∃ u, u = v + (-D - v / 4) := ⟨_, rfl⟩
      have E : Hid (u = v - v / 4 + off s t) := Lib.hid (by rw [hu]; unfold off; have := HD.out; omega)
      have HR : Hid (Blk (w.setCell ⟨g, 5, none⟩ (.int .i64 u)).drew g 44 #[.int .i64 x, .int .i64 l, .int .i64 m, .bool true, .int .i64 s, .int .i64 u]) := Lib.hid (((K.set_ 5 _)).drewN 1)
      have HT : Hid (Tw [g] w (w.setCell ⟨g, 5, none⟩ (.int .i64 u)).drew) := Lib.hid ((Tw.setCell w ⟨g, 5, none⟩ _ (by simp)).drewN 1)
      clear K
      go_region
      rw [← hu]
      generalize (w.setCell ⟨g, 5, none⟩ (.int .i64 u)).drew = w1 at HR HT ⊢
      clear hu j3 j4 j5 jz3 jz4 jz5 hd a8 a9
      have j4 : w1.cell? ⟨g, 4, none⟩ = some (.int .i64 s) := HR.out.cell 4
      have jz4 := HR.out.frozen 4
      have HR2 : Hid (Blk (w1.setCell ⟨g, 4, none⟩ (.int .i64 (s + (t - s / 8)))).drew g 44 #[.int .i64 x, .int .i64 l, .int .i64 m, .bool true, .int .i64 (s + (t - s / 8)), .int .i64 u]) := Lib.hid (((HR.out.set_ 4 _)).drewN 1)
      have HT2 : Hid (Tw [g] w (w1.setCell ⟨g, 4, none⟩ (.int .i64 (s + (t - s / 8)))).drew) := Lib.hid ((HT.out.trans (Tw.setCell w1 ⟨g, 4, none⟩ _ (by simp))).drewN 1)
      go_wp2_with fail
      go_region
      go_wp2_with fail
      go_end0
      refine ⟨rfl, ?_, HT2.out⟩
      have h2 := HR2.out
      rw [E.out, show s + (t - s / 8) = s - s / 8 + t from by omega] at h2
      rw [show s + (t - s / 8) = s - s / 8 + t from by omega]
      exact h2
    · skip
      obtain ⟨u, hu⟩ : ∃ u, u = v + (D - v / 4) := ⟨_, rfl⟩
      have E : Hid (u = v - v / 4 + off s t) := Lib.hid (by rw [hu]; unfold off; have := HD.out; omega)
      have HR : Hid (Blk (w.setCell ⟨g, 5, none⟩ (.int .i64 u)).drew g 44 #[.int .i64 x, .int .i64 l, .int .i64 m, .bool true, .int .i64 s, .int .i64 u]) := Lib.hid (((K.set_ 5 _)).drewN 1)
      have HT : Hid (Tw [g] w (w.setCell ⟨g, 5, none⟩ (.int .i64 u)).drew) := Lib.hid ((Tw.setCell w ⟨g, 5, none⟩ _ (by simp)).drewN 1)
      clear K
      go_region
      rw [← hu]
      generalize (w.setCell ⟨g, 5, none⟩ (.int .i64 u)).drew = w1 at HR HT ⊢
      clear hu j3 j4 j5 jz3 jz4 jz5 hd a8 a9
      have j4 : w1.cell? ⟨g, 4, none⟩ = some (.int .i64 s) := HR.out.cell 4
      have jz4 := HR.out.frozen 4
      have HR2 : Hid (Blk (w1.setCell ⟨g, 4, none⟩ (.int .i64 (s + (t - s / 8)))).drew g 44 #[.int .i64 x, .int .i64 l, .int .i64 m, .bool true, .int .i64 (s + (t - s / 8)), .int .i64 u]) := Lib.hid (((HR.out.set_ 4 _)).drewN 1)
      have HT2 : Hid (Tw [g] w (w1.setCell ⟨g, 4, none⟩ (.int .i64 (s + (t - s / 8)))).drew) := Lib.hid ((HT.out.trans (Tw.setCell w1 ⟨g, 4, none⟩ _ (by simp))).drewN 1)
      go_wp2_with fail
      go_region
      go_wp2_with fail
      go_end0
      refine ⟨rfl, ?_, HT2.out⟩
      have h2 := HR2.out
      rw [E.out, show s + (t - s / 8) = s - s / 8 + t from by omega] at h2
      rw [show s + (t - s / 8) = s - s / 8 + t from by omega]
      exact h2

end Go.Proofs.Ythmilceapnaepaa
