/-
  Package rto: New and Sample of the code over a state; New of the reference.
-/
import Derived.Test.YthmilceapnaepaaRtA
namespace Go.Proofs.Ythmilceapnaepaa
open Go.RowKit
set_option linter.unusedVariables false

/-- The numbers that an estimator may be made of. -/
def newOk (f l m : Int) : Prop := 1 ≤ l ∧ l ≤ f ∧ f ≤ m ∧ m ≤ 1048576
theorem newOk.ok {f l m : Int} (h : newOk f l m) : (new f l m).Ok := new_ok h.1 h.2.1 h.2.2.1 h.2.2.2
theorem smp_of {r r2 : Re} {t T : Int} (hT : T = min t 1048576) (h : r2 = r.take T) : r.smp t = r2.set := by rw [h, hT]; rfl
set_option maxRecDepth 100000 in
set_option maxHeartbeats 4000000 in
theorem codeNew_no (f l m : Int) (w : World) (h : ¬ newOk f l m) : Calls Try.prog 10 #[.int .i64 f, .int .i64 l, .int .i64 m] w fun e w' => e = .returned (.tuple #[.pointer none, .int .i64 1]) ∧ w' = w := by
  unfold newOk at h
  by_cases h1 : l < 1
  · clear h
    go_enter Try.func10, Try.ntmps10
    go_wp2_with fail
    go_ret2
    exact ⟨rfl, rfl⟩
  · by_cases h2 : f < l
    · clear h
      go_enter Try.func10, Try.ntmps10
      go_wp2_with fail
      go_ret2
      exact ⟨rfl, rfl⟩
    · by_cases h3 : m < f
      · clear h
        go_enter Try.func10, Try.ntmps10
        go_wp2_with fail
        go_ret2
        exact ⟨rfl, rfl⟩
      · have h4 : 1048576 < m := by omega
        clear h
        go_enter Try.func10, Try.ntmps10
        go_wp2_with fail
        go_ret2
        exact ⟨rfl, rfl⟩
set_option maxRecDepth 100000 in
set_option maxHeartbeats 4000000 in
theorem codeNew (f l m : Int) (w : World) (h : newOk f l m) : Calls Try.prog 10 #[.int .i64 f, .int .i64 l, .int .i64 m] w fun e w' => e = .returned (.tuple #[.pointer (some ⟨w.heap.size, 0, none⟩), .int .i64 0]) ∧ Blk w' w.heap.size 44 #[.int .i64 (new f l m).x, .int .i64 (new f l m).l, .int .i64 (new f l m).m, .bool (new f l m).any, .int .i64 (new f l m).s, .int .i64 (new f l m).v] ∧ Below w.heap.size w w' := by
  obtain ⟨h1, h2, h3, h4⟩ := h
  have HB := Lib.hid (below_new w (.cells #[.int .i64 f, .int .i64 l, .int .i64 m, .bool false, .int .i64 0, .int .i64 0] 44))
  have HK := Lib.hid (Blk.new w 44 #[.int .i64 f, .int .i64 l, .int .i64 m, .bool false, .int .i64 0, .int .i64 0])
  have n1 : ¬ l < 1 := by omega
  have n2 : ¬ f < l := by omega
  have n3 : ¬ m < f := by omega
  have n4 : ¬ 1048576 < m := by omega
  clear h1 h2 h3 h4
  go_enter Try.func10, Try.ntmps10
  go_wp2_with fail
  go_ret2
  exact ⟨rfl, HK.out, HB.out⟩
set_option maxRecDepth 100000 in
set_option maxHeartbeats 4000000 in
theorem refNew_no (f l m : Int) (w : World) (h : ¬ newOk f l m) : Calls Try.prog 11 #[.int .i64 f, .int .i64 l, .int .i64 m] w fun e w' => e = .returned (.tuple #[.pointer none, .int .i64 1]) ∧ w' = w := by
  unfold newOk at h
  by_cases h1 : l < 1
  · clear h
    go_enter Try.func11, Try.ntmps11
    go_wp2_with fail
    go_ret2
    exact ⟨rfl, rfl⟩
  · by_cases h2 : f < l
    · clear h
      go_enter Try.func11, Try.ntmps11
      go_wp2_with fail
      go_ret2
      exact ⟨rfl, rfl⟩
    · by_cases h3 : m < f
      · clear h
        go_enter Try.func11, Try.ntmps11
        go_wp2_with fail
        go_ret2
        exact ⟨rfl, rfl⟩
      · have h4 : 1048576 < m := by omega
        clear h
        go_enter Try.func11, Try.ntmps11
        go_wp2_with fail
        go_ret2
        exact ⟨rfl, rfl⟩
set_option maxRecDepth 100000 in
set_option maxHeartbeats 4000000 in
theorem refNew (f l m : Int) (w : World) (h : newOk f l m) : Calls Try.prog 11 #[.int .i64 f, .int .i64 l, .int .i64 m] w fun e w' => e = .returned (.tuple #[.pointer (some ⟨w.heap.size, 0, none⟩), .int .i64 0]) ∧ Blk w' w.heap.size 46 #[.int .i64 (new f l m).x, .int .i64 (new f l m).l, .int .i64 (new f l m).m, .bool (new f l m).any, .int .i64 (new f l m).s, .int .i64 (new f l m).v] ∧ Below w.heap.size w w' := by
  obtain ⟨h1, h2, h3, h4⟩ := h
  have HB := Lib.hid (below_new w (.cells #[.int .i64 f, .int .i64 l, .int .i64 m, .bool false, .int .i64 0, .int .i64 0] 46))
  have HK := Lib.hid (Blk.new w 46 #[.int .i64 f, .int .i64 l, .int .i64 m, .bool false, .int .i64 0, .int .i64 0])
  have n1 : ¬ l < 1 := by omega
  have n2 : ¬ f < l := by omega
  have n3 : ¬ m < f := by omega
  have n4 : ¬ 1048576 < m := by omega
  clear h1 h2 h3 h4
  go_enter Try.func11, Try.ntmps11
  go_wp2_with fail
  go_ret2
  exact ⟨rfl, HK.out, HB.out⟩
set_option maxRecDepth 100000 in
set_option maxHeartbeats 4000000 in
theorem codeSample (r : Re) (t : Int) (g : Nat) (w : World) (h : r.Ok) (t0 : 0 ≤ t) (K : Blk w g 44 #[.int .i64 r.x, .int .i64 r.l, .int .i64 r.m, .bool r.any, .int .i64 r.s, .int .i64 r.v]) :
    Calls Try.prog 14 #[.pointer (some ⟨g, 0, none⟩), .int .i64 t] w fun e w' => e = .returned (.int .i64 0) ∧ Blk w' g 44 #[.int .i64 (r.smp t).x, .int .i64 (r.smp t).l, .int .i64 (r.smp t).m, .bool (r.smp t).any, .int .i64 (r.smp t).s, .int .i64 (r.smp t).v] ∧ Tw [g] w w' := by
  obtain ⟨u, hu⟩ : ∃ u, u = min t 1048576 := ⟨_, rfl⟩
  have he : cl t 0 1048576 = u := by rw [hu]; unfold cl; omega
  have HL := Lib.hid (limited_any t 0 1048576 w)
  rw [he] at HL
  have h2 : (r.take u).Ok := h.take (by omega) (by omega)
  have HT := Lib.hid (codeTake r u g w h (by omega) (by omega) K)
  obtain ⟨r2, hr2⟩ : ∃ r2, r2 = r.take u := ⟨_, rfl⟩
  rw [← hr2] at HT h2
  have HE := Lib.hid (smp_of hu hr2)
  obtain ⟨-, -, -, -, -, a6, a7, a8, a9⟩ := h2
  clear hu he hr2 K h
  go_enter Try.func14, Try.ntmps14
  rw [drawn_eq 6]
  go_wp2_with fail
  refine HL.out.mono ?_
  rintro e w1 ⟨rfl, rfl⟩
  go_wp2_with fail
  refine HT.out.mono ?_
  rintro e w2 ⟨rfl, K2, T2⟩
  obtain ⟨x, l, m, b, s, v⟩ := r2
  change 0 ≤ s at a6
  change s ≤ 8388608 at a7
  change 0 ≤ v at a8
  change v ≤ 4194307 at a9
  change Blk w2 g 44 #[.int .i64 x, .int .i64 l, .int .i64 m, .bool b, .int .i64 s, .int .i64 v] at K2
  have HT2 := Lib.hid T2
  have j0 : w2.cell? ⟨g, 0, none⟩ = some (.int .i64 x) := K2.cell 0
  have jz0 := K2.frozen 0
  have j1 : w2.cell? ⟨g, 1, none⟩ = some (.int .i64 l) := K2.cell 1
  have jz1 := K2.frozen 1
  have j2 : w2.cell? ⟨g, 2, none⟩ = some (.int .i64 m) := K2.cell 2
  have jz2 := K2.frozen 2
  have j4 : w2.cell? ⟨g, 4, none⟩ = some (.int .i64 s) := K2.cell 4
  have jz4 := K2.frozen 4
  have j5 : w2.cell? ⟨g, 5, none⟩ = some (.int .i64 v) := K2.cell 5
  have jz5 := K2.frozen 5
  clear T2 HL HT
  obtain ⟨q, hq⟩ : ∃ q, q = s / 8 := ⟨_, rfl⟩
  have hq1 : s.tdiv 8 = q := by rw [hq]; exact Int.tdiv_eq_ediv_of_nonneg a6
  have hq2 : IntKind.i64.wrap q = q := wrap_i64 (by omega) (by omega)
  have hq3 : IntKind.i64.wrap (q + v) = q + v := wrap_i64 (by omega) (by omega)
  have hq4 : IntKind.i64.wrap (q + 1) = q + 1 := wrap_i64 (by omega) (by omega)
  have HQ := Lib.hid hq
  clear hq a6 a7 a8 a9
  by_cases hv : 1 < v
  · have HL : Hid (∀ W : World, Calls Try.prog 20 #[.int .i64 (q + v), .int .i64 l, .int .i64 m] W fun e W' => e = .returned (.int .i64 (cl (q + v) l m)) ∧ ∃ k, W' = W.drewN k) := Lib.hid fun W => (limited_any (q + v) l m W).mono fun e W' h => ⟨h.1, 0, h.2⟩
    have HX : Hid (cl (q + v) l m = cl (s / 8 + max 1 v) l m) := Lib.hid (by rw [HQ.out, show max 1 v = v from by omega])
    have HR : Hid (∀ d z, Blk ((w2.drewN d).setCell ⟨g, 0, none⟩ (.int .i64 z)) g 44 #[.int .i64 z, .int .i64 l, .int .i64 m, .bool b, .int .i64 s, .int .i64 v]) := Lib.hid fun d z => (K2.drewN d).set_ 0 _
    have HW : Hid (∀ d z, Tw [g] w1 ((w2.drewN d).setCell ⟨g, 0, none⟩ (.int .i64 z))) := Lib.hid fun d z => (HT2.out.drewN d).trans (Tw.setCell _ ⟨g, 0, none⟩ _ (by simp))
    clear K2 HT2
    go_wp2_with fail
    rw [← drawn_eq 6]
    refine wp_region_quiet_tail 21 (by kernel_rfl) (by kernel_rfl) ?_
    simp only [List.take_succ_cons, List.take_zero, List.drop_succ_cons, List.drop_zero]
    repeat (go_big_quiet_step ((go_at_call 20; exact still_any (v := .int .i64 (cl (q + v) l m)) (HL.out _))))
    refine wpQuiet_nil ?_
    rintro _ ⟨n, rfl⟩
    go_wp2_with fail
    · skip
      go_ret
      refine ⟨rfl, ?_, HW.out n _⟩
      rw [HE.out]
      have h := HR.out n (cl (q + v) l m)
      rw [HX.out] at h ⊢
      exact h
  · have HL : Hid (∀ W : World, Calls Try.prog 20 #[.int .i64 (q + 1), .int .i64 l, .int .i64 m] W fun e W' => e = .returned (.int .i64 (cl (q + 1) l m)) ∧ ∃ k, W' = W.drewN k) := Lib.hid fun W => (limited_any (q + 1) l m W).mono fun e W' h => ⟨h.1, 0, h.2⟩
    have HX : Hid (cl (q + 1) l m = cl (s / 8 + max 1 v) l m) := Lib.hid (by rw [HQ.out, show max 1 v = 1 from by omega])
    have HR : Hid (∀ d z, Blk ((w2.drewN d).setCell ⟨g, 0, none⟩ (.int .i64 z)) g 44 #[.int .i64 z, .int .i64 l, .int .i64 m, .bool b, .int .i64 s, .int .i64 v]) := Lib.hid fun d z => (K2.drewN d).set_ 0 _
    have HW : Hid (∀ d z, Tw [g] w1 ((w2.drewN d).setCell ⟨g, 0, none⟩ (.int .i64 z))) := Lib.hid fun d z => (HT2.out.drewN d).trans (Tw.setCell _ ⟨g, 0, none⟩ _ (by simp))
    clear K2 HT2
    go_wp2_with fail
    rw [← drawn_eq 6]
    refine wp_region_quiet_tail 21 (by kernel_rfl) (by kernel_rfl) ?_
    simp only [List.take_succ_cons, List.take_zero, List.drop_succ_cons, List.drop_zero]
    repeat (go_big_quiet_step ((go_at_call 20; exact still_any (v := .int .i64 (cl (q + 1) l m)) (HL.out _))))
    refine wpQuiet_nil ?_
    rintro _ ⟨n, rfl⟩
    go_wp2_with fail
    · skip
      go_ret
      refine ⟨rfl, ?_, HW.out n _⟩
      rw [HE.out]
      have h := HR.out n (cl (q + 1) l m)
      rw [HX.out] at h ⊢
      exact h
end Go.Proofs.Ythmilceapnaepaa
