/-
  Package rto: the laws' works().
-/
import Derived.Test.YthmilceapnaepaaRtC
namespace Go.Proofs.Ythmilceapnaepaa
open Go.RowKit
set_option linter.unusedVariables false

theorem codeValueN (r : Re) (n : Int) (hn : r.x = n) (g : Nat) (w : World) (K : Blk w g 44 #[.int .i64 r.x, .int .i64 r.l, .int .i64 r.m, .bool r.any, .int .i64 r.s, .int .i64 r.v]) : Calls Try.prog 18 #[.pointer (some ⟨g, 0, none⟩)] w fun e w' => e = .returned (.int .i64 n) ∧ w' = w := by
  rw [← hn]
  exact codeValue r g w K
theorem codeSmoothN (r : Re) (n : Int) (hs : 0 ≤ r.s) (h1 : r.s ≤ 8388608) (ha : r.any = true) (hn : r.s / 8 = n) (g : Nat) (w : World) (K : Blk w g 44 #[.int .i64 r.x, .int .i64 r.l, .int .i64 r.m, .bool r.any, .int .i64 r.s, .int .i64 r.v]) : Calls Try.prog 16 #[.pointer (some ⟨g, 0, none⟩)] w fun e w' => e = .returned (.tuple #[.int .i64 n, .bool true]) ∧ w' = w := by
  have h := codeSmooth r g w hs h1 K
  rw [ha, if_pos rfl, hn] at h
  exact h
theorem codeSmooth0 (r : Re) (hs : 0 ≤ r.s) (h1 : r.s ≤ 8388608) (ha : r.any = false) (g : Nat) (w : World) (K : Blk w g 44 #[.int .i64 r.x, .int .i64 r.l, .int .i64 r.m, .bool r.any, .int .i64 r.s, .int .i64 r.v]) : Calls Try.prog 16 #[.pointer (some ⟨g, 0, none⟩)] w fun e w' => e = .returned (.tuple #[.int .i64 0, .bool false]) ∧ w' = w := by
  have h := codeSmooth r g w hs h1 K
  rw [ha, if_neg (by decide)] at h
  exact h
theorem refValueN (r : Re) (n : Int) (hn : r.x = n) (g : Nat) (w : World) (K : Blk w g 46 #[.int .i64 r.x, .int .i64 r.l, .int .i64 r.m, .bool r.any, .int .i64 r.s, .int .i64 r.v]) : Calls Try.prog 19 #[.pointer (some ⟨g, 0, none⟩)] w fun e w' => e = .returned (.int .i64 n) ∧ w' = w := by
  rw [← hn]
  exact refValue r g w K
theorem refSmoothN (r : Re) (n : Int) (hs : 0 ≤ r.s) (h1 : r.s ≤ 8388608) (ha : r.any = true) (hn : r.s / 8 = n) (g : Nat) (w : World) (K : Blk w g 46 #[.int .i64 r.x, .int .i64 r.l, .int .i64 r.m, .bool r.any, .int .i64 r.s, .int .i64 r.v]) : Calls Try.prog 17 #[.pointer (some ⟨g, 0, none⟩)] w fun e w' => e = .returned (.tuple #[.int .i64 n, .bool true]) ∧ w' = w := by
  have h := refSmooth r g w hs h1 K
  rw [ha, if_pos rfl, hn] at h
  exact h
theorem refSmooth0 (r : Re) (hs : 0 ≤ r.s) (h1 : r.s ≤ 8388608) (ha : r.any = false) (g : Nat) (w : World) (K : Blk w g 46 #[.int .i64 r.x, .int .i64 r.l, .int .i64 r.m, .bool r.any, .int .i64 r.s, .int .i64 r.v]) : Calls Try.prog 17 #[.pointer (some ⟨g, 0, none⟩)] w fun e w' => e = .returned (.tuple #[.int .i64 0, .bool false]) ∧ w' = w := by
  have h := refSmooth r g w hs h1 K
  rw [ha, if_neg (by decide)] at h
  exact h
def rw0 : Re := (new 3 1 60)
def rw1 : Re := (rw0.smp 8)
def rw2 : Re := (rw1.smp 8)
def rw3 : Re := (rw2.smp 0)
def rw4 : Re := rw3.back
theorem rw0_ok : rw0.Ok := new_ok (by decide) (by decide) (by decide) (by decide)
theorem rw1_ok : rw1.Ok := rw0_ok.smp (by decide)
theorem rw2_ok : rw2.Ok := rw1_ok.smp (by decide)
theorem rw3_ok : rw3.Ok := rw2_ok.smp (by decide)
theorem rw4_ok : rw4.Ok := rw3_ok.back
theorem rw0_x : rw0.x = 3 := by decide +kernel
theorem rw1_x : rw1.x = 24 := by decide +kernel
theorem rw2_x : rw2.x = 20 := by decide +kernel
theorem rw3_x : rw3.x = 24 := by decide +kernel
theorem rw4_x : rw4.x = 48 := by decide +kernel
theorem rw4_s : rw4.s / 8 = 7 := by decide +kernel
theorem rw4_any : rw4.any = true := by decide +kernel
set_option maxRecDepth 100000 in
set_option maxHeartbeats 4000000 in
theorem works_any (w : World) : Calls Try.prog 9 #[] w fun e w' => e = .returned (.bool true) ∧ Below w.heap.size w w' := by
  go_enter Try.func9, Try.ntmps9
  go_wp2_with fail
  refine (codeNew 3 1 60 w ⟨by decide, by decide, by decide, by decide⟩).mono ?_
  rintro e w1 ⟨rfl, K1, B1⟩
  obtain ⟨g, hg⟩ : ∃ g, g = w.heap.size := ⟨_, rfl⟩
  rw [← hg] at K1 ⊢
  have HS : Hid (∀ k ∈ [g], w.heap.size ≤ k) := Lib.hid (by simp; omega)
  have HB := Lib.hid B1
  have K0 : Hid (Blk w1 g 44 #[.int .i64 rw0.x, .int .i64 rw0.l, .int .i64 rw0.m, .bool rw0.any, .int .i64 rw0.s, .int .i64 rw0.v]) := Lib.hid K1
  clear hg K1 B1
  go_wp2_with fail
  refine (codeValueN rw0 3 rw0_x g w1 K0.out).mono ?_
  rintro e wz ⟨rfl, rfl⟩
  go_wp2_with fail
  refine (codeSample rw0 8 g wz rw0_ok (by decide) K0.out).mono ?_
  rintro e v0 ⟨rfl, k2, t2⟩
  have HB := Lib.hid (tw_below HB.out t2 HS.out (Nat.le_refl _))
  have K0 : Hid (Blk v0 g 44 #[.int .i64 rw1.x, .int .i64 rw1.l, .int .i64 rw1.m, .bool rw1.any, .int .i64 rw1.s, .int .i64 rw1.v]) := Lib.hid k2
  clear k2 t2
  go_wp2_with fail
  refine (codeValueN rw1 24 rw1_x g v0 K0.out).mono ?_
  rintro e wz ⟨rfl, rfl⟩
  go_wp2_with fail
  refine (codeSample rw1 8 g wz rw1_ok (by decide) K0.out).mono ?_
  rintro e v1 ⟨rfl, k2, t2⟩
  have HB := Lib.hid (tw_below HB.out t2 HS.out (Nat.le_refl _))
  have K0 : Hid (Blk v1 g 44 #[.int .i64 rw2.x, .int .i64 rw2.l, .int .i64 rw2.m, .bool rw2.any, .int .i64 rw2.s, .int .i64 rw2.v]) := Lib.hid k2
  clear k2 t2
  go_wp2_with fail
  refine (codeValueN rw2 20 rw2_x g v1 K0.out).mono ?_
  rintro e wz ⟨rfl, rfl⟩
  go_wp2_with fail
  refine (codeSample rw2 0 g wz rw2_ok (by decide) K0.out).mono ?_
  rintro e v2 ⟨rfl, k2, t2⟩
  have HB := Lib.hid (tw_below HB.out t2 HS.out (Nat.le_refl _))
  have K0 : Hid (Blk v2 g 44 #[.int .i64 rw3.x, .int .i64 rw3.l, .int .i64 rw3.m, .bool rw3.any, .int .i64 rw3.s, .int .i64 rw3.v]) := Lib.hid k2
  clear k2 t2
  go_wp2_with fail
  refine (codeValueN rw3 24 rw3_x g v2 K0.out).mono ?_
  rintro e wz ⟨rfl, rfl⟩
  go_wp2_with fail
  refine (codeBack rw3 g wz rw3_ok K0.out).mono ?_
  rintro e v4 ⟨rfl, k2, t2⟩
  have HB := Lib.hid (tw_below HB.out t2 HS.out (Nat.le_refl _))
  have K0 : Hid (Blk v4 g 44 #[.int .i64 rw4.x, .int .i64 rw4.l, .int .i64 rw4.m, .bool rw4.any, .int .i64 rw4.s, .int .i64 rw4.v]) := Lib.hid k2
  clear k2 t2
  go_wp2_with fail
  refine (codeSmoothN rw4 7 rw4_ok.s0 rw4_ok.s1 rw4_any rw4_s g v4 K0.out).mono ?_
  rintro e wz ⟨rfl, rfl⟩
  go_wp2_with fail
  refine (codeValueN rw4 48 rw4_x g wz K0.out).mono ?_
  rintro e wz ⟨rfl, rfl⟩
  go_wp2_with fail
  refine (codeSample_neg (-1) g wz (by decide)).mono ?_
  rintro e wz ⟨rfl, rfl⟩
  go_wp2_with fail
  go_ret
  exact ⟨rfl, HB.out⟩
end Go.Proofs.Ythmilceapnaepaa
