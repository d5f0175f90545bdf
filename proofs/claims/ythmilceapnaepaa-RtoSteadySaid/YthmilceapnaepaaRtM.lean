/-
  Package rto, plain: an estimator's state, what a sample makes of it, what waiting longer does, and what is always so.
-/
import Derived.Test.YthmilceapnaepaaSpM
namespace Go.Proofs.Ythmilceapnaepaa
open Go.RowKit
set_option linter.unusedVariables false

/-- x, brought to its bounds. -/
def cl (x l m : Int) : Int := min (max x l) m
/-- An estimator: its value, the bounds, whether there was a sample, S and V. -/
structure Re where
  x : Int
  l : Int
  m : Int
  any : Bool
  s : Int
  v : Int
/-- How far a time is from the smoothed one. -/
def off (s t : Int) : Int := max (s / 8 - t) (-(s / 8 - t))
/-- A time taken in. -/
def Re.take (r : Re) (t : Int) : Re :=
  if r.any then { r with s := r.s - r.s / 8 + t, v := r.v - r.v / 4 + off r.s t } else { r with any := true, s := 8 * t, v := 2 * t }
/-- What the value becomes. -/
def Re.want (r : Re) : Int := r.s / 8 + max 1 r.v
def Re.set (r : Re) : Re := { r with x := cl r.want r.l r.m }
/-- A sample of t, which is not negative. -/
def Re.smp (r : Re) (t : Int) : Re := (r.take (min t 1048576)).set
def Re.back (r : Re) : Re := { r with x := cl (2 * r.x) r.l r.m }
def new (first least most : Int) : Re := ⟨first, least, most, false, 0, 0⟩

/-- What is always so. -/
structure Re.Ok (r : Re) : Prop where
  l1 : 1 ≤ r.l
  lm : r.l ≤ r.m
  mm : r.m ≤ 1048576
  lx : r.l ≤ r.x
  xm : r.x ≤ r.m
  s0 : 0 ≤ r.s
  s1 : r.s ≤ 8388608
  v0 : 0 ≤ r.v
  v1 : r.v ≤ 4194307

theorem cl_ge {x l m : Int} (h : l ≤ m) : l ≤ cl x l m := by unfold cl; omega
theorem cl_le {x l m : Int} : cl x l m ≤ m := by unfold cl; omega
theorem new_ok {f l m : Int} (h1 : 1 ≤ l) (h2 : l ≤ f) (h3 : f ≤ m) (h4 : m ≤ 1048576) : (new f l m).Ok :=
  ⟨h1, by show l ≤ m; omega, h4, h2, h3, Int.le_refl _, by show (0 : Int) ≤ _; omega, Int.le_refl _, by show (0 : Int) ≤ _; omega⟩
section
variable {r : Re} {t : Int}
theorem Re.Ok.take (h : r.Ok) (h0 : 0 ≤ t) (h1 : t ≤ 1048576) : (r.take t).Ok := by
  obtain ⟨a1, a2, a3, a4, a5, a6, a7, a8, a9⟩ := h
  unfold Re.take
  cases r.any
  · exact ⟨a1, a2, a3, a4, a5, by simp; omega, by simp; omega, by simp; omega, by simp; omega⟩
  · exact ⟨a1, a2, a3, a4, a5, by simp; omega, by simp; omega, by simp [off]; omega, by simp [off]; omega⟩
theorem Re.Ok.set (h : r.Ok) : r.set.Ok := by
  obtain ⟨a1, a2, a3, a4, a5, a6, a7, a8, a9⟩ := h
  exact ⟨a1, a2, a3, cl_ge a2, cl_le, a6, a7, a8, a9⟩
theorem Re.Ok.smp (h : r.Ok) (h0 : 0 ≤ t) : (r.smp t).Ok := (h.take (by omega) (by omega)).set
theorem Re.Ok.back (h : r.Ok) : r.back.Ok := by
  obtain ⟨a1, a2, a3, a4, a5, a6, a7, a8, a9⟩ := h
  exact ⟨a1, a2, a3, cl_ge a2, cl_le, a6, a7, a8, a9⟩
theorem take_l : (r.take t).l = r.l := by unfold Re.take; cases r.any <;> rfl
theorem take_m : (r.take t).m = r.m := by unfold Re.take; cases r.any <;> rfl
theorem take_any : (r.take t).any = true := by
  unfold Re.take
  by_cases h : r.any = true
  · rw [if_pos h]; exact h
  · rw [if_neg h]
theorem smp_l : (r.smp t).l = r.l := take_l
theorem smp_m : (r.smp t).m = r.m := take_m
theorem smp_any : (r.smp t).any = true := take_any
theorem back_l : r.back.l = r.l := rfl
theorem back_m : r.back.m = r.m := rfl
theorem back_any : r.back.any = r.any := rfl
theorem back_s : r.back.s = r.s := rfl
theorem back_v : r.back.v = r.v := rfl
/-- Waiting longer: not less, twice at most, twice or the most. -/
theorem back_x (h : r.Ok) : r.x ≤ r.back.x ∧ r.back.x ≤ 2 * r.x ∧ (r.back.x = 2 * r.x ∨ r.back.x = r.m) := by
  obtain ⟨a1, a2, a3, a4, a5, a6, a7, a8, a9⟩ := h
  show r.x ≤ cl _ _ _ ∧ cl _ _ _ ≤ _ ∧ (cl _ _ _ = _ ∨ cl _ _ _ = _)
  unfold cl
  omega
/-- As the reference has it: no word on the least. -/
theorem back_ref (h : r.Ok) : min (2 * r.x) r.m = cl (2 * r.x) r.l r.m := by
  obtain ⟨a1, a2, a3, a4, a5, a6, a7, a8, a9⟩ := h
  unfold cl
  omega
/-- The value is not below the smoothed time, or it is the most. -/
theorem smp_x (h : r.Ok) (h0 : 0 ≤ t) : min ((r.smp t).s / 8) r.m ≤ (r.smp t).x := by
  have h2 := h.take (t := min t 1048576) (by omega) (by omega)
  show min (((r.take (min t 1048576))).s / 8) r.m ≤ cl (r.take (min t 1048576)).want (r.take (min t 1048576)).l (r.take (min t 1048576)).m
  rw [take_l, take_m]
  unfold Re.want cl
  have := h2.v0
  have := h.lm
  omega
end
end Go.Proofs.Ythmilceapnaepaa
