/-
  Layer 5 (ring): contracts of the code, at api.Skip: At.
-/
import Derived.Test.YtlfebfgdgjaidaaRgP
import Derived.Deep.RegionWith
namespace Go.Proofs.Ytlfebfgdgjaidaa
open Go.RowKit
set_option linter.unusedVariables false

theorem zero_skip (w : World) : (zeroValue 58).run Try.prog w = .ok (.agg #[.int .u16 0, .int .u16 0]) w := by kernel_rfl

section
variable {w w' : World} {g c : Nat} {A : Option Addr} {m most n f l : Nat} {ys q : List (Int × Int)}
set_option maxHeartbeats 800000 in
theorem atP_no (i : Int) (h : RingP w g c A m most n f ys q l) (hi : i < 0 ∨ (l : Int) ≤ i) :
    Calls Try.prog 29 #[.pointer (some ⟨g, 0, none⟩), .int .i64 i] w fun e w' => e = .returned (.tuple #[.agg #[.int .u16 0, .int .u16 0], .bool false]) ∧ Below w.heap.size w w' := by
  have hz := zero_skip
  rcases (show i < 0 ∨ (0 ≤ i ∧ (l : Int) ≤ i) by omega) with hi | ⟨hi0, hi⟩
  · go_enter Try.func29, Try.ntmps29
    go_wp2_with fail
    refine bodyPost_ret (v := .tuple #[.agg #[.int .u16 0, .int .u16 0], .bool false]) ?_ rfl ⟨rfl, below_new w _⟩
    simp [results, Try.results29, go_sem]
  · have hd0 : decide (i < 0) = false := decide_eq_false (by omega)
    have hd1 : decide ((l : Int) ≤ i) = true := decide_eq_true (by omega)
    have hr := h.below (below_new w (.cells #[.int .u16 0, .int .u16 0] 58))
    go_enter Try.func29, Try.ntmps29
    go_wp2_with fail
    refine (lenP_any hr).mono ?_
    rintro e w1 ⟨rfl, rfl⟩
    go_wp2_with fail
    refine bodyPost_ret (v := .tuple #[.agg #[.int .u16 0, .int .u16 0], .bool false]) ?_ rfl ⟨rfl, below_new w _⟩
    simp [results, Try.results29, go_sem]

set_option maxHeartbeats 1600000 in
theorem atP_any (i : Nat) (h : RingP w g c A m most n f ys q q.length) (hi : i < q.length) :
    Calls Try.prog 29 #[.pointer (some ⟨g, 0, none⟩), .int .i64 (i : Nat)] w fun e w' => e = .returned (.tuple #[.agg #[.int .u16 q[i].1, .int .u16 q[i].2], .bool true]) ∧ Below w.heap.size w w' := by
  have hz := zero_skip
  have hql := h.ql
  have hn : 0 < n := by omega
  have hfit := h.fit
  have hmost := h.most.2
  obtain ⟨hA, hb⟩ := h.some_ hn
  have hat := h.lay.at_ hi
  rw [h.len] at hat
  have hlt : (f + i) % n < n := Nat.mod_lt _ hn
  obtain ⟨p, hp⟩ : ∃ p, p = (f + i) % n := ⟨_, rfl⟩
  subst hA
  obtain ⟨a, ha⟩ : ∃ a, a = q[i].1 := ⟨_, rfl⟩
  obtain ⟨b, hb'⟩ : ∃ b, b = q[i].2 := ⟨_, rfl⟩
  have hr := h.below (below_new w (.cells #[.int .u16 0, .int .u16 0] 58))
  have hz0 := Blk.new w 58 #[.int .u16 0, .int .u16 0]
  have hbel := below_new w (.cells #[.int .u16 0, .int .u16 0] 58)
  have hgl := h.lt
  have hd0 : decide ((i : Int) < 0) = false := decide_eq_false (by omega)
  have hd1 : decide ((q.length : Int) ≤ (i : Int)) = false := decide_eq_false (by omega)
  rw [← ha, ← hb']
  go_enter Try.func29, Try.ntmps29
  go_wp2_with fail
  obtain ⟨X, hX⟩ : ∃ X, X = w.heap.size := ⟨_, rfl⟩
  rw [← hX] at hz0 hgl ⊢
  have HX := Lib.hid hX
  have hmX : m ≠ X := by omega
  have hXm : X ≠ m := by omega
  clear hX
  generalize w.alloc (.cells #[.int .u16 0, .int .u16 0] 58) = w0 at hr hz0 hbel ⊢
  refine (lenP_any hr).mono ?_
  rintro e w1 ⟨rfl, rfl⟩
  have hpl := placeP_any i hr.dr (by omega) hn
  rw [← hp] at hpl hlt hat
  have hltI : (p : Int) < (n : Int) := by omega
  have HPL := Lib.hid hpl
  have hb0 := (hr.some_ hn).2
  have hx0 : w0.cell? ⟨m, p * 2, none⟩ = some (.int .u16 a) := by rw [hb0.cell, get_rowP0, hat, ha]; rfl
  have hx1 : w0.cell? ⟨m, p * 2 + 1, none⟩ = some (.int .u16 b) := by rw [hb0.cell, get_rowP1, hat, hb']; rfl
  have c1 := hr.c1
  have z0 : w0.cell? ⟨X, 0, none⟩ = some (.int .u16 0) := (hz0.cell 0).trans rfl
  have z1 : w0.cell? ⟨X, 1, none⟩ = some (.int .u16 0) := (hz0.cell 1).trans rfl
  have y0 := hz0.frozen 0
  have y1 := hz0.frozen 1
  have HB := Lib.hid fun d => ((below_drewN hbel d).setCell (p := ⟨X, 0, none⟩) (by rw [HX.out]; exact Nat.le_refl _) (.int .u16 a)).setCell (p := ⟨X, 1, none⟩) (by rw [HX.out]; exact Nat.le_refl _) (.int .u16 b)
  clear hp hpl hat ha hb' hb hb0 hz0 h
  go_wp2_with fail
  go_region_with ((go_at_call 47; refine HPL.out.mono ?_; rintro e w3 ⟨rfl, k, rfl⟩))
  all_goals
    go_wp2_with fail
    refine bodyPost_ret (v := .tuple #[.agg #[.int .u16 a, .int .u16 b], .bool true]) ?_ rfl ⟨rfl, HB.out _⟩
    simp [results, Try.results29, go_sem, z0, z1]
end
end Go.Proofs.Ytlfebfgdgjaidaa
