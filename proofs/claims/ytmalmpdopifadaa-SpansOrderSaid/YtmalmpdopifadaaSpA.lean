/-
  Layer 4 (spans): contracts of the code: New, Base, Count, within, Has, Add, step.
-/
import Derived.Test.YtmalmpdopifadaaRows
import Derived.Test.YtmalmpdopifadaaSpM
import Derived.Test.YtmalmpdopifadaaSpSer
namespace Go.Proofs.Ytmalmpdopifadaa
open Go.RowKit
set_option linter.unusedVariables false

theorem zero_bool (w : World) : (zeroValue 4).run Try.prog w = .ok (.bool false) w := by kernel_rfl

/-- A set: its struct at block g, its map at block m. -/
structure SpSet (w : World) (g m : Nat) (B : Int) (f : Nat → Bool) : Prop where
  blk : Blk w g 54 #[.int .u32 B, .map (some m)]
  map : SetM Try.prog 22 4 w m B f
  win : Win f
  base : 0 ≤ B ∧ B < 4294967296
  ne : g ≠ m
section
variable {w w' : World} {g m : Nat} {B : Int} {f : Nat → Bool} {S : List Nat}
theorem SpSet.tw (h : SpSet w g m B f) (ht : Tw S w w') (hg : g ∉ S) (hm : m ∉ S) : SpSet w' g m B f := ⟨h.blk.tw ht hg, h.map.tw ht hm, h.win, h.base, h.ne⟩
theorem SpSet.below (h : SpSet w g m B f) (hb : Below w.heap.size w w') : SpSet w' g m B f := h.tw (Tw.of_below hb []) (by simp) (by simp)
theorem SpSet.drewN (h : SpSet w g m B f) (n : Nat) : SpSet (w.drewN n) g m B f := h.tw ((Tw.refl [] w).drewN n) (by simp) (by simp)
theorem SpSet.c0 (h : SpSet w g m B f) : w.cell? ⟨g, 0, none⟩ = some (.int .u32 B) := (h.blk.cell 0).trans rfl
theorem SpSet.c1 (h : SpSet w g m B f) : w.cell? ⟨g, 1, none⟩ = some (.map (some m)) := (h.blk.cell 1).trans rfl
theorem SpSet.fz (h : SpSet w g m B f) (i : Nat) : w.frozen? ⟨g, i, none⟩ = false := h.blk.frozen i
theorem SpSet.look (h : SpSet w g m B f) {x : Int} (hx : 0 ≤ x ∧ x < 4294967296) : (Instr.lookup 52 (.map (some m)) (.int .u32 x) false).run Try.prog w = .ok (.bool (f (dst B x))) w :=
  h.map.look Try.underlying22 Try.underlying4 Try.underlying52 zero_bool hx
theorem SpSet.len (h : SpSet w g m B f) (ty : TypeId) : (Builtin.len_ #[52] ty #[.map (some m)]).run Try.prog w = .ok (.int .i64 (cnt f 4096 : Nat)) w := h.map.len Try.underlying52 ty
end

theorem inW_of {B x : Int} (hx : 0 ≤ x ∧ x < 4294967296) (hB : 0 ≤ B ∧ B < 4294967296) : inn 4294967296 x B 4096 = inW (dst B x) := by
  unfold inn ahd inW dst
  rw [Bool.eq_iff_iff]
  simp only [Bool.and_eq_true, decide_eq_true_eq]
  omega

theorem new_any (B : Int) (w : World) (hB : 0 ≤ B ∧ B < 4294967296) :
    Calls Try.prog 11 #[.int .u32 B] w fun e w' => e = .returned (.pointer (some ⟨w.heap.size + 1, 0, none⟩)) ∧ SpSet w' (w.heap.size + 1) w.heap.size B noF ∧ Below w.heap.size w w' ∧ w'.heap.size = w.heap.size + 2 := by
  have hmm := @run_makeMap Try.prog
  go_enter Try.func11, Try.ntmps11
  go_wp2
  go_ret
  have h1 := SetM.new w Try.prog 22 4 B
  have h2 := Tw.alloc (w.alloc (.map #[] 0)) (.cells #[.int .u32 B, .map (some w.heap.size)] 54) []
  refine ⟨by simp, ⟨?_, h1.tw h2 (by simp), win_no, hB, by omega⟩, (below_new w _).trans ((below_new _ _).mono (by simp)), by simp⟩
  have := Blk.new (w.alloc (.map #[] 0)) 54 #[.int .u32 B, .map (some w.heap.size)]
  simpa using this

section
variable {g m : Nat} {B : Int} {f : Nat → Bool} {w : World}

theorem within_any (x : Int) (h : SpSet w g m B f) (hx : 0 ≤ x ∧ x < 4294967296) :
    Calls Try.prog 30 #[.pointer (some ⟨g, 0, none⟩), .int .u32 x] w fun e w' => e = .returned (.bool (inW (dst B x))) ∧ w = w' := by
  have c0 := h.c0
  have hB := h.base
  go_enter Try.func30, Try.ntmps30
  go_wp2_with fail
  refine (in_32 _ _ _ _ hx hB (by omega)).mono ?_
  rintro e w2 ⟨rfl, rfl⟩
  rw [inW_of hx hB]
  go_wp2
  go_ret
  exact ⟨rfl, rfl⟩
theorem within_nil (x : Int) (w : World) :
    Calls Try.prog 30 #[.pointer none, .int .u32 x] w fun e w' => e = .returned (.bool false) ∧ w = w' := by
  go_enter Try.func30, Try.ntmps30
  go_wp2
  go_ret
  exact ⟨rfl, rfl⟩

theorem base_any (h : SpSet w g m B f) :
    Calls Try.prog 23 #[.pointer (some ⟨g, 0, none⟩)] w fun e w' => e = .returned (.int .u32 B) ∧ w = w' := by
  have c0 := h.c0
  go_enter Try.func23, Try.ntmps23
  go_wp2
  go_ret
  exact ⟨rfl, rfl⟩
theorem base_nil (w : World) :
    Calls Try.prog 23 #[.pointer none] w fun e w' => e = .returned (.int .u32 0) ∧ w = w' := by
  go_enter Try.func23, Try.ntmps23
  go_wp2
  go_ret
  exact ⟨rfl, rfl⟩

theorem count_any (h : SpSet w g m B f) :
    Calls Try.prog 24 #[.pointer (some ⟨g, 0, none⟩)] w fun e w' => e = .returned (.int .i64 (cnt f 4096 : Nat)) ∧ w = w' := by
  have c1 := h.c1
  have hl := h.len
  go_enter Try.func24, Try.ntmps24
  go_wp2
  go_ret
  exact ⟨rfl, rfl⟩
theorem count_nil (w : World) :
    Calls Try.prog 24 #[.pointer none] w fun e w' => e = .returned (.int .i64 0) ∧ w = w' := by
  go_enter Try.func24, Try.ntmps24
  go_wp2
  go_ret
  exact ⟨rfl, rfl⟩

theorem has_any (x : Int) (h : SpSet w g m B f) (hx : 0 ≤ x ∧ x < 4294967296) :
    Calls Try.prog 14 #[.pointer (some ⟨g, 0, none⟩), .int .u32 x] w fun e w' => e = .returned (.bool (f (dst B x))) ∧ w = w' := by
  have c1 := h.c1
  have hl := h.look hx
  go_enter Try.func14, Try.ntmps14
  go_wp2
  go_ret
  exact ⟨rfl, rfl⟩
theorem has_nil (x : Int) (w : World) :
    Calls Try.prog 14 #[.pointer none, .int .u32 x] w fun e w' => e = .returned (.bool false) ∧ w = w' := by
  go_enter Try.func14, Try.ntmps14
  go_wp2
  go_ret
  exact ⟨rfl, rfl⟩

/-- Whether a number that far beyond may come in. -/
def addOk (f : Nat → Bool) (d : Nat) : Bool := inW d && !f d

theorem add_any (x : Int) (h : SpSet w g m B f) (hx : 0 ≤ x ∧ x < 4294967296) :
    Calls Try.prog 12 #[.pointer (some ⟨g, 0, none⟩), .int .u32 x] w fun e w' => e = .returned (.bool (addOk f (dst B x))) ∧ SpSet w' g m B (addF f (dst B x)) ∧ Tw [m] w w' := by
  have c1 := h.c1
  have hl := h.look hx
  by_cases h1 : inW (dst B x) = true
  · by_cases h2 : f (dst B x) = true
    · have hok : addOk f (dst B x) = false := by simp [addOk, h2]
      have hs : addF f (dst B x) = f := add_same (.inl h2)
      rw [h2] at hl
      have H1 := Lib.hid h1
      have H2 := Lib.hid hok
      have H3 := Lib.hid hs
      clear h1 h2 hok hs
      go_enter Try.func12, Try.ntmps12
      go_wp2_with fail
      refine (within_any _ h hx).mono ?_
      rintro e w2 ⟨rfl, rfl⟩
      rw [H1.out]
      go_wp2
      go_ret
      exact ⟨ret_bool H2.out.symm, by rw [H3.out]; exact h, Tw.refl _ _⟩
    · have h2 : f (dst B x) = false := by simpa using h2
      have hok : addOk f (dst B x) = true := by simp [addOk, h1, h2]
      obtain ⟨w', hrun, hset, hturn⟩ := h.map.store Try.underlying22 Try.underlying4 Try.underlying52 hx h2 h1
      rw [h2] at hl
      have H1 := Lib.hid h1
      have H2 := Lib.hid hok
      clear h1 h2 hok
      go_enter Try.func12, Try.ntmps12
      go_wp2_with fail
      refine (within_any _ h hx).mono ?_
      rintro e w2 ⟨rfl, rfl⟩
      rw [H1.out]
      go_wp2
      go_ret
      have ht : Tw [m] w w' := Tw.of_grown hturn.grown (by simp)
      exact ⟨ret_bool H2.out.symm, ⟨h.blk.tw ht (by simp [h.ne]), hset, win_add h.win _, h.base, h.ne⟩, ht⟩
  · have h1 : inW (dst B x) = false := by simpa using h1
    have hok : addOk f (dst B x) = false := by simp [addOk, h1]
    have hs : addF f (dst B x) = f := add_same (.inr h1)
    have H1 := Lib.hid h1
    have H2 := Lib.hid hok
    have H3 := Lib.hid hs
    clear h1 hok hs
    go_enter Try.func12, Try.ntmps12
    go_wp2_with fail
    refine (within_any _ h hx).mono ?_
    rintro e w2 ⟨rfl, rfl⟩
    rw [H1.out]
    go_wp2
    go_ret
    exact ⟨ret_bool H2.out.symm, by rw [H3.out]; exact h, Tw.refl _ _⟩
theorem add_nil (x : Int) (w : World) :
    Calls Try.prog 12 #[.pointer none, .int .u32 x] w fun e w' => e = .returned (.bool false) ∧ w = w' := by
  go_enter Try.func12, Try.ntmps12
  go_wp2_with fail
  refine (within_nil _ _).mono ?_
  rintro e w2 ⟨rfl, rfl⟩
  go_wp2
  go_ret
  exact ⟨rfl, rfl⟩
end
end Go.Proofs.Ytmalmpdopifadaa
