/-
  The anchor of layer 2's statements holds.
-/
import Derived.Test.YthbabncihlclpaaCrcA
import Derived.Test.YthbabncihlclpaaTy
import Derived.Test.YthbabncihlclpaaGrow
namespace Go.Proofs.Ythbabncihlclpaa
open Go.RowKit
set_option linter.unusedVariables false

def zs12 : List UInt8 := List.replicate 12 0
theorem length_zs12 : zs12.length = 12 := rfl
theorem make12 (w : World) : (Instr.makeSlice 22 (.int .i64 12) (.int .i64 12)).run Try.prog w = .ok (.slice (some ⟨w.heap.size, 0, none⟩) 12 12) (w.alloc (.cells (row8 zs12) 5)) := by
  obtain ⟨i, h8⟩ := Try.ty8
  exact run_make8 (P := Try.prog) h8.slice h8.info h8.zero h8.size h8.bytes .i64 .i64 12 12 (by omega) (by omega) w

theorem sum_has (n g : Nat) (ys : List UInt8) (w : World) (hl : ys.length = n) (hn : n ≤ 100) (h : Has w g ys) :
    Calls Try.prog 13 #[.slice (some ⟨g, 0, none⟩) n n] w fun e w' => e = .returned (rv (sum ys)) ∧ w = w' :=
  sum_any _ _ n n ys w (by unfold maxLen; omega) hl h.rd
theorem sum_12 (g : Nat) (w : World) (h : Has w g zs12) : Calls Try.prog 13 #[.slice (some ⟨g, 0, none⟩) 12 12] w fun e w' => e = .returned (rv (sum zs12)) ∧ w = w' := sum_has 12 g zs12 w rfl (by omega) h
theorem sum_4 (g : Nat) (w : World) (h : Has w g [49, 50, 51, 52]) : Calls Try.prog 13 #[.slice (some ⟨g, 0, none⟩) 4 4] w fun e w' => e = .returned (rv (sum [49, 50, 51, 52])) ∧ w = w' := sum_has 4 g _ w rfl (by omega) h
theorem refSum_12 (g : Nat) (w : World) (h : Has w g zs12) : Calls Try.prog 18 #[.slice (some ⟨g, 0, none⟩) 12 12] w fun e w' => e = .returned (rv (sum zs12)) ∧ w = w' := refSum_any _ _ 12 12 zs12 w (by unfold maxLen; omega) rfl h.rd
theorem ext_nine (g : Nat) (w : World) (h : Has w g [53, 54, 55, 56, 57]) :
    Calls Try.prog 11 #[rv (sum [49, 50, 51, 52]), .slice (some ⟨g, 0, none⟩) 5 5] w fun e w' => e = .returned (.int .u32 3808858755) ∧ w = w' := by
  have := ext_any _ _ 5 5 _ (sum [49, 50, 51, 52]) w (by unfold maxLen; omega) rfl h.rd
  rw [sum_nine] at this
  exact this
theorem sum_none (w : World) : Calls Try.prog 13 #[.slice none 0 0] w fun e w' => e = .returned (.int .u32 0) ∧ w = w' := by
  have := sum_any 0 none 0 0 [] w (by unfold maxLen; omega) rfl (Rd.nil _ _ _)
  rw [sum_nil] at this
  exact this

/-- What the operations of works leave. -/
def worksV (B : Nat) (i : Nat) (v : Value) (w : World) : Prop :=
  let row (n : Nat) (ys : List UInt8) : Prop := ∃ g, v = .slice (some ⟨g, 0, none⟩) n n ∧ B ≤ g ∧ Has w g ys
  match i with
  | 0 => row 12 zs12
  | 1 => v = rv (sum zs12)
  | 2 => row 12 zs12
  | 3 => v = rv (sum zs12)
  | 6 => row 4 [49, 50, 51, 52]
  | 7 => row 4 [49, 50, 51, 52]
  | 8 => v = rv (sum [49, 50, 51, 52])
  | 9 => row 5 [53, 54, 55, 56, 57]
  | 10 => row 5 [53, 54, 55, 56, 57]
  | 11 => v = .int .u32 3808858755
  | 15 => v = .int .u32 0
  | _ => v = .bool true
theorem worksV_grew (B i : Nat) (v : Value) (x y : World) (h : Grew B x y) (hv : worksV B i v x) : worksV B i v y := by
  unfold worksV at hv ⊢
  split at hv
  all_goals first
    | exact hv
    | (obtain ⟨g, h1, h2, h3⟩ := hv; exact ⟨g, h1, h2, h3.grew h⟩)

set_option maxHeartbeats 1000000 in
theorem works_any (w : World) :
    Calls Try.prog 9 #[] w fun e w' => e = .returned (.bool true) ∧ Below w.heap.size w w' := by
  have hmk := make12
  have hcv := fun (W : World) (g n c : Nat) => run_mark (P := Try.prog) Try.underlying22 Try.underlying5 W g n c
  go_enter Try.func9, Try.ntmps9
  go_wp2
  refine wp_region_grow (by kernel_rfl) (worksV w.heap.size) (Grew w.heap.size) (Grew.refl _) (Grew.drew _ _) (fun _ _ _ => Grew.trans) (worksV_grew _) (by kernel_rfl) ?_ ?_
  · refine ⟨?_, ?_, ?_, ?_, ?_, ?_, ?_, ?_, ?_, ?_, ?_, ?_, ?_, ?_, ?_, ?_, ?_, ?_, ?_, trivial⟩
    · intro listed a w1 hl hc
      refine does_value rfl rfl (.slice (some ⟨w1.heap.size, 0, none⟩) 12 12) (w1.alloc (.cells (row8 zs12) 5)) ?_ (Grew.alloc hc.g.below.size _) ⟨_, rfl, hc.g.below.size, Has.mk_ _ _ _ _ _ _ rfl rfl⟩
      clear hc hl
      go_simp
    · intro listed a w1 hl hc
      obtain ⟨g, h1, h2, h3⟩ := hc.dep hl 0 1 rfl (by kernel_rfl)
      refine does_call rfl rfl 13 #[.slice (some ⟨g, 0, none⟩) 12 12] ?_ ((sum_12 g w1 h3).mono fun e w' ⟨he, hw⟩ => ⟨_, he, hw ▸ Grew.refl _ _, rfl⟩)
      clear hc hl
      go_simp
    · intro listed a w1 hl hc
      refine does_value rfl rfl (.slice (some ⟨w1.heap.size, 0, none⟩) 12 12) (w1.alloc (.cells (row8 zs12) 5)) ?_ (Grew.alloc hc.g.below.size _) ⟨_, rfl, hc.g.below.size, Has.mk_ _ _ _ _ _ _ rfl rfl⟩
      clear hc hl
      go_simp
    · intro listed a w1 hl hc
      obtain ⟨g, h1, h2, h3⟩ := hc.dep hl 2 3 rfl (by kernel_rfl)
      refine does_call rfl rfl 18 #[.slice (some ⟨g, 0, none⟩) 12 12] ?_ ((refSum_12 g w1 h3).mono fun e w' ⟨he, hw⟩ => ⟨_, he, hw ▸ Grew.refl _ _, rfl⟩)
      clear hc hl
      go_simp
    · intro listed a w1 hl hc
      have h0 : _ = _ := hc.dep hl 1 2 rfl (by kernel_rfl)
      have h1 : _ = _ := hc.dep hl 3 4 rfl (by kernel_rfl)
      refine does_value rfl rfl (.bool true) w1 ?_ (Grew.refl _ _) rfl
      clear hc hl
      go_simp
    · intro listed a w1 hl hc
      have h0 : _ = _ := hc.dep hl 4 5 rfl (by kernel_rfl)
      refine does_value rfl rfl (.bool true) w1 ?_ (Grew.refl _ _) rfl
      clear hc hl
      go_simp
    · intro listed a w1 hl hc
      refine does_value rfl (wanted_at rfl rfl (hc.dep hl 5 6 rfl (by kernel_rfl))) (.slice (some ⟨w1.heap.size, 0, none⟩) 4 4) (w1.alloc (.cells #[.int .u8 49, .int .u8 50, .int .u8 51, .int .u8 52] 5)) ?_ (Grew.alloc hc.g.below.size _) ⟨_, rfl, hc.g.below.size, Has.mk_ _ _ _ _ _ _ rfl rfl⟩
      clear hc hl
      go_simp
    · intro listed a w1 hl hc
      obtain ⟨g, h1, h2, h3⟩ := hc.dep hl 6 7 rfl (by kernel_rfl)
      refine does_value rfl (wanted_at rfl rfl (hc.dep hl 5 6 rfl (by kernel_rfl))) (.slice (some ⟨g, 0, none⟩) 4 4) (marked w1 g) ?_ (Grew.marked h2) ⟨_, rfl, h2, h3.marked _⟩
      clear hc hl
      go_simp
    · intro listed a w1 hl hc
      obtain ⟨g, h1, h2, h3⟩ := hc.dep hl 7 8 rfl (by kernel_rfl)
      refine does_call rfl (wanted_at rfl rfl (hc.dep hl 5 6 rfl (by kernel_rfl))) 13 #[.slice (some ⟨g, 0, none⟩) 4 4] ?_ ((sum_4 g w1 h3).mono fun e w' ⟨he, hw⟩ => ⟨_, he, hw ▸ Grew.refl _ _, rfl⟩)
      clear hc hl
      go_simp
    · intro listed a w1 hl hc
      refine does_value rfl (wanted_at rfl rfl (hc.dep hl 5 6 rfl (by kernel_rfl))) (.slice (some ⟨w1.heap.size, 0, none⟩) 5 5) (w1.alloc (.cells #[.int .u8 53, .int .u8 54, .int .u8 55, .int .u8 56, .int .u8 57] 5)) ?_ (Grew.alloc hc.g.below.size _) ⟨_, rfl, hc.g.below.size, Has.mk_ _ _ _ _ _ _ rfl rfl⟩
      clear hc hl
      go_simp
    · intro listed a w1 hl hc
      obtain ⟨g, h1, h2, h3⟩ := hc.dep hl 9 10 rfl (by kernel_rfl)
      refine does_value rfl (wanted_at rfl rfl (hc.dep hl 5 6 rfl (by kernel_rfl))) (.slice (some ⟨g, 0, none⟩) 5 5) (marked w1 g) ?_ (Grew.marked h2) ⟨_, rfl, h2, h3.marked _⟩
      clear hc hl
      go_simp
    · intro listed a w1 hl hc
      have h0 : _ = _ := hc.dep hl 8 9 rfl (by kernel_rfl)
      obtain ⟨g, h1, h2, h3⟩ := hc.dep hl 10 11 rfl (by kernel_rfl)
      refine does_call rfl (wanted_at rfl rfl (hc.dep hl 5 6 rfl (by kernel_rfl))) 11 #[rv (sum [49, 50, 51, 52]), .slice (some ⟨g, 0, none⟩) 5 5] ?_ ((ext_nine g w1 h3).mono fun e w' ⟨he, hw⟩ => ⟨_, he, hw ▸ Grew.refl _ _, rfl⟩)
      clear hc hl
      go_simp
    · intro listed a w1 hl hc
      have h0 : _ = _ := hc.dep hl 11 12 rfl (by kernel_rfl)
      refine does_value rfl (wanted_at rfl rfl (hc.dep hl 5 6 rfl (by kernel_rfl))) (.bool true) w1 ?_ (Grew.refl _ _) rfl
      clear hc hl
      go_simp
    · intro listed a w1 hl hc
      have h0 : _ = _ := hc.dep hl 5 6 rfl (by kernel_rfl)
      have h1 : _ = _ := hc.dep hl 12 13 rfl (by kernel_rfl)
      refine does_value rfl rfl (.bool true) w1 ?_ (Grew.refl _ _) rfl
      clear hc hl
      go_simp
    · intro listed a w1 hl hc
      have h0 : _ = _ := hc.dep hl 13 14 rfl (by kernel_rfl)
      refine does_value rfl rfl (.bool true) w1 ?_ (Grew.refl _ _) rfl
      clear hc hl
      go_simp
    · intro listed a w1 hl hc
      refine does_call rfl (wanted_at rfl rfl (hc.dep hl 14 15 rfl (by kernel_rfl))) 13 #[.slice none 0 0] ?_ ((sum_none w1).mono fun e w' ⟨he, hw⟩ => ⟨_, he, hw ▸ Grew.refl _ _, rfl⟩)
      clear hc hl
      go_simp
    · intro listed a w1 hl hc
      have h0 : _ = _ := hc.dep hl 15 16 rfl (by kernel_rfl)
      refine does_value rfl (wanted_at rfl rfl (hc.dep hl 14 15 rfl (by kernel_rfl))) (.bool true) w1 ?_ (Grew.refl _ _) rfl
      clear hc hl
      go_simp
    · intro listed a w1 hl hc
      have h0 : _ = _ := hc.dep hl 14 15 rfl (by kernel_rfl)
      have h1 : _ = _ := hc.dep hl 16 17 rfl (by kernel_rfl)
      refine does_value rfl rfl (.bool true) w1 ?_ (Grew.refl _ _) rfl
      clear hc hl
      go_simp
    · intro listed a w1 hl hc
      have h0 : _ = _ := hc.dep hl 17 18 rfl (by kernel_rfl)
      refine does_value rfl rfl (.bool true) w1 ?_ (Grew.refl _ _) rfl
      clear hc hl
      go_simp
  · intro a w1 hc
    have h0 : _ = _ := hc.end_ 18 0 rfl
    have hd := hc.defers
    have hb := hc.g.below
    clear hc
    rename_i hK
    refine hK _ _ (wp_ret ?_)
    exact bodyPost_ret (v := .bool true) (by simp [results, Try.results9, go_sem, h0]) hd ⟨rfl, hb⟩
end Go.Proofs.Ythbabncihlclpaa
