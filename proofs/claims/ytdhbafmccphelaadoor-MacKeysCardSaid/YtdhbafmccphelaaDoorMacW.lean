/-
  Layer 7: the laws' works().
-/
import Derived.Test.YtdhbafmccphelaaDoorMacT
import Derived.Test.YtdhbafmccphelaaDoorMacS
import Derived.Test.YtdhbafmccphelaaDoorMark
namespace Go.Proofs.YtdhbafmccphelaaDoor
open Go.RowKit
set_option linter.unusedVariables false
set_option maxRecDepth 100000

theorem same_11 (g g' : Nat) (w : World) (h : Has w g [1]) (h' : Has w g' [1]) :
    Calls Tryd.prog 15 #[.slice (some ⟨g, 0, none⟩) 1 1, .slice (some ⟨g', 0, none⟩) 1 1] w fun e w' => e = .returned (.bool true) ∧ w = w' :=
  same_any _ _ _ _ 1 1 1 1 [1] [1] w rfl rfl (by unfold maxLen; omega) (by unfold maxLen; omega) h.rd h'.rd
theorem same_1n (g : Nat) (w : World) (h : Has w g [1]) :
    Calls Tryd.prog 15 #[.slice (some ⟨g, 0, none⟩) 1 1, .slice none 0 0] w fun e w' => e = .returned (.bool false) ∧ w = w' :=
  same_any _ 0 _ _ 1 0 1 0 [1] [] w rfl rfl (by unfold maxLen; omega) (by unfold maxLen; omega) h.rd (Rd.nil _ _ _)

set_option maxHeartbeats 1000000 in
theorem works_any (w : World) (hT : Tabs w) :
    Calls Tryd.prog 8 #[] w fun e w' => e = .returned (.bool true) ∧ Below w.heap.size w w' := by
  have h2 := hT.2.2
  have hcv := fun (W : World) (g n c : Nat) => run_mark (P := Tryd.prog) Tryd.underlying22 Tryd.underlying5 W g n c
  obtain ⟨S, hS⟩ : ∃ S, S = mac [74, 101, 102, 101] [119, 104, 97, 116, 32, 100, 111, 32, 121, 97, 32, 119, 97, 110, 116, 32, 102, 111, 114, 32, 110, 111, 116, 104, 105, 110, 103, 63] := ⟨_, rfl⟩
  have HS := Lib.hid hS
  have hsz : (row8 S).size = 32 := by rw [size_row8, hS, length_mac]
  have i0 : (row8 S)[0]'(by rw [hsz]; decide) = .int .u8 91 := by
    have h : (row8 S)[0]? = some (.int .u8 91) := by rw [hS, get_row8, jefe0]; rfl
    exact (Array.getElem?_eq_some_iff.1 h).2
  have i1 : (row8 S)[1]'(by rw [hsz]; decide) = .int .u8 220 := by
    have h : (row8 S)[1]? = some (.int .u8 220) := by rw [hS, get_row8, jefe1]; rfl
    exact (Array.getElem?_eq_some_iff.1 h).2
  have i31 : (row8 S)[31]'(by rw [hsz]; decide) = .int .u8 67 := by
    have h : (row8 S)[31]? = some (.int .u8 67) := by rw [hS, get_row8, jefe31]; rfl
    exact (Array.getElem?_eq_some_iff.1 h).2
  have hst := fun W : World => run_storeCells_new (P := Tryd.prog) W 25 #[.int .u8 0, .int .u8 0, .int .u8 0, .int .u8 0, .int .u8 0, .int .u8 0, .int .u8 0, .int .u8 0, .int .u8 0, .int .u8 0, .int .u8 0, .int .u8 0, .int .u8 0, .int .u8 0, .int .u8 0, .int .u8 0, .int .u8 0, .int .u8 0, .int .u8 0, .int .u8 0, .int .u8 0, .int .u8 0, .int .u8 0, .int .u8 0, .int .u8 0, .int .u8 0, .int .u8 0, .int .u8 0, .int .u8 0, .int .u8 0, .int .u8 0, .int .u8 0] (row8 S) ((show (Tryd.prog.info? 25).map (·.size) = some 32 by kernel_rfl).trans (by rw [hsz])) (by rw [hsz]; rfl) (row8_one _)
  have z1 : (marked (w.alloc (.cells #[.int .u8 74, .int .u8 101, .int .u8 102, .int .u8 101] 5)) w.heap.size).heap.size = w.heap.size + 1 := by rw [size_marked]; simp
  have a1 : Has (marked (w.alloc (.cells #[.int .u8 74, .int .u8 101, .int .u8 102, .int .u8 101] 5)) w.heap.size) w.heap.size [74, 101, 102, 101] := Has.marked (Has.mk_ _ _ _ _ _ _ rfl rfl) _
  have B1 : Below w.heap.size w (marked (w.alloc (.cells #[.int .u8 74, .int .u8 101, .int .u8 102, .int .u8 101] 5)) w.heap.size) := below_marked (below_new _ _) _ (Nat.le_refl _)
  have z2 : (marked ((marked (w.alloc (.cells #[.int .u8 74, .int .u8 101, .int .u8 102, .int .u8 101] 5)) w.heap.size).alloc (.cells #[.int .u8 119, .int .u8 104, .int .u8 97, .int .u8 116, .int .u8 32, .int .u8 100, .int .u8 111, .int .u8 32, .int .u8 121, .int .u8 97, .int .u8 32, .int .u8 119, .int .u8 97, .int .u8 110, .int .u8 116, .int .u8 32, .int .u8 102, .int .u8 111, .int .u8 114, .int .u8 32, .int .u8 110, .int .u8 111, .int .u8 116, .int .u8 104, .int .u8 105, .int .u8 110, .int .u8 103, .int .u8 63] 5)) (w.heap.size + 1)).heap.size = w.heap.size + 1 + 1 := by rw [size_marked, World.size_alloc, z1]
  have a2 : Has (marked ((marked (w.alloc (.cells #[.int .u8 74, .int .u8 101, .int .u8 102, .int .u8 101] 5)) w.heap.size).alloc (.cells #[.int .u8 119, .int .u8 104, .int .u8 97, .int .u8 116, .int .u8 32, .int .u8 100, .int .u8 111, .int .u8 32, .int .u8 121, .int .u8 97, .int .u8 32, .int .u8 119, .int .u8 97, .int .u8 110, .int .u8 116, .int .u8 32, .int .u8 102, .int .u8 111, .int .u8 114, .int .u8 32, .int .u8 110, .int .u8 111, .int .u8 116, .int .u8 104, .int .u8 105, .int .u8 110, .int .u8 103, .int .u8 63] 5)) (w.heap.size + 1)) w.heap.size [74, 101, 102, 101] := Has.marked (a1.alloc _) _
  have t2 : Has (marked ((marked (w.alloc (.cells #[.int .u8 74, .int .u8 101, .int .u8 102, .int .u8 101] 5)) w.heap.size).alloc (.cells #[.int .u8 119, .int .u8 104, .int .u8 97, .int .u8 116, .int .u8 32, .int .u8 100, .int .u8 111, .int .u8 32, .int .u8 121, .int .u8 97, .int .u8 32, .int .u8 119, .int .u8 97, .int .u8 110, .int .u8 116, .int .u8 32, .int .u8 102, .int .u8 111, .int .u8 114, .int .u8 32, .int .u8 110, .int .u8 111, .int .u8 116, .int .u8 104, .int .u8 105, .int .u8 110, .int .u8 103, .int .u8 63] 5)) (w.heap.size + 1)) (w.heap.size + 1) [119, 104, 97, 116, 32, 100, 111, 32, 121, 97, 32, 119, 97, 110, 116, 32, 102, 111, 114, 32, 110, 111, 116, 104, 105, 110, 103, 63] := Has.marked (Has.mk_ _ _ _ _ _ _ z1.symm rfl) _
  have B2 : Below w.heap.size w (marked ((marked (w.alloc (.cells #[.int .u8 74, .int .u8 101, .int .u8 102, .int .u8 101] 5)) w.heap.size).alloc (.cells #[.int .u8 119, .int .u8 104, .int .u8 97, .int .u8 116, .int .u8 32, .int .u8 100, .int .u8 111, .int .u8 32, .int .u8 121, .int .u8 97, .int .u8 32, .int .u8 119, .int .u8 97, .int .u8 110, .int .u8 116, .int .u8 32, .int .u8 102, .int .u8 111, .int .u8 114, .int .u8 32, .int .u8 110, .int .u8 111, .int .u8 116, .int .u8 104, .int .u8 105, .int .u8 110, .int .u8 103, .int .u8 63] 5)) (w.heap.size + 1)) := below_marked (B1.alloc (by omega) _) _ (by omega)
  clear hS a1 B1
  go_enter Tryd.func8, Tryd.ntmps8
  go_wp2_with fail
  generalize (marked ((marked (w.alloc (.cells #[.int .u8 74, .int .u8 101, .int .u8 102, .int .u8 101] 5)) w.heap.size).alloc (.cells #[.int .u8 119, .int .u8 104, .int .u8 97, .int .u8 116, .int .u8 32, .int .u8 100, .int .u8 111, .int .u8 32, .int .u8 121, .int .u8 97, .int .u8 32, .int .u8 119, .int .u8 97, .int .u8 110, .int .u8 116, .int .u8 32, .int .u8 102, .int .u8 111, .int .u8 114, .int .u8 32, .int .u8 110, .int .u8 111, .int .u8 116, .int .u8 104, .int .u8 105, .int .u8 110, .int .u8 103, .int .u8 63] 5)) (w.heap.size + 1)) = w1 at a2 t2 B2 z2 ⊢
  refine (macSum_any _ 4 4 [74, 101, 102, 101] _ 28 28 [119, 104, 97, 116, 32, 100, 111, 32, 121, 97, 32, 119, 97, 110, 116, 32, 102, 111, 114, 32, 110, 111, 116, 104, 105, 110, 103, 63] w1 (hT.below B2 h2) (Nat.le_refl _) (by unfold maxLen; omega) rfl (a2.rd.more (by omega)) (by omega) (Nat.le_refl _) (by unfold maxLen; omega) rfl (t2.rd.more (by omega)) (by omega)).mono ?_
  rintro e w2 ⟨rfl, hB2⟩
  rw [← HS.out]
  have B3 := (B2.trans (hB2.mono B2.size)).alloc (Nat.le_trans B2.size hB2.size) (.cells (row8 S) 25)
  clear a2 t2 B2 hB2 z1 z2 hcv
  go_wp2_with fail
  refine (same_11 _ _ _ ((Has.mk_ _ _ _ _ _ _ (by simp) rfl).alloc _) (Has.mk_ _ _ _ _ _ _ (by simp) rfl)).mono ?_
  rintro e w3 ⟨rfl, rfl⟩
  go_wp2_with fail
  refine (same_1n _ _ (Has.mk_ _ _ _ _ _ _ (by simp) rfl)).mono ?_
  rintro e w3 ⟨rfl, rfl⟩
  go_wp2_with fail
  go_ret
  have l3 := B3.size
  have B4 := B3.alloc l3 (.cells #[.int .u8 1] 5)
  have B5 := B4.alloc B4.size (.cells #[.int .u8 1] 5)
  exact ⟨rfl, B5.alloc B5.size _⟩
end Go.Proofs.YtdhbafmccphelaaDoor
