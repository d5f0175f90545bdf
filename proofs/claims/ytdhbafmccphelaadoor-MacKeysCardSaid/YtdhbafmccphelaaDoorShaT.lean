/-
  Package sha: Sum of bytes, the nil state.
-/
import Derived.Test.YtdhbafmccphelaaDoorShaS
import Derived.Test.YtdhbafmccphelaaDoorMark
namespace Go.Proofs.YtdhbafmccphelaaDoor
open Go.RowKit
set_option linter.unusedVariables false
set_option maxRecDepth 100000

/-- A whole row into a block, as the walk meets it. -/
theorem run_storeCells_blk {P : Program} {w : World} {g : Nat} {t : TypeId} {old cs : Array Value} (h : Blk w g t old) (hn : old.size = cs.size) (h1 : cs.all (·.oneCell') = true) : (storeCells ⟨g, 0, none⟩ cs.toList 0).run P w = .ok () (w.setRow g cs) :=
  run_storeCells_from (P := P) g t cs.toList 0 old w h (by simp; omega) (fun v hv => (Array.all_eq_true_iff_forall_mem.1 h1) v (by simpa using hv))

set_option maxHeartbeats 1000000 in
theorem sum_any (A : Option Addr) (n c : Nat) (xs : List UInt8) (w : World) (hT : Tabs w) (hn : n ≤ c) (hc : c ≤ maxLen) (hx : xs.length = n) (hr : Rd w w.heap.size A xs) (hl : n ≤ 1152921504606846000) :
    Calls Tryd.prog 14 #[.slice A n c] w fun e w' => e = .returned (.agg (row8 (dig xs))) ∧ Below w.heap.size w w' := by
  have h2 := hT.2.2
  obtain ⟨S, hS⟩ : ∃ S, S = dig xs := ⟨_, rfl⟩
  have HS := Lib.hid hS
  have HSL := Lib.hid (show S.length = 32 by rw [hS, length_dig])
  rw [← hS]
  clear hS
  have hz := zero_state
  have h32 : Blk (w.alloc (.cells #[.int .u8 0, .int .u8 0, .int .u8 0, .int .u8 0, .int .u8 0, .int .u8 0, .int .u8 0, .int .u8 0, .int .u8 0, .int .u8 0, .int .u8 0, .int .u8 0, .int .u8 0, .int .u8 0, .int .u8 0, .int .u8 0, .int .u8 0, .int .u8 0, .int .u8 0, .int .u8 0, .int .u8 0, .int .u8 0, .int .u8 0, .int .u8 0, .int .u8 0, .int .u8 0, .int .u8 0, .int .u8 0, .int .u8 0, .int .u8 0, .int .u8 0, .int .u8 0] 25)) w.heap.size 25 (row8 (List.replicate 32 0)) := Blk.new _ _ _
  have hB1 : Below w.heap.size w (w.alloc (.cells #[.int .u8 0, .int .u8 0, .int .u8 0, .int .u8 0, .int .u8 0, .int .u8 0, .int .u8 0, .int .u8 0, .int .u8 0, .int .u8 0, .int .u8 0, .int .u8 0, .int .u8 0, .int .u8 0, .int .u8 0, .int .u8 0, .int .u8 0, .int .u8 0, .int .u8 0, .int .u8 0, .int .u8 0, .int .u8 0, .int .u8 0, .int .u8 0, .int .u8 0, .int .u8 0, .int .u8 0, .int .u8 0, .int .u8 0, .int .u8 0, .int .u8 0, .int .u8 0] 25)) := below_new _ _
  have hz1 : (w.alloc (.cells #[.int .u8 0, .int .u8 0, .int .u8 0, .int .u8 0, .int .u8 0, .int .u8 0, .int .u8 0, .int .u8 0, .int .u8 0, .int .u8 0, .int .u8 0, .int .u8 0, .int .u8 0, .int .u8 0, .int .u8 0, .int .u8 0, .int .u8 0, .int .u8 0, .int .u8 0, .int .u8 0, .int .u8 0, .int .u8 0, .int .u8 0, .int .u8 0, .int .u8 0, .int .u8 0, .int .u8 0, .int .u8 0, .int .u8 0, .int .u8 0, .int .u8 0, .int .u8 0] 25)).heap.size = w.heap.size + 1 := by simp
  go_enter Tryd.func14, Tryd.ntmps14
  rw [whole_eq 1]
  go_wp2_with fail
  generalize w.alloc (.cells #[.int .u8 0, .int .u8 0, .int .u8 0, .int .u8 0, .int .u8 0, .int .u8 0, .int .u8 0, .int .u8 0, .int .u8 0, .int .u8 0, .int .u8 0, .int .u8 0, .int .u8 0, .int .u8 0, .int .u8 0, .int .u8 0, .int .u8 0, .int .u8 0, .int .u8 0, .int .u8 0, .int .u8 0, .int .u8 0, .int .u8 0, .int .u8 0, .int .u8 0, .int .u8 0, .int .u8 0, .int .u8 0, .int .u8 0, .int .u8 0, .int .u8 0, .int .u8 0] 25) = w1 at h32 hB1 hz1 ⊢
  have hst := St.new w1
  rw [hz1] at hst
  have h322 := h32.alloc (.cells (stRow (List.replicate 8 0) (List.replicate 64 0) 0) 44)
  have hB2 : Below w.heap.size w (w1.alloc (.cells (stRow (List.replicate 8 0) (List.replicate 64 0) 0) 44)) := hB1.alloc (by omega) _
  have HW : Hid (∃ w2, w2 = w1.alloc (.cells (stRow (List.replicate 8 0) (List.replicate 64 0) 0) 44)) := Lib.hid ⟨_, rfl⟩
  have hr2 : Rd (w1.alloc (.cells (stRow (List.replicate 8 0) (List.replicate 64 0) 0) 44)) w.heap.size A xs := hr.below hB2
  rw [← whole_eq 1]
  go_wp2_with (go_at_call 22; refine (write_any _ A n c [] xs _ hst (hT.below hB2 h2) (by omega) hn hc hx (Src.of_rd hr2 (by simp; omega) (by omega)) (by simp; omega)).mono ?_; rintro e w3 ⟨rfl, hst3, ht3⟩)
  have hB3 : Below w.heap.size w w3 := tw_below hB2 ht3 (by simp) (Nat.le_refl _)
  have h323 := h322.tw ht3 (by simp)
  refine (sumState_any _ xs w3 hst3 (hT.below hB3 h2) (by omega)).mono ?_
  rintro e w4 ⟨rfl, hB4⟩
  rw [← HS.out]
  have h324 := h323.below hB4 h323.lt
  have hB4' : Below w.heap.size w w4 := hB3.trans (hB4.mono hB3.size)
  have hsz : (row8 S).size = 32 := by rw [size_row8, HSL.out]
  have hstr := run_storeCells_blk (P := Tryd.prog) h324 (cs := row8 S) (by rw [hsz]; rfl) (row8_one _)
  go_wp2_with fail
  exact bodyPost_ret (v := .agg (row8 S)) (results_cell_row rfl _ _ _ _ _ _ _ rfl (h324.setRow (row8 S)) Tryd.underlying25 rfl ((show (Tryd.prog.info? 25).map (·.size) = some 32 by kernel_rfl).trans (by rw [hsz]))) rfl ⟨rfl, Below.setRow_ hB4' _ _ (Nat.le_refl _)⟩

theorem wpList_build0 {P : Program} {ops : Array Oper} {rest : List Oper} {o : Oper} {a : Act} {w : World} {Q : Exit → Act → World → Prop} (hg : o.guard = none) (t : TypeId) (ho : o.op = .build t #[]) (cells : Array Value) (hb : P.built t [] = some cells)
    (h : wpList P ops Q rest (a.put o.dst (.agg cells)) w) : wpList P ops Q (o :: rest) a w :=
  wpList_build hg t #[] ho (by simp [hb]) (by simpa [hb] using h)
theorem sumNil_any (w : World) :
    Calls Tryd.prog 23 #[.pointer none] w fun e w' => e = .returned (.agg (row8 (List.replicate 32 0))) ∧ Below w.heap.size w w' := by
  have h32 : Blk (w.alloc (.cells #[.int .u8 0, .int .u8 0, .int .u8 0, .int .u8 0, .int .u8 0, .int .u8 0, .int .u8 0, .int .u8 0, .int .u8 0, .int .u8 0, .int .u8 0, .int .u8 0, .int .u8 0, .int .u8 0, .int .u8 0, .int .u8 0, .int .u8 0, .int .u8 0, .int .u8 0, .int .u8 0, .int .u8 0, .int .u8 0, .int .u8 0, .int .u8 0, .int .u8 0, .int .u8 0, .int .u8 0, .int .u8 0, .int .u8 0, .int .u8 0, .int .u8 0, .int .u8 0] 25)) w.heap.size 25 (row8 (List.replicate 32 0)) := Blk.new _ _ _
  have hB1 : Below w.heap.size w (w.alloc (.cells #[.int .u8 0, .int .u8 0, .int .u8 0, .int .u8 0, .int .u8 0, .int .u8 0, .int .u8 0, .int .u8 0, .int .u8 0, .int .u8 0, .int .u8 0, .int .u8 0, .int .u8 0, .int .u8 0, .int .u8 0, .int .u8 0, .int .u8 0, .int .u8 0, .int .u8 0, .int .u8 0, .int .u8 0, .int .u8 0, .int .u8 0, .int .u8 0, .int .u8 0, .int .u8 0, .int .u8 0, .int .u8 0, .int .u8 0, .int .u8 0, .int .u8 0, .int .u8 0] 25)) := below_new _ _
  go_enter Tryd.func23, Tryd.ntmps23
  rw [whole_eq 2]
  go_wp2_with fail
  generalize w.alloc (.cells #[.int .u8 0, .int .u8 0, .int .u8 0, .int .u8 0, .int .u8 0, .int .u8 0, .int .u8 0, .int .u8 0, .int .u8 0, .int .u8 0, .int .u8 0, .int .u8 0, .int .u8 0, .int .u8 0, .int .u8 0, .int .u8 0, .int .u8 0, .int .u8 0, .int .u8 0, .int .u8 0, .int .u8 0, .int .u8 0, .int .u8 0, .int .u8 0, .int .u8 0, .int .u8 0, .int .u8 0, .int .u8 0, .int .u8 0, .int .u8 0, .int .u8 0, .int .u8 0] 25) = w1 at h32 hB1 ⊢
  refine whole_list ?_
  refine wpList_build0 rfl _ rfl (row8 (List.replicate 32 0)) (by kernel_rfl) ?_
  refine wpList_store_blk h32 32 rfl rfl (row8_one _) rfl _ _ _ rfl rfl rfl (by kernel_rfl) ?_
  go_wp2_with fail
  exact bodyPost_ret (v := .agg (row8 (List.replicate 32 0))) (results_cell_row rfl _ _ _ _ _ _ _ rfl (h32.setRow (row8 (List.replicate 32 0))) Tryd.underlying25 rfl (by kernel_rfl)) rfl ⟨rfl, Below.setRow_ hB1 _ _ (Nat.le_refl _)⟩
end Go.Proofs.YtdhbafmccphelaaDoor
