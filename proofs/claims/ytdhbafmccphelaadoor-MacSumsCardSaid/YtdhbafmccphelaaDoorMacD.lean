/-
  Package mac: the digest of a block with bytes behind it.
-/
import Derived.Test.YtdhbafmccphelaaDoorMacC
namespace Go.Proofs.YtdhbafmccphelaaDoor
open Go.RowKit
set_option linter.unusedVariables false
set_option maxRecDepth 100000

set_option maxHeartbeats 400000 in
theorem digest_any (bs : List UInt8) (A : Option Addr) (n c : Nat) (xs : List UInt8) (w : World) (hb : bs.length = 64) (hT : Tabs w) (hn : n ≤ c) (hc : c ≤ maxLen) (hx : xs.length = n) (hr : Rd w w.heap.size A xs) (hl : n ≤ 1152921504606800000) :
    Calls Tryd.prog 18 #[.agg (row8 bs), .slice A n c] w fun e w' => e = .returned (.agg (row8 (dig (bs ++ xs)))) ∧ Below w.heap.size w w' := by
  have h2 := hT.2.2
  obtain ⟨S, hS⟩ : ∃ S, S = dig (bs ++ xs) := ⟨_, rfl⟩
  have HS := Lib.hid hS
  have hsz : (row8 S).size = 32 := by rw [size_row8, hS, length_dig]
  rw [← hS]
  clear hS
  have k1 : Blk ((w.alloc (.cells (row8 bs) 35)).alloc (.cells #[.int .u8 0, .int .u8 0, .int .u8 0, .int .u8 0, .int .u8 0, .int .u8 0, .int .u8 0, .int .u8 0, .int .u8 0, .int .u8 0, .int .u8 0, .int .u8 0, .int .u8 0, .int .u8 0, .int .u8 0, .int .u8 0, .int .u8 0, .int .u8 0, .int .u8 0, .int .u8 0, .int .u8 0, .int .u8 0, .int .u8 0, .int .u8 0, .int .u8 0, .int .u8 0, .int .u8 0, .int .u8 0, .int .u8 0, .int .u8 0, .int .u8 0, .int .u8 0] 25)) w.heap.size 35 (row8 bs) := (Blk.new w 35 (row8 bs)).alloc _
  have k2 : Blk ((w.alloc (.cells (row8 bs) 35)).alloc (.cells #[.int .u8 0, .int .u8 0, .int .u8 0, .int .u8 0, .int .u8 0, .int .u8 0, .int .u8 0, .int .u8 0, .int .u8 0, .int .u8 0, .int .u8 0, .int .u8 0, .int .u8 0, .int .u8 0, .int .u8 0, .int .u8 0, .int .u8 0, .int .u8 0, .int .u8 0, .int .u8 0, .int .u8 0, .int .u8 0, .int .u8 0, .int .u8 0, .int .u8 0, .int .u8 0, .int .u8 0, .int .u8 0, .int .u8 0, .int .u8 0, .int .u8 0, .int .u8 0] 25)) (w.heap.size + 1) 25 (row8 (List.replicate 32 0)) := by
    have := Blk.new (w.alloc (.cells (row8 bs) 35)) 25 (row8 (List.replicate 32 0))
    rwa [show (w.alloc (.cells (row8 bs) 35)).heap.size = w.heap.size + 1 by simp] at this
  have HBW : Below w.heap.size w ((w.alloc (.cells (row8 bs) 35)).alloc (.cells #[.int .u8 0, .int .u8 0, .int .u8 0, .int .u8 0, .int .u8 0, .int .u8 0, .int .u8 0, .int .u8 0, .int .u8 0, .int .u8 0, .int .u8 0, .int .u8 0, .int .u8 0, .int .u8 0, .int .u8 0, .int .u8 0, .int .u8 0, .int .u8 0, .int .u8 0, .int .u8 0, .int .u8 0, .int .u8 0, .int .u8 0, .int .u8 0, .int .u8 0, .int .u8 0, .int .u8 0, .int .u8 0, .int .u8 0, .int .u8 0, .int .u8 0, .int .u8 0] 25)) := ((Below.refl _ _).alloc (Nat.le_refl _) _).alloc (by simp) _
  have hz : ((w.alloc (.cells (row8 bs) 35)).alloc (.cells #[.int .u8 0, .int .u8 0, .int .u8 0, .int .u8 0, .int .u8 0, .int .u8 0, .int .u8 0, .int .u8 0, .int .u8 0, .int .u8 0, .int .u8 0, .int .u8 0, .int .u8 0, .int .u8 0, .int .u8 0, .int .u8 0, .int .u8 0, .int .u8 0, .int .u8 0, .int .u8 0, .int .u8 0, .int .u8 0, .int .u8 0, .int .u8 0, .int .u8 0, .int .u8 0, .int .u8 0, .int .u8 0, .int .u8 0, .int .u8 0, .int .u8 0, .int .u8 0] 25)).heap.size = w.heap.size + 1 + 1 := by simp
  have hsl : ∀ W : World, (Instr.sliceAt 35 (.pointer (some ⟨w.heap.size, 0, none⟩)) none none none).run Tryd.prog W = .ok (.slice (some ⟨w.heap.size, 0, none⟩) 64 64) W := fun W => slice_whole Tryd.underlying35 (by kernel_rfl) _ _ W
  have HX := Lib.hid hx
  have HBL := Lib.hid hb
  clear hx hb
  go_enter Tryd.func18, Tryd.ntmps18
  go_wp2_with fail
  generalize (w.alloc (.cells (row8 bs) 35)).alloc (.cells #[.int .u8 0, .int .u8 0, .int .u8 0, .int .u8 0, .int .u8 0, .int .u8 0, .int .u8 0, .int .u8 0, .int .u8 0, .int .u8 0, .int .u8 0, .int .u8 0, .int .u8 0, .int .u8 0, .int .u8 0, .int .u8 0, .int .u8 0, .int .u8 0, .int .u8 0, .int .u8 0, .int .u8 0, .int .u8 0, .int .u8 0, .int .u8 0, .int .u8 0, .int .u8 0, .int .u8 0, .int .u8 0, .int .u8 0, .int .u8 0, .int .u8 0, .int .u8 0] 25) = w2 at k1 k2 HBW hz ⊢
  refine (new_any w2).mono ?_
  rintro e w3 ⟨rfl, hst, hB3⟩
  have e1 := k1.below hB3 k1.lt
  have e2 := k2.below hB3 k2.lt
  have eB := HBW.trans (hB3.mono HBW.size)
  have e3 := hB3.size
  rw [hz] at hst ⊢
  have eR : Rd w3 w3.heap.size (some ⟨w.heap.size, 0, none⟩) bs := RowAt.rd e1 0 bs (fun j hj => by simp)
  have hsrc : Src w3 (w.heap.size + 1 + 1) (some ⟨w.heap.size, 0, none⟩) bs := .inr ⟨w.heap.size, 0, rfl, by omega, e1.lt, fun j x hx => by have := RowAt.cell e1 j (by have := (List.getElem?_eq_some_iff.1 hx).1; exact this); rw [Nat.zero_add, this, (List.getElem?_eq_some_iff.1 hx).2]⟩
  clear k1 k2 HBW hB3 eR
  have hw1 := write_any (w.heap.size + 1 + 1) (some ⟨w.heap.size, 0, none⟩) 64 64 [] bs w3 hst (hT.below eB h2) (by omega) (by omega) (by unfold maxLen; omega) HBL.out hsrc (by show 0 + 64 ≤ 1152921504606846976; omega)
  clear hsrc hst
  go_wp2_with fail
  refine hw1.mono ?_
  rintro e w4 ⟨rfl, hst4, ht4⟩
  have f2 := e2.tw ht4 (by simp)
  have fB : Below w.heap.size w w4 := tw_below eB ht4 (by simp; omega) (Nat.le_refl _)
  have fr : Src w4 (w.heap.size + 1 + 1) A xs := Src.of_rd (hr.below fB) fB.size (by omega)
  clear e1 e2 eB hw1 ht4
  go_wp2_with fail
  refine (write_any _ A n c _ xs _ hst4 (hT.below fB h2) (by omega) hn hc HX.out fr (by rw [List.nil_append, HBL.out]; omega)).mono ?_
  rintro e w5 ⟨rfl, hst5, ht5⟩
  have g2 := f2.tw ht5 (by simp)
  have gB : Below w.heap.size w w5 := tw_below fB ht5 (by simp; omega) (Nat.le_refl _)
  clear f2 fB fr hst4 ht5
  rw [List.nil_append] at hst5
  go_wp2_with fail
  refine (sumState_any _ _ _ hst5 (hT.below gB h2) (by rw [List.length_append, HBL.out, HX.out]; omega)).mono ?_
  rintro e w6 ⟨rfl, hB6⟩
  rw [← HS.out]
  have i2 := g2.below hB6 g2.lt
  have iB := gB.trans (hB6.mono gB.size)
  have hstr := run_storeCells_blk (P := Tryd.prog) i2 (cs := row8 S) (by rw [hsz]; rfl) (row8_one _)
  clear g2 gB hst5 hB6
  go_wp2_with fail
  exact bodyPost_ret (v := .agg (row8 S)) (results_cell_row rfl _ _ _ _ _ _ _ rfl (i2.setRow (row8 S)) Tryd.underlying25 rfl ((show (Tryd.prog.info? 25).map (·.size) = some 32 by kernel_rfl).trans (by rw [hsz]))) rfl ⟨rfl, Below.setRow_ iB _ _ (by omega)⟩
end Go.Proofs.YtdhbafmccphelaaDoor
