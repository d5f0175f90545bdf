/-
  The reference of layer 7: Sum.
-/
import Derived.Test.YtdhbafmccphelaaDoorMacR
namespace Go.Proofs.YtdhbafmccphelaaDoor
open Go.RowKit
set_option linter.unusedVariables false
set_option maxRecDepth 100000

theorem under_54 (A : Option Addr) (n c : Nat) (xs : List UInt8) (w : World) (hn : n ≤ 1048576) (hx : xs.length = n) (hr : Rd w w.heap.size A xs) :
    Calls Tryd.prog 19 #[.slice A n c, .int .u8 54] w fun e w' => ∃ A2 c2, e = .returned (.slice A2 64 c2) ∧ Own8 w' 5 w.heap.size A2 64 c2 (msk 54 (blk xs)) ∧ Below w.heap.size w w' := under_any A n c xs 54 w hn hx hr
theorem under_92 (A : Option Addr) (n c : Nat) (xs : List UInt8) (w : World) (hn : n ≤ 1048576) (hx : xs.length = n) (hr : Rd w w.heap.size A xs) :
    Calls Tryd.prog 19 #[.slice A n c, .int .u8 92] w fun e w' => ∃ A2 c2, e = .returned (.slice A2 64 c2) ∧ Own8 w' 5 w.heap.size A2 64 c2 (msk 92 (blk xs)) ∧ Below w.heap.size w w' := under_any A n c xs 92 w hn hx hr

set_option maxHeartbeats 2000000 in
theorem refMac_any (A : Option Addr) (n c : Nat) (ks : List UInt8) (A' : Option Addr) (n' c' : Nat) (ts : List UInt8) (w : World) (hn : n ≤ 1048576) (hx : ks.length = n) (hr : Rd w w.heap.size A ks) (hn' : n' ≤ 100000) (hx' : ts.length = n') (hr' : Rd w w.heap.size A' ts) :
    Calls Tryd.prog 11 #[.slice A n c, .slice A' n' c'] w fun e w' => e = .returned (.agg (row8 (mac ks ts))) ∧ Below w.heap.size w w' := by
  obtain ⟨i8, h8⟩ := Tryd.ty8
  obtain ⟨S, hS⟩ : ∃ S, S = mac ks ts := ⟨_, rfl⟩
  have hsz : (row8 S).size = 32 := by rw [size_row8, hS, length_mac]
  obtain ⟨M1, hM1⟩ : ∃ M1, M1 = msk 54 (blk ks) := ⟨_, rfl⟩
  have hM1l : M1.length = 64 := by rw [hM1, length_msk, length_blk]
  obtain ⟨M2, hM2⟩ : ∃ M2, M2 = msk 92 (blk ks) := ⟨_, rfl⟩
  have hM2l : M2.length = 64 := by rw [hM2, length_msk, length_blk]
  obtain ⟨D, hD⟩ : ∃ D, D = dig (M1 ++ ts) := ⟨_, rfl⟩
  have hDl : D.length = 32 := by rw [hD, length_dig]
  have hszD : (row8 D).size = 32 := by rw [size_row8, hDl]
  have HS := Lib.hid (show S = dig (M2 ++ D) by rw [hS, hM2, hD, hM1]; rfl)
  rw [← hS]
  have HM1 := Lib.hid hM1
  have HM2 := Lib.hid hM2
  have HD := Lib.hid hD
  have HX := Lib.hid hx
  have HX' := Lib.hid hx'
  have HL1 := Lib.hid (show (M1 ++ ts).length = 64 + n' by rw [List.length_append, hM1l, hx'])
  have HL2 := Lib.hid (show (M2 ++ D).length = 64 + 32 by rw [List.length_append, hM2l, hDl])
  have HDL := Lib.hid hDl
  have hst := fun W : World => run_storeCells_new (P := Tryd.prog) W 25 #[.int .u8 0, .int .u8 0, .int .u8 0, .int .u8 0, .int .u8 0, .int .u8 0, .int .u8 0, .int .u8 0, .int .u8 0, .int .u8 0, .int .u8 0, .int .u8 0, .int .u8 0, .int .u8 0, .int .u8 0, .int .u8 0, .int .u8 0, .int .u8 0, .int .u8 0, .int .u8 0, .int .u8 0, .int .u8 0, .int .u8 0, .int .u8 0, .int .u8 0, .int .u8 0, .int .u8 0, .int .u8 0, .int .u8 0, .int .u8 0, .int .u8 0, .int .u8 0] (row8 D) ((show (Tryd.prog.info? 25).map (·.size) = some 32 by kernel_rfl).trans (by rw [hszD])) (by rw [hszD]; rfl) (row8_one _)
  have k1 : Blk (w.alloc (.cells #[.int .u8 0, .int .u8 0, .int .u8 0, .int .u8 0, .int .u8 0, .int .u8 0, .int .u8 0, .int .u8 0, .int .u8 0, .int .u8 0, .int .u8 0, .int .u8 0, .int .u8 0, .int .u8 0, .int .u8 0, .int .u8 0, .int .u8 0, .int .u8 0, .int .u8 0, .int .u8 0, .int .u8 0, .int .u8 0, .int .u8 0, .int .u8 0, .int .u8 0, .int .u8 0, .int .u8 0, .int .u8 0, .int .u8 0, .int .u8 0, .int .u8 0, .int .u8 0] 25)) w.heap.size 25 (row8 (List.replicate 32 0)) := Blk.new _ _ _
  have B1 : Below w.heap.size w (w.alloc (.cells #[.int .u8 0, .int .u8 0, .int .u8 0, .int .u8 0, .int .u8 0, .int .u8 0, .int .u8 0, .int .u8 0, .int .u8 0, .int .u8 0, .int .u8 0, .int .u8 0, .int .u8 0, .int .u8 0, .int .u8 0, .int .u8 0, .int .u8 0, .int .u8 0, .int .u8 0, .int .u8 0, .int .u8 0, .int .u8 0, .int .u8 0, .int .u8 0, .int .u8 0, .int .u8 0, .int .u8 0, .int .u8 0, .int .u8 0, .int .u8 0, .int .u8 0, .int .u8 0] 25)) := below_new _ _
  have z1 : (w.alloc (.cells #[.int .u8 0, .int .u8 0, .int .u8 0, .int .u8 0, .int .u8 0, .int .u8 0, .int .u8 0, .int .u8 0, .int .u8 0, .int .u8 0, .int .u8 0, .int .u8 0, .int .u8 0, .int .u8 0, .int .u8 0, .int .u8 0, .int .u8 0, .int .u8 0, .int .u8 0, .int .u8 0, .int .u8 0, .int .u8 0, .int .u8 0, .int .u8 0, .int .u8 0, .int .u8 0, .int .u8 0, .int .u8 0, .int .u8 0, .int .u8 0, .int .u8 0, .int .u8 0] 25)).heap.size = w.heap.size + 1 := by simp
  clear hS hM1 hM2 hD hM1l hM2l hDl hx hx'
  go_enter Tryd.func11, Tryd.ntmps11
  go_wp2_with fail
  generalize w.alloc (.cells #[.int .u8 0, .int .u8 0, .int .u8 0, .int .u8 0, .int .u8 0, .int .u8 0, .int .u8 0, .int .u8 0, .int .u8 0, .int .u8 0, .int .u8 0, .int .u8 0, .int .u8 0, .int .u8 0, .int .u8 0, .int .u8 0, .int .u8 0, .int .u8 0, .int .u8 0, .int .u8 0, .int .u8 0, .int .u8 0, .int .u8 0, .int .u8 0, .int .u8 0, .int .u8 0, .int .u8 0, .int .u8 0, .int .u8 0, .int .u8 0, .int .u8 0, .int .u8 0] 25) = w1 at k1 B1 z1 ⊢
  refine (under_54 A n c ks w1 hn HX.out ((hr.below B1).more B1.size)).mono ?_
  rintro e w2 ⟨A2, c2, rfl, ho2, hb2⟩
  rw [← HM1.out] at ho2
  have k2 := k1.below hb2 k1.lt
  have B2 := B1.trans (hb2.mono B1.size)
  have r2 := hr'.below B2
  have s2 : w1.heap.size ≤ w2.heap.size := hb2.size
  clear k1 B1 hb2
  go_wp2_with (at_builtin; refine wpList_append8 h8 _ rfl _ _ rfl w1.heap.size _ _ _ _ rfl ho2 _ _ _ _ _ rfl HX'.out r2 (by omega) (by omega) ?_; intro A3 c3 w3 ho3 hg3 hh3)
  have k3 : Blk w3 w.heap.size 25 (row8 (List.replicate 32 0)) := k2.grown hg3 (fun e => by have := ho2.blk w.heap.size e.symm; omega)
  have B3 : Below w.heap.size w w3 := B2.grown hg3 B2.size (fun q hq => Nat.le_trans (by omega) (ho2.blk q hq))
  have R3 := ho3.rd
  clear k2 B2 r2 ho2 hg3 hh3 ho3 s2
  go_wp2_with fail
  refine (refSum_any _ (64 + n') _ _ w3 (by omega) HL1.out R3).mono ?_
  rintro e w4 ⟨rfl, hb4⟩
  rw [← HD.out]
  have k4 := (k3.below hb4 k3.lt).alloc (.cells (row8 D) 25)
  have B4 := (B3.trans (hb4.mono B3.size)).alloc (Nat.le_trans B3.size hb4.size) (.cells (row8 D) 25)
  have d4 : Blk (w4.alloc (.cells (row8 D) 25)) w4.heap.size 25 (row8 D) := Blk.new _ _ _
  obtain ⟨r, hr5⟩ : ∃ r, r = w4.heap.size := ⟨_, rfl⟩
  rw [← hr5] at d4
  have hr0 : w3.heap.size ≤ r := by rw [hr5]; exact hb4.size
  clear k3 B3 hb4 R3
  go_wp2_with fail
  rw [← hr5]
  generalize w4.alloc (.cells (row8 D) 25) = w5 at k4 B4 d4 ⊢
  clear hr5 hst
  refine (under_92 A n c ks w5 hn HX.out ((hr.below B4).more B4.size)).mono ?_
  rintro e w6 ⟨A6, c6, rfl, ho6, hb6⟩
  rw [← HM2.out] at ho6
  have k6 := k4.below hb6 k4.lt
  have d6 := d4.below hb6 d4.lt
  have B6 := B4.trans (hb6.mono B4.size)
  have lt5 := k4.lt
  have s6 : w5.heap.size ≤ w6.heap.size := hb6.size
  have hsl : ∀ W : World, (Instr.sliceAt 25 (.pointer (some ⟨r, 0, none⟩)) none none none).run Tryd.prog W = .ok (.slice (some ⟨r, 0, none⟩) 32 32) W := fun W => slice_whole Tryd.underlying25 (by kernel_rfl) _ _ W
  have R6 : Rd w6 w6.heap.size (some ⟨r, 0, none⟩) D := RowAt.rd d6 0 D (fun j hj => by simp)
  clear k4 B4 hb6 d4
  go_wp2_with (at_builtin; refine wpList_append8 h8 _ rfl _ _ rfl w5.heap.size _ _ _ _ rfl ho6 _ _ _ _ _ rfl HDL.out R6 (by omega) (by omega) ?_; intro A7 c7 w7 ho7 hg7 hh7)
  have k7 : Blk w7 w.heap.size 25 (row8 (List.replicate 32 0)) := k6.grown hg7 (fun e => by have := ho6.blk w.heap.size e.symm; omega)
  have B7 : Below w.heap.size w w7 := B6.grown hg7 B6.size (fun q hq => Nat.le_trans (by omega) (ho6.blk q hq))
  have R7 := ho7.rd
  clear k6 B6 R6 ho6 hg7 hh7 ho7 d6 hsl s6
  go_wp2_with fail
  refine (refSum_any _ (64 + 32) _ _ w7 (by omega) HL2.out R7).mono ?_
  rintro e w8 ⟨rfl, hb8⟩
  rw [← HS.out]
  have k8 := k7.below hb8 k7.lt
  have B8 := B7.trans (hb8.mono B7.size)
  have hstr := run_storeCells_blk (P := Tryd.prog) k8 (cs := row8 S) (by rw [hsz]; rfl) (row8_one _)
  clear k7 B7 hb8 R7
  go_wp2_with fail
  exact bodyPost_ret (v := .agg (row8 S)) (results_cell_row rfl _ _ _ _ _ _ _ rfl (k8.setRow (row8 S)) Tryd.underlying25 rfl ((show (Tryd.prog.info? 25).map (·.size) = some 32 by kernel_rfl).trans (by rw [hsz]))) rfl ⟨rfl, Below.setRow_ B8 _ _ (Nat.le_refl _)⟩
end Go.Proofs.YtdhbafmccphelaaDoor
