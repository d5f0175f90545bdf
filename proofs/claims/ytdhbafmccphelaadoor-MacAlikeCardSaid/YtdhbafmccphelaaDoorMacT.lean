/-
  Package mac: Sum.
-/
import Derived.Test.YtdhbafmccphelaaDoorMacB
import Derived.Test.YtdhbafmccphelaaDoorMacD
namespace Go.Proofs.YtdhbafmccphelaaDoor
open Go.RowKit
set_option linter.unusedVariables false
set_option maxRecDepth 100000

theorem masked_54 (q : Nat) (bs : List UInt8) (w : World) (hb : bs.length = 64) (hq : Blk w q 35 (row8 bs)) :
    Calls Tryd.prog 17 #[.int .u8 54, .pointer (some ⟨q, 0, none⟩)] w fun e w' => e = .returned (.agg (row8 (msk 54 bs))) ∧ Below w.heap.size w w' := masked_any 54 q bs w hb hq
theorem masked_92 (q : Nat) (bs : List UInt8) (w : World) (hb : bs.length = 64) (hq : Blk w q 35 (row8 bs)) :
    Calls Tryd.prog 17 #[.int .u8 92, .pointer (some ⟨q, 0, none⟩)] w fun e w' => e = .returned (.agg (row8 (msk 92 bs))) ∧ Below w.heap.size w w' := masked_any 92 q bs w hb hq

set_option maxHeartbeats 2000000 in
theorem macSum_any (A : Option Addr) (n c : Nat) (ks : List UInt8) (A' : Option Addr) (n' c' : Nat) (ts : List UInt8) (w : World) (hT : Tabs w) (hn : n ≤ c) (hc : c ≤ maxLen) (hx : ks.length = n) (hr : Rd w w.heap.size A ks) (hl : n ≤ 1152921504606800000)
    (hn' : n' ≤ c') (hc' : c' ≤ maxLen) (hx' : ts.length = n') (hr' : Rd w w.heap.size A' ts) (hl' : n' ≤ 1152921504606800000) :
    Calls Tryd.prog 10 #[.slice A n c, .slice A' n' c'] w fun e w' => e = .returned (.agg (row8 (mac ks ts))) ∧ Below w.heap.size w w' := by
  have h2 := hT.2.2
  obtain ⟨S, hS⟩ : ∃ S, S = mac ks ts := ⟨_, rfl⟩
  have hsz : (row8 S).size = 32 := by rw [size_row8, hS, length_mac]
  obtain ⟨L, hL⟩ : ∃ L, L = blk ks := ⟨_, rfl⟩
  have hLl : L.length = 64 := by rw [hL, length_blk]
  have hszL : (row8 L).size = 64 := by rw [size_row8, hLl]
  obtain ⟨M1, hM1⟩ : ∃ M1, M1 = msk 54 L := ⟨_, rfl⟩
  have hM1l : M1.length = 64 := by rw [hM1, length_msk, hLl]
  obtain ⟨M2, hM2⟩ : ∃ M2, M2 = msk 92 L := ⟨_, rfl⟩
  have hM2l : M2.length = 64 := by rw [hM2, length_msk, hLl]
  obtain ⟨D, hD⟩ : ∃ D, D = dig (M1 ++ ts) := ⟨_, rfl⟩
  have hDl : D.length = 32 := by rw [hD, length_dig]
  have hszD : (row8 D).size = 32 := by rw [size_row8, hDl]
  have HS := Lib.hid (show S = dig (M2 ++ D) by rw [hS, hM2, hD, hM1, hL]; rfl)
  rw [← hS]
  have HL := Lib.hid hL
  have HM1 := Lib.hid hM1
  have HM2 := Lib.hid hM2
  have HD := Lib.hid hD
  have HLl := Lib.hid hLl
  have HM1l := Lib.hid hM1l
  have HM2l := Lib.hid hM2l
  have HDl := Lib.hid hDl
  have HX' := Lib.hid hx'
  have hst64 := fun W : World => run_storeCells_new (P := Tryd.prog) W 35 #[.int .u8 0, .int .u8 0, .int .u8 0, .int .u8 0, .int .u8 0, .int .u8 0, .int .u8 0, .int .u8 0, .int .u8 0, .int .u8 0, .int .u8 0, .int .u8 0, .int .u8 0, .int .u8 0, .int .u8 0, .int .u8 0, .int .u8 0, .int .u8 0, .int .u8 0, .int .u8 0, .int .u8 0, .int .u8 0, .int .u8 0, .int .u8 0, .int .u8 0, .int .u8 0, .int .u8 0, .int .u8 0, .int .u8 0, .int .u8 0, .int .u8 0, .int .u8 0, .int .u8 0, .int .u8 0, .int .u8 0, .int .u8 0, .int .u8 0, .int .u8 0, .int .u8 0, .int .u8 0, .int .u8 0, .int .u8 0, .int .u8 0, .int .u8 0, .int .u8 0, .int .u8 0, .int .u8 0, .int .u8 0, .int .u8 0, .int .u8 0, .int .u8 0, .int .u8 0, .int .u8 0, .int .u8 0, .int .u8 0, .int .u8 0, .int .u8 0, .int .u8 0, .int .u8 0, .int .u8 0, .int .u8 0, .int .u8 0, .int .u8 0, .int .u8 0] (row8 L) ((show (Tryd.prog.info? 35).map (·.size) = some 64 by kernel_rfl).trans (by rw [hszL])) (by rw [hszL]; rfl) (row8_one _)
  have hst32 := fun W : World => run_storeCells_new (P := Tryd.prog) W 25 #[.int .u8 0, .int .u8 0, .int .u8 0, .int .u8 0, .int .u8 0, .int .u8 0, .int .u8 0, .int .u8 0, .int .u8 0, .int .u8 0, .int .u8 0, .int .u8 0, .int .u8 0, .int .u8 0, .int .u8 0, .int .u8 0, .int .u8 0, .int .u8 0, .int .u8 0, .int .u8 0, .int .u8 0, .int .u8 0, .int .u8 0, .int .u8 0, .int .u8 0, .int .u8 0, .int .u8 0, .int .u8 0, .int .u8 0, .int .u8 0, .int .u8 0, .int .u8 0] (row8 D) ((show (Tryd.prog.info? 25).map (·.size) = some 32 by kernel_rfl).trans (by rw [hszD])) (by rw [hszD]; rfl) (row8_one _)
  have hmf : ∀ (fn : Fn) (first cap : Array Value) (w : World), (Instr.makeFunc fn first cap).run Tryd.prog w = .ok (.func fn first cap) w := fun _ _ _ _ => rfl
  have k1 : Blk (w.alloc (.cells #[.int .u8 0, .int .u8 0, .int .u8 0, .int .u8 0, .int .u8 0, .int .u8 0, .int .u8 0, .int .u8 0, .int .u8 0, .int .u8 0, .int .u8 0, .int .u8 0, .int .u8 0, .int .u8 0, .int .u8 0, .int .u8 0, .int .u8 0, .int .u8 0, .int .u8 0, .int .u8 0, .int .u8 0, .int .u8 0, .int .u8 0, .int .u8 0, .int .u8 0, .int .u8 0, .int .u8 0, .int .u8 0, .int .u8 0, .int .u8 0, .int .u8 0, .int .u8 0] 25)) w.heap.size 25 (row8 (List.replicate 32 0)) := Blk.new _ _ _
  have B1 : Below w.heap.size w (w.alloc (.cells #[.int .u8 0, .int .u8 0, .int .u8 0, .int .u8 0, .int .u8 0, .int .u8 0, .int .u8 0, .int .u8 0, .int .u8 0, .int .u8 0, .int .u8 0, .int .u8 0, .int .u8 0, .int .u8 0, .int .u8 0, .int .u8 0, .int .u8 0, .int .u8 0, .int .u8 0, .int .u8 0, .int .u8 0, .int .u8 0, .int .u8 0, .int .u8 0, .int .u8 0, .int .u8 0, .int .u8 0, .int .u8 0, .int .u8 0, .int .u8 0, .int .u8 0, .int .u8 0] 25)) := below_new _ _
  have z1 : (w.alloc (.cells #[.int .u8 0, .int .u8 0, .int .u8 0, .int .u8 0, .int .u8 0, .int .u8 0, .int .u8 0, .int .u8 0, .int .u8 0, .int .u8 0, .int .u8 0, .int .u8 0, .int .u8 0, .int .u8 0, .int .u8 0, .int .u8 0, .int .u8 0, .int .u8 0, .int .u8 0, .int .u8 0, .int .u8 0, .int .u8 0, .int .u8 0, .int .u8 0, .int .u8 0, .int .u8 0, .int .u8 0, .int .u8 0, .int .u8 0, .int .u8 0, .int .u8 0, .int .u8 0] 25)).heap.size = w.heap.size + 1 := by simp
  clear hS hL hM1 hM2 hD hLl hM1l hM2l hDl hx'
  go_enter Tryd.func10, Tryd.ntmps10
  go_wp2_with fail
  generalize w.alloc (.cells #[.int .u8 0, .int .u8 0, .int .u8 0, .int .u8 0, .int .u8 0, .int .u8 0, .int .u8 0, .int .u8 0, .int .u8 0, .int .u8 0, .int .u8 0, .int .u8 0, .int .u8 0, .int .u8 0, .int .u8 0, .int .u8 0, .int .u8 0, .int .u8 0, .int .u8 0, .int .u8 0, .int .u8 0, .int .u8 0, .int .u8 0, .int .u8 0, .int .u8 0, .int .u8 0, .int .u8 0, .int .u8 0, .int .u8 0, .int .u8 0, .int .u8 0, .int .u8 0] 25) = w1 at k1 B1 z1 ⊢
  refine (blockOf_any A n c ks w1 (hT.below B1 h2) hn hc hx ((hr.below B1).more B1.size) (by omega)).mono ?_
  rintro e w2 ⟨rfl, hb2⟩
  rw [← HL.out]
  have k2 := (k1.below hb2 k1.lt).alloc (.cells (row8 L) 35)
  have B2 := (B1.trans (hb2.mono B1.size)).alloc (Nat.le_trans B1.size hb2.size) (.cells (row8 L) 35)
  have l2 : Blk (w2.alloc (.cells (row8 L) 35)) w2.heap.size 35 (row8 L) := Blk.new _ _ _
  have s2 : w1.heap.size ≤ w2.heap.size := hb2.size
  obtain ⟨q, hq⟩ : ∃ q, q = w2.heap.size := ⟨_, rfl⟩
  rw [← hq] at l2 s2
  clear k1 B1 hb2
  go_wp2_with fail
  rw [← hq]
  generalize w2.alloc (.cells (row8 L) 35) = w3 at k2 B2 l2 ⊢
  clear hq
  clear hst64
  refine (masked_54 q L w3 HLl.out l2).mono ?_
  rintro e w4 ⟨rfl, hb4⟩
  rw [← HM1.out]
  have k3 := k2.below hb4 k2.lt
  have l3 := l2.below hb4 l2.lt
  have B3 := B2.trans (hb4.mono B2.size)
  clear k2 B2 l2 hb4
  go_wp2_with fail
  refine (digest_any M1 A' n' c' ts w4 HM1l.out (hT.below B3 h2) hn' hc' HX'.out ((hr'.below B3).more B3.size) hl').mono ?_
  rintro e w5 ⟨rfl, hb5⟩
  rw [← HD.out]
  have k4 := (k3.below hb5 k3.lt).alloc (.cells (row8 D) 25)
  have l4 := (l3.below hb5 l3.lt).alloc (.cells (row8 D) 25)
  have B4 := (B3.trans (hb5.mono B3.size)).alloc (Nat.le_trans B3.size hb5.size) (.cells (row8 D) 25)
  have d4 : Blk (w5.alloc (.cells (row8 D) 25)) w5.heap.size 25 (row8 D) := Blk.new _ _ _
  obtain ⟨r, hr5⟩ : ∃ r, r = w5.heap.size := ⟨_, rfl⟩
  rw [← hr5] at d4
  clear k3 l3
  go_wp2_with fail
  rw [← hr5]
  generalize w5.alloc (.cells (row8 D) 25) = w6 at k4 l4 B4 d4 ⊢
  have hr0 : w.heap.size ≤ r := by have := B3.trans (hb5.mono B3.size); rw [hr5]; exact this.size
  clear hr5 hst32 B3 hb5
  have T4 := hT.below B4 h2
  have s4 := B4.size
  have hsl : ∀ W : World, (Instr.sliceAt 25 (.pointer (some ⟨r, 0, none⟩)) none none none).run Tryd.prog W = .ok (.slice (some ⟨r, 0, none⟩) 32 32) W := fun W => slice_whole Tryd.underlying25 (by kernel_rfl) _ _ W
  have d4R : Rd w6 w6.heap.size (some ⟨r, 0, none⟩) D := RowAt.rd d4 0 D (fun j hj => by simp)
  go_region_with (first
    | (go_at_call 17; refine (masked_92 q L _ HLl.out (l4.drewN 1)).mono ?_; rintro e w7 ⟨rfl, hb7⟩; rw [← HM2.out])
    | (go_at_call 18; have b7 := hb7.size; have k7 := (k4.drewN 1).below hb7 k4.lt; have B7 := (below_drewN B4 1).trans (hb7.mono s4); refine (digest_any M2 _ 32 32 D _ HM2l.out (hT.below B7 h2) (by omega) (by unfold maxLen; omega) HDl.out (((d4R.drewN 1).below hb7).more b7) (by omega)).mono ?_; rintro e w8 ⟨rfl, hb8⟩; rw [← HS.out]; have k8 := k7.below hb8 k7.lt; have B8 := B7.trans (hb8.mono B7.size); have hstr := run_storeCells_blk (P := Tryd.prog) k8 (cs := row8 S) (by rw [hsz]; rfl) (row8_one _)))
  all_goals (go_wp2_with fail; exact bodyPost_ret (v := .agg (row8 S)) (results_cell_row rfl _ _ _ _ _ _ _ rfl (k8.setRow (row8 S)) Tryd.underlying25 rfl ((show (Tryd.prog.info? 25).map (·.size) = some 32 by kernel_rfl).trans (by rw [hsz]))) rfl ⟨rfl, Below.setRow_ B8 _ _ (Nat.le_refl _)⟩)
end Go.Proofs.YtdhbafmccphelaaDoor
