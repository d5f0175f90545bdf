/-
  Layer 7: the law MacOnce.
-/
import Derived.Test.YtdhbafmccphelaaDoorMacW
import Derived.Test.YtdhbafmccphelaaDoorGrowV
namespace Go.Proofs.YtdhbafmccphelaaDoor
open Go.RowKit
set_option linter.unusedVariables false
set_option maxRecDepth 100000

/-- A whole array of 32 bytes, read. -/
theorem run_load32 {w : World} {g : Nat} {t : TypeId} {D : List UInt8} (h : Blk w g t (row8 D)) (hD : D.length = 32) : (Instr.loadAt 25 (.pointer (some ⟨g, 0, none⟩))).run Tryd.prog w = .ok (.agg (row8 D)) w := by
  have := run_loadAt_mid (P := Tryd.prog) w g 0 25 (row8 D).toList _ (fun j v hv => by rw [Nat.zero_add, h.cell]; rw [Array.getElem?_toList] at hv; exact hv) Tryd.underlying25 rfl ((show (Tryd.prog.info? 25).map (·.size) = some 32 by kernel_rfl).trans (by simp [size_row8, hD]))
  rwa [Array.toArray_toList] at this

set_option maxHeartbeats 4000000 in
theorem macOnce_walk (A : Option Addr) (n c : Nat) (xs : List UInt8) (A' : Option Addr) (n' c' : Nat) (ys : List UInt8) (A'' : Option Addr) (n'' c'' : Nat) (zs : List UInt8) (w : World) (hT : Tabs w) (hn : n ≤ c) (hc : c ≤ maxLen) (hx : xs.length = n) (hr : Rd w w.heap.size A xs)
    (hn' : n' ≤ c') (hc' : c' ≤ maxLen) (hy : ys.length = n') (hr' : Rd w w.heap.size A' ys) (hn'' : n'' ≤ c'') (hc'' : c'' ≤ maxLen) (hz : zs.length = n'') (hr'' : Rd w w.heap.size A'' zs) :
    Calls Tryd.prog 7 #[.slice A n c, .slice A' n' c', .slice A'' n'' c''] w fun e w' => e = .returned (.bool true) ∧ Below w.heap.size w w' := by
  have h2 := hT.2.2
  by_cases hbig0 : 4096 < n
  · have hb0 : decide ((n : Int) > 4096) = true := by simp; omega
    go_enter Tryd.func7, Tryd.ntmps7
    go_wp2_with (go_at_call 8; refine (works_any _ hT).mono ?_; rintro e w1 ⟨rfl, hB⟩)
    go_ret
    exact ⟨rfl, hB⟩
  have hb0 : decide ((n : Int) > 4096) = false := by simp; omega
  by_cases hbig1 : 4096 < n'
  · have hb1 : decide ((n' : Int) > 4096) = true := by simp; omega
    go_enter Tryd.func7, Tryd.ntmps7
    go_wp2_with (go_at_call 8; refine (works_any _ hT).mono ?_; rintro e w1 ⟨rfl, hB⟩)
    go_ret
    exact ⟨rfl, hB⟩
  have hb1 : decide ((n' : Int) > 4096) = false := by simp; omega
  by_cases hbig2 : 4096 < n''
  · have hb2 : decide ((n'' : Int) > 4096) = true := by simp; omega
    go_enter Tryd.func7, Tryd.ntmps7
    go_wp2_with (go_at_call 8; refine (works_any _ hT).mono ?_; rintro e w1 ⟨rfl, hB⟩)
    go_ret
    exact ⟨rfl, hB⟩
  have hb2 : decide ((n'' : Int) > 4096) = false := by simp; omega
  obtain ⟨D1, hD1⟩ : ∃ D1, D1 = mac xs ys := ⟨_, rfl⟩
  have HD1 := Lib.hid hD1
  have HD1l := Lib.hid (show D1.length = 32 by rw [hD1, length_mac])
  have hszD1 : (row8 D1).size = 32 := by rw [size_row8, HD1l.out]
  have hstD1 := fun W : World => run_storeCells_new (P := Tryd.prog) W 25 #[.int .u8 0, .int .u8 0, .int .u8 0, .int .u8 0, .int .u8 0, .int .u8 0, .int .u8 0, .int .u8 0, .int .u8 0, .int .u8 0, .int .u8 0, .int .u8 0, .int .u8 0, .int .u8 0, .int .u8 0, .int .u8 0, .int .u8 0, .int .u8 0, .int .u8 0, .int .u8 0, .int .u8 0, .int .u8 0, .int .u8 0, .int .u8 0, .int .u8 0, .int .u8 0, .int .u8 0, .int .u8 0, .int .u8 0, .int .u8 0, .int .u8 0, .int .u8 0] (row8 D1) ((show (Tryd.prog.info? 25).map (·.size) = some 32 by kernel_rfl).trans (by rw [hszD1])) (by rw [hszD1]; rfl) (row8_one _)
  clear hD1
  obtain ⟨D2, hD2⟩ : ∃ D2, D2 = mac zs ys := ⟨_, rfl⟩
  have HD2 := Lib.hid hD2
  have HD2l := Lib.hid (show D2.length = 32 by rw [hD2, length_mac])
  have hszD2 : (row8 D2).size = 32 := by rw [size_row8, HD2l.out]
  have hstD2 := fun W : World => run_storeCells_new (P := Tryd.prog) W 25 #[.int .u8 0, .int .u8 0, .int .u8 0, .int .u8 0, .int .u8 0, .int .u8 0, .int .u8 0, .int .u8 0, .int .u8 0, .int .u8 0, .int .u8 0, .int .u8 0, .int .u8 0, .int .u8 0, .int .u8 0, .int .u8 0, .int .u8 0, .int .u8 0, .int .u8 0, .int .u8 0, .int .u8 0, .int .u8 0, .int .u8 0, .int .u8 0, .int .u8 0, .int .u8 0, .int .u8 0, .int .u8 0, .int .u8 0, .int .u8 0, .int .u8 0, .int .u8 0] (row8 D2) ((show (Tryd.prog.info? 25).map (·.size) = some 32 by kernel_rfl).trans (by rw [hszD2])) (by rw [hszD2]; rfl) (row8_one _)
  clear hD2
  obtain ⟨D3, hD3⟩ : ∃ D3, D3 = mac xs zs := ⟨_, rfl⟩
  have HD3 := Lib.hid hD3
  have HD3l := Lib.hid (show D3.length = 32 by rw [hD3, length_mac])
  have hszD3 : (row8 D3).size = 32 := by rw [size_row8, HD3l.out]
  have hstD3 := fun W : World => run_storeCells_new (P := Tryd.prog) W 25 #[.int .u8 0, .int .u8 0, .int .u8 0, .int .u8 0, .int .u8 0, .int .u8 0, .int .u8 0, .int .u8 0, .int .u8 0, .int .u8 0, .int .u8 0, .int .u8 0, .int .u8 0, .int .u8 0, .int .u8 0, .int .u8 0, .int .u8 0, .int .u8 0, .int .u8 0, .int .u8 0, .int .u8 0, .int .u8 0, .int .u8 0, .int .u8 0, .int .u8 0, .int .u8 0, .int .u8 0, .int .u8 0, .int .u8 0, .int .u8 0, .int .u8 0, .int .u8 0] (row8 D3) ((show (Tryd.prog.info? 25).map (·.size) = some 32 by kernel_rfl).trans (by rw [hszD3])) (by rw [hszD3]; rfl) (row8_one _)
  clear hD3
  have C1 : Hid (∀ W : World, Below w.heap.size w W → Calls Tryd.prog 10 #[.slice A n c, .slice A' n' c'] W fun e w' => e = .returned (.agg (row8 D1)) ∧ Below W.heap.size W w') := Lib.hid fun W g => by
    rw [HD1.out]
    exact macSum_any A n c xs A' n' c' ys W (hT.below g h2) hn hc hx ((hr.below g).more g.size) (by omega) hn' hc' hy ((hr'.below g).more g.size) (by omega)
  have C2 : Hid (∀ W : World, Below w.heap.size w W → Calls Tryd.prog 10 #[.slice A'' n'' c'', .slice A' n' c'] W fun e w' => e = .returned (.agg (row8 D2)) ∧ Below W.heap.size W w') := Lib.hid fun W g => by
    rw [HD2.out]
    exact macSum_any A'' n'' c'' zs A' n' c' ys W (hT.below g h2) hn'' hc'' hz ((hr''.below g).more g.size) (by omega) hn' hc' hy ((hr'.below g).more g.size) (by omega)
  have C3 : Hid (∀ W : World, Below w.heap.size w W → Calls Tryd.prog 10 #[.slice A n c, .slice A'' n'' c''] W fun e w' => e = .returned (.agg (row8 D3)) ∧ Below W.heap.size W w') := Lib.hid fun W g => by
    rw [HD3.out]
    exact macSum_any A n c xs A'' n'' c'' zs W (hT.below g h2) hn hc hx ((hr.below g).more g.size) (by omega) hn'' hc'' hz ((hr''.below g).more g.size) (by omega)
  have CW : Hid (∀ W : World, Below w.heap.size w W → Calls Tryd.prog 8 #[] W fun e w' => e = .returned (.bool true) ∧ Below W.heap.size W w') := Lib.hid fun W g => works_any W (hT.below g h2)
  clear hx hr hc hy hr' hc' hz hr'' hc'' hT
  go_enter Tryd.func7, Tryd.ntmps7
  go_wp2_with fail
  refine (C1.out w (Below.refl _ _)).mono ?_
  rintro e w1 ⟨rfl, hb1⟩
  have k1 : Blk (w1.alloc (.cells (row8 D1) 25)) w1.heap.size 25 (row8 D1) := Blk.new _ _ _
  have B1 := hb1.alloc hb1.size (.cells (row8 D1) 25)
  clear hb1
  go_wp2_with fail
  generalize w1.alloc (.cells (row8 D1) 25) = w2 at k1 B1 ⊢
  generalize w1.heap.size = q1 at k1 ⊢
  refine (C2.out w2 B1).mono ?_
  rintro e w3 ⟨rfl, hb3⟩
  have k1' := (k1.below hb3 k1.lt).alloc (.cells (row8 D2) 25)
  have k2 : Blk (w3.alloc (.cells (row8 D2) 25)) w3.heap.size 25 (row8 D2) := Blk.new _ _ _
  have B2 := (B1.trans (hb3.mono B1.size)).alloc (Nat.le_trans B1.size hb3.size) (.cells (row8 D2) 25)
  clear k1 B1 hb3
  go_wp2_with fail
  generalize w3.alloc (.cells (row8 D2) 25) = w4 at k1' k2 B2 ⊢
  generalize w3.heap.size = q2 at k2 ⊢
  refine (C3.out w4 B2).mono ?_
  rintro e w5 ⟨rfl, hb5⟩
  have k1 := (k1'.below hb5 k1'.lt).alloc (.cells (row8 D3) 25)
  have k2' := (k2.below hb5 k2.lt).alloc (.cells (row8 D3) 25)
  have k3 : Blk (w5.alloc (.cells (row8 D3) 25)) w5.heap.size 25 (row8 D3) := Blk.new _ _ _
  have B3 := (B2.trans (hb5.mono B2.size)).alloc (Nat.le_trans B2.size hb5.size) (.cells (row8 D3) 25)
  clear k1' k2 B2 hb5
  go_wp2_with fail
  generalize w5.alloc (.cells (row8 D3) 25) = w6 at k1 k2' k3 B3 ⊢
  generalize w5.heap.size = q3 at k3 ⊢
  have K1 := Lib.hid k1
  have K2 := Lib.hid k2'
  have K3 := Lib.hid k3
  have L1 := k1.lt
  have L2 := k2'.lt
  have L3 := k3.lt
  have HB := Lib.hid B3
  have s3 := B3.size
  clear k1 k2' k3 B3 hstD1 hstD2 hstD3
  refine wp_region_vals (by kernel_rfl) w6.heap.size [.agg (row8 D1), .slice A n c, .slice A' n' c', .agg (row8 D1), .bool true, .bool true, .agg (row8 D2), .slice A'' n'' c'', .slice A' n' c', .agg (row8 D2), .bool true, .bool true, .bool true, .agg (row8 D3), .slice A n c, .slice A'' n'' c'', .agg (row8 D3), .bool true, .bool true, .bool true, .bool true, .bool true, .bool true] rfl (by kernel_rfl) ?_ ?_
  · refine ⟨?_, ?_, ?_, ?_, ?_, ?_, ?_, ?_, ?_, ?_, ?_, ?_, ?_, ?_, ?_, ?_, ?_, ?_, ?_, ?_, ?_, ?_, ?_, trivial⟩
    · intro listed a w1 hl hc
      have h7 : a.tmps[7]?.getD undef = .pointer (some ⟨q1, 0, none⟩) := (hc.was 7 (by kernel_rfl)).trans rfl
      refine does_value rfl rfl (.agg (row8 D1)) w1 ?_ (Grew.refl _ _) rfl
      unfold execOp
      have hx : a.eval (.tmp 7) = .pointer (some ⟨q1, 0, none⟩) := by show a.tmps.getD 7 undef = _; rw [Array.getD_eq_getD_getElem?]; exact h7
      simp only [hx, run_load32 (K1.out.below hc.g.below L1) HD1l.out, Sem.run_bind, Sem.run_pure, Result.andThen_ok]
    · intro listed a w1 hl hc
      have h0 : a.tmps[0]?.getD undef = .slice A n c := (hc.was 0 (by kernel_rfl)).trans rfl
      refine does_value rfl rfl (.slice A n c) w1 ?_ (Grew.refl _ _) rfl
      clear hc hl
      go_simp
    · intro listed a w1 hl hc
      have h1 : a.tmps[1]?.getD undef = .slice A' n' c' := (hc.was 1 (by kernel_rfl)).trans rfl
      refine does_value rfl rfl (.slice A' n' c') w1 ?_ (Grew.refl _ _) rfl
      clear hc hl
      go_simp
    · intro listed a w1 hl hc
      have h34 : a.tmps[34]?.getD undef = .slice A n c := hc.dep hl 1 34 rfl (by kernel_rfl)
      have h35 : a.tmps[35]?.getD undef = .slice A' n' c' := hc.dep hl 2 35 rfl (by kernel_rfl)
      refine does_call rfl rfl 10 #[.slice A n c, .slice A' n' c'] ?_ (((C1.out w1 (HB.out.trans (hc.g.below.mono s3))).mono fun e w' ⟨he, hw⟩ => ⟨_, he, Grew.of_below hw hc.g.below.size, rfl⟩))
      clear hc hl
      go_simp
    · intro listed a w1 hl hc
      have h33 : a.tmps[33]?.getD undef = .agg (row8 D1) := hc.dep hl 0 33 rfl (by kernel_rfl)
      have h36 : a.tmps[36]?.getD undef = .agg (row8 D1) := hc.dep hl 3 36 rfl (by kernel_rfl)
      have heq := equal_same D1 HD1l.out w1
      refine does_value rfl rfl (.bool true) w1 ?_ (Grew.refl _ _) rfl
      clear hc hl
      go_simp
    · intro listed a w1 hl hc
      have h37 : a.tmps[37]?.getD undef = .bool true := hc.dep hl 4 37 rfl (by kernel_rfl)
      refine does_value rfl rfl (.bool true) w1 ?_ (Grew.refl _ _) rfl
      clear hc hl
      go_simp
    · intro listed a w1 hl hc
      have h8 : a.tmps[8]?.getD undef = .pointer (some ⟨q2, 0, none⟩) := (hc.was 8 (by kernel_rfl)).trans rfl
      refine does_value rfl (wanted_at rfl rfl (hc.dep hl 5 38 rfl (by kernel_rfl))) (.agg (row8 D2)) w1 ?_ (Grew.refl _ _) rfl
      unfold execOp
      have hx : a.eval (.tmp 8) = .pointer (some ⟨q2, 0, none⟩) := by show a.tmps.getD 8 undef = _; rw [Array.getD_eq_getD_getElem?]; exact h8
      simp only [hx, run_load32 (K2.out.below hc.g.below L2) HD2l.out, Sem.run_bind, Sem.run_pure, Result.andThen_ok]
    · intro listed a w1 hl hc
      have h2 : a.tmps[2]?.getD undef = .slice A'' n'' c'' := (hc.was 2 (by kernel_rfl)).trans rfl
      refine does_value rfl (wanted_at rfl rfl (hc.dep hl 5 38 rfl (by kernel_rfl))) (.slice A'' n'' c'') w1 ?_ (Grew.refl _ _) rfl
      clear hc hl
      go_simp
    · intro listed a w1 hl hc
      have h1 : a.tmps[1]?.getD undef = .slice A' n' c' := (hc.was 1 (by kernel_rfl)).trans rfl
      refine does_value rfl (wanted_at rfl rfl (hc.dep hl 5 38 rfl (by kernel_rfl))) (.slice A' n' c') w1 ?_ (Grew.refl _ _) rfl
      clear hc hl
      go_simp
    · intro listed a w1 hl hc
      have h40 : a.tmps[40]?.getD undef = .slice A'' n'' c'' := hc.dep hl 7 40 rfl (by kernel_rfl)
      have h41 : a.tmps[41]?.getD undef = .slice A' n' c' := hc.dep hl 8 41 rfl (by kernel_rfl)
      refine does_call rfl (wanted_at rfl rfl (hc.dep hl 5 38 rfl (by kernel_rfl))) 10 #[.slice A'' n'' c'', .slice A' n' c'] ?_ (((C2.out w1 (HB.out.trans (hc.g.below.mono s3))).mono fun e w' ⟨he, hw⟩ => ⟨_, he, Grew.of_below hw hc.g.below.size, rfl⟩))
      clear hc hl
      go_simp
    · intro listed a w1 hl hc
      have h39 : a.tmps[39]?.getD undef = .agg (row8 D2) := hc.dep hl 6 39 rfl (by kernel_rfl)
      have h42 : a.tmps[42]?.getD undef = .agg (row8 D2) := hc.dep hl 9 42 rfl (by kernel_rfl)
      have heq := equal_same D2 HD2l.out w1
      refine does_value rfl (wanted_at rfl rfl (hc.dep hl 5 38 rfl (by kernel_rfl))) (.bool true) w1 ?_ (Grew.refl _ _) rfl
      clear hc hl
      go_simp
    · intro listed a w1 hl hc
      have h38 : a.tmps[38]?.getD undef = .bool true := hc.dep hl 5 38 rfl (by kernel_rfl)
      have h43 : a.tmps[43]?.getD undef = .bool true := hc.dep hl 10 43 rfl (by kernel_rfl)
      refine does_value rfl rfl (.bool true) w1 ?_ (Grew.refl _ _) rfl
      clear hc hl
      go_simp
    · intro listed a w1 hl hc
      have h44 : a.tmps[44]?.getD undef = .bool true := hc.dep hl 11 44 rfl (by kernel_rfl)
      refine does_value rfl rfl (.bool true) w1 ?_ (Grew.refl _ _) rfl
      clear hc hl
      go_simp
    · intro listed a w1 hl hc
      have h9 : a.tmps[9]?.getD undef = .pointer (some ⟨q3, 0, none⟩) := (hc.was 9 (by kernel_rfl)).trans rfl
      refine does_value rfl (wanted_at rfl rfl (hc.dep hl 12 45 rfl (by kernel_rfl))) (.agg (row8 D3)) w1 ?_ (Grew.refl _ _) rfl
      unfold execOp
      have hx : a.eval (.tmp 9) = .pointer (some ⟨q3, 0, none⟩) := by show a.tmps.getD 9 undef = _; rw [Array.getD_eq_getD_getElem?]; exact h9
      simp only [hx, run_load32 (K3.out.below hc.g.below L3) HD3l.out, Sem.run_bind, Sem.run_pure, Result.andThen_ok]
    · intro listed a w1 hl hc
      have h0 : a.tmps[0]?.getD undef = .slice A n c := (hc.was 0 (by kernel_rfl)).trans rfl
      refine does_value rfl (wanted_at rfl rfl (hc.dep hl 12 45 rfl (by kernel_rfl))) (.slice A n c) w1 ?_ (Grew.refl _ _) rfl
      clear hc hl
      go_simp
    · intro listed a w1 hl hc
      have h2 : a.tmps[2]?.getD undef = .slice A'' n'' c'' := (hc.was 2 (by kernel_rfl)).trans rfl
      refine does_value rfl (wanted_at rfl rfl (hc.dep hl 12 45 rfl (by kernel_rfl))) (.slice A'' n'' c'') w1 ?_ (Grew.refl _ _) rfl
      clear hc hl
      go_simp
    · intro listed a w1 hl hc
      have h47 : a.tmps[47]?.getD undef = .slice A n c := hc.dep hl 14 47 rfl (by kernel_rfl)
      have h48 : a.tmps[48]?.getD undef = .slice A'' n'' c'' := hc.dep hl 15 48 rfl (by kernel_rfl)
      refine does_call rfl (wanted_at rfl rfl (hc.dep hl 12 45 rfl (by kernel_rfl))) 10 #[.slice A n c, .slice A'' n'' c''] ?_ (((C3.out w1 (HB.out.trans (hc.g.below.mono s3))).mono fun e w' ⟨he, hw⟩ => ⟨_, he, Grew.of_below hw hc.g.below.size, rfl⟩))
      clear hc hl
      go_simp
    · intro listed a w1 hl hc
      have h46 : a.tmps[46]?.getD undef = .agg (row8 D3) := hc.dep hl 13 46 rfl (by kernel_rfl)
      have h49 : a.tmps[49]?.getD undef = .agg (row8 D3) := hc.dep hl 16 49 rfl (by kernel_rfl)
      have heq := equal_same D3 HD3l.out w1
      refine does_value rfl (wanted_at rfl rfl (hc.dep hl 12 45 rfl (by kernel_rfl))) (.bool true) w1 ?_ (Grew.refl _ _) rfl
      clear hc hl
      go_simp
    · intro listed a w1 hl hc
      have h45 : a.tmps[45]?.getD undef = .bool true := hc.dep hl 12 45 rfl (by kernel_rfl)
      have h50 : a.tmps[50]?.getD undef = .bool true := hc.dep hl 17 50 rfl (by kernel_rfl)
      refine does_value rfl rfl (.bool true) w1 ?_ (Grew.refl _ _) rfl
      clear hc hl
      go_simp
    · intro listed a w1 hl hc
      have h51 : a.tmps[51]?.getD undef = .bool true := hc.dep hl 18 51 rfl (by kernel_rfl)
      refine does_value rfl rfl (.bool true) w1 ?_ (Grew.refl _ _) rfl
      clear hc hl
      go_simp
    · intro listed a w1 hl hc
      refine does_call rfl (wanted_at rfl rfl (hc.dep hl 19 52 rfl (by kernel_rfl))) 8 #[] ?_ (((CW.out w1 (HB.out.trans (hc.g.below.mono s3))).mono fun e w' ⟨he, hw⟩ => ⟨_, he, Grew.of_below hw hc.g.below.size, rfl⟩))
      clear hc hl
      go_simp
    · intro listed a w1 hl hc
      have h52 : a.tmps[52]?.getD undef = .bool true := hc.dep hl 19 52 rfl (by kernel_rfl)
      have h53 : a.tmps[53]?.getD undef = .bool true := hc.dep hl 20 53 rfl (by kernel_rfl)
      refine does_value rfl rfl (.bool true) w1 ?_ (Grew.refl _ _) rfl
      clear hc hl
      go_simp
    · intro listed a w1 hl hc
      have h54 : a.tmps[54]?.getD undef = .bool true := hc.dep hl 21 54 rfl (by kernel_rfl)
      refine does_value rfl rfl (.bool true) w1 ?_ (Grew.refl _ _) rfl
      clear hc hl
      go_simp
  · intro w7 hg
    simp only [lay]
    go_frame
    go_wp2_with fail
    go_ret
    exact ⟨rfl, HB.out.trans (hg.below.mono s3)⟩
end Go.Proofs.YtdhbafmccphelaaDoor
