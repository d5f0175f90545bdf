/-
  Layer 7: the law MacKeys.
-/
import Derived.Test.YtdhbafmccphelaaDoorMacL2
import Derived.Test.YtdhbafmccphelaaDoorShaR
namespace Go.Proofs.YtdhbafmccphelaaDoor
open Go.RowKit
set_option linter.unusedVariables false
set_option maxRecDepth 100000

theorem nat_of_u8 {a : Int} (h : (Lit.int .u8 a).wf = true) : ∃ n : Nat, a = n ∧ n < 256 := by
  have hb : 0 ≤ a ∧ a ≤ 255 := by simpa [Lit.wf, IntKind.min, IntKind.max, IntKind.signed, IntKind.bits] using h
  exact ⟨a.toNat, by omega, by omega⟩

set_option maxHeartbeats 4000000 in
theorem macKeys_walk (A : Option Addr) (n c : Nat) (xs : List UInt8) (A' : Option Addr) (n' c' : Nat) (ys : List UInt8) (a : Int) (w : World) (hT : Tabs w) (hn : n ≤ c) (hc : c ≤ maxLen) (hx : xs.length = n) (hr : Rd w w.heap.size A xs)
    (hn' : n' ≤ c') (hc' : c' ≤ maxLen) (hy : ys.length = n') (hr' : Rd w w.heap.size A' ys) (ha : (Lit.int .u8 a).wf = true) :
    Calls Tryd.prog 5 #[.slice A n c, .slice A' n' c', .int .u8 a] w fun e w' => e = .returned (.bool true) ∧ Below w.heap.size w w' := by
  obtain ⟨m, rfl, hm⟩ := nat_of_u8 ha
  have h2 := hT.2.2
  by_cases hbig0 : 4096 < n
  · have hb0 : decide ((n : Int) > 4096) = true := by simp; omega
    go_enter Tryd.func5, Tryd.ntmps5
    go_wp2_with (go_at_call 8; refine (works_any _ hT).mono ?_; rintro e w1 ⟨rfl, hB⟩)
    go_ret
    exact ⟨rfl, hB⟩
  have hb0 : decide ((n : Int) > 4096) = false := by simp; omega
  by_cases hbig1 : 4096 < n'
  · have hb1 : decide ((n' : Int) > 4096) = true := by simp; omega
    go_enter Tryd.func5, Tryd.ntmps5
    go_wp2_with (go_at_call 8; refine (works_any _ hT).mono ?_; rintro e w1 ⟨rfl, hB⟩)
    go_ret
    exact ⟨rfl, hB⟩
  have hb1 : decide ((n' : Int) > 4096) = false := by simp; omega
  obtain ⟨i8, h8⟩ := Tryd.ty8
  obtain ⟨D, hD⟩ : ∃ D, D = mac xs ys := ⟨_, rfl⟩
  have HD := Lib.hid hD
  have HDl := Lib.hid (show D.length = 32 by rw [hD, length_mac])
  have hszD : (row8 D).size = 32 := by rw [size_row8, HDl.out]
  have hstD := fun W : World => run_storeCells_new (P := Tryd.prog) W 25 #[.int .u8 0, .int .u8 0, .int .u8 0, .int .u8 0, .int .u8 0, .int .u8 0, .int .u8 0, .int .u8 0, .int .u8 0, .int .u8 0, .int .u8 0, .int .u8 0, .int .u8 0, .int .u8 0, .int .u8 0, .int .u8 0, .int .u8 0, .int .u8 0, .int .u8 0, .int .u8 0, .int .u8 0, .int .u8 0, .int .u8 0, .int .u8 0, .int .u8 0, .int .u8 0, .int .u8 0, .int .u8 0, .int .u8 0, .int .u8 0, .int .u8 0, .int .u8 0] (row8 D) ((show (Tryd.prog.info? 25).map (·.size) = some 32 by kernel_rfl).trans (by rw [hszD])) (by rw [hszD]; rfl) (row8_one _)
  clear hD
  have C1 : Hid (∀ W : World, Below w.heap.size w W → Calls Tryd.prog 10 #[.slice A n c, .slice A' n' c'] W fun e w' => e = .returned (.agg (row8 D)) ∧ Below W.heap.size W w') := Lib.hid fun W g => by
    rw [HD.out]
    exact macSum_any A n c xs A' n' c' ys W (hT.below g h2) hn hc hx ((hr.below g).more g.size) (by omega) hn' hc' hy ((hr'.below g).more g.size) (by omega)
  have C2 : Hid (∀ (W : World) (B : Option Addr) (k d : Nat) (zs : List UInt8), Below w.heap.size w W → k ≤ d → d ≤ maxLen → k ≤ 5000 → zs.length = k → Rd W W.heap.size B zs → mac zs ys = D → Calls Tryd.prog 10 #[.slice B k d, .slice A' n' c'] W fun e w' => e = .returned (.agg (row8 D)) ∧ Below W.heap.size W w') := Lib.hid fun W B k d zs g hk hd hk5 hz hzr hm => by
    rw [← hm]
    exact macSum_any B k d zs A' n' c' ys W (hT.below g h2) hk hd hz hzr (by omega) hn' hc' hy ((hr'.below g).more g.size) (by omega)
  have C3 : Hid (∀ W : World, Below w.heap.size w W → Calls Tryd.prog 14 #[.slice A n c] W fun e w' => e = .returned (.agg (row8 (dig xs))) ∧ Below W.heap.size W w') := Lib.hid fun W g => sum_any A n c xs W (hT.below g h2) hn hc hx ((hr.below g).more g.size) (by omega)
  have CW : Hid (∀ W : World, Below w.heap.size w W → Calls Tryd.prog 8 #[] W fun e w' => e = .returned (.bool true) ∧ Below W.heap.size W w') := Lib.hid fun W g => works_any W (hT.below g h2)
  have HX := Lib.hid hx
  have HR := Lib.hid hr
  clear hx hr hc hy hr' hc' hT ha
  by_cases h64 : 64 < n
  · have hb64 : decide ((n : Int) > 64) = true := by simp; omega
    obtain ⟨E, hE⟩ : ∃ E, E = dig xs := ⟨_, rfl⟩
    have HE := Lib.hid hE
    have HEl := Lib.hid (show E.length = 32 by rw [hE, length_dig])
    have hszE : (row8 E).size = 32 := by rw [size_row8, HEl.out]
    have hstE := fun W : World => run_storeCells_new (P := Tryd.prog) W 25 #[.int .u8 0, .int .u8 0, .int .u8 0, .int .u8 0, .int .u8 0, .int .u8 0, .int .u8 0, .int .u8 0, .int .u8 0, .int .u8 0, .int .u8 0, .int .u8 0, .int .u8 0, .int .u8 0, .int .u8 0, .int .u8 0, .int .u8 0, .int .u8 0, .int .u8 0, .int .u8 0, .int .u8 0, .int .u8 0, .int .u8 0, .int .u8 0, .int .u8 0, .int .u8 0, .int .u8 0, .int .u8 0, .int .u8 0, .int .u8 0, .int .u8 0, .int .u8 0] (row8 E) ((show (Tryd.prog.info? 25).map (·.size) = some 32 by kernel_rfl).trans (by rw [hszE])) (by rw [hszE]; rfl) (row8_one _)
    have HM := Lib.hid (show mac E ys = D by rw [hE, mac_dig (by rw [HX.out]; exact h64), HD.out])
    clear hE
    go_enter Tryd.func5, Tryd.ntmps5
    go_wp2_with fail
    refine (C1.out w (Below.refl _ _)).mono ?_
    rintro e w1 ⟨rfl, hb1⟩
    have k1 : Blk (w1.alloc (.cells (row8 D) 25)) w1.heap.size 25 (row8 D) := Blk.new _ _ _
    have B1 := hb1.alloc hb1.size (.cells (row8 D) 25)
    clear hb1
    go_wp2_with fail
    generalize w1.alloc (.cells (row8 D) 25) = w2 at k1 B1 ⊢
    generalize w1.heap.size = q1 at k1 ⊢
    refine (C3.out w2 B1).mono ?_
    rintro e w3 ⟨rfl, hb3⟩
    rw [← HE.out]
    have k1' := (k1.below hb3 k1.lt).alloc (.cells (row8 E) 25)
    have k2 : Blk (w3.alloc (.cells (row8 E) 25)) w3.heap.size 25 (row8 E) := Blk.new _ _ _
    have B2 := (B1.trans (hb3.mono B1.size)).alloc (Nat.le_trans B1.size hb3.size) (.cells (row8 E) 25)
    clear k1 B1 hb3
    go_wp2_with fail
    generalize w3.alloc (.cells (row8 E) 25) = w6 at k1' k2 B2 ⊢
    generalize w3.heap.size = q2 at k2 ⊢
    have R2 := Lib.hid (show Rd w6 w6.heap.size (some ⟨q2, 0, none⟩) E from RowAt.rd k2 0 E (fun j hj => by simp))
    have K1 := Lib.hid k1'
    have L1 := k1'.lt
    have HB := Lib.hid B2
    have s3 := B2.size
    clear k1' k2 B2 hstD hstE
    refine wp_region_vals (by kernel_rfl) w6.heap.size [.agg (row8 D), .slice (some ⟨q2, 0, none⟩) 32 32, .slice A' n' c', .agg (row8 D), .bool true, .bool true, .bool true, .bool true, .bool true] rfl (by kernel_rfl) ?_ ?_
    · refine ⟨?_, ?_, ?_, ?_, ?_, ?_, ?_, ?_, ?_, trivial⟩
      · intro listed a w1 hl hc
        have h7 : a.tmps[7]?.getD undef = .pointer (some ⟨q1, 0, none⟩) := (hc.was 7 (by kernel_rfl)).trans rfl
        refine does_value rfl rfl (.agg (row8 D)) w1 ?_ (Grew.refl _ _) rfl
        unfold execOp
        have hx : a.eval (.tmp 7) = .pointer (some ⟨q1, 0, none⟩) := by show a.tmps.getD 7 undef = _; rw [Array.getD_eq_getD_getElem?]; exact h7
        simp only [hx, run_load32 (K1.out.below hc.g.below L1) HDl.out, Sem.run_bind, Sem.run_pure, Result.andThen_ok]
      · intro listed a w1 hl hc
        have h8 : a.tmps[8]?.getD undef = .pointer (some ⟨q2, 0, none⟩) := (hc.was 8 (by kernel_rfl)).trans rfl
        have hsl := slice_whole (P := Tryd.prog) Tryd.underlying25 (by kernel_rfl) q2 0 w1
        refine does_value rfl rfl (.slice (some ⟨q2, 0, none⟩) 32 32) w1 ?_ (Grew.refl _ _) rfl
        clear hc hl
        go_simp
      · intro listed a w1 hl hc
        have h1 : a.tmps[1]?.getD undef = .slice A' n' c' := (hc.was 1 (by kernel_rfl)).trans rfl
        refine does_value rfl rfl (.slice A' n' c') w1 ?_ (Grew.refl _ _) rfl
        clear hc hl
        go_simp
      · intro listed a w1 hl hc
        have h29 : a.tmps[29]?.getD undef = .slice (some ⟨q2, 0, none⟩) 32 32 := hc.dep hl 1 29 rfl (by kernel_rfl)
        have h30 : a.tmps[30]?.getD undef = .slice A' n' c' := hc.dep hl 2 30 rfl (by kernel_rfl)
        refine does_call rfl rfl 10 #[.slice (some ⟨q2, 0, none⟩) 32 32, .slice A' n' c'] ?_ (((C2.out w1 _ 32 32 E (HB.out.trans (hc.g.below.mono s3)) (by omega) (by unfold maxLen; omega) (by omega) HEl.out ((R2.out.below hc.g.below).more hc.g.below.size) HM.out).mono fun e w' ⟨he, hw⟩ => ⟨_, he, Grew.of_below hw hc.g.below.size, rfl⟩))
        clear hc hl
        go_simp
      · intro listed a w1 hl hc
        have h28 : a.tmps[28]?.getD undef = .agg (row8 D) := hc.dep hl 0 28 rfl (by kernel_rfl)
        have h31 : a.tmps[31]?.getD undef = .agg (row8 D) := hc.dep hl 3 31 rfl (by kernel_rfl)
        have heq := equal_same D HDl.out w1
        refine does_value rfl rfl (.bool true) w1 ?_ (Grew.refl _ _) rfl
        clear hc hl
        go_simp
      · intro listed a w1 hl hc
        have h32 : a.tmps[32]?.getD undef = .bool true := hc.dep hl 4 32 rfl (by kernel_rfl)
        refine does_value rfl rfl (.bool true) w1 ?_ (Grew.refl _ _) rfl
        clear hc hl
        go_simp
      · intro listed a w1 hl hc
        refine does_call rfl (wanted_at rfl rfl (hc.dep hl 5 33 rfl (by kernel_rfl))) 8 #[] ?_ (((CW.out w1 (HB.out.trans (hc.g.below.mono s3))).mono fun e w' ⟨he, hw⟩ => ⟨_, he, Grew.of_below hw hc.g.below.size, rfl⟩))
        clear hc hl
        go_simp
      · intro listed a w1 hl hc
        have h33 : a.tmps[33]?.getD undef = .bool true := hc.dep hl 5 33 rfl (by kernel_rfl)
        have h34 : a.tmps[34]?.getD undef = .bool true := hc.dep hl 6 34 rfl (by kernel_rfl)
        refine does_value rfl rfl (.bool true) w1 ?_ (Grew.refl _ _) rfl
        clear hc hl
        go_simp
      · intro listed a w1 hl hc
        have h35 : a.tmps[35]?.getD undef = .bool true := hc.dep hl 7 35 rfl (by kernel_rfl)
        refine does_value rfl rfl (.bool true) w1 ?_ (Grew.refl _ _) rfl
        clear hc hl
        go_simp
    · intro w7 hg
      simp only [lay]
      go_frame
      go_wp2_with fail
      go_ret
      exact ⟨rfl, HB.out.trans (hg.below.mono s3)⟩
  · have hb64 : decide ((n : Int) > 64) = false := by simp; omega
    go_enter Tryd.func5, Tryd.ntmps5
    go_wp2_with fail
    refine (C1.out w (Below.refl _ _)).mono ?_
    rintro e w1 ⟨rfl, hb1⟩
    have k1 : Blk (w1.alloc (.cells (row8 D) 25)) w1.heap.size 25 (row8 D) := Blk.new _ _ _
    have B1 := hb1.alloc hb1.size (.cells (row8 D) 25)
    clear hb1
    go_wp2_with fail
    generalize w1.alloc (.cells (row8 D) 25) = w2 at k1 B1 ⊢
    generalize w1.heap.size = q1 at k1 ⊢
    refine (copyBytes_any A n c xs w2 (by omega) HX.out ((HR.out.below B1).more B1.size)).mono ?_
    rintro e w3 ⟨A2, c2, rfl, ho, hb3⟩
    have k2 := k1.below hb3 k1.lt
    have ho2 := ho.more (Nat.le_of_lt k1.lt)
    have B2 := B1.trans (hb3.mono B1.size)
    have lq := k1.lt
    have ho3 := ho
    obtain ⟨bs, hbs⟩ : ∃ bs, bs = w2.heap.size := ⟨_, rfl⟩
    have hsb : w.heap.size ≤ bs := by rw [hbs]; exact B1.size
    have hbw3 : bs ≤ w3.heap.size := by rw [hbs]; exact hb3.size
    rw [← hbs] at ho lq
    clear hb3 k1 B1 ho2 ho3 hbs
    go_wp2_with fail
    go_loopw [9, 10] (fun v i wr => ∃ (k N : Nat) (A3 : Option Addr) (c3 : Nat), N ≤ 64 ∧ N = n + k ∧ k ≤ m ∧ i = .int .i64 k ∧ v = .slice A3 N c3 ∧ bs ≤ wr.heap.size ∧ Own8 wr 5 bs A3 N c3 (xs ++ List.replicate k 0) ∧ Blk wr q1 25 (row8 D) ∧ Below w.heap.size w wr) (fun _ i _ => m - (intOf i).toNat)
    case atStart => exact ⟨0, n, A2, c2, by omega, rfl, by omega, rfl, rfl, hbw3, by simpa using ho, k2, B2⟩
    case round =>
      clear ho k2 B2
      obtain ⟨k, N, A3, c3, hN64, hN, hkm, rfl, rfl, hbw, ho, hk, hB⟩ := hrel
      have HN := Lib.hid hN
      by_cases hlt : k < m
      · by_cases hlt' : N < 64
        · have hd1 : decide ((k : Int) < (m : Int)) = true := by simp; omega
          have hd2 : decide ((N : Int) < 64) = true := by simp; omega
          have h1 := rd_one wr 5 0 0 rfl
          have h2' := ho.alloc (.cells #[.int .u8 0] 5)
          have hz2 := hB.size
          have hb1 := hB.alloc hz2 (.cells #[.int .u8 0] 5)
          have hk1 := hk.alloc (.cells #[.int .u8 0] 5)
          clear ho hk hB hN
          go_wp2_with (at_builtin; refine wpList_append8 h8 _ rfl _ _ rfl bs _ _ _ _ rfl h2' _ _ _ _ _ rfl rfl h1 (by omega) (by simp; omega) ?_; intro A4 c4 w4 h4 hg4 ho4)
          go_roundw
          case rel =>
            refine ⟨k + 1, N + 1, A4, c4, by omega, by have := HN.out; omega, by omega, by go_num, rfl, Nat.le_trans (by simp; omega) hg4.size, ?_, hk1.grown hg4 (fun e => by have := h2'.blk q1 e.symm; omega), hb1.grown hg4 (by simp; omega) (fun q hq => Nat.le_trans hsb (h2'.blk q hq))⟩
            rw [List.append_assoc, ← List.replicate_succ'] at h4
            exact h4
          case measure => simp [intOf]; omega
        · have hd1 : decide ((k : Int) < (m : Int)) = true := by simp; omega
          have hd2 : decide ((N : Int) < 64) = false := by simp; omega
          have HM := Lib.hid (show mac (xs ++ List.replicate k 0) ys = D by rw [mac_zero (by rw [HX.out]; omega), HD.out])
          have HOC := ho.cap
          have HO := Lib.hid ho
          have K1 := Lib.hid hk
          have L1 := hk.lt
          have HB := Lib.hid hB
          have s3 := hB.size
          clear ho hk hB hN hstD
          go_wp2_with fail
          refine wp_region_vals (by kernel_rfl) wr.heap.size [.agg (row8 D), .slice A3 N c3, .slice A' n' c', .agg (row8 D), .bool true, .bool true, .bool true, .bool true, .bool true] rfl (by kernel_rfl) ?_ ?_
          · refine ⟨?_, ?_, ?_, ?_, ?_, ?_, ?_, ?_, ?_, trivial⟩
            · intro listed a w1 hl hc
              have h7 : a.tmps[7]?.getD undef = .pointer (some ⟨q1, 0, none⟩) := (hc.was 7 (by kernel_rfl)).trans rfl
              refine does_value rfl rfl (.agg (row8 D)) w1 ?_ (Grew.refl _ _) rfl
              unfold execOp
              have hx : a.eval (.tmp 7) = .pointer (some ⟨q1, 0, none⟩) := by show a.tmps.getD 7 undef = _; rw [Array.getD_eq_getD_getElem?]; exact h7
              simp only [hx, run_load32 (K1.out.below hc.g.below L1) HDl.out, Sem.run_bind, Sem.run_pure, Result.andThen_ok]
            · intro listed a w1 hl hc
              have h9 : a.tmps[9]?.getD undef = .slice A3 N c3 := (hc.was 9 (by kernel_rfl)).trans rfl
              refine does_value rfl rfl (.slice A3 N c3) w1 ?_ (Grew.refl _ _) rfl
              clear hc hl
              go_simp
            · intro listed a w1 hl hc
              have h1 : a.tmps[1]?.getD undef = .slice A' n' c' := (hc.was 1 (by kernel_rfl)).trans rfl
              refine does_value rfl rfl (.slice A' n' c') w1 ?_ (Grew.refl _ _) rfl
              clear hc hl
              go_simp
            · intro listed a w1 hl hc
              have h53 : a.tmps[53]?.getD undef = .slice A3 N c3 := hc.dep hl 1 53 rfl (by kernel_rfl)
              have h54 : a.tmps[54]?.getD undef = .slice A' n' c' := hc.dep hl 2 54 rfl (by kernel_rfl)
              refine does_call rfl rfl 10 #[.slice A3 N c3, .slice A' n' c'] ?_ (((C2.out w1 _ N c3 _ (HB.out.trans (hc.g.below.mono s3)) HOC.1 HOC.2 (by omega) HO.out.len ((HO.out.rd.below hc.g.below).more hc.g.below.size) HM.out).mono fun e w' ⟨he, hw⟩ => ⟨_, he, Grew.of_below hw hc.g.below.size, rfl⟩))
              clear hc hl
              go_simp
            · intro listed a w1 hl hc
              have h52 : a.tmps[52]?.getD undef = .agg (row8 D) := hc.dep hl 0 52 rfl (by kernel_rfl)
              have h55 : a.tmps[55]?.getD undef = .agg (row8 D) := hc.dep hl 3 55 rfl (by kernel_rfl)
              have heq := equal_same D HDl.out w1
              refine does_value rfl rfl (.bool true) w1 ?_ (Grew.refl _ _) rfl
              clear hc hl
              go_simp
            · intro listed a w1 hl hc
              have h56 : a.tmps[56]?.getD undef = .bool true := hc.dep hl 4 56 rfl (by kernel_rfl)
              refine does_value rfl rfl (.bool true) w1 ?_ (Grew.refl _ _) rfl
              clear hc hl
              go_simp
            · intro listed a w1 hl hc
              refine does_call rfl (wanted_at rfl rfl (hc.dep hl 5 57 rfl (by kernel_rfl))) 8 #[] ?_ (((CW.out w1 (HB.out.trans (hc.g.below.mono s3))).mono fun e w' ⟨he, hw⟩ => ⟨_, he, Grew.of_below hw hc.g.below.size, rfl⟩))
              clear hc hl
              go_simp
            · intro listed a w1 hl hc
              have h57 : a.tmps[57]?.getD undef = .bool true := hc.dep hl 5 57 rfl (by kernel_rfl)
              have h58 : a.tmps[58]?.getD undef = .bool true := hc.dep hl 6 58 rfl (by kernel_rfl)
              refine does_value rfl rfl (.bool true) w1 ?_ (Grew.refl _ _) rfl
              clear hc hl
              go_simp
            · intro listed a w1 hl hc
              have h59 : a.tmps[59]?.getD undef = .bool true := hc.dep hl 7 59 rfl (by kernel_rfl)
              refine does_value rfl rfl (.bool true) w1 ?_ (Grew.refl _ _) rfl
              clear hc hl
              go_simp
          · intro w7 hg
            simp only [lay]
            go_frame
            go_wp2_with fail
            go_ret
            exact ⟨rfl, HB.out.trans (hg.below.mono s3)⟩
      · have hd1 : decide ((k : Int) < (m : Int)) = false := by simp; omega
        have HM := Lib.hid (show mac (xs ++ List.replicate k 0) ys = D by rw [mac_zero (by rw [HX.out]; omega), HD.out])
        have HOC := ho.cap
        have HO := Lib.hid ho
        have K1 := Lib.hid hk
        have L1 := hk.lt
        have HB := Lib.hid hB
        have s3 := hB.size
        clear ho hk hB hN hstD
        go_wp2_with fail
        refine wp_region_vals (by kernel_rfl) wr.heap.size [.agg (row8 D), .slice A3 N c3, .slice A' n' c', .agg (row8 D), .bool true, .bool true, .bool true, .bool true, .bool true] rfl (by kernel_rfl) ?_ ?_
        · refine ⟨?_, ?_, ?_, ?_, ?_, ?_, ?_, ?_, ?_, trivial⟩
          · intro listed a w1 hl hc
            have h7 : a.tmps[7]?.getD undef = .pointer (some ⟨q1, 0, none⟩) := (hc.was 7 (by kernel_rfl)).trans rfl
            refine does_value rfl rfl (.agg (row8 D)) w1 ?_ (Grew.refl _ _) rfl
            unfold execOp
            have hx : a.eval (.tmp 7) = .pointer (some ⟨q1, 0, none⟩) := by show a.tmps.getD 7 undef = _; rw [Array.getD_eq_getD_getElem?]; exact h7
            simp only [hx, run_load32 (K1.out.below hc.g.below L1) HDl.out, Sem.run_bind, Sem.run_pure, Result.andThen_ok]
          · intro listed a w1 hl hc
            have h9 : a.tmps[9]?.getD undef = .slice A3 N c3 := (hc.was 9 (by kernel_rfl)).trans rfl
            refine does_value rfl rfl (.slice A3 N c3) w1 ?_ (Grew.refl _ _) rfl
            clear hc hl
            go_simp
          · intro listed a w1 hl hc
            have h1 : a.tmps[1]?.getD undef = .slice A' n' c' := (hc.was 1 (by kernel_rfl)).trans rfl
            refine does_value rfl rfl (.slice A' n' c') w1 ?_ (Grew.refl _ _) rfl
            clear hc hl
            go_simp
          · intro listed a w1 hl hc
            have h53 : a.tmps[53]?.getD undef = .slice A3 N c3 := hc.dep hl 1 53 rfl (by kernel_rfl)
            have h54 : a.tmps[54]?.getD undef = .slice A' n' c' := hc.dep hl 2 54 rfl (by kernel_rfl)
            refine does_call rfl rfl 10 #[.slice A3 N c3, .slice A' n' c'] ?_ (((C2.out w1 _ N c3 _ (HB.out.trans (hc.g.below.mono s3)) HOC.1 HOC.2 (by omega) HO.out.len ((HO.out.rd.below hc.g.below).more hc.g.below.size) HM.out).mono fun e w' ⟨he, hw⟩ => ⟨_, he, Grew.of_below hw hc.g.below.size, rfl⟩))
            clear hc hl
            go_simp
          · intro listed a w1 hl hc
            have h52 : a.tmps[52]?.getD undef = .agg (row8 D) := hc.dep hl 0 52 rfl (by kernel_rfl)
            have h55 : a.tmps[55]?.getD undef = .agg (row8 D) := hc.dep hl 3 55 rfl (by kernel_rfl)
            have heq := equal_same D HDl.out w1
            refine does_value rfl rfl (.bool true) w1 ?_ (Grew.refl _ _) rfl
            clear hc hl
            go_simp
          · intro listed a w1 hl hc
            have h56 : a.tmps[56]?.getD undef = .bool true := hc.dep hl 4 56 rfl (by kernel_rfl)
            refine does_value rfl rfl (.bool true) w1 ?_ (Grew.refl _ _) rfl
            clear hc hl
            go_simp
          · intro listed a w1 hl hc
            refine does_call rfl (wanted_at rfl rfl (hc.dep hl 5 57 rfl (by kernel_rfl))) 8 #[] ?_ (((CW.out w1 (HB.out.trans (hc.g.below.mono s3))).mono fun e w' ⟨he, hw⟩ => ⟨_, he, Grew.of_below hw hc.g.below.size, rfl⟩))
            clear hc hl
            go_simp
          · intro listed a w1 hl hc
            have h57 : a.tmps[57]?.getD undef = .bool true := hc.dep hl 5 57 rfl (by kernel_rfl)
            have h58 : a.tmps[58]?.getD undef = .bool true := hc.dep hl 6 58 rfl (by kernel_rfl)
            refine does_value rfl rfl (.bool true) w1 ?_ (Grew.refl _ _) rfl
            clear hc hl
            go_simp
          · intro listed a w1 hl hc
            have h59 : a.tmps[59]?.getD undef = .bool true := hc.dep hl 7 59 rfl (by kernel_rfl)
            refine does_value rfl rfl (.bool true) w1 ?_ (Grew.refl _ _) rfl
            clear hc hl
            go_simp
        · intro w7 hg
          simp only [lay]
          go_frame
          go_wp2_with fail
          go_ret
          exact ⟨rfl, HB.out.trans (hg.below.mono s3)⟩
end Go.Proofs.YtdhbafmccphelaaDoor
