/-
  Layer 7: the law MacWhole.
-/
import Derived.Test.YtdhbafmccphelaaDoorMacW
import Derived.Test.YtdhbafmccphelaaDoorShaR
namespace Go.Proofs.YtdhbafmccphelaaDoor
open Go.RowKit
set_option linter.unusedVariables false
set_option maxRecDepth 100000

theorem blk_low {key : List UInt8} {j : Nat} (h : j < (shr key).length) (h' : j < (blk key).length) : (blk key)[j] = (shr key)[j] := by
  unfold blk at h' ⊢
  rw [List.getElem_append_left h]
theorem blk_high {key : List UInt8} {j : Nat} (h : ¬ j < (shr key).length) (h' : j < (blk key).length) : (blk key)[j] = 0 := by
  unfold blk at h' ⊢
  rw [List.getElem_append_right (by omega), List.getElem_replicate]
theorem msk_take {m : UInt8} {l : List UInt8} {j : Nat} (h : j < l.length) (x : UInt8) (hx : x = l[j] ^^^ m) : (msk m l).take j ++ [x] = (msk m l).take (j + 1) := by
  subst hx
  rw [List.take_add_one, List.getElem?_eq_getElem (by rw [length_msk]; exact h)]
  simp [msk]

set_option maxHeartbeats 4000000 in
theorem macWhole_walk (A : Option Addr) (n c : Nat) (xs : List UInt8) (A' : Option Addr) (n' c' : Nat) (ys : List UInt8) (w : World) (hT : Tabs w) (hn : n ≤ c) (hc : c ≤ maxLen) (hx : xs.length = n) (hr : Rd w w.heap.size A xs)
    (hn' : n' ≤ c') (hc' : c' ≤ maxLen) (hy : ys.length = n') (hr' : Rd w w.heap.size A' ys) :
    Calls Tryd.prog 4 #[.slice A n c, .slice A' n' c'] w fun e w' => e = .returned (.bool true) ∧ Below w.heap.size w w' := by
  have h2 := hT.2.2
  by_cases hbig0 : 4096 < n
  · have hb0 : decide ((n : Int) > 4096) = true := by simp; omega
    go_enter Tryd.func4, Tryd.ntmps4
    go_wp2_with (go_at_call 8; refine (works_any _ hT).mono ?_; rintro e w1 ⟨rfl, hB⟩)
    go_ret
    exact ⟨rfl, hB⟩
  have hb0 : decide ((n : Int) > 4096) = false := by simp; omega
  by_cases hbig1 : 4096 < n'
  · have hb1 : decide ((n' : Int) > 4096) = true := by simp; omega
    go_enter Tryd.func4, Tryd.ntmps4
    go_wp2_with (go_at_call 8; refine (works_any _ hT).mono ?_; rintro e w1 ⟨rfl, hB⟩)
    go_ret
    exact ⟨rfl, hB⟩
  have hb1 : decide ((n' : Int) > 4096) = false := by simp; omega
  obtain ⟨i8, h8⟩ := Tryd.ty8
  obtain ⟨S, hS⟩ : ∃ S, S = mac xs ys := ⟨_, rfl⟩
  have HSl := Lib.hid (show S.length = 32 by rw [hS, length_mac])
  obtain ⟨L, hL⟩ : ∃ L, L = blk xs := ⟨_, rfl⟩
  have HLl := Lib.hid (show L.length = 64 by rw [hL, length_blk])
  obtain ⟨M1, hM1⟩ : ∃ M1, M1 = msk 54 L := ⟨_, rfl⟩
  obtain ⟨M2, hM2⟩ : ∃ M2, M2 = msk 92 L := ⟨_, rfl⟩
  have HM1 := Lib.hid hM1
  have HM2 := Lib.hid hM2
  have HM1l := Lib.hid (show M1.length = 64 by rw [hM1, length_msk, HLl.out])
  have HM2l := Lib.hid (show M2.length = 64 by rw [hM2, length_msk, HLl.out])
  obtain ⟨D, hD⟩ : ∃ D, D = dig (M1 ++ ys) := ⟨_, rfl⟩
  have HD := Lib.hid hD
  have HDl := Lib.hid (show D.length = 32 by rw [hD, length_dig])
  have hszD : (row8 D).size = 32 := by rw [size_row8, HDl.out]
  have hstD := fun W : World => run_storeCells_new (P := Tryd.prog) W 25 #[.int .u8 0, .int .u8 0, .int .u8 0, .int .u8 0, .int .u8 0, .int .u8 0, .int .u8 0, .int .u8 0, .int .u8 0, .int .u8 0, .int .u8 0, .int .u8 0, .int .u8 0, .int .u8 0, .int .u8 0, .int .u8 0, .int .u8 0, .int .u8 0, .int .u8 0, .int .u8 0, .int .u8 0, .int .u8 0, .int .u8 0, .int .u8 0, .int .u8 0, .int .u8 0, .int .u8 0, .int .u8 0, .int .u8 0, .int .u8 0, .int .u8 0, .int .u8 0] (row8 D) ((show (Tryd.prog.info? 25).map (·.size) = some 32 by kernel_rfl).trans (by rw [hszD])) (by rw [hszD]; rfl) (row8_one _)
  have HS := Lib.hid (show dig (M2 ++ D) = S by rw [hS, hM2, hD, hM1, hL]; rfl)
  obtain ⟨sh, hsh⟩ : ∃ sh, sh = shr xs := ⟨_, rfl⟩
  have HLOW : Hid (∀ j (h : j < sh.length) (h' : j < L.length), L[j] = sh[j]) := Lib.hid (by subst hsh hL; exact fun j h h' => blk_low h h')
  have HHIGH : Hid (∀ j (h : ¬ j < sh.length) (h' : j < L.length), L[j] = 0) := Lib.hid (by subst hsh hL; exact fun j h h' => blk_high h h')
  have heq := equal_same S HSl.out
  have C1 : Hid (∀ W : World, Below w.heap.size w W → Calls Tryd.prog 10 #[.slice A n c, .slice A' n' c'] W fun e w' => e = .returned (.agg (row8 S)) ∧ Below W.heap.size W w') := Lib.hid fun W g => by
    rw [hS]
    exact macSum_any A n c xs A' n' c' ys W (hT.below g h2) hn hc hx ((hr.below g).more g.size) (by omega) hn' hc' hy ((hr'.below g).more g.size) (by omega)
  have C2 : Hid (∀ (W : World) (B : Option Addr) (k d : Nat) (zs : List UInt8), Below w.heap.size w W → k ≤ d → d ≤ maxLen → k ≤ 9000 → zs.length = k → Rd W W.heap.size B zs → Calls Tryd.prog 14 #[.slice B k d] W fun e w' => e = .returned (.agg (row8 (dig zs))) ∧ Below W.heap.size W w') := Lib.hid fun W B k d zs g hk hd hk5 hz hzr => sum_any B k d zs W (hT.below g h2) hk hd hz hzr (by omega)
  have CW : Hid (∀ W : World, Below w.heap.size w W → Calls Tryd.prog 8 #[] W fun e w' => e = .returned (.bool true) ∧ Below W.heap.size W w') := Lib.hid fun W g => works_any W (hT.below g h2)
  have HX := Lib.hid hx
  have HY := Lib.hid hy
  have HR := Lib.hid hr
  have HR' := Lib.hid hr'
  have HC := Lib.hid hc
  have HSH := Lib.hid hsh
  clear hx hr hc hy hr' hc' hT hS hL hM1 hM2 hD hsh
  by_cases h64 : 64 < n
  · have hb64 : decide ((n : Int) > 64) = true := by simp; omega
    have HNK := Lib.hid (show sh.length = 32 by rw [HSH.out, shr_long (by rw [HX.out]; exact h64), length_dig])
    have HSD := Lib.hid (show dig xs = sh by rw [HSH.out, shr_long (by rw [HX.out]; exact h64)])
    have hszE : (row8 sh).size = 32 := by rw [size_row8, HNK.out]
    have hstE := fun W : World => run_storeCells_new (P := Tryd.prog) W 25 #[.int .u8 0, .int .u8 0, .int .u8 0, .int .u8 0, .int .u8 0, .int .u8 0, .int .u8 0, .int .u8 0, .int .u8 0, .int .u8 0, .int .u8 0, .int .u8 0, .int .u8 0, .int .u8 0, .int .u8 0, .int .u8 0, .int .u8 0, .int .u8 0, .int .u8 0, .int .u8 0, .int .u8 0, .int .u8 0, .int .u8 0, .int .u8 0, .int .u8 0, .int .u8 0, .int .u8 0, .int .u8 0, .int .u8 0, .int .u8 0, .int .u8 0, .int .u8 0] (row8 sh) ((show (Tryd.prog.info? 25).map (·.size) = some 32 by kernel_rfl).trans (by rw [hszE])) (by rw [hszE]; rfl) (row8_one _)
    go_enter Tryd.func4, Tryd.ntmps4
    go_wp2_with fail
    refine (copyBytes_any A n c xs w (by omega) HX.out HR.out).mono ?_
    rintro e w1 ⟨A0, c0, rfl, -, hb1⟩
    go_wp2_with fail
    refine (C2.out w1 A n c xs hb1 hn HC.out (by omega) HX.out ((HR.out.below hb1).more hb1.size)).mono ?_
    rintro e w2 ⟨rfl, hb2⟩
    rw [HSD.out]
    have HB3 := Lib.hid ((hb1.trans (hb2.mono hb1.size)).alloc (Nat.le_trans hb1.size hb2.size) (.cells (row8 sh) 25))
    have d3 : Blk (w2.alloc (.cells (row8 sh) 25)) w2.heap.size 25 (row8 sh) := Blk.new _ _ _
    have HRK := Lib.hid (show Rd (w2.alloc (.cells (row8 sh) 25)) (w2.alloc (.cells (row8 sh) 25)).heap.size (some ⟨w2.heap.size, 0, none⟩) sh from RowAt.rd d3 0 sh (fun j hj => by simp))
    have hslE := fun W : World => slice_whole (P := Tryd.prog) Tryd.underlying25 (by kernel_rfl) w2.heap.size 0 W
    clear hb1 hb2 d3
    go_wp2_with fail
    generalize w2.alloc (.cells (row8 sh) 25) = w3 at HB3 HRK ⊢
    generalize w2.heap.size = q2 at HRK hslE ⊢
    clear hstE hslE
    go_wp2_with fail
    go_loopw [7, 8, 9] (fun v u i wr => ∃ (j : Nat) (A1 : Option Addr) (c1 : Nat) (A2 : Option Addr) (c2 : Nat), j ≤ 64 ∧ i = .int .i64 j ∧ v = .slice A1 j c1 ∧ u = .slice A2 j c2 ∧ Own8 wr 5 w3.heap.size A1 j c1 (M1.take j) ∧ Own8 wr 5 w3.heap.size A2 j c2 (M2.take j) ∧ Hid (Ap A1 A2) ∧ Below w3.heap.size w3 wr) (fun _ _ i _ => 64 - (intOf i).toNat)
    case atStart => exact ⟨0, none, 0, none, 0, by omega, rfl, rfl, rfl, Own8.nil _ _ _, Own8.nil _ _ _, Lib.hid (fun g h => by cases h), Below.refl _ _⟩
    case round =>
      obtain ⟨j, A1, c1, A2, c2, hj, rfl, rfl, rfl, ho1, ho2, HAP, hB⟩ := hrel
      have HB := Lib.hid (HB3.out.trans (hB.mono HB3.out.size))
      have s4 := hB.size
      by_cases hlt : j < 64
      · have hd1 : decide ((j : Int) < 64) = true := by simp; omega
        by_cases hlt' : j < 32
        · have hd2 : decide ((j : Int) < (32 : Int)) = true := by simp; omega
          have hjs : j < sh.length := by rw [HNK.out]; exact hlt'
          have hjL : j < L.length := by rw [HLl.out]; exact hlt
          obtain ⟨x, hx⟩ : ∃ x, x = sh[j] := ⟨_, rfl⟩
          have hxL : L[j] = x := by rw [HLOW.out j hjs hjL, hx]
          obtain ⟨b, o, hA, hbl, hcell⟩ := (HRK.out.below hB).at_ (by intro h; rw [h] at hjs; simp at hjs)
          obtain ⟨rfl, rfl⟩ : q2 = b ∧ 0 = o := by injection hA with hA; injection hA with h1 h2; exact ⟨h1, h2⟩
          have ck : wr.cell? ⟨q2, j, none⟩ = some (.int .u8 (x.toNat : Int)) := by have := hcell j hjs; rw [Nat.zero_add] at this; rw [this, hx]
          clear hA
          have HE1 := Lib.hid (msk_take (m := 54) hjL (x ^^^ 54) (by rw [hxL]))
          have HE2 := Lib.hid (msk_take (m := 92) hjL (x ^^^ 92) (by rw [hxL]))
          rw [← HM1.out] at HE1
          rw [← HM2.out] at HE2
          clear hx hxL hcell hjs hjL
          have h1 := rd_one wr 5 (bits .xor .u8 (x.toNat : Int) 54) (x ^^^ 54) (bits_xor_u8 x 54)
          have o1 := ho1.alloc (.cells #[.int .u8 (bits .xor .u8 (x.toNat : Int) 54)] 5)
          have o2 := ho2.alloc (.cells #[.int .u8 (bits .xor .u8 (x.toNat : Int) 54)] 5)
          have hb1 := hB.alloc hB.size (.cells #[.int .u8 (bits .xor .u8 (x.toNat : Int) 54)] 5)
          clear ho1 ho2 hB
          go_wp2_with (first
            | (at_builtin; refine wpList_append8 h8 _ rfl _ _ rfl w3.heap.size _ _ _ _ rfl o1 _ _ _ _ _ rfl rfl h1 (by omega) (by simp; omega) ?_; intro A4 c4 w4 h4 hg4 ho4; obtain ⟨o2', hap'⟩ := own_pair o1 o2 HAP.out hg4 ho4.out; have hb4 := hb1.grown hg4 hb1.size o1.blk; have o3 := h4.alloc (.cells #[.int .u8 (bits .xor .u8 (x.toNat : Int) 92)] 5); have o4 := o2'.alloc (.cells #[.int .u8 (bits .xor .u8 (x.toNat : Int) 92)] 5); have hb5 := hb4.alloc hb4.size (.cells #[.int .u8 (bits .xor .u8 (x.toNat : Int) 92)] 5); have h5 := rd_one w4 5 (bits .xor .u8 (x.toNat : Int) 92) (x ^^^ 92) (bits_xor_u8 x 92); have s5 := hb4.size; clear o1 o2 hb1 h1 hg4 ho4 h4 o2' hb4)
            | (at_builtin; refine wpList_append8 h8 _ rfl _ _ rfl w3.heap.size _ _ _ _ rfl o4 _ _ _ _ _ rfl rfl h5 (by omega) (by simp; omega) ?_; intro A6 c6 w6 h6 hg6 ho6; obtain ⟨o7, hap7⟩ := own_pair o4 o3 (Ap.symm hap') hg6 ho6.out; have hb6 := hb5.grown hg6 hb5.size o4.blk))
          go_roundw
          case rel =>
            rw [HE1.out] at o7
            rw [HE2.out] at h6
            exact ⟨j + 1, A4, c4, A6, c6, by omega, by go_num, rfl, rfl, o7, h6, Lib.hid (Ap.symm hap7), hb6⟩
          case measure => simp [intOf]; omega
        · have hd2 : decide ((j : Int) < (32 : Int)) = false := by simp; omega
          have hjL : j < L.length := by rw [HLl.out]; exact hlt
          have hxL : L[j] = 0 := HHIGH.out j (by rw [HNK.out]; exact hlt') hjL
          have HE1 := Lib.hid (msk_take (m := 54) hjL 54 (by rw [hxL]; rfl))
          have HE2 := Lib.hid (msk_take (m := 92) hjL 92 (by rw [hxL]; rfl))
          rw [← HM1.out] at HE1
          rw [← HM2.out] at HE2
          clear hxL hjL
          have h1 := rd_one wr 5 (54) 54 rfl
          have o1 := ho1.alloc (.cells #[.int .u8 (54)] 5)
          have o2 := ho2.alloc (.cells #[.int .u8 (54)] 5)
          have hb1 := hB.alloc hB.size (.cells #[.int .u8 (54)] 5)
          clear ho1 ho2 hB
          go_wp2_with (first
            | (at_builtin; refine wpList_append8 h8 _ rfl _ _ rfl w3.heap.size _ _ _ _ rfl o1 _ _ _ _ _ rfl rfl h1 (by omega) (by simp; omega) ?_; intro A4 c4 w4 h4 hg4 ho4; obtain ⟨o2', hap'⟩ := own_pair o1 o2 HAP.out hg4 ho4.out; have hb4 := hb1.grown hg4 hb1.size o1.blk; have o3 := h4.alloc (.cells #[.int .u8 (92)] 5); have o4 := o2'.alloc (.cells #[.int .u8 (92)] 5); have hb5 := hb4.alloc hb4.size (.cells #[.int .u8 (92)] 5); have h5 := rd_one w4 5 (92) 92 rfl; have s5 := hb4.size; clear o1 o2 hb1 h1 hg4 ho4 h4 o2' hb4)
            | (at_builtin; refine wpList_append8 h8 _ rfl _ _ rfl w3.heap.size _ _ _ _ rfl o4 _ _ _ _ _ rfl rfl h5 (by omega) (by simp; omega) ?_; intro A6 c6 w6 h6 hg6 ho6; obtain ⟨o7, hap7⟩ := own_pair o4 o3 (Ap.symm hap') hg6 ho6.out; have hb6 := hb5.grown hg6 hb5.size o4.blk))
          go_roundw
          case rel =>
            rw [HE1.out] at o7
            rw [HE2.out] at h6
            exact ⟨j + 1, A4, c4, A6, c6, by omega, by go_num, rfl, rfl, o7, h6, Lib.hid (Ap.symm hap7), hb6⟩
          case measure => simp [intOf]; omega
      · have hd1 : decide ((j : Int) < 64) = false := by simp; omega
        have hj64 : j = 64 := by omega
        subst hj64
        rw [List.take_of_length_le (by rw [HM1l.out]; omega)] at ho1
        rw [List.take_of_length_le (by rw [HM2l.out]; omega)] at ho2
        have HO1 := Lib.hid ho1
        have HO2 := Lib.hid ho2
        have r1 : Rd wr w.heap.size A' ys := HR'.out.below HB.out
        have hl1 : w.heap.size ≤ w3.heap.size := HB3.out.size
        clear hB
        go_wp2_with (at_builtin; refine wpList_append8 h8 _ rfl _ _ rfl w3.heap.size _ _ _ _ rfl ho1 _ _ _ _ _ rfl HY.out r1 (by omega) (by omega) ?_; intro A4 c4 w4 h4 hg4 ho4)
        obtain ⟨ho2', hap'⟩ := own_pair HO1.out HO2.out HAP.out hg4 ho4.out
        have B4 := HB.out.grown hg4 HB.out.size (fun q hq => Nat.le_trans hl1 (HO1.out.blk q hq))
        have R4 := h4.rd
        have z4 := hg4.size
        clear ho1 ho2 HO1 HO2 HAP hg4 ho4 r1 HB
        have cap4 := h4.cap
        refine (C2.out w4 _ (64 + n') c4 (M1 ++ ys) B4 cap4.1 cap4.2 (by omega) (by rw [List.length_append, HM1l.out, HY.out]) R4).mono ?_
        rintro e w5 ⟨rfl, hb5⟩
        rw [← HD.out]
        have B5 := (B4.trans (hb5.mono B4.size)).alloc (Nat.le_trans B4.size hb5.size) (.cells (row8 D) 25)
        have d5 : Blk (w5.alloc (.cells (row8 D) 25)) w5.heap.size 25 (row8 D) := Blk.new _ _ _
        have o5 := (ho2'.below hb5 (Nat.le_refl _)).alloc (.cells (row8 D) 25)
        have z5 := hb5.size
        have R5 : Rd (w5.alloc (.cells (row8 D) 25)) (w5.alloc (.cells (row8 D) 25)).heap.size (some ⟨w5.heap.size, 0, none⟩) D := RowAt.rd d5 0 D (fun j hj => by simp)
        have z6 : (w5.alloc (.cells (row8 D) 25)).heap.size = w5.heap.size + 1 := by simp
        have hbase : w3.heap.size ≤ (w5.alloc (.cells (row8 D) 25)).heap.size := by omega
        have hsl := fun W : World => slice_whole (P := Tryd.prog) Tryd.underlying25 (by kernel_rfl) w5.heap.size 0 W
        clear h4 ho2' hap' R4 B4 hb5 d5 cap4 z6
        go_wp2_with (at_builtin; refine wpList_append8 h8 _ rfl _ _ rfl w3.heap.size _ _ _ _ rfl o5 _ _ _ _ _ rfl HDl.out R5 (by omega) hbase ?_; intro A7 c7 w7 h7 hg7 ho7)
        have B7 := B5.grown hg7 B5.size (fun q hq => Nat.le_trans hl1 (o5.blk q hq))
        have R7 := h7.rd
        have cap7 := h7.cap
        have L7 := h7.len
        clear h7 hg7 ho7 R5 B5 o5 hsl hstD
        refine (C1.out w7 B7).mono ?_
        rintro e w8 ⟨rfl, hb8⟩
        have B8 := B7.trans (hb8.mono B7.size)
        have R8 := (R7.below hb8).more hb8.size
        go_wp2_with fail
        refine (C2.out w8 _ (64 + 32) c7 (M2 ++ D) B8 cap7.1 cap7.2 (by omega) L7 R8).mono ?_
        rintro e w9 ⟨rfl, hb9⟩
        rw [HS.out]
        have B9 := B8.trans (hb9.mono B8.size)
        clear B7 R7 cap7 L7 hb8 B8 R8 hb9
        go_wp2_with fail
        refine (CW.out w9 B9).mono ?_
        rintro e w10 ⟨rfl, hb10⟩
        go_wp2_with fail
        go_ret
        exact ⟨rfl, B9.trans (hb10.mono B9.size)⟩
  · have hb64 : decide ((n : Int) > 64) = false := by simp; omega
    have HNK := Lib.hid (show sh.length = n by rw [HSH.out, shr_short (by rw [HX.out]; exact h64), HX.out])
    have hn64 : n ≤ 64 := by omega
    go_enter Tryd.func4, Tryd.ntmps4
    go_wp2_with fail
    refine (copyBytes_any A n c xs w (by omega) HX.out HR.out).mono ?_
    rintro e w3 ⟨A0, c0, rfl, ho, hb1⟩
    have HRK := Lib.hid (show Rd w3 w3.heap.size A0 sh by rw [HSH.out, shr_short (by rw [HX.out]; exact h64)]; exact ho.rd)
    have HB3 := Lib.hid hb1
    have hcap0 := ho.cap
    clear ho hb1
    go_wp2_with fail
    go_loopw [7, 8, 9] (fun v u i wr => ∃ (j : Nat) (A1 : Option Addr) (c1 : Nat) (A2 : Option Addr) (c2 : Nat), j ≤ 64 ∧ i = .int .i64 j ∧ v = .slice A1 j c1 ∧ u = .slice A2 j c2 ∧ Own8 wr 5 w3.heap.size A1 j c1 (M1.take j) ∧ Own8 wr 5 w3.heap.size A2 j c2 (M2.take j) ∧ Hid (Ap A1 A2) ∧ Below w3.heap.size w3 wr) (fun _ _ i _ => 64 - (intOf i).toNat)
    case atStart => exact ⟨0, none, 0, none, 0, by omega, rfl, rfl, rfl, Own8.nil _ _ _, Own8.nil _ _ _, Lib.hid (fun g h => by cases h), Below.refl _ _⟩
    case round =>
      obtain ⟨j, A1, c1, A2, c2, hj, rfl, rfl, rfl, ho1, ho2, HAP, hB⟩ := hrel
      have HB := Lib.hid (HB3.out.trans (hB.mono HB3.out.size))
      have s4 := hB.size
      by_cases hlt : j < 64
      · have hd1 : decide ((j : Int) < 64) = true := by simp; omega
        by_cases hlt' : j < n
        · have hd2 : decide ((j : Int) < (n : Int)) = true := by simp; omega
          have hjs : j < sh.length := by rw [HNK.out]; exact hlt'
          have hjL : j < L.length := by rw [HLl.out]; exact hlt
          obtain ⟨x, hx⟩ : ∃ x, x = sh[j] := ⟨_, rfl⟩
          have hxL : L[j] = x := by rw [HLOW.out j hjs hjL, hx]
          obtain ⟨b, o, hA, hbl, hcell⟩ := (HRK.out.below hB).at_ (by intro h; rw [h] at hjs; simp at hjs)
          subst hA
          have ck : wr.cell? ⟨b, o + j, none⟩ = some (.int .u8 (x.toNat : Int)) := by rw [hcell j hjs, hx]
          have HE1 := Lib.hid (msk_take (m := 54) hjL (x ^^^ 54) (by rw [hxL]))
          have HE2 := Lib.hid (msk_take (m := 92) hjL (x ^^^ 92) (by rw [hxL]))
          rw [← HM1.out] at HE1
          rw [← HM2.out] at HE2
          clear hx hxL hcell hjs hjL
          have h1 := rd_one wr 5 (bits .xor .u8 (x.toNat : Int) 54) (x ^^^ 54) (bits_xor_u8 x 54)
          have o1 := ho1.alloc (.cells #[.int .u8 (bits .xor .u8 (x.toNat : Int) 54)] 5)
          have o2 := ho2.alloc (.cells #[.int .u8 (bits .xor .u8 (x.toNat : Int) 54)] 5)
          have hb1 := hB.alloc hB.size (.cells #[.int .u8 (bits .xor .u8 (x.toNat : Int) 54)] 5)
          clear ho1 ho2 hB
          go_wp2_with (first
            | (at_builtin; refine wpList_append8 h8 _ rfl _ _ rfl w3.heap.size _ _ _ _ rfl o1 _ _ _ _ _ rfl rfl h1 (by omega) (by simp; omega) ?_; intro A4 c4 w4 h4 hg4 ho4; obtain ⟨o2', hap'⟩ := own_pair o1 o2 HAP.out hg4 ho4.out; have hb4 := hb1.grown hg4 hb1.size o1.blk; have o3 := h4.alloc (.cells #[.int .u8 (bits .xor .u8 (x.toNat : Int) 92)] 5); have o4 := o2'.alloc (.cells #[.int .u8 (bits .xor .u8 (x.toNat : Int) 92)] 5); have hb5 := hb4.alloc hb4.size (.cells #[.int .u8 (bits .xor .u8 (x.toNat : Int) 92)] 5); have h5 := rd_one w4 5 (bits .xor .u8 (x.toNat : Int) 92) (x ^^^ 92) (bits_xor_u8 x 92); have s5 := hb4.size; clear o1 o2 hb1 h1 hg4 ho4 h4 o2' hb4)
            | (at_builtin; refine wpList_append8 h8 _ rfl _ _ rfl w3.heap.size _ _ _ _ rfl o4 _ _ _ _ _ rfl rfl h5 (by omega) (by simp; omega) ?_; intro A6 c6 w6 h6 hg6 ho6; obtain ⟨o7, hap7⟩ := own_pair o4 o3 (Ap.symm hap') hg6 ho6.out; have hb6 := hb5.grown hg6 hb5.size o4.blk))
          go_roundw
          case rel =>
            rw [HE1.out] at o7
            rw [HE2.out] at h6
            exact ⟨j + 1, A4, c4, A6, c6, by omega, by go_num, rfl, rfl, o7, h6, Lib.hid (Ap.symm hap7), hb6⟩
          case measure => simp [intOf]; omega
        · have hd2 : decide ((j : Int) < (n : Int)) = false := by simp; omega
          have hjL : j < L.length := by rw [HLl.out]; exact hlt
          have hxL : L[j] = 0 := HHIGH.out j (by rw [HNK.out]; exact hlt') hjL
          have HE1 := Lib.hid (msk_take (m := 54) hjL 54 (by rw [hxL]; rfl))
          have HE2 := Lib.hid (msk_take (m := 92) hjL 92 (by rw [hxL]; rfl))
          rw [← HM1.out] at HE1
          rw [← HM2.out] at HE2
          clear hxL hjL
          have h1 := rd_one wr 5 (54) 54 rfl
          have o1 := ho1.alloc (.cells #[.int .u8 (54)] 5)
          have o2 := ho2.alloc (.cells #[.int .u8 (54)] 5)
          have hb1 := hB.alloc hB.size (.cells #[.int .u8 (54)] 5)
          clear ho1 ho2 hB
          go_wp2_with (first
            | (at_builtin; refine wpList_append8 h8 _ rfl _ _ rfl w3.heap.size _ _ _ _ rfl o1 _ _ _ _ _ rfl rfl h1 (by omega) (by simp; omega) ?_; intro A4 c4 w4 h4 hg4 ho4; obtain ⟨o2', hap'⟩ := own_pair o1 o2 HAP.out hg4 ho4.out; have hb4 := hb1.grown hg4 hb1.size o1.blk; have o3 := h4.alloc (.cells #[.int .u8 (92)] 5); have o4 := o2'.alloc (.cells #[.int .u8 (92)] 5); have hb5 := hb4.alloc hb4.size (.cells #[.int .u8 (92)] 5); have h5 := rd_one w4 5 (92) 92 rfl; have s5 := hb4.size; clear o1 o2 hb1 h1 hg4 ho4 h4 o2' hb4)
            | (at_builtin; refine wpList_append8 h8 _ rfl _ _ rfl w3.heap.size _ _ _ _ rfl o4 _ _ _ _ _ rfl rfl h5 (by omega) (by simp; omega) ?_; intro A6 c6 w6 h6 hg6 ho6; obtain ⟨o7, hap7⟩ := own_pair o4 o3 (Ap.symm hap') hg6 ho6.out; have hb6 := hb5.grown hg6 hb5.size o4.blk))
          go_roundw
          case rel =>
            rw [HE1.out] at o7
            rw [HE2.out] at h6
            exact ⟨j + 1, A4, c4, A6, c6, by omega, by go_num, rfl, rfl, o7, h6, Lib.hid (Ap.symm hap7), hb6⟩
          case measure => simp [intOf]; omega
      · have hd1 : decide ((j : Int) < 64) = false := by simp; omega
        have hj64 : j = 64 := by omega
        subst hj64
        rw [List.take_of_length_le (by rw [HM1l.out]; omega)] at ho1
        rw [List.take_of_length_le (by rw [HM2l.out]; omega)] at ho2
        have HO1 := Lib.hid ho1
        have HO2 := Lib.hid ho2
        have r1 : Rd wr w.heap.size A' ys := HR'.out.below HB.out
        have hl1 : w.heap.size ≤ w3.heap.size := HB3.out.size
        clear hB
        go_wp2_with (at_builtin; refine wpList_append8 h8 _ rfl _ _ rfl w3.heap.size _ _ _ _ rfl ho1 _ _ _ _ _ rfl HY.out r1 (by omega) (by omega) ?_; intro A4 c4 w4 h4 hg4 ho4)
        obtain ⟨ho2', hap'⟩ := own_pair HO1.out HO2.out HAP.out hg4 ho4.out
        have B4 := HB.out.grown hg4 HB.out.size (fun q hq => Nat.le_trans hl1 (HO1.out.blk q hq))
        have R4 := h4.rd
        have z4 := hg4.size
        clear ho1 ho2 HO1 HO2 HAP hg4 ho4 r1 HB
        have cap4 := h4.cap
        refine (C2.out w4 _ (64 + n') c4 (M1 ++ ys) B4 cap4.1 cap4.2 (by omega) (by rw [List.length_append, HM1l.out, HY.out]) R4).mono ?_
        rintro e w5 ⟨rfl, hb5⟩
        rw [← HD.out]
        have B5 := (B4.trans (hb5.mono B4.size)).alloc (Nat.le_trans B4.size hb5.size) (.cells (row8 D) 25)
        have d5 : Blk (w5.alloc (.cells (row8 D) 25)) w5.heap.size 25 (row8 D) := Blk.new _ _ _
        have o5 := (ho2'.below hb5 (Nat.le_refl _)).alloc (.cells (row8 D) 25)
        have z5 := hb5.size
        have R5 : Rd (w5.alloc (.cells (row8 D) 25)) (w5.alloc (.cells (row8 D) 25)).heap.size (some ⟨w5.heap.size, 0, none⟩) D := RowAt.rd d5 0 D (fun j hj => by simp)
        have z6 : (w5.alloc (.cells (row8 D) 25)).heap.size = w5.heap.size + 1 := by simp
        have hbase : w3.heap.size ≤ (w5.alloc (.cells (row8 D) 25)).heap.size := by omega
        have hsl := fun W : World => slice_whole (P := Tryd.prog) Tryd.underlying25 (by kernel_rfl) w5.heap.size 0 W
        clear h4 ho2' hap' R4 B4 hb5 d5 cap4 z6
        go_wp2_with (at_builtin; refine wpList_append8 h8 _ rfl _ _ rfl w3.heap.size _ _ _ _ rfl o5 _ _ _ _ _ rfl HDl.out R5 (by omega) hbase ?_; intro A7 c7 w7 h7 hg7 ho7)
        have B7 := B5.grown hg7 B5.size (fun q hq => Nat.le_trans hl1 (o5.blk q hq))
        have R7 := h7.rd
        have cap7 := h7.cap
        have L7 := h7.len
        clear h7 hg7 ho7 R5 B5 o5 hsl hstD
        refine (C1.out w7 B7).mono ?_
        rintro e w8 ⟨rfl, hb8⟩
        have B8 := B7.trans (hb8.mono B7.size)
        have R8 := (R7.below hb8).more hb8.size
        go_wp2_with fail
        refine (C2.out w8 _ (64 + 32) c7 (M2 ++ D) B8 cap7.1 cap7.2 (by omega) L7 R8).mono ?_
        rintro e w9 ⟨rfl, hb9⟩
        rw [HS.out]
        have B9 := B8.trans (hb9.mono B8.size)
        clear B7 R7 cap7 L7 hb8 B8 R8 hb9
        go_wp2_with fail
        refine (CW.out w9 B9).mono ?_
        rintro e w10 ⟨rfl, hb10⟩
        go_wp2_with fail
        go_ret
        exact ⟨rfl, B9.trans (hb10.mono B9.size)⟩
end Go.Proofs.YtdhbafmccphelaaDoor
