/-
  Layer 7: the law MacAlike.
-/
import Derived.Test.YtdhbafmccphelaaDoorMacW
import Derived.Test.YtdhbafmccphelaaDoorMacR
namespace Go.Proofs.YtdhbafmccphelaaDoor
open Go.RowKit
set_option linter.unusedVariables false
set_option maxRecDepth 100000

theorem same_yes (B B' : Nat) (A A' : Option Addr) (n n' c c' : Nat) (xs ys : List UInt8) (w : World) (hx : xs.length = n) (hy : ys.length = n') (hn : n ≤ maxLen) (hn' : n' ≤ maxLen) (rx : Rd w B A xs) (ry : Rd w B' A' ys) (h : xs = ys) :
    Calls Tryd.prog 15 #[.slice A n c, .slice A' n' c'] w fun e w' => e = .returned (.bool true) ∧ w = w' := by
  have := same_any B B' A A' n n' c c' xs ys w hx hy hn hn' rx ry
  rw [decide_eq_true h] at this
  exact this
theorem same_no (B B' : Nat) (A A' : Option Addr) (n n' c c' : Nat) (xs ys : List UInt8) (w : World) (hx : xs.length = n) (hy : ys.length = n') (hn : n ≤ maxLen) (hn' : n' ≤ maxLen) (rx : Rd w B A xs) (ry : Rd w B' A' ys) (h : xs ≠ ys) :
    Calls Tryd.prog 15 #[.slice A n c, .slice A' n' c'] w fun e w' => e = .returned (.bool false) ∧ w = w' := by
  have := same_any B B' A A' n n' c c' xs ys w hx hy hn hn' rx ry
  rw [decide_eq_false h] at this
  exact this
theorem bit_of {r : Nat} (hr : r < 8) : ∃ e : UInt8, e ≠ 0 ∧ (2 : Int) ^ r % 256 = (e.toNat : Int) := by
  refine ⟨UInt8.ofNat (2 ^ r), ?_, ?_⟩
  · have h8 : r = 0 ∨ r = 1 ∨ r = 2 ∨ r = 3 ∨ r = 4 ∨ r = 5 ∨ r = 6 ∨ r = 7 := by omega
    rcases h8 with rfl | rfl | rfl | rfl | rfl | rfl | rfl | rfl <;> decide
  · have h8 : r = 0 ∨ r = 1 ∨ r = 2 ∨ r = 3 ∨ r = 4 ∨ r = 5 ∨ r = 6 ∨ r = 7 := by omega
    rcases h8 with rfl | rfl | rfl | rfl | rfl | rfl | rfl | rfl <;> rfl
theorem turned_ne (v e : UInt8) (he : e ≠ 0) : v ^^^ e ≠ v := fun h => he (by
  have h2 : v ^^^ (v ^^^ e) = v ^^^ v := by rw [h]
  rwa [← UInt8.xor_assoc, UInt8.xor_self, UInt8.zero_xor] at h2)
theorem turned_back (v e : UInt8) : (v ^^^ e) ^^^ e = v := by rw [UInt8.xor_assoc, UInt8.xor_self, UInt8.xor_zero]
/-- Bytes with one turned are others. -/
theorem set_other {xs : List UInt8} {p : Nat} (hp : p < xs.length) (v : UInt8) (hv : v ≠ xs[p]) : xs ≠ xs.set p v := by
  intro h
  have h1 : (xs.set p v)[p]? = some v := by rw [List.getElem?_set_self hp]
  rw [← h, List.getElem?_eq_getElem hp] at h1
  injection h1 with h1
  exact hv h1.symm

set_option maxHeartbeats 4000000 in
theorem macAlike_walk (A : Option Addr) (n c : Nat) (xs : List UInt8) (A' : Option Addr) (n' c' : Nat) (ys : List UInt8) (A'' : Option Addr) (n'' c'' : Nat) (zs : List UInt8) (at_ : Int) (w : World) (hT : Tabs w) (hn : n ≤ c) (hc : c ≤ maxLen) (hx : xs.length = n) (hr : Rd w w.heap.size A xs)
    (hn' : n' ≤ c') (hc' : c' ≤ maxLen) (hy : ys.length = n') (hr' : Rd w w.heap.size A' ys) (hn'' : n'' ≤ c'') (hc'' : c'' ≤ maxLen) (hz : zs.length = n'') (hr'' : Rd w w.heap.size A'' zs) (hat : (Lit.int .i64 at_).wf = true) :
    Calls Tryd.prog 6 #[.agg #[.slice A n c, .slice A' n' c', .slice A'' n'' c'', .int .i64 at_]] w fun e w' => e = .returned (.bool true) ∧ Below w.heap.size w w' := by
  have h2 := hT.2.2
  obtain ⟨i8, h8⟩ := Tryd.ty8
  obtain ⟨w1, hw1⟩ : ∃ w1, w1 = w.alloc (.cells #[.slice A n c, .slice A' n' c', .slice A'' n'' c'', .int .i64 at_] 31) := ⟨_, rfl⟩
  have kb : Blk w1 w.heap.size 31 #[.slice A n c, .slice A' n' c', .slice A'' n'' c'', .int .i64 at_] := by rw [hw1]; exact Blk.new _ _ _
  have B1 : Below w.heap.size w w1 := by rw [hw1]; exact below_new _ _
  have CW : Hid (∀ W : World, Below w.heap.size w W → Calls Tryd.prog 8 #[] W fun e w' => e = .returned (.bool true) ∧ Below W.heap.size W w') := Lib.hid fun W g => works_any W (hT.below g h2)
  by_cases hbig0 : 4096 < n
  · have hb0 : decide ((n : Int) > 4096) = true := by simp; omega
    go_enter Tryd.func6, Tryd.ntmps6
    go_wp2_with (go_at_call 8; rw [← hw1]; refine (CW.out w1 B1).mono ?_; rintro e w2 ⟨rfl, hB⟩)
    go_ret
    exact ⟨rfl, B1.trans (hB.mono B1.size)⟩
  have hb0 : decide ((n : Int) > 4096) = false := by simp; omega
  by_cases hbig1 : 4096 < n'
  · have hb1 : decide ((n' : Int) > 4096) = true := by simp; omega
    go_enter Tryd.func6, Tryd.ntmps6
    go_wp2_with (go_at_call 8; rw [← hw1]; refine (CW.out w1 B1).mono ?_; rintro e w2 ⟨rfl, hB⟩)
    go_ret
    exact ⟨rfl, B1.trans (hB.mono B1.size)⟩
  have hb1 : decide ((n' : Int) > 4096) = false := by simp; omega
  by_cases hbig2 : 4096 < n''
  · have hb2 : decide ((n'' : Int) > 4096) = true := by simp; omega
    go_enter Tryd.func6, Tryd.ntmps6
    go_wp2_with (go_at_call 8; rw [← hw1]; refine (CW.out w1 B1).mono ?_; rintro e w2 ⟨rfl, hB⟩)
    go_ret
    exact ⟨rfl, B1.trans (hB.mono B1.size)⟩
  have hb2 : decide ((n'' : Int) > 4096) = false := by simp; omega
  have hx47 : n ≤ maxLen := by omega
  have hy47 : n' ≤ maxLen := by omega
  have hz47 : n'' ≤ maxLen := by omega
  have RA := hr.below B1
  have RB := hr'.below B1
  have RC := hr''.below B1
  have f0 : w1.cell? ⟨w.heap.size, 0, none⟩ = some (.slice A n c) := kb.cell 0
  have f1 : w1.cell? ⟨w.heap.size, 1, none⟩ = some (.slice A' n' c') := kb.cell 1
  have f2 : w1.cell? ⟨w.heap.size, 2, none⟩ = some (.slice A'' n'' c'') := kb.cell 2
  have f3 : w1.cell? ⟨w.heap.size, 3, none⟩ = some (.int .i64 at_) := kb.cell 3
  have HX := Lib.hid hx
  have HY := Lib.hid hy
  have HZ := Lib.hid hz
  have HW1 := Lib.hid hw1
  have HAT := Lib.hid hat
  clear hx hy hz hw1 hr hr' hr'' hat hT
  by_cases hxy : xs = ys
  · have hnn : n = n' := by rw [← HX.out, hxy, HY.out]
    subst hnn
    by_cases hyz : ys = zs
    · go_enter Tryd.func6, Tryd.ntmps6
      rw [whole_eq 13]
      go_wp2_with fail
      rw [← HW1.out]
      refine (same_yes w.heap.size w.heap.size _ _ _ _ _ _ xs ys w1 HX.out HY.out hx47 hy47 RA RB hxy).mono ?_
      rintro e W ⟨rfl, rfl⟩
      go_wp2_with fail
      refine (same_yes w.heap.size w.heap.size _ _ _ _ _ _ ys xs w1 HY.out HX.out hy47 hx47 RB RA hxy.symm).mono ?_
      rintro e W ⟨rfl, rfl⟩
      go_wp2_with fail
      refine (same_yes w.heap.size w.heap.size _ _ _ _ _ _ xs xs w1 HX.out HX.out hx47 hx47 RA RA rfl).mono ?_
      rintro e W ⟨rfl, rfl⟩
      go_wp2_with fail
      refine (same_yes w.heap.size w.heap.size _ _ _ _ _ _ ys zs w1 HY.out HZ.out hy47 hz47 RB RC hyz).mono ?_
      rintro e W ⟨rfl, rfl⟩
      go_wp2_with fail
      refine (same_yes w.heap.size w.heap.size _ _ _ _ _ _ xs zs w1 HX.out HZ.out hx47 hz47 RA RC (hxy.trans hyz)).mono ?_
      rintro e W ⟨rfl, rfl⟩
      go_wp2_with fail
      refine (copyBytes_any A n c xs w1 (by omega) HX.out (RA.more B1.size)).mono ?_
      rintro e w2 ⟨A2, c2, rfl, ho, hb2⟩
      have kb2 := kb.below hb2 kb.lt
      have B2 := B1.trans (hb2.mono B1.size)
      have f3' : w2.cell? ⟨w.heap.size, 3, none⟩ = some (.int .i64 at_) := kb2.cell 3
      have RA2 := (RA.more B1.size).below hb2
      have hs2' := hb2.size
      have hlt1 := kb.lt
      clear f0 f1 f2 f3 kb RA RB RC hb2
      by_cases h0 : 0 ≤ at_
      · obtain ⟨k, rfl⟩ : ∃ k : Nat, at_ = k := ⟨at_.toNat, by omega⟩
        have hd0 : decide ((k : Int) ≥ 0) = true := by simp
        by_cases hk : k < 8 * n
        · have hd1 : decide ((k : Int) < 8 * (n : Int)) = true := by simp; omega
          have hpn : k / 8 < n := by omega
          have hr8 : k % 8 < 8 := by omega
          obtain ⟨g, cs, rfl, hbg, hrow, hcz, hcm⟩ := ho.some_ (by omega)
          have hpl : k / 8 < (xs ++ cs).length := by rw [List.length_append, HX.out]; omega
          have hpx : k / 8 < xs.length := by rw [HX.out]; exact hpn
          obtain ⟨v, hv⟩ : ∃ v, v = xs[k / 8] := ⟨_, rfl⟩
          have cp : w2.cell? ⟨g, k / 8, none⟩ = some (.int .u8 (v.toNat : Int)) := by rw [hrow.cell (k / 8) hpl, List.getElem_append_left hpx, hv]
          have fp := hrow.frozen (k / 8)
          obtain ⟨e8, he0, he⟩ := bit_of hr8
          obtain ⟨u, hu⟩ : ∃ u, u = v ^^^ e8 := ⟨_, rfl⟩
          have HU1 := Lib.hid (show bits .xor .u8 (v.toNat : Int) ((2 : Int) ^ (k % 8) % 256) = (u.toNat : Int) by rw [he, bits_xor_u8, hu])
          have HU2 := Lib.hid (show bits .xor .u8 (u.toNat : Int) ((2 : Int) ^ (k % 8) % 256) = (v.toNat : Int) by rw [he, bits_xor_u8, hu, turned_back])
          have HNE := Lib.hid (show xs ≠ xs.set (k / 8) u from set_other hpx u (by rw [hu, ← hv]; exact turned_ne v e8 he0))
          have HS1 := Lib.hid (show (xs ++ cs).set (k / 8) u = xs.set (k / 8) u ++ cs from List.set_append_left _ _ hpx)
          have HS2 := Lib.hid (show (xs.set (k / 8) u ++ cs).set (k / 8) v = xs ++ cs by rw [List.set_append_left _ _ (by rw [List.length_set]; exact hpx), List.set_set, hv, List.set_getElem_self])
          have HP := Lib.hid hpx
          have HROW := Lib.hid hrow
          have HHO := Lib.hid hcz
          obtain ⟨b, o, hA, hbl, -⟩ := RA2.at_ (by intro h; rw [h] at hpx; simp at hpx)
          subst hA
          have hge : w.heap.size ≤ g := by omega
          have hgne : w.heap.size ≠ g := by omega
          clear hv he hu hpx hrow hcz ho HW1 HAT he0
          go_wp2_with fail
          refine wp_region_quiet_tail 17 (by kernel_rfl) (by kernel_rfl) ?_
          simp only [List.take_succ_cons, List.take_zero, List.drop_succ_cons, List.drop_zero]
          repeat (go_big_quiet_step (fail))
          refine wpQuiet_nil ?_
          rintro _ ⟨m, rfl⟩
          go_wp2_with fail
          rw [HU1.out]
          have kb3 : Blk ((w2.drewN m).setCell ⟨g, k / 8, none⟩ (.int .u8 (u.toNat : Int))) w.heap.size 31 _ := (kb2.drewN m).far hgne _
          have row3 : RowAt ((w2.drewN m).setCell ⟨g, k / 8, none⟩ (.int .u8 (u.toNat : Int))) 5 g (xs.set (k / 8) u ++ cs) := by rw [← HS1.out]; exact (HROW.out.drewN m).set_ (k / 8) u
          have D3 : Below w1.heap.size w2 ((w2.drewN m).setCell ⟨g, k / 8, none⟩ (.int .u8 (u.toNat : Int))) := (below_drewN (Below.refl _ _) m).setCell hbg _
          generalize (w2.drewN m).setCell ⟨g, k / 8, none⟩ (.int .u8 (u.toNat : Int)) = w3 at kb3 row3 D3 ⊢
          have RA3 := RA2.below D3
          have B3 : Below w.heap.size w w3 := B2.trans (D3.mono (Nat.le_of_lt hlt1))
          have f33 : w3.cell? ⟨w.heap.size, 3, none⟩ = some (.int .i64 k) := kb3.cell 3
          have cp3 : w3.cell? ⟨g, k / 8, none⟩ = some (.int .u8 (u.toNat : Int)) := by rw [row3.cell (k / 8) (by rw [List.length_append, List.length_set]; have := HP.out; omega), List.getElem_append_left (by rw [List.length_set]; exact HP.out), List.getElem_set_self]
          have fp3 := row3.frozen (k / 8)
          have RD3 : Rd w3 w3.heap.size (some ⟨g, 0, none⟩) (xs.set (k / 8) u) := row3.rd 0 _ (fun j hj => by rw [Nat.zero_add, List.getElem?_append_left hj])
          have RT3 := RA3.take_k (k / 8)
          clear cp fp f3' kb2 B2 RA2 HU1 HS1 HROW D3
          go_wp2_with fail
          refine (same_no _ _ _ _ _ _ _ _ xs (xs.set (k / 8) u) w3 HX.out (by rw [List.length_set]; exact HX.out) hx47 hx47 RA3 RD3 HNE.out).mono ?_
          rintro e W ⟨rfl, rfl⟩
          go_wp2_with fail
          refine (same_no _ _ _ _ _ _ _ _ xs (xs.take (k / 8)) w3 HX.out (by rw [List.length_take]; have := HX.out; omega) hx47 (by omega) RA3 RT3 (fun h => by have h1 := congrArg List.length h; rw [List.length_take, HX.out] at h1; omega)).mono ?_
          rintro e W ⟨rfl, rfl⟩
          clear RD3 RT3
          go_wp2_with fail
          refine wp_region_quiet_tail 17 (by kernel_rfl) (by kernel_rfl) ?_
          simp only [List.take_succ_cons, List.take_zero, List.drop_succ_cons, List.drop_zero]
          repeat (go_big_quiet_step (fail))
          refine wpQuiet_nil ?_
          rintro _ ⟨m', rfl⟩
          go_wp2_with fail
          rw [HU2.out]
          have row4 : RowAt ((w3.drewN m').setCell ⟨g, k / 8, none⟩ (.int .u8 (v.toNat : Int))) 5 g (xs ++ cs) := by rw [← HS2.out]; exact (row3.drewN m').set_ (k / 8) v
          have D4 : Below w1.heap.size w3 ((w3.drewN m').setCell ⟨g, k / 8, none⟩ (.int .u8 (v.toNat : Int))) := (below_drewN (Below.refl _ _) m').setCell hbg _
          generalize (w3.drewN m').setCell ⟨g, k / 8, none⟩ (.int .u8 (v.toNat : Int)) = w4 at row4 D4 ⊢
          have RA4 := RA3.below D4
          have B4 : Below w.heap.size w w4 := B3.trans (D4.mono (Nat.le_of_lt hlt1))
          have ho4 : Own8 w4 5 w1.heap.size (some ⟨g, 0, none⟩) n c2 xs := ⟨HX.out, .inr ⟨g, cs, rfl, hbg, row4, HHO.out, hcm⟩⟩
          have hlt4 := row4.lt
          have hs4 : w1.heap.size ≤ w4.heap.size := by omega
          clear kb3 row3 RA3 f33 cp3 fp3 HS2 HU2 row4 D4 B3
          clear hd0 hd1
          have h1 := rd_one w4 5 0 0 rfl
          have o5 := ho4.alloc (.cells #[.int .u8 0] 5)
          have B5 := B4.alloc B4.size (.cells #[.int .u8 0] 5)
          have hle := B4.size
          have RA5 := (RA4.more hs4).alloc (Nat.le_refl _) (.cells #[.int .u8 0] 5)
          have s5 : (w4.alloc (.cells #[.int .u8 0] 5)).heap.size = w4.heap.size + 1 := by simp
          have hl1 := hlt1
          have z5 : w1.heap.size ≤ (w4.alloc (.cells #[.int .u8 0] 5)).heap.size := by omega
          rw [← whole_eq 13]
          go_wp2_with (at_builtin; refine wpList_append8 h8 _ rfl _ _ rfl w1.heap.size _ _ _ _ rfl o5 _ _ _ _ _ rfl rfl h1 (by omega) z5 ?_; intro A6 c6 w6 h6 hg6 hh6)
          have RA6 : Rd w6 w1.heap.size _ xs := RA4.keep fun p hp => by
            have e1 : w6.heap[p.block]? = (w4.alloc (.cells #[.int .u8 0] 5)).heap[p.block]? := hg6.block p.block (by omega) (fun e => by have := o5.blk p.block e.symm; omega)
            exact (World.cell?_of_block e1).trans (World.cell?_alloc_lt w4 _ p (by omega))
          have B6 : Below w.heap.size w w6 := B5.grown hg6 B5.size (fun q hq => Nat.le_trans (Nat.le_of_lt hl1) (o5.blk q hq))
          have RD6 := h6.rd
          have L6 := h6.len
          clear h1 o5 B5 RA5 s5 z5 hg6 hh6
          go_wp2_with fail
          refine (same_no _ _ _ _ _ _ _ _ xs (xs ++ [0]) w6 HX.out L6 hx47 (by unfold maxLen; omega) RA6 RD6 (fun h => by have h1 := congrArg List.length h; rw [List.length_append] at h1; simp at h1)).mono ?_
          rintro e W ⟨rfl, rfl⟩
          clear h6 RD6 L6 RA6
          go_wp2_with fail
          refine (CW.out w6 B6).mono ?_
          rintro e w7 ⟨rfl, hb7⟩
          go_wp2_with fail
          go_ret
          exact ⟨rfl, B6.trans (hb7.mono B6.size)⟩
        · have hd1 : decide ((k : Int) < 8 * (n : Int)) = false := by simp; omega
          have hs2 : w1.heap.size ≤ w2.heap.size := hs2'
          go_wp2_with fail
          have h1 := rd_one w2 5 0 0 rfl
          have o5 := ho.alloc (.cells #[.int .u8 0] 5)
          have B5 := B2.alloc B2.size (.cells #[.int .u8 0] 5)
          have hle := B2.size
          have RA5 := (RA2.more hs2).alloc (Nat.le_refl _) (.cells #[.int .u8 0] 5)
          have s5 : (w2.alloc (.cells #[.int .u8 0] 5)).heap.size = w2.heap.size + 1 := by simp
          have hl1 := hlt1
          have z5 : w1.heap.size ≤ (w2.alloc (.cells #[.int .u8 0] 5)).heap.size := by omega
          rw [← whole_eq 13]
          go_wp2_with (at_builtin; refine wpList_append8 h8 _ rfl _ _ rfl w1.heap.size _ _ _ _ rfl o5 _ _ _ _ _ rfl rfl h1 (by omega) z5 ?_; intro A6 c6 w6 h6 hg6 hh6)
          have RA6 : Rd w6 w1.heap.size _ xs := RA2.keep fun p hp => by
            have e1 : w6.heap[p.block]? = (w2.alloc (.cells #[.int .u8 0] 5)).heap[p.block]? := hg6.block p.block (by omega) (fun e => by have := o5.blk p.block e.symm; omega)
            exact (World.cell?_of_block e1).trans (World.cell?_alloc_lt w2 _ p (by omega))
          have B6 : Below w.heap.size w w6 := B5.grown hg6 B5.size (fun q hq => Nat.le_trans (Nat.le_of_lt hl1) (o5.blk q hq))
          have RD6 := h6.rd
          have L6 := h6.len
          clear h1 o5 B5 RA5 s5 z5 hg6 hh6
          go_wp2_with fail
          refine (same_no _ _ _ _ _ _ _ _ xs (xs ++ [0]) w6 HX.out L6 hx47 (by unfold maxLen; omega) RA6 RD6 (fun h => by have h1 := congrArg List.length h; rw [List.length_append] at h1; simp at h1)).mono ?_
          rintro e W ⟨rfl, rfl⟩
          clear h6 RD6 L6 RA6
          go_wp2_with fail
          refine (CW.out w6 B6).mono ?_
          rintro e w7 ⟨rfl, hb7⟩
          go_wp2_with fail
          go_ret
          exact ⟨rfl, B6.trans (hb7.mono B6.size)⟩
    
      · have hd0 : decide (at_ ≥ 0) = false := by simp; omega
        have hs2 : w1.heap.size ≤ w2.heap.size := hs2'
        go_wp2_with fail
        have h1 := rd_one w2 5 0 0 rfl
        have o5 := ho.alloc (.cells #[.int .u8 0] 5)
        have B5 := B2.alloc B2.size (.cells #[.int .u8 0] 5)
        have hle := B2.size
        have RA5 := (RA2.more hs2).alloc (Nat.le_refl _) (.cells #[.int .u8 0] 5)
        have s5 : (w2.alloc (.cells #[.int .u8 0] 5)).heap.size = w2.heap.size + 1 := by simp
        have hl1 := hlt1
        have z5 : w1.heap.size ≤ (w2.alloc (.cells #[.int .u8 0] 5)).heap.size := by omega
        rw [← whole_eq 13]
        go_wp2_with (at_builtin; refine wpList_append8 h8 _ rfl _ _ rfl w1.heap.size _ _ _ _ rfl o5 _ _ _ _ _ rfl rfl h1 (by omega) z5 ?_; intro A6 c6 w6 h6 hg6 hh6)
        have RA6 : Rd w6 w1.heap.size _ xs := RA2.keep fun p hp => by
          have e1 : w6.heap[p.block]? = (w2.alloc (.cells #[.int .u8 0] 5)).heap[p.block]? := hg6.block p.block (by omega) (fun e => by have := o5.blk p.block e.symm; omega)
          exact (World.cell?_of_block e1).trans (World.cell?_alloc_lt w2 _ p (by omega))
        have B6 : Below w.heap.size w w6 := B5.grown hg6 B5.size (fun q hq => Nat.le_trans (Nat.le_of_lt hl1) (o5.blk q hq))
        have RD6 := h6.rd
        have L6 := h6.len
        clear h1 o5 B5 RA5 s5 z5 hg6 hh6
        go_wp2_with fail
        refine (same_no _ _ _ _ _ _ _ _ xs (xs ++ [0]) w6 HX.out L6 hx47 (by unfold maxLen; omega) RA6 RD6 (fun h => by have h1 := congrArg List.length h; rw [List.length_append] at h1; simp at h1)).mono ?_
        rintro e W ⟨rfl, rfl⟩
        clear h6 RD6 L6 RA6
        go_wp2_with fail
        refine (CW.out w6 B6).mono ?_
        rintro e w7 ⟨rfl, hb7⟩
        go_wp2_with fail
        go_ret
        exact ⟨rfl, B6.trans (hb7.mono B6.size)⟩
    · go_enter Tryd.func6, Tryd.ntmps6
      rw [whole_eq 13]
      go_wp2_with fail
      rw [← HW1.out]
      refine (same_yes w.heap.size w.heap.size _ _ _ _ _ _ xs ys w1 HX.out HY.out hx47 hy47 RA RB hxy).mono ?_
      rintro e W ⟨rfl, rfl⟩
      go_wp2_with fail
      refine (same_yes w.heap.size w.heap.size _ _ _ _ _ _ ys xs w1 HY.out HX.out hy47 hx47 RB RA hxy.symm).mono ?_
      rintro e W ⟨rfl, rfl⟩
      go_wp2_with fail
      refine (same_yes w.heap.size w.heap.size _ _ _ _ _ _ xs xs w1 HX.out HX.out hx47 hx47 RA RA rfl).mono ?_
      rintro e W ⟨rfl, rfl⟩
      go_wp2_with fail
      refine (same_no w.heap.size w.heap.size _ _ _ _ _ _ ys zs w1 HY.out HZ.out hy47 hz47 RB RC hyz).mono ?_
      rintro e W ⟨rfl, rfl⟩
      go_wp2_with fail
      refine (copyBytes_any A n c xs w1 (by omega) HX.out (RA.more B1.size)).mono ?_
      rintro e w2 ⟨A2, c2, rfl, ho, hb2⟩
      have kb2 := kb.below hb2 kb.lt
      have B2 := B1.trans (hb2.mono B1.size)
      have f3' : w2.cell? ⟨w.heap.size, 3, none⟩ = some (.int .i64 at_) := kb2.cell 3
      have RA2 := (RA.more B1.size).below hb2
      have hs2' := hb2.size
      have hlt1 := kb.lt
      clear f0 f1 f2 f3 kb RA RB RC hb2
      by_cases h0 : 0 ≤ at_
      · obtain ⟨k, rfl⟩ : ∃ k : Nat, at_ = k := ⟨at_.toNat, by omega⟩
        have hd0 : decide ((k : Int) ≥ 0) = true := by simp
        by_cases hk : k < 8 * n
        · have hd1 : decide ((k : Int) < 8 * (n : Int)) = true := by simp; omega
          have hpn : k / 8 < n := by omega
          have hr8 : k % 8 < 8 := by omega
          obtain ⟨g, cs, rfl, hbg, hrow, hcz, hcm⟩ := ho.some_ (by omega)
          have hpl : k / 8 < (xs ++ cs).length := by rw [List.length_append, HX.out]; omega
          have hpx : k / 8 < xs.length := by rw [HX.out]; exact hpn
          obtain ⟨v, hv⟩ : ∃ v, v = xs[k / 8] := ⟨_, rfl⟩
          have cp : w2.cell? ⟨g, k / 8, none⟩ = some (.int .u8 (v.toNat : Int)) := by rw [hrow.cell (k / 8) hpl, List.getElem_append_left hpx, hv]
          have fp := hrow.frozen (k / 8)
          obtain ⟨e8, he0, he⟩ := bit_of hr8
          obtain ⟨u, hu⟩ : ∃ u, u = v ^^^ e8 := ⟨_, rfl⟩
          have HU1 := Lib.hid (show bits .xor .u8 (v.toNat : Int) ((2 : Int) ^ (k % 8) % 256) = (u.toNat : Int) by rw [he, bits_xor_u8, hu])
          have HU2 := Lib.hid (show bits .xor .u8 (u.toNat : Int) ((2 : Int) ^ (k % 8) % 256) = (v.toNat : Int) by rw [he, bits_xor_u8, hu, turned_back])
          have HNE := Lib.hid (show xs ≠ xs.set (k / 8) u from set_other hpx u (by rw [hu, ← hv]; exact turned_ne v e8 he0))
          have HS1 := Lib.hid (show (xs ++ cs).set (k / 8) u = xs.set (k / 8) u ++ cs from List.set_append_left _ _ hpx)
          have HS2 := Lib.hid (show (xs.set (k / 8) u ++ cs).set (k / 8) v = xs ++ cs by rw [List.set_append_left _ _ (by rw [List.length_set]; exact hpx), List.set_set, hv, List.set_getElem_self])
          have HP := Lib.hid hpx
          have HROW := Lib.hid hrow
          have HHO := Lib.hid hcz
          obtain ⟨b, o, hA, hbl, -⟩ := RA2.at_ (by intro h; rw [h] at hpx; simp at hpx)
          subst hA
          have hge : w.heap.size ≤ g := by omega
          have hgne : w.heap.size ≠ g := by omega
          clear hv he hu hpx hrow hcz ho HW1 HAT he0
          go_wp2_with fail
          refine wp_region_quiet_tail 17 (by kernel_rfl) (by kernel_rfl) ?_
          simp only [List.take_succ_cons, List.take_zero, List.drop_succ_cons, List.drop_zero]
          repeat (go_big_quiet_step (fail))
          refine wpQuiet_nil ?_
          rintro _ ⟨m, rfl⟩
          go_wp2_with fail
          rw [HU1.out]
          have kb3 : Blk ((w2.drewN m).setCell ⟨g, k / 8, none⟩ (.int .u8 (u.toNat : Int))) w.heap.size 31 _ := (kb2.drewN m).far hgne _
          have row3 : RowAt ((w2.drewN m).setCell ⟨g, k / 8, none⟩ (.int .u8 (u.toNat : Int))) 5 g (xs.set (k / 8) u ++ cs) := by rw [← HS1.out]; exact (HROW.out.drewN m).set_ (k / 8) u
          have D3 : Below w1.heap.size w2 ((w2.drewN m).setCell ⟨g, k / 8, none⟩ (.int .u8 (u.toNat : Int))) := (below_drewN (Below.refl _ _) m).setCell hbg _
          generalize (w2.drewN m).setCell ⟨g, k / 8, none⟩ (.int .u8 (u.toNat : Int)) = w3 at kb3 row3 D3 ⊢
          have RA3 := RA2.below D3
          have B3 : Below w.heap.size w w3 := B2.trans (D3.mono (Nat.le_of_lt hlt1))
          have f33 : w3.cell? ⟨w.heap.size, 3, none⟩ = some (.int .i64 k) := kb3.cell 3
          have cp3 : w3.cell? ⟨g, k / 8, none⟩ = some (.int .u8 (u.toNat : Int)) := by rw [row3.cell (k / 8) (by rw [List.length_append, List.length_set]; have := HP.out; omega), List.getElem_append_left (by rw [List.length_set]; exact HP.out), List.getElem_set_self]
          have fp3 := row3.frozen (k / 8)
          have RD3 : Rd w3 w3.heap.size (some ⟨g, 0, none⟩) (xs.set (k / 8) u) := row3.rd 0 _ (fun j hj => by rw [Nat.zero_add, List.getElem?_append_left hj])
          have RT3 := RA3.take_k (k / 8)
          clear cp fp f3' kb2 B2 RA2 HU1 HS1 HROW D3
          go_wp2_with fail
          refine (same_no _ _ _ _ _ _ _ _ xs (xs.set (k / 8) u) w3 HX.out (by rw [List.length_set]; exact HX.out) hx47 hx47 RA3 RD3 HNE.out).mono ?_
          rintro e W ⟨rfl, rfl⟩
          go_wp2_with fail
          refine (same_no _ _ _ _ _ _ _ _ xs (xs.take (k / 8)) w3 HX.out (by rw [List.length_take]; have := HX.out; omega) hx47 (by omega) RA3 RT3 (fun h => by have h1 := congrArg List.length h; rw [List.length_take, HX.out] at h1; omega)).mono ?_
          rintro e W ⟨rfl, rfl⟩
          clear RD3 RT3
          go_wp2_with fail
          refine wp_region_quiet_tail 17 (by kernel_rfl) (by kernel_rfl) ?_
          simp only [List.take_succ_cons, List.take_zero, List.drop_succ_cons, List.drop_zero]
          repeat (go_big_quiet_step (fail))
          refine wpQuiet_nil ?_
          rintro _ ⟨m', rfl⟩
          go_wp2_with fail
          rw [HU2.out]
          have row4 : RowAt ((w3.drewN m').setCell ⟨g, k / 8, none⟩ (.int .u8 (v.toNat : Int))) 5 g (xs ++ cs) := by rw [← HS2.out]; exact (row3.drewN m').set_ (k / 8) v
          have D4 : Below w1.heap.size w3 ((w3.drewN m').setCell ⟨g, k / 8, none⟩ (.int .u8 (v.toNat : Int))) := (below_drewN (Below.refl _ _) m').setCell hbg _
          generalize (w3.drewN m').setCell ⟨g, k / 8, none⟩ (.int .u8 (v.toNat : Int)) = w4 at row4 D4 ⊢
          have RA4 := RA3.below D4
          have B4 : Below w.heap.size w w4 := B3.trans (D4.mono (Nat.le_of_lt hlt1))
          have ho4 : Own8 w4 5 w1.heap.size (some ⟨g, 0, none⟩) n c2 xs := ⟨HX.out, .inr ⟨g, cs, rfl, hbg, row4, HHO.out, hcm⟩⟩
          have hlt4 := row4.lt
          have hs4 : w1.heap.size ≤ w4.heap.size := by omega
          clear kb3 row3 RA3 f33 cp3 fp3 HS2 HU2 row4 D4 B3
          clear hd0 hd1
          have h1 := rd_one w4 5 0 0 rfl
          have o5 := ho4.alloc (.cells #[.int .u8 0] 5)
          have B5 := B4.alloc B4.size (.cells #[.int .u8 0] 5)
          have hle := B4.size
          have RA5 := (RA4.more hs4).alloc (Nat.le_refl _) (.cells #[.int .u8 0] 5)
          have s5 : (w4.alloc (.cells #[.int .u8 0] 5)).heap.size = w4.heap.size + 1 := by simp
          have hl1 := hlt1
          have z5 : w1.heap.size ≤ (w4.alloc (.cells #[.int .u8 0] 5)).heap.size := by omega
          rw [← whole_eq 13]
          go_wp2_with (at_builtin; refine wpList_append8 h8 _ rfl _ _ rfl w1.heap.size _ _ _ _ rfl o5 _ _ _ _ _ rfl rfl h1 (by omega) z5 ?_; intro A6 c6 w6 h6 hg6 hh6)
          have RA6 : Rd w6 w1.heap.size _ xs := RA4.keep fun p hp => by
            have e1 : w6.heap[p.block]? = (w4.alloc (.cells #[.int .u8 0] 5)).heap[p.block]? := hg6.block p.block (by omega) (fun e => by have := o5.blk p.block e.symm; omega)
            exact (World.cell?_of_block e1).trans (World.cell?_alloc_lt w4 _ p (by omega))
          have B6 : Below w.heap.size w w6 := B5.grown hg6 B5.size (fun q hq => Nat.le_trans (Nat.le_of_lt hl1) (o5.blk q hq))
          have RD6 := h6.rd
          have L6 := h6.len
          clear h1 o5 B5 RA5 s5 z5 hg6 hh6
          go_wp2_with fail
          refine (same_no _ _ _ _ _ _ _ _ xs (xs ++ [0]) w6 HX.out L6 hx47 (by unfold maxLen; omega) RA6 RD6 (fun h => by have h1 := congrArg List.length h; rw [List.length_append] at h1; simp at h1)).mono ?_
          rintro e W ⟨rfl, rfl⟩
          clear h6 RD6 L6 RA6
          go_wp2_with fail
          refine (CW.out w6 B6).mono ?_
          rintro e w7 ⟨rfl, hb7⟩
          go_wp2_with fail
          go_ret
          exact ⟨rfl, B6.trans (hb7.mono B6.size)⟩
        · have hd1 : decide ((k : Int) < 8 * (n : Int)) = false := by simp; omega
          have hs2 : w1.heap.size ≤ w2.heap.size := hs2'
          go_wp2_with fail
          have h1 := rd_one w2 5 0 0 rfl
          have o5 := ho.alloc (.cells #[.int .u8 0] 5)
          have B5 := B2.alloc B2.size (.cells #[.int .u8 0] 5)
          have hle := B2.size
          have RA5 := (RA2.more hs2).alloc (Nat.le_refl _) (.cells #[.int .u8 0] 5)
          have s5 : (w2.alloc (.cells #[.int .u8 0] 5)).heap.size = w2.heap.size + 1 := by simp
          have hl1 := hlt1
          have z5 : w1.heap.size ≤ (w2.alloc (.cells #[.int .u8 0] 5)).heap.size := by omega
          rw [← whole_eq 13]
          go_wp2_with (at_builtin; refine wpList_append8 h8 _ rfl _ _ rfl w1.heap.size _ _ _ _ rfl o5 _ _ _ _ _ rfl rfl h1 (by omega) z5 ?_; intro A6 c6 w6 h6 hg6 hh6)
          have RA6 : Rd w6 w1.heap.size _ xs := RA2.keep fun p hp => by
            have e1 : w6.heap[p.block]? = (w2.alloc (.cells #[.int .u8 0] 5)).heap[p.block]? := hg6.block p.block (by omega) (fun e => by have := o5.blk p.block e.symm; omega)
            exact (World.cell?_of_block e1).trans (World.cell?_alloc_lt w2 _ p (by omega))
          have B6 : Below w.heap.size w w6 := B5.grown hg6 B5.size (fun q hq => Nat.le_trans (Nat.le_of_lt hl1) (o5.blk q hq))
          have RD6 := h6.rd
          have L6 := h6.len
          clear h1 o5 B5 RA5 s5 z5 hg6 hh6
          go_wp2_with fail
          refine (same_no _ _ _ _ _ _ _ _ xs (xs ++ [0]) w6 HX.out L6 hx47 (by unfold maxLen; omega) RA6 RD6 (fun h => by have h1 := congrArg List.length h; rw [List.length_append] at h1; simp at h1)).mono ?_
          rintro e W ⟨rfl, rfl⟩
          clear h6 RD6 L6 RA6
          go_wp2_with fail
          refine (CW.out w6 B6).mono ?_
          rintro e w7 ⟨rfl, hb7⟩
          go_wp2_with fail
          go_ret
          exact ⟨rfl, B6.trans (hb7.mono B6.size)⟩
    
      · have hd0 : decide (at_ ≥ 0) = false := by simp; omega
        have hs2 : w1.heap.size ≤ w2.heap.size := hs2'
        go_wp2_with fail
        have h1 := rd_one w2 5 0 0 rfl
        have o5 := ho.alloc (.cells #[.int .u8 0] 5)
        have B5 := B2.alloc B2.size (.cells #[.int .u8 0] 5)
        have hle := B2.size
        have RA5 := (RA2.more hs2).alloc (Nat.le_refl _) (.cells #[.int .u8 0] 5)
        have s5 : (w2.alloc (.cells #[.int .u8 0] 5)).heap.size = w2.heap.size + 1 := by simp
        have hl1 := hlt1
        have z5 : w1.heap.size ≤ (w2.alloc (.cells #[.int .u8 0] 5)).heap.size := by omega
        rw [← whole_eq 13]
        go_wp2_with (at_builtin; refine wpList_append8 h8 _ rfl _ _ rfl w1.heap.size _ _ _ _ rfl o5 _ _ _ _ _ rfl rfl h1 (by omega) z5 ?_; intro A6 c6 w6 h6 hg6 hh6)
        have RA6 : Rd w6 w1.heap.size _ xs := RA2.keep fun p hp => by
          have e1 : w6.heap[p.block]? = (w2.alloc (.cells #[.int .u8 0] 5)).heap[p.block]? := hg6.block p.block (by omega) (fun e => by have := o5.blk p.block e.symm; omega)
          exact (World.cell?_of_block e1).trans (World.cell?_alloc_lt w2 _ p (by omega))
        have B6 : Below w.heap.size w w6 := B5.grown hg6 B5.size (fun q hq => Nat.le_trans (Nat.le_of_lt hl1) (o5.blk q hq))
        have RD6 := h6.rd
        have L6 := h6.len
        clear h1 o5 B5 RA5 s5 z5 hg6 hh6
        go_wp2_with fail
        refine (same_no _ _ _ _ _ _ _ _ xs (xs ++ [0]) w6 HX.out L6 hx47 (by unfold maxLen; omega) RA6 RD6 (fun h => by have h1 := congrArg List.length h; rw [List.length_append] at h1; simp at h1)).mono ?_
        rintro e W ⟨rfl, rfl⟩
        clear h6 RD6 L6 RA6
        go_wp2_with fail
        refine (CW.out w6 B6).mono ?_
        rintro e w7 ⟨rfl, hb7⟩
        go_wp2_with fail
        go_ret
        exact ⟨rfl, B6.trans (hb7.mono B6.size)⟩
  · go_enter Tryd.func6, Tryd.ntmps6
    rw [whole_eq 13]
    go_wp2_with fail
    rw [← HW1.out]
    refine (same_no w.heap.size w.heap.size _ _ _ _ _ _ xs ys w1 HX.out HY.out hx47 hy47 RA RB hxy).mono ?_
    rintro e W ⟨rfl, rfl⟩
    go_wp2_with fail
    refine (same_no w.heap.size w.heap.size _ _ _ _ _ _ ys xs w1 HY.out HX.out hy47 hx47 RB RA (fun h => hxy h.symm)).mono ?_
    rintro e W ⟨rfl, rfl⟩
    go_wp2_with fail
    refine (same_yes w.heap.size w.heap.size _ _ _ _ _ _ xs xs w1 HX.out HX.out hx47 hx47 RA RA rfl).mono ?_
    rintro e W ⟨rfl, rfl⟩
    go_wp2_with fail
    refine (copyBytes_any A n c xs w1 (by omega) HX.out (RA.more B1.size)).mono ?_
    rintro e w2 ⟨A2, c2, rfl, ho, hb2⟩
    have kb2 := kb.below hb2 kb.lt
    have B2 := B1.trans (hb2.mono B1.size)
    have f3' : w2.cell? ⟨w.heap.size, 3, none⟩ = some (.int .i64 at_) := kb2.cell 3
    have RA2 := (RA.more B1.size).below hb2
    have hs2' := hb2.size
    have hlt1 := kb.lt
    clear f0 f1 f2 f3 kb RA RB RC hb2
    by_cases h0 : 0 ≤ at_
    · obtain ⟨k, rfl⟩ : ∃ k : Nat, at_ = k := ⟨at_.toNat, by omega⟩
      have hd0 : decide ((k : Int) ≥ 0) = true := by simp
      by_cases hk : k < 8 * n
      · have hd1 : decide ((k : Int) < 8 * (n : Int)) = true := by simp; omega
        have hpn : k / 8 < n := by omega
        have hr8 : k % 8 < 8 := by omega
        obtain ⟨g, cs, rfl, hbg, hrow, hcz, hcm⟩ := ho.some_ (by omega)
        have hpl : k / 8 < (xs ++ cs).length := by rw [List.length_append, HX.out]; omega
        have hpx : k / 8 < xs.length := by rw [HX.out]; exact hpn
        obtain ⟨v, hv⟩ : ∃ v, v = xs[k / 8] := ⟨_, rfl⟩
        have cp : w2.cell? ⟨g, k / 8, none⟩ = some (.int .u8 (v.toNat : Int)) := by rw [hrow.cell (k / 8) hpl, List.getElem_append_left hpx, hv]
        have fp := hrow.frozen (k / 8)
        obtain ⟨e8, he0, he⟩ := bit_of hr8
        obtain ⟨u, hu⟩ : ∃ u, u = v ^^^ e8 := ⟨_, rfl⟩
        have HU1 := Lib.hid (show bits .xor .u8 (v.toNat : Int) ((2 : Int) ^ (k % 8) % 256) = (u.toNat : Int) by rw [he, bits_xor_u8, hu])
        have HU2 := Lib.hid (show bits .xor .u8 (u.toNat : Int) ((2 : Int) ^ (k % 8) % 256) = (v.toNat : Int) by rw [he, bits_xor_u8, hu, turned_back])
        have HNE := Lib.hid (show xs ≠ xs.set (k / 8) u from set_other hpx u (by rw [hu, ← hv]; exact turned_ne v e8 he0))
        have HS1 := Lib.hid (show (xs ++ cs).set (k / 8) u = xs.set (k / 8) u ++ cs from List.set_append_left _ _ hpx)
        have HS2 := Lib.hid (show (xs.set (k / 8) u ++ cs).set (k / 8) v = xs ++ cs by rw [List.set_append_left _ _ (by rw [List.length_set]; exact hpx), List.set_set, hv, List.set_getElem_self])
        have HP := Lib.hid hpx
        have HROW := Lib.hid hrow
        have HHO := Lib.hid hcz
        obtain ⟨b, o, hA, hbl, -⟩ := RA2.at_ (by intro h; rw [h] at hpx; simp at hpx)
        subst hA
        have hge : w.heap.size ≤ g := by omega
        have hgne : w.heap.size ≠ g := by omega
        clear hv he hu hpx hrow hcz ho HW1 HAT he0
        go_wp2_with fail
        refine wp_region_quiet_tail 17 (by kernel_rfl) (by kernel_rfl) ?_
        simp only [List.take_succ_cons, List.take_zero, List.drop_succ_cons, List.drop_zero]
        repeat (go_big_quiet_step (fail))
        refine wpQuiet_nil ?_
        rintro _ ⟨m, rfl⟩
        go_wp2_with fail
        rw [HU1.out]
        have kb3 : Blk ((w2.drewN m).setCell ⟨g, k / 8, none⟩ (.int .u8 (u.toNat : Int))) w.heap.size 31 _ := (kb2.drewN m).far hgne _
        have row3 : RowAt ((w2.drewN m).setCell ⟨g, k / 8, none⟩ (.int .u8 (u.toNat : Int))) 5 g (xs.set (k / 8) u ++ cs) := by rw [← HS1.out]; exact (HROW.out.drewN m).set_ (k / 8) u
        have D3 : Below w1.heap.size w2 ((w2.drewN m).setCell ⟨g, k / 8, none⟩ (.int .u8 (u.toNat : Int))) := (below_drewN (Below.refl _ _) m).setCell hbg _
        generalize (w2.drewN m).setCell ⟨g, k / 8, none⟩ (.int .u8 (u.toNat : Int)) = w3 at kb3 row3 D3 ⊢
        have RA3 := RA2.below D3
        have B3 : Below w.heap.size w w3 := B2.trans (D3.mono (Nat.le_of_lt hlt1))
        have f33 : w3.cell? ⟨w.heap.size, 3, none⟩ = some (.int .i64 k) := kb3.cell 3
        have cp3 : w3.cell? ⟨g, k / 8, none⟩ = some (.int .u8 (u.toNat : Int)) := by rw [row3.cell (k / 8) (by rw [List.length_append, List.length_set]; have := HP.out; omega), List.getElem_append_left (by rw [List.length_set]; exact HP.out), List.getElem_set_self]
        have fp3 := row3.frozen (k / 8)
        have RD3 : Rd w3 w3.heap.size (some ⟨g, 0, none⟩) (xs.set (k / 8) u) := row3.rd 0 _ (fun j hj => by rw [Nat.zero_add, List.getElem?_append_left hj])
        have RT3 := RA3.take_k (k / 8)
        clear cp fp f3' kb2 B2 RA2 HU1 HS1 HROW D3
        go_wp2_with fail
        refine (same_no _ _ _ _ _ _ _ _ xs (xs.set (k / 8) u) w3 HX.out (by rw [List.length_set]; exact HX.out) hx47 hx47 RA3 RD3 HNE.out).mono ?_
        rintro e W ⟨rfl, rfl⟩
        go_wp2_with fail
        refine (same_no _ _ _ _ _ _ _ _ xs (xs.take (k / 8)) w3 HX.out (by rw [List.length_take]; have := HX.out; omega) hx47 (by omega) RA3 RT3 (fun h => by have h1 := congrArg List.length h; rw [List.length_take, HX.out] at h1; omega)).mono ?_
        rintro e W ⟨rfl, rfl⟩
        clear RD3 RT3
        go_wp2_with fail
        refine wp_region_quiet_tail 17 (by kernel_rfl) (by kernel_rfl) ?_
        simp only [List.take_succ_cons, List.take_zero, List.drop_succ_cons, List.drop_zero]
        repeat (go_big_quiet_step (fail))
        refine wpQuiet_nil ?_
        rintro _ ⟨m', rfl⟩
        go_wp2_with fail
        rw [HU2.out]
        have row4 : RowAt ((w3.drewN m').setCell ⟨g, k / 8, none⟩ (.int .u8 (v.toNat : Int))) 5 g (xs ++ cs) := by rw [← HS2.out]; exact (row3.drewN m').set_ (k / 8) v
        have D4 : Below w1.heap.size w3 ((w3.drewN m').setCell ⟨g, k / 8, none⟩ (.int .u8 (v.toNat : Int))) := (below_drewN (Below.refl _ _) m').setCell hbg _
        generalize (w3.drewN m').setCell ⟨g, k / 8, none⟩ (.int .u8 (v.toNat : Int)) = w4 at row4 D4 ⊢
        have RA4 := RA3.below D4
        have B4 : Below w.heap.size w w4 := B3.trans (D4.mono (Nat.le_of_lt hlt1))
        have ho4 : Own8 w4 5 w1.heap.size (some ⟨g, 0, none⟩) n c2 xs := ⟨HX.out, .inr ⟨g, cs, rfl, hbg, row4, HHO.out, hcm⟩⟩
        have hlt4 := row4.lt
        have hs4 : w1.heap.size ≤ w4.heap.size := by omega
        clear kb3 row3 RA3 f33 cp3 fp3 HS2 HU2 row4 D4 B3
        clear hd0 hd1
        have h1 := rd_one w4 5 0 0 rfl
        have o5 := ho4.alloc (.cells #[.int .u8 0] 5)
        have B5 := B4.alloc B4.size (.cells #[.int .u8 0] 5)
        have hle := B4.size
        have RA5 := (RA4.more hs4).alloc (Nat.le_refl _) (.cells #[.int .u8 0] 5)
        have s5 : (w4.alloc (.cells #[.int .u8 0] 5)).heap.size = w4.heap.size + 1 := by simp
        have hl1 := hlt1
        have z5 : w1.heap.size ≤ (w4.alloc (.cells #[.int .u8 0] 5)).heap.size := by omega
        rw [← whole_eq 13]
        go_wp2_with (at_builtin; refine wpList_append8 h8 _ rfl _ _ rfl w1.heap.size _ _ _ _ rfl o5 _ _ _ _ _ rfl rfl h1 (by omega) z5 ?_; intro A6 c6 w6 h6 hg6 hh6)
        have RA6 : Rd w6 w1.heap.size _ xs := RA4.keep fun p hp => by
          have e1 : w6.heap[p.block]? = (w4.alloc (.cells #[.int .u8 0] 5)).heap[p.block]? := hg6.block p.block (by omega) (fun e => by have := o5.blk p.block e.symm; omega)
          exact (World.cell?_of_block e1).trans (World.cell?_alloc_lt w4 _ p (by omega))
        have B6 : Below w.heap.size w w6 := B5.grown hg6 B5.size (fun q hq => Nat.le_trans (Nat.le_of_lt hl1) (o5.blk q hq))
        have RD6 := h6.rd
        have L6 := h6.len
        clear h1 o5 B5 RA5 s5 z5 hg6 hh6
        go_wp2_with fail
        refine (same_no _ _ _ _ _ _ _ _ xs (xs ++ [0]) w6 HX.out L6 hx47 (by unfold maxLen; omega) RA6 RD6 (fun h => by have h1 := congrArg List.length h; rw [List.length_append] at h1; simp at h1)).mono ?_
        rintro e W ⟨rfl, rfl⟩
        clear h6 RD6 L6 RA6
        go_wp2_with fail
        refine (CW.out w6 B6).mono ?_
        rintro e w7 ⟨rfl, hb7⟩
        go_wp2_with fail
        go_ret
        exact ⟨rfl, B6.trans (hb7.mono B6.size)⟩
      · have hd1 : decide ((k : Int) < 8 * (n : Int)) = false := by simp; omega
        have hs2 : w1.heap.size ≤ w2.heap.size := hs2'
        go_wp2_with fail
        have h1 := rd_one w2 5 0 0 rfl
        have o5 := ho.alloc (.cells #[.int .u8 0] 5)
        have B5 := B2.alloc B2.size (.cells #[.int .u8 0] 5)
        have hle := B2.size
        have RA5 := (RA2.more hs2).alloc (Nat.le_refl _) (.cells #[.int .u8 0] 5)
        have s5 : (w2.alloc (.cells #[.int .u8 0] 5)).heap.size = w2.heap.size + 1 := by simp
        have hl1 := hlt1
        have z5 : w1.heap.size ≤ (w2.alloc (.cells #[.int .u8 0] 5)).heap.size := by omega
        rw [← whole_eq 13]
        go_wp2_with (at_builtin; refine wpList_append8 h8 _ rfl _ _ rfl w1.heap.size _ _ _ _ rfl o5 _ _ _ _ _ rfl rfl h1 (by omega) z5 ?_; intro A6 c6 w6 h6 hg6 hh6)
        have RA6 : Rd w6 w1.heap.size _ xs := RA2.keep fun p hp => by
          have e1 : w6.heap[p.block]? = (w2.alloc (.cells #[.int .u8 0] 5)).heap[p.block]? := hg6.block p.block (by omega) (fun e => by have := o5.blk p.block e.symm; omega)
          exact (World.cell?_of_block e1).trans (World.cell?_alloc_lt w2 _ p (by omega))
        have B6 : Below w.heap.size w w6 := B5.grown hg6 B5.size (fun q hq => Nat.le_trans (Nat.le_of_lt hl1) (o5.blk q hq))
        have RD6 := h6.rd
        have L6 := h6.len
        clear h1 o5 B5 RA5 s5 z5 hg6 hh6
        go_wp2_with fail
        refine (same_no _ _ _ _ _ _ _ _ xs (xs ++ [0]) w6 HX.out L6 hx47 (by unfold maxLen; omega) RA6 RD6 (fun h => by have h1 := congrArg List.length h; rw [List.length_append] at h1; simp at h1)).mono ?_
        rintro e W ⟨rfl, rfl⟩
        clear h6 RD6 L6 RA6
        go_wp2_with fail
        refine (CW.out w6 B6).mono ?_
        rintro e w7 ⟨rfl, hb7⟩
        go_wp2_with fail
        go_ret
        exact ⟨rfl, B6.trans (hb7.mono B6.size)⟩
  
    · have hd0 : decide (at_ ≥ 0) = false := by simp; omega
      have hs2 : w1.heap.size ≤ w2.heap.size := hs2'
      go_wp2_with fail
      have h1 := rd_one w2 5 0 0 rfl
      have o5 := ho.alloc (.cells #[.int .u8 0] 5)
      have B5 := B2.alloc B2.size (.cells #[.int .u8 0] 5)
      have hle := B2.size
      have RA5 := (RA2.more hs2).alloc (Nat.le_refl _) (.cells #[.int .u8 0] 5)
      have s5 : (w2.alloc (.cells #[.int .u8 0] 5)).heap.size = w2.heap.size + 1 := by simp
      have hl1 := hlt1
      have z5 : w1.heap.size ≤ (w2.alloc (.cells #[.int .u8 0] 5)).heap.size := by omega
      rw [← whole_eq 13]
      go_wp2_with (at_builtin; refine wpList_append8 h8 _ rfl _ _ rfl w1.heap.size _ _ _ _ rfl o5 _ _ _ _ _ rfl rfl h1 (by omega) z5 ?_; intro A6 c6 w6 h6 hg6 hh6)
      have RA6 : Rd w6 w1.heap.size _ xs := RA2.keep fun p hp => by
        have e1 : w6.heap[p.block]? = (w2.alloc (.cells #[.int .u8 0] 5)).heap[p.block]? := hg6.block p.block (by omega) (fun e => by have := o5.blk p.block e.symm; omega)
        exact (World.cell?_of_block e1).trans (World.cell?_alloc_lt w2 _ p (by omega))
      have B6 : Below w.heap.size w w6 := B5.grown hg6 B5.size (fun q hq => Nat.le_trans (Nat.le_of_lt hl1) (o5.blk q hq))
      have RD6 := h6.rd
      have L6 := h6.len
      clear h1 o5 B5 RA5 s5 z5 hg6 hh6
      go_wp2_with fail
      refine (same_no _ _ _ _ _ _ _ _ xs (xs ++ [0]) w6 HX.out L6 hx47 (by unfold maxLen; omega) RA6 RD6 (fun h => by have h1 := congrArg List.length h; rw [List.length_append] at h1; simp at h1)).mono ?_
      rintro e W ⟨rfl, rfl⟩
      clear h6 RD6 L6 RA6
      go_wp2_with fail
      refine (CW.out w6 B6).mono ?_
      rintro e w7 ⟨rfl, hb7⟩
      go_wp2_with fail
      go_ret
      exact ⟨rfl, B6.trans (hb7.mono B6.size)⟩
end Go.Proofs.YtdhbafmccphelaaDoor
