/-
  PacketForms, walked.
-/
import Derived.Test.YtifmhlbeodfpeaaQ33
import Derived.Test.YtifmhlbeodfpeaaQ34
import Derived.Test.YtifmhlbeodfpeaaQ32
import Derived.Test.YtifmhlbeodfpeaaQ30
import Derived.Test.YtifmhlbeodfpeaaQ26
namespace Go.Proofs.Ytifmhlbeodfpeaa
open Go.RowKit
set_option linter.unusedVariables false

theorem rd_three (w : World) (t : TypeId) : Rd (w.alloc (.cells #[.int .u8 0, .int .u8 0, .int .u8 0] t)) (w.heap.size + 1) (some ⟨w.heap.size, 0, none⟩) [0, 0, 0] :=
  ((RowAt.new w t [0, 0, 0]).rd 0 [0, 0, 0] (fun j hj => by simp)).more (by simp)
set_option maxRecDepth 100000 in
set_option maxHeartbeats 8000000 in
theorem packetForms_walk (tag : Nat) (A : Option Addr) (n c : Nat) (cs : List Chk) (at_ : Nat) (vb : UInt8) (w : World) (ht : tag < 4294967296) (hcn : n ≤ c) (hcm : c ≤ maxLen) (hx : cs.length = n) (hr : Chunks w w.heap.size A cs) (hat : at_ < 65536) :
    Calls Try.prog 9 #[.agg #[.int .u32 (tag : Int), .slice A n c, .int .u16 (at_ : Int), .int .u8 (vb.toNat : Int)]] w fun e w' => e = .returned (.bool true) ∧ Below w.heap.size w w' := by
  have hz : ∀ W, (zeroValue 25).run Try.prog W = .ok (.agg #[.int .u32 0, .slice none 0 0]) W := by intro W; kernel_rfl
  obtain ⟨i8, h8⟩ := Try.ty8
  have HLG : Hid (∀ W, Below w.heap.size w W → Calls Try.prog 11 #[.agg #[.int .u32 (tag : Int), .slice A n c]] W fun e w' => LargeR cs e ∧ Below W.heap.size W w') := Lib.hid fun W hW => large_any (tag : Int) A n c cs W (Nat.le_trans hcn hcm) hx ((hr.below hW).more hW.size)
  obtain ⟨sz, hsz⟩ : ∃ sz, sz = sizeP cs := ⟨_, rfl⟩
  have HWY : Hid (Meek cs → mayP cs = true → ∀ W, Below w.heap.size w W → Calls Try.prog 14 #[.agg #[.int .u32 (tag : Int), .slice A n c]] W fun e w' => ∃ A2 c2, e = .returned (.slice A2 sz c2) ∧ Own8 w' 5 W.heap.size A2 sz c2 (wrP tag cs) ∧ Below W.heap.size W w') := Lib.hid fun hm hmy W hW => (writeP_yes tag A n c cs W ht (by have := hm.len; omega) hx ((hr.below hW).more hW.size) hmy).mono fun e w' ⟨A2, m, c2, he, ho, hb⟩ => by
    have hm2 : m = sz := by rw [← ho.len, length_wrP hmy, hsz]
    subst hm2
    exact ⟨A2, c2, he, ho, hb⟩
  have HWN : Hid (Meek cs → mayP cs = false → ∀ W, Below w.heap.size w W → Calls Try.prog 14 #[.agg #[.int .u32 (tag : Int), .slice A n c]] W fun e w' => e = .returned (.slice none 0 0) ∧ Below W.heap.size W w') := Lib.hid fun hm hmy W hW => writeP_no tag A n c cs W (by have := hm.len; omega) hx ((hr.below hW).more hW.size) hmy
  have hs12 : 12 ≤ sz := by rw [hsz]; unfold sizeP; omega
  have HSB : Hid (Meek cs → sz ≤ 134584) := Lib.hid fun hm => by rw [hsz]; have := hm.size; unfold sizeP; omega
  have K0 := Lib.hid (Blk.new w 53 #[.int .u32 (tag : Int), .slice A n c, .int .u16 (at_ : Int), .int .u8 (vb.toNat : Int)])
  have B0 := Lib.hid (below_new w (.cells #[.int .u32 (tag : Int), .slice A n c, .int .u16 (at_ : Int), .int .u8 (vb.toNat : Int)] 53))
  have HTG := Lib.hid ht
  have HSZ := Lib.hid hsz
  clear hr hx hsz hcm hcn ht
  go_enter Try.func9, Try.ntmps9
  rw [held_eq 7, held_eq 9, held_eq 10, held_eq 14, held_eq 15, held_eq 16, held_eq 17, held_eq 18]
  go_wp2_with fail
  generalize w.alloc (.cells #[.int .u32 (tag : Int), .slice A n c, .int .u16 (at_ : Int), .int .u8 (vb.toNat : Int)] 53) = v0 at K0 B0 ⊢
  refine (HLG.out v0 B0.out).mono ?_
  rintro e w1 ⟨hL, hb⟩
  have K1 := Lib.hid (K0.out.below hb K0.out.lt)
  have B1 := Lib.hid (below_then B0.out (Nat.le_refl _) hb)
  have x0 : w1.cell? ⟨w.heap.size, 0, none⟩ = some (.int .u32 (tag : Int)) := K1.out.cell 0
  have x1 : w1.cell? ⟨w.heap.size, 1, none⟩ = some (.slice A n c) := K1.out.cell 1
  clear HLG hb K0 B0
  rcases hL with rfl | ⟨rfl, hM⟩
  · go_wp2_with fail
    refine (works_any w1).mono ?_
    rintro e wz ⟨rfl, hb⟩
    go_wp2_with fail
    go_ret
    exact ⟨rfl, below_then B1.out (Nat.le_refl _) hb⟩
  · have HM := Lib.hid hM
    have hsb := HSB.out hM
    clear hM HSB
    cases hmy : mayP cs with
    | false =>
      have HWN2 := Lib.hid (HWN.out HM.out hmy)
      clear hmy HWN HWY hs12 hsb
      go_wp2_with fail
      refine (HWN2.out w1 B1.out).mono ?_
      rintro e w2 ⟨rfl, hb⟩
      have B2 := Lib.hid (below_then B1.out (Nat.le_refl _) hb)
      clear hb K1 B1 x0 x1 HWN2
      go_wp2_with fail
      refine (works_any w2).mono ?_
      rintro e wz ⟨rfl, hb⟩
      go_wp2_with fail
      go_ret
      exact ⟨rfl, below_then B2.out (Nat.le_refl _) hb⟩
    | true =>
      have HWY2 := Lib.hid (HWY.out HM.out hmy)
      obtain ⟨k, hk⟩ : ∃ k, k = at_ % 8 := ⟨_, rfl⟩
      have hk8 : k < 8 := by omega
      have HK := Lib.hid hk
      obtain ⟨xs, hxs⟩ : ∃ xs, xs = wrP tag cs := ⟨_, rfl⟩
      have hxl : xs.length = sz := by
        rw [hxs, length_wrP hmy]
        exact HSZ.out.symm
      obtain ⟨v, hv⟩ : ∃ v, xs[k]? = some v := ⟨_, List.getElem?_eq_getElem (by omega)⟩
      have HSM : Hid (vb = v → rdP (smd (xs.set k vb)) = .ok tag cs) := Lib.hid fun h => by
        subst h
        subst hxs
        exact turn_same HTG.out hmy hk8 hv
      have HFM : Hid (vb ≠ v → k < 4 → rdP (smd (xs.set k vb)) = .err 7) := Lib.hid fun h h4 => by
        subst hxs
        exact turn_form HTG.out hmy h4 hv h
      have HTN : Hid (vb ≠ v → 4 ≤ k → ∃ tag2, tag2 < 4294967296 ∧ tag2 ≠ tag ∧ rdP (smd (xs.set k vb)) = .ok tag2 cs) := Lib.hid fun h h4 => by
        subst hxs
        exact turn_tag HTG.out hmy h4 hk8 hv h
      have HBH : Hid (rdP (smd (xs ++ [0, 0, 0])) = .err 7) := Lib.hid (by rw [hxs]; exact behind_wr HTG.out hmy)
      have HBK : Hid ((xs.set k vb).set k v = xs) := Lib.hid (by rw [List.set_set]; exact set_same hv)
      have HXL := Lib.hid hxl
      have HV := Lib.hid hv
      rw [← hxs] at HWY2
      clear hmy HWN HWY HM hk hxs hv
      go_wp2_with fail
      refine (HWY2.out w1 B1.out).mono ?_
      rintro e w2 ⟨A2, c2, rfl, ho, hb⟩
      obtain ⟨g, cz, rfl, hbg, hrow, hcz, hc2m⟩ : ∃ g cz, A2 = some ⟨g, 0, none⟩ ∧ w1.heap.size ≤ g ∧ RowAt w2 5 g (xs ++ cz) ∧ sz + cz.length = c2 ∧ c2 ≤ maxLen := by
        rcases ho with ⟨hxl, ⟨-, h0, -⟩ | ho⟩
        · omega
        · exact ho
      have K2 := Lib.hid (K1.out.below hb K1.out.lt)
      have B2 := Lib.hid (below_then B1.out (Nat.le_refl _) hb)
      have hgg : w.heap.size < g := Nat.lt_of_lt_of_le K1.out.lt hbg
      have hcc2 : sz ≤ c2 := by omega
      have HCZ := Lib.hid hcz
      have HCM := Lib.hid hc2m
      have R2 := Lib.hid hrow
      have y2 : w2.cell? ⟨w.heap.size, 2, none⟩ = some (.int .u16 (at_ : Int)) := K2.out.cell 2
      have hsz0 : ((sz : Int) == 0) = false := beq_false_of_ne (by omega)
      clear hb hrow hcz hc2m ho hbg HWY2 K1 B1 x0 x1 hxl
      go_wp2_with fail
      rw [← held_eq 7]
      rw [show ((at_ : Int) % 8) = ((k : Nat) : Int) by have := HK.out; omega]
      have hkl : k < (xs ++ cz).length := by rw [List.length_append, HXL.out]; omega
      have cv : w2.cell? ⟨g, k, none⟩ = some (.int .u8 (v.toNat : Int)) := by
        have h1 := R2.out.cell k hkl
        have h2 : (xs ++ cz)[k] = v := by
          have h3 := HV.out
          rw [List.getElem_append_left (by rw [HXL.out]; omega)]
          obtain ⟨hl, he⟩ := List.getElem?_eq_some_iff.1 h3
          exact he
        rw [h2] at h1
        exact h1
      have fv := R2.out.frozen k
      have y3 : w2.cell? ⟨w.heap.size, 3, none⟩ = some (.int .u8 (vb.toNat : Int)) := K2.out.cell 3
      have HS1 := Lib.hid (show (xs ++ cz).set k vb = xs.set k vb ++ cz from List.set_append_left _ _ (by rw [HXL.out]; omega))
      clear hkl
      go_wp2_with fail
      have R3 : Hid (RowAt (w2.setCell ⟨g, k, none⟩ (.int .u8 (vb.toNat : Int))) 5 g (xs.set k vb ++ cz)) := Lib.hid (by rw [← HS1.out]; exact R2.out.set_ k vb)
      have K3 := Lib.hid (K2.out.far (p := ⟨g, k, none⟩) (show w.heap.size ≠ g by omega) (.int .u8 (vb.toNat : Int)))
      have B3 := Lib.hid (B2.out.setCell (p := ⟨g, k, none⟩) (show w.heap.size ≤ g by omega) (.int .u8 (vb.toNat : Int)))
      generalize w2.setCell ⟨g, k, none⟩ (.int .u8 (vb.toNat : Int)) = w3 at R3 K3 B3 ⊢
      clear R2 K2 B2 cv fv y2 y3 HS1
      obtain ⟨ys, hys⟩ : ∃ ys, ys = xs.set k vb := ⟨_, rfl⟩
      rw [← hys] at R3 HSM HFM HTN HBK
      have HYL : Hid (ys.length = sz) := Lib.hid (by rw [hys, List.length_set, HXL.out])
      have HCB : Hid (∀ h : k < (ys ++ cz).length, (ys ++ cz)[k] = vb) := Lib.hid fun h => by
        have h2 : k < ys.length := by rw [HYL.out]; omega
        rw [List.getElem_append_left h2]
        subst hys
        rw [List.getElem_set_self]
      clear hys
      rw [← held_eq 9]
      go_wp2_with fail
      refine (summed_any (some ⟨g, 0, none⟩) sz c2 ys w3 (by omega) hs12 HYL.out (R3.out.rd 0 _ (fun j hj => by rw [Nat.zero_add, List.getElem?_append_left hj]))).mono ?_
      rintro e w4 ⟨A4, c4, rfl, ho, hb⟩
      have R4 := Lib.hid (R3.out.below hb R3.out.lt)
      have K4 := Lib.hid (K3.out.below hb K3.out.lt)
      have B4 := Lib.hid (below_then B3.out (Nat.le_refl _) hb)
      have HRE := readP_any A4 sz c4 (smd ys) w4 (by omega) ho.cap.1 ho.cap.2 ho.len ho.rd
      have S4 := Lib.hid hb.size
      clear hb ho R3 K3 B3
      by_cases hvv : vb = v
      · have hrd := HSM.out hvv
        have hvb : ((vb.toNat : Int) == (v.toNat : Int)) = true := by rw [hvv]; simp
        have HVV := Lib.hid hvv
        clear hvv HSM HFM HTN
        by_cases hk4 : k < 4
        · skip
          go_wp2_with fail
          refine HRE.mono ?_
          rintro e w5 ⟨h, hb⟩
          rw [hrd] at h
          obtain ⟨A5, c5, es, rfl, hoc, hes⟩ := h
          clear hoc hes
          have hbb := below_then B4.out (Nat.le_refl _) hb
          have K5 := Lib.hid ((K4.out.below hb K4.out.lt).alloc (.cells #[.int .u32 (tag : Int), .slice A5 es.length c5] 25))
          have R5 := Lib.hid ((R4.out.below hb R4.out.lt).alloc (.cells #[.int .u32 (tag : Int), .slice A5 es.length c5] 25))
          have B5 := Lib.hid (hbb.alloc hbb.size (.cells #[.int .u32 (tag : Int), .slice A5 es.length c5] 25))
          have P5 := Lib.hid (Blk.new w5 25 #[.int .u32 (tag : Int), .slice A5 es.length c5])
          clear hb hbb K4 R4 B4 HRE hrd
          go_wp2_with fail
          obtain ⟨gp, hgp⟩ : ∃ gp, gp = w5.heap.size := ⟨_, rfl⟩
          rw [← hgp] at P5 ⊢
          clear hgp
          generalize w5.alloc (.cells #[.int .u32 (tag : Int), .slice A5 es.length c5] 25) = v5 at K5 R5 B5 P5 ⊢
          have y0 : v5.cell? ⟨w.heap.size, 0, none⟩ = some (.int .u32 (tag : Int)) := K5.out.cell 0
          have y3 : v5.cell? ⟨w.heap.size, 3, none⟩ = some (.int .u8 (vb.toNat : Int)) := K5.out.cell 3
          have p0 : v5.cell? ⟨gp, 0, none⟩ = some (.int .u32 (tag : Int)) := P5.out.cell 0
          have cb : v5.cell? ⟨g, k, none⟩ = some (.int .u8 (vb.toNat : Int)) := by rw [R5.out.cell k (by rw [List.length_append, HYL.out]; omega), HCB.out]
          have fb := R5.out.frozen k
          clear K5 P5
          rw [← held_eq 10]
          go_wp2_with fail
          rw [← held_eq 14]
          go_wp2_with fail
          have R6 : Hid (RowAt (v5.setCell ⟨g, k, none⟩ (.int .u8 (v.toNat : Int))) 5 g (xs ++ cz)) := Lib.hid (by have h1 := R5.out.set_ k v; rw [List.set_append_left _ _ (by rw [HYL.out]; omega), HBK.out] at h1; exact h1)
          have B6 := Lib.hid (B5.out.setCell (p := ⟨g, k, none⟩) (show w.heap.size ≤ g by omega) (.int .u8 (v.toNat : Int)))
          generalize v5.setCell ⟨g, k, none⟩ (.int .u8 (v.toNat : Int)) = w6 at R6 B6 ⊢
          clear R5 B5 cb fb y0 y3 p0
          rw [← held_eq 15]
          go_wp2_with fail
          refine (summed_any (some ⟨g, 0, none⟩) 12 c2 (xs.take 12) w6 (by omega) (Nat.le_refl _) (by rw [List.length_take, HXL.out]; omega) (R6.out.rd 0 _ (fun j hj => by rw [List.length_take, HXL.out] at hj; rw [Nat.zero_add, List.getElem?_take, if_pos (by omega), List.getElem?_append_left (by rw [HXL.out]; omega)]))).mono ?_
          rintro e w7 ⟨A7, c7, rfl, ho, hb⟩
          have R7 := Lib.hid (R6.out.below hb R6.out.lt)
          have B7 := Lib.hid (below_then B6.out (Nat.le_refl _) hb)
          have HRE7 : Hid (Calls Try.prog 22 #[.slice A7 12 c7] w7 fun e w' => e = .returned (noPkt 7) ∧ Below w7.heap.size w7 w') := Lib.hid ((readP_any A7 12 c7 (smd (xs.take 12)) w7 (by omega) ho.cap.1 ho.cap.2 ho.len ho.rd).mono fun e w' h => by
            have h1 := h.1
            rw [rdP_bareHead (by rw [List.length_take, HXL.out]; omega)] at h1
            exact ⟨h1, h.2⟩)
          clear ho hb R6 B6
          go_wp2_with fail
          refine HRE7.out.mono ?_
          rintro e w8 ⟨rfl, hb⟩
          have hbb := below_then B7.out (Nat.le_refl _) hb
          have R8 := Lib.hid ((R7.out.below hb R7.out.lt).alloc (.cells #[.int .u32 0, .slice none 0 0] 25))
          have B8 := Lib.hid (hbb.alloc hbb.size (.cells #[.int .u32 0, .slice none 0 0] 25))
          clear hb hbb HRE7 R7 B7
          rw [noPkt]
          go_wp2_with fail
          generalize w8.alloc (.cells #[.int .u32 0, .slice none 0 0] 25) = w9 at R8 B8 ⊢
          rw [← held_eq 16]
          go_wp2_with fail
          refine (copyBytes_any (some ⟨g, 0, none⟩) sz c2 xs w9 (by omega) HXL.out (R8.out.rd 0 _ (fun j hj => by rw [Nat.zero_add, List.getElem?_append_left hj]))).mono ?_
          rintro e w10 ⟨A10, c10, rfl, ho, hb⟩
          have oa := ho.alloc (.cells #[.int .u8 0, .int .u8 0, .int .u8 0] 5)
          have hbb := below_then B8.out (Nat.le_refl _) hb
          have BA := hbb.alloc hbb.size (.cells #[.int .u8 0, .int .u8 0, .int .u8 0] 5)
          have r3 := rd_three w10 5
          have hzz : w9.heap.size ≤ (w10.alloc (.cells #[.int .u8 0, .int .u8 0, .int .u8 0] 5)).heap.size := by have := hb.size; simp; omega
          have hw9 := B8.out.size
          clear R8 B8 hbb hb ho
          go_wp2_with fail
          rw [← held_eq 17]
          go_wp2_with (at_builtin; refine wpList_append8 h8 _ rfl _ _ rfl w9.heap.size _ _ _ _ rfl oa _ _ _ _ _ rfl rfl r3 (by omega) hzz ?_; intro A11 c11 w11 h11 hg11 hh11)
          have B11 := Lib.hid (BA.grown hg11 BA.size (fun q hq => Nat.le_trans hw9 (oa.blk q hq)))
          clear oa BA r3 hzz hg11 hh11
          rw [← held_eq 18]
          go_wp2_with fail
          refine (summed_any A11 (sz + 3) c11 (xs ++ [0, 0, 0]) w11 (by omega) (by omega) h11.len h11.rd).mono ?_
          rintro e w12 ⟨A12, c12, rfl, ho, hb⟩
          have B12 := Lib.hid (below_then B11.out (Nat.le_refl _) hb)
          have HRE8 : Hid (Calls Try.prog 22 #[.slice A12 (sz + 3) c12] w12 fun e w' => e = .returned (noPkt 7) ∧ Below w12.heap.size w12 w') := Lib.hid ((readP_any A12 (sz + 3) c12 (smd (xs ++ [0, 0, 0])) w12 (by omega) ho.cap.1 ho.cap.2 ho.len ho.rd).mono fun e w' h => by
            have h1 := h.1
            rw [HBH.out] at h1
            exact ⟨h1, h.2⟩)
          clear ho hb h11 B11
          go_wp2_with fail
          refine HRE8.out.mono ?_
          rintro e w13 ⟨rfl, hb⟩
          have hbb := below_then B12.out (Nat.le_refl _) hb
          have B13 := Lib.hid (hbb.alloc hbb.size (.cells #[.int .u32 0, .slice none 0 0] 25))
          clear hb hbb HRE8 B12
          rw [noPkt]
          go_wp2_with fail
          generalize w13.alloc (.cells #[.int .u32 0, .slice none 0 0] 25) = w14 at B13 ⊢
          refine (works_any w14).mono ?_
          rintro e wz ⟨rfl, hb⟩
          go_wp2_with fail
          go_ret
          exact ⟨rfl, below_then B13.out (Nat.le_refl _) hb⟩
        · skip
          go_wp2_with fail
          refine HRE.mono ?_
          rintro e w5 ⟨h, hb⟩
          rw [hrd] at h
          obtain ⟨A5, c5, es, rfl, hoc, hes⟩ := h
          clear hoc hes
          have hbb := below_then B4.out (Nat.le_refl _) hb
          have K5 := Lib.hid ((K4.out.below hb K4.out.lt).alloc (.cells #[.int .u32 (tag : Int), .slice A5 es.length c5] 25))
          have R5 := Lib.hid ((R4.out.below hb R4.out.lt).alloc (.cells #[.int .u32 (tag : Int), .slice A5 es.length c5] 25))
          have B5 := Lib.hid (hbb.alloc hbb.size (.cells #[.int .u32 (tag : Int), .slice A5 es.length c5] 25))
          have P5 := Lib.hid (Blk.new w5 25 #[.int .u32 (tag : Int), .slice A5 es.length c5])
          clear hb hbb K4 R4 B4 HRE hrd
          go_wp2_with fail
          obtain ⟨gp, hgp⟩ : ∃ gp, gp = w5.heap.size := ⟨_, rfl⟩
          rw [← hgp] at P5 ⊢
          clear hgp
          generalize w5.alloc (.cells #[.int .u32 (tag : Int), .slice A5 es.length c5] 25) = v5 at K5 R5 B5 P5 ⊢
          have y0 : v5.cell? ⟨w.heap.size, 0, none⟩ = some (.int .u32 (tag : Int)) := K5.out.cell 0
          have y3 : v5.cell? ⟨w.heap.size, 3, none⟩ = some (.int .u8 (vb.toNat : Int)) := K5.out.cell 3
          have p0 : v5.cell? ⟨gp, 0, none⟩ = some (.int .u32 (tag : Int)) := P5.out.cell 0
          have cb : v5.cell? ⟨g, k, none⟩ = some (.int .u8 (vb.toNat : Int)) := by rw [R5.out.cell k (by rw [List.length_append, HYL.out]; omega), HCB.out]
          have fb := R5.out.frozen k
          clear K5 P5
          rw [← held_eq 10]
          go_wp2_with fail
          rw [← held_eq 14]
          go_wp2_with fail
          have R6 : Hid (RowAt (v5.setCell ⟨g, k, none⟩ (.int .u8 (v.toNat : Int))) 5 g (xs ++ cz)) := Lib.hid (by have h1 := R5.out.set_ k v; rw [List.set_append_left _ _ (by rw [HYL.out]; omega), HBK.out] at h1; exact h1)
          have B6 := Lib.hid (B5.out.setCell (p := ⟨g, k, none⟩) (show w.heap.size ≤ g by omega) (.int .u8 (v.toNat : Int)))
          generalize v5.setCell ⟨g, k, none⟩ (.int .u8 (v.toNat : Int)) = w6 at R6 B6 ⊢
          clear R5 B5 cb fb y0 y3 p0
          rw [← held_eq 15]
          go_wp2_with fail
          refine (summed_any (some ⟨g, 0, none⟩) 12 c2 (xs.take 12) w6 (by omega) (Nat.le_refl _) (by rw [List.length_take, HXL.out]; omega) (R6.out.rd 0 _ (fun j hj => by rw [List.length_take, HXL.out] at hj; rw [Nat.zero_add, List.getElem?_take, if_pos (by omega), List.getElem?_append_left (by rw [HXL.out]; omega)]))).mono ?_
          rintro e w7 ⟨A7, c7, rfl, ho, hb⟩
          have R7 := Lib.hid (R6.out.below hb R6.out.lt)
          have B7 := Lib.hid (below_then B6.out (Nat.le_refl _) hb)
          have HRE7 : Hid (Calls Try.prog 22 #[.slice A7 12 c7] w7 fun e w' => e = .returned (noPkt 7) ∧ Below w7.heap.size w7 w') := Lib.hid ((readP_any A7 12 c7 (smd (xs.take 12)) w7 (by omega) ho.cap.1 ho.cap.2 ho.len ho.rd).mono fun e w' h => by
            have h1 := h.1
            rw [rdP_bareHead (by rw [List.length_take, HXL.out]; omega)] at h1
            exact ⟨h1, h.2⟩)
          clear ho hb R6 B6
          go_wp2_with fail
          refine HRE7.out.mono ?_
          rintro e w8 ⟨rfl, hb⟩
          have hbb := below_then B7.out (Nat.le_refl _) hb
          have R8 := Lib.hid ((R7.out.below hb R7.out.lt).alloc (.cells #[.int .u32 0, .slice none 0 0] 25))
          have B8 := Lib.hid (hbb.alloc hbb.size (.cells #[.int .u32 0, .slice none 0 0] 25))
          clear hb hbb HRE7 R7 B7
          rw [noPkt]
          go_wp2_with fail
          generalize w8.alloc (.cells #[.int .u32 0, .slice none 0 0] 25) = w9 at R8 B8 ⊢
          rw [← held_eq 16]
          go_wp2_with fail
          refine (copyBytes_any (some ⟨g, 0, none⟩) sz c2 xs w9 (by omega) HXL.out (R8.out.rd 0 _ (fun j hj => by rw [Nat.zero_add, List.getElem?_append_left hj]))).mono ?_
          rintro e w10 ⟨A10, c10, rfl, ho, hb⟩
          have oa := ho.alloc (.cells #[.int .u8 0, .int .u8 0, .int .u8 0] 5)
          have hbb := below_then B8.out (Nat.le_refl _) hb
          have BA := hbb.alloc hbb.size (.cells #[.int .u8 0, .int .u8 0, .int .u8 0] 5)
          have r3 := rd_three w10 5
          have hzz : w9.heap.size ≤ (w10.alloc (.cells #[.int .u8 0, .int .u8 0, .int .u8 0] 5)).heap.size := by have := hb.size; simp; omega
          have hw9 := B8.out.size
          clear R8 B8 hbb hb ho
          go_wp2_with fail
          rw [← held_eq 17]
          go_wp2_with (at_builtin; refine wpList_append8 h8 _ rfl _ _ rfl w9.heap.size _ _ _ _ rfl oa _ _ _ _ _ rfl rfl r3 (by omega) hzz ?_; intro A11 c11 w11 h11 hg11 hh11)
          have B11 := Lib.hid (BA.grown hg11 BA.size (fun q hq => Nat.le_trans hw9 (oa.blk q hq)))
          clear oa BA r3 hzz hg11 hh11
          rw [← held_eq 18]
          go_wp2_with fail
          refine (summed_any A11 (sz + 3) c11 (xs ++ [0, 0, 0]) w11 (by omega) (by omega) h11.len h11.rd).mono ?_
          rintro e w12 ⟨A12, c12, rfl, ho, hb⟩
          have B12 := Lib.hid (below_then B11.out (Nat.le_refl _) hb)
          have HRE8 : Hid (Calls Try.prog 22 #[.slice A12 (sz + 3) c12] w12 fun e w' => e = .returned (noPkt 7) ∧ Below w12.heap.size w12 w') := Lib.hid ((readP_any A12 (sz + 3) c12 (smd (xs ++ [0, 0, 0])) w12 (by omega) ho.cap.1 ho.cap.2 ho.len ho.rd).mono fun e w' h => by
            have h1 := h.1
            rw [HBH.out] at h1
            exact ⟨h1, h.2⟩)
          clear ho hb h11 B11
          go_wp2_with fail
          refine HRE8.out.mono ?_
          rintro e w13 ⟨rfl, hb⟩
          have hbb := below_then B12.out (Nat.le_refl _) hb
          have B13 := Lib.hid (hbb.alloc hbb.size (.cells #[.int .u32 0, .slice none 0 0] 25))
          clear hb hbb HRE8 B12
          rw [noPkt]
          go_wp2_with fail
          generalize w13.alloc (.cells #[.int .u32 0, .slice none 0 0] 25) = w14 at B13 ⊢
          refine (works_any w14).mono ?_
          rintro e wz ⟨rfl, hb⟩
          go_wp2_with fail
          go_ret
          exact ⟨rfl, below_then B13.out (Nat.le_refl _) hb⟩
      · have hvb : ((vb.toNat : Int) == (v.toNat : Int)) = false := byte_ne hvv
        have HVV := Lib.hid hvv
        by_cases hk4 : k < 4
        · have hrd := HFM.out hvv hk4
          clear hvv HSM HFM HTN
          go_wp2_with fail
          refine HRE.mono ?_
          rintro e w5 ⟨h, hb⟩
          rw [hrd] at h
          have h' : e = .returned (noPkt 7) := h
          subst h'
          clear h
          rw [noPkt]
          have hbb := below_then B4.out (Nat.le_refl _) hb
          have K5 := Lib.hid ((K4.out.below hb K4.out.lt).alloc (.cells #[.int .u32 0, .slice none 0 0] 25))
          have R5 := Lib.hid ((R4.out.below hb R4.out.lt).alloc (.cells #[.int .u32 0, .slice none 0 0] 25))
          have B5 := Lib.hid (hbb.alloc hbb.size (.cells #[.int .u32 0, .slice none 0 0] 25))
          have P5 := Lib.hid (Blk.new w5 25 #[.int .u32 0, .slice none 0 0])
          clear hb hbb K4 R4 B4 HRE hrd
          go_wp2_with fail
          obtain ⟨gp, hgp⟩ : ∃ gp, gp = w5.heap.size := ⟨_, rfl⟩
          rw [← hgp] at P5 ⊢
          clear hgp
          generalize w5.alloc (.cells #[.int .u32 0, .slice none 0 0] 25) = v5 at K5 R5 B5 P5 ⊢
          have y0 : v5.cell? ⟨w.heap.size, 0, none⟩ = some (.int .u32 (tag : Int)) := K5.out.cell 0
          have y3 : v5.cell? ⟨w.heap.size, 3, none⟩ = some (.int .u8 (vb.toNat : Int)) := K5.out.cell 3
          have p0 : v5.cell? ⟨gp, 0, none⟩ = some (.int .u32 (0 : Int)) := P5.out.cell 0
          have cb : v5.cell? ⟨g, k, none⟩ = some (.int .u8 (vb.toNat : Int)) := by rw [R5.out.cell k (by rw [List.length_append, HYL.out]; omega), HCB.out]
          have fb := R5.out.frozen k
          clear K5 P5
          rw [← held_eq 10]
          go_wp2_with fail
          rw [← held_eq 14]
          go_wp2_with fail
          have R6 : Hid (RowAt (v5.setCell ⟨g, k, none⟩ (.int .u8 (v.toNat : Int))) 5 g (xs ++ cz)) := Lib.hid (by have h1 := R5.out.set_ k v; rw [List.set_append_left _ _ (by rw [HYL.out]; omega), HBK.out] at h1; exact h1)
          have B6 := Lib.hid (B5.out.setCell (p := ⟨g, k, none⟩) (show w.heap.size ≤ g by omega) (.int .u8 (v.toNat : Int)))
          generalize v5.setCell ⟨g, k, none⟩ (.int .u8 (v.toNat : Int)) = w6 at R6 B6 ⊢
          clear R5 B5 cb fb y0 y3 p0
          rw [← held_eq 15]
          go_wp2_with fail
          refine (summed_any (some ⟨g, 0, none⟩) 12 c2 (xs.take 12) w6 (by omega) (Nat.le_refl _) (by rw [List.length_take, HXL.out]; omega) (R6.out.rd 0 _ (fun j hj => by rw [List.length_take, HXL.out] at hj; rw [Nat.zero_add, List.getElem?_take, if_pos (by omega), List.getElem?_append_left (by rw [HXL.out]; omega)]))).mono ?_
          rintro e w7 ⟨A7, c7, rfl, ho, hb⟩
          have R7 := Lib.hid (R6.out.below hb R6.out.lt)
          have B7 := Lib.hid (below_then B6.out (Nat.le_refl _) hb)
          have HRE7 : Hid (Calls Try.prog 22 #[.slice A7 12 c7] w7 fun e w' => e = .returned (noPkt 7) ∧ Below w7.heap.size w7 w') := Lib.hid ((readP_any A7 12 c7 (smd (xs.take 12)) w7 (by omega) ho.cap.1 ho.cap.2 ho.len ho.rd).mono fun e w' h => by
            have h1 := h.1
            rw [rdP_bareHead (by rw [List.length_take, HXL.out]; omega)] at h1
            exact ⟨h1, h.2⟩)
          clear ho hb R6 B6
          go_wp2_with fail
          refine HRE7.out.mono ?_
          rintro e w8 ⟨rfl, hb⟩
          have hbb := below_then B7.out (Nat.le_refl _) hb
          have R8 := Lib.hid ((R7.out.below hb R7.out.lt).alloc (.cells #[.int .u32 0, .slice none 0 0] 25))
          have B8 := Lib.hid (hbb.alloc hbb.size (.cells #[.int .u32 0, .slice none 0 0] 25))
          clear hb hbb HRE7 R7 B7
          rw [noPkt]
          go_wp2_with fail
          generalize w8.alloc (.cells #[.int .u32 0, .slice none 0 0] 25) = w9 at R8 B8 ⊢
          rw [← held_eq 16]
          go_wp2_with fail
          refine (copyBytes_any (some ⟨g, 0, none⟩) sz c2 xs w9 (by omega) HXL.out (R8.out.rd 0 _ (fun j hj => by rw [Nat.zero_add, List.getElem?_append_left hj]))).mono ?_
          rintro e w10 ⟨A10, c10, rfl, ho, hb⟩
          have oa := ho.alloc (.cells #[.int .u8 0, .int .u8 0, .int .u8 0] 5)
          have hbb := below_then B8.out (Nat.le_refl _) hb
          have BA := hbb.alloc hbb.size (.cells #[.int .u8 0, .int .u8 0, .int .u8 0] 5)
          have r3 := rd_three w10 5
          have hzz : w9.heap.size ≤ (w10.alloc (.cells #[.int .u8 0, .int .u8 0, .int .u8 0] 5)).heap.size := by have := hb.size; simp; omega
          have hw9 := B8.out.size
          clear R8 B8 hbb hb ho
          go_wp2_with fail
          rw [← held_eq 17]
          go_wp2_with (at_builtin; refine wpList_append8 h8 _ rfl _ _ rfl w9.heap.size _ _ _ _ rfl oa _ _ _ _ _ rfl rfl r3 (by omega) hzz ?_; intro A11 c11 w11 h11 hg11 hh11)
          have B11 := Lib.hid (BA.grown hg11 BA.size (fun q hq => Nat.le_trans hw9 (oa.blk q hq)))
          clear oa BA r3 hzz hg11 hh11
          rw [← held_eq 18]
          go_wp2_with fail
          refine (summed_any A11 (sz + 3) c11 (xs ++ [0, 0, 0]) w11 (by omega) (by omega) h11.len h11.rd).mono ?_
          rintro e w12 ⟨A12, c12, rfl, ho, hb⟩
          have B12 := Lib.hid (below_then B11.out (Nat.le_refl _) hb)
          have HRE8 : Hid (Calls Try.prog 22 #[.slice A12 (sz + 3) c12] w12 fun e w' => e = .returned (noPkt 7) ∧ Below w12.heap.size w12 w') := Lib.hid ((readP_any A12 (sz + 3) c12 (smd (xs ++ [0, 0, 0])) w12 (by omega) ho.cap.1 ho.cap.2 ho.len ho.rd).mono fun e w' h => by
            have h1 := h.1
            rw [HBH.out] at h1
            exact ⟨h1, h.2⟩)
          clear ho hb h11 B11
          go_wp2_with fail
          refine HRE8.out.mono ?_
          rintro e w13 ⟨rfl, hb⟩
          have hbb := below_then B12.out (Nat.le_refl _) hb
          have B13 := Lib.hid (hbb.alloc hbb.size (.cells #[.int .u32 0, .slice none 0 0] 25))
          clear hb hbb HRE8 B12
          rw [noPkt]
          go_wp2_with fail
          generalize w13.alloc (.cells #[.int .u32 0, .slice none 0 0] 25) = w14 at B13 ⊢
          refine (works_any w14).mono ?_
          rintro e wz ⟨rfl, hb⟩
          go_wp2_with fail
          go_ret
          exact ⟨rfl, below_then B13.out (Nat.le_refl _) hb⟩
        · obtain ⟨tag2, ht2, hne, hrd⟩ := HTN.out hvv (by omega)
          have htt : ((tag2 : Int) == (tag : Int)) = false := beq_false_of_ne (by omega)
          clear hvv HSM HFM HTN hne
          go_wp2_with fail
          refine HRE.mono ?_
          rintro e w5 ⟨h, hb⟩
          rw [hrd] at h
          obtain ⟨A5, c5, es, rfl, hoc, hes⟩ := h
          clear hoc hes
          have hbb := below_then B4.out (Nat.le_refl _) hb
          have K5 := Lib.hid ((K4.out.below hb K4.out.lt).alloc (.cells #[.int .u32 (tag2 : Int), .slice A5 es.length c5] 25))
          have R5 := Lib.hid ((R4.out.below hb R4.out.lt).alloc (.cells #[.int .u32 (tag2 : Int), .slice A5 es.length c5] 25))
          have B5 := Lib.hid (hbb.alloc hbb.size (.cells #[.int .u32 (tag2 : Int), .slice A5 es.length c5] 25))
          have P5 := Lib.hid (Blk.new w5 25 #[.int .u32 (tag2 : Int), .slice A5 es.length c5])
          clear hb hbb K4 R4 B4 HRE hrd
          go_wp2_with fail
          obtain ⟨gp, hgp⟩ : ∃ gp, gp = w5.heap.size := ⟨_, rfl⟩
          rw [← hgp] at P5 ⊢
          clear hgp
          generalize w5.alloc (.cells #[.int .u32 (tag2 : Int), .slice A5 es.length c5] 25) = v5 at K5 R5 B5 P5 ⊢
          have y0 : v5.cell? ⟨w.heap.size, 0, none⟩ = some (.int .u32 (tag : Int)) := K5.out.cell 0
          have y3 : v5.cell? ⟨w.heap.size, 3, none⟩ = some (.int .u8 (vb.toNat : Int)) := K5.out.cell 3
          have p0 : v5.cell? ⟨gp, 0, none⟩ = some (.int .u32 (tag2 : Int)) := P5.out.cell 0
          have cb : v5.cell? ⟨g, k, none⟩ = some (.int .u8 (vb.toNat : Int)) := by rw [R5.out.cell k (by rw [List.length_append, HYL.out]; omega), HCB.out]
          have fb := R5.out.frozen k
          clear K5 P5
          rw [← held_eq 10]
          go_wp2_with fail
          rw [← held_eq 14]
          go_wp2_with fail
          have R6 : Hid (RowAt (v5.setCell ⟨g, k, none⟩ (.int .u8 (v.toNat : Int))) 5 g (xs ++ cz)) := Lib.hid (by have h1 := R5.out.set_ k v; rw [List.set_append_left _ _ (by rw [HYL.out]; omega), HBK.out] at h1; exact h1)
          have B6 := Lib.hid (B5.out.setCell (p := ⟨g, k, none⟩) (show w.heap.size ≤ g by omega) (.int .u8 (v.toNat : Int)))
          generalize v5.setCell ⟨g, k, none⟩ (.int .u8 (v.toNat : Int)) = w6 at R6 B6 ⊢
          clear R5 B5 cb fb y0 y3 p0
          rw [← held_eq 15]
          go_wp2_with fail
          refine (summed_any (some ⟨g, 0, none⟩) 12 c2 (xs.take 12) w6 (by omega) (Nat.le_refl _) (by rw [List.length_take, HXL.out]; omega) (R6.out.rd 0 _ (fun j hj => by rw [List.length_take, HXL.out] at hj; rw [Nat.zero_add, List.getElem?_take, if_pos (by omega), List.getElem?_append_left (by rw [HXL.out]; omega)]))).mono ?_
          rintro e w7 ⟨A7, c7, rfl, ho, hb⟩
          have R7 := Lib.hid (R6.out.below hb R6.out.lt)
          have B7 := Lib.hid (below_then B6.out (Nat.le_refl _) hb)
          have HRE7 : Hid (Calls Try.prog 22 #[.slice A7 12 c7] w7 fun e w' => e = .returned (noPkt 7) ∧ Below w7.heap.size w7 w') := Lib.hid ((readP_any A7 12 c7 (smd (xs.take 12)) w7 (by omega) ho.cap.1 ho.cap.2 ho.len ho.rd).mono fun e w' h => by
            have h1 := h.1
            rw [rdP_bareHead (by rw [List.length_take, HXL.out]; omega)] at h1
            exact ⟨h1, h.2⟩)
          clear ho hb R6 B6
          go_wp2_with fail
          refine HRE7.out.mono ?_
          rintro e w8 ⟨rfl, hb⟩
          have hbb := below_then B7.out (Nat.le_refl _) hb
          have R8 := Lib.hid ((R7.out.below hb R7.out.lt).alloc (.cells #[.int .u32 0, .slice none 0 0] 25))
          have B8 := Lib.hid (hbb.alloc hbb.size (.cells #[.int .u32 0, .slice none 0 0] 25))
          clear hb hbb HRE7 R7 B7
          rw [noPkt]
          go_wp2_with fail
          generalize w8.alloc (.cells #[.int .u32 0, .slice none 0 0] 25) = w9 at R8 B8 ⊢
          rw [← held_eq 16]
          go_wp2_with fail
          refine (copyBytes_any (some ⟨g, 0, none⟩) sz c2 xs w9 (by omega) HXL.out (R8.out.rd 0 _ (fun j hj => by rw [Nat.zero_add, List.getElem?_append_left hj]))).mono ?_
          rintro e w10 ⟨A10, c10, rfl, ho, hb⟩
          have oa := ho.alloc (.cells #[.int .u8 0, .int .u8 0, .int .u8 0] 5)
          have hbb := below_then B8.out (Nat.le_refl _) hb
          have BA := hbb.alloc hbb.size (.cells #[.int .u8 0, .int .u8 0, .int .u8 0] 5)
          have r3 := rd_three w10 5
          have hzz : w9.heap.size ≤ (w10.alloc (.cells #[.int .u8 0, .int .u8 0, .int .u8 0] 5)).heap.size := by have := hb.size; simp; omega
          have hw9 := B8.out.size
          clear R8 B8 hbb hb ho
          go_wp2_with fail
          rw [← held_eq 17]
          go_wp2_with (at_builtin; refine wpList_append8 h8 _ rfl _ _ rfl w9.heap.size _ _ _ _ rfl oa _ _ _ _ _ rfl rfl r3 (by omega) hzz ?_; intro A11 c11 w11 h11 hg11 hh11)
          have B11 := Lib.hid (BA.grown hg11 BA.size (fun q hq => Nat.le_trans hw9 (oa.blk q hq)))
          clear oa BA r3 hzz hg11 hh11
          rw [← held_eq 18]
          go_wp2_with fail
          refine (summed_any A11 (sz + 3) c11 (xs ++ [0, 0, 0]) w11 (by omega) (by omega) h11.len h11.rd).mono ?_
          rintro e w12 ⟨A12, c12, rfl, ho, hb⟩
          have B12 := Lib.hid (below_then B11.out (Nat.le_refl _) hb)
          have HRE8 : Hid (Calls Try.prog 22 #[.slice A12 (sz + 3) c12] w12 fun e w' => e = .returned (noPkt 7) ∧ Below w12.heap.size w12 w') := Lib.hid ((readP_any A12 (sz + 3) c12 (smd (xs ++ [0, 0, 0])) w12 (by omega) ho.cap.1 ho.cap.2 ho.len ho.rd).mono fun e w' h => by
            have h1 := h.1
            rw [HBH.out] at h1
            exact ⟨h1, h.2⟩)
          clear ho hb h11 B11
          go_wp2_with fail
          refine HRE8.out.mono ?_
          rintro e w13 ⟨rfl, hb⟩
          have hbb := below_then B12.out (Nat.le_refl _) hb
          have B13 := Lib.hid (hbb.alloc hbb.size (.cells #[.int .u32 0, .slice none 0 0] 25))
          clear hb hbb HRE8 B12
          rw [noPkt]
          go_wp2_with fail
          generalize w13.alloc (.cells #[.int .u32 0, .slice none 0 0] 25) = w14 at B13 ⊢
          refine (works_any w14).mono ?_
          rintro e wz ⟨rfl, hb⟩
          go_wp2_with fail
          go_ret
          exact ⟨rfl, below_then B13.out (Nat.le_refl _) hb⟩
end Go.Proofs.Ytifmhlbeodfpeaa
