/-
  Package packet: the reference's Read.
-/
import Derived.Test.YtifmhlbeodfpeaaQ25
import Derived.Test.YtifmhlbeodfpeaaQ27
import Derived.Test.YtifmhlbeodfpeaaQ15
namespace Go.Proofs.Ytifmhlbeodfpeaa
open Go.RowKit
set_option linter.unusedVariables false

/-- Noughts in the places 8 and on. -/
def zr (ys : List UInt8) : Nat → List UInt8
  | 0 => ys
  | j + 1 => (zr ys j).set (8 + j) 0
theorem length_zr (ys : List UInt8) : ∀ j, (zr ys j).length = ys.length
  | 0 => rfl
  | j + 1 => by rw [zr, List.length_set, length_zr ys j]
theorem zr_bare {xs zs : List UInt8} (h : 12 ≤ xs.length) : zr (xs ++ zs) 4 = bareP xs ++ zs := by
  apply List.ext_getElem?
  intro i
  have hb : (bareP xs).length = xs.length := by simp [bareP]; omega
  have e : zr (xs ++ zs) 4 = ((((xs ++ zs).set 8 0).set 9 0).set 10 0).set 11 0 := rfl
  rw [e]
  simp only [List.getElem?_set, List.length_set, List.length_append]
  by_cases hi : i < xs.length
  · rw [show (bareP xs ++ zs)[i]? = (bareP xs)[i]? from List.getElem?_append_left (by omega), show (xs ++ zs)[i]? = xs[i]? from List.getElem?_append_left hi]
    unfold bareP
    by_cases h8 : i < 8
    · rw [List.getElem?_append_left (by simp; omega), List.getElem?_take, if_pos h8, if_neg (by omega), if_neg (by omega), if_neg (by omega), if_neg (by omega)]
    · rw [List.getElem?_append_right (by simp; omega)]
      have ht : (xs.take 8).length = 8 := by simp; omega
      rw [ht]
      by_cases h12 : i < 12
      · rw [List.getElem?_append_left (by simp; omega), List.getElem?_replicate, if_pos (show i - 8 < 4 by omega)]
        have : i = 8 ∨ i = 9 ∨ i = 10 ∨ i = 11 := by omega
        rcases this with rfl | rfl | rfl | rfl
        all_goals simp
        all_goals omega
      · rw [List.getElem?_append_right (by simp; omega), List.length_replicate, List.getElem?_drop, if_neg (by omega), if_neg (by omega), if_neg (by omega), if_neg (by omega)]
        congr 1
        omega
  · rw [if_neg (by omega), if_neg (by omega), if_neg (by omega), if_neg (by omega), show (bareP xs ++ zs)[i]? = zs[i - (bareP xs).length]? from List.getElem?_append_right (by omega), show (xs ++ zs)[i]? = zs[i - xs.length]? from List.getElem?_append_right (by omega), hb]

theorem rd_some2 {b : List UInt8} {cs : List Chk} (h : 12 ≤ b.length) (hs : (sum (bareP b)).toNat = num b 8 4) (hp : Parsed (b.drop 12) (some cs)) : rdP b = if mayP cs = true ∧ laidP (num b 4 4) (num b 8 4) cs = b then .ok (num b 4 4) cs else .err 7 := by
  have h2 := hp b.length (by rw [List.length_drop]; omega)
  rw [rd_some h hs hp]
  simp only [laid_iff h (cat_parseN _ _ _ h2).1]

/-- Between two rounds of the reference's loop. -/
structure RdJ (w : World) (gp tag : Nat) (es : List CE) (A1 : Option Addr) (c1 : Nat) (W : World) : Prop where
  oc : OC W w.heap.size (.slice A1 es.length c1) es
  kp : Blk W gp 25 #[.int .u32 (tag : Int), .slice A1 es.length c1]
  k2 : Blk W w.heap.size 25 #[.int .u32 0, .slice none 0 0]
  bl : Below w.heap.size w W
section
variable {w W W' : World} {gp tag c1 : Nat} {A1 : Option Addr} {es : List CE}
theorem RdJ.below (h : RdJ w gp tag es A1 c1 W) (hb : Below W.heap.size W W') : RdJ w gp tag es A1 c1 W' :=
  ⟨h.oc.below hb, h.kp.below hb h.kp.lt, h.k2.below hb h.k2.lt, below_then h.bl (Nat.le_refl _) hb⟩
end

set_option maxRecDepth 100000 in
set_option maxHeartbeats 4000000 in
theorem refReadP_short (A : Option Addr) (n c : Nat) (xs : List UInt8) (w : World) (h12 : n < 12) (hx : xs.length = n) :
    Calls Try.prog 23 #[.slice A n c] w fun e w' => RdR w.heap.size (rdP xs) e w' ∧ Below w.heap.size w w' := by
  have HE : Hid (rdP xs = .err 7) := Lib.hid (rd_short (by omega))
  have hz : ∀ W, (zeroValue 25).run Try.prog W = .ok (.agg #[.int .u32 0, .slice none 0 0]) W := by intro W; kernel_rfl
  go_enter Try.func23, Try.ntmps23
  go_wp2_with fail
  refine bodyPost_ret (v := noPkt 7) ?_ rfl ⟨by rw [HE.out]; rfl, (Below.refl _ w).alloc (Nat.le_refl _) _⟩
  simp [noPkt, results, Try.results23, go_sem]

set_option maxRecDepth 100000 in
set_option maxHeartbeats 4000000 in
theorem refReadP_long (A : Option Addr) (n c : Nat) (xs : List UInt8) (w : World) (hn : n ≤ 4194304) (hcn : n ≤ c) (hcm : c ≤ maxLen) (hx : xs.length = n) (hr : Rd w w.heap.size A xs) (h12 : 12 ≤ n) :
    Calls Try.prog 23 #[.slice A n c] w fun e w' => RdR w.heap.size (rdP xs) e w' ∧ Below w.heap.size w w' := by
  have hz : ∀ W, (zeroValue 25).run Try.prog W = .ok (.agg #[.int .u32 0, .slice none 0 0]) W := by intro W; kernel_rfl
  obtain ⟨b, o, rfl, hbl, _⟩ := hr.at_ (by rintro rfl; simp at hx; omega)
  have HX := Lib.hid hx
  have HR := Lib.hid hr
  have HCM := Lib.hid hcm
  obtain ⟨s, hs⟩ : ∃ s, s = (sum (bareP xs)).toNat := ⟨_, rfl⟩
  have HS := Lib.hid hs
  have hs4 : s < 4294967296 := by rw [hs]; exact (sum (bareP xs)).isLt
  have hsw := wrap_u64n (show s < 18446744073709551616 by omega)
  obtain ⟨tag, htag⟩ : ∃ tag, tag = num xs 4 4 := ⟨_, rfl⟩
  have ht4 : tag < 4294967296 := by rw [htag]; exact num_lt xs 4 4
  have htw := wrap_u32k ht4
  have HTAG := Lib.hid htag
  obtain ⟨s8, hs8⟩ : ∃ s8, s8 = num xs 8 4 := ⟨_, rfl⟩
  have HS8 := Lib.hid hs8
  have hs84 : s8 < 4294967296 := by rw [hs8]; exact num_lt xs 8 4
  have hs8w := wrap_u32k hs84
  have HG8 : Hid (∀ W, Below w.heap.size w W → Calls Try.prog 47 #[.slice (some ⟨b, o, none⟩) n c, .int .i64 8, .int .i64 4] W fun e w' => e = .returned (.tuple #[.int .u64 (s8 : Int), .int .i64 0]) ∧ Below W.heap.size W w') := Lib.hid fun W hW => hs8 ▸ refGet_yes _ n c 8 4 xs W (by omega) hcn hcm hx ((hr.below hW).more hW.size) (.inr (.inr (.inl rfl))) (by omega)
  have HG4 : Hid (∀ W, Below w.heap.size w W → Calls Try.prog 47 #[.slice (some ⟨b, o, none⟩) n c, .int .i64 4, .int .i64 4] W fun e w' => e = .returned (.tuple #[.int .u64 (tag : Int), .int .i64 0]) ∧ Below W.heap.size W w') := Lib.hid fun W hW => htag ▸ refGet_yes _ n c 4 4 xs W (by omega) hcn hcm hx ((hr.below hW).more hW.size) (.inr (.inr (.inl rfl))) (by omega)
  have HCP : Hid (∀ W, Below w.heap.size w W → Calls Try.prog 30 #[.slice (some ⟨b, o, none⟩) n c] W fun e w' => ∃ A2 c2, e = .returned (.slice A2 n c2) ∧ Own8 w' 5 W.heap.size A2 n c2 xs ∧ Below W.heap.size W w') := Lib.hid fun W hW => copyBytes_any _ n c xs W (by omega) hx ((hr.below hW).more hW.size)
  have hc12 : 12 ≤ c := by omega
  unfold maxLen at hcm
  have K0 : Hid (Blk (w.alloc (.cells #[.int .u32 0, .slice none 0 0] 25)) w.heap.size 25 #[.int .u32 0, .slice none 0 0]) := Lib.hid (Blk.new w _ _)
  have B0 := Lib.hid (below_new w (.cells #[.int .u32 0, .slice none 0 0] 25))
  clear hx hr hs htag hs8
  go_enter Try.func23, Try.ntmps23
  rw [held_eq 18]
  go_wp2_with fail
  generalize w.alloc (.cells #[.int .u32 0, .slice none 0 0] 25) = v0 at K0 B0 ⊢
  refine (HG8.out v0 B0.out).mono ?_
  rintro e w1 ⟨rfl, hb⟩
  have K1 := Lib.hid (K0.out.below hb K0.out.lt)
  have B1 := Lib.hid (below_then B0.out (Nat.le_refl _) hb)
  clear hb K0 B0 HG8
  go_wp2_with fail
  refine (HCP.out w1 B1.out).mono ?_
  rintro e w2 ⟨A2, c2, rfl, ho, hb⟩
  have K2 := Lib.hid (K1.out.below hb K1.out.lt)
  have B2 := Lib.hid (below_then B1.out (Nat.le_refl _) hb)
  obtain ⟨g, zs, rfl, hg, hrow, hcz, hcm2⟩ : ∃ g zs, A2 = some ⟨g, 0, none⟩ ∧ w1.heap.size ≤ g ∧ RowAt w2 5 g (xs ++ zs) ∧ n + zs.length = c2 ∧ c2 ≤ maxLen := by
    rcases ho.2 with ⟨_, h0, _⟩ | h
    · omega
    · exact h
  have R2 := Lib.hid hrow
  have HCZ := Lib.hid hcz
  have HCM2 := Lib.hid hcm2
  have hnc2 : n ≤ c2 := by omega
  have hgw : w.heap.size < g := by have := K1.out.lt; omega
  clear hb ho hrow hcz hcm2 hg K1 B1 HCP
  go_wp2_with fail
  go_loopw [7] (fun i wr => ∃ k : Nat, k ≤ 4 ∧ i = .int .i64 (8 + k : Nat) ∧ Hid (RowAt wr 5 g (zr (xs ++ zs) k)) ∧ Hid (Below w.heap.size w wr) ∧ Hid (Blk wr w.heap.size 25 #[.int .u32 0, .slice none 0 0])) (fun i _ => 12 - (intOf i).toNat)
  case atStart => exact ⟨0, by omega, rfl, R2, B2, K2⟩
  case round =>
    clear R2 B2 K2
    obtain ⟨k, hk, rfl, R, B, K⟩ := hrel
    by_cases hlt : k < 4
    · have hkl : 8 + k < (zr (xs ++ zs) k).length := by rw [length_zr, List.length_append, HX.out]; omega
      have x0 := R.out.cell (8 + k) hkl
      have f0 := R.out.frozen (8 + k)
      go_wp2_with fail
      go_roundw
      case rel => exact ⟨k + 1, by omega, by go_num, Lib.hid (R.out.set_ (8 + k) 0), Lib.hid (B.out.setCell (p := ⟨g, 8 + k, none⟩) (show w.heap.size ≤ g by omega) _), Lib.hid (K.out.far (p := ⟨g, 8 + k, none⟩) (show w.heap.size ≠ g by omega) _)⟩
      case measure => simp [intOf]; omega
    · obtain rfl : k = 4 := by omega
      have HSU : Hid (Calls Try.prog 39 #[.slice (some ⟨g, 0, none⟩) n c2] wr fun e w' => e = .returned (.int .u32 (s : Int)) ∧ wr = w') := Lib.hid (by
        have hz4 := zr_bare (xs := xs) (zs := zs) (by rw [HX.out]; exact h12)
        have hR := R.out
        rw [hz4] at hR
        have hbl : (bareP xs).length = n := by have := HX.out; simp [bareP]; omega
        have := refSum_any wr.heap.size (some ⟨g, 0, none⟩) n c2 (bareP xs) wr (by unfold maxLen; omega) hbl (hR.rd 0 _ (fun j hj => by rw [Nat.zero_add, List.getElem?_append_left hj]))
        rw [HS.out]
        exact this)
      clear R
      go_wp2_with fail
      refine HSU.out.mono ?_
      rintro e w3 ⟨rfl, rfl⟩
      clear HSU
      have d20 : wr.cell? ⟨w.heap.size, 0, none⟩ = some (.int .u32 0) := K.out.cell 0
      have d21 : wr.cell? ⟨w.heap.size, 1, none⟩ = some (.slice none 0 0) := K.out.cell 1
      have e20 := K.out.frozen 0
      have e21 := K.out.frozen 1
      by_cases hss : s = s8
      · have hd : ((s : Int) != (s8 : Int)) = false := by rw [bne_eq_false_iff_eq]; omega
        have HSE : Hid ((sum (bareP xs)).toNat = num xs 8 4) := Lib.hid (by rw [← HS.out, ← HS8.out]; exact hss)
        clear hss d20 d21 e20 e21
        go_wp2_with fail
        refine (HG4.out wr B.out).mono ?_
        rintro e w3 ⟨rfl, hb⟩
        have K2b := Lib.hid ((K.out.below hb K.out.lt).alloc (.cells #[.int .u32 (tag : Int), .slice none 0 0] 25))
        have KPb := Lib.hid (Blk.new w3 25 #[.int .u32 (tag : Int), .slice none 0 0])
        have hbb := below_then B.out (Nat.le_refl _) hb
        have B2 := Lib.hid (hbb.alloc hbb.size (.cells #[.int .u32 (tag : Int), .slice none 0 0] 25))
        obtain ⟨gp, hgp⟩ : ∃ gp, gp = w3.heap.size := ⟨_, rfl⟩
        have hgp2 : w.heap.size < gp := by have := (K.out.below hb K.out.lt).lt; omega
        rw [← hgp] at KPb
        have HGP := Lib.hid hgp
        clear hb hbb hgp K B HG4
        go_wp2_with fail
        rw [← HGP.out]
        generalize w3.alloc (.cells #[.int .u32 (tag : Int), .slice none 0 0] 25) = w4 at K2b KPb B2 ⊢
        clear HGP
        go_loopw [11] (fun i wr => ∃ (es : List CE) (at_ : Nat) (A1 : Option Addr) (c1 : Nat), at_ ≤ n - 12 ∧ i = .int .i64 (12 + at_ : Nat) ∧ 4 * es.length ≤ at_ ∧ Hid (Come_ (xs.drop 12) (es.map CE.chk) at_) ∧ Hid (RdJ w gp tag es A1 c1 wr)) (fun i _ => n - (intOf i).toNat)
        case atStart => exact ⟨[], 0, none, 0, Nat.zero_le _, rfl, Nat.zero_le _, Lib.hid (come_nil _), Lib.hid ⟨OC.nil _ _, KPb.out, K2b.out, B2.out⟩⟩
        case round =>
          clear K2b KPb B2
          obtain ⟨es, at_, A1, c1, hat, rfl, hes, HC, HJ⟩ := hrel
          have HL12 : Hid ((xs.drop 12).length = n - 12) := Lib.hid (by rw [List.length_drop, HX.out])
          by_cases hlt : at_ < n - 12
          · have hca : ¬ c = 12 + at_ := by omega
            have hrd : Rd wr wr.heap.size (some ⟨b, o + (12 + at_), none⟩) (xs.drop (12 + at_)) := ((HR.out.below HJ.out.bl).more HJ.out.bl.size).from_ (c := c) (by rw [HX.out]; exact hcn) (if_neg hca)
            rw [← List.drop_drop] at hrd
            obtain ⟨ys, hys⟩ : ∃ ys, ys = (xs.drop 12).drop at_ := ⟨_, rfl⟩
            have HYS := Lib.hid hys
            have hyl : ys.length = n - (12 + at_) := by rw [hys, List.length_drop, HL12.out]; omega
            rw [← hys] at hrd
            by_cases hf : Fits ys
            · have HRR := Lib.hid (refRead_yes (some ⟨b, o + (12 + at_), none⟩) (n - (12 + at_)) (c - (12 + at_)) ys wr (by omega) (by omega) (by have := HCM.out; omega) hyl hrd hf)
              have hU := up4_bd (clen ys)
              have hhi := hf.hi
              have hlo := hf.lo
              obtain ⟨U, hUe⟩ : ∃ U, U = up4 (clen ys) := ⟨_, rfl⟩
              obtain ⟨L, hLe⟩ : ∃ L, L = clen ys - 4 := ⟨_, rfl⟩
              rw [← hUe, ← hLe] at HRR
              have hUn : at_ + U ≤ n - 12 := by omega
              have hU4 : 4 ≤ U := by omega
              have HUE := Lib.hid hUe
              have HF := Lib.hid hf
              clear hys hrd hyl hf hU hhi hlo hUe hLe
              go_wp2_with fail
              refine HRR.out.mono ?_
              rintro e w5 ⟨A2, c3, rfl, ho2, hb2⟩
              have HJ5 := Lib.hid ((HJ.out.below hb2).below (below_new w5 (.cells #[.int .u8 ((kind ys).toNat : Int), .int .u8 ((flag ys).toNat : Int), .slice A2 L c3] 41)))
              have HFR := Lib.hid (far_new HJ.out.oc ho2 (Nat.le_refl _))
              have HO := Lib.hid ((ho2.more HJ.out.bl.size).alloc (.cells #[.int .u8 ((kind ys).toNat : Int), .int .u8 ((flag ys).toNat : Int), .slice A2 L c3] 41))
              have C2 := Lib.hid (Blk.new w5 41 #[.int .u8 ((kind ys).toNat : Int), .int .u8 ((flag ys).toNat : Int), .slice A2 L c3])
              obtain ⟨gc, hgc⟩ : ∃ gc, gc = w5.heap.size := ⟨_, rfl⟩
              rw [← hgc] at C2
              have HGC := Lib.hid hgc
              clear ho2 hb2 HRR HJ hgc
              go_wp2_with fail
              rw [← HGC.out]
              generalize w5.alloc (.cells #[.int .u8 ((kind ys).toNat : Int), .int .u8 ((flag ys).toNat : Int), .slice A2 L c3] 41) = v5 at HJ5 HO C2 ⊢
              clear HGC
              rw [← held_eq 18]
              have hes2 : es.length ≤ 1048576 := by omega
              obtain ⟨A4, c4, w6, hrun, hoc, hgr⟩ := OC.push 23 ⟨kind ys, flag ys, A2, L, c3, body ys⟩ (HJ5.out.oc.alloc (.cells #[.int .u8 ((kind ys).toNat : Int), .int .u8 ((flag ys).toNat : Int), .slice A2 L c3] 41)) rfl (Blk.new v5 41 #[.int .u8 ((kind ys).toNat : Int), .int .u8 ((flag ys).toNat : Int), .slice A2 L c3]) (HO.out.alloc _) HFR.out hes2 (Nat.le_trans HJ5.out.bl.size (by simp))
              have J6 := Lib.hid (HJ5.out.below (below_new v5 (.cells #[.int .u8 ((kind ys).toNat : Int), .int .u8 ((flag ys).toNat : Int), .slice A2 L c3] 41)))
              have hnp := ownsRow_ne J6.out.oc.row J6.out.kp (by decide)
              have hn2 := ownsRow_ne J6.out.oc.row J6.out.k2 (by decide)
              have KP6 := Lib.hid (J6.out.kp.grown hgr hnp)
              have K26 := Lib.hid (J6.out.k2.grown hgr hn2)
              have B6 := Lib.hid (J6.out.bl.grown hgr J6.out.bl.size (ownsRow_ge J6.out.oc.row))
              have HOC := Lib.hid hoc
              have y1 : v5.cell? ⟨gp, 1, none⟩ = some (.slice A1 es.length c1) := HJ5.out.kp.cell 1
              have z1 : w6.cell? ⟨gp, 1, none⟩ = some (.slice A1 es.length c1) := KP6.out.cell 1
              have e1 := KP6.out.frozen 1
              have x0 : v5.cell? ⟨gc, 0, none⟩ = some (.int .u8 ((kind ys).toNat : Int)) := C2.out.cell 0
              have x1 : v5.cell? ⟨gc, 1, none⟩ = some (.int .u8 ((flag ys).toNat : Int)) := C2.out.cell 1
              have x2 : v5.cell? ⟨gc, 2, none⟩ = some (.slice A2 L c3) := C2.out.cell 2
              clear hgr hoc hnp hn2 J6
              go_wp2_with (at_builtin; refine wpList_append_run rfl _ _ 23 rfl _ _ _ rfl rfl _ rfl hrun ?_)
              go_roundw
              case rel =>
                refine ⟨es ++ [⟨kind ys, flag ys, A2, L, c3, body ys⟩], at_ + U, A4, c4, hUn, by go_num, by simp; omega, Lib.hid (by
                  have := come_step HC.out (HYS.out ▸ HF.out)
                  rw [← HYS.out, ← HUE.out] at this
                  simpa [CE.chk] using this), Lib.hid ?_⟩
                have hl1 : (es ++ [(⟨kind ys, flag ys, A2, L, c3, body ys⟩ : CE)]).length = es.length + 1 := by simp
                exact ⟨by rw [hl1]; exact HOC.out.setBlk KP6.out (by decide) (by decide) 1 _, by rw [hl1]; exact KP6.out.set_ 1 _, K26.out.far (p := ⟨gp, 1, none⟩) (show w.heap.size ≠ gp by omega) _, B6.out.setCell (p := ⟨gp, 1, none⟩) (show w.heap.size ≤ gp by omega) _⟩
              case measure => simp [intOf]; omega
            · have HRR := Lib.hid (refRead_no (some ⟨b, o + (12 + at_), none⟩) (n - (12 + at_)) (c - (12 + at_)) ys wr (by omega) (by omega) (by have := HCM.out; omega) hyl hrd hf)
              have HE : Hid (rdP xs = .err 7) := Lib.hid (rd_none (by rw [HX.out]; omega) HSE.out (come_stop HC.out (by rw [HL12.out]; exact hlt) (by rw [List.length_map]; exact hes) (HYS.out ▸ hf)))
              clear hys hrd hyl hf
              go_wp2_with fail
              refine HRR.out.mono ?_
              rintro e w5 ⟨rfl, hb2⟩
              have HJ5 := Lib.hid ((HJ.out.below hb2).below (below_new w5 (.cells #[.int .u8 0, .int .u8 0, .slice none 0 0] 41)))
              clear hb2 HRR HJ
              have d20 := HJ5.out.k2.cell 0
              have d21 := HJ5.out.k2.cell 1
              have e20 := HJ5.out.k2.frozen 0
              have e21 := HJ5.out.k2.frozen 1
              rw [noChunk]
              go_wp2_with fail
              have k2 := (HJ5.out.k2.set_ 0 (.int .u32 0)).set_ 1 (.slice none 0 0)
              have x20 := k2.cell 0
              have x21 := k2.cell 1
              refine bodyPost_ret (v := noPkt 7) ?_ rfl ⟨by rw [HE.out]; rfl, (HJ5.out.bl.setCell (p := ⟨w.heap.size, 0, none⟩) (Nat.le_refl _) _).setCell (p := ⟨w.heap.size, 1, none⟩) (Nat.le_refl _) _⟩
              simp [noPkt, results, Try.results23, go_sem, x20, x21]
          · obtain ⟨my, hmy⟩ : ∃ my, my = mayP (es.map CE.chk) := ⟨_, rfl⟩
            have HMY := Lib.hid hmy
            have hatn : at_ = n - 12 := by omega
            have HPS : Hid (Parsed (xs.drop 12) (some (es.map CE.chk))) := Lib.hid (come_end HC.out (by rw [HL12.out]; omega) (by rw [List.length_map, HL12.out]; omega))
            have HRS := Lib.hid (rd_some2 (by rw [HX.out]; omega) HSE.out HPS.out)
            have hes2 : es.length ≤ 1048576 := by omega
            have HCS : Hid (∀ W', RdJ w gp tag es A1 c1 W' → Calls Try.prog 37 #[.slice A1 es.length c1] W' fun e w' => e = .returned (.bool my) ∧ Below W'.heap.size W' w') := Lib.hid fun W' h => hmy ▸ refMay_any A1 es.length c1 (es.map CE.chk) W' (by omega) (by simp) h.oc.chunks
            have y1 : wr.cell? ⟨gp, 1, none⟩ = some (.slice A1 es.length c1) := HJ.out.kp.cell 1
            have hlt2 : ¬ 12 + at_ < n := by omega
            clear hmy hlt
            go_wp2_with fail
            refine (HCS.out wr HJ.out).mono ?_
            rintro e w5 ⟨rfl, hb⟩
            have HJ5 := Lib.hid (HJ.out.below hb)
            clear hb HJ HCS y1
            have d20 : w5.cell? ⟨w.heap.size, 0, none⟩ = some (.int .u32 0) := HJ5.out.k2.cell 0
            have d21 : w5.cell? ⟨w.heap.size, 1, none⟩ = some (.slice none 0 0) := HJ5.out.k2.cell 1
            have e20 := HJ5.out.k2.frozen 0
            have e21 := HJ5.out.k2.frozen 1
            have y0 : w5.cell? ⟨gp, 0, none⟩ = some (.int .u32 (tag : Int)) := HJ5.out.kp.cell 0
            have y1 : w5.cell? ⟨gp, 1, none⟩ = some (.slice A1 es.length c1) := HJ5.out.kp.cell 1
            cases my with
            | false =>
              have HE : Hid (rdP xs = .err 7) := Lib.hid (by rw [HRS.out, if_neg (fun h => by rw [← HMY.out] at h; cases h.1)])
              go_wp2_with fail
              have k2 := (HJ5.out.k2.set_ 0 (.int .u32 0)).set_ 1 (.slice none 0 0)
              have x20 := k2.cell 0
              have x21 := k2.cell 1
              refine bodyPost_ret (v := noPkt 7) ?_ rfl ⟨by rw [HE.out]; rfl, (HJ5.out.bl.setCell (p := ⟨w.heap.size, 0, none⟩) (Nat.le_refl _) _).setCell (p := ⟨w.heap.size, 1, none⟩) (Nat.le_refl _) _⟩
              simp [noPkt, results, Try.results23, go_sem, x20, x21]
            | true =>
              obtain ⟨N, hN⟩ : ∃ N, N = 12 + (cat (es.map CE.chk)).length := ⟨_, rfl⟩
              have hNb : N ≤ 68719476748 := by
                have h1 := laid_le 0 0 (es.map CE.chk) es.length hes2
                rw [List.take_of_length_le (by simp), length_laidP] at h1
                omega
              have HLA := Lib.hid (hN ▸ refLaid_any tag s8 A1 es.length c1 (es.map CE.chk) w5 ht4 hs84 hes2 (by simp) HJ5.out.oc.chunks)
              obtain ⟨q, hq⟩ : ∃ q, q = decide (laidP tag s8 (es.map CE.chk) = xs) := ⟨_, rfl⟩
              have HQ := Lib.hid hq
              clear d20 d21 e20 e21
              go_wp2_with fail
              refine HLA.out.mono ?_
              rintro e w6 ⟨A6, c6, rfl, ho6, hb⟩
              have HJ6 := Lib.hid (HJ5.out.below hb)
              have HEQ : Hid (Calls Try.prog 16 #[.slice A6 N c6, .slice (some ⟨b, o, none⟩) n c] w6 fun e w' => e = .returned (.bool q) ∧ ∃ q, w6.drewN q = w') := Lib.hid (hq ▸ eqBytes_any _ _ A6 (some ⟨b, o, none⟩) N n c6 c _ xs w6 ho6.len HX.out (by unfold maxLen; omega) (by unfold maxLen; omega) ho6.rd (HR.out.below HJ6.out.bl))
              clear hb ho6 HLA HJ5 y0 y1 hq hN
              go_wp2_with fail
              refine HEQ.out.mono ?_
              rintro e w7 ⟨rfl, q7, rfl⟩
              have HJ7 := Lib.hid (HJ6.out.below (below_drewN (Below.refl _ _) q7))
              generalize w6.drewN q7 = w7 at HJ7 ⊢
              clear HJ6 HEQ
              have d20 : w7.cell? ⟨w.heap.size, 0, none⟩ = some (.int .u32 0) := HJ7.out.k2.cell 0
              have d21 : w7.cell? ⟨w.heap.size, 1, none⟩ = some (.slice none 0 0) := HJ7.out.k2.cell 1
              have e20 := HJ7.out.k2.frozen 0
              have e21 := HJ7.out.k2.frozen 1
              have y0 : w7.cell? ⟨gp, 0, none⟩ = some (.int .u32 (tag : Int)) := HJ7.out.kp.cell 0
              have y1 : w7.cell? ⟨gp, 1, none⟩ = some (.slice A1 es.length c1) := HJ7.out.kp.cell 1
              cases q with
              | false =>
                have HE : Hid (rdP xs = .err 7) := Lib.hid (by rw [HRS.out, ← HTAG.out, ← HS8.out, if_neg (fun h => of_decide_eq_false HQ.out.symm h.2)])
                go_wp2_with fail
                have k2 := (HJ7.out.k2.set_ 0 (.int .u32 0)).set_ 1 (.slice none 0 0)
                have x20 := k2.cell 0
                have x21 := k2.cell 1
                refine bodyPost_ret (v := noPkt 7) ?_ rfl ⟨by rw [HE.out]; rfl, (HJ7.out.bl.setCell (p := ⟨w.heap.size, 0, none⟩) (Nat.le_refl _) _).setCell (p := ⟨w.heap.size, 1, none⟩) (Nat.le_refl _) _⟩
                simp [noPkt, results, Try.results23, go_sem, x20, x21]
              | true =>
                have HE : Hid (rdP xs = .ok tag (es.map CE.chk)) := Lib.hid (by rw [HRS.out, ← HTAG.out, ← HS8.out, if_pos ⟨HMY.out.symm, of_decide_eq_true HQ.out.symm⟩])
                go_wp2_with fail
                have k2 := (HJ7.out.k2.set_ 0 (.int .u32 (tag : Int))).set_ 1 (.slice A1 es.length c1)
                have x20 := k2.cell 0
                have x21 := k2.cell 1
                refine bodyPost_ret (v := .tuple #[.agg #[.int .u32 (tag : Int), .slice A1 es.length c1], .int .i64 0]) ?_ rfl ⟨?_, (HJ7.out.bl.setCell (p := ⟨w.heap.size, 0, none⟩) (Nat.le_refl _) _).setCell (p := ⟨w.heap.size, 1, none⟩) (Nat.le_refl _) _⟩
                · simp [results, Try.results23, go_sem, x20, x21]
                · rw [HE.out]
                  exact ⟨A1, c1, es, rfl, (HJ7.out.oc.setBlk HJ7.out.k2 (by decide) (by decide) 0 _).setBlk (HJ7.out.k2.set_ 0 _) (by decide) (by decide) 1 _, rfl⟩
      · have hd : ((s : Int) != (s8 : Int)) = true := by rw [bne_iff_ne]; omega
        have HE : Hid (rdP xs = .err 8) := Lib.hid (rd_sum (by rw [HX.out]; omega) (by rw [← HS.out, ← HS8.out]; exact hss))
        clear hss
        go_wp2_with fail
        have k2 := (K.out.set_ 0 (.int .u32 0)).set_ 1 (.slice none 0 0)
        have x20 := k2.cell 0
        have x21 := k2.cell 1
        refine bodyPost_ret (v := noPkt 8) ?_ rfl ⟨by rw [HE.out]; rfl, (B.out.setCell (p := ⟨w.heap.size, 0, none⟩) (Nat.le_refl _) _).setCell (p := ⟨w.heap.size, 1, none⟩) (Nat.le_refl _) _⟩
        simp [noPkt, results, Try.results23, go_sem, x20, x21]


theorem refReadP_any (A : Option Addr) (n c : Nat) (xs : List UInt8) (w : World) (hn : n ≤ 4194304) (hcn : n ≤ c) (hcm : c ≤ maxLen) (hx : xs.length = n) (hr : Rd w w.heap.size A xs) :
    Calls Try.prog 23 #[.slice A n c] w fun e w' => RdR w.heap.size (rdP xs) e w' ∧ Below w.heap.size w w' := by
  by_cases h12 : n < 12
  · exact refReadP_short A n c xs w h12 hx
  · exact refReadP_long A n c xs w hn hcn hcm hx hr (by omega)
end Go.Proofs.Ytifmhlbeodfpeaa
