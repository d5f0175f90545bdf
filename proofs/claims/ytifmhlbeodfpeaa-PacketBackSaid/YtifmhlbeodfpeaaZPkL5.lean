/-
  PacketBack, walked.
-/
import Derived.Test.YtifmhlbeodfpeaaQ32
import Derived.Test.YtifmhlbeodfpeaaZPkL3
namespace Go.Proofs.Ytifmhlbeodfpeaa
open Go.RowKit
set_option linter.unusedVariables false

theorem rd_err_or (b : List UInt8) : rdP b = .err 7 ∨ rdP b = .err 8 ∨ ∃ tag cs, rdP b = .ok tag cs := by
  unfold rdP
  split
  · exact .inl rfl
  · split
    · exact .inr (.inl rfl)
    · split
      · exact .inl rfl
      · split
        · exact .inr (.inr ⟨_, _, rfl⟩)
        · exact .inl rfl
theorem size_mod (cs : List Chk) : sizeP cs % 4 = 0 := by
  have key : ∀ cs : List Chk, sizeC cs % 4 = 0 := by
    intro cs
    induction cs with
    | nil => rfl
    | cons x cs ih => rw [sizeC]; unfold up4; omega
  have := key cs
  unfold sizeP
  omega

set_option maxRecDepth 100000 in
set_option maxHeartbeats 4000000 in
theorem packetBack_walk (tag : Nat) (A : Option Addr) (n c : Nat) (cs : List Chk) (Ab : Option Addr) (nb cb : Nat) (xs : List UInt8) (w : World) (ht : tag < 4294967296) (hcn : n ≤ c) (hcm : c ≤ maxLen) (hx : cs.length = n) (hr : Chunks w w.heap.size A cs) (hcb : nb ≤ cb) (hcbm : cb ≤ maxLen) (hxb : xs.length = nb) (hrb : Rd w w.heap.size Ab xs) :
    Calls Try.prog 6 #[.agg #[.int .u32 (tag : Int), .slice A n c], .slice Ab nb cb] w fun e w' => e = .returned (.bool true) ∧ Below w.heap.size w w' := by
  have hz : ∀ W, (zeroValue 25).run Try.prog W = .ok (.agg #[.int .u32 0, .slice none 0 0]) W := by intro W; kernel_rfl
  have HLG : Hid (∀ W, Below w.heap.size w W → Calls Try.prog 11 #[.agg #[.int .u32 (tag : Int), .slice A n c]] W fun e w' => LargeR cs e ∧ Below W.heap.size W w') := Lib.hid fun W hW => large_any (tag : Int) A n c cs W (Nat.le_trans hcn hcm) hx ((hr.below hW).more hW.size)
  obtain ⟨sz, hsz⟩ : ∃ sz, sz = sizeP cs := ⟨_, rfl⟩
  have HWY : Hid (Meek cs → mayP cs = true → ∀ W, Below w.heap.size w W → Calls Try.prog 14 #[.agg #[.int .u32 (tag : Int), .slice A n c]] W fun e w' => ∃ A2 c2, e = .returned (.slice A2 sz c2) ∧ Own8 w' 5 W.heap.size A2 sz c2 (wrP tag cs) ∧ Below W.heap.size W w') := Lib.hid fun hm hmy W hW => (writeP_yes tag A n c cs W ht (by have := hm.len; omega) hx ((hr.below hW).more hW.size) hmy).mono fun e w' ⟨A2, m, c2, he, ho, hb⟩ => by
    have hm2 : m = sz := by rw [← ho.len, length_wrP hmy, hsz]
    subst hm2
    exact ⟨A2, c2, he, ho, hb⟩
  have HWN : Hid (Meek cs → mayP cs = false → ∀ W, Below w.heap.size w W → Calls Try.prog 14 #[.agg #[.int .u32 (tag : Int), .slice A n c]] W fun e w' => e = .returned (.slice none 0 0) ∧ Below W.heap.size W w') := Lib.hid fun hm hmy W hW => writeP_no tag A n c cs W (by have := hm.len; omega) hx ((hr.below hW).more hW.size) hmy
  have HRP : Hid (Meek cs → mayP cs = true → ∀ W A2 c2 b2, Own8 W 5 b2 A2 sz c2 (wrP tag cs) → Calls Try.prog 22 #[.slice A2 sz c2] W fun e w' => ∃ A3 c3, e = .returned (.tuple #[.agg #[.int .u32 (tag : Int), .slice A3 n c3], .int .i64 0]) ∧ Chunks w' w'.heap.size A3 cs ∧ Below W.heap.size W w') := Lib.hid fun hm hmy W A2 c2 b2 ho =>
    (readP_any A2 sz c2 (wrP tag cs) W (by rw [hsz]; have := hm.size; unfold sizeP; omega) ho.cap.1 ho.cap.2 ho.len ho.rd).mono fun e w' h => by
      have h1 := h.1
      rw [rdP_wrP tag cs ht hmy] at h1
      obtain ⟨A3, c3, es, he, hoc, hm3⟩ := h1
      have hl : es.length = n := by rw [← hx, ← hm3, List.length_map]
      rw [hl] at he hoc
      exact ⟨A3, c3, he, hm3 ▸ hoc.chunks, h.2⟩
  have HSM : Hid (∀ W A3 c3, Below w.heap.size w W → Chunks W W.heap.size A3 cs → Calls Try.prog 19 #[.agg #[.int .u32 (tag : Int), .slice A n c], .agg #[.int .u32 (tag : Int), .slice A3 n c3]] W fun e w' => e = .returned (.bool true) ∧ Below W.heap.size W w') := Lib.hid fun W A3 c3 hW h3 => by
    have h := refSameP_any tag tag A A3 n n c c3 cs cs W (Nat.le_trans hcn hcm) (Nat.le_trans hcn hcm) hx hx ((hr.below hW).more hW.size) h3
    simpa using h
  have HSZ : Hid (Meek cs → ∀ W, Below w.heap.size w W → Calls Try.prog 15 #[.agg #[.int .u32 (tag : Int), .slice A n c]] W fun e w' => e = .returned (.int .i64 (sz : Int)) ∧ Below W.heap.size W w') := Lib.hid fun hm W hW => hsz ▸ size_any (tag : Int) A n c cs W (by have := hm.len; omega) hx ((hr.below hW).more hW.size) (by have := hm.size; omega)
  have hs12 : 12 ≤ sz := by rw [hsz]; unfold sizeP; omega
  have hsm : sz % 4 = 0 := by rw [hsz]; exact size_mod cs
  have HSB : Hid (Meek cs → sz ≤ 134584) := Lib.hid fun hm => by rw [hsz]; have := hm.size; unfold sizeP; omega
  have HRB : Hid (nb ≤ 16384 → ∀ W, Below w.heap.size w W → Calls Try.prog 22 #[.slice Ab nb cb] W fun e w' => RdR W.heap.size (rdP xs) e w' ∧ Below W.heap.size W w') := Lib.hid fun hn W hW => readP_any Ab nb cb xs W (by omega) hcb hcbm hxb ((hrb.below hW).more hW.size)
  have HXB := Lib.hid hxb
  have HRX := Lib.hid hrb
  have hnbm := Nat.le_trans hcb hcbm
  unfold maxLen at hnbm
  clear hr hx hsz hcm hcn ht hcb hcbm hxb hrb
  have K0 := Lib.hid (Blk.new w 25 #[.int .u32 (tag : Int), .slice A n c])
  have B0 := Lib.hid (below_new w (.cells #[.int .u32 (tag : Int), .slice A n c] 25))
  go_enter Try.func6, Try.ntmps6
  go_wp2_with fail
  generalize w.alloc (.cells #[.int .u32 (tag : Int), .slice A n c] 25) = v0 at K0 B0 ⊢
  refine (HLG.out v0 B0.out).mono ?_
  rintro e w1 ⟨hL, hb⟩
  have K1 := Lib.hid (K0.out.below hb K0.out.lt)
  have B1 := Lib.hid (below_then B0.out (Nat.le_refl _) hb)
  have x0 : w1.cell? ⟨w.heap.size, 0, none⟩ = some (.int .u32 (tag : Int)) := K1.out.cell 0
  have x1 : w1.cell? ⟨w.heap.size, 1, none⟩ = some (.slice A n c) := K1.out.cell 1
  clear HLG hb K0 B0
  rcases hL with rfl | ⟨rfl, hM⟩
  · go_wp2_with fail
    refine (works_any w1).mono ?_
    rintro e wz ⟨rfl, hb⟩
    go_wp2_with fail
    go_ret
    exact ⟨rfl, below_then B1.out (Nat.le_refl _) hb⟩
  · by_cases hbig : 16384 < nb
    · go_wp2_with fail
      refine (works_any w1).mono ?_
      rintro e wz ⟨rfl, hb⟩
      go_wp2_with fail
      go_ret
      exact ⟨rfl, below_then B1.out (Nat.le_refl _) hb⟩
    · have HM := Lib.hid hM
      have hsb := HSB.out hM
      clear hM HSB
      cases hmy : mayP cs with
      | false =>
        have HWN2 := Lib.hid (HWN.out HM.out hmy)
        clear hmy HWN HWY HRP HSM HSZ hs12 hsm hsb
        go_wp2_with fail
        refine (HWN2.out w1 B1.out).mono ?_
        rintro e w2 ⟨rfl, hb⟩
        have B2 := Lib.hid (below_then B1.out (Nat.le_refl _) hb)
        clear hb K1 B1 x0 x1 HWN2
        go_wp2_with fail
        rcases rd_err_or xs with hrd | hrd | ⟨tag2, cs2, hrd⟩
        · skip
          have HRE : Hid (Calls Try.prog 22 #[.slice Ab nb cb] w2 fun e w' => e = .returned (noPkt 7) ∧ Below w2.heap.size w2 w') := Lib.hid ((HRB.out (by omega) w2 B2.out).mono fun e w' h => by
              have h1 := h.1
              rw [hrd] at h1
              exact ⟨h1, h.2⟩)
          clear hrd HRB
          refine HRE.out.mono ?_
          rintro e wr ⟨rfl, hb⟩
          have hbb := below_then B2.out (Nat.le_refl _) hb
          have BR := Lib.hid (hbb.alloc hbb.size (.cells #[.int .u32 0, .slice none 0 0] 25))
          clear hb hbb HRE
          rw [noPkt]
          go_wp2_with fail
          generalize wr.alloc (.cells #[.int .u32 0, .slice none 0 0] 25) = wq at BR ⊢
          refine (works_any wq).mono ?_
          rintro e wz ⟨rfl, hb⟩
          go_wp2_with fail
          go_ret
          exact ⟨rfl, below_then BR.out (Nat.le_refl _) hb⟩
        · skip
          have HRE : Hid (Calls Try.prog 22 #[.slice Ab nb cb] w2 fun e w' => e = .returned (noPkt 8) ∧ Below w2.heap.size w2 w') := Lib.hid ((HRB.out (by omega) w2 B2.out).mono fun e w' h => by
              have h1 := h.1
              rw [hrd] at h1
              exact ⟨h1, h.2⟩)
          clear hrd HRB
          refine HRE.out.mono ?_
          rintro e wr ⟨rfl, hb⟩
          have hbb := below_then B2.out (Nat.le_refl _) hb
          have BR := Lib.hid (hbb.alloc hbb.size (.cells #[.int .u32 0, .slice none 0 0] 25))
          clear hb hbb HRE
          rw [noPkt]
          go_wp2_with fail
          generalize wr.alloc (.cells #[.int .u32 0, .slice none 0 0] 25) = wq at BR ⊢
          refine (works_any wq).mono ?_
          rintro e wz ⟨rfl, hb⟩
          go_wp2_with fail
          go_ret
          exact ⟨rfl, below_then BR.out (Nat.le_refl _) hb⟩
        · skip
          obtain ⟨L, hL⟩ : ∃ L, L = cs2.length := ⟨_, rfl⟩
          have hLb : L ≤ 16384 := by
              have h1 := rd_cs_len xs
              rw [hrd] at h1
              have h2 : cs2.length ≤ xs.length := h1
              have := HXB.out
              omega
          have ht2 : tag2 < 4294967296 := by
              have h1 := rd_tag_lt xs
              rw [hrd] at h1
              exact h1
          have HWX := Lib.hid (wrP_rdP hrd)
          have HLC := Lib.hid hL
          have HRE : Hid (Calls Try.prog 22 #[.slice Ab nb cb] w2 fun e w' => ∃ A3 c3, e = .returned (.tuple #[.agg #[.int .u32 (tag2 : Int), .slice A3 L c3], .int .i64 0]) ∧ Chunks w' w'.heap.size A3 cs2 ∧ Below w2.heap.size w2 w') := Lib.hid ((HRB.out (by omega) w2 B2.out).mono fun e w' h => by
              have h1 := h.1
              rw [hrd] at h1
              obtain ⟨A3, c3, es, he, hoc, hm3⟩ := h1
              have hl : es.length = L := by rw [hL, ← hm3, List.length_map]
              rw [hl] at he hoc
              exact ⟨A3, c3, he, hm3 ▸ hoc.chunks, h.2⟩)
          clear hrd hL HRB
          refine HRE.out.mono ?_
          rintro e wr ⟨A3, c3, rfl, hch, hb⟩
          have hbb := below_then B2.out (Nat.le_refl _) hb
          have BR := Lib.hid (hbb.alloc hbb.size (.cells #[.int .u32 (tag2 : Int), .slice A3 L c3] 25))
          have KR := Lib.hid (Blk.new wr 25 #[.int .u32 (tag2 : Int), .slice A3 L c3])
          have HCH := Lib.hid ((hch.below (below_new wr (.cells #[.int .u32 (tag2 : Int), .slice A3 L c3] 25))).more (below_new wr (.cells #[.int .u32 (tag2 : Int), .slice A3 L c3] 25)).size)
          obtain ⟨gq, hgq⟩ : ∃ gq, gq = wr.heap.size := ⟨_, rfl⟩
          rw [← hgq] at KR
          have HGQ := Lib.hid hgq
          clear hb hbb hch hgq HRE
          go_wp2_with fail
          generalize wr.alloc (.cells #[.int .u32 (tag2 : Int), .slice A3 L c3] 25) = wq at BR KR HCH ⊢
          clear HGQ KR
          refine (writeP_any tag2 A3 L c3 cs2 wq ht2 (by omega) HLC.out.symm HCH.out).mono ?_
          rintro e ws ⟨A4, m4, c4, rfl, ho4, hb⟩
          have BS := Lib.hid (below_then BR.out (Nat.le_refl _) hb)
          have HEQ : Hid (Calls Try.prog 16 #[.slice A4 m4 c4, .slice Ab nb cb] ws fun e w' => e = .returned (.bool true) ∧ ∃ q, ws.drewN q = w') := Lib.hid (by
              have h := eqBytes_any ws.heap.size w.heap.size A4 Ab m4 nb c4 cb (wrP tag2 cs2) xs ws ho4.len HXB.out (Nat.le_trans ho4.cap.1 ho4.cap.2) (by unfold maxLen; omega) ho4.rd (HRX.out.below BS.out)
              rwa [decide_eq_true HWX.out] at h)
          clear hb ho4 HCH BR
          go_wp2_with fail
          refine HEQ.out.mono ?_
          rintro e wt ⟨rfl, qq, rfl⟩
          have BT := Lib.hid (below_drewN BS.out qq)
          generalize ws.drewN qq = wt at BT ⊢
          clear HEQ BS
          go_wp2_with fail
          refine (works_any wt).mono ?_
          rintro e wz ⟨rfl, hb⟩
          go_wp2_with fail
          go_ret
          exact ⟨rfl, below_then BT.out (Nat.le_refl _) hb⟩
      | true =>
        have HWY2 := Lib.hid (HWY.out HM.out hmy)
        have HRP2 := Lib.hid (HRP.out HM.out hmy)
        clear hmy HWN HWY HRP
        go_wp2_with fail
        refine (HWY2.out w1 B1.out).mono ?_
        rintro e w2 ⟨A2, c2, rfl, ho, hb⟩
        have K2 := Lib.hid (K1.out.below hb K1.out.lt)
        have B2 := Lib.hid (below_then B1.out (Nat.le_refl _) hb)
        have O2 := Lib.hid ho
        clear hb ho K1 B1 x0 x1 HWY2
        go_wp2_with fail
        refine (HRP2.out w2 A2 c2 _ O2.out).mono ?_
        rintro e w3 ⟨A3, c3, rfl, hch, hb⟩
        have K3 := Lib.hid ((K2.out.below hb K2.out.lt).alloc (.cells #[.int .u32 (tag : Int), .slice A3 n c3] 25))
        have hbb := below_then B2.out (Nat.le_refl _) hb
        have B3 := Lib.hid (hbb.alloc hbb.size (.cells #[.int .u32 (tag : Int), .slice A3 n c3] 25))
        have C3 := Lib.hid ((hch.below (below_new w3 (.cells #[.int .u32 (tag : Int), .slice A3 n c3] 25))).more (below_new w3 (.cells #[.int .u32 (tag : Int), .slice A3 n c3] 25)).size)
        have x0 : (w3.alloc (.cells #[.int .u32 (tag : Int), .slice A3 n c3] 25)).cell? ⟨w.heap.size, 0, none⟩ = some (.int .u32 (tag : Int)) := K3.out.cell 0
        have x1 : (w3.alloc (.cells #[.int .u32 (tag : Int), .slice A3 n c3] 25)).cell? ⟨w.heap.size, 1, none⟩ = some (.slice A n c) := K3.out.cell 1
        clear hb hbb hch K2 B2 O2 HRP2
        go_wp2_with fail
        generalize w3.alloc (.cells #[.int .u32 (tag : Int), .slice A3 n c3] 25) = v3 at K3 B3 C3 x0 x1 ⊢
        clear x0 x1
        refine (HSM.out v3 A3 c3 B3.out C3.out).mono ?_
        rintro e w4 ⟨rfl, hb⟩
        have K4 := Lib.hid (K3.out.below hb K3.out.lt)
        have B4 := Lib.hid (below_then B3.out (Nat.le_refl _) hb)
        have x0 : w4.cell? ⟨w.heap.size, 0, none⟩ = some (.int .u32 (tag : Int)) := K4.out.cell 0
        have x1 : w4.cell? ⟨w.heap.size, 1, none⟩ = some (.slice A n c) := K4.out.cell 1
        clear hb K3 B3 C3 HSM
        go_wp2_with fail
        refine (HSZ.out HM.out w4 B4.out).mono ?_
        rintro e w5 ⟨rfl, hb⟩
        have B5 := Lib.hid (below_then B4.out (Nat.le_refl _) hb)
        have hss : ((sz : Int) != (sz : Int)) = false := by simp
        have hs4 : ((sz : Int) % 4 != 0) = false := by rw [bne_eq_false_iff_eq]; omega
        clear hb K4 B4 x0 x1 HSZ
        go_wp2_with fail
        rcases rd_err_or xs with hrd | hrd | ⟨tag2, cs2, hrd⟩
        · skip
          have HRE : Hid (Calls Try.prog 22 #[.slice Ab nb cb] w5 fun e w' => e = .returned (noPkt 7) ∧ Below w5.heap.size w5 w') := Lib.hid ((HRB.out (by omega) w5 B5.out).mono fun e w' h => by
              have h1 := h.1
              rw [hrd] at h1
              exact ⟨h1, h.2⟩)
          clear hrd HRB
          refine HRE.out.mono ?_
          rintro e wr ⟨rfl, hb⟩
          have hbb := below_then B5.out (Nat.le_refl _) hb
          have BR := Lib.hid (hbb.alloc hbb.size (.cells #[.int .u32 0, .slice none 0 0] 25))
          clear hb hbb HRE
          rw [noPkt]
          go_wp2_with fail
          generalize wr.alloc (.cells #[.int .u32 0, .slice none 0 0] 25) = wq at BR ⊢
          refine (works_any wq).mono ?_
          rintro e wz ⟨rfl, hb⟩
          go_wp2_with fail
          go_ret
          exact ⟨rfl, below_then BR.out (Nat.le_refl _) hb⟩
        · skip
          have HRE : Hid (Calls Try.prog 22 #[.slice Ab nb cb] w5 fun e w' => e = .returned (noPkt 8) ∧ Below w5.heap.size w5 w') := Lib.hid ((HRB.out (by omega) w5 B5.out).mono fun e w' h => by
              have h1 := h.1
              rw [hrd] at h1
              exact ⟨h1, h.2⟩)
          clear hrd HRB
          refine HRE.out.mono ?_
          rintro e wr ⟨rfl, hb⟩
          have hbb := below_then B5.out (Nat.le_refl _) hb
          have BR := Lib.hid (hbb.alloc hbb.size (.cells #[.int .u32 0, .slice none 0 0] 25))
          clear hb hbb HRE
          rw [noPkt]
          go_wp2_with fail
          generalize wr.alloc (.cells #[.int .u32 0, .slice none 0 0] 25) = wq at BR ⊢
          refine (works_any wq).mono ?_
          rintro e wz ⟨rfl, hb⟩
          go_wp2_with fail
          go_ret
          exact ⟨rfl, below_then BR.out (Nat.le_refl _) hb⟩
        · skip
          obtain ⟨L, hL⟩ : ∃ L, L = cs2.length := ⟨_, rfl⟩
          have hLb : L ≤ 16384 := by
              have h1 := rd_cs_len xs
              rw [hrd] at h1
              have h2 : cs2.length ≤ xs.length := h1
              have := HXB.out
              omega
          have ht2 : tag2 < 4294967296 := by
              have h1 := rd_tag_lt xs
              rw [hrd] at h1
              exact h1
          have HWX := Lib.hid (wrP_rdP hrd)
          have HLC := Lib.hid hL
          have HRE : Hid (Calls Try.prog 22 #[.slice Ab nb cb] w5 fun e w' => ∃ A3 c3, e = .returned (.tuple #[.agg #[.int .u32 (tag2 : Int), .slice A3 L c3], .int .i64 0]) ∧ Chunks w' w'.heap.size A3 cs2 ∧ Below w5.heap.size w5 w') := Lib.hid ((HRB.out (by omega) w5 B5.out).mono fun e w' h => by
              have h1 := h.1
              rw [hrd] at h1
              obtain ⟨A3, c3, es, he, hoc, hm3⟩ := h1
              have hl : es.length = L := by rw [hL, ← hm3, List.length_map]
              rw [hl] at he hoc
              exact ⟨A3, c3, he, hm3 ▸ hoc.chunks, h.2⟩)
          clear hrd hL HRB
          refine HRE.out.mono ?_
          rintro e wr ⟨A3, c3, rfl, hch, hb⟩
          have hbb := below_then B5.out (Nat.le_refl _) hb
          have BR := Lib.hid (hbb.alloc hbb.size (.cells #[.int .u32 (tag2 : Int), .slice A3 L c3] 25))
          have KR := Lib.hid (Blk.new wr 25 #[.int .u32 (tag2 : Int), .slice A3 L c3])
          have HCH := Lib.hid ((hch.below (below_new wr (.cells #[.int .u32 (tag2 : Int), .slice A3 L c3] 25))).more (below_new wr (.cells #[.int .u32 (tag2 : Int), .slice A3 L c3] 25)).size)
          obtain ⟨gq, hgq⟩ : ∃ gq, gq = wr.heap.size := ⟨_, rfl⟩
          rw [← hgq] at KR
          have HGQ := Lib.hid hgq
          clear hb hbb hch hgq HRE
          go_wp2_with fail
          generalize wr.alloc (.cells #[.int .u32 (tag2 : Int), .slice A3 L c3] 25) = wq at BR KR HCH ⊢
          clear HGQ KR
          refine (writeP_any tag2 A3 L c3 cs2 wq ht2 (by omega) HLC.out.symm HCH.out).mono ?_
          rintro e ws ⟨A4, m4, c4, rfl, ho4, hb⟩
          have BS := Lib.hid (below_then BR.out (Nat.le_refl _) hb)
          have HEQ : Hid (Calls Try.prog 16 #[.slice A4 m4 c4, .slice Ab nb cb] ws fun e w' => e = .returned (.bool true) ∧ ∃ q, ws.drewN q = w') := Lib.hid (by
              have h := eqBytes_any ws.heap.size w.heap.size A4 Ab m4 nb c4 cb (wrP tag2 cs2) xs ws ho4.len HXB.out (Nat.le_trans ho4.cap.1 ho4.cap.2) (by unfold maxLen; omega) ho4.rd (HRX.out.below BS.out)
              rwa [decide_eq_true HWX.out] at h)
          clear hb ho4 HCH BR
          go_wp2_with fail
          refine HEQ.out.mono ?_
          rintro e wt ⟨rfl, qq, rfl⟩
          have BT := Lib.hid (below_drewN BS.out qq)
          generalize ws.drewN qq = wt at BT ⊢
          clear HEQ BS
          go_wp2_with fail
          refine (works_any wt).mono ?_
          rintro e wz ⟨rfl, hb⟩
          go_wp2_with fail
          go_ret
          exact ⟨rfl, below_then BT.out (Nat.le_refl _) hb⟩
end Go.Proofs.Ytifmhlbeodfpeaa
