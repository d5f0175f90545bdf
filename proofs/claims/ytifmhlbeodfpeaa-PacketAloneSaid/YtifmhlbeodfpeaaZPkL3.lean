/-
  PacketWrites, walked.
-/
import Derived.Test.YtifmhlbeodfpeaaQ31
import Derived.Test.YtifmhlbeodfpeaaQ12
namespace Go.Proofs.Ytifmhlbeodfpeaa
open Go.RowKit
set_option linter.unusedVariables false

theorem writeP_any (tag : Nat) (A : Option Addr) (n c : Nat) (cs : List Chk) (w : World) (ht : tag < 4294967296) (hn : n ≤ 1048576) (hx : cs.length = n) (hr : Chunks w w.heap.size A cs) :
    Calls Try.prog 14 #[.agg #[.int .u32 (tag : Int), .slice A n c]] w fun e w' => ∃ A2 m c2, e = .returned (.slice A2 m c2) ∧ Own8 w' 5 w.heap.size A2 m c2 (wrP tag cs) ∧ Below w.heap.size w w' := by
  cases hm : mayP cs with
  | true => exact writeP_yes tag A n c cs w ht hn hx hr hm
  | false => exact (writeP_no tag A n c cs w (by omega) hx hr hm).mono fun e w' h => ⟨none, 0, 0, h.1, by rw [wrP, if_neg (by rw [hm]; decide)]; exact Own8.nil _ _ _, h.2⟩
theorem refWriteP_any (tag : Nat) (A : Option Addr) (n c : Nat) (cs : List Chk) (w : World) (ht : tag < 4294967296) (hn : n ≤ 1048576) (hx : cs.length = n) (hr : Chunks w w.heap.size A cs) :
    Calls Try.prog 17 #[.agg #[.int .u32 (tag : Int), .slice A n c]] w fun e w' => ∃ A2 m c2, e = .returned (.slice A2 m c2) ∧ Own8 w' 5 w.heap.size A2 m c2 (wrP tag cs) ∧ Below w.heap.size w w' := by
  cases hm : mayP cs with
  | true => exact refWriteP_yes tag A n c cs w ht hn hx hr hm
  | false => exact (refWriteP_no tag A n c cs w (by omega) hx hr hm).mono fun e w' h => ⟨none, 0, 0, h.1, by rw [wrP, if_neg (by rw [hm]; decide)]; exact Own8.nil _ _ _, h.2⟩
theorem wrP_len (tag : Nat) (cs : List Chk) : (wrP tag cs).length = 0 ∨ (wrP tag cs).length = sizeP cs := by
  cases hm : mayP cs with
  | true => exact .inr (length_wrP hm)
  | false => exact .inl (by rw [wrP, if_neg (by rw [hm]; decide)]; rfl)
theorem meek_body {cs : List Chk} (h : Meek cs) : ∀ x ∈ cs, x.2.2.length ≤ 140737488355328 := by
  have key : ∀ (cs : List Chk), ∀ x ∈ cs, x.2.2.length ≤ sizeC cs := by
    intro cs
    induction cs with
    | nil => intro x hx; cases hx
    | cons y cs ih =>
      intro x hx
      rw [sizeC]
      have h2 := up4_bd y.2.2.length
      rcases List.mem_cons.1 hx with rfl | hx
      · omega
      · have := ih x hx
        omega
  intro x hx
  have := key cs x hx
  have := h.size
  omega

set_option maxRecDepth 100000 in
set_option maxHeartbeats 4000000 in
theorem packetWrites_walk (tag : Nat) (A : Option Addr) (n c : Nat) (cs : List Chk) (w : World) (ht : tag < 4294967296) (hcn : n ≤ c) (hcm : c ≤ maxLen) (hx : cs.length = n) (hr : Chunks w w.heap.size A cs) :
    Calls Try.prog 3 #[.agg #[.int .u32 (tag : Int), .slice A n c]] w fun e w' => e = .returned (.bool true) ∧ Below w.heap.size w w' := by
  have HLG : Hid (∀ W, Below w.heap.size w W → Calls Try.prog 11 #[.agg #[.int .u32 (tag : Int), .slice A n c]] W fun e w' => LargeR cs e ∧ Below W.heap.size W w') := Lib.hid fun W hW => large_any (tag : Int) A n c cs W (Nat.le_trans hcn hcm) hx ((hr.below hW).more hW.size)
  have hz : ∀ W, (zeroValue 25).run Try.prog W = .ok (.agg #[.int .u32 0, .slice none 0 0]) W := by intro W; kernel_rfl
  obtain ⟨Y, hY⟩ : ∃ Y, Y = wrP tag cs := ⟨_, rfl⟩
  obtain ⟨sz, hsz⟩ : ∃ sz, sz = sizeP cs := ⟨_, rfl⟩
  have HYL : Hid (Y.length = 0 ∨ Y.length = sz) := Lib.hid (by rw [hY, hsz]; exact wrP_len tag cs)
  have HCP : Hid (Meek cs → ∀ W, Below w.heap.size w W → Calls Try.prog 13 #[.agg #[.int .u32 (tag : Int), .slice A n c]] W fun e w' => ∃ A2 c2 es, e = .returned (.agg #[.int .u32 (tag : Int), .slice A2 n c2]) ∧ OC w' W.heap.size (.slice A2 n c2) es ∧ es.map CE.chk = cs ∧ Below W.heap.size W w') := Lib.hid fun hm W hW => refCopy_any tag A n c cs W (by have := hm.len; omega) (meek_body hm) hx ((hr.below hW).more hW.size)
  have HRW : Hid (Meek cs → ∀ W, Below w.heap.size w W → Calls Try.prog 17 #[.agg #[.int .u32 (tag : Int), .slice A n c]] W fun e w' => ∃ A2 m c2, e = .returned (.slice A2 m c2) ∧ Own8 w' 5 W.heap.size A2 m c2 Y ∧ Below W.heap.size W w') := Lib.hid fun hm W hW => hY ▸ refWriteP_any tag A n c cs W ht (by have := hm.len; omega) hx ((hr.below hW).more hW.size)
  have HRS : Hid (Meek cs → ∀ W, Below w.heap.size w W → Calls Try.prog 18 #[.agg #[.int .u32 (tag : Int), .slice A n c]] W fun e w' => e = .returned (.int .i64 (sz : Int)) ∧ Below W.heap.size W w') := Lib.hid fun hm W hW => hsz ▸ refSizeP_any (tag : Int) A n c cs W (by have := hm.len; omega) hx ((hr.below hW).more hW.size) (by have := hm.size; omega)
  have HWR : Hid (Meek cs → ∀ W A2 c2, Chunks W W.heap.size A2 cs → Calls Try.prog 14 #[.agg #[.int .u32 (tag : Int), .slice A2 n c2]] W fun e w' => ∃ A2 m c2, e = .returned (.slice A2 m c2) ∧ Own8 w' 5 W.heap.size A2 m c2 Y ∧ Below W.heap.size W w') := Lib.hid fun hm W A2 c2 hW => hY ▸ writeP_any tag A2 n c2 cs W ht (by have := hm.len; omega) hx hW
  have HSZ : Hid (Meek cs → ∀ W A2 c2, Chunks W W.heap.size A2 cs → Calls Try.prog 15 #[.agg #[.int .u32 (tag : Int), .slice A2 n c2]] W fun e w' => e = .returned (.int .i64 (sz : Int)) ∧ Below W.heap.size W w') := Lib.hid fun hm W A2 c2 hW => hsz ▸ size_any (tag : Int) A2 n c2 cs W (by have := hm.len; omega) hx hW (by have := hm.size; omega)
  have HSM : Hid (∀ W A2 c2, Below w.heap.size w W → Chunks W W.heap.size A2 cs → Calls Try.prog 19 #[.agg #[.int .u32 (tag : Int), .slice A2 n c2], .agg #[.int .u32 (tag : Int), .slice A n c]] W fun e w' => e = .returned (.bool true) ∧ Below W.heap.size W w') := Lib.hid fun W A2 c2 hW hc2 => by
    have h := refSameP_any tag tag A2 A n n c2 c cs cs W (Nat.le_trans hcn hcm) (Nat.le_trans hcn hcm) hx hx hc2 ((hr.below hW).more hW.size)
    simpa using h
  clear hr hx hY hsz hcm hcn ht
  have K0 := Lib.hid (Blk.new w 25 #[.int .u32 (tag : Int), .slice A n c])
  have B0 := Lib.hid (below_new w (.cells #[.int .u32 (tag : Int), .slice A n c] 25))
  go_enter Try.func3, Try.ntmps3
  go_wp2_with fail
  generalize w.alloc (.cells #[.int .u32 (tag : Int), .slice A n c] 25) = v0 at K0 B0 ⊢
  refine (HLG.out v0 B0.out).mono ?_
  rintro e w1 ⟨hL, hb⟩
  have K1 := Lib.hid (K0.out.below hb K0.out.lt)
  have B1 := Lib.hid (below_then B0.out (Nat.le_refl _) hb)
  clear hb K0 B0
  have x0 : w1.cell? ⟨w.heap.size, 0, none⟩ = some (.int .u32 (tag : Int)) := K1.out.cell 0
  have x1 : w1.cell? ⟨w.heap.size, 1, none⟩ = some (.slice A n c) := K1.out.cell 1
  clear HLG
  rcases hL with rfl | ⟨rfl, hM⟩
  · go_wp2_with fail
    refine (works_any w1).mono ?_
    rintro e w2 ⟨rfl, hb⟩
    go_wp2_with fail
    go_ret
    exact ⟨rfl, below_then B1.out (Nat.le_refl _) hb⟩
  · have HM := Lib.hid hM
    clear hM
    go_wp2_with fail
    refine (HCP.out HM.out w1 B1.out).mono ?_
    rintro e w2 ⟨A2, c2, es, rfl, hoc, hm, hb⟩
    have HES := Lib.hid hm
    have K2 := Lib.hid ((K1.out.below hb K1.out.lt).alloc (.cells #[.int .u32 (tag : Int), .slice A2 n c2] 25))
    have hbb := below_then B1.out (Nat.le_refl _) hb
    have B2 := Lib.hid (hbb.alloc hbb.size (.cells #[.int .u32 (tag : Int), .slice A2 n c2] 25))
    have O2 := Lib.hid (hoc.alloc (.cells #[.int .u32 (tag : Int), .slice A2 n c2] 25))
    have I2 := Lib.hid (Blk.new w2 25 #[.int .u32 (tag : Int), .slice A2 n c2])
    obtain ⟨gi, hgi⟩ : ∃ gi, gi = w2.heap.size := ⟨_, rfl⟩
    rw [← hgi] at I2
    have HGI := Lib.hid hgi
    clear hb hbb hoc hm hgi x0 x1 K1 B1
    go_wp2_with fail
    rw [← HGI.out]
    generalize w2.alloc (.cells #[.int .u32 (tag : Int), .slice A2 n c2] 25) = v2 at K2 B2 O2 I2 ⊢
    clear HGI HCP
    refine (HWR.out HM.out v2 A2 c2 (HES.out ▸ O2.out.chunks)).mono ?_
    rintro e w3 ⟨Aa, ma, ca, rfl, hoa, hb⟩
    have Q3 := Lib.hid hoa
    have hlt3 := hb.size
    clear hoa
    have K3 := Lib.hid (K2.out.below hb K2.out.lt)
    have B3 := Lib.hid (below_then B2.out (Nat.le_refl _) hb)
    have O3 := Lib.hid (O2.out.below hb)
    have I3 := Lib.hid (I2.out.below hb I2.out.lt)
    clear hb K2 B2 O2 I2
    have x0 : w3.cell? ⟨gi, 0, none⟩ = some (.int .u32 (tag : Int)) := I3.out.cell 0
    have x1 : w3.cell? ⟨gi, 1, none⟩ = some (.slice A2 n c2) := I3.out.cell 1
    go_wp2_with fail
    clear x0 x1
    refine (HSZ.out HM.out w3 A2 c2 (HES.out ▸ O3.out.chunks)).mono ?_
    rintro e w4 ⟨rfl, hb⟩
    have K4 := Lib.hid (K3.out.below hb K3.out.lt)
    have B4 := Lib.hid (below_then B3.out (Nat.le_refl _) hb)
    have O4 := Lib.hid (O3.out.below hb)
    have I4 := Lib.hid (I3.out.below hb I3.out.lt)
    have Q4 := Lib.hid (Q3.out.below hb (Nat.le_refl _))
    clear hb K3 B3 O3 I3 Q3
    have x0 : w4.cell? ⟨w.heap.size, 0, none⟩ = some (.int .u32 (tag : Int)) := K4.out.cell 0
    have x1 : w4.cell? ⟨w.heap.size, 1, none⟩ = some (.slice A n c) := K4.out.cell 1
    go_wp2_with fail
    clear x0 x1
    refine (HRW.out HM.out w4 B4.out).mono ?_
    rintro e w5 ⟨Ar, mr, cr, rfl, hor, hb⟩
    have hma : ma = mr := by rw [← Q4.out.len, ← hor.len]
    subst hma
    have HEQ : Hid (Calls Try.prog 16 #[.slice Aa ma ca, .slice Ar ma cr] w5 fun e w' => e = .returned (.bool true) ∧ ∃ q, w5.drewN q = w') := Lib.hid (eqBytes_same w5.heap.size w5.heap.size Aa Ar ma ca cr Y w5 hor.len (Nat.le_trans hor.cap.1 hor.cap.2) (Q4.out.below hb (Nat.le_refl _)).rd hor.rd)
    clear hor
    have K5 := Lib.hid (K4.out.below hb K4.out.lt)
    have B5 := Lib.hid (below_then B4.out (Nat.le_refl _) hb)
    have O5 := Lib.hid (O4.out.below hb)
    have I5 := Lib.hid (I4.out.below hb I4.out.lt)
    have Q5 := Lib.hid (Q4.out.below hb (Nat.le_refl _))
    clear hb K4 B4 O4 I4 Q4
    go_wp2_with fail
    refine HEQ.out.mono ?_
    rintro e w6 ⟨rfl, q, rfl⟩
    have hb := below_drewN (Below.refl w5.heap.size w5) q
    clear HEQ
    have K6 := Lib.hid (K5.out.below hb K5.out.lt)
    have B6 := Lib.hid (below_then B5.out (Nat.le_refl _) hb)
    have O6 := Lib.hid (O5.out.below hb)
    have I6 := Lib.hid (I5.out.below hb I5.out.lt)
    have Q6 := Lib.hid (Q5.out.below hb (Nat.le_refl _))
    clear hb K5 B5 O5 I5 Q5
    generalize w5.drewN q = w6 at K6 B6 O6 I6 Q6 ⊢
    have x0 : w6.cell? ⟨w.heap.size, 0, none⟩ = some (.int .u32 (tag : Int)) := K6.out.cell 0
    have x1 : w6.cell? ⟨w.heap.size, 1, none⟩ = some (.slice A n c) := K6.out.cell 1
    go_wp2_with fail
    clear x0 x1
    refine (HRS.out HM.out w6 B6.out).mono ?_
    rintro e w7 ⟨rfl, hb⟩
    have K7 := Lib.hid (K6.out.below hb K6.out.lt)
    have B7 := Lib.hid (below_then B6.out (Nat.le_refl _) hb)
    have O7 := Lib.hid (O6.out.below hb)
    have I7 := Lib.hid (I6.out.below hb I6.out.lt)
    have Q7 := Lib.hid (Q6.out.below hb (Nat.le_refl _))
    clear hb K6 B6 O6 I6 Q6
    have x0 : w7.cell? ⟨w.heap.size, 0, none⟩ = some (.int .u32 (tag : Int)) := K7.out.cell 0
    have x1 : w7.cell? ⟨w.heap.size, 1, none⟩ = some (.slice A n c) := K7.out.cell 1
    have y0 : w7.cell? ⟨gi, 0, none⟩ = some (.int .u32 (tag : Int)) := I7.out.cell 0
    have y1 : w7.cell? ⟨gi, 1, none⟩ = some (.slice A2 n c2) := I7.out.cell 1
    have hss : ((sz : Int) != (sz : Int)) = false := by simp
    go_wp2_with fail
    clear x0 x1 y0 y1
    refine (HSM.out w7 A2 c2 B7.out (HES.out ▸ O7.out.chunks)).mono ?_
    rintro e w8 ⟨rfl, hb⟩
    have hmy : ma = 0 ∨ ma = sz := by have := HYL.out; rw [Q7.out.len] at this; exact this
    have K8 := Lib.hid (K7.out.below hb K7.out.lt)
    have B8 := Lib.hid (below_then B7.out (Nat.le_refl _) hb)
    have O8 := Lib.hid (O7.out.below hb)
    have I8 := Lib.hid (I7.out.below hb I7.out.lt)
    have Q8 := Lib.hid (Q7.out.below hb (Nat.le_refl _))
    clear hb K7 B7 O7 I7 Q7
    have HMY := Lib.hid hmy
    clear hmy
    have y0 : w8.cell? ⟨gi, 0, none⟩ = some (.int .u32 (tag : Int)) := I8.out.cell 0
    have y1 : w8.cell? ⟨gi, 1, none⟩ = some (.slice A2 n c2) := I8.out.cell 1
    have HEND : Hid (∀ W A9 c9 b9, Below w.heap.size w W → Own8 W 5 w8.heap.size A9 ma c9 Y → Own8 W 5 b9 Aa ma ca Y → Calls Try.prog 20 #[.slice (some ⟨W.heap.size, 0, none⟩) 2 2] (W.alloc (.cells #[.slice Aa ma ca, .slice A9 ma c9] 29)) fun e w' => e = .returned (.bool true) ∧ Below W.heap.size W w') := Lib.hid fun W A9 c9 b9 hW h9 ha => apart2 ha h9 (far_of Q8.out h9 (Nat.le_refl _)) 2
    by_cases hz0 : 0 < ma
    · have hmz : ma = sz := by have := HMY.out; omega
      have hdz : ((ma : Int) != (sz : Int)) = false := by rw [bne_eq_false_iff_eq]; omega
      clear hmz
      go_wp2_with fail
      clear y0 y1
      refine (HWR.out HM.out w8 A2 c2 (HES.out ▸ O8.out.chunks)).mono ?_
      rintro e w9 ⟨Ab, mb, cb, rfl, hob, hb⟩
      have hmb : mb = ma := by rw [← hob.len, Q8.out.len]
      subst hmb
      have B9 := Lib.hid (below_then B8.out (Nat.le_refl _) hb)
      have HAP := Lib.hid (HEND.out w9 Ab cb _ B9.out hob (Q8.out.below hb (Nat.le_refl _)))
      clear hob hb K8 B8 O8 I8 Q8 HEND
      go_wp2_with fail
      refine HAP.out.mono ?_
      rintro e w10 ⟨rfl, hb⟩
      have B10 := Lib.hid (below_then B9.out (Nat.le_refl _) hb)
      clear hb HAP B9
      go_wp2_with fail
      refine (works_any w10).mono ?_
      rintro e w11 ⟨rfl, hb⟩
      go_wp2_with fail
      go_ret
      exact ⟨rfl, below_then B10.out (Nat.le_refl _) hb⟩
    · skip
      go_wp2_with fail
      clear y0 y1
      refine (HWR.out HM.out w8 A2 c2 (HES.out ▸ O8.out.chunks)).mono ?_
      rintro e w9 ⟨Ab, mb, cb, rfl, hob, hb⟩
      have hmb : mb = ma := by rw [← hob.len, Q8.out.len]
      subst hmb
      have B9 := Lib.hid (below_then B8.out (Nat.le_refl _) hb)
      have HAP := Lib.hid (HEND.out w9 Ab cb _ B9.out hob (Q8.out.below hb (Nat.le_refl _)))
      clear hob hb K8 B8 O8 I8 Q8 HEND
      go_wp2_with fail
      refine HAP.out.mono ?_
      rintro e w10 ⟨rfl, hb⟩
      have B10 := Lib.hid (below_then B9.out (Nat.le_refl _) hb)
      clear hb HAP B9
      go_wp2_with fail
      refine (works_any w10).mono ?_
      rintro e w11 ⟨rfl, hb⟩
      go_wp2_with fail
      go_ret
      exact ⟨rfl, below_then B10.out (Nat.le_refl _) hb⟩
end Go.Proofs.Ytifmhlbeodfpeaa
