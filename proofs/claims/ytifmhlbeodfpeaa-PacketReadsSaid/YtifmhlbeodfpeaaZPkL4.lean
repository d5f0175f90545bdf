/-
  PacketReads, walked.
-/
import Derived.Test.YtifmhlbeodfpeaaQ32
namespace Go.Proofs.Ytifmhlbeodfpeaa
open Go.RowKit
set_option linter.unusedVariables false

theorem Try.infoBytes : (Try.prog.info? 29).map (fun i => (i.zero, i.size, i.bytes)) = some (some (.slice none 0 0), 1, 24) := by kernel_rfl
theorem RowAt.grown_row {w w' : World} {t : TypeId} {g : Nat} {ys : List UInt8} (h : RowAt w t g ys) {row : Option Nat} (hb : w.grownBy w' row) (hg : some g ≠ row) : RowAt w' t g ys := (hb.block g h.lt hg).trans h
/-- Where a chunk's body stands in a row of one's own. -/
theorem oc_cell {w : World} {base n c k : Nat} {A : Option Addr} {es : List CE} {e : CE} (h : OC w base (.slice A n c) es) (he : es[k]? = some e) : ∃ gr, A = some ⟨gr, 0, none⟩ ∧ w.cell? ⟨gr, 0 + k * 3 + 2, none⟩ = some (.slice e.A e.n e.c) := by
  rcases h.row.2 with ⟨_, hn⟩ | ⟨g, cap, cur, hv, hb, hg, _⟩
  · rw [List.eq_nil_of_length_eq_zero hn] at he
    cases he
  · injection hv with hv _ _
    subst hv
    refine ⟨g, rfl, ?_⟩
    have h2 := h.row.cells (g := g) rfl (k * 3 + 2) (.slice e.A e.n e.c) ((get_flatC es k e he 2 (by omega)).trans rfl)
    rw [Addr.add_lit] at h2
    rwa [Nat.add_assoc]
/-- append of one slice of bytes onto an own row of such. -/
theorem append_bytes1 {w : World} {base : Nat} {A : Option Addr} {m c g : Nat} {vs : List Value} (ty : TypeId) (A2 : Option Addr) (n2 c2 : Nat) (h : w.ownsRow base 29 1 (.slice A m c) m vs) (hg : Blk w g 29 #[.slice A2 n2 c2]) (hbd : m ≤ 1048576) (hbase : base ≤ w.heap.size) :
    ∃ g3 c3 w', (Builtin.append_ #[35, 35] ty #[.slice A m c, .slice (some ⟨g, 0, none⟩) 1 1]).run Try.prog w = .ok (.slice (some ⟨g3, 0, none⟩) (m + 1 : Nat) c3) w' ∧ w'.ownsRow base 29 1 (.slice (some ⟨g3, 0, none⟩) (m + 1) c3) (m + 1) (vs ++ [.slice A2 n2 c2]) ∧ w.grownBy w' (Value.slice A m c).ownBlock := by
  obtain ⟨i0, hi, hz0, hz1, hz2⟩ := info_parts Try.infoBytes
  obtain ⟨v', w', hrun, hown, hgr, _⟩ := run_append_own w base 35 ty 29 i0 _ 1 24 Try.underlying35 hi hz0 hz1 hz2 rfl (by decide) (.slice A m c) m vs h ⟨g, 0, none⟩ 1 1 [.slice A2 n2 c2] rfl
    (fun j u hu => by
      rw [Addr.add_lit, Nat.zero_add, hg.cell j]
      simpa using hu) (by intro u hu; simp at hu; rw [hu]; rfl) (by unfold maxLen; omega) (by omega) hbase
  have hform : ∃ g3 c3, v' = .slice (some ⟨g3, 0, none⟩) (m + 1) c3 := by
    rcases hown.2 with ⟨_, h⟩ | ⟨g, cap, cur, rfl, _⟩
    · omega
    · exact ⟨_, _, rfl⟩
  obtain ⟨g3, c3, rfl⟩ := hform
  exact ⟨g3, c3, w', hrun, hown, hgr⟩

set_option maxRecDepth 100000 in
set_option maxHeartbeats 4000000 in
theorem packetReads_big (A : Option Addr) (n c : Nat) (w : World) (h : 4096 < n) :
    Calls Try.prog 4 #[.slice A n c] w fun e w' => e = .returned (.bool true) ∧ Below w.heap.size w w' := by
  go_enter Try.func4, Try.ntmps4
  go_wp2_with fail
  refine (works_any _).mono ?_
  rintro e w1 ⟨rfl, hb⟩
  go_wp2_with fail
  go_ret
  exact ⟨rfl, hb⟩

set_option maxRecDepth 100000 in
set_option maxHeartbeats 4000000 in
theorem packetReads_small (A : Option Addr) (n c : Nat) (xs : List UInt8) (w : World) (h : n ≤ 4096) (hc : n ≤ c) (hcm : c ≤ maxLen) (hx : xs.length = n) (hr : Rd w w.heap.size A xs) :
    Calls Try.prog 4 #[.slice A n c] w fun e w' => e = .returned (.bool true) ∧ Below w.heap.size w w' := by
  have hz : ∀ W, (zeroValue 25).run Try.prog W = .ok (.agg #[.int .u32 0, .slice none 0 0]) W := by intro W; kernel_rfl
  obtain ⟨tag, htag⟩ : ∃ tag, tag = rdTag (rdP xs) := ⟨_, rfl⟩
  obtain ⟨er, her⟩ : ∃ er, er = rdErr (rdP xs) := ⟨_, rfl⟩
  obtain ⟨cs, hcs⟩ : ∃ cs, cs = rdCs (rdP xs) := ⟨_, rfl⟩
  obtain ⟨L, hL⟩ : ∃ L, L = cs.length := ⟨_, rfl⟩
  have hLn : L ≤ 4096 := by have := rd_cs_len xs; rw [hL, hcs]; omega
  have HX := Lib.hid hx
  have HR := Lib.hid hr
  have HRM := Lib.hid (fun W (hW : Below w.heap.size w W) => roomy_any A n c xs W (by omega) hx ((hr.below hW).more hW.size))
  have HRD : Hid (∀ W g, RowAt W 5 g (xs ++ marks16) → Calls Try.prog 22 #[.slice (some ⟨g, 0, none⟩) n (n + 16 : Nat)] W fun e w' => ∃ A2 c2 es, e = .returned (.tuple #[.agg #[.int .u32 (tag : Int), .slice A2 L c2], .int .i64 er]) ∧ OC w' W.heap.size (.slice A2 L c2) es ∧ es.map CE.chk = cs ∧ Below W.heap.size W w') := Lib.hid fun W g hg =>
    (readP_any (some ⟨g, 0, none⟩) n (n + 16) xs W (by omega) (by omega) (by unfold maxLen; omega) hx (rd_room hg)).mono fun e w' h => by
      obtain ⟨A2, c2, es, he, ho, hm⟩ := h.1.form
      have hl : es.length = L := by rw [hL, hcs, ← hm, List.length_map]
      rw [hl, ← htag, ← her] at he
      rw [hl] at ho
      exact ⟨A2, c2, es, he, ho, hcs ▸ hm, h.2⟩
  have HRF : Hid (∀ W, Below w.heap.size w W → Calls Try.prog 23 #[.slice A n c] W fun e w' => ∃ A2 c2 es, e = .returned (.tuple #[.agg #[.int .u32 (tag : Int), .slice A2 L c2], .int .i64 er]) ∧ OC w' W.heap.size (.slice A2 L c2) es ∧ es.map CE.chk = cs ∧ Below W.heap.size W w') := Lib.hid fun W hW =>
    (refReadP_any A n c xs W (by omega) hc hcm hx ((hr.below hW).more hW.size)).mono fun e w' h => by
      obtain ⟨A2, c2, es, he, ho, hm⟩ := h.1.form
      have hl : es.length = L := by rw [hL, hcs, ← hm, List.length_map]
      rw [hl, ← htag, ← her] at he
      rw [hl] at ho
      exact ⟨A2, c2, es, he, ho, hcs ▸ hm, h.2⟩
  have HSM : Hid (∀ W A2 c2 A3 c3, Chunks W W.heap.size A2 cs → Chunks W W.heap.size A3 cs → Calls Try.prog 19 #[.agg #[.int .u32 (tag : Int), .slice A2 L c2], .agg #[.int .u32 (tag : Int), .slice A3 L c3]] W fun e w' => e = .returned (.bool true) ∧ Below W.heap.size W w') := Lib.hid fun W A2 c2 A3 c3 h2 h3 => by
    have h := refSameP_any tag tag A2 A3 L L c2 c3 cs cs W (by unfold maxLen; omega) (by unfold maxLen; omega) hL.symm hL.symm h2 h3
    simpa using h
  have HKP : Hid (∀ W g, Below w.heap.size w W → RowAt W 5 g (xs ++ marks16) → Calls Try.prog 24 #[.slice (some ⟨g, 0, none⟩) n (n + 16 : Nat), .slice A n c] W fun e w' => e = .returned (.bool true) ∧ Below W.heap.size W w') := Lib.hid fun W g hW hg => (kept_any w.heap.size A n c g xs W (by omega) hx (hr.below hW) hg).mono fun e w' ⟨he, q, hq⟩ => ⟨he, hq ▸ below_drewN (Below.refl _ _) q⟩
  have HLC := Lib.hid hL
  clear hr hx htag her hcs hc hcm hL
  go_enter Try.func4, Try.ntmps4
  go_wp2_with fail
  refine (HRM.out w (Below.refl _ _)).mono ?_
  rintro e w1 ⟨g, rfl, hg, hrow, hb⟩
  have R1 := Lib.hid hrow
  have B1 := Lib.hid hb
  have B1s := hb.size
  have hgw : w.heap.size ≤ g := hg
  clear hrow hb hg HRM
  go_wp2_with fail
  refine (HRD.out w1 g R1.out).mono ?_
  rintro e w2 ⟨A2, c2, es, rfl, hoc, hm, hb⟩
  have R2 := Lib.hid ((R1.out.below hb R1.out.lt).alloc (.cells #[.int .u32 (tag : Int), .slice A2 L c2] 25))
  have hbb := below_then B1.out (Nat.le_refl _) hb
  have B2 := Lib.hid (hbb.alloc hbb.size (.cells #[.int .u32 (tag : Int), .slice A2 L c2] 25))
  have O2 := Lib.hid (hoc.alloc (.cells #[.int .u32 (tag : Int), .slice A2 L c2] 25))
  have HFG : Hid (∀ e ∈ es, Far (some ⟨g, 0, none⟩) e.A) := Lib.hid fun e he => by
    have hown : Own8 w1 5 w.heap.size (some ⟨g, 0, none⟩) n (n + 16) xs := own_in R1.out HX.out hgw (by omega)
    exact far_of hown (hoc.bod e he) (Nat.le_refl _)
  have HM := Lib.hid hm
  have I2 := Lib.hid (Blk.new w2 25 #[.int .u32 (tag : Int), .slice A2 L c2])
  obtain ⟨gi, hgi⟩ : ∃ gi, gi = w2.heap.size := ⟨_, rfl⟩
  rw [← hgi] at I2
  have HGI := Lib.hid hgi
  clear hb hbb hoc hm hgi R1 B1 HRD
  go_wp2_with fail
  rw [← HGI.out]
  generalize w2.alloc (.cells #[.int .u32 (tag : Int), .slice A2 L c2] 25) = v2 at R2 B2 O2 I2 ⊢
  clear HGI
  refine (HRF.out v2 B2.out).mono ?_
  rintro e w3 ⟨A3, c3, es3, rfl, hoc, hm, hb⟩
  have R3 := Lib.hid ((R2.out.below hb R2.out.lt).alloc (.cells #[.int .u32 (tag : Int), .slice A3 L c3] 25))
  have hbb := below_then B2.out (Nat.le_refl _) hb
  have B3 := Lib.hid (hbb.alloc hbb.size (.cells #[.int .u32 (tag : Int), .slice A3 L c3] 25))
  have O3 := Lib.hid ((O2.out.below hb).alloc (.cells #[.int .u32 (tag : Int), .slice A3 L c3] 25))
  have P3 := Lib.hid (hoc.alloc (.cells #[.int .u32 (tag : Int), .slice A3 L c3] 25))
  have I3 := Lib.hid ((I2.out.below hb I2.out.lt).alloc (.cells #[.int .u32 (tag : Int), .slice A3 L c3] 25))
  have HM3 := Lib.hid hm
  have y0 : (w3.alloc (.cells #[.int .u32 (tag : Int), .slice A3 L c3] 25)).cell? ⟨gi, 0, none⟩ = some (.int .u32 (tag : Int)) := I3.out.cell 0
  have y1 : (w3.alloc (.cells #[.int .u32 (tag : Int), .slice A3 L c3] 25)).cell? ⟨gi, 1, none⟩ = some (.slice A2 L c2) := I3.out.cell 1
  have hee : (er != er) = false := by simp
  clear hb hbb hoc hm HRF R2 B2 O2 I2
  go_wp2_with fail
  generalize w3.alloc (.cells #[.int .u32 (tag : Int), .slice A3 L c3] 25) = v3 at R3 B3 O3 P3 I3 y0 y1 ⊢
  clear y0 y1
  refine (HSM.out v3 A2 c2 A3 c3 (HM.out ▸ O3.out.chunks) (HM3.out ▸ P3.out.chunks)).mono ?_
  rintro e w4 ⟨rfl, hb⟩
  have R4 := Lib.hid (R3.out.below hb R3.out.lt)
  have B4 := Lib.hid (below_then B3.out (Nat.le_refl _) hb)
  have O4 := Lib.hid (O3.out.below hb)
  have I4 := Lib.hid (I3.out.below hb I3.out.lt)
  clear hb R3 B3 O3 P3 I3 HSM HM3
  go_wp2_with fail
  refine (HKP.out w4 g B4.out R4.out).mono ?_
  rintro e w5 ⟨rfl, hb⟩
  have R5 := Lib.hid ((R4.out.below hb R4.out.lt).alloc (.cells #[.slice (some ⟨g, 0, none⟩) n (n + 16)] 29))
  have hbb := below_then B4.out (Nat.le_refl _) hb
  have B5 := Lib.hid (hbb.alloc hbb.size (.cells #[.slice (some ⟨g, 0, none⟩) n (n + 16)] 29))
  have O5 := Lib.hid ((O4.out.below hb).alloc (.cells #[.slice (some ⟨g, 0, none⟩) n (n + 16)] 29))
  have I5 := Lib.hid ((I4.out.below hb I4.out.lt).alloc (.cells #[.slice (some ⟨g, 0, none⟩) n (n + 16)] 29))
  have hal := Blk.new w5 29 #[.slice (some ⟨g, 0, none⟩) n (n + 16)]
  have Q5 : Hid ((w5.alloc (.cells #[.slice (some ⟨g, 0, none⟩) n (n + 16)] 29)).ownsRow w.heap.size 29 1 (.slice (some ⟨w5.heap.size, 0, none⟩) 1 1) 1 [.slice (some ⟨g, 0, none⟩) n (n + 16)]) := Lib.hid ⟨rfl, .inr ⟨w5.heap.size, 1, _, rfl, hbb.size, hal, Nat.le_refl _, by unfold maxLen; omega, rfl, rfl⟩⟩
  clear hal hb hbb R4 B4 O4 I4 HKP
  go_wp2_with fail
  obtain ⟨ga, hga⟩ : ∃ ga, ga = w5.heap.size := ⟨_, rfl⟩
  rw [← hga] at Q5 ⊢
  clear hga
  generalize w5.alloc (.cells #[.slice (some ⟨g, 0, none⟩) n (n + 16)] 29) = v5 at R5 B5 O5 I5 Q5 ⊢
  have HEL : Hid (es.length = L) := Lib.hid (by rw [HLC.out, ← HM.out, List.length_map])
  have hgaw : True := trivial
  go_loopw [8, 9] (fun v i wr => ∃ (k : Nat) (G8 : Nat) (c8 : Nat), k ≤ L ∧ i = .int .i64 k ∧ v = .slice (some ⟨G8, 0, none⟩) (1 + k) c8 ∧ Hid (wr.ownsRow w.heap.size 29 1 (.slice (some ⟨G8, 0, none⟩) (1 + k) c8) (1 + k) (Value.slice (some ⟨g, 0, none⟩) n (n + 16) :: (es.take k).map fun e => Value.slice e.A e.n e.c)) ∧ Hid (RowAt wr 5 g (xs ++ marks16)) ∧ Hid (OC wr w1.heap.size (.slice A2 L c2) es) ∧ Hid (Blk wr gi 25 #[.int .u32 (tag : Int), .slice A2 L c2]) ∧ Hid (Below w.heap.size w wr)) (fun _ i _ => L - (intOf i).toNat)
  case atStart => exact ⟨0, ga, 1, Nat.zero_le _, rfl, rfl, Q5, R5, O5, I5, B5⟩
  case round =>
    clear Q5 R5 O5 I5 B5
    obtain ⟨k, G8, c8, hk, rfl, rfl, Q, R, O, I, B⟩ := hrel
    have y1 : wr.cell? ⟨gi, 1, none⟩ = some (.slice A2 L c2) := I.out.cell 1
    by_cases hlt : k < L
    · obtain ⟨e, hek⟩ : ∃ e, es[k]? = some e := ⟨_, List.getElem?_eq_getElem (by rw [HEL.out]; exact hlt)⟩
      obtain ⟨b, o, rfl, hbl, g0, g1, Ax, nx, cx, g2, g3, g4, g5, g6⟩ := O.out.chunks.at_ (k := k) (x := e.chk) (by rw [List.getElem?_map, hek]; rfl)
      have hcl : wr.cell? ⟨b, o + k * 3 + 2, none⟩ = some (.slice e.A e.n e.c) := by
        obtain ⟨gr, hA, hcell⟩ := oc_cell O.out hek
        injection hA with hA
        injection hA with h1 h2
        subst h1 h2
        exact hcell
      have HEK := Lib.hid hek
      clear hek g0 g1 g2 g3 g4 g5 g6 hbl
      have Qa := Lib.hid (ownsRow_keep Q.out fun q hq => Below.heap_alloc wr (.cells #[.slice e.A e.n e.c] 29) q (World.ownsRow.lt Q.out q hq).2)
      obtain ⟨g9, c9, w9, hrun, hown, hgr⟩ := append_bytes1 35 e.A e.n e.c Qa.out (Blk.new wr 29 #[.slice e.A e.n e.c]) (by omega) (Nat.le_trans B.out.size (by simp))
      have R9 := Lib.hid ((R.out.alloc (.cells #[.slice e.A e.n e.c] 29)).grown_row hgr (ownsRow_ne Qa.out (show Blk _ g 5 _ from R.out.alloc (.cells #[.slice e.A e.n e.c] 29)) (by decide)))
      have I9 := Lib.hid ((I.out.alloc (.cells #[.slice e.A e.n e.c] 29)).grown hgr (ownsRow_ne Qa.out (I.out.alloc (.cells #[.slice e.A e.n e.c] 29)) (by decide)))
      have O9 := Lib.hid ((O.out.alloc (.cells #[.slice e.A e.n e.c] 29)).beside Qa.out (by decide) (by decide) hgr)
      have B9 := Lib.hid ((B.out.alloc B.out.size (.cells #[.slice e.A e.n e.c] 29)).grown hgr (Nat.le_trans B.out.size (by simp)) (ownsRow_ge Qa.out))
      have HOW := Lib.hid hown
      clear hown hgr Qa Q R O I B
      go_wp2_with (at_builtin; refine wpList_append_run rfl _ _ 35 rfl _ _ _ rfl rfl _ rfl hrun ?_)
      go_roundw
      case rel =>
        refine ⟨k + 1, g9, c9, by omega, by go_num, rfl, Lib.hid ?_, R9, O9, I9, B9⟩
        have h2 := HOW.out
        rw [List.cons_append, show ((es.take k).map fun e => Value.slice e.A e.n e.c) ++ [Value.slice e.A e.n e.c] = (es.take (k + 1)).map fun e => Value.slice e.A e.n e.c by rw [List.take_add_one, HEK.out, List.map_append]; rfl] at h2
        exact h2
      case measure => simp [intOf]; omega
    · obtain rfl : k = L := by omega
      have HAP : Hid (Calls Try.prog 20 #[.slice (some ⟨G8, 0, none⟩) (1 + k) c8] wr fun e w' => e = .returned (.bool true) ∧ Below wr.heap.size wr w') := Lib.hid (by
        have hq := Q.out
        rw [List.take_of_length_le (by rw [HEL.out]; exact Nat.le_refl _)] at hq
        have hel := HEL.out
        subst hel
        exact apart_any G8 0 (1 + es.length) c8 w.heap.size _ _ _ _ wr (by omega) (rows_read (own_in R.out HX.out hgw (by omega)) (O.out.more (by have := B1s; omega)) HFG.out hq))
      clear Q R O I
      go_wp2_with fail
      refine HAP.out.mono ?_
      rintro e w10 ⟨rfl, hb⟩
      have B10 := Lib.hid (below_then B.out (Nat.le_refl _) hb)
      clear hb HAP B
      go_wp2_with fail
      refine (works_any w10).mono ?_
      rintro e w11 ⟨rfl, hb⟩
      go_wp2_with fail
      go_ret
      exact ⟨rfl, below_then B10.out (Nat.le_refl _) hb⟩

theorem packetReads_walk (A : Option Addr) (n c : Nat) (xs : List UInt8) (w : World) (hc : n ≤ c) (hcm : c ≤ maxLen) (hx : xs.length = n) (hr : Rd w w.heap.size A xs) :
    Calls Try.prog 4 #[.slice A n c] w fun e w' => e = .returned (.bool true) ∧ Below w.heap.size w w' := by
  by_cases h : 4096 < n
  · exact packetReads_big A n c w h
  · exact packetReads_small A n c xs w (by omega) hc hcm hx hr
end Go.Proofs.Ytifmhlbeodfpeaa
