/-
  BodiesCuts, walked: flags.
  The statement 'BodiesCuts' holds: for every input the law returns true, and each argument reads behind the call as it did. Conditions: none but the row's own.
-/
import Derived.Test.YtalgkokgaibloaaCutB
import Derived.Test.YtalgkokgaibloaaFrameZ
namespace Go.Proofs.Ytalgkokgaibloaa
open Go.RowKit
set_option linter.unusedVariables false

set_option maxRecDepth 100000 in
set_option maxHeartbeats 40000000 in
theorem bodiesCuts_more (x : AX) (cutn : Nat) (fl : UInt8) (w : World) (hx : x.In w) (hcut : cutn < 65536) (hb : ¬ (2048 < x.ng ∨ 2048 < x.nu ∨ 2048 < x.ns)) (hb2 : x.ni ≤ 8192) (hb3 : x.nd ≤ 8192) (hf : fl ≠ 0) :
    Calls Try.prog 10 #[.agg #[.bool x.ack, .int .u32 (x.tsn : Int), .int .u16 (x.stream : Int), .int .u16 (x.ssn : Int), .bool x.un, .bool x.fi, .bool x.la, .slice x.Ad x.nd x.cd, .int .u32 (x.tag : Int), .int .u32 (x.rwnd : Int), .int .u16 (x.out : Int), .int .u16 (x.in_ : Int), .int .u32 (x.tsn2 : Int), .slice x.Ai x.ni x.ci, .int .u32 (x.cum : Int), .int .u32 (x.rwnd2 : Int), .slice x.Ag x.ng x.cg, .slice x.Au x.nu x.cu, .int .u32 (x.fcum : Int), .slice x.As x.ns x.cs, .int .i64 x.t, .int .u32 (x.cum2 : Int)], .int .u16 (cutn : Int), .int .u8 (fl.toNat : Int)] w fun e w' => e = .returned (.bool true) ∧ Below w.heap.size w w' := by
  obtain ⟨ack, tsn, stream, ssn, un, fi, la, Ad, nd, cd, ds, tag, rwnd, out, in_, tsn2, Ai, ni, ci, ck, cum, rwnd2, Ag, ng, cg, gaps, Au, nu, cu, dups, fcum, As, ns, cs, skips, t, cum2⟩ := x
  obtain ⟨h1, h2, h3, h4, h5, h6, h7, h8, h9, h10, h11, ht, h12, ⟨hd1, hd2, hdl, hdr⟩, ⟨hi1, hi2, hil, hir⟩, ⟨hg1, hg2, hgl, hgr, hgb⟩, ⟨hu1, hu2, hul, hur, hub⟩, ⟨hs1, hs2, hsl, hsr, hsb⟩⟩ := hx
  simp only at h1 h2 h3 h4 h5 h6 h7 h8 h9 h10 h11 h12 ht hd1 hd2 hdl hdr hi1 hi2 hil hir hg1 hg2 hgl hgr hgb hu1 hu2 hul hur hub hs1 hs2 hsl hsr hsb hb hb2 hb3 ⊢
  have HMN : Hid (∀ W, Calls Try.prog 28 #[.agg #[.int .u32 (cum : Int), .int .u32 (rwnd2 : Int), .slice Ag ng cg, .slice Au nu cu], .agg #[.int .u32 (fcum : Int), .slice As ns cs]] W fun e w' => e = .returned (.bool false) ∧ Below W.heap.size W w') := Lib.hid fun W => by
    have := many_any (cum : Int) (rwnd2 : Int) (fcum : Int) Ag Au As ng cg nu cu ns cs W (Nat.le_trans hg1 hg2) (Nat.le_trans hu1 hu2) (Nat.le_trans hs1 hs2)
    rwa [decide_eq_false hb] at this
  have HPD : Hid (∀ W, Below w.heap.size w W → Puts 15 #[.agg #[.int .u32 (tsn : Int), .int .u16 (stream : Int), .int .u16 (ssn : Int), .bool un, .bool fi, .bool la, .slice Ad nd cd]] 0 (flagsD un fi la) (bodyD ⟨tsn, stream, ssn, un, fi, la, ds⟩) W) := Lib.hid fun W hW => putData_any tsn stream ssn un fi la ds h1 h2 h3 Ad nd cd W (by omega) hdl ((hdr.below hW).more hW.size)
  have HPI : Hid (∀ W, Below w.heap.size w W → Puts 23 #[.int .u8 2, .agg #[.int .u32 (tag : Int), .int .u32 (rwnd : Int), .int .u16 (out : Int), .int .u16 (in_ : Int), .int .u32 (tsn2 : Int), .slice Ai ni ci]] 2 0 (bodyI 2 ⟨tag, rwnd, out, in_, tsn2, ck⟩) W) := Lib.hid fun W hW => putInit_ack tag rwnd out in_ tsn2 ck h4 h5 h6 h7 h8 Ai ni ci W (by omega) hil ((hir.below hW).more hW.size)
  have HPS : Hid (∀ W, Below w.heap.size w W → Puts 29 #[.agg #[.int .u32 (cum : Int), .int .u32 (rwnd2 : Int), .slice Ag ng cg, .slice Au nu cu]] 3 0 (bodyS ⟨cum, rwnd2, gaps, dups⟩) W) := Lib.hid fun W hW => putSack_any cum rwnd2 gaps dups h9 h10 hgb hub Ag Au ng cg nu cu W (by omega) (by omega) hgl hul ((hgr.below_ hW).more (Nat.le_refl _) hW.size) ((hur.below hW).more hW.size)
  have HPF : Hid (∀ W, Below w.heap.size w W → Puts 34 #[.agg #[.int .u32 (fcum : Int), .slice As ns cs]] 192 0 (bodyF ⟨fcum, skips⟩) W) := Lib.hid fun W hW => putForward_any fcum skips h11 hsb As ns cs W (by omega) hsl ((hsr.below_ hW).more (Nat.le_refl _) hW.size)
  have HPT : Hid (∀ W, Puts 43 #[.int .u8 4, .int .i64 t] 4 0 (bodyT (t % 18446744073709551616).toNat) W) := Lib.hid fun W => putTime_any 4 t ht W
  have HPC : Hid (∀ W, Puts 45 #[.int .u32 (cum2 : Int)] 7 0 (enc cum2 4) W) := Lib.hid fun W => putCum_any cum2 h12 W
  have HF0 : Hid (CutFine 2 (bodyI 2 ⟨tag, rwnd, out, in_, tsn2, ck⟩)) := Lib.hid (fine2 ⟨tag, rwnd, out, in_, tsn2, ck⟩ ⟨h4, h5, h6, h7, h8⟩ (by simp only; omega))
  have HF1 : Hid (CutFine 3 (bodyS ⟨cum, rwnd2, gaps, dups⟩)) := Lib.hid (fine3 ⟨cum, rwnd2, gaps, dups⟩ ⟨h9, h10, hgb, hub⟩ (by simp only; omega) (by simp only; omega))
  have HF2 : Hid (CutFine 192 (bodyF ⟨fcum, skips⟩)) := Lib.hid (fine192 ⟨fcum, skips⟩ ⟨h11, hsb⟩ (by simp only; omega))
  have HF3 : Hid (CutFine 4 (bodyT (t % 18446744073709551616).toNat)) := Lib.hid (fine4 _ (by omega))
  have HF4 : Hid (CutFine 7 (enc cum2 4)) := Lib.hid (fine7 cum2 h12)
  have hlD : (bodyD ⟨tsn, stream, ssn, un, fi, la, ds⟩).length = 12 + nd := by rw [length_bodyD]; simp only; rw [hdl]
  obtain ⟨kd, hkd0⟩ : ∃ kd : Nat, kd = cutn % ((bodyD ⟨tsn, stream, ssn, un, fi, la, ds⟩).length + 1) := ⟨_, rfl⟩
  have hkdl : kd ≤ (bodyD ⟨tsn, stream, ssn, un, fi, la, ds⟩).length := by have := Nat.mod_lt cutn (show 0 < (bodyD ⟨tsn, stream, ssn, un, fi, la, ds⟩).length + 1 by omega); omega
  have hkd : (cutn : Int) % (((bodyD ⟨tsn, stream, ssn, un, fi, la, ds⟩).length : Int) + 1) = (kd : Int) := by rw [hkd0]; simp
  clear hkd0
  have HED := Lib.hid (okD_cut ⟨tsn, stream, ssn, un, fi, la, ds⟩ ⟨h1, h2, h3⟩ un fi la fl kd hkdl)
  have HGD : Hid (∀ (W : World) (A : Option Addr) (c b : Nat), Own8 W 5 b A (bodyD ⟨tsn, stream, ssn, un, fi, la, ds⟩).length c (bodyD ⟨tsn, stream, ssn, un, fi, la, ds⟩) → Calls Try.prog 16 #[.agg #[.int .u8 0, .int .u8 (fl.toNat : Int), .slice A kd c]] W fun e w' => ∃ A2 c2, e = .returned (.tuple #[.agg #[.int .u32 ((ansD 0 fl ((bodyD ⟨tsn, stream, ssn, un, fi, la, ds⟩).take kd)).tsn : Int), .int .u16 ((ansD 0 fl ((bodyD ⟨tsn, stream, ssn, un, fi, la, ds⟩).take kd)).stream : Int), .int .u16 ((ansD 0 fl ((bodyD ⟨tsn, stream, ssn, un, fi, la, ds⟩).take kd)).ssn : Int), .bool (ansD 0 fl ((bodyD ⟨tsn, stream, ssn, un, fi, la, ds⟩).take kd)).un, .bool (ansD 0 fl ((bodyD ⟨tsn, stream, ssn, un, fi, la, ds⟩).take kd)).fi, .bool (ansD 0 fl ((bodyD ⟨tsn, stream, ssn, un, fi, la, ds⟩).take kd)).la, .slice A2 (ansD 0 fl ((bodyD ⟨tsn, stream, ssn, un, fi, la, ds⟩).take kd)).bytes.length c2], .int .i64 (errOf (okD 0 fl ((bodyD ⟨tsn, stream, ssn, un, fi, la, ds⟩).take kd)))]) ∧ Own8 w' 5 W.heap.size A2 (ansD 0 fl ((bodyD ⟨tsn, stream, ssn, un, fi, la, ds⟩).take kd)).bytes.length c2 (ansD 0 fl ((bodyD ⟨tsn, stream, ssn, un, fi, la, ds⟩).take kd)).bytes ∧ Below W.heap.size W w') := Lib.hid fun W A c b ho => (getData_any 0 fl A kd c _ W (by omega) (Nat.le_trans hkdl ho.cap.1) ho.cap.2 (len_take hkdl) (ho.rd.take_ kd)).mono fun e w' ⟨A2, m2, c2, he, ho2, hb⟩ => by
    have hm := ho2.len
    subst hm
    exact ⟨A2, c2, he, ho2, hb⟩
  have HGT : Hid (∀ (W : World) (k f : UInt8) (A : Option Addr) (n c b : Nat) (Y : List UInt8) (m : Nat) (v : Int), Own8 W 5 b A n c Y → n ≤ 131072 → m ≤ n → cntG k f (Y.take m) = v → Calls Try.prog 47 #[.agg #[.int .u8 (k.toNat : Int), .int .u8 (f.toNat : Int), .slice A m c]] W fun e w' => e = .returned (.tuple #[.int .i64 v, .bool true]) ∧ Below W.heap.size W w') := Lib.hid fun W k f A n c b Y m v ho hn hm hv => by
    have := got_any k f A m c (Y.take m) W (by omega) (Nat.le_trans hm ho.cap.1) ho.cap.2 (len_take (by rw [ho.len]; exact hm)) (ho.rd.take_ m)
    rwa [hv] at this
  obtain ⟨FL, eFL⟩ : ∃ Y, Y = flagsD un fi la := ⟨_, rfl⟩
  rw [← eFL] at HPD
  obtain ⟨YD, eYD⟩ : ∃ Y, Y = bodyD ⟨tsn, stream, ssn, un, fi, la, ds⟩ := ⟨_, rfl⟩
  rw [← eYD] at HPD HED HGD hkd hkdl hlD
  obtain ⟨YI, eYI⟩ : ∃ Y, Y = bodyI 2 ⟨tag, rwnd, out, in_, tsn2, ck⟩ := ⟨_, rfl⟩
  rw [← eYI] at HPI HF0
  obtain ⟨YS, eYS⟩ : ∃ Y, Y = bodyS ⟨cum, rwnd2, gaps, dups⟩ := ⟨_, rfl⟩
  rw [← eYS] at HPS HF1
  obtain ⟨YF, eYF⟩ : ∃ Y, Y = bodyF ⟨fcum, skips⟩ := ⟨_, rfl⟩
  rw [← eYF] at HPF HF2
  obtain ⟨YT, eYT⟩ : ∃ Y, Y = bodyT (t % 18446744073709551616).toNat := ⟨_, rfl⟩
  rw [← eYT] at HPT HF3
  obtain ⟨YC, eYC⟩ : ∃ Y, Y = enc cum2 4 := ⟨_, rfl⟩
  rw [← eYC] at HPC HF4
  obtain ⟨r1, er1⟩ : ∃ Y, Y = (ansD 0 fl (YD.take kd)).tsn := ⟨_, rfl⟩
  rw [← er1] at HGD
  obtain ⟨r2, er2⟩ : ∃ Y, Y = (ansD 0 fl (YD.take kd)).stream := ⟨_, rfl⟩
  rw [← er2] at HGD
  obtain ⟨r3, er3⟩ : ∃ Y, Y = (ansD 0 fl (YD.take kd)).ssn := ⟨_, rfl⟩
  rw [← er3] at HGD
  obtain ⟨r4, er4⟩ : ∃ Y, Y = (ansD 0 fl (YD.take kd)).un := ⟨_, rfl⟩
  rw [← er4] at HGD
  obtain ⟨r5, er5⟩ : ∃ Y, Y = (ansD 0 fl (YD.take kd)).fi := ⟨_, rfl⟩
  rw [← er5] at HGD
  obtain ⟨r6, er6⟩ : ∃ Y, Y = (ansD 0 fl (YD.take kd)).la := ⟨_, rfl⟩
  rw [← er6] at HGD
  obtain ⟨rb, erb⟩ : ∃ Y, Y = (ansD 0 fl (YD.take kd)).bytes := ⟨_, rfl⟩
  rw [← erb] at HGD
  obtain ⟨oD, eoD⟩ : ∃ Y, Y = okD 0 fl (YD.take kd) := ⟨_, rfl⟩
  rw [← eoD] at HGD HED
  obtain ⟨reD, ereD⟩ : ∃ Y, Y = errOf oD := ⟨_, rfl⟩
  rw [← ereD] at HGD
  have HRD := Lib.hid ereD
  have hlD2 : YD.length ≤ 8204 := by omega
  clear hlD eFL eYD eYI eYS eYF eYT eYC er1 er2 er3 er4 er5 er6 erb eoD ereD h1 h2 h3 h4 h5 h6 h7 h8 h9 h10 h11 h12 ht hdl hdr hil hir hgl hgr hgb hul hur hub hsl hsr hsb hb
  have hnd := Nat.le_trans hd1 hd2
  have hni := Nat.le_trans hi1 hi2
  unfold maxLen at hnd hni
  clear hd1 hd2 hi1 hi2 hg1 hg2 hu1 hu2 hs1 hs2
  have hz := zero_chunk
  have hzd := zero_data
  have HFL := Lib.hid hf
  have hf0 := flag_ne0 hf
  have hf1 : ((fl.toNat : Int) != 0) = true := by simp [bne, hf0]
  clear hf
  have b0 : Blk (w.alloc (.cells #[.bool ack, .int .u32 (tsn : Int), .int .u16 (stream : Int), .int .u16 (ssn : Int), .bool un, .bool fi, .bool la, .slice Ad nd cd, .int .u32 (tag : Int), .int .u32 (rwnd : Int), .int .u16 (out : Int), .int .u16 (in_ : Int), .int .u32 (tsn2 : Int), .slice Ai ni ci, .int .u32 (cum : Int), .int .u32 (rwnd2 : Int), .slice Ag ng cg, .slice Au nu cu, .int .u32 (fcum : Int), .slice As ns cs, .int .i64 t, .int .u32 (cum2 : Int)] 77)) w.heap.size 77 #[.bool ack, .int .u32 (tsn : Int), .int .u16 (stream : Int), .int .u16 (ssn : Int), .bool un, .bool fi, .bool la, .slice Ad nd cd, .int .u32 (tag : Int), .int .u32 (rwnd : Int), .int .u16 (out : Int), .int .u16 (in_ : Int), .int .u32 (tsn2 : Int), .slice Ai ni ci, .int .u32 (cum : Int), .int .u32 (rwnd2 : Int), .slice Ag ng cg, .slice Au nu cu, .int .u32 (fcum : Int), .slice As ns cs, .int .i64 t, .int .u32 (cum2 : Int)] := Blk.new w 77 #[.bool ack, .int .u32 (tsn : Int), .int .u16 (stream : Int), .int .u16 (ssn : Int), .bool un, .bool fi, .bool la, .slice Ad nd cd, .int .u32 (tag : Int), .int .u32 (rwnd : Int), .int .u16 (out : Int), .int .u16 (in_ : Int), .int .u32 (tsn2 : Int), .slice Ai ni ci, .int .u32 (cum : Int), .int .u32 (rwnd2 : Int), .slice Ag ng cg, .slice Au nu cu, .int .u32 (fcum : Int), .slice As ns cs, .int .i64 t, .int .u32 (cum2 : Int)]
  have K0 := Lib.hid b0
  have B0 : Hid (Below w.heap.size w (w.alloc (.cells #[.bool ack, .int .u32 (tsn : Int), .int .u16 (stream : Int), .int .u16 (ssn : Int), .bool un, .bool fi, .bool la, .slice Ad nd cd, .int .u32 (tag : Int), .int .u32 (rwnd : Int), .int .u16 (out : Int), .int .u16 (in_ : Int), .int .u32 (tsn2 : Int), .slice Ai ni ci, .int .u32 (cum : Int), .int .u32 (rwnd2 : Int), .slice Ag ng cg, .slice Au nu cu, .int .u32 (fcum : Int), .slice As ns cs, .int .i64 t, .int .u32 (cum2 : Int)] 77))) := Lib.hid (Wr.below_ ((Wr.refl 5 w.heap.size w).alloc (.cells #[.bool ack, .int .u32 (tsn : Int), .int .u16 (stream : Int), .int .u16 (ssn : Int), .bool un, .bool fi, .bool la, .slice Ad nd cd, .int .u32 (tag : Int), .int .u32 (rwnd : Int), .int .u16 (out : Int), .int .u16 (in_ : Int), .int .u32 (tsn2 : Int), .slice Ai ni ci, .int .u32 (cum : Int), .int .u32 (rwnd2 : Int), .slice Ag ng cg, .slice Au nu cu, .int .u32 (fcum : Int), .slice As ns cs, .int .i64 t, .int .u32 (cum2 : Int)] 77)) (Nat.le_refl _))
  clear b0
  go_enter Try.func10, Try.ntmps10
  rw [drawn_eq 3, drawn_eq 10, drawn_eq 21]
  go_wp2_with fail
  generalize (w.alloc (.cells #[.bool ack, .int .u32 (tsn : Int), .int .u16 (stream : Int), .int .u16 (ssn : Int), .bool un, .bool fi, .bool la, .slice Ad nd cd, .int .u32 (tag : Int), .int .u32 (rwnd : Int), .int .u16 (out : Int), .int .u16 (in_ : Int), .int .u32 (tsn2 : Int), .slice Ai ni ci, .int .u32 (cum : Int), .int .u32 (rwnd2 : Int), .slice Ag ng cg, .slice Au nu cu, .int .u32 (fcum : Int), .slice As ns cs, .int .i64 t, .int .u32 (cum2 : Int)] 77)) = v0 at K0 B0 ⊢
  have P0 := K0
  clear K0
  refine (HMN.out v0).mono ?_
  rintro e w1 ⟨rfl, hb⟩
  have P1 := Lib.hid (P0.out.below hb P0.out.lt)
  have B1 := Lib.hid (below_then B0.out (Nat.le_refl _) hb)
  clear hb P0 B0
  clear HMN
  have x7 : w1.cell? ⟨w.heap.size, 7, none⟩ = some (.slice Ad nd cd) := P1.out.cell 7
  have x13 : w1.cell? ⟨w.heap.size, 13, none⟩ = some (.slice Ai ni ci) := P1.out.cell 13
  go_wp2_with fail
  clear x7 x13
  generalize w1 = u1 at P1 B1 ⊢
  rw [← drawn_eq 3]
  refine wp_region_grow_tail 15 (by kernel_rfl) [(Is (.pointer (some ⟨w.heap.size, 8, none⟩))), (Is (.agg #[.int .u32 (tag : Int), .int .u32 (rwnd : Int), .int .u16 (out : Int), .int .u16 (in_ : Int), .int .u32 (tsn2 : Int), .slice Ai ni ci])), (NewAgg 5 w.heap.size YI.length YI (fun s => .agg #[.int .u8 ((2 : UInt8).toNat : Int), .int .u8 ((0 : UInt8).toNat : Int), s])), (Is (.pointer (some ⟨w.heap.size, 14, none⟩))), (Is (.agg #[.int .u32 (cum : Int), .int .u32 (rwnd2 : Int), .slice Ag ng cg, .slice Au nu cu])), (NewAgg 5 w.heap.size YS.length YS (fun s => .agg #[.int .u8 ((3 : UInt8).toNat : Int), .int .u8 ((0 : UInt8).toNat : Int), s])), (Is (.pointer (some ⟨w.heap.size, 18, none⟩))), (Is (.agg #[.int .u32 (fcum : Int), .slice As ns cs])), (NewAgg 5 w.heap.size YF.length YF (fun s => .agg #[.int .u8 ((192 : UInt8).toNat : Int), .int .u8 ((0 : UInt8).toNat : Int), s])), (Is (.pointer (some ⟨w.heap.size, 20, none⟩))), (Is (.int .i64 t)), (NewAgg 5 w.heap.size YT.length YT (fun s => .agg #[.int .u8 ((4 : UInt8).toNat : Int), .int .u8 ((0 : UInt8).toNat : Int), s])), (Is (.pointer (some ⟨w.heap.size, 21, none⟩))), (Is (.int .u32 (cum2 : Int))), (NewAgg 5 w.heap.size YC.length YC (fun s => .agg #[.int .u8 ((7 : UInt8).toNat : Int), .int .u8 ((0 : UInt8).toNat : Int), s]))] rfl ?_ (by kernel_rfl) (by kernel_rfl) ?_ ?_
  · intro p hp
    simp only [List.mem_cons, List.not_mem_nil, or_false] at hp
    rcases hp with rfl | rfl | rfl | rfl | rfl | rfl | rfl | rfl | rfl | rfl | rfl | rfl | rfl | rfl | rfl
    · exact Lasts.is _
    · exact Lasts.is _
    · exact Lasts.newAgg _ _ _ _ _
    · exact Lasts.is _
    · exact Lasts.is _
    · exact Lasts.newAgg _ _ _ _ _
    · exact Lasts.is _
    · exact Lasts.is _
    · exact Lasts.newAgg _ _ _ _ _
    · exact Lasts.is _
    · exact Lasts.is _
    · exact Lasts.newAgg _ _ _ _ _
    · exact Lasts.is _
    · exact Lasts.is _
    · exact Lasts.newAgg _ _ _ _ _
  · refine ⟨?_, ?_, ?_, ?_, ?_, ?_, ?_, ?_, ?_, ?_, ?_, ?_, ?_, ?_, ?_, trivial⟩
    · intro listed a w1 hl hc
      have h3 : a.tmps[3]?.getD undef = .pointer (some ⟨w.heap.size, 0, none⟩) := (hc.was 3 (by kernel_rfl)).trans rfl
      refine does_value rfl rfl (.pointer (some ⟨w.heap.size, 8, none⟩)) w1 ?_ (Below.refl _ _) rfl
      clear hc hl
      go_simp
    · intro listed a w1 hl hc
      have h42 : a.tmps[42]?.getD undef = .pointer (some ⟨w.heap.size, 8, none⟩) := hc.dep hl 0 42 rfl (by kernel_rfl)
      have kb := P1.out.below hc.g P1.out.lt
      have x8 : w1.cell? ⟨w.heap.size, 8, none⟩ = some (.int .u32 (tag : Int)) := kb.cell 8
      have x9 : w1.cell? ⟨w.heap.size, 9, none⟩ = some (.int .u32 (rwnd : Int)) := kb.cell 9
      have x10 : w1.cell? ⟨w.heap.size, 10, none⟩ = some (.int .u16 (out : Int)) := kb.cell 10
      have x11 : w1.cell? ⟨w.heap.size, 11, none⟩ = some (.int .u16 (in_ : Int)) := kb.cell 11
      have x12 : w1.cell? ⟨w.heap.size, 12, none⟩ = some (.int .u32 (tsn2 : Int)) := kb.cell 12
      have x13 : w1.cell? ⟨w.heap.size, 13, none⟩ = some (.slice Ai ni ci) := kb.cell 13
      clear kb
      refine does_value rfl rfl (.agg #[.int .u32 (tag : Int), .int .u32 (rwnd : Int), .int .u16 (out : Int), .int .u16 (in_ : Int), .int .u32 (tsn2 : Int), .slice Ai ni ci]) w1 ?_ (Below.refl _ _) rfl
      clear hc hl
      go_simp
    · intro listed a w1 hl hc
      have h43 : a.tmps[43]?.getD undef = .agg #[.int .u32 (tag : Int), .int .u32 (rwnd : Int), .int .u16 (out : Int), .int .u16 (in_ : Int), .int .u32 (tsn2 : Int), .slice Ai ni ci] := hc.dep hl 1 43 rfl (by kernel_rfl)
      refine does_call rfl rfl 23 #[.int .u8 2, .agg #[.int .u32 (tag : Int), .int .u32 (rwnd : Int), .int .u16 (out : Int), .int .u16 (in_ : Int), .int .u32 (tsn2 : Int), .slice Ai ni ci]] ?_ ((HPI.out w1 (B1.out.trans (hc.g.mono B1.out.size))).mono fun e w' ⟨A9, c9, he, ho, hb⟩ => ⟨_, he, hb, A9, c9, rfl, ho.more (Nat.le_trans B1.out.size hc.g.size)⟩)
      clear hc hl
      go_simp
    · intro listed a w1 hl hc
      have h3 : a.tmps[3]?.getD undef = .pointer (some ⟨w.heap.size, 0, none⟩) := (hc.was 3 (by kernel_rfl)).trans rfl
      refine does_value rfl rfl (.pointer (some ⟨w.heap.size, 14, none⟩)) w1 ?_ (Below.refl _ _) rfl
      clear hc hl
      go_simp
    · intro listed a w1 hl hc
      have h45 : a.tmps[45]?.getD undef = .pointer (some ⟨w.heap.size, 14, none⟩) := hc.dep hl 3 45 rfl (by kernel_rfl)
      have kb := P1.out.below hc.g P1.out.lt
      have x14 : w1.cell? ⟨w.heap.size, 14, none⟩ = some (.int .u32 (cum : Int)) := kb.cell 14
      have x15 : w1.cell? ⟨w.heap.size, 15, none⟩ = some (.int .u32 (rwnd2 : Int)) := kb.cell 15
      have x16 : w1.cell? ⟨w.heap.size, 16, none⟩ = some (.slice Ag ng cg) := kb.cell 16
      have x17 : w1.cell? ⟨w.heap.size, 17, none⟩ = some (.slice Au nu cu) := kb.cell 17
      clear kb
      refine does_value rfl rfl (.agg #[.int .u32 (cum : Int), .int .u32 (rwnd2 : Int), .slice Ag ng cg, .slice Au nu cu]) w1 ?_ (Below.refl _ _) rfl
      clear hc hl
      go_simp
    · intro listed a w1 hl hc
      have h46 : a.tmps[46]?.getD undef = .agg #[.int .u32 (cum : Int), .int .u32 (rwnd2 : Int), .slice Ag ng cg, .slice Au nu cu] := hc.dep hl 4 46 rfl (by kernel_rfl)
      refine does_call rfl rfl 29 #[.agg #[.int .u32 (cum : Int), .int .u32 (rwnd2 : Int), .slice Ag ng cg, .slice Au nu cu]] ?_ ((HPS.out w1 (B1.out.trans (hc.g.mono B1.out.size))).mono fun e w' ⟨A9, c9, he, ho, hb⟩ => ⟨_, he, hb, A9, c9, rfl, ho.more (Nat.le_trans B1.out.size hc.g.size)⟩)
      clear hc hl
      go_simp
    · intro listed a w1 hl hc
      have h3 : a.tmps[3]?.getD undef = .pointer (some ⟨w.heap.size, 0, none⟩) := (hc.was 3 (by kernel_rfl)).trans rfl
      refine does_value rfl rfl (.pointer (some ⟨w.heap.size, 18, none⟩)) w1 ?_ (Below.refl _ _) rfl
      clear hc hl
      go_simp
    · intro listed a w1 hl hc
      have h48 : a.tmps[48]?.getD undef = .pointer (some ⟨w.heap.size, 18, none⟩) := hc.dep hl 6 48 rfl (by kernel_rfl)
      have kb := P1.out.below hc.g P1.out.lt
      have x18 : w1.cell? ⟨w.heap.size, 18, none⟩ = some (.int .u32 (fcum : Int)) := kb.cell 18
      have x19 : w1.cell? ⟨w.heap.size, 19, none⟩ = some (.slice As ns cs) := kb.cell 19
      clear kb
      refine does_value rfl rfl (.agg #[.int .u32 (fcum : Int), .slice As ns cs]) w1 ?_ (Below.refl _ _) rfl
      clear hc hl
      go_simp
    · intro listed a w1 hl hc
      have h49 : a.tmps[49]?.getD undef = .agg #[.int .u32 (fcum : Int), .slice As ns cs] := hc.dep hl 7 49 rfl (by kernel_rfl)
      refine does_call rfl rfl 34 #[.agg #[.int .u32 (fcum : Int), .slice As ns cs]] ?_ ((HPF.out w1 (B1.out.trans (hc.g.mono B1.out.size))).mono fun e w' ⟨A9, c9, he, ho, hb⟩ => ⟨_, he, hb, A9, c9, rfl, ho.more (Nat.le_trans B1.out.size hc.g.size)⟩)
      clear hc hl
      go_simp
    · intro listed a w1 hl hc
      have h3 : a.tmps[3]?.getD undef = .pointer (some ⟨w.heap.size, 0, none⟩) := (hc.was 3 (by kernel_rfl)).trans rfl
      refine does_value rfl rfl (.pointer (some ⟨w.heap.size, 20, none⟩)) w1 ?_ (Below.refl _ _) rfl
      clear hc hl
      go_simp
    · intro listed a w1 hl hc
      have h51 : a.tmps[51]?.getD undef = .pointer (some ⟨w.heap.size, 20, none⟩) := hc.dep hl 9 51 rfl (by kernel_rfl)
      have kb := P1.out.below hc.g P1.out.lt
      have x20 : w1.cell? ⟨w.heap.size, 20, none⟩ = some (.int .i64 t) := kb.cell 20
      clear kb
      refine does_value rfl rfl (.int .i64 t) w1 ?_ (Below.refl _ _) rfl
      clear hc hl
      go_simp
    · intro listed a w1 hl hc
      have h52 : a.tmps[52]?.getD undef = .int .i64 t := hc.dep hl 10 52 rfl (by kernel_rfl)
      refine does_call rfl rfl 43 #[.int .u8 4, .int .i64 t] ?_ ((HPT.out w1).mono fun e w' ⟨A9, c9, he, ho, hb⟩ => ⟨_, he, hb, A9, c9, rfl, ho.more (Nat.le_trans B1.out.size hc.g.size)⟩)
      clear hc hl
      go_simp
    · intro listed a w1 hl hc
      have h3 : a.tmps[3]?.getD undef = .pointer (some ⟨w.heap.size, 0, none⟩) := (hc.was 3 (by kernel_rfl)).trans rfl
      refine does_value rfl rfl (.pointer (some ⟨w.heap.size, 21, none⟩)) w1 ?_ (Below.refl _ _) rfl
      clear hc hl
      go_simp
    · intro listed a w1 hl hc
      have h54 : a.tmps[54]?.getD undef = .pointer (some ⟨w.heap.size, 21, none⟩) := hc.dep hl 12 54 rfl (by kernel_rfl)
      have kb := P1.out.below hc.g P1.out.lt
      have x21 : w1.cell? ⟨w.heap.size, 21, none⟩ = some (.int .u32 (cum2 : Int)) := kb.cell 21
      clear kb
      refine does_value rfl rfl (.int .u32 (cum2 : Int)) w1 ?_ (Below.refl _ _) rfl
      clear hc hl
      go_simp
    · intro listed a w1 hl hc
      have h55 : a.tmps[55]?.getD undef = .int .u32 (cum2 : Int) := hc.dep hl 13 55 rfl (by kernel_rfl)
      refine does_call rfl rfl 45 #[.int .u32 (cum2 : Int)] ?_ ((HPC.out w1).mono fun e w' ⟨A9, c9, he, ho, hb⟩ => ⟨_, he, hb, A9, c9, rfl, ho.more (Nat.le_trans B1.out.size hc.g.size)⟩)
      clear hc hl
      go_simp
  intro w2 hb
  rintro _ rfl _ rfl _ ⟨A44, c44, rfl, ho44⟩ _ rfl _ rfl _ ⟨A47, c47, rfl, ho47⟩ _ rfl _ rfl _ ⟨A50, c50, rfl, ho50⟩ _ rfl _ rfl _ ⟨A53, c53, rfl, ho53⟩ _ rfl _ rfl _ ⟨A56, c56, rfl, ho56⟩
  simp only [Thus, List.reverse_cons, List.reverse_nil, List.nil_append, List.cons_append, List.drop, List.take, lay]
  go_frame
  have P2 := Lib.hid (P1.out.below hb P1.out.lt)
  have B2 := Lib.hid (below_then B1.out (Nat.le_refl _) hb)
  clear hb P1 B1
  have O0_2 := Lib.hid ho44
  have O1_2 := Lib.hid ho47
  have O2_2 := Lib.hid ho50
  have O3_2 := Lib.hid ho53
  have O4_2 := Lib.hid ho56
  clear ho44 ho47 ho50 ho53 ho56
  have hlc := P2.out.lt
  have hb := below_new w2 (.cells #[.int .u8 2, .int .u8 0, .slice A44 YI.length c44, .int .u8 3, .int .u8 0, .slice A47 YS.length c47, .int .u8 192, .int .u8 0, .slice A50 YF.length c50, .int .u8 4, .int .u8 0, .slice A53 YT.length c53, .int .u8 7, .int .u8 0, .slice A56 YC.length c56] 28)
  have P3 := Lib.hid (P2.out.below hb P2.out.lt)
  have B3 := Lib.hid (below_then B2.out (Nat.le_refl _) hb)
  have O0_3 := Lib.hid (O0_2.out.below hb (Nat.le_refl _))
  have O1_3 := Lib.hid (O1_2.out.below hb (Nat.le_refl _))
  have O2_3 := Lib.hid (O2_2.out.below hb (Nat.le_refl _))
  have O3_3 := Lib.hid (O3_2.out.below hb (Nat.le_refl _))
  have O4_3 := Lib.hid (O4_2.out.below hb (Nat.le_refl _))
  clear hb P2 B2 O0_2 O1_2 O2_2 O3_2 O4_2
  have L3 := Lib.hid (Blk.new w2 28 #[.int .u8 2, .int .u8 0, .slice A44 YI.length c44, .int .u8 3, .int .u8 0, .slice A47 YS.length c47, .int .u8 192, .int .u8 0, .slice A50 YF.length c50, .int .u8 4, .int .u8 0, .slice A53 YT.length c53, .int .u8 7, .int .u8 0, .slice A56 YC.length c56])
  obtain ⟨gl, hgl⟩ : ∃ g, g = w2.heap.size := ⟨_, rfl⟩
  rw [← hgl] at L3
  have Hgl := Lib.hid hgl
  have hlgl : w.heap.size < gl := by omega
  clear hlc
  clear hgl
  go_wp2_with fail
  rw [← Hgl.out]
  generalize w2.alloc (.cells #[.int .u8 2, .int .u8 0, .slice A44 YI.length c44, .int .u8 3, .int .u8 0, .slice A47 YS.length c47, .int .u8 192, .int .u8 0, .slice A50 YF.length c50, .int .u8 4, .int .u8 0, .slice A53 YT.length c53, .int .u8 7, .int .u8 0, .slice A56 YC.length c56] 28) = v3 at P3 B3 O0_3 O1_3 O2_3 O3_3 O4_3 L3 ⊢
  clear Hgl
  go_loopw [8] (fun i wr => ∃ k2 : Nat, k2 ≤ 5 ∧ i = .int .i64 (k2 : Int) ∧ Blk wr w.heap.size 77 #[.bool ack, .int .u32 (tsn : Int), .int .u16 (stream : Int), .int .u16 (ssn : Int), .bool un, .bool fi, .bool la, .slice Ad nd cd, .int .u32 (tag : Int), .int .u32 (rwnd : Int), .int .u16 (out : Int), .int .u16 (in_ : Int), .int .u32 (tsn2 : Int), .slice Ai ni ci, .int .u32 (cum : Int), .int .u32 (rwnd2 : Int), .slice Ag ng cg, .slice Au nu cu, .int .u32 (fcum : Int), .slice As ns cs, .int .i64 t, .int .u32 (cum2 : Int)] ∧ Blk wr gl 28 #[.int .u8 2, .int .u8 0, .slice A44 YI.length c44, .int .u8 3, .int .u8 0, .slice A47 YS.length c47, .int .u8 192, .int .u8 0, .slice A50 YF.length c50, .int .u8 4, .int .u8 0, .slice A53 YT.length c53, .int .u8 7, .int .u8 0, .slice A56 YC.length c56] ∧ Own8 wr 5 w.heap.size A44 YI.length c44 YI ∧ Own8 wr 5 w.heap.size A47 YS.length c47 YS ∧ Own8 wr 5 w.heap.size A50 YF.length c50 YF ∧ Own8 wr 5 w.heap.size A53 YT.length c53 YT ∧ Own8 wr 5 w.heap.size A56 YC.length c56 YC ∧ Below w.heap.size w wr) (fun i _ => 5 - (intOf i).toNat)
  case atStart => exact ⟨0, by omega, rfl, P3.out, L3.out, O0_3.out, O1_3.out, O2_3.out, O3_3.out, O4_3.out, B3.out⟩
  case round =>
    as_aux_lemma =>
      clear P3 B3 O0_3 O1_3 O2_3 O3_3 O4_3 L3
      obtain ⟨k2, hk2, rfl, hP, hL, hO0, hO1, hO2, hO3, hO4, hB⟩ := hrel
      have P4 := Lib.hid hP
      have L4 := Lib.hid hL
      have O0_4 := Lib.hid hO0
      have O1_4 := Lib.hid hO1
      have O2_4 := Lib.hid hO2
      have O3_4 := Lib.hid hO3
      have O4_4 := Lib.hid hO4
      have B4 := Lib.hid hB
      clear hP hL hO0 hO1 hO2 hO3 hO4 hB
      by_cases hlt : k2 < 5
      · have HQ : ∃ (kq : UInt8) (Yq : List UInt8) (Aq : Option Addr) (Lq cq : Nat), wr.cell? ⟨gl, k2 * 3, none⟩ = some (.int .u8 (kq.toNat : Int)) ∧ wr.cell? ⟨gl, k2 * 3 + 1, none⟩ = some (.int .u8 0) ∧ wr.cell? ⟨gl, k2 * 3 + 2, none⟩ = some (.slice Aq Lq cq) ∧ Own8 wr 5 w.heap.size Aq Lq cq Yq ∧ CutFine kq Yq := by
          rcases (show k2 = 0 ∨ k2 = 1 ∨ k2 = 2 ∨ k2 = 3 ∨ k2 = 4 by omega) with rfl | rfl | rfl | rfl | rfl
          · exact ⟨2, YI, A44, YI.length, c44, L4.out.cell 0, L4.out.cell 1, L4.out.cell 2, O0_4.out, HF0.out⟩
          · exact ⟨3, YS, A47, YS.length, c47, L4.out.cell 3, L4.out.cell 4, L4.out.cell 5, O1_4.out, HF1.out⟩
          · exact ⟨192, YF, A50, YF.length, c50, L4.out.cell 6, L4.out.cell 7, L4.out.cell 8, O2_4.out, HF2.out⟩
          · exact ⟨4, YT, A53, YT.length, c53, L4.out.cell 9, L4.out.cell 10, L4.out.cell 11, O3_4.out, HF3.out⟩
          · exact ⟨7, YC, A56, YC.length, c56, L4.out.cell 12, L4.out.cell 13, L4.out.cell 14, O4_4.out, HF4.out⟩
        obtain ⟨kq, Yq, Aq, Lq, cq, hc0, hc1, hc2, hoq, hfine⟩ := HQ
        have N4 := Lib.hid hoq
        have hYL := hoq.len
        have HFN := Lib.hid hfine
        have hLq : Lq ≤ 131072 := by have := hfine.size; omega
        obtain ⟨cv, hcv⟩ : ∃ v, v = cntG kq 0 Yq := ⟨_, rfl⟩
        have hc01 : cv = 0 ∨ cv = 1 := by rw [hcv]; exact (cnt_known kq 0 Yq).imp id And.left
        obtain ⟨kk, hkk0⟩ : ∃ kk : Nat, kk = cutn % (Lq + 1) := ⟨_, rfl⟩
        have hkl : kk ≤ Lq := by have := Nat.mod_lt cutn (show 0 < Lq + 1 by omega); omega
        have hkk : (cutn : Int) % ((Lq : Int) + 1) = (kk : Int) := by rw [hkk0]; simp
        clear hkk0
        have HN1 : Hid (cntG kq 0 (Yq.take Lq) = cv) := Lib.hid (by rw [List.take_of_length_le (by omega)]; exact hcv.symm)
        obtain ⟨mv, hmv⟩ : ∃ v, v = cntG kq 0 (Yq.take kk) := ⟨_, rfl⟩
        have HM1 : Hid (mv = if wholeB kq kk Lq then cv else 0) := Lib.hid (by rw [hmv, hcv, HFN.out.cut kk (by omega), hYL])
        have HN2 : Hid (cntG kq 0 (Yq.take kk) = mv) := Lib.hid hmv.symm
        have HN3 : Hid (cntG kq fl (Yq.take Lq) = 0) := Lib.hid (by rw [List.take_of_length_le (by omega)]; exact HFN.out.flags fl HFL.out)
        clear hoq hfine hYL hcv hmv
        have hlc := P4.out.lt
        have hb := below_new wr (.cells #[.int .u8 (kq.toNat : Int), .int .u8 0, .slice Aq Lq cq] 28)
        have P5 := Lib.hid (P4.out.below hb P4.out.lt)
        have B5 := Lib.hid (below_then B4.out (Nat.le_refl _) hb)
        have O0_5 := Lib.hid (O0_4.out.below hb (Nat.le_refl _))
        have O1_5 := Lib.hid (O1_4.out.below hb (Nat.le_refl _))
        have O2_5 := Lib.hid (O2_4.out.below hb (Nat.le_refl _))
        have O3_5 := Lib.hid (O3_4.out.below hb (Nat.le_refl _))
        have O4_5 := Lib.hid (O4_4.out.below hb (Nat.le_refl _))
        have L5 := Lib.hid (L4.out.below hb L4.out.lt)
        have N5 := Lib.hid (N4.out.below hb (Nat.le_refl _))
        clear hb P4 B4 O0_4 O1_4 O2_4 O3_4 O4_4 L4 N4
        have G5 := Lib.hid (Blk.new wr 28 #[.int .u8 (kq.toNat : Int), .int .u8 0, .slice Aq Lq cq])
        obtain ⟨g9, hg9⟩ : ∃ g, g = wr.heap.size := ⟨_, rfl⟩
        rw [← hg9] at G5
        have Hg9 := Lib.hid hg9
        have hlg9 : w.heap.size < g9 := by omega
        clear hlc
        clear hg9
        go_wp2_with fail
        rw [← Hg9.out]
        generalize wr.alloc (.cells #[.int .u8 (kq.toNat : Int), .int .u8 0, .slice Aq Lq cq] 28) = v5 at P5 B5 O0_5 O1_5 O2_5 O3_5 O4_5 L5 N5 G5 ⊢
        clear Hg9
        clear hc0 hc1 hc2
        refine (HGT.out v5 kq 0 Aq Lq cq _ Yq Lq cv N5.out hLq (Nat.le_refl _) HN1.out).mono ?_
        rintro e w6 ⟨rfl, hb⟩
        have P6 := Lib.hid (P5.out.below hb P5.out.lt)
        have B6 := Lib.hid (below_then B5.out (Nat.le_refl _) hb)
        have O0_6 := Lib.hid (O0_5.out.below hb (Nat.le_refl _))
        have O1_6 := Lib.hid (O1_5.out.below hb (Nat.le_refl _))
        have O2_6 := Lib.hid (O2_5.out.below hb (Nat.le_refl _))
        have O3_6 := Lib.hid (O3_5.out.below hb (Nat.le_refl _))
        have O4_6 := Lib.hid (O4_5.out.below hb (Nat.le_refl _))
        have L6 := Lib.hid (L5.out.below hb L5.out.lt)
        have N6 := Lib.hid (N5.out.below hb (Nat.le_refl _))
        have G6 := Lib.hid (G5.out.below hb G5.out.lt)
        clear hb P5 B5 O0_5 O1_5 O2_5 O3_5 O4_5 L5 N5 G5
        have y0 : w6.cell? ⟨g9, 0, none⟩ = some (.int .u8 (kq.toNat : Int)) := G6.out.cell 0
        have y1 : w6.cell? ⟨g9, 1, none⟩ = some (.int .u8 0) := G6.out.cell 1
        have y2 : w6.cell? ⟨g9, 2, none⟩ = some (.slice Aq Lq cq) := G6.out.cell 2
        go_wp2_with fail
        clear y0 y1 y2
        generalize w6 = u2 at P6 B6 O0_6 O1_6 O2_6 O3_6 O4_6 L6 N6 G6 ⊢
        rw [hkk]
        rw [← drawn_eq 10]
        have HCS := Lib.hid N6.out.cap
        have hkc : kk ≤ cq := Nat.le_trans hkl HCS.out.1
        refine wp_region_grow_tail 12 (by kernel_rfl) [(Is (.pointer (some ⟨g9, 0, none⟩))), (Is (.int .u8 (kq.toNat : Int))), (Is (.pointer (some ⟨g9, 2, none⟩))), (Is (.slice Aq Lq cq)), (Is (.int .i64 (kk : Int))), (Is (.slice Aq kk cq)), (Is (.agg #[.int .u8 (kq.toNat : Int), .int .u8 0, .slice Aq kk cq])), (Is (.tuple #[.int .i64 mv, .bool true])), (Is (.tuple #[.int .i64 mv, .bool true])), (Is (.int .i64 mv)), (Is (.bool true)), (Is (.int .i64 mv))] rfl ?_ (by kernel_rfl) (by kernel_rfl) ?_ ?_
        · intro p hp
          simp only [List.mem_cons, List.not_mem_nil, or_false] at hp
          rcases hp with rfl | rfl | rfl | rfl | rfl | rfl | rfl | rfl | rfl | rfl | rfl | rfl
          · exact Lasts.is _
          · exact Lasts.is _
          · exact Lasts.is _
          · exact Lasts.is _
          · exact Lasts.is _
          · exact Lasts.is _
          · exact Lasts.is _
          · exact Lasts.is _
          · exact Lasts.is _
          · exact Lasts.is _
          · exact Lasts.is _
          · exact Lasts.is _
        · refine ⟨?_, ?_, ?_, ?_, ?_, ?_, ?_, ?_, ?_, ?_, ?_, ?_, trivial⟩
          · intro listed a w1 hl hc
            have h9 : a.tmps[9]?.getD undef = .pointer (some ⟨g9, 0, none⟩) := (hc.was 9 (by kernel_rfl)).trans rfl
            refine does_value rfl rfl (.pointer (some ⟨g9, 0, none⟩)) w1 ?_ (Below.refl _ _) rfl
            clear hc hl
            go_simp
          · intro listed a w1 hl hc
            have h81 : a.tmps[81]?.getD undef = .pointer (some ⟨g9, 0, none⟩) := hc.dep hl 0 81 rfl (by kernel_rfl)
            have kb := G6.out.below hc.g G6.out.lt
            have x0 : w1.cell? ⟨g9, 0, none⟩ = some (.int .u8 (kq.toNat : Int)) := kb.cell 0
            clear kb
            refine does_value rfl rfl (.int .u8 (kq.toNat : Int)) w1 ?_ (Below.refl _ _) rfl
            clear hc hl
            go_simp
          · intro listed a w1 hl hc
            have h9 : a.tmps[9]?.getD undef = .pointer (some ⟨g9, 0, none⟩) := (hc.was 9 (by kernel_rfl)).trans rfl
            refine does_value rfl rfl (.pointer (some ⟨g9, 2, none⟩)) w1 ?_ (Below.refl _ _) rfl
            clear hc hl
            go_simp
          · intro listed a w1 hl hc
            have h83 : a.tmps[83]?.getD undef = .pointer (some ⟨g9, 2, none⟩) := hc.dep hl 2 83 rfl (by kernel_rfl)
            have kb := G6.out.below hc.g G6.out.lt
            have x2 : w1.cell? ⟨g9, 2, none⟩ = some (.slice Aq Lq cq) := kb.cell 2
            clear kb
            refine does_value rfl rfl (.slice Aq Lq cq) w1 ?_ (Below.refl _ _) rfl
            clear hc hl
            go_simp
          · intro listed a w1 hl hc
            have h12 : a.tmps[12]?.getD undef = .int .i64 (kk : Int) := (hc.was 12 (by kernel_rfl)).trans rfl
            refine does_value rfl rfl (.int .i64 (kk : Int)) w1 ?_ (Below.refl _ _) rfl
            clear hc hl
            go_simp
          · intro listed a w1 hl hc
            have h84 : a.tmps[84]?.getD undef = .slice Aq Lq cq := hc.dep hl 3 84 rfl (by kernel_rfl)
            have h85 : a.tmps[85]?.getD undef = .int .i64 (kk : Int) := hc.dep hl 4 85 rfl (by kernel_rfl)
            refine does_value rfl rfl (.slice Aq kk cq) w1 ?_ (Below.refl _ _) rfl
            clear hc hl
            go_simp
          · intro listed a w1 hl hc
            have h82 : a.tmps[82]?.getD undef = .int .u8 (kq.toNat : Int) := hc.dep hl 1 82 rfl (by kernel_rfl)
            have h86 : a.tmps[86]?.getD undef = .slice Aq kk cq := hc.dep hl 5 86 rfl (by kernel_rfl)
            refine does_value rfl rfl (.agg #[.int .u8 (kq.toNat : Int), .int .u8 0, .slice Aq kk cq]) w1 ?_ (Below.refl _ _) rfl
            clear hc hl
            go_simp
          · intro listed a w1 hl hc
            have h87 : a.tmps[87]?.getD undef = .agg #[.int .u8 (kq.toNat : Int), .int .u8 0, .slice Aq kk cq] := hc.dep hl 6 87 rfl (by kernel_rfl)
            refine does_call rfl rfl 47 #[.agg #[.int .u8 (kq.toNat : Int), .int .u8 0, .slice Aq kk cq]] ?_ ((HGT.out w1 kq 0 Aq Lq cq _ Yq kk mv (N6.out.below hc.g (Nat.le_refl _)) hLq hkl HN2.out).mono fun e w' ⟨he, hb⟩ => ⟨_, he, hb, rfl⟩)
            clear hc hl
            go_simp
          · intro listed a w1 hl hc
            have h88 : a.tmps[88]?.getD undef = .tuple #[.int .i64 mv, .bool true] := hc.dep hl 7 88 rfl (by kernel_rfl)
            refine does_value rfl rfl (.tuple #[.int .i64 mv, .bool true]) w1 ?_ (Below.refl _ _) rfl
            clear hc hl
            go_simp
          · intro listed a w1 hl hc
            have h80 : a.tmps[80]?.getD undef = .tuple #[.int .i64 mv, .bool true] := hc.dep hl 8 80 rfl (by kernel_rfl)
            refine does_value rfl rfl (.int .i64 mv) w1 ?_ (Below.refl _ _) rfl
            clear hc hl
            go_simp
          · intro listed a w1 hl hc
            have h80 : a.tmps[80]?.getD undef = .tuple #[.int .i64 mv, .bool true] := hc.dep hl 8 80 rfl (by kernel_rfl)
            refine does_value rfl rfl (.bool true) w1 ?_ (Below.refl _ _) rfl
            clear hc hl
            go_simp
          · intro listed a w1 hl hc
            have h89 : a.tmps[89]?.getD undef = .int .i64 mv := hc.dep hl 9 89 rfl (by kernel_rfl)
            refine does_value rfl rfl (.int .i64 mv) w1 ?_ (Below.refl _ _) rfl
            clear hc hl
            go_simp
        intro w2 hb
        rintro _ rfl _ rfl _ rfl _ rfl _ rfl _ rfl _ rfl _ rfl _ rfl _ rfl _ rfl _ rfl
        simp only [Thus, List.reverse_cons, List.reverse_nil, List.nil_append, List.cons_append, List.drop, List.take, lay]
        go_frame
        have P7 := Lib.hid (P6.out.below hb P6.out.lt)
        have B7 := Lib.hid (below_then B6.out (Nat.le_refl _) hb)
        have O0_7 := Lib.hid (O0_6.out.below hb (Nat.le_refl _))
        have O1_7 := Lib.hid (O1_6.out.below hb (Nat.le_refl _))
        have O2_7 := Lib.hid (O2_6.out.below hb (Nat.le_refl _))
        have O3_7 := Lib.hid (O3_6.out.below hb (Nat.le_refl _))
        have O4_7 := Lib.hid (O4_6.out.below hb (Nat.le_refl _))
        have L7 := Lib.hid (L6.out.below hb L6.out.lt)
        have N7 := Lib.hid (N6.out.below hb (Nat.le_refl _))
        have G7 := Lib.hid (G6.out.below hb G6.out.lt)
        clear hb P6 B6 O0_6 O1_6 O2_6 O3_6 O4_6 L6 N6 G6
        generalize w2 = u3 at P7 B7 O0_7 O1_7 O2_7 O3_7 O4_7 L7 N7 G7 ⊢
        by_cases h192 : kq = 192
        · have hb192 : ((kq.toNat : Int) == 192) = true := by rw [h192]; rfl
          by_cases h4 : 4 ≤ kk
          · by_cases h0 : kk % 4 = 0
            · have hm : mv = cv := by rw [HM1.out, show wholeB kq kk Lq = true by unfold wholeB; rw [if_pos h192]; exact decide_eq_true ⟨h4, h0⟩]; rfl
              subst hm
              rcases hc01 with rfl | rfl
              · as_aux_lemma =>
                  clear HM1
                  have d4 : decide ((4 : Int) ≤ (kk : Int)) = true := decide_eq_true (by omega)
                  have e0 : ((kk : Int) % 4 == 0) = true := by rw [beq_iff_eq]; omega
                  clear h4 h0 h192
                  have y0 : u3.cell? ⟨g9, 0, none⟩ = some (.int .u8 (kq.toNat : Int)) := G7.out.cell 0
                  have y1 : u3.cell? ⟨g9, 1, none⟩ = some (.int .u8 0) := G7.out.cell 1
                  have y2 : u3.cell? ⟨g9, 2, none⟩ = some (.slice Aq Lq cq) := G7.out.cell 2
                  go_wp2_with fail
                  clear y0 y1 y2
                  refine (HGT.out u3 kq fl Aq Lq cq _ Yq Lq 0 N7.out hLq (Nat.le_refl _) HN3.out).mono ?_
                  rintro e w8 ⟨rfl, hb⟩
                  have P8 := Lib.hid (P7.out.below hb P7.out.lt)
                  have B8 := Lib.hid (below_then B7.out (Nat.le_refl _) hb)
                  have O0_8 := Lib.hid (O0_7.out.below hb (Nat.le_refl _))
                  have O1_8 := Lib.hid (O1_7.out.below hb (Nat.le_refl _))
                  have O2_8 := Lib.hid (O2_7.out.below hb (Nat.le_refl _))
                  have O3_8 := Lib.hid (O3_7.out.below hb (Nat.le_refl _))
                  have O4_8 := Lib.hid (O4_7.out.below hb (Nat.le_refl _))
                  have L8 := Lib.hid (L7.out.below hb L7.out.lt)
                  have N8 := Lib.hid (N7.out.below hb (Nat.le_refl _))
                  have G8 := Lib.hid (G7.out.below hb G7.out.lt)
                  clear hb P7 B7 O0_7 O1_7 O2_7 O3_7 O4_7 L7 N7 G7
                  go_wp2_with fail
                  go_roundw
                  case rel => (repeat apply Exists.intro); exact ⟨⟨k2 + 1, by omega, by go_num, P8.out, L8.out, O0_8.out, O1_8.out, O2_8.out, O3_8.out, O4_8.out, B8.out⟩, rfl⟩
                  case measure => simp [intOf]; omega
              · as_aux_lemma =>
                  clear HM1
                  have d4 : decide ((4 : Int) ≤ (kk : Int)) = true := decide_eq_true (by omega)
                  have e0 : ((kk : Int) % 4 == 0) = true := by rw [beq_iff_eq]; omega
                  clear h4 h0 h192
                  have y0 : u3.cell? ⟨g9, 0, none⟩ = some (.int .u8 (kq.toNat : Int)) := G7.out.cell 0
                  have y1 : u3.cell? ⟨g9, 1, none⟩ = some (.int .u8 0) := G7.out.cell 1
                  have y2 : u3.cell? ⟨g9, 2, none⟩ = some (.slice Aq Lq cq) := G7.out.cell 2
                  go_wp2_with fail
                  clear y0 y1 y2
                  refine (HGT.out u3 kq fl Aq Lq cq _ Yq Lq 0 N7.out hLq (Nat.le_refl _) HN3.out).mono ?_
                  rintro e w8 ⟨rfl, hb⟩
                  have P8 := Lib.hid (P7.out.below hb P7.out.lt)
                  have B8 := Lib.hid (below_then B7.out (Nat.le_refl _) hb)
                  have O0_8 := Lib.hid (O0_7.out.below hb (Nat.le_refl _))
                  have O1_8 := Lib.hid (O1_7.out.below hb (Nat.le_refl _))
                  have O2_8 := Lib.hid (O2_7.out.below hb (Nat.le_refl _))
                  have O3_8 := Lib.hid (O3_7.out.below hb (Nat.le_refl _))
                  have O4_8 := Lib.hid (O4_7.out.below hb (Nat.le_refl _))
                  have L8 := Lib.hid (L7.out.below hb L7.out.lt)
                  have N8 := Lib.hid (N7.out.below hb (Nat.le_refl _))
                  have G8 := Lib.hid (G7.out.below hb G7.out.lt)
                  clear hb P7 B7 O0_7 O1_7 O2_7 O3_7 O4_7 L7 N7 G7
                  go_wp2_with fail
                  go_roundw
                  case rel => (repeat apply Exists.intro); exact ⟨⟨k2 + 1, by omega, by go_num, P8.out, L8.out, O0_8.out, O1_8.out, O2_8.out, O3_8.out, O4_8.out, B8.out⟩, rfl⟩
                  case measure => simp [intOf]; omega
            · have hm : mv = 0 := by rw [HM1.out, show wholeB kq kk Lq = false by unfold wholeB; rw [if_pos h192]; exact decide_eq_false (fun h => h0 h.2)]; rfl
              subst hm
              as_aux_lemma =>
                clear HM1 hc01
                have d4 : decide ((4 : Int) ≤ (kk : Int)) = true := decide_eq_true (by omega)
                have e0 : ((kk : Int) % 4 == 0) = false := by rw [beq_eq_false_iff_ne]; omega
                clear h4 h0 h192
                have y0 : u3.cell? ⟨g9, 0, none⟩ = some (.int .u8 (kq.toNat : Int)) := G7.out.cell 0
                have y1 : u3.cell? ⟨g9, 1, none⟩ = some (.int .u8 0) := G7.out.cell 1
                have y2 : u3.cell? ⟨g9, 2, none⟩ = some (.slice Aq Lq cq) := G7.out.cell 2
                go_wp2_with fail
                clear y0 y1 y2
                refine (HGT.out u3 kq fl Aq Lq cq _ Yq Lq 0 N7.out hLq (Nat.le_refl _) HN3.out).mono ?_
                rintro e w8 ⟨rfl, hb⟩
                have P8 := Lib.hid (P7.out.below hb P7.out.lt)
                have B8 := Lib.hid (below_then B7.out (Nat.le_refl _) hb)
                have O0_8 := Lib.hid (O0_7.out.below hb (Nat.le_refl _))
                have O1_8 := Lib.hid (O1_7.out.below hb (Nat.le_refl _))
                have O2_8 := Lib.hid (O2_7.out.below hb (Nat.le_refl _))
                have O3_8 := Lib.hid (O3_7.out.below hb (Nat.le_refl _))
                have O4_8 := Lib.hid (O4_7.out.below hb (Nat.le_refl _))
                have L8 := Lib.hid (L7.out.below hb L7.out.lt)
                have N8 := Lib.hid (N7.out.below hb (Nat.le_refl _))
                have G8 := Lib.hid (G7.out.below hb G7.out.lt)
                clear hb P7 B7 O0_7 O1_7 O2_7 O3_7 O4_7 L7 N7 G7
                go_wp2_with fail
                go_roundw
                case rel => (repeat apply Exists.intro); exact ⟨⟨k2 + 1, by omega, by go_num, P8.out, L8.out, O0_8.out, O1_8.out, O2_8.out, O3_8.out, O4_8.out, B8.out⟩, rfl⟩
                case measure => simp [intOf]; omega
          · have hm : mv = 0 := by rw [HM1.out, show wholeB kq kk Lq = false by unfold wholeB; rw [if_pos h192]; exact decide_eq_false (fun h => h4 h.1)]; rfl
            subst hm
            as_aux_lemma =>
              clear HM1 hc01
              have d4 : decide ((4 : Int) ≤ (kk : Int)) = false := decide_eq_false (by omega)
              clear h4 h192
              have y0 : u3.cell? ⟨g9, 0, none⟩ = some (.int .u8 (kq.toNat : Int)) := G7.out.cell 0
              have y1 : u3.cell? ⟨g9, 1, none⟩ = some (.int .u8 0) := G7.out.cell 1
              have y2 : u3.cell? ⟨g9, 2, none⟩ = some (.slice Aq Lq cq) := G7.out.cell 2
              go_wp2_with fail
              clear y0 y1 y2
              refine (HGT.out u3 kq fl Aq Lq cq _ Yq Lq 0 N7.out hLq (Nat.le_refl _) HN3.out).mono ?_
              rintro e w8 ⟨rfl, hb⟩
              have P8 := Lib.hid (P7.out.below hb P7.out.lt)
              have B8 := Lib.hid (below_then B7.out (Nat.le_refl _) hb)
              have O0_8 := Lib.hid (O0_7.out.below hb (Nat.le_refl _))
              have O1_8 := Lib.hid (O1_7.out.below hb (Nat.le_refl _))
              have O2_8 := Lib.hid (O2_7.out.below hb (Nat.le_refl _))
              have O3_8 := Lib.hid (O3_7.out.below hb (Nat.le_refl _))
              have O4_8 := Lib.hid (O4_7.out.below hb (Nat.le_refl _))
              have L8 := Lib.hid (L7.out.below hb L7.out.lt)
              have N8 := Lib.hid (N7.out.below hb (Nat.le_refl _))
              have G8 := Lib.hid (G7.out.below hb G7.out.lt)
              clear hb P7 B7 O0_7 O1_7 O2_7 O3_7 O4_7 L7 N7 G7
              go_wp2_with fail
              go_roundw
              case rel => (repeat apply Exists.intro); exact ⟨⟨k2 + 1, by omega, by go_num, P8.out, L8.out, O0_8.out, O1_8.out, O2_8.out, O3_8.out, O4_8.out, B8.out⟩, rfl⟩
              case measure => simp [intOf]; omega
        · have hb192 : ((kq.toNat : Int) == 192) = false := kind_ne (m := 192) h192
          by_cases hw : kk = Lq
          · have hm : mv = cv := by rw [HM1.out, show wholeB kq kk Lq = true by unfold wholeB; rw [if_neg h192]; exact decide_eq_true hw]; rfl
            subst hm
            rcases hc01 with rfl | rfl
            · as_aux_lemma =>
                clear HM1
                have ew : ((kk : Int) == (Lq : Int)) = true := int_eq hw
                clear hw
                have y0 : u3.cell? ⟨g9, 0, none⟩ = some (.int .u8 (kq.toNat : Int)) := G7.out.cell 0
                have y1 : u3.cell? ⟨g9, 1, none⟩ = some (.int .u8 0) := G7.out.cell 1
                have y2 : u3.cell? ⟨g9, 2, none⟩ = some (.slice Aq Lq cq) := G7.out.cell 2
                go_wp2_with fail
                clear y0 y1 y2
                refine (HGT.out u3 kq fl Aq Lq cq _ Yq Lq 0 N7.out hLq (Nat.le_refl _) HN3.out).mono ?_
                rintro e w8 ⟨rfl, hb⟩
                have P8 := Lib.hid (P7.out.below hb P7.out.lt)
                have B8 := Lib.hid (below_then B7.out (Nat.le_refl _) hb)
                have O0_8 := Lib.hid (O0_7.out.below hb (Nat.le_refl _))
                have O1_8 := Lib.hid (O1_7.out.below hb (Nat.le_refl _))
                have O2_8 := Lib.hid (O2_7.out.below hb (Nat.le_refl _))
                have O3_8 := Lib.hid (O3_7.out.below hb (Nat.le_refl _))
                have O4_8 := Lib.hid (O4_7.out.below hb (Nat.le_refl _))
                have L8 := Lib.hid (L7.out.below hb L7.out.lt)
                have N8 := Lib.hid (N7.out.below hb (Nat.le_refl _))
                have G8 := Lib.hid (G7.out.below hb G7.out.lt)
                clear hb P7 B7 O0_7 O1_7 O2_7 O3_7 O4_7 L7 N7 G7
                go_wp2_with fail
                go_roundw
                case rel => (repeat apply Exists.intro); exact ⟨⟨k2 + 1, by omega, by go_num, P8.out, L8.out, O0_8.out, O1_8.out, O2_8.out, O3_8.out, O4_8.out, B8.out⟩, rfl⟩
                case measure => simp [intOf]; omega
            · as_aux_lemma =>
                clear HM1
                have ew : ((kk : Int) == (Lq : Int)) = true := int_eq hw
                clear hw
                have y0 : u3.cell? ⟨g9, 0, none⟩ = some (.int .u8 (kq.toNat : Int)) := G7.out.cell 0
                have y1 : u3.cell? ⟨g9, 1, none⟩ = some (.int .u8 0) := G7.out.cell 1
                have y2 : u3.cell? ⟨g9, 2, none⟩ = some (.slice Aq Lq cq) := G7.out.cell 2
                go_wp2_with fail
                clear y0 y1 y2
                refine (HGT.out u3 kq fl Aq Lq cq _ Yq Lq 0 N7.out hLq (Nat.le_refl _) HN3.out).mono ?_
                rintro e w8 ⟨rfl, hb⟩
                have P8 := Lib.hid (P7.out.below hb P7.out.lt)
                have B8 := Lib.hid (below_then B7.out (Nat.le_refl _) hb)
                have O0_8 := Lib.hid (O0_7.out.below hb (Nat.le_refl _))
                have O1_8 := Lib.hid (O1_7.out.below hb (Nat.le_refl _))
                have O2_8 := Lib.hid (O2_7.out.below hb (Nat.le_refl _))
                have O3_8 := Lib.hid (O3_7.out.below hb (Nat.le_refl _))
                have O4_8 := Lib.hid (O4_7.out.below hb (Nat.le_refl _))
                have L8 := Lib.hid (L7.out.below hb L7.out.lt)
                have N8 := Lib.hid (N7.out.below hb (Nat.le_refl _))
                have G8 := Lib.hid (G7.out.below hb G7.out.lt)
                clear hb P7 B7 O0_7 O1_7 O2_7 O3_7 O4_7 L7 N7 G7
                go_wp2_with fail
                go_roundw
                case rel => (repeat apply Exists.intro); exact ⟨⟨k2 + 1, by omega, by go_num, P8.out, L8.out, O0_8.out, O1_8.out, O2_8.out, O3_8.out, O4_8.out, B8.out⟩, rfl⟩
                case measure => simp [intOf]; omega
          · have hm : mv = 0 := by rw [HM1.out, show wholeB kq kk Lq = false by unfold wholeB; rw [if_neg h192]; exact decide_eq_false hw]; rfl
            subst hm
            as_aux_lemma =>
              clear HM1 hc01
              have ew : ((kk : Int) == (Lq : Int)) = false := int_ne hw
              clear hw
              have y0 : u3.cell? ⟨g9, 0, none⟩ = some (.int .u8 (kq.toNat : Int)) := G7.out.cell 0
              have y1 : u3.cell? ⟨g9, 1, none⟩ = some (.int .u8 0) := G7.out.cell 1
              have y2 : u3.cell? ⟨g9, 2, none⟩ = some (.slice Aq Lq cq) := G7.out.cell 2
              go_wp2_with fail
              clear y0 y1 y2
              refine (HGT.out u3 kq fl Aq Lq cq _ Yq Lq 0 N7.out hLq (Nat.le_refl _) HN3.out).mono ?_
              rintro e w8 ⟨rfl, hb⟩
              have P8 := Lib.hid (P7.out.below hb P7.out.lt)
              have B8 := Lib.hid (below_then B7.out (Nat.le_refl _) hb)
              have O0_8 := Lib.hid (O0_7.out.below hb (Nat.le_refl _))
              have O1_8 := Lib.hid (O1_7.out.below hb (Nat.le_refl _))
              have O2_8 := Lib.hid (O2_7.out.below hb (Nat.le_refl _))
              have O3_8 := Lib.hid (O3_7.out.below hb (Nat.le_refl _))
              have O4_8 := Lib.hid (O4_7.out.below hb (Nat.le_refl _))
              have L8 := Lib.hid (L7.out.below hb L7.out.lt)
              have N8 := Lib.hid (N7.out.below hb (Nat.le_refl _))
              have G8 := Lib.hid (G7.out.below hb G7.out.lt)
              clear hb P7 B7 O0_7 O1_7 O2_7 O3_7 O4_7 L7 N7 G7
              go_wp2_with fail
              go_roundw
              case rel => (repeat apply Exists.intro); exact ⟨⟨k2 + 1, by omega, by go_num, P8.out, L8.out, O0_8.out, O1_8.out, O2_8.out, O3_8.out, O4_8.out, B8.out⟩, rfl⟩
              case measure => simp [intOf]; omega
      · clear L4 O0_4 O1_4 O2_4 O3_4 O4_4
        have x1 : wr.cell? ⟨w.heap.size, 1, none⟩ = some (.int .u32 (tsn : Int)) := P4.out.cell 1
        have x2 : wr.cell? ⟨w.heap.size, 2, none⟩ = some (.int .u16 (stream : Int)) := P4.out.cell 2
        have x3 : wr.cell? ⟨w.heap.size, 3, none⟩ = some (.int .u16 (ssn : Int)) := P4.out.cell 3
        have x4 : wr.cell? ⟨w.heap.size, 4, none⟩ = some (.bool un) := P4.out.cell 4
        have x5 : wr.cell? ⟨w.heap.size, 5, none⟩ = some (.bool fi) := P4.out.cell 5
        have x6 : wr.cell? ⟨w.heap.size, 6, none⟩ = some (.bool la) := P4.out.cell 6
        have x7 : wr.cell? ⟨w.heap.size, 7, none⟩ = some (.slice Ad nd cd) := P4.out.cell 7
        go_wp2_with fail
        clear x1 x2 x3 x4 x5 x6 x7
        refine (HPD.out wr B4.out).mono ?_
        rintro e w5 ⟨Ap, cp, rfl, ho, hb⟩
        have P5 := Lib.hid (P4.out.below hb P4.out.lt)
        have B5 := Lib.hid (below_then B4.out (Nat.le_refl _) hb)
        clear hb P4 B4
        have N5 := Lib.hid ho
        clear ho
        have hlc := P5.out.lt
        have hb := below_new w5 (.cells #[.int .u8 0, .int .u8 (FL.toNat : Int), .slice Ap YD.length cp] 28)
        have P6 := Lib.hid (P5.out.below hb P5.out.lt)
        have B6 := Lib.hid (below_then B5.out (Nat.le_refl _) hb)
        have N6 := Lib.hid (N5.out.below hb (Nat.le_refl _))
        clear hb P5 B5 N5
        have D6 := Lib.hid (Blk.new w5 28 #[.int .u8 0, .int .u8 (FL.toNat : Int), .slice Ap YD.length cp])
        obtain ⟨g18, hg18⟩ : ∃ g, g = w5.heap.size := ⟨_, rfl⟩
        rw [← hg18] at D6
        have Hg18 := Lib.hid hg18
        have hlg18 : w.heap.size < g18 := by omega
        clear hlc
        clear hg18
        go_wp2_with fail
        rw [← Hg18.out]
        generalize w5.alloc (.cells #[.int .u8 0, .int .u8 (FL.toNat : Int), .slice Ap YD.length cp] 28) = v6 at P6 B6 N6 D6 ⊢
        clear Hg18
        rw [hkd]
        rw [← drawn_eq 21]
        have HCS := Lib.hid N6.out.cap
        have hkc : kd ≤ cp := Nat.le_trans hkdl HCS.out.1
        have HGQ := Lib.hid (fun (W : World) (hW : Ws 26 v6.heap.size v6 W) => HGD.out W Ap cp _ (N6.out.ws hW (by decide)))
        refine wp_region_grow_store 14 13 (by kernel_rfl) [(Is (.pointer (some ⟨g18, 0, none⟩))), (Is (.int .u8 0)), (Is (.int .u8 (fl.toNat : Int))), (Is (.pointer (some ⟨g18, 2, none⟩))), (Is (.slice Ap YD.length cp)), (Is (.int .i64 (kd : Int))), (Is (.slice Ap kd cp)), (Is (.agg #[.int .u8 0, .int .u8 (fl.toNat : Int), .slice Ap kd cp])), (NewAgg 5 0 rb.length rb (fun s => .tuple #[.agg #[.int .u32 (r1 : Int), .int .u16 (r2 : Int), .int .u16 (r3 : Int), .bool r4, .bool r5, .bool r6, s], .int .i64 reD])), (NewAgg 5 0 rb.length rb (fun s => .tuple #[.agg #[.int .u32 (r1 : Int), .int .u16 (r2 : Int), .int .u16 (r3 : Int), .bool r4, .bool r5, .bool r6, s], .int .i64 reD])), (NewAgg 5 0 rb.length rb (fun s => .agg #[.int .u32 (r1 : Int), .int .u16 (r2 : Int), .int .u16 (r3 : Int), .bool r4, .bool r5, .bool r6, s])), (Is (.int .i64 reD)), (NewBlkW v6.heap.size 26 7), Any_] rfl 26 v6.heap.size ?_ (by kernel_rfl) rfl (by kernel_rfl) (by kernel_rfl) ?_ ?_
        · intro p hp
          simp only [List.mem_cons, List.not_mem_nil, or_false] at hp
          rcases hp with rfl | rfl | rfl | rfl | rfl | rfl | rfl | rfl | rfl | rfl | rfl | rfl | rfl | rfl
          · exact LastsS.is _ _ _
          · exact LastsS.is _ _ _
          · exact LastsS.is _ _ _
          · exact LastsS.is _ _ _
          · exact LastsS.is _ _ _
          · exact LastsS.is _ _ _
          · exact LastsS.is _ _ _
          · exact LastsS.is _ _ _
          · exact LastsS.newAgg _ _ _ _ _ _ _ (by decide)
          · exact LastsS.newAgg _ _ _ _ _ _ _ (by decide)
          · exact LastsS.newAgg _ _ _ _ _ _ _ (by decide)
          · exact LastsS.is _ _ _
          · exact LastsS.newBlkW _ _ _ _
          · exact LastsS.any _ _
        · refine ⟨?_, ?_, ?_, ?_, ?_, ?_, ?_, ?_, ?_, ?_, ?_, ?_, ?_, ?_, trivial⟩
          · intro listed a w1 hl hc
            have h18 : a.tmps[18]?.getD undef = .pointer (some ⟨g18, 0, none⟩) := (hc.was 18 (by kernel_rfl)).trans rfl
            refine does_value rfl rfl (.pointer (some ⟨g18, 0, none⟩)) w1 ?_ (Ws.refl _ _ _) rfl
            clear hc hl
            go_simp
          · intro listed a w1 hl hc
            have h156 : a.tmps[156]?.getD undef = .pointer (some ⟨g18, 0, none⟩) := hc.dep hl 0 156 rfl (by kernel_rfl)
            have kb := D6.out.ws_lt hc.g D6.out.lt
            have x0 : w1.cell? ⟨g18, 0, none⟩ = some (.int .u8 0) := kb.cell 0
            clear kb
            refine does_value rfl rfl (.int .u8 0) w1 ?_ (Ws.refl _ _ _) rfl
            clear hc hl
            go_simp
          · intro listed a w1 hl hc
            have h2 : a.tmps[2]?.getD undef = .int .u8 (fl.toNat : Int) := (hc.was 2 (by kernel_rfl)).trans rfl
            refine does_value rfl rfl (.int .u8 (fl.toNat : Int)) w1 ?_ (Ws.refl _ _ _) rfl
            clear hc hl
            go_simp
          · intro listed a w1 hl hc
            have h18 : a.tmps[18]?.getD undef = .pointer (some ⟨g18, 0, none⟩) := (hc.was 18 (by kernel_rfl)).trans rfl
            refine does_value rfl rfl (.pointer (some ⟨g18, 2, none⟩)) w1 ?_ (Ws.refl _ _ _) rfl
            clear hc hl
            go_simp
          · intro listed a w1 hl hc
            have h159 : a.tmps[159]?.getD undef = .pointer (some ⟨g18, 2, none⟩) := hc.dep hl 3 159 rfl (by kernel_rfl)
            have kb := D6.out.ws_lt hc.g D6.out.lt
            have x2 : w1.cell? ⟨g18, 2, none⟩ = some (.slice Ap YD.length cp) := kb.cell 2
            clear kb
            refine does_value rfl rfl (.slice Ap YD.length cp) w1 ?_ (Ws.refl _ _ _) rfl
            clear hc hl
            go_simp
          · intro listed a w1 hl hc
            have h19 : a.tmps[19]?.getD undef = .int .i64 (kd : Int) := (hc.was 19 (by kernel_rfl)).trans rfl
            refine does_value rfl rfl (.int .i64 (kd : Int)) w1 ?_ (Ws.refl _ _ _) rfl
            clear hc hl
            go_simp
          · intro listed a w1 hl hc
            have h160 : a.tmps[160]?.getD undef = .slice Ap YD.length cp := hc.dep hl 4 160 rfl (by kernel_rfl)
            have h161 : a.tmps[161]?.getD undef = .int .i64 (kd : Int) := hc.dep hl 5 161 rfl (by kernel_rfl)
            refine does_value rfl rfl (.slice Ap kd cp) w1 ?_ (Ws.refl _ _ _) rfl
            clear hc hl
            go_simp
          · intro listed a w1 hl hc
            have h157 : a.tmps[157]?.getD undef = .int .u8 0 := hc.dep hl 1 157 rfl (by kernel_rfl)
            have h158 : a.tmps[158]?.getD undef = .int .u8 (fl.toNat : Int) := hc.dep hl 2 158 rfl (by kernel_rfl)
            have h162 : a.tmps[162]?.getD undef = .slice Ap kd cp := hc.dep hl 6 162 rfl (by kernel_rfl)
            refine does_value rfl rfl (.agg #[.int .u8 0, .int .u8 (fl.toNat : Int), .slice Ap kd cp]) w1 ?_ (Ws.refl _ _ _) rfl
            clear hc hl
            go_simp
          · intro listed a w1 hl hc
            have h163 : a.tmps[163]?.getD undef = .agg #[.int .u8 0, .int .u8 (fl.toNat : Int), .slice Ap kd cp] := hc.dep hl 7 163 rfl (by kernel_rfl)
            refine does_call rfl rfl 16 #[.agg #[.int .u8 0, .int .u8 (fl.toNat : Int), .slice Ap kd cp]] ?_ ((HGQ.out w1 hc.g).mono fun e w' ⟨A9, c9, he, ho, hb⟩ => ⟨_, he, (Ws.of_below hb), A9, c9, rfl, ho.more (Nat.zero_le _)⟩)
            clear hc hl
            go_simp
          · intro listed a w1 hl hc
            obtain ⟨A164, c164, h164, ho164⟩ := hc.dep hl 8 164 rfl (by kernel_rfl)
            refine does_value rfl rfl (.tuple #[.agg #[.int .u32 (r1 : Int), .int .u16 (r2 : Int), .int .u16 (r3 : Int), .bool r4, .bool r5, .bool r6, .slice A164 rb.length c164], .int .i64 reD]) w1 ?_ (Ws.refl _ _ _) ⟨A164, c164, rfl, ho164⟩
            clear hc hl
            go_simp
          · intro listed a w1 hl hc
            obtain ⟨A155, c155, h155, ho155⟩ := hc.dep hl 9 155 rfl (by kernel_rfl)
            refine does_value rfl rfl (.agg #[.int .u32 (r1 : Int), .int .u16 (r2 : Int), .int .u16 (r3 : Int), .bool r4, .bool r5, .bool r6, .slice A155 rb.length c155]) w1 ?_ (Ws.refl _ _ _) ⟨A155, c155, rfl, ho155⟩
            clear hc hl
            go_simp
          · intro listed a w1 hl hc
            obtain ⟨A155, c155, h155, ho155⟩ := hc.dep hl 9 155 rfl (by kernel_rfl)
            refine does_value rfl rfl (.int .i64 reD) w1 ?_ (Ws.refl _ _ _) rfl
            clear hc hl
            go_simp
          · intro listed a w1 hl hc
            refine does_value rfl rfl (.pointer (some ⟨w1.heap.size, 0, none⟩)) (w1.alloc (.cells #[.int .u32 0, .int .u16 0, .int .u16 0, .bool false, .bool false, .bool false, .slice none 0 0] 26)) ?_ (Ws.of_below (below_new w1 _)) ⟨_, _, rfl, hc.g.wr.size, Blk.new _ _ _, rfl⟩
            clear hc hl
            go_simp
          · intro listed a w1 hl hc
            obtain ⟨g20, cs20, h20, hg20, hb20, hs20⟩ := hc.dep hl 12 20 rfl (by kernel_rfl)
            obtain ⟨A165, c165, h165, ho165⟩ := hc.dep hl 10 165 rfl (by kernel_rfl)
            obtain ⟨b0, b1, b2, b3, b4, b5, b6, rfl⟩ := array7 hs20
            have y0 := hb20.cell 0
            have y1 := hb20.cell 1
            have y2 := hb20.cell 2
            have y3 := hb20.cell 3
            have y4 := hb20.cell 4
            have y5 := hb20.cell 5
            have y6 := hb20.cell 6
            have z0 := hb20.frozen 0
            have z1 := hb20.frozen 1
            have z2 := hb20.frozen 2
            have z3 := hb20.frozen 3
            have z4 := hb20.frozen 4
            have z5 := hb20.frozen 5
            have z6 := hb20.frozen 6
            have hgl := hb20.lt
            refine does_store rfl rfl (((((((w1.setCell ⟨g20, 0, none⟩ (.int .u32 (r1 : Int))).setCell ⟨g20, 1, none⟩ (.int .u16 (r2 : Int))).setCell ⟨g20, 2, none⟩ (.int .u16 (r3 : Int))).setCell ⟨g20, 3, none⟩ (.bool r4)).setCell ⟨g20, 4, none⟩ (.bool r5)).setCell ⟨g20, 5, none⟩ (.bool r6)).setCell ⟨g20, 6, none⟩ (.slice A165 rb.length c165)) ?_ rfl (((((((Ws.setBlk hb20 hg20 0 (.int .u32 (r1 : Int))).trans (Ws.setBlk (hb20.set_ 0 (.int .u32 (r1 : Int))) hg20 1 (.int .u16 (r2 : Int)))).trans (Ws.setBlk ((hb20.set_ 0 (.int .u32 (r1 : Int))).set_ 1 (.int .u16 (r2 : Int))) hg20 2 (.int .u16 (r3 : Int)))).trans (Ws.setBlk (((hb20.set_ 0 (.int .u32 (r1 : Int))).set_ 1 (.int .u16 (r2 : Int))).set_ 2 (.int .u16 (r3 : Int))) hg20 3 (.bool r4))).trans (Ws.setBlk ((((hb20.set_ 0 (.int .u32 (r1 : Int))).set_ 1 (.int .u16 (r2 : Int))).set_ 2 (.int .u16 (r3 : Int))).set_ 3 (.bool r4)) hg20 4 (.bool r5))).trans (Ws.setBlk (((((hb20.set_ 0 (.int .u32 (r1 : Int))).set_ 1 (.int .u16 (r2 : Int))).set_ 2 (.int .u16 (r3 : Int))).set_ 3 (.bool r4)).set_ 4 (.bool r5)) hg20 5 (.bool r6))).trans (Ws.setBlk ((((((hb20.set_ 0 (.int .u32 (r1 : Int))).set_ 1 (.int .u16 (r2 : Int))).set_ 2 (.int .u16 (r3 : Int))).set_ 3 (.bool r4)).set_ 4 (.bool r5)).set_ 5 (.bool r6)) hg20 6 (.slice A165 rb.length c165))) trivial
            clear hc hl ho165
            go_simp
        intro w2 hbq
        rintro _ rfl _ rfl _ rfl _ rfl _ rfl _ rfl _ rfl _ rfl _ ⟨A164, c164, rfl, ho164⟩ _ ⟨A155, c155, rfl, ho155⟩ _ ⟨A165, c165, rfl, ho165⟩ _ rfl _ ⟨g20, cs20, rfl, hg20, hb20, hs20⟩ _ _
        simp only [Thus, List.reverse_cons, List.reverse_nil, List.nil_append, List.cons_append, List.drop, List.take, lay]
        go_frame
        have hb : Below v6.heap.size v6 w2 := hbq.wr.below_ (Nat.le_refl _)
        have P7 := Lib.hid (P6.out.below hb P6.out.lt)
        have B7 := Lib.hid (below_then B6.out (Nat.le_refl _) hb)
        have N7 := Lib.hid (N6.out.below hb (Nat.le_refl _))
        have D7 := Lib.hid (D6.out.below hb D6.out.lt)
        clear hb P6 B6 N6 D6
        clear hbq hb20
        by_cases hf8 : fl.toNat < 8
        · by_cases hk12 : 12 < kd
          · have hre : (reD == 0) = true := by rw [HRD.out, HED.out, decide_eq_true ⟨hf8, hk12⟩]; rfl
            have d8 : decide ((fl.toNat : Int) < 8) = true := decide_eq_true (by omega)
            have d12 : decide ((12 : Int) < (kd : Int)) = true := decide_eq_true (by omega)
            go_wp2_with fail
            refine (works_any _).mono ?_
            rintro e wz ⟨rfl, hbz⟩
            have hE := below_then B7.out (Nat.le_refl _) hbz
            go_wp2_with fail
            go_ret
            exact ⟨rfl, hE⟩
          · have hre : (reD == 0) = false := by rw [HRD.out, HED.out, decide_eq_false (fun h => hk12 h.2)]; rfl
            have d8 : decide ((fl.toNat : Int) < 8) = true := decide_eq_true (by omega)
            have d12 : decide ((12 : Int) < (kd : Int)) = false := decide_eq_false (by omega)
            go_wp2_with fail
            refine (works_any _).mono ?_
            rintro e wz ⟨rfl, hbz⟩
            have hE := below_then B7.out (Nat.le_refl _) hbz
            go_wp2_with fail
            go_ret
            exact ⟨rfl, hE⟩
        · have hre : (reD == 0) = false := by rw [HRD.out, HED.out, decide_eq_false (fun h => hf8 h.1)]; rfl
          have d8 : decide ((fl.toNat : Int) < 8) = false := decide_eq_false (by omega)
          go_wp2_with fail
          refine (works_any _).mono ?_
          rintro e wz ⟨rfl, hbz⟩
          have hE := below_then B7.out (Nat.le_refl _) hbz
          go_wp2_with fail
          go_ret
          exact ⟨rfl, hE⟩
set_option maxRecDepth 100000 in
theorem bodiesCuts_walk (x : AX) (a1 a2 : Int) (w : World) (hx : x.In w) (h1 : (Lit.int .u16 a1).wf = true) (h2 : (Lit.int .u8 a2).wf = true) :
    Calls Try.prog 10 #[.agg #[.bool x.ack, .int .u32 (x.tsn : Int), .int .u16 (x.stream : Int), .int .u16 (x.ssn : Int), .bool x.un, .bool x.fi, .bool x.la, .slice x.Ad x.nd x.cd, .int .u32 (x.tag : Int), .int .u32 (x.rwnd : Int), .int .u16 (x.out : Int), .int .u16 (x.in_ : Int), .int .u32 (x.tsn2 : Int), .slice x.Ai x.ni x.ci, .int .u32 (x.cum : Int), .int .u32 (x.rwnd2 : Int), .slice x.Ag x.ng x.cg, .slice x.Au x.nu x.cu, .int .u32 (x.fcum : Int), .slice x.As x.ns x.cs, .int .i64 x.t, .int .u32 (x.cum2 : Int)], .int .u16 a1, .int .u8 a2] w fun e w' => e = .returned (.bool true) ∧ Below w.heap.size w w' := by
  obtain ⟨fl, rfl⟩ := byte_of h2
  obtain ⟨cutn, rfl, hcut⟩ := nat_of_u16 h1
  by_cases hb : 2048 < x.ng ∨ 2048 < x.nu ∨ 2048 < x.ns
  · exact bodiesCuts_many x cutn fl w hx hb
  · by_cases hb2 : 8192 < x.ni
    · exact bodiesCuts_init x cutn fl w hx hb hb2
    · by_cases hb3 : 8192 < x.nd
      · exact bodiesCuts_data x cutn fl w hx hb (by omega) hb3
      · by_cases hf : fl = 0
        · exact bodiesCuts_zero x cutn fl w hx hcut hb (by omega) (by omega) hf
        · exact bodiesCuts_more x cutn fl w hx hcut hb (by omega) (by omega) hf
end Go.Proofs.Ytalgkokgaibloaa

namespace Go.Proofs.Ytalgkokgaibloaa.bodiesCuts
open Go.ChangeShapes Go.WideShapes Go.ChangeAt Go.RowKit
open Go.ChangeMaps (open_string shut_string)
open Go.Joins
set_option linter.unusedVariables false

theorem own : ownKnob Try.prog.godebug = none := by kernel_rfl
theorem laidOut : laidOutB Try.prog = true := by kernel_rfl

set_option maxRecDepth 100000 in
theorem lifted (os : Os) (started : os.Started) (H : Type) (enc : TypeId × Value → H) :
    ReturnsInHanded {} Try.checked os 10 .any (Rows.bodiesCutsSpec.pre6 enc Try.prog Try.f10 Rows.bodiesCutsRow.domain false) (Rows.bodiesCutsSpec.post enc Try.prog Try.f10 false true false false) := by
  refine returnsInHanded_of_change (C := Try.checked) own started (by kernel_rfl) Try.func10
    (ChangeSpec.witness6 (enc := enc) (C := Try.checked) false ⟨#[], #[.agg #[.bool false, .int .u32 0, .int .u16 0, .int .u16 0, .bool false, .bool false, .bool false, .slice none 0 0, .int .u32 0, .int .u32 0, .int .u16 0, .int .u16 0, .int .u32 0, .slice none 0 0, .int .u32 0, .int .u32 0, .slice none 0 0, .slice none 0 0, .int .u32 0, .slice none 0 0, .int .i64 0, .int .u32 0], .int .u16 0, .int .u8 0], []⟩ 8 (by kernel_rfl) (by kernel_rfl) (by kernel_rfl) (by kernel_rfl)) ?_
  intro W base args ds gs before hval0 hW hcnd _
  have hval : ∀ (j : Nat) t v, Try.f10.params[j]? = some t → args[j]? = some v → Value.okWide Try.prog W .any base t v := hval0
  have hW' := hW
  obtain ⟨p, q, hA0, hV, rfl, hfz, hnd⟩ := hW
  have hA : DataW.TrodAll enc Try.prog W 0 (fun _ => true) true Try.f10.params.toList args.toList ds p := hA0
  rw [Try.params10] at hA hval
  obtain ⟨v0, vs0, d0, ds0, p0, q0, hargs, rfl, rfl, h0, r0⟩ := trodAll_cons hA
  obtain ⟨v1, vs1, d1, ds1, p1, q1, rfl, rfl, rfl, h1, r1⟩ := trodAll_cons r0
  obtain ⟨v2, vs2, d2, ds2, p2, q2, rfl, rfl, rfl, h2, r2⟩ := trodAll_cons r1
  obtain ⟨rfl, rfl, rfl⟩ := trodAll_nil r2
  obtain rfl : args = #[v0, v1, v2] := by cases args; simp_all
  obtain ⟨rfl, rfl⟩ := trodVars_none hV
  have k0 := h0
  have lt0 : ∀ x ∈ p0, x.block < W.heap.size := by obtain ⟨m, hm⟩ := k0; exact DataW.trod_lt m _ _ _ hm
  obtain ⟨x0, rfl, w0⟩ := open_all (hval 0 77 v0 rfl rfl) h0
  have k1 := h1
  have lt1 : ∀ x ∈ p1, x.block < W.heap.size := by obtain ⟨m, hm⟩ := k1; exact DataW.trod_lt m _ _ _ hm
  obtain ⟨a1, rfl, rfl, rfl, w1⟩ := open_int Try.underlying23 (hval 1 23 v1 rfl rfl) h1
  have k2 := h2
  have lt2 : ∀ x ∈ p2, x.block < W.heap.size := by obtain ⟨m, hm⟩ := k2; exact DataW.trod_lt m _ _ _ hm
  obtain ⟨a2, rfl, rfl, rfl, w2⟩ := open_int Try.underlying5 (hval 2 5 v2 rfl rfl) h2
  clear hA0 hval0
  refine (bodiesCuts_walk x0 a1 a2 W w0 w1 w2).mono fun e W' ⟨he, bel⟩ => ?_
  subst he
  exact ⟨_, rfl, _, _, _, [], _, [], hW', trodAll_mk1 (shut_bool Try.underlying4 _), (trodAll_cons_mk (Below.trod laidOut (by kernel_rfl) (of_decide_eq_true (by kernel_rfl)) k0 bel lt0) (trodAll_cons_mk (shut_int Try.underlying23 w1) (trodAll_cons_mk (shut_int Try.underlying5 w2) trodAll_mk0))), rfl, bel.frame _, fun h => by cases h⟩

theorem over : Rows.bodiesCutsRow.holds Try.pinned (OpenSpec.ofChange Rows.bodiesCutsSpec) :=
  OpenClaim.holds_of_wide 10 Try.f10 rfl rfl rfl rfl rfl rfl rfl ⟨rfl, rfl, rfl, rfl, rfl⟩ rfl rfl rfl rfl rfl (by kernel_rfl) Try.func10 (by kernel_rfl)
    (of_decide_eq_true (by kernel_rfl)) (by unfold Func.isWrapper; first | (rw [if_pos (by decide +kernel)]; kernel_rfl) | (rw [if_neg (by decide +kernel)]; exact ⟨rfl, rfl⟩))
    (fun os started H enc _ => lifted os started H enc)

theorem proved : Rows.BodiesCutsSaid := over
end Go.Proofs.Ytalgkokgaibloaa.bodiesCuts
