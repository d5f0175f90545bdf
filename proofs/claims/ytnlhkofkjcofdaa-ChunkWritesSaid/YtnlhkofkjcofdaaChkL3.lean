/-
  ChunkWrites, walked.
-/
import Derived.Test.YtnlhkofkjcofdaaChkF
import Derived.Test.YtnlhkofkjcofdaaGrowT
import Derived.Test.YtnlhkofkjcofdaaRows2
import Derived.Test.YtnlhkofkjcofdaaNums
namespace Go.Proofs.Ytnlhkofkjcofdaa
open Go.RowKit
set_option linter.unusedVariables false

set_option maxHeartbeats 1000000 in
theorem chunkWrites_big (k f : UInt8) (A : Option Addr) (n c : Nat) (w : World) (h : 131072 < n) :
    Calls Try.prog 3 #[.agg #[.int .u8 (k.toNat : Int), .int .u8 (f.toNat : Int), .slice A n c]] w fun e w' => e = .returned (.bool true) ∧ Below w.heap.size w w' := by
  have B0 := Lib.hid (below_new w (.cells #[.int .u8 (k.toNat : Int), .int .u8 (f.toNat : Int), .slice A n c] 24))
  go_enter Try.func3, Try.ntmps3
  go_wp2_with fail
  refine (large_yes _ _ A n c _ h).mono ?_
  rintro e w1 ⟨rfl, hb1⟩
  have B1 := Lib.hid (below_then B0.out (Nat.le_refl _) hb1)
  clear hb1
  go_wp2_with fail
  refine (works_any _).mono ?_
  rintro e w2 ⟨rfl, hb⟩
  go_wp2_with fail
  go_ret
  exact ⟨rfl, below_then B1.out (Nat.le_refl _) hb⟩

set_option maxRecDepth 100000 in
set_option maxHeartbeats 4000000 in
theorem chunkWrites_small (k f : UInt8) (A : Option Addr) (n c : Nat) (xs : List UInt8) (w : World) (h : n ≤ 131072) (hx : xs.length = n) (hr : Rd w w.heap.size A xs) :
    Calls Try.prog 3 #[.agg #[.int .u8 (k.toNat : Int), .int .u8 (f.toNat : Int), .slice A n c]] w fun e w' => e = .returned (.bool true) ∧ Below w.heap.size w w' := by
  obtain ⟨M, hM⟩ : ∃ M, M = (wrt k f xs).length := ⟨_, rfl⟩
  have hM2 : M ≤ 65536 := by rw [hM]; exact wrt_le k f xs
  have HM := Lib.hid hM
  have B0 := Lib.hid (below_new w (.cells #[.int .u8 (k.toNat : Int), .int .u8 (f.toNat : Int), .slice A n c] 24))
  have K0 := Lib.hid (Blk.new w 24 #[.int .u8 (k.toNat : Int), .int .u8 (f.toNat : Int), .slice A n c])
  have HX := Lib.hid hx
  have HR := Lib.hid hr
  have hz := zero_chunk
  clear hx hr hM
  go_enter Try.func3, Try.ntmps3
  go_wp2_with fail
  refine (large_no _ _ A n c _ h).mono ?_
  rintro e v1 ⟨rfl, hb1⟩
  have B1 := Lib.hid (below_then B0.out (Nat.le_refl _) hb1)
  have K1 := Lib.hid (K0.out.below hb1 K0.out.lt)
  clear hb1
  go_wp2_with fail
  refine wp_region_grow_tail 9 (by kernel_rfl) [(Is (.pointer (some ⟨w.heap.size, 0, none⟩))), (Is (.int .u8 (k.toNat : Int))), (Is (.pointer (some ⟨w.heap.size, 1, none⟩))), (Is (.int .u8 (f.toNat : Int))), (Is (.pointer (some ⟨w.heap.size, 2, none⟩))), (Is (.slice A n c)), (NewRow 5 v1.heap.size n (n + 16) (xs ++ marks16) (fun s => s)), (NewRow 5 v1.heap.size n (n + 16) (xs ++ marks16) (fun s => .agg #[.int .u8 (k.toNat : Int), .int .u8 (f.toNat : Int), s])), (NewBlk v1.heap.size 24 #[.int .u8 0, .int .u8 0, .slice none 0 0])] rfl ?_ (by kernel_rfl) (by kernel_rfl) ?_ ?_
  · intro p hp
    simp only [List.mem_cons, List.not_mem_nil, or_false] at hp
    rcases hp with rfl | rfl | rfl | rfl | rfl | rfl | rfl | rfl | rfl
    · exact Lasts.is _
    · exact Lasts.is _
    · exact Lasts.is _
    · exact Lasts.is _
    · exact Lasts.is _
    · exact Lasts.is _
    · exact Lasts.newRow _ _ _ _ _ _
    · exact Lasts.newRow _ _ _ _ _ _
    · exact Lasts.newBlk _ _ _
  · refine ⟨?_, ?_, ?_, ?_, ?_, ?_, ?_, ?_, ?_, trivial⟩
    · intro listed a w1 hl hc
      have h1 : a.tmps[1]?.getD undef = .pointer (some ⟨w.heap.size, 0, none⟩) := (hc.was 1 (by kernel_rfl)).trans rfl
      refine does_value rfl rfl (.pointer (some ⟨w.heap.size, 0, none⟩)) w1 ?_ (Below.refl _ _) rfl
      clear hc hl
      go_simp
    · intro listed a w1 hl hc
      have h9 : a.tmps[9]?.getD undef = .pointer (some ⟨w.heap.size, 0, none⟩) := hc.dep hl 0 9 rfl (by kernel_rfl)
      have hk : w1.cell? ⟨w.heap.size, 0, none⟩ = some (.int .u8 (k.toNat : Int)) := (K1.out.below hc.g K1.out.lt).cell 0
      refine does_value rfl rfl (.int .u8 (k.toNat : Int)) w1 ?_ (Below.refl _ _) rfl
      clear hc hl
      go_simp
    · intro listed a w1 hl hc
      have h1 : a.tmps[1]?.getD undef = .pointer (some ⟨w.heap.size, 0, none⟩) := (hc.was 1 (by kernel_rfl)).trans rfl
      refine does_value rfl rfl (.pointer (some ⟨w.heap.size, 1, none⟩)) w1 ?_ (Below.refl _ _) rfl
      clear hc hl
      go_simp
    · intro listed a w1 hl hc
      have h11 : a.tmps[11]?.getD undef = .pointer (some ⟨w.heap.size, 1, none⟩) := hc.dep hl 2 11 rfl (by kernel_rfl)
      have hk : w1.cell? ⟨w.heap.size, 1, none⟩ = some (.int .u8 (f.toNat : Int)) := (K1.out.below hc.g K1.out.lt).cell 1
      refine does_value rfl rfl (.int .u8 (f.toNat : Int)) w1 ?_ (Below.refl _ _) rfl
      clear hc hl
      go_simp
    · intro listed a w1 hl hc
      have h1 : a.tmps[1]?.getD undef = .pointer (some ⟨w.heap.size, 0, none⟩) := (hc.was 1 (by kernel_rfl)).trans rfl
      refine does_value rfl rfl (.pointer (some ⟨w.heap.size, 2, none⟩)) w1 ?_ (Below.refl _ _) rfl
      clear hc hl
      go_simp
    · intro listed a w1 hl hc
      have h13 : a.tmps[13]?.getD undef = .pointer (some ⟨w.heap.size, 2, none⟩) := hc.dep hl 4 13 rfl (by kernel_rfl)
      have hk : w1.cell? ⟨w.heap.size, 2, none⟩ = some (.slice A n c) := (K1.out.below hc.g K1.out.lt).cell 2
      refine does_value rfl rfl (.slice A n c) w1 ?_ (Below.refl _ _) rfl
      clear hc hl
      go_simp
    · intro listed a w1 hl hc
      have h14 : a.tmps[14]?.getD undef = .slice A n c := hc.dep hl 5 14 rfl (by kernel_rfl)
      refine does_call rfl rfl 12 #[.slice A n c] ?_ ((roomy_any A n c xs w1 (by omega) HX.out ((HR.out.below (B1.out.trans (hc.g.mono B1.out.size))).more (Nat.le_trans B1.out.size hc.g.size))).mono fun e w' ⟨g, he, hg, ho, hb⟩ => ⟨_, he, hb, g, rfl, Nat.le_trans hc.g.size hg, ho⟩)
      clear hc hl
      go_simp
    · intro listed a w1 hl hc
      have h10 : a.tmps[10]?.getD undef = .int .u8 (k.toNat : Int) := hc.dep hl 1 10 rfl (by kernel_rfl)
      have h12 : a.tmps[12]?.getD undef = .int .u8 (f.toNat : Int) := hc.dep hl 3 12 rfl (by kernel_rfl)
      obtain ⟨g9, h15, hg9, ho9⟩ := hc.dep hl 6 15 rfl (by kernel_rfl)
      refine does_value rfl rfl (.agg #[.int .u8 (k.toNat : Int), .int .u8 (f.toNat : Int), .slice (some ⟨g9, 0, none⟩) n (n + 16)]) w1 ?_ (Below.refl _ _) ⟨g9, rfl, hg9, ho9⟩
      clear hc hl
      go_simp
    · intro listed a w1 hl hc
      refine does_value rfl rfl (.pointer (some ⟨w1.heap.size, 0, none⟩)) (w1.alloc (.cells #[.int .u8 0, .int .u8 0, .slice none 0 0] 24)) ?_ (below_new w1 _) ⟨_, rfl, hc.g.size, Blk.new _ _ _⟩
      clear hc hl
      go_simp
  intro w2 hb2
  rintro _ rfl _ rfl _ rfl _ rfl _ rfl _ rfl _ ⟨g9, rfl, hg9, ho9⟩ _ ⟨g, rfl, hg, hrow⟩ _ ⟨gi, rfl, hgi, hblk⟩
  simp only [Thus, List.reverse_cons, List.reverse_nil, List.nil_append, List.cons_append, List.drop, List.take, lay]
  go_frame
  have hwg : w.heap.size ≠ gi := by have := K1.out.lt; omega
  have hwgi : w.heap.size ≤ gi := Nat.le_trans B1.out.size hgi
  have hggi := hrow.ne_blk hblk (by decide)
  have k3 : w2.cell? ⟨gi, 0, none⟩ = some (.int .u8 0) := hblk.cell 0
  have k4 : w2.cell? ⟨gi, 1, none⟩ = some (.int .u8 0) := hblk.cell 1
  have k5 : w2.cell? ⟨gi, 2, none⟩ = some (.slice none 0 0) := hblk.cell 2
  have z3 := hblk.frozen 0
  have z4 := hblk.frozen 1
  have z5 := hblk.frozen 2
  have G3 : Hid (Blk (((w2.setCell ⟨gi, 0, none⟩ (.int .u8 (k.toNat : Int))).setCell ⟨gi, 1, none⟩ (.int .u8 (f.toNat : Int))).setCell ⟨gi, 2, none⟩ (.slice (some ⟨g, 0, none⟩) n (n + 16))) gi 24 #[.int .u8 (k.toNat : Int), .int .u8 (f.toNat : Int), .slice (some ⟨g, 0, none⟩) n (n + 16)]) := Lib.hid (((hblk.set_ 0 _).set_ 1 _).set_ 2 _)
  have K3 : Hid (Blk (((w2.setCell ⟨gi, 0, none⟩ (.int .u8 (k.toNat : Int))).setCell ⟨gi, 1, none⟩ (.int .u8 (f.toNat : Int))).setCell ⟨gi, 2, none⟩ (.slice (some ⟨g, 0, none⟩) n (n + 16))) w.heap.size 24 #[.int .u8 (k.toNat : Int), .int .u8 (f.toNat : Int), .slice A n c]) := Lib.hid ((((K1.out.below hb2 K1.out.lt).far (p := ⟨gi, 0, none⟩) hwg _).far (p := ⟨gi, 1, none⟩) hwg _).far (p := ⟨gi, 2, none⟩) hwg _)
  have B3 : Hid (Below w.heap.size w (((w2.setCell ⟨gi, 0, none⟩ (.int .u8 (k.toNat : Int))).setCell ⟨gi, 1, none⟩ (.int .u8 (f.toNat : Int))).setCell ⟨gi, 2, none⟩ (.slice (some ⟨g, 0, none⟩) n (n + 16)))) := Lib.hid ((((below_then B1.out (Nat.le_refl _) hb2).setCell (p := ⟨gi, 0, none⟩) hwgi _).setCell (p := ⟨gi, 1, none⟩) hwgi _).setCell (p := ⟨gi, 2, none⟩) hwgi _)
  have ROW3 : Hid (RowAt (((w2.setCell ⟨gi, 0, none⟩ (.int .u8 (k.toNat : Int))).setCell ⟨gi, 1, none⟩ (.int .u8 (f.toNat : Int))).setCell ⟨gi, 2, none⟩ (.slice (some ⟨g, 0, none⟩) n (n + 16))) 5 g (xs ++ marks16)) := Lib.hid (((hrow.far (p := ⟨gi, 0, none⟩) hggi _).far (p := ⟨gi, 1, none⟩) hggi _).far (p := ⟨gi, 2, none⟩) hggi _)
  clear hb2 hrow hggi ho9 hg9
  go_wp2_with fail
  clear hblk k3 k4 k5 z3 z4 z5
  generalize (((w2.setCell ⟨gi, 0, none⟩ (.int .u8 (k.toNat : Int))).setCell ⟨gi, 1, none⟩ (.int .u8 (f.toNat : Int))).setCell ⟨gi, 2, none⟩ (.slice (some ⟨g, 0, none⟩) n (n + 16))) = w3 at G3 K3 B3 ROW3 ⊢
  have FIN := Lib.hid (own_in ROW3.out HX.out (Nat.zero_le _) (by omega))
  refine (write_any k f (some ⟨g, 0, none⟩) n (n + 16) xs w3 HX.out (rd_room ROW3.out)).mono ?_
  rintro e w4 ⟨A4, m4, c4, rfl, ho4, hb4⟩
  have hm4 : m4 = M := by rw [HM.out, ho4.len]
  subst hm4
  have O4 := Lib.hid ho4
  have G4 := Lib.hid (G3.out.below hb4 G3.out.lt)
  have K4 := Lib.hid (K3.out.below hb4 K3.out.lt)
  have B4 := Lib.hid (below_then B3.out (Nat.le_refl _) hb4)
  have ROW4 := Lib.hid (ROW3.out.below hb4 ROW3.out.lt)
  have FAR4 := Lib.hid (far_of FIN.out ho4 (Nat.le_refl _))
  have FIN4 := Lib.hid (FIN.out.below hb4 (Nat.le_refl _))
  clear ho4 hb4 G3 K3 B3 ROW3 FIN
  have k0 : w4.cell? ⟨w.heap.size, 0, none⟩ = some (.int .u8 (k.toNat : Int)) := K4.out.cell 0
  have k1 : w4.cell? ⟨w.heap.size, 1, none⟩ = some (.int .u8 (f.toNat : Int)) := K4.out.cell 1
  have k2 : w4.cell? ⟨w.heap.size, 2, none⟩ = some (.slice A n c) := K4.out.cell 2
  go_wp2_with fail
  refine (refWrite_any k f A n c xs w4 HX.out ((HR.out.below B4.out).more B4.out.size)).mono ?_
  rintro e w5 ⟨A5, m5, c5, rfl, ho5, hb5⟩
  have hm5 : m5 = m4 := by rw [HM.out, ho5.len]
  subst hm5
  clear k0 k1 k2
  have B5 := Lib.hid (below_then B4.out (Nat.le_refl _) hb5)
  have G5 := Lib.hid (G4.out.below hb5 G4.out.lt)
  have K5 := Lib.hid (K4.out.below hb5 K4.out.lt)
  have O5 := Lib.hid (O4.out.below hb5 (Nat.le_refl _))
  have ROW5 := Lib.hid (ROW4.out.below hb5 ROW4.out.lt)
  have FIN5 := Lib.hid (FIN4.out.below hb5 (Nat.le_refl _))
  have HEQ := Lib.hid (eqBytes_same _ _ A4 A5 m5 c4 c5 (wrt k f xs) w5 O5.out.len (by unfold maxLen; omega) O5.out.rd ho5.rd)
  clear ho5 hb5 G4 K4 O4 ROW4 FIN4
  go_wp2_with fail
  refine HEQ.out.mono ?_
  rintro e w6 ⟨rfl, q, rfl⟩
  have k2 : w5.cell? ⟨w.heap.size, 2, none⟩ = some (.slice A n c) := K5.out.cell 2
  have g2 : w5.cell? ⟨gi, 2, none⟩ = some (.slice (some ⟨g, 0, none⟩) n (n + 16)) := G5.out.cell 2
  go_wp2_with fail
  refine (kept_any w.heap.size A n c g xs (w5.drewN q) (by omega) HX.out ((HR.out.below B5.out).drewN q) (ROW5.out.drewN q)).mono ?_
  rintro e w7 ⟨rfl, q7, rfl⟩
  have g0 : w5.cell? ⟨gi, 0, none⟩ = some (.int .u8 (k.toNat : Int)) := G5.out.cell 0
  have g1 : w5.cell? ⟨gi, 1, none⟩ = some (.int .u8 (f.toNat : Int)) := G5.out.cell 1
  go_wp2_with fail
  have HWR := Lib.hid (write_any k f (some ⟨g, 0, none⟩) n (n + 16) xs (w5.drewN (q + q7)) HX.out (rd_room (ROW5.out.drewN (q + q7))))
  refine HWR.out.mono ?_
  rintro e w8 ⟨A8, m8, c8, rfl, ho8, hb8⟩
  have hm8 : m8 = m5 := by rw [HM.out, ho8.len]
  subst hm8
  clear k2 g0 g1 g2
  have B8 := Lib.hid (below_then (below_drewN B5.out (q + q7)) (Nat.le_refl _) hb8)
  have G8 := Lib.hid ((G5.out.drewN (q + q7)).below hb8 G5.out.lt)
  have O8 := Lib.hid ((O5.out.drewN (q + q7)).below hb8 (Nat.le_refl _))
  have FAR8 := Lib.hid (far_of (FIN5.out.drewN (q + q7)) ho8 (Nat.le_refl _))
  have FAR48 := Lib.hid (far_of (O5.out.drewN (q + q7)) ho8 (Nat.le_refl _))
  have FIN8 := Lib.hid ((FIN5.out.drewN (q + q7)).below hb8 (Nat.le_refl _))
  have P8 := Lib.hid ho8
  have g2 : w8.cell? ⟨gi, 2, none⟩ = some (.slice (some ⟨g, 0, none⟩) n (n + 16)) := G8.out.cell 2
  clear ho8 hb8 G5 K5 O5 ROW5 FIN5 HWR
  go_wp2_with fail
  refine (apart3 O8.out P8.out FIN8.out FAR48.out FAR4.out.symm FAR8.out.symm _).mono ?_
  rintro e w9 ⟨rfl, hb9⟩
  have B9 := Lib.hid (below_then B8.out (Nat.le_refl _) hb9)
  clear hb9
  go_wp2_with fail
  refine (works_any _).mono ?_
  rintro e w10 ⟨rfl, hb10⟩
  go_wp2_with fail
  go_ret
  exact ⟨rfl, below_then B9.out (Nat.le_refl _) hb10⟩

theorem chunkWrites_walk (a b : Int) (A : Option Addr) (n c : Nat) (xs : List UInt8) (w : World) (ha : (Lit.int .u8 a).wf = true) (hb : (Lit.int .u8 b).wf = true) (hc : n ≤ c) (hcm : c ≤ maxLen) (hx : xs.length = n) (hr : Rd w w.heap.size A xs) :
    Calls Try.prog 3 #[.agg #[.int .u8 a, .int .u8 b, .slice A n c]] w fun e w' => e = .returned (.bool true) ∧ Below w.heap.size w w' := by
  obtain ⟨k, rfl⟩ := byte_of ha
  obtain ⟨f, rfl⟩ := byte_of hb
  by_cases h : 131072 < n
  · exact chunkWrites_big k f A n c w h
  · exact chunkWrites_small k f A n c xs w (by omega) hx hr
end Go.Proofs.Ytnlhkofkjcofdaa
