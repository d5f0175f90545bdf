/-
  Package cookie: the laws' works().
-/
import Derived.Test.YtnnkgdkjmmljiaaDoorQ23
import Derived.Test.YtnnkgdkjmmljiaaDoorQ8
namespace Go.Proofs.YtnnkgdkjmmljiaaDoor
open Go.RowKit
set_option linter.unusedVariables false

def ck0 : Ck := ⟨5, 1, 2, 3, 4, 6, 7, 8⟩
theorem ck0_wf : ck0.Wf := ⟨by decide, by decide, by decide, by decide, by decide, by decide, by decide, by decide⟩
theorem ck0_may : ck0.may = true := by decide
theorem wr0_at (k : Nat) (v : UInt8) (hk : k < 32) (h : (encC ck0)[k]? = some v) : (wrC [107] ck0)[k]? = some v := by
  unfold wrC
  rw [List.getElem?_append_left (by rw [length_encC]; exact hk), h]
theorem wr0_7 : (wrC [107] ck0)[7]? = some 5 := wr0_at 7 5 (by decide) (by decide)
theorem wr0_31 : (wrC [107] ck0)[31]? = some 8 := wr0_at 31 8 (by decide) (by decide)
theorem rd0 : rdC [107] (wrC [107] ck0) = .ok ck0 := by rw [rdC_wrC ck0_wf, ck0_may, if_pos rfl]
theorem rd0_nil : rdC [107] [] = .err 7 := rdC_len (by decide)
theorem write_w (W : World) (g : Nat) (hT : Tabs W) (h : Has W g [107]) (hg : g < W.heap.size) :
    Calls Tryd.prog 12 #[.slice (some ⟨g, 0, none⟩) 1 1, .agg #[.int .i64 5, .int .u32 1, .int .u32 2, .int .u32 3, .int .u32 4, .int .u32 6, .int .u16 7, .int .u16 8]] W fun e w' => ∃ A2 c2, e = .returned (.slice A2 64 c2) ∧ Own8 w' 5 W.heap.size A2 64 c2 (wrC [107] ck0) ∧ Below W.heap.size W w' :=
  ckWrite_any (some ⟨g, 0, none⟩) 1 1 [107] ck0 W hT (Nat.le_refl _) (by unfold maxLen; omega) rfl (h.rd.more hg) (by omega) ck0_wf
theorem read_w (W : World) (g : Nat) (A : Option Addr) (c : Nat) (hT : Tabs W) (h : Has W g [107]) (hg : g < W.heap.size) (hc : 64 ≤ c) (hcm : c ≤ maxLen) (hr : Rd W W.heap.size A (wrC [107] ck0)) :
    Calls Tryd.prog 14 #[.slice (some ⟨g, 0, none⟩) 1 1, .slice A 64 c] W fun e w' => e = .returned (.tuple #[.agg #[.int .i64 5, .int .u32 1, .int .u32 2, .int .u32 3, .int .u32 4, .int .u32 6, .int .u16 7, .int .u16 8], .int .i64 0]) ∧ Below W.heap.size W w' := by
  have h2 := ckRead_any (some ⟨g, 0, none⟩) A 1 1 64 c [107] (wrC [107] ck0) W hT (Nat.le_refl _) (by unfold maxLen; omega) rfl (h.rd.more hg) (by omega) hc hcm (length_wrC _ _) hr
  rw [rd0] at h2
  exact h2
theorem readN_w (W : World) (g : Nat) (hT : Tabs W) (h : Has W g [107]) (hg : g < W.heap.size) :
    Calls Tryd.prog 14 #[.slice (some ⟨g, 0, none⟩) 1 1, .slice none 0 0] W fun e w' => e = .returned (.tuple #[.agg #[.int .i64 0, .int .u32 0, .int .u32 0, .int .u32 0, .int .u32 0, .int .u32 0, .int .u16 0, .int .u16 0], .int .i64 7]) ∧ Below W.heap.size W w' := by
  have h2 := ckRead_any (some ⟨g, 0, none⟩) none 1 1 0 0 [107] [] W hT (Nat.le_refl _) (by unfold maxLen; omega) rfl (h.rd.more hg) (by omega) (Nat.le_refl _) (Nat.zero_le _) rfl (Rd.nil _ _ _)
  rw [rd0_nil] at h2
  exact h2
theorem fresh5_w (W : World) : Calls Tryd.prog 16 #[.agg #[.int .i64 5, .int .u32 1, .int .u32 2, .int .u32 3, .int .u32 4, .int .u32 6, .int .u16 7, .int .u16 8], .int .i64 5, .int .i64 0] W fun e w' => e = .returned (.bool true) ∧ Below W.heap.size W w' :=
  fresh_any ck0 5 0 W (by decide) (by decide) (by decide)
theorem fresh6_w (W : World) : Calls Tryd.prog 16 #[.agg #[.int .i64 5, .int .u32 1, .int .u32 2, .int .u32 3, .int .u32 4, .int .u32 6, .int .u16 7, .int .u16 8], .int .i64 6, .int .i64 0] W fun e w' => e = .returned (.bool false) ∧ Below W.heap.size W w' :=
  fresh_any ck0 6 0 W (by decide) (by decide) (by decide)

set_option maxRecDepth 100000 in
set_option maxHeartbeats 4000000 in
theorem ckWorks_any (w : World) (hT : Tabs w) : Calls Tryd.prog 9 #[] w fun e w' => e = .returned (.bool true) ∧ Below w.heap.size w w' := by
  have h2 := hT.2.2
  have HT := Lib.hid hT
  have hz := zero_cookie
  have hcv := fun (W : World) (g n c : Nat) => run_mark (P := Tryd.prog) Tryd.underlying22 Tryd.underlying5 W g n c
  have K1 := Lib.hid (Blk.new w 26 #[.int .i64 5, .int .u32 1, .int .u32 2, .int .u32 3, .int .u32 4, .int .u32 6, .int .u16 7, .int .u16 8])
  have B1 := Lib.hid (below_new w (.cells #[.int .i64 5, .int .u32 1, .int .u32 2, .int .u32 3, .int .u32 4, .int .u32 6, .int .u16 7, .int .u16 8] 26))
  clear hT
  go_enter Tryd.func9, Tryd.ntmps9
  rw [whole_eq 2, whole_eq 3, whole_eq 4, whole_eq 5]
  go_wp2_with fail
  generalize w.alloc (.cells #[.int .i64 5, .int .u32 1, .int .u32 2, .int .u32 3, .int .u32 4, .int .u32 6, .int .u16 7, .int .u16 8] 26) = w1 at K1 B1 ⊢
  have BN1 : Hid (Below w1.heap.size w1 (marked (w1.alloc (.cells #[.int .u8 107] 5)) w1.heap.size)) := Lib.hid (below_marked (below_new w1 (.cells #[.int .u8 107] 5)) _ (Nat.le_refl _))
  have BM1 : Hid (Below w.heap.size w (marked (w1.alloc (.cells #[.int .u8 107] 5)) w1.heap.size)) := Lib.hid (below_then B1.out (Nat.le_refl _) BN1.out)
  have KM1 : Hid (Blk (marked (w1.alloc (.cells #[.int .u8 107] 5)) w1.heap.size) w.heap.size 26 #[.int .i64 5, .int .u32 1, .int .u32 2, .int .u32 3, .int .u32 4, .int .u32 6, .int .u16 7, .int .u16 8]) := Lib.hid (K1.out.below BN1.out K1.out.lt)
  have HM1 : Hid (Has (marked (w1.alloc (.cells #[.int .u8 107] 5)) w1.heap.size) w1.heap.size [107]) := Lib.hid (Has.marked (Has.mk_ w1 5 #[.int .u8 107] [107] (0, 0) _ rfl rfl) _)
  have LM1 : Hid (w1.heap.size < (marked (w1.alloc (.cells #[.int .u8 107] 5)) w1.heap.size).heap.size) := Lib.hid (by rw [size_marked, World.size_alloc]; exact Nat.lt_succ_self _)
  clear BN1
  rw [← whole_eq 2]
  have j0 : (marked (w1.alloc (.cells #[.int .u8 107] 5)) w1.heap.size).cell? ⟨w.heap.size, 0, none⟩ = some (.int .i64 5) := KM1.out.cell 0
  have j1 : (marked (w1.alloc (.cells #[.int .u8 107] 5)) w1.heap.size).cell? ⟨w.heap.size, 1, none⟩ = some (.int .u32 1) := KM1.out.cell 1
  have j2 : (marked (w1.alloc (.cells #[.int .u8 107] 5)) w1.heap.size).cell? ⟨w.heap.size, 2, none⟩ = some (.int .u32 2) := KM1.out.cell 2
  have j3 : (marked (w1.alloc (.cells #[.int .u8 107] 5)) w1.heap.size).cell? ⟨w.heap.size, 3, none⟩ = some (.int .u32 3) := KM1.out.cell 3
  have j4 : (marked (w1.alloc (.cells #[.int .u8 107] 5)) w1.heap.size).cell? ⟨w.heap.size, 4, none⟩ = some (.int .u32 4) := KM1.out.cell 4
  have j5 : (marked (w1.alloc (.cells #[.int .u8 107] 5)) w1.heap.size).cell? ⟨w.heap.size, 5, none⟩ = some (.int .u32 6) := KM1.out.cell 5
  have j6 : (marked (w1.alloc (.cells #[.int .u8 107] 5)) w1.heap.size).cell? ⟨w.heap.size, 6, none⟩ = some (.int .u16 7) := KM1.out.cell 6
  have j7 : (marked (w1.alloc (.cells #[.int .u8 107] 5)) w1.heap.size).cell? ⟨w.heap.size, 7, none⟩ = some (.int .u16 8) := KM1.out.cell 7
  go_wp2_with fail
  generalize (marked (w1.alloc (.cells #[.int .u8 107] 5)) w1.heap.size) = v1 at HM1 BM1 KM1 LM1 ⊢
  generalize w1.heap.size = p1 at HM1 LM1 ⊢
  skip
  refine (write_w v1 p1 (HT.out.below BM1.out h2) HM1.out LM1.out).mono ?_
  rintro e w2 ⟨A2, c2, rfl, ho2, hb2⟩
  have B2 := Lib.hid (below_then BM1.out (Nat.le_refl _) hb2)
  have K2 := Lib.hid (KM1.out.below hb2 KM1.out.lt)
  have O2 := Lib.hid (ho2.more BM1.out.size)
  clear j0 j1 j2 j3 j4 j5 j6 j7 hb2 ho2
  go_wp2_with fail
  have BN2 : Hid (Below w2.heap.size w2 (marked (w2.alloc (.cells #[.int .u8 107] 5)) w2.heap.size)) := Lib.hid (below_marked (below_new w2 (.cells #[.int .u8 107] 5)) _ (Nat.le_refl _))
  have BM2 : Hid (Below w.heap.size w (marked (w2.alloc (.cells #[.int .u8 107] 5)) w2.heap.size)) := Lib.hid (below_then B2.out (Nat.le_refl _) BN2.out)
  have KM2 : Hid (Blk (marked (w2.alloc (.cells #[.int .u8 107] 5)) w2.heap.size) w.heap.size 26 #[.int .i64 5, .int .u32 1, .int .u32 2, .int .u32 3, .int .u32 4, .int .u32 6, .int .u16 7, .int .u16 8]) := Lib.hid (K2.out.below BN2.out K2.out.lt)
  have HM2 : Hid (Has (marked (w2.alloc (.cells #[.int .u8 107] 5)) w2.heap.size) w2.heap.size [107]) := Lib.hid (Has.marked (Has.mk_ w2 5 #[.int .u8 107] [107] (0, 0) _ rfl rfl) _)
  have LM2 : Hid (w2.heap.size < (marked (w2.alloc (.cells #[.int .u8 107] 5)) w2.heap.size).heap.size) := Lib.hid (by rw [size_marked, World.size_alloc]; exact Nat.lt_succ_self _)
  clear BN2
  have OM2 : Hid (Own8 (marked (w2.alloc (.cells #[.int .u8 107] 5)) w2.heap.size) 5 w.heap.size A2 64 c2 (wrC [107] ck0)) := Lib.hid (O2.out.below (below_marked (below_new w2 (.cells #[.int .u8 107] 5)) _ (Nat.le_refl _)) (Nat.le_refl _))
  rw [← whole_eq 3]
  go_wp2_with fail
  generalize (marked (w2.alloc (.cells #[.int .u8 107] 5)) w2.heap.size) = v2 at HM2 BM2 KM2 LM2 OM2 ⊢
  generalize w2.heap.size = p2 at HM2 LM2 ⊢
  refine (twin_any A2 64 c2 _ v2 (by omega) (length_wrC _ _) OM2.out.rd).mono ?_
  rintro e w3 ⟨A3, c3, rfl, ho3, hb3⟩
  have B3 := Lib.hid (below_then BM2.out (Nat.le_refl _) hb3)
  have K3 := Lib.hid (KM2.out.below hb3 KM2.out.lt)
  have O3 := Lib.hid (OM2.out.below hb3 (Nat.le_refl _))
  have HM3 : Hid (Has w3 p2 [107]) := Lib.hid (fun j x hx => (hb3.cell LM2.out).trans (HM2.out j x hx))
  have LM3 := Lib.hid (Nat.lt_of_lt_of_le LM2.out hb3.size)
  have hc3 := ho3.cap
  have R3 := Lib.hid ho3.rd
  clear hb3 ho3
  go_wp2_with fail
  refine (read_w w3 p2 A3 c3 (HT.out.below B3.out h2) HM3.out LM3.out hc3.1 hc3.2 R3.out).mono ?_
  rintro e w4 ⟨rfl, hb4⟩
  have B4 := Lib.hid (below_then B3.out (Nat.le_refl _) hb4)
  have K4 := Lib.hid (K3.out.below hb4 K3.out.lt)
  have O4 := Lib.hid (O3.out.below hb4 (Nat.le_refl _))
  clear hb4 hc3 R3 O3 K3 HM2 LM2 BM2 KM2 OM2 HM1 BM1 KM1 LM1
  have B5 := Lib.hid (B4.out.alloc B4.out.size (.cells #[.int .i64 5, .int .u32 1, .int .u32 2, .int .u32 3, .int .u32 4, .int .u32 6, .int .u16 7, .int .u16 8] 26))
  have K5 := Lib.hid (K4.out.alloc (.cells #[.int .i64 5, .int .u32 1, .int .u32 2, .int .u32 3, .int .u32 4, .int .u32 6, .int .u16 7, .int .u16 8] 26))
  have O5 := Lib.hid (O4.out.alloc (.cells #[.int .i64 5, .int .u32 1, .int .u32 2, .int .u32 3, .int .u32 4, .int .u32 6, .int .u16 7, .int .u16 8] 26))
  have D5 : Hid (Blk (w4.alloc (.cells #[.int .i64 5, .int .u32 1, .int .u32 2, .int .u32 3, .int .u32 4, .int .u32 6, .int .u16 7, .int .u16 8] 26)) w4.heap.size 26 #[.int .i64 5, .int .u32 1, .int .u32 2, .int .u32 3, .int .u32 4, .int .u32 6, .int .u16 7, .int .u16 8]) := Lib.hid (Blk.new _ _ _)
  go_wp2_with fail
  generalize w4.alloc (.cells #[.int .i64 5, .int .u32 1, .int .u32 2, .int .u32 3, .int .u32 4, .int .u32 6, .int .u16 7, .int .u16 8] 26) = w5 at B5 K5 O5 D5 ⊢
  generalize w4.heap.size = q5 at D5 ⊢
  have BN3 : Hid (Below w5.heap.size w5 (marked (w5.alloc (.cells #[.int .u8 107] 5)) w5.heap.size)) := Lib.hid (below_marked (below_new w5 (.cells #[.int .u8 107] 5)) _ (Nat.le_refl _))
  have BM3 : Hid (Below w.heap.size w (marked (w5.alloc (.cells #[.int .u8 107] 5)) w5.heap.size)) := Lib.hid (below_then B5.out (Nat.le_refl _) BN3.out)
  have KM3 : Hid (Blk (marked (w5.alloc (.cells #[.int .u8 107] 5)) w5.heap.size) w.heap.size 26 #[.int .i64 5, .int .u32 1, .int .u32 2, .int .u32 3, .int .u32 4, .int .u32 6, .int .u16 7, .int .u16 8]) := Lib.hid (K5.out.below BN3.out K5.out.lt)
  have HM3 : Hid (Has (marked (w5.alloc (.cells #[.int .u8 107] 5)) w5.heap.size) w5.heap.size [107]) := Lib.hid (Has.marked (Has.mk_ w5 5 #[.int .u8 107] [107] (0, 0) _ rfl rfl) _)
  have LM3 : Hid (w5.heap.size < (marked (w5.alloc (.cells #[.int .u8 107] 5)) w5.heap.size).heap.size) := Lib.hid (by rw [size_marked, World.size_alloc]; exact Nat.lt_succ_self _)
  clear BN3
  have OM5 : Hid (Own8 (marked (w5.alloc (.cells #[.int .u8 107] 5)) w5.heap.size) 5 w.heap.size A2 64 c2 (wrC [107] ck0)) := Lib.hid (O5.out.below (below_marked (below_new w5 (.cells #[.int .u8 107] 5)) _ (Nat.le_refl _)) (Nat.le_refl _))
  have DM5 : Hid (Blk (marked (w5.alloc (.cells #[.int .u8 107] 5)) w5.heap.size) q5 26 #[.int .i64 5, .int .u32 1, .int .u32 2, .int .u32 3, .int .u32 4, .int .u32 6, .int .u16 7, .int .u16 8]) := Lib.hid (D5.out.below (below_marked (below_new w5 (.cells #[.int .u8 107] 5)) _ (Nat.le_refl _)) D5.out.lt)
  rw [← whole_eq 4]
  go_wp2_with fail
  generalize (marked (w5.alloc (.cells #[.int .u8 107] 5)) w5.heap.size) = v5 at HM3 BM3 KM3 LM3 OM5 DM5 ⊢
  generalize w5.heap.size = p5 at HM3 LM3 ⊢
  refine (readN_w v5 p5 (HT.out.below BM3.out h2) HM3.out LM3.out).mono ?_
  rintro e w6 ⟨rfl, hb6⟩
  have B6 := Lib.hid (below_then BM3.out (Nat.le_refl _) hb6)
  have K6 := Lib.hid (KM3.out.below hb6 KM3.out.lt)
  have O6 := Lib.hid (OM5.out.below hb6 (Nat.le_refl _))
  have D6 := Lib.hid (DM5.out.below hb6 DM5.out.lt)
  clear hb6
  have B7 := Lib.hid (B6.out.alloc B6.out.size (.cells #[.int .i64 0, .int .u32 0, .int .u32 0, .int .u32 0, .int .u32 0, .int .u32 0, .int .u16 0, .int .u16 0] 26))
  have K7 := Lib.hid (K6.out.alloc (.cells #[.int .i64 0, .int .u32 0, .int .u32 0, .int .u32 0, .int .u32 0, .int .u32 0, .int .u16 0, .int .u16 0] 26))
  have O7 := Lib.hid (O6.out.alloc (.cells #[.int .i64 0, .int .u32 0, .int .u32 0, .int .u32 0, .int .u32 0, .int .u32 0, .int .u16 0, .int .u16 0] 26))
  have D7 := Lib.hid (D6.out.alloc (.cells #[.int .i64 0, .int .u32 0, .int .u32 0, .int .u32 0, .int .u32 0, .int .u32 0, .int .u16 0, .int .u16 0] 26))
  go_wp2_with fail
  generalize w6.alloc (.cells #[.int .i64 0, .int .u32 0, .int .u32 0, .int .u32 0, .int .u32 0, .int .u32 0, .int .u16 0, .int .u16 0] 26) = w7 at B7 K7 O7 D7 ⊢
  generalize w6.heap.size = q7
  obtain ⟨b, q, rfl, hbl, hcx⟩ := O7.out.rd.at_ (by intro h; have := length_wrC [107] ck0; rw [h] at this; simp at this)
  have lw := length_wrC [107] ck0
  have c7 : w7.cell? ⟨b, q + 7, none⟩ = some (.int .u8 5) := by
    have := hcx 7 (by rw [lw]; omega)
    have e : (wrC [107] ck0)[7]'(by rw [lw]; omega) = 5 := by have := wr0_7; rw [List.getElem?_eq_getElem (by rw [lw]; omega)] at this; exact Option.some.inj this
    rw [e] at this
    exact this
  have c31 : w7.cell? ⟨b, q + 31, none⟩ = some (.int .u8 8) := by
    have := hcx 31 (by rw [lw]; omega)
    have e : (wrC [107] ck0)[31]'(by rw [lw]; omega) = 8 := by have := wr0_31; rw [List.getElem?_eq_getElem (by rw [lw]; omega)] at this; exact Option.some.inj this
    rw [e] at this
    exact this
  clear hcx lw hbl
  have j0 : w7.cell? ⟨w.heap.size, 0, none⟩ = some (.int .i64 5) := K7.out.cell 0
  have j1 : w7.cell? ⟨w.heap.size, 1, none⟩ = some (.int .u32 1) := K7.out.cell 1
  have j2 : w7.cell? ⟨w.heap.size, 2, none⟩ = some (.int .u32 2) := K7.out.cell 2
  have j3 : w7.cell? ⟨w.heap.size, 3, none⟩ = some (.int .u32 3) := K7.out.cell 3
  have j4 : w7.cell? ⟨w.heap.size, 4, none⟩ = some (.int .u32 4) := K7.out.cell 4
  have j5 : w7.cell? ⟨w.heap.size, 5, none⟩ = some (.int .u32 6) := K7.out.cell 5
  have j6 : w7.cell? ⟨w.heap.size, 6, none⟩ = some (.int .u16 7) := K7.out.cell 6
  have j7 : w7.cell? ⟨w.heap.size, 7, none⟩ = some (.int .u16 8) := K7.out.cell 7
  have d0 : w7.cell? ⟨q5, 0, none⟩ = some (.int .i64 5) := D7.out.cell 0
  have d1 : w7.cell? ⟨q5, 1, none⟩ = some (.int .u32 1) := D7.out.cell 1
  have d2 : w7.cell? ⟨q5, 2, none⟩ = some (.int .u32 2) := D7.out.cell 2
  have d3 : w7.cell? ⟨q5, 3, none⟩ = some (.int .u32 3) := D7.out.cell 3
  have d4 : w7.cell? ⟨q5, 4, none⟩ = some (.int .u32 4) := D7.out.cell 4
  have d5 : w7.cell? ⟨q5, 5, none⟩ = some (.int .u32 6) := D7.out.cell 5
  have d6 : w7.cell? ⟨q5, 6, none⟩ = some (.int .u16 7) := D7.out.cell 6
  have d7 : w7.cell? ⟨q5, 7, none⟩ = some (.int .u16 8) := D7.out.cell 7
  rw [← whole_eq 5]
  go_wp2_with fail
  refine (fresh5_w w7).mono ?_
  rintro e w8 ⟨rfl, hb8⟩
  have B8 := Lib.hid (below_then B7.out (Nat.le_refl _) hb8)
  have K8 := Lib.hid (K7.out.below hb8 K7.out.lt)
  clear hb8 c7 c31 j0 j1 j2 j3 j4 j5 j6 j7 d0 d1 d2 d3 d4 d5 d6 d7
  have j0 : w8.cell? ⟨w.heap.size, 0, none⟩ = some (.int .i64 5) := K8.out.cell 0
  have j1 : w8.cell? ⟨w.heap.size, 1, none⟩ = some (.int .u32 1) := K8.out.cell 1
  have j2 : w8.cell? ⟨w.heap.size, 2, none⟩ = some (.int .u32 2) := K8.out.cell 2
  have j3 : w8.cell? ⟨w.heap.size, 3, none⟩ = some (.int .u32 3) := K8.out.cell 3
  have j4 : w8.cell? ⟨w.heap.size, 4, none⟩ = some (.int .u32 4) := K8.out.cell 4
  have j5 : w8.cell? ⟨w.heap.size, 5, none⟩ = some (.int .u32 6) := K8.out.cell 5
  have j6 : w8.cell? ⟨w.heap.size, 6, none⟩ = some (.int .u16 7) := K8.out.cell 6
  have j7 : w8.cell? ⟨w.heap.size, 7, none⟩ = some (.int .u16 8) := K8.out.cell 7
  go_wp2_with fail
  refine (fresh6_w w8).mono ?_
  rintro e w9 ⟨rfl, hb9⟩
  go_wp2_with fail
  go_ret
  exact ⟨rfl, below_then B8.out (Nat.le_refl _) hb9⟩

end Go.Proofs.YtnnkgdkjmmljiaaDoor
