/-
  Package cookie: CookieFields, walked.
-/
import Derived.Test.YtnnkgdkjmmljiaaDoorZCkL1
namespace Go.Proofs.YtnnkgdkjmmljiaaDoor
open Go.RowKit
set_option linter.unusedVariables false

theorem seg_at (pre m post : List UInt8) {lo len : Nat} (h1 : pre.length = lo) (h2 : m.length = len) : ((pre ++ (m ++ post)).drop lo).take len = m := by
  subst h1 h2
  rw [List.drop_left, List.take_left]
theorem seg_b (ks : List UInt8) (x : Ck) : ((wrC ks x).drop 0).take 8 = enc (toU x.b) 8 := by
  have h := seg_at ([]) (enc (toU x.b) 8) (enc (x.ot) 4 ++ (enc (x.pt) 4 ++ (enc (x.os) 4 ++ (enc (x.ps) 4 ++ (enc (x.rw) 4 ++ (enc (x.ou) 2 ++ (enc (x.inn) 2 ++ (mac ks (encC x))))))))) (lo := 0) (len := 8) (by simp) (length_enc _ _)
  rw [← h]
  congr 2
theorem fld_b {ks : List UInt8} {x y : Ck} (hx : x.Wf) (hy : y.Wf) : decide (((wrC ks x).drop 0).take 8 = ((wrC ks y).drop 0).take 8) = (x.b == y.b) := by
  rw [seg_b, seg_b, Bool.eq_iff_iff, decide_eq_true_iff, beq_iff_eq, enc_inj (toU_lt _) (toU_lt _), toU_inj hx.b hy.b]
theorem seg_ot (ks : List UInt8) (x : Ck) : ((wrC ks x).drop 8).take 4 = enc (x.ot) 4 := by
  have h := seg_at ([] ++ enc (toU x.b) 8) (enc (x.ot) 4) (enc (x.pt) 4 ++ (enc (x.os) 4 ++ (enc (x.ps) 4 ++ (enc (x.rw) 4 ++ (enc (x.ou) 2 ++ (enc (x.inn) 2 ++ (mac ks (encC x)))))))) (lo := 8) (len := 4) (by simp [length_enc]) (length_enc _ _)
  rw [← h]
  congr 2
theorem fld_ot {ks : List UInt8} {x y : Ck} (hx : x.Wf) (hy : y.Wf) : decide (((wrC ks x).drop 8).take 4 = ((wrC ks y).drop 8).take 4) = ((x.ot : Int) == (y.ot : Int)) := by
  rw [seg_ot, seg_ot, Bool.eq_iff_iff, decide_eq_true_iff, beq_iff_eq, enc_inj hx.ot hy.ot, Int.natCast_inj]
theorem seg_pt (ks : List UInt8) (x : Ck) : ((wrC ks x).drop 12).take 4 = enc (x.pt) 4 := by
  have h := seg_at ([] ++ enc (toU x.b) 8 ++ enc (x.ot) 4) (enc (x.pt) 4) (enc (x.os) 4 ++ (enc (x.ps) 4 ++ (enc (x.rw) 4 ++ (enc (x.ou) 2 ++ (enc (x.inn) 2 ++ (mac ks (encC x))))))) (lo := 12) (len := 4) (by simp [length_enc]) (length_enc _ _)
  rw [← h]
  congr 2
theorem fld_pt {ks : List UInt8} {x y : Ck} (hx : x.Wf) (hy : y.Wf) : decide (((wrC ks x).drop 12).take 4 = ((wrC ks y).drop 12).take 4) = ((x.pt : Int) == (y.pt : Int)) := by
  rw [seg_pt, seg_pt, Bool.eq_iff_iff, decide_eq_true_iff, beq_iff_eq, enc_inj hx.pt hy.pt, Int.natCast_inj]
theorem seg_os (ks : List UInt8) (x : Ck) : ((wrC ks x).drop 16).take 4 = enc (x.os) 4 := by
  have h := seg_at ([] ++ enc (toU x.b) 8 ++ enc (x.ot) 4 ++ enc (x.pt) 4) (enc (x.os) 4) (enc (x.ps) 4 ++ (enc (x.rw) 4 ++ (enc (x.ou) 2 ++ (enc (x.inn) 2 ++ (mac ks (encC x)))))) (lo := 16) (len := 4) (by simp [length_enc]) (length_enc _ _)
  rw [← h]
  congr 2
theorem fld_os {ks : List UInt8} {x y : Ck} (hx : x.Wf) (hy : y.Wf) : decide (((wrC ks x).drop 16).take 4 = ((wrC ks y).drop 16).take 4) = ((x.os : Int) == (y.os : Int)) := by
  rw [seg_os, seg_os, Bool.eq_iff_iff, decide_eq_true_iff, beq_iff_eq, enc_inj hx.os hy.os, Int.natCast_inj]
theorem seg_ps (ks : List UInt8) (x : Ck) : ((wrC ks x).drop 20).take 4 = enc (x.ps) 4 := by
  have h := seg_at ([] ++ enc (toU x.b) 8 ++ enc (x.ot) 4 ++ enc (x.pt) 4 ++ enc (x.os) 4) (enc (x.ps) 4) (enc (x.rw) 4 ++ (enc (x.ou) 2 ++ (enc (x.inn) 2 ++ (mac ks (encC x))))) (lo := 20) (len := 4) (by simp [length_enc]) (length_enc _ _)
  rw [← h]
  congr 2
theorem fld_ps {ks : List UInt8} {x y : Ck} (hx : x.Wf) (hy : y.Wf) : decide (((wrC ks x).drop 20).take 4 = ((wrC ks y).drop 20).take 4) = ((x.ps : Int) == (y.ps : Int)) := by
  rw [seg_ps, seg_ps, Bool.eq_iff_iff, decide_eq_true_iff, beq_iff_eq, enc_inj hx.ps hy.ps, Int.natCast_inj]
theorem seg_rw (ks : List UInt8) (x : Ck) : ((wrC ks x).drop 24).take 4 = enc (x.rw) 4 := by
  have h := seg_at ([] ++ enc (toU x.b) 8 ++ enc (x.ot) 4 ++ enc (x.pt) 4 ++ enc (x.os) 4 ++ enc (x.ps) 4) (enc (x.rw) 4) (enc (x.ou) 2 ++ (enc (x.inn) 2 ++ (mac ks (encC x)))) (lo := 24) (len := 4) (by simp [length_enc]) (length_enc _ _)
  rw [← h]
  congr 2
theorem fld_rw {ks : List UInt8} {x y : Ck} (hx : x.Wf) (hy : y.Wf) : decide (((wrC ks x).drop 24).take 4 = ((wrC ks y).drop 24).take 4) = ((x.rw : Int) == (y.rw : Int)) := by
  rw [seg_rw, seg_rw, Bool.eq_iff_iff, decide_eq_true_iff, beq_iff_eq, enc_inj hx.rw hy.rw, Int.natCast_inj]
theorem seg_ou (ks : List UInt8) (x : Ck) : ((wrC ks x).drop 28).take 2 = enc (x.ou) 2 := by
  have h := seg_at ([] ++ enc (toU x.b) 8 ++ enc (x.ot) 4 ++ enc (x.pt) 4 ++ enc (x.os) 4 ++ enc (x.ps) 4 ++ enc (x.rw) 4) (enc (x.ou) 2) (enc (x.inn) 2 ++ (mac ks (encC x))) (lo := 28) (len := 2) (by simp [length_enc]) (length_enc _ _)
  rw [← h]
  congr 2
theorem fld_ou {ks : List UInt8} {x y : Ck} (hx : x.Wf) (hy : y.Wf) : decide (((wrC ks x).drop 28).take 2 = ((wrC ks y).drop 28).take 2) = ((x.ou : Int) == (y.ou : Int)) := by
  rw [seg_ou, seg_ou, Bool.eq_iff_iff, decide_eq_true_iff, beq_iff_eq, enc_inj hx.ou hy.ou, Int.natCast_inj]
theorem seg_inn (ks : List UInt8) (x : Ck) : ((wrC ks x).drop 30).take 2 = enc (x.inn) 2 := by
  have h := seg_at ([] ++ enc (toU x.b) 8 ++ enc (x.ot) 4 ++ enc (x.pt) 4 ++ enc (x.os) 4 ++ enc (x.ps) 4 ++ enc (x.rw) 4 ++ enc (x.ou) 2) (enc (x.inn) 2) (mac ks (encC x)) (lo := 30) (len := 2) (by simp [length_enc]) (length_enc _ _)
  rw [← h]
  congr 2
theorem fld_inn {ks : List UInt8} {x y : Ck} (hx : x.Wf) (hy : y.Wf) : decide (((wrC ks x).drop 30).take 2 = ((wrC ks y).drop 30).take 2) = ((x.inn : Int) == (y.inn : Int)) := by
  rw [seg_inn, seg_inn, Bool.eq_iff_iff, decide_eq_true_iff, beq_iff_eq, enc_inj hx.inn hy.inn, Int.natCast_inj]
set_option maxRecDepth 100000 in
set_option maxHeartbeats 4000000 in
theorem cookieFields_walk (A : Option Addr) (n c : Nat) (ks : List UInt8) (x y : Ck) (w : World) (hT : Tabs w) (hn : n ≤ c) (hc : c ≤ maxLen) (hx : ks.length = n) (hr : Rd w w.heap.size A ks) (hwx : x.Wf) (hwy : y.Wf) :
    Calls Tryd.prog 6 #[.slice A n c, .agg #[.int .i64 x.b, .int .u32 (x.ot : Int), .int .u32 (x.pt : Int), .int .u32 (x.os : Int), .int .u32 (x.ps : Int), .int .u32 (x.rw : Int), .int .u16 (x.ou : Int), .int .u16 (x.inn : Int)], .agg #[.int .i64 y.b, .int .u32 (y.ot : Int), .int .u32 (y.pt : Int), .int .u32 (y.os : Int), .int .u32 (y.ps : Int), .int .u32 (y.rw : Int), .int .u16 (y.ou : Int), .int .u16 (y.inn : Int)]] w fun e w' => e = .returned (.bool true) ∧ Below w.heap.size w w' := by
  have h2 := hT.2.2
  have HT := Lib.hid hT
  have HR := Lib.hid hr
  have HX := Lib.hid hx
  have HC := Lib.hid hc
  have HWX := Lib.hid hwx
  have HWY := Lib.hid hwy
  have K0 := Lib.hid ((Blk.new w 26 #[.int .i64 x.b, .int .u32 (x.ot : Int), .int .u32 (x.pt : Int), .int .u32 (x.os : Int), .int .u32 (x.ps : Int), .int .u32 (x.rw : Int), .int .u16 (x.ou : Int), .int .u16 (x.inn : Int)]).alloc (.cells #[.int .i64 y.b, .int .u32 (y.ot : Int), .int .u32 (y.pt : Int), .int .u32 (y.os : Int), .int .u32 (y.ps : Int), .int .u32 (y.rw : Int), .int .u16 (y.ou : Int), .int .u16 (y.inn : Int)] 26))
  have N0 : Hid (Blk ((w.alloc (.cells #[.int .i64 x.b, .int .u32 (x.ot : Int), .int .u32 (x.pt : Int), .int .u32 (x.os : Int), .int .u32 (x.ps : Int), .int .u32 (x.rw : Int), .int .u16 (x.ou : Int), .int .u16 (x.inn : Int)] 26)).alloc (.cells #[.int .i64 y.b, .int .u32 (y.ot : Int), .int .u32 (y.pt : Int), .int .u32 (y.os : Int), .int .u32 (y.ps : Int), .int .u32 (y.rw : Int), .int .u16 (y.ou : Int), .int .u16 (y.inn : Int)] 26)) (w.heap.size + 1) 26 #[.int .i64 y.b, .int .u32 (y.ot : Int), .int .u32 (y.pt : Int), .int .u32 (y.os : Int), .int .u32 (y.ps : Int), .int .u32 (y.rw : Int), .int .u16 (y.ou : Int), .int .u16 (y.inn : Int)]) := Lib.hid (by simpa using Blk.new (w.alloc (.cells #[.int .i64 x.b, .int .u32 (x.ot : Int), .int .u32 (x.pt : Int), .int .u32 (x.os : Int), .int .u32 (x.ps : Int), .int .u32 (x.rw : Int), .int .u16 (x.ou : Int), .int .u16 (x.inn : Int)] 26)) 26 #[.int .i64 y.b, .int .u32 (y.ot : Int), .int .u32 (y.pt : Int), .int .u32 (y.os : Int), .int .u32 (y.ps : Int), .int .u32 (y.rw : Int), .int .u16 (y.ou : Int), .int .u16 (y.inn : Int)])
  have B0 := Lib.hid ((below_new w (.cells #[.int .i64 x.b, .int .u32 (x.ot : Int), .int .u32 (x.pt : Int), .int .u32 (x.os : Int), .int .u32 (x.ps : Int), .int .u32 (x.rw : Int), .int .u16 (x.ou : Int), .int .u16 (x.inn : Int)] 26)).alloc (below_new w (.cells #[.int .i64 x.b, .int .u32 (x.ot : Int), .int .u32 (x.pt : Int), .int .u32 (x.os : Int), .int .u32 (x.ps : Int), .int .u32 (x.rw : Int), .int .u16 (x.ou : Int), .int .u16 (x.inn : Int)] 26)).size (.cells #[.int .i64 y.b, .int .u32 (y.ot : Int), .int .u32 (y.pt : Int), .int .u32 (y.os : Int), .int .u32 (y.ps : Int), .int .u32 (y.rw : Int), .int .u16 (y.ou : Int), .int .u16 (y.inn : Int)] 26))
  clear hT hx hr hc hwx hwy
  by_cases hbig : 4096 < n
  · have hb : decide ((n : Int) > 4096) = true := by simp; omega
    go_enter Tryd.func6, Tryd.ntmps6
    go_wp2_with fail
    generalize (w.alloc (.cells #[.int .i64 x.b, .int .u32 (x.ot : Int), .int .u32 (x.pt : Int), .int .u32 (x.os : Int), .int .u32 (x.ps : Int), .int .u32 (x.rw : Int), .int .u16 (x.ou : Int), .int .u16 (x.inn : Int)] 26)).alloc (.cells #[.int .i64 y.b, .int .u32 (y.ot : Int), .int .u32 (y.pt : Int), .int .u32 (y.os : Int), .int .u32 (y.ps : Int), .int .u32 (y.rw : Int), .int .u16 (y.ou : Int), .int .u16 (y.inn : Int)] 26) = w0 at B0 ⊢
    refine (ckWorks_any w0 (HT.out.below B0.out h2)).mono ?_
    rintro e w9 ⟨rfl, hb9⟩
    go_wp2_with fail
    go_ret
    exact ⟨rfl, below_then B0.out (Nat.le_refl _) hb9⟩
  have hb : decide ((n : Int) > 4096) = false := by simp; omega
  go_enter Tryd.func6, Tryd.ntmps6
  rw [whole_eq 3, whole_eq 4, whole_eq 5, whole_eq 8, drawn_eq 13]
  go_wp2_with fail
  generalize (w.alloc (.cells #[.int .i64 x.b, .int .u32 (x.ot : Int), .int .u32 (x.pt : Int), .int .u32 (x.os : Int), .int .u32 (x.ps : Int), .int .u32 (x.rw : Int), .int .u16 (x.ou : Int), .int .u16 (x.inn : Int)] 26)).alloc (.cells #[.int .i64 y.b, .int .u32 (y.ot : Int), .int .u32 (y.pt : Int), .int .u32 (y.os : Int), .int .u32 (y.ps : Int), .int .u32 (y.rw : Int), .int .u16 (y.ou : Int), .int .u16 (y.inn : Int)] 26) = w0 at K0 N0 B0 ⊢
  obtain ⟨z, hz1⟩ : ∃ z, z = w.heap.size + 1 := ⟨_, rfl⟩
  rw [← hz1] at N0
  rw [← hz1]
  clear hz1
  have j0 : w0.cell? ⟨w.heap.size, 0, none⟩ = some (.int .i64 x.b) := K0.out.cell 0
  have j1 : w0.cell? ⟨w.heap.size, 1, none⟩ = some (.int .u32 (x.ot : Int)) := K0.out.cell 1
  have j2 : w0.cell? ⟨w.heap.size, 2, none⟩ = some (.int .u32 (x.pt : Int)) := K0.out.cell 2
  have j3 : w0.cell? ⟨w.heap.size, 3, none⟩ = some (.int .u32 (x.os : Int)) := K0.out.cell 3
  have j4 : w0.cell? ⟨w.heap.size, 4, none⟩ = some (.int .u32 (x.ps : Int)) := K0.out.cell 4
  have j5 : w0.cell? ⟨w.heap.size, 5, none⟩ = some (.int .u32 (x.rw : Int)) := K0.out.cell 5
  have j6 : w0.cell? ⟨w.heap.size, 6, none⟩ = some (.int .u16 (x.ou : Int)) := K0.out.cell 6
  have j7 : w0.cell? ⟨w.heap.size, 7, none⟩ = some (.int .u16 (x.inn : Int)) := K0.out.cell 7
  rw [← whole_eq 3]
  go_wp2_with fail
  clear j0 j1 j2 j3 j4 j5 j6 j7
  refine (ckWrite_any A n c ks x w0 (HT.out.below B0.out h2) hn HC.out HX.out ((HR.out.below B0.out).more B0.out.size) (by omega) HWX.out).mono ?_
  rintro e w1 ⟨A1, c1, rfl, ho1, hb1⟩
  have B1 := Lib.hid (below_then B0.out (Nat.le_refl _) hb1)
  have K1 := Lib.hid (K0.out.below hb1 K0.out.lt)
  have N1 := Lib.hid (N0.out.below hb1 N0.out.lt)
  have O1 := Lib.hid (ho1.more B0.out.size)
  clear ho1 hb1 K0 N0 B0
  go_wp2_with fail
  have j0 : w1.cell? ⟨z, 0, none⟩ = some (.int .i64 y.b) := N1.out.cell 0
  have j1 : w1.cell? ⟨z, 1, none⟩ = some (.int .u32 (y.ot : Int)) := N1.out.cell 1
  have j2 : w1.cell? ⟨z, 2, none⟩ = some (.int .u32 (y.pt : Int)) := N1.out.cell 2
  have j3 : w1.cell? ⟨z, 3, none⟩ = some (.int .u32 (y.os : Int)) := N1.out.cell 3
  have j4 : w1.cell? ⟨z, 4, none⟩ = some (.int .u32 (y.ps : Int)) := N1.out.cell 4
  have j5 : w1.cell? ⟨z, 5, none⟩ = some (.int .u32 (y.rw : Int)) := N1.out.cell 5
  have j6 : w1.cell? ⟨z, 6, none⟩ = some (.int .u16 (y.ou : Int)) := N1.out.cell 6
  have j7 : w1.cell? ⟨z, 7, none⟩ = some (.int .u16 (y.inn : Int)) := N1.out.cell 7
  rw [← whole_eq 4]
  go_wp2_with fail
  clear j0 j1 j2 j3 j4 j5 j6 j7
  refine (ckWrite_any A n c ks y w1 (HT.out.below B1.out h2) hn HC.out HX.out ((HR.out.below B1.out).more B1.out.size) (by omega) HWY.out).mono ?_
  rintro e w2 ⟨A2, c2, rfl, ho2, hb2⟩
  have B2 := Lib.hid (below_then B1.out (Nat.le_refl _) hb2)
  have K2 := Lib.hid (K1.out.below hb2 K1.out.lt)
  have N2 := Lib.hid (N1.out.below hb2 N1.out.lt)
  have O2 := Lib.hid (O1.out.below hb2 (Nat.le_refl _))
  have P2 := Lib.hid (ho2.more B1.out.size)
  clear ho2 hb2 K1 N1 B1 O1
  have hcx := O2.out.cap
  have hcy := P2.out.cap
  obtain ⟨V, hV⟩ : ∃ V, V = wrC ks x := ⟨_, rfl⟩
  obtain ⟨U, hU⟩ : ∃ U, U = wrC ks y := ⟨_, rfl⟩
  have HV := Lib.hid hV
  have HU := Lib.hid hU
  rw [← hV] at O2
  rw [← hU] at P2
  clear hV hU
  have E3 : Hid (Blk (w2.alloc (.cells #[.int .i64 8, .int .i64 12, .int .i64 16, .int .i64 20, .int .i64 24, .int .i64 28, .int .i64 30, .int .i64 32] 3)) w2.heap.size 3 #[.int .i64 8, .int .i64 12, .int .i64 16, .int .i64 20, .int .i64 24, .int .i64 28, .int .i64 30, .int .i64 32]) := Lib.hid (Blk.new _ _ _)
  have B3 := Lib.hid (B2.out.alloc B2.out.size (.cells #[.int .i64 8, .int .i64 12, .int .i64 16, .int .i64 20, .int .i64 24, .int .i64 28, .int .i64 30, .int .i64 32] 3))
  have K3 := Lib.hid (K2.out.alloc (.cells #[.int .i64 8, .int .i64 12, .int .i64 16, .int .i64 20, .int .i64 24, .int .i64 28, .int .i64 30, .int .i64 32] 3))
  have N3 := Lib.hid (N2.out.alloc (.cells #[.int .i64 8, .int .i64 12, .int .i64 16, .int .i64 20, .int .i64 24, .int .i64 28, .int .i64 30, .int .i64 32] 3))
  have O3 := Lib.hid (O2.out.alloc (.cells #[.int .i64 8, .int .i64 12, .int .i64 16, .int .i64 20, .int .i64 24, .int .i64 28, .int .i64 30, .int .i64 32] 3))
  have P3 := Lib.hid (P2.out.alloc (.cells #[.int .i64 8, .int .i64 12, .int .i64 16, .int .i64 20, .int .i64 24, .int .i64 28, .int .i64 30, .int .i64 32] 3))
  clear B2 K2 N2 O2 P2
  go_wp2_with fail
  rw [← whole_eq 5]
  go_wp2_with fail
  generalize w2.alloc (.cells #[.int .i64 8, .int .i64 12, .int .i64 16, .int .i64 20, .int .i64 24, .int .i64 28, .int .i64 30, .int .i64 32] 3) = w3 at E3 B3 K3 N3 O3 P3 ⊢
  generalize w2.heap.size = p3 at E3 ⊢
  have j0 : w3.cell? ⟨w.heap.size, 0, none⟩ = some (.int .i64 x.b) := K3.out.cell 0
  have j1 : w3.cell? ⟨w.heap.size, 1, none⟩ = some (.int .u32 (x.ot : Int)) := K3.out.cell 1
  have j2 : w3.cell? ⟨w.heap.size, 2, none⟩ = some (.int .u32 (x.pt : Int)) := K3.out.cell 2
  have j3 : w3.cell? ⟨w.heap.size, 3, none⟩ = some (.int .u32 (x.os : Int)) := K3.out.cell 3
  have j4 : w3.cell? ⟨w.heap.size, 4, none⟩ = some (.int .u32 (x.ps : Int)) := K3.out.cell 4
  have j5 : w3.cell? ⟨w.heap.size, 5, none⟩ = some (.int .u32 (x.rw : Int)) := K3.out.cell 5
  have j6 : w3.cell? ⟨w.heap.size, 6, none⟩ = some (.int .u16 (x.ou : Int)) := K3.out.cell 6
  have j7 : w3.cell? ⟨w.heap.size, 7, none⟩ = some (.int .u16 (x.inn : Int)) := K3.out.cell 7
  have d0 : w3.cell? ⟨z, 0, none⟩ = some (.int .i64 y.b) := N3.out.cell 0
  have d1 : w3.cell? ⟨z, 1, none⟩ = some (.int .u32 (y.ot : Int)) := N3.out.cell 1
  have d2 : w3.cell? ⟨z, 2, none⟩ = some (.int .u32 (y.pt : Int)) := N3.out.cell 2
  have d3 : w3.cell? ⟨z, 3, none⟩ = some (.int .u32 (y.os : Int)) := N3.out.cell 3
  have d4 : w3.cell? ⟨z, 4, none⟩ = some (.int .u32 (y.ps : Int)) := N3.out.cell 4
  have d5 : w3.cell? ⟨z, 5, none⟩ = some (.int .u32 (y.rw : Int)) := N3.out.cell 5
  have d6 : w3.cell? ⟨z, 6, none⟩ = some (.int .u16 (y.ou : Int)) := N3.out.cell 6
  have d7 : w3.cell? ⟨z, 7, none⟩ = some (.int .u16 (y.inn : Int)) := N3.out.cell 7
  rw [← whole_eq 8]
  go_wp2_with fail
  clear j0 j1 j2 j3 j4 j5 j6 j7 d0 d1 d2 d3 d4 d5 d6 d7
  have HQ0 : Hid (decide ((V.drop 0).take 8 = (U.drop 0).take 8) = (x.b == y.b)) := Lib.hid (by rw [HV.out, HU.out]; exact fld_b HWX.out HWY.out)
  have HQ1 : Hid (decide ((V.drop 8).take 4 = (U.drop 8).take 4) = ((x.ot : Int) == (y.ot : Int))) := Lib.hid (by rw [HV.out, HU.out]; exact fld_ot HWX.out HWY.out)
  have HQ2 : Hid (decide ((V.drop 12).take 4 = (U.drop 12).take 4) = ((x.pt : Int) == (y.pt : Int))) := Lib.hid (by rw [HV.out, HU.out]; exact fld_pt HWX.out HWY.out)
  have HQ3 : Hid (decide ((V.drop 16).take 4 = (U.drop 16).take 4) = ((x.os : Int) == (y.os : Int))) := Lib.hid (by rw [HV.out, HU.out]; exact fld_os HWX.out HWY.out)
  have HQ4 : Hid (decide ((V.drop 20).take 4 = (U.drop 20).take 4) = ((x.ps : Int) == (y.ps : Int))) := Lib.hid (by rw [HV.out, HU.out]; exact fld_ps HWX.out HWY.out)
  have HQ5 : Hid (decide ((V.drop 24).take 4 = (U.drop 24).take 4) = ((x.rw : Int) == (y.rw : Int))) := Lib.hid (by rw [HV.out, HU.out]; exact fld_rw HWX.out HWY.out)
  have HQ6 : Hid (decide ((V.drop 28).take 2 = (U.drop 28).take 2) = ((x.ou : Int) == (y.ou : Int))) := Lib.hid (by rw [HV.out, HU.out]; exact fld_ou HWX.out HWY.out)
  have HQ7 : Hid (decide ((V.drop 30).take 2 = (U.drop 30).take 2) = ((x.inn : Int) == (y.inn : Int))) := Lib.hid (by rw [HV.out, HU.out]; exact fld_inn HWX.out HWY.out)
  have F4 : Hid (Blk (w3.alloc (.cells #[.bool (x.b == y.b), .bool ((x.ot : Int) == (y.ot : Int)), .bool ((x.pt : Int) == (y.pt : Int)), .bool ((x.os : Int) == (y.os : Int)), .bool ((x.ps : Int) == (y.ps : Int)), .bool ((x.rw : Int) == (y.rw : Int)), .bool ((x.ou : Int) == (y.ou : Int)), .bool ((x.inn : Int) == (y.inn : Int))] 4)) w3.heap.size 4 #[.bool (x.b == y.b), .bool ((x.ot : Int) == (y.ot : Int)), .bool ((x.pt : Int) == (y.pt : Int)), .bool ((x.os : Int) == (y.os : Int)), .bool ((x.ps : Int) == (y.ps : Int)), .bool ((x.rw : Int) == (y.rw : Int)), .bool ((x.ou : Int) == (y.ou : Int)), .bool ((x.inn : Int) == (y.inn : Int))]) := Lib.hid (Blk.new _ _ _)
  have E4 := Lib.hid (E3.out.alloc (.cells #[.bool (x.b == y.b), .bool ((x.ot : Int) == (y.ot : Int)), .bool ((x.pt : Int) == (y.pt : Int)), .bool ((x.os : Int) == (y.os : Int)), .bool ((x.ps : Int) == (y.ps : Int)), .bool ((x.rw : Int) == (y.rw : Int)), .bool ((x.ou : Int) == (y.ou : Int)), .bool ((x.inn : Int) == (y.inn : Int))] 4))
  have B4 := Lib.hid (B3.out.alloc B3.out.size (.cells #[.bool (x.b == y.b), .bool ((x.ot : Int) == (y.ot : Int)), .bool ((x.pt : Int) == (y.pt : Int)), .bool ((x.os : Int) == (y.os : Int)), .bool ((x.ps : Int) == (y.ps : Int)), .bool ((x.rw : Int) == (y.rw : Int)), .bool ((x.ou : Int) == (y.ou : Int)), .bool ((x.inn : Int) == (y.inn : Int))] 4))
  have O4 := Lib.hid (O3.out.alloc (.cells #[.bool (x.b == y.b), .bool ((x.ot : Int) == (y.ot : Int)), .bool ((x.pt : Int) == (y.pt : Int)), .bool ((x.os : Int) == (y.os : Int)), .bool ((x.ps : Int) == (y.ps : Int)), .bool ((x.rw : Int) == (y.rw : Int)), .bool ((x.ou : Int) == (y.ou : Int)), .bool ((x.inn : Int) == (y.inn : Int))] 4))
  have P4 := Lib.hid (P3.out.alloc (.cells #[.bool (x.b == y.b), .bool ((x.ot : Int) == (y.ot : Int)), .bool ((x.pt : Int) == (y.pt : Int)), .bool ((x.os : Int) == (y.os : Int)), .bool ((x.ps : Int) == (y.ps : Int)), .bool ((x.rw : Int) == (y.rw : Int)), .bool ((x.ou : Int) == (y.ou : Int)), .bool ((x.inn : Int) == (y.inn : Int))] 4))
  clear E3 B3 K3 N3 O3 P3
  generalize w3.alloc (.cells #[.bool (x.b == y.b), .bool ((x.ot : Int) == (y.ot : Int)), .bool ((x.pt : Int) == (y.pt : Int)), .bool ((x.os : Int) == (y.os : Int)), .bool ((x.ps : Int) == (y.ps : Int)), .bool ((x.rw : Int) == (y.rw : Int)), .bool ((x.ou : Int) == (y.ou : Int)), .bool ((x.inn : Int) == (y.inn : Int))] 4) = u0 at F4 E4 B4 O4 P4 ⊢
  generalize w3.heap.size = p4 at F4 ⊢
  generalize (x.b == y.b) = q0 at F4 HQ0 ⊢
  generalize ((x.ot : Int) == (y.ot : Int)) = q1 at F4 HQ1 ⊢
  generalize ((x.pt : Int) == (y.pt : Int)) = q2 at F4 HQ2 ⊢
  generalize ((x.os : Int) == (y.os : Int)) = q3 at F4 HQ3 ⊢
  generalize ((x.ps : Int) == (y.ps : Int)) = q4 at F4 HQ4 ⊢
  generalize ((x.rw : Int) == (y.rw : Int)) = q5 at F4 HQ5 ⊢
  generalize ((x.ou : Int) == (y.ou : Int)) = q6 at F4 HQ6 ⊢
  generalize ((x.inn : Int) == (y.inn : Int)) = q7 at F4 HQ7 ⊢
  have hVl : V.length = 64 := by rw [HV.out, length_wrC]
  have hUl : U.length = 64 := by rw [HU.out, length_wrC]
  obtain ⟨g1, o1, rfl, hb1, _⟩ := O4.out.rd.at_ (by rintro rfl; simp at hVl)
  obtain ⟨g2, o2, rfl, hb2, _⟩ := P4.out.rd.at_ (by rintro rfl; simp at hUl)
  have RV := Lib.hid O4.out.rd
  have RU := Lib.hid P4.out.rd
  have HVl := Lib.hid hVl
  have HUl := Lib.hid hUl
  have n11 : ¬ c1 = 8 := by omega
  have n12 : ¬ c2 = 8 := by omega
  have n21 : ¬ c1 = 12 := by omega
  have n22 : ¬ c2 = 12 := by omega
  have n31 : ¬ c1 = 16 := by omega
  have n32 : ¬ c2 = 16 := by omega
  have n41 : ¬ c1 = 20 := by omega
  have n42 : ¬ c2 = 20 := by omega
  have n51 : ¬ c1 = 24 := by omega
  have n52 : ¬ c2 = 24 := by omega
  have n61 : ¬ c1 = 28 := by omega
  have n62 : ¬ c2 = 28 := by omega
  have n71 : ¬ c1 = 30 := by omega
  have n72 : ¬ c2 = 30 := by omega
  have hi1 : (64 : Int) ≤ (c1 : Int) := by omega
  have hi2 : (64 : Int) ≤ (c2 : Int) := by omega
  clear hVl hUl hb1 hb2 O4 P4 HV HU
  have HSEG : Hid (∀ (W : World) (lo len : Nat) (q : Bool), W.heap = u0.heap → lo + len ≤ 64 → decide ((V.drop lo).take len = (U.drop lo).take len) = q → Calls Tryd.prog 11 #[.slice (some ⟨g1, o1 + lo, none⟩) len (c1 - lo : Nat), .slice (some ⟨g2, o2 + lo, none⟩) len (c2 - lo : Nat)] W fun e w' => e = .returned (.bool q) ∧ w' = W) := Lib.hid fun W lo len q hW hle hq => by
    have r1 := (RV.out.cut lo len).heap_ hW
    have r2 := (RU.out.cut lo len).heap_ hW
    rw [Option.map_some, Addr.add_lit] at r1 r2
    have h := sameL_any (some ⟨g1, o1 + lo, none⟩) (some ⟨g2, o2 + lo, none⟩) len len (c1 - lo) (c2 - lo) _ _ W (by rw [List.length_take, List.length_drop, HVl.out]; omega) (by rw [List.length_take, List.length_drop, HUl.out]; omega) _ _ r1 r2
    rw [hq] at h
    exact h.mono fun _ _ ⟨a, b⟩ => ⟨a, b.symm⟩
  refine wp_loop_rounds 9 ?_
  rw [rounds_succ]
  have fe : u0.cell? ⟨p3, 0, none⟩ = some (.int .i64 8) := E4.out.cell 0
  have fo : u0.cell? ⟨p4, 0, none⟩ = some (.bool q0) := F4.out.cell 0
  have HS : Hid (∀ n : Nat, Calls Tryd.prog 11 #[.slice (some ⟨g1, o1, none⟩) 8 c1, .slice (some ⟨g2, o2, none⟩) 8 c2] (u0.drewN n) fun e w' => e = .returned (.bool q0) ∧ w' = u0.drewN n) := Lib.hid fun n => HSEG.out (u0.drewN n) 0 8 q0 rfl (by omega) HQ0.out
  go_wp2_with fail
  rw [← drawn_eq 13]
  go_quiet ((go_at_call 11; exact Calls.quiet_of_same (HS.out _)))
  have HH1 : Hid ((u0.drewN nq).heap = u0.heap) := Lib.hid rfl
  have Bu1 : Hid (Below w.heap.size w (u0.drewN nq)) := Lib.hid (below_drewN B4.out nq)
  clear HS fe fo
  generalize u0.drewN nq = u1 at HH1 Bu1 ⊢
  have fe : u1.cell? ⟨p3, 0, none⟩ = some (.int .i64 8) := by
    have h : u1.cell? ⟨p3, 0, none⟩ = u0.cell? ⟨p3, 0, none⟩ := by simp only [World.cell?, HH1.out]
    rw [h]
    exact E4.out.cell 0
  go_wp2_with fail
  clear fe
  rw [rounds_succ]
  have fe : u1.cell? ⟨p3, 1, none⟩ = some (.int .i64 12) := by
    have h : u1.cell? ⟨p3, 1, none⟩ = u0.cell? ⟨p3, 1, none⟩ := by simp only [World.cell?, HH1.out]
    rw [h]
    exact E4.out.cell 1
  have fo : u1.cell? ⟨p4, 1, none⟩ = some (.bool q1) := by
    have h : u1.cell? ⟨p4, 1, none⟩ = u0.cell? ⟨p4, 1, none⟩ := by simp only [World.cell?, HH1.out]
    rw [h]
    exact F4.out.cell 1
  have HS : Hid (∀ n : Nat, Calls Tryd.prog 11 #[.slice (some ⟨g1, o1 + 8, none⟩) 4 (c1 - 8 : Nat), .slice (some ⟨g2, o2 + 8, none⟩) 4 (c2 - 8 : Nat)] (u1.drewN n) fun e w' => e = .returned (.bool q1) ∧ w' = u1.drewN n) := Lib.hid fun n => HSEG.out (u1.drewN n) 8 4 q1 HH1.out (by omega) HQ1.out
  go_wp2_with fail
  rw [← drawn_eq 13]
  go_quiet ((go_at_call 11; exact Calls.quiet_of_same (HS.out _)))
  have HH2 : Hid ((u1.drewN nq).heap = u0.heap) := Lib.hid HH1.out
  have Bu2 : Hid (Below w.heap.size w (u1.drewN nq)) := Lib.hid (below_drewN Bu1.out nq)
  clear HS fe fo
  generalize u1.drewN nq = u2 at HH2 Bu2 ⊢
  have fe : u2.cell? ⟨p3, 1, none⟩ = some (.int .i64 12) := by
    have h : u2.cell? ⟨p3, 1, none⟩ = u0.cell? ⟨p3, 1, none⟩ := by simp only [World.cell?, HH2.out]
    rw [h]
    exact E4.out.cell 1
  go_wp2_with fail
  clear fe
  rw [rounds_succ]
  have fe : u2.cell? ⟨p3, 2, none⟩ = some (.int .i64 16) := by
    have h : u2.cell? ⟨p3, 2, none⟩ = u0.cell? ⟨p3, 2, none⟩ := by simp only [World.cell?, HH2.out]
    rw [h]
    exact E4.out.cell 2
  have fo : u2.cell? ⟨p4, 2, none⟩ = some (.bool q2) := by
    have h : u2.cell? ⟨p4, 2, none⟩ = u0.cell? ⟨p4, 2, none⟩ := by simp only [World.cell?, HH2.out]
    rw [h]
    exact F4.out.cell 2
  have HS : Hid (∀ n : Nat, Calls Tryd.prog 11 #[.slice (some ⟨g1, o1 + 12, none⟩) 4 (c1 - 12 : Nat), .slice (some ⟨g2, o2 + 12, none⟩) 4 (c2 - 12 : Nat)] (u2.drewN n) fun e w' => e = .returned (.bool q2) ∧ w' = u2.drewN n) := Lib.hid fun n => HSEG.out (u2.drewN n) 12 4 q2 HH2.out (by omega) HQ2.out
  go_wp2_with fail
  rw [← drawn_eq 13]
  go_quiet ((go_at_call 11; exact Calls.quiet_of_same (HS.out _)))
  have HH3 : Hid ((u2.drewN nq).heap = u0.heap) := Lib.hid HH2.out
  have Bu3 : Hid (Below w.heap.size w (u2.drewN nq)) := Lib.hid (below_drewN Bu2.out nq)
  clear HS fe fo
  generalize u2.drewN nq = u3 at HH3 Bu3 ⊢
  have fe : u3.cell? ⟨p3, 2, none⟩ = some (.int .i64 16) := by
    have h : u3.cell? ⟨p3, 2, none⟩ = u0.cell? ⟨p3, 2, none⟩ := by simp only [World.cell?, HH3.out]
    rw [h]
    exact E4.out.cell 2
  go_wp2_with fail
  clear fe
  rw [rounds_succ]
  have fe : u3.cell? ⟨p3, 3, none⟩ = some (.int .i64 20) := by
    have h : u3.cell? ⟨p3, 3, none⟩ = u0.cell? ⟨p3, 3, none⟩ := by simp only [World.cell?, HH3.out]
    rw [h]
    exact E4.out.cell 3
  have fo : u3.cell? ⟨p4, 3, none⟩ = some (.bool q3) := by
    have h : u3.cell? ⟨p4, 3, none⟩ = u0.cell? ⟨p4, 3, none⟩ := by simp only [World.cell?, HH3.out]
    rw [h]
    exact F4.out.cell 3
  have HS : Hid (∀ n : Nat, Calls Tryd.prog 11 #[.slice (some ⟨g1, o1 + 16, none⟩) 4 (c1 - 16 : Nat), .slice (some ⟨g2, o2 + 16, none⟩) 4 (c2 - 16 : Nat)] (u3.drewN n) fun e w' => e = .returned (.bool q3) ∧ w' = u3.drewN n) := Lib.hid fun n => HSEG.out (u3.drewN n) 16 4 q3 HH3.out (by omega) HQ3.out
  go_wp2_with fail
  rw [← drawn_eq 13]
  go_quiet ((go_at_call 11; exact Calls.quiet_of_same (HS.out _)))
  have HH4 : Hid ((u3.drewN nq).heap = u0.heap) := Lib.hid HH3.out
  have Bu4 : Hid (Below w.heap.size w (u3.drewN nq)) := Lib.hid (below_drewN Bu3.out nq)
  clear HS fe fo
  generalize u3.drewN nq = u4 at HH4 Bu4 ⊢
  have fe : u4.cell? ⟨p3, 3, none⟩ = some (.int .i64 20) := by
    have h : u4.cell? ⟨p3, 3, none⟩ = u0.cell? ⟨p3, 3, none⟩ := by simp only [World.cell?, HH4.out]
    rw [h]
    exact E4.out.cell 3
  go_wp2_with fail
  clear fe
  rw [rounds_succ]
  have fe : u4.cell? ⟨p3, 4, none⟩ = some (.int .i64 24) := by
    have h : u4.cell? ⟨p3, 4, none⟩ = u0.cell? ⟨p3, 4, none⟩ := by simp only [World.cell?, HH4.out]
    rw [h]
    exact E4.out.cell 4
  have fo : u4.cell? ⟨p4, 4, none⟩ = some (.bool q4) := by
    have h : u4.cell? ⟨p4, 4, none⟩ = u0.cell? ⟨p4, 4, none⟩ := by simp only [World.cell?, HH4.out]
    rw [h]
    exact F4.out.cell 4
  have HS : Hid (∀ n : Nat, Calls Tryd.prog 11 #[.slice (some ⟨g1, o1 + 20, none⟩) 4 (c1 - 20 : Nat), .slice (some ⟨g2, o2 + 20, none⟩) 4 (c2 - 20 : Nat)] (u4.drewN n) fun e w' => e = .returned (.bool q4) ∧ w' = u4.drewN n) := Lib.hid fun n => HSEG.out (u4.drewN n) 20 4 q4 HH4.out (by omega) HQ4.out
  go_wp2_with fail
  rw [← drawn_eq 13]
  go_quiet ((go_at_call 11; exact Calls.quiet_of_same (HS.out _)))
  have HH5 : Hid ((u4.drewN nq).heap = u0.heap) := Lib.hid HH4.out
  have Bu5 : Hid (Below w.heap.size w (u4.drewN nq)) := Lib.hid (below_drewN Bu4.out nq)
  clear HS fe fo
  generalize u4.drewN nq = u5 at HH5 Bu5 ⊢
  have fe : u5.cell? ⟨p3, 4, none⟩ = some (.int .i64 24) := by
    have h : u5.cell? ⟨p3, 4, none⟩ = u0.cell? ⟨p3, 4, none⟩ := by simp only [World.cell?, HH5.out]
    rw [h]
    exact E4.out.cell 4
  go_wp2_with fail
  clear fe
  rw [rounds_succ]
  have fe : u5.cell? ⟨p3, 5, none⟩ = some (.int .i64 28) := by
    have h : u5.cell? ⟨p3, 5, none⟩ = u0.cell? ⟨p3, 5, none⟩ := by simp only [World.cell?, HH5.out]
    rw [h]
    exact E4.out.cell 5
  have fo : u5.cell? ⟨p4, 5, none⟩ = some (.bool q5) := by
    have h : u5.cell? ⟨p4, 5, none⟩ = u0.cell? ⟨p4, 5, none⟩ := by simp only [World.cell?, HH5.out]
    rw [h]
    exact F4.out.cell 5
  have HS : Hid (∀ n : Nat, Calls Tryd.prog 11 #[.slice (some ⟨g1, o1 + 24, none⟩) 4 (c1 - 24 : Nat), .slice (some ⟨g2, o2 + 24, none⟩) 4 (c2 - 24 : Nat)] (u5.drewN n) fun e w' => e = .returned (.bool q5) ∧ w' = u5.drewN n) := Lib.hid fun n => HSEG.out (u5.drewN n) 24 4 q5 HH5.out (by omega) HQ5.out
  go_wp2_with fail
  rw [← drawn_eq 13]
  go_quiet ((go_at_call 11; exact Calls.quiet_of_same (HS.out _)))
  have HH6 : Hid ((u5.drewN nq).heap = u0.heap) := Lib.hid HH5.out
  have Bu6 : Hid (Below w.heap.size w (u5.drewN nq)) := Lib.hid (below_drewN Bu5.out nq)
  clear HS fe fo
  generalize u5.drewN nq = u6 at HH6 Bu6 ⊢
  have fe : u6.cell? ⟨p3, 5, none⟩ = some (.int .i64 28) := by
    have h : u6.cell? ⟨p3, 5, none⟩ = u0.cell? ⟨p3, 5, none⟩ := by simp only [World.cell?, HH6.out]
    rw [h]
    exact E4.out.cell 5
  go_wp2_with fail
  clear fe
  rw [rounds_succ]
  have fe : u6.cell? ⟨p3, 6, none⟩ = some (.int .i64 30) := by
    have h : u6.cell? ⟨p3, 6, none⟩ = u0.cell? ⟨p3, 6, none⟩ := by simp only [World.cell?, HH6.out]
    rw [h]
    exact E4.out.cell 6
  have fo : u6.cell? ⟨p4, 6, none⟩ = some (.bool q6) := by
    have h : u6.cell? ⟨p4, 6, none⟩ = u0.cell? ⟨p4, 6, none⟩ := by simp only [World.cell?, HH6.out]
    rw [h]
    exact F4.out.cell 6
  have HS : Hid (∀ n : Nat, Calls Tryd.prog 11 #[.slice (some ⟨g1, o1 + 28, none⟩) 2 (c1 - 28 : Nat), .slice (some ⟨g2, o2 + 28, none⟩) 2 (c2 - 28 : Nat)] (u6.drewN n) fun e w' => e = .returned (.bool q6) ∧ w' = u6.drewN n) := Lib.hid fun n => HSEG.out (u6.drewN n) 28 2 q6 HH6.out (by omega) HQ6.out
  go_wp2_with fail
  rw [← drawn_eq 13]
  go_quiet ((go_at_call 11; exact Calls.quiet_of_same (HS.out _)))
  have HH7 : Hid ((u6.drewN nq).heap = u0.heap) := Lib.hid HH6.out
  have Bu7 : Hid (Below w.heap.size w (u6.drewN nq)) := Lib.hid (below_drewN Bu6.out nq)
  clear HS fe fo
  generalize u6.drewN nq = u7 at HH7 Bu7 ⊢
  have fe : u7.cell? ⟨p3, 6, none⟩ = some (.int .i64 30) := by
    have h : u7.cell? ⟨p3, 6, none⟩ = u0.cell? ⟨p3, 6, none⟩ := by simp only [World.cell?, HH7.out]
    rw [h]
    exact E4.out.cell 6
  go_wp2_with fail
  clear fe
  rw [rounds_succ]
  have fe : u7.cell? ⟨p3, 7, none⟩ = some (.int .i64 32) := by
    have h : u7.cell? ⟨p3, 7, none⟩ = u0.cell? ⟨p3, 7, none⟩ := by simp only [World.cell?, HH7.out]
    rw [h]
    exact E4.out.cell 7
  have fo : u7.cell? ⟨p4, 7, none⟩ = some (.bool q7) := by
    have h : u7.cell? ⟨p4, 7, none⟩ = u0.cell? ⟨p4, 7, none⟩ := by simp only [World.cell?, HH7.out]
    rw [h]
    exact F4.out.cell 7
  have HS : Hid (∀ n : Nat, Calls Tryd.prog 11 #[.slice (some ⟨g1, o1 + 30, none⟩) 2 (c1 - 30 : Nat), .slice (some ⟨g2, o2 + 30, none⟩) 2 (c2 - 30 : Nat)] (u7.drewN n) fun e w' => e = .returned (.bool q7) ∧ w' = u7.drewN n) := Lib.hid fun n => HSEG.out (u7.drewN n) 30 2 q7 HH7.out (by omega) HQ7.out
  go_wp2_with fail
  rw [← drawn_eq 13]
  go_quiet ((go_at_call 11; exact Calls.quiet_of_same (HS.out _)))
  have HH8 : Hid ((u7.drewN nq).heap = u0.heap) := Lib.hid HH7.out
  have Bu8 : Hid (Below w.heap.size w (u7.drewN nq)) := Lib.hid (below_drewN Bu7.out nq)
  clear HS fe fo
  generalize u7.drewN nq = u8 at HH8 Bu8 ⊢
  have fe : u8.cell? ⟨p3, 7, none⟩ = some (.int .i64 32) := by
    have h : u8.cell? ⟨p3, 7, none⟩ = u0.cell? ⟨p3, 7, none⟩ := by simp only [World.cell?, HH8.out]
    rw [h]
    exact E4.out.cell 7
  go_wp2_with fail
  clear fe
  rw [rounds_succ]
  go_wp2_with fail
  refine (ckWorks_any u8 (HT.out.below Bu8.out h2)).mono ?_
  rintro e w9 ⟨rfl, hb9⟩
  go_wp2_with fail
  go_ret
  exact ⟨rfl, below_then Bu8.out (Nat.le_refl _) hb9⟩
end Go.Proofs.YtnnkgdkjmmljiaaDoor
