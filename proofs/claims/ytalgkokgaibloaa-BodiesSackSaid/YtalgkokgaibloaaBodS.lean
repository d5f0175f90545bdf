/-
  The reference: PutTime, PutCum, PutInit, PutData.
-/
import Derived.Test.YtalgkokgaibloaaBodR
import Derived.Test.YtalgkokgaibloaaPut
namespace Go.Proofs.Ytalgkokgaibloaa
open Go.RowKit
set_option linter.unusedVariables false

set_option maxRecDepth 100000 in
set_option maxHeartbeats 4000000 in
theorem refPutCum_any (x : Nat) (hx : x < 4294967296) (w : World) :
    Puts 46 #[.int .u32 x] 7 0 (enc x 4) w := by
  refine puts_of ?_
  have hz := zero_chunk
  have b0 : Blk (w.alloc (.cells #[.int .u8 0, .int .u8 0, .slice none 0 0] 28)) w.heap.size 28 #[.int .u8 0, .int .u8 0, .slice none 0 0] := Blk.new w 28 #[.int .u8 0, .int .u8 0, .slice none 0 0]
  have K0_0 := Lib.hid b0
  have B0 : Hid (Below w.heap.size w (w.alloc (.cells #[.int .u8 0, .int .u8 0, .slice none 0 0] 28))) := Lib.hid (Wr.below_ ((Wr.refl 5 w.heap.size w).alloc (.cells #[.int .u8 0, .int .u8 0, .slice none 0 0] 28)) (Nat.le_refl _))
  clear b0
  go_enter Try.func46, Try.ntmps46
  go_wp2_with fail
  generalize (w.alloc (.cells #[.int .u8 0, .int .u8 0, .slice none 0 0] 28)) = w0 at K0_0 B0 ⊢
  have O0 := Lib.hid (Own8.nil w0 5 w.heap.size)
  have HP := refPut_yes none 0 0 (x) 4 ([]) w0 (by omega) (by omega) O0.out.len O0.out.rd (by unfold IsSize; omega)
  refine HP.mono ?_
  rintro e w1 ⟨A1, c1, rfl, ho, hb⟩
  have O1 : Hid (Own8 w1 5 w.heap.size A1 (4) c1 ([] ++ enc (x) 4)) := Lib.hid (ho.more B0.out.size)
  have K0_1 := Lib.hid (K0_0.out.below hb K0_0.out.lt)
  have B1 := Lib.hid (below_then B0.out (Nat.le_refl _) hb)
  clear ho hb HP O0 B0 K0_0
  have f0_0 : w1.cell? ⟨w.heap.size, 0, none⟩ = some (.int .u8 0) := K0_1.out.cell 0
  have z0_0 : w1.frozen? ⟨w.heap.size, 0, none⟩ = false := K0_1.out.frozen 0
  have f0_1 : w1.cell? ⟨w.heap.size, 1, none⟩ = some (.int .u8 0) := K0_1.out.cell 1
  have z0_1 : w1.frozen? ⟨w.heap.size, 1, none⟩ = false := K0_1.out.frozen 1
  have f0_2 : w1.cell? ⟨w.heap.size, 2, none⟩ = some (.slice none 0 0) := K0_1.out.cell 2
  have z0_2 : w1.frozen? ⟨w.heap.size, 2, none⟩ = false := K0_1.out.frozen 2
  go_wp2_with fail
  have H3 := out3 O1.out K0_1.out (by decide) (.int .u8 7) (.int .u8 0) (.slice A1 (4 : Nat) c1)
  exact bodyPost_ret (v := .agg #[.int .u8 7, .int .u8 0, .slice A1 (4 : Nat) c1]) (by simp [results, Try.results46, go_sem, H3.2.cell]) rfl ⟨A1, _, c1, rfl, H3.1, below3 B1.out (by omega) _ _ _⟩
set_option maxRecDepth 100000 in
set_option maxHeartbeats 4000000 in
theorem refPutTime_any (k : UInt8) (t : Int) (ht : -9223372036854775808 ≤ t ∧ t < 9223372036854775808) (w : World) :
    Puts 44 #[.int .u8 (k.toNat : Int), .int .i64 t] k 0 (bodyT (t % 18446744073709551616).toNat) w := by
  refine puts_of ?_
  have hz := zero_chunk
  obtain ⟨q, hq⟩ : ∃ q, q = (t % 18446744073709551616).toNat := ⟨_, rfl⟩
  have hqb : q < 18446744073709551616 := by omega
  have hcv : IntKind.u64.wrap t = (q : Int) := by
    have : IntKind.u64.wrap t = t % 18446744073709551616 := by simp [IntKind.wrap, IntKind.signed, IntKind.bits]
    rw [this]
    omega
  rw [← hq]
  clear hq ht
  have HY : Hid (bodyT q = [] ++ enc 1 2 ++ enc 12 2 ++ enc q 8) := Lib.hid (by simp [bodyT])
  rw [HY.out]
  have b0 : Blk (w.alloc (.cells #[.int .u8 0, .int .u8 0, .slice none 0 0] 28)) w.heap.size 28 #[.int .u8 0, .int .u8 0, .slice none 0 0] := Blk.new w 28 #[.int .u8 0, .int .u8 0, .slice none 0 0]
  have K0_0 := Lib.hid b0
  have B0 : Hid (Below w.heap.size w (w.alloc (.cells #[.int .u8 0, .int .u8 0, .slice none 0 0] 28))) := Lib.hid (Wr.below_ ((Wr.refl 5 w.heap.size w).alloc (.cells #[.int .u8 0, .int .u8 0, .slice none 0 0] 28)) (Nat.le_refl _))
  clear b0
  go_enter Try.func44, Try.ntmps44
  go_wp2_with fail
  generalize (w.alloc (.cells #[.int .u8 0, .int .u8 0, .slice none 0 0] 28)) = w0 at K0_0 B0 ⊢
  have O0 := Lib.hid (Own8.nil w0 5 w.heap.size)
  have HP := refPut_yes none 0 0 (1) 2 ([]) w0 (by omega) (by omega) O0.out.len O0.out.rd (by unfold IsSize; omega)
  refine HP.mono ?_
  rintro e w1 ⟨A1, c1, rfl, ho, hb⟩
  have O1 : Hid (Own8 w1 5 w.heap.size A1 (2) c1 ([] ++ enc (1) 2)) := Lib.hid (ho.more B0.out.size)
  have K0_1 := Lib.hid (K0_0.out.below hb K0_0.out.lt)
  have B1 := Lib.hid (below_then B0.out (Nat.le_refl _) hb)
  clear ho hb HP O0 B0 K0_0
  go_wp2_with fail
  have HP := refPut_yes A1 2 c1 (12) 2 ([] ++ enc (1) 2) w1 (by omega) (by omega) O1.out.len O1.out.rd (by unfold IsSize; omega)
  refine HP.mono ?_
  rintro e w2 ⟨A2, c2, rfl, ho, hb⟩
  have O2 : Hid (Own8 w2 5 w.heap.size A2 (4) c2 ([] ++ enc (1) 2 ++ enc (12) 2)) := Lib.hid (ho.more B1.out.size)
  have K0_2 := Lib.hid (K0_1.out.below hb K0_1.out.lt)
  have B2 := Lib.hid (below_then B1.out (Nat.le_refl _) hb)
  clear ho hb HP O1 B1 K0_1
  go_wp2_with fail
  have HP := refPut_yes A2 4 c2 (q) 8 ([] ++ enc (1) 2 ++ enc (12) 2) w2 (by omega) (by omega) O2.out.len O2.out.rd (by unfold IsSize; omega)
  refine HP.mono ?_
  rintro e w3 ⟨A3, c3, rfl, ho, hb⟩
  have O3 : Hid (Own8 w3 5 w.heap.size A3 (12) c3 ([] ++ enc (1) 2 ++ enc (12) 2 ++ enc (q) 8)) := Lib.hid (ho.more B2.out.size)
  have K0_3 := Lib.hid (K0_2.out.below hb K0_2.out.lt)
  have B3 := Lib.hid (below_then B2.out (Nat.le_refl _) hb)
  clear ho hb HP O2 B2 K0_2
  have f0_0 : w3.cell? ⟨w.heap.size, 0, none⟩ = some (.int .u8 0) := K0_3.out.cell 0
  have z0_0 : w3.frozen? ⟨w.heap.size, 0, none⟩ = false := K0_3.out.frozen 0
  have f0_1 : w3.cell? ⟨w.heap.size, 1, none⟩ = some (.int .u8 0) := K0_3.out.cell 1
  have z0_1 : w3.frozen? ⟨w.heap.size, 1, none⟩ = false := K0_3.out.frozen 1
  have f0_2 : w3.cell? ⟨w.heap.size, 2, none⟩ = some (.slice none 0 0) := K0_3.out.cell 2
  have z0_2 : w3.frozen? ⟨w.heap.size, 2, none⟩ = false := K0_3.out.frozen 2
  go_wp2_with fail
  have H3 := out3 O3.out K0_3.out (by decide) (.int .u8 (k.toNat : Int)) (.int .u8 0) (.slice A3 (12 : Nat) c3)
  exact bodyPost_ret (v := .agg #[.int .u8 (k.toNat : Int), .int .u8 0, .slice A3 (12 : Nat) c3]) (by simp [results, Try.results44, go_sem, H3.2.cell]) rfl ⟨A3, _, c3, rfl, H3.1, below3 B3.out (by omega) _ _ _⟩
set_option maxRecDepth 100000 in
set_option maxHeartbeats 4000000 in
theorem refPutInit_no (k : UInt8) (hk : k ≠ 2) (tag rwnd out in_ tsn : Nat) (cookie : List UInt8) (h1 : tag < 4294967296) (h2 : rwnd < 4294967296) (h3 : out < 65536) (h4 : in_ < 65536) (h5 : tsn < 4294967296) (A : Option Addr) (n c : Nat) (w : World) (hn : n ≤ 140737488355200) (hx : cookie.length = n) (hr : Rd w w.heap.size A cookie) :
    Puts 26 #[.int .u8 (k.toNat : Int), .agg #[.int .u32 tag, .int .u32 rwnd, .int .u16 out, .int .u16 in_, .int .u32 tsn, .slice A n c]] k 0 (bodyI k ⟨tag, rwnd, out, in_, tsn, cookie⟩) w := by
  refine puts_of ?_
  obtain ⟨i8, h8⟩ := Try.ty8
  have hz := zero_chunk
  have HY : Hid (bodyI k ⟨tag, rwnd, out, in_, tsn, cookie⟩ = enc tag 4 ++ enc rwnd 4 ++ enc out 2 ++ enc in_ 2 ++ enc tsn 4) := Lib.hid (by simp [bodyI, headI, hk])
  have hkb : ((k.toNat : Int) == 2) = false := kind_ne (m := 2) hk
  clear hk
  rw [HY.out]
  have HX := Lib.hid hx
  have HRD := Lib.hid hr
  clear hx hr
  have b0 : Blk (w.alloc (.cells #[.int .u32 tag, .int .u32 rwnd, .int .u16 out, .int .u16 in_, .int .u32 tsn, .slice A n c] 43)) w.heap.size 43 #[.int .u32 tag, .int .u32 rwnd, .int .u16 out, .int .u16 in_, .int .u32 tsn, .slice A n c] := Blk.new w 43 #[.int .u32 tag, .int .u32 rwnd, .int .u16 out, .int .u16 in_, .int .u32 tsn, .slice A n c]
  have b1 : Blk ((w.alloc (.cells #[.int .u32 tag, .int .u32 rwnd, .int .u16 out, .int .u16 in_, .int .u32 tsn, .slice A n c] 43)).alloc (.cells #[.int .u8 0, .int .u8 0, .slice none 0 0] 28)) (w.heap.size + 1) 28 #[.int .u8 0, .int .u8 0, .slice none 0 0] := by simpa using Blk.new (w.alloc (.cells #[.int .u32 tag, .int .u32 rwnd, .int .u16 out, .int .u16 in_, .int .u32 tsn, .slice A n c] 43)) 28 #[.int .u8 0, .int .u8 0, .slice none 0 0]
  have K0_0 := Lib.hid (b0.alloc (.cells #[.int .u8 0, .int .u8 0, .slice none 0 0] 28))
  have K1_0 := Lib.hid b1
  have B0 : Hid (Below w.heap.size w ((w.alloc (.cells #[.int .u32 tag, .int .u32 rwnd, .int .u16 out, .int .u16 in_, .int .u32 tsn, .slice A n c] 43)).alloc (.cells #[.int .u8 0, .int .u8 0, .slice none 0 0] 28))) := Lib.hid (Wr.below_ (((Wr.refl 5 w.heap.size w).alloc (.cells #[.int .u32 tag, .int .u32 rwnd, .int .u16 out, .int .u16 in_, .int .u32 tsn, .slice A n c] 43)).alloc (.cells #[.int .u8 0, .int .u8 0, .slice none 0 0] 28)) (Nat.le_refl _))
  clear b0 b1
  go_enter Try.func26, Try.ntmps26
  go_wp2_with fail
  generalize ((w.alloc (.cells #[.int .u32 tag, .int .u32 rwnd, .int .u16 out, .int .u16 in_, .int .u32 tsn, .slice A n c] 43)).alloc (.cells #[.int .u8 0, .int .u8 0, .slice none 0 0] 28)) = w0 at K0_0 K1_0 B0 ⊢
  have O0 := Lib.hid (Own8.nil w0 5 w.heap.size)
  have HP := refPut_yes none 0 0 (tag) 4 ([]) w0 (by omega) (by omega) O0.out.len O0.out.rd (by unfold IsSize; omega)
  refine HP.mono ?_
  rintro e w1 ⟨A1, c1, rfl, ho, hb⟩
  have O1 : Hid (Own8 w1 5 w.heap.size A1 (4) c1 ([] ++ enc (tag) 4)) := Lib.hid (ho.more B0.out.size)
  have K0_1 := Lib.hid (K0_0.out.below hb K0_0.out.lt)
  have K1_1 := Lib.hid (K1_0.out.below hb K1_0.out.lt)
  have B1 := Lib.hid (below_then B0.out (Nat.le_refl _) hb)
  clear ho hb HP O0 B0 K0_0 K1_0
  have f0_1 : w1.cell? ⟨w.heap.size, 1, none⟩ = some (.int .u32 rwnd) := K0_1.out.cell 1
  go_wp2_with fail
  clear f0_1
  have HP := refPut_yes A1 4 c1 (rwnd) 4 ([] ++ enc (tag) 4) w1 (by omega) (by omega) O1.out.len O1.out.rd (by unfold IsSize; omega)
  refine HP.mono ?_
  rintro e w2 ⟨A2, c2, rfl, ho, hb⟩
  have O2 : Hid (Own8 w2 5 w.heap.size A2 (8) c2 ([] ++ enc (tag) 4 ++ enc (rwnd) 4)) := Lib.hid (ho.more B1.out.size)
  have K0_2 := Lib.hid (K0_1.out.below hb K0_1.out.lt)
  have K1_2 := Lib.hid (K1_1.out.below hb K1_1.out.lt)
  have B2 := Lib.hid (below_then B1.out (Nat.le_refl _) hb)
  clear ho hb HP O1 B1 K0_1 K1_1
  have f0_2 : w2.cell? ⟨w.heap.size, 2, none⟩ = some (.int .u16 out) := K0_2.out.cell 2
  go_wp2_with fail
  clear f0_2
  have HP := refPut_yes A2 8 c2 (out) 2 ([] ++ enc (tag) 4 ++ enc (rwnd) 4) w2 (by omega) (by omega) O2.out.len O2.out.rd (by unfold IsSize; omega)
  refine HP.mono ?_
  rintro e w3 ⟨A3, c3, rfl, ho, hb⟩
  have O3 : Hid (Own8 w3 5 w.heap.size A3 (10) c3 ([] ++ enc (tag) 4 ++ enc (rwnd) 4 ++ enc (out) 2)) := Lib.hid (ho.more B2.out.size)
  have K0_3 := Lib.hid (K0_2.out.below hb K0_2.out.lt)
  have K1_3 := Lib.hid (K1_2.out.below hb K1_2.out.lt)
  have B3 := Lib.hid (below_then B2.out (Nat.le_refl _) hb)
  clear ho hb HP O2 B2 K0_2 K1_2
  have f0_3 : w3.cell? ⟨w.heap.size, 3, none⟩ = some (.int .u16 in_) := K0_3.out.cell 3
  go_wp2_with fail
  clear f0_3
  have HP := refPut_yes A3 10 c3 (in_) 2 ([] ++ enc (tag) 4 ++ enc (rwnd) 4 ++ enc (out) 2) w3 (by omega) (by omega) O3.out.len O3.out.rd (by unfold IsSize; omega)
  refine HP.mono ?_
  rintro e w4 ⟨A4, c4, rfl, ho, hb⟩
  have O4 : Hid (Own8 w4 5 w.heap.size A4 (12) c4 ([] ++ enc (tag) 4 ++ enc (rwnd) 4 ++ enc (out) 2 ++ enc (in_) 2)) := Lib.hid (ho.more B3.out.size)
  have K0_4 := Lib.hid (K0_3.out.below hb K0_3.out.lt)
  have K1_4 := Lib.hid (K1_3.out.below hb K1_3.out.lt)
  have B4 := Lib.hid (below_then B3.out (Nat.le_refl _) hb)
  clear ho hb HP O3 B3 K0_3 K1_3
  have f0_4 : w4.cell? ⟨w.heap.size, 4, none⟩ = some (.int .u32 tsn) := K0_4.out.cell 4
  go_wp2_with fail
  clear f0_4
  have HP := refPut_yes A4 12 c4 (tsn) 4 ([] ++ enc (tag) 4 ++ enc (rwnd) 4 ++ enc (out) 2 ++ enc (in_) 2) w4 (by omega) (by omega) O4.out.len O4.out.rd (by unfold IsSize; omega)
  refine HP.mono ?_
  rintro e w5 ⟨A5, c5, rfl, ho, hb⟩
  have O5 : Hid (Own8 w5 5 w.heap.size A5 (16) c5 ([] ++ enc (tag) 4 ++ enc (rwnd) 4 ++ enc (out) 2 ++ enc (in_) 2 ++ enc (tsn) 4)) := Lib.hid (ho.more B4.out.size)
  have K0_5 := Lib.hid (K0_4.out.below hb K0_4.out.lt)
  have K1_5 := Lib.hid (K1_4.out.below hb K1_4.out.lt)
  have B5 := Lib.hid (below_then B4.out (Nat.le_refl _) hb)
  clear ho hb HP O4 B4 K0_4 K1_4
  have f1_0 : w5.cell? ⟨w.heap.size + 1, 0, none⟩ = some (.int .u8 0) := K1_5.out.cell 0
  have z1_0 : w5.frozen? ⟨w.heap.size + 1, 0, none⟩ = false := K1_5.out.frozen 0
  have f1_1 : w5.cell? ⟨w.heap.size + 1, 1, none⟩ = some (.int .u8 0) := K1_5.out.cell 1
  have z1_1 : w5.frozen? ⟨w.heap.size + 1, 1, none⟩ = false := K1_5.out.frozen 1
  have f1_2 : w5.cell? ⟨w.heap.size + 1, 2, none⟩ = some (.slice none 0 0) := K1_5.out.cell 2
  have z1_2 : w5.frozen? ⟨w.heap.size + 1, 2, none⟩ = false := K1_5.out.frozen 2
  go_wp2_with fail
  have H3 := out3 O5.out K1_5.out (by decide) (.int .u8 (k.toNat : Int)) (.int .u8 0) (.slice A5 (16 : Nat) c5)
  exact bodyPost_ret (v := .agg #[.int .u8 (k.toNat : Int), .int .u8 0, .slice A5 (16 : Nat) c5]) (by simp [results, Try.results26, go_sem, H3.2.cell]) rfl ⟨A5, _, c5, rfl, H3.1, below3 B5.out (by omega) _ _ _⟩
set_option maxRecDepth 100000 in
set_option maxHeartbeats 4000000 in
theorem refPutInit_ack (tag rwnd out in_ tsn : Nat) (cookie : List UInt8) (h1 : tag < 4294967296) (h2 : rwnd < 4294967296) (h3 : out < 65536) (h4 : in_ < 65536) (h5 : tsn < 4294967296) (A : Option Addr) (n c : Nat) (w : World) (hn : n ≤ 140737488355200) (hx : cookie.length = n) (hr : Rd w w.heap.size A cookie) :
    Puts 26 #[.int .u8 2, .agg #[.int .u32 tag, .int .u32 rwnd, .int .u16 out, .int .u16 in_, .int .u32 tsn, .slice A n c]] 2 0 (bodyI 2 ⟨tag, rwnd, out, in_, tsn, cookie⟩) w := by
  refine puts_of ?_
  obtain ⟨i8, h8⟩ := Try.ty8
  have hz := zero_chunk
  have HY : Hid (bodyI 2 ⟨tag, rwnd, out, in_, tsn, cookie⟩ = pd (enc tag 4 ++ enc rwnd 4 ++ enc out 2 ++ enc in_ 2 ++ enc tsn 4 ++ enc 7 2 ++ enc (4 + n) 2 ++ cookie)) := Lib.hid (by subst hx; simp [bodyI, headI])
  rw [HY.out]
  have HX := Lib.hid hx
  have HRD := Lib.hid hr
  clear hx hr
  have b0 : Blk (w.alloc (.cells #[.int .u32 tag, .int .u32 rwnd, .int .u16 out, .int .u16 in_, .int .u32 tsn, .slice A n c] 43)) w.heap.size 43 #[.int .u32 tag, .int .u32 rwnd, .int .u16 out, .int .u16 in_, .int .u32 tsn, .slice A n c] := Blk.new w 43 #[.int .u32 tag, .int .u32 rwnd, .int .u16 out, .int .u16 in_, .int .u32 tsn, .slice A n c]
  have b1 : Blk ((w.alloc (.cells #[.int .u32 tag, .int .u32 rwnd, .int .u16 out, .int .u16 in_, .int .u32 tsn, .slice A n c] 43)).alloc (.cells #[.int .u8 0, .int .u8 0, .slice none 0 0] 28)) (w.heap.size + 1) 28 #[.int .u8 0, .int .u8 0, .slice none 0 0] := by simpa using Blk.new (w.alloc (.cells #[.int .u32 tag, .int .u32 rwnd, .int .u16 out, .int .u16 in_, .int .u32 tsn, .slice A n c] 43)) 28 #[.int .u8 0, .int .u8 0, .slice none 0 0]
  have K0_0 := Lib.hid (b0.alloc (.cells #[.int .u8 0, .int .u8 0, .slice none 0 0] 28))
  have K1_0 := Lib.hid b1
  have B0 : Hid (Below w.heap.size w ((w.alloc (.cells #[.int .u32 tag, .int .u32 rwnd, .int .u16 out, .int .u16 in_, .int .u32 tsn, .slice A n c] 43)).alloc (.cells #[.int .u8 0, .int .u8 0, .slice none 0 0] 28))) := Lib.hid (Wr.below_ (((Wr.refl 5 w.heap.size w).alloc (.cells #[.int .u32 tag, .int .u32 rwnd, .int .u16 out, .int .u16 in_, .int .u32 tsn, .slice A n c] 43)).alloc (.cells #[.int .u8 0, .int .u8 0, .slice none 0 0] 28)) (Nat.le_refl _))
  clear b0 b1
  go_enter Try.func26, Try.ntmps26
  go_wp2_with fail
  generalize ((w.alloc (.cells #[.int .u32 tag, .int .u32 rwnd, .int .u16 out, .int .u16 in_, .int .u32 tsn, .slice A n c] 43)).alloc (.cells #[.int .u8 0, .int .u8 0, .slice none 0 0] 28)) = w0 at K0_0 K1_0 B0 ⊢
  have O0 := Lib.hid (Own8.nil w0 5 w.heap.size)
  have HP := refPut_yes none 0 0 (tag) 4 ([]) w0 (by omega) (by omega) O0.out.len O0.out.rd (by unfold IsSize; omega)
  refine HP.mono ?_
  rintro e w1 ⟨A1, c1, rfl, ho, hb⟩
  have O1 : Hid (Own8 w1 5 w.heap.size A1 (4) c1 ([] ++ enc (tag) 4)) := Lib.hid (ho.more B0.out.size)
  have K0_1 := Lib.hid (K0_0.out.below hb K0_0.out.lt)
  have K1_1 := Lib.hid (K1_0.out.below hb K1_0.out.lt)
  have B1 := Lib.hid (below_then B0.out (Nat.le_refl _) hb)
  clear ho hb HP O0 B0 K0_0 K1_0
  have f0_1 : w1.cell? ⟨w.heap.size, 1, none⟩ = some (.int .u32 rwnd) := K0_1.out.cell 1
  go_wp2_with fail
  clear f0_1
  have HP := refPut_yes A1 4 c1 (rwnd) 4 ([] ++ enc (tag) 4) w1 (by omega) (by omega) O1.out.len O1.out.rd (by unfold IsSize; omega)
  refine HP.mono ?_
  rintro e w2 ⟨A2, c2, rfl, ho, hb⟩
  have O2 : Hid (Own8 w2 5 w.heap.size A2 (8) c2 ([] ++ enc (tag) 4 ++ enc (rwnd) 4)) := Lib.hid (ho.more B1.out.size)
  have K0_2 := Lib.hid (K0_1.out.below hb K0_1.out.lt)
  have K1_2 := Lib.hid (K1_1.out.below hb K1_1.out.lt)
  have B2 := Lib.hid (below_then B1.out (Nat.le_refl _) hb)
  clear ho hb HP O1 B1 K0_1 K1_1
  have f0_2 : w2.cell? ⟨w.heap.size, 2, none⟩ = some (.int .u16 out) := K0_2.out.cell 2
  go_wp2_with fail
  clear f0_2
  have HP := refPut_yes A2 8 c2 (out) 2 ([] ++ enc (tag) 4 ++ enc (rwnd) 4) w2 (by omega) (by omega) O2.out.len O2.out.rd (by unfold IsSize; omega)
  refine HP.mono ?_
  rintro e w3 ⟨A3, c3, rfl, ho, hb⟩
  have O3 : Hid (Own8 w3 5 w.heap.size A3 (10) c3 ([] ++ enc (tag) 4 ++ enc (rwnd) 4 ++ enc (out) 2)) := Lib.hid (ho.more B2.out.size)
  have K0_3 := Lib.hid (K0_2.out.below hb K0_2.out.lt)
  have K1_3 := Lib.hid (K1_2.out.below hb K1_2.out.lt)
  have B3 := Lib.hid (below_then B2.out (Nat.le_refl _) hb)
  clear ho hb HP O2 B2 K0_2 K1_2
  have f0_3 : w3.cell? ⟨w.heap.size, 3, none⟩ = some (.int .u16 in_) := K0_3.out.cell 3
  go_wp2_with fail
  clear f0_3
  have HP := refPut_yes A3 10 c3 (in_) 2 ([] ++ enc (tag) 4 ++ enc (rwnd) 4 ++ enc (out) 2) w3 (by omega) (by omega) O3.out.len O3.out.rd (by unfold IsSize; omega)
  refine HP.mono ?_
  rintro e w4 ⟨A4, c4, rfl, ho, hb⟩
  have O4 : Hid (Own8 w4 5 w.heap.size A4 (12) c4 ([] ++ enc (tag) 4 ++ enc (rwnd) 4 ++ enc (out) 2 ++ enc (in_) 2)) := Lib.hid (ho.more B3.out.size)
  have K0_4 := Lib.hid (K0_3.out.below hb K0_3.out.lt)
  have K1_4 := Lib.hid (K1_3.out.below hb K1_3.out.lt)
  have B4 := Lib.hid (below_then B3.out (Nat.le_refl _) hb)
  clear ho hb HP O3 B3 K0_3 K1_3
  have f0_4 : w4.cell? ⟨w.heap.size, 4, none⟩ = some (.int .u32 tsn) := K0_4.out.cell 4
  go_wp2_with fail
  clear f0_4
  have HP := refPut_yes A4 12 c4 (tsn) 4 ([] ++ enc (tag) 4 ++ enc (rwnd) 4 ++ enc (out) 2 ++ enc (in_) 2) w4 (by omega) (by omega) O4.out.len O4.out.rd (by unfold IsSize; omega)
  refine HP.mono ?_
  rintro e w5 ⟨A5, c5, rfl, ho, hb⟩
  have O5 : Hid (Own8 w5 5 w.heap.size A5 (16) c5 ([] ++ enc (tag) 4 ++ enc (rwnd) 4 ++ enc (out) 2 ++ enc (in_) 2 ++ enc (tsn) 4)) := Lib.hid (ho.more B4.out.size)
  have K0_5 := Lib.hid (K0_4.out.below hb K0_4.out.lt)
  have K1_5 := Lib.hid (K1_4.out.below hb K1_4.out.lt)
  have B5 := Lib.hid (below_then B4.out (Nat.le_refl _) hb)
  clear ho hb HP O4 B4 K0_4 K1_4
  go_wp2_with fail
  have HP := refPut_yes A5 16 c5 (7) 2 ([] ++ enc (tag) 4 ++ enc (rwnd) 4 ++ enc (out) 2 ++ enc (in_) 2 ++ enc (tsn) 4) w5 (by omega) (by omega) O5.out.len O5.out.rd (by unfold IsSize; omega)
  refine HP.mono ?_
  rintro e w6 ⟨A6, c6, rfl, ho, hb⟩
  have O6 : Hid (Own8 w6 5 w.heap.size A6 (18) c6 ([] ++ enc (tag) 4 ++ enc (rwnd) 4 ++ enc (out) 2 ++ enc (in_) 2 ++ enc (tsn) 4 ++ enc (7) 2)) := Lib.hid (ho.more B5.out.size)
  have K0_6 := Lib.hid (K0_5.out.below hb K0_5.out.lt)
  have K1_6 := Lib.hid (K1_5.out.below hb K1_5.out.lt)
  have B6 := Lib.hid (below_then B5.out (Nat.le_refl _) hb)
  clear ho hb HP O5 B5 K0_5 K1_5
  have f0_5 : w6.cell? ⟨w.heap.size, 5, none⟩ = some (.slice A n c) := K0_6.out.cell 5
  go_wp2_with fail
  clear f0_5
  have HP := refPut_yes A6 18 c6 (4 + n) 2 ([] ++ enc (tag) 4 ++ enc (rwnd) 4 ++ enc (out) 2 ++ enc (in_) 2 ++ enc (tsn) 4 ++ enc (7) 2) w6 (by omega) (by omega) O6.out.len O6.out.rd (by unfold IsSize; omega)
  rw [show ((4 + n : Nat) : Int) = 4 + (n : Int) from by omega] at HP
  refine HP.mono ?_
  rintro e w7 ⟨A7, c7, rfl, ho, hb⟩
  have O7 : Hid (Own8 w7 5 w.heap.size A7 (20) c7 ([] ++ enc (tag) 4 ++ enc (rwnd) 4 ++ enc (out) 2 ++ enc (in_) 2 ++ enc (tsn) 4 ++ enc (7) 2 ++ enc (4 + n) 2)) := Lib.hid (ho.more B6.out.size)
  have K0_7 := Lib.hid (K0_6.out.below hb K0_6.out.lt)
  have K1_7 := Lib.hid (K1_6.out.below hb K1_6.out.lt)
  have B7 := Lib.hid (below_then B6.out (Nat.le_refl _) hb)
  clear ho hb HP O6 B6 K0_6 K1_6
  have f0_5 : w7.cell? ⟨w.heap.size, 5, none⟩ = some (.slice A n c) := K0_7.out.cell 5
  have hrd := HRD.out.below B7.out
  have hsz : w.heap.size ≤ w7.heap.size := B7.out.size
  go_wp2_with (at_builtin; refine wpList_append8 h8 _ rfl _ _ rfl w.heap.size _ _ _ _ rfl O7.out _ _ _ _ _ rfl HX.out hrd (by omega) hsz ?_; intro A9 c9 w9 ho9 hg9 hh9; have K1_9 := Lib.hid (K1_7.out.grown hg9 (O7.out.blk_ne K1_7.out (by decide))); have B9 := Lib.hid (B7.out.grown hg9 hsz O7.out.blk); have O9 := Lib.hid ho9; have HP := Lib.hid (refPad_any A9 (20 + n) c9 _ w9 (by omega) ho9.len ho9.rd); clear ho9 hg9 hh9)
  refine HP.out.mono ?_
  rintro e w10 ⟨A10, c10, rfl, ho, hb⟩
  have HPD : Hid (pd (enc tag 4 ++ enc rwnd 4 ++ enc out 2 ++ enc in_ 2 ++ enc tsn 4 ++ enc 7 2 ++ enc (4 + n) 2 ++ cookie) = enc tag 4 ++ enc rwnd 4 ++ enc out 2 ++ enc in_ 2 ++ enc tsn 4 ++ enc 7 2 ++ enc (4 + n) 2 ++ cookie ++ List.replicate (up4 (20 + n) - (20 + n)) 0) := Lib.hid (by rw [pd, show (enc tag 4 ++ enc rwnd 4 ++ enc out 2 ++ enc in_ 2 ++ enc tsn 4 ++ enc 7 2 ++ enc (4 + n) 2 ++ cookie).length = 20 + n from O9.out.len])
  have K1_10 := Lib.hid (K1_9.out.below hb K1_9.out.lt)
  have O10 := Lib.hid (ho.more B9.out.size)
  have B10 := Lib.hid (below_then B9.out (Nat.le_refl _) hb)
  clear ho hb HP K1_9 B9 O9
  have f1_0 : w10.cell? ⟨w.heap.size + 1, 0, none⟩ = some (.int .u8 0) := K1_10.out.cell 0
  have z1_0 : w10.frozen? ⟨w.heap.size + 1, 0, none⟩ = false := K1_10.out.frozen 0
  have f1_1 : w10.cell? ⟨w.heap.size + 1, 1, none⟩ = some (.int .u8 0) := K1_10.out.cell 1
  have z1_1 : w10.frozen? ⟨w.heap.size + 1, 1, none⟩ = false := K1_10.out.frozen 1
  have f1_2 : w10.cell? ⟨w.heap.size + 1, 2, none⟩ = some (.slice none 0 0) := K1_10.out.cell 2
  have z1_2 : w10.frozen? ⟨w.heap.size + 1, 2, none⟩ = false := K1_10.out.frozen 2
  go_wp2_with fail
  have H3 := out3 O10.out K1_10.out (by decide) (.int .u8 2) (.int .u8 0) (.slice A10 (up4 (20 + n) : Nat) c10)
  exact bodyPost_ret (v := .agg #[.int .u8 2, .int .u8 0, .slice A10 (up4 (20 + n) : Nat) c10]) (by simp [results, Try.results26, go_sem, H3.2.cell]) rfl ⟨A10, _, c10, rfl, (by rw [HPD.out]; exact H3.1), below3 B10.out (by omega) _ _ _⟩
set_option maxRecDepth 100000 in
set_option maxHeartbeats 4000000 in
theorem refPutData_0 (tsn stream ssn : Nat) (bytes : List UInt8) (h1 : tsn < 4294967296) (h2 : stream < 65536) (h3 : ssn < 65536) (A : Option Addr) (n c : Nat) (w : World) (hn : n ≤ 140737488355200) (hx : bytes.length = n) (hr : Rd w w.heap.size A bytes) :
    Puts 19 #[.agg #[.int .u32 tsn, .int .u16 stream, .int .u16 ssn, .bool false, .bool false, .bool false, .slice A n c]] 0 0 (bodyD ⟨tsn, stream, ssn, false, false, false, bytes⟩) w := by
  refine puts_of ?_
  obtain ⟨i8, h8⟩ := Try.ty8
  have hz := zero_chunk
  have HY : Hid (bodyD ⟨tsn, stream, ssn, false, false, false, bytes⟩ = enc tsn 4 ++ enc stream 2 ++ enc ssn 2 ++ enc 0 4 ++ bytes) := Lib.hid (by simp [bodyD])
  rw [HY.out]
  have HX := Lib.hid hx
  have HRD := Lib.hid hr
  clear hx hr
  have b0 : Blk (w.alloc (.cells #[.int .u32 tsn, .int .u16 stream, .int .u16 ssn, .bool false, .bool false, .bool false, .slice A n c] 26)) w.heap.size 26 #[.int .u32 tsn, .int .u16 stream, .int .u16 ssn, .bool false, .bool false, .bool false, .slice A n c] := Blk.new w 26 #[.int .u32 tsn, .int .u16 stream, .int .u16 ssn, .bool false, .bool false, .bool false, .slice A n c]
  have b1 : Blk ((w.alloc (.cells #[.int .u32 tsn, .int .u16 stream, .int .u16 ssn, .bool false, .bool false, .bool false, .slice A n c] 26)).alloc (.cells #[.int .u8 0, .int .u8 0, .slice none 0 0] 28)) (w.heap.size + 1) 28 #[.int .u8 0, .int .u8 0, .slice none 0 0] := by simpa using Blk.new (w.alloc (.cells #[.int .u32 tsn, .int .u16 stream, .int .u16 ssn, .bool false, .bool false, .bool false, .slice A n c] 26)) 28 #[.int .u8 0, .int .u8 0, .slice none 0 0]
  have b2 : Blk (((w.alloc (.cells #[.int .u32 tsn, .int .u16 stream, .int .u16 ssn, .bool false, .bool false, .bool false, .slice A n c] 26)).alloc (.cells #[.int .u8 0, .int .u8 0, .slice none 0 0] 28)).alloc (.cells #[.int .u8 0, .int .u8 0, .slice none 0 0] 28)) (w.heap.size + 2) 28 #[.int .u8 0, .int .u8 0, .slice none 0 0] := by simpa using Blk.new ((w.alloc (.cells #[.int .u32 tsn, .int .u16 stream, .int .u16 ssn, .bool false, .bool false, .bool false, .slice A n c] 26)).alloc (.cells #[.int .u8 0, .int .u8 0, .slice none 0 0] 28)) 28 #[.int .u8 0, .int .u8 0, .slice none 0 0]
  have K0_0 := Lib.hid ((b0.alloc (.cells #[.int .u8 0, .int .u8 0, .slice none 0 0] 28)).alloc (.cells #[.int .u8 0, .int .u8 0, .slice none 0 0] 28))
  have K1_0 := Lib.hid (b1.alloc (.cells #[.int .u8 0, .int .u8 0, .slice none 0 0] 28))
  have K2_0 := Lib.hid b2
  have B0 : Hid (Below w.heap.size w (((w.alloc (.cells #[.int .u32 tsn, .int .u16 stream, .int .u16 ssn, .bool false, .bool false, .bool false, .slice A n c] 26)).alloc (.cells #[.int .u8 0, .int .u8 0, .slice none 0 0] 28)).alloc (.cells #[.int .u8 0, .int .u8 0, .slice none 0 0] 28))) := Lib.hid (Wr.below_ ((((Wr.refl 5 w.heap.size w).alloc (.cells #[.int .u32 tsn, .int .u16 stream, .int .u16 ssn, .bool false, .bool false, .bool false, .slice A n c] 26)).alloc (.cells #[.int .u8 0, .int .u8 0, .slice none 0 0] 28)).alloc (.cells #[.int .u8 0, .int .u8 0, .slice none 0 0] 28)) (Nat.le_refl _))
  clear b0 b1 b2
  go_enter Try.func19, Try.ntmps19
  go_wp2_with fail
  generalize (((w.alloc (.cells #[.int .u32 tsn, .int .u16 stream, .int .u16 ssn, .bool false, .bool false, .bool false, .slice A n c] 26)).alloc (.cells #[.int .u8 0, .int .u8 0, .slice none 0 0] 28)).alloc (.cells #[.int .u8 0, .int .u8 0, .slice none 0 0] 28)) = w0 at K0_0 K1_0 K2_0 B0 ⊢
  have O0 := Lib.hid (Own8.nil w0 5 w.heap.size)
  have HP := refPut_yes none 0 0 (tsn) 4 ([]) w0 (by omega) (by omega) O0.out.len O0.out.rd (by unfold IsSize; omega)
  refine HP.mono ?_
  rintro e w1 ⟨A1, c1, rfl, ho, hb⟩
  have O1 : Hid (Own8 w1 5 w.heap.size A1 (4) c1 ([] ++ enc (tsn) 4)) := Lib.hid (ho.more B0.out.size)
  have K0_1 := Lib.hid (K0_0.out.below hb K0_0.out.lt)
  have K1_1 := Lib.hid (K1_0.out.below hb K1_0.out.lt)
  have K2_1 := Lib.hid (K2_0.out.below hb K2_0.out.lt)
  have B1 := Lib.hid (below_then B0.out (Nat.le_refl _) hb)
  clear ho hb HP O0 B0 K0_0 K1_0 K2_0
  have f0_1 : w1.cell? ⟨w.heap.size, 1, none⟩ = some (.int .u16 stream) := K0_1.out.cell 1
  go_wp2_with fail
  clear f0_1
  have HP := refPut_yes A1 4 c1 (stream) 2 ([] ++ enc (tsn) 4) w1 (by omega) (by omega) O1.out.len O1.out.rd (by unfold IsSize; omega)
  refine HP.mono ?_
  rintro e w2 ⟨A2, c2, rfl, ho, hb⟩
  have O2 : Hid (Own8 w2 5 w.heap.size A2 (6) c2 ([] ++ enc (tsn) 4 ++ enc (stream) 2)) := Lib.hid (ho.more B1.out.size)
  have K0_2 := Lib.hid (K0_1.out.below hb K0_1.out.lt)
  have K1_2 := Lib.hid (K1_1.out.below hb K1_1.out.lt)
  have K2_2 := Lib.hid (K2_1.out.below hb K2_1.out.lt)
  have B2 := Lib.hid (below_then B1.out (Nat.le_refl _) hb)
  clear ho hb HP O1 B1 K0_1 K1_1 K2_1
  have f0_2 : w2.cell? ⟨w.heap.size, 2, none⟩ = some (.int .u16 ssn) := K0_2.out.cell 2
  go_wp2_with fail
  clear f0_2
  have HP := refPut_yes A2 6 c2 (ssn) 2 ([] ++ enc (tsn) 4 ++ enc (stream) 2) w2 (by omega) (by omega) O2.out.len O2.out.rd (by unfold IsSize; omega)
  refine HP.mono ?_
  rintro e w3 ⟨A3, c3, rfl, ho, hb⟩
  have O3 : Hid (Own8 w3 5 w.heap.size A3 (8) c3 ([] ++ enc (tsn) 4 ++ enc (stream) 2 ++ enc (ssn) 2)) := Lib.hid (ho.more B2.out.size)
  have K0_3 := Lib.hid (K0_2.out.below hb K0_2.out.lt)
  have K1_3 := Lib.hid (K1_2.out.below hb K1_2.out.lt)
  have K2_3 := Lib.hid (K2_2.out.below hb K2_2.out.lt)
  have B3 := Lib.hid (below_then B2.out (Nat.le_refl _) hb)
  clear ho hb HP O2 B2 K0_2 K1_2 K2_2
  go_wp2_with fail
  have HP := refPut_yes A3 8 c3 (0) 4 ([] ++ enc (tsn) 4 ++ enc (stream) 2 ++ enc (ssn) 2) w3 (by omega) (by omega) O3.out.len O3.out.rd (by unfold IsSize; omega)
  refine HP.mono ?_
  rintro e w4 ⟨A4, c4, rfl, ho, hb⟩
  have O4 : Hid (Own8 w4 5 w.heap.size A4 (12) c4 ([] ++ enc (tsn) 4 ++ enc (stream) 2 ++ enc (ssn) 2 ++ enc (0) 4)) := Lib.hid (ho.more B3.out.size)
  have K0_4 := Lib.hid (K0_3.out.below hb K0_3.out.lt)
  have K1_4 := Lib.hid (K1_3.out.below hb K1_3.out.lt)
  have K2_4 := Lib.hid (K2_3.out.below hb K2_3.out.lt)
  have B4 := Lib.hid (below_then B3.out (Nat.le_refl _) hb)
  clear ho hb HP O3 B3 K0_3 K1_3 K2_3
  have f0_6 : w4.cell? ⟨w.heap.size, 6, none⟩ = some (.slice A n c) := K0_4.out.cell 6
  have hrd := HRD.out.below B4.out
  have hsz : w.heap.size ≤ w4.heap.size := B4.out.size
  go_wp2_with (at_builtin; refine wpList_append8 h8 _ rfl _ _ rfl w.heap.size _ _ _ _ rfl O4.out _ _ _ _ _ rfl HX.out hrd (by omega) hsz ?_; intro A9 c9 w9 ho9 hg9 hh9; have K1_9 := Lib.hid (K1_4.out.grown hg9 (O4.out.blk_ne K1_4.out (by decide))); have K2_9 := Lib.hid (K2_4.out.grown hg9 (O4.out.blk_ne K2_4.out (by decide))); have B9 := Lib.hid (B4.out.grown hg9 hsz O4.out.blk); have O9 := Lib.hid ho9; have x0 : w9.cell? ⟨w.heap.size + 1 + 1, 0, none⟩ = some (.int .u8 0) := K2_9.out.cell 0; have x1 : w9.cell? ⟨w.heap.size + 1 + 1, 1, none⟩ = some (.int .u8 0) := K2_9.out.cell 1; have x2 : w9.cell? ⟨w.heap.size + 1 + 1, 2, none⟩ = some (.slice none 0 0) := K2_9.out.cell 2; have u2 := K2_9.out.frozen 2; have y0 := K1_9.out.cell 0; have y1 := K1_9.out.cell 1; have y2 := K1_9.out.cell 2; have q0 := K1_9.out.frozen 0; have q1 := K1_9.out.frozen 1; have q2 := K1_9.out.frozen 2; clear ho9 hg9 hh9)
  have O10 := Lib.hid (O9.out.setBlk K2_9.out (by decide) 2 (.slice A9 (12 + n : Nat) c9))
  have K1_10 := Lib.hid (K1_9.out.far (p := ⟨w.heap.size + 1 + 1, 2, none⟩) (by simp) (.slice A9 (12 + n : Nat) c9))
  have B10 := Lib.hid (B9.out.setCell (p := ⟨w.heap.size + 1 + 1, 2, none⟩) (by simp; omega) (.slice A9 (12 + n : Nat) c9))
  have H3 := out3 O10.out K1_10.out (by decide) (.int .u8 0) (.int .u8 0) (.slice A9 (12 + n : Nat) c9)
  exact bodyPost_ret (v := .agg #[.int .u8 0, .int .u8 0, .slice A9 (12 + n : Nat) c9]) (by simp [results, Try.results19, go_sem, H3.2.cell]) rfl ⟨A9, _, c9, rfl, H3.1, below3 B10.out (by omega) _ _ _⟩
set_option maxRecDepth 100000 in
set_option maxHeartbeats 4000000 in
theorem refPutData_1 (tsn stream ssn : Nat) (bytes : List UInt8) (h1 : tsn < 4294967296) (h2 : stream < 65536) (h3 : ssn < 65536) (A : Option Addr) (n c : Nat) (w : World) (hn : n ≤ 140737488355200) (hx : bytes.length = n) (hr : Rd w w.heap.size A bytes) :
    Puts 19 #[.agg #[.int .u32 tsn, .int .u16 stream, .int .u16 ssn, .bool false, .bool false, .bool true, .slice A n c]] 0 1 (bodyD ⟨tsn, stream, ssn, false, false, true, bytes⟩) w := by
  refine puts_of ?_
  obtain ⟨i8, h8⟩ := Try.ty8
  have hz := zero_chunk
  have HY : Hid (bodyD ⟨tsn, stream, ssn, false, false, true, bytes⟩ = enc tsn 4 ++ enc stream 2 ++ enc ssn 2 ++ enc 0 4 ++ bytes) := Lib.hid (by simp [bodyD])
  rw [HY.out]
  have HX := Lib.hid hx
  have HRD := Lib.hid hr
  clear hx hr
  have b0 : Blk (w.alloc (.cells #[.int .u32 tsn, .int .u16 stream, .int .u16 ssn, .bool false, .bool false, .bool true, .slice A n c] 26)) w.heap.size 26 #[.int .u32 tsn, .int .u16 stream, .int .u16 ssn, .bool false, .bool false, .bool true, .slice A n c] := Blk.new w 26 #[.int .u32 tsn, .int .u16 stream, .int .u16 ssn, .bool false, .bool false, .bool true, .slice A n c]
  have b1 : Blk ((w.alloc (.cells #[.int .u32 tsn, .int .u16 stream, .int .u16 ssn, .bool false, .bool false, .bool true, .slice A n c] 26)).alloc (.cells #[.int .u8 0, .int .u8 0, .slice none 0 0] 28)) (w.heap.size + 1) 28 #[.int .u8 0, .int .u8 0, .slice none 0 0] := by simpa using Blk.new (w.alloc (.cells #[.int .u32 tsn, .int .u16 stream, .int .u16 ssn, .bool false, .bool false, .bool true, .slice A n c] 26)) 28 #[.int .u8 0, .int .u8 0, .slice none 0 0]
  have b2 : Blk (((w.alloc (.cells #[.int .u32 tsn, .int .u16 stream, .int .u16 ssn, .bool false, .bool false, .bool true, .slice A n c] 26)).alloc (.cells #[.int .u8 0, .int .u8 0, .slice none 0 0] 28)).alloc (.cells #[.int .u8 0, .int .u8 1, .slice none 0 0] 28)) (w.heap.size + 2) 28 #[.int .u8 0, .int .u8 1, .slice none 0 0] := by simpa using Blk.new ((w.alloc (.cells #[.int .u32 tsn, .int .u16 stream, .int .u16 ssn, .bool false, .bool false, .bool true, .slice A n c] 26)).alloc (.cells #[.int .u8 0, .int .u8 0, .slice none 0 0] 28)) 28 #[.int .u8 0, .int .u8 1, .slice none 0 0]
  have K0_0 := Lib.hid ((b0.alloc (.cells #[.int .u8 0, .int .u8 0, .slice none 0 0] 28)).alloc (.cells #[.int .u8 0, .int .u8 1, .slice none 0 0] 28))
  have K1_0 := Lib.hid (b1.alloc (.cells #[.int .u8 0, .int .u8 1, .slice none 0 0] 28))
  have K2_0 := Lib.hid b2
  have B0 : Hid (Below w.heap.size w (((w.alloc (.cells #[.int .u32 tsn, .int .u16 stream, .int .u16 ssn, .bool false, .bool false, .bool true, .slice A n c] 26)).alloc (.cells #[.int .u8 0, .int .u8 0, .slice none 0 0] 28)).alloc (.cells #[.int .u8 0, .int .u8 1, .slice none 0 0] 28))) := Lib.hid (Wr.below_ ((((Wr.refl 5 w.heap.size w).alloc (.cells #[.int .u32 tsn, .int .u16 stream, .int .u16 ssn, .bool false, .bool false, .bool true, .slice A n c] 26)).alloc (.cells #[.int .u8 0, .int .u8 0, .slice none 0 0] 28)).alloc (.cells #[.int .u8 0, .int .u8 1, .slice none 0 0] 28)) (Nat.le_refl _))
  clear b0 b1 b2
  go_enter Try.func19, Try.ntmps19
  go_wp2_with fail
  generalize (((w.alloc (.cells #[.int .u32 tsn, .int .u16 stream, .int .u16 ssn, .bool false, .bool false, .bool true, .slice A n c] 26)).alloc (.cells #[.int .u8 0, .int .u8 0, .slice none 0 0] 28)).alloc (.cells #[.int .u8 0, .int .u8 1, .slice none 0 0] 28)) = w0 at K0_0 K1_0 K2_0 B0 ⊢
  have O0 := Lib.hid (Own8.nil w0 5 w.heap.size)
  have HP := refPut_yes none 0 0 (tsn) 4 ([]) w0 (by omega) (by omega) O0.out.len O0.out.rd (by unfold IsSize; omega)
  refine HP.mono ?_
  rintro e w1 ⟨A1, c1, rfl, ho, hb⟩
  have O1 : Hid (Own8 w1 5 w.heap.size A1 (4) c1 ([] ++ enc (tsn) 4)) := Lib.hid (ho.more B0.out.size)
  have K0_1 := Lib.hid (K0_0.out.below hb K0_0.out.lt)
  have K1_1 := Lib.hid (K1_0.out.below hb K1_0.out.lt)
  have K2_1 := Lib.hid (K2_0.out.below hb K2_0.out.lt)
  have B1 := Lib.hid (below_then B0.out (Nat.le_refl _) hb)
  clear ho hb HP O0 B0 K0_0 K1_0 K2_0
  have f0_1 : w1.cell? ⟨w.heap.size, 1, none⟩ = some (.int .u16 stream) := K0_1.out.cell 1
  go_wp2_with fail
  clear f0_1
  have HP := refPut_yes A1 4 c1 (stream) 2 ([] ++ enc (tsn) 4) w1 (by omega) (by omega) O1.out.len O1.out.rd (by unfold IsSize; omega)
  refine HP.mono ?_
  rintro e w2 ⟨A2, c2, rfl, ho, hb⟩
  have O2 : Hid (Own8 w2 5 w.heap.size A2 (6) c2 ([] ++ enc (tsn) 4 ++ enc (stream) 2)) := Lib.hid (ho.more B1.out.size)
  have K0_2 := Lib.hid (K0_1.out.below hb K0_1.out.lt)
  have K1_2 := Lib.hid (K1_1.out.below hb K1_1.out.lt)
  have K2_2 := Lib.hid (K2_1.out.below hb K2_1.out.lt)
  have B2 := Lib.hid (below_then B1.out (Nat.le_refl _) hb)
  clear ho hb HP O1 B1 K0_1 K1_1 K2_1
  have f0_2 : w2.cell? ⟨w.heap.size, 2, none⟩ = some (.int .u16 ssn) := K0_2.out.cell 2
  go_wp2_with fail
  clear f0_2
  have HP := refPut_yes A2 6 c2 (ssn) 2 ([] ++ enc (tsn) 4 ++ enc (stream) 2) w2 (by omega) (by omega) O2.out.len O2.out.rd (by unfold IsSize; omega)
  refine HP.mono ?_
  rintro e w3 ⟨A3, c3, rfl, ho, hb⟩
  have O3 : Hid (Own8 w3 5 w.heap.size A3 (8) c3 ([] ++ enc (tsn) 4 ++ enc (stream) 2 ++ enc (ssn) 2)) := Lib.hid (ho.more B2.out.size)
  have K0_3 := Lib.hid (K0_2.out.below hb K0_2.out.lt)
  have K1_3 := Lib.hid (K1_2.out.below hb K1_2.out.lt)
  have K2_3 := Lib.hid (K2_2.out.below hb K2_2.out.lt)
  have B3 := Lib.hid (below_then B2.out (Nat.le_refl _) hb)
  clear ho hb HP O2 B2 K0_2 K1_2 K2_2
  go_wp2_with fail
  have HP := refPut_yes A3 8 c3 (0) 4 ([] ++ enc (tsn) 4 ++ enc (stream) 2 ++ enc (ssn) 2) w3 (by omega) (by omega) O3.out.len O3.out.rd (by unfold IsSize; omega)
  refine HP.mono ?_
  rintro e w4 ⟨A4, c4, rfl, ho, hb⟩
  have O4 : Hid (Own8 w4 5 w.heap.size A4 (12) c4 ([] ++ enc (tsn) 4 ++ enc (stream) 2 ++ enc (ssn) 2 ++ enc (0) 4)) := Lib.hid (ho.more B3.out.size)
  have K0_4 := Lib.hid (K0_3.out.below hb K0_3.out.lt)
  have K1_4 := Lib.hid (K1_3.out.below hb K1_3.out.lt)
  have K2_4 := Lib.hid (K2_3.out.below hb K2_3.out.lt)
  have B4 := Lib.hid (below_then B3.out (Nat.le_refl _) hb)
  clear ho hb HP O3 B3 K0_3 K1_3 K2_3
  have f0_6 : w4.cell? ⟨w.heap.size, 6, none⟩ = some (.slice A n c) := K0_4.out.cell 6
  have hrd := HRD.out.below B4.out
  have hsz : w.heap.size ≤ w4.heap.size := B4.out.size
  go_wp2_with (at_builtin; refine wpList_append8 h8 _ rfl _ _ rfl w.heap.size _ _ _ _ rfl O4.out _ _ _ _ _ rfl HX.out hrd (by omega) hsz ?_; intro A9 c9 w9 ho9 hg9 hh9; have K1_9 := Lib.hid (K1_4.out.grown hg9 (O4.out.blk_ne K1_4.out (by decide))); have K2_9 := Lib.hid (K2_4.out.grown hg9 (O4.out.blk_ne K2_4.out (by decide))); have B9 := Lib.hid (B4.out.grown hg9 hsz O4.out.blk); have O9 := Lib.hid ho9; have x0 : w9.cell? ⟨w.heap.size + 1 + 1, 0, none⟩ = some (.int .u8 0) := K2_9.out.cell 0; have x1 : w9.cell? ⟨w.heap.size + 1 + 1, 1, none⟩ = some (.int .u8 1) := K2_9.out.cell 1; have x2 : w9.cell? ⟨w.heap.size + 1 + 1, 2, none⟩ = some (.slice none 0 0) := K2_9.out.cell 2; have u2 := K2_9.out.frozen 2; have y0 := K1_9.out.cell 0; have y1 := K1_9.out.cell 1; have y2 := K1_9.out.cell 2; have q0 := K1_9.out.frozen 0; have q1 := K1_9.out.frozen 1; have q2 := K1_9.out.frozen 2; clear ho9 hg9 hh9)
  have O10 := Lib.hid (O9.out.setBlk K2_9.out (by decide) 2 (.slice A9 (12 + n : Nat) c9))
  have K1_10 := Lib.hid (K1_9.out.far (p := ⟨w.heap.size + 1 + 1, 2, none⟩) (by simp) (.slice A9 (12 + n : Nat) c9))
  have B10 := Lib.hid (B9.out.setCell (p := ⟨w.heap.size + 1 + 1, 2, none⟩) (by simp; omega) (.slice A9 (12 + n : Nat) c9))
  have H3 := out3 O10.out K1_10.out (by decide) (.int .u8 0) (.int .u8 1) (.slice A9 (12 + n : Nat) c9)
  exact bodyPost_ret (v := .agg #[.int .u8 0, .int .u8 1, .slice A9 (12 + n : Nat) c9]) (by simp [results, Try.results19, go_sem, H3.2.cell]) rfl ⟨A9, _, c9, rfl, H3.1, below3 B10.out (by omega) _ _ _⟩
set_option maxRecDepth 100000 in
set_option maxHeartbeats 4000000 in
theorem refPutData_2 (tsn stream ssn : Nat) (bytes : List UInt8) (h1 : tsn < 4294967296) (h2 : stream < 65536) (h3 : ssn < 65536) (A : Option Addr) (n c : Nat) (w : World) (hn : n ≤ 140737488355200) (hx : bytes.length = n) (hr : Rd w w.heap.size A bytes) :
    Puts 19 #[.agg #[.int .u32 tsn, .int .u16 stream, .int .u16 ssn, .bool false, .bool true, .bool false, .slice A n c]] 0 2 (bodyD ⟨tsn, stream, ssn, false, true, false, bytes⟩) w := by
  refine puts_of ?_
  obtain ⟨i8, h8⟩ := Try.ty8
  have hz := zero_chunk
  have HY : Hid (bodyD ⟨tsn, stream, ssn, false, true, false, bytes⟩ = enc tsn 4 ++ enc stream 2 ++ enc ssn 2 ++ enc 0 4 ++ bytes) := Lib.hid (by simp [bodyD])
  rw [HY.out]
  have HX := Lib.hid hx
  have HRD := Lib.hid hr
  clear hx hr
  have b0 : Blk (w.alloc (.cells #[.int .u32 tsn, .int .u16 stream, .int .u16 ssn, .bool false, .bool true, .bool false, .slice A n c] 26)) w.heap.size 26 #[.int .u32 tsn, .int .u16 stream, .int .u16 ssn, .bool false, .bool true, .bool false, .slice A n c] := Blk.new w 26 #[.int .u32 tsn, .int .u16 stream, .int .u16 ssn, .bool false, .bool true, .bool false, .slice A n c]
  have b1 : Blk ((w.alloc (.cells #[.int .u32 tsn, .int .u16 stream, .int .u16 ssn, .bool false, .bool true, .bool false, .slice A n c] 26)).alloc (.cells #[.int .u8 0, .int .u8 0, .slice none 0 0] 28)) (w.heap.size + 1) 28 #[.int .u8 0, .int .u8 0, .slice none 0 0] := by simpa using Blk.new (w.alloc (.cells #[.int .u32 tsn, .int .u16 stream, .int .u16 ssn, .bool false, .bool true, .bool false, .slice A n c] 26)) 28 #[.int .u8 0, .int .u8 0, .slice none 0 0]
  have b2 : Blk (((w.alloc (.cells #[.int .u32 tsn, .int .u16 stream, .int .u16 ssn, .bool false, .bool true, .bool false, .slice A n c] 26)).alloc (.cells #[.int .u8 0, .int .u8 0, .slice none 0 0] 28)).alloc (.cells #[.int .u8 0, .int .u8 2, .slice none 0 0] 28)) (w.heap.size + 2) 28 #[.int .u8 0, .int .u8 2, .slice none 0 0] := by simpa using Blk.new ((w.alloc (.cells #[.int .u32 tsn, .int .u16 stream, .int .u16 ssn, .bool false, .bool true, .bool false, .slice A n c] 26)).alloc (.cells #[.int .u8 0, .int .u8 0, .slice none 0 0] 28)) 28 #[.int .u8 0, .int .u8 2, .slice none 0 0]
  have K0_0 := Lib.hid ((b0.alloc (.cells #[.int .u8 0, .int .u8 0, .slice none 0 0] 28)).alloc (.cells #[.int .u8 0, .int .u8 2, .slice none 0 0] 28))
  have K1_0 := Lib.hid (b1.alloc (.cells #[.int .u8 0, .int .u8 2, .slice none 0 0] 28))
  have K2_0 := Lib.hid b2
  have B0 : Hid (Below w.heap.size w (((w.alloc (.cells #[.int .u32 tsn, .int .u16 stream, .int .u16 ssn, .bool false, .bool true, .bool false, .slice A n c] 26)).alloc (.cells #[.int .u8 0, .int .u8 0, .slice none 0 0] 28)).alloc (.cells #[.int .u8 0, .int .u8 2, .slice none 0 0] 28))) := Lib.hid (Wr.below_ ((((Wr.refl 5 w.heap.size w).alloc (.cells #[.int .u32 tsn, .int .u16 stream, .int .u16 ssn, .bool false, .bool true, .bool false, .slice A n c] 26)).alloc (.cells #[.int .u8 0, .int .u8 0, .slice none 0 0] 28)).alloc (.cells #[.int .u8 0, .int .u8 2, .slice none 0 0] 28)) (Nat.le_refl _))
  clear b0 b1 b2
  go_enter Try.func19, Try.ntmps19
  go_wp2_with fail
  generalize (((w.alloc (.cells #[.int .u32 tsn, .int .u16 stream, .int .u16 ssn, .bool false, .bool true, .bool false, .slice A n c] 26)).alloc (.cells #[.int .u8 0, .int .u8 0, .slice none 0 0] 28)).alloc (.cells #[.int .u8 0, .int .u8 2, .slice none 0 0] 28)) = w0 at K0_0 K1_0 K2_0 B0 ⊢
  have O0 := Lib.hid (Own8.nil w0 5 w.heap.size)
  have HP := refPut_yes none 0 0 (tsn) 4 ([]) w0 (by omega) (by omega) O0.out.len O0.out.rd (by unfold IsSize; omega)
  refine HP.mono ?_
  rintro e w1 ⟨A1, c1, rfl, ho, hb⟩
  have O1 : Hid (Own8 w1 5 w.heap.size A1 (4) c1 ([] ++ enc (tsn) 4)) := Lib.hid (ho.more B0.out.size)
  have K0_1 := Lib.hid (K0_0.out.below hb K0_0.out.lt)
  have K1_1 := Lib.hid (K1_0.out.below hb K1_0.out.lt)
  have K2_1 := Lib.hid (K2_0.out.below hb K2_0.out.lt)
  have B1 := Lib.hid (below_then B0.out (Nat.le_refl _) hb)
  clear ho hb HP O0 B0 K0_0 K1_0 K2_0
  have f0_1 : w1.cell? ⟨w.heap.size, 1, none⟩ = some (.int .u16 stream) := K0_1.out.cell 1
  go_wp2_with fail
  clear f0_1
  have HP := refPut_yes A1 4 c1 (stream) 2 ([] ++ enc (tsn) 4) w1 (by omega) (by omega) O1.out.len O1.out.rd (by unfold IsSize; omega)
  refine HP.mono ?_
  rintro e w2 ⟨A2, c2, rfl, ho, hb⟩
  have O2 : Hid (Own8 w2 5 w.heap.size A2 (6) c2 ([] ++ enc (tsn) 4 ++ enc (stream) 2)) := Lib.hid (ho.more B1.out.size)
  have K0_2 := Lib.hid (K0_1.out.below hb K0_1.out.lt)
  have K1_2 := Lib.hid (K1_1.out.below hb K1_1.out.lt)
  have K2_2 := Lib.hid (K2_1.out.below hb K2_1.out.lt)
  have B2 := Lib.hid (below_then B1.out (Nat.le_refl _) hb)
  clear ho hb HP O1 B1 K0_1 K1_1 K2_1
  have f0_2 : w2.cell? ⟨w.heap.size, 2, none⟩ = some (.int .u16 ssn) := K0_2.out.cell 2
  go_wp2_with fail
  clear f0_2
  have HP := refPut_yes A2 6 c2 (ssn) 2 ([] ++ enc (tsn) 4 ++ enc (stream) 2) w2 (by omega) (by omega) O2.out.len O2.out.rd (by unfold IsSize; omega)
  refine HP.mono ?_
  rintro e w3 ⟨A3, c3, rfl, ho, hb⟩
  have O3 : Hid (Own8 w3 5 w.heap.size A3 (8) c3 ([] ++ enc (tsn) 4 ++ enc (stream) 2 ++ enc (ssn) 2)) := Lib.hid (ho.more B2.out.size)
  have K0_3 := Lib.hid (K0_2.out.below hb K0_2.out.lt)
  have K1_3 := Lib.hid (K1_2.out.below hb K1_2.out.lt)
  have K2_3 := Lib.hid (K2_2.out.below hb K2_2.out.lt)
  have B3 := Lib.hid (below_then B2.out (Nat.le_refl _) hb)
  clear ho hb HP O2 B2 K0_2 K1_2 K2_2
  go_wp2_with fail
  have HP := refPut_yes A3 8 c3 (0) 4 ([] ++ enc (tsn) 4 ++ enc (stream) 2 ++ enc (ssn) 2) w3 (by omega) (by omega) O3.out.len O3.out.rd (by unfold IsSize; omega)
  refine HP.mono ?_
  rintro e w4 ⟨A4, c4, rfl, ho, hb⟩
  have O4 : Hid (Own8 w4 5 w.heap.size A4 (12) c4 ([] ++ enc (tsn) 4 ++ enc (stream) 2 ++ enc (ssn) 2 ++ enc (0) 4)) := Lib.hid (ho.more B3.out.size)
  have K0_4 := Lib.hid (K0_3.out.below hb K0_3.out.lt)
  have K1_4 := Lib.hid (K1_3.out.below hb K1_3.out.lt)
  have K2_4 := Lib.hid (K2_3.out.below hb K2_3.out.lt)
  have B4 := Lib.hid (below_then B3.out (Nat.le_refl _) hb)
  clear ho hb HP O3 B3 K0_3 K1_3 K2_3
  have f0_6 : w4.cell? ⟨w.heap.size, 6, none⟩ = some (.slice A n c) := K0_4.out.cell 6
  have hrd := HRD.out.below B4.out
  have hsz : w.heap.size ≤ w4.heap.size := B4.out.size
  go_wp2_with (at_builtin; refine wpList_append8 h8 _ rfl _ _ rfl w.heap.size _ _ _ _ rfl O4.out _ _ _ _ _ rfl HX.out hrd (by omega) hsz ?_; intro A9 c9 w9 ho9 hg9 hh9; have K1_9 := Lib.hid (K1_4.out.grown hg9 (O4.out.blk_ne K1_4.out (by decide))); have K2_9 := Lib.hid (K2_4.out.grown hg9 (O4.out.blk_ne K2_4.out (by decide))); have B9 := Lib.hid (B4.out.grown hg9 hsz O4.out.blk); have O9 := Lib.hid ho9; have x0 : w9.cell? ⟨w.heap.size + 1 + 1, 0, none⟩ = some (.int .u8 0) := K2_9.out.cell 0; have x1 : w9.cell? ⟨w.heap.size + 1 + 1, 1, none⟩ = some (.int .u8 2) := K2_9.out.cell 1; have x2 : w9.cell? ⟨w.heap.size + 1 + 1, 2, none⟩ = some (.slice none 0 0) := K2_9.out.cell 2; have u2 := K2_9.out.frozen 2; have y0 := K1_9.out.cell 0; have y1 := K1_9.out.cell 1; have y2 := K1_9.out.cell 2; have q0 := K1_9.out.frozen 0; have q1 := K1_9.out.frozen 1; have q2 := K1_9.out.frozen 2; clear ho9 hg9 hh9)
  have O10 := Lib.hid (O9.out.setBlk K2_9.out (by decide) 2 (.slice A9 (12 + n : Nat) c9))
  have K1_10 := Lib.hid (K1_9.out.far (p := ⟨w.heap.size + 1 + 1, 2, none⟩) (by simp) (.slice A9 (12 + n : Nat) c9))
  have B10 := Lib.hid (B9.out.setCell (p := ⟨w.heap.size + 1 + 1, 2, none⟩) (by simp; omega) (.slice A9 (12 + n : Nat) c9))
  have H3 := out3 O10.out K1_10.out (by decide) (.int .u8 0) (.int .u8 2) (.slice A9 (12 + n : Nat) c9)
  exact bodyPost_ret (v := .agg #[.int .u8 0, .int .u8 2, .slice A9 (12 + n : Nat) c9]) (by simp [results, Try.results19, go_sem, H3.2.cell]) rfl ⟨A9, _, c9, rfl, H3.1, below3 B10.out (by omega) _ _ _⟩
set_option maxRecDepth 100000 in
set_option maxHeartbeats 4000000 in
theorem refPutData_3 (tsn stream ssn : Nat) (bytes : List UInt8) (h1 : tsn < 4294967296) (h2 : stream < 65536) (h3 : ssn < 65536) (A : Option Addr) (n c : Nat) (w : World) (hn : n ≤ 140737488355200) (hx : bytes.length = n) (hr : Rd w w.heap.size A bytes) :
    Puts 19 #[.agg #[.int .u32 tsn, .int .u16 stream, .int .u16 ssn, .bool false, .bool true, .bool true, .slice A n c]] 0 3 (bodyD ⟨tsn, stream, ssn, false, true, true, bytes⟩) w := by
  refine puts_of ?_
  obtain ⟨i8, h8⟩ := Try.ty8
  have hz := zero_chunk
  have HY : Hid (bodyD ⟨tsn, stream, ssn, false, true, true, bytes⟩ = enc tsn 4 ++ enc stream 2 ++ enc ssn 2 ++ enc 0 4 ++ bytes) := Lib.hid (by simp [bodyD])
  rw [HY.out]
  have HX := Lib.hid hx
  have HRD := Lib.hid hr
  clear hx hr
  have b0 : Blk (w.alloc (.cells #[.int .u32 tsn, .int .u16 stream, .int .u16 ssn, .bool false, .bool true, .bool true, .slice A n c] 26)) w.heap.size 26 #[.int .u32 tsn, .int .u16 stream, .int .u16 ssn, .bool false, .bool true, .bool true, .slice A n c] := Blk.new w 26 #[.int .u32 tsn, .int .u16 stream, .int .u16 ssn, .bool false, .bool true, .bool true, .slice A n c]
  have b1 : Blk ((w.alloc (.cells #[.int .u32 tsn, .int .u16 stream, .int .u16 ssn, .bool false, .bool true, .bool true, .slice A n c] 26)).alloc (.cells #[.int .u8 0, .int .u8 0, .slice none 0 0] 28)) (w.heap.size + 1) 28 #[.int .u8 0, .int .u8 0, .slice none 0 0] := by simpa using Blk.new (w.alloc (.cells #[.int .u32 tsn, .int .u16 stream, .int .u16 ssn, .bool false, .bool true, .bool true, .slice A n c] 26)) 28 #[.int .u8 0, .int .u8 0, .slice none 0 0]
  have b2 : Blk (((w.alloc (.cells #[.int .u32 tsn, .int .u16 stream, .int .u16 ssn, .bool false, .bool true, .bool true, .slice A n c] 26)).alloc (.cells #[.int .u8 0, .int .u8 0, .slice none 0 0] 28)).alloc (.cells #[.int .u8 0, .int .u8 3, .slice none 0 0] 28)) (w.heap.size + 2) 28 #[.int .u8 0, .int .u8 3, .slice none 0 0] := by simpa using Blk.new ((w.alloc (.cells #[.int .u32 tsn, .int .u16 stream, .int .u16 ssn, .bool false, .bool true, .bool true, .slice A n c] 26)).alloc (.cells #[.int .u8 0, .int .u8 0, .slice none 0 0] 28)) 28 #[.int .u8 0, .int .u8 3, .slice none 0 0]
  have K0_0 := Lib.hid ((b0.alloc (.cells #[.int .u8 0, .int .u8 0, .slice none 0 0] 28)).alloc (.cells #[.int .u8 0, .int .u8 3, .slice none 0 0] 28))
  have K1_0 := Lib.hid (b1.alloc (.cells #[.int .u8 0, .int .u8 3, .slice none 0 0] 28))
  have K2_0 := Lib.hid b2
  have B0 : Hid (Below w.heap.size w (((w.alloc (.cells #[.int .u32 tsn, .int .u16 stream, .int .u16 ssn, .bool false, .bool true, .bool true, .slice A n c] 26)).alloc (.cells #[.int .u8 0, .int .u8 0, .slice none 0 0] 28)).alloc (.cells #[.int .u8 0, .int .u8 3, .slice none 0 0] 28))) := Lib.hid (Wr.below_ ((((Wr.refl 5 w.heap.size w).alloc (.cells #[.int .u32 tsn, .int .u16 stream, .int .u16 ssn, .bool false, .bool true, .bool true, .slice A n c] 26)).alloc (.cells #[.int .u8 0, .int .u8 0, .slice none 0 0] 28)).alloc (.cells #[.int .u8 0, .int .u8 3, .slice none 0 0] 28)) (Nat.le_refl _))
  clear b0 b1 b2
  go_enter Try.func19, Try.ntmps19
  go_wp2_with fail
  generalize (((w.alloc (.cells #[.int .u32 tsn, .int .u16 stream, .int .u16 ssn, .bool false, .bool true, .bool true, .slice A n c] 26)).alloc (.cells #[.int .u8 0, .int .u8 0, .slice none 0 0] 28)).alloc (.cells #[.int .u8 0, .int .u8 3, .slice none 0 0] 28)) = w0 at K0_0 K1_0 K2_0 B0 ⊢
  have O0 := Lib.hid (Own8.nil w0 5 w.heap.size)
  have HP := refPut_yes none 0 0 (tsn) 4 ([]) w0 (by omega) (by omega) O0.out.len O0.out.rd (by unfold IsSize; omega)
  refine HP.mono ?_
  rintro e w1 ⟨A1, c1, rfl, ho, hb⟩
  have O1 : Hid (Own8 w1 5 w.heap.size A1 (4) c1 ([] ++ enc (tsn) 4)) := Lib.hid (ho.more B0.out.size)
  have K0_1 := Lib.hid (K0_0.out.below hb K0_0.out.lt)
  have K1_1 := Lib.hid (K1_0.out.below hb K1_0.out.lt)
  have K2_1 := Lib.hid (K2_0.out.below hb K2_0.out.lt)
  have B1 := Lib.hid (below_then B0.out (Nat.le_refl _) hb)
  clear ho hb HP O0 B0 K0_0 K1_0 K2_0
  have f0_1 : w1.cell? ⟨w.heap.size, 1, none⟩ = some (.int .u16 stream) := K0_1.out.cell 1
  go_wp2_with fail
  clear f0_1
  have HP := refPut_yes A1 4 c1 (stream) 2 ([] ++ enc (tsn) 4) w1 (by omega) (by omega) O1.out.len O1.out.rd (by unfold IsSize; omega)
  refine HP.mono ?_
  rintro e w2 ⟨A2, c2, rfl, ho, hb⟩
  have O2 : Hid (Own8 w2 5 w.heap.size A2 (6) c2 ([] ++ enc (tsn) 4 ++ enc (stream) 2)) := Lib.hid (ho.more B1.out.size)
  have K0_2 := Lib.hid (K0_1.out.below hb K0_1.out.lt)
  have K1_2 := Lib.hid (K1_1.out.below hb K1_1.out.lt)
  have K2_2 := Lib.hid (K2_1.out.below hb K2_1.out.lt)
  have B2 := Lib.hid (below_then B1.out (Nat.le_refl _) hb)
  clear ho hb HP O1 B1 K0_1 K1_1 K2_1
  have f0_2 : w2.cell? ⟨w.heap.size, 2, none⟩ = some (.int .u16 ssn) := K0_2.out.cell 2
  go_wp2_with fail
  clear f0_2
  have HP := refPut_yes A2 6 c2 (ssn) 2 ([] ++ enc (tsn) 4 ++ enc (stream) 2) w2 (by omega) (by omega) O2.out.len O2.out.rd (by unfold IsSize; omega)
  refine HP.mono ?_
  rintro e w3 ⟨A3, c3, rfl, ho, hb⟩
  have O3 : Hid (Own8 w3 5 w.heap.size A3 (8) c3 ([] ++ enc (tsn) 4 ++ enc (stream) 2 ++ enc (ssn) 2)) := Lib.hid (ho.more B2.out.size)
  have K0_3 := Lib.hid (K0_2.out.below hb K0_2.out.lt)
  have K1_3 := Lib.hid (K1_2.out.below hb K1_2.out.lt)
  have K2_3 := Lib.hid (K2_2.out.below hb K2_2.out.lt)
  have B3 := Lib.hid (below_then B2.out (Nat.le_refl _) hb)
  clear ho hb HP O2 B2 K0_2 K1_2 K2_2
  go_wp2_with fail
  have HP := refPut_yes A3 8 c3 (0) 4 ([] ++ enc (tsn) 4 ++ enc (stream) 2 ++ enc (ssn) 2) w3 (by omega) (by omega) O3.out.len O3.out.rd (by unfold IsSize; omega)
  refine HP.mono ?_
  rintro e w4 ⟨A4, c4, rfl, ho, hb⟩
  have O4 : Hid (Own8 w4 5 w.heap.size A4 (12) c4 ([] ++ enc (tsn) 4 ++ enc (stream) 2 ++ enc (ssn) 2 ++ enc (0) 4)) := Lib.hid (ho.more B3.out.size)
  have K0_4 := Lib.hid (K0_3.out.below hb K0_3.out.lt)
  have K1_4 := Lib.hid (K1_3.out.below hb K1_3.out.lt)
  have K2_4 := Lib.hid (K2_3.out.below hb K2_3.out.lt)
  have B4 := Lib.hid (below_then B3.out (Nat.le_refl _) hb)
  clear ho hb HP O3 B3 K0_3 K1_3 K2_3
  have f0_6 : w4.cell? ⟨w.heap.size, 6, none⟩ = some (.slice A n c) := K0_4.out.cell 6
  have hrd := HRD.out.below B4.out
  have hsz : w.heap.size ≤ w4.heap.size := B4.out.size
  go_wp2_with (at_builtin; refine wpList_append8 h8 _ rfl _ _ rfl w.heap.size _ _ _ _ rfl O4.out _ _ _ _ _ rfl HX.out hrd (by omega) hsz ?_; intro A9 c9 w9 ho9 hg9 hh9; have K1_9 := Lib.hid (K1_4.out.grown hg9 (O4.out.blk_ne K1_4.out (by decide))); have K2_9 := Lib.hid (K2_4.out.grown hg9 (O4.out.blk_ne K2_4.out (by decide))); have B9 := Lib.hid (B4.out.grown hg9 hsz O4.out.blk); have O9 := Lib.hid ho9; have x0 : w9.cell? ⟨w.heap.size + 1 + 1, 0, none⟩ = some (.int .u8 0) := K2_9.out.cell 0; have x1 : w9.cell? ⟨w.heap.size + 1 + 1, 1, none⟩ = some (.int .u8 3) := K2_9.out.cell 1; have x2 : w9.cell? ⟨w.heap.size + 1 + 1, 2, none⟩ = some (.slice none 0 0) := K2_9.out.cell 2; have u2 := K2_9.out.frozen 2; have y0 := K1_9.out.cell 0; have y1 := K1_9.out.cell 1; have y2 := K1_9.out.cell 2; have q0 := K1_9.out.frozen 0; have q1 := K1_9.out.frozen 1; have q2 := K1_9.out.frozen 2; clear ho9 hg9 hh9)
  have O10 := Lib.hid (O9.out.setBlk K2_9.out (by decide) 2 (.slice A9 (12 + n : Nat) c9))
  have K1_10 := Lib.hid (K1_9.out.far (p := ⟨w.heap.size + 1 + 1, 2, none⟩) (by simp) (.slice A9 (12 + n : Nat) c9))
  have B10 := Lib.hid (B9.out.setCell (p := ⟨w.heap.size + 1 + 1, 2, none⟩) (by simp; omega) (.slice A9 (12 + n : Nat) c9))
  have H3 := out3 O10.out K1_10.out (by decide) (.int .u8 0) (.int .u8 3) (.slice A9 (12 + n : Nat) c9)
  exact bodyPost_ret (v := .agg #[.int .u8 0, .int .u8 3, .slice A9 (12 + n : Nat) c9]) (by simp [results, Try.results19, go_sem, H3.2.cell]) rfl ⟨A9, _, c9, rfl, H3.1, below3 B10.out (by omega) _ _ _⟩
set_option maxRecDepth 100000 in
set_option maxHeartbeats 4000000 in
theorem refPutData_4 (tsn stream ssn : Nat) (bytes : List UInt8) (h1 : tsn < 4294967296) (h2 : stream < 65536) (h3 : ssn < 65536) (A : Option Addr) (n c : Nat) (w : World) (hn : n ≤ 140737488355200) (hx : bytes.length = n) (hr : Rd w w.heap.size A bytes) :
    Puts 19 #[.agg #[.int .u32 tsn, .int .u16 stream, .int .u16 ssn, .bool true, .bool false, .bool false, .slice A n c]] 0 4 (bodyD ⟨tsn, stream, ssn, true, false, false, bytes⟩) w := by
  refine puts_of ?_
  obtain ⟨i8, h8⟩ := Try.ty8
  have hz := zero_chunk
  have HY : Hid (bodyD ⟨tsn, stream, ssn, true, false, false, bytes⟩ = enc tsn 4 ++ enc stream 2 ++ enc ssn 2 ++ enc 0 4 ++ bytes) := Lib.hid (by simp [bodyD])
  rw [HY.out]
  have HX := Lib.hid hx
  have HRD := Lib.hid hr
  clear hx hr
  have b0 : Blk (w.alloc (.cells #[.int .u32 tsn, .int .u16 stream, .int .u16 ssn, .bool true, .bool false, .bool false, .slice A n c] 26)) w.heap.size 26 #[.int .u32 tsn, .int .u16 stream, .int .u16 ssn, .bool true, .bool false, .bool false, .slice A n c] := Blk.new w 26 #[.int .u32 tsn, .int .u16 stream, .int .u16 ssn, .bool true, .bool false, .bool false, .slice A n c]
  have b1 : Blk ((w.alloc (.cells #[.int .u32 tsn, .int .u16 stream, .int .u16 ssn, .bool true, .bool false, .bool false, .slice A n c] 26)).alloc (.cells #[.int .u8 0, .int .u8 0, .slice none 0 0] 28)) (w.heap.size + 1) 28 #[.int .u8 0, .int .u8 0, .slice none 0 0] := by simpa using Blk.new (w.alloc (.cells #[.int .u32 tsn, .int .u16 stream, .int .u16 ssn, .bool true, .bool false, .bool false, .slice A n c] 26)) 28 #[.int .u8 0, .int .u8 0, .slice none 0 0]
  have b2 : Blk (((w.alloc (.cells #[.int .u32 tsn, .int .u16 stream, .int .u16 ssn, .bool true, .bool false, .bool false, .slice A n c] 26)).alloc (.cells #[.int .u8 0, .int .u8 0, .slice none 0 0] 28)).alloc (.cells #[.int .u8 0, .int .u8 4, .slice none 0 0] 28)) (w.heap.size + 2) 28 #[.int .u8 0, .int .u8 4, .slice none 0 0] := by simpa using Blk.new ((w.alloc (.cells #[.int .u32 tsn, .int .u16 stream, .int .u16 ssn, .bool true, .bool false, .bool false, .slice A n c] 26)).alloc (.cells #[.int .u8 0, .int .u8 0, .slice none 0 0] 28)) 28 #[.int .u8 0, .int .u8 4, .slice none 0 0]
  have K0_0 := Lib.hid ((b0.alloc (.cells #[.int .u8 0, .int .u8 0, .slice none 0 0] 28)).alloc (.cells #[.int .u8 0, .int .u8 4, .slice none 0 0] 28))
  have K1_0 := Lib.hid (b1.alloc (.cells #[.int .u8 0, .int .u8 4, .slice none 0 0] 28))
  have K2_0 := Lib.hid b2
  have B0 : Hid (Below w.heap.size w (((w.alloc (.cells #[.int .u32 tsn, .int .u16 stream, .int .u16 ssn, .bool true, .bool false, .bool false, .slice A n c] 26)).alloc (.cells #[.int .u8 0, .int .u8 0, .slice none 0 0] 28)).alloc (.cells #[.int .u8 0, .int .u8 4, .slice none 0 0] 28))) := Lib.hid (Wr.below_ ((((Wr.refl 5 w.heap.size w).alloc (.cells #[.int .u32 tsn, .int .u16 stream, .int .u16 ssn, .bool true, .bool false, .bool false, .slice A n c] 26)).alloc (.cells #[.int .u8 0, .int .u8 0, .slice none 0 0] 28)).alloc (.cells #[.int .u8 0, .int .u8 4, .slice none 0 0] 28)) (Nat.le_refl _))
  clear b0 b1 b2
  go_enter Try.func19, Try.ntmps19
  go_wp2_with fail
  generalize (((w.alloc (.cells #[.int .u32 tsn, .int .u16 stream, .int .u16 ssn, .bool true, .bool false, .bool false, .slice A n c] 26)).alloc (.cells #[.int .u8 0, .int .u8 0, .slice none 0 0] 28)).alloc (.cells #[.int .u8 0, .int .u8 4, .slice none 0 0] 28)) = w0 at K0_0 K1_0 K2_0 B0 ⊢
  have O0 := Lib.hid (Own8.nil w0 5 w.heap.size)
  have HP := refPut_yes none 0 0 (tsn) 4 ([]) w0 (by omega) (by omega) O0.out.len O0.out.rd (by unfold IsSize; omega)
  refine HP.mono ?_
  rintro e w1 ⟨A1, c1, rfl, ho, hb⟩
  have O1 : Hid (Own8 w1 5 w.heap.size A1 (4) c1 ([] ++ enc (tsn) 4)) := Lib.hid (ho.more B0.out.size)
  have K0_1 := Lib.hid (K0_0.out.below hb K0_0.out.lt)
  have K1_1 := Lib.hid (K1_0.out.below hb K1_0.out.lt)
  have K2_1 := Lib.hid (K2_0.out.below hb K2_0.out.lt)
  have B1 := Lib.hid (below_then B0.out (Nat.le_refl _) hb)
  clear ho hb HP O0 B0 K0_0 K1_0 K2_0
  have f0_1 : w1.cell? ⟨w.heap.size, 1, none⟩ = some (.int .u16 stream) := K0_1.out.cell 1
  go_wp2_with fail
  clear f0_1
  have HP := refPut_yes A1 4 c1 (stream) 2 ([] ++ enc (tsn) 4) w1 (by omega) (by omega) O1.out.len O1.out.rd (by unfold IsSize; omega)
  refine HP.mono ?_
  rintro e w2 ⟨A2, c2, rfl, ho, hb⟩
  have O2 : Hid (Own8 w2 5 w.heap.size A2 (6) c2 ([] ++ enc (tsn) 4 ++ enc (stream) 2)) := Lib.hid (ho.more B1.out.size)
  have K0_2 := Lib.hid (K0_1.out.below hb K0_1.out.lt)
  have K1_2 := Lib.hid (K1_1.out.below hb K1_1.out.lt)
  have K2_2 := Lib.hid (K2_1.out.below hb K2_1.out.lt)
  have B2 := Lib.hid (below_then B1.out (Nat.le_refl _) hb)
  clear ho hb HP O1 B1 K0_1 K1_1 K2_1
  have f0_2 : w2.cell? ⟨w.heap.size, 2, none⟩ = some (.int .u16 ssn) := K0_2.out.cell 2
  go_wp2_with fail
  clear f0_2
  have HP := refPut_yes A2 6 c2 (ssn) 2 ([] ++ enc (tsn) 4 ++ enc (stream) 2) w2 (by omega) (by omega) O2.out.len O2.out.rd (by unfold IsSize; omega)
  refine HP.mono ?_
  rintro e w3 ⟨A3, c3, rfl, ho, hb⟩
  have O3 : Hid (Own8 w3 5 w.heap.size A3 (8) c3 ([] ++ enc (tsn) 4 ++ enc (stream) 2 ++ enc (ssn) 2)) := Lib.hid (ho.more B2.out.size)
  have K0_3 := Lib.hid (K0_2.out.below hb K0_2.out.lt)
  have K1_3 := Lib.hid (K1_2.out.below hb K1_2.out.lt)
  have K2_3 := Lib.hid (K2_2.out.below hb K2_2.out.lt)
  have B3 := Lib.hid (below_then B2.out (Nat.le_refl _) hb)
  clear ho hb HP O2 B2 K0_2 K1_2 K2_2
  go_wp2_with fail
  have HP := refPut_yes A3 8 c3 (0) 4 ([] ++ enc (tsn) 4 ++ enc (stream) 2 ++ enc (ssn) 2) w3 (by omega) (by omega) O3.out.len O3.out.rd (by unfold IsSize; omega)
  refine HP.mono ?_
  rintro e w4 ⟨A4, c4, rfl, ho, hb⟩
  have O4 : Hid (Own8 w4 5 w.heap.size A4 (12) c4 ([] ++ enc (tsn) 4 ++ enc (stream) 2 ++ enc (ssn) 2 ++ enc (0) 4)) := Lib.hid (ho.more B3.out.size)
  have K0_4 := Lib.hid (K0_3.out.below hb K0_3.out.lt)
  have K1_4 := Lib.hid (K1_3.out.below hb K1_3.out.lt)
  have K2_4 := Lib.hid (K2_3.out.below hb K2_3.out.lt)
  have B4 := Lib.hid (below_then B3.out (Nat.le_refl _) hb)
  clear ho hb HP O3 B3 K0_3 K1_3 K2_3
  have f0_6 : w4.cell? ⟨w.heap.size, 6, none⟩ = some (.slice A n c) := K0_4.out.cell 6
  have hrd := HRD.out.below B4.out
  have hsz : w.heap.size ≤ w4.heap.size := B4.out.size
  go_wp2_with (at_builtin; refine wpList_append8 h8 _ rfl _ _ rfl w.heap.size _ _ _ _ rfl O4.out _ _ _ _ _ rfl HX.out hrd (by omega) hsz ?_; intro A9 c9 w9 ho9 hg9 hh9; have K1_9 := Lib.hid (K1_4.out.grown hg9 (O4.out.blk_ne K1_4.out (by decide))); have K2_9 := Lib.hid (K2_4.out.grown hg9 (O4.out.blk_ne K2_4.out (by decide))); have B9 := Lib.hid (B4.out.grown hg9 hsz O4.out.blk); have O9 := Lib.hid ho9; have x0 : w9.cell? ⟨w.heap.size + 1 + 1, 0, none⟩ = some (.int .u8 0) := K2_9.out.cell 0; have x1 : w9.cell? ⟨w.heap.size + 1 + 1, 1, none⟩ = some (.int .u8 4) := K2_9.out.cell 1; have x2 : w9.cell? ⟨w.heap.size + 1 + 1, 2, none⟩ = some (.slice none 0 0) := K2_9.out.cell 2; have u2 := K2_9.out.frozen 2; have y0 := K1_9.out.cell 0; have y1 := K1_9.out.cell 1; have y2 := K1_9.out.cell 2; have q0 := K1_9.out.frozen 0; have q1 := K1_9.out.frozen 1; have q2 := K1_9.out.frozen 2; clear ho9 hg9 hh9)
  have O10 := Lib.hid (O9.out.setBlk K2_9.out (by decide) 2 (.slice A9 (12 + n : Nat) c9))
  have K1_10 := Lib.hid (K1_9.out.far (p := ⟨w.heap.size + 1 + 1, 2, none⟩) (by simp) (.slice A9 (12 + n : Nat) c9))
  have B10 := Lib.hid (B9.out.setCell (p := ⟨w.heap.size + 1 + 1, 2, none⟩) (by simp; omega) (.slice A9 (12 + n : Nat) c9))
  have H3 := out3 O10.out K1_10.out (by decide) (.int .u8 0) (.int .u8 4) (.slice A9 (12 + n : Nat) c9)
  exact bodyPost_ret (v := .agg #[.int .u8 0, .int .u8 4, .slice A9 (12 + n : Nat) c9]) (by simp [results, Try.results19, go_sem, H3.2.cell]) rfl ⟨A9, _, c9, rfl, H3.1, below3 B10.out (by omega) _ _ _⟩
set_option maxRecDepth 100000 in
set_option maxHeartbeats 4000000 in
theorem refPutData_5 (tsn stream ssn : Nat) (bytes : List UInt8) (h1 : tsn < 4294967296) (h2 : stream < 65536) (h3 : ssn < 65536) (A : Option Addr) (n c : Nat) (w : World) (hn : n ≤ 140737488355200) (hx : bytes.length = n) (hr : Rd w w.heap.size A bytes) :
    Puts 19 #[.agg #[.int .u32 tsn, .int .u16 stream, .int .u16 ssn, .bool true, .bool false, .bool true, .slice A n c]] 0 5 (bodyD ⟨tsn, stream, ssn, true, false, true, bytes⟩) w := by
  refine puts_of ?_
  obtain ⟨i8, h8⟩ := Try.ty8
  have hz := zero_chunk
  have HY : Hid (bodyD ⟨tsn, stream, ssn, true, false, true, bytes⟩ = enc tsn 4 ++ enc stream 2 ++ enc ssn 2 ++ enc 0 4 ++ bytes) := Lib.hid (by simp [bodyD])
  rw [HY.out]
  have HX := Lib.hid hx
  have HRD := Lib.hid hr
  clear hx hr
  have b0 : Blk (w.alloc (.cells #[.int .u32 tsn, .int .u16 stream, .int .u16 ssn, .bool true, .bool false, .bool true, .slice A n c] 26)) w.heap.size 26 #[.int .u32 tsn, .int .u16 stream, .int .u16 ssn, .bool true, .bool false, .bool true, .slice A n c] := Blk.new w 26 #[.int .u32 tsn, .int .u16 stream, .int .u16 ssn, .bool true, .bool false, .bool true, .slice A n c]
  have b1 : Blk ((w.alloc (.cells #[.int .u32 tsn, .int .u16 stream, .int .u16 ssn, .bool true, .bool false, .bool true, .slice A n c] 26)).alloc (.cells #[.int .u8 0, .int .u8 0, .slice none 0 0] 28)) (w.heap.size + 1) 28 #[.int .u8 0, .int .u8 0, .slice none 0 0] := by simpa using Blk.new (w.alloc (.cells #[.int .u32 tsn, .int .u16 stream, .int .u16 ssn, .bool true, .bool false, .bool true, .slice A n c] 26)) 28 #[.int .u8 0, .int .u8 0, .slice none 0 0]
  have b2 : Blk (((w.alloc (.cells #[.int .u32 tsn, .int .u16 stream, .int .u16 ssn, .bool true, .bool false, .bool true, .slice A n c] 26)).alloc (.cells #[.int .u8 0, .int .u8 0, .slice none 0 0] 28)).alloc (.cells #[.int .u8 0, .int .u8 5, .slice none 0 0] 28)) (w.heap.size + 2) 28 #[.int .u8 0, .int .u8 5, .slice none 0 0] := by simpa using Blk.new ((w.alloc (.cells #[.int .u32 tsn, .int .u16 stream, .int .u16 ssn, .bool true, .bool false, .bool true, .slice A n c] 26)).alloc (.cells #[.int .u8 0, .int .u8 0, .slice none 0 0] 28)) 28 #[.int .u8 0, .int .u8 5, .slice none 0 0]
  have K0_0 := Lib.hid ((b0.alloc (.cells #[.int .u8 0, .int .u8 0, .slice none 0 0] 28)).alloc (.cells #[.int .u8 0, .int .u8 5, .slice none 0 0] 28))
  have K1_0 := Lib.hid (b1.alloc (.cells #[.int .u8 0, .int .u8 5, .slice none 0 0] 28))
  have K2_0 := Lib.hid b2
  have B0 : Hid (Below w.heap.size w (((w.alloc (.cells #[.int .u32 tsn, .int .u16 stream, .int .u16 ssn, .bool true, .bool false, .bool true, .slice A n c] 26)).alloc (.cells #[.int .u8 0, .int .u8 0, .slice none 0 0] 28)).alloc (.cells #[.int .u8 0, .int .u8 5, .slice none 0 0] 28))) := Lib.hid (Wr.below_ ((((Wr.refl 5 w.heap.size w).alloc (.cells #[.int .u32 tsn, .int .u16 stream, .int .u16 ssn, .bool true, .bool false, .bool true, .slice A n c] 26)).alloc (.cells #[.int .u8 0, .int .u8 0, .slice none 0 0] 28)).alloc (.cells #[.int .u8 0, .int .u8 5, .slice none 0 0] 28)) (Nat.le_refl _))
  clear b0 b1 b2
  go_enter Try.func19, Try.ntmps19
  go_wp2_with fail
  generalize (((w.alloc (.cells #[.int .u32 tsn, .int .u16 stream, .int .u16 ssn, .bool true, .bool false, .bool true, .slice A n c] 26)).alloc (.cells #[.int .u8 0, .int .u8 0, .slice none 0 0] 28)).alloc (.cells #[.int .u8 0, .int .u8 5, .slice none 0 0] 28)) = w0 at K0_0 K1_0 K2_0 B0 ⊢
  have O0 := Lib.hid (Own8.nil w0 5 w.heap.size)
  have HP := refPut_yes none 0 0 (tsn) 4 ([]) w0 (by omega) (by omega) O0.out.len O0.out.rd (by unfold IsSize; omega)
  refine HP.mono ?_
  rintro e w1 ⟨A1, c1, rfl, ho, hb⟩
  have O1 : Hid (Own8 w1 5 w.heap.size A1 (4) c1 ([] ++ enc (tsn) 4)) := Lib.hid (ho.more B0.out.size)
  have K0_1 := Lib.hid (K0_0.out.below hb K0_0.out.lt)
  have K1_1 := Lib.hid (K1_0.out.below hb K1_0.out.lt)
  have K2_1 := Lib.hid (K2_0.out.below hb K2_0.out.lt)
  have B1 := Lib.hid (below_then B0.out (Nat.le_refl _) hb)
  clear ho hb HP O0 B0 K0_0 K1_0 K2_0
  have f0_1 : w1.cell? ⟨w.heap.size, 1, none⟩ = some (.int .u16 stream) := K0_1.out.cell 1
  go_wp2_with fail
  clear f0_1
  have HP := refPut_yes A1 4 c1 (stream) 2 ([] ++ enc (tsn) 4) w1 (by omega) (by omega) O1.out.len O1.out.rd (by unfold IsSize; omega)
  refine HP.mono ?_
  rintro e w2 ⟨A2, c2, rfl, ho, hb⟩
  have O2 : Hid (Own8 w2 5 w.heap.size A2 (6) c2 ([] ++ enc (tsn) 4 ++ enc (stream) 2)) := Lib.hid (ho.more B1.out.size)
  have K0_2 := Lib.hid (K0_1.out.below hb K0_1.out.lt)
  have K1_2 := Lib.hid (K1_1.out.below hb K1_1.out.lt)
  have K2_2 := Lib.hid (K2_1.out.below hb K2_1.out.lt)
  have B2 := Lib.hid (below_then B1.out (Nat.le_refl _) hb)
  clear ho hb HP O1 B1 K0_1 K1_1 K2_1
  have f0_2 : w2.cell? ⟨w.heap.size, 2, none⟩ = some (.int .u16 ssn) := K0_2.out.cell 2
  go_wp2_with fail
  clear f0_2
  have HP := refPut_yes A2 6 c2 (ssn) 2 ([] ++ enc (tsn) 4 ++ enc (stream) 2) w2 (by omega) (by omega) O2.out.len O2.out.rd (by unfold IsSize; omega)
  refine HP.mono ?_
  rintro e w3 ⟨A3, c3, rfl, ho, hb⟩
  have O3 : Hid (Own8 w3 5 w.heap.size A3 (8) c3 ([] ++ enc (tsn) 4 ++ enc (stream) 2 ++ enc (ssn) 2)) := Lib.hid (ho.more B2.out.size)
  have K0_3 := Lib.hid (K0_2.out.below hb K0_2.out.lt)
  have K1_3 := Lib.hid (K1_2.out.below hb K1_2.out.lt)
  have K2_3 := Lib.hid (K2_2.out.below hb K2_2.out.lt)
  have B3 := Lib.hid (below_then B2.out (Nat.le_refl _) hb)
  clear ho hb HP O2 B2 K0_2 K1_2 K2_2
  go_wp2_with fail
  have HP := refPut_yes A3 8 c3 (0) 4 ([] ++ enc (tsn) 4 ++ enc (stream) 2 ++ enc (ssn) 2) w3 (by omega) (by omega) O3.out.len O3.out.rd (by unfold IsSize; omega)
  refine HP.mono ?_
  rintro e w4 ⟨A4, c4, rfl, ho, hb⟩
  have O4 : Hid (Own8 w4 5 w.heap.size A4 (12) c4 ([] ++ enc (tsn) 4 ++ enc (stream) 2 ++ enc (ssn) 2 ++ enc (0) 4)) := Lib.hid (ho.more B3.out.size)
  have K0_4 := Lib.hid (K0_3.out.below hb K0_3.out.lt)
  have K1_4 := Lib.hid (K1_3.out.below hb K1_3.out.lt)
  have K2_4 := Lib.hid (K2_3.out.below hb K2_3.out.lt)
  have B4 := Lib.hid (below_then B3.out (Nat.le_refl _) hb)
  clear ho hb HP O3 B3 K0_3 K1_3 K2_3
  have f0_6 : w4.cell? ⟨w.heap.size, 6, none⟩ = some (.slice A n c) := K0_4.out.cell 6
  have hrd := HRD.out.below B4.out
  have hsz : w.heap.size ≤ w4.heap.size := B4.out.size
  go_wp2_with (at_builtin; refine wpList_append8 h8 _ rfl _ _ rfl w.heap.size _ _ _ _ rfl O4.out _ _ _ _ _ rfl HX.out hrd (by omega) hsz ?_; intro A9 c9 w9 ho9 hg9 hh9; have K1_9 := Lib.hid (K1_4.out.grown hg9 (O4.out.blk_ne K1_4.out (by decide))); have K2_9 := Lib.hid (K2_4.out.grown hg9 (O4.out.blk_ne K2_4.out (by decide))); have B9 := Lib.hid (B4.out.grown hg9 hsz O4.out.blk); have O9 := Lib.hid ho9; have x0 : w9.cell? ⟨w.heap.size + 1 + 1, 0, none⟩ = some (.int .u8 0) := K2_9.out.cell 0; have x1 : w9.cell? ⟨w.heap.size + 1 + 1, 1, none⟩ = some (.int .u8 5) := K2_9.out.cell 1; have x2 : w9.cell? ⟨w.heap.size + 1 + 1, 2, none⟩ = some (.slice none 0 0) := K2_9.out.cell 2; have u2 := K2_9.out.frozen 2; have y0 := K1_9.out.cell 0; have y1 := K1_9.out.cell 1; have y2 := K1_9.out.cell 2; have q0 := K1_9.out.frozen 0; have q1 := K1_9.out.frozen 1; have q2 := K1_9.out.frozen 2; clear ho9 hg9 hh9)
  have O10 := Lib.hid (O9.out.setBlk K2_9.out (by decide) 2 (.slice A9 (12 + n : Nat) c9))
  have K1_10 := Lib.hid (K1_9.out.far (p := ⟨w.heap.size + 1 + 1, 2, none⟩) (by simp) (.slice A9 (12 + n : Nat) c9))
  have B10 := Lib.hid (B9.out.setCell (p := ⟨w.heap.size + 1 + 1, 2, none⟩) (by simp; omega) (.slice A9 (12 + n : Nat) c9))
  have H3 := out3 O10.out K1_10.out (by decide) (.int .u8 0) (.int .u8 5) (.slice A9 (12 + n : Nat) c9)
  exact bodyPost_ret (v := .agg #[.int .u8 0, .int .u8 5, .slice A9 (12 + n : Nat) c9]) (by simp [results, Try.results19, go_sem, H3.2.cell]) rfl ⟨A9, _, c9, rfl, H3.1, below3 B10.out (by omega) _ _ _⟩
set_option maxRecDepth 100000 in
set_option maxHeartbeats 4000000 in
theorem refPutData_6 (tsn stream ssn : Nat) (bytes : List UInt8) (h1 : tsn < 4294967296) (h2 : stream < 65536) (h3 : ssn < 65536) (A : Option Addr) (n c : Nat) (w : World) (hn : n ≤ 140737488355200) (hx : bytes.length = n) (hr : Rd w w.heap.size A bytes) :
    Puts 19 #[.agg #[.int .u32 tsn, .int .u16 stream, .int .u16 ssn, .bool true, .bool true, .bool false, .slice A n c]] 0 6 (bodyD ⟨tsn, stream, ssn, true, true, false, bytes⟩) w := by
  refine puts_of ?_
  obtain ⟨i8, h8⟩ := Try.ty8
  have hz := zero_chunk
  have HY : Hid (bodyD ⟨tsn, stream, ssn, true, true, false, bytes⟩ = enc tsn 4 ++ enc stream 2 ++ enc ssn 2 ++ enc 0 4 ++ bytes) := Lib.hid (by simp [bodyD])
  rw [HY.out]
  have HX := Lib.hid hx
  have HRD := Lib.hid hr
  clear hx hr
  have b0 : Blk (w.alloc (.cells #[.int .u32 tsn, .int .u16 stream, .int .u16 ssn, .bool true, .bool true, .bool false, .slice A n c] 26)) w.heap.size 26 #[.int .u32 tsn, .int .u16 stream, .int .u16 ssn, .bool true, .bool true, .bool false, .slice A n c] := Blk.new w 26 #[.int .u32 tsn, .int .u16 stream, .int .u16 ssn, .bool true, .bool true, .bool false, .slice A n c]
  have b1 : Blk ((w.alloc (.cells #[.int .u32 tsn, .int .u16 stream, .int .u16 ssn, .bool true, .bool true, .bool false, .slice A n c] 26)).alloc (.cells #[.int .u8 0, .int .u8 0, .slice none 0 0] 28)) (w.heap.size + 1) 28 #[.int .u8 0, .int .u8 0, .slice none 0 0] := by simpa using Blk.new (w.alloc (.cells #[.int .u32 tsn, .int .u16 stream, .int .u16 ssn, .bool true, .bool true, .bool false, .slice A n c] 26)) 28 #[.int .u8 0, .int .u8 0, .slice none 0 0]
  have b2 : Blk (((w.alloc (.cells #[.int .u32 tsn, .int .u16 stream, .int .u16 ssn, .bool true, .bool true, .bool false, .slice A n c] 26)).alloc (.cells #[.int .u8 0, .int .u8 0, .slice none 0 0] 28)).alloc (.cells #[.int .u8 0, .int .u8 6, .slice none 0 0] 28)) (w.heap.size + 2) 28 #[.int .u8 0, .int .u8 6, .slice none 0 0] := by simpa using Blk.new ((w.alloc (.cells #[.int .u32 tsn, .int .u16 stream, .int .u16 ssn, .bool true, .bool true, .bool false, .slice A n c] 26)).alloc (.cells #[.int .u8 0, .int .u8 0, .slice none 0 0] 28)) 28 #[.int .u8 0, .int .u8 6, .slice none 0 0]
  have K0_0 := Lib.hid ((b0.alloc (.cells #[.int .u8 0, .int .u8 0, .slice none 0 0] 28)).alloc (.cells #[.int .u8 0, .int .u8 6, .slice none 0 0] 28))
  have K1_0 := Lib.hid (b1.alloc (.cells #[.int .u8 0, .int .u8 6, .slice none 0 0] 28))
  have K2_0 := Lib.hid b2
  have B0 : Hid (Below w.heap.size w (((w.alloc (.cells #[.int .u32 tsn, .int .u16 stream, .int .u16 ssn, .bool true, .bool true, .bool false, .slice A n c] 26)).alloc (.cells #[.int .u8 0, .int .u8 0, .slice none 0 0] 28)).alloc (.cells #[.int .u8 0, .int .u8 6, .slice none 0 0] 28))) := Lib.hid (Wr.below_ ((((Wr.refl 5 w.heap.size w).alloc (.cells #[.int .u32 tsn, .int .u16 stream, .int .u16 ssn, .bool true, .bool true, .bool false, .slice A n c] 26)).alloc (.cells #[.int .u8 0, .int .u8 0, .slice none 0 0] 28)).alloc (.cells #[.int .u8 0, .int .u8 6, .slice none 0 0] 28)) (Nat.le_refl _))
  clear b0 b1 b2
  go_enter Try.func19, Try.ntmps19
  go_wp2_with fail
  generalize (((w.alloc (.cells #[.int .u32 tsn, .int .u16 stream, .int .u16 ssn, .bool true, .bool true, .bool false, .slice A n c] 26)).alloc (.cells #[.int .u8 0, .int .u8 0, .slice none 0 0] 28)).alloc (.cells #[.int .u8 0, .int .u8 6, .slice none 0 0] 28)) = w0 at K0_0 K1_0 K2_0 B0 ⊢
  have O0 := Lib.hid (Own8.nil w0 5 w.heap.size)
  have HP := refPut_yes none 0 0 (tsn) 4 ([]) w0 (by omega) (by omega) O0.out.len O0.out.rd (by unfold IsSize; omega)
  refine HP.mono ?_
  rintro e w1 ⟨A1, c1, rfl, ho, hb⟩
  have O1 : Hid (Own8 w1 5 w.heap.size A1 (4) c1 ([] ++ enc (tsn) 4)) := Lib.hid (ho.more B0.out.size)
  have K0_1 := Lib.hid (K0_0.out.below hb K0_0.out.lt)
  have K1_1 := Lib.hid (K1_0.out.below hb K1_0.out.lt)
  have K2_1 := Lib.hid (K2_0.out.below hb K2_0.out.lt)
  have B1 := Lib.hid (below_then B0.out (Nat.le_refl _) hb)
  clear ho hb HP O0 B0 K0_0 K1_0 K2_0
  have f0_1 : w1.cell? ⟨w.heap.size, 1, none⟩ = some (.int .u16 stream) := K0_1.out.cell 1
  go_wp2_with fail
  clear f0_1
  have HP := refPut_yes A1 4 c1 (stream) 2 ([] ++ enc (tsn) 4) w1 (by omega) (by omega) O1.out.len O1.out.rd (by unfold IsSize; omega)
  refine HP.mono ?_
  rintro e w2 ⟨A2, c2, rfl, ho, hb⟩
  have O2 : Hid (Own8 w2 5 w.heap.size A2 (6) c2 ([] ++ enc (tsn) 4 ++ enc (stream) 2)) := Lib.hid (ho.more B1.out.size)
  have K0_2 := Lib.hid (K0_1.out.below hb K0_1.out.lt)
  have K1_2 := Lib.hid (K1_1.out.below hb K1_1.out.lt)
  have K2_2 := Lib.hid (K2_1.out.below hb K2_1.out.lt)
  have B2 := Lib.hid (below_then B1.out (Nat.le_refl _) hb)
  clear ho hb HP O1 B1 K0_1 K1_1 K2_1
  have f0_2 : w2.cell? ⟨w.heap.size, 2, none⟩ = some (.int .u16 ssn) := K0_2.out.cell 2
  go_wp2_with fail
  clear f0_2
  have HP := refPut_yes A2 6 c2 (ssn) 2 ([] ++ enc (tsn) 4 ++ enc (stream) 2) w2 (by omega) (by omega) O2.out.len O2.out.rd (by unfold IsSize; omega)
  refine HP.mono ?_
  rintro e w3 ⟨A3, c3, rfl, ho, hb⟩
  have O3 : Hid (Own8 w3 5 w.heap.size A3 (8) c3 ([] ++ enc (tsn) 4 ++ enc (stream) 2 ++ enc (ssn) 2)) := Lib.hid (ho.more B2.out.size)
  have K0_3 := Lib.hid (K0_2.out.below hb K0_2.out.lt)
  have K1_3 := Lib.hid (K1_2.out.below hb K1_2.out.lt)
  have K2_3 := Lib.hid (K2_2.out.below hb K2_2.out.lt)
  have B3 := Lib.hid (below_then B2.out (Nat.le_refl _) hb)
  clear ho hb HP O2 B2 K0_2 K1_2 K2_2
  go_wp2_with fail
  have HP := refPut_yes A3 8 c3 (0) 4 ([] ++ enc (tsn) 4 ++ enc (stream) 2 ++ enc (ssn) 2) w3 (by omega) (by omega) O3.out.len O3.out.rd (by unfold IsSize; omega)
  refine HP.mono ?_
  rintro e w4 ⟨A4, c4, rfl, ho, hb⟩
  have O4 : Hid (Own8 w4 5 w.heap.size A4 (12) c4 ([] ++ enc (tsn) 4 ++ enc (stream) 2 ++ enc (ssn) 2 ++ enc (0) 4)) := Lib.hid (ho.more B3.out.size)
  have K0_4 := Lib.hid (K0_3.out.below hb K0_3.out.lt)
  have K1_4 := Lib.hid (K1_3.out.below hb K1_3.out.lt)
  have K2_4 := Lib.hid (K2_3.out.below hb K2_3.out.lt)
  have B4 := Lib.hid (below_then B3.out (Nat.le_refl _) hb)
  clear ho hb HP O3 B3 K0_3 K1_3 K2_3
  have f0_6 : w4.cell? ⟨w.heap.size, 6, none⟩ = some (.slice A n c) := K0_4.out.cell 6
  have hrd := HRD.out.below B4.out
  have hsz : w.heap.size ≤ w4.heap.size := B4.out.size
  go_wp2_with (at_builtin; refine wpList_append8 h8 _ rfl _ _ rfl w.heap.size _ _ _ _ rfl O4.out _ _ _ _ _ rfl HX.out hrd (by omega) hsz ?_; intro A9 c9 w9 ho9 hg9 hh9; have K1_9 := Lib.hid (K1_4.out.grown hg9 (O4.out.blk_ne K1_4.out (by decide))); have K2_9 := Lib.hid (K2_4.out.grown hg9 (O4.out.blk_ne K2_4.out (by decide))); have B9 := Lib.hid (B4.out.grown hg9 hsz O4.out.blk); have O9 := Lib.hid ho9; have x0 : w9.cell? ⟨w.heap.size + 1 + 1, 0, none⟩ = some (.int .u8 0) := K2_9.out.cell 0; have x1 : w9.cell? ⟨w.heap.size + 1 + 1, 1, none⟩ = some (.int .u8 6) := K2_9.out.cell 1; have x2 : w9.cell? ⟨w.heap.size + 1 + 1, 2, none⟩ = some (.slice none 0 0) := K2_9.out.cell 2; have u2 := K2_9.out.frozen 2; have y0 := K1_9.out.cell 0; have y1 := K1_9.out.cell 1; have y2 := K1_9.out.cell 2; have q0 := K1_9.out.frozen 0; have q1 := K1_9.out.frozen 1; have q2 := K1_9.out.frozen 2; clear ho9 hg9 hh9)
  have O10 := Lib.hid (O9.out.setBlk K2_9.out (by decide) 2 (.slice A9 (12 + n : Nat) c9))
  have K1_10 := Lib.hid (K1_9.out.far (p := ⟨w.heap.size + 1 + 1, 2, none⟩) (by simp) (.slice A9 (12 + n : Nat) c9))
  have B10 := Lib.hid (B9.out.setCell (p := ⟨w.heap.size + 1 + 1, 2, none⟩) (by simp; omega) (.slice A9 (12 + n : Nat) c9))
  have H3 := out3 O10.out K1_10.out (by decide) (.int .u8 0) (.int .u8 6) (.slice A9 (12 + n : Nat) c9)
  exact bodyPost_ret (v := .agg #[.int .u8 0, .int .u8 6, .slice A9 (12 + n : Nat) c9]) (by simp [results, Try.results19, go_sem, H3.2.cell]) rfl ⟨A9, _, c9, rfl, H3.1, below3 B10.out (by omega) _ _ _⟩
set_option maxRecDepth 100000 in
set_option maxHeartbeats 4000000 in
theorem refPutData_7 (tsn stream ssn : Nat) (bytes : List UInt8) (h1 : tsn < 4294967296) (h2 : stream < 65536) (h3 : ssn < 65536) (A : Option Addr) (n c : Nat) (w : World) (hn : n ≤ 140737488355200) (hx : bytes.length = n) (hr : Rd w w.heap.size A bytes) :
    Puts 19 #[.agg #[.int .u32 tsn, .int .u16 stream, .int .u16 ssn, .bool true, .bool true, .bool true, .slice A n c]] 0 7 (bodyD ⟨tsn, stream, ssn, true, true, true, bytes⟩) w := by
  refine puts_of ?_
  obtain ⟨i8, h8⟩ := Try.ty8
  have hz := zero_chunk
  have HY : Hid (bodyD ⟨tsn, stream, ssn, true, true, true, bytes⟩ = enc tsn 4 ++ enc stream 2 ++ enc ssn 2 ++ enc 0 4 ++ bytes) := Lib.hid (by simp [bodyD])
  rw [HY.out]
  have HX := Lib.hid hx
  have HRD := Lib.hid hr
  clear hx hr
  have b0 : Blk (w.alloc (.cells #[.int .u32 tsn, .int .u16 stream, .int .u16 ssn, .bool true, .bool true, .bool true, .slice A n c] 26)) w.heap.size 26 #[.int .u32 tsn, .int .u16 stream, .int .u16 ssn, .bool true, .bool true, .bool true, .slice A n c] := Blk.new w 26 #[.int .u32 tsn, .int .u16 stream, .int .u16 ssn, .bool true, .bool true, .bool true, .slice A n c]
  have b1 : Blk ((w.alloc (.cells #[.int .u32 tsn, .int .u16 stream, .int .u16 ssn, .bool true, .bool true, .bool true, .slice A n c] 26)).alloc (.cells #[.int .u8 0, .int .u8 0, .slice none 0 0] 28)) (w.heap.size + 1) 28 #[.int .u8 0, .int .u8 0, .slice none 0 0] := by simpa using Blk.new (w.alloc (.cells #[.int .u32 tsn, .int .u16 stream, .int .u16 ssn, .bool true, .bool true, .bool true, .slice A n c] 26)) 28 #[.int .u8 0, .int .u8 0, .slice none 0 0]
  have b2 : Blk (((w.alloc (.cells #[.int .u32 tsn, .int .u16 stream, .int .u16 ssn, .bool true, .bool true, .bool true, .slice A n c] 26)).alloc (.cells #[.int .u8 0, .int .u8 0, .slice none 0 0] 28)).alloc (.cells #[.int .u8 0, .int .u8 7, .slice none 0 0] 28)) (w.heap.size + 2) 28 #[.int .u8 0, .int .u8 7, .slice none 0 0] := by simpa using Blk.new ((w.alloc (.cells #[.int .u32 tsn, .int .u16 stream, .int .u16 ssn, .bool true, .bool true, .bool true, .slice A n c] 26)).alloc (.cells #[.int .u8 0, .int .u8 0, .slice none 0 0] 28)) 28 #[.int .u8 0, .int .u8 7, .slice none 0 0]
  have K0_0 := Lib.hid ((b0.alloc (.cells #[.int .u8 0, .int .u8 0, .slice none 0 0] 28)).alloc (.cells #[.int .u8 0, .int .u8 7, .slice none 0 0] 28))
  have K1_0 := Lib.hid (b1.alloc (.cells #[.int .u8 0, .int .u8 7, .slice none 0 0] 28))
  have K2_0 := Lib.hid b2
  have B0 : Hid (Below w.heap.size w (((w.alloc (.cells #[.int .u32 tsn, .int .u16 stream, .int .u16 ssn, .bool true, .bool true, .bool true, .slice A n c] 26)).alloc (.cells #[.int .u8 0, .int .u8 0, .slice none 0 0] 28)).alloc (.cells #[.int .u8 0, .int .u8 7, .slice none 0 0] 28))) := Lib.hid (Wr.below_ ((((Wr.refl 5 w.heap.size w).alloc (.cells #[.int .u32 tsn, .int .u16 stream, .int .u16 ssn, .bool true, .bool true, .bool true, .slice A n c] 26)).alloc (.cells #[.int .u8 0, .int .u8 0, .slice none 0 0] 28)).alloc (.cells #[.int .u8 0, .int .u8 7, .slice none 0 0] 28)) (Nat.le_refl _))
  clear b0 b1 b2
  go_enter Try.func19, Try.ntmps19
  go_wp2_with fail
  generalize (((w.alloc (.cells #[.int .u32 tsn, .int .u16 stream, .int .u16 ssn, .bool true, .bool true, .bool true, .slice A n c] 26)).alloc (.cells #[.int .u8 0, .int .u8 0, .slice none 0 0] 28)).alloc (.cells #[.int .u8 0, .int .u8 7, .slice none 0 0] 28)) = w0 at K0_0 K1_0 K2_0 B0 ⊢
  have O0 := Lib.hid (Own8.nil w0 5 w.heap.size)
  have HP := refPut_yes none 0 0 (tsn) 4 ([]) w0 (by omega) (by omega) O0.out.len O0.out.rd (by unfold IsSize; omega)
  refine HP.mono ?_
  rintro e w1 ⟨A1, c1, rfl, ho, hb⟩
  have O1 : Hid (Own8 w1 5 w.heap.size A1 (4) c1 ([] ++ enc (tsn) 4)) := Lib.hid (ho.more B0.out.size)
  have K0_1 := Lib.hid (K0_0.out.below hb K0_0.out.lt)
  have K1_1 := Lib.hid (K1_0.out.below hb K1_0.out.lt)
  have K2_1 := Lib.hid (K2_0.out.below hb K2_0.out.lt)
  have B1 := Lib.hid (below_then B0.out (Nat.le_refl _) hb)
  clear ho hb HP O0 B0 K0_0 K1_0 K2_0
  have f0_1 : w1.cell? ⟨w.heap.size, 1, none⟩ = some (.int .u16 stream) := K0_1.out.cell 1
  go_wp2_with fail
  clear f0_1
  have HP := refPut_yes A1 4 c1 (stream) 2 ([] ++ enc (tsn) 4) w1 (by omega) (by omega) O1.out.len O1.out.rd (by unfold IsSize; omega)
  refine HP.mono ?_
  rintro e w2 ⟨A2, c2, rfl, ho, hb⟩
  have O2 : Hid (Own8 w2 5 w.heap.size A2 (6) c2 ([] ++ enc (tsn) 4 ++ enc (stream) 2)) := Lib.hid (ho.more B1.out.size)
  have K0_2 := Lib.hid (K0_1.out.below hb K0_1.out.lt)
  have K1_2 := Lib.hid (K1_1.out.below hb K1_1.out.lt)
  have K2_2 := Lib.hid (K2_1.out.below hb K2_1.out.lt)
  have B2 := Lib.hid (below_then B1.out (Nat.le_refl _) hb)
  clear ho hb HP O1 B1 K0_1 K1_1 K2_1
  have f0_2 : w2.cell? ⟨w.heap.size, 2, none⟩ = some (.int .u16 ssn) := K0_2.out.cell 2
  go_wp2_with fail
  clear f0_2
  have HP := refPut_yes A2 6 c2 (ssn) 2 ([] ++ enc (tsn) 4 ++ enc (stream) 2) w2 (by omega) (by omega) O2.out.len O2.out.rd (by unfold IsSize; omega)
  refine HP.mono ?_
  rintro e w3 ⟨A3, c3, rfl, ho, hb⟩
  have O3 : Hid (Own8 w3 5 w.heap.size A3 (8) c3 ([] ++ enc (tsn) 4 ++ enc (stream) 2 ++ enc (ssn) 2)) := Lib.hid (ho.more B2.out.size)
  have K0_3 := Lib.hid (K0_2.out.below hb K0_2.out.lt)
  have K1_3 := Lib.hid (K1_2.out.below hb K1_2.out.lt)
  have K2_3 := Lib.hid (K2_2.out.below hb K2_2.out.lt)
  have B3 := Lib.hid (below_then B2.out (Nat.le_refl _) hb)
  clear ho hb HP O2 B2 K0_2 K1_2 K2_2
  go_wp2_with fail
  have HP := refPut_yes A3 8 c3 (0) 4 ([] ++ enc (tsn) 4 ++ enc (stream) 2 ++ enc (ssn) 2) w3 (by omega) (by omega) O3.out.len O3.out.rd (by unfold IsSize; omega)
  refine HP.mono ?_
  rintro e w4 ⟨A4, c4, rfl, ho, hb⟩
  have O4 : Hid (Own8 w4 5 w.heap.size A4 (12) c4 ([] ++ enc (tsn) 4 ++ enc (stream) 2 ++ enc (ssn) 2 ++ enc (0) 4)) := Lib.hid (ho.more B3.out.size)
  have K0_4 := Lib.hid (K0_3.out.below hb K0_3.out.lt)
  have K1_4 := Lib.hid (K1_3.out.below hb K1_3.out.lt)
  have K2_4 := Lib.hid (K2_3.out.below hb K2_3.out.lt)
  have B4 := Lib.hid (below_then B3.out (Nat.le_refl _) hb)
  clear ho hb HP O3 B3 K0_3 K1_3 K2_3
  have f0_6 : w4.cell? ⟨w.heap.size, 6, none⟩ = some (.slice A n c) := K0_4.out.cell 6
  have hrd := HRD.out.below B4.out
  have hsz : w.heap.size ≤ w4.heap.size := B4.out.size
  go_wp2_with (at_builtin; refine wpList_append8 h8 _ rfl _ _ rfl w.heap.size _ _ _ _ rfl O4.out _ _ _ _ _ rfl HX.out hrd (by omega) hsz ?_; intro A9 c9 w9 ho9 hg9 hh9; have K1_9 := Lib.hid (K1_4.out.grown hg9 (O4.out.blk_ne K1_4.out (by decide))); have K2_9 := Lib.hid (K2_4.out.grown hg9 (O4.out.blk_ne K2_4.out (by decide))); have B9 := Lib.hid (B4.out.grown hg9 hsz O4.out.blk); have O9 := Lib.hid ho9; have x0 : w9.cell? ⟨w.heap.size + 1 + 1, 0, none⟩ = some (.int .u8 0) := K2_9.out.cell 0; have x1 : w9.cell? ⟨w.heap.size + 1 + 1, 1, none⟩ = some (.int .u8 7) := K2_9.out.cell 1; have x2 : w9.cell? ⟨w.heap.size + 1 + 1, 2, none⟩ = some (.slice none 0 0) := K2_9.out.cell 2; have u2 := K2_9.out.frozen 2; have y0 := K1_9.out.cell 0; have y1 := K1_9.out.cell 1; have y2 := K1_9.out.cell 2; have q0 := K1_9.out.frozen 0; have q1 := K1_9.out.frozen 1; have q2 := K1_9.out.frozen 2; clear ho9 hg9 hh9)
  have O10 := Lib.hid (O9.out.setBlk K2_9.out (by decide) 2 (.slice A9 (12 + n : Nat) c9))
  have K1_10 := Lib.hid (K1_9.out.far (p := ⟨w.heap.size + 1 + 1, 2, none⟩) (by simp) (.slice A9 (12 + n : Nat) c9))
  have B10 := Lib.hid (B9.out.setCell (p := ⟨w.heap.size + 1 + 1, 2, none⟩) (by simp; omega) (.slice A9 (12 + n : Nat) c9))
  have H3 := out3 O10.out K1_10.out (by decide) (.int .u8 0) (.int .u8 7) (.slice A9 (12 + n : Nat) c9)
  exact bodyPost_ret (v := .agg #[.int .u8 0, .int .u8 7, .slice A9 (12 + n : Nat) c9]) (by simp [results, Try.results19, go_sem, H3.2.cell]) rfl ⟨A9, _, c9, rfl, H3.1, below3 B10.out (by omega) _ _ _⟩
theorem refPutData_any (tsn stream ssn : Nat) (un fi la : Bool) (bytes : List UInt8) (h1 : tsn < 4294967296) (h2 : stream < 65536) (h3 : ssn < 65536) (A : Option Addr) (n c : Nat) (w : World) (hn : n ≤ 140737488355200) (hx : bytes.length = n) (hr : Rd w w.heap.size A bytes) :
    Puts 19 #[.agg #[.int .u32 tsn, .int .u16 stream, .int .u16 ssn, .bool un, .bool fi, .bool la, .slice A n c]] 0 (flagsD un fi la) (bodyD ⟨tsn, stream, ssn, un, fi, la, bytes⟩) w := by
  cases un <;> cases fi <;> cases la
  · exact refPutData_0 tsn stream ssn bytes h1 h2 h3 A n c w hn hx hr
  · exact refPutData_1 tsn stream ssn bytes h1 h2 h3 A n c w hn hx hr
  · exact refPutData_2 tsn stream ssn bytes h1 h2 h3 A n c w hn hx hr
  · exact refPutData_3 tsn stream ssn bytes h1 h2 h3 A n c w hn hx hr
  · exact refPutData_4 tsn stream ssn bytes h1 h2 h3 A n c w hn hx hr
  · exact refPutData_5 tsn stream ssn bytes h1 h2 h3 A n c w hn hx hr
  · exact refPutData_6 tsn stream ssn bytes h1 h2 h3 A n c w hn hx hr
  · exact refPutData_7 tsn stream ssn bytes h1 h2 h3 A n c w hn hx hr
end Go.Proofs.Ytalgkokgaibloaa
