/-
  The reference: PutForward, PutSack.
-/
import Derived.Test.YtalgkokgaibloaaBodS
namespace Go.Proofs.Ytalgkokgaibloaa
open Go.RowKit
set_option linter.unusedVariables false

set_option maxRecDepth 100000 in
set_option maxHeartbeats 4000000 in
theorem refPutForward_any (cum : Nat) (skips : List (Nat × Nat)) (h1 : cum < 4294967296) (hbd : ∀ g ∈ skips, g.1 < 65536 ∧ g.2 < 65536) (A : Option Addr) (m c : Nat) (w : World) (hm : m ≤ 1099511627776) (hx : skips.length = m) (hr : Rg w 0 w.heap.size A skips) :
    Puts 37 #[.agg #[.int .u32 cum, .slice A m c]] 192 0 (bodyF ⟨cum, skips⟩) w := by
  refine puts_of ?_
  have hz := zero_chunk
  have HY : Hid (bodyF ⟨cum, skips⟩ = enc cum 4 ++ gapsB skips) := Lib.hid rfl
  rw [HY.out]
  have HLG := Lib.hid hx
  have HRG := Lib.hid hr
  have HBG := Lib.hid hbd
  clear hx hr hbd
  have b0 : Blk (w.alloc (.cells #[.int .u32 cum, .slice A m c] 56)) w.heap.size 56 #[.int .u32 cum, .slice A m c] := Blk.new w 56 #[.int .u32 cum, .slice A m c]
  have b1 : Blk ((w.alloc (.cells #[.int .u32 cum, .slice A m c] 56)).alloc (.cells #[.int .u8 0, .int .u8 0, .slice none 0 0] 28)) (w.heap.size + 1) 28 #[.int .u8 0, .int .u8 0, .slice none 0 0] := by simpa using Blk.new (w.alloc (.cells #[.int .u32 cum, .slice A m c] 56)) 28 #[.int .u8 0, .int .u8 0, .slice none 0 0]
  have K0_0 := Lib.hid (b0.alloc (.cells #[.int .u8 0, .int .u8 0, .slice none 0 0] 28))
  have K1_0 := Lib.hid b1
  have B0 : Hid (Below w.heap.size w ((w.alloc (.cells #[.int .u32 cum, .slice A m c] 56)).alloc (.cells #[.int .u8 0, .int .u8 0, .slice none 0 0] 28))) := Lib.hid (Wr.below_ (((Wr.refl 5 w.heap.size w).alloc (.cells #[.int .u32 cum, .slice A m c] 56)).alloc (.cells #[.int .u8 0, .int .u8 0, .slice none 0 0] 28)) (Nat.le_refl _))
  clear b0 b1
  go_enter Try.func37, Try.ntmps37
  go_wp2_with fail
  generalize ((w.alloc (.cells #[.int .u32 cum, .slice A m c] 56)).alloc (.cells #[.int .u8 0, .int .u8 0, .slice none 0 0] 28)) = w0 at K0_0 K1_0 B0 ⊢
  have O0 := Lib.hid (Own8.nil w0 5 w.heap.size)
  have HP := refPut_yes none 0 0 (cum) 4 ([]) w0 (by omega) (by omega) O0.out.len O0.out.rd (by unfold IsSize; omega)
  refine HP.mono ?_
  rintro e w1 ⟨A1, c1, rfl, ho, hb⟩
  have O1 : Hid (Own8 w1 5 w.heap.size A1 (4) c1 ([] ++ enc (cum) 4)) := Lib.hid (ho.more B0.out.size)
  have K0_1 := Lib.hid (K0_0.out.below hb K0_0.out.lt)
  have K1_1 := Lib.hid (K1_0.out.below hb K1_0.out.lt)
  have B1 := Lib.hid (below_then B0.out (Nat.le_refl _) hb)
  clear ho hb HP O0 B0 K0_0 K1_0
  go_wp2_with fail
  have HXL : Hid ((enc cum 4 ++ gapsB (skips.take 0)) = enc cum 4) := Lib.hid (by simp [gapsB_nil])
  go_loopw [3, 4] (fun b i wr => ∃ (k n1 c1 : Nat) (A1 : Option Addr), k ≤ m ∧ i = .int .i64 k ∧ b = .slice A1 n1 c1 ∧ Hid (n1 = 4 + 4 * k) ∧ Own8 wr 5 w.heap.size A1 n1 c1 (enc cum 4 ++ gapsB (skips.take k)) ∧ Below w.heap.size w wr ∧ Blk wr (w.heap.size) 56 #[.int .u32 cum, .slice A m c] ∧ Blk wr (w.heap.size + 1) 28 #[.int .u8 0, .int .u8 0, .slice none 0 0]) (fun _ i _ => m - (intOf i).toNat)
  case atStart => exact ⟨0, _, _, _, Nat.zero_le _, rfl, rfl, Lib.hid rfl, by rw [HXL.out]; exact O1.out, B1.out, K0_1.out, K1_1.out⟩
  case round =>
    clear HXL O1 B1 K0_1 K1_1
    obtain ⟨k, n1, c1, A1, hkm, rfl, rfl, HN1, ho, hbel, hk0, hk1⟩ := hrel
    have hws : w.heap.size ≤ wr.heap.size := hbel.size
    by_cases hlt : k < m
    · have hrg := HRG.out.below_ hbel
      obtain ⟨gb, go, hAe, _, hgl, hcx⟩ := hrg.at_ (by intro e; have := HLG.out; rw [e] at this; simp at this; omega)
      subst hAe
      have hkl : k < skips.length := by rw [HLG.out]; exact hlt
      obtain ⟨pa, hpa⟩ : ∃ pa, pa = skips[k].1 := ⟨_, rfl⟩
      obtain ⟨pb, hpb⟩ : ∃ pb, pb = skips[k].2 := ⟨_, rfl⟩
      have hc0 := (hcx k hkl).1
      have hc1 := (hcx k hkl).2
      rw [← hpa] at hc0
      rw [← hpb] at hc1
      have hpab := HBG.out _ (List.getElem_mem hkl)
      rw [← hpa, ← hpb] at hpab
      have HT : Hid (enc cum 4 ++ gapsB (skips.take (k + 1)) = enc cum 4 ++ gapsB (skips.take k) ++ enc (pa) 2 ++ enc (pb) 2) := Lib.hid (by rw [gapsB_take skips k hkl, ← hpa, ← hpb]; simp)
      have hpa1 := hpab.1
      have hpb1 := hpab.2
      have HC1 := Lib.hid hc1
      clear hpa hpb hcx hrg hpab hc1
      have O0 := Lib.hid ho
      have B0 := Lib.hid hbel
      have K0_0 := Lib.hid hk0
      have K1_0 := Lib.hid hk1
      have hn1 : n1 ≤ 4 + 4 * 1099511627776 := by have := HN1.out; omega
      clear ho hbel hk0 hk1
      generalize wr = w0 at hws hc0 HC1 O0 B0 hgl K0_0 K1_0 ⊢
      have f0_1 : w0.cell? ⟨w.heap.size, 1, none⟩ = some (.slice (some ⟨gb, go, none⟩) m c) := K0_0.out.cell 1
      go_wp2_with fail
      clear f0_1 hc0
      have HC1b : Hid (∀ W, Below w0.heap.size w0 W → W.cell? ⟨gb, go + k * 2 + 1, none⟩ = some (.int .u16 (pb : Int))) := Lib.hid fun W hW => (hW.cell (by show gb < _; omega)).trans HC1.out
      have HP := refPut_yes A1 n1 c1 pa 2 (enc cum 4 ++ gapsB (skips.take k)) w0 (by omega) (by omega) O0.out.len O0.out.rd (by unfold IsSize; omega)
      refine HP.mono ?_
      rintro e w1 ⟨A2, c2, rfl, ho, hb⟩
      have hc1 := HC1b.out w1 hb
      have O1 := Lib.hid (ho.more B0.out.size)
      have B1 := Lib.hid (below_then B0.out (Nat.le_refl _) hb)
      have K0_1 := Lib.hid (K0_0.out.below hb K0_0.out.lt)
      have K1_1 := Lib.hid (K1_0.out.below hb K1_0.out.lt)
      clear ho hb HP O0 B0 HC1 HC1b K0_0 K1_0
      have f0_1 : w1.cell? ⟨w.heap.size, 1, none⟩ = some (.slice (some ⟨gb, go, none⟩) m c) := K0_1.out.cell 1
      go_wp2_with fail
      clear f0_1 hc1
      have HP := refPut_yes A2 (n1 + 2) c2 pb 2 (enc cum 4 ++ gapsB (skips.take k) ++ enc (pa) 2) w1 (by omega) (by omega) O1.out.len O1.out.rd (by unfold IsSize; omega)
      refine HP.mono ?_
      rintro e w2 ⟨A3, c3, rfl, ho, hb⟩
      have O2 := Lib.hid (ho.more B1.out.size)
      have B2 := Lib.hid (below_then B1.out (Nat.le_refl _) hb)
      have K0_2 := Lib.hid (K0_1.out.below hb K0_1.out.lt)
      have K1_2 := Lib.hid (K1_1.out.below hb K1_1.out.lt)
      clear ho hb HP O1 B1 K0_1 K1_1
      go_wp2_with fail
      go_roundw
      case rel => exact ⟨k + 1, n1 + 2 + 2, c3, A3, by omega, by go_num, rfl, Lib.hid (by have := HN1.out; omega), by rw [HT.out]; exact O2.out, B2.out, K0_2.out, K1_2.out⟩
      case measure => simp [intOf]; omega
    · obtain rfl : k = m := by omega
      have ht : skips.take k = skips := List.take_of_length_le (by rw [HLG.out]; exact Nat.le_refl _)
      rw [ht] at ho
      have hn1 : n1 = 4 + 4 * k := HN1.out
      subst hn1
      clear ht HN1 HRG HLG HBG hlt hkm
      have O0 := Lib.hid ho
      have B0 := Lib.hid hbel
      have K0_0 := Lib.hid hk0
      have K1_0 := Lib.hid hk1
      clear ho hbel hk0 hk1
      generalize wr = w0 at hws O0 B0 K0_0 K1_0 ⊢
      have f0_1 : w0.cell? ⟨w.heap.size, 1, none⟩ = some (.slice A k c) := K0_0.out.cell 1
      have f1_0 : w0.cell? ⟨w.heap.size + 1, 0, none⟩ = some (.int .u8 0) := K1_0.out.cell 0
      have z1_0 : w0.frozen? ⟨w.heap.size + 1, 0, none⟩ = false := K1_0.out.frozen 0
      have f1_1 : w0.cell? ⟨w.heap.size + 1, 1, none⟩ = some (.int .u8 0) := K1_0.out.cell 1
      have z1_1 : w0.frozen? ⟨w.heap.size + 1, 1, none⟩ = false := K1_0.out.frozen 1
      have f1_2 : w0.cell? ⟨w.heap.size + 1, 2, none⟩ = some (.slice none 0 0) := K1_0.out.cell 2
      have z1_2 : w0.frozen? ⟨w.heap.size + 1, 2, none⟩ = false := K1_0.out.frozen 2
      go_wp2_with fail
      have H3 := out3 O0.out K1_0.out (by decide) (.int .u8 192) (.int .u8 0) (.slice A1 (4 + 4 * k : Nat) c1)
      exact bodyPost_ret (v := .agg #[.int .u8 192, .int .u8 0, .slice A1 (4 + 4 * k : Nat) c1]) (by simp [results, Try.results37, go_sem, H3.2.cell]) rfl ⟨A1, _, c1, rfl, H3.1, below3 B0.out (by omega) _ _ _⟩
set_option maxRecDepth 100000 in
set_option maxHeartbeats 4000000 in
theorem refPutSack_any (cum rwnd : Nat) (gaps : List (Nat × Nat)) (dups : List Nat) (h1 : cum < 4294967296) (h2 : rwnd < 4294967296) (hbd : ∀ g ∈ gaps, g.1 < 65536 ∧ g.2 < 65536) (hbd2 : ∀ g ∈ dups, g < 4294967296) (A A' : Option Addr) (m c m' c' : Nat) (w : World) (hm : m ≤ 1099511627776) (hm' : m' ≤ 1099511627776) (hx : gaps.length = m) (hx' : dups.length = m') (hr : Rg w 0 w.heap.size A gaps) (hr' : Ri .u32 w w.heap.size A' (ints dups)) :
    Puts 32 #[.agg #[.int .u32 cum, .int .u32 rwnd, .slice A m c, .slice A' m' c']] 3 0 (bodyS ⟨cum, rwnd, gaps, dups⟩) w := by
  refine puts_of ?_
  have hz := zero_chunk
  have HY : Hid (bodyS ⟨cum, rwnd, gaps, dups⟩ = enc cum 4 ++ enc rwnd 4 ++ enc m 2 ++ enc m' 2 ++ gapsB gaps ++ numsB 4 (ints dups)) := Lib.hid (by rw [← dupsB_nums dups hbd2, ← hx, ← hx']; simp [bodyS, headS])
  rw [HY.out]
  have HLG := Lib.hid hx
  have HRG := Lib.hid hr
  have HBG := Lib.hid hbd
  have HLD : Hid ((ints dups).length = m') := Lib.hid (by rw [length_ints]; exact hx')
  have HRD := Lib.hid hr'
  have HBD := Lib.hid (ints_bd hbd2)
  clear hx hr hbd hx' hr' hbd2
  have b0 : Blk (w.alloc (.cells #[.int .u32 cum, .int .u32 rwnd, .slice A m c, .slice A' m' c'] 52)) w.heap.size 52 #[.int .u32 cum, .int .u32 rwnd, .slice A m c, .slice A' m' c'] := Blk.new w 52 #[.int .u32 cum, .int .u32 rwnd, .slice A m c, .slice A' m' c']
  have b1 : Blk ((w.alloc (.cells #[.int .u32 cum, .int .u32 rwnd, .slice A m c, .slice A' m' c'] 52)).alloc (.cells #[.int .u8 0, .int .u8 0, .slice none 0 0] 28)) (w.heap.size + 1) 28 #[.int .u8 0, .int .u8 0, .slice none 0 0] := by simpa using Blk.new (w.alloc (.cells #[.int .u32 cum, .int .u32 rwnd, .slice A m c, .slice A' m' c'] 52)) 28 #[.int .u8 0, .int .u8 0, .slice none 0 0]
  have K0_0 := Lib.hid (b0.alloc (.cells #[.int .u8 0, .int .u8 0, .slice none 0 0] 28))
  have K1_0 := Lib.hid b1
  have B0 : Hid (Below w.heap.size w ((w.alloc (.cells #[.int .u32 cum, .int .u32 rwnd, .slice A m c, .slice A' m' c'] 52)).alloc (.cells #[.int .u8 0, .int .u8 0, .slice none 0 0] 28))) := Lib.hid (Wr.below_ (((Wr.refl 5 w.heap.size w).alloc (.cells #[.int .u32 cum, .int .u32 rwnd, .slice A m c, .slice A' m' c'] 52)).alloc (.cells #[.int .u8 0, .int .u8 0, .slice none 0 0] 28)) (Nat.le_refl _))
  clear b0 b1
  go_enter Try.func32, Try.ntmps32
  go_wp2_with fail
  generalize ((w.alloc (.cells #[.int .u32 cum, .int .u32 rwnd, .slice A m c, .slice A' m' c'] 52)).alloc (.cells #[.int .u8 0, .int .u8 0, .slice none 0 0] 28)) = w0 at K0_0 K1_0 B0 ⊢
  have O0 := Lib.hid (Own8.nil w0 5 w.heap.size)
  have HP := refPut_yes none 0 0 (cum) 4 ([]) w0 (by omega) (by omega) O0.out.len O0.out.rd (by unfold IsSize; omega)
  refine HP.mono ?_
  rintro e w1 ⟨A1, c1, rfl, ho, hb⟩
  have O1 : Hid (Own8 w1 5 w.heap.size A1 (4) c1 ([] ++ enc (cum) 4)) := Lib.hid (ho.more B0.out.size)
  have K0_1 := Lib.hid (K0_0.out.below hb K0_0.out.lt)
  have K1_1 := Lib.hid (K1_0.out.below hb K1_0.out.lt)
  have B1 := Lib.hid (below_then B0.out (Nat.le_refl _) hb)
  clear ho hb HP O0 B0 K0_0 K1_0
  have f0_1 : w1.cell? ⟨w.heap.size, 1, none⟩ = some (.int .u32 rwnd) := K0_1.out.cell 1
  go_wp2_with fail
  clear f0_1
  have HP := refPut_yes A1 4 c1 (rwnd) 4 ([] ++ enc (cum) 4) w1 (by omega) (by omega) O1.out.len O1.out.rd (by unfold IsSize; omega)
  refine HP.mono ?_
  rintro e w2 ⟨A2, c2, rfl, ho, hb⟩
  have O2 : Hid (Own8 w2 5 w.heap.size A2 (8) c2 ([] ++ enc (cum) 4 ++ enc (rwnd) 4)) := Lib.hid (ho.more B1.out.size)
  have K0_2 := Lib.hid (K0_1.out.below hb K0_1.out.lt)
  have K1_2 := Lib.hid (K1_1.out.below hb K1_1.out.lt)
  have B2 := Lib.hid (below_then B1.out (Nat.le_refl _) hb)
  clear ho hb HP O1 B1 K0_1 K1_1
  have f0_2 : w2.cell? ⟨w.heap.size, 2, none⟩ = some (.slice A m c) := K0_2.out.cell 2
  go_wp2_with fail
  clear f0_2
  have HP := refPut_yes A2 8 c2 (m) 2 ([] ++ enc (cum) 4 ++ enc (rwnd) 4) w2 (by omega) (by omega) O2.out.len O2.out.rd (by unfold IsSize; omega)
  refine HP.mono ?_
  rintro e w3 ⟨A3, c3, rfl, ho, hb⟩
  have O3 : Hid (Own8 w3 5 w.heap.size A3 (10) c3 ([] ++ enc (cum) 4 ++ enc (rwnd) 4 ++ enc (m) 2)) := Lib.hid (ho.more B2.out.size)
  have K0_3 := Lib.hid (K0_2.out.below hb K0_2.out.lt)
  have K1_3 := Lib.hid (K1_2.out.below hb K1_2.out.lt)
  have B3 := Lib.hid (below_then B2.out (Nat.le_refl _) hb)
  clear ho hb HP O2 B2 K0_2 K1_2
  have f0_3 : w3.cell? ⟨w.heap.size, 3, none⟩ = some (.slice A' m' c') := K0_3.out.cell 3
  go_wp2_with fail
  clear f0_3
  have HP := refPut_yes A3 10 c3 (m') 2 ([] ++ enc (cum) 4 ++ enc (rwnd) 4 ++ enc (m) 2) w3 (by omega) (by omega) O3.out.len O3.out.rd (by unfold IsSize; omega)
  refine HP.mono ?_
  rintro e w4 ⟨A4, c4, rfl, ho, hb⟩
  have O4 : Hid (Own8 w4 5 w.heap.size A4 (12) c4 ([] ++ enc (cum) 4 ++ enc (rwnd) 4 ++ enc (m) 2 ++ enc (m') 2)) := Lib.hid (ho.more B3.out.size)
  have K0_4 := Lib.hid (K0_3.out.below hb K0_3.out.lt)
  have K1_4 := Lib.hid (K1_3.out.below hb K1_3.out.lt)
  have B4 := Lib.hid (below_then B3.out (Nat.le_refl _) hb)
  clear ho hb HP O3 B3 K0_3 K1_3
  go_wp2_with fail
  have HXL : Hid ((enc cum 4 ++ enc rwnd 4 ++ enc m 2 ++ enc m' 2 ++ gapsB (gaps.take 0)) = enc cum 4 ++ enc rwnd 4 ++ enc m 2 ++ enc m' 2) := Lib.hid (by simp [gapsB_nil])
  go_loopw [3, 4] (fun b i wr => ∃ (k n1 c1 : Nat) (A1 : Option Addr), k ≤ m ∧ i = .int .i64 k ∧ b = .slice A1 n1 c1 ∧ Hid (n1 = 12 + 4 * k) ∧ Own8 wr 5 w.heap.size A1 n1 c1 (enc cum 4 ++ enc rwnd 4 ++ enc m 2 ++ enc m' 2 ++ gapsB (gaps.take k)) ∧ Below w.heap.size w wr ∧ Blk wr (w.heap.size) 52 #[.int .u32 cum, .int .u32 rwnd, .slice A m c, .slice A' m' c'] ∧ Blk wr (w.heap.size + 1) 28 #[.int .u8 0, .int .u8 0, .slice none 0 0]) (fun _ i _ => m - (intOf i).toNat)
  case atStart => exact ⟨0, _, _, _, Nat.zero_le _, rfl, rfl, Lib.hid rfl, by rw [HXL.out]; exact O4.out, B4.out, K0_4.out, K1_4.out⟩
  case round =>
    clear HXL O4 B4 K0_4 K1_4
    obtain ⟨k, n1, c1, A1, hkm, rfl, rfl, HN1, ho, hbel, hk0, hk1⟩ := hrel
    have hws : w.heap.size ≤ wr.heap.size := hbel.size
    by_cases hlt : k < m
    · have hrg := HRG.out.below_ hbel
      obtain ⟨gb, go, hAe, _, hgl, hcx⟩ := hrg.at_ (by intro e; have := HLG.out; rw [e] at this; simp at this; omega)
      subst hAe
      have hkl : k < gaps.length := by rw [HLG.out]; exact hlt
      obtain ⟨pa, hpa⟩ : ∃ pa, pa = gaps[k].1 := ⟨_, rfl⟩
      obtain ⟨pb, hpb⟩ : ∃ pb, pb = gaps[k].2 := ⟨_, rfl⟩
      have hc0 := (hcx k hkl).1
      have hc1 := (hcx k hkl).2
      rw [← hpa] at hc0
      rw [← hpb] at hc1
      have hpab := HBG.out _ (List.getElem_mem hkl)
      rw [← hpa, ← hpb] at hpab
      have HT : Hid (enc cum 4 ++ enc rwnd 4 ++ enc m 2 ++ enc m' 2 ++ gapsB (gaps.take (k + 1)) = enc cum 4 ++ enc rwnd 4 ++ enc m 2 ++ enc m' 2 ++ gapsB (gaps.take k) ++ enc (pa) 2 ++ enc (pb) 2) := Lib.hid (by rw [gapsB_take gaps k hkl, ← hpa, ← hpb]; simp)
      have hpa1 := hpab.1
      have hpb1 := hpab.2
      have HC1 := Lib.hid hc1
      clear hpa hpb hcx hrg hpab hc1
      have O0 := Lib.hid ho
      have B0 := Lib.hid hbel
      have K0_0 := Lib.hid hk0
      have K1_0 := Lib.hid hk1
      have hn1 : n1 ≤ 12 + 4 * 1099511627776 := by have := HN1.out; omega
      clear ho hbel hk0 hk1
      generalize wr = w0 at hws hc0 HC1 O0 B0 hgl K0_0 K1_0 ⊢
      have f0_2 : w0.cell? ⟨w.heap.size, 2, none⟩ = some (.slice (some ⟨gb, go, none⟩) m c) := K0_0.out.cell 2
      go_wp2_with fail
      clear f0_2 hc0
      have HC1b : Hid (∀ W, Below w0.heap.size w0 W → W.cell? ⟨gb, go + k * 2 + 1, none⟩ = some (.int .u16 (pb : Int))) := Lib.hid fun W hW => (hW.cell (by show gb < _; omega)).trans HC1.out
      have HP := refPut_yes A1 n1 c1 pa 2 (enc cum 4 ++ enc rwnd 4 ++ enc m 2 ++ enc m' 2 ++ gapsB (gaps.take k)) w0 (by omega) (by omega) O0.out.len O0.out.rd (by unfold IsSize; omega)
      refine HP.mono ?_
      rintro e w1 ⟨A2, c2, rfl, ho, hb⟩
      have hc1 := HC1b.out w1 hb
      have O1 := Lib.hid (ho.more B0.out.size)
      have B1 := Lib.hid (below_then B0.out (Nat.le_refl _) hb)
      have K0_1 := Lib.hid (K0_0.out.below hb K0_0.out.lt)
      have K1_1 := Lib.hid (K1_0.out.below hb K1_0.out.lt)
      clear ho hb HP O0 B0 HC1 HC1b K0_0 K1_0
      have f0_2 : w1.cell? ⟨w.heap.size, 2, none⟩ = some (.slice (some ⟨gb, go, none⟩) m c) := K0_1.out.cell 2
      go_wp2_with fail
      clear f0_2 hc1
      have HP := refPut_yes A2 (n1 + 2) c2 pb 2 (enc cum 4 ++ enc rwnd 4 ++ enc m 2 ++ enc m' 2 ++ gapsB (gaps.take k) ++ enc (pa) 2) w1 (by omega) (by omega) O1.out.len O1.out.rd (by unfold IsSize; omega)
      refine HP.mono ?_
      rintro e w2 ⟨A3, c3, rfl, ho, hb⟩
      have O2 := Lib.hid (ho.more B1.out.size)
      have B2 := Lib.hid (below_then B1.out (Nat.le_refl _) hb)
      have K0_2 := Lib.hid (K0_1.out.below hb K0_1.out.lt)
      have K1_2 := Lib.hid (K1_1.out.below hb K1_1.out.lt)
      clear ho hb HP O1 B1 K0_1 K1_1
      go_wp2_with fail
      go_roundw
      case rel => exact ⟨k + 1, n1 + 2 + 2, c3, A3, by omega, by go_num, rfl, Lib.hid (by have := HN1.out; omega), by rw [HT.out]; exact O2.out, B2.out, K0_2.out, K1_2.out⟩
      case measure => simp [intOf]; omega
    · obtain rfl : k = m := by omega
      have ht : gaps.take k = gaps := List.take_of_length_le (by rw [HLG.out]; exact Nat.le_refl _)
      rw [ht] at ho
      have hn1 : n1 = 12 + 4 * k := HN1.out
      subst hn1
      clear ht HN1 HRG HLG HBG hlt hkm
      have O0 := Lib.hid ho
      have B0 := Lib.hid hbel
      have K0_0 := Lib.hid hk0
      have K1_0 := Lib.hid hk1
      clear ho hbel hk0 hk1
      generalize wr = w0 at hws O0 B0 K0_0 K1_0 ⊢
      have f0_2 : w0.cell? ⟨w.heap.size, 2, none⟩ = some (.slice A k c) := K0_0.out.cell 2
      go_wp2_with fail
      clear f0_2
      have HXL : Hid ((enc cum 4 ++ enc rwnd 4 ++ enc k 2 ++ enc m' 2 ++ gapsB gaps ++ numsB 4 ((ints dups).take 0)) = enc cum 4 ++ enc rwnd 4 ++ enc k 2 ++ enc m' 2 ++ gapsB gaps) := Lib.hid (by simp [numsB])
      go_loopw [3, 5] (fun b i wr => ∃ (j n1 c1 : Nat) (A1 : Option Addr), j ≤ m' ∧ i = .int .i64 j ∧ b = .slice A1 n1 c1 ∧ Hid (n1 = 12 + 4 * k + 4 * j) ∧ Own8 wr 5 w.heap.size A1 n1 c1 (enc cum 4 ++ enc rwnd 4 ++ enc k 2 ++ enc m' 2 ++ gapsB gaps ++ numsB 4 ((ints dups).take j)) ∧ Below w.heap.size w wr ∧ Blk wr (w.heap.size) 52 #[.int .u32 cum, .int .u32 rwnd, .slice A k c, .slice A' m' c'] ∧ Blk wr (w.heap.size + 1) 28 #[.int .u8 0, .int .u8 0, .slice none 0 0]) (fun _ i _ => m' - (intOf i).toNat)
      case atStart => exact ⟨0, _, _, _, Nat.zero_le _, rfl, rfl, Lib.hid (by omega), by rw [HXL.out]; exact O0.out, B0.out, K0_0.out, K1_0.out⟩
      case round =>
        clear HXL O0 B0 K0_0 K1_0 hws
        obtain ⟨j, n1, c1, A1, hjm, rfl, rfl, HN1, ho, hbel, hk0, hk1⟩ := hrel
        have hws : w.heap.size ≤ wr.heap.size := hbel.size
        by_cases hlt : j < m'
        · have hri := HRD.out.below hbel
          obtain ⟨gb, go, hAe, hgl, hcx⟩ := hri.at_ (by intro e; have := HLD.out; rw [e] at this; simp at this; omega)
          subst hAe
          have hjl : j < (ints dups).length := by rw [HLD.out]; exact hlt
          obtain ⟨x, hx⟩ : ∃ x, x = (ints dups)[j] := ⟨_, rfl⟩
          have hc0 := hcx j hjl
          rw [← hx] at hc0
          have hxb := HBD.out x (by rw [hx]; exact List.getElem_mem hjl)
          have HT : Hid (enc cum 4 ++ enc rwnd 4 ++ enc k 2 ++ enc m' 2 ++ gapsB gaps ++ numsB 4 ((ints dups).take (j + 1)) = enc cum 4 ++ enc rwnd 4 ++ enc k 2 ++ enc m' 2 ++ gapsB gaps ++ numsB 4 ((ints dups).take j) ++ enc x.toNat 4) := Lib.hid (by rw [numsB_take 4 _ j hjl, ← hx, ← List.append_assoc]; congr 2; omega)
          have hxe : (x : Int) = ((x.toNat : Nat) : Int) := by omega
          obtain ⟨q, hq⟩ : ∃ q, q = x.toNat := ⟨_, rfl⟩
          rw [← hq] at HT hxe
          have hqb : q < 4294967296 := by omega
          subst hxe
          clear hx hcx hri hxb hq
          have O0 := Lib.hid ho
          have B0 := Lib.hid hbel
          have K0_0 := Lib.hid hk0
          have K1_0 := Lib.hid hk1
          have hn1 : n1 ≤ 12 + 8 * 1099511627776 := by have := HN1.out; omega
          clear ho hbel hk0 hk1
          generalize wr = w0 at hws hc0 O0 B0 K0_0 K1_0 ⊢
          have f0_3 : w0.cell? ⟨w.heap.size, 3, none⟩ = some (.slice (some ⟨gb, go, none⟩) m' c') := K0_0.out.cell 3
          go_wp2_with fail
          clear f0_3 hc0
          have HP := refPut_yes A1 n1 c1 q 4 (enc cum 4 ++ enc rwnd 4 ++ enc k 2 ++ enc m' 2 ++ gapsB gaps ++ numsB 4 ((ints dups).take j)) w0 (by omega) (by omega) O0.out.len O0.out.rd (by unfold IsSize; omega)
          refine HP.mono ?_
          rintro e w1 ⟨A2, c2, rfl, ho, hb⟩
          have O1 := Lib.hid (ho.more B0.out.size)
          have B1 := Lib.hid (below_then B0.out (Nat.le_refl _) hb)
          have K0_1 := Lib.hid (K0_0.out.below hb K0_0.out.lt)
          have K1_1 := Lib.hid (K1_0.out.below hb K1_0.out.lt)
          clear ho hb HP O0 B0 K0_0 K1_0
          go_wp2_with fail
          go_roundw
          case rel => exact ⟨j + 1, n1 + 4, c2, A2, by omega, by go_num, rfl, Lib.hid (by have := HN1.out; omega), by rw [HT.out]; exact O1.out, B1.out, K0_1.out, K1_1.out⟩
          case measure => simp [intOf]; omega
        · obtain rfl : j = m' := by omega
          have ht : (ints dups).take j = ints dups := List.take_of_length_le (by rw [HLD.out]; exact Nat.le_refl _)
          rw [ht] at ho
          have hn1 : n1 = 12 + 4 * k + 4 * j := HN1.out
          subst hn1
          clear ht HN1 HRD HLD HBD hlt
          have O0 := Lib.hid ho
          have B0 := Lib.hid hbel
          have K0_0 := Lib.hid hk0
          have K1_0 := Lib.hid hk1
          clear ho hbel hk0 hk1
          generalize wr = w0 at hws O0 B0 K0_0 K1_0 ⊢
          have f0_3 : w0.cell? ⟨w.heap.size, 3, none⟩ = some (.slice A' j c') := K0_0.out.cell 3
          have f1_0 : w0.cell? ⟨w.heap.size + 1, 0, none⟩ = some (.int .u8 0) := K1_0.out.cell 0
          have z1_0 : w0.frozen? ⟨w.heap.size + 1, 0, none⟩ = false := K1_0.out.frozen 0
          have f1_1 : w0.cell? ⟨w.heap.size + 1, 1, none⟩ = some (.int .u8 0) := K1_0.out.cell 1
          have z1_1 : w0.frozen? ⟨w.heap.size + 1, 1, none⟩ = false := K1_0.out.frozen 1
          have f1_2 : w0.cell? ⟨w.heap.size + 1, 2, none⟩ = some (.slice none 0 0) := K1_0.out.cell 2
          have z1_2 : w0.frozen? ⟨w.heap.size + 1, 2, none⟩ = false := K1_0.out.frozen 2
          go_wp2_with fail
          have H3 := out3 O0.out K1_0.out (by decide) (.int .u8 3) (.int .u8 0) (.slice A1 (12 + 4 * k + 4 * j : Nat) c1)
          exact bodyPost_ret (v := .agg #[.int .u8 3, .int .u8 0, .slice A1 (12 + 4 * k + 4 * j : Nat) c1]) (by simp [results, Try.results32, go_sem, H3.2.cell]) rfl ⟨A1, _, c1, rfl, H3.1, below3 B0.out (by omega) _ _ _⟩
end Go.Proofs.Ytalgkokgaibloaa
