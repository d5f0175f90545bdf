/-
  Package bodies: PutForward, PutSack.
-/
import Derived.Test.YtalgkokgaibloaaBodQ
namespace Go.Proofs.Ytalgkokgaibloaa
open Go.RowKit
set_option linter.unusedVariables false

/-- Numbers as integers. -/
def ints (l : List Nat) : List Int := l.map fun x : Nat => (x : Int)
theorem length_ints (l : List Nat) : (ints l).length = l.length := by simp [ints]
theorem ints_bd {l : List Nat} {b : Nat} (h : ∀ x ∈ l, x < b) : ∀ x ∈ ints l, 0 ≤ x ∧ x < (b : Int) := by
  intro x hx
  obtain ⟨y, hy, rfl⟩ := List.mem_map.1 hx
  have := h y hy
  omega
theorem gapsB_take (l : List (Nat × Nat)) (k : Nat) (h : k < l.length) : gapsB (l.take (k + 1)) = gapsB (l.take k) ++ (enc l[k].1 2 ++ enc l[k].2 2) := by
  rw [List.take_add_one, List.getElem?_eq_getElem h]
  simp only [gapsB, List.map_append, List.flatten_append, Option.toList_some, List.map_cons, List.map_nil, List.flatten_cons, List.flatten_nil, List.append_nil, encG]
theorem gapsB_nil : gapsB [] = [] := rfl
theorem dupsB_nums (l : List Nat) (h : ∀ x ∈ l, x < 4294967296) : dupsB l = numsB 4 (ints l) := by
  induction l with
  | nil => rfl
  | cons a l ih =>
    have ha := h a List.mem_cons_self
    have := ih (fun x hx => h x (List.mem_cons_of_mem _ hx))
    simp only [dupsB, numsB, ints, List.map_cons, List.flatten_cons] at this ⊢
    rw [this, toNat_small a (by omega)]

set_option maxRecDepth 100000 in
set_option maxHeartbeats 4000000 in
theorem putForward_any (cum : Nat) (skips : List (Nat × Nat)) (h1 : cum < 4294967296) (hbd : ∀ g ∈ skips, g.1 < 65536 ∧ g.2 < 65536) (A : Option Addr) (m c : Nat) (w : World) (hm : m ≤ 1099511627776) (hx : skips.length = m) (hr : Rg w 0 w.heap.size A skips) :
    Puts 34 #[.agg #[.int .u32 cum, .slice A m c]] 192 0 (bodyF ⟨cum, skips⟩) w := by
  refine puts_of ?_
  have hz := zero_chunk
  have HY : Hid (bodyF ⟨cum, skips⟩ = [] ++ numsB 4 [(cum : Int)] ++ gapsB skips) := Lib.hid (by rw [numsB1 4 cum (by omega)]; simp [bodyF])
  rw [HY.out]
  have HLG := Lib.hid hx
  have HRG := Lib.hid hr
  have HBG := Lib.hid hbd
  clear hx hr hbd
  have b0 : Blk (w.alloc (.cells #[.int .u32 cum, .slice A m c] 56)) w.heap.size 56 #[.int .u32 cum, .slice A m c] := Blk.new w 56 #[.int .u32 cum, .slice A m c]
  have b1 : Blk ((w.alloc (.cells #[.int .u32 cum, .slice A m c] 56)).alloc (.cells #[.int .u8 0, .int .u8 0, .slice none 0 0] 28)) (w.heap.size + 1) 28 #[.int .u8 0, .int .u8 0, .slice none 0 0] := by simpa using Blk.new (w.alloc (.cells #[.int .u32 cum, .slice A m c] 56)) 28 #[.int .u8 0, .int .u8 0, .slice none 0 0]
  have K0_0 := Lib.hid (b0.alloc (.cells #[.int .u8 0, .int .u8 0, .slice none 0 0] 28))
  have K1_0 := Lib.hid b1
  have WR0 := Lib.hid (((Wr.refl 5 w.heap.size w).alloc (.cells #[.int .u32 cum, .slice A m c] 56)).alloc (.cells #[.int .u8 0, .int .u8 0, .slice none 0 0] 28))
  have O0 := Lib.hid (Own8.nil ((w.alloc (.cells #[.int .u32 cum, .slice A m c] 56)).alloc (.cells #[.int .u8 0, .int .u8 0, .slice none 0 0] 28)) 5 w.heap.size)
  clear b0 b1
  go_enter Try.func34, Try.ntmps34
  go_wp2_with fail
  have HSZ0 : Hid (((w.alloc (.cells #[.int .u32 cum, .slice A m c] 56)).alloc (.cells #[.int .u8 0, .int .u8 0, .slice none 0 0] 28)).heap.size = w.heap.size + 1 + 1) := Lib.hid (by simp)
  generalize ((w.alloc (.cells #[.int .u32 cum, .slice A m c] 56)).alloc (.cells #[.int .u8 0, .int .u8 0, .slice none 0 0] 28)) = w0 at HSZ0 K0_0 K1_0 WR0 O0 ⊢
  have hnb := Blk.new w0 22 #[.int .u32 ((cum : Int))]
  rw [HSZ0.out] at hnb
  have hO := O0.out.alloc (.cells #[.int .u32 ((cum : Int))] 22)
  have HA := Lib.hid (add_u32 4 w.heap.size (by unfold IsSize; omega) none 0 0 [] (some ⟨w.heap.size + 1 + 1, 0, none⟩) 1 1 [(cum : Int)] (w0.alloc (.cells #[.int .u32 ((cum : Int))] 22)) hO (Nat.le_trans WR0.out.size (by simp)) rfl (fun W hW => (Ri.of_blk [(cum : Int)] (hnb.wr hW (by decide)) rfl)) (by intro x hx; simp at hx; rcases hx with rfl <;> omega) (by omega))
  refine HA.out.mono ?_
  rintro e w1 ⟨A1, c1, rfl, ho, hwr⟩
  have O1 : Hid (Own8 w1 5 w.heap.size A1 4 c1 ([] ++ numsB 4 [(cum : Int)])) := Lib.hid ho
  have WR1 := Lib.hid ((WR0.out.alloc (.cells #[.int .u32 ((cum : Int))] 22)).trans hwr)
  have K0_1 := Lib.hid ((K0_0.out.alloc (.cells #[.int .u32 ((cum : Int))] 22)).wr hwr (by decide))
  have K1_1 := Lib.hid ((K1_0.out.alloc (.cells #[.int .u32 ((cum : Int))] 22)).wr hwr (by decide))
  clear ho hwr hnb hO HA O0 WR0 K0_0 K1_0
  have f0_1 : w1.cell? ⟨w.heap.size, 1, none⟩ = some (.slice A m c) := K0_1.out.cell 1
  go_wp2_with fail
  clear f0_1
  have HXL : Hid ((([] ++ numsB 4 [(cum : Int)]) ++ gapsB (skips.take 0)) = ([] ++ numsB 4 [(cum : Int)])) := Lib.hid (by simp [gapsB_nil])
  have hws : w.heap.size ≤ w1.heap.size := WR1.out.size
  go_loopw [3, 13] (fun b i wr => ∃ (k n1 c1 : Nat) (A1 : Option Addr), k ≤ m ∧ i = .int .i64 k ∧ b = .slice A1 n1 c1 ∧ Hid (n1 = 4 + 4 * k) ∧ Own8 wr 5 w.heap.size A1 n1 c1 (([] ++ numsB 4 [(cum : Int)]) ++ gapsB (skips.take k)) ∧ Wr 5 w.heap.size w wr ∧ Blk wr (w.heap.size) 56 #[.int .u32 cum, .slice A m c] ∧ Blk wr (w.heap.size + 1) 28 #[.int .u8 0, .int .u8 0, .slice none 0 0]) (fun _ i _ => m - (intOf i).toNat)
  case atStart => exact ⟨0, _, _, _, Nat.zero_le _, rfl, rfl, Lib.hid rfl, by rw [HXL.out]; exact O1.out, WR1.out, K0_1.out, K1_1.out⟩
  case round =>
    clear hws HXL O1 WR1 K0_1 K1_1
    obtain ⟨k, n1, c1, A1, hkm, rfl, rfl, HN1, ho, hwr, hk0, hk1⟩ := hrel
    have hws : w.heap.size ≤ wr.heap.size := hwr.size
    by_cases hlt : k < m
    · have hrg := HRG.out.wr hwr (Nat.le_refl _) (Nat.le_refl _)
      obtain ⟨gb, go, hAe, _, hgl, hcx⟩ := hrg.at_ (by intro e; have := HLG.out; rw [e] at this; simp at this; omega)
      subst hAe
      have hkl : k < skips.length := by rw [HLG.out]; exact hlt
      obtain ⟨pa, hpa⟩ : ∃ pa, pa = skips[k].1 := ⟨_, rfl⟩
      obtain ⟨pb, hpb⟩ : ∃ pb, pb = skips[k].2 := ⟨_, rfl⟩
      have hc0 := (hcx k hkl).1
      have hc1 := (hcx k hkl).2
      rw [← hpa] at hc0
      rw [← hpb] at hc1
      have hpab := HBG.out _ (List.getElem_mem hkl)
      rw [← hpa, ← hpb] at hpab
      have HT : Hid (([] ++ numsB 4 [(cum : Int)]) ++ gapsB (skips.take (k + 1)) = ([] ++ numsB 4 [(cum : Int)]) ++ gapsB (skips.take k) ++ numsB 2 [(pa : Int), (pb : Int)]) := Lib.hid (by rw [gapsB_take skips k hkl, ← hpa, ← hpb, numsB2 2 pa pb (by omega) (by omega)]; simp)
      have hpa1 := hpab.1
      have hpb1 := hpab.2
      clear hpa hpb hcx hrg hpab
      have hz := zero_skip
      have hb1 := hwr.below_ (Nat.le_refl _)
      have S1 := Blk.new wr 104 #[.int .u16 (pa : Int), .int .u16 (pb : Int)]
      have O1 := Lib.hid (ho.alloc (.cells #[.int .u16 (pa : Int), .int .u16 (pb : Int)] 104))
      have W1 := Lib.hid (hwr.alloc (.cells #[.int .u16 (pa : Int), .int .u16 (pb : Int)] 104))
      have R0 := Lib.hid (hk0.alloc (.cells #[.int .u16 (pa : Int), .int .u16 (pb : Int)] 104))
      have R1 := Lib.hid (hk1.alloc (.cells #[.int .u16 (pa : Int), .int .u16 (pb : Int)] 104))
      have HS1 := Lib.hid S1
      clear ho hwr hb1 S1 hk0 hk1
      go_wp2_with fail
      have HSZ1 : Hid ((wr.alloc (.cells #[.int .u16 (pa : Int), .int .u16 (pb : Int)] 104)).heap.size = wr.heap.size + 1) := Lib.hid (by simp)
      generalize wr.alloc (.cells #[.int .u16 (pa : Int), .int .u16 (pb : Int)] 104) = w1 at HSZ1 HS1 O1 W1 R0 R1 ⊢
      have hnb := Blk.new w1 23 #[.int .u16 (pa : Int), .int .u16 (pb : Int)]
      rw [HSZ1.out] at hnb
      have hO := O1.out.alloc (.cells #[.int .u16 (pa : Int), .int .u16 (pb : Int)] 23)
      have hn1 : n1 ≤ 4 + 4 * 1099511627776 := by have := HN1.out; omega
      have HA := Lib.hid (add_u16 2 w.heap.size (by unfold IsSize; omega) A1 n1 c1 (([] ++ numsB 4 [(cum : Int)]) ++ gapsB (skips.take k)) (some ⟨wr.heap.size + 1, 0, none⟩) 2 2 [(pa : Int), (pb : Int)] (w1.alloc (.cells #[.int .u16 (pa : Int), .int .u16 (pb : Int)] 23)) hO (Nat.le_trans W1.out.size (by simp)) rfl (fun W hW => (Ri.of_blk [(pa : Int), (pb : Int)] (hnb.wr hW (by decide)) rfl)) (by intro x hx; simp at hx; rcases hx with rfl | rfl <;> omega) (by omega))
      refine HA.out.mono ?_
      rintro e w3 ⟨A3, c3, rfl, ho, hwr⟩
      have W3 := Lib.hid ((W1.out.alloc (.cells #[.int .u16 (pa : Int), .int .u16 (pb : Int)] 23)).trans hwr)
      have Q0 := Lib.hid ((R0.out.alloc (.cells #[.int .u16 (pa : Int), .int .u16 (pb : Int)] 23)).wr hwr (by decide))
      have Q1 := Lib.hid ((R1.out.alloc (.cells #[.int .u16 (pa : Int), .int .u16 (pb : Int)] 23)).wr hwr (by decide))
      have O3 := Lib.hid ho
      clear ho hwr hnb hO HA O1 W1 R0 R1
      go_wp2_with fail
      go_roundw
      case rel => exact ⟨k + 1, n1 + 4, c3, A3, by omega, by go_num, rfl, Lib.hid (by have := HN1.out; omega), by rw [HT.out]; exact O3.out, W3.out, Q0.out, Q1.out⟩
      case measure => simp [intOf]; omega
    · obtain rfl : k = m := by omega
      have ht : skips.take k = skips := List.take_of_length_le (by rw [HLG.out]; exact Nat.le_refl _)
      rw [ht] at ho
      have hn1 : n1 = 4 + 4 * k := HN1.out
      subst hn1
      clear ht HN1 HRG HLG HBG hlt hkm
      have O1 := Lib.hid ho
      have K1 := Lib.hid hk1
      have W1 := Lib.hid hwr
      have y0 := K1.out.cell 0
      have q0 := K1.out.frozen 0
      have y1 := K1.out.cell 1
      have q1 := K1.out.frozen 1
      have y2 := K1.out.cell 2
      have q2 := K1.out.frozen 2
      clear ho hk1 hk0 hwr
      go_wp2_with fail
      have H3 := out3 O1.out K1.out (by decide) (.int .u8 192) (.int .u8 0) (.slice A1 (4 + 4 * k : Nat) c1)
      exact bodyPost_ret (v := .agg #[.int .u8 192, .int .u8 0, .slice A1 (4 + 4 * k : Nat) c1]) (by simp [results, Try.results34, go_sem, H3.2.cell]) rfl ⟨A1, _, c1, rfl, H3.1, below3 (W1.out.below_ (Nat.le_refl _)) (by omega) _ _ _⟩
set_option maxRecDepth 100000 in
set_option maxHeartbeats 4000000 in
theorem putSack_any (cum rwnd : Nat) (gaps : List (Nat × Nat)) (dups : List Nat) (h1 : cum < 4294967296) (h2 : rwnd < 4294967296) (hbd : ∀ g ∈ gaps, g.1 < 65536 ∧ g.2 < 65536) (hbd2 : ∀ g ∈ dups, g < 4294967296) (A A' : Option Addr) (m c m' c' : Nat) (w : World) (hm : m ≤ 1099511627776) (hm' : m' ≤ 1099511627776) (hx : gaps.length = m) (hx' : dups.length = m') (hr : Rg w 0 w.heap.size A gaps) (hr' : Ri .u32 w w.heap.size A' (ints dups)) :
    Puts 29 #[.agg #[.int .u32 cum, .int .u32 rwnd, .slice A m c, .slice A' m' c']] 3 0 (bodyS ⟨cum, rwnd, gaps, dups⟩) w := by
  refine puts_of ?_
  have hz := zero_chunk
  have HY : Hid (bodyS ⟨cum, rwnd, gaps, dups⟩ = [] ++ numsB 4 [(cum : Int), (rwnd : Int)] ++ numsB 2 [(m : Int), (m' : Int)] ++ gapsB gaps ++ numsB 4 (ints dups)) := Lib.hid (by rw [← dupsB_nums dups hbd2, numsB2 4 cum rwnd (by omega) (by omega), numsB2 2 m m' (by omega) (by omega), ← hx, ← hx']; simp [bodyS, headS])
  rw [HY.out]
  have HLG := Lib.hid hx
  have HRG := Lib.hid hr
  have HBG := Lib.hid hbd
  have HLD := Lib.hid hx'
  have HRD := Lib.hid hr'
  have HBD := Lib.hid (ints_bd hbd2)
  clear hx hr hbd hx' hr' hbd2
  have b0 : Blk (w.alloc (.cells #[.int .u32 cum, .int .u32 rwnd, .slice A m c, .slice A' m' c'] 52)) w.heap.size 52 #[.int .u32 cum, .int .u32 rwnd, .slice A m c, .slice A' m' c'] := Blk.new w 52 #[.int .u32 cum, .int .u32 rwnd, .slice A m c, .slice A' m' c']
  have b1 : Blk ((w.alloc (.cells #[.int .u32 cum, .int .u32 rwnd, .slice A m c, .slice A' m' c'] 52)).alloc (.cells #[.int .u8 0, .int .u8 0, .slice none 0 0] 28)) (w.heap.size + 1) 28 #[.int .u8 0, .int .u8 0, .slice none 0 0] := by simpa using Blk.new (w.alloc (.cells #[.int .u32 cum, .int .u32 rwnd, .slice A m c, .slice A' m' c'] 52)) 28 #[.int .u8 0, .int .u8 0, .slice none 0 0]
  have K0_0 := Lib.hid (b0.alloc (.cells #[.int .u8 0, .int .u8 0, .slice none 0 0] 28))
  have K1_0 := Lib.hid b1
  have WR0 := Lib.hid (((Wr.refl 5 w.heap.size w).alloc (.cells #[.int .u32 cum, .int .u32 rwnd, .slice A m c, .slice A' m' c'] 52)).alloc (.cells #[.int .u8 0, .int .u8 0, .slice none 0 0] 28))
  have O0 := Lib.hid (Own8.nil ((w.alloc (.cells #[.int .u32 cum, .int .u32 rwnd, .slice A m c, .slice A' m' c'] 52)).alloc (.cells #[.int .u8 0, .int .u8 0, .slice none 0 0] 28)) 5 w.heap.size)
  clear b0 b1
  go_enter Try.func29, Try.ntmps29
  go_wp2_with fail
  have HSZ0 : Hid (((w.alloc (.cells #[.int .u32 cum, .int .u32 rwnd, .slice A m c, .slice A' m' c'] 52)).alloc (.cells #[.int .u8 0, .int .u8 0, .slice none 0 0] 28)).heap.size = w.heap.size + 1 + 1) := Lib.hid (by simp)
  generalize ((w.alloc (.cells #[.int .u32 cum, .int .u32 rwnd, .slice A m c, .slice A' m' c'] 52)).alloc (.cells #[.int .u8 0, .int .u8 0, .slice none 0 0] 28)) = w0 at HSZ0 K0_0 K1_0 WR0 O0 ⊢
  have hnb := Blk.new w0 22 #[.int .u32 ((cum : Int)), .int .u32 ((rwnd : Int))]
  rw [HSZ0.out] at hnb
  have hO := O0.out.alloc (.cells #[.int .u32 ((cum : Int)), .int .u32 ((rwnd : Int))] 22)
  have HA := Lib.hid (add_u32 4 w.heap.size (by unfold IsSize; omega) none 0 0 [] (some ⟨w.heap.size + 1 + 1, 0, none⟩) 2 2 [(cum : Int), (rwnd : Int)] (w0.alloc (.cells #[.int .u32 ((cum : Int)), .int .u32 ((rwnd : Int))] 22)) hO (Nat.le_trans WR0.out.size (by simp)) rfl (fun W hW => (Ri.of_blk [(cum : Int), (rwnd : Int)] (hnb.wr hW (by decide)) rfl)) (by intro x hx; simp at hx; rcases hx with rfl | rfl <;> omega) (by omega))
  refine HA.out.mono ?_
  rintro e w1 ⟨A1, c1, rfl, ho, hwr⟩
  have O1 : Hid (Own8 w1 5 w.heap.size A1 8 c1 ([] ++ numsB 4 [(cum : Int), (rwnd : Int)])) := Lib.hid ho
  have WR1 := Lib.hid ((WR0.out.alloc (.cells #[.int .u32 ((cum : Int)), .int .u32 ((rwnd : Int))] 22)).trans hwr)
  have K0_1 := Lib.hid ((K0_0.out.alloc (.cells #[.int .u32 ((cum : Int)), .int .u32 ((rwnd : Int))] 22)).wr hwr (by decide))
  have K1_1 := Lib.hid ((K1_0.out.alloc (.cells #[.int .u32 ((cum : Int)), .int .u32 ((rwnd : Int))] 22)).wr hwr (by decide))
  clear ho hwr hnb hO HA O0 WR0 K0_0 K1_0
  have f0_2 : w1.cell? ⟨w.heap.size, 2, none⟩ = some (.slice A m c) := K0_1.out.cell 2
  have f0_3 : w1.cell? ⟨w.heap.size, 3, none⟩ = some (.slice A' m' c') := K0_1.out.cell 3
  go_wp2_with fail
  clear f0_2 f0_3
  have hnb := Blk.new w1 3 #[.int .i64 ((m : Int)), .int .i64 ((m' : Int))]
  have hO := O1.out.alloc (.cells #[.int .i64 ((m : Int)), .int .i64 ((m' : Int))] 3)
  have HA := Lib.hid (add_int 2 w.heap.size (by unfold IsSize; omega) A1 8 c1 ([] ++ numsB 4 [(cum : Int), (rwnd : Int)]) (some ⟨w1.heap.size, 0, none⟩) 2 2 [(m : Int), (m' : Int)] (w1.alloc (.cells #[.int .i64 ((m : Int)), .int .i64 ((m' : Int))] 3)) hO (Nat.le_trans WR1.out.size (by simp)) rfl (fun W hW => (Ri.of_blk [(m : Int), (m' : Int)] (hnb.wr hW (by decide)) rfl)) (by intro x hx; simp at hx; rcases hx with rfl | rfl <;> omega) (by omega))
  refine HA.out.mono ?_
  rintro e w2 ⟨A2, c2, rfl, ho, hwr⟩
  have O2 : Hid (Own8 w2 5 w.heap.size A2 12 c2 (([] ++ numsB 4 [(cum : Int), (rwnd : Int)]) ++ numsB 2 [(m : Int), (m' : Int)])) := Lib.hid ho
  have WR2 := Lib.hid ((WR1.out.alloc (.cells #[.int .i64 ((m : Int)), .int .i64 ((m' : Int))] 3)).trans hwr)
  have K0_2 := Lib.hid ((K0_1.out.alloc (.cells #[.int .i64 ((m : Int)), .int .i64 ((m' : Int))] 3)).wr hwr (by decide))
  have K1_2 := Lib.hid ((K1_1.out.alloc (.cells #[.int .i64 ((m : Int)), .int .i64 ((m' : Int))] 3)).wr hwr (by decide))
  clear ho hwr hnb hO HA O1 WR1 K0_1 K1_1
  have f0_2 : w2.cell? ⟨w.heap.size, 2, none⟩ = some (.slice A m c) := K0_2.out.cell 2
  go_wp2_with fail
  clear f0_2
  have HXL : Hid (((([] ++ numsB 4 [(cum : Int), (rwnd : Int)]) ++ numsB 2 [(m : Int), (m' : Int)]) ++ gapsB (gaps.take 0)) = (([] ++ numsB 4 [(cum : Int), (rwnd : Int)]) ++ numsB 2 [(m : Int), (m' : Int)])) := Lib.hid (by simp [gapsB_nil])
  have hws : w.heap.size ≤ w2.heap.size := WR2.out.size
  go_loopw [3, 24] (fun b i wr => ∃ (k n1 c1 : Nat) (A1 : Option Addr), k ≤ m ∧ i = .int .i64 k ∧ b = .slice A1 n1 c1 ∧ Hid (n1 = 12 + 4 * k) ∧ Own8 wr 5 w.heap.size A1 n1 c1 ((([] ++ numsB 4 [(cum : Int), (rwnd : Int)]) ++ numsB 2 [(m : Int), (m' : Int)]) ++ gapsB (gaps.take k)) ∧ Wr 5 w.heap.size w wr ∧ Blk wr (w.heap.size) 52 #[.int .u32 cum, .int .u32 rwnd, .slice A m c, .slice A' m' c'] ∧ Blk wr (w.heap.size + 1) 28 #[.int .u8 0, .int .u8 0, .slice none 0 0]) (fun _ i _ => m - (intOf i).toNat)
  case atStart => exact ⟨0, _, _, _, Nat.zero_le _, rfl, rfl, Lib.hid rfl, by rw [HXL.out]; exact O2.out, WR2.out, K0_2.out, K1_2.out⟩
  case round =>
    clear hws HXL O2 WR2 K0_2 K1_2
    obtain ⟨k, n1, c1, A1, hkm, rfl, rfl, HN1, ho, hwr, hk0, hk1⟩ := hrel
    have hws : w.heap.size ≤ wr.heap.size := hwr.size
    by_cases hlt : k < m
    · have hrg := HRG.out.wr hwr (Nat.le_refl _) (Nat.le_refl _)
      obtain ⟨gb, go, hAe, _, hgl, hcx⟩ := hrg.at_ (by intro e; have := HLG.out; rw [e] at this; simp at this; omega)
      subst hAe
      have hkl : k < gaps.length := by rw [HLG.out]; exact hlt
      obtain ⟨pa, hpa⟩ : ∃ pa, pa = gaps[k].1 := ⟨_, rfl⟩
      obtain ⟨pb, hpb⟩ : ∃ pb, pb = gaps[k].2 := ⟨_, rfl⟩
      have hc0 := (hcx k hkl).1
      have hc1 := (hcx k hkl).2
      rw [← hpa] at hc0
      rw [← hpb] at hc1
      have hpab := HBG.out _ (List.getElem_mem hkl)
      rw [← hpa, ← hpb] at hpab
      have HT : Hid ((([] ++ numsB 4 [(cum : Int), (rwnd : Int)]) ++ numsB 2 [(m : Int), (m' : Int)]) ++ gapsB (gaps.take (k + 1)) = (([] ++ numsB 4 [(cum : Int), (rwnd : Int)]) ++ numsB 2 [(m : Int), (m' : Int)]) ++ gapsB (gaps.take k) ++ numsB 2 [(pa : Int), (pb : Int)]) := Lib.hid (by rw [gapsB_take gaps k hkl, ← hpa, ← hpb, numsB2 2 pa pb (by omega) (by omega)]; simp)
      have hpa1 := hpab.1
      have hpb1 := hpab.2
      clear hpa hpb hcx hrg hpab
      have hz := zero_gap
      have hb1 := hwr.below_ (Nat.le_refl _)
      have S1 := Blk.new wr 79 #[.int .u16 (pa : Int), .int .u16 (pb : Int)]
      have O1 := Lib.hid (ho.alloc (.cells #[.int .u16 (pa : Int), .int .u16 (pb : Int)] 79))
      have W1 := Lib.hid (hwr.alloc (.cells #[.int .u16 (pa : Int), .int .u16 (pb : Int)] 79))
      have R0 := Lib.hid (hk0.alloc (.cells #[.int .u16 (pa : Int), .int .u16 (pb : Int)] 79))
      have R1 := Lib.hid (hk1.alloc (.cells #[.int .u16 (pa : Int), .int .u16 (pb : Int)] 79))
      have HS1 := Lib.hid S1
      clear ho hwr hb1 S1 hk0 hk1
      go_wp2_with fail
      have HSZ1 : Hid ((wr.alloc (.cells #[.int .u16 (pa : Int), .int .u16 (pb : Int)] 79)).heap.size = wr.heap.size + 1) := Lib.hid (by simp)
      generalize wr.alloc (.cells #[.int .u16 (pa : Int), .int .u16 (pb : Int)] 79) = w1 at HSZ1 HS1 O1 W1 R0 R1 ⊢
      have hnb := Blk.new w1 23 #[.int .u16 (pa : Int), .int .u16 (pb : Int)]
      rw [HSZ1.out] at hnb
      have hO := O1.out.alloc (.cells #[.int .u16 (pa : Int), .int .u16 (pb : Int)] 23)
      have hn1 : n1 ≤ 12 + 4 * 1099511627776 := by have := HN1.out; omega
      have HA := Lib.hid (add_u16 2 w.heap.size (by unfold IsSize; omega) A1 n1 c1 ((([] ++ numsB 4 [(cum : Int), (rwnd : Int)]) ++ numsB 2 [(m : Int), (m' : Int)]) ++ gapsB (gaps.take k)) (some ⟨wr.heap.size + 1, 0, none⟩) 2 2 [(pa : Int), (pb : Int)] (w1.alloc (.cells #[.int .u16 (pa : Int), .int .u16 (pb : Int)] 23)) hO (Nat.le_trans W1.out.size (by simp)) rfl (fun W hW => (Ri.of_blk [(pa : Int), (pb : Int)] (hnb.wr hW (by decide)) rfl)) (by intro x hx; simp at hx; rcases hx with rfl | rfl <;> omega) (by omega))
      refine HA.out.mono ?_
      rintro e w3 ⟨A3, c3, rfl, ho, hwr⟩
      have W3 := Lib.hid ((W1.out.alloc (.cells #[.int .u16 (pa : Int), .int .u16 (pb : Int)] 23)).trans hwr)
      have Q0 := Lib.hid ((R0.out.alloc (.cells #[.int .u16 (pa : Int), .int .u16 (pb : Int)] 23)).wr hwr (by decide))
      have Q1 := Lib.hid ((R1.out.alloc (.cells #[.int .u16 (pa : Int), .int .u16 (pb : Int)] 23)).wr hwr (by decide))
      have O3 := Lib.hid ho
      clear ho hwr hnb hO HA O1 W1 R0 R1
      go_wp2_with fail
      go_roundw
      case rel => exact ⟨k + 1, n1 + 4, c3, A3, by omega, by go_num, rfl, Lib.hid (by have := HN1.out; omega), by rw [HT.out]; exact O3.out, W3.out, Q0.out, Q1.out⟩
      case measure => simp [intOf]; omega
    · obtain rfl : k = m := by omega
      have ht : gaps.take k = gaps := List.take_of_length_le (by rw [HLG.out]; exact Nat.le_refl _)
      rw [ht] at ho
      have hn1 : n1 = 12 + 4 * k := HN1.out
      subst hn1
      clear ht HN1 HRG HLG HBG hlt hkm
      have O1 := Lib.hid ho
      have K1 := Lib.hid hk1
      have W1 := Lib.hid hwr
      have f3 : wr.cell? ⟨w.heap.size, 3, none⟩ = some (.slice A' m' c') := hk0.cell 3
      have HA := Lib.hid (add_u32 4 w.heap.size (by unfold IsSize; omega) A1 (12 + 4 * k) c1 ((([] ++ numsB 4 [(cum : Int), (rwnd : Int)]) ++ numsB 2 [(k : Int), (m' : Int)]) ++ gapsB gaps) A' m' c' (ints dups) wr ho hws (by rw [length_ints]; exact HLD.out) (fun W hW => (HRD.out.wr (hwr.trans hW) (Nat.le_refl _) (Nat.le_refl _)).more (Nat.le_trans hws hW.size)) HBD.out (by omega))
      clear ho hk1 hk0 hwr
      go_wp2_with fail
      refine HA.out.mono ?_
      rintro e w3 ⟨A3, c3, rfl, ho, hwr⟩
      have K3 := Lib.hid (K1.out.wr hwr (by decide))
      have W3 := Lib.hid (W1.out.trans hwr)
      have O3 := Lib.hid ho
      have y0 := K3.out.cell 0
      have q0 := K3.out.frozen 0
      have y1 := K3.out.cell 1
      have q1 := K3.out.frozen 1
      have y2 := K3.out.cell 2
      have q2 := K3.out.frozen 2
      clear ho hwr O1 K1 W1 HA f3
      go_wp2_with fail
      have H3 := out3 O3.out K3.out (by decide) (.int .u8 3) (.int .u8 0) (.slice A3 (12 + 4 * k + 4 * m' : Nat) c3)
      exact bodyPost_ret (v := .agg #[.int .u8 3, .int .u8 0, .slice A3 (12 + 4 * k + 4 * m' : Nat) c3]) (by simp [results, Try.results29, go_sem, H3.2.cell]) rfl ⟨A3, _, c3, rfl, H3.1, below3 (W3.out.below_ (Nat.le_refl _)) (by omega) _ _ _⟩
end Go.Proofs.Ytalgkokgaibloaa
