/-
  Package bodies: PutData, PutInit, PutTime, PutCum.
-/
import Derived.Test.YtalgkokgaibloaaBodP
namespace Go.Proofs.Ytalgkokgaibloaa
open Go.RowKit
set_option linter.unusedVariables false

theorem nb (v a : Nat) (s : Nat) (vs : List Int) (h : v < 18446744073709551616) (ha : (v : Int) = a) : True := trivial
theorem kind_ne {k : UInt8} {m : Nat} (hk : k ≠ UInt8.ofNat m) (hm : m < 256 := by decide) : ((k.toNat : Int) == (m : Int)) = false := by
  rw [beq_eq_false_iff_ne]
  intro h
  exact hk (UInt8.toNat_inj.1 (by rw [UInt8.toNat_ofNat']; omega))
theorem numsB1 (s a : Nat) (ha : a < 18446744073709551616) : numsB s [(a : Int)] = enc a s := by simp [numsB, toNat_small a ha]
theorem numsB2 (s a b : Nat) (ha : a < 18446744073709551616) (hb : b < 18446744073709551616) : numsB s [(a : Int), (b : Int)] = enc a s ++ enc b s := by simp [numsB, toNat_small a ha, toNat_small b hb]
theorem puts_of {f : FuncId} {args : Array Value} {k fl : UInt8} {ys : List UInt8} {w : World} (h : Calls Try.prog f args w fun e w' => ∃ A n c, e = .returned (.agg #[.int .u8 (k.toNat : Int), .int .u8 (fl.toNat : Int), .slice A n c]) ∧ Own8 w' 5 w.heap.size A n c ys ∧ Below w.heap.size w w') : Puts f args k fl ys w :=
  h.mono fun e w' ⟨A, n, c, he, ho, hb⟩ => by
    have hl := ho.len
    subst hl
    exact ⟨A, c, he, ho, hb⟩
/-- Cells of a struct's block are no bytes: a store into them leaves a row of bytes. -/
theorem Own8.setBlk {w : World} {t t' base : Nat} {A : Option Addr} {n c g : Nat} {xs : List UInt8} {cs : Array Value} (h : Own8 w t base A n c xs) (hb : Blk w g t' cs) (ht : t ≠ t') (i : Nat) (u : Value) : Own8 (w.setCell ⟨g, i, none⟩ u) t base A n c xs :=
  h.keep fun q hq => Below.heap_setCell w ⟨g, i, none⟩ u q (h.ne_blk hb ht q hq)
/-- The three cells of an answer. -/
theorem out3 {w : World} {t base : Nat} {A : Option Addr} {n c g : Nat} {xs : List UInt8} {cs : Array Value} {t' : TypeId} (h : Own8 w t base A n c xs) (hb : Blk w g t' cs) (ht : t ≠ t') (a b d : Value) :
    Own8 (((w.setCell ⟨g, 0, none⟩ a).setCell ⟨g, 1, none⟩ b).setCell ⟨g, 2, none⟩ d) t base A n c xs ∧ Blk (((w.setCell ⟨g, 0, none⟩ a).setCell ⟨g, 1, none⟩ b).setCell ⟨g, 2, none⟩ d) g t' (((cs.setIfInBounds 0 a).setIfInBounds 1 b).setIfInBounds 2 d) :=
  ⟨(((h.setBlk hb ht 0 a).setBlk (hb.set_ 0 a) ht 1 b).setBlk ((hb.set_ 0 a).set_ 1 b) ht 2 d), (((hb.set_ 0 a).set_ 1 b).set_ 2 d)⟩
theorem below3 {B : Nat} {w0 w : World} {g : Nat} (h : Below B w0 w) (hg : B ≤ g) (a b d : Value) : Below B w0 (((w.setCell ⟨g, 0, none⟩ a).setCell ⟨g, 1, none⟩ b).setCell ⟨g, 2, none⟩ d) :=
  ((h.setCell (p := ⟨g, 0, none⟩) hg a).setCell (p := ⟨g, 1, none⟩) hg b).setCell (p := ⟨g, 2, none⟩) hg d

set_option maxRecDepth 100000 in
set_option maxHeartbeats 2000000 in
theorem putData_any (tsn stream ssn : Nat) (un fi la : Bool) (bytes : List UInt8) (h1 : tsn < 4294967296) (h2 : stream < 65536) (h3 : ssn < 65536) (A : Option Addr) (n c : Nat) (w : World) (hn : n ≤ 140737488355200) (hx : bytes.length = n) (hr : Rd w w.heap.size A bytes) :
    Puts 15 #[.agg #[.int .u32 tsn, .int .u16 stream, .int .u16 ssn, .bool un, .bool fi, .bool la, .slice A n c]] 0 (flagsD un fi la) (bodyD ⟨tsn, stream, ssn, un, fi, la, bytes⟩) w := by
  refine puts_of ?_
  obtain ⟨i8, h8⟩ := Try.ty8
  have hz := zero_chunk
  have HY : Hid (bodyD ⟨tsn, stream, ssn, un, fi, la, bytes⟩ = [] ++ numsB 4 [(tsn : Int)] ++ numsB 2 [(stream : Int), (ssn : Int)] ++ numsB 4 [(0 : Int)] ++ bytes) := Lib.hid (by rw [numsB1 4 tsn (by omega), numsB2 2 stream ssn (by omega) (by omega), show (0 : Int) = ((0 : Nat) : Int) from rfl, numsB1 4 0 (by omega)]; simp [bodyD])
  rw [HY.out]
  have HX := Lib.hid hx
  clear hx
  have HFL : Hid (∀ W : World, Calls Try.prog 51 #[.agg #[.int .u32 tsn, .int .u16 stream, .int .u16 ssn, .bool un, .bool fi, .bool la, .slice A n c]] W fun e w' => e = .returned (.int .u8 ((flagsD un fi la).toNat : Int)) ∧ Below W.heap.size W w') := Lib.hid fun W => flagsOf_any tsn stream ssn un fi la A n c W
  obtain ⟨fl, hfl⟩ : ∃ fl, fl = flagsD un fi la := ⟨_, rfl⟩
  rw [← hfl] at HFL ⊢
  clear hfl
  have b0 : Blk (w.alloc (.cells #[.int .u32 tsn, .int .u16 stream, .int .u16 ssn, .bool un, .bool fi, .bool la, .slice A n c] 26)) w.heap.size 26 #[.int .u32 tsn, .int .u16 stream, .int .u16 ssn, .bool un, .bool fi, .bool la, .slice A n c] := Blk.new w 26 #[.int .u32 tsn, .int .u16 stream, .int .u16 ssn, .bool un, .bool fi, .bool la, .slice A n c]
  have b1 : Blk ((w.alloc (.cells #[.int .u32 tsn, .int .u16 stream, .int .u16 ssn, .bool un, .bool fi, .bool la, .slice A n c] 26)).alloc (.cells #[.int .u8 0, .int .u8 0, .slice none 0 0] 28)) (w.heap.size + 1) 28 #[.int .u8 0, .int .u8 0, .slice none 0 0] := by simpa using Blk.new (w.alloc (.cells #[.int .u32 tsn, .int .u16 stream, .int .u16 ssn, .bool un, .bool fi, .bool la, .slice A n c] 26)) 28 #[.int .u8 0, .int .u8 0, .slice none 0 0]
  have K0_0 := Lib.hid (b0.alloc (.cells #[.int .u8 0, .int .u8 0, .slice none 0 0] 28))
  have K1_0 := Lib.hid b1
  have WR0 := Lib.hid (((Wr.refl 5 w.heap.size w).alloc (.cells #[.int .u32 tsn, .int .u16 stream, .int .u16 ssn, .bool un, .bool fi, .bool la, .slice A n c] 26)).alloc (.cells #[.int .u8 0, .int .u8 0, .slice none 0 0] 28))
  have O0 := Lib.hid (Own8.nil ((w.alloc (.cells #[.int .u32 tsn, .int .u16 stream, .int .u16 ssn, .bool un, .bool fi, .bool la, .slice A n c] 26)).alloc (.cells #[.int .u8 0, .int .u8 0, .slice none 0 0] 28)) 5 w.heap.size)
  have HRD := Lib.hid hr
  clear hr
  clear b0 b1
  go_enter Try.func15, Try.ntmps15
  go_wp2_with fail
  have HSZ0 : Hid (((w.alloc (.cells #[.int .u32 tsn, .int .u16 stream, .int .u16 ssn, .bool un, .bool fi, .bool la, .slice A n c] 26)).alloc (.cells #[.int .u8 0, .int .u8 0, .slice none 0 0] 28)).heap.size = w.heap.size + 1 + 1) := Lib.hid (by simp)
  generalize ((w.alloc (.cells #[.int .u32 tsn, .int .u16 stream, .int .u16 ssn, .bool un, .bool fi, .bool la, .slice A n c] 26)).alloc (.cells #[.int .u8 0, .int .u8 0, .slice none 0 0] 28)) = w0 at HSZ0 K0_0 K1_0 WR0 O0 ⊢
  have hnb := Blk.new w0 22 #[.int .u32 ((tsn : Int))]
  rw [HSZ0.out] at hnb
  have hO := O0.out.alloc (.cells #[.int .u32 ((tsn : Int))] 22)
  have HA := Lib.hid (add_u32 4 w.heap.size (by unfold IsSize; omega) none 0 0 [] (some ⟨w.heap.size + 1 + 1, 0, none⟩) 1 1 [(tsn : Int)] (w0.alloc (.cells #[.int .u32 ((tsn : Int))] 22)) hO (Nat.le_trans WR0.out.size (by simp)) rfl (fun W hW => (Ri.of_blk [(tsn : Int)] (hnb.wr hW (by decide)) rfl)) (by intro x hx; simp at hx; rcases hx with rfl <;> omega) (by omega))
  refine HA.out.mono ?_
  rintro e w1 ⟨A1, c1, rfl, ho, hwr⟩
  have O1 : Hid (Own8 w1 5 w.heap.size A1 4 c1 ([] ++ numsB 4 [(tsn : Int)])) := Lib.hid ho
  have WR1 := Lib.hid ((WR0.out.alloc (.cells #[.int .u32 ((tsn : Int))] 22)).trans hwr)
  have K0_1 := Lib.hid ((K0_0.out.alloc (.cells #[.int .u32 ((tsn : Int))] 22)).wr hwr (by decide))
  have K1_1 := Lib.hid ((K1_0.out.alloc (.cells #[.int .u32 ((tsn : Int))] 22)).wr hwr (by decide))
  clear ho hwr hnb hO HA O0 WR0 K0_0 K1_0
  have f0_1 : w1.cell? ⟨w.heap.size, 1, none⟩ = some (.int .u16 stream) := K0_1.out.cell 1
  have f0_2 : w1.cell? ⟨w.heap.size, 2, none⟩ = some (.int .u16 ssn) := K0_1.out.cell 2
  go_wp2_with fail
  clear f0_1 f0_2
  have hnb := Blk.new w1 23 #[.int .u16 ((stream : Int)), .int .u16 ((ssn : Int))]
  have hO := O1.out.alloc (.cells #[.int .u16 ((stream : Int)), .int .u16 ((ssn : Int))] 23)
  have HA := Lib.hid (add_u16 2 w.heap.size (by unfold IsSize; omega) A1 4 c1 ([] ++ numsB 4 [(tsn : Int)]) (some ⟨w1.heap.size, 0, none⟩) 2 2 [(stream : Int), (ssn : Int)] (w1.alloc (.cells #[.int .u16 ((stream : Int)), .int .u16 ((ssn : Int))] 23)) hO (Nat.le_trans WR1.out.size (by simp)) rfl (fun W hW => (Ri.of_blk [(stream : Int), (ssn : Int)] (hnb.wr hW (by decide)) rfl)) (by intro x hx; simp at hx; rcases hx with rfl | rfl <;> omega) (by omega))
  refine HA.out.mono ?_
  rintro e w2 ⟨A2, c2, rfl, ho, hwr⟩
  have O2 : Hid (Own8 w2 5 w.heap.size A2 8 c2 (([] ++ numsB 4 [(tsn : Int)]) ++ numsB 2 [(stream : Int), (ssn : Int)])) := Lib.hid ho
  have WR2 := Lib.hid ((WR1.out.alloc (.cells #[.int .u16 ((stream : Int)), .int .u16 ((ssn : Int))] 23)).trans hwr)
  have K0_2 := Lib.hid ((K0_1.out.alloc (.cells #[.int .u16 ((stream : Int)), .int .u16 ((ssn : Int))] 23)).wr hwr (by decide))
  have K1_2 := Lib.hid ((K1_1.out.alloc (.cells #[.int .u16 ((stream : Int)), .int .u16 ((ssn : Int))] 23)).wr hwr (by decide))
  clear ho hwr hnb hO HA O1 WR1 K0_1 K1_1
  go_wp2_with fail
  have hnb := Blk.new w2 3 #[.int .i64 ((0 : Int))]
  have hO := O2.out.alloc (.cells #[.int .i64 ((0 : Int))] 3)
  have HA := Lib.hid (add_int 4 w.heap.size (by unfold IsSize; omega) A2 8 c2 (([] ++ numsB 4 [(tsn : Int)]) ++ numsB 2 [(stream : Int), (ssn : Int)]) (some ⟨w2.heap.size, 0, none⟩) 1 1 [(0 : Int)] (w2.alloc (.cells #[.int .i64 ((0 : Int))] 3)) hO (Nat.le_trans WR2.out.size (by simp)) rfl (fun W hW => (Ri.of_blk [(0 : Int)] (hnb.wr hW (by decide)) rfl)) (by intro x hx; simp at hx; rcases hx with rfl <;> omega) (by omega))
  refine HA.out.mono ?_
  rintro e w3 ⟨A3, c3, rfl, ho, hwr⟩
  have O3 : Hid (Own8 w3 5 w.heap.size A3 12 c3 ((([] ++ numsB 4 [(tsn : Int)]) ++ numsB 2 [(stream : Int), (ssn : Int)]) ++ numsB 4 [(0 : Int)])) := Lib.hid ho
  have WR3 := Lib.hid ((WR2.out.alloc (.cells #[.int .i64 ((0 : Int))] 3)).trans hwr)
  have K0_3 := Lib.hid ((K0_2.out.alloc (.cells #[.int .i64 ((0 : Int))] 3)).wr hwr (by decide))
  have K1_3 := Lib.hid ((K1_2.out.alloc (.cells #[.int .i64 ((0 : Int))] 3)).wr hwr (by decide))
  clear ho hwr hnb hO HA O2 WR2 K0_2 K1_2
  go_wp2_with fail
  refine wp_region_grow_tail 5 (by kernel_rfl) [(Is (.agg #[.int .u32 tsn, .int .u16 stream, .int .u16 ssn, .bool un, .bool fi, .bool la, .slice A n c])), (Is (.int .u8 (fl.toNat : Int))), (Is (.slice A3 12 c3)), (Is (.pointer (some ⟨w.heap.size, 6, none⟩))), (Is (.slice A n c))] rfl ?_ (by kernel_rfl) (by kernel_rfl) ?_ ?_
  · intro p hp
    simp only [List.mem_cons, List.not_mem_nil, or_false] at hp
    rcases hp with rfl | rfl | rfl | rfl | rfl
    · exact Lasts.is _
    · exact Lasts.is _
    · exact Lasts.is _
    · exact Lasts.is _
    · exact Lasts.is _
  · refine ⟨?_, ?_, ?_, ?_, ?_, trivial⟩
    · intro listed a w1 hl hc
      have h1 : a.tmps[1]?.getD undef = .pointer (some ⟨w.heap.size, 0, none⟩) := (hc.was 1 (by kernel_rfl)).trans rfl
      have kb := K0_3.out.below hc.g K0_3.out.lt
      have x0 : w1.cell? ⟨w.heap.size, 0, none⟩ = some (.int .u32 tsn) := kb.cell 0
      have x1 : w1.cell? ⟨w.heap.size, 1, none⟩ = some (.int .u16 stream) := kb.cell 1
      have x2 : w1.cell? ⟨w.heap.size, 2, none⟩ = some (.int .u16 ssn) := kb.cell 2
      have x3 : w1.cell? ⟨w.heap.size, 3, none⟩ = some (.bool un) := kb.cell 3
      have x4 : w1.cell? ⟨w.heap.size, 4, none⟩ = some (.bool fi) := kb.cell 4
      have x5 : w1.cell? ⟨w.heap.size, 5, none⟩ = some (.bool la) := kb.cell 5
      have x6 : w1.cell? ⟨w.heap.size, 6, none⟩ = some (.slice A n c) := kb.cell 6
      clear kb
      refine does_value rfl rfl (.agg #[.int .u32 tsn, .int .u16 stream, .int .u16 ssn, .bool un, .bool fi, .bool la, .slice A n c]) w1 ?_ (Below.refl _ _) rfl
      clear hc hl
      go_simp
    · intro listed a w1 hl hc
      have h18 : a.tmps[18]?.getD undef = .agg #[.int .u32 tsn, .int .u16 stream, .int .u16 ssn, .bool un, .bool fi, .bool la, .slice A n c] := hc.dep hl 0 18 rfl (by kernel_rfl)
      refine does_call rfl rfl 51 #[.agg #[.int .u32 tsn, .int .u16 stream, .int .u16 ssn, .bool un, .bool fi, .bool la, .slice A n c]] ?_ ((HFL.out w1).mono fun e w' ⟨he, hb⟩ => ⟨_, he, hb, rfl⟩)
      clear hc hl
      go_simp
    · intro listed a w1 hl hc
      have h3 : a.tmps[3]?.getD undef = .slice A3 12 c3 := (hc.was 3 (by kernel_rfl)).trans rfl
      refine does_value rfl rfl (.slice A3 12 c3) w1 ?_ (Below.refl _ _) rfl
      clear hc hl
      go_simp
    · intro listed a w1 hl hc
      have h1 : a.tmps[1]?.getD undef = .pointer (some ⟨w.heap.size, 0, none⟩) := (hc.was 1 (by kernel_rfl)).trans rfl
      refine does_value rfl rfl (.pointer (some ⟨w.heap.size, 6, none⟩)) w1 ?_ (Below.refl _ _) rfl
      clear hc hl
      go_simp
    · intro listed a w1 hl hc
      have h21 : a.tmps[21]?.getD undef = .pointer (some ⟨w.heap.size, 6, none⟩) := hc.dep hl 3 21 rfl (by kernel_rfl)
      have kb := K0_3.out.below hc.g K0_3.out.lt
      have x6 : w1.cell? ⟨w.heap.size, 6, none⟩ = some (.slice A n c) := kb.cell 6
      clear kb
      refine does_value rfl rfl (.slice A n c) w1 ?_ (Below.refl _ _) rfl
      clear hc hl
      go_simp
  intro w2 hb2
  rintro _ rfl _ rfl _ rfl _ rfl _ rfl
  simp only [Thus, List.reverse_cons, List.reverse_nil, List.nil_append, List.cons_append, List.drop, List.take, lay]
  go_frame
  have WR4 := Lib.hid (WR3.out.then_ hb2)
  have O4 := Lib.hid (O3.out.below hb2 (Nat.le_refl _))
  have K1_4 := Lib.hid (K1_3.out.below hb2 K1_3.out.lt)
  have hsz : w.heap.size ≤ w2.heap.size := WR4.out.size
  have hrd := HRD.out.wr WR4.out (Nat.le_refl _) (Nat.le_refl _)
  clear hb2 WR3 O3 K0_3 K1_3 HFL
  go_wp2_with (at_builtin; refine wpList_append8 h8 _ rfl _ _ rfl w.heap.size _ _ _ _ rfl O4.out _ _ _ _ _ rfl HX.out hrd (by omega) hsz ?_; intro A9 c9 w9 ho9 hg9 hh9; have K9 := Lib.hid (K1_4.out.wr (Wr.of_grown O4.out hg9) (by decide)); have WR9 := Lib.hid (WR4.out.trans (Wr.of_grown O4.out hg9)); have O9 := Lib.hid ho9; have y0 := K9.out.cell 0; have y1 := K9.out.cell 1; have y2 := K9.out.cell 2; have q0 := K9.out.frozen 0; have q1 := K9.out.frozen 1; have q2 := K9.out.frozen 2; clear ho9 hg9 hh9)
  have H3 := out3 O9.out K9.out (by decide) (.int .u8 0) (.int .u8 (fl.toNat : Int)) (.slice A9 (12 + n : Nat) c9)
  exact bodyPost_ret (v := .agg #[.int .u8 0, .int .u8 (fl.toNat : Int), .slice A9 (12 + n : Nat) c9]) (by simp [results, Try.results15, go_sem, H3.2.cell]) rfl ⟨A9, _, c9, rfl, H3.1, below3 (WR9.out.below_ (Nat.le_refl _)) (by omega) _ _ _⟩
set_option maxRecDepth 100000 in
set_option maxHeartbeats 2000000 in
theorem putInit_no (k : UInt8) (hk : k ≠ 2) (tag rwnd out in_ tsn : Nat) (cookie : List UInt8) (h1 : tag < 4294967296) (h2 : rwnd < 4294967296) (h3 : out < 65536) (h4 : in_ < 65536) (h5 : tsn < 4294967296) (A : Option Addr) (n c : Nat) (w : World) (hn : n ≤ 140737488355200) (hx : cookie.length = n) (hr : Rd w w.heap.size A cookie) :
    Puts 23 #[.int .u8 (k.toNat : Int), .agg #[.int .u32 tag, .int .u32 rwnd, .int .u16 out, .int .u16 in_, .int .u32 tsn, .slice A n c]] k 0 (bodyI k ⟨tag, rwnd, out, in_, tsn, cookie⟩) w := by
  refine puts_of ?_
  obtain ⟨i8, h8⟩ := Try.ty8
  have hz := zero_chunk
  have HY : Hid (bodyI k ⟨tag, rwnd, out, in_, tsn, cookie⟩ = numsB 4 [(tag : Int), (rwnd : Int)] ++ numsB 2 [(out : Int), (in_ : Int)] ++ numsB 4 [(tsn : Int)]) := Lib.hid (by rw [numsB2 4 tag rwnd (by omega) (by omega), numsB2 2 out in_ (by omega) (by omega), numsB1 4 tsn (by omega)]; simp [bodyI, headI, hk])
  have hkb : ((k.toNat : Int) == 2) = false := kind_ne (m := 2) hk
  clear hk
  rw [HY.out]
  have HX := Lib.hid hx
  clear hx
  have b0 : Blk (w.alloc (.cells #[.int .u32 tag, .int .u32 rwnd, .int .u16 out, .int .u16 in_, .int .u32 tsn, .slice A n c] 43)) w.heap.size 43 #[.int .u32 tag, .int .u32 rwnd, .int .u16 out, .int .u16 in_, .int .u32 tsn, .slice A n c] := Blk.new w 43 #[.int .u32 tag, .int .u32 rwnd, .int .u16 out, .int .u16 in_, .int .u32 tsn, .slice A n c]
  have b1 : Blk ((w.alloc (.cells #[.int .u32 tag, .int .u32 rwnd, .int .u16 out, .int .u16 in_, .int .u32 tsn, .slice A n c] 43)).alloc (.cells #[.int .u8 0, .int .u8 0, .slice none 0 0] 28)) (w.heap.size + 1) 28 #[.int .u8 0, .int .u8 0, .slice none 0 0] := by simpa using Blk.new (w.alloc (.cells #[.int .u32 tag, .int .u32 rwnd, .int .u16 out, .int .u16 in_, .int .u32 tsn, .slice A n c] 43)) 28 #[.int .u8 0, .int .u8 0, .slice none 0 0]
  have K0_0 := Lib.hid (b0.alloc (.cells #[.int .u8 0, .int .u8 0, .slice none 0 0] 28))
  have K1_0 := Lib.hid b1
  have WR0 := Lib.hid (((Wr.refl 5 w.heap.size w).alloc (.cells #[.int .u32 tag, .int .u32 rwnd, .int .u16 out, .int .u16 in_, .int .u32 tsn, .slice A n c] 43)).alloc (.cells #[.int .u8 0, .int .u8 0, .slice none 0 0] 28))
  have O0 := Lib.hid (Own8.nil ((w.alloc (.cells #[.int .u32 tag, .int .u32 rwnd, .int .u16 out, .int .u16 in_, .int .u32 tsn, .slice A n c] 43)).alloc (.cells #[.int .u8 0, .int .u8 0, .slice none 0 0] 28)) 5 w.heap.size)
  have HRD := Lib.hid hr
  clear hr
  clear b0 b1
  go_enter Try.func23, Try.ntmps23
  go_wp2_with fail
  have HSZ0 : Hid (((w.alloc (.cells #[.int .u32 tag, .int .u32 rwnd, .int .u16 out, .int .u16 in_, .int .u32 tsn, .slice A n c] 43)).alloc (.cells #[.int .u8 0, .int .u8 0, .slice none 0 0] 28)).heap.size = w.heap.size + 1 + 1) := Lib.hid (by simp)
  generalize ((w.alloc (.cells #[.int .u32 tag, .int .u32 rwnd, .int .u16 out, .int .u16 in_, .int .u32 tsn, .slice A n c] 43)).alloc (.cells #[.int .u8 0, .int .u8 0, .slice none 0 0] 28)) = w0 at HSZ0 K0_0 K1_0 WR0 O0 ⊢
  have hnb := Blk.new w0 22 #[.int .u32 ((tag : Int)), .int .u32 ((rwnd : Int))]
  rw [HSZ0.out] at hnb
  have hO := O0.out.alloc (.cells #[.int .u32 ((tag : Int)), .int .u32 ((rwnd : Int))] 22)
  have HA := Lib.hid (add_u32 4 w.heap.size (by unfold IsSize; omega) none 0 0 [] (some ⟨w.heap.size + 1 + 1, 0, none⟩) 2 2 [(tag : Int), (rwnd : Int)] (w0.alloc (.cells #[.int .u32 ((tag : Int)), .int .u32 ((rwnd : Int))] 22)) hO (Nat.le_trans WR0.out.size (by simp)) rfl (fun W hW => (Ri.of_blk [(tag : Int), (rwnd : Int)] (hnb.wr hW (by decide)) rfl)) (by intro x hx; simp at hx; rcases hx with rfl | rfl <;> omega) (by omega))
  refine HA.out.mono ?_
  rintro e w1 ⟨A1, c1, rfl, ho, hwr⟩
  have O1 : Hid (Own8 w1 5 w.heap.size A1 8 c1 ([] ++ numsB 4 [(tag : Int), (rwnd : Int)])) := Lib.hid ho
  have WR1 := Lib.hid ((WR0.out.alloc (.cells #[.int .u32 ((tag : Int)), .int .u32 ((rwnd : Int))] 22)).trans hwr)
  have K0_1 := Lib.hid ((K0_0.out.alloc (.cells #[.int .u32 ((tag : Int)), .int .u32 ((rwnd : Int))] 22)).wr hwr (by decide))
  have K1_1 := Lib.hid ((K1_0.out.alloc (.cells #[.int .u32 ((tag : Int)), .int .u32 ((rwnd : Int))] 22)).wr hwr (by decide))
  clear ho hwr hnb hO HA O0 WR0 K0_0 K1_0
  have f0_2 : w1.cell? ⟨w.heap.size, 2, none⟩ = some (.int .u16 out) := K0_1.out.cell 2
  have f0_3 : w1.cell? ⟨w.heap.size, 3, none⟩ = some (.int .u16 in_) := K0_1.out.cell 3
  go_wp2_with fail
  clear f0_2 f0_3
  have hnb := Blk.new w1 23 #[.int .u16 ((out : Int)), .int .u16 ((in_ : Int))]
  have hO := O1.out.alloc (.cells #[.int .u16 ((out : Int)), .int .u16 ((in_ : Int))] 23)
  have HA := Lib.hid (add_u16 2 w.heap.size (by unfold IsSize; omega) A1 8 c1 ([] ++ numsB 4 [(tag : Int), (rwnd : Int)]) (some ⟨w1.heap.size, 0, none⟩) 2 2 [(out : Int), (in_ : Int)] (w1.alloc (.cells #[.int .u16 ((out : Int)), .int .u16 ((in_ : Int))] 23)) hO (Nat.le_trans WR1.out.size (by simp)) rfl (fun W hW => (Ri.of_blk [(out : Int), (in_ : Int)] (hnb.wr hW (by decide)) rfl)) (by intro x hx; simp at hx; rcases hx with rfl | rfl <;> omega) (by omega))
  refine HA.out.mono ?_
  rintro e w2 ⟨A2, c2, rfl, ho, hwr⟩
  have O2 : Hid (Own8 w2 5 w.heap.size A2 12 c2 (([] ++ numsB 4 [(tag : Int), (rwnd : Int)]) ++ numsB 2 [(out : Int), (in_ : Int)])) := Lib.hid ho
  have WR2 := Lib.hid ((WR1.out.alloc (.cells #[.int .u16 ((out : Int)), .int .u16 ((in_ : Int))] 23)).trans hwr)
  have K0_2 := Lib.hid ((K0_1.out.alloc (.cells #[.int .u16 ((out : Int)), .int .u16 ((in_ : Int))] 23)).wr hwr (by decide))
  have K1_2 := Lib.hid ((K1_1.out.alloc (.cells #[.int .u16 ((out : Int)), .int .u16 ((in_ : Int))] 23)).wr hwr (by decide))
  clear ho hwr hnb hO HA O1 WR1 K0_1 K1_1
  have f0_4 : w2.cell? ⟨w.heap.size, 4, none⟩ = some (.int .u32 tsn) := K0_2.out.cell 4
  go_wp2_with fail
  clear f0_4
  have hnb := Blk.new w2 22 #[.int .u32 ((tsn : Int))]
  have hO := O2.out.alloc (.cells #[.int .u32 ((tsn : Int))] 22)
  have HA := Lib.hid (add_u32 4 w.heap.size (by unfold IsSize; omega) A2 12 c2 (([] ++ numsB 4 [(tag : Int), (rwnd : Int)]) ++ numsB 2 [(out : Int), (in_ : Int)]) (some ⟨w2.heap.size, 0, none⟩) 1 1 [(tsn : Int)] (w2.alloc (.cells #[.int .u32 ((tsn : Int))] 22)) hO (Nat.le_trans WR2.out.size (by simp)) rfl (fun W hW => (Ri.of_blk [(tsn : Int)] (hnb.wr hW (by decide)) rfl)) (by intro x hx; simp at hx; rcases hx with rfl <;> omega) (by omega))
  refine HA.out.mono ?_
  rintro e w3 ⟨A3, c3, rfl, ho, hwr⟩
  have O3 : Hid (Own8 w3 5 w.heap.size A3 16 c3 ((([] ++ numsB 4 [(tag : Int), (rwnd : Int)]) ++ numsB 2 [(out : Int), (in_ : Int)]) ++ numsB 4 [(tsn : Int)])) := Lib.hid ho
  have WR3 := Lib.hid ((WR2.out.alloc (.cells #[.int .u32 ((tsn : Int))] 22)).trans hwr)
  have K0_3 := Lib.hid ((K0_2.out.alloc (.cells #[.int .u32 ((tsn : Int))] 22)).wr hwr (by decide))
  have K1_3 := Lib.hid ((K1_2.out.alloc (.cells #[.int .u32 ((tsn : Int))] 22)).wr hwr (by decide))
  clear ho hwr hnb hO HA O2 WR2 K0_2 K1_2
  have f1_0 : w3.cell? ⟨w.heap.size + 1, 0, none⟩ = some (.int .u8 0) := K1_3.out.cell 0
  have z1_0 : w3.frozen? ⟨w.heap.size + 1, 0, none⟩ = false := K1_3.out.frozen 0
  have f1_1 : w3.cell? ⟨w.heap.size + 1, 1, none⟩ = some (.int .u8 0) := K1_3.out.cell 1
  have z1_1 : w3.frozen? ⟨w.heap.size + 1, 1, none⟩ = false := K1_3.out.frozen 1
  have f1_2 : w3.cell? ⟨w.heap.size + 1, 2, none⟩ = some (.slice none 0 0) := K1_3.out.cell 2
  have z1_2 : w3.frozen? ⟨w.heap.size + 1, 2, none⟩ = false := K1_3.out.frozen 2
  go_wp2_with fail
  have H3 := out3 O3.out K1_3.out (by decide) (.int .u8 (k.toNat : Int)) (.int .u8 0) (.slice A3 16 c3)
  exact bodyPost_ret (v := .agg #[.int .u8 (k.toNat : Int), .int .u8 0, .slice A3 16 c3]) (by simp [results, Try.results23, go_sem, H3.2.cell]) rfl ⟨A3, _, c3, rfl, H3.1, below3 (WR3.out.below_ (Nat.le_refl _)) (by omega) _ _ _⟩
set_option maxRecDepth 100000 in
set_option maxHeartbeats 2000000 in
theorem putInit_ack (tag rwnd out in_ tsn : Nat) (cookie : List UInt8) (h1 : tag < 4294967296) (h2 : rwnd < 4294967296) (h3 : out < 65536) (h4 : in_ < 65536) (h5 : tsn < 4294967296) (A : Option Addr) (n c : Nat) (w : World) (hn : n ≤ 140737488355200) (hx : cookie.length = n) (hr : Rd w w.heap.size A cookie) :
    Puts 23 #[.int .u8 2, .agg #[.int .u32 tag, .int .u32 rwnd, .int .u16 out, .int .u16 in_, .int .u32 tsn, .slice A n c]] 2 0 (bodyI 2 ⟨tag, rwnd, out, in_, tsn, cookie⟩) w := by
  refine puts_of ?_
  obtain ⟨i8, h8⟩ := Try.ty8
  have hz := zero_chunk
  have HY : Hid (bodyI 2 ⟨tag, rwnd, out, in_, tsn, cookie⟩ = pd (numsB 4 [(tag : Int), (rwnd : Int)] ++ numsB 2 [(out : Int), (in_ : Int)] ++ numsB 4 [(tsn : Int)] ++ numsB 2 [(7 : Int), 4 + (n : Int)] ++ cookie)) := Lib.hid (by subst hx; rw [numsB2 4 tag rwnd (by omega) (by omega), numsB2 2 out in_ (by omega) (by omega), numsB1 4 tsn (by omega), show (7 : Int) = ((7 : Nat) : Int) from rfl, show 4 + (cookie.length : Int) = ((4 + cookie.length : Nat) : Int) by omega, numsB2 2 7 (4 + cookie.length) (by omega) (by omega)]; simp [bodyI, headI])
  rw [HY.out]
  have HX := Lib.hid hx
  clear hx
  have b0 : Blk (w.alloc (.cells #[.int .u32 tag, .int .u32 rwnd, .int .u16 out, .int .u16 in_, .int .u32 tsn, .slice A n c] 43)) w.heap.size 43 #[.int .u32 tag, .int .u32 rwnd, .int .u16 out, .int .u16 in_, .int .u32 tsn, .slice A n c] := Blk.new w 43 #[.int .u32 tag, .int .u32 rwnd, .int .u16 out, .int .u16 in_, .int .u32 tsn, .slice A n c]
  have b1 : Blk ((w.alloc (.cells #[.int .u32 tag, .int .u32 rwnd, .int .u16 out, .int .u16 in_, .int .u32 tsn, .slice A n c] 43)).alloc (.cells #[.int .u8 0, .int .u8 0, .slice none 0 0] 28)) (w.heap.size + 1) 28 #[.int .u8 0, .int .u8 0, .slice none 0 0] := by simpa using Blk.new (w.alloc (.cells #[.int .u32 tag, .int .u32 rwnd, .int .u16 out, .int .u16 in_, .int .u32 tsn, .slice A n c] 43)) 28 #[.int .u8 0, .int .u8 0, .slice none 0 0]
  have K0_0 := Lib.hid (b0.alloc (.cells #[.int .u8 0, .int .u8 0, .slice none 0 0] 28))
  have K1_0 := Lib.hid b1
  have WR0 := Lib.hid (((Wr.refl 5 w.heap.size w).alloc (.cells #[.int .u32 tag, .int .u32 rwnd, .int .u16 out, .int .u16 in_, .int .u32 tsn, .slice A n c] 43)).alloc (.cells #[.int .u8 0, .int .u8 0, .slice none 0 0] 28))
  have O0 := Lib.hid (Own8.nil ((w.alloc (.cells #[.int .u32 tag, .int .u32 rwnd, .int .u16 out, .int .u16 in_, .int .u32 tsn, .slice A n c] 43)).alloc (.cells #[.int .u8 0, .int .u8 0, .slice none 0 0] 28)) 5 w.heap.size)
  have HRD := Lib.hid hr
  clear hr
  clear b0 b1
  go_enter Try.func23, Try.ntmps23
  go_wp2_with fail
  have HSZ0 : Hid (((w.alloc (.cells #[.int .u32 tag, .int .u32 rwnd, .int .u16 out, .int .u16 in_, .int .u32 tsn, .slice A n c] 43)).alloc (.cells #[.int .u8 0, .int .u8 0, .slice none 0 0] 28)).heap.size = w.heap.size + 1 + 1) := Lib.hid (by simp)
  generalize ((w.alloc (.cells #[.int .u32 tag, .int .u32 rwnd, .int .u16 out, .int .u16 in_, .int .u32 tsn, .slice A n c] 43)).alloc (.cells #[.int .u8 0, .int .u8 0, .slice none 0 0] 28)) = w0 at HSZ0 K0_0 K1_0 WR0 O0 ⊢
  have hnb := Blk.new w0 22 #[.int .u32 ((tag : Int)), .int .u32 ((rwnd : Int))]
  rw [HSZ0.out] at hnb
  have hO := O0.out.alloc (.cells #[.int .u32 ((tag : Int)), .int .u32 ((rwnd : Int))] 22)
  have HA := Lib.hid (add_u32 4 w.heap.size (by unfold IsSize; omega) none 0 0 [] (some ⟨w.heap.size + 1 + 1, 0, none⟩) 2 2 [(tag : Int), (rwnd : Int)] (w0.alloc (.cells #[.int .u32 ((tag : Int)), .int .u32 ((rwnd : Int))] 22)) hO (Nat.le_trans WR0.out.size (by simp)) rfl (fun W hW => (Ri.of_blk [(tag : Int), (rwnd : Int)] (hnb.wr hW (by decide)) rfl)) (by intro x hx; simp at hx; rcases hx with rfl | rfl <;> omega) (by omega))
  refine HA.out.mono ?_
  rintro e w1 ⟨A1, c1, rfl, ho, hwr⟩
  have O1 : Hid (Own8 w1 5 w.heap.size A1 8 c1 ([] ++ numsB 4 [(tag : Int), (rwnd : Int)])) := Lib.hid ho
  have WR1 := Lib.hid ((WR0.out.alloc (.cells #[.int .u32 ((tag : Int)), .int .u32 ((rwnd : Int))] 22)).trans hwr)
  have K0_1 := Lib.hid ((K0_0.out.alloc (.cells #[.int .u32 ((tag : Int)), .int .u32 ((rwnd : Int))] 22)).wr hwr (by decide))
  have K1_1 := Lib.hid ((K1_0.out.alloc (.cells #[.int .u32 ((tag : Int)), .int .u32 ((rwnd : Int))] 22)).wr hwr (by decide))
  clear ho hwr hnb hO HA O0 WR0 K0_0 K1_0
  have f0_2 : w1.cell? ⟨w.heap.size, 2, none⟩ = some (.int .u16 out) := K0_1.out.cell 2
  have f0_3 : w1.cell? ⟨w.heap.size, 3, none⟩ = some (.int .u16 in_) := K0_1.out.cell 3
  go_wp2_with fail
  clear f0_2 f0_3
  have hnb := Blk.new w1 23 #[.int .u16 ((out : Int)), .int .u16 ((in_ : Int))]
  have hO := O1.out.alloc (.cells #[.int .u16 ((out : Int)), .int .u16 ((in_ : Int))] 23)
  have HA := Lib.hid (add_u16 2 w.heap.size (by unfold IsSize; omega) A1 8 c1 ([] ++ numsB 4 [(tag : Int), (rwnd : Int)]) (some ⟨w1.heap.size, 0, none⟩) 2 2 [(out : Int), (in_ : Int)] (w1.alloc (.cells #[.int .u16 ((out : Int)), .int .u16 ((in_ : Int))] 23)) hO (Nat.le_trans WR1.out.size (by simp)) rfl (fun W hW => (Ri.of_blk [(out : Int), (in_ : Int)] (hnb.wr hW (by decide)) rfl)) (by intro x hx; simp at hx; rcases hx with rfl | rfl <;> omega) (by omega))
  refine HA.out.mono ?_
  rintro e w2 ⟨A2, c2, rfl, ho, hwr⟩
  have O2 : Hid (Own8 w2 5 w.heap.size A2 12 c2 (([] ++ numsB 4 [(tag : Int), (rwnd : Int)]) ++ numsB 2 [(out : Int), (in_ : Int)])) := Lib.hid ho
  have WR2 := Lib.hid ((WR1.out.alloc (.cells #[.int .u16 ((out : Int)), .int .u16 ((in_ : Int))] 23)).trans hwr)
  have K0_2 := Lib.hid ((K0_1.out.alloc (.cells #[.int .u16 ((out : Int)), .int .u16 ((in_ : Int))] 23)).wr hwr (by decide))
  have K1_2 := Lib.hid ((K1_1.out.alloc (.cells #[.int .u16 ((out : Int)), .int .u16 ((in_ : Int))] 23)).wr hwr (by decide))
  clear ho hwr hnb hO HA O1 WR1 K0_1 K1_1
  have f0_4 : w2.cell? ⟨w.heap.size, 4, none⟩ = some (.int .u32 tsn) := K0_2.out.cell 4
  go_wp2_with fail
  clear f0_4
  have hnb := Blk.new w2 22 #[.int .u32 ((tsn : Int))]
  have hO := O2.out.alloc (.cells #[.int .u32 ((tsn : Int))] 22)
  have HA := Lib.hid (add_u32 4 w.heap.size (by unfold IsSize; omega) A2 12 c2 (([] ++ numsB 4 [(tag : Int), (rwnd : Int)]) ++ numsB 2 [(out : Int), (in_ : Int)]) (some ⟨w2.heap.size, 0, none⟩) 1 1 [(tsn : Int)] (w2.alloc (.cells #[.int .u32 ((tsn : Int))] 22)) hO (Nat.le_trans WR2.out.size (by simp)) rfl (fun W hW => (Ri.of_blk [(tsn : Int)] (hnb.wr hW (by decide)) rfl)) (by intro x hx; simp at hx; rcases hx with rfl <;> omega) (by omega))
  refine HA.out.mono ?_
  rintro e w3 ⟨A3, c3, rfl, ho, hwr⟩
  have O3 : Hid (Own8 w3 5 w.heap.size A3 16 c3 ((([] ++ numsB 4 [(tag : Int), (rwnd : Int)]) ++ numsB 2 [(out : Int), (in_ : Int)]) ++ numsB 4 [(tsn : Int)])) := Lib.hid ho
  have WR3 := Lib.hid ((WR2.out.alloc (.cells #[.int .u32 ((tsn : Int))] 22)).trans hwr)
  have K0_3 := Lib.hid ((K0_2.out.alloc (.cells #[.int .u32 ((tsn : Int))] 22)).wr hwr (by decide))
  have K1_3 := Lib.hid ((K1_2.out.alloc (.cells #[.int .u32 ((tsn : Int))] 22)).wr hwr (by decide))
  clear ho hwr hnb hO HA O2 WR2 K0_2 K1_2
  have f0_5 : w3.cell? ⟨w.heap.size, 5, none⟩ = some (.slice A n c) := K0_3.out.cell 5
  go_wp2_with fail
  clear f0_5
  have hnb := Blk.new w3 3 #[.int .i64 ((7 : Int)), .int .i64 (4 + (n : Int))]
  have hO := O3.out.alloc (.cells #[.int .i64 ((7 : Int)), .int .i64 (4 + (n : Int))] 3)
  have HA := Lib.hid (add_int 2 w.heap.size (by unfold IsSize; omega) A3 16 c3 ((([] ++ numsB 4 [(tag : Int), (rwnd : Int)]) ++ numsB 2 [(out : Int), (in_ : Int)]) ++ numsB 4 [(tsn : Int)]) (some ⟨w3.heap.size, 0, none⟩) 2 2 [(7 : Int), 4 + (n : Int)] (w3.alloc (.cells #[.int .i64 ((7 : Int)), .int .i64 (4 + (n : Int))] 3)) hO (Nat.le_trans WR3.out.size (by simp)) rfl (fun W hW => (Ri.of_blk [(7 : Int), 4 + (n : Int)] (hnb.wr hW (by decide)) rfl)) (by intro x hx; simp at hx; rcases hx with rfl | rfl <;> omega) (by omega))
  refine HA.out.mono ?_
  rintro e w4 ⟨A4, c4, rfl, ho, hwr⟩
  have O4 : Hid (Own8 w4 5 w.heap.size A4 20 c4 (((([] ++ numsB 4 [(tag : Int), (rwnd : Int)]) ++ numsB 2 [(out : Int), (in_ : Int)]) ++ numsB 4 [(tsn : Int)]) ++ numsB 2 [(7 : Int), 4 + (n : Int)])) := Lib.hid ho
  have WR4 := Lib.hid ((WR3.out.alloc (.cells #[.int .i64 ((7 : Int)), .int .i64 (4 + (n : Int))] 3)).trans hwr)
  have K0_4 := Lib.hid ((K0_3.out.alloc (.cells #[.int .i64 ((7 : Int)), .int .i64 (4 + (n : Int))] 3)).wr hwr (by decide))
  have K1_4 := Lib.hid ((K1_3.out.alloc (.cells #[.int .i64 ((7 : Int)), .int .i64 (4 + (n : Int))] 3)).wr hwr (by decide))
  clear ho hwr hnb hO HA O3 WR3 K0_3 K1_3
  have f0_5 : w4.cell? ⟨w.heap.size, 5, none⟩ = some (.slice A n c) := K0_4.out.cell 5
  have hrd := HRD.out.wr WR4.out (Nat.le_refl _) (Nat.le_refl _)
  have hsz : w.heap.size ≤ w4.heap.size := WR4.out.size
  go_wp2_with (at_builtin; refine wpList_append8 h8 _ rfl _ _ rfl w.heap.size _ _ _ _ rfl O4.out _ _ _ _ _ rfl HX.out hrd (by omega) hsz ?_; intro A9 c9 w9 ho9 hg9 hh9; have K9 := Lib.hid (K1_4.out.wr (Wr.of_grown O4.out hg9) (by decide)); have WR9 := Lib.hid (WR4.out.trans (Wr.of_grown O4.out hg9)); have O9 := Lib.hid ho9; have HP := Lib.hid (pad_any A9 (20 + n) c9 _ w9 (by omega) ho9.len ho9.rd); clear ho9 hg9 hh9)
  refine HP.out.mono ?_
  rintro e w10 ⟨g, rfl, hg, hrow, hb⟩
  have K1_10 := Lib.hid (K9.out.below hb K9.out.lt)
  have WR10 := Lib.hid (WR9.out.then_ hb)
  have hup := up4_bd (20 + n)
  have O10 : Hid (Own8 w10 5 w.heap.size (some ⟨g, 0, none⟩) (up4 (20 + n)) (up4 (20 + n)) (numsB 4 [(tag : Int), (rwnd : Int)] ++ numsB 2 [(out : Int), (in_ : Int)] ++ numsB 4 [(tsn : Int)] ++ numsB 2 [(7 : Int), 4 + (n : Int)] ++ cookie ++ List.replicate (up4 (20 + n) - (20 + n)) 0)) := Lib.hid (Own8.of_row hrow (Nat.le_trans WR9.out.size hg) (by have := O9.out.len; simp only [List.length_append, List.length_replicate, List.length_nil] at this ⊢; omega) (by unfold maxLen; omega))
  have HPD : Hid (pd (numsB 4 [(tag : Int), (rwnd : Int)] ++ numsB 2 [(out : Int), (in_ : Int)] ++ numsB 4 [(tsn : Int)] ++ numsB 2 [(7 : Int), 4 + (n : Int)] ++ cookie) = numsB 4 [(tag : Int), (rwnd : Int)] ++ numsB 2 [(out : Int), (in_ : Int)] ++ numsB 4 [(tsn : Int)] ++ numsB 2 [(7 : Int), 4 + (n : Int)] ++ cookie ++ List.replicate (up4 (20 + n) - (20 + n)) 0) := Lib.hid (by rw [pd, show (numsB 4 [(tag : Int), (rwnd : Int)] ++ numsB 2 [(out : Int), (in_ : Int)] ++ numsB 4 [(tsn : Int)] ++ numsB 2 [(7 : Int), 4 + (n : Int)] ++ cookie).length = 20 + n from O9.out.len])
  clear hg hrow hb K9 WR9 O9 HP
  have f1_0 : w10.cell? ⟨w.heap.size + 1, 0, none⟩ = some (.int .u8 0) := K1_10.out.cell 0
  have z1_0 : w10.frozen? ⟨w.heap.size + 1, 0, none⟩ = false := K1_10.out.frozen 0
  have f1_1 : w10.cell? ⟨w.heap.size + 1, 1, none⟩ = some (.int .u8 0) := K1_10.out.cell 1
  have z1_1 : w10.frozen? ⟨w.heap.size + 1, 1, none⟩ = false := K1_10.out.frozen 1
  have f1_2 : w10.cell? ⟨w.heap.size + 1, 2, none⟩ = some (.slice none 0 0) := K1_10.out.cell 2
  have z1_2 : w10.frozen? ⟨w.heap.size + 1, 2, none⟩ = false := K1_10.out.frozen 2
  go_wp2_with fail
  have H3 := out3 O10.out K1_10.out (by decide) (.int .u8 2) (.int .u8 0) (.slice (some ⟨g, 0, none⟩) (up4 (20 + n) : Nat) (up4 (20 + n) : Nat))
  exact bodyPost_ret (v := .agg #[.int .u8 2, .int .u8 0, .slice (some ⟨g, 0, none⟩) (up4 (20 + n) : Nat) (up4 (20 + n) : Nat)]) (by simp [results, Try.results23, go_sem, H3.2.cell]) rfl ⟨(some ⟨g, 0, none⟩), _, (up4 (20 + n) : Nat), rfl, (by rw [HPD.out]; exact H3.1), below3 (WR10.out.below_ (Nat.le_refl _)) (by omega) _ _ _⟩
set_option maxRecDepth 100000 in
set_option maxHeartbeats 2000000 in
theorem putTime_any (k : UInt8) (t : Int) (ht : -9223372036854775808 ≤ t ∧ t < 9223372036854775808) (w : World) :
    Puts 43 #[.int .u8 (k.toNat : Int), .int .i64 t] k 0 (bodyT (t % 18446744073709551616).toNat) w := by
  refine puts_of ?_
  have hz := zero_chunk
  have HY : Hid (bodyT (t % 18446744073709551616).toNat = [] ++ numsB 2 [(1 : Int), (12 : Int)] ++ numsB 8 [t]) := Lib.hid (by rw [show (1 : Int) = ((1 : Nat) : Int) from rfl, show (12 : Int) = ((12 : Nat) : Int) from rfl, numsB2 2 1 12 (by omega) (by omega)]; simp [bodyT, numsB])
  rw [HY.out]
  have b0 : Blk (w.alloc (.cells #[.int .u8 0, .int .u8 0, .slice none 0 0] 28)) w.heap.size 28 #[.int .u8 0, .int .u8 0, .slice none 0 0] := Blk.new w 28 #[.int .u8 0, .int .u8 0, .slice none 0 0]
  have K0_0 := Lib.hid b0
  have WR0 := Lib.hid ((Wr.refl 5 w.heap.size w).alloc (.cells #[.int .u8 0, .int .u8 0, .slice none 0 0] 28))
  have O0 := Lib.hid (Own8.nil (w.alloc (.cells #[.int .u8 0, .int .u8 0, .slice none 0 0] 28)) 5 w.heap.size)
  clear b0
  go_enter Try.func43, Try.ntmps43
  go_wp2_with fail
  have HSZ0 : Hid ((w.alloc (.cells #[.int .u8 0, .int .u8 0, .slice none 0 0] 28)).heap.size = w.heap.size + 1) := Lib.hid (by simp)
  generalize (w.alloc (.cells #[.int .u8 0, .int .u8 0, .slice none 0 0] 28)) = w0 at HSZ0 K0_0 WR0 O0 ⊢
  have hnb := Blk.new w0 3 #[.int .i64 ((1 : Int)), .int .i64 ((12 : Int))]
  rw [HSZ0.out] at hnb
  have hO := O0.out.alloc (.cells #[.int .i64 ((1 : Int)), .int .i64 ((12 : Int))] 3)
  have HA := Lib.hid (add_int 2 w.heap.size (by unfold IsSize; omega) none 0 0 [] (some ⟨w.heap.size + 1, 0, none⟩) 2 2 [(1 : Int), (12 : Int)] (w0.alloc (.cells #[.int .i64 ((1 : Int)), .int .i64 ((12 : Int))] 3)) hO (Nat.le_trans WR0.out.size (by simp)) rfl (fun W hW => (Ri.of_blk [(1 : Int), (12 : Int)] (hnb.wr hW (by decide)) rfl)) (by intro x hx; simp at hx; rcases hx with rfl | rfl <;> omega) (by omega))
  refine HA.out.mono ?_
  rintro e w1 ⟨A1, c1, rfl, ho, hwr⟩
  have O1 : Hid (Own8 w1 5 w.heap.size A1 4 c1 ([] ++ numsB 2 [(1 : Int), (12 : Int)])) := Lib.hid ho
  have WR1 := Lib.hid ((WR0.out.alloc (.cells #[.int .i64 ((1 : Int)), .int .i64 ((12 : Int))] 3)).trans hwr)
  have K0_1 := Lib.hid ((K0_0.out.alloc (.cells #[.int .i64 ((1 : Int)), .int .i64 ((12 : Int))] 3)).wr hwr (by decide))
  clear ho hwr hnb hO HA O0 WR0 K0_0
  go_wp2_with fail
  have hnb := Blk.new w1 2 #[.int .i64 (t)]
  have hO := O1.out.alloc (.cells #[.int .i64 (t)] 2)
  have HA := Lib.hid (add_i64 8 w.heap.size (by unfold IsSize; omega) A1 4 c1 ([] ++ numsB 2 [(1 : Int), (12 : Int)]) (some ⟨w1.heap.size, 0, none⟩) 1 1 [t] (w1.alloc (.cells #[.int .i64 (t)] 2)) hO (Nat.le_trans WR1.out.size (by simp)) rfl (fun W hW => (Ri.of_blk [t] (hnb.wr hW (by decide)) rfl)) (by intro x hx; simp at hx; rcases hx with rfl <;> omega) (by omega))
  refine HA.out.mono ?_
  rintro e w2 ⟨A2, c2, rfl, ho, hwr⟩
  have O2 : Hid (Own8 w2 5 w.heap.size A2 12 c2 (([] ++ numsB 2 [(1 : Int), (12 : Int)]) ++ numsB 8 [t])) := Lib.hid ho
  have WR2 := Lib.hid ((WR1.out.alloc (.cells #[.int .i64 (t)] 2)).trans hwr)
  have K0_2 := Lib.hid ((K0_1.out.alloc (.cells #[.int .i64 (t)] 2)).wr hwr (by decide))
  clear ho hwr hnb hO HA O1 WR1 K0_1
  have f0_0 : w2.cell? ⟨w.heap.size, 0, none⟩ = some (.int .u8 0) := K0_2.out.cell 0
  have z0_0 : w2.frozen? ⟨w.heap.size, 0, none⟩ = false := K0_2.out.frozen 0
  have f0_1 : w2.cell? ⟨w.heap.size, 1, none⟩ = some (.int .u8 0) := K0_2.out.cell 1
  have z0_1 : w2.frozen? ⟨w.heap.size, 1, none⟩ = false := K0_2.out.frozen 1
  have f0_2 : w2.cell? ⟨w.heap.size, 2, none⟩ = some (.slice none 0 0) := K0_2.out.cell 2
  have z0_2 : w2.frozen? ⟨w.heap.size, 2, none⟩ = false := K0_2.out.frozen 2
  go_wp2_with fail
  have H3 := out3 O2.out K0_2.out (by decide) (.int .u8 (k.toNat : Int)) (.int .u8 0) (.slice A2 12 c2)
  exact bodyPost_ret (v := .agg #[.int .u8 (k.toNat : Int), .int .u8 0, .slice A2 12 c2]) (by simp [results, Try.results43, go_sem, H3.2.cell]) rfl ⟨A2, _, c2, rfl, H3.1, below3 (WR2.out.below_ (Nat.le_refl _)) (by omega) _ _ _⟩
set_option maxRecDepth 100000 in
set_option maxHeartbeats 2000000 in
theorem putCum_any (x : Nat) (hx : x < 4294967296) (w : World) :
    Puts 45 #[.int .u32 x] 7 0 (enc x 4) w := by
  refine puts_of ?_
  have hz := zero_chunk
  have HY : Hid (enc x 4 = [] ++ numsB 4 [(x : Int)]) := Lib.hid (by rw [numsB1 4 x (by omega)]; rfl)
  rw [HY.out]
  have b0 : Blk (w.alloc (.cells #[.int .u8 0, .int .u8 0, .slice none 0 0] 28)) w.heap.size 28 #[.int .u8 0, .int .u8 0, .slice none 0 0] := Blk.new w 28 #[.int .u8 0, .int .u8 0, .slice none 0 0]
  have K0_0 := Lib.hid b0
  have WR0 := Lib.hid ((Wr.refl 5 w.heap.size w).alloc (.cells #[.int .u8 0, .int .u8 0, .slice none 0 0] 28))
  have O0 := Lib.hid (Own8.nil (w.alloc (.cells #[.int .u8 0, .int .u8 0, .slice none 0 0] 28)) 5 w.heap.size)
  clear b0
  go_enter Try.func45, Try.ntmps45
  go_wp2_with fail
  have HSZ0 : Hid ((w.alloc (.cells #[.int .u8 0, .int .u8 0, .slice none 0 0] 28)).heap.size = w.heap.size + 1) := Lib.hid (by simp)
  generalize (w.alloc (.cells #[.int .u8 0, .int .u8 0, .slice none 0 0] 28)) = w0 at HSZ0 K0_0 WR0 O0 ⊢
  have hnb := Blk.new w0 22 #[.int .u32 ((x : Int))]
  rw [HSZ0.out] at hnb
  have hO := O0.out.alloc (.cells #[.int .u32 ((x : Int))] 22)
  have HA := Lib.hid (add_u32 4 w.heap.size (by unfold IsSize; omega) none 0 0 [] (some ⟨w.heap.size + 1, 0, none⟩) 1 1 [(x : Int)] (w0.alloc (.cells #[.int .u32 ((x : Int))] 22)) hO (Nat.le_trans WR0.out.size (by simp)) rfl (fun W hW => (Ri.of_blk [(x : Int)] (hnb.wr hW (by decide)) rfl)) (by intro x hx; simp at hx; rcases hx with rfl <;> omega) (by omega))
  refine HA.out.mono ?_
  rintro e w1 ⟨A1, c1, rfl, ho, hwr⟩
  have O1 : Hid (Own8 w1 5 w.heap.size A1 4 c1 ([] ++ numsB 4 [(x : Int)])) := Lib.hid ho
  have WR1 := Lib.hid ((WR0.out.alloc (.cells #[.int .u32 ((x : Int))] 22)).trans hwr)
  have K0_1 := Lib.hid ((K0_0.out.alloc (.cells #[.int .u32 ((x : Int))] 22)).wr hwr (by decide))
  clear ho hwr hnb hO HA O0 WR0 K0_0
  have f0_0 : w1.cell? ⟨w.heap.size, 0, none⟩ = some (.int .u8 0) := K0_1.out.cell 0
  have z0_0 : w1.frozen? ⟨w.heap.size, 0, none⟩ = false := K0_1.out.frozen 0
  have f0_1 : w1.cell? ⟨w.heap.size, 1, none⟩ = some (.int .u8 0) := K0_1.out.cell 1
  have z0_1 : w1.frozen? ⟨w.heap.size, 1, none⟩ = false := K0_1.out.frozen 1
  have f0_2 : w1.cell? ⟨w.heap.size, 2, none⟩ = some (.slice none 0 0) := K0_1.out.cell 2
  have z0_2 : w1.frozen? ⟨w.heap.size, 2, none⟩ = false := K0_1.out.frozen 2
  go_wp2_with fail
  have H3 := out3 O1.out K0_1.out (by decide) (.int .u8 7) (.int .u8 0) (.slice A1 4 c1)
  exact bodyPost_ret (v := .agg #[.int .u8 7, .int .u8 0, .slice A1 4 c1]) (by simp [results, Try.results45, go_sem, H3.2.cell]) rfl ⟨A1, _, c1, rfl, H3.1, below3 (WR1.out.below_ (Nat.le_refl _)) (by omega) _ _ _⟩
end Go.Proofs.Ytalgkokgaibloaa
