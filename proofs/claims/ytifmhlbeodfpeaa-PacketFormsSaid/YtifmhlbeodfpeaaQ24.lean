/-
  Package packet: the reference's laid and Write; the statements' bound.
  Package packet: bytes.Equal, bytes.HasPrefix, the iterator's making; what bytes are a packet, plainly.
-/
import Derived.Test.YtifmhlbeodfpeaaQ21
import Derived.Test.YtifmhlbeodfpeaaQ23
import Derived.Test.YtifmhlbeodfpeaaQ12
import Derived.Test.YtifmhlbeodfpeaaQ7
namespace Go.Proofs.Ytifmhlbeodfpeaa
open Go.RowKit
set_option linter.unusedVariables false

set_option maxRecDepth 100000 in
set_option maxHeartbeats 4000000 in
theorem refLaid_any (tag s : Nat) (A : Option Addr) (n c : Nat) (cs : List Chk) (w : World) (ht : tag < 4294967296) (hs : s < 4294967296) (hn : n ≤ 1048576) (hx : cs.length = n) (hr : Chunks w w.heap.size A cs) :
    Calls Try.prog 38 #[.agg #[.int .u32 (tag : Int), .slice A n c], .int .u32 (s : Int)] w fun e w' => ∃ A2 c2, e = .returned (.slice A2 (12 + (cat cs).length) c2) ∧ Own8 w' 5 w.heap.size A2 (12 + (cat cs).length) c2 (laidP tag s cs) ∧ Below w.heap.size w w' := by
  obtain ⟨i8, h8⟩ := Try.ty8
  have HX := Lib.hid hx
  have HR := Lib.hid hr
  have B0 := Lib.hid (below_new w (.cells #[.int .u32 (tag : Int), .slice A n c] 25))
  have K0 := Lib.hid (Blk.new w 25 #[.int .u32 (tag : Int), .slice A n c])
  have HPU : Hid (∀ (W : World) (A9 : Option Addr) (m c9 x t b : Nat) (ys : List UInt8), Own8 W 5 b A9 m c9 ys → m ≤ 8 → x < 4294967296 → IsSize (t : Int) → Calls Try.prog 50 #[.slice A9 m c9, .int .u64 (x : Int), .int .i64 t] W fun e w' => ∃ A2 c2, e = .returned (.slice A2 (m + t) c2) ∧ Own8 w' 5 W.heap.size A2 (m + t) c2 (ys ++ enc x t) ∧ Below W.heap.size W w') := Lib.hid fun W A9 m c9 x t b ys ho hm hx ht =>
    refPut_yes A9 m c9 x t ys W (by omega) (by omega) ho.len ho.rd ht
  clear hr hx
  go_enter Try.func38, Try.ntmps38
  go_wp2_with fail
  generalize w.alloc (.cells #[.int .u32 (tag : Int), .slice A n c] 25) = w0 at K0 B0 ⊢
  refine (HPU.out w0 none 0 0 5000 2 0 [] (Own8.nil _ _ _) (by omega) (by omega) (.inr (.inl rfl))).mono ?_
  rintro e w1 ⟨A1, c1, rfl, ho, hb⟩
  have K1 := Lib.hid (K0.out.below hb K0.out.lt)
  have B1 := Lib.hid (below_then B0.out (Nat.le_refl _) hb)
  have O1 := Lib.hid ho
  clear hb ho K0 B0
  go_wp2_with fail
  refine (HPU.out w1 A1 (0 + 2) c1 5000 2 _ _ O1.out (by omega) (by omega) (.inr (.inl rfl))).mono ?_
  rintro e w2 ⟨A2, c2, rfl, ho, hb⟩
  have K2 := Lib.hid (K1.out.below hb K1.out.lt)
  have B2 := Lib.hid (below_then B1.out (Nat.le_refl _) hb)
  have O2 := Lib.hid ho
  have f0 : w2.cell? ⟨w.heap.size, 0, none⟩ = some (.int .u32 (tag : Int)) := K2.out.cell 0
  clear hb ho K1 B1 O1
  go_wp2_with fail
  clear f0
  refine (HPU.out w2 A2 (0 + 2 + 2) c2 tag 4 _ _ O2.out (by omega) ht (.inr (.inr (.inl rfl)))).mono ?_
  rintro e w3 ⟨A3, c3, rfl, ho, hb⟩
  have K3 := Lib.hid (K2.out.below hb K2.out.lt)
  have B3 := Lib.hid (below_then B2.out (Nat.le_refl _) hb)
  have O3 := Lib.hid ho
  clear hb ho K2 B2 O2
  go_wp2_with fail
  refine (HPU.out w3 A3 (0 + 2 + 2 + 4) c3 s 4 _ _ O3.out (by omega) hs (.inr (.inr (.inl rfl)))).mono ?_
  rintro e w4 ⟨A4, c4, rfl, ho, hb⟩
  have K4 := Lib.hid (K3.out.below hb K3.out.lt)
  have B4 := Lib.hid (below_then B3.out (Nat.le_refl _) hb)
  have O4 : Hid (Own8 w4 5 w.heap.size A4 12 c4 (laidP tag s (cs.take 0))) := Lib.hid (by
    have h2 := ho.more B3.out.size
    rw [List.take_zero, laid_nil]
    simpa using h2)
  clear hb ho K3 B3 O3 HPU
  go_wp2_with fail
  generalize w4 = v3 at K4 B4 O4 ⊢
  go_loopw [5, 6] (fun v i wr => ∃ (k : Nat) (A1 : Option Addr) (m1 c1 : Nat), k ≤ n ∧ i = .int .i64 k ∧ v = .slice A1 m1 c1 ∧ Hid (Own8 wr 5 w.heap.size A1 m1 c1 (laidP tag s (cs.take k))) ∧ Hid (Below w.heap.size w wr) ∧ Hid (Blk wr w.heap.size 25 #[.int .u32 (tag : Int), .slice A n c])) (fun _ i _ => n - (intOf i).toNat)
  case atStart => exact ⟨0, _, 12, _, Nat.zero_le _, rfl, rfl, O4, B4, K4⟩
  case round =>
    clear K4 B4 O4
    obtain ⟨k, A1, m1, c1, hk, rfl, rfl, O, B, K⟩ := hrel
    have f1 : wr.cell? ⟨w.heap.size, 1, none⟩ = some (.slice A n c) := K.out.cell 1
    by_cases hlt : k < n
    · obtain ⟨x, hxk⟩ : ∃ x, cs[k]? = some x := ⟨_, List.getElem?_eq_getElem (by rw [HX.out]; exact hlt)⟩
      obtain ⟨b, o, rfl, hbl, g0, g1, Ax, nx, cx, g2, g3, g4, g5, g6⟩ := (HR.out.below B.out).at_ hxk
      have HXK := Lib.hid hxk
      have HWR := Lib.hid (refWrite_any x.1 x.2.1 Ax nx cx x.2.2 wr g5 (g6.more B.out.size))
      have hml : m1 ≤ 68719476748 := by
        rw [← O.out.len, length_laidP, ← length_laidP tag 0]
        exact laid_le tag 0 cs k (by omega)
      clear hxk g6 g5 g4 g3 hbl
      go_wp2_with fail
      refine HWR.out.mono ?_
      rintro e w2 ⟨A2, m2, c2, rfl, ho2, hb2⟩
      have oa := O.out.below hb2 (Nat.le_refl _)
      have hl2 := ho2.len
      have hl2b := wrt_le x.1 x.2.1 x.2.2
      have B3 := Lib.hid (below_then B.out (Nat.le_refl _) hb2)
      have K3 := Lib.hid (K.out.below hb2 K.out.lt)
      have hzz : w.heap.size ≤ w2.heap.size := B3.out.size
      have orr := ho2.rd
      have HL2 := Lib.hid hl2
      have hm2 : m2 ≤ 65536 := by rw [← hl2]; exact hl2b
      have hbk := Own8.blk_ne oa K3.out (by decide)
      have HBK := Lib.hid hbk
      clear ho2 hb2 g0 g1 g2 hl2 hl2b HWR O B K f1 hbk
      go_wp2_with (at_builtin; refine wpList_append8 h8 _ rfl _ _ rfl w.heap.size _ _ _ _ rfl oa _ _ _ _ _ rfl HL2.out orr (by omega) hzz ?_; intro A4 c4 w4 ho4 hg4 hh4)
      go_roundw
      case rel =>
        refine ⟨k + 1, A4, m1 + m2, c4, by omega, by go_num, rfl, Lib.hid ?_, Lib.hid (B3.out.grown hg4 hzz oa.blk), Lib.hid (K3.out.grown hg4 HBK.out)⟩
        rw [laid_snoc tag s cs k x HXK.out]
        exact ho4
      case measure => simp [intOf]; omega
    · obtain rfl : k = n := by omega
      have htk : cs.take k = cs := List.take_of_length_le (by rw [HX.out]; omega)
      rw [htk] at O
      clear htk
      have hm1 : m1 = 12 + (cat cs).length := by rw [← O.out.len, length_laidP]
      subst hm1
      go_wp2_with fail
      go_ret
      exact ⟨_, _, rfl, O.out, B.out⟩

set_option maxHeartbeats 1000000 in
theorem refWriteP_no (tag : Nat) (A : Option Addr) (n c : Nat) (cs : List Chk) (w : World) (hn : n ≤ 1099511627776) (hx : cs.length = n) (hr : Chunks w w.heap.size A cs) (hm : mayP cs = false) :
    Calls Try.prog 17 #[.agg #[.int .u32 (tag : Int), .slice A n c]] w fun e w' => e = .returned (.slice none 0 0) ∧ Below w.heap.size w w' := by
  have B0 := Lib.hid (below_new w (.cells #[.int .u32 (tag : Int), .slice A n c] 25))
  have HC : Hid (∀ W, Below w.heap.size w W → Calls Try.prog 37 #[.slice A n c] W fun e w' => e = .returned (.bool false) ∧ Below W.heap.size W w') := Lib.hid fun W hW => hm ▸ refMay_any A n c cs W hn hx ((hr.below hW).more hW.size)
  clear hr hx hm
  go_enter Try.func17, Try.ntmps17
  go_wp2_with fail
  refine (HC.out _ B0.out).mono ?_
  rintro e w1 ⟨rfl, hb⟩
  go_wp2_with fail
  go_ret
  exact ⟨rfl, below_then B0.out (Nat.le_refl _) hb⟩

set_option maxRecDepth 100000 in
set_option maxHeartbeats 4000000 in
theorem refWriteP_yes (tag : Nat) (A : Option Addr) (n c : Nat) (cs : List Chk) (w : World) (ht : tag < 4294967296) (hn : n ≤ 1048576) (hx : cs.length = n) (hr : Chunks w w.heap.size A cs) (hm : mayP cs = true) :
    Calls Try.prog 17 #[.agg #[.int .u32 (tag : Int), .slice A n c]] w fun e w' => ∃ A2 m c2, e = .returned (.slice A2 m c2) ∧ Own8 w' 5 w.heap.size A2 m c2 (wrP tag cs) ∧ Below w.heap.size w w' := by
  have HM := Lib.hid hm
  have B0 := Lib.hid (below_new w (.cells #[.int .u32 (tag : Int), .slice A n c] 25))
  have K0 := Lib.hid (Blk.new w 25 #[.int .u32 (tag : Int), .slice A n c])
  have HC : Hid (∀ W, Below w.heap.size w W → Calls Try.prog 37 #[.slice A n c] W fun e w' => e = .returned (.bool true) ∧ Below W.heap.size W w') := Lib.hid fun W hW => hm ▸ refMay_any A n c cs W (by omega) hx ((hr.below hW).more hW.size)
  obtain ⟨N, hN⟩ : ∃ N, N = 12 + (cat cs).length := ⟨_, rfl⟩
  have HNB : Hid (N ≤ 68719476748) := Lib.hid (by
    have h1 := laid_le tag 0 cs n (by omega)
    rw [List.take_of_length_le (by omega), length_laidP] at h1
    omega)
  have HLA : Hid (∀ (W : World) (s : Nat), Below w.heap.size w W → s < 4294967296 → Calls Try.prog 38 #[.agg #[.int .u32 (tag : Int), .slice A n c], .int .u32 (s : Int)] W fun e w' => ∃ A2 c2, e = .returned (.slice A2 N c2) ∧ Own8 w' 5 W.heap.size A2 N c2 (laidP tag s cs) ∧ Below W.heap.size W w') := Lib.hid fun W s hW hs => hN ▸ refLaid_any tag s A n c cs W ht hs hn hx ((hr.below hW).more hW.size)
  have HSU : Hid (∀ (W : World) (A9 : Option Addr) (c9 b : Nat), Own8 W 5 b A9 N c9 (laidP tag 0 cs) → Calls Try.prog 39 #[.slice A9 N c9] W fun e w' => e = .returned (.int .u32 (sumP tag cs : Nat)) ∧ Below W.heap.size W w') := Lib.hid fun W A9 c9 b ho =>
    (refSum_any W.heap.size A9 N c9 (laidP tag 0 cs) W (by have := HNB.out; unfold maxLen; omega) ho.len ho.rd).mono fun e w' h => ⟨h.1, h.2 ▸ Below.refl _ _⟩
  clear hr hx hm hN
  go_enter Try.func17, Try.ntmps17
  rw [drawn_eq 3]
  go_wp2_with fail
  refine (HC.out _ B0.out).mono ?_
  rintro e w1 ⟨rfl, hb⟩
  have K1 := Lib.hid (K0.out.below hb K0.out.lt)
  have B1 := Lib.hid (below_then B0.out (Nat.le_refl _) hb)
  clear hb K0 B0 HC
  go_wp2_with fail
  rw [← drawn_eq 3]
  generalize w1 = v1 at K1 B1 ⊢
  refine wp_region_grow_tail 5 (by kernel_rfl) [(Is (.agg #[.int .u32 (tag : Int), .slice A n c])), (Is (.agg #[.int .u32 (tag : Int), .slice A n c])), (NewOwn 5 v1.heap.size N (laidP tag 0 cs)), (Is (.int .u32 (sumP tag cs : Nat))), (NewOwn 5 v1.heap.size N (laidP tag (sumP tag cs) cs))] rfl ?_ (by kernel_rfl) (by kernel_rfl) ?_ ?_
  · intro p hp
    simp only [List.mem_cons, List.not_mem_nil, or_false] at hp
    rcases hp with rfl | rfl | rfl | rfl | rfl
    · exact Lasts.is _
    · exact Lasts.is _
    · exact Lasts.newOwn _ _ _ _
    · exact Lasts.is _
    · exact Lasts.newOwn _ _ _ _
  · refine ⟨?_, ?_, ?_, ?_, ?_, trivial⟩
    · intro listed a w1 hl hc
      have h1 : a.tmps[1]?.getD undef = .pointer (some ⟨w.heap.size, 0, none⟩) := (hc.was 1 (by kernel_rfl)).trans rfl
      have kb := K1.out.below hc.g K1.out.lt
      have x0 : w1.cell? ⟨w.heap.size, 0, none⟩ = some (.int .u32 (tag : Int)) := kb.cell 0
      have x1 : w1.cell? ⟨w.heap.size, 1, none⟩ = some (.slice A n c) := kb.cell 1
      clear kb
      refine does_value rfl rfl (.agg #[.int .u32 (tag : Int), .slice A n c]) w1 ?_ (Below.refl _ _) rfl
      clear hc hl
      go_simp
    · intro listed a w1 hl hc
      have h1 : a.tmps[1]?.getD undef = .pointer (some ⟨w.heap.size, 0, none⟩) := (hc.was 1 (by kernel_rfl)).trans rfl
      have kb := K1.out.below hc.g K1.out.lt
      have x0 : w1.cell? ⟨w.heap.size, 0, none⟩ = some (.int .u32 (tag : Int)) := kb.cell 0
      have x1 : w1.cell? ⟨w.heap.size, 1, none⟩ = some (.slice A n c) := kb.cell 1
      clear kb
      refine does_value rfl rfl (.agg #[.int .u32 (tag : Int), .slice A n c]) w1 ?_ (Below.refl _ _) rfl
      clear hc hl
      go_simp
    · intro listed a w1 hl hc
      have h8 : a.tmps[8]?.getD undef = .agg #[.int .u32 (tag : Int), .slice A n c] := hc.dep hl 1 8 rfl (by kernel_rfl)
      refine does_call rfl rfl 38 #[.agg #[.int .u32 (tag : Int), .slice A n c], .int .u32 0] ?_ ((HLA.out w1 0 (B1.out.trans (hc.g.mono B1.out.size)) (by omega)).mono fun e w' ⟨A9, c9, he, ho, hb⟩ => ⟨_, he, hb, A9, c9, rfl, ho.more hc.g.size⟩)
      clear hc hl
      go_simp
    · intro listed a w1 hl hc
      obtain ⟨A9, c9, h9, ho9⟩ := hc.dep hl 2 9 rfl (by kernel_rfl)
      refine does_call rfl rfl 39 #[.slice A9 N c9] ?_ ((HSU.out w1 A9 c9 _ ho9).mono fun e w' ⟨he, hb⟩ => ⟨_, he, hb, rfl⟩)
      clear hc hl
      go_simp
    · intro listed a w1 hl hc
      have h7 : a.tmps[7]?.getD undef = .agg #[.int .u32 (tag : Int), .slice A n c] := hc.dep hl 0 7 rfl (by kernel_rfl)
      have h10 : a.tmps[10]?.getD undef = .int .u32 (sumP tag cs : Nat) := hc.dep hl 3 10 rfl (by kernel_rfl)
      refine does_call rfl rfl 38 #[.agg #[.int .u32 (tag : Int), .slice A n c], .int .u32 (sumP tag cs : Nat)] ?_ ((HLA.out w1 (sumP tag cs) (B1.out.trans (hc.g.mono B1.out.size)) (sumP_lt tag cs)).mono fun e w' ⟨A9, c9, he, ho, hb⟩ => ⟨_, he, hb, A9, c9, rfl, ho.more hc.g.size⟩)
      clear hc hl
      go_simp
  intro w2 hb2
  rintro _ rfl _ rfl _ ⟨A9, c9, rfl, ho9⟩ _ rfl _ ⟨A11, c11, rfl, ho11⟩
  simp only [Thus, List.reverse_cons, List.reverse_nil, List.nil_append, List.cons_append, List.drop, List.take, lay]
  go_frame
  go_wp2_with fail
  go_ret
  exact ⟨_, _, _, rfl, by rw [wrP, if_pos HM.out]; exact ho11.more B1.out.size, below_then B1.out (Nat.le_refl _) hb2⟩

/-- How many bytes the bodies have together. -/
def tot : List Chk → Nat
  | [] => 0
  | x :: cs => x.2.2.length + tot cs
theorem tot_snoc (cs : List Chk) (k : Nat) (x : Chk) (h : cs[k]? = some x) : tot (cs.take (k + 1)) = tot (cs.take k) + x.2.2.length := by
  induction cs generalizing k with
  | nil => cases h
  | cons y cs ih =>
    cases k with
    | zero =>
      obtain rfl := Option.some.inj h
      simp [tot]
    | succ k =>
      rw [List.take_succ_cons, List.take_succ_cons, tot, tot, ih k (by simpa using h)]
      omega
theorem size_tot : ∀ cs : List Chk, sizeC cs ≤ 7 * cs.length + tot cs
  | [] => Nat.zero_le _
  | x :: cs => by
    have := size_tot cs
    have h2 := up4_bd x.2.2.length
    rw [sizeC, tot, List.length_cons]
    omega
/-- Small enough for a statement. -/
structure Meek (cs : List Chk) : Prop where
  len : cs.length ≤ 500
  size : sizeC cs ≤ 134572
/-- What Large answers. -/
def LargeR (cs : List Chk) (e : Ending) : Prop := e = .returned (.bool true) ∨ e = .returned (.bool false) ∧ Meek cs

set_option maxRecDepth 100000 in
set_option maxHeartbeats 4000000 in
theorem large_any (tag : Int) (A : Option Addr) (n c : Nat) (cs : List Chk) (w : World) (hn : n ≤ maxLen) (hx : cs.length = n) (hr : Chunks w w.heap.size A cs) :
    Calls Try.prog 11 #[.agg #[.int .u32 tag, .slice A n c]] w fun e w' => LargeR cs e ∧ Below w.heap.size w w' := by
  unfold maxLen at hn
  have HX := Lib.hid hx
  have HR := Lib.hid hr
  have B0 := Lib.hid (below_new w (.cells #[.int .u32 tag, .slice A n c] 25))
  have K0 := Lib.hid (Blk.new w 25 #[.int .u32 tag, .slice A n c])
  clear hr hx
  go_enter Try.func11, Try.ntmps11
  go_wp2_with fail
  generalize w.alloc (.cells #[.int .u32 tag, .slice A n c] 25) = w0 at K0 B0 ⊢
  go_loopw [3, 4] (fun v i wr => ∃ (k s : Nat), k ≤ n ∧ i = .int .i64 k ∧ v = .int .i64 s ∧ s ≤ 9223372036854775807 ∧ Hid (131072 < s ∨ s = n + tot (cs.take k)) ∧ Hid (Below w.heap.size w wr) ∧ Hid (Blk wr w.heap.size 25 #[.int .u32 tag, .slice A n c])) (fun _ i _ => n - (intOf i).toNat)
  case atStart => exact ⟨0, n, Nat.zero_le _, rfl, rfl, by omega, Lib.hid (.inr rfl), B0, K0⟩
  case round =>
    clear K0 B0
    obtain ⟨k, s, hk, rfl, rfl, hs, HS, B, K⟩ := hrel
    have f1 : wr.cell? ⟨w.heap.size, 1, none⟩ = some (.slice A n c) := K.out.cell 1
    by_cases hbig : 131072 < s
    · have hd : decide (131072 < (s : Int)) = true := decide_eq_true (by omega)
      by_cases hlt : k < n
      · go_wp2_with fail
        go_ret
        exact ⟨.inl rfl, B.out⟩
      · obtain rfl : k = n := by omega
        go_wp2_with fail
        go_ret
        exact ⟨.inl rfl, B.out⟩
    · have hd : decide (131072 < (s : Int)) = false := decide_eq_false (by omega)
      by_cases hlt : k < n
      · obtain ⟨x, hxk⟩ : ∃ x, cs[k]? = some x := ⟨_, List.getElem?_eq_getElem (by rw [HX.out]; exact hlt)⟩
        obtain ⟨b, o, rfl, hbl, g0, g1, Ax, nx, cx, g2, g3, g4, g5, g6⟩ := (HR.out.below B.out).at_ hxk
        have HT : Hid (tot (cs.take (k + 1)) = tot (cs.take k) + nx) := Lib.hid (by rw [tot_snoc cs k x hxk, g5])
        have HSE : Hid (s = n + tot (cs.take k)) := Lib.hid (by have := HS.out; omega)
        unfold maxLen at g4
        have hnx : nx ≤ 9223372036854775807 := by omega
        clear hxk g6 g5 g4 g3 hbl HS
        by_cases hm : nx < 262144
        · go_wp2_with fail
          go_roundw
          case rel => exact ⟨k + 1, s + nx, by omega, by go_num, by go_num, by omega, Lib.hid (.inr (by rw [HT.out, HSE.out]; omega)), B, K⟩
          case measure => simp [intOf]; omega
        · go_wp2_with fail
          go_roundw
          case rel => exact ⟨k + 1, s + 262144, by omega, by go_num, by go_num, by omega, Lib.hid (.inl (by omega)), B, K⟩
          case measure => simp [intOf]; omega
      · obtain rfl : k = n := by omega
        have htk : cs.take k = cs := List.take_of_length_le (by rw [HX.out]; omega)
        rw [htk] at HS
        clear htk
        by_cases h5 : 500 < k
        · have hd5 : decide (500 < (k : Int)) = true := decide_eq_true (by omega)
          go_wp2_with fail
          go_ret
          exact ⟨.inl rfl, B.out⟩
        · have hd5 : decide (500 < (k : Int)) = false := decide_eq_false (by omega)
          have HM : Hid (Meek cs) := Lib.hid ⟨by rw [HX.out]; omega, by have h1 := size_tot cs; have h2 := HS.out; rw [HX.out] at h1; omega⟩
          go_wp2_with fail
          go_ret
          exact ⟨.inr ⟨rfl, HM.out⟩, B.out⟩

end Go.Proofs.Ytifmhlbeodfpeaa

namespace Go.Proofs.Ytifmhlbeodfpeaa
open Go.RowKit
set_option linter.unusedVariables false

theorem conv_str (w : World) (B : Nat) (A : Option Addr) (n c : Nat) (xs : List UInt8) (hx : xs.length = n) (hr : Rd w B A xs) :
    (convert 29 9 (.slice A n c)).run Try.prog w = .ok (.string ⟨xs.toArray⟩) w := by
  subst hx
  rcases A with _ | ad
  · rcases hr with rfl | ⟨_, _, h, _⟩
    · exact run_convert_bytes_nil w _ _ Try.underlying29 Try.underlying5 0 c _ Try.underlying9
    · cases h
  · exact run_convert_bytes_back w _ _ _ ad c xs Try.underlying29 Try.underlying5 Try.underlying9 fun j hj => hr.cells j _ (by simp [List.getElem?_eq_getElem hj])

set_option maxHeartbeats 1000000 in
theorem bytesEqual_any (A A' : Option Addr) (n n' c c' : Nat) (xs ys : List UInt8) (w : World) (hx : xs.length = n) (hy : ys.length = n') (B B' : Nat) (hr : Rd w B A xs) (hr' : Rd w B' A' ys) :
    Calls Try.prog 43 #[.slice A n c, .slice A' n' c'] w fun e w' => e = .returned (.bool (decide (xs = ys))) ∧ w = w' := by
  have h1 := conv_str w B A n c xs hx hr
  have h2 := conv_str w B' A' n' c' ys hy hr'
  have HE : Hid ((xs == ys) = decide (xs = ys)) := Lib.hid (by rw [Bool.eq_iff_iff, beq_iff_eq, decide_eq_true_iff])
  clear hr hr' hx hy
  go_enter Try.func43, Try.ntmps43
  go_wp2_with fail
  go_ret
  exact ⟨ret_bool HE.out, rfl⟩

set_option maxHeartbeats 1000000 in
theorem hasPrefix_any (A A' : Option Addr) (n m c c' : Nat) (xs ys : List UInt8) (w : World) (hm : m ≤ n) (hn : n ≤ 140737488355300) (hc : n ≤ c) (hcm : c ≤ maxLen) (hx : xs.length = n) (hy : ys.length = m) (B B' : Nat) (hr : Rd w B A xs) (hr' : Rd w B' A' ys) (h0 : 0 < m) :
    Calls Try.prog 46 #[.slice A n c, .slice A' m c'] w fun e w' => e = .returned (.bool (decide (xs.take m = ys))) ∧ w = w' := by
  obtain ⟨b, o, rfl, _, _⟩ := hr.at_ (by rintro rfl; simp at hx; omega)
  have HE : Hid (Calls Try.prog 43 #[.slice (some ⟨b, o, none⟩) m c, .slice A' m c'] w fun e w' => e = .returned (.bool (decide (xs.take m = ys))) ∧ w = w') := Lib.hid (bytesEqual_any _ A' m m c c' _ ys w (by simp; omega) hy B B' (hr.take_ m) hr')
  have hmc : m ≤ c := Nat.le_trans hm hc
  unfold maxLen at hcm
  have hd : decide ((m : Int) ≤ (n : Int)) = true := decide_eq_true (by omega)
  clear hr hr' hx hy
  go_enter Try.func46, Try.ntmps46
  go_wp2_with fail
  refine HE.out.mono ?_
  rintro e w1 ⟨rfl, rfl⟩
  go_wp2_with fail
  go_ret
  exact ⟨rfl, rfl⟩

set_option maxHeartbeats 1000000 in
theorem chunksOf_any (A : Option Addr) (n c : Nat) (w : World) :
    Calls Try.prog 45 #[.slice A n c] w fun e w' => e = .returned (.func (.func 59) #[] #[.pointer (some ⟨w.heap.size, 0, none⟩)]) ∧ w' = w.alloc (.cells #[.slice A n c] 29) := by
  have hmf : ∀ W : World, (Instr.makeFunc (.func 59) #[] #[.pointer (some ⟨w.heap.size, 0, none⟩)]).run Try.prog W = .ok (.func (.func 59) #[] #[.pointer (some ⟨w.heap.size, 0, none⟩)]) W := fun W => rfl
  go_enter Try.func45, Try.ntmps45
  go_wp2_with fail
  go_ret
  exact ⟨rfl, rfl⟩

theorem enc_numA (b : List UInt8) (a : Nat) (h : a + 4 ≤ b.length) : enc (num b a 4) 4 = (b.drop a).take 4 := by
  rw [num_drop, enc_num _ 4 (by rw [List.length_drop]; omega)]
theorem sum_bytes {b : List UInt8} (h : 12 ≤ b.length) (s : Nat) (hs : s < 4294967296) : decide ((b.drop 8).take 4 = enc s 4) = decide (s = num b 8 4) := by
  rw [decide_eq_decide]
  rw [← enc_numA b 8 (by omega)]
  constructor
  · intro e
    have h1 := num_put s 4 [] (by omega)
    have h2 := num_put (num b 8 4) 4 [] (num_lt b 8 4)
    rw [List.append_nil] at h1 h2
    rw [← h1, ← e, h2]
  · intro e
    rw [e]
theorem laid_iff {b : List UInt8} {cs : List Chk} (h : 12 ≤ b.length) (hc : cat cs = b.drop 12) : laidP (num b 4 4) (num b 8 4) cs = b ↔ b.take 4 = enc 5000 2 ++ enc 5000 2 := by
  have e8 : b = b.take 4 ++ ((b.drop 4).take 4 ++ ((b.drop 8).take 4 ++ b.drop 12)) := by
    have h1 : (b.drop 8).take 4 ++ b.drop 12 = b.drop 8 := by
      rw [show b.drop 12 = (b.drop 8).drop 4 by rw [List.drop_drop]]; exact List.take_append_drop _ _
    have h2 : (b.drop 4).take 4 ++ b.drop 8 = b.drop 4 := by
      rw [show b.drop 8 = (b.drop 4).drop 4 by rw [List.drop_drop]]; exact List.take_append_drop _ _
    rw [h1, h2, List.take_append_drop]
  have el : laidP (num b 4 4) (num b 8 4) cs = (enc 5000 2 ++ enc 5000 2) ++ ((b.drop 4).take 4 ++ ((b.drop 8).take 4 ++ b.drop 12)) := by
    rw [← enc_numA b 4 (by omega), ← enc_numA b 8 (by omega), ← hc]
    simp [laidP]
  constructor
  · intro e
    have e3 := el.symm.trans (e.trans e8)
    exact (List.append_inj_left e3 (by simp [length_enc]; omega)).symm
  · intro e
    rw [el, ← e]
    exact e8.symm
theorem rd_short {b : List UInt8} (h : b.length < 12) : rdP b = .err 7 := by unfold rdP; rw [if_pos h]
theorem rd_sum {b : List UInt8} (h : 12 ≤ b.length) (hs : (sum (bareP b)).toNat ≠ num b 8 4) : rdP b = .err 8 := by unfold rdP; rw [if_neg (by omega), if_pos hs]
theorem rd_none {b : List UInt8} (h : 12 ≤ b.length) (hs : (sum (bareP b)).toNat = num b 8 4) (hp : Parsed (b.drop 12) none) : rdP b = .err 7 := by
  unfold rdP
  rw [if_neg (by omega), if_neg (by simpa using hs), hp b.length (by rw [List.length_drop]; omega)]
theorem rd_some {b : List UInt8} {cs : List Chk} (h : 12 ≤ b.length) (hs : (sum (bareP b)).toNat = num b 8 4) (hp : Parsed (b.drop 12) (some cs)) : rdP b = if mayP cs = true ∧ b.take 4 = enc 5000 2 ++ enc 5000 2 then .ok (num b 4 4) cs else .err 7 := by
  have h2 := hp b.length (by rw [List.length_drop]; omega)
  have hc := (cat_parseN _ _ _ h2).1
  unfold rdP
  rw [if_neg (by omega), if_neg (by simpa using hs), h2]
  simp only [laid_iff h hc]
/-- What Read answers, as a value. -/
def noPkt (k : Int) : Value := .tuple #[.agg #[.int .u32 0, .slice none 0 0], .int .i64 k]
/-- What Read answers. -/
def RdR (base : Nat) : RdP → Ending → World → Prop
  | .err k, e, _ => e = .returned (noPkt k)
  | .ok tag cs, e, w => ∃ A c es, e = .returned (.tuple #[.agg #[.int .u32 (tag : Int), .slice A es.length c], .int .i64 0]) ∧ OC w base (.slice A es.length c) es ∧ es.map CE.chk = cs
theorem wrap_u32k {a : Nat} (h : a < 4294967296) : IntKind.u32.wrap (a : Int) = a := by
  simp [IntKind.wrap, IntKind.signed, IntKind.bits]
  omega
end Go.Proofs.Ytifmhlbeodfpeaa
