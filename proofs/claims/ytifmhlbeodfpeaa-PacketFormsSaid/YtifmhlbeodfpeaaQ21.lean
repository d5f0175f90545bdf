/-
  Package packet: the ports, the checksum, Write.
-/
import Derived.Test.YtifmhlbeodfpeaaQ8
import Derived.Test.YtifmhlbeodfpeaaQ20
import Derived.Test.YtifmhlbeodfpeaaQ14
namespace Go.Proofs.Ytifmhlbeodfpeaa
open Go.RowKit
set_option linter.unusedVariables false

theorem Rd.from_ {w : World} {B b o k c : Nat} {AA : Option Addr} {xs : List UInt8} (h : Rd w B (some ⟨b, o, none⟩) xs) (hn : xs.length ≤ c) (hA : (if c = k then some (⟨b, o, none⟩ : Addr) else some ⟨b, o + k, none⟩) = AA) : Rd w B AA (xs.drop k) := by
  by_cases hc : c = k
  · rw [List.drop_of_length_le (by omega)]
    exact .inl rfl
  · rw [if_neg hc] at hA
    subst hA
    have h2 := h.cut k xs.length
    rw [List.take_of_length_le (by simp), Option.map_some, Addr.add_lit] at h2
    exact h2

set_option maxHeartbeats 1000000 in
theorem ports_any (w : World) : Calls Try.prog 33 #[] w fun e w' => ∃ g, e = .returned (.slice (some ⟨g, 0, none⟩) 4 4) ∧ w.heap.size ≤ g ∧ RowAt w' 5 g (enc 5000 2 ++ enc 5000 2) ∧ Below w.heap.size w w' := by
  go_enter Try.func33, Try.ntmps33
  go_wp2_with fail
  refine (put_yes none 0 0 5000 2 [] w (by omega) (by omega) rfl (Rd.nil _ _ _) (.inr (.inl rfl))).mono ?_
  rintro e w1 ⟨g1, rfl, hg1, hrow1, hb1⟩
  go_wp2_with fail
  refine (put_yes _ (0 + 2) _ 5000 2 ([] ++ enc 5000 2) w1 (by omega) (by omega) (by simp [length_enc]) (hrow1.rd 0 _ (fun j hj => by rw [Nat.zero_add])) (.inr (.inl rfl))).mono ?_
  rintro e w2 ⟨g2, rfl, hg2, hrow2, hb2⟩
  go_wp2_with fail
  go_ret
  exact ⟨g2, rfl, Nat.le_trans hb1.size hg2, by simpa using hrow2, below_then hb1 (Nat.le_refl _) hb2⟩

theorem ext_bare (xs : List UInt8) : ext (ext (sum (xs.take 8)) (List.replicate 4 0)) (xs.drop 12) = sum (bareP xs) := by
  unfold sum bareP
  rw [ext_append, ext_append]
theorem wrap_u64n {a : Nat} (h : a < 18446744073709551616) : IntKind.u64.wrap (a : Int) = a := by
  simp [IntKind.wrap, IntKind.signed, IntKind.bits]
  omega
theorem rv_u64 (r : R) : (r.toNat : Int) < 18446744073709551616 := by have := r.isLt; omega

set_option maxRecDepth 100000 in
set_option maxHeartbeats 1000000 in
theorem checksum_any (A : Option Addr) (n c : Nat) (xs : List UInt8) (w : World) (h12 : 12 ≤ n) (hn : n ≤ 140737488355300) (hc : n ≤ c) (hcm : c ≤ maxLen) (hx : xs.length = n) (hr : Rd w w.heap.size A xs) :
    Calls Try.prog 35 #[.slice A n c] w fun e w' => ∃ g, e = .returned (.slice (some ⟨g, 0, none⟩) 4 4) ∧ w.heap.size ≤ g ∧ RowAt w' 5 g (enc (sum (bareP xs)).toNat 4) ∧ Below w.heap.size w w' := by
  obtain ⟨i8, h8⟩ := Try.ty8
  obtain ⟨b, o, rfl, hbl, _⟩ := hr.at_ (by rintro rfl; simp at hx; omega)
  obtain ⟨AA, hAA⟩ : ∃ AA, (if c = 12 then some (⟨b, o, none⟩ : Addr) else some ⟨b, o + 12, none⟩) = AA := ⟨_, rfl⟩
  have HR8 := Lib.hid (hr.take_ 8)
  have HR12 := Lib.hid (hr.from_ (by omega) hAA)
  have HL8 : Hid ((xs.take 8).length = 8) := Lib.hid (by simp; omega)
  have HL12 : Hid ((xs.drop 12).length = n - 12) := Lib.hid (by simp; omega)
  have hc12 : 12 ≤ c := Nat.le_trans h12 hc
  have hc8 : 8 ≤ c := by omega
  obtain ⟨s1, hs1⟩ : ∃ s, s = sum (xs.take 8) := ⟨_, rfl⟩
  obtain ⟨s2, hs2⟩ : ∃ s, s = ext s1 (List.replicate 4 0) := ⟨_, rfl⟩
  obtain ⟨s3, hs3⟩ : ∃ s, s = ext s2 (xs.drop 12) := ⟨_, rfl⟩
  have HS : Hid (s3 = sum (bareP xs)) := Lib.hid (by rw [hs3, hs2, hs1, ext_bare])
  have HC1 : Hid (Calls Try.prog 54 #[.slice (some ⟨b, o, none⟩) 8 c] w fun e w' => e = .returned (rv s1) ∧ w = w') := Lib.hid (hs1 ▸ sum_any w.heap.size _ 8 c _ w (by unfold maxLen; omega) HL8.out HR8.out)
  have hm : ∀ W : World, (Instr.makeSlice 29 (.int .i64 4) (.int .i64 4)).run Try.prog W = .ok (.slice (some ⟨W.heap.size, 0, none⟩) (4 : Nat) (4 : Nat)) (W.alloc (.cells (row8 (List.replicate 4 0)) 5)) := fun W => run_make8 h8.slice h8.info h8.zero h8.size h8.bytes .i64 .i64 4 4 rfl (by omega) W
  have hm1 := hm w
  have HC2 : Hid (Calls Try.prog 55 #[rv s1, .slice (some ⟨w.heap.size, 0, none⟩) 4 4] (w.alloc (.cells (row8 (List.replicate 4 0)) 5)) fun e w' => e = .returned (rv s2) ∧ (w.alloc (.cells (row8 (List.replicate 4 0)) 5)) = w') := Lib.hid (hs2 ▸ ext_any _ _ 4 4 _ s1 _ (by unfold maxLen; omega) rfl ((RowAt.new w 5 (List.replicate 4 0)).rd 0 _ (fun j hj => by rw [Nat.zero_add])))
  have HC3 : Hid (∀ W, Below w.heap.size w W → Calls Try.prog 55 #[rv s2, .slice AA (n - 12 : Nat) (c - 12 : Nat)] W fun e w' => e = .returned (rv s3) ∧ W = w') := Lib.hid fun W hW => (hs3 ▸ ext_any w.heap.size AA (n - 12) (c - 12) _ s2 W (by unfold maxLen; omega) HL12.out (HR12.out.below hW))
  have HB := Lib.hid (below_new w (.cells (row8 (List.replicate 4 0)) 5))
  have hu := rv_u64 s3
  have hu2 := s3.isLt
  clear hr hx hs1 hs2 hs3 hm hn hcm
  go_enter Try.func35, Try.ntmps35
  go_wp2_with fail
  refine HC1.out.mono ?_
  rintro e w1 ⟨rfl, rfl⟩
  go_wp2_with fail
  refine HC2.out.mono ?_
  rintro e w1 ⟨rfl, rfl⟩
  go_wp2_with fail
  refine (HC3.out _ HB.out).mono ?_
  rintro e w1 ⟨rfl, rfl⟩
  go_wp2_with fail
  refine (put_yes none 0 0 s3.toNat 4 [] _ (by omega) (by omega) rfl (Rd.nil _ _ _) (.inr (.inr (.inl rfl)))).mono ?_
  rintro e w1 ⟨g1, rfl, hg1, hrow1, hb1⟩
  go_wp2_with fail
  go_ret
  exact ⟨g1, rfl, Nat.le_trans HB.out.size hg1, by rw [← HS.out]; exact hrow1, below_then HB.out (Nat.le_refl _) hb1⟩

theorem laid_nil (tag s : Nat) : laidP tag s [] = enc 5000 2 ++ (enc 5000 2 ++ (enc tag 4 ++ enc s 4)) := by simp [laidP, cat_nil]
theorem laid_snoc (tag s : Nat) (cs : List Chk) (k : Nat) (x : Chk) (h : cs[k]? = some x) : laidP tag s (cs.take (k + 1)) = laidP tag s (cs.take k) ++ wrt x.1 x.2.1 x.2.2 := by
  simp [laidP, cat_snoc cs k x h]
theorem laid_le (tag s : Nat) (cs : List Chk) (k : Nat) (hk : k ≤ 1048576) : (laidP tag s (cs.take k)).length ≤ 68719476748 := by
  rw [length_laidP]
  have := length_cat_take cs k
  have h2 := Nat.mul_le_mul_right 65536 hk
  omega
theorem sum_laid (tag : Nat) (cs : List Chk) : laidP tag (sumP tag cs) cs = (laidP tag 0 cs).take 8 ++ enc (sum (bareP (laidP tag 0 cs))).toNat 4 ++ (laidP tag 0 cs).drop 12 := by
  have e1 : bareP (laidP tag 0 cs) = laidP tag 0 cs := bare_laid tag 0 cs
  have e2 : laidP tag 0 cs = (enc 5000 2 ++ (enc 5000 2 ++ enc tag 4)) ++ (enc 0 4 ++ cat cs) := by simp [laidP]
  have h1 : (laidP tag 0 cs).take 8 = enc 5000 2 ++ (enc 5000 2 ++ enc tag 4) := by
    rw [e2, List.take_append, List.take_of_length_le (by simp [length_enc])]
    simp [length_enc]
  have h2 : (laidP tag 0 cs).drop 12 = cat cs := by
    have : laidP tag 0 cs = (enc 5000 2 ++ (enc 5000 2 ++ (enc tag 4 ++ enc 0 4))) ++ cat cs := by simp [laidP]
    rw [this, List.drop_append, List.drop_of_length_le (by simp [length_enc])]
    simp [length_enc]
  rw [e1, h1, h2, sumP]
  simp [laidP]

set_option maxHeartbeats 1000000 in
theorem writeP_no (tag : Nat) (A : Option Addr) (n c : Nat) (cs : List Chk) (w : World) (hn : n ≤ 1099511627776) (hx : cs.length = n) (hr : Chunks w w.heap.size A cs) (hm : mayP cs = false) :
    Calls Try.prog 14 #[.agg #[.int .u32 (tag : Int), .slice A n c]] w fun e w' => e = .returned (.slice none 0 0) ∧ Below w.heap.size w w' := by
  have B0 := Lib.hid (below_new w (.cells #[.int .u32 (tag : Int), .slice A n c] 25))
  have HC : Hid (∀ W, Below w.heap.size w W → Calls Try.prog 31 #[.slice A n c] W fun e w' => e = .returned (.bool false) ∧ Below W.heap.size W w') := Lib.hid fun W hW => hm ▸ canShare_any A n c cs W hn hx ((hr.below hW).more hW.size)
  clear hr hx hm
  go_enter Try.func14, Try.ntmps14
  go_wp2_with fail
  refine (HC.out _ B0.out).mono ?_
  rintro e w1 ⟨rfl, hb⟩
  go_wp2_with fail
  go_ret
  exact ⟨rfl, below_then B0.out (Nat.le_refl _) hb⟩

set_option maxRecDepth 100000 in
set_option maxHeartbeats 4000000 in
theorem writeP_yes (tag : Nat) (A : Option Addr) (n c : Nat) (cs : List Chk) (w : World) (ht : tag < 4294967296) (hn : n ≤ 1048576) (hx : cs.length = n) (hr : Chunks w w.heap.size A cs) (hm : mayP cs = true) :
    Calls Try.prog 14 #[.agg #[.int .u32 (tag : Int), .slice A n c]] w fun e w' => ∃ A2 m c2, e = .returned (.slice A2 m c2) ∧ Own8 w' 5 w.heap.size A2 m c2 (wrP tag cs) ∧ Below w.heap.size w w' := by
  obtain ⟨i8, h8⟩ := Try.ty8
  have HM := Lib.hid hm
  have HX := Lib.hid hx
  have HR := Lib.hid hr
  have B0 := Lib.hid (below_new w (.cells #[.int .u32 (tag : Int), .slice A n c] 25))
  have K0 := Lib.hid (Blk.new w 25 #[.int .u32 (tag : Int), .slice A n c])
  have HC : Hid (∀ W, Below w.heap.size w W → Calls Try.prog 31 #[.slice A n c] W fun e w' => e = .returned (.bool true) ∧ Below W.heap.size W w') := Lib.hid fun W hW => hm ▸ canShare_any A n c cs W (by omega) hx ((hr.below hW).more hW.size)
  have HPO : Hid (∀ W, Calls Try.prog 33 #[] W fun e w' => ∃ g, e = .returned (.slice (some ⟨g, 0, none⟩) 4 4) ∧ W.heap.size ≤ g ∧ RowAt w' 5 g (enc 5000 2 ++ enc 5000 2) ∧ Below W.heap.size W w') := Lib.hid ports_any
  have HPU : Hid (∀ (W : World) (g m x : Nat) (ys : List UInt8), RowAt W 5 g ys → ys.length = m → m ≤ 8 → x < 4294967296 → Calls Try.prog 32 #[.slice (some ⟨g, 0, none⟩) m m, .int .u64 (x : Int), .int .i64 4] W fun e w' => ∃ g2, e = .returned (.slice (some ⟨g2, 0, none⟩) (m + 4 : Nat) (m + 4 : Nat)) ∧ W.heap.size ≤ g2 ∧ RowAt w' 5 g2 (ys ++ enc x 4) ∧ Below W.heap.size W w') := Lib.hid fun W g m x ys hg hl hm8 hx4 =>
    put_yes (some ⟨g, 0, none⟩) m m x 4 ys W (by omega) (by omega) hl (hg.rd 0 ys (fun j hj => by rw [Nat.zero_add])) (.inr (.inr (.inl rfl)))
  clear hr hx hm
  go_enter Try.func14, Try.ntmps14
  rw [drawn_eq 3, drawn_eq 10]
  go_wp2_with fail
  refine (HC.out _ B0.out).mono ?_
  rintro e w1 ⟨rfl, hb⟩
  have K1 := Lib.hid (K0.out.below hb K0.out.lt)
  have B1 := Lib.hid (below_then B0.out (Nat.le_refl _) hb)
  clear hb K0 B0 HC
  go_wp2_with fail
  rw [← drawn_eq 3]
  generalize w1 = v1 at K1 B1 ⊢
  refine wp_region_grow_tail 5 (by kernel_rfl) [(NewRow 5 v1.heap.size 4 4 (enc 5000 2 ++ enc 5000 2) (fun s => s)), (Is (.pointer (some ⟨w.heap.size, 0, none⟩))), (Is (.int .u32 (tag : Int))), (Is (.int .u64 (tag : Int))), (NewRow 5 v1.heap.size 8 8 ((enc 5000 2 ++ enc 5000 2) ++ enc tag 4) (fun s => s))] rfl ?_ (by kernel_rfl) (by kernel_rfl) ?_ ?_
  · intro p hp
    simp only [List.mem_cons, List.not_mem_nil, or_false] at hp
    rcases hp with rfl | rfl | rfl | rfl | rfl
    · exact Lasts.newRow _ _ _ _ _ _
    · exact Lasts.is _
    · exact Lasts.is _
    · exact Lasts.is _
    · exact Lasts.newRow _ _ _ _ _ _
  · refine ⟨?_, ?_, ?_, ?_, ?_, trivial⟩
    · intro listed a w1 hl hc
      refine does_call rfl rfl 33 #[] ?_ ((HPO.out w1).mono fun e w' ⟨g9, he, hg, hr, hb⟩ => ⟨_, he, hb, g9, rfl, Nat.le_trans hc.g.size hg, hr⟩)
      clear hc hl
      go_simp
    · intro listed a w1 hl hc
      have h1 : a.tmps[1]?.getD undef = .pointer (some ⟨w.heap.size, 0, none⟩) := (hc.was 1 (by kernel_rfl)).trans rfl
      refine does_value rfl rfl (.pointer (some ⟨w.heap.size, 0, none⟩)) w1 ?_ (Below.refl _ _) rfl
      clear hc hl
      go_simp
    · intro listed a w1 hl hc
      have h11 : a.tmps[11]?.getD undef = .pointer (some ⟨w.heap.size, 0, none⟩) := hc.dep hl 1 11 rfl (by kernel_rfl)
      have kb := K1.out.below hc.g K1.out.lt
      have x0 : w1.cell? ⟨w.heap.size, 0, none⟩ = some (.int .u32 (tag : Int)) := kb.cell 0
      clear kb
      refine does_value rfl rfl (.int .u32 (tag : Int)) w1 ?_ (Below.refl _ _) rfl
      clear hc hl
      go_simp
    · intro listed a w1 hl hc
      have h12 : a.tmps[12]?.getD undef = .int .u32 (tag : Int) := hc.dep hl 2 12 rfl (by kernel_rfl)
      refine does_value rfl rfl (.int .u64 (tag : Int)) w1 ?_ (Below.refl _ _) rfl
      clear hc hl
      go_simp
      exact wrap_u64n (by omega)
    · intro listed a w1 hl hc
      obtain ⟨G10, h10, hg10, hr10⟩ := hc.dep hl 0 10 rfl (by kernel_rfl)
      have h13 : a.tmps[13]?.getD undef = .int .u64 (tag : Int) := hc.dep hl 3 13 rfl (by kernel_rfl)
      refine does_call rfl rfl 32 #[.slice (some ⟨G10, 0, none⟩) 4 4, .int .u64 (tag : Int), .int .i64 4] ?_ ((HPU.out w1 G10 4 tag _ hr10 (by simp [length_enc]) (by omega) ht).mono fun e w' ⟨g9, he, hg, hr, hb⟩ => ⟨_, he, hb, g9, rfl, Nat.le_trans hc.g.size hg, hr⟩)
      clear hc hl
      go_simp
  intro w2 hb2
  rintro _ ⟨G10, rfl, hg10, hr10⟩ _ rfl _ rfl _ rfl _ ⟨G14, rfl, hg14, hr14⟩
  simp only [Thus, List.reverse_cons, List.reverse_nil, List.nil_append, List.cons_append, List.drop, List.take, lay]
  go_frame
  have hB := below_then B1.out (Nat.le_refl _) hb2
  have B2 := Lib.hid hB
  have K2 := Lib.hid (K1.out.below hb2 K1.out.lt)
  have R2 := Lib.hid hr14
  have hgw : w.heap.size ≤ G14 := Nat.le_trans B1.out.size hg14
  clear hb2 hg10 hr10 hB hr14 K1 B1 HPO
  go_wp2_with fail
  refine (HPU.out w2 G14 8 0 _ R2.out (by simp [length_enc]) (by omega) (by omega)).mono ?_
  rintro e w3 ⟨g3, rfl, hg3, hr3, hb⟩
  have K3 := Lib.hid (K2.out.below hb K2.out.lt)
  have B3 := Lib.hid (below_then B2.out (Nat.le_refl _) hb)
  have O3 : Hid (Own8 w3 5 w.heap.size (some ⟨g3, 0, none⟩) 12 12 (laidP tag 0 (cs.take 0))) := Lib.hid (Own8.of_row (by rw [List.take_zero, laid_nil]; simpa using hr3) (Nat.le_trans B2.out.size hg3) (by rw [List.take_zero, laid_nil]; simp [length_enc]) (by unfold maxLen; omega))
  have f1 : w3.cell? ⟨w.heap.size, 1, none⟩ = some (.slice A n c) := K3.out.cell 1
  clear hb hr3 hg3 K2 B2 R2 HPU hgw
  go_wp2_with fail
  generalize w3 = v3 at K3 B3 O3 ⊢
  clear f1
  go_loopw [3, 20] (fun v i wr => ∃ (k : Nat) (A1 : Option Addr) (m1 c1 : Nat), k ≤ n ∧ i = .int .i64 k ∧ v = .slice A1 m1 c1 ∧ Hid (Own8 wr 5 w.heap.size A1 m1 c1 (laidP tag 0 (cs.take k))) ∧ Hid (Below w.heap.size w wr)) (fun _ i _ => n - (intOf i).toNat)
  case atStart => exact ⟨0, _, 12, 12, Nat.zero_le _, rfl, rfl, O3, B3⟩
  case round =>
    clear K3 B3 O3
    obtain ⟨k, A1, m1, c1, hk, rfl, rfl, O, B⟩ := hrel
    by_cases hlt : k < n
    · obtain ⟨x, hxk⟩ : ∃ x, cs[k]? = some x := ⟨_, List.getElem?_eq_getElem (by rw [HX.out]; exact hlt)⟩
      obtain ⟨b, o, rfl, hbl, g0, g1, Ax, nx, cx, g2, g3, g4, g5, g6⟩ := (HR.out.below B.out).at_ hxk
      have HXK := Lib.hid hxk
      have B2 := Lib.hid (B.out.alloc B.out.size (.cells #[.int .u8 (x.1.toNat : Int), .int .u8 (x.2.1.toNat : Int), .slice Ax nx cx] 41))
      have O2 := Lib.hid (O.out.alloc (.cells #[.int .u8 (x.1.toNat : Int), .int .u8 (x.2.1.toNat : Int), .slice Ax nx cx] 41))
      have HWR := Lib.hid (write_any x.1 x.2.1 Ax nx cx x.2.2 (wr.alloc (.cells #[.int .u8 (x.1.toNat : Int), .int .u8 (x.2.1.toNat : Int), .slice Ax nx cx] 41)) g5 ((g6.alloc B.out.size _).more B2.out.size))
      have hml : m1 ≤ 68719476748 := by rw [← O.out.len]; exact laid_le tag 0 cs k (by omega)
      clear hxk g6 g5 g4 g3 hbl
      go_wp2_with fail
      refine HWR.out.mono ?_
      rintro e w2 ⟨A2, m2, c2, rfl, ho2, hb2⟩
      have oa := O2.out.below hb2 (Nat.le_refl _)
      have hl2 := ho2.len
      have hl2b := wrt_le x.1 x.2.1 x.2.2
      have B3 := Lib.hid (below_then B2.out (Nat.le_refl _) hb2)
      have hzz : w.heap.size ≤ w2.heap.size := B3.out.size
      have orr := ho2.rd
      have HL2 := Lib.hid hl2
      have hm2 : m2 ≤ 65536 := by rw [← hl2]; exact hl2b
      clear ho2 hb2 g0 g1 g2 hl2 hl2b HWR O2 B2 O B
      go_wp2_with (at_builtin; refine wpList_append8 h8 _ rfl _ _ rfl w.heap.size _ _ _ _ rfl oa _ _ _ _ _ rfl HL2.out orr (by omega) hzz ?_; intro A4 c4 w4 ho4 hg4 hh4)
      go_roundw
      case rel =>
        refine ⟨k + 1, A4, m1 + m2, c4, by omega, by go_num, rfl, Lib.hid ?_, Lib.hid (B3.out.grown hg4 hzz oa.blk)⟩
        rw [laid_snoc tag 0 cs k x HXK.out]
        exact ho4
      case measure => simp [intOf]; omega
    · obtain rfl : k = n := by omega
      have htk : cs.take k = cs := List.take_of_length_le (by rw [HX.out]; omega)
      rw [htk] at O
      clear htk
      obtain ⟨Y, hY⟩ : ∃ Y, Y = laidP tag 0 cs := ⟨_, rfl⟩
      have HY := Lib.hid hY
      rw [← hY] at O
      have hYl : 12 ≤ Y.length ∧ Y.length ≤ 68719476748 := by
        have h1 := laid_le tag 0 cs k (by omega)
        rw [List.take_of_length_le (by rw [HX.out]; omega)] at h1
        rw [hY]
        exact ⟨by rw [length_laidP]; omega, h1⟩
      have hm1 := O.out.len
      obtain ⟨g, zs, rfl, hg, hrow, hcz, hcm⟩ : ∃ g zs, A1 = some ⟨g, 0, none⟩ ∧ w.heap.size ≤ g ∧ RowAt wr 5 g (Y ++ zs) ∧ m1 + zs.length = c1 ∧ c1 ≤ maxLen := by
        rcases O.out.2 with ⟨_, h0, _⟩ | h
        · omega
        · exact h
      have R := Lib.hid hrow
      have HCK : Hid (∀ W, Below wr.heap.size wr W → Calls Try.prog 35 #[.slice (some ⟨g, 0, none⟩) m1 c1] W fun e w' => ∃ g2, e = .returned (.slice (some ⟨g2, 0, none⟩) 4 4) ∧ W.heap.size ≤ g2 ∧ RowAt w' 5 g2 (enc (sum (bareP Y)).toNat 4) ∧ Below W.heap.size W w') := Lib.hid fun W hW => checksum_any (some ⟨g, 0, none⟩) m1 c1 Y W (by omega) (by omega) (by omega) hcm hm1 ((R.out.below hW R.out.lt).rd 0 Y (fun j hj => by rw [Nat.zero_add, List.getElem?_append_left hj]))
      have HCZ := Lib.hid hcz
      have HCM := Lib.hid hcm
      have HM1 := Lib.hid hm1
      have h12 : 12 ≤ m1 := by omega
      have hcc : m1 ≤ c1 := by omega
      have hc8 : ¬ c1 = 8 := by omega
      have hcx := hcm
      unfold maxLen at hcx
      have hmx : m1 ≤ 68719476748 := by omega
      clear hrow hcz hcm hm1 hYl hY O
      go_wp2_with fail
      rw [← drawn_eq 10]
      generalize wr = v1 at R B HCK ⊢
      refine wp_region_grow_tail 4 (by kernel_rfl) [(Is (.slice (some ⟨g, 0, none⟩) m1 c1)), (Is (.slice (some ⟨g, 8, none⟩) (m1 - 8 : Nat) (c1 - 8 : Nat))), (Is (.slice (some ⟨g, 0, none⟩) m1 c1)), (NewRow 5 v1.heap.size 4 4 (enc (sum (bareP Y)).toNat 4) (fun s => s))] rfl ?_ (by kernel_rfl) (by kernel_rfl) ?_ ?_
      · intro p hp
        simp only [List.mem_cons, List.not_mem_nil, or_false] at hp
        rcases hp with rfl | rfl | rfl | rfl
        · exact Lasts.is _
        · exact Lasts.is _
        · exact Lasts.is _
        · exact Lasts.newRow _ _ _ _ _ _
      · refine ⟨?_, ?_, ?_, ?_, trivial⟩
        · intro listed a w1 hl hc
          have h3 : a.tmps[3]?.getD undef = .slice (some ⟨g, 0, none⟩) m1 c1 := (hc.was 3 (by kernel_rfl)).trans rfl
          refine does_value rfl rfl (.slice (some ⟨g, 0, none⟩) m1 c1) w1 ?_ (Below.refl _ _) rfl
          clear hc hl
          go_simp
        · intro listed a w1 hl hc
          have h29 : a.tmps[29]?.getD undef = .slice (some ⟨g, 0, none⟩) m1 c1 := hc.dep hl 0 29 rfl (by kernel_rfl)
          refine does_value rfl rfl (.slice (some ⟨g, 8, none⟩) (m1 - 8 : Nat) (c1 - 8 : Nat)) w1 ?_ (Below.refl _ _) rfl
          clear hc hl
          go_simp
          intro hh; omega
        · intro listed a w1 hl hc
          have h3 : a.tmps[3]?.getD undef = .slice (some ⟨g, 0, none⟩) m1 c1 := (hc.was 3 (by kernel_rfl)).trans rfl
          refine does_value rfl rfl (.slice (some ⟨g, 0, none⟩) m1 c1) w1 ?_ (Below.refl _ _) rfl
          clear hc hl
          go_simp
        · intro listed a w1 hl hc
          have h31 : a.tmps[31]?.getD undef = .slice (some ⟨g, 0, none⟩) m1 c1 := hc.dep hl 2 31 rfl (by kernel_rfl)
          refine does_call rfl rfl 35 #[.slice (some ⟨g, 0, none⟩) m1 c1] ?_ ((HCK.out w1 hc.g).mono fun e w' ⟨g9, he, hg, hr, hb⟩ => ⟨_, he, hb, g9, rfl, Nat.le_trans hc.g.size hg, hr⟩)
          clear hc hl
          go_simp
      intro w2 hb2
      rintro _ rfl _ rfl _ rfl _ ⟨G32, rfl, hg32, hr32⟩
      simp only [Thus, List.reverse_cons, List.reverse_nil, List.nil_append, List.cons_append, List.drop, List.take, lay]
      go_frame
      have R2 := Lib.hid (R.out.below hb2 R.out.lt)
      have hlt2 : (Y ++ zs).length = c1 := by rw [List.length_append, HM1.out]; exact HCZ.out
      have hne : g ≠ G32 := by have := R.out.lt; omega
      refine wpList_copy8 h8 _ rfl _ _ rfl g 8 (m1 - 8) (c1 - 8) (Y ++ zs) rfl R2.out _ (some ⟨G32, 0, none⟩) 4 4 _ rfl (length_enc _ _) (hr32.rd 0 _ (fun j hj => by rw [Nat.zero_add])) (by omega) (by omega) ?_
      intro w4 hr4 hgr4
      have B4 := Lib.hid ((below_then B.out (Nat.le_refl _) hb2).grown hgr4 (Nat.le_trans B.out.size hb2.size) (by intro q hq; injection hq with hq; omega))
      have HO : Hid (Own8 w4 5 w.heap.size (some ⟨g, 0, none⟩) m1 c1 (wrP tag cs)) := Lib.hid (by
        have hw : wrP tag cs = Y.take 8 ++ enc (sum (bareP Y)).toNat 4 ++ Y.drop 12 := by rw [wrP, if_pos HM.out, sum_laid, HY.out]
        rw [hw]
        have hY1 := HM1.out
        refine ⟨by simp [length_enc]; omega, .inr ⟨g, zs, rfl, hg, ?_, HCZ.out, HCM.out⟩⟩
        rw [List.take_append_of_le_length (by omega), List.drop_append_of_le_length (by omega)] at hr4
        simpa using hr4)
      clear hb2 hr4 hgr4 R2 hlt2 hne hg32 hr32 HCK R B
      go_wp2_with fail
      go_ret
      exact ⟨_, _, _, rfl, HO.out, B4.out⟩
end Go.Proofs.Ytifmhlbeodfpeaa
