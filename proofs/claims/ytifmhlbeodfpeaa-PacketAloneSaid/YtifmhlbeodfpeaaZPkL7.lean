/-
  PacketAlone, walked.
-/
import Derived.Test.YtifmhlbeodfpeaaQ32
import Derived.Deep.CutRange
import Derived.Test.YtifmhlbeodfpeaaZPkL3
import Derived.Test.YtifmhlbeodfpeaaQ26
namespace Go.Proofs.Ytifmhlbeodfpeaa
open Go.RowKit
set_option linter.unusedVariables false

/-- How many of these kinds must be alone. -/
def cntK (ks : List UInt8) : Nat := (ks.filter aloneK).length
theorem cntK_snoc (ks : List UInt8) (k : Nat) (x : UInt8) (h : ks[k]? = some x) : cntK (ks.take (k + 1)) = cntK (ks.take k) + if aloneK x then 1 else 0 := by
  rw [List.take_add_one, h, cntK, List.filter_append, List.length_append, cntK]
  congr 1
  cases hx : aloneK x <;> simp [hx]
theorem cntK_le (ks : List UInt8) : cntK ks ≤ ks.length := List.length_filter_le _ _
theorem may_cnt (cs : List Chk) (hs : ∀ x ∈ cs, x.2.2.length ≤ 8) : mayP cs = decide (0 < cs.length ∧ (cntK (cs.map Prod.fst) = 0 ∨ cs.length = 1)) := by
  have hsm : ∀ x ∈ cs, smallC x = true := fun x hx => by have := hs x hx; simp [smallC]; omega
  have hal : (cs.all fun x => smallC x && !(aloneK x.1 && decide (1 < cs.length))) = decide (cntK (cs.map Prod.fst) = 0 ∨ cs.length ≤ 1) := by
    rw [Bool.eq_iff_iff, List.all_eq_true, decide_eq_true_iff]
    constructor
    · intro h
      by_cases h1 : cs.length ≤ 1
      · exact .inr h1
      · left
        rw [cntK, List.length_eq_zero_iff, List.filter_eq_nil_iff]
        intro k hk
        obtain ⟨x, hx, rfl⟩ := List.mem_map.1 hk
        have h2 := h x hx
        rw [hsm x hx, Bool.true_and, decide_eq_true (by omega), Bool.and_true] at h2
        simpa using h2
    · rintro (h | h) x hx
      · rw [cntK, List.length_eq_zero_iff, List.filter_eq_nil_iff] at h
        have h2 := h x.1 (List.mem_map.2 ⟨x, hx, rfl⟩)
        rw [hsm x hx]
        have h4 : aloneK x.1 = false := by simpa using h2
        rw [h4]
        rfl
      · rw [hsm x hx, decide_eq_false (by omega)]
        simp
  unfold mayP
  rw [hal, Bool.eq_iff_iff, Bool.and_eq_true, decide_eq_true_iff, decide_eq_true_iff, decide_eq_true_iff]
  constructor
  · rintro ⟨h1, h2⟩
    exact ⟨h1, h2.imp id (fun h => by omega)⟩
  · rintro ⟨h1, h2⟩
    exact ⟨h1, h2.imp id (fun h => by omega)⟩
theorem size_small (cs : List Chk) (hs : ∀ x ∈ cs, x.2.2.length ≤ 8) : sizeC cs ≤ 12 * cs.length := by
  induction cs with
  | nil => exact Nat.zero_le _
  | cons x cs ih =>
    have h1 := ih (fun y hy => hs y (List.mem_cons_of_mem _ hy))
    have h2 := hs x List.mem_cons_self
    rw [sizeC, List.length_cons]
    unfold up4
    omega
theorem fit_small (cs : List Chk) (mo : UInt8) (hs : ∀ x ∈ cs ++ [(mo, (0 : UInt8), ([] : List UInt8))], x.2.2.length ≤ 8) (hl : cs.length ≤ 200) : fitsP cs (mo, 0, []) 1048576 = mayP (cs ++ [(mo, 0, [])]) := by
  have h1 := size_small _ hs
  have h2 : (cs ++ [(mo, (0 : UInt8), ([] : List UInt8))]).length = cs.length + 1 := by simp
  rw [h2] at h1
  have h3 : ((sizeP (cs ++ [(mo, (0 : UInt8), ([] : List UInt8))]) : Nat) : Int) ≤ 1048576 := by unfold sizeP; omega
  unfold fitsP
  rw [decide_eq_true h3, Bool.and_true]
theorem tmod9 (k : Nat) : Int.tmod (k : Int) 9 = ((k % 9 : Nat) : Int) := by
  rw [Int.tmod_eq_emod_of_nonneg (by omega)]
  omega
theorem alone_split (k : UInt8) : k = 1 ∨ k = 2 ∨ k = 14 ∨ aloneK k = false := by
  by_cases h1 : k = 1
  · exact .inl h1
  · by_cases h2 : k = 2
    · exact .inr (.inl h2)
    · by_cases h3 : k = 14
      · exact .inr (.inr (.inl h3))
      · exact .inr (.inr (.inr (by simp [aloneK, h1, h2, h3])))
theorem not_alone {k : UInt8} (h : aloneK k = false) : ((k.toNat : Int) == 1) = false ∧ ((k.toNat : Int) == 2) = false ∧ ((k.toNat : Int) == 14) = false := by
  refine ⟨byte_ne (b := 1) ?_, byte_ne (b := 2) ?_, byte_ne (b := 14) ?_⟩ <;> rintro rfl <;> exact absurd h (by decide)

set_option maxRecDepth 100000 in
set_option maxHeartbeats 4000000 in
theorem packetAlone_big (A : Option Addr) (n c : Nat) (mo : UInt8) (w : World) (h : 100 < n) :
    Calls Try.prog 7 #[.slice A n c, .int .u8 (mo.toNat : Int)] w fun e w' => e = .returned (.bool true) ∧ Below w.heap.size w w' := by
  go_enter Try.func7, Try.ntmps7
  rw [drawn_eq 8]
  go_wp2_with fail
  refine (works_any _).mono ?_
  rintro e w1 ⟨rfl, hb⟩
  go_wp2_with fail
  go_ret
  exact ⟨rfl, hb⟩

set_option maxRecDepth 100000 in
set_option maxHeartbeats 16000000 in
theorem packetAlone_small (A : Option Addr) (n c : Nat) (ks : List UInt8) (mo : UInt8) (w : World) (h : n ≤ 100) (hx : ks.length = n) (hr : Rd w w.heap.size A ks) :
    Calls Try.prog 7 #[.slice A n c, .int .u8 (mo.toNat : Int)] w fun e w' => e = .returned (.bool true) ∧ Below w.heap.size w w' := by
  have hz : ∀ W, (zeroValue 25).run Try.prog W = .ok (.agg #[.int .u32 0, .slice none 0 0]) W := by intro W; kernel_rfl
  have hz2 := zero_chunk
  obtain ⟨i8, h8⟩ := Try.ty8
  have HX := Lib.hid hx
  have HR := Lib.hid hr
  have HMK : Hid (∀ (m : Nat) (W : World), m ≤ 8 → (Instr.makeSlice 29 (.int .i64 (m : Int)) (.int .i64 (m : Int))).run Try.prog W = .ok (.slice (some ⟨W.heap.size, 0, none⟩) m m) (W.alloc (.cells (row8 (List.replicate m 0)) 5))) := Lib.hid fun m W hm => run_make8 h8.slice h8.info h8.zero h8.size h8.bytes .i64 .i64 m m rfl (by omega) W
  have K0 := Lib.hid (Blk.new w 25 #[.int .u32 1, .slice none 0 0])
  have B0 := Lib.hid (below_new w (.cells #[.int .u32 1, .slice none 0 0] 25))
  clear hx hr
  go_enter Try.func7, Try.ntmps7
  rw [drawn_eq 8, held_eq 9, held_eq 11, held_eq 15, held_eq 20, held_eq 21]
  go_wp2_with fail
  obtain ⟨gp, hgp⟩ : ∃ gp, gp = w.heap.size := ⟨_, rfl⟩
  rw [← hgp] at K0 ⊢
  have HGP := Lib.hid hgp
  clear hgp
  generalize w.alloc (.cells #[.int .u32 1, .slice none 0 0] 25) = v0 at K0 B0 ⊢
  go_loopw [6, 7] (fun a i wr => ∃ (k : Nat) (A1 : Option Addr) (c1 : Nat) (es : List CE), k ≤ n ∧ i = .int .i64 k ∧ a = .int .i64 (cntK (ks.take k) : Nat) ∧ Hid (es.length = k) ∧ Hid (es.map CE.k = ks.take k) ∧ Hid (∀ e ∈ es, e.xs.length ≤ 8) ∧ Hid (OC wr w.heap.size (.slice A1 k c1) es) ∧ Hid (Blk wr gp 25 #[.int .u32 1, .slice A1 k c1]) ∧ Hid (Below w.heap.size w wr)) (fun _ i _ => n - (intOf i).toNat)
  case atStart => exact ⟨0, none, 0, [], Nat.zero_le _, rfl, rfl, Lib.hid rfl, Lib.hid rfl, Lib.hid (fun e he => by cases he), Lib.hid (OC.nil _ _), K0, B0⟩
  case round =>
    clear K0 B0
    obtain ⟨k, A1, c1, es, hk, rfl, rfl, HL, HKS, HSM, O, K, B⟩ := hrel
    obtain ⟨cn, hcn⟩ : ∃ cn, cn = cntK (ks.take k) := ⟨_, rfl⟩
    rw [← hcn]
    have hcnb : cn ≤ 100 := by
      have h1 := cntK_le (ks.take k)
      rw [List.length_take] at h1
      omega
    have HCN := Lib.hid hcn
    clear hcn
    by_cases hlt : k < n
    · obtain ⟨b, o, rfl, hbl, hcx⟩ := HR.out.at_ (by intro e; have := HX.out; rw [e] at this; simp at this; omega)
      obtain ⟨x, hxk⟩ : ∃ x, ks[k]? = some x := ⟨_, List.getElem?_eq_getElem (by rw [HX.out]; exact hlt)⟩
      have hxc : w.cell? ⟨b, o + k, none⟩ = some (.int .u8 (x.toNat : Int)) := by
        have h1 := hcx k (by rw [HX.out]; exact hlt)
        have h2 := List.getElem?_eq_getElem (l := ks) (i := k) (by rw [HX.out]; exact hlt)
        rw [hxk] at h2
        injection h2 with h2
        rw [← h2] at h1
        exact h1
      have HXC : Hid (∀ W, Below w.heap.size w W → W.cell? ⟨b, o + k, none⟩ = some (.int .u8 (x.toNat : Int))) := Lib.hid fun W hW => (hW.cell hbl).trans hxc
      have HXK := Lib.hid hxk
      have HCS : Hid (cntK (ks.take (k + 1)) = cn + if aloneK x then 1 else 0) := Lib.hid (by rw [cntK_snoc ks k x hxk, ← HCN.out])
      obtain ⟨m9, hm9⟩ : ∃ m9, m9 = k % 9 := ⟨_, rfl⟩
      have hm98 : m9 ≤ 8 := by omega
      have htm : Int.tmod (k : Int) 9 = (m9 : Int) := by rw [tmod9, hm9]
      clear hcx hxc hxk hm9
      go_wp2_with fail
      rw [← drawn_eq 8]
      generalize wr = v1 at O K B ⊢
      refine wp_region_grow_tail 11 (by kernel_rfl) [(Is (.pointer (some ⟨gp, 1, none⟩))), (Is (.slice A1 k c1)), (Is (.slice (some ⟨b, o, none⟩) n c)), (Is (.int .i64 (k : Int))), (Is (.pointer (some ⟨b, o + k, none⟩))), (Is (.int .u8 (x.toNat : Int))), (Is (.int .i64 (k : Int))), (Is (.int .i64 (m9 : Int))), (NewOwn 5 v1.heap.size m9 (List.replicate m9 0)), (NewAgg 5 v1.heap.size m9 (List.replicate m9 0) (fun s => .agg #[.int .u8 (x.toNat : Int), .int .u8 0, s])), (NewCk v1.heap.size x 0 m9 (List.replicate m9 0))] rfl ?_ (by kernel_rfl) (by kernel_rfl) ?_ ?_
      · intro p hp
        simp only [List.mem_cons, List.not_mem_nil, or_false] at hp
        rcases hp with rfl | rfl | rfl | rfl | rfl | rfl | rfl | rfl | rfl | rfl | rfl
        · exact Lasts.is _
        · exact Lasts.is _
        · exact Lasts.is _
        · exact Lasts.is _
        · exact Lasts.is _
        · exact Lasts.is _
        · exact Lasts.is _
        · exact Lasts.is _
        · exact Lasts.newOwn _ _ _ _
        · exact Lasts.newAgg _ _ _ _ _
        · exact Lasts.newCk _ _ _ _ _
      · refine ⟨?_, ?_, ?_, ?_, ?_, ?_, ?_, ?_, ?_, ?_, ?_, trivial⟩
        · intro listed a w1 hl hc
          have h5 : a.tmps[5]?.getD undef = .pointer (some ⟨gp, 0, none⟩) := (hc.was 5 (by kernel_rfl)).trans rfl
          refine does_value rfl rfl (.pointer (some ⟨gp, 1, none⟩)) w1 ?_ (Below.refl _ _) rfl
          clear hc hl
          go_simp
        · intro listed a w1 hl hc
          have h22 : a.tmps[22]?.getD undef = .pointer (some ⟨gp, 1, none⟩) := hc.dep hl 0 22 rfl (by kernel_rfl)
          have kb := K.out.below hc.g K.out.lt
          have x1 : w1.cell? ⟨gp, 1, none⟩ = some (.slice A1 k c1) := kb.cell 1
          clear kb
          refine does_value rfl rfl (.slice A1 k c1) w1 ?_ (Below.refl _ _) rfl
          clear hc hl
          go_simp
        · intro listed a w1 hl hc
          have h0 : a.tmps[0]?.getD undef = .slice (some ⟨b, o, none⟩) n c := (hc.was 0 (by kernel_rfl)).trans rfl
          refine does_value rfl rfl (.slice (some ⟨b, o, none⟩) n c) w1 ?_ (Below.refl _ _) rfl
          clear hc hl
          go_simp
        · intro listed a w1 hl hc
          have h7 : a.tmps[7]?.getD undef = .int .i64 (k : Int) := (hc.was 7 (by kernel_rfl)).trans rfl
          refine does_value rfl rfl (.int .i64 (k : Int)) w1 ?_ (Below.refl _ _) rfl
          clear hc hl
          go_simp
        · intro listed a w1 hl hc
          have h24 : a.tmps[24]?.getD undef = .slice (some ⟨b, o, none⟩) n c := hc.dep hl 2 24 rfl (by kernel_rfl)
          have h25 : a.tmps[25]?.getD undef = .int .i64 (k : Int) := hc.dep hl 3 25 rfl (by kernel_rfl)
          refine does_value rfl rfl (.pointer (some ⟨b, o + k, none⟩)) w1 ?_ (Below.refl _ _) rfl
          clear hc hl
          go_simp
        · intro listed a w1 hl hc
          have h26 : a.tmps[26]?.getD undef = .pointer (some ⟨b, o + k, none⟩) := hc.dep hl 4 26 rfl (by kernel_rfl)
          have x0 := HXC.out w1 (B.out.trans (hc.g.mono B.out.size))
          refine does_value rfl rfl (.int .u8 (x.toNat : Int)) w1 ?_ (Below.refl _ _) rfl
          clear hc hl
          go_simp
        · intro listed a w1 hl hc
          have h7 : a.tmps[7]?.getD undef = .int .i64 (k : Int) := (hc.was 7 (by kernel_rfl)).trans rfl
          refine does_value rfl rfl (.int .i64 (k : Int)) w1 ?_ (Below.refl _ _) rfl
          clear hc hl
          go_simp
        · intro listed a w1 hl hc
          have h28 : a.tmps[28]?.getD undef = .int .i64 (k : Int) := hc.dep hl 6 28 rfl (by kernel_rfl)
          refine does_value rfl rfl (.int .i64 (m9 : Int)) w1 ?_ (Below.refl _ _) rfl
          clear hc hl
          go_simp
        · intro listed a w1 hl hc
          have h29 : a.tmps[29]?.getD undef = .int .i64 (m9 : Int) := hc.dep hl 7 29 rfl (by kernel_rfl)
          have hmk := HMK.out m9 w1 hm98
          refine does_value rfl rfl (.slice (some ⟨w1.heap.size, 0, none⟩) m9 m9) (w1.alloc (.cells (row8 (List.replicate m9 0)) 5)) ?_ (below_new w1 _) ⟨_, m9, rfl, Own8.of_row (RowAt.new _ _ _) hc.g.size (by simp) (by unfold maxLen; omega)⟩
          clear hc hl
          go_simp
        · intro listed a w1 hl hc
          have h27 : a.tmps[27]?.getD undef = .int .u8 (x.toNat : Int) := hc.dep hl 5 27 rfl (by kernel_rfl)
          obtain ⟨A30, c30, h30, ho30⟩ := hc.dep hl 8 30 rfl (by kernel_rfl)
          refine does_value rfl rfl (.agg #[.int .u8 (x.toNat : Int), .int .u8 0, .slice A30 m9 c30]) w1 ?_ (Below.refl _ _) ⟨A30, c30, rfl, ho30⟩
          clear hc hl
          go_simp
        · intro listed a w1 hl hc
          obtain ⟨A31, c31, h31, ho31⟩ := hc.dep hl 9 31 rfl (by kernel_rfl)
          refine does_value rfl rfl (.slice (some ⟨w1.heap.size, 0, none⟩) 1 1) (w1.alloc (.cells #[.int .u8 (x.toNat : Int), .int .u8 ((0 : UInt8).toNat : Int), .slice A31 m9 c31] 41)) ?_ (below_new w1 _) ⟨_, A31, c31, rfl, hc.g.size, Blk.new _ _ _, ho31.alloc _⟩
          clear hc hl
          go_simp
      intro w2 hb2
      rintro _ rfl _ rfl _ rfl _ rfl _ rfl _ rfl _ rfl _ rfl _ ⟨A30, c30, rfl, ho30⟩ _ ⟨A31, c31, rfl, ho31⟩ _ ⟨g32, A32, c32, rfl, hg32, hk32, ho32⟩
      simp only [Thus, List.reverse_cons, List.reverse_nil, List.nil_append, List.cons_append, List.drop, List.take, lay]
      go_frame
      have hk32b : Blk w2 g32 41 (⟨x, 0, A32, m9, c32, List.replicate m9 0⟩ : CE).cells.toArray := hk32
      obtain ⟨A4, c4, w5, hrun, hoc, hgr⟩ := OC.push 23 ⟨x, 0, A32, m9, c32, List.replicate m9 0⟩ (O.out.below hb2) HL.out hk32b (ho32.more B.out.size) (far_new O.out ho32 (Nat.le_refl _)) (by omega) (Nat.le_trans B.out.size hb2.size)
      have hnp := ownsRow_ne (O.out.below hb2).row (K.out.below hb2 K.out.lt) (by decide)
      have K5 := Lib.hid ((K.out.below hb2 K.out.lt).grown hgr hnp)
      have B5 := Lib.hid ((below_then B.out (Nat.le_refl _) hb2).grown hgr (Nat.le_trans B.out.size hb2.size) (ownsRow_ge O.out.row))
      have O5 := Lib.hid hoc
      have HL5 : Hid ((es ++ [(⟨x, 0, A32, m9, c32, List.replicate m9 0⟩ : CE)]).length = k + 1) := Lib.hid (by rw [List.length_append, HL.out]; rfl)
      have HKS5 : Hid ((es ++ [(⟨x, 0, A32, m9, c32, List.replicate m9 0⟩ : CE)]).map CE.k = ks.take (k + 1)) := Lib.hid (by rw [List.map_append, HKS.out, List.take_add_one, HXK.out]; rfl)
      have HSM5 : Hid (∀ e ∈ es ++ [(⟨x, 0, A32, m9, c32, List.replicate m9 0⟩ : CE)], e.xs.length ≤ 8) := Lib.hid fun e he => by
        rcases List.mem_append.1 he with he | he
        · exact HSM.out e he
        · rw [List.mem_singleton] at he
          subst he
          simpa using hm98
      generalize es ++ [(⟨x, 0, A32, m9, c32, List.replicate m9 0⟩ : CE)] = es5 at O5 HL5 HKS5 HSM5
      have z1 : w5.cell? ⟨gp, 1, none⟩ = some (.slice A1 k c1) := K5.out.cell 1
      have e1 := K5.out.frozen 1
      clear hb2 hg32 hk32 hk32b ho32 hoc hgr hnp O K B HMK
      refine wpList_append_run rfl _ _ 23 rfl _ _ _ rfl rfl _ rfl hrun ?_
      go_wp2_with fail
      have K6 := Lib.hid (K5.out.set_ 1 (.slice A4 (k + 1) c4))
      have O6 := Lib.hid (O5.out.setBlk K5.out (by decide) (by decide) 1 (.slice A4 (k + 1) c4))
      have B6 := Lib.hid (B5.out.setCell (p := ⟨gp, 1, none⟩) (by show w.heap.size ≤ gp; have := HGP.out; omega) (.slice A4 (k + 1) c4))
      clear K5 O5 B5 z1 e1 hrun
      generalize w5.setCell ⟨gp, 1, none⟩ (.slice A4 (k + 1) c4) = w6 at K6 O6 B6 ⊢
      rw [← held_eq 9]
      have hxc := HXC.out w6 B6.out
      rcases alone_split x with rfl | rfl | rfl | hal
      · have hxl : w6.cell? ⟨b, o + k, none⟩ = some (.int .u8 1) := hxc
        clear hxc
        go_wp2_with fail
        go_roundw
        case rel => exact ⟨k + 1, A4, c4, es5, by omega, by go_num, by rw [HCS.out]; rfl, HL5, HKS5, HSM5, O6, K6, B6⟩
        case measure => simp [intOf]; omega
      · have hxl : w6.cell? ⟨b, o + k, none⟩ = some (.int .u8 2) := hxc
        clear hxc
        go_wp2_with fail
        go_roundw
        case rel => exact ⟨k + 1, A4, c4, es5, by omega, by go_num, by rw [HCS.out]; rfl, HL5, HKS5, HSM5, O6, K6, B6⟩
        case measure => simp [intOf]; omega
      · have hxl : w6.cell? ⟨b, o + k, none⟩ = some (.int .u8 14) := hxc
        clear hxc
        go_wp2_with fail
        go_roundw
        case rel => exact ⟨k + 1, A4, c4, es5, by omega, by go_num, by rw [HCS.out]; rfl, HL5, HKS5, HSM5, O6, K6, B6⟩
        case measure => simp [intOf]; omega
      · obtain ⟨b1, b2, b3⟩ := not_alone hal
        have HAL := Lib.hid hal
        clear hal
        go_wp2_with fail
        go_roundw
        case rel => exact ⟨k + 1, A4, c4, es5, by omega, by go_num, by rw [HCS.out, HAL.out]; rfl, HL5, HKS5, HSM5, O6, K6, B6⟩
        case measure => simp [intOf]; omega
    · obtain ⟨cs, hcs⟩ : ∃ cs, cs = es.map CE.chk := ⟨_, rfl⟩
      have hkn : k = n := by omega
      have HKN := Lib.hid hkn
      have hcl : cs.length = k := by rw [hcs, List.length_map, HL.out]
      have hsm : ∀ x ∈ cs, x.2.2.length ≤ 8 := fun x hx => by
        rw [hcs] at hx
        obtain ⟨e, he, rfl⟩ := List.mem_map.1 hx
        exact HSM.out e he
      have hcc : cntK (cs.map Prod.fst) = cn := by
        rw [HCN.out, ← HKS.out, hcs, List.map_map]
        rfl
      have hck : cn ≤ k := by
        have h1 := cntK_le (cs.map Prod.fst)
        rw [hcc, List.length_map, hcl] at h1
        exact h1
      have HCH : Hid (Chunks wr wr.heap.size A1 cs) := Lib.hid (hcs ▸ O.out.chunks)
      have HCS := Lib.hid hcs
      have HES := Lib.hid HL.out
      have HCAP : Hid (k ≤ c1 ∧ c1 ≤ maxLen) := Lib.hid (by
        obtain ⟨A', c', e, h1, h2⟩ := O.out.form
        injection e with _ _ e3
        rw [HL.out] at h1
        rw [e3]
        exact ⟨h1, h2⟩)
      have HCL := Lib.hid hcl
      have HMAY : Hid (mayP cs = decide (0 < k ∧ (cn = 0 ∨ k = 1))) := Lib.hid (by rw [may_cnt cs hsm, hcc, hcl])
      obtain ⟨cn2, hcn2⟩ : ∃ cn2, cn2 = cn + if aloneK mo then 1 else 0 := ⟨_, rfl⟩
      have HCN2 := Lib.hid hcn2
      have HSM2 : Hid (∀ x ∈ cs ++ [(mo, (0 : UInt8), ([] : List UInt8))], x.2.2.length ≤ 8) := Lib.hid fun x hx => by
        rcases List.mem_append.1 hx with hx | hx
        · exact hsm x hx
        · rw [List.mem_singleton] at hx
          subst hx
          exact Nat.zero_le _
      have HMAY2 : Hid (mayP (cs ++ [(mo, (0 : UInt8), ([] : List UInt8))]) = decide (cn2 = 0 ∨ k = 0)) := Lib.hid (by
        rw [may_cnt _ HSM2.out, List.map_append, List.length_append, hcl, cntK, List.filter_append, List.length_append, ← cntK, hcc, decide_eq_decide, hcn2]
        cases hal : aloneK mo <;> simp [hal] <;> omega)
      have HFIT : Hid (fitsP cs (mo, 0, []) 1048576 = decide (cn2 = 0 ∨ k = 0)) := Lib.hid ((fit_small cs mo HSM2.out (by omega)).trans HMAY2.out)
      have HMEEK : Hid (Meek cs) := Lib.hid ⟨by omega, by have := size_small cs hsm; omega⟩
      have HWR : Hid (∀ W A2 c2 L cs', Chunks W W.heap.size A2 cs' → cs'.length = L → L ≤ 200 → Calls Try.prog 14 #[.agg #[.int .u32 1, .slice A2 L c2]] W fun e w' => ∃ A2 m c2, e = .returned (.slice A2 m c2) ∧ decide (0 < m) = mayP cs' ∧ Below W.heap.size W w') := Lib.hid fun W A2 c2 L cs' hch hl hL => (writeP_any 1 A2 L c2 cs' W (by decide) (by omega) hl hch).mono fun e w' ⟨A3, m, c3, he, ho, hb⟩ => by
        refine ⟨A3, m, c3, he, ?_, hb⟩
        have hlen := ho.len
        cases hm : mayP cs' with
        | true =>
          rw [length_wrP hm] at hlen
          unfold sizeP at hlen
          exact decide_eq_true (by omega)
        | false =>
          rw [wrP, if_neg (by rw [hm]; decide)] at hlen
          simp at hlen
          exact decide_eq_false (by omega)
      have y0 : wr.cell? ⟨gp, 0, none⟩ = some (.int .u32 1) := K.out.cell 0
      have y1 : wr.cell? ⟨gp, 1, none⟩ = some (.slice A1 k c1) := K.out.cell 1
      clear hcs hcl hsm hcc hcn2 HKS HCN HL HMK HSM
      rw [← hkn]
      clear hkn hlt h
      go_wp2_with fail
      rw [← held_eq 11]
      rcases Nat.eq_zero_or_pos k with hk0 | hk0
      · skip
        have hcn0 : cn = 0 := by omega
        have hk0b : ¬ 0 < k := by omega
        have hkI : decide ((0 : Int) < (k : Int)) = false := decide_eq_false (by omega)
        have HK0 := Lib.hid hk0
        have HCN0 := Lib.hid hcn0
        have hcI : ((cn : Int) == 0) = true := by rw [hcn0]; rfl
        have hk0e : ((k : Int) == 0) = true := by rw [hk0]; rfl
        clear hk0 hcn0
        have HMY : Hid (mayP cs = false) := Lib.hid (by rw [HMAY.out]; exact decide_eq_false (by have e1 := HK0.out; have e2 := HCN0.out; (try have e3 := HK1.out); omega))
        go_wp2_with fail
        clear y0 y1
        refine (HWR.out wr A1 c1 k cs HCH.out HCL.out (by omega)).mono ?_
        rintro e w2 ⟨Aw, mw, cw, rfl, hmw, hb⟩
        rw [HMY.out] at hmw
        have hmw2 : ¬ 0 < mw := of_decide_eq_false hmw
        have hmw3 : decide ((0 : Int) < (mw : Int)) = false := decide_eq_false (by omega)
        have OB : Hid (Below w2.heap.size w2 (w2.alloc (.cells #[.int .u8 (mo.toNat : Int), .int .u8 0, .slice none 0 0] 41))) := Lib.hid (below_new w2 _)
        have K2 := Lib.hid ((K.out.below hb K.out.lt).below OB.out (K.out.below hb K.out.lt).lt)
        have O2 := Lib.hid ((O.out.below hb).below OB.out)
        have B2 := Lib.hid (below_then (below_then B.out (Nat.le_refl _) hb) (Nat.le_refl _) OB.out)
        have C2 := Lib.hid (((HCH.out.below hb).more hb.size).below OB.out |>.more OB.out.size)
        have X2 := Lib.hid (Blk.new w2 41 #[.int .u8 (mo.toNat : Int), .int .u8 0, .slice none 0 0])
        obtain ⟨gx, hgx⟩ : ∃ gx, gx = w2.heap.size := ⟨_, rfl⟩
        rw [← hgx] at X2
        have HGX := Lib.hid hgx
        clear hb hmw hgx K O B HCH OB
        go_wp2_with fail
        rw [← HGX.out]
        generalize w2.alloc (.cells #[.int .u8 (mo.toNat : Int), .int .u8 0, .slice none 0 0] 41) = v2 at K2 O2 B2 C2 X2 ⊢
        clear HGX hmw2 hmw3
        rw [← held_eq 15]
        go_cut [85] from 76 to 114 (fun s wx => s = .bool (aloneK mo) ∧ wx = v2)
        case first =>
          rcases alone_split mo with rfl | rfl | rfl | hal
          · go_wp2_with fail
            go_meet
            case rel => exact ⟨rfl, rfl⟩
          · go_wp2_with fail
            go_meet
            case rel => exact ⟨rfl, rfl⟩
          · go_wp2_with fail
            go_meet
            case rel => exact ⟨rfl, rfl⟩
          · obtain ⟨b1, b2, b3⟩ := not_alone hal
            have HAL := Lib.hid hal
            clear hal
            go_wp2_with fail
            go_meet
            case rel => exact ⟨by rw [HAL.out], rfl⟩
        obtain ⟨rfl, rfl⟩ := hcut
        rcases Bool.eq_false_or_eq_true (aloneK mo) with hal | hal
        · skip
          have HCK := Lib.hid hck
          have hq1 : ((cn : Int) + 1 == 0) = false := beq_false_of_ne (by omega)
          have HK00 := HK0.out
          have HCN00 := HCN0.out
          have hc2 : cn2 = cn + 1 := by rw [HCN2.out, hal]; rfl
          have HF : Hid (fitsP cs (mo, 0, []) 1048576 = true) := Lib.hid (by rw [HFIT.out]; exact decide_eq_true (by omega))
          have HF2 : Hid (mayP (cs ++ [(mo, (0 : UInt8), ([] : List UInt8))]) = true) := Lib.hid (by rw [HMAY2.out]; exact decide_eq_true (by omega))
          rw [hal]
          clear hc2 hal HK00 HCN00
          have y0 : wc.cell? ⟨gp, 0, none⟩ = some (.int .u32 1) := K2.out.cell 0
          have y1 : wc.cell? ⟨gp, 1, none⟩ = some (.slice A1 k c1) := K2.out.cell 1
          have x0 : wc.cell? ⟨gx, 0, none⟩ = some (.int .u8 (mo.toNat : Int)) := X2.out.cell 0
          have x1 : wc.cell? ⟨gx, 1, none⟩ = some (.int .u8 0) := X2.out.cell 1
          have x2 : wc.cell? ⟨gx, 2, none⟩ = some (.slice none 0 0) := X2.out.cell 2
          go_wp2_with fail
          refine (fits_any 1 A1 k c1 cs mo 0 none 0 0 [] 1048576 wc HMEEK.out HCAP.out.1 HCAP.out.2 HCL.out C2.out (by omega) (Nat.le_refl _) (by unfold maxLen; omega) rfl (Rd.nil _ _ _)).mono ?_
          rintro e w3 ⟨rfl, hb⟩
          rw [HF.out]
          clear y0 y1 x0 x1 x2
          have K3 := Lib.hid (K2.out.below hb K2.out.lt)
          have X3 := Lib.hid (X2.out.below hb X2.out.lt)
          have O3 := Lib.hid (O2.out.below hb)
          have B3 := Lib.hid (below_then B2.out (Nat.le_refl _) hb)
          clear hb K2 O2 B2 C2 X2
          go_wp2_with fail
          rw [← held_eq 20]
          have y1 : w3.cell? ⟨gp, 1, none⟩ = some (.slice A1 k c1) := K3.out.cell 1
          have x0 : w3.cell? ⟨gx, 0, none⟩ = some (.int .u8 (mo.toNat : Int)) := X3.out.cell 0
          have x1 : w3.cell? ⟨gx, 1, none⟩ = some (.int .u8 0) := X3.out.cell 1
          have x2 : w3.cell? ⟨gx, 2, none⟩ = some (.slice none 0 0) := X3.out.cell 2
          have BC : Hid (Below w3.heap.size w3 (w3.alloc (.cells #[.int .u8 (mo.toNat : Int), .int .u8 0, .slice none 0 0] 41))) := Lib.hid (below_new w3 _)
          obtain ⟨A4, c4, w5, hrun, hoc, hgr⟩ := OC.push 23 (⟨mo, 0, none, 0, 0, []⟩ : CE) (O3.out.below BC.out) HES.out (Blk.new w3 41 #[.int .u8 (mo.toNat : Int), .int .u8 0, .slice none 0 0]) (Own8.nil _ _ _) (fun x _ g _ h => by cases h) (by omega) (Nat.le_trans B3.out.size BC.out.size)
          have hnp := ownsRow_ne (O3.out.below BC.out).row (K3.out.below BC.out K3.out.lt) (by decide)
          have K5 := Lib.hid ((K3.out.below BC.out K3.out.lt).grown hgr hnp)
          have B5 := Lib.hid ((below_then B3.out (Nat.le_refl _) BC.out).grown hgr (Nat.le_trans B3.out.size BC.out.size) (ownsRow_ge O3.out.row))
          have O5 := Lib.hid hoc
          have z1 : w5.cell? ⟨gp, 1, none⟩ = some (.slice A1 k c1) := K5.out.cell 1
          have e1 := K5.out.frozen 1
          clear hgr hnp hoc K3 O3 B3 X3 BC
          go_wp2_with (at_builtin; refine wpList_append_run rfl _ _ 23 rfl _ _ _ rfl rfl _ rfl hrun ?_)
          have K6 := Lib.hid (K5.out.set_ 1 (.slice A4 (k + 1) c4))
          have O6 := Lib.hid (O5.out.setBlk K5.out (by decide) (by decide) 1 (.slice A4 (k + 1) c4))
          have B6 := Lib.hid (B5.out.setCell (p := ⟨gp, 1, none⟩) (by show w.heap.size ≤ gp; have := HGP.out; omega) (.slice A4 (k + 1) c4))
          clear K5 O5 B5 z1 e1 hrun y1 x0 x1 x2
          generalize w5.setCell ⟨gp, 1, none⟩ (.slice A4 (k + 1) c4) = w6 at K6 O6 B6 ⊢
          rw [← held_eq 21]
          have C6 : Hid (Chunks w6 w6.heap.size A4 (cs ++ [(mo, (0 : UInt8), ([] : List UInt8))])) := Lib.hid (by have h := O6.out.chunks; rw [List.map_append, ← HCS.out] at h; exact h)
          have y0 : w6.cell? ⟨gp, 0, none⟩ = some (.int .u32 1) := K6.out.cell 0
          have y1 : w6.cell? ⟨gp, 1, none⟩ = some (.slice A4 (k + 1) c4) := K6.out.cell 1
          go_wp2_with fail
          refine (HWR.out w6 A4 c4 (k + 1) _ C6.out (by rw [List.length_append, HCL.out]; rfl) (by omega)).mono ?_
          rintro e w7 ⟨Aw2, mw2, cw2, rfl, hm, hb⟩
          rw [HF2.out] at hm
          have hm2 : 0 < mw2 := of_decide_eq_true hm
          have hm3 : decide ((0 : Int) < (mw2 : Int)) = true := decide_eq_true (by omega)
          have B7 := Lib.hid (below_then B6.out (Nat.le_refl _) hb)
          clear hb hm y0 y1
          go_wp2_with fail
          refine (works_any _).mono ?_
          rintro e w8 ⟨rfl, hb8⟩
          have B8 := Lib.hid (below_then B7.out (Nat.le_refl _) hb8)
          go_wp2_with fail
          go_ret
          exact ⟨rfl, B8.out⟩
        · skip
          have HCK := Lib.hid hck
          have HK00 := HK0.out
          have HCN00 := HCN0.out
          have hc2 : cn2 = cn := by rw [HCN2.out, hal]; rfl
          have HF : Hid (fitsP cs (mo, 0, []) 1048576 = true) := Lib.hid (by rw [HFIT.out]; exact decide_eq_true (by omega))
          have HF2 : Hid (mayP (cs ++ [(mo, (0 : UInt8), ([] : List UInt8))]) = true) := Lib.hid (by rw [HMAY2.out]; exact decide_eq_true (by omega))
          rw [hal]
          clear hc2 hal HK00 HCN00
          have y0 : wc.cell? ⟨gp, 0, none⟩ = some (.int .u32 1) := K2.out.cell 0
          have y1 : wc.cell? ⟨gp, 1, none⟩ = some (.slice A1 k c1) := K2.out.cell 1
          have x0 : wc.cell? ⟨gx, 0, none⟩ = some (.int .u8 (mo.toNat : Int)) := X2.out.cell 0
          have x1 : wc.cell? ⟨gx, 1, none⟩ = some (.int .u8 0) := X2.out.cell 1
          have x2 : wc.cell? ⟨gx, 2, none⟩ = some (.slice none 0 0) := X2.out.cell 2
          go_wp2_with fail
          refine (fits_any 1 A1 k c1 cs mo 0 none 0 0 [] 1048576 wc HMEEK.out HCAP.out.1 HCAP.out.2 HCL.out C2.out (by omega) (Nat.le_refl _) (by unfold maxLen; omega) rfl (Rd.nil _ _ _)).mono ?_
          rintro e w3 ⟨rfl, hb⟩
          rw [HF.out]
          clear y0 y1 x0 x1 x2
          have K3 := Lib.hid (K2.out.below hb K2.out.lt)
          have X3 := Lib.hid (X2.out.below hb X2.out.lt)
          have O3 := Lib.hid (O2.out.below hb)
          have B3 := Lib.hid (below_then B2.out (Nat.le_refl _) hb)
          clear hb K2 O2 B2 C2 X2
          go_wp2_with fail
          rw [← held_eq 20]
          have y1 : w3.cell? ⟨gp, 1, none⟩ = some (.slice A1 k c1) := K3.out.cell 1
          have x0 : w3.cell? ⟨gx, 0, none⟩ = some (.int .u8 (mo.toNat : Int)) := X3.out.cell 0
          have x1 : w3.cell? ⟨gx, 1, none⟩ = some (.int .u8 0) := X3.out.cell 1
          have x2 : w3.cell? ⟨gx, 2, none⟩ = some (.slice none 0 0) := X3.out.cell 2
          have BC : Hid (Below w3.heap.size w3 (w3.alloc (.cells #[.int .u8 (mo.toNat : Int), .int .u8 0, .slice none 0 0] 41))) := Lib.hid (below_new w3 _)
          obtain ⟨A4, c4, w5, hrun, hoc, hgr⟩ := OC.push 23 (⟨mo, 0, none, 0, 0, []⟩ : CE) (O3.out.below BC.out) HES.out (Blk.new w3 41 #[.int .u8 (mo.toNat : Int), .int .u8 0, .slice none 0 0]) (Own8.nil _ _ _) (fun x _ g _ h => by cases h) (by omega) (Nat.le_trans B3.out.size BC.out.size)
          have hnp := ownsRow_ne (O3.out.below BC.out).row (K3.out.below BC.out K3.out.lt) (by decide)
          have K5 := Lib.hid ((K3.out.below BC.out K3.out.lt).grown hgr hnp)
          have B5 := Lib.hid ((below_then B3.out (Nat.le_refl _) BC.out).grown hgr (Nat.le_trans B3.out.size BC.out.size) (ownsRow_ge O3.out.row))
          have O5 := Lib.hid hoc
          have z1 : w5.cell? ⟨gp, 1, none⟩ = some (.slice A1 k c1) := K5.out.cell 1
          have e1 := K5.out.frozen 1
          clear hgr hnp hoc K3 O3 B3 X3 BC
          go_wp2_with (at_builtin; refine wpList_append_run rfl _ _ 23 rfl _ _ _ rfl rfl _ rfl hrun ?_)
          have K6 := Lib.hid (K5.out.set_ 1 (.slice A4 (k + 1) c4))
          have O6 := Lib.hid (O5.out.setBlk K5.out (by decide) (by decide) 1 (.slice A4 (k + 1) c4))
          have B6 := Lib.hid (B5.out.setCell (p := ⟨gp, 1, none⟩) (by show w.heap.size ≤ gp; have := HGP.out; omega) (.slice A4 (k + 1) c4))
          clear K5 O5 B5 z1 e1 hrun y1 x0 x1 x2
          generalize w5.setCell ⟨gp, 1, none⟩ (.slice A4 (k + 1) c4) = w6 at K6 O6 B6 ⊢
          rw [← held_eq 21]
          have C6 : Hid (Chunks w6 w6.heap.size A4 (cs ++ [(mo, (0 : UInt8), ([] : List UInt8))])) := Lib.hid (by have h := O6.out.chunks; rw [List.map_append, ← HCS.out] at h; exact h)
          have y0 : w6.cell? ⟨gp, 0, none⟩ = some (.int .u32 1) := K6.out.cell 0
          have y1 : w6.cell? ⟨gp, 1, none⟩ = some (.slice A4 (k + 1) c4) := K6.out.cell 1
          go_wp2_with fail
          refine (HWR.out w6 A4 c4 (k + 1) _ C6.out (by rw [List.length_append, HCL.out]; rfl) (by omega)).mono ?_
          rintro e w7 ⟨Aw2, mw2, cw2, rfl, hm, hb⟩
          rw [HF2.out] at hm
          have hm2 : 0 < mw2 := of_decide_eq_true hm
          have hm3 : decide ((0 : Int) < (mw2 : Int)) = true := decide_eq_true (by omega)
          have B7 := Lib.hid (below_then B6.out (Nat.le_refl _) hb)
          clear hb hm y0 y1
          go_wp2_with fail
          refine (works_any _).mono ?_
          rintro e w8 ⟨rfl, hb8⟩
          have B8 := Lib.hid (below_then B7.out (Nat.le_refl _) hb8)
          go_wp2_with fail
          go_ret
          exact ⟨rfl, B8.out⟩
      · rcases Nat.eq_zero_or_pos cn with hcn0 | hcn0
        · skip
          have hkI : decide ((0 : Int) < (k : Int)) = true := decide_eq_true (by omega)
          have HK0 := Lib.hid hk0
          have HCN0 := Lib.hid hcn0
          have hcI : ((cn : Int) == 0) = true := by rw [hcn0]; rfl
          have hk0e : ((k : Int) == 0) = false := beq_false_of_ne (by omega)
          clear hcn0
          have HMY : Hid (mayP cs = true) := Lib.hid (by rw [HMAY.out]; exact decide_eq_true (by have e1 := HK0.out; have e2 := HCN0.out; (try have e3 := HK1.out); omega))
          go_wp2_with fail
          clear y0 y1
          refine (HWR.out wr A1 c1 k cs HCH.out HCL.out (by omega)).mono ?_
          rintro e w2 ⟨Aw, mw, cw, rfl, hmw, hb⟩
          rw [HMY.out] at hmw
          have hmw2 : 0 < mw := of_decide_eq_true hmw
          have hmw3 : decide ((0 : Int) < (mw : Int)) = true := decide_eq_true (by omega)
          have OB : Hid (Below w2.heap.size w2 (w2.alloc (.cells #[.int .u8 (mo.toNat : Int), .int .u8 0, .slice none 0 0] 41))) := Lib.hid (below_new w2 _)
          have K2 := Lib.hid ((K.out.below hb K.out.lt).below OB.out (K.out.below hb K.out.lt).lt)
          have O2 := Lib.hid ((O.out.below hb).below OB.out)
          have B2 := Lib.hid (below_then (below_then B.out (Nat.le_refl _) hb) (Nat.le_refl _) OB.out)
          have C2 := Lib.hid (((HCH.out.below hb).more hb.size).below OB.out |>.more OB.out.size)
          have X2 := Lib.hid (Blk.new w2 41 #[.int .u8 (mo.toNat : Int), .int .u8 0, .slice none 0 0])
          obtain ⟨gx, hgx⟩ : ∃ gx, gx = w2.heap.size := ⟨_, rfl⟩
          rw [← hgx] at X2
          have HGX := Lib.hid hgx
          clear hb hmw hgx K O B HCH OB
          go_wp2_with fail
          rw [← HGX.out]
          generalize w2.alloc (.cells #[.int .u8 (mo.toNat : Int), .int .u8 0, .slice none 0 0] 41) = v2 at K2 O2 B2 C2 X2 ⊢
          clear HGX hmw2 hmw3
          rw [← held_eq 15]
          go_cut [85] from 76 to 114 (fun s wx => s = .bool (aloneK mo) ∧ wx = v2)
          case first =>
            rcases alone_split mo with rfl | rfl | rfl | hal
            · go_wp2_with fail
              go_meet
              case rel => exact ⟨rfl, rfl⟩
            · go_wp2_with fail
              go_meet
              case rel => exact ⟨rfl, rfl⟩
            · go_wp2_with fail
              go_meet
              case rel => exact ⟨rfl, rfl⟩
            · obtain ⟨b1, b2, b3⟩ := not_alone hal
              have HAL := Lib.hid hal
              clear hal
              go_wp2_with fail
              go_meet
              case rel => exact ⟨by rw [HAL.out], rfl⟩
          obtain ⟨rfl, rfl⟩ := hcut
          rcases Bool.eq_false_or_eq_true (aloneK mo) with hal | hal
          · skip
            have HCK := Lib.hid hck
            have hq1 : ((cn : Int) + 1 == 0) = false := beq_false_of_ne (by omega)
            have HK00 := HK0.out
            have HCN00 := HCN0.out
            have hc2 : cn2 = cn + 1 := by rw [HCN2.out, hal]; rfl
            have HF : Hid (fitsP cs (mo, 0, []) 1048576 = false) := Lib.hid (by rw [HFIT.out]; exact decide_eq_false (by omega))
            have HF2 : Hid (mayP (cs ++ [(mo, (0 : UInt8), ([] : List UInt8))]) = false) := Lib.hid (by rw [HMAY2.out]; exact decide_eq_false (by omega))
            rw [hal]
            clear hc2 hal HK00 HCN00
            have y0 : wc.cell? ⟨gp, 0, none⟩ = some (.int .u32 1) := K2.out.cell 0
            have y1 : wc.cell? ⟨gp, 1, none⟩ = some (.slice A1 k c1) := K2.out.cell 1
            have x0 : wc.cell? ⟨gx, 0, none⟩ = some (.int .u8 (mo.toNat : Int)) := X2.out.cell 0
            have x1 : wc.cell? ⟨gx, 1, none⟩ = some (.int .u8 0) := X2.out.cell 1
            have x2 : wc.cell? ⟨gx, 2, none⟩ = some (.slice none 0 0) := X2.out.cell 2
            go_wp2_with fail
            refine (fits_any 1 A1 k c1 cs mo 0 none 0 0 [] 1048576 wc HMEEK.out HCAP.out.1 HCAP.out.2 HCL.out C2.out (by omega) (Nat.le_refl _) (by unfold maxLen; omega) rfl (Rd.nil _ _ _)).mono ?_
            rintro e w3 ⟨rfl, hb⟩
            rw [HF.out]
            clear y0 y1 x0 x1 x2
            have K3 := Lib.hid (K2.out.below hb K2.out.lt)
            have X3 := Lib.hid (X2.out.below hb X2.out.lt)
            have O3 := Lib.hid (O2.out.below hb)
            have B3 := Lib.hid (below_then B2.out (Nat.le_refl _) hb)
            clear hb K2 O2 B2 C2 X2
            go_wp2_with fail
            rw [← held_eq 20]
            have y1 : w3.cell? ⟨gp, 1, none⟩ = some (.slice A1 k c1) := K3.out.cell 1
            have x0 : w3.cell? ⟨gx, 0, none⟩ = some (.int .u8 (mo.toNat : Int)) := X3.out.cell 0
            have x1 : w3.cell? ⟨gx, 1, none⟩ = some (.int .u8 0) := X3.out.cell 1
            have x2 : w3.cell? ⟨gx, 2, none⟩ = some (.slice none 0 0) := X3.out.cell 2
            have BC : Hid (Below w3.heap.size w3 (w3.alloc (.cells #[.int .u8 (mo.toNat : Int), .int .u8 0, .slice none 0 0] 41))) := Lib.hid (below_new w3 _)
            obtain ⟨A4, c4, w5, hrun, hoc, hgr⟩ := OC.push 23 (⟨mo, 0, none, 0, 0, []⟩ : CE) (O3.out.below BC.out) HES.out (Blk.new w3 41 #[.int .u8 (mo.toNat : Int), .int .u8 0, .slice none 0 0]) (Own8.nil _ _ _) (fun x _ g _ h => by cases h) (by omega) (Nat.le_trans B3.out.size BC.out.size)
            have hnp := ownsRow_ne (O3.out.below BC.out).row (K3.out.below BC.out K3.out.lt) (by decide)
            have K5 := Lib.hid ((K3.out.below BC.out K3.out.lt).grown hgr hnp)
            have B5 := Lib.hid ((below_then B3.out (Nat.le_refl _) BC.out).grown hgr (Nat.le_trans B3.out.size BC.out.size) (ownsRow_ge O3.out.row))
            have O5 := Lib.hid hoc
            have z1 : w5.cell? ⟨gp, 1, none⟩ = some (.slice A1 k c1) := K5.out.cell 1
            have e1 := K5.out.frozen 1
            clear hgr hnp hoc K3 O3 B3 X3 BC
            go_wp2_with (at_builtin; refine wpList_append_run rfl _ _ 23 rfl _ _ _ rfl rfl _ rfl hrun ?_)
            have K6 := Lib.hid (K5.out.set_ 1 (.slice A4 (k + 1) c4))
            have O6 := Lib.hid (O5.out.setBlk K5.out (by decide) (by decide) 1 (.slice A4 (k + 1) c4))
            have B6 := Lib.hid (B5.out.setCell (p := ⟨gp, 1, none⟩) (by show w.heap.size ≤ gp; have := HGP.out; omega) (.slice A4 (k + 1) c4))
            clear K5 O5 B5 z1 e1 hrun y1 x0 x1 x2
            generalize w5.setCell ⟨gp, 1, none⟩ (.slice A4 (k + 1) c4) = w6 at K6 O6 B6 ⊢
            rw [← held_eq 21]
            have C6 : Hid (Chunks w6 w6.heap.size A4 (cs ++ [(mo, (0 : UInt8), ([] : List UInt8))])) := Lib.hid (by have h := O6.out.chunks; rw [List.map_append, ← HCS.out] at h; exact h)
            have y0 : w6.cell? ⟨gp, 0, none⟩ = some (.int .u32 1) := K6.out.cell 0
            have y1 : w6.cell? ⟨gp, 1, none⟩ = some (.slice A4 (k + 1) c4) := K6.out.cell 1
            go_wp2_with fail
            refine (HWR.out w6 A4 c4 (k + 1) _ C6.out (by rw [List.length_append, HCL.out]; rfl) (by omega)).mono ?_
            rintro e w7 ⟨Aw2, mw2, cw2, rfl, hm, hb⟩
            rw [HF2.out] at hm
            have hm2 : ¬ 0 < mw2 := of_decide_eq_false hm
            have hm3 : decide ((0 : Int) < (mw2 : Int)) = false := decide_eq_false (by omega)
            have B7 := Lib.hid (below_then B6.out (Nat.le_refl _) hb)
            clear hb hm y0 y1
            go_wp2_with fail
            refine (works_any _).mono ?_
            rintro e w8 ⟨rfl, hb8⟩
            have B8 := Lib.hid (below_then B7.out (Nat.le_refl _) hb8)
            go_wp2_with fail
            go_ret
            exact ⟨rfl, B8.out⟩
          · skip
            have HCK := Lib.hid hck
            have HK00 := HK0.out
            have HCN00 := HCN0.out
            have hc2 : cn2 = cn := by rw [HCN2.out, hal]; rfl
            have HF : Hid (fitsP cs (mo, 0, []) 1048576 = true) := Lib.hid (by rw [HFIT.out]; exact decide_eq_true (by omega))
            have HF2 : Hid (mayP (cs ++ [(mo, (0 : UInt8), ([] : List UInt8))]) = true) := Lib.hid (by rw [HMAY2.out]; exact decide_eq_true (by omega))
            rw [hal]
            clear hc2 hal HK00 HCN00
            have y0 : wc.cell? ⟨gp, 0, none⟩ = some (.int .u32 1) := K2.out.cell 0
            have y1 : wc.cell? ⟨gp, 1, none⟩ = some (.slice A1 k c1) := K2.out.cell 1
            have x0 : wc.cell? ⟨gx, 0, none⟩ = some (.int .u8 (mo.toNat : Int)) := X2.out.cell 0
            have x1 : wc.cell? ⟨gx, 1, none⟩ = some (.int .u8 0) := X2.out.cell 1
            have x2 : wc.cell? ⟨gx, 2, none⟩ = some (.slice none 0 0) := X2.out.cell 2
            go_wp2_with fail
            refine (fits_any 1 A1 k c1 cs mo 0 none 0 0 [] 1048576 wc HMEEK.out HCAP.out.1 HCAP.out.2 HCL.out C2.out (by omega) (Nat.le_refl _) (by unfold maxLen; omega) rfl (Rd.nil _ _ _)).mono ?_
            rintro e w3 ⟨rfl, hb⟩
            rw [HF.out]
            clear y0 y1 x0 x1 x2
            have K3 := Lib.hid (K2.out.below hb K2.out.lt)
            have X3 := Lib.hid (X2.out.below hb X2.out.lt)
            have O3 := Lib.hid (O2.out.below hb)
            have B3 := Lib.hid (below_then B2.out (Nat.le_refl _) hb)
            clear hb K2 O2 B2 C2 X2
            go_wp2_with fail
            rw [← held_eq 20]
            have y1 : w3.cell? ⟨gp, 1, none⟩ = some (.slice A1 k c1) := K3.out.cell 1
            have x0 : w3.cell? ⟨gx, 0, none⟩ = some (.int .u8 (mo.toNat : Int)) := X3.out.cell 0
            have x1 : w3.cell? ⟨gx, 1, none⟩ = some (.int .u8 0) := X3.out.cell 1
            have x2 : w3.cell? ⟨gx, 2, none⟩ = some (.slice none 0 0) := X3.out.cell 2
            have BC : Hid (Below w3.heap.size w3 (w3.alloc (.cells #[.int .u8 (mo.toNat : Int), .int .u8 0, .slice none 0 0] 41))) := Lib.hid (below_new w3 _)
            obtain ⟨A4, c4, w5, hrun, hoc, hgr⟩ := OC.push 23 (⟨mo, 0, none, 0, 0, []⟩ : CE) (O3.out.below BC.out) HES.out (Blk.new w3 41 #[.int .u8 (mo.toNat : Int), .int .u8 0, .slice none 0 0]) (Own8.nil _ _ _) (fun x _ g _ h => by cases h) (by omega) (Nat.le_trans B3.out.size BC.out.size)
            have hnp := ownsRow_ne (O3.out.below BC.out).row (K3.out.below BC.out K3.out.lt) (by decide)
            have K5 := Lib.hid ((K3.out.below BC.out K3.out.lt).grown hgr hnp)
            have B5 := Lib.hid ((below_then B3.out (Nat.le_refl _) BC.out).grown hgr (Nat.le_trans B3.out.size BC.out.size) (ownsRow_ge O3.out.row))
            have O5 := Lib.hid hoc
            have z1 : w5.cell? ⟨gp, 1, none⟩ = some (.slice A1 k c1) := K5.out.cell 1
            have e1 := K5.out.frozen 1
            clear hgr hnp hoc K3 O3 B3 X3 BC
            go_wp2_with (at_builtin; refine wpList_append_run rfl _ _ 23 rfl _ _ _ rfl rfl _ rfl hrun ?_)
            have K6 := Lib.hid (K5.out.set_ 1 (.slice A4 (k + 1) c4))
            have O6 := Lib.hid (O5.out.setBlk K5.out (by decide) (by decide) 1 (.slice A4 (k + 1) c4))
            have B6 := Lib.hid (B5.out.setCell (p := ⟨gp, 1, none⟩) (by show w.heap.size ≤ gp; have := HGP.out; omega) (.slice A4 (k + 1) c4))
            clear K5 O5 B5 z1 e1 hrun y1 x0 x1 x2
            generalize w5.setCell ⟨gp, 1, none⟩ (.slice A4 (k + 1) c4) = w6 at K6 O6 B6 ⊢
            rw [← held_eq 21]
            have C6 : Hid (Chunks w6 w6.heap.size A4 (cs ++ [(mo, (0 : UInt8), ([] : List UInt8))])) := Lib.hid (by have h := O6.out.chunks; rw [List.map_append, ← HCS.out] at h; exact h)
            have y0 : w6.cell? ⟨gp, 0, none⟩ = some (.int .u32 1) := K6.out.cell 0
            have y1 : w6.cell? ⟨gp, 1, none⟩ = some (.slice A4 (k + 1) c4) := K6.out.cell 1
            go_wp2_with fail
            refine (HWR.out w6 A4 c4 (k + 1) _ C6.out (by rw [List.length_append, HCL.out]; rfl) (by omega)).mono ?_
            rintro e w7 ⟨Aw2, mw2, cw2, rfl, hm, hb⟩
            rw [HF2.out] at hm
            have hm2 : 0 < mw2 := of_decide_eq_true hm
            have hm3 : decide ((0 : Int) < (mw2 : Int)) = true := decide_eq_true (by omega)
            have B7 := Lib.hid (below_then B6.out (Nat.le_refl _) hb)
            clear hb hm y0 y1
            go_wp2_with fail
            refine (works_any _).mono ?_
            rintro e w8 ⟨rfl, hb8⟩
            have B8 := Lib.hid (below_then B7.out (Nat.le_refl _) hb8)
            go_wp2_with fail
            go_ret
            exact ⟨rfl, B8.out⟩
        · by_cases hk1 : k = 1
          · skip
            have hkI : decide ((0 : Int) < (k : Int)) = true := decide_eq_true (by omega)
            have HK0 := Lib.hid hk0
            have HCN0 := Lib.hid hcn0
            have HK1 := Lib.hid hk1
            have hcI : ((cn : Int) == 0) = false := beq_false_of_ne (by omega)
            have hk0e : ((k : Int) == 0) = false := beq_false_of_ne (by omega)
            have hk1b : ((k : Int) == 1) = true := by rw [hk1]; rfl
            clear hk1
            have HMY : Hid (mayP cs = true) := Lib.hid (by rw [HMAY.out]; exact decide_eq_true (by have e1 := HK0.out; have e2 := HCN0.out; (try have e3 := HK1.out); omega))
            go_wp2_with fail
            clear y0 y1
            refine (HWR.out wr A1 c1 k cs HCH.out HCL.out (by omega)).mono ?_
            rintro e w2 ⟨Aw, mw, cw, rfl, hmw, hb⟩
            rw [HMY.out] at hmw
            have hmw2 : 0 < mw := of_decide_eq_true hmw
            have hmw3 : decide ((0 : Int) < (mw : Int)) = true := decide_eq_true (by omega)
            have OB : Hid (Below w2.heap.size w2 (w2.alloc (.cells #[.int .u8 (mo.toNat : Int), .int .u8 0, .slice none 0 0] 41))) := Lib.hid (below_new w2 _)
            have K2 := Lib.hid ((K.out.below hb K.out.lt).below OB.out (K.out.below hb K.out.lt).lt)
            have O2 := Lib.hid ((O.out.below hb).below OB.out)
            have B2 := Lib.hid (below_then (below_then B.out (Nat.le_refl _) hb) (Nat.le_refl _) OB.out)
            have C2 := Lib.hid (((HCH.out.below hb).more hb.size).below OB.out |>.more OB.out.size)
            have X2 := Lib.hid (Blk.new w2 41 #[.int .u8 (mo.toNat : Int), .int .u8 0, .slice none 0 0])
            obtain ⟨gx, hgx⟩ : ∃ gx, gx = w2.heap.size := ⟨_, rfl⟩
            rw [← hgx] at X2
            have HGX := Lib.hid hgx
            clear hb hmw hgx K O B HCH OB
            go_wp2_with fail
            rw [← HGX.out]
            generalize w2.alloc (.cells #[.int .u8 (mo.toNat : Int), .int .u8 0, .slice none 0 0] 41) = v2 at K2 O2 B2 C2 X2 ⊢
            clear HGX hmw2 hmw3
            rw [← held_eq 15]
            go_cut [85] from 76 to 114 (fun s wx => s = .bool (aloneK mo) ∧ wx = v2)
            case first =>
              rcases alone_split mo with rfl | rfl | rfl | hal
              · go_wp2_with fail
                go_meet
                case rel => exact ⟨rfl, rfl⟩
              · go_wp2_with fail
                go_meet
                case rel => exact ⟨rfl, rfl⟩
              · go_wp2_with fail
                go_meet
                case rel => exact ⟨rfl, rfl⟩
              · obtain ⟨b1, b2, b3⟩ := not_alone hal
                have HAL := Lib.hid hal
                clear hal
                go_wp2_with fail
                go_meet
                case rel => exact ⟨by rw [HAL.out], rfl⟩
            obtain ⟨rfl, rfl⟩ := hcut
            rcases Bool.eq_false_or_eq_true (aloneK mo) with hal | hal
            · skip
              have HCK := Lib.hid hck
              have hq1 : ((cn : Int) + 1 == 0) = false := beq_false_of_ne (by omega)
              have HK00 := HK0.out
              have HCN00 := HCN0.out
              have hc2 : cn2 = cn + 1 := by rw [HCN2.out, hal]; rfl
              have HF : Hid (fitsP cs (mo, 0, []) 1048576 = false) := Lib.hid (by rw [HFIT.out]; exact decide_eq_false (by omega))
              have HF2 : Hid (mayP (cs ++ [(mo, (0 : UInt8), ([] : List UInt8))]) = false) := Lib.hid (by rw [HMAY2.out]; exact decide_eq_false (by omega))
              rw [hal]
              clear hc2 hal HK00 HCN00
              have y0 : wc.cell? ⟨gp, 0, none⟩ = some (.int .u32 1) := K2.out.cell 0
              have y1 : wc.cell? ⟨gp, 1, none⟩ = some (.slice A1 k c1) := K2.out.cell 1
              have x0 : wc.cell? ⟨gx, 0, none⟩ = some (.int .u8 (mo.toNat : Int)) := X2.out.cell 0
              have x1 : wc.cell? ⟨gx, 1, none⟩ = some (.int .u8 0) := X2.out.cell 1
              have x2 : wc.cell? ⟨gx, 2, none⟩ = some (.slice none 0 0) := X2.out.cell 2
              go_wp2_with fail
              refine (fits_any 1 A1 k c1 cs mo 0 none 0 0 [] 1048576 wc HMEEK.out HCAP.out.1 HCAP.out.2 HCL.out C2.out (by omega) (Nat.le_refl _) (by unfold maxLen; omega) rfl (Rd.nil _ _ _)).mono ?_
              rintro e w3 ⟨rfl, hb⟩
              rw [HF.out]
              clear y0 y1 x0 x1 x2
              have K3 := Lib.hid (K2.out.below hb K2.out.lt)
              have X3 := Lib.hid (X2.out.below hb X2.out.lt)
              have O3 := Lib.hid (O2.out.below hb)
              have B3 := Lib.hid (below_then B2.out (Nat.le_refl _) hb)
              clear hb K2 O2 B2 C2 X2
              go_wp2_with fail
              rw [← held_eq 20]
              have y1 : w3.cell? ⟨gp, 1, none⟩ = some (.slice A1 k c1) := K3.out.cell 1
              have x0 : w3.cell? ⟨gx, 0, none⟩ = some (.int .u8 (mo.toNat : Int)) := X3.out.cell 0
              have x1 : w3.cell? ⟨gx, 1, none⟩ = some (.int .u8 0) := X3.out.cell 1
              have x2 : w3.cell? ⟨gx, 2, none⟩ = some (.slice none 0 0) := X3.out.cell 2
              have BC : Hid (Below w3.heap.size w3 (w3.alloc (.cells #[.int .u8 (mo.toNat : Int), .int .u8 0, .slice none 0 0] 41))) := Lib.hid (below_new w3 _)
              obtain ⟨A4, c4, w5, hrun, hoc, hgr⟩ := OC.push 23 (⟨mo, 0, none, 0, 0, []⟩ : CE) (O3.out.below BC.out) HES.out (Blk.new w3 41 #[.int .u8 (mo.toNat : Int), .int .u8 0, .slice none 0 0]) (Own8.nil _ _ _) (fun x _ g _ h => by cases h) (by omega) (Nat.le_trans B3.out.size BC.out.size)
              have hnp := ownsRow_ne (O3.out.below BC.out).row (K3.out.below BC.out K3.out.lt) (by decide)
              have K5 := Lib.hid ((K3.out.below BC.out K3.out.lt).grown hgr hnp)
              have B5 := Lib.hid ((below_then B3.out (Nat.le_refl _) BC.out).grown hgr (Nat.le_trans B3.out.size BC.out.size) (ownsRow_ge O3.out.row))
              have O5 := Lib.hid hoc
              have z1 : w5.cell? ⟨gp, 1, none⟩ = some (.slice A1 k c1) := K5.out.cell 1
              have e1 := K5.out.frozen 1
              clear hgr hnp hoc K3 O3 B3 X3 BC
              go_wp2_with (at_builtin; refine wpList_append_run rfl _ _ 23 rfl _ _ _ rfl rfl _ rfl hrun ?_)
              have K6 := Lib.hid (K5.out.set_ 1 (.slice A4 (k + 1) c4))
              have O6 := Lib.hid (O5.out.setBlk K5.out (by decide) (by decide) 1 (.slice A4 (k + 1) c4))
              have B6 := Lib.hid (B5.out.setCell (p := ⟨gp, 1, none⟩) (by show w.heap.size ≤ gp; have := HGP.out; omega) (.slice A4 (k + 1) c4))
              clear K5 O5 B5 z1 e1 hrun y1 x0 x1 x2
              generalize w5.setCell ⟨gp, 1, none⟩ (.slice A4 (k + 1) c4) = w6 at K6 O6 B6 ⊢
              rw [← held_eq 21]
              have C6 : Hid (Chunks w6 w6.heap.size A4 (cs ++ [(mo, (0 : UInt8), ([] : List UInt8))])) := Lib.hid (by have h := O6.out.chunks; rw [List.map_append, ← HCS.out] at h; exact h)
              have y0 : w6.cell? ⟨gp, 0, none⟩ = some (.int .u32 1) := K6.out.cell 0
              have y1 : w6.cell? ⟨gp, 1, none⟩ = some (.slice A4 (k + 1) c4) := K6.out.cell 1
              go_wp2_with fail
              refine (HWR.out w6 A4 c4 (k + 1) _ C6.out (by rw [List.length_append, HCL.out]; rfl) (by omega)).mono ?_
              rintro e w7 ⟨Aw2, mw2, cw2, rfl, hm, hb⟩
              rw [HF2.out] at hm
              have hm2 : ¬ 0 < mw2 := of_decide_eq_false hm
              have hm3 : decide ((0 : Int) < (mw2 : Int)) = false := decide_eq_false (by omega)
              have B7 := Lib.hid (below_then B6.out (Nat.le_refl _) hb)
              clear hb hm y0 y1
              go_wp2_with fail
              refine (works_any _).mono ?_
              rintro e w8 ⟨rfl, hb8⟩
              have B8 := Lib.hid (below_then B7.out (Nat.le_refl _) hb8)
              go_wp2_with fail
              go_ret
              exact ⟨rfl, B8.out⟩
            · skip
              have HCK := Lib.hid hck
              have HK00 := HK0.out
              have HCN00 := HCN0.out
              have hc2 : cn2 = cn := by rw [HCN2.out, hal]; rfl
              have HF : Hid (fitsP cs (mo, 0, []) 1048576 = false) := Lib.hid (by rw [HFIT.out]; exact decide_eq_false (by omega))
              have HF2 : Hid (mayP (cs ++ [(mo, (0 : UInt8), ([] : List UInt8))]) = false) := Lib.hid (by rw [HMAY2.out]; exact decide_eq_false (by omega))
              rw [hal]
              clear hc2 hal HK00 HCN00
              have y0 : wc.cell? ⟨gp, 0, none⟩ = some (.int .u32 1) := K2.out.cell 0
              have y1 : wc.cell? ⟨gp, 1, none⟩ = some (.slice A1 k c1) := K2.out.cell 1
              have x0 : wc.cell? ⟨gx, 0, none⟩ = some (.int .u8 (mo.toNat : Int)) := X2.out.cell 0
              have x1 : wc.cell? ⟨gx, 1, none⟩ = some (.int .u8 0) := X2.out.cell 1
              have x2 : wc.cell? ⟨gx, 2, none⟩ = some (.slice none 0 0) := X2.out.cell 2
              go_wp2_with fail
              refine (fits_any 1 A1 k c1 cs mo 0 none 0 0 [] 1048576 wc HMEEK.out HCAP.out.1 HCAP.out.2 HCL.out C2.out (by omega) (Nat.le_refl _) (by unfold maxLen; omega) rfl (Rd.nil _ _ _)).mono ?_
              rintro e w3 ⟨rfl, hb⟩
              rw [HF.out]
              clear y0 y1 x0 x1 x2
              have K3 := Lib.hid (K2.out.below hb K2.out.lt)
              have X3 := Lib.hid (X2.out.below hb X2.out.lt)
              have O3 := Lib.hid (O2.out.below hb)
              have B3 := Lib.hid (below_then B2.out (Nat.le_refl _) hb)
              clear hb K2 O2 B2 C2 X2
              go_wp2_with fail
              rw [← held_eq 20]
              have y1 : w3.cell? ⟨gp, 1, none⟩ = some (.slice A1 k c1) := K3.out.cell 1
              have x0 : w3.cell? ⟨gx, 0, none⟩ = some (.int .u8 (mo.toNat : Int)) := X3.out.cell 0
              have x1 : w3.cell? ⟨gx, 1, none⟩ = some (.int .u8 0) := X3.out.cell 1
              have x2 : w3.cell? ⟨gx, 2, none⟩ = some (.slice none 0 0) := X3.out.cell 2
              have BC : Hid (Below w3.heap.size w3 (w3.alloc (.cells #[.int .u8 (mo.toNat : Int), .int .u8 0, .slice none 0 0] 41))) := Lib.hid (below_new w3 _)
              obtain ⟨A4, c4, w5, hrun, hoc, hgr⟩ := OC.push 23 (⟨mo, 0, none, 0, 0, []⟩ : CE) (O3.out.below BC.out) HES.out (Blk.new w3 41 #[.int .u8 (mo.toNat : Int), .int .u8 0, .slice none 0 0]) (Own8.nil _ _ _) (fun x _ g _ h => by cases h) (by omega) (Nat.le_trans B3.out.size BC.out.size)
              have hnp := ownsRow_ne (O3.out.below BC.out).row (K3.out.below BC.out K3.out.lt) (by decide)
              have K5 := Lib.hid ((K3.out.below BC.out K3.out.lt).grown hgr hnp)
              have B5 := Lib.hid ((below_then B3.out (Nat.le_refl _) BC.out).grown hgr (Nat.le_trans B3.out.size BC.out.size) (ownsRow_ge O3.out.row))
              have O5 := Lib.hid hoc
              have z1 : w5.cell? ⟨gp, 1, none⟩ = some (.slice A1 k c1) := K5.out.cell 1
              have e1 := K5.out.frozen 1
              clear hgr hnp hoc K3 O3 B3 X3 BC
              go_wp2_with (at_builtin; refine wpList_append_run rfl _ _ 23 rfl _ _ _ rfl rfl _ rfl hrun ?_)
              have K6 := Lib.hid (K5.out.set_ 1 (.slice A4 (k + 1) c4))
              have O6 := Lib.hid (O5.out.setBlk K5.out (by decide) (by decide) 1 (.slice A4 (k + 1) c4))
              have B6 := Lib.hid (B5.out.setCell (p := ⟨gp, 1, none⟩) (by show w.heap.size ≤ gp; have := HGP.out; omega) (.slice A4 (k + 1) c4))
              clear K5 O5 B5 z1 e1 hrun y1 x0 x1 x2
              generalize w5.setCell ⟨gp, 1, none⟩ (.slice A4 (k + 1) c4) = w6 at K6 O6 B6 ⊢
              rw [← held_eq 21]
              have C6 : Hid (Chunks w6 w6.heap.size A4 (cs ++ [(mo, (0 : UInt8), ([] : List UInt8))])) := Lib.hid (by have h := O6.out.chunks; rw [List.map_append, ← HCS.out] at h; exact h)
              have y0 : w6.cell? ⟨gp, 0, none⟩ = some (.int .u32 1) := K6.out.cell 0
              have y1 : w6.cell? ⟨gp, 1, none⟩ = some (.slice A4 (k + 1) c4) := K6.out.cell 1
              go_wp2_with fail
              refine (HWR.out w6 A4 c4 (k + 1) _ C6.out (by rw [List.length_append, HCL.out]; rfl) (by omega)).mono ?_
              rintro e w7 ⟨Aw2, mw2, cw2, rfl, hm, hb⟩
              rw [HF2.out] at hm
              have hm2 : ¬ 0 < mw2 := of_decide_eq_false hm
              have hm3 : decide ((0 : Int) < (mw2 : Int)) = false := decide_eq_false (by omega)
              have B7 := Lib.hid (below_then B6.out (Nat.le_refl _) hb)
              clear hb hm y0 y1
              go_wp2_with fail
              refine (works_any _).mono ?_
              rintro e w8 ⟨rfl, hb8⟩
              have B8 := Lib.hid (below_then B7.out (Nat.le_refl _) hb8)
              go_wp2_with fail
              go_ret
              exact ⟨rfl, B8.out⟩
          · skip
            have hkI : decide ((0 : Int) < (k : Int)) = true := decide_eq_true (by omega)
            have HK0 := Lib.hid hk0
            have HCN0 := Lib.hid hcn0
            have HK1 := Lib.hid hk1
            have hcI : ((cn : Int) == 0) = false := beq_false_of_ne (by omega)
            have hk0e : ((k : Int) == 0) = false := beq_false_of_ne (by omega)
            have hk1b : ((k : Int) == 1) = false := beq_false_of_ne (by omega)
            clear hk1
            have HMY : Hid (mayP cs = false) := Lib.hid (by rw [HMAY.out]; exact decide_eq_false (by have e1 := HK0.out; have e2 := HCN0.out; (try have e3 := HK1.out); omega))
            go_wp2_with fail
            clear y0 y1
            refine (HWR.out wr A1 c1 k cs HCH.out HCL.out (by omega)).mono ?_
            rintro e w2 ⟨Aw, mw, cw, rfl, hmw, hb⟩
            rw [HMY.out] at hmw
            have hmw2 : ¬ 0 < mw := of_decide_eq_false hmw
            have hmw3 : decide ((0 : Int) < (mw : Int)) = false := decide_eq_false (by omega)
            have OB : Hid (Below w2.heap.size w2 (w2.alloc (.cells #[.int .u8 (mo.toNat : Int), .int .u8 0, .slice none 0 0] 41))) := Lib.hid (below_new w2 _)
            have K2 := Lib.hid ((K.out.below hb K.out.lt).below OB.out (K.out.below hb K.out.lt).lt)
            have O2 := Lib.hid ((O.out.below hb).below OB.out)
            have B2 := Lib.hid (below_then (below_then B.out (Nat.le_refl _) hb) (Nat.le_refl _) OB.out)
            have C2 := Lib.hid (((HCH.out.below hb).more hb.size).below OB.out |>.more OB.out.size)
            have X2 := Lib.hid (Blk.new w2 41 #[.int .u8 (mo.toNat : Int), .int .u8 0, .slice none 0 0])
            obtain ⟨gx, hgx⟩ : ∃ gx, gx = w2.heap.size := ⟨_, rfl⟩
            rw [← hgx] at X2
            have HGX := Lib.hid hgx
            clear hb hmw hgx K O B HCH OB
            go_wp2_with fail
            rw [← HGX.out]
            generalize w2.alloc (.cells #[.int .u8 (mo.toNat : Int), .int .u8 0, .slice none 0 0] 41) = v2 at K2 O2 B2 C2 X2 ⊢
            clear HGX hmw2 hmw3
            rw [← held_eq 15]
            go_cut [85] from 76 to 114 (fun s wx => s = .bool (aloneK mo) ∧ wx = v2)
            case first =>
              rcases alone_split mo with rfl | rfl | rfl | hal
              · go_wp2_with fail
                go_meet
                case rel => exact ⟨rfl, rfl⟩
              · go_wp2_with fail
                go_meet
                case rel => exact ⟨rfl, rfl⟩
              · go_wp2_with fail
                go_meet
                case rel => exact ⟨rfl, rfl⟩
              · obtain ⟨b1, b2, b3⟩ := not_alone hal
                have HAL := Lib.hid hal
                clear hal
                go_wp2_with fail
                go_meet
                case rel => exact ⟨by rw [HAL.out], rfl⟩
            obtain ⟨rfl, rfl⟩ := hcut
            rcases Bool.eq_false_or_eq_true (aloneK mo) with hal | hal
            · skip
              have HCK := Lib.hid hck
              have hq1 : ((cn : Int) + 1 == 0) = false := beq_false_of_ne (by omega)
              have HK00 := HK0.out
              have HCN00 := HCN0.out
              have hc2 : cn2 = cn + 1 := by rw [HCN2.out, hal]; rfl
              have HF : Hid (fitsP cs (mo, 0, []) 1048576 = false) := Lib.hid (by rw [HFIT.out]; exact decide_eq_false (by omega))
              have HF2 : Hid (mayP (cs ++ [(mo, (0 : UInt8), ([] : List UInt8))]) = false) := Lib.hid (by rw [HMAY2.out]; exact decide_eq_false (by omega))
              rw [hal]
              clear hc2 hal HK00 HCN00
              have y0 : wc.cell? ⟨gp, 0, none⟩ = some (.int .u32 1) := K2.out.cell 0
              have y1 : wc.cell? ⟨gp, 1, none⟩ = some (.slice A1 k c1) := K2.out.cell 1
              have x0 : wc.cell? ⟨gx, 0, none⟩ = some (.int .u8 (mo.toNat : Int)) := X2.out.cell 0
              have x1 : wc.cell? ⟨gx, 1, none⟩ = some (.int .u8 0) := X2.out.cell 1
              have x2 : wc.cell? ⟨gx, 2, none⟩ = some (.slice none 0 0) := X2.out.cell 2
              go_wp2_with fail
              refine (fits_any 1 A1 k c1 cs mo 0 none 0 0 [] 1048576 wc HMEEK.out HCAP.out.1 HCAP.out.2 HCL.out C2.out (by omega) (Nat.le_refl _) (by unfold maxLen; omega) rfl (Rd.nil _ _ _)).mono ?_
              rintro e w3 ⟨rfl, hb⟩
              rw [HF.out]
              clear y0 y1 x0 x1 x2
              have K3 := Lib.hid (K2.out.below hb K2.out.lt)
              have X3 := Lib.hid (X2.out.below hb X2.out.lt)
              have O3 := Lib.hid (O2.out.below hb)
              have B3 := Lib.hid (below_then B2.out (Nat.le_refl _) hb)
              clear hb K2 O2 B2 C2 X2
              go_wp2_with fail
              rw [← held_eq 20]
              have y1 : w3.cell? ⟨gp, 1, none⟩ = some (.slice A1 k c1) := K3.out.cell 1
              have x0 : w3.cell? ⟨gx, 0, none⟩ = some (.int .u8 (mo.toNat : Int)) := X3.out.cell 0
              have x1 : w3.cell? ⟨gx, 1, none⟩ = some (.int .u8 0) := X3.out.cell 1
              have x2 : w3.cell? ⟨gx, 2, none⟩ = some (.slice none 0 0) := X3.out.cell 2
              have BC : Hid (Below w3.heap.size w3 (w3.alloc (.cells #[.int .u8 (mo.toNat : Int), .int .u8 0, .slice none 0 0] 41))) := Lib.hid (below_new w3 _)
              obtain ⟨A4, c4, w5, hrun, hoc, hgr⟩ := OC.push 23 (⟨mo, 0, none, 0, 0, []⟩ : CE) (O3.out.below BC.out) HES.out (Blk.new w3 41 #[.int .u8 (mo.toNat : Int), .int .u8 0, .slice none 0 0]) (Own8.nil _ _ _) (fun x _ g _ h => by cases h) (by omega) (Nat.le_trans B3.out.size BC.out.size)
              have hnp := ownsRow_ne (O3.out.below BC.out).row (K3.out.below BC.out K3.out.lt) (by decide)
              have K5 := Lib.hid ((K3.out.below BC.out K3.out.lt).grown hgr hnp)
              have B5 := Lib.hid ((below_then B3.out (Nat.le_refl _) BC.out).grown hgr (Nat.le_trans B3.out.size BC.out.size) (ownsRow_ge O3.out.row))
              have O5 := Lib.hid hoc
              have z1 : w5.cell? ⟨gp, 1, none⟩ = some (.slice A1 k c1) := K5.out.cell 1
              have e1 := K5.out.frozen 1
              clear hgr hnp hoc K3 O3 B3 X3 BC
              go_wp2_with (at_builtin; refine wpList_append_run rfl _ _ 23 rfl _ _ _ rfl rfl _ rfl hrun ?_)
              have K6 := Lib.hid (K5.out.set_ 1 (.slice A4 (k + 1) c4))
              have O6 := Lib.hid (O5.out.setBlk K5.out (by decide) (by decide) 1 (.slice A4 (k + 1) c4))
              have B6 := Lib.hid (B5.out.setCell (p := ⟨gp, 1, none⟩) (by show w.heap.size ≤ gp; have := HGP.out; omega) (.slice A4 (k + 1) c4))
              clear K5 O5 B5 z1 e1 hrun y1 x0 x1 x2
              generalize w5.setCell ⟨gp, 1, none⟩ (.slice A4 (k + 1) c4) = w6 at K6 O6 B6 ⊢
              rw [← held_eq 21]
              have C6 : Hid (Chunks w6 w6.heap.size A4 (cs ++ [(mo, (0 : UInt8), ([] : List UInt8))])) := Lib.hid (by have h := O6.out.chunks; rw [List.map_append, ← HCS.out] at h; exact h)
              have y0 : w6.cell? ⟨gp, 0, none⟩ = some (.int .u32 1) := K6.out.cell 0
              have y1 : w6.cell? ⟨gp, 1, none⟩ = some (.slice A4 (k + 1) c4) := K6.out.cell 1
              go_wp2_with fail
              refine (HWR.out w6 A4 c4 (k + 1) _ C6.out (by rw [List.length_append, HCL.out]; rfl) (by omega)).mono ?_
              rintro e w7 ⟨Aw2, mw2, cw2, rfl, hm, hb⟩
              rw [HF2.out] at hm
              have hm2 : ¬ 0 < mw2 := of_decide_eq_false hm
              have hm3 : decide ((0 : Int) < (mw2 : Int)) = false := decide_eq_false (by omega)
              have B7 := Lib.hid (below_then B6.out (Nat.le_refl _) hb)
              clear hb hm y0 y1
              go_wp2_with fail
              refine (works_any _).mono ?_
              rintro e w8 ⟨rfl, hb8⟩
              have B8 := Lib.hid (below_then B7.out (Nat.le_refl _) hb8)
              go_wp2_with fail
              go_ret
              exact ⟨rfl, B8.out⟩
            · skip
              have HCK := Lib.hid hck
              have HK00 := HK0.out
              have HCN00 := HCN0.out
              have hc2 : cn2 = cn := by rw [HCN2.out, hal]; rfl
              have HF : Hid (fitsP cs (mo, 0, []) 1048576 = false) := Lib.hid (by rw [HFIT.out]; exact decide_eq_false (by omega))
              have HF2 : Hid (mayP (cs ++ [(mo, (0 : UInt8), ([] : List UInt8))]) = false) := Lib.hid (by rw [HMAY2.out]; exact decide_eq_false (by omega))
              rw [hal]
              clear hc2 hal HK00 HCN00
              have y0 : wc.cell? ⟨gp, 0, none⟩ = some (.int .u32 1) := K2.out.cell 0
              have y1 : wc.cell? ⟨gp, 1, none⟩ = some (.slice A1 k c1) := K2.out.cell 1
              have x0 : wc.cell? ⟨gx, 0, none⟩ = some (.int .u8 (mo.toNat : Int)) := X2.out.cell 0
              have x1 : wc.cell? ⟨gx, 1, none⟩ = some (.int .u8 0) := X2.out.cell 1
              have x2 : wc.cell? ⟨gx, 2, none⟩ = some (.slice none 0 0) := X2.out.cell 2
              go_wp2_with fail
              refine (fits_any 1 A1 k c1 cs mo 0 none 0 0 [] 1048576 wc HMEEK.out HCAP.out.1 HCAP.out.2 HCL.out C2.out (by omega) (Nat.le_refl _) (by unfold maxLen; omega) rfl (Rd.nil _ _ _)).mono ?_
              rintro e w3 ⟨rfl, hb⟩
              rw [HF.out]
              clear y0 y1 x0 x1 x2
              have K3 := Lib.hid (K2.out.below hb K2.out.lt)
              have X3 := Lib.hid (X2.out.below hb X2.out.lt)
              have O3 := Lib.hid (O2.out.below hb)
              have B3 := Lib.hid (below_then B2.out (Nat.le_refl _) hb)
              clear hb K2 O2 B2 C2 X2
              go_wp2_with fail
              rw [← held_eq 20]
              have y1 : w3.cell? ⟨gp, 1, none⟩ = some (.slice A1 k c1) := K3.out.cell 1
              have x0 : w3.cell? ⟨gx, 0, none⟩ = some (.int .u8 (mo.toNat : Int)) := X3.out.cell 0
              have x1 : w3.cell? ⟨gx, 1, none⟩ = some (.int .u8 0) := X3.out.cell 1
              have x2 : w3.cell? ⟨gx, 2, none⟩ = some (.slice none 0 0) := X3.out.cell 2
              have BC : Hid (Below w3.heap.size w3 (w3.alloc (.cells #[.int .u8 (mo.toNat : Int), .int .u8 0, .slice none 0 0] 41))) := Lib.hid (below_new w3 _)
              obtain ⟨A4, c4, w5, hrun, hoc, hgr⟩ := OC.push 23 (⟨mo, 0, none, 0, 0, []⟩ : CE) (O3.out.below BC.out) HES.out (Blk.new w3 41 #[.int .u8 (mo.toNat : Int), .int .u8 0, .slice none 0 0]) (Own8.nil _ _ _) (fun x _ g _ h => by cases h) (by omega) (Nat.le_trans B3.out.size BC.out.size)
              have hnp := ownsRow_ne (O3.out.below BC.out).row (K3.out.below BC.out K3.out.lt) (by decide)
              have K5 := Lib.hid ((K3.out.below BC.out K3.out.lt).grown hgr hnp)
              have B5 := Lib.hid ((below_then B3.out (Nat.le_refl _) BC.out).grown hgr (Nat.le_trans B3.out.size BC.out.size) (ownsRow_ge O3.out.row))
              have O5 := Lib.hid hoc
              have z1 : w5.cell? ⟨gp, 1, none⟩ = some (.slice A1 k c1) := K5.out.cell 1
              have e1 := K5.out.frozen 1
              clear hgr hnp hoc K3 O3 B3 X3 BC
              go_wp2_with (at_builtin; refine wpList_append_run rfl _ _ 23 rfl _ _ _ rfl rfl _ rfl hrun ?_)
              have K6 := Lib.hid (K5.out.set_ 1 (.slice A4 (k + 1) c4))
              have O6 := Lib.hid (O5.out.setBlk K5.out (by decide) (by decide) 1 (.slice A4 (k + 1) c4))
              have B6 := Lib.hid (B5.out.setCell (p := ⟨gp, 1, none⟩) (by show w.heap.size ≤ gp; have := HGP.out; omega) (.slice A4 (k + 1) c4))
              clear K5 O5 B5 z1 e1 hrun y1 x0 x1 x2
              generalize w5.setCell ⟨gp, 1, none⟩ (.slice A4 (k + 1) c4) = w6 at K6 O6 B6 ⊢
              rw [← held_eq 21]
              have C6 : Hid (Chunks w6 w6.heap.size A4 (cs ++ [(mo, (0 : UInt8), ([] : List UInt8))])) := Lib.hid (by have h := O6.out.chunks; rw [List.map_append, ← HCS.out] at h; exact h)
              have y0 : w6.cell? ⟨gp, 0, none⟩ = some (.int .u32 1) := K6.out.cell 0
              have y1 : w6.cell? ⟨gp, 1, none⟩ = some (.slice A4 (k + 1) c4) := K6.out.cell 1
              go_wp2_with fail
              refine (HWR.out w6 A4 c4 (k + 1) _ C6.out (by rw [List.length_append, HCL.out]; rfl) (by omega)).mono ?_
              rintro e w7 ⟨Aw2, mw2, cw2, rfl, hm, hb⟩
              rw [HF2.out] at hm
              have hm2 : ¬ 0 < mw2 := of_decide_eq_false hm
              have hm3 : decide ((0 : Int) < (mw2 : Int)) = false := decide_eq_false (by omega)
              have B7 := Lib.hid (below_then B6.out (Nat.le_refl _) hb)
              clear hb hm y0 y1
              go_wp2_with fail
              refine (works_any _).mono ?_
              rintro e w8 ⟨rfl, hb8⟩
              have B8 := Lib.hid (below_then B7.out (Nat.le_refl _) hb8)
              go_wp2_with fail
              go_ret
              exact ⟨rfl, B8.out⟩
theorem packetAlone_walk (A : Option Addr) (n c : Nat) (ks : List UInt8) (a : Int) (w : World) (hc : n ≤ c) (hcm : c ≤ maxLen) (hx : ks.length = n) (hr : Rd w w.heap.size A ks) (h0 : (Lit.int .u8 a).wf = true) :
    Calls Try.prog 7 #[.slice A n c, .int .u8 a] w fun e w' => e = .returned (.bool true) ∧ Below w.heap.size w w' := by
  obtain ⟨mo, rfl⟩ := byte_of h0
  by_cases h : 100 < n
  · exact packetAlone_big A n c mo w h
  · exact packetAlone_small A n c ks mo w (by omega) hx hr
end Go.Proofs.Ytifmhlbeodfpeaa
