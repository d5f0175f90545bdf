/-
  Package bodies: GetSack.
-/
import Derived.Test.YtalgkokgaibloaaBodJ
namespace Go.Proofs.Ytalgkokgaibloaa
open Go.RowKit
set_option linter.unusedVariables false

/-- What a Get of an acknowledgement answers. -/
def GetsS (F : FuncId) (args : Array Value) (k f : UInt8) (xs : List UInt8) (w : World) : Prop :=
  Calls Try.prog F args w fun e w' => ∃ A m c A' m' c', e = .returned (.tuple #[.agg #[.int .u32 ((ansS k f xs).cum : Int), .int .u32 ((ansS k f xs).rwnd : Int), .slice A m c, .slice A' m' c'], .int .i64 (errOf (okS k f xs))]) ∧
    Og w' 79 w.heap.size (.slice A m c) (ansS k f xs).gaps ∧ m = (ansS k f xs).gaps.length ∧ Ow w' 22 w.heap.size (.slice A' m' c') (ints (ansS k f xs).dups) ∧ m' = (ansS k f xs).dups.length ∧ Below w.heap.size w w'
theorem Og.beside {w w' : World} {t t2 : TypeId} {base base2 : Nat} {v v2 : Value} {L : List (Nat × Nat)} {L2 : List Int} (h : Og w t base v L) (h2 : Ow w t2 base2 v2 L2) (ht : t ≠ t2) (hg : w.grownBy w' v2.ownBlock) : Og w' t base v L := by
  refine h.keep fun q hq => hg.block q (World.ownsRow.lt h q hq).2 ?_
  rcases h.2 with ⟨rfl, _⟩ | ⟨g, cap, cur, rfl, _, hgg, _⟩
  · simp [Value.ownBlock] at hq
  · simp [Value.ownBlock] at hq
    subst hq
    exact owns_ne h2 (show Blk w g t cur from hgg) (fun e => ht e.symm)
theorem ints_snoc (l : List Nat) (x : Nat) : ints (l ++ [x]) = ints l ++ [(x : Int)] := by simp [ints]
theorem min_int (h n : Nat) : (if (n : Int) < 12 + 4 * (h : Int) then (n : Int) else 12 + 4 * (h : Int)) = ((min (12 + 4 * h) n : Nat) : Int) := by
  split <;> omega

set_option maxRecDepth 100000 in
set_option maxHeartbeats 4000000 in
theorem getSack_off (k f : UInt8) (A : Option Addr) (n c : Nat) (xs : List UInt8) (w : World) (hn : n ≤ 131072) (hc : n ≤ c) (hcm : c ≤ maxLen) (hx : xs.length = n) (hr : Rd w w.heap.size A xs) (hv : apartG 0 (PS xs).gaps = false) :
    GetsS 30 #[.agg #[.int .u8 (k.toNat : Int), .int .u8 (f.toNat : Int), .slice A n c]] k f xs w := by
  have hz := zero_sack
  have hcm' := hcm
  unfold maxLen at hcm'
  obtain ⟨ti, hti, htz, ht1, ht2⟩ := info_parts Try.infoGap
  obtain ⟨ui, hui, huz, hu1, hu2⟩ := info_parts Try.infoU32
  have h0b : numO xs 0 4 < 4294967296 := numO_lt xs 0 4
  have h4b : numO xs 4 4 < 4294967296 := numO_lt xs 4 4
  have h8b : numO xs 8 2 < 65536 := numO_lt xs 8 2
  have HWW : Hid (∀ (W : World) (a : Nat), a ≤ 140737488355328 → Below w.heap.size w W → Calls Try.prog 52 #[.slice A n c, .int .i64 (a : Int)] W fun e w' => e = .returned (.int .u32 (numO xs a 4)) ∧ Below W.heap.size W w') := Lib.hid fun W a ha hW => (word_any A n c a xs W (by omega) ha hx ((hr.below hW).more hW.size)).mono fun e w' ⟨he, hw⟩ => ⟨he, hw ▸ Below.refl _ _⟩
  have HWH : Hid (∀ (W : World) (a : Nat), a ≤ 140737488355330 → Below w.heap.size w W → Calls Try.prog 53 #[.slice A n c, .int .i64 (a : Int)] W fun e w' => e = .returned (.int .u16 (numO xs a 2)) ∧ Below W.heap.size W w') := Lib.hid fun W a ha hW => (half_any A n c a xs W (by omega) ha hx ((hr.below hW).more hW.size)).mono fun e w' ⟨he, hw⟩ => ⟨he, hw ▸ Below.refl _ _⟩
  obtain ⟨E, hE⟩ : ∃ E, E = endG xs := ⟨_, rfl⟩
  obtain ⟨NG, hNG⟩ : ∃ NG, NG = cntE 12 E := ⟨_, rfl⟩
  obtain ⟨ND, hND⟩ : ∃ ND, ND = cntE E n := ⟨_, rfl⟩
  have hps : PS xs = ⟨numO xs 0 4, numO xs 4 4, getGO xs 12 NG, getNO xs E ND⟩ := by rw [hNG, hND, hE, ← hx]; rfl
  have hEn : E ≤ n := by rw [hE]; unfold endG; omega
  have hEm : E = min (12 + 4 * numO xs 8 2) n := by rw [hE, ← hx]; rfl
  have hcd := okS_code (k := k) (f := f) (b := xs) (by omega)
  rw [hv] at hcd
  have hok : okS k f xs = false := hcd.symm
  have hra : ansS k f xs = noS := by unfold ansS; rw [hok]; rfl
  unfold GetsS
  rw [hok, hra]
  rw [hps] at hv
  have hNGb : NG ≤ 1099511627776 := by rw [hNG]; unfold cntE; omega
  have hNDb : ND ≤ 1099511627776 := by rw [hND]; unfold cntE; omega
  have HCK : Hid (∀ W (As : Option Addr) (cs : Nat) (Ad : Option Addr) (cd : Nat), Below w.heap.size w W → Og W 79 w.heap.size (.slice As NG cs) (getGO xs 12 NG) → Ow W 22 w.heap.size (.slice Ad ND cd) (ints (getNO xs E ND)) → Calls Try.prog 67 #[.agg #[.int .u8 (k.toNat : Int), .int .u8 (f.toNat : Int), .slice A n c], .agg #[.int .u32 (numO xs 0 4 : Int), .int .u32 (numO xs 4 4 : Int), .slice As NG cs, .slice Ad ND cd], .bool false, .func (.func 29) #[] #[]] W fun e w' => e = .returned (.tuple #[.agg #[.int .u32 0, .int .u32 0, .slice none 0 0, .slice none 0 0], .int .i64 7]) ∧ Below W.heap.size W w') := Lib.hid fun W As cs Ad cd hW ho hp => checkedS_off k f A n c (numO xs 0 4) (numO xs 4 4) As NG cs Ad ND cd W
  have HAP : Hid (∀ W (As : Option Addr) (cs : Nat), Og W 79 w.heap.size (.slice As NG cs) (getGO xs 12 NG) → Calls Try.prog 68 #[.slice As NG cs] W fun e w' => e = .returned (.bool false) ∧ Below W.heap.size W w') := Lib.hid fun W As cs ho => by
    have := areApart_any As NG cs _ W hNGb (length_getGO xs NG 12) ho.rg (getGO_bd xs _ _)
    have hv2 : apartG 0 (getGO xs 12 NG) = false := hv
    rwa [hv2] at this
  have HE2 := Lib.hid hEm
  have HNG := Lib.hid (show NG = (E - 12 + 3) / 4 from hNG)
  have HND := Lib.hid (show ND = (n - E + 3) / 4 from hND)
  have HW0 : Hid (∀ W, Below w.heap.size w W → Calls Try.prog 52 #[.slice A n c, .int .i64 0] W fun e w' => e = .returned (.int .u32 (numO xs 0 4)) ∧ Below W.heap.size W w') := Lib.hid fun W hW => HWW.out W 0 (by omega) hW
  have HW4 : Hid (∀ W, Below w.heap.size w W → Calls Try.prog 52 #[.slice A n c, .int .i64 4] W fun e w' => e = .returned (.int .u32 (numO xs 4 4)) ∧ Below W.heap.size W w') := Lib.hid fun W hW => HWW.out W 4 (by omega) hW
  have HH8 : Hid (∀ W, Below w.heap.size w W → Calls Try.prog 53 #[.slice A n c, .int .i64 8] W fun e w' => e = .returned (.int .u16 (numO xs 8 2)) ∧ Below W.heap.size W w') := Lib.hid fun W hW => HWH.out W 8 (by omega) hW
  obtain ⟨q0, e0⟩ : ∃ q, q = numO xs 0 4 := ⟨_, rfl⟩
  obtain ⟨q4, e4⟩ : ∃ q, q = numO xs 4 4 := ⟨_, rfl⟩
  obtain ⟨h8, e8⟩ : ∃ q, q = numO xs 8 2 := ⟨_, rfl⟩
  rw [← e0] at HW0 HCK
  rw [← e4] at HW4 HCK
  rw [← e8] at HH8 HE2 h8b
  clear e0 e4 e8 h0b h4b hx hr hv hE hNG hND hps hEm hcd hok hra
  have b0 : Blk (w.alloc (.cells #[.int .u8 (k.toNat : Int), .int .u8 (f.toNat : Int), .slice A n c] 28)) w.heap.size 28 #[.int .u8 (k.toNat : Int), .int .u8 (f.toNat : Int), .slice A n c] := Blk.new w 28 #[.int .u8 (k.toNat : Int), .int .u8 (f.toNat : Int), .slice A n c]
  have b1 : Blk ((w.alloc (.cells #[.int .u8 (k.toNat : Int), .int .u8 (f.toNat : Int), .slice A n c] 28)).alloc (.cells #[.int .u32 0, .int .u32 0, .slice none 0 0, .slice none 0 0] 52)) (w.heap.size + 1) 52 #[.int .u32 0, .int .u32 0, .slice none 0 0, .slice none 0 0] := by simpa using Blk.new (w.alloc (.cells #[.int .u8 (k.toNat : Int), .int .u8 (f.toNat : Int), .slice A n c] 28)) 52 #[.int .u32 0, .int .u32 0, .slice none 0 0, .slice none 0 0]
  have K0 := Lib.hid (b0.alloc (.cells #[.int .u32 0, .int .u32 0, .slice none 0 0, .slice none 0 0] 52))
  have K1 := Lib.hid b1
  have B0 : Hid (Below w.heap.size w ((w.alloc (.cells #[.int .u8 (k.toNat : Int), .int .u8 (f.toNat : Int), .slice A n c] 28)).alloc (.cells #[.int .u32 0, .int .u32 0, .slice none 0 0, .slice none 0 0] 52))) := Lib.hid (Wr.below_ (((Wr.refl 5 w.heap.size w).alloc (.cells #[.int .u8 (k.toNat : Int), .int .u8 (f.toNat : Int), .slice A n c] 28)).alloc (.cells #[.int .u32 0, .int .u32 0, .slice none 0 0, .slice none 0 0] 52)) (Nat.le_refl _))
  clear b0 b1
  go_enter Try.func30, Try.ntmps30
  rw [drawn_eq 1, drawn_eq 2, drawn_eq 6, drawn_eq 10, drawn_eq 11]
  go_wp2_with fail
  generalize ((w.alloc (.cells #[.int .u8 (k.toNat : Int), .int .u8 (f.toNat : Int), .slice A n c] 28)).alloc (.cells #[.int .u32 0, .int .u32 0, .slice none 0 0, .slice none 0 0] 52)) = v0 at K0 K1 B0 ⊢
  rw [← drawn_eq 1]
  refine wp_region_grow_tail 8 (by kernel_rfl) [(Is (.pointer (some ⟨w.heap.size, 2, none⟩))), (Is (.slice A n c)), (Is (.int .u32 (q0 : Int))), (Is (.pointer (some ⟨w.heap.size, 2, none⟩))), (Is (.slice A n c)), (Is (.int .u32 (q4 : Int))), (Is (.agg #[.int .u32 (q0 : Int), .int .u32 (q4 : Int), .slice none 0 0, .slice none 0 0])), (NewBlk v0.heap.size 52 #[.int .u32 0, .int .u32 0, .slice none 0 0, .slice none 0 0])] rfl ?_ (by kernel_rfl) (by kernel_rfl) ?_ ?_
  · intro p hp
    simp only [List.mem_cons, List.not_mem_nil, or_false] at hp
    rcases hp with rfl | rfl | rfl | rfl | rfl | rfl | rfl | rfl
    · exact Lasts.is _
    · exact Lasts.is _
    · exact Lasts.is _
    · exact Lasts.is _
    · exact Lasts.is _
    · exact Lasts.is _
    · exact Lasts.is _
    · exact Lasts.newBlk _ _ _
  · refine ⟨?_, ?_, ?_, ?_, ?_, ?_, ?_, ?_, trivial⟩
    · intro listed a w1 hl hc
      have h1 : a.tmps[1]?.getD undef = .pointer (some ⟨w.heap.size, 0, none⟩) := (hc.was 1 (by kernel_rfl)).trans rfl
      refine does_value rfl rfl (.pointer (some ⟨w.heap.size, 2, none⟩)) w1 ?_ (Below.refl _ _) rfl
      clear hc hl
      go_simp
    · intro listed a w1 hl hc
      have h8 : a.tmps[8]?.getD undef = .pointer (some ⟨w.heap.size, 2, none⟩) := hc.dep hl 0 8 rfl (by kernel_rfl)
      have kb := K0.out.below hc.g K0.out.lt
      have x2 : w1.cell? ⟨w.heap.size, 2, none⟩ = some (.slice A n c) := kb.cell 2
      clear kb
      refine does_value rfl rfl (.slice A n c) w1 ?_ (Below.refl _ _) rfl
      clear hc hl
      go_simp
    · intro listed a w1 hl hc
      have h9 : a.tmps[9]?.getD undef = .slice A n c := hc.dep hl 1 9 rfl (by kernel_rfl)
      refine does_call rfl rfl 52 #[.slice A n c, .int .i64 0] ?_ ((HW0.out w1 (B0.out.trans (hc.g.mono B0.out.size))).mono fun e w' ⟨he, hb⟩ => ⟨_, he, hb, rfl⟩)
      clear hc hl
      go_simp
    · intro listed a w1 hl hc
      have h1 : a.tmps[1]?.getD undef = .pointer (some ⟨w.heap.size, 0, none⟩) := (hc.was 1 (by kernel_rfl)).trans rfl
      refine does_value rfl rfl (.pointer (some ⟨w.heap.size, 2, none⟩)) w1 ?_ (Below.refl _ _) rfl
      clear hc hl
      go_simp
    · intro listed a w1 hl hc
      have h11 : a.tmps[11]?.getD undef = .pointer (some ⟨w.heap.size, 2, none⟩) := hc.dep hl 3 11 rfl (by kernel_rfl)
      have kb := K0.out.below hc.g K0.out.lt
      have x2 : w1.cell? ⟨w.heap.size, 2, none⟩ = some (.slice A n c) := kb.cell 2
      clear kb
      refine does_value rfl rfl (.slice A n c) w1 ?_ (Below.refl _ _) rfl
      clear hc hl
      go_simp
    · intro listed a w1 hl hc
      have h12 : a.tmps[12]?.getD undef = .slice A n c := hc.dep hl 4 12 rfl (by kernel_rfl)
      refine does_call rfl rfl 52 #[.slice A n c, .int .i64 4] ?_ ((HW4.out w1 (B0.out.trans (hc.g.mono B0.out.size))).mono fun e w' ⟨he, hb⟩ => ⟨_, he, hb, rfl⟩)
      clear hc hl
      go_simp
    · intro listed a w1 hl hc
      have h10 : a.tmps[10]?.getD undef = .int .u32 (q0 : Int) := hc.dep hl 2 10 rfl (by kernel_rfl)
      have h13 : a.tmps[13]?.getD undef = .int .u32 (q4 : Int) := hc.dep hl 5 13 rfl (by kernel_rfl)
      refine does_value rfl rfl (.agg #[.int .u32 (q0 : Int), .int .u32 (q4 : Int), .slice none 0 0, .slice none 0 0]) w1 ?_ (Below.refl _ _) rfl
      clear hc hl
      go_simp
    · intro listed a w1 hl hc
      refine does_value rfl rfl (.pointer (some ⟨w1.heap.size, 0, none⟩)) (w1.alloc (.cells #[.int .u32 0, .int .u32 0, .slice none 0 0, .slice none 0 0] 52)) ?_ (below_new w1 _) ⟨_, rfl, hc.g.size, Blk.new _ _ _⟩
      clear hc hl
      go_simp
  intro w2 hb2
  rintro _ rfl _ rfl _ rfl _ rfl _ rfl _ rfl _ rfl _ ⟨g4, rfl, hg4, hb4⟩
  simp only [Thus, List.reverse_cons, List.reverse_nil, List.nil_append, List.cons_append, List.drop, List.take, lay]
  go_frame
  have hl0 := K0.out.lt
  have hl1 := K1.out.lt
  have HG := Lib.hid hb4
  have hge : w.heap.size + 1 + 1 ≤ g4 := by omega
  have y0 := HG.out.cell 0
  have y1 := HG.out.cell 1
  have y2 := HG.out.cell 2
  have y3 := HG.out.cell 3
  have z0 := HG.out.frozen 0
  have z1 := HG.out.frozen 1
  have z2 := HG.out.frozen 2
  have z3 := HG.out.frozen 3
  have G3 : Hid (Blk ((((w2.setCell ⟨g4, 0, none⟩ (.int .u32 (q0 : Int))).setCell ⟨g4, 1, none⟩ (.int .u32 (q4 : Int))).setCell ⟨g4, 2, none⟩ (.slice none 0 0)).setCell ⟨g4, 3, none⟩ (.slice none 0 0)) g4 52 #[.int .u32 (q0 : Int), .int .u32 (q4 : Int), .slice none 0 0, .slice none 0 0]) := Lib.hid ((((hb4.set_ 0 (.int .u32 (q0 : Int))).set_ 1 (.int .u32 (q4 : Int))).set_ 2 (.slice none 0 0)).set_ 3 (.slice none 0 0))
  have K0b := Lib.hid (((((K0.out.below hb2 K0.out.lt).far (p := ⟨g4, 0, none⟩) (show w.heap.size ≠ g4 by omega) (.int .u32 (q0 : Int))).far (p := ⟨g4, 1, none⟩) (show w.heap.size ≠ g4 by omega) (.int .u32 (q4 : Int))).far (p := ⟨g4, 2, none⟩) (show w.heap.size ≠ g4 by omega) (.slice none 0 0)).far (p := ⟨g4, 3, none⟩) (show w.heap.size ≠ g4 by omega) (.slice none 0 0))
  have K1b := Lib.hid (((((K1.out.below hb2 K1.out.lt).far (p := ⟨g4, 0, none⟩) (show w.heap.size + 1 ≠ g4 by omega) (.int .u32 (q0 : Int))).far (p := ⟨g4, 1, none⟩) (show w.heap.size + 1 ≠ g4 by omega) (.int .u32 (q4 : Int))).far (p := ⟨g4, 2, none⟩) (show w.heap.size + 1 ≠ g4 by omega) (.slice none 0 0)).far (p := ⟨g4, 3, none⟩) (show w.heap.size + 1 ≠ g4 by omega) (.slice none 0 0))
  have B3 := Lib.hid (((((below_then B0.out (Nat.le_refl _) hb2).setCell (p := ⟨g4, 0, none⟩) (show w.heap.size ≤ g4 by omega) (.int .u32 (q0 : Int))).setCell (p := ⟨g4, 1, none⟩) (show w.heap.size ≤ g4 by omega) (.int .u32 (q4 : Int))).setCell (p := ⟨g4, 2, none⟩) (show w.heap.size ≤ g4 by omega) (.slice none 0 0)).setCell (p := ⟨g4, 3, none⟩) (show w.heap.size ≤ g4 by omega) (.slice none 0 0))
  have hgl : g4 < w2.heap.size := hb4.lt
  clear hb2 hb4 hg4 hl0 hl1 K0 K1 B0 HG
  go_wp2_with fail
  generalize ((((w2.setCell ⟨g4, 0, none⟩ (.int .u32 (q0 : Int))).setCell ⟨g4, 1, none⟩ (.int .u32 (q4 : Int))).setCell ⟨g4, 2, none⟩ (.slice none 0 0)).setCell ⟨g4, 3, none⟩ (.slice none 0 0)) = v3 at G3 K0b K1b B3 ⊢
  clear hgl y0 z0 y1 z1 y2 z2 y3 z3
  rw [← drawn_eq 2]
  refine wp_region_grow_tail 10 (by kernel_rfl) [(Is (.pointer (some ⟨w.heap.size, 2, none⟩))), (Is (.slice A n c)), (Is (.int .u16 (h8 : Int))), (Is (.int .i64 (h8 : Int))), (Is (.int .i64 (4 * (h8 : Int)))), (Is (.int .i64 (12 + 4 * (h8 : Int)))), (Is (.pointer (some ⟨w.heap.size, 2, none⟩))), (Is (.slice A n c)), (Is (.int .i64 n)), (Is (.int .i64 (E : Int)))] rfl ?_ (by kernel_rfl) (by kernel_rfl) ?_ ?_
  · intro p hp
    simp only [List.mem_cons, List.not_mem_nil, or_false] at hp
    rcases hp with rfl | rfl | rfl | rfl | rfl | rfl | rfl | rfl | rfl | rfl
    · exact Lasts.is _
    · exact Lasts.is _
    · exact Lasts.is _
    · exact Lasts.is _
    · exact Lasts.is _
    · exact Lasts.is _
    · exact Lasts.is _
    · exact Lasts.is _
    · exact Lasts.is _
    · exact Lasts.is _
  · refine ⟨?_, ?_, ?_, ?_, ?_, ?_, ?_, ?_, ?_, ?_, trivial⟩
    · intro listed a w1 hl hc
      have h1 : a.tmps[1]?.getD undef = .pointer (some ⟨w.heap.size, 0, none⟩) := (hc.was 1 (by kernel_rfl)).trans rfl
      refine does_value rfl rfl (.pointer (some ⟨w.heap.size, 2, none⟩)) w1 ?_ (Below.refl _ _) rfl
      clear hc hl
      go_simp
    · intro listed a w1 hl hc
      have h15 : a.tmps[15]?.getD undef = .pointer (some ⟨w.heap.size, 2, none⟩) := hc.dep hl 0 15 rfl (by kernel_rfl)
      have kb := K0b.out.below hc.g K0b.out.lt
      have x2 : w1.cell? ⟨w.heap.size, 2, none⟩ = some (.slice A n c) := kb.cell 2
      clear kb
      refine does_value rfl rfl (.slice A n c) w1 ?_ (Below.refl _ _) rfl
      clear hc hl
      go_simp
    · intro listed a w1 hl hc
      have h16 : a.tmps[16]?.getD undef = .slice A n c := hc.dep hl 1 16 rfl (by kernel_rfl)
      refine does_call rfl rfl 53 #[.slice A n c, .int .i64 8] ?_ ((HH8.out w1 (B3.out.trans (hc.g.mono B3.out.size))).mono fun e w' ⟨he, hb⟩ => ⟨_, he, hb, rfl⟩)
      clear hc hl
      go_simp
    · intro listed a w1 hl hc
      have h17 : a.tmps[17]?.getD undef = .int .u16 (h8 : Int) := hc.dep hl 2 17 rfl (by kernel_rfl)
      refine does_value rfl rfl (.int .i64 (h8 : Int)) w1 ?_ (Below.refl _ _) rfl
      clear hc hl
      go_simp
      exact wrap_small _ (by omega) (by omega)
    · intro listed a w1 hl hc
      have h18 : a.tmps[18]?.getD undef = .int .i64 (h8 : Int) := hc.dep hl 3 18 rfl (by kernel_rfl)
      refine does_value rfl rfl (.int .i64 (4 * (h8 : Int))) w1 ?_ (Below.refl _ _) rfl
      clear hc hl
      go_simp
      exact wrap_small _ (by omega) (by omega)
    · intro listed a w1 hl hc
      have h19 : a.tmps[19]?.getD undef = .int .i64 (4 * (h8 : Int)) := hc.dep hl 4 19 rfl (by kernel_rfl)
      refine does_value rfl rfl (.int .i64 (12 + 4 * (h8 : Int))) w1 ?_ (Below.refl _ _) rfl
      clear hc hl
      go_simp
      exact wrap_small _ (by omega) (by omega)
    · intro listed a w1 hl hc
      have h1 : a.tmps[1]?.getD undef = .pointer (some ⟨w.heap.size, 0, none⟩) := (hc.was 1 (by kernel_rfl)).trans rfl
      refine does_value rfl rfl (.pointer (some ⟨w.heap.size, 2, none⟩)) w1 ?_ (Below.refl _ _) rfl
      clear hc hl
      go_simp
    · intro listed a w1 hl hc
      have h21 : a.tmps[21]?.getD undef = .pointer (some ⟨w.heap.size, 2, none⟩) := hc.dep hl 6 21 rfl (by kernel_rfl)
      have kb := K0b.out.below hc.g K0b.out.lt
      have x2 : w1.cell? ⟨w.heap.size, 2, none⟩ = some (.slice A n c) := kb.cell 2
      clear kb
      refine does_value rfl rfl (.slice A n c) w1 ?_ (Below.refl _ _) rfl
      clear hc hl
      go_simp
    · intro listed a w1 hl hc
      have h22 : a.tmps[22]?.getD undef = .slice A n c := hc.dep hl 7 22 rfl (by kernel_rfl)
      refine does_value rfl rfl (.int .i64 n) w1 ?_ (Below.refl _ _) rfl
      clear hc hl
      go_simp
    · intro listed a w1 hl hc
      have h20 : a.tmps[20]?.getD undef = .int .i64 (12 + 4 * (h8 : Int)) := hc.dep hl 5 20 rfl (by kernel_rfl)
      have h23 : a.tmps[23]?.getD undef = .int .i64 n := hc.dep hl 8 23 rfl (by kernel_rfl)
      refine does_value rfl rfl (.int .i64 (E : Int)) w1 ?_ (Below.refl _ _) rfl
      clear hc hl
      go_simp
      rw [HE2.out]
      exact min_int h8 n
  intro w2 hb2
  rintro _ rfl _ rfl _ rfl _ rfl _ rfl _ rfl _ rfl _ rfl _ rfl _ rfl
  simp only [Thus, List.reverse_cons, List.reverse_nil, List.nil_append, List.cons_append, List.drop, List.take, lay]
  go_frame
  have G4 := Lib.hid (G3.out.below hb2 G3.out.lt)
  have K0c := Lib.hid (K0b.out.below hb2 K0b.out.lt)
  have K1c := Lib.hid (K1b.out.below hb2 K1b.out.lt)
  have B4 := Lib.hid (below_then B3.out (Nat.le_refl _) hb2)
  clear hb2 G3 K0b K1b B3
  go_wp2_with fail
  go_loopw [6] (fun i wr => ∃ (k2 e cs : Nat) (As : Option Addr), k2 ≤ NG ∧ e ≤ n + 16 ∧ i = .int .i64 (e : Int) ∧ Hid (e = 12 + 4 * k2) ∧ Blk wr g4 52 #[.int .u32 (q0 : Int), .int .u32 (q4 : Int), .slice As k2 cs, .slice none 0 0] ∧ Og wr 79 w.heap.size (.slice As k2 cs) (getGO xs 12 k2) ∧ Blk wr w.heap.size 28 #[.int .u8 (k.toNat : Int), .int .u8 (f.toNat : Int), .slice A n c] ∧ Blk wr (w.heap.size + 1) 52 #[.int .u32 0, .int .u32 0, .slice none 0 0, .slice none 0 0] ∧ Below w.heap.size w wr) (fun i _ => n + 24 - (intOf i).toNat)
  case atStart => exact ⟨0, 12, 0, none, by omega, by omega, rfl, Lib.hid rfl, G4.out, World.ownsRow_nil _ _ _ _, K0c.out, K1c.out, B4.out⟩
  case round =>
    clear G4 K0c K1c B4
    obtain ⟨k2, e, cs, As, hk2, he, rfl, HE, hG, hO, hK0, hK1, hB⟩ := hrel
    have HG := Lib.hid hG
    have HO := Lib.hid hO
    have HK0 := Lib.hid hK0
    have HK1 := Lib.hid hK1
    have HB := Lib.hid hB
    clear hG hO hK0 hK1 hB
    by_cases hlt : e < E
    · have hkn : k2 < NG := by have := HNG.out; have := HE.out; omega
      have hne0 : some w.heap.size ≠ (Value.slice As k2 cs).ownBlock := owns_ne HO.out HK0.out (by decide)
      have hne4 : some g4 ≠ (Value.slice As k2 cs).ownBlock := owns_ne HO.out HG.out (by decide)
      have hne1 : some (w.heap.size + 1) ≠ (Value.slice As k2 cs).ownBlock := owns_ne HO.out HK1.out (by decide)
      have hob : ∀ b, (Value.slice As k2 cs).ownBlock = some b → b < wr.heap.size := own_lt HO.out
      have hobg : ∀ b, (Value.slice As k2 cs).ownBlock = some b → w.heap.size ≤ b := own_ge HO.out
      have hwr : w.heap.size ≤ wr.heap.size := HB.out.size
      obtain ⟨pa, hpa⟩ : ∃ pa, pa = numO xs e 2 := ⟨_, rfl⟩
      obtain ⟨pb, hpb⟩ : ∃ pb, pb = numO xs (e + 2) 2 := ⟨_, rfl⟩
      have HH1 : Hid (∀ W, Below w.heap.size w W → Calls Try.prog 53 #[.slice A n c, .int .i64 (e : Int)] W fun e w' => e = .returned (.int .u16 (pa : Int)) ∧ Below W.heap.size W w') := Lib.hid fun W hW => by rw [hpa]; exact HWH.out W e (by omega) hW
      have HH2 : Hid (∀ W, Below w.heap.size w W → Calls Try.prog 53 #[.slice A n c, .int .i64 ((e : Int) + 2)] W fun e w' => e = .returned (.int .u16 (pb : Int)) ∧ Below W.heap.size W w') := Lib.hid fun W hW => by
          have := HWH.out W (e + 2) (by omega) hW
          rw [← hpb] at this
          exact this
      have HSN : Hid (getGO xs 12 (k2 + 1) = getGO xs 12 k2 ++ [(pa, pb)]) := Lib.hid (by rw [getGO_snoc, hpa, hpb, HE.out])
      clear hpa hpb
      go_wp2_with fail
      rw [← drawn_eq 6]
      refine wp_region_own_tail 15 13 ((Value.slice As k2 cs).ownBlock) (by kernel_rfl) [(Is (.pointer (some ⟨g4, 2, none⟩))), (Is (.slice As k2 cs)), (Is (.pointer (some ⟨w.heap.size, 2, none⟩))), (Is (.slice A n c)), (Is (.int .i64 (e : Int))), (Is (.int .u16 (pa : Int))), (Is (.pointer (some ⟨w.heap.size, 2, none⟩))), (Is (.slice A n c)), (Is (.int .i64 (e : Int))), (Is (.int .i64 ((e : Int) + 2))), (Is (.int .u16 (pb : Int))), (Is (.agg #[.int .u16 (pa : Int), .int .u16 (pb : Int)])), (NewSl wr.heap.size 79 1 #[.int .u16 (pa : Int), .int .u16 (pb : Int)])] (NewOg 79 w.heap.size (k2 + 1) (getGO xs 12 k2 ++ [(pa, pb)])) [(Is (.pointer (some ⟨g4, 2, none⟩)))] rfl rfl (Lasts.newOg _ _ _ _) ?_ (by kernel_rfl) (by kernel_rfl) ?_ ?_
      · intro q hq
        simp only [List.cons_append, List.nil_append, List.mem_cons, List.not_mem_nil, or_false] at hq
        rcases hq with rfl | rfl | rfl | rfl | rfl | rfl | rfl | rfl | rfl | rfl | rfl | rfl | rfl | rfl
        · exact ⟨Lasts.is _, LastsO.is _ _⟩
        · exact ⟨Lasts.is _, LastsO.is _ _⟩
        · exact ⟨Lasts.is _, LastsO.is _ _⟩
        · exact ⟨Lasts.is _, LastsO.is _ _⟩
        · exact ⟨Lasts.is _, LastsO.is _ _⟩
        · exact ⟨Lasts.is _, LastsO.is _ _⟩
        · exact ⟨Lasts.is _, LastsO.is _ _⟩
        · exact ⟨Lasts.is _, LastsO.is _ _⟩
        · exact ⟨Lasts.is _, LastsO.is _ _⟩
        · exact ⟨Lasts.is _, LastsO.is _ _⟩
        · exact ⟨Lasts.is _, LastsO.is _ _⟩
        · exact ⟨Lasts.is _, LastsO.is _ _⟩
        · exact ⟨Lasts.newSl _ _ _ _, LastsO.newSl _ _ _ _ _ hob⟩
        · exact ⟨Lasts.is _, LastsO.is _ _⟩
      · refine ⟨?_, ?_, ?_, ?_, ?_, ?_, ?_, ?_, ?_, ?_, ?_, ?_, ?_, ?_, ?_, trivial⟩
        · intro listed a w1 hl hc hpre
          have h4 : a.tmps[4]?.getD undef = .pointer (some ⟨g4, 0, none⟩) := (hc.was 4 (by kernel_rfl)).trans rfl
          refine does_value rfl rfl (.pointer (some ⟨g4, 2, none⟩)) w1 ?_ (stepB (by decide) (Below.refl _ _)) rfl
          clear hc hl
          go_simp
        · intro listed a w1 hl hc hpre
          have h30 : a.tmps[30]?.getD undef = .pointer (some ⟨g4, 2, none⟩) := hc.dep hl 0 30 rfl (by kernel_rfl)
          have kb := HG.out.grown hc.g hne4
          have x2 : w1.cell? ⟨g4, 2, none⟩ = some (.slice As k2 cs) := kb.cell 2
          clear kb
          refine does_value rfl rfl (.slice As k2 cs) w1 ?_ (stepB (by decide) (Below.refl _ _)) rfl
          clear hc hl
          go_simp
        · intro listed a w1 hl hc hpre
          have h1 : a.tmps[1]?.getD undef = .pointer (some ⟨w.heap.size, 0, none⟩) := (hc.was 1 (by kernel_rfl)).trans rfl
          refine does_value rfl rfl (.pointer (some ⟨w.heap.size, 2, none⟩)) w1 ?_ (stepB (by decide) (Below.refl _ _)) rfl
          clear hc hl
          go_simp
        · intro listed a w1 hl hc hpre
          have h32 : a.tmps[32]?.getD undef = .pointer (some ⟨w.heap.size, 2, none⟩) := hc.dep hl 2 32 rfl (by kernel_rfl)
          have kb := HK0.out.grown hc.g hne0
          have x2 : w1.cell? ⟨w.heap.size, 2, none⟩ = some (.slice A n c) := kb.cell 2
          clear kb
          refine does_value rfl rfl (.slice A n c) w1 ?_ (stepB (by decide) (Below.refl _ _)) rfl
          clear hc hl
          go_simp
        · intro listed a w1 hl hc hpre
          have h6 : a.tmps[6]?.getD undef = .int .i64 (e : Int) := (hc.was 6 (by kernel_rfl)).trans rfl
          refine does_value rfl rfl (.int .i64 (e : Int)) w1 ?_ (stepB (by decide) (Below.refl _ _)) rfl
          clear hc hl
          go_simp
        · intro listed a w1 hl hc hpre
          have h33 : a.tmps[33]?.getD undef = .slice A n c := hc.dep hl 3 33 rfl (by kernel_rfl)
          have h34 : a.tmps[34]?.getD undef = .int .i64 (e : Int) := hc.dep hl 4 34 rfl (by kernel_rfl)
          refine does_call rfl rfl 53 #[.slice A n c, .int .i64 (e : Int)] ?_ ((HH1.out w1 (HB.out.grown hc.g hwr hobg)).mono fun e w' ⟨he, hb⟩ => ⟨_, he, (stepB (by decide) hb), rfl⟩)
          clear hc hl
          go_simp
        · intro listed a w1 hl hc hpre
          have h1 : a.tmps[1]?.getD undef = .pointer (some ⟨w.heap.size, 0, none⟩) := (hc.was 1 (by kernel_rfl)).trans rfl
          refine does_value rfl rfl (.pointer (some ⟨w.heap.size, 2, none⟩)) w1 ?_ (stepB (by decide) (Below.refl _ _)) rfl
          clear hc hl
          go_simp
        · intro listed a w1 hl hc hpre
          have h36 : a.tmps[36]?.getD undef = .pointer (some ⟨w.heap.size, 2, none⟩) := hc.dep hl 6 36 rfl (by kernel_rfl)
          have kb := HK0.out.grown hc.g hne0
          have x2 : w1.cell? ⟨w.heap.size, 2, none⟩ = some (.slice A n c) := kb.cell 2
          clear kb
          refine does_value rfl rfl (.slice A n c) w1 ?_ (stepB (by decide) (Below.refl _ _)) rfl
          clear hc hl
          go_simp
        · intro listed a w1 hl hc hpre
          have h6 : a.tmps[6]?.getD undef = .int .i64 (e : Int) := (hc.was 6 (by kernel_rfl)).trans rfl
          refine does_value rfl rfl (.int .i64 (e : Int)) w1 ?_ (stepB (by decide) (Below.refl _ _)) rfl
          clear hc hl
          go_simp
        · intro listed a w1 hl hc hpre
          have h38 : a.tmps[38]?.getD undef = .int .i64 (e : Int) := hc.dep hl 8 38 rfl (by kernel_rfl)
          refine does_value rfl rfl (.int .i64 ((e : Int) + 2)) w1 ?_ (stepB (by decide) (Below.refl _ _)) rfl
          clear hc hl
          go_simp
          exact wrap_small _ (by omega) (by omega)
        · intro listed a w1 hl hc hpre
          have h37 : a.tmps[37]?.getD undef = .slice A n c := hc.dep hl 7 37 rfl (by kernel_rfl)
          have h39 : a.tmps[39]?.getD undef = .int .i64 ((e : Int) + 2) := hc.dep hl 9 39 rfl (by kernel_rfl)
          refine does_call rfl rfl 53 #[.slice A n c, .int .i64 ((e : Int) + 2)] ?_ ((HH2.out w1 (HB.out.grown hc.g hwr hobg)).mono fun e w' ⟨he, hb⟩ => ⟨_, he, (stepB (by decide) hb), rfl⟩)
          clear hc hl
          go_simp
        · intro listed a w1 hl hc hpre
          have h35 : a.tmps[35]?.getD undef = .int .u16 (pa : Int) := hc.dep hl 5 35 rfl (by kernel_rfl)
          have h40 : a.tmps[40]?.getD undef = .int .u16 (pb : Int) := hc.dep hl 10 40 rfl (by kernel_rfl)
          refine does_value rfl rfl (.agg #[.int .u16 (pa : Int), .int .u16 (pb : Int)]) w1 ?_ (stepB (by decide) (Below.refl _ _)) rfl
          clear hc hl
          go_simp
        · intro listed a w1 hl hc hpre
          have h41 : a.tmps[41]?.getD undef = .agg #[.int .u16 (pa : Int), .int .u16 (pb : Int)] := hc.dep hl 11 41 rfl (by kernel_rfl)
          refine does_value rfl rfl (.slice (some ⟨w1.heap.size, 0, none⟩) 1 1) (w1.alloc (.cells #[.int .u16 (pa : Int), .int .u16 (pb : Int)] 79)) ?_ (stepB (by decide) (below_new w1 _)) ⟨_, rfl, hc.g.size, Blk.new _ _ _⟩
          clear hc hl
          go_simp
        · intro listed a w1 hl hc hpre
          have h31 : a.tmps[31]?.getD undef = .slice As k2 cs := hc.dep hl 1 31 rfl (by kernel_rfl)
          obtain ⟨g42, h42, hg42, hb42⟩ := hc.dep hl 12 42 rfl (by kernel_rfl)
          obtain ⟨A9, c9, w9, hrun, hog, hgr⟩ := run_appendG Try.underlying49 hti htz ht1 ht2 w1 49 w.heap.size As k2 cs g42 (getGO xs 12 k2) (pa, pb) (HO.out.below (hpre rfl)) (length_getGO _ _ _) hb42 (by omega) (Nat.le_trans hwr hc.g.size)
          refine does_value rfl rfl (.slice A9 (k2 + 1 : Nat) c9) w9 (exec_append rfl h31 h42 hrun) (stepO hgr) ⟨A9, c9, rfl, hog⟩
        · intro listed a w1 hl hc hpre
          have h4 : a.tmps[4]?.getD undef = .pointer (some ⟨g4, 0, none⟩) := (hc.was 4 (by kernel_rfl)).trans rfl
          refine does_value rfl rfl (.pointer (some ⟨g4, 2, none⟩)) w1 ?_ (stepB (by decide) (Below.refl _ _)) rfl
          clear hc hl
          go_simp
      intro w2 hb2
      rintro _ rfl _ rfl _ rfl _ rfl _ rfl _ rfl _ rfl _ rfl _ rfl _ rfl _ rfl _ rfl _ ⟨g42, rfl, hg42, hb42⟩ _ ⟨A43, c43, rfl, ho43⟩ _ rfl
      simp only [Thus, List.reverse_cons, List.reverse_nil, List.nil_append, List.cons_append, List.drop, List.take, lay]
      go_frame
      have HG2 := Lib.hid (HG.out.grown hb2 hne4)
      have HK02 := Lib.hid (HK0.out.grown hb2 hne0)
      have HK12 := Lib.hid (HK1.out.grown hb2 hne1)
      have HB2 := Lib.hid (HB.out.grown hb2 hwr hobg)
      have HO2 := Lib.hid ho43
      have y2 := HG2.out.cell 2
      have z2 := HG2.out.frozen 2
      clear hb2 hb42 hg42 ho43
      go_wp2_with fail
      go_roundw
      case rel => exact ⟨k2 + 1, e + 4, c43, A43, by omega, by omega, by go_num, Lib.hid (by have := HE.out; omega), HG2.out.set_ 2 _, by rw [HSN.out]; exact HO2.out.setBlk HG2.out (by decide) 2 _, HK02.out.far (p := ⟨g4, 2, none⟩) (show w.heap.size ≠ g4 by omega) _, HK12.out.far (p := ⟨g4, 2, none⟩) (show w.heap.size + 1 ≠ g4 by omega) _, HB2.out.setCell (p := ⟨g4, 2, none⟩) (show w.heap.size ≤ g4 by omega) _⟩
      case measure => simp [intOf]; omega
    · have hkn : k2 = NG := by have := HNG.out; have := HE.out; omega
      subst hkn
      clear HE HNG
      go_wp2_with fail
      go_loopw [7] (fun i wr => ∃ (k3 e cd : Nat) (Ad : Option Addr), k3 ≤ ND ∧ e ≤ n + 16 ∧ i = .int .i64 (e : Int) ∧ Hid (e = E + 4 * k3) ∧ Blk wr g4 52 #[.int .u32 (q0 : Int), .int .u32 (q4 : Int), .slice As k2 cs, .slice Ad k3 cd] ∧ Og wr 79 w.heap.size (.slice As k2 cs) (getGO xs 12 k2) ∧ Ow wr 22 w.heap.size (.slice Ad k3 cd) (ints (getNO xs E k3)) ∧ Blk wr w.heap.size 28 #[.int .u8 (k.toNat : Int), .int .u8 (f.toNat : Int), .slice A n c] ∧ Blk wr (w.heap.size + 1) 52 #[.int .u32 0, .int .u32 0, .slice none 0 0, .slice none 0 0] ∧ Below w.heap.size w wr) (fun i _ => n + 24 - (intOf i).toNat)
      case atStart => exact ⟨0, E, 0, none, by omega, by omega, rfl, Lib.hid (by omega), HG.out, HO.out, Ow.nil _ _ _, HK0.out, HK1.out, HB.out⟩
      case round =>
        clear HG HO HK0 HK1 HB hlt he
        obtain ⟨k3, e, cd, Ad, hk3, he, rfl, HE, hG, hO, hP, hK0, hK1, hB⟩ := hrel
        have HG := Lib.hid hG
        have HO := Lib.hid hO
        have HP := Lib.hid hP
        have HK0 := Lib.hid hK0
        have HK1 := Lib.hid hK1
        have HB := Lib.hid hB
        have x2 : wr.cell? ⟨w.heap.size, 2, none⟩ = some (.slice A n c) := hK0.cell 2
        clear hG hO hP hK0 hK1 hB
        by_cases hlt : e < n
        · have hkn : k3 < ND := by have := HND.out; have := HE.out; omega
          have hne0 : some w.heap.size ≠ (Value.slice Ad k3 cd).ownBlock := owns_ne HP.out HK0.out (by decide)
          have hne4 : some g4 ≠ (Value.slice Ad k3 cd).ownBlock := owns_ne HP.out HG.out (by decide)
          have hne1 : some (w.heap.size + 1) ≠ (Value.slice Ad k3 cd).ownBlock := owns_ne HP.out HK1.out (by decide)
          have hob : ∀ b, (Value.slice Ad k3 cd).ownBlock = some b → b < wr.heap.size := own_lt HP.out
          have hobg : ∀ b, (Value.slice Ad k3 cd).ownBlock = some b → w.heap.size ≤ b := own_ge HP.out
          have hwr : w.heap.size ≤ wr.heap.size := HB.out.size
          obtain ⟨pa, hpa⟩ : ∃ pa, pa = numO xs e 4 := ⟨_, rfl⟩
          have HH1 : Hid (∀ W, Below w.heap.size w W → Calls Try.prog 52 #[.slice A n c, .int .i64 (e : Int)] W fun e w' => e = .returned (.int .u32 (pa : Int)) ∧ Below W.heap.size W w') := Lib.hid fun W hW => by rw [hpa]; exact HWW.out W e (by omega) hW
          have HSN : Hid (ints (getNO xs E (k3 + 1)) = ints (getNO xs E k3) ++ [(pa : Int)]) := Lib.hid (by rw [getNO_snoc, ints_snoc, hpa, HE.out])
          clear hpa
          go_wp2_with fail
          rw [← drawn_eq 10]
          refine wp_region_own_tail 9 7 ((Value.slice Ad k3 cd).ownBlock) (by kernel_rfl) [(Is (.pointer (some ⟨g4, 3, none⟩))), (Is (.slice Ad k3 cd)), (Is (.pointer (some ⟨w.heap.size, 2, none⟩))), (Is (.slice A n c)), (Is (.int .i64 (e : Int))), (Is (.int .u32 (pa : Int))), (NewSl wr.heap.size 22 1 #[.int .u32 (pa : Int)])] (NewOw 22 w.heap.size (k3 + 1) (ints (getNO xs E k3) ++ [(pa : Int)])) [(Is (.pointer (some ⟨g4, 3, none⟩)))] rfl rfl (Lasts.newOw _ _ _ _) ?_ (by kernel_rfl) (by kernel_rfl) ?_ ?_
          · intro q hq
            simp only [List.cons_append, List.nil_append, List.mem_cons, List.not_mem_nil, or_false] at hq
            rcases hq with rfl | rfl | rfl | rfl | rfl | rfl | rfl | rfl
            · exact ⟨Lasts.is _, LastsO.is _ _⟩
            · exact ⟨Lasts.is _, LastsO.is _ _⟩
            · exact ⟨Lasts.is _, LastsO.is _ _⟩
            · exact ⟨Lasts.is _, LastsO.is _ _⟩
            · exact ⟨Lasts.is _, LastsO.is _ _⟩
            · exact ⟨Lasts.is _, LastsO.is _ _⟩
            · exact ⟨Lasts.newSl _ _ _ _, LastsO.newSl _ _ _ _ _ hob⟩
            · exact ⟨Lasts.is _, LastsO.is _ _⟩
          · refine ⟨?_, ?_, ?_, ?_, ?_, ?_, ?_, ?_, ?_, trivial⟩
            · intro listed a w1 hl hc hpre
              have h4 : a.tmps[4]?.getD undef = .pointer (some ⟨g4, 0, none⟩) := (hc.was 4 (by kernel_rfl)).trans rfl
              refine does_value rfl rfl (.pointer (some ⟨g4, 3, none⟩)) w1 ?_ (stepB (by decide) (Below.refl _ _)) rfl
              clear hc hl
              go_simp
            · intro listed a w1 hl hc hpre
              have h53 : a.tmps[53]?.getD undef = .pointer (some ⟨g4, 3, none⟩) := hc.dep hl 0 53 rfl (by kernel_rfl)
              have kb := HG.out.grown hc.g hne4
              have x3 : w1.cell? ⟨g4, 3, none⟩ = some (.slice Ad k3 cd) := kb.cell 3
              clear kb
              refine does_value rfl rfl (.slice Ad k3 cd) w1 ?_ (stepB (by decide) (Below.refl _ _)) rfl
              clear hc hl
              go_simp
            · intro listed a w1 hl hc hpre
              have h1 : a.tmps[1]?.getD undef = .pointer (some ⟨w.heap.size, 0, none⟩) := (hc.was 1 (by kernel_rfl)).trans rfl
              refine does_value rfl rfl (.pointer (some ⟨w.heap.size, 2, none⟩)) w1 ?_ (stepB (by decide) (Below.refl _ _)) rfl
              clear hc hl
              go_simp
            · intro listed a w1 hl hc hpre
              have h55 : a.tmps[55]?.getD undef = .pointer (some ⟨w.heap.size, 2, none⟩) := hc.dep hl 2 55 rfl (by kernel_rfl)
              have kb := HK0.out.grown hc.g hne0
              have x2 : w1.cell? ⟨w.heap.size, 2, none⟩ = some (.slice A n c) := kb.cell 2
              clear kb
              refine does_value rfl rfl (.slice A n c) w1 ?_ (stepB (by decide) (Below.refl _ _)) rfl
              clear hc hl
              go_simp
            · intro listed a w1 hl hc hpre
              have h7 : a.tmps[7]?.getD undef = .int .i64 (e : Int) := (hc.was 7 (by kernel_rfl)).trans rfl
              refine does_value rfl rfl (.int .i64 (e : Int)) w1 ?_ (stepB (by decide) (Below.refl _ _)) rfl
              clear hc hl
              go_simp
            · intro listed a w1 hl hc hpre
              have h56 : a.tmps[56]?.getD undef = .slice A n c := hc.dep hl 3 56 rfl (by kernel_rfl)
              have h57 : a.tmps[57]?.getD undef = .int .i64 (e : Int) := hc.dep hl 4 57 rfl (by kernel_rfl)
              refine does_call rfl rfl 52 #[.slice A n c, .int .i64 (e : Int)] ?_ ((HH1.out w1 (HB.out.grown hc.g hwr hobg)).mono fun e w' ⟨he, hb⟩ => ⟨_, he, (stepB (by decide) hb), rfl⟩)
              clear hc hl
              go_simp
            · intro listed a w1 hl hc hpre
              have h58 : a.tmps[58]?.getD undef = .int .u32 (pa : Int) := hc.dep hl 5 58 rfl (by kernel_rfl)
              refine does_value rfl rfl (.slice (some ⟨w1.heap.size, 0, none⟩) 1 1) (w1.alloc (.cells #[.int .u32 (pa : Int)] 22)) ?_ (stepB (by decide) (below_new w1 _)) ⟨_, rfl, hc.g.size, Blk.new _ _ _⟩
              clear hc hl
              go_simp
            · intro listed a w1 hl hc hpre
              have h54 : a.tmps[54]?.getD undef = .slice Ad k3 cd := hc.dep hl 1 54 rfl (by kernel_rfl)
              obtain ⟨g59, h59, hg59, hb59⟩ := hc.dep hl 6 59 rfl (by kernel_rfl)
              obtain ⟨A9, c9, w9, hrun, hog, hgr⟩ := run_appendW Try.underlying50 hui huz hu1 hu2 w1 50 w.heap.size Ad k3 cd g59 (ints (getNO xs E k3)) (pa : Int) (HP.out.below (hpre rfl)) (by rw [length_ints, length_getNO]) hb59 (by omega) (Nat.le_trans hwr hc.g.size)
              refine does_value rfl rfl (.slice A9 (k3 + 1 : Nat) c9) w9 (exec_append rfl h54 h59 hrun) (stepO hgr) ⟨A9, c9, rfl, hog⟩
            · intro listed a w1 hl hc hpre
              have h4 : a.tmps[4]?.getD undef = .pointer (some ⟨g4, 0, none⟩) := (hc.was 4 (by kernel_rfl)).trans rfl
              refine does_value rfl rfl (.pointer (some ⟨g4, 3, none⟩)) w1 ?_ (stepB (by decide) (Below.refl _ _)) rfl
              clear hc hl
              go_simp
          intro w2 hb2
          rintro _ rfl _ rfl _ rfl _ rfl _ rfl _ rfl _ ⟨g59, rfl, hg59, hb59⟩ _ ⟨A60, c60, rfl, ho60⟩ _ rfl
          simp only [Thus, List.reverse_cons, List.reverse_nil, List.nil_append, List.cons_append, List.drop, List.take, lay]
          go_frame
          have HG2 := Lib.hid (HG.out.grown hb2 hne4)
          have HK02 := Lib.hid (HK0.out.grown hb2 hne0)
          have HK12 := Lib.hid (HK1.out.grown hb2 hne1)
          have HB2 := Lib.hid (HB.out.grown hb2 hwr hobg)
          have HO2 := Lib.hid (HO.out.beside HP.out (by decide) hb2)
          have HP2 := Lib.hid ho60
          have y3 := HG2.out.cell 3
          have z3 := HG2.out.frozen 3
          clear hb2 hb59 hg59 ho60 x2
          go_wp2_with fail
          go_roundw
          case rel => exact ⟨k3 + 1, e + 4, c60, A60, by omega, by omega, by go_num, Lib.hid (by have := HE.out; omega), HG2.out.set_ 3 _, HO2.out.setBlk HG2.out (by decide) 3 _, by rw [HSN.out]; exact HP2.out.setBlk HG2.out (by decide) 3 _, HK02.out.far (p := ⟨g4, 3, none⟩) (show w.heap.size ≠ g4 by omega) _, HK12.out.far (p := ⟨g4, 3, none⟩) (show w.heap.size + 1 ≠ g4 by omega) _, HB2.out.setCell (p := ⟨g4, 3, none⟩) (show w.heap.size ≤ g4 by omega) _⟩
          case measure => simp [intOf]; omega
        · have hkn : k3 = ND := by have := HND.out; have := HE.out; omega
          subst hkn
          clear HE HND
          go_wp2_with fail
          rw [← drawn_eq 11]
          refine wp_region_grow_tail 8 (by kernel_rfl) [(Is (.agg #[.int .u8 (k.toNat : Int), .int .u8 (f.toNat : Int), .slice A n c])), (Is (.agg #[.int .u32 (q0 : Int), .int .u32 (q4 : Int), .slice As k2 cs, .slice Ad k3 cd])), (Is (.pointer (some ⟨g4, 2, none⟩))), (Is (.slice As k2 cs)), (Is (.bool false)), (Is (.tuple #[.agg #[.int .u32 0, .int .u32 0, .slice none 0 0, .slice none 0 0], .int .i64 7])), (Is (.agg #[.int .u32 0, .int .u32 0, .slice none 0 0, .slice none 0 0])), (Is (.int .i64 7))] rfl ?_ (by kernel_rfl) (by kernel_rfl) ?_ ?_
          · intro p hp
            simp only [List.mem_cons, List.not_mem_nil, or_false] at hp
            rcases hp with rfl | rfl | rfl | rfl | rfl | rfl | rfl | rfl
            · exact Lasts.is _
            · exact Lasts.is _
            · exact Lasts.is _
            · exact Lasts.is _
            · exact Lasts.is _
            · exact Lasts.is _
            · exact Lasts.is _
            · exact Lasts.is _
          · refine ⟨?_, ?_, ?_, ?_, ?_, ?_, ?_, ?_, trivial⟩
            · intro listed a w1 hl hc
              have h1 : a.tmps[1]?.getD undef = .pointer (some ⟨w.heap.size, 0, none⟩) := (hc.was 1 (by kernel_rfl)).trans rfl
              have kb := HK0.out.below hc.g HK0.out.lt
              have x0 : w1.cell? ⟨w.heap.size, 0, none⟩ = some (.int .u8 (k.toNat : Int)) := kb.cell 0
              have x1 : w1.cell? ⟨w.heap.size, 1, none⟩ = some (.int .u8 (f.toNat : Int)) := kb.cell 1
              have x2 : w1.cell? ⟨w.heap.size, 2, none⟩ = some (.slice A n c) := kb.cell 2
              clear kb
              refine does_value rfl rfl (.agg #[.int .u8 (k.toNat : Int), .int .u8 (f.toNat : Int), .slice A n c]) w1 ?_ (Below.refl _ _) rfl
              clear hc hl
              go_simp
            · intro listed a w1 hl hc
              have h4 : a.tmps[4]?.getD undef = .pointer (some ⟨g4, 0, none⟩) := (hc.was 4 (by kernel_rfl)).trans rfl
              have kb := HG.out.below hc.g HG.out.lt
              have x0 : w1.cell? ⟨g4, 0, none⟩ = some (.int .u32 (q0 : Int)) := kb.cell 0
              have x1 : w1.cell? ⟨g4, 1, none⟩ = some (.int .u32 (q4 : Int)) := kb.cell 1
              have x2 : w1.cell? ⟨g4, 2, none⟩ = some (.slice As k2 cs) := kb.cell 2
              have x3 : w1.cell? ⟨g4, 3, none⟩ = some (.slice Ad k3 cd) := kb.cell 3
              clear kb
              refine does_value rfl rfl (.agg #[.int .u32 (q0 : Int), .int .u32 (q4 : Int), .slice As k2 cs, .slice Ad k3 cd]) w1 ?_ (Below.refl _ _) rfl
              clear hc hl
              go_simp
            · intro listed a w1 hl hc
              have h4 : a.tmps[4]?.getD undef = .pointer (some ⟨g4, 0, none⟩) := (hc.was 4 (by kernel_rfl)).trans rfl
              refine does_value rfl rfl (.pointer (some ⟨g4, 2, none⟩)) w1 ?_ (Below.refl _ _) rfl
              clear hc hl
              go_simp
            · intro listed a w1 hl hc
              have h64 : a.tmps[64]?.getD undef = .pointer (some ⟨g4, 2, none⟩) := hc.dep hl 2 64 rfl (by kernel_rfl)
              have kb := HG.out.below hc.g HG.out.lt
              have x2 : w1.cell? ⟨g4, 2, none⟩ = some (.slice As k2 cs) := kb.cell 2
              clear kb
              refine does_value rfl rfl (.slice As k2 cs) w1 ?_ (Below.refl _ _) rfl
              clear hc hl
              go_simp
            · intro listed a w1 hl hc
              have h65 : a.tmps[65]?.getD undef = .slice As k2 cs := hc.dep hl 3 65 rfl (by kernel_rfl)
              refine does_call rfl rfl 68 #[.slice As k2 cs] ?_ ((HAP.out w1 As cs (HO.out.below hc.g)).mono fun e w' ⟨he, hb⟩ => ⟨_, he, hb, rfl⟩)
              clear hc hl
              go_simp
            · intro listed a w1 hl hc
              have h62 : a.tmps[62]?.getD undef = .agg #[.int .u8 (k.toNat : Int), .int .u8 (f.toNat : Int), .slice A n c] := hc.dep hl 0 62 rfl (by kernel_rfl)
              have h63 : a.tmps[63]?.getD undef = .agg #[.int .u32 (q0 : Int), .int .u32 (q4 : Int), .slice As k2 cs, .slice Ad k3 cd] := hc.dep hl 1 63 rfl (by kernel_rfl)
              have h66 : a.tmps[66]?.getD undef = .bool false := hc.dep hl 4 66 rfl (by kernel_rfl)
              refine does_call rfl rfl 67 #[.agg #[.int .u8 (k.toNat : Int), .int .u8 (f.toNat : Int), .slice A n c], .agg #[.int .u32 (q0 : Int), .int .u32 (q4 : Int), .slice As k2 cs, .slice Ad k3 cd], .bool false, .func (.func 29) #[] #[]] ?_ ((HCK.out w1 As cs Ad cd (HB.out.trans (hc.g.mono HB.out.size)) (HO.out.below hc.g) (HP.out.below hc.g)).mono fun e w' ⟨he, hb⟩ => ⟨_, he, hb, rfl⟩)
              clear hc hl
              go_simp
            · intro listed a w1 hl hc
              have h67 : a.tmps[67]?.getD undef = .tuple #[.agg #[.int .u32 0, .int .u32 0, .slice none 0 0, .slice none 0 0], .int .i64 7] := hc.dep hl 5 67 rfl (by kernel_rfl)
              refine does_value rfl rfl (.agg #[.int .u32 0, .int .u32 0, .slice none 0 0, .slice none 0 0]) w1 ?_ (Below.refl _ _) rfl
              clear hc hl
              go_simp
            · intro listed a w1 hl hc
              have h67 : a.tmps[67]?.getD undef = .tuple #[.agg #[.int .u32 0, .int .u32 0, .slice none 0 0, .slice none 0 0], .int .i64 7] := hc.dep hl 5 67 rfl (by kernel_rfl)
              refine does_value rfl rfl (.int .i64 7) w1 ?_ (Below.refl _ _) rfl
              clear hc hl
              go_simp
          intro w2 hb2
          rintro _ rfl _ rfl _ rfl _ rfl _ rfl _ rfl _ rfl _ rfl
          simp only [Thus, List.reverse_cons, List.reverse_nil, List.nil_append, List.cons_append, List.drop, List.take, lay]
          go_frame
          have K1e := Lib.hid (HK1.out.below hb2 HK1.out.lt)
          have B6 := Lib.hid (below_then HB.out (Nat.le_refl _) hb2)
          have O6 := Lib.hid (HO.out.below hb2)
          have P6 := Lib.hid (HP.out.below hb2)
          clear hb2 HK1 HB HO HP x2 HG HK0
          have y0 := K1e.out.cell 0
          have y1 := K1e.out.cell 1
          have y2 := K1e.out.cell 2
          have y3 := K1e.out.cell 3
          have z0 := K1e.out.frozen 0
          have z1 := K1e.out.frozen 1
          have z2 := K1e.out.frozen 2
          have z3 := K1e.out.frozen 3
          go_wp2_with fail
          have H3 := ((((K1e.out.set_ 0 (.int .u32 0)).set_ 1 (.int .u32 0)).set_ 2 (.slice none 0 0)).set_ 3 (.slice none 0 0))
          exact bodyPost_ret (v := .tuple #[.agg #[.int .u32 0, .int .u32 0, .slice none 0 0, .slice none 0 0], .int .i64 7]) (by simp [results, Try.results30, go_sem, H3.cell]) rfl ⟨none, 0, 0, none, 0, 0, rfl, World.ownsRow_nil _ _ _ _, rfl, Ow.nil _ _ _, rfl, ((((B6.out.setCell (p := ⟨w.heap.size + 1, 0, none⟩) (show w.heap.size ≤ w.heap.size + 1 by omega) (.int .u32 0)).setCell (p := ⟨w.heap.size + 1, 1, none⟩) (show w.heap.size ≤ w.heap.size + 1 by omega) (.int .u32 0)).setCell (p := ⟨w.heap.size + 1, 2, none⟩) (show w.heap.size ≤ w.heap.size + 1 by omega) (.slice none 0 0)).setCell (p := ⟨w.heap.size + 1, 3, none⟩) (show w.heap.size ≤ w.heap.size + 1 by omega) (.slice none 0 0))⟩
set_option maxRecDepth 100000 in
set_option maxHeartbeats 4000000 in
theorem getSack_no (k f : UInt8) (A : Option Addr) (n c : Nat) (xs : List UInt8) (w : World) (hn : n ≤ 131072) (hc : n ≤ c) (hcm : c ≤ maxLen) (hx : xs.length = n) (hr : Rd w w.heap.size A xs) (hv : apartG 0 (PS xs).gaps = true) (hd : decide (k = 3 ∧ f = 0 ∧ xs = bodyS (PS xs)) = false) :
    GetsS 30 #[.agg #[.int .u8 (k.toNat : Int), .int .u8 (f.toNat : Int), .slice A n c]] k f xs w := by
  have hz := zero_sack
  have hcm' := hcm
  unfold maxLen at hcm'
  obtain ⟨ti, hti, htz, ht1, ht2⟩ := info_parts Try.infoGap
  obtain ⟨ui, hui, huz, hu1, hu2⟩ := info_parts Try.infoU32
  have h0b : numO xs 0 4 < 4294967296 := numO_lt xs 0 4
  have h4b : numO xs 4 4 < 4294967296 := numO_lt xs 4 4
  have h8b : numO xs 8 2 < 65536 := numO_lt xs 8 2
  have HWW : Hid (∀ (W : World) (a : Nat), a ≤ 140737488355328 → Below w.heap.size w W → Calls Try.prog 52 #[.slice A n c, .int .i64 (a : Int)] W fun e w' => e = .returned (.int .u32 (numO xs a 4)) ∧ Below W.heap.size W w') := Lib.hid fun W a ha hW => (word_any A n c a xs W (by omega) ha hx ((hr.below hW).more hW.size)).mono fun e w' ⟨he, hw⟩ => ⟨he, hw ▸ Below.refl _ _⟩
  have HWH : Hid (∀ (W : World) (a : Nat), a ≤ 140737488355330 → Below w.heap.size w W → Calls Try.prog 53 #[.slice A n c, .int .i64 (a : Int)] W fun e w' => e = .returned (.int .u16 (numO xs a 2)) ∧ Below W.heap.size W w') := Lib.hid fun W a ha hW => (half_any A n c a xs W (by omega) ha hx ((hr.below hW).more hW.size)).mono fun e w' ⟨he, hw⟩ => ⟨he, hw ▸ Below.refl _ _⟩
  obtain ⟨E, hE⟩ : ∃ E, E = endG xs := ⟨_, rfl⟩
  obtain ⟨NG, hNG⟩ : ∃ NG, NG = cntE 12 E := ⟨_, rfl⟩
  obtain ⟨ND, hND⟩ : ∃ ND, ND = cntE E n := ⟨_, rfl⟩
  have hps : PS xs = ⟨numO xs 0 4, numO xs 4 4, getGO xs 12 NG, getNO xs E ND⟩ := by rw [hNG, hND, hE, ← hx]; rfl
  have hEn : E ≤ n := by rw [hE]; unfold endG; omega
  have hEm : E = min (12 + 4 * numO xs 8 2) n := by rw [hE, ← hx]; rfl
  have hcd := okS_code (k := k) (f := f) (b := xs) (by omega)
  rw [hv, hd] at hcd
  have hok : okS k f xs = false := hcd.symm
  have hra : ansS k f xs = noS := by unfold ansS; rw [hok]; rfl
  unfold GetsS
  rw [hok, hra]
  rw [hps] at hv hd
  have hNGb : NG ≤ 1099511627776 := by rw [hNG]; unfold cntE; omega
  have hNDb : ND ≤ 1099511627776 := by rw [hND]; unfold cntE; omega
  have HCK : Hid (∀ W (As : Option Addr) (cs : Nat) (Ad : Option Addr) (cd : Nat), Below w.heap.size w W → Og W 79 w.heap.size (.slice As NG cs) (getGO xs 12 NG) → Ow W 22 w.heap.size (.slice Ad ND cd) (ints (getNO xs E ND)) → Calls Try.prog 67 #[.agg #[.int .u8 (k.toNat : Int), .int .u8 (f.toNat : Int), .slice A n c], .agg #[.int .u32 (numO xs 0 4 : Int), .int .u32 (numO xs 4 4 : Int), .slice As NG cs, .slice Ad ND cd], .bool true, .func (.func 29) #[] #[]] W fun e w' => e = .returned (.tuple #[.agg #[.int .u32 0, .int .u32 0, .slice none 0 0, .slice none 0 0], .int .i64 7]) ∧ Below W.heap.size W w') := Lib.hid fun W As cs Ad cd hW ho hp => checkedS_no k f A n c (numO xs 0 4) (numO xs 4 4) As NG cs Ad ND cd xs _ 3 0 W hx ((hr.below hW).more hW.size) hd (fun W2 h2 => putSack_any (numO xs 0 4) (numO xs 4 4) _ _ h0b h4b (getGO_bd xs _ _) (getNO_bd xs _ _) As Ad NG cs ND cd W2 hNGb hNDb (length_getGO xs _ _) (length_getNO xs _ _) ((ho.below h2).rg) ((hp.below h2).ri))
  have HAP : Hid (∀ W (As : Option Addr) (cs : Nat), Og W 79 w.heap.size (.slice As NG cs) (getGO xs 12 NG) → Calls Try.prog 68 #[.slice As NG cs] W fun e w' => e = .returned (.bool true) ∧ Below W.heap.size W w') := Lib.hid fun W As cs ho => by
    have := areApart_any As NG cs _ W hNGb (length_getGO xs NG 12) ho.rg (getGO_bd xs _ _)
    have hv2 : apartG 0 (getGO xs 12 NG) = true := hv
    rwa [hv2] at this
  have HE2 := Lib.hid hEm
  have HNG := Lib.hid (show NG = (E - 12 + 3) / 4 from hNG)
  have HND := Lib.hid (show ND = (n - E + 3) / 4 from hND)
  have HW0 : Hid (∀ W, Below w.heap.size w W → Calls Try.prog 52 #[.slice A n c, .int .i64 0] W fun e w' => e = .returned (.int .u32 (numO xs 0 4)) ∧ Below W.heap.size W w') := Lib.hid fun W hW => HWW.out W 0 (by omega) hW
  have HW4 : Hid (∀ W, Below w.heap.size w W → Calls Try.prog 52 #[.slice A n c, .int .i64 4] W fun e w' => e = .returned (.int .u32 (numO xs 4 4)) ∧ Below W.heap.size W w') := Lib.hid fun W hW => HWW.out W 4 (by omega) hW
  have HH8 : Hid (∀ W, Below w.heap.size w W → Calls Try.prog 53 #[.slice A n c, .int .i64 8] W fun e w' => e = .returned (.int .u16 (numO xs 8 2)) ∧ Below W.heap.size W w') := Lib.hid fun W hW => HWH.out W 8 (by omega) hW
  obtain ⟨q0, e0⟩ : ∃ q, q = numO xs 0 4 := ⟨_, rfl⟩
  obtain ⟨q4, e4⟩ : ∃ q, q = numO xs 4 4 := ⟨_, rfl⟩
  obtain ⟨h8, e8⟩ : ∃ q, q = numO xs 8 2 := ⟨_, rfl⟩
  rw [← e0] at HW0 HCK
  rw [← e4] at HW4 HCK
  rw [← e8] at HH8 HE2 h8b
  clear e0 e4 e8 h0b h4b hx hr hv hE hNG hND hps hEm hcd hok hra hd
  have b0 : Blk (w.alloc (.cells #[.int .u8 (k.toNat : Int), .int .u8 (f.toNat : Int), .slice A n c] 28)) w.heap.size 28 #[.int .u8 (k.toNat : Int), .int .u8 (f.toNat : Int), .slice A n c] := Blk.new w 28 #[.int .u8 (k.toNat : Int), .int .u8 (f.toNat : Int), .slice A n c]
  have b1 : Blk ((w.alloc (.cells #[.int .u8 (k.toNat : Int), .int .u8 (f.toNat : Int), .slice A n c] 28)).alloc (.cells #[.int .u32 0, .int .u32 0, .slice none 0 0, .slice none 0 0] 52)) (w.heap.size + 1) 52 #[.int .u32 0, .int .u32 0, .slice none 0 0, .slice none 0 0] := by simpa using Blk.new (w.alloc (.cells #[.int .u8 (k.toNat : Int), .int .u8 (f.toNat : Int), .slice A n c] 28)) 52 #[.int .u32 0, .int .u32 0, .slice none 0 0, .slice none 0 0]
  have K0 := Lib.hid (b0.alloc (.cells #[.int .u32 0, .int .u32 0, .slice none 0 0, .slice none 0 0] 52))
  have K1 := Lib.hid b1
  have B0 : Hid (Below w.heap.size w ((w.alloc (.cells #[.int .u8 (k.toNat : Int), .int .u8 (f.toNat : Int), .slice A n c] 28)).alloc (.cells #[.int .u32 0, .int .u32 0, .slice none 0 0, .slice none 0 0] 52))) := Lib.hid (Wr.below_ (((Wr.refl 5 w.heap.size w).alloc (.cells #[.int .u8 (k.toNat : Int), .int .u8 (f.toNat : Int), .slice A n c] 28)).alloc (.cells #[.int .u32 0, .int .u32 0, .slice none 0 0, .slice none 0 0] 52)) (Nat.le_refl _))
  clear b0 b1
  go_enter Try.func30, Try.ntmps30
  rw [drawn_eq 1, drawn_eq 2, drawn_eq 6, drawn_eq 10, drawn_eq 11]
  go_wp2_with fail
  generalize ((w.alloc (.cells #[.int .u8 (k.toNat : Int), .int .u8 (f.toNat : Int), .slice A n c] 28)).alloc (.cells #[.int .u32 0, .int .u32 0, .slice none 0 0, .slice none 0 0] 52)) = v0 at K0 K1 B0 ⊢
  rw [← drawn_eq 1]
  refine wp_region_grow_tail 8 (by kernel_rfl) [(Is (.pointer (some ⟨w.heap.size, 2, none⟩))), (Is (.slice A n c)), (Is (.int .u32 (q0 : Int))), (Is (.pointer (some ⟨w.heap.size, 2, none⟩))), (Is (.slice A n c)), (Is (.int .u32 (q4 : Int))), (Is (.agg #[.int .u32 (q0 : Int), .int .u32 (q4 : Int), .slice none 0 0, .slice none 0 0])), (NewBlk v0.heap.size 52 #[.int .u32 0, .int .u32 0, .slice none 0 0, .slice none 0 0])] rfl ?_ (by kernel_rfl) (by kernel_rfl) ?_ ?_
  · intro p hp
    simp only [List.mem_cons, List.not_mem_nil, or_false] at hp
    rcases hp with rfl | rfl | rfl | rfl | rfl | rfl | rfl | rfl
    · exact Lasts.is _
    · exact Lasts.is _
    · exact Lasts.is _
    · exact Lasts.is _
    · exact Lasts.is _
    · exact Lasts.is _
    · exact Lasts.is _
    · exact Lasts.newBlk _ _ _
  · refine ⟨?_, ?_, ?_, ?_, ?_, ?_, ?_, ?_, trivial⟩
    · intro listed a w1 hl hc
      have h1 : a.tmps[1]?.getD undef = .pointer (some ⟨w.heap.size, 0, none⟩) := (hc.was 1 (by kernel_rfl)).trans rfl
      refine does_value rfl rfl (.pointer (some ⟨w.heap.size, 2, none⟩)) w1 ?_ (Below.refl _ _) rfl
      clear hc hl
      go_simp
    · intro listed a w1 hl hc
      have h8 : a.tmps[8]?.getD undef = .pointer (some ⟨w.heap.size, 2, none⟩) := hc.dep hl 0 8 rfl (by kernel_rfl)
      have kb := K0.out.below hc.g K0.out.lt
      have x2 : w1.cell? ⟨w.heap.size, 2, none⟩ = some (.slice A n c) := kb.cell 2
      clear kb
      refine does_value rfl rfl (.slice A n c) w1 ?_ (Below.refl _ _) rfl
      clear hc hl
      go_simp
    · intro listed a w1 hl hc
      have h9 : a.tmps[9]?.getD undef = .slice A n c := hc.dep hl 1 9 rfl (by kernel_rfl)
      refine does_call rfl rfl 52 #[.slice A n c, .int .i64 0] ?_ ((HW0.out w1 (B0.out.trans (hc.g.mono B0.out.size))).mono fun e w' ⟨he, hb⟩ => ⟨_, he, hb, rfl⟩)
      clear hc hl
      go_simp
    · intro listed a w1 hl hc
      have h1 : a.tmps[1]?.getD undef = .pointer (some ⟨w.heap.size, 0, none⟩) := (hc.was 1 (by kernel_rfl)).trans rfl
      refine does_value rfl rfl (.pointer (some ⟨w.heap.size, 2, none⟩)) w1 ?_ (Below.refl _ _) rfl
      clear hc hl
      go_simp
    · intro listed a w1 hl hc
      have h11 : a.tmps[11]?.getD undef = .pointer (some ⟨w.heap.size, 2, none⟩) := hc.dep hl 3 11 rfl (by kernel_rfl)
      have kb := K0.out.below hc.g K0.out.lt
      have x2 : w1.cell? ⟨w.heap.size, 2, none⟩ = some (.slice A n c) := kb.cell 2
      clear kb
      refine does_value rfl rfl (.slice A n c) w1 ?_ (Below.refl _ _) rfl
      clear hc hl
      go_simp
    · intro listed a w1 hl hc
      have h12 : a.tmps[12]?.getD undef = .slice A n c := hc.dep hl 4 12 rfl (by kernel_rfl)
      refine does_call rfl rfl 52 #[.slice A n c, .int .i64 4] ?_ ((HW4.out w1 (B0.out.trans (hc.g.mono B0.out.size))).mono fun e w' ⟨he, hb⟩ => ⟨_, he, hb, rfl⟩)
      clear hc hl
      go_simp
    · intro listed a w1 hl hc
      have h10 : a.tmps[10]?.getD undef = .int .u32 (q0 : Int) := hc.dep hl 2 10 rfl (by kernel_rfl)
      have h13 : a.tmps[13]?.getD undef = .int .u32 (q4 : Int) := hc.dep hl 5 13 rfl (by kernel_rfl)
      refine does_value rfl rfl (.agg #[.int .u32 (q0 : Int), .int .u32 (q4 : Int), .slice none 0 0, .slice none 0 0]) w1 ?_ (Below.refl _ _) rfl
      clear hc hl
      go_simp
    · intro listed a w1 hl hc
      refine does_value rfl rfl (.pointer (some ⟨w1.heap.size, 0, none⟩)) (w1.alloc (.cells #[.int .u32 0, .int .u32 0, .slice none 0 0, .slice none 0 0] 52)) ?_ (below_new w1 _) ⟨_, rfl, hc.g.size, Blk.new _ _ _⟩
      clear hc hl
      go_simp
  intro w2 hb2
  rintro _ rfl _ rfl _ rfl _ rfl _ rfl _ rfl _ rfl _ ⟨g4, rfl, hg4, hb4⟩
  simp only [Thus, List.reverse_cons, List.reverse_nil, List.nil_append, List.cons_append, List.drop, List.take, lay]
  go_frame
  have hl0 := K0.out.lt
  have hl1 := K1.out.lt
  have HG := Lib.hid hb4
  have hge : w.heap.size + 1 + 1 ≤ g4 := by omega
  have y0 := HG.out.cell 0
  have y1 := HG.out.cell 1
  have y2 := HG.out.cell 2
  have y3 := HG.out.cell 3
  have z0 := HG.out.frozen 0
  have z1 := HG.out.frozen 1
  have z2 := HG.out.frozen 2
  have z3 := HG.out.frozen 3
  have G3 : Hid (Blk ((((w2.setCell ⟨g4, 0, none⟩ (.int .u32 (q0 : Int))).setCell ⟨g4, 1, none⟩ (.int .u32 (q4 : Int))).setCell ⟨g4, 2, none⟩ (.slice none 0 0)).setCell ⟨g4, 3, none⟩ (.slice none 0 0)) g4 52 #[.int .u32 (q0 : Int), .int .u32 (q4 : Int), .slice none 0 0, .slice none 0 0]) := Lib.hid ((((hb4.set_ 0 (.int .u32 (q0 : Int))).set_ 1 (.int .u32 (q4 : Int))).set_ 2 (.slice none 0 0)).set_ 3 (.slice none 0 0))
  have K0b := Lib.hid (((((K0.out.below hb2 K0.out.lt).far (p := ⟨g4, 0, none⟩) (show w.heap.size ≠ g4 by omega) (.int .u32 (q0 : Int))).far (p := ⟨g4, 1, none⟩) (show w.heap.size ≠ g4 by omega) (.int .u32 (q4 : Int))).far (p := ⟨g4, 2, none⟩) (show w.heap.size ≠ g4 by omega) (.slice none 0 0)).far (p := ⟨g4, 3, none⟩) (show w.heap.size ≠ g4 by omega) (.slice none 0 0))
  have K1b := Lib.hid (((((K1.out.below hb2 K1.out.lt).far (p := ⟨g4, 0, none⟩) (show w.heap.size + 1 ≠ g4 by omega) (.int .u32 (q0 : Int))).far (p := ⟨g4, 1, none⟩) (show w.heap.size + 1 ≠ g4 by omega) (.int .u32 (q4 : Int))).far (p := ⟨g4, 2, none⟩) (show w.heap.size + 1 ≠ g4 by omega) (.slice none 0 0)).far (p := ⟨g4, 3, none⟩) (show w.heap.size + 1 ≠ g4 by omega) (.slice none 0 0))
  have B3 := Lib.hid (((((below_then B0.out (Nat.le_refl _) hb2).setCell (p := ⟨g4, 0, none⟩) (show w.heap.size ≤ g4 by omega) (.int .u32 (q0 : Int))).setCell (p := ⟨g4, 1, none⟩) (show w.heap.size ≤ g4 by omega) (.int .u32 (q4 : Int))).setCell (p := ⟨g4, 2, none⟩) (show w.heap.size ≤ g4 by omega) (.slice none 0 0)).setCell (p := ⟨g4, 3, none⟩) (show w.heap.size ≤ g4 by omega) (.slice none 0 0))
  have hgl : g4 < w2.heap.size := hb4.lt
  clear hb2 hb4 hg4 hl0 hl1 K0 K1 B0 HG
  go_wp2_with fail
  generalize ((((w2.setCell ⟨g4, 0, none⟩ (.int .u32 (q0 : Int))).setCell ⟨g4, 1, none⟩ (.int .u32 (q4 : Int))).setCell ⟨g4, 2, none⟩ (.slice none 0 0)).setCell ⟨g4, 3, none⟩ (.slice none 0 0)) = v3 at G3 K0b K1b B3 ⊢
  clear hgl y0 z0 y1 z1 y2 z2 y3 z3
  rw [← drawn_eq 2]
  refine wp_region_grow_tail 10 (by kernel_rfl) [(Is (.pointer (some ⟨w.heap.size, 2, none⟩))), (Is (.slice A n c)), (Is (.int .u16 (h8 : Int))), (Is (.int .i64 (h8 : Int))), (Is (.int .i64 (4 * (h8 : Int)))), (Is (.int .i64 (12 + 4 * (h8 : Int)))), (Is (.pointer (some ⟨w.heap.size, 2, none⟩))), (Is (.slice A n c)), (Is (.int .i64 n)), (Is (.int .i64 (E : Int)))] rfl ?_ (by kernel_rfl) (by kernel_rfl) ?_ ?_
  · intro p hp
    simp only [List.mem_cons, List.not_mem_nil, or_false] at hp
    rcases hp with rfl | rfl | rfl | rfl | rfl | rfl | rfl | rfl | rfl | rfl
    · exact Lasts.is _
    · exact Lasts.is _
    · exact Lasts.is _
    · exact Lasts.is _
    · exact Lasts.is _
    · exact Lasts.is _
    · exact Lasts.is _
    · exact Lasts.is _
    · exact Lasts.is _
    · exact Lasts.is _
  · refine ⟨?_, ?_, ?_, ?_, ?_, ?_, ?_, ?_, ?_, ?_, trivial⟩
    · intro listed a w1 hl hc
      have h1 : a.tmps[1]?.getD undef = .pointer (some ⟨w.heap.size, 0, none⟩) := (hc.was 1 (by kernel_rfl)).trans rfl
      refine does_value rfl rfl (.pointer (some ⟨w.heap.size, 2, none⟩)) w1 ?_ (Below.refl _ _) rfl
      clear hc hl
      go_simp
    · intro listed a w1 hl hc
      have h15 : a.tmps[15]?.getD undef = .pointer (some ⟨w.heap.size, 2, none⟩) := hc.dep hl 0 15 rfl (by kernel_rfl)
      have kb := K0b.out.below hc.g K0b.out.lt
      have x2 : w1.cell? ⟨w.heap.size, 2, none⟩ = some (.slice A n c) := kb.cell 2
      clear kb
      refine does_value rfl rfl (.slice A n c) w1 ?_ (Below.refl _ _) rfl
      clear hc hl
      go_simp
    · intro listed a w1 hl hc
      have h16 : a.tmps[16]?.getD undef = .slice A n c := hc.dep hl 1 16 rfl (by kernel_rfl)
      refine does_call rfl rfl 53 #[.slice A n c, .int .i64 8] ?_ ((HH8.out w1 (B3.out.trans (hc.g.mono B3.out.size))).mono fun e w' ⟨he, hb⟩ => ⟨_, he, hb, rfl⟩)
      clear hc hl
      go_simp
    · intro listed a w1 hl hc
      have h17 : a.tmps[17]?.getD undef = .int .u16 (h8 : Int) := hc.dep hl 2 17 rfl (by kernel_rfl)
      refine does_value rfl rfl (.int .i64 (h8 : Int)) w1 ?_ (Below.refl _ _) rfl
      clear hc hl
      go_simp
      exact wrap_small _ (by omega) (by omega)
    · intro listed a w1 hl hc
      have h18 : a.tmps[18]?.getD undef = .int .i64 (h8 : Int) := hc.dep hl 3 18 rfl (by kernel_rfl)
      refine does_value rfl rfl (.int .i64 (4 * (h8 : Int))) w1 ?_ (Below.refl _ _) rfl
      clear hc hl
      go_simp
      exact wrap_small _ (by omega) (by omega)
    · intro listed a w1 hl hc
      have h19 : a.tmps[19]?.getD undef = .int .i64 (4 * (h8 : Int)) := hc.dep hl 4 19 rfl (by kernel_rfl)
      refine does_value rfl rfl (.int .i64 (12 + 4 * (h8 : Int))) w1 ?_ (Below.refl _ _) rfl
      clear hc hl
      go_simp
      exact wrap_small _ (by omega) (by omega)
    · intro listed a w1 hl hc
      have h1 : a.tmps[1]?.getD undef = .pointer (some ⟨w.heap.size, 0, none⟩) := (hc.was 1 (by kernel_rfl)).trans rfl
      refine does_value rfl rfl (.pointer (some ⟨w.heap.size, 2, none⟩)) w1 ?_ (Below.refl _ _) rfl
      clear hc hl
      go_simp
    · intro listed a w1 hl hc
      have h21 : a.tmps[21]?.getD undef = .pointer (some ⟨w.heap.size, 2, none⟩) := hc.dep hl 6 21 rfl (by kernel_rfl)
      have kb := K0b.out.below hc.g K0b.out.lt
      have x2 : w1.cell? ⟨w.heap.size, 2, none⟩ = some (.slice A n c) := kb.cell 2
      clear kb
      refine does_value rfl rfl (.slice A n c) w1 ?_ (Below.refl _ _) rfl
      clear hc hl
      go_simp
    · intro listed a w1 hl hc
      have h22 : a.tmps[22]?.getD undef = .slice A n c := hc.dep hl 7 22 rfl (by kernel_rfl)
      refine does_value rfl rfl (.int .i64 n) w1 ?_ (Below.refl _ _) rfl
      clear hc hl
      go_simp
    · intro listed a w1 hl hc
      have h20 : a.tmps[20]?.getD undef = .int .i64 (12 + 4 * (h8 : Int)) := hc.dep hl 5 20 rfl (by kernel_rfl)
      have h23 : a.tmps[23]?.getD undef = .int .i64 n := hc.dep hl 8 23 rfl (by kernel_rfl)
      refine does_value rfl rfl (.int .i64 (E : Int)) w1 ?_ (Below.refl _ _) rfl
      clear hc hl
      go_simp
      rw [HE2.out]
      exact min_int h8 n
  intro w2 hb2
  rintro _ rfl _ rfl _ rfl _ rfl _ rfl _ rfl _ rfl _ rfl _ rfl _ rfl
  simp only [Thus, List.reverse_cons, List.reverse_nil, List.nil_append, List.cons_append, List.drop, List.take, lay]
  go_frame
  have G4 := Lib.hid (G3.out.below hb2 G3.out.lt)
  have K0c := Lib.hid (K0b.out.below hb2 K0b.out.lt)
  have K1c := Lib.hid (K1b.out.below hb2 K1b.out.lt)
  have B4 := Lib.hid (below_then B3.out (Nat.le_refl _) hb2)
  clear hb2 G3 K0b K1b B3
  go_wp2_with fail
  go_loopw [6] (fun i wr => ∃ (k2 e cs : Nat) (As : Option Addr), k2 ≤ NG ∧ e ≤ n + 16 ∧ i = .int .i64 (e : Int) ∧ Hid (e = 12 + 4 * k2) ∧ Blk wr g4 52 #[.int .u32 (q0 : Int), .int .u32 (q4 : Int), .slice As k2 cs, .slice none 0 0] ∧ Og wr 79 w.heap.size (.slice As k2 cs) (getGO xs 12 k2) ∧ Blk wr w.heap.size 28 #[.int .u8 (k.toNat : Int), .int .u8 (f.toNat : Int), .slice A n c] ∧ Blk wr (w.heap.size + 1) 52 #[.int .u32 0, .int .u32 0, .slice none 0 0, .slice none 0 0] ∧ Below w.heap.size w wr) (fun i _ => n + 24 - (intOf i).toNat)
  case atStart => exact ⟨0, 12, 0, none, by omega, by omega, rfl, Lib.hid rfl, G4.out, World.ownsRow_nil _ _ _ _, K0c.out, K1c.out, B4.out⟩
  case round =>
    clear G4 K0c K1c B4
    obtain ⟨k2, e, cs, As, hk2, he, rfl, HE, hG, hO, hK0, hK1, hB⟩ := hrel
    have HG := Lib.hid hG
    have HO := Lib.hid hO
    have HK0 := Lib.hid hK0
    have HK1 := Lib.hid hK1
    have HB := Lib.hid hB
    clear hG hO hK0 hK1 hB
    by_cases hlt : e < E
    · have hkn : k2 < NG := by have := HNG.out; have := HE.out; omega
      have hne0 : some w.heap.size ≠ (Value.slice As k2 cs).ownBlock := owns_ne HO.out HK0.out (by decide)
      have hne4 : some g4 ≠ (Value.slice As k2 cs).ownBlock := owns_ne HO.out HG.out (by decide)
      have hne1 : some (w.heap.size + 1) ≠ (Value.slice As k2 cs).ownBlock := owns_ne HO.out HK1.out (by decide)
      have hob : ∀ b, (Value.slice As k2 cs).ownBlock = some b → b < wr.heap.size := own_lt HO.out
      have hobg : ∀ b, (Value.slice As k2 cs).ownBlock = some b → w.heap.size ≤ b := own_ge HO.out
      have hwr : w.heap.size ≤ wr.heap.size := HB.out.size
      obtain ⟨pa, hpa⟩ : ∃ pa, pa = numO xs e 2 := ⟨_, rfl⟩
      obtain ⟨pb, hpb⟩ : ∃ pb, pb = numO xs (e + 2) 2 := ⟨_, rfl⟩
      have HH1 : Hid (∀ W, Below w.heap.size w W → Calls Try.prog 53 #[.slice A n c, .int .i64 (e : Int)] W fun e w' => e = .returned (.int .u16 (pa : Int)) ∧ Below W.heap.size W w') := Lib.hid fun W hW => by rw [hpa]; exact HWH.out W e (by omega) hW
      have HH2 : Hid (∀ W, Below w.heap.size w W → Calls Try.prog 53 #[.slice A n c, .int .i64 ((e : Int) + 2)] W fun e w' => e = .returned (.int .u16 (pb : Int)) ∧ Below W.heap.size W w') := Lib.hid fun W hW => by
          have := HWH.out W (e + 2) (by omega) hW
          rw [← hpb] at this
          exact this
      have HSN : Hid (getGO xs 12 (k2 + 1) = getGO xs 12 k2 ++ [(pa, pb)]) := Lib.hid (by rw [getGO_snoc, hpa, hpb, HE.out])
      clear hpa hpb
      go_wp2_with fail
      rw [← drawn_eq 6]
      refine wp_region_own_tail 15 13 ((Value.slice As k2 cs).ownBlock) (by kernel_rfl) [(Is (.pointer (some ⟨g4, 2, none⟩))), (Is (.slice As k2 cs)), (Is (.pointer (some ⟨w.heap.size, 2, none⟩))), (Is (.slice A n c)), (Is (.int .i64 (e : Int))), (Is (.int .u16 (pa : Int))), (Is (.pointer (some ⟨w.heap.size, 2, none⟩))), (Is (.slice A n c)), (Is (.int .i64 (e : Int))), (Is (.int .i64 ((e : Int) + 2))), (Is (.int .u16 (pb : Int))), (Is (.agg #[.int .u16 (pa : Int), .int .u16 (pb : Int)])), (NewSl wr.heap.size 79 1 #[.int .u16 (pa : Int), .int .u16 (pb : Int)])] (NewOg 79 w.heap.size (k2 + 1) (getGO xs 12 k2 ++ [(pa, pb)])) [(Is (.pointer (some ⟨g4, 2, none⟩)))] rfl rfl (Lasts.newOg _ _ _ _) ?_ (by kernel_rfl) (by kernel_rfl) ?_ ?_
      · intro q hq
        simp only [List.cons_append, List.nil_append, List.mem_cons, List.not_mem_nil, or_false] at hq
        rcases hq with rfl | rfl | rfl | rfl | rfl | rfl | rfl | rfl | rfl | rfl | rfl | rfl | rfl | rfl
        · exact ⟨Lasts.is _, LastsO.is _ _⟩
        · exact ⟨Lasts.is _, LastsO.is _ _⟩
        · exact ⟨Lasts.is _, LastsO.is _ _⟩
        · exact ⟨Lasts.is _, LastsO.is _ _⟩
        · exact ⟨Lasts.is _, LastsO.is _ _⟩
        · exact ⟨Lasts.is _, LastsO.is _ _⟩
        · exact ⟨Lasts.is _, LastsO.is _ _⟩
        · exact ⟨Lasts.is _, LastsO.is _ _⟩
        · exact ⟨Lasts.is _, LastsO.is _ _⟩
        · exact ⟨Lasts.is _, LastsO.is _ _⟩
        · exact ⟨Lasts.is _, LastsO.is _ _⟩
        · exact ⟨Lasts.is _, LastsO.is _ _⟩
        · exact ⟨Lasts.newSl _ _ _ _, LastsO.newSl _ _ _ _ _ hob⟩
        · exact ⟨Lasts.is _, LastsO.is _ _⟩
      · refine ⟨?_, ?_, ?_, ?_, ?_, ?_, ?_, ?_, ?_, ?_, ?_, ?_, ?_, ?_, ?_, trivial⟩
        · intro listed a w1 hl hc hpre
          have h4 : a.tmps[4]?.getD undef = .pointer (some ⟨g4, 0, none⟩) := (hc.was 4 (by kernel_rfl)).trans rfl
          refine does_value rfl rfl (.pointer (some ⟨g4, 2, none⟩)) w1 ?_ (stepB (by decide) (Below.refl _ _)) rfl
          clear hc hl
          go_simp
        · intro listed a w1 hl hc hpre
          have h30 : a.tmps[30]?.getD undef = .pointer (some ⟨g4, 2, none⟩) := hc.dep hl 0 30 rfl (by kernel_rfl)
          have kb := HG.out.grown hc.g hne4
          have x2 : w1.cell? ⟨g4, 2, none⟩ = some (.slice As k2 cs) := kb.cell 2
          clear kb
          refine does_value rfl rfl (.slice As k2 cs) w1 ?_ (stepB (by decide) (Below.refl _ _)) rfl
          clear hc hl
          go_simp
        · intro listed a w1 hl hc hpre
          have h1 : a.tmps[1]?.getD undef = .pointer (some ⟨w.heap.size, 0, none⟩) := (hc.was 1 (by kernel_rfl)).trans rfl
          refine does_value rfl rfl (.pointer (some ⟨w.heap.size, 2, none⟩)) w1 ?_ (stepB (by decide) (Below.refl _ _)) rfl
          clear hc hl
          go_simp
        · intro listed a w1 hl hc hpre
          have h32 : a.tmps[32]?.getD undef = .pointer (some ⟨w.heap.size, 2, none⟩) := hc.dep hl 2 32 rfl (by kernel_rfl)
          have kb := HK0.out.grown hc.g hne0
          have x2 : w1.cell? ⟨w.heap.size, 2, none⟩ = some (.slice A n c) := kb.cell 2
          clear kb
          refine does_value rfl rfl (.slice A n c) w1 ?_ (stepB (by decide) (Below.refl _ _)) rfl
          clear hc hl
          go_simp
        · intro listed a w1 hl hc hpre
          have h6 : a.tmps[6]?.getD undef = .int .i64 (e : Int) := (hc.was 6 (by kernel_rfl)).trans rfl
          refine does_value rfl rfl (.int .i64 (e : Int)) w1 ?_ (stepB (by decide) (Below.refl _ _)) rfl
          clear hc hl
          go_simp
        · intro listed a w1 hl hc hpre
          have h33 : a.tmps[33]?.getD undef = .slice A n c := hc.dep hl 3 33 rfl (by kernel_rfl)
          have h34 : a.tmps[34]?.getD undef = .int .i64 (e : Int) := hc.dep hl 4 34 rfl (by kernel_rfl)
          refine does_call rfl rfl 53 #[.slice A n c, .int .i64 (e : Int)] ?_ ((HH1.out w1 (HB.out.grown hc.g hwr hobg)).mono fun e w' ⟨he, hb⟩ => ⟨_, he, (stepB (by decide) hb), rfl⟩)
          clear hc hl
          go_simp
        · intro listed a w1 hl hc hpre
          have h1 : a.tmps[1]?.getD undef = .pointer (some ⟨w.heap.size, 0, none⟩) := (hc.was 1 (by kernel_rfl)).trans rfl
          refine does_value rfl rfl (.pointer (some ⟨w.heap.size, 2, none⟩)) w1 ?_ (stepB (by decide) (Below.refl _ _)) rfl
          clear hc hl
          go_simp
        · intro listed a w1 hl hc hpre
          have h36 : a.tmps[36]?.getD undef = .pointer (some ⟨w.heap.size, 2, none⟩) := hc.dep hl 6 36 rfl (by kernel_rfl)
          have kb := HK0.out.grown hc.g hne0
          have x2 : w1.cell? ⟨w.heap.size, 2, none⟩ = some (.slice A n c) := kb.cell 2
          clear kb
          refine does_value rfl rfl (.slice A n c) w1 ?_ (stepB (by decide) (Below.refl _ _)) rfl
          clear hc hl
          go_simp
        · intro listed a w1 hl hc hpre
          have h6 : a.tmps[6]?.getD undef = .int .i64 (e : Int) := (hc.was 6 (by kernel_rfl)).trans rfl
          refine does_value rfl rfl (.int .i64 (e : Int)) w1 ?_ (stepB (by decide) (Below.refl _ _)) rfl
          clear hc hl
          go_simp
        · intro listed a w1 hl hc hpre
          have h38 : a.tmps[38]?.getD undef = .int .i64 (e : Int) := hc.dep hl 8 38 rfl (by kernel_rfl)
          refine does_value rfl rfl (.int .i64 ((e : Int) + 2)) w1 ?_ (stepB (by decide) (Below.refl _ _)) rfl
          clear hc hl
          go_simp
          exact wrap_small _ (by omega) (by omega)
        · intro listed a w1 hl hc hpre
          have h37 : a.tmps[37]?.getD undef = .slice A n c := hc.dep hl 7 37 rfl (by kernel_rfl)
          have h39 : a.tmps[39]?.getD undef = .int .i64 ((e : Int) + 2) := hc.dep hl 9 39 rfl (by kernel_rfl)
          refine does_call rfl rfl 53 #[.slice A n c, .int .i64 ((e : Int) + 2)] ?_ ((HH2.out w1 (HB.out.grown hc.g hwr hobg)).mono fun e w' ⟨he, hb⟩ => ⟨_, he, (stepB (by decide) hb), rfl⟩)
          clear hc hl
          go_simp
        · intro listed a w1 hl hc hpre
          have h35 : a.tmps[35]?.getD undef = .int .u16 (pa : Int) := hc.dep hl 5 35 rfl (by kernel_rfl)
          have h40 : a.tmps[40]?.getD undef = .int .u16 (pb : Int) := hc.dep hl 10 40 rfl (by kernel_rfl)
          refine does_value rfl rfl (.agg #[.int .u16 (pa : Int), .int .u16 (pb : Int)]) w1 ?_ (stepB (by decide) (Below.refl _ _)) rfl
          clear hc hl
          go_simp
        · intro listed a w1 hl hc hpre
          have h41 : a.tmps[41]?.getD undef = .agg #[.int .u16 (pa : Int), .int .u16 (pb : Int)] := hc.dep hl 11 41 rfl (by kernel_rfl)
          refine does_value rfl rfl (.slice (some ⟨w1.heap.size, 0, none⟩) 1 1) (w1.alloc (.cells #[.int .u16 (pa : Int), .int .u16 (pb : Int)] 79)) ?_ (stepB (by decide) (below_new w1 _)) ⟨_, rfl, hc.g.size, Blk.new _ _ _⟩
          clear hc hl
          go_simp
        · intro listed a w1 hl hc hpre
          have h31 : a.tmps[31]?.getD undef = .slice As k2 cs := hc.dep hl 1 31 rfl (by kernel_rfl)
          obtain ⟨g42, h42, hg42, hb42⟩ := hc.dep hl 12 42 rfl (by kernel_rfl)
          obtain ⟨A9, c9, w9, hrun, hog, hgr⟩ := run_appendG Try.underlying49 hti htz ht1 ht2 w1 49 w.heap.size As k2 cs g42 (getGO xs 12 k2) (pa, pb) (HO.out.below (hpre rfl)) (length_getGO _ _ _) hb42 (by omega) (Nat.le_trans hwr hc.g.size)
          refine does_value rfl rfl (.slice A9 (k2 + 1 : Nat) c9) w9 (exec_append rfl h31 h42 hrun) (stepO hgr) ⟨A9, c9, rfl, hog⟩
        · intro listed a w1 hl hc hpre
          have h4 : a.tmps[4]?.getD undef = .pointer (some ⟨g4, 0, none⟩) := (hc.was 4 (by kernel_rfl)).trans rfl
          refine does_value rfl rfl (.pointer (some ⟨g4, 2, none⟩)) w1 ?_ (stepB (by decide) (Below.refl _ _)) rfl
          clear hc hl
          go_simp
      intro w2 hb2
      rintro _ rfl _ rfl _ rfl _ rfl _ rfl _ rfl _ rfl _ rfl _ rfl _ rfl _ rfl _ rfl _ ⟨g42, rfl, hg42, hb42⟩ _ ⟨A43, c43, rfl, ho43⟩ _ rfl
      simp only [Thus, List.reverse_cons, List.reverse_nil, List.nil_append, List.cons_append, List.drop, List.take, lay]
      go_frame
      have HG2 := Lib.hid (HG.out.grown hb2 hne4)
      have HK02 := Lib.hid (HK0.out.grown hb2 hne0)
      have HK12 := Lib.hid (HK1.out.grown hb2 hne1)
      have HB2 := Lib.hid (HB.out.grown hb2 hwr hobg)
      have HO2 := Lib.hid ho43
      have y2 := HG2.out.cell 2
      have z2 := HG2.out.frozen 2
      clear hb2 hb42 hg42 ho43
      go_wp2_with fail
      go_roundw
      case rel => exact ⟨k2 + 1, e + 4, c43, A43, by omega, by omega, by go_num, Lib.hid (by have := HE.out; omega), HG2.out.set_ 2 _, by rw [HSN.out]; exact HO2.out.setBlk HG2.out (by decide) 2 _, HK02.out.far (p := ⟨g4, 2, none⟩) (show w.heap.size ≠ g4 by omega) _, HK12.out.far (p := ⟨g4, 2, none⟩) (show w.heap.size + 1 ≠ g4 by omega) _, HB2.out.setCell (p := ⟨g4, 2, none⟩) (show w.heap.size ≤ g4 by omega) _⟩
      case measure => simp [intOf]; omega
    · have hkn : k2 = NG := by have := HNG.out; have := HE.out; omega
      subst hkn
      clear HE HNG
      go_wp2_with fail
      go_loopw [7] (fun i wr => ∃ (k3 e cd : Nat) (Ad : Option Addr), k3 ≤ ND ∧ e ≤ n + 16 ∧ i = .int .i64 (e : Int) ∧ Hid (e = E + 4 * k3) ∧ Blk wr g4 52 #[.int .u32 (q0 : Int), .int .u32 (q4 : Int), .slice As k2 cs, .slice Ad k3 cd] ∧ Og wr 79 w.heap.size (.slice As k2 cs) (getGO xs 12 k2) ∧ Ow wr 22 w.heap.size (.slice Ad k3 cd) (ints (getNO xs E k3)) ∧ Blk wr w.heap.size 28 #[.int .u8 (k.toNat : Int), .int .u8 (f.toNat : Int), .slice A n c] ∧ Blk wr (w.heap.size + 1) 52 #[.int .u32 0, .int .u32 0, .slice none 0 0, .slice none 0 0] ∧ Below w.heap.size w wr) (fun i _ => n + 24 - (intOf i).toNat)
      case atStart => exact ⟨0, E, 0, none, by omega, by omega, rfl, Lib.hid (by omega), HG.out, HO.out, Ow.nil _ _ _, HK0.out, HK1.out, HB.out⟩
      case round =>
        clear HG HO HK0 HK1 HB hlt he
        obtain ⟨k3, e, cd, Ad, hk3, he, rfl, HE, hG, hO, hP, hK0, hK1, hB⟩ := hrel
        have HG := Lib.hid hG
        have HO := Lib.hid hO
        have HP := Lib.hid hP
        have HK0 := Lib.hid hK0
        have HK1 := Lib.hid hK1
        have HB := Lib.hid hB
        have x2 : wr.cell? ⟨w.heap.size, 2, none⟩ = some (.slice A n c) := hK0.cell 2
        clear hG hO hP hK0 hK1 hB
        by_cases hlt : e < n
        · have hkn : k3 < ND := by have := HND.out; have := HE.out; omega
          have hne0 : some w.heap.size ≠ (Value.slice Ad k3 cd).ownBlock := owns_ne HP.out HK0.out (by decide)
          have hne4 : some g4 ≠ (Value.slice Ad k3 cd).ownBlock := owns_ne HP.out HG.out (by decide)
          have hne1 : some (w.heap.size + 1) ≠ (Value.slice Ad k3 cd).ownBlock := owns_ne HP.out HK1.out (by decide)
          have hob : ∀ b, (Value.slice Ad k3 cd).ownBlock = some b → b < wr.heap.size := own_lt HP.out
          have hobg : ∀ b, (Value.slice Ad k3 cd).ownBlock = some b → w.heap.size ≤ b := own_ge HP.out
          have hwr : w.heap.size ≤ wr.heap.size := HB.out.size
          obtain ⟨pa, hpa⟩ : ∃ pa, pa = numO xs e 4 := ⟨_, rfl⟩
          have HH1 : Hid (∀ W, Below w.heap.size w W → Calls Try.prog 52 #[.slice A n c, .int .i64 (e : Int)] W fun e w' => e = .returned (.int .u32 (pa : Int)) ∧ Below W.heap.size W w') := Lib.hid fun W hW => by rw [hpa]; exact HWW.out W e (by omega) hW
          have HSN : Hid (ints (getNO xs E (k3 + 1)) = ints (getNO xs E k3) ++ [(pa : Int)]) := Lib.hid (by rw [getNO_snoc, ints_snoc, hpa, HE.out])
          clear hpa
          go_wp2_with fail
          rw [← drawn_eq 10]
          refine wp_region_own_tail 9 7 ((Value.slice Ad k3 cd).ownBlock) (by kernel_rfl) [(Is (.pointer (some ⟨g4, 3, none⟩))), (Is (.slice Ad k3 cd)), (Is (.pointer (some ⟨w.heap.size, 2, none⟩))), (Is (.slice A n c)), (Is (.int .i64 (e : Int))), (Is (.int .u32 (pa : Int))), (NewSl wr.heap.size 22 1 #[.int .u32 (pa : Int)])] (NewOw 22 w.heap.size (k3 + 1) (ints (getNO xs E k3) ++ [(pa : Int)])) [(Is (.pointer (some ⟨g4, 3, none⟩)))] rfl rfl (Lasts.newOw _ _ _ _) ?_ (by kernel_rfl) (by kernel_rfl) ?_ ?_
          · intro q hq
            simp only [List.cons_append, List.nil_append, List.mem_cons, List.not_mem_nil, or_false] at hq
            rcases hq with rfl | rfl | rfl | rfl | rfl | rfl | rfl | rfl
            · exact ⟨Lasts.is _, LastsO.is _ _⟩
            · exact ⟨Lasts.is _, LastsO.is _ _⟩
            · exact ⟨Lasts.is _, LastsO.is _ _⟩
            · exact ⟨Lasts.is _, LastsO.is _ _⟩
            · exact ⟨Lasts.is _, LastsO.is _ _⟩
            · exact ⟨Lasts.is _, LastsO.is _ _⟩
            · exact ⟨Lasts.newSl _ _ _ _, LastsO.newSl _ _ _ _ _ hob⟩
            · exact ⟨Lasts.is _, LastsO.is _ _⟩
          · refine ⟨?_, ?_, ?_, ?_, ?_, ?_, ?_, ?_, ?_, trivial⟩
            · intro listed a w1 hl hc hpre
              have h4 : a.tmps[4]?.getD undef = .pointer (some ⟨g4, 0, none⟩) := (hc.was 4 (by kernel_rfl)).trans rfl
              refine does_value rfl rfl (.pointer (some ⟨g4, 3, none⟩)) w1 ?_ (stepB (by decide) (Below.refl _ _)) rfl
              clear hc hl
              go_simp
            · intro listed a w1 hl hc hpre
              have h53 : a.tmps[53]?.getD undef = .pointer (some ⟨g4, 3, none⟩) := hc.dep hl 0 53 rfl (by kernel_rfl)
              have kb := HG.out.grown hc.g hne4
              have x3 : w1.cell? ⟨g4, 3, none⟩ = some (.slice Ad k3 cd) := kb.cell 3
              clear kb
              refine does_value rfl rfl (.slice Ad k3 cd) w1 ?_ (stepB (by decide) (Below.refl _ _)) rfl
              clear hc hl
              go_simp
            · intro listed a w1 hl hc hpre
              have h1 : a.tmps[1]?.getD undef = .pointer (some ⟨w.heap.size, 0, none⟩) := (hc.was 1 (by kernel_rfl)).trans rfl
              refine does_value rfl rfl (.pointer (some ⟨w.heap.size, 2, none⟩)) w1 ?_ (stepB (by decide) (Below.refl _ _)) rfl
              clear hc hl
              go_simp
            · intro listed a w1 hl hc hpre
              have h55 : a.tmps[55]?.getD undef = .pointer (some ⟨w.heap.size, 2, none⟩) := hc.dep hl 2 55 rfl (by kernel_rfl)
              have kb := HK0.out.grown hc.g hne0
              have x2 : w1.cell? ⟨w.heap.size, 2, none⟩ = some (.slice A n c) := kb.cell 2
              clear kb
              refine does_value rfl rfl (.slice A n c) w1 ?_ (stepB (by decide) (Below.refl _ _)) rfl
              clear hc hl
              go_simp
            · intro listed a w1 hl hc hpre
              have h7 : a.tmps[7]?.getD undef = .int .i64 (e : Int) := (hc.was 7 (by kernel_rfl)).trans rfl
              refine does_value rfl rfl (.int .i64 (e : Int)) w1 ?_ (stepB (by decide) (Below.refl _ _)) rfl
              clear hc hl
              go_simp
            · intro listed a w1 hl hc hpre
              have h56 : a.tmps[56]?.getD undef = .slice A n c := hc.dep hl 3 56 rfl (by kernel_rfl)
              have h57 : a.tmps[57]?.getD undef = .int .i64 (e : Int) := hc.dep hl 4 57 rfl (by kernel_rfl)
              refine does_call rfl rfl 52 #[.slice A n c, .int .i64 (e : Int)] ?_ ((HH1.out w1 (HB.out.grown hc.g hwr hobg)).mono fun e w' ⟨he, hb⟩ => ⟨_, he, (stepB (by decide) hb), rfl⟩)
              clear hc hl
              go_simp
            · intro listed a w1 hl hc hpre
              have h58 : a.tmps[58]?.getD undef = .int .u32 (pa : Int) := hc.dep hl 5 58 rfl (by kernel_rfl)
              refine does_value rfl rfl (.slice (some ⟨w1.heap.size, 0, none⟩) 1 1) (w1.alloc (.cells #[.int .u32 (pa : Int)] 22)) ?_ (stepB (by decide) (below_new w1 _)) ⟨_, rfl, hc.g.size, Blk.new _ _ _⟩
              clear hc hl
              go_simp
            · intro listed a w1 hl hc hpre
              have h54 : a.tmps[54]?.getD undef = .slice Ad k3 cd := hc.dep hl 1 54 rfl (by kernel_rfl)
              obtain ⟨g59, h59, hg59, hb59⟩ := hc.dep hl 6 59 rfl (by kernel_rfl)
              obtain ⟨A9, c9, w9, hrun, hog, hgr⟩ := run_appendW Try.underlying50 hui huz hu1 hu2 w1 50 w.heap.size Ad k3 cd g59 (ints (getNO xs E k3)) (pa : Int) (HP.out.below (hpre rfl)) (by rw [length_ints, length_getNO]) hb59 (by omega) (Nat.le_trans hwr hc.g.size)
              refine does_value rfl rfl (.slice A9 (k3 + 1 : Nat) c9) w9 (exec_append rfl h54 h59 hrun) (stepO hgr) ⟨A9, c9, rfl, hog⟩
            · intro listed a w1 hl hc hpre
              have h4 : a.tmps[4]?.getD undef = .pointer (some ⟨g4, 0, none⟩) := (hc.was 4 (by kernel_rfl)).trans rfl
              refine does_value rfl rfl (.pointer (some ⟨g4, 3, none⟩)) w1 ?_ (stepB (by decide) (Below.refl _ _)) rfl
              clear hc hl
              go_simp
          intro w2 hb2
          rintro _ rfl _ rfl _ rfl _ rfl _ rfl _ rfl _ ⟨g59, rfl, hg59, hb59⟩ _ ⟨A60, c60, rfl, ho60⟩ _ rfl
          simp only [Thus, List.reverse_cons, List.reverse_nil, List.nil_append, List.cons_append, List.drop, List.take, lay]
          go_frame
          have HG2 := Lib.hid (HG.out.grown hb2 hne4)
          have HK02 := Lib.hid (HK0.out.grown hb2 hne0)
          have HK12 := Lib.hid (HK1.out.grown hb2 hne1)
          have HB2 := Lib.hid (HB.out.grown hb2 hwr hobg)
          have HO2 := Lib.hid (HO.out.beside HP.out (by decide) hb2)
          have HP2 := Lib.hid ho60
          have y3 := HG2.out.cell 3
          have z3 := HG2.out.frozen 3
          clear hb2 hb59 hg59 ho60 x2
          go_wp2_with fail
          go_roundw
          case rel => exact ⟨k3 + 1, e + 4, c60, A60, by omega, by omega, by go_num, Lib.hid (by have := HE.out; omega), HG2.out.set_ 3 _, HO2.out.setBlk HG2.out (by decide) 3 _, by rw [HSN.out]; exact HP2.out.setBlk HG2.out (by decide) 3 _, HK02.out.far (p := ⟨g4, 3, none⟩) (show w.heap.size ≠ g4 by omega) _, HK12.out.far (p := ⟨g4, 3, none⟩) (show w.heap.size + 1 ≠ g4 by omega) _, HB2.out.setCell (p := ⟨g4, 3, none⟩) (show w.heap.size ≤ g4 by omega) _⟩
          case measure => simp [intOf]; omega
        · have hkn : k3 = ND := by have := HND.out; have := HE.out; omega
          subst hkn
          clear HE HND
          go_wp2_with fail
          rw [← drawn_eq 11]
          refine wp_region_grow_tail 8 (by kernel_rfl) [(Is (.agg #[.int .u8 (k.toNat : Int), .int .u8 (f.toNat : Int), .slice A n c])), (Is (.agg #[.int .u32 (q0 : Int), .int .u32 (q4 : Int), .slice As k2 cs, .slice Ad k3 cd])), (Is (.pointer (some ⟨g4, 2, none⟩))), (Is (.slice As k2 cs)), (Is (.bool true)), (Is (.tuple #[.agg #[.int .u32 0, .int .u32 0, .slice none 0 0, .slice none 0 0], .int .i64 7])), (Is (.agg #[.int .u32 0, .int .u32 0, .slice none 0 0, .slice none 0 0])), (Is (.int .i64 7))] rfl ?_ (by kernel_rfl) (by kernel_rfl) ?_ ?_
          · intro p hp
            simp only [List.mem_cons, List.not_mem_nil, or_false] at hp
            rcases hp with rfl | rfl | rfl | rfl | rfl | rfl | rfl | rfl
            · exact Lasts.is _
            · exact Lasts.is _
            · exact Lasts.is _
            · exact Lasts.is _
            · exact Lasts.is _
            · exact Lasts.is _
            · exact Lasts.is _
            · exact Lasts.is _
          · refine ⟨?_, ?_, ?_, ?_, ?_, ?_, ?_, ?_, trivial⟩
            · intro listed a w1 hl hc
              have h1 : a.tmps[1]?.getD undef = .pointer (some ⟨w.heap.size, 0, none⟩) := (hc.was 1 (by kernel_rfl)).trans rfl
              have kb := HK0.out.below hc.g HK0.out.lt
              have x0 : w1.cell? ⟨w.heap.size, 0, none⟩ = some (.int .u8 (k.toNat : Int)) := kb.cell 0
              have x1 : w1.cell? ⟨w.heap.size, 1, none⟩ = some (.int .u8 (f.toNat : Int)) := kb.cell 1
              have x2 : w1.cell? ⟨w.heap.size, 2, none⟩ = some (.slice A n c) := kb.cell 2
              clear kb
              refine does_value rfl rfl (.agg #[.int .u8 (k.toNat : Int), .int .u8 (f.toNat : Int), .slice A n c]) w1 ?_ (Below.refl _ _) rfl
              clear hc hl
              go_simp
            · intro listed a w1 hl hc
              have h4 : a.tmps[4]?.getD undef = .pointer (some ⟨g4, 0, none⟩) := (hc.was 4 (by kernel_rfl)).trans rfl
              have kb := HG.out.below hc.g HG.out.lt
              have x0 : w1.cell? ⟨g4, 0, none⟩ = some (.int .u32 (q0 : Int)) := kb.cell 0
              have x1 : w1.cell? ⟨g4, 1, none⟩ = some (.int .u32 (q4 : Int)) := kb.cell 1
              have x2 : w1.cell? ⟨g4, 2, none⟩ = some (.slice As k2 cs) := kb.cell 2
              have x3 : w1.cell? ⟨g4, 3, none⟩ = some (.slice Ad k3 cd) := kb.cell 3
              clear kb
              refine does_value rfl rfl (.agg #[.int .u32 (q0 : Int), .int .u32 (q4 : Int), .slice As k2 cs, .slice Ad k3 cd]) w1 ?_ (Below.refl _ _) rfl
              clear hc hl
              go_simp
            · intro listed a w1 hl hc
              have h4 : a.tmps[4]?.getD undef = .pointer (some ⟨g4, 0, none⟩) := (hc.was 4 (by kernel_rfl)).trans rfl
              refine does_value rfl rfl (.pointer (some ⟨g4, 2, none⟩)) w1 ?_ (Below.refl _ _) rfl
              clear hc hl
              go_simp
            · intro listed a w1 hl hc
              have h64 : a.tmps[64]?.getD undef = .pointer (some ⟨g4, 2, none⟩) := hc.dep hl 2 64 rfl (by kernel_rfl)
              have kb := HG.out.below hc.g HG.out.lt
              have x2 : w1.cell? ⟨g4, 2, none⟩ = some (.slice As k2 cs) := kb.cell 2
              clear kb
              refine does_value rfl rfl (.slice As k2 cs) w1 ?_ (Below.refl _ _) rfl
              clear hc hl
              go_simp
            · intro listed a w1 hl hc
              have h65 : a.tmps[65]?.getD undef = .slice As k2 cs := hc.dep hl 3 65 rfl (by kernel_rfl)
              refine does_call rfl rfl 68 #[.slice As k2 cs] ?_ ((HAP.out w1 As cs (HO.out.below hc.g)).mono fun e w' ⟨he, hb⟩ => ⟨_, he, hb, rfl⟩)
              clear hc hl
              go_simp
            · intro listed a w1 hl hc
              have h62 : a.tmps[62]?.getD undef = .agg #[.int .u8 (k.toNat : Int), .int .u8 (f.toNat : Int), .slice A n c] := hc.dep hl 0 62 rfl (by kernel_rfl)
              have h63 : a.tmps[63]?.getD undef = .agg #[.int .u32 (q0 : Int), .int .u32 (q4 : Int), .slice As k2 cs, .slice Ad k3 cd] := hc.dep hl 1 63 rfl (by kernel_rfl)
              have h66 : a.tmps[66]?.getD undef = .bool true := hc.dep hl 4 66 rfl (by kernel_rfl)
              refine does_call rfl rfl 67 #[.agg #[.int .u8 (k.toNat : Int), .int .u8 (f.toNat : Int), .slice A n c], .agg #[.int .u32 (q0 : Int), .int .u32 (q4 : Int), .slice As k2 cs, .slice Ad k3 cd], .bool true, .func (.func 29) #[] #[]] ?_ ((HCK.out w1 As cs Ad cd (HB.out.trans (hc.g.mono HB.out.size)) (HO.out.below hc.g) (HP.out.below hc.g)).mono fun e w' ⟨he, hb⟩ => ⟨_, he, hb, rfl⟩)
              clear hc hl
              go_simp
            · intro listed a w1 hl hc
              have h67 : a.tmps[67]?.getD undef = .tuple #[.agg #[.int .u32 0, .int .u32 0, .slice none 0 0, .slice none 0 0], .int .i64 7] := hc.dep hl 5 67 rfl (by kernel_rfl)
              refine does_value rfl rfl (.agg #[.int .u32 0, .int .u32 0, .slice none 0 0, .slice none 0 0]) w1 ?_ (Below.refl _ _) rfl
              clear hc hl
              go_simp
            · intro listed a w1 hl hc
              have h67 : a.tmps[67]?.getD undef = .tuple #[.agg #[.int .u32 0, .int .u32 0, .slice none 0 0, .slice none 0 0], .int .i64 7] := hc.dep hl 5 67 rfl (by kernel_rfl)
              refine does_value rfl rfl (.int .i64 7) w1 ?_ (Below.refl _ _) rfl
              clear hc hl
              go_simp
          intro w2 hb2
          rintro _ rfl _ rfl _ rfl _ rfl _ rfl _ rfl _ rfl _ rfl
          simp only [Thus, List.reverse_cons, List.reverse_nil, List.nil_append, List.cons_append, List.drop, List.take, lay]
          go_frame
          have K1e := Lib.hid (HK1.out.below hb2 HK1.out.lt)
          have B6 := Lib.hid (below_then HB.out (Nat.le_refl _) hb2)
          have O6 := Lib.hid (HO.out.below hb2)
          have P6 := Lib.hid (HP.out.below hb2)
          clear hb2 HK1 HB HO HP x2 HG HK0
          have y0 := K1e.out.cell 0
          have y1 := K1e.out.cell 1
          have y2 := K1e.out.cell 2
          have y3 := K1e.out.cell 3
          have z0 := K1e.out.frozen 0
          have z1 := K1e.out.frozen 1
          have z2 := K1e.out.frozen 2
          have z3 := K1e.out.frozen 3
          go_wp2_with fail
          have H3 := ((((K1e.out.set_ 0 (.int .u32 0)).set_ 1 (.int .u32 0)).set_ 2 (.slice none 0 0)).set_ 3 (.slice none 0 0))
          exact bodyPost_ret (v := .tuple #[.agg #[.int .u32 0, .int .u32 0, .slice none 0 0, .slice none 0 0], .int .i64 7]) (by simp [results, Try.results30, go_sem, H3.cell]) rfl ⟨none, 0, 0, none, 0, 0, rfl, World.ownsRow_nil _ _ _ _, rfl, Ow.nil _ _ _, rfl, ((((B6.out.setCell (p := ⟨w.heap.size + 1, 0, none⟩) (show w.heap.size ≤ w.heap.size + 1 by omega) (.int .u32 0)).setCell (p := ⟨w.heap.size + 1, 1, none⟩) (show w.heap.size ≤ w.heap.size + 1 by omega) (.int .u32 0)).setCell (p := ⟨w.heap.size + 1, 2, none⟩) (show w.heap.size ≤ w.heap.size + 1 by omega) (.slice none 0 0)).setCell (p := ⟨w.heap.size + 1, 3, none⟩) (show w.heap.size ≤ w.heap.size + 1 by omega) (.slice none 0 0))⟩
set_option maxRecDepth 100000 in
set_option maxHeartbeats 4000000 in
theorem getSack_yes (k f : UInt8) (A : Option Addr) (n c : Nat) (xs : List UInt8) (w : World) (hn : n ≤ 131072) (hc : n ≤ c) (hcm : c ≤ maxLen) (hx : xs.length = n) (hr : Rd w w.heap.size A xs) (hv : apartG 0 (PS xs).gaps = true) (hd : decide (k = 3 ∧ f = 0 ∧ xs = bodyS (PS xs)) = true) :
    GetsS 30 #[.agg #[.int .u8 (k.toNat : Int), .int .u8 (f.toNat : Int), .slice A n c]] k f xs w := by
  have hz := zero_sack
  have hcm' := hcm
  unfold maxLen at hcm'
  obtain ⟨ti, hti, htz, ht1, ht2⟩ := info_parts Try.infoGap
  obtain ⟨ui, hui, huz, hu1, hu2⟩ := info_parts Try.infoU32
  have h0b : numO xs 0 4 < 4294967296 := numO_lt xs 0 4
  have h4b : numO xs 4 4 < 4294967296 := numO_lt xs 4 4
  have h8b : numO xs 8 2 < 65536 := numO_lt xs 8 2
  have HWW : Hid (∀ (W : World) (a : Nat), a ≤ 140737488355328 → Below w.heap.size w W → Calls Try.prog 52 #[.slice A n c, .int .i64 (a : Int)] W fun e w' => e = .returned (.int .u32 (numO xs a 4)) ∧ Below W.heap.size W w') := Lib.hid fun W a ha hW => (word_any A n c a xs W (by omega) ha hx ((hr.below hW).more hW.size)).mono fun e w' ⟨he, hw⟩ => ⟨he, hw ▸ Below.refl _ _⟩
  have HWH : Hid (∀ (W : World) (a : Nat), a ≤ 140737488355330 → Below w.heap.size w W → Calls Try.prog 53 #[.slice A n c, .int .i64 (a : Int)] W fun e w' => e = .returned (.int .u16 (numO xs a 2)) ∧ Below W.heap.size W w') := Lib.hid fun W a ha hW => (half_any A n c a xs W (by omega) ha hx ((hr.below hW).more hW.size)).mono fun e w' ⟨he, hw⟩ => ⟨he, hw ▸ Below.refl _ _⟩
  obtain ⟨E, hE⟩ : ∃ E, E = endG xs := ⟨_, rfl⟩
  obtain ⟨NG, hNG⟩ : ∃ NG, NG = cntE 12 E := ⟨_, rfl⟩
  obtain ⟨ND, hND⟩ : ∃ ND, ND = cntE E n := ⟨_, rfl⟩
  have hps : PS xs = ⟨numO xs 0 4, numO xs 4 4, getGO xs 12 NG, getNO xs E ND⟩ := by rw [hNG, hND, hE, ← hx]; rfl
  have hEn : E ≤ n := by rw [hE]; unfold endG; omega
  have hEm : E = min (12 + 4 * numO xs 8 2) n := by rw [hE, ← hx]; rfl
  have hcd := okS_code (k := k) (f := f) (b := xs) (by omega)
  rw [hv, hd] at hcd
  have hok : okS k f xs = true := hcd.symm
  have hra : ansS k f xs = ⟨numO xs 0 4, numO xs 4 4, getGO xs 12 NG, getNO xs E ND⟩ := by unfold ansS; rw [hok]; rw [if_pos rfl, ← ansS_code hok, hps]
  unfold GetsS
  rw [hok, hra]
  rw [hps] at hv hd
  have hNGb : NG ≤ 1099511627776 := by rw [hNG]; unfold cntE; omega
  have hNDb : ND ≤ 1099511627776 := by rw [hND]; unfold cntE; omega
  have HCK : Hid (∀ W (As : Option Addr) (cs : Nat) (Ad : Option Addr) (cd : Nat), Below w.heap.size w W → Og W 79 w.heap.size (.slice As NG cs) (getGO xs 12 NG) → Ow W 22 w.heap.size (.slice Ad ND cd) (ints (getNO xs E ND)) → Calls Try.prog 67 #[.agg #[.int .u8 (k.toNat : Int), .int .u8 (f.toNat : Int), .slice A n c], .agg #[.int .u32 (numO xs 0 4 : Int), .int .u32 (numO xs 4 4 : Int), .slice As NG cs, .slice Ad ND cd], .bool true, .func (.func 29) #[] #[]] W fun e w' => e = .returned (.tuple #[.agg #[.int .u32 (numO xs 0 4 : Int), .int .u32 (numO xs 4 4 : Int), .slice As NG cs, .slice Ad ND cd], .int .i64 0]) ∧ Below W.heap.size W w') := Lib.hid fun W As cs Ad cd hW ho hp => checkedS_yes k f A n c (numO xs 0 4) (numO xs 4 4) As NG cs Ad ND cd xs _ 3 0 W hx ((hr.below hW).more hW.size) hd (fun W2 h2 => putSack_any (numO xs 0 4) (numO xs 4 4) _ _ h0b h4b (getGO_bd xs _ _) (getNO_bd xs _ _) As Ad NG cs ND cd W2 hNGb hNDb (length_getGO xs _ _) (length_getNO xs _ _) ((ho.below h2).rg) ((hp.below h2).ri))
  have HAP : Hid (∀ W (As : Option Addr) (cs : Nat), Og W 79 w.heap.size (.slice As NG cs) (getGO xs 12 NG) → Calls Try.prog 68 #[.slice As NG cs] W fun e w' => e = .returned (.bool true) ∧ Below W.heap.size W w') := Lib.hid fun W As cs ho => by
    have := areApart_any As NG cs _ W hNGb (length_getGO xs NG 12) ho.rg (getGO_bd xs _ _)
    have hv2 : apartG 0 (getGO xs 12 NG) = true := hv
    rwa [hv2] at this
  have HE2 := Lib.hid hEm
  have HNG := Lib.hid (show NG = (E - 12 + 3) / 4 from hNG)
  have HND := Lib.hid (show ND = (n - E + 3) / 4 from hND)
  have HW0 : Hid (∀ W, Below w.heap.size w W → Calls Try.prog 52 #[.slice A n c, .int .i64 0] W fun e w' => e = .returned (.int .u32 (numO xs 0 4)) ∧ Below W.heap.size W w') := Lib.hid fun W hW => HWW.out W 0 (by omega) hW
  have HW4 : Hid (∀ W, Below w.heap.size w W → Calls Try.prog 52 #[.slice A n c, .int .i64 4] W fun e w' => e = .returned (.int .u32 (numO xs 4 4)) ∧ Below W.heap.size W w') := Lib.hid fun W hW => HWW.out W 4 (by omega) hW
  have HH8 : Hid (∀ W, Below w.heap.size w W → Calls Try.prog 53 #[.slice A n c, .int .i64 8] W fun e w' => e = .returned (.int .u16 (numO xs 8 2)) ∧ Below W.heap.size W w') := Lib.hid fun W hW => HWH.out W 8 (by omega) hW
  obtain ⟨q0, e0⟩ : ∃ q, q = numO xs 0 4 := ⟨_, rfl⟩
  obtain ⟨q4, e4⟩ : ∃ q, q = numO xs 4 4 := ⟨_, rfl⟩
  obtain ⟨h8, e8⟩ : ∃ q, q = numO xs 8 2 := ⟨_, rfl⟩
  rw [← e0] at HW0 HCK ⊢
  rw [← e4] at HW4 HCK ⊢
  rw [← e8] at HH8 HE2 h8b
  clear e0 e4 e8 h0b h4b hx hr hv hE hNG hND hps hEm hcd hok hra hd
  have b0 : Blk (w.alloc (.cells #[.int .u8 (k.toNat : Int), .int .u8 (f.toNat : Int), .slice A n c] 28)) w.heap.size 28 #[.int .u8 (k.toNat : Int), .int .u8 (f.toNat : Int), .slice A n c] := Blk.new w 28 #[.int .u8 (k.toNat : Int), .int .u8 (f.toNat : Int), .slice A n c]
  have b1 : Blk ((w.alloc (.cells #[.int .u8 (k.toNat : Int), .int .u8 (f.toNat : Int), .slice A n c] 28)).alloc (.cells #[.int .u32 0, .int .u32 0, .slice none 0 0, .slice none 0 0] 52)) (w.heap.size + 1) 52 #[.int .u32 0, .int .u32 0, .slice none 0 0, .slice none 0 0] := by simpa using Blk.new (w.alloc (.cells #[.int .u8 (k.toNat : Int), .int .u8 (f.toNat : Int), .slice A n c] 28)) 52 #[.int .u32 0, .int .u32 0, .slice none 0 0, .slice none 0 0]
  have K0 := Lib.hid (b0.alloc (.cells #[.int .u32 0, .int .u32 0, .slice none 0 0, .slice none 0 0] 52))
  have K1 := Lib.hid b1
  have B0 : Hid (Below w.heap.size w ((w.alloc (.cells #[.int .u8 (k.toNat : Int), .int .u8 (f.toNat : Int), .slice A n c] 28)).alloc (.cells #[.int .u32 0, .int .u32 0, .slice none 0 0, .slice none 0 0] 52))) := Lib.hid (Wr.below_ (((Wr.refl 5 w.heap.size w).alloc (.cells #[.int .u8 (k.toNat : Int), .int .u8 (f.toNat : Int), .slice A n c] 28)).alloc (.cells #[.int .u32 0, .int .u32 0, .slice none 0 0, .slice none 0 0] 52)) (Nat.le_refl _))
  clear b0 b1
  go_enter Try.func30, Try.ntmps30
  rw [drawn_eq 1, drawn_eq 2, drawn_eq 6, drawn_eq 10, drawn_eq 11]
  go_wp2_with fail
  generalize ((w.alloc (.cells #[.int .u8 (k.toNat : Int), .int .u8 (f.toNat : Int), .slice A n c] 28)).alloc (.cells #[.int .u32 0, .int .u32 0, .slice none 0 0, .slice none 0 0] 52)) = v0 at K0 K1 B0 ⊢
  rw [← drawn_eq 1]
  refine wp_region_grow_tail 8 (by kernel_rfl) [(Is (.pointer (some ⟨w.heap.size, 2, none⟩))), (Is (.slice A n c)), (Is (.int .u32 (q0 : Int))), (Is (.pointer (some ⟨w.heap.size, 2, none⟩))), (Is (.slice A n c)), (Is (.int .u32 (q4 : Int))), (Is (.agg #[.int .u32 (q0 : Int), .int .u32 (q4 : Int), .slice none 0 0, .slice none 0 0])), (NewBlk v0.heap.size 52 #[.int .u32 0, .int .u32 0, .slice none 0 0, .slice none 0 0])] rfl ?_ (by kernel_rfl) (by kernel_rfl) ?_ ?_
  · intro p hp
    simp only [List.mem_cons, List.not_mem_nil, or_false] at hp
    rcases hp with rfl | rfl | rfl | rfl | rfl | rfl | rfl | rfl
    · exact Lasts.is _
    · exact Lasts.is _
    · exact Lasts.is _
    · exact Lasts.is _
    · exact Lasts.is _
    · exact Lasts.is _
    · exact Lasts.is _
    · exact Lasts.newBlk _ _ _
  · refine ⟨?_, ?_, ?_, ?_, ?_, ?_, ?_, ?_, trivial⟩
    · intro listed a w1 hl hc
      have h1 : a.tmps[1]?.getD undef = .pointer (some ⟨w.heap.size, 0, none⟩) := (hc.was 1 (by kernel_rfl)).trans rfl
      refine does_value rfl rfl (.pointer (some ⟨w.heap.size, 2, none⟩)) w1 ?_ (Below.refl _ _) rfl
      clear hc hl
      go_simp
    · intro listed a w1 hl hc
      have h8 : a.tmps[8]?.getD undef = .pointer (some ⟨w.heap.size, 2, none⟩) := hc.dep hl 0 8 rfl (by kernel_rfl)
      have kb := K0.out.below hc.g K0.out.lt
      have x2 : w1.cell? ⟨w.heap.size, 2, none⟩ = some (.slice A n c) := kb.cell 2
      clear kb
      refine does_value rfl rfl (.slice A n c) w1 ?_ (Below.refl _ _) rfl
      clear hc hl
      go_simp
    · intro listed a w1 hl hc
      have h9 : a.tmps[9]?.getD undef = .slice A n c := hc.dep hl 1 9 rfl (by kernel_rfl)
      refine does_call rfl rfl 52 #[.slice A n c, .int .i64 0] ?_ ((HW0.out w1 (B0.out.trans (hc.g.mono B0.out.size))).mono fun e w' ⟨he, hb⟩ => ⟨_, he, hb, rfl⟩)
      clear hc hl
      go_simp
    · intro listed a w1 hl hc
      have h1 : a.tmps[1]?.getD undef = .pointer (some ⟨w.heap.size, 0, none⟩) := (hc.was 1 (by kernel_rfl)).trans rfl
      refine does_value rfl rfl (.pointer (some ⟨w.heap.size, 2, none⟩)) w1 ?_ (Below.refl _ _) rfl
      clear hc hl
      go_simp
    · intro listed a w1 hl hc
      have h11 : a.tmps[11]?.getD undef = .pointer (some ⟨w.heap.size, 2, none⟩) := hc.dep hl 3 11 rfl (by kernel_rfl)
      have kb := K0.out.below hc.g K0.out.lt
      have x2 : w1.cell? ⟨w.heap.size, 2, none⟩ = some (.slice A n c) := kb.cell 2
      clear kb
      refine does_value rfl rfl (.slice A n c) w1 ?_ (Below.refl _ _) rfl
      clear hc hl
      go_simp
    · intro listed a w1 hl hc
      have h12 : a.tmps[12]?.getD undef = .slice A n c := hc.dep hl 4 12 rfl (by kernel_rfl)
      refine does_call rfl rfl 52 #[.slice A n c, .int .i64 4] ?_ ((HW4.out w1 (B0.out.trans (hc.g.mono B0.out.size))).mono fun e w' ⟨he, hb⟩ => ⟨_, he, hb, rfl⟩)
      clear hc hl
      go_simp
    · intro listed a w1 hl hc
      have h10 : a.tmps[10]?.getD undef = .int .u32 (q0 : Int) := hc.dep hl 2 10 rfl (by kernel_rfl)
      have h13 : a.tmps[13]?.getD undef = .int .u32 (q4 : Int) := hc.dep hl 5 13 rfl (by kernel_rfl)
      refine does_value rfl rfl (.agg #[.int .u32 (q0 : Int), .int .u32 (q4 : Int), .slice none 0 0, .slice none 0 0]) w1 ?_ (Below.refl _ _) rfl
      clear hc hl
      go_simp
    · intro listed a w1 hl hc
      refine does_value rfl rfl (.pointer (some ⟨w1.heap.size, 0, none⟩)) (w1.alloc (.cells #[.int .u32 0, .int .u32 0, .slice none 0 0, .slice none 0 0] 52)) ?_ (below_new w1 _) ⟨_, rfl, hc.g.size, Blk.new _ _ _⟩
      clear hc hl
      go_simp
  intro w2 hb2
  rintro _ rfl _ rfl _ rfl _ rfl _ rfl _ rfl _ rfl _ ⟨g4, rfl, hg4, hb4⟩
  simp only [Thus, List.reverse_cons, List.reverse_nil, List.nil_append, List.cons_append, List.drop, List.take, lay]
  go_frame
  have hl0 := K0.out.lt
  have hl1 := K1.out.lt
  have HG := Lib.hid hb4
  have hge : w.heap.size + 1 + 1 ≤ g4 := by omega
  have y0 := HG.out.cell 0
  have y1 := HG.out.cell 1
  have y2 := HG.out.cell 2
  have y3 := HG.out.cell 3
  have z0 := HG.out.frozen 0
  have z1 := HG.out.frozen 1
  have z2 := HG.out.frozen 2
  have z3 := HG.out.frozen 3
  have G3 : Hid (Blk ((((w2.setCell ⟨g4, 0, none⟩ (.int .u32 (q0 : Int))).setCell ⟨g4, 1, none⟩ (.int .u32 (q4 : Int))).setCell ⟨g4, 2, none⟩ (.slice none 0 0)).setCell ⟨g4, 3, none⟩ (.slice none 0 0)) g4 52 #[.int .u32 (q0 : Int), .int .u32 (q4 : Int), .slice none 0 0, .slice none 0 0]) := Lib.hid ((((hb4.set_ 0 (.int .u32 (q0 : Int))).set_ 1 (.int .u32 (q4 : Int))).set_ 2 (.slice none 0 0)).set_ 3 (.slice none 0 0))
  have K0b := Lib.hid (((((K0.out.below hb2 K0.out.lt).far (p := ⟨g4, 0, none⟩) (show w.heap.size ≠ g4 by omega) (.int .u32 (q0 : Int))).far (p := ⟨g4, 1, none⟩) (show w.heap.size ≠ g4 by omega) (.int .u32 (q4 : Int))).far (p := ⟨g4, 2, none⟩) (show w.heap.size ≠ g4 by omega) (.slice none 0 0)).far (p := ⟨g4, 3, none⟩) (show w.heap.size ≠ g4 by omega) (.slice none 0 0))
  have K1b := Lib.hid (((((K1.out.below hb2 K1.out.lt).far (p := ⟨g4, 0, none⟩) (show w.heap.size + 1 ≠ g4 by omega) (.int .u32 (q0 : Int))).far (p := ⟨g4, 1, none⟩) (show w.heap.size + 1 ≠ g4 by omega) (.int .u32 (q4 : Int))).far (p := ⟨g4, 2, none⟩) (show w.heap.size + 1 ≠ g4 by omega) (.slice none 0 0)).far (p := ⟨g4, 3, none⟩) (show w.heap.size + 1 ≠ g4 by omega) (.slice none 0 0))
  have B3 := Lib.hid (((((below_then B0.out (Nat.le_refl _) hb2).setCell (p := ⟨g4, 0, none⟩) (show w.heap.size ≤ g4 by omega) (.int .u32 (q0 : Int))).setCell (p := ⟨g4, 1, none⟩) (show w.heap.size ≤ g4 by omega) (.int .u32 (q4 : Int))).setCell (p := ⟨g4, 2, none⟩) (show w.heap.size ≤ g4 by omega) (.slice none 0 0)).setCell (p := ⟨g4, 3, none⟩) (show w.heap.size ≤ g4 by omega) (.slice none 0 0))
  have hgl : g4 < w2.heap.size := hb4.lt
  clear hb2 hb4 hg4 hl0 hl1 K0 K1 B0 HG
  go_wp2_with fail
  generalize ((((w2.setCell ⟨g4, 0, none⟩ (.int .u32 (q0 : Int))).setCell ⟨g4, 1, none⟩ (.int .u32 (q4 : Int))).setCell ⟨g4, 2, none⟩ (.slice none 0 0)).setCell ⟨g4, 3, none⟩ (.slice none 0 0)) = v3 at G3 K0b K1b B3 ⊢
  clear hgl y0 z0 y1 z1 y2 z2 y3 z3
  rw [← drawn_eq 2]
  refine wp_region_grow_tail 10 (by kernel_rfl) [(Is (.pointer (some ⟨w.heap.size, 2, none⟩))), (Is (.slice A n c)), (Is (.int .u16 (h8 : Int))), (Is (.int .i64 (h8 : Int))), (Is (.int .i64 (4 * (h8 : Int)))), (Is (.int .i64 (12 + 4 * (h8 : Int)))), (Is (.pointer (some ⟨w.heap.size, 2, none⟩))), (Is (.slice A n c)), (Is (.int .i64 n)), (Is (.int .i64 (E : Int)))] rfl ?_ (by kernel_rfl) (by kernel_rfl) ?_ ?_
  · intro p hp
    simp only [List.mem_cons, List.not_mem_nil, or_false] at hp
    rcases hp with rfl | rfl | rfl | rfl | rfl | rfl | rfl | rfl | rfl | rfl
    · exact Lasts.is _
    · exact Lasts.is _
    · exact Lasts.is _
    · exact Lasts.is _
    · exact Lasts.is _
    · exact Lasts.is _
    · exact Lasts.is _
    · exact Lasts.is _
    · exact Lasts.is _
    · exact Lasts.is _
  · refine ⟨?_, ?_, ?_, ?_, ?_, ?_, ?_, ?_, ?_, ?_, trivial⟩
    · intro listed a w1 hl hc
      have h1 : a.tmps[1]?.getD undef = .pointer (some ⟨w.heap.size, 0, none⟩) := (hc.was 1 (by kernel_rfl)).trans rfl
      refine does_value rfl rfl (.pointer (some ⟨w.heap.size, 2, none⟩)) w1 ?_ (Below.refl _ _) rfl
      clear hc hl
      go_simp
    · intro listed a w1 hl hc
      have h15 : a.tmps[15]?.getD undef = .pointer (some ⟨w.heap.size, 2, none⟩) := hc.dep hl 0 15 rfl (by kernel_rfl)
      have kb := K0b.out.below hc.g K0b.out.lt
      have x2 : w1.cell? ⟨w.heap.size, 2, none⟩ = some (.slice A n c) := kb.cell 2
      clear kb
      refine does_value rfl rfl (.slice A n c) w1 ?_ (Below.refl _ _) rfl
      clear hc hl
      go_simp
    · intro listed a w1 hl hc
      have h16 : a.tmps[16]?.getD undef = .slice A n c := hc.dep hl 1 16 rfl (by kernel_rfl)
      refine does_call rfl rfl 53 #[.slice A n c, .int .i64 8] ?_ ((HH8.out w1 (B3.out.trans (hc.g.mono B3.out.size))).mono fun e w' ⟨he, hb⟩ => ⟨_, he, hb, rfl⟩)
      clear hc hl
      go_simp
    · intro listed a w1 hl hc
      have h17 : a.tmps[17]?.getD undef = .int .u16 (h8 : Int) := hc.dep hl 2 17 rfl (by kernel_rfl)
      refine does_value rfl rfl (.int .i64 (h8 : Int)) w1 ?_ (Below.refl _ _) rfl
      clear hc hl
      go_simp
      exact wrap_small _ (by omega) (by omega)
    · intro listed a w1 hl hc
      have h18 : a.tmps[18]?.getD undef = .int .i64 (h8 : Int) := hc.dep hl 3 18 rfl (by kernel_rfl)
      refine does_value rfl rfl (.int .i64 (4 * (h8 : Int))) w1 ?_ (Below.refl _ _) rfl
      clear hc hl
      go_simp
      exact wrap_small _ (by omega) (by omega)
    · intro listed a w1 hl hc
      have h19 : a.tmps[19]?.getD undef = .int .i64 (4 * (h8 : Int)) := hc.dep hl 4 19 rfl (by kernel_rfl)
      refine does_value rfl rfl (.int .i64 (12 + 4 * (h8 : Int))) w1 ?_ (Below.refl _ _) rfl
      clear hc hl
      go_simp
      exact wrap_small _ (by omega) (by omega)
    · intro listed a w1 hl hc
      have h1 : a.tmps[1]?.getD undef = .pointer (some ⟨w.heap.size, 0, none⟩) := (hc.was 1 (by kernel_rfl)).trans rfl
      refine does_value rfl rfl (.pointer (some ⟨w.heap.size, 2, none⟩)) w1 ?_ (Below.refl _ _) rfl
      clear hc hl
      go_simp
    · intro listed a w1 hl hc
      have h21 : a.tmps[21]?.getD undef = .pointer (some ⟨w.heap.size, 2, none⟩) := hc.dep hl 6 21 rfl (by kernel_rfl)
      have kb := K0b.out.below hc.g K0b.out.lt
      have x2 : w1.cell? ⟨w.heap.size, 2, none⟩ = some (.slice A n c) := kb.cell 2
      clear kb
      refine does_value rfl rfl (.slice A n c) w1 ?_ (Below.refl _ _) rfl
      clear hc hl
      go_simp
    · intro listed a w1 hl hc
      have h22 : a.tmps[22]?.getD undef = .slice A n c := hc.dep hl 7 22 rfl (by kernel_rfl)
      refine does_value rfl rfl (.int .i64 n) w1 ?_ (Below.refl _ _) rfl
      clear hc hl
      go_simp
    · intro listed a w1 hl hc
      have h20 : a.tmps[20]?.getD undef = .int .i64 (12 + 4 * (h8 : Int)) := hc.dep hl 5 20 rfl (by kernel_rfl)
      have h23 : a.tmps[23]?.getD undef = .int .i64 n := hc.dep hl 8 23 rfl (by kernel_rfl)
      refine does_value rfl rfl (.int .i64 (E : Int)) w1 ?_ (Below.refl _ _) rfl
      clear hc hl
      go_simp
      rw [HE2.out]
      exact min_int h8 n
  intro w2 hb2
  rintro _ rfl _ rfl _ rfl _ rfl _ rfl _ rfl _ rfl _ rfl _ rfl _ rfl
  simp only [Thus, List.reverse_cons, List.reverse_nil, List.nil_append, List.cons_append, List.drop, List.take, lay]
  go_frame
  have G4 := Lib.hid (G3.out.below hb2 G3.out.lt)
  have K0c := Lib.hid (K0b.out.below hb2 K0b.out.lt)
  have K1c := Lib.hid (K1b.out.below hb2 K1b.out.lt)
  have B4 := Lib.hid (below_then B3.out (Nat.le_refl _) hb2)
  clear hb2 G3 K0b K1b B3
  go_wp2_with fail
  go_loopw [6] (fun i wr => ∃ (k2 e cs : Nat) (As : Option Addr), k2 ≤ NG ∧ e ≤ n + 16 ∧ i = .int .i64 (e : Int) ∧ Hid (e = 12 + 4 * k2) ∧ Blk wr g4 52 #[.int .u32 (q0 : Int), .int .u32 (q4 : Int), .slice As k2 cs, .slice none 0 0] ∧ Og wr 79 w.heap.size (.slice As k2 cs) (getGO xs 12 k2) ∧ Blk wr w.heap.size 28 #[.int .u8 (k.toNat : Int), .int .u8 (f.toNat : Int), .slice A n c] ∧ Blk wr (w.heap.size + 1) 52 #[.int .u32 0, .int .u32 0, .slice none 0 0, .slice none 0 0] ∧ Below w.heap.size w wr) (fun i _ => n + 24 - (intOf i).toNat)
  case atStart => exact ⟨0, 12, 0, none, by omega, by omega, rfl, Lib.hid rfl, G4.out, World.ownsRow_nil _ _ _ _, K0c.out, K1c.out, B4.out⟩
  case round =>
    clear G4 K0c K1c B4
    obtain ⟨k2, e, cs, As, hk2, he, rfl, HE, hG, hO, hK0, hK1, hB⟩ := hrel
    have HG := Lib.hid hG
    have HO := Lib.hid hO
    have HK0 := Lib.hid hK0
    have HK1 := Lib.hid hK1
    have HB := Lib.hid hB
    clear hG hO hK0 hK1 hB
    by_cases hlt : e < E
    · have hkn : k2 < NG := by have := HNG.out; have := HE.out; omega
      have hne0 : some w.heap.size ≠ (Value.slice As k2 cs).ownBlock := owns_ne HO.out HK0.out (by decide)
      have hne4 : some g4 ≠ (Value.slice As k2 cs).ownBlock := owns_ne HO.out HG.out (by decide)
      have hne1 : some (w.heap.size + 1) ≠ (Value.slice As k2 cs).ownBlock := owns_ne HO.out HK1.out (by decide)
      have hob : ∀ b, (Value.slice As k2 cs).ownBlock = some b → b < wr.heap.size := own_lt HO.out
      have hobg : ∀ b, (Value.slice As k2 cs).ownBlock = some b → w.heap.size ≤ b := own_ge HO.out
      have hwr : w.heap.size ≤ wr.heap.size := HB.out.size
      obtain ⟨pa, hpa⟩ : ∃ pa, pa = numO xs e 2 := ⟨_, rfl⟩
      obtain ⟨pb, hpb⟩ : ∃ pb, pb = numO xs (e + 2) 2 := ⟨_, rfl⟩
      have HH1 : Hid (∀ W, Below w.heap.size w W → Calls Try.prog 53 #[.slice A n c, .int .i64 (e : Int)] W fun e w' => e = .returned (.int .u16 (pa : Int)) ∧ Below W.heap.size W w') := Lib.hid fun W hW => by rw [hpa]; exact HWH.out W e (by omega) hW
      have HH2 : Hid (∀ W, Below w.heap.size w W → Calls Try.prog 53 #[.slice A n c, .int .i64 ((e : Int) + 2)] W fun e w' => e = .returned (.int .u16 (pb : Int)) ∧ Below W.heap.size W w') := Lib.hid fun W hW => by
          have := HWH.out W (e + 2) (by omega) hW
          rw [← hpb] at this
          exact this
      have HSN : Hid (getGO xs 12 (k2 + 1) = getGO xs 12 k2 ++ [(pa, pb)]) := Lib.hid (by rw [getGO_snoc, hpa, hpb, HE.out])
      clear hpa hpb
      go_wp2_with fail
      rw [← drawn_eq 6]
      refine wp_region_own_tail 15 13 ((Value.slice As k2 cs).ownBlock) (by kernel_rfl) [(Is (.pointer (some ⟨g4, 2, none⟩))), (Is (.slice As k2 cs)), (Is (.pointer (some ⟨w.heap.size, 2, none⟩))), (Is (.slice A n c)), (Is (.int .i64 (e : Int))), (Is (.int .u16 (pa : Int))), (Is (.pointer (some ⟨w.heap.size, 2, none⟩))), (Is (.slice A n c)), (Is (.int .i64 (e : Int))), (Is (.int .i64 ((e : Int) + 2))), (Is (.int .u16 (pb : Int))), (Is (.agg #[.int .u16 (pa : Int), .int .u16 (pb : Int)])), (NewSl wr.heap.size 79 1 #[.int .u16 (pa : Int), .int .u16 (pb : Int)])] (NewOg 79 w.heap.size (k2 + 1) (getGO xs 12 k2 ++ [(pa, pb)])) [(Is (.pointer (some ⟨g4, 2, none⟩)))] rfl rfl (Lasts.newOg _ _ _ _) ?_ (by kernel_rfl) (by kernel_rfl) ?_ ?_
      · intro q hq
        simp only [List.cons_append, List.nil_append, List.mem_cons, List.not_mem_nil, or_false] at hq
        rcases hq with rfl | rfl | rfl | rfl | rfl | rfl | rfl | rfl | rfl | rfl | rfl | rfl | rfl | rfl
        · exact ⟨Lasts.is _, LastsO.is _ _⟩
        · exact ⟨Lasts.is _, LastsO.is _ _⟩
        · exact ⟨Lasts.is _, LastsO.is _ _⟩
        · exact ⟨Lasts.is _, LastsO.is _ _⟩
        · exact ⟨Lasts.is _, LastsO.is _ _⟩
        · exact ⟨Lasts.is _, LastsO.is _ _⟩
        · exact ⟨Lasts.is _, LastsO.is _ _⟩
        · exact ⟨Lasts.is _, LastsO.is _ _⟩
        · exact ⟨Lasts.is _, LastsO.is _ _⟩
        · exact ⟨Lasts.is _, LastsO.is _ _⟩
        · exact ⟨Lasts.is _, LastsO.is _ _⟩
        · exact ⟨Lasts.is _, LastsO.is _ _⟩
        · exact ⟨Lasts.newSl _ _ _ _, LastsO.newSl _ _ _ _ _ hob⟩
        · exact ⟨Lasts.is _, LastsO.is _ _⟩
      · refine ⟨?_, ?_, ?_, ?_, ?_, ?_, ?_, ?_, ?_, ?_, ?_, ?_, ?_, ?_, ?_, trivial⟩
        · intro listed a w1 hl hc hpre
          have h4 : a.tmps[4]?.getD undef = .pointer (some ⟨g4, 0, none⟩) := (hc.was 4 (by kernel_rfl)).trans rfl
          refine does_value rfl rfl (.pointer (some ⟨g4, 2, none⟩)) w1 ?_ (stepB (by decide) (Below.refl _ _)) rfl
          clear hc hl
          go_simp
        · intro listed a w1 hl hc hpre
          have h30 : a.tmps[30]?.getD undef = .pointer (some ⟨g4, 2, none⟩) := hc.dep hl 0 30 rfl (by kernel_rfl)
          have kb := HG.out.grown hc.g hne4
          have x2 : w1.cell? ⟨g4, 2, none⟩ = some (.slice As k2 cs) := kb.cell 2
          clear kb
          refine does_value rfl rfl (.slice As k2 cs) w1 ?_ (stepB (by decide) (Below.refl _ _)) rfl
          clear hc hl
          go_simp
        · intro listed a w1 hl hc hpre
          have h1 : a.tmps[1]?.getD undef = .pointer (some ⟨w.heap.size, 0, none⟩) := (hc.was 1 (by kernel_rfl)).trans rfl
          refine does_value rfl rfl (.pointer (some ⟨w.heap.size, 2, none⟩)) w1 ?_ (stepB (by decide) (Below.refl _ _)) rfl
          clear hc hl
          go_simp
        · intro listed a w1 hl hc hpre
          have h32 : a.tmps[32]?.getD undef = .pointer (some ⟨w.heap.size, 2, none⟩) := hc.dep hl 2 32 rfl (by kernel_rfl)
          have kb := HK0.out.grown hc.g hne0
          have x2 : w1.cell? ⟨w.heap.size, 2, none⟩ = some (.slice A n c) := kb.cell 2
          clear kb
          refine does_value rfl rfl (.slice A n c) w1 ?_ (stepB (by decide) (Below.refl _ _)) rfl
          clear hc hl
          go_simp
        · intro listed a w1 hl hc hpre
          have h6 : a.tmps[6]?.getD undef = .int .i64 (e : Int) := (hc.was 6 (by kernel_rfl)).trans rfl
          refine does_value rfl rfl (.int .i64 (e : Int)) w1 ?_ (stepB (by decide) (Below.refl _ _)) rfl
          clear hc hl
          go_simp
        · intro listed a w1 hl hc hpre
          have h33 : a.tmps[33]?.getD undef = .slice A n c := hc.dep hl 3 33 rfl (by kernel_rfl)
          have h34 : a.tmps[34]?.getD undef = .int .i64 (e : Int) := hc.dep hl 4 34 rfl (by kernel_rfl)
          refine does_call rfl rfl 53 #[.slice A n c, .int .i64 (e : Int)] ?_ ((HH1.out w1 (HB.out.grown hc.g hwr hobg)).mono fun e w' ⟨he, hb⟩ => ⟨_, he, (stepB (by decide) hb), rfl⟩)
          clear hc hl
          go_simp
        · intro listed a w1 hl hc hpre
          have h1 : a.tmps[1]?.getD undef = .pointer (some ⟨w.heap.size, 0, none⟩) := (hc.was 1 (by kernel_rfl)).trans rfl
          refine does_value rfl rfl (.pointer (some ⟨w.heap.size, 2, none⟩)) w1 ?_ (stepB (by decide) (Below.refl _ _)) rfl
          clear hc hl
          go_simp
        · intro listed a w1 hl hc hpre
          have h36 : a.tmps[36]?.getD undef = .pointer (some ⟨w.heap.size, 2, none⟩) := hc.dep hl 6 36 rfl (by kernel_rfl)
          have kb := HK0.out.grown hc.g hne0
          have x2 : w1.cell? ⟨w.heap.size, 2, none⟩ = some (.slice A n c) := kb.cell 2
          clear kb
          refine does_value rfl rfl (.slice A n c) w1 ?_ (stepB (by decide) (Below.refl _ _)) rfl
          clear hc hl
          go_simp
        · intro listed a w1 hl hc hpre
          have h6 : a.tmps[6]?.getD undef = .int .i64 (e : Int) := (hc.was 6 (by kernel_rfl)).trans rfl
          refine does_value rfl rfl (.int .i64 (e : Int)) w1 ?_ (stepB (by decide) (Below.refl _ _)) rfl
          clear hc hl
          go_simp
        · intro listed a w1 hl hc hpre
          have h38 : a.tmps[38]?.getD undef = .int .i64 (e : Int) := hc.dep hl 8 38 rfl (by kernel_rfl)
          refine does_value rfl rfl (.int .i64 ((e : Int) + 2)) w1 ?_ (stepB (by decide) (Below.refl _ _)) rfl
          clear hc hl
          go_simp
          exact wrap_small _ (by omega) (by omega)
        · intro listed a w1 hl hc hpre
          have h37 : a.tmps[37]?.getD undef = .slice A n c := hc.dep hl 7 37 rfl (by kernel_rfl)
          have h39 : a.tmps[39]?.getD undef = .int .i64 ((e : Int) + 2) := hc.dep hl 9 39 rfl (by kernel_rfl)
          refine does_call rfl rfl 53 #[.slice A n c, .int .i64 ((e : Int) + 2)] ?_ ((HH2.out w1 (HB.out.grown hc.g hwr hobg)).mono fun e w' ⟨he, hb⟩ => ⟨_, he, (stepB (by decide) hb), rfl⟩)
          clear hc hl
          go_simp
        · intro listed a w1 hl hc hpre
          have h35 : a.tmps[35]?.getD undef = .int .u16 (pa : Int) := hc.dep hl 5 35 rfl (by kernel_rfl)
          have h40 : a.tmps[40]?.getD undef = .int .u16 (pb : Int) := hc.dep hl 10 40 rfl (by kernel_rfl)
          refine does_value rfl rfl (.agg #[.int .u16 (pa : Int), .int .u16 (pb : Int)]) w1 ?_ (stepB (by decide) (Below.refl _ _)) rfl
          clear hc hl
          go_simp
        · intro listed a w1 hl hc hpre
          have h41 : a.tmps[41]?.getD undef = .agg #[.int .u16 (pa : Int), .int .u16 (pb : Int)] := hc.dep hl 11 41 rfl (by kernel_rfl)
          refine does_value rfl rfl (.slice (some ⟨w1.heap.size, 0, none⟩) 1 1) (w1.alloc (.cells #[.int .u16 (pa : Int), .int .u16 (pb : Int)] 79)) ?_ (stepB (by decide) (below_new w1 _)) ⟨_, rfl, hc.g.size, Blk.new _ _ _⟩
          clear hc hl
          go_simp
        · intro listed a w1 hl hc hpre
          have h31 : a.tmps[31]?.getD undef = .slice As k2 cs := hc.dep hl 1 31 rfl (by kernel_rfl)
          obtain ⟨g42, h42, hg42, hb42⟩ := hc.dep hl 12 42 rfl (by kernel_rfl)
          obtain ⟨A9, c9, w9, hrun, hog, hgr⟩ := run_appendG Try.underlying49 hti htz ht1 ht2 w1 49 w.heap.size As k2 cs g42 (getGO xs 12 k2) (pa, pb) (HO.out.below (hpre rfl)) (length_getGO _ _ _) hb42 (by omega) (Nat.le_trans hwr hc.g.size)
          refine does_value rfl rfl (.slice A9 (k2 + 1 : Nat) c9) w9 (exec_append rfl h31 h42 hrun) (stepO hgr) ⟨A9, c9, rfl, hog⟩
        · intro listed a w1 hl hc hpre
          have h4 : a.tmps[4]?.getD undef = .pointer (some ⟨g4, 0, none⟩) := (hc.was 4 (by kernel_rfl)).trans rfl
          refine does_value rfl rfl (.pointer (some ⟨g4, 2, none⟩)) w1 ?_ (stepB (by decide) (Below.refl _ _)) rfl
          clear hc hl
          go_simp
      intro w2 hb2
      rintro _ rfl _ rfl _ rfl _ rfl _ rfl _ rfl _ rfl _ rfl _ rfl _ rfl _ rfl _ rfl _ ⟨g42, rfl, hg42, hb42⟩ _ ⟨A43, c43, rfl, ho43⟩ _ rfl
      simp only [Thus, List.reverse_cons, List.reverse_nil, List.nil_append, List.cons_append, List.drop, List.take, lay]
      go_frame
      have HG2 := Lib.hid (HG.out.grown hb2 hne4)
      have HK02 := Lib.hid (HK0.out.grown hb2 hne0)
      have HK12 := Lib.hid (HK1.out.grown hb2 hne1)
      have HB2 := Lib.hid (HB.out.grown hb2 hwr hobg)
      have HO2 := Lib.hid ho43
      have y2 := HG2.out.cell 2
      have z2 := HG2.out.frozen 2
      clear hb2 hb42 hg42 ho43
      go_wp2_with fail
      go_roundw
      case rel => exact ⟨k2 + 1, e + 4, c43, A43, by omega, by omega, by go_num, Lib.hid (by have := HE.out; omega), HG2.out.set_ 2 _, by rw [HSN.out]; exact HO2.out.setBlk HG2.out (by decide) 2 _, HK02.out.far (p := ⟨g4, 2, none⟩) (show w.heap.size ≠ g4 by omega) _, HK12.out.far (p := ⟨g4, 2, none⟩) (show w.heap.size + 1 ≠ g4 by omega) _, HB2.out.setCell (p := ⟨g4, 2, none⟩) (show w.heap.size ≤ g4 by omega) _⟩
      case measure => simp [intOf]; omega
    · have hkn : k2 = NG := by have := HNG.out; have := HE.out; omega
      subst hkn
      clear HE HNG
      go_wp2_with fail
      go_loopw [7] (fun i wr => ∃ (k3 e cd : Nat) (Ad : Option Addr), k3 ≤ ND ∧ e ≤ n + 16 ∧ i = .int .i64 (e : Int) ∧ Hid (e = E + 4 * k3) ∧ Blk wr g4 52 #[.int .u32 (q0 : Int), .int .u32 (q4 : Int), .slice As k2 cs, .slice Ad k3 cd] ∧ Og wr 79 w.heap.size (.slice As k2 cs) (getGO xs 12 k2) ∧ Ow wr 22 w.heap.size (.slice Ad k3 cd) (ints (getNO xs E k3)) ∧ Blk wr w.heap.size 28 #[.int .u8 (k.toNat : Int), .int .u8 (f.toNat : Int), .slice A n c] ∧ Blk wr (w.heap.size + 1) 52 #[.int .u32 0, .int .u32 0, .slice none 0 0, .slice none 0 0] ∧ Below w.heap.size w wr) (fun i _ => n + 24 - (intOf i).toNat)
      case atStart => exact ⟨0, E, 0, none, by omega, by omega, rfl, Lib.hid (by omega), HG.out, HO.out, Ow.nil _ _ _, HK0.out, HK1.out, HB.out⟩
      case round =>
        clear HG HO HK0 HK1 HB hlt he
        obtain ⟨k3, e, cd, Ad, hk3, he, rfl, HE, hG, hO, hP, hK0, hK1, hB⟩ := hrel
        have HG := Lib.hid hG
        have HO := Lib.hid hO
        have HP := Lib.hid hP
        have HK0 := Lib.hid hK0
        have HK1 := Lib.hid hK1
        have HB := Lib.hid hB
        have x2 : wr.cell? ⟨w.heap.size, 2, none⟩ = some (.slice A n c) := hK0.cell 2
        clear hG hO hP hK0 hK1 hB
        by_cases hlt : e < n
        · have hkn : k3 < ND := by have := HND.out; have := HE.out; omega
          have hne0 : some w.heap.size ≠ (Value.slice Ad k3 cd).ownBlock := owns_ne HP.out HK0.out (by decide)
          have hne4 : some g4 ≠ (Value.slice Ad k3 cd).ownBlock := owns_ne HP.out HG.out (by decide)
          have hne1 : some (w.heap.size + 1) ≠ (Value.slice Ad k3 cd).ownBlock := owns_ne HP.out HK1.out (by decide)
          have hob : ∀ b, (Value.slice Ad k3 cd).ownBlock = some b → b < wr.heap.size := own_lt HP.out
          have hobg : ∀ b, (Value.slice Ad k3 cd).ownBlock = some b → w.heap.size ≤ b := own_ge HP.out
          have hwr : w.heap.size ≤ wr.heap.size := HB.out.size
          obtain ⟨pa, hpa⟩ : ∃ pa, pa = numO xs e 4 := ⟨_, rfl⟩
          have HH1 : Hid (∀ W, Below w.heap.size w W → Calls Try.prog 52 #[.slice A n c, .int .i64 (e : Int)] W fun e w' => e = .returned (.int .u32 (pa : Int)) ∧ Below W.heap.size W w') := Lib.hid fun W hW => by rw [hpa]; exact HWW.out W e (by omega) hW
          have HSN : Hid (ints (getNO xs E (k3 + 1)) = ints (getNO xs E k3) ++ [(pa : Int)]) := Lib.hid (by rw [getNO_snoc, ints_snoc, hpa, HE.out])
          clear hpa
          go_wp2_with fail
          rw [← drawn_eq 10]
          refine wp_region_own_tail 9 7 ((Value.slice Ad k3 cd).ownBlock) (by kernel_rfl) [(Is (.pointer (some ⟨g4, 3, none⟩))), (Is (.slice Ad k3 cd)), (Is (.pointer (some ⟨w.heap.size, 2, none⟩))), (Is (.slice A n c)), (Is (.int .i64 (e : Int))), (Is (.int .u32 (pa : Int))), (NewSl wr.heap.size 22 1 #[.int .u32 (pa : Int)])] (NewOw 22 w.heap.size (k3 + 1) (ints (getNO xs E k3) ++ [(pa : Int)])) [(Is (.pointer (some ⟨g4, 3, none⟩)))] rfl rfl (Lasts.newOw _ _ _ _) ?_ (by kernel_rfl) (by kernel_rfl) ?_ ?_
          · intro q hq
            simp only [List.cons_append, List.nil_append, List.mem_cons, List.not_mem_nil, or_false] at hq
            rcases hq with rfl | rfl | rfl | rfl | rfl | rfl | rfl | rfl
            · exact ⟨Lasts.is _, LastsO.is _ _⟩
            · exact ⟨Lasts.is _, LastsO.is _ _⟩
            · exact ⟨Lasts.is _, LastsO.is _ _⟩
            · exact ⟨Lasts.is _, LastsO.is _ _⟩
            · exact ⟨Lasts.is _, LastsO.is _ _⟩
            · exact ⟨Lasts.is _, LastsO.is _ _⟩
            · exact ⟨Lasts.newSl _ _ _ _, LastsO.newSl _ _ _ _ _ hob⟩
            · exact ⟨Lasts.is _, LastsO.is _ _⟩
          · refine ⟨?_, ?_, ?_, ?_, ?_, ?_, ?_, ?_, ?_, trivial⟩
            · intro listed a w1 hl hc hpre
              have h4 : a.tmps[4]?.getD undef = .pointer (some ⟨g4, 0, none⟩) := (hc.was 4 (by kernel_rfl)).trans rfl
              refine does_value rfl rfl (.pointer (some ⟨g4, 3, none⟩)) w1 ?_ (stepB (by decide) (Below.refl _ _)) rfl
              clear hc hl
              go_simp
            · intro listed a w1 hl hc hpre
              have h53 : a.tmps[53]?.getD undef = .pointer (some ⟨g4, 3, none⟩) := hc.dep hl 0 53 rfl (by kernel_rfl)
              have kb := HG.out.grown hc.g hne4
              have x3 : w1.cell? ⟨g4, 3, none⟩ = some (.slice Ad k3 cd) := kb.cell 3
              clear kb
              refine does_value rfl rfl (.slice Ad k3 cd) w1 ?_ (stepB (by decide) (Below.refl _ _)) rfl
              clear hc hl
              go_simp
            · intro listed a w1 hl hc hpre
              have h1 : a.tmps[1]?.getD undef = .pointer (some ⟨w.heap.size, 0, none⟩) := (hc.was 1 (by kernel_rfl)).trans rfl
              refine does_value rfl rfl (.pointer (some ⟨w.heap.size, 2, none⟩)) w1 ?_ (stepB (by decide) (Below.refl _ _)) rfl
              clear hc hl
              go_simp
            · intro listed a w1 hl hc hpre
              have h55 : a.tmps[55]?.getD undef = .pointer (some ⟨w.heap.size, 2, none⟩) := hc.dep hl 2 55 rfl (by kernel_rfl)
              have kb := HK0.out.grown hc.g hne0
              have x2 : w1.cell? ⟨w.heap.size, 2, none⟩ = some (.slice A n c) := kb.cell 2
              clear kb
              refine does_value rfl rfl (.slice A n c) w1 ?_ (stepB (by decide) (Below.refl _ _)) rfl
              clear hc hl
              go_simp
            · intro listed a w1 hl hc hpre
              have h7 : a.tmps[7]?.getD undef = .int .i64 (e : Int) := (hc.was 7 (by kernel_rfl)).trans rfl
              refine does_value rfl rfl (.int .i64 (e : Int)) w1 ?_ (stepB (by decide) (Below.refl _ _)) rfl
              clear hc hl
              go_simp
            · intro listed a w1 hl hc hpre
              have h56 : a.tmps[56]?.getD undef = .slice A n c := hc.dep hl 3 56 rfl (by kernel_rfl)
              have h57 : a.tmps[57]?.getD undef = .int .i64 (e : Int) := hc.dep hl 4 57 rfl (by kernel_rfl)
              refine does_call rfl rfl 52 #[.slice A n c, .int .i64 (e : Int)] ?_ ((HH1.out w1 (HB.out.grown hc.g hwr hobg)).mono fun e w' ⟨he, hb⟩ => ⟨_, he, (stepB (by decide) hb), rfl⟩)
              clear hc hl
              go_simp
            · intro listed a w1 hl hc hpre
              have h58 : a.tmps[58]?.getD undef = .int .u32 (pa : Int) := hc.dep hl 5 58 rfl (by kernel_rfl)
              refine does_value rfl rfl (.slice (some ⟨w1.heap.size, 0, none⟩) 1 1) (w1.alloc (.cells #[.int .u32 (pa : Int)] 22)) ?_ (stepB (by decide) (below_new w1 _)) ⟨_, rfl, hc.g.size, Blk.new _ _ _⟩
              clear hc hl
              go_simp
            · intro listed a w1 hl hc hpre
              have h54 : a.tmps[54]?.getD undef = .slice Ad k3 cd := hc.dep hl 1 54 rfl (by kernel_rfl)
              obtain ⟨g59, h59, hg59, hb59⟩ := hc.dep hl 6 59 rfl (by kernel_rfl)
              obtain ⟨A9, c9, w9, hrun, hog, hgr⟩ := run_appendW Try.underlying50 hui huz hu1 hu2 w1 50 w.heap.size Ad k3 cd g59 (ints (getNO xs E k3)) (pa : Int) (HP.out.below (hpre rfl)) (by rw [length_ints, length_getNO]) hb59 (by omega) (Nat.le_trans hwr hc.g.size)
              refine does_value rfl rfl (.slice A9 (k3 + 1 : Nat) c9) w9 (exec_append rfl h54 h59 hrun) (stepO hgr) ⟨A9, c9, rfl, hog⟩
            · intro listed a w1 hl hc hpre
              have h4 : a.tmps[4]?.getD undef = .pointer (some ⟨g4, 0, none⟩) := (hc.was 4 (by kernel_rfl)).trans rfl
              refine does_value rfl rfl (.pointer (some ⟨g4, 3, none⟩)) w1 ?_ (stepB (by decide) (Below.refl _ _)) rfl
              clear hc hl
              go_simp
          intro w2 hb2
          rintro _ rfl _ rfl _ rfl _ rfl _ rfl _ rfl _ ⟨g59, rfl, hg59, hb59⟩ _ ⟨A60, c60, rfl, ho60⟩ _ rfl
          simp only [Thus, List.reverse_cons, List.reverse_nil, List.nil_append, List.cons_append, List.drop, List.take, lay]
          go_frame
          have HG2 := Lib.hid (HG.out.grown hb2 hne4)
          have HK02 := Lib.hid (HK0.out.grown hb2 hne0)
          have HK12 := Lib.hid (HK1.out.grown hb2 hne1)
          have HB2 := Lib.hid (HB.out.grown hb2 hwr hobg)
          have HO2 := Lib.hid (HO.out.beside HP.out (by decide) hb2)
          have HP2 := Lib.hid ho60
          have y3 := HG2.out.cell 3
          have z3 := HG2.out.frozen 3
          clear hb2 hb59 hg59 ho60 x2
          go_wp2_with fail
          go_roundw
          case rel => exact ⟨k3 + 1, e + 4, c60, A60, by omega, by omega, by go_num, Lib.hid (by have := HE.out; omega), HG2.out.set_ 3 _, HO2.out.setBlk HG2.out (by decide) 3 _, by rw [HSN.out]; exact HP2.out.setBlk HG2.out (by decide) 3 _, HK02.out.far (p := ⟨g4, 3, none⟩) (show w.heap.size ≠ g4 by omega) _, HK12.out.far (p := ⟨g4, 3, none⟩) (show w.heap.size + 1 ≠ g4 by omega) _, HB2.out.setCell (p := ⟨g4, 3, none⟩) (show w.heap.size ≤ g4 by omega) _⟩
          case measure => simp [intOf]; omega
        · have hkn : k3 = ND := by have := HND.out; have := HE.out; omega
          subst hkn
          clear HE HND
          go_wp2_with fail
          rw [← drawn_eq 11]
          refine wp_region_grow_tail 8 (by kernel_rfl) [(Is (.agg #[.int .u8 (k.toNat : Int), .int .u8 (f.toNat : Int), .slice A n c])), (Is (.agg #[.int .u32 (q0 : Int), .int .u32 (q4 : Int), .slice As k2 cs, .slice Ad k3 cd])), (Is (.pointer (some ⟨g4, 2, none⟩))), (Is (.slice As k2 cs)), (Is (.bool true)), (Is (.tuple #[.agg #[.int .u32 (q0 : Int), .int .u32 (q4 : Int), .slice As k2 cs, .slice Ad k3 cd], .int .i64 0])), (Is (.agg #[.int .u32 (q0 : Int), .int .u32 (q4 : Int), .slice As k2 cs, .slice Ad k3 cd])), (Is (.int .i64 0))] rfl ?_ (by kernel_rfl) (by kernel_rfl) ?_ ?_
          · intro p hp
            simp only [List.mem_cons, List.not_mem_nil, or_false] at hp
            rcases hp with rfl | rfl | rfl | rfl | rfl | rfl | rfl | rfl
            · exact Lasts.is _
            · exact Lasts.is _
            · exact Lasts.is _
            · exact Lasts.is _
            · exact Lasts.is _
            · exact Lasts.is _
            · exact Lasts.is _
            · exact Lasts.is _
          · refine ⟨?_, ?_, ?_, ?_, ?_, ?_, ?_, ?_, trivial⟩
            · intro listed a w1 hl hc
              have h1 : a.tmps[1]?.getD undef = .pointer (some ⟨w.heap.size, 0, none⟩) := (hc.was 1 (by kernel_rfl)).trans rfl
              have kb := HK0.out.below hc.g HK0.out.lt
              have x0 : w1.cell? ⟨w.heap.size, 0, none⟩ = some (.int .u8 (k.toNat : Int)) := kb.cell 0
              have x1 : w1.cell? ⟨w.heap.size, 1, none⟩ = some (.int .u8 (f.toNat : Int)) := kb.cell 1
              have x2 : w1.cell? ⟨w.heap.size, 2, none⟩ = some (.slice A n c) := kb.cell 2
              clear kb
              refine does_value rfl rfl (.agg #[.int .u8 (k.toNat : Int), .int .u8 (f.toNat : Int), .slice A n c]) w1 ?_ (Below.refl _ _) rfl
              clear hc hl
              go_simp
            · intro listed a w1 hl hc
              have h4 : a.tmps[4]?.getD undef = .pointer (some ⟨g4, 0, none⟩) := (hc.was 4 (by kernel_rfl)).trans rfl
              have kb := HG.out.below hc.g HG.out.lt
              have x0 : w1.cell? ⟨g4, 0, none⟩ = some (.int .u32 (q0 : Int)) := kb.cell 0
              have x1 : w1.cell? ⟨g4, 1, none⟩ = some (.int .u32 (q4 : Int)) := kb.cell 1
              have x2 : w1.cell? ⟨g4, 2, none⟩ = some (.slice As k2 cs) := kb.cell 2
              have x3 : w1.cell? ⟨g4, 3, none⟩ = some (.slice Ad k3 cd) := kb.cell 3
              clear kb
              refine does_value rfl rfl (.agg #[.int .u32 (q0 : Int), .int .u32 (q4 : Int), .slice As k2 cs, .slice Ad k3 cd]) w1 ?_ (Below.refl _ _) rfl
              clear hc hl
              go_simp
            · intro listed a w1 hl hc
              have h4 : a.tmps[4]?.getD undef = .pointer (some ⟨g4, 0, none⟩) := (hc.was 4 (by kernel_rfl)).trans rfl
              refine does_value rfl rfl (.pointer (some ⟨g4, 2, none⟩)) w1 ?_ (Below.refl _ _) rfl
              clear hc hl
              go_simp
            · intro listed a w1 hl hc
              have h64 : a.tmps[64]?.getD undef = .pointer (some ⟨g4, 2, none⟩) := hc.dep hl 2 64 rfl (by kernel_rfl)
              have kb := HG.out.below hc.g HG.out.lt
              have x2 : w1.cell? ⟨g4, 2, none⟩ = some (.slice As k2 cs) := kb.cell 2
              clear kb
              refine does_value rfl rfl (.slice As k2 cs) w1 ?_ (Below.refl _ _) rfl
              clear hc hl
              go_simp
            · intro listed a w1 hl hc
              have h65 : a.tmps[65]?.getD undef = .slice As k2 cs := hc.dep hl 3 65 rfl (by kernel_rfl)
              refine does_call rfl rfl 68 #[.slice As k2 cs] ?_ ((HAP.out w1 As cs (HO.out.below hc.g)).mono fun e w' ⟨he, hb⟩ => ⟨_, he, hb, rfl⟩)
              clear hc hl
              go_simp
            · intro listed a w1 hl hc
              have h62 : a.tmps[62]?.getD undef = .agg #[.int .u8 (k.toNat : Int), .int .u8 (f.toNat : Int), .slice A n c] := hc.dep hl 0 62 rfl (by kernel_rfl)
              have h63 : a.tmps[63]?.getD undef = .agg #[.int .u32 (q0 : Int), .int .u32 (q4 : Int), .slice As k2 cs, .slice Ad k3 cd] := hc.dep hl 1 63 rfl (by kernel_rfl)
              have h66 : a.tmps[66]?.getD undef = .bool true := hc.dep hl 4 66 rfl (by kernel_rfl)
              refine does_call rfl rfl 67 #[.agg #[.int .u8 (k.toNat : Int), .int .u8 (f.toNat : Int), .slice A n c], .agg #[.int .u32 (q0 : Int), .int .u32 (q4 : Int), .slice As k2 cs, .slice Ad k3 cd], .bool true, .func (.func 29) #[] #[]] ?_ ((HCK.out w1 As cs Ad cd (HB.out.trans (hc.g.mono HB.out.size)) (HO.out.below hc.g) (HP.out.below hc.g)).mono fun e w' ⟨he, hb⟩ => ⟨_, he, hb, rfl⟩)
              clear hc hl
              go_simp
            · intro listed a w1 hl hc
              have h67 : a.tmps[67]?.getD undef = .tuple #[.agg #[.int .u32 (q0 : Int), .int .u32 (q4 : Int), .slice As k2 cs, .slice Ad k3 cd], .int .i64 0] := hc.dep hl 5 67 rfl (by kernel_rfl)
              refine does_value rfl rfl (.agg #[.int .u32 (q0 : Int), .int .u32 (q4 : Int), .slice As k2 cs, .slice Ad k3 cd]) w1 ?_ (Below.refl _ _) rfl
              clear hc hl
              go_simp
            · intro listed a w1 hl hc
              have h67 : a.tmps[67]?.getD undef = .tuple #[.agg #[.int .u32 (q0 : Int), .int .u32 (q4 : Int), .slice As k2 cs, .slice Ad k3 cd], .int .i64 0] := hc.dep hl 5 67 rfl (by kernel_rfl)
              refine does_value rfl rfl (.int .i64 0) w1 ?_ (Below.refl _ _) rfl
              clear hc hl
              go_simp
          intro w2 hb2
          rintro _ rfl _ rfl _ rfl _ rfl _ rfl _ rfl _ rfl _ rfl
          simp only [Thus, List.reverse_cons, List.reverse_nil, List.nil_append, List.cons_append, List.drop, List.take, lay]
          go_frame
          have K1e := Lib.hid (HK1.out.below hb2 HK1.out.lt)
          have B6 := Lib.hid (below_then HB.out (Nat.le_refl _) hb2)
          have O6 := Lib.hid (HO.out.below hb2)
          have P6 := Lib.hid (HP.out.below hb2)
          clear hb2 HK1 HB HO HP x2 HG HK0
          have y0 := K1e.out.cell 0
          have y1 := K1e.out.cell 1
          have y2 := K1e.out.cell 2
          have y3 := K1e.out.cell 3
          have z0 := K1e.out.frozen 0
          have z1 := K1e.out.frozen 1
          have z2 := K1e.out.frozen 2
          have z3 := K1e.out.frozen 3
          go_wp2_with fail
          have H3 := ((((K1e.out.set_ 0 (.int .u32 (q0 : Int))).set_ 1 (.int .u32 (q4 : Int))).set_ 2 (.slice As k2 cs)).set_ 3 (.slice Ad k3 cd))
          exact bodyPost_ret (v := .tuple #[.agg #[.int .u32 (q0 : Int), .int .u32 (q4 : Int), .slice As k2 cs, .slice Ad k3 cd], .int .i64 0]) (by simp [results, Try.results30, go_sem, H3.cell]) rfl ⟨As, k2, cs, Ad, k3, cd, rfl, ((((O6.out.setBlk K1e.out (by decide) 0 (.int .u32 (q0 : Int))).setBlk (K1e.out.set_ 0 (.int .u32 (q0 : Int))) (by decide) 1 (.int .u32 (q4 : Int))).setBlk ((K1e.out.set_ 0 (.int .u32 (q0 : Int))).set_ 1 (.int .u32 (q4 : Int))) (by decide) 2 (.slice As k2 cs)).setBlk (((K1e.out.set_ 0 (.int .u32 (q0 : Int))).set_ 1 (.int .u32 (q4 : Int))).set_ 2 (.slice As k2 cs)) (by decide) 3 (.slice Ad k3 cd)), (length_getGO _ _ _).symm, ((((P6.out.setBlk K1e.out (by decide) 0 (.int .u32 (q0 : Int))).setBlk (K1e.out.set_ 0 (.int .u32 (q0 : Int))) (by decide) 1 (.int .u32 (q4 : Int))).setBlk ((K1e.out.set_ 0 (.int .u32 (q0 : Int))).set_ 1 (.int .u32 (q4 : Int))) (by decide) 2 (.slice As k2 cs)).setBlk (((K1e.out.set_ 0 (.int .u32 (q0 : Int))).set_ 1 (.int .u32 (q4 : Int))).set_ 2 (.slice As k2 cs)) (by decide) 3 (.slice Ad k3 cd)), (length_getNO _ _ _).symm, ((((B6.out.setCell (p := ⟨w.heap.size + 1, 0, none⟩) (show w.heap.size ≤ w.heap.size + 1 by omega) (.int .u32 (q0 : Int))).setCell (p := ⟨w.heap.size + 1, 1, none⟩) (show w.heap.size ≤ w.heap.size + 1 by omega) (.int .u32 (q4 : Int))).setCell (p := ⟨w.heap.size + 1, 2, none⟩) (show w.heap.size ≤ w.heap.size + 1 by omega) (.slice As k2 cs)).setCell (p := ⟨w.heap.size + 1, 3, none⟩) (show w.heap.size ≤ w.heap.size + 1 by omega) (.slice Ad k3 cd))⟩
theorem getSack_any (k f : UInt8) (A : Option Addr) (n c : Nat) (xs : List UInt8) (w : World) (hn : n ≤ 131072) (hc : n ≤ c) (hcm : c ≤ maxLen) (hx : xs.length = n) (hr : Rd w w.heap.size A xs) : GetsS 30 #[.agg #[.int .u8 (k.toNat : Int), .int .u8 (f.toNat : Int), .slice A n c]] k f xs w := by
  cases hv : apartG 0 (PS xs).gaps
  · exact getSack_off k f A n c xs w hn hc hcm hx hr hv
  · cases hd : decide (k = 3 ∧ f = 0 ∧ xs = bodyS (PS xs))
    · exact getSack_no k f A n c xs w hn hc hcm hx hr hv hd
    · exact getSack_yes k f A n c xs w hn hc hcm hx hr hv hd
end Go.Proofs.Ytalgkokgaibloaa
