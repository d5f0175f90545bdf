/-
  Package bodies: GetForward.
-/
import Derived.Test.YtalgkokgaibloaaBodX
import Derived.Test.YtalgkokgaibloaaGrowO
namespace Go.Proofs.Ytalgkokgaibloaa
open Go.RowKit
set_option linter.unusedVariables false

/-- What a Get of what will not come answers. -/
def GetsF (F : FuncId) (args : Array Value) (k f : UInt8) (xs : List UInt8) (w : World) : Prop :=
  Calls Try.prog F args w fun e w' => ∃ A m c, e = .returned (.tuple #[.agg #[.int .u32 ((ansF k f xs).cum : Int), .slice A m c], .int .i64 (errOf (okF k f xs))]) ∧ Og w' 104 w.heap.size (.slice A m c) (ansF k f xs).skips ∧ m = (ansF k f xs).skips.length ∧ Below w.heap.size w w'
theorem Try.infoSkip : (Try.prog.info? 104).map (fun i => (i.zero, i.size, i.bytes)) = some (some (.agg #[.int .u16 0, .int .u16 0]), 2, 4) := by kernel_rfl
theorem Try.infoGap : (Try.prog.info? 79).map (fun i => (i.zero, i.size, i.bytes)) = some (some (.agg #[.int .u16 0, .int .u16 0]), 2, 4) := by kernel_rfl
theorem Try.infoU32 : (Try.prog.info? 22).map (fun i => (i.zero, i.size, i.bytes)) = some (some (.int .u32 0), 1, 4) := by kernel_rfl
theorem wrap_small (x : Int) (h0 : 0 ≤ x) (h1 : x < 9223372036854775808) : IntKind.i64.wrap x = x := by
  simp [IntKind.wrap, IntKind.signed, IntKind.bits]
  omega
/-- A block of another type is not the own row. -/
theorem owns_ne {w : World} {base sz n g : Nat} {t t' : TypeId} {v : Value} {xs : List Value} {cs : Array Value} (h : w.ownsRow base t sz v n xs) (hb : Blk w g t' cs) (ht : t ≠ t') : some g ≠ v.ownBlock := by
  rcases h.2 with ⟨rfl, _⟩ | ⟨q, cap, cur, rfl, hq, hg, _⟩
  · simp [Value.ownBlock]
  · intro e
    simp [Value.ownBlock] at e
    subst e
    have h2 : w.heap[g]? = _ := hb
    rw [hg] at h2
    injection h2 with h2
    injection h2 with _ h2
    exact ht h2
theorem Og.keep {w w' : World} {t : TypeId} {base : Nat} {v : Value} {L : List (Nat × Nat)} (h : Og w t base v L) (hk : ∀ g, v.ownBlock = some g → w'.heap[g]? = w.heap[g]?) : Og w' t base v L := by
  refine ⟨h.1, ?_⟩
  rcases h.2 with hn | ⟨g, cap, cur, rfl, hb, hg, rest⟩
  · exact .inl hn
  · exact .inr ⟨g, cap, cur, rfl, hb, (hk g rfl).trans hg, rest⟩
theorem Og.below {w w' : World} {t : TypeId} {base : Nat} {v : Value} {L : List (Nat × Nat)} (h : Og w t base v L) (hb : Below w.heap.size w w') : Og w' t base v L := h.keep fun g hg => hb.block g (World.ownsRow.lt h g hg).2
theorem Ow.below {w w' : World} {t : TypeId} {base : Nat} {v : Value} {L : List Int} (h : Ow w t base v L) (hb : Below w.heap.size w w') : Ow w' t base v L := h.keep fun g hg => hb.block g (World.ownsRow.lt h g hg).2
theorem Og.setBlk {w : World} {t t' : TypeId} {base g : Nat} {v : Value} {L : List (Nat × Nat)} {cs : Array Value} (h : Og w t base v L) (hb : Blk w g t' cs) (ht : t ≠ t') (i : Nat) (u : Value) : Og (w.setCell ⟨g, i, none⟩ u) t base v L :=
  h.keep fun q hq => Below.heap_setCell w ⟨g, i, none⟩ u q (fun e => owns_ne h hb ht (by rw [hq]; exact congrArg some (Eq.symm e)))
theorem Ow.setBlk {w : World} {t t' : TypeId} {base g : Nat} {v : Value} {L : List Int} {cs : Array Value} (h : Ow w t base v L) (hb : Blk w g t' cs) (ht : t ≠ t') (i : Nat) (u : Value) : Ow (w.setCell ⟨g, i, none⟩ u) t base v L :=
  h.keep fun q hq => Below.heap_setCell w ⟨g, i, none⟩ u q (fun e => owns_ne h hb ht (by rw [hq]; exact congrArg some (Eq.symm e)))
theorem Og.more {w : World} {t : TypeId} {base base' : Nat} {v : Value} {L : List (Nat × Nat)} (h : Og w t base v L) (hb : base' ≤ base) : Og w t base' v L := by
  refine ⟨h.1, ?_⟩
  rcases h.2 with hn | ⟨g, cap, cur, rfl, hq, hg, rest⟩
  · exact .inl hn
  · exact .inr ⟨g, cap, cur, rfl, by omega, hg, rest⟩
theorem Ow.more {w : World} {t : TypeId} {base base' : Nat} {v : Value} {L : List Int} (h : Ow w t base v L) (hb : base' ≤ base) : Ow w t base' v L := by
  refine ⟨h.1, ?_⟩
  rcases h.2 with hn | ⟨g, cap, cur, rfl, hq, hg, rest⟩
  · exact .inl hn
  · exact .inr ⟨g, cap, cur, rfl, by omega, hg, rest⟩
theorem Og.rg {w : World} {t : TypeId} {base : Nat} {A : Option Addr} {m c : Nat} {L : List (Nat × Nat)} (h : Og w t base (.slice A m c) L) : Rg w 0 w.heap.size A L := by
  obtain ⟨A', c', he, _, _, hr⟩ := h.form
  injection he with e1 _ _
  subst e1
  exact hr.more (Nat.zero_le _) (Nat.le_refl _)
theorem Ow.ri {w : World} {t : TypeId} {base : Nat} {A : Option Addr} {m c : Nat} {L : List Int} (h : Ow w t base (.slice A m c) L) : Ri .u32 w w.heap.size A L := by
  by_cases hn : L = []
  · exact .inl hn
  · obtain ⟨g, hA, _, hl, _⟩ := h.cell 0 (List.length_pos_iff.2 hn)
    refine .inr ⟨g, 0, hA, hl, fun j x hx => ?_⟩
    have hj : j < L.length := (List.getElem?_eq_some_iff.1 hx).1
    obtain ⟨g', hA', _, _, hc⟩ := h.cell j hj
    rw [hA] at hA'
    injection hA' with e
    injection e with e
    subst e
    rw [Nat.zero_add, hc]
    rw [List.getElem?_eq_getElem hj] at hx
    rw [Option.some.inj hx]
theorem own_lt {w : World} {base sz n : Nat} {t : TypeId} {v : Value} {xs : List Value} (h : w.ownsRow base t sz v n xs) : ∀ b, v.ownBlock = some b → b < w.heap.size := fun b hb => (h.lt b hb).2
theorem own_ge {w : World} {base sz n : Nat} {t : TypeId} {v : Value} {xs : List Value} (h : w.ownsRow base t sz v n xs) : ∀ b, v.ownBlock = some b → base ≤ b := fun b hb => (h.lt b hb).1

set_option maxRecDepth 100000 in
set_option maxHeartbeats 4000000 in
theorem getForward_no (k f : UInt8) (A : Option Addr) (n c : Nat) (xs : List UInt8) (w : World) (hn : n ≤ 1099511627776) (hc : n ≤ c) (hcm : c ≤ maxLen) (hx : xs.length = n) (hr : Rd w w.heap.size A xs) (hok : okF k f xs = false) :
    GetsF 35 #[.agg #[.int .u8 (k.toNat : Int), .int .u8 (f.toNat : Int), .slice A n c]] k f xs w := by
  have hz := zero_fwd
  have hcm' := hcm
  unfold maxLen at hcm'
  obtain ⟨ti, hti, htz, ht1, ht2⟩ := info_parts Try.infoSkip
  have hcb : numO xs 0 4 < 4294967296 := numO_lt xs 0 4
  have HW0 : Hid (∀ W, Below w.heap.size w W → Calls Try.prog 52 #[.slice A n c, .int .i64 0] W fun e w' => e = .returned (.int .u32 (numO xs 0 4)) ∧ W = w') := Lib.hid fun W hW => word_any A n c 0 xs W (by omega) (by omega) hx ((hr.below hW).more hW.size)
  have HWH : Hid (∀ (W : World) (a : Nat), a ≤ 140737488355330 → Below w.heap.size w W → Calls Try.prog 53 #[.slice A n c, .int .i64 (a : Int)] W fun e w' => e = .returned (.int .u16 (numO xs a 2)) ∧ Below W.heap.size W w') := Lib.hid fun W a ha hW => (half_any A n c a xs W (by omega) ha hx ((hr.below hW).more hW.size)).mono fun e w' ⟨he, hw⟩ => ⟨he, hw ▸ Below.refl _ _⟩
  have hpf : PF xs = ⟨numO xs 0 4, getGO xs 4 (cntE 4 n)⟩ := by rw [← hx]; rfl
  have hd := okF_code (k := k) (f := f) (b := xs)
  rw [hok, hpf] at hd
  have hra : ansF k f xs = noFw := by unfold ansF; rw [hok]; rfl
  unfold GetsF
  rw [hok, hra]
  have hcnt : cntE 4 n ≤ 1099511627776 := by unfold cntE; omega
  have HCK : Hid (∀ W (As : Option Addr) (cs : Nat), cntE 4 n ≤ 1099511627776 → Below w.heap.size w W → Og W 104 w.heap.size (.slice As (cntE 4 n) cs) (getGO xs 4 (cntE 4 n)) → Calls Try.prog 70 #[.agg #[.int .u8 (k.toNat : Int), .int .u8 (f.toNat : Int), .slice A n c], .agg #[.int .u32 (numO xs 0 4 : Int), .slice As (cntE 4 n : Nat) cs], .bool true, .func (.func 34) #[] #[]] W fun e w' => e = .returned (.tuple #[.agg #[.int .u32 0, .slice none 0 0], .int .i64 7]) ∧ Below W.heap.size W w') := Lib.hid fun W As cs hN hW ho => checkedF_no k f A n c (numO xs 0 4) As (cntE 4 n) cs xs _ 192 0 W hx ((hr.below hW).more hW.size) hd (fun W2 h2 => putForward_any (numO xs 0 4) _ hcb (getGO_bd xs _ _) As (cntE 4 n) cs W2 hN (length_getGO xs _ _) ((ho.below h2).rg))
  obtain ⟨q, hq⟩ : ∃ q, q = numO xs 0 4 := ⟨_, rfl⟩
  rw [← hq] at HW0 HCK hcb
  obtain ⟨NN, hNN⟩ : ∃ NN, NN = cntE 4 n := ⟨_, rfl⟩
  rw [← hNN] at HCK hcnt
  have hN2 : NN = (n - 4 + 3) / 4 := by rw [hNN]; rfl
  have HNN := Lib.hid hN2
  clear hq hx hr hra hd hpf hok hNN hN2
  have b0 : Blk (w.alloc (.cells #[.int .u8 (k.toNat : Int), .int .u8 (f.toNat : Int), .slice A n c] 28)) w.heap.size 28 #[.int .u8 (k.toNat : Int), .int .u8 (f.toNat : Int), .slice A n c] := Blk.new w 28 #[.int .u8 (k.toNat : Int), .int .u8 (f.toNat : Int), .slice A n c]
  have b1 : Blk ((w.alloc (.cells #[.int .u8 (k.toNat : Int), .int .u8 (f.toNat : Int), .slice A n c] 28)).alloc (.cells #[.int .u32 0, .slice none 0 0] 56)) (w.heap.size + 1) 56 #[.int .u32 0, .slice none 0 0] := by simpa using Blk.new (w.alloc (.cells #[.int .u8 (k.toNat : Int), .int .u8 (f.toNat : Int), .slice A n c] 28)) 56 #[.int .u32 0, .slice none 0 0]
  have K0 := Lib.hid (b0.alloc (.cells #[.int .u32 0, .slice none 0 0] 56))
  have K1 := Lib.hid b1
  have B0 : Hid (Below w.heap.size w ((w.alloc (.cells #[.int .u8 (k.toNat : Int), .int .u8 (f.toNat : Int), .slice A n c] 28)).alloc (.cells #[.int .u32 0, .slice none 0 0] 56))) := Lib.hid (Wr.below_ (((Wr.refl 5 w.heap.size w).alloc (.cells #[.int .u8 (k.toNat : Int), .int .u8 (f.toNat : Int), .slice A n c] 28)).alloc (.cells #[.int .u32 0, .slice none 0 0] 56)) (Nat.le_refl _))
  clear b0 b1
  go_enter Try.func35, Try.ntmps35
  rw [drawn_eq 5]
  go_wp2_with fail
  generalize hv0 : ((w.alloc (.cells #[.int .u8 (k.toNat : Int), .int .u8 (f.toNat : Int), .slice A n c] 28)).alloc (.cells #[.int .u32 0, .slice none 0 0] 56)) = v0 at K0 K1 B0 ⊢
  have hsz0 : v0.heap.size = w.heap.size + 1 + 1 := by rw [← hv0]; simp
  clear hv0
  refine (HW0.out v0 B0.out).mono ?_
  rintro e w1 ⟨rfl, rfl⟩
  have G1 := Lib.hid (Blk.new v0 56 #[.int .u32 (q : Int), .slice none 0 0])
  have K0b := Lib.hid (K0.out.alloc (.cells #[.int .u32 (q : Int), .slice none 0 0] 56))
  have K1b := Lib.hid (K1.out.alloc (.cells #[.int .u32 (q : Int), .slice none 0 0] 56))
  have B1 := Lib.hid (B0.out.alloc B0.out.size (.cells #[.int .u32 (q : Int), .slice none 0 0] 56))
  rw [hsz0] at G1
  obtain ⟨g4, hg4⟩ : ∃ g4, g4 = w.heap.size + 1 + 1 := ⟨_, rfl⟩
  have hge : w.heap.size + 1 + 1 ≤ g4 := by omega
  rw [← hg4] at G1
  have HG4 := Lib.hid hg4
  clear hg4 K0 K1 B0
  go_wp2_with fail
  rw [← HG4.out]
  generalize v0.alloc (.cells #[.int .u32 (q : Int), .slice none 0 0] 56) = v1 at G1 K0b K1b B1 ⊢
  clear HG4 hsz0
  go_loopw [5] (fun i wr => ∃ (k2 e cs : Nat) (As : Option Addr), k2 ≤ NN ∧ e ≤ n + 4 ∧ i = .int .i64 (e : Int) ∧ Hid (e = 4 + 4 * k2) ∧ Blk wr g4 56 #[.int .u32 (q : Int), .slice As k2 cs] ∧ Og wr 104 w.heap.size (.slice As k2 cs) (getGO xs 4 k2) ∧ Blk wr w.heap.size 28 #[.int .u8 (k.toNat : Int), .int .u8 (f.toNat : Int), .slice A n c] ∧ Blk wr (w.heap.size + 1) 56 #[.int .u32 0, .slice none 0 0] ∧ Below w.heap.size w wr) (fun i _ => n + 8 - (intOf i).toNat)
  case atStart => exact ⟨0, 4, 0, none, by omega, by omega, rfl, Lib.hid rfl, G1.out, World.ownsRow_nil _ _ _ _, K0b.out, K1b.out, B1.out⟩
  case round =>
    clear G1 K0b K1b B1
    obtain ⟨k2, e, cs, As, hk2, he, rfl, HE, hG, hO, hK0, hK1, hB⟩ := hrel
    have HG := Lib.hid hG
    have HO := Lib.hid hO
    have HK0 := Lib.hid hK0
    have HK1 := Lib.hid hK1
    have HB := Lib.hid hB
    clear hO hK1 hB
    have x2 := hK0.cell 2
    have x2 : wr.cell? ⟨w.heap.size, 2, none⟩ = some (.slice A n c) := x2
    by_cases hlt : e < n
    · have hkn : k2 < NN := by have := HNN.out; have := HE.out; omega
      have hne0 : some w.heap.size ≠ (Value.slice As k2 cs).ownBlock := owns_ne HO.out HK0.out (by decide)
      have hne4 : some g4 ≠ (Value.slice As k2 cs).ownBlock := owns_ne HO.out HG.out (by decide)
      have hne1 : some (w.heap.size + 1) ≠ (Value.slice As k2 cs).ownBlock := owns_ne HO.out HK1.out (by decide)
      have hob : ∀ b, (Value.slice As k2 cs).ownBlock = some b → b < wr.heap.size := own_lt HO.out
      have hobg : ∀ b, (Value.slice As k2 cs).ownBlock = some b → w.heap.size ≤ b := own_ge HO.out
      have hwr : w.heap.size ≤ wr.heap.size := HB.out.size
      obtain ⟨pa, hpa⟩ : ∃ pa, pa = numO xs e 2 := ⟨_, rfl⟩
      obtain ⟨pb, hpb⟩ : ∃ pb, pb = numO xs (e + 2) 2 := ⟨_, rfl⟩
      have HH1 : Hid (∀ W, Below w.heap.size w W → Calls Try.prog 53 #[.slice A n c, .int .i64 (e : Int)] W fun e w' => e = .returned (.int .u16 (pa : Int)) ∧ Below W.heap.size W w') := Lib.hid fun W hW => by rw [hpa]; exact HWH.out W e (by omega) hW
      have HH2 : Hid (∀ W, Below w.heap.size w W → Calls Try.prog 53 #[.slice A n c, .int .i64 ((e : Int) + 2)] W fun e w' => e = .returned (.int .u16 (pb : Int)) ∧ Below W.heap.size W w') := Lib.hid fun W hW => by
          have := HWH.out W (e + 2) (by omega) hW
          rw [← hpb] at this
          exact this
      have HSN : Hid (getGO xs 4 (k2 + 1) = getGO xs 4 k2 ++ [(pa, pb)]) := Lib.hid (by rw [getGO_snoc, hpa, hpb, HE.out])
      clear hpa hpb
      go_wp2_with fail
      rw [← drawn_eq 5]
      refine wp_region_own_tail 15 13 ((Value.slice As k2 cs).ownBlock) (by kernel_rfl) [(Is (.pointer (some ⟨g4, 1, none⟩))), (Is (.slice As k2 cs)), (Is (.pointer (some ⟨w.heap.size, 2, none⟩))), (Is (.slice A n c)), (Is (.int .i64 (e : Int))), (Is (.int .u16 (pa : Int))), (Is (.pointer (some ⟨w.heap.size, 2, none⟩))), (Is (.slice A n c)), (Is (.int .i64 (e : Int))), (Is (.int .i64 ((e : Int) + 2))), (Is (.int .u16 (pb : Int))), (Is (.agg #[.int .u16 (pa : Int), .int .u16 (pb : Int)])), (NewSl wr.heap.size 104 1 #[.int .u16 (pa : Int), .int .u16 (pb : Int)])] (NewOg 104 w.heap.size (k2 + 1) (getGO xs 4 k2 ++ [(pa, pb)])) [(Is (.pointer (some ⟨g4, 1, none⟩)))] rfl rfl (Lasts.newOg _ _ _ _) ?_ (by kernel_rfl) (by kernel_rfl) ?_ ?_
      · intro q hq
        simp only [List.cons_append, List.nil_append, List.mem_cons, List.not_mem_nil, or_false] at hq
        rcases hq with rfl | rfl | rfl | rfl | rfl | rfl | rfl | rfl | rfl | rfl | rfl | rfl | rfl | rfl
        · exact ⟨Lasts.is _, LastsO.is _ _⟩
        · exact ⟨Lasts.is _, LastsO.is _ _⟩
        · exact ⟨Lasts.is _, LastsO.is _ _⟩
        · exact ⟨Lasts.is _, LastsO.is _ _⟩
        · exact ⟨Lasts.is _, LastsO.is _ _⟩
        · exact ⟨Lasts.is _, LastsO.is _ _⟩
        · exact ⟨Lasts.is _, LastsO.is _ _⟩
        · exact ⟨Lasts.is _, LastsO.is _ _⟩
        · exact ⟨Lasts.is _, LastsO.is _ _⟩
        · exact ⟨Lasts.is _, LastsO.is _ _⟩
        · exact ⟨Lasts.is _, LastsO.is _ _⟩
        · exact ⟨Lasts.is _, LastsO.is _ _⟩
        · exact ⟨Lasts.newSl _ _ _ _, LastsO.newSl _ _ _ _ _ hob⟩
        · exact ⟨Lasts.is _, LastsO.is _ _⟩
      · refine ⟨?_, ?_, ?_, ?_, ?_, ?_, ?_, ?_, ?_, ?_, ?_, ?_, ?_, ?_, ?_, trivial⟩
        · intro listed a w1 hl hc hpre
          have h4 : a.tmps[4]?.getD undef = .pointer (some ⟨g4, 0, none⟩) := (hc.was 4 (by kernel_rfl)).trans rfl
          refine does_value rfl rfl (.pointer (some ⟨g4, 1, none⟩)) w1 ?_ (stepB (by decide) (Below.refl _ _)) rfl
          clear hc hl
          go_simp
        · intro listed a w1 hl hc hpre
          have h17 : a.tmps[17]?.getD undef = .pointer (some ⟨g4, 1, none⟩) := hc.dep hl 0 17 rfl (by kernel_rfl)
          have kb := HG.out.grown hc.g hne4
          have x1 : w1.cell? ⟨g4, 1, none⟩ = some (.slice As k2 cs) := kb.cell 1
          clear kb
          refine does_value rfl rfl (.slice As k2 cs) w1 ?_ (stepB (by decide) (Below.refl _ _)) rfl
          clear hc hl
          go_simp
        · intro listed a w1 hl hc hpre
          have h1 : a.tmps[1]?.getD undef = .pointer (some ⟨w.heap.size, 0, none⟩) := (hc.was 1 (by kernel_rfl)).trans rfl
          refine does_value rfl rfl (.pointer (some ⟨w.heap.size, 2, none⟩)) w1 ?_ (stepB (by decide) (Below.refl _ _)) rfl
          clear hc hl
          go_simp
        · intro listed a w1 hl hc hpre
          have h19 : a.tmps[19]?.getD undef = .pointer (some ⟨w.heap.size, 2, none⟩) := hc.dep hl 2 19 rfl (by kernel_rfl)
          have kb := HK0.out.grown hc.g hne0
          have x2 : w1.cell? ⟨w.heap.size, 2, none⟩ = some (.slice A n c) := kb.cell 2
          clear kb
          refine does_value rfl rfl (.slice A n c) w1 ?_ (stepB (by decide) (Below.refl _ _)) rfl
          clear hc hl
          go_simp
        · intro listed a w1 hl hc hpre
          have h5 : a.tmps[5]?.getD undef = .int .i64 (e : Int) := (hc.was 5 (by kernel_rfl)).trans rfl
          refine does_value rfl rfl (.int .i64 (e : Int)) w1 ?_ (stepB (by decide) (Below.refl _ _)) rfl
          clear hc hl
          go_simp
        · intro listed a w1 hl hc hpre
          have h20 : a.tmps[20]?.getD undef = .slice A n c := hc.dep hl 3 20 rfl (by kernel_rfl)
          have h21 : a.tmps[21]?.getD undef = .int .i64 (e : Int) := hc.dep hl 4 21 rfl (by kernel_rfl)
          refine does_call rfl rfl 53 #[.slice A n c, .int .i64 (e : Int)] ?_ ((HH1.out w1 (HB.out.grown hc.g hwr hobg)).mono fun e w' ⟨he, hb⟩ => ⟨_, he, (stepB (by decide) hb), rfl⟩)
          clear hc hl
          go_simp
        · intro listed a w1 hl hc hpre
          have h1 : a.tmps[1]?.getD undef = .pointer (some ⟨w.heap.size, 0, none⟩) := (hc.was 1 (by kernel_rfl)).trans rfl
          refine does_value rfl rfl (.pointer (some ⟨w.heap.size, 2, none⟩)) w1 ?_ (stepB (by decide) (Below.refl _ _)) rfl
          clear hc hl
          go_simp
        · intro listed a w1 hl hc hpre
          have h23 : a.tmps[23]?.getD undef = .pointer (some ⟨w.heap.size, 2, none⟩) := hc.dep hl 6 23 rfl (by kernel_rfl)
          have kb := HK0.out.grown hc.g hne0
          have x2 : w1.cell? ⟨w.heap.size, 2, none⟩ = some (.slice A n c) := kb.cell 2
          clear kb
          refine does_value rfl rfl (.slice A n c) w1 ?_ (stepB (by decide) (Below.refl _ _)) rfl
          clear hc hl
          go_simp
        · intro listed a w1 hl hc hpre
          have h5 : a.tmps[5]?.getD undef = .int .i64 (e : Int) := (hc.was 5 (by kernel_rfl)).trans rfl
          refine does_value rfl rfl (.int .i64 (e : Int)) w1 ?_ (stepB (by decide) (Below.refl _ _)) rfl
          clear hc hl
          go_simp
        · intro listed a w1 hl hc hpre
          have h25 : a.tmps[25]?.getD undef = .int .i64 (e : Int) := hc.dep hl 8 25 rfl (by kernel_rfl)
          refine does_value rfl rfl (.int .i64 ((e : Int) + 2)) w1 ?_ (stepB (by decide) (Below.refl _ _)) rfl
          clear hc hl
          go_simp
          exact wrap_small _ (by omega) (by omega)
        · intro listed a w1 hl hc hpre
          have h24 : a.tmps[24]?.getD undef = .slice A n c := hc.dep hl 7 24 rfl (by kernel_rfl)
          have h26 : a.tmps[26]?.getD undef = .int .i64 ((e : Int) + 2) := hc.dep hl 9 26 rfl (by kernel_rfl)
          refine does_call rfl rfl 53 #[.slice A n c, .int .i64 ((e : Int) + 2)] ?_ ((HH2.out w1 (HB.out.grown hc.g hwr hobg)).mono fun e w' ⟨he, hb⟩ => ⟨_, he, (stepB (by decide) hb), rfl⟩)
          clear hc hl
          go_simp
        · intro listed a w1 hl hc hpre
          have h22 : a.tmps[22]?.getD undef = .int .u16 (pa : Int) := hc.dep hl 5 22 rfl (by kernel_rfl)
          have h27 : a.tmps[27]?.getD undef = .int .u16 (pb : Int) := hc.dep hl 10 27 rfl (by kernel_rfl)
          refine does_value rfl rfl (.agg #[.int .u16 (pa : Int), .int .u16 (pb : Int)]) w1 ?_ (stepB (by decide) (Below.refl _ _)) rfl
          clear hc hl
          go_simp
        · intro listed a w1 hl hc hpre
          have h28 : a.tmps[28]?.getD undef = .agg #[.int .u16 (pa : Int), .int .u16 (pb : Int)] := hc.dep hl 11 28 rfl (by kernel_rfl)
          refine does_value rfl rfl (.slice (some ⟨w1.heap.size, 0, none⟩) 1 1) (w1.alloc (.cells #[.int .u16 (pa : Int), .int .u16 (pb : Int)] 104)) ?_ (stepB (by decide) (below_new w1 _)) ⟨_, rfl, hc.g.size, Blk.new _ _ _⟩
          clear hc hl
          go_simp
        · intro listed a w1 hl hc hpre
          have h18 : a.tmps[18]?.getD undef = .slice As k2 cs := hc.dep hl 1 18 rfl (by kernel_rfl)
          obtain ⟨g29, h29, hg29, hb29⟩ := hc.dep hl 12 29 rfl (by kernel_rfl)
          obtain ⟨A9, c9, w9, hrun, hog, hgr⟩ := run_appendG Try.underlying54 hti htz ht1 ht2 w1 54 w.heap.size As k2 cs g29 (getGO xs 4 k2) (pa, pb) (HO.out.below (hpre rfl)) (length_getGO _ _ _) hb29 (by omega) (Nat.le_trans hwr hc.g.size)
          refine does_value rfl rfl (.slice A9 (k2 + 1 : Nat) c9) w9 (exec_append rfl h18 h29 hrun) (stepO hgr) ⟨A9, c9, rfl, hog⟩
        · intro listed a w1 hl hc hpre
          have h4 : a.tmps[4]?.getD undef = .pointer (some ⟨g4, 0, none⟩) := (hc.was 4 (by kernel_rfl)).trans rfl
          refine does_value rfl rfl (.pointer (some ⟨g4, 1, none⟩)) w1 ?_ (stepB (by decide) (Below.refl _ _)) rfl
          clear hc hl
          go_simp
      intro w2 hb2
      rintro _ rfl _ rfl _ rfl _ rfl _ rfl _ rfl _ rfl _ rfl _ rfl _ rfl _ rfl _ rfl _ ⟨g29, rfl, hg29, hb29⟩ _ ⟨A30, c30, rfl, ho30⟩ _ rfl
      simp only [Thus, List.reverse_cons, List.reverse_nil, List.nil_append, List.cons_append, List.drop, List.take, lay]
      go_frame
      have HG2 := Lib.hid (HG.out.grown hb2 hne4)
      have HK02 := Lib.hid (HK0.out.grown hb2 hne0)
      have HK12 := Lib.hid (HK1.out.grown hb2 hne1)
      have HB2 := Lib.hid (HB.out.grown hb2 hwr hobg)
      have HO2 := Lib.hid ho30
      have y0 := HG2.out.cell 0
      have y1 := HG2.out.cell 1
      have z0 := HG2.out.frozen 0
      have z1 := HG2.out.frozen 1
      clear hb2 hb29 hg29 ho30 hK0 x2 hG
      go_wp2_with fail
      go_roundw
      case rel => exact ⟨k2 + 1, e + 4, c30, A30, by omega, by omega, by go_num, Lib.hid (by have := HE.out; omega), HG2.out.set_ 1 _, by rw [HSN.out]; exact HO2.out.setBlk HG2.out (by decide) 1 _, HK02.out.far (p := ⟨g4, 1, none⟩) (show w.heap.size ≠ g4 by omega) _, HK12.out.far (p := ⟨g4, 1, none⟩) (show w.heap.size + 1 ≠ g4 by omega) _, HB2.out.setCell (p := ⟨g4, 1, none⟩) (show w.heap.size ≤ g4 by omega) _⟩
      case measure => simp [intOf]; omega
    · have hkn : k2 = NN := by have := HNN.out; have := HE.out; omega
      subst hkn
      have x0 := hK0.cell 0
      have x1 := hK0.cell 1
      have y0 := hG.cell 0
      have y1 := hG.cell 1
      go_wp2_with fail
      refine (HCK.out wr As cs (by omega) HB.out HO.out).mono ?_
      rintro e9 w6 ⟨rfl, hb⟩
      have K1e := Lib.hid (HK1.out.below hb HK1.out.lt)
      have B6 := Lib.hid (below_then HB.out (Nat.le_refl _) hb)
      have O6 := Lib.hid (HO.out.below hb)
      clear hb HK1 HB HO x0 x1 x2 y0 y1 hG hK0
      have y0 := K1e.out.cell 0
      have y1 := K1e.out.cell 1
      have z0 := K1e.out.frozen 0
      have z1 := K1e.out.frozen 1
      go_wp2_with fail
      have H3 := ((K1e.out.set_ 0 (.int .u32 0)).set_ 1 (.slice none 0 0))
      exact bodyPost_ret (v := .tuple #[.agg #[.int .u32 0, .slice none 0 0], .int .i64 7]) (by simp [results, Try.results35, go_sem, H3.cell]) rfl ⟨none, 0, 0, rfl, World.ownsRow_nil _ _ _ _, rfl, ((B6.out.setCell (p := ⟨w.heap.size + 1, 0, none⟩) (show w.heap.size ≤ w.heap.size + 1 by omega) (.int .u32 0)).setCell (p := ⟨w.heap.size + 1, 1, none⟩) (show w.heap.size ≤ w.heap.size + 1 by omega) (.slice none 0 0))⟩
set_option maxRecDepth 100000 in
set_option maxHeartbeats 4000000 in
theorem getForward_yes (k f : UInt8) (A : Option Addr) (n c : Nat) (xs : List UInt8) (w : World) (hn : n ≤ 1099511627776) (hc : n ≤ c) (hcm : c ≤ maxLen) (hx : xs.length = n) (hr : Rd w w.heap.size A xs) (hok : okF k f xs = true) :
    GetsF 35 #[.agg #[.int .u8 (k.toNat : Int), .int .u8 (f.toNat : Int), .slice A n c]] k f xs w := by
  have hz := zero_fwd
  have hcm' := hcm
  unfold maxLen at hcm'
  obtain ⟨ti, hti, htz, ht1, ht2⟩ := info_parts Try.infoSkip
  have hcb : numO xs 0 4 < 4294967296 := numO_lt xs 0 4
  have HW0 : Hid (∀ W, Below w.heap.size w W → Calls Try.prog 52 #[.slice A n c, .int .i64 0] W fun e w' => e = .returned (.int .u32 (numO xs 0 4)) ∧ W = w') := Lib.hid fun W hW => word_any A n c 0 xs W (by omega) (by omega) hx ((hr.below hW).more hW.size)
  have HWH : Hid (∀ (W : World) (a : Nat), a ≤ 140737488355330 → Below w.heap.size w W → Calls Try.prog 53 #[.slice A n c, .int .i64 (a : Int)] W fun e w' => e = .returned (.int .u16 (numO xs a 2)) ∧ Below W.heap.size W w') := Lib.hid fun W a ha hW => (half_any A n c a xs W (by omega) ha hx ((hr.below hW).more hW.size)).mono fun e w' ⟨he, hw⟩ => ⟨he, hw ▸ Below.refl _ _⟩
  have hpf : PF xs = ⟨numO xs 0 4, getGO xs 4 (cntE 4 n)⟩ := by rw [← hx]; rfl
  have hd := okF_code (k := k) (f := f) (b := xs)
  rw [hok, hpf] at hd
  have hra : ansF k f xs = ⟨numO xs 0 4, getGO xs 4 (cntE 4 n)⟩ := by unfold ansF; rw [hok]; rw [if_pos rfl, ← ansF_code hok, hpf]
  unfold GetsF
  rw [hok, hra]
  have hcnt : cntE 4 n ≤ 1099511627776 := by unfold cntE; omega
  have HCK : Hid (∀ W (As : Option Addr) (cs : Nat), cntE 4 n ≤ 1099511627776 → Below w.heap.size w W → Og W 104 w.heap.size (.slice As (cntE 4 n) cs) (getGO xs 4 (cntE 4 n)) → Calls Try.prog 70 #[.agg #[.int .u8 (k.toNat : Int), .int .u8 (f.toNat : Int), .slice A n c], .agg #[.int .u32 (numO xs 0 4 : Int), .slice As (cntE 4 n : Nat) cs], .bool true, .func (.func 34) #[] #[]] W fun e w' => e = .returned (.tuple #[.agg #[.int .u32 (numO xs 0 4 : Int), .slice As (cntE 4 n : Nat) cs], .int .i64 0]) ∧ Below W.heap.size W w') := Lib.hid fun W As cs hN hW ho => checkedF_yes k f A n c (numO xs 0 4) As (cntE 4 n) cs xs _ 192 0 W hx ((hr.below hW).more hW.size) hd (fun W2 h2 => putForward_any (numO xs 0 4) _ hcb (getGO_bd xs _ _) As (cntE 4 n) cs W2 hN (length_getGO xs _ _) ((ho.below h2).rg))
  obtain ⟨q, hq⟩ : ∃ q, q = numO xs 0 4 := ⟨_, rfl⟩
  rw [← hq] at HW0 HCK hcb ⊢
  obtain ⟨NN, hNN⟩ : ∃ NN, NN = cntE 4 n := ⟨_, rfl⟩
  rw [← hNN] at HCK ⊢ hcnt
  have hN2 : NN = (n - 4 + 3) / 4 := by rw [hNN]; rfl
  have HNN := Lib.hid hN2
  clear hq hx hr hra hd hpf hok hNN hN2
  have b0 : Blk (w.alloc (.cells #[.int .u8 (k.toNat : Int), .int .u8 (f.toNat : Int), .slice A n c] 28)) w.heap.size 28 #[.int .u8 (k.toNat : Int), .int .u8 (f.toNat : Int), .slice A n c] := Blk.new w 28 #[.int .u8 (k.toNat : Int), .int .u8 (f.toNat : Int), .slice A n c]
  have b1 : Blk ((w.alloc (.cells #[.int .u8 (k.toNat : Int), .int .u8 (f.toNat : Int), .slice A n c] 28)).alloc (.cells #[.int .u32 0, .slice none 0 0] 56)) (w.heap.size + 1) 56 #[.int .u32 0, .slice none 0 0] := by simpa using Blk.new (w.alloc (.cells #[.int .u8 (k.toNat : Int), .int .u8 (f.toNat : Int), .slice A n c] 28)) 56 #[.int .u32 0, .slice none 0 0]
  have K0 := Lib.hid (b0.alloc (.cells #[.int .u32 0, .slice none 0 0] 56))
  have K1 := Lib.hid b1
  have B0 : Hid (Below w.heap.size w ((w.alloc (.cells #[.int .u8 (k.toNat : Int), .int .u8 (f.toNat : Int), .slice A n c] 28)).alloc (.cells #[.int .u32 0, .slice none 0 0] 56))) := Lib.hid (Wr.below_ (((Wr.refl 5 w.heap.size w).alloc (.cells #[.int .u8 (k.toNat : Int), .int .u8 (f.toNat : Int), .slice A n c] 28)).alloc (.cells #[.int .u32 0, .slice none 0 0] 56)) (Nat.le_refl _))
  clear b0 b1
  go_enter Try.func35, Try.ntmps35
  rw [drawn_eq 5]
  go_wp2_with fail
  generalize hv0 : ((w.alloc (.cells #[.int .u8 (k.toNat : Int), .int .u8 (f.toNat : Int), .slice A n c] 28)).alloc (.cells #[.int .u32 0, .slice none 0 0] 56)) = v0 at K0 K1 B0 ⊢
  have hsz0 : v0.heap.size = w.heap.size + 1 + 1 := by rw [← hv0]; simp
  clear hv0
  refine (HW0.out v0 B0.out).mono ?_
  rintro e w1 ⟨rfl, rfl⟩
  have G1 := Lib.hid (Blk.new v0 56 #[.int .u32 (q : Int), .slice none 0 0])
  have K0b := Lib.hid (K0.out.alloc (.cells #[.int .u32 (q : Int), .slice none 0 0] 56))
  have K1b := Lib.hid (K1.out.alloc (.cells #[.int .u32 (q : Int), .slice none 0 0] 56))
  have B1 := Lib.hid (B0.out.alloc B0.out.size (.cells #[.int .u32 (q : Int), .slice none 0 0] 56))
  rw [hsz0] at G1
  obtain ⟨g4, hg4⟩ : ∃ g4, g4 = w.heap.size + 1 + 1 := ⟨_, rfl⟩
  have hge : w.heap.size + 1 + 1 ≤ g4 := by omega
  rw [← hg4] at G1
  have HG4 := Lib.hid hg4
  clear hg4 K0 K1 B0
  go_wp2_with fail
  rw [← HG4.out]
  generalize v0.alloc (.cells #[.int .u32 (q : Int), .slice none 0 0] 56) = v1 at G1 K0b K1b B1 ⊢
  clear HG4 hsz0
  go_loopw [5] (fun i wr => ∃ (k2 e cs : Nat) (As : Option Addr), k2 ≤ NN ∧ e ≤ n + 4 ∧ i = .int .i64 (e : Int) ∧ Hid (e = 4 + 4 * k2) ∧ Blk wr g4 56 #[.int .u32 (q : Int), .slice As k2 cs] ∧ Og wr 104 w.heap.size (.slice As k2 cs) (getGO xs 4 k2) ∧ Blk wr w.heap.size 28 #[.int .u8 (k.toNat : Int), .int .u8 (f.toNat : Int), .slice A n c] ∧ Blk wr (w.heap.size + 1) 56 #[.int .u32 0, .slice none 0 0] ∧ Below w.heap.size w wr) (fun i _ => n + 8 - (intOf i).toNat)
  case atStart => exact ⟨0, 4, 0, none, by omega, by omega, rfl, Lib.hid rfl, G1.out, World.ownsRow_nil _ _ _ _, K0b.out, K1b.out, B1.out⟩
  case round =>
    clear G1 K0b K1b B1
    obtain ⟨k2, e, cs, As, hk2, he, rfl, HE, hG, hO, hK0, hK1, hB⟩ := hrel
    have HG := Lib.hid hG
    have HO := Lib.hid hO
    have HK0 := Lib.hid hK0
    have HK1 := Lib.hid hK1
    have HB := Lib.hid hB
    clear hO hK1 hB
    have x2 := hK0.cell 2
    have x2 : wr.cell? ⟨w.heap.size, 2, none⟩ = some (.slice A n c) := x2
    by_cases hlt : e < n
    · have hkn : k2 < NN := by have := HNN.out; have := HE.out; omega
      have hne0 : some w.heap.size ≠ (Value.slice As k2 cs).ownBlock := owns_ne HO.out HK0.out (by decide)
      have hne4 : some g4 ≠ (Value.slice As k2 cs).ownBlock := owns_ne HO.out HG.out (by decide)
      have hne1 : some (w.heap.size + 1) ≠ (Value.slice As k2 cs).ownBlock := owns_ne HO.out HK1.out (by decide)
      have hob : ∀ b, (Value.slice As k2 cs).ownBlock = some b → b < wr.heap.size := own_lt HO.out
      have hobg : ∀ b, (Value.slice As k2 cs).ownBlock = some b → w.heap.size ≤ b := own_ge HO.out
      have hwr : w.heap.size ≤ wr.heap.size := HB.out.size
      obtain ⟨pa, hpa⟩ : ∃ pa, pa = numO xs e 2 := ⟨_, rfl⟩
      obtain ⟨pb, hpb⟩ : ∃ pb, pb = numO xs (e + 2) 2 := ⟨_, rfl⟩
      have HH1 : Hid (∀ W, Below w.heap.size w W → Calls Try.prog 53 #[.slice A n c, .int .i64 (e : Int)] W fun e w' => e = .returned (.int .u16 (pa : Int)) ∧ Below W.heap.size W w') := Lib.hid fun W hW => by rw [hpa]; exact HWH.out W e (by omega) hW
      have HH2 : Hid (∀ W, Below w.heap.size w W → Calls Try.prog 53 #[.slice A n c, .int .i64 ((e : Int) + 2)] W fun e w' => e = .returned (.int .u16 (pb : Int)) ∧ Below W.heap.size W w') := Lib.hid fun W hW => by
          have := HWH.out W (e + 2) (by omega) hW
          rw [← hpb] at this
          exact this
      have HSN : Hid (getGO xs 4 (k2 + 1) = getGO xs 4 k2 ++ [(pa, pb)]) := Lib.hid (by rw [getGO_snoc, hpa, hpb, HE.out])
      clear hpa hpb
      go_wp2_with fail
      rw [← drawn_eq 5]
      refine wp_region_own_tail 15 13 ((Value.slice As k2 cs).ownBlock) (by kernel_rfl) [(Is (.pointer (some ⟨g4, 1, none⟩))), (Is (.slice As k2 cs)), (Is (.pointer (some ⟨w.heap.size, 2, none⟩))), (Is (.slice A n c)), (Is (.int .i64 (e : Int))), (Is (.int .u16 (pa : Int))), (Is (.pointer (some ⟨w.heap.size, 2, none⟩))), (Is (.slice A n c)), (Is (.int .i64 (e : Int))), (Is (.int .i64 ((e : Int) + 2))), (Is (.int .u16 (pb : Int))), (Is (.agg #[.int .u16 (pa : Int), .int .u16 (pb : Int)])), (NewSl wr.heap.size 104 1 #[.int .u16 (pa : Int), .int .u16 (pb : Int)])] (NewOg 104 w.heap.size (k2 + 1) (getGO xs 4 k2 ++ [(pa, pb)])) [(Is (.pointer (some ⟨g4, 1, none⟩)))] rfl rfl (Lasts.newOg _ _ _ _) ?_ (by kernel_rfl) (by kernel_rfl) ?_ ?_
      · intro q hq
        simp only [List.cons_append, List.nil_append, List.mem_cons, List.not_mem_nil, or_false] at hq
        rcases hq with rfl | rfl | rfl | rfl | rfl | rfl | rfl | rfl | rfl | rfl | rfl | rfl | rfl | rfl
        · exact ⟨Lasts.is _, LastsO.is _ _⟩
        · exact ⟨Lasts.is _, LastsO.is _ _⟩
        · exact ⟨Lasts.is _, LastsO.is _ _⟩
        · exact ⟨Lasts.is _, LastsO.is _ _⟩
        · exact ⟨Lasts.is _, LastsO.is _ _⟩
        · exact ⟨Lasts.is _, LastsO.is _ _⟩
        · exact ⟨Lasts.is _, LastsO.is _ _⟩
        · exact ⟨Lasts.is _, LastsO.is _ _⟩
        · exact ⟨Lasts.is _, LastsO.is _ _⟩
        · exact ⟨Lasts.is _, LastsO.is _ _⟩
        · exact ⟨Lasts.is _, LastsO.is _ _⟩
        · exact ⟨Lasts.is _, LastsO.is _ _⟩
        · exact ⟨Lasts.newSl _ _ _ _, LastsO.newSl _ _ _ _ _ hob⟩
        · exact ⟨Lasts.is _, LastsO.is _ _⟩
      · refine ⟨?_, ?_, ?_, ?_, ?_, ?_, ?_, ?_, ?_, ?_, ?_, ?_, ?_, ?_, ?_, trivial⟩
        · intro listed a w1 hl hc hpre
          have h4 : a.tmps[4]?.getD undef = .pointer (some ⟨g4, 0, none⟩) := (hc.was 4 (by kernel_rfl)).trans rfl
          refine does_value rfl rfl (.pointer (some ⟨g4, 1, none⟩)) w1 ?_ (stepB (by decide) (Below.refl _ _)) rfl
          clear hc hl
          go_simp
        · intro listed a w1 hl hc hpre
          have h17 : a.tmps[17]?.getD undef = .pointer (some ⟨g4, 1, none⟩) := hc.dep hl 0 17 rfl (by kernel_rfl)
          have kb := HG.out.grown hc.g hne4
          have x1 : w1.cell? ⟨g4, 1, none⟩ = some (.slice As k2 cs) := kb.cell 1
          clear kb
          refine does_value rfl rfl (.slice As k2 cs) w1 ?_ (stepB (by decide) (Below.refl _ _)) rfl
          clear hc hl
          go_simp
        · intro listed a w1 hl hc hpre
          have h1 : a.tmps[1]?.getD undef = .pointer (some ⟨w.heap.size, 0, none⟩) := (hc.was 1 (by kernel_rfl)).trans rfl
          refine does_value rfl rfl (.pointer (some ⟨w.heap.size, 2, none⟩)) w1 ?_ (stepB (by decide) (Below.refl _ _)) rfl
          clear hc hl
          go_simp
        · intro listed a w1 hl hc hpre
          have h19 : a.tmps[19]?.getD undef = .pointer (some ⟨w.heap.size, 2, none⟩) := hc.dep hl 2 19 rfl (by kernel_rfl)
          have kb := HK0.out.grown hc.g hne0
          have x2 : w1.cell? ⟨w.heap.size, 2, none⟩ = some (.slice A n c) := kb.cell 2
          clear kb
          refine does_value rfl rfl (.slice A n c) w1 ?_ (stepB (by decide) (Below.refl _ _)) rfl
          clear hc hl
          go_simp
        · intro listed a w1 hl hc hpre
          have h5 : a.tmps[5]?.getD undef = .int .i64 (e : Int) := (hc.was 5 (by kernel_rfl)).trans rfl
          refine does_value rfl rfl (.int .i64 (e : Int)) w1 ?_ (stepB (by decide) (Below.refl _ _)) rfl
          clear hc hl
          go_simp
        · intro listed a w1 hl hc hpre
          have h20 : a.tmps[20]?.getD undef = .slice A n c := hc.dep hl 3 20 rfl (by kernel_rfl)
          have h21 : a.tmps[21]?.getD undef = .int .i64 (e : Int) := hc.dep hl 4 21 rfl (by kernel_rfl)
          refine does_call rfl rfl 53 #[.slice A n c, .int .i64 (e : Int)] ?_ ((HH1.out w1 (HB.out.grown hc.g hwr hobg)).mono fun e w' ⟨he, hb⟩ => ⟨_, he, (stepB (by decide) hb), rfl⟩)
          clear hc hl
          go_simp
        · intro listed a w1 hl hc hpre
          have h1 : a.tmps[1]?.getD undef = .pointer (some ⟨w.heap.size, 0, none⟩) := (hc.was 1 (by kernel_rfl)).trans rfl
          refine does_value rfl rfl (.pointer (some ⟨w.heap.size, 2, none⟩)) w1 ?_ (stepB (by decide) (Below.refl _ _)) rfl
          clear hc hl
          go_simp
        · intro listed a w1 hl hc hpre
          have h23 : a.tmps[23]?.getD undef = .pointer (some ⟨w.heap.size, 2, none⟩) := hc.dep hl 6 23 rfl (by kernel_rfl)
          have kb := HK0.out.grown hc.g hne0
          have x2 : w1.cell? ⟨w.heap.size, 2, none⟩ = some (.slice A n c) := kb.cell 2
          clear kb
          refine does_value rfl rfl (.slice A n c) w1 ?_ (stepB (by decide) (Below.refl _ _)) rfl
          clear hc hl
          go_simp
        · intro listed a w1 hl hc hpre
          have h5 : a.tmps[5]?.getD undef = .int .i64 (e : Int) := (hc.was 5 (by kernel_rfl)).trans rfl
          refine does_value rfl rfl (.int .i64 (e : Int)) w1 ?_ (stepB (by decide) (Below.refl _ _)) rfl
          clear hc hl
          go_simp
        · intro listed a w1 hl hc hpre
          have h25 : a.tmps[25]?.getD undef = .int .i64 (e : Int) := hc.dep hl 8 25 rfl (by kernel_rfl)
          refine does_value rfl rfl (.int .i64 ((e : Int) + 2)) w1 ?_ (stepB (by decide) (Below.refl _ _)) rfl
          clear hc hl
          go_simp
          exact wrap_small _ (by omega) (by omega)
        · intro listed a w1 hl hc hpre
          have h24 : a.tmps[24]?.getD undef = .slice A n c := hc.dep hl 7 24 rfl (by kernel_rfl)
          have h26 : a.tmps[26]?.getD undef = .int .i64 ((e : Int) + 2) := hc.dep hl 9 26 rfl (by kernel_rfl)
          refine does_call rfl rfl 53 #[.slice A n c, .int .i64 ((e : Int) + 2)] ?_ ((HH2.out w1 (HB.out.grown hc.g hwr hobg)).mono fun e w' ⟨he, hb⟩ => ⟨_, he, (stepB (by decide) hb), rfl⟩)
          clear hc hl
          go_simp
        · intro listed a w1 hl hc hpre
          have h22 : a.tmps[22]?.getD undef = .int .u16 (pa : Int) := hc.dep hl 5 22 rfl (by kernel_rfl)
          have h27 : a.tmps[27]?.getD undef = .int .u16 (pb : Int) := hc.dep hl 10 27 rfl (by kernel_rfl)
          refine does_value rfl rfl (.agg #[.int .u16 (pa : Int), .int .u16 (pb : Int)]) w1 ?_ (stepB (by decide) (Below.refl _ _)) rfl
          clear hc hl
          go_simp
        · intro listed a w1 hl hc hpre
          have h28 : a.tmps[28]?.getD undef = .agg #[.int .u16 (pa : Int), .int .u16 (pb : Int)] := hc.dep hl 11 28 rfl (by kernel_rfl)
          refine does_value rfl rfl (.slice (some ⟨w1.heap.size, 0, none⟩) 1 1) (w1.alloc (.cells #[.int .u16 (pa : Int), .int .u16 (pb : Int)] 104)) ?_ (stepB (by decide) (below_new w1 _)) ⟨_, rfl, hc.g.size, Blk.new _ _ _⟩
          clear hc hl
          go_simp
        · intro listed a w1 hl hc hpre
          have h18 : a.tmps[18]?.getD undef = .slice As k2 cs := hc.dep hl 1 18 rfl (by kernel_rfl)
          obtain ⟨g29, h29, hg29, hb29⟩ := hc.dep hl 12 29 rfl (by kernel_rfl)
          obtain ⟨A9, c9, w9, hrun, hog, hgr⟩ := run_appendG Try.underlying54 hti htz ht1 ht2 w1 54 w.heap.size As k2 cs g29 (getGO xs 4 k2) (pa, pb) (HO.out.below (hpre rfl)) (length_getGO _ _ _) hb29 (by omega) (Nat.le_trans hwr hc.g.size)
          refine does_value rfl rfl (.slice A9 (k2 + 1 : Nat) c9) w9 (exec_append rfl h18 h29 hrun) (stepO hgr) ⟨A9, c9, rfl, hog⟩
        · intro listed a w1 hl hc hpre
          have h4 : a.tmps[4]?.getD undef = .pointer (some ⟨g4, 0, none⟩) := (hc.was 4 (by kernel_rfl)).trans rfl
          refine does_value rfl rfl (.pointer (some ⟨g4, 1, none⟩)) w1 ?_ (stepB (by decide) (Below.refl _ _)) rfl
          clear hc hl
          go_simp
      intro w2 hb2
      rintro _ rfl _ rfl _ rfl _ rfl _ rfl _ rfl _ rfl _ rfl _ rfl _ rfl _ rfl _ rfl _ ⟨g29, rfl, hg29, hb29⟩ _ ⟨A30, c30, rfl, ho30⟩ _ rfl
      simp only [Thus, List.reverse_cons, List.reverse_nil, List.nil_append, List.cons_append, List.drop, List.take, lay]
      go_frame
      have HG2 := Lib.hid (HG.out.grown hb2 hne4)
      have HK02 := Lib.hid (HK0.out.grown hb2 hne0)
      have HK12 := Lib.hid (HK1.out.grown hb2 hne1)
      have HB2 := Lib.hid (HB.out.grown hb2 hwr hobg)
      have HO2 := Lib.hid ho30
      have y0 := HG2.out.cell 0
      have y1 := HG2.out.cell 1
      have z0 := HG2.out.frozen 0
      have z1 := HG2.out.frozen 1
      clear hb2 hb29 hg29 ho30 hK0 x2 hG
      go_wp2_with fail
      go_roundw
      case rel => exact ⟨k2 + 1, e + 4, c30, A30, by omega, by omega, by go_num, Lib.hid (by have := HE.out; omega), HG2.out.set_ 1 _, by rw [HSN.out]; exact HO2.out.setBlk HG2.out (by decide) 1 _, HK02.out.far (p := ⟨g4, 1, none⟩) (show w.heap.size ≠ g4 by omega) _, HK12.out.far (p := ⟨g4, 1, none⟩) (show w.heap.size + 1 ≠ g4 by omega) _, HB2.out.setCell (p := ⟨g4, 1, none⟩) (show w.heap.size ≤ g4 by omega) _⟩
      case measure => simp [intOf]; omega
    · have hkn : k2 = NN := by have := HNN.out; have := HE.out; omega
      subst hkn
      have x0 := hK0.cell 0
      have x1 := hK0.cell 1
      have y0 := hG.cell 0
      have y1 := hG.cell 1
      go_wp2_with fail
      refine (HCK.out wr As cs (by omega) HB.out HO.out).mono ?_
      rintro e9 w6 ⟨rfl, hb⟩
      have K1e := Lib.hid (HK1.out.below hb HK1.out.lt)
      have B6 := Lib.hid (below_then HB.out (Nat.le_refl _) hb)
      have O6 := Lib.hid (HO.out.below hb)
      clear hb HK1 HB HO x0 x1 x2 y0 y1 hG hK0
      have y0 := K1e.out.cell 0
      have y1 := K1e.out.cell 1
      have z0 := K1e.out.frozen 0
      have z1 := K1e.out.frozen 1
      go_wp2_with fail
      have H3 := ((K1e.out.set_ 0 (.int .u32 (q : Int))).set_ 1 (.slice As k2 cs))
      exact bodyPost_ret (v := .tuple #[.agg #[.int .u32 (q : Int), .slice As k2 cs], .int .i64 0]) (by simp [results, Try.results35, go_sem, H3.cell]) rfl ⟨As, k2, cs, rfl, ((O6.out.setBlk K1e.out (by decide) 0 (.int .u32 (q : Int))).setBlk (K1e.out.set_ 0 (.int .u32 (q : Int))) (by decide) 1 (.slice As k2 cs)), (length_getGO _ _ _).symm, ((B6.out.setCell (p := ⟨w.heap.size + 1, 0, none⟩) (show w.heap.size ≤ w.heap.size + 1 by omega) (.int .u32 (q : Int))).setCell (p := ⟨w.heap.size + 1, 1, none⟩) (show w.heap.size ≤ w.heap.size + 1 by omega) (.slice As k2 cs))⟩
theorem getForward_any (k f : UInt8) (A : Option Addr) (n c : Nat) (xs : List UInt8) (w : World) (hn : n ≤ 1099511627776) (hc : n ≤ c) (hcm : c ≤ maxLen) (hx : xs.length = n) (hr : Rd w w.heap.size A xs) : GetsF 35 #[.agg #[.int .u8 (k.toNat : Int), .int .u8 (f.toNat : Int), .slice A n c]] k f xs w := by
  cases hok : okF k f xs
  · exact getForward_no k f A n c xs w hn hc hcm hx hr hok
  · exact getForward_yes k f A n c xs w hn hc hcm hx hr hok
end Go.Proofs.Ytalgkokgaibloaa
