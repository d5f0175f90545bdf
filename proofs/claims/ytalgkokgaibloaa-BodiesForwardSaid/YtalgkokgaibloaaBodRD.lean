/-
  The reference: GetForward.
-/
import Derived.Test.YtalgkokgaibloaaBodRA
import Derived.Test.YtalgkokgaibloaaBodT
import Derived.Test.YtalgkokgaibloaaBodJ
namespace Go.Proofs.Ytalgkokgaibloaa
open Go.RowKit
set_option linter.unusedVariables false

theorem wrap_u32p {a : Nat} (h : a < 4294967296) : IntKind.u32.wrap (a : Int) = a := by
  simp [IntKind.wrap, IntKind.bits, IntKind.signed]
  omega
theorem wrap_u16p {a : Nat} (h : a < 65536) : IntKind.u16.wrap (a : Int) = a := by
  simp [IntKind.wrap, IntKind.bits, IntKind.signed]
  omega
theorem ansF_off {k f : UInt8} {xs : List UInt8} (h : okF k f xs = false) : ansF k f xs = noFw := by simp [ansF, h]
set_option maxRecDepth 100000 in
set_option maxHeartbeats 4000000 in
theorem refGetForward_short (k f : UInt8) (A : Option Addr) (n c : Nat) (xs : List UInt8) (w : World) (hn : n ≤ 1099511627776) (hc : n ≤ c) (hcm : c ≤ maxLen) (hx : xs.length = n) (hr : Rd w w.heap.size A xs) (hl : n < 4) :
    GetsF 36 #[.agg #[.int .u8 (k.toNat : Int), .int .u8 (f.toNat : Int), .slice A n c]] k f xs w := by
  have hz := zero_fwd
  have hok : okF k f xs = false := okF_short (by omega)
  have hra := ansF_off hok
  unfold GetsF
  rw [hok, hra]
  have hs1 : (n : Int) < 4 := by omega
  clear hx hr hra hok
  have b0 : Blk (w.alloc (.cells #[.int .u8 (k.toNat : Int), .int .u8 (f.toNat : Int), .slice A n c] 28)) w.heap.size 28 #[.int .u8 (k.toNat : Int), .int .u8 (f.toNat : Int), .slice A n c] := Blk.new w 28 #[.int .u8 (k.toNat : Int), .int .u8 (f.toNat : Int), .slice A n c]
  have b1 : Blk ((w.alloc (.cells #[.int .u8 (k.toNat : Int), .int .u8 (f.toNat : Int), .slice A n c] 28)).alloc (.cells #[.int .u32 0, .slice none 0 0] 56)) (w.heap.size + 1) 56 #[.int .u32 0, .slice none 0 0] := by simpa using Blk.new (w.alloc (.cells #[.int .u8 (k.toNat : Int), .int .u8 (f.toNat : Int), .slice A n c] 28)) 56 #[.int .u32 0, .slice none 0 0]
  have K0 := Lib.hid (b0.alloc (.cells #[.int .u32 0, .slice none 0 0] 56))
  have K1 := Lib.hid b1
  have B0 : Hid (Below w.heap.size w ((w.alloc (.cells #[.int .u8 (k.toNat : Int), .int .u8 (f.toNat : Int), .slice A n c] 28)).alloc (.cells #[.int .u32 0, .slice none 0 0] 56))) := Lib.hid (Wr.below_ (((Wr.refl 5 w.heap.size w).alloc (.cells #[.int .u8 (k.toNat : Int), .int .u8 (f.toNat : Int), .slice A n c] 28)).alloc (.cells #[.int .u32 0, .slice none 0 0] 56)) (Nat.le_refl _))
  clear b0 b1
  go_enter Try.func36, Try.ntmps36
  go_wp2_with fail
  have H3 := K1.out
  exact bodyPost_ret (v := .tuple #[.agg #[.int .u32 0, .slice none 0 0], .int .i64 7]) (by simp [results, Try.results36, go_sem, H3.cell]) rfl ⟨none, 0, 0, rfl, World.ownsRow_nil _ _ _ _, rfl, B0.out⟩
set_option maxRecDepth 100000 in
set_option maxHeartbeats 4000000 in
theorem refGetForward_long (k f : UInt8) (A : Option Addr) (n c : Nat) (xs : List UInt8) (w : World) (hn : n ≤ 1099511627776) (hc : n ≤ c) (hcm : c ≤ maxLen) (hx : xs.length = n) (hr : Rd w w.heap.size A xs) (hl : 4 ≤ n) :
    GetsF 36 #[.agg #[.int .u8 (k.toNat : Int), .int .u8 (f.toNat : Int), .slice A n c]] k f xs w := by
  have hz := zero_fwd
  have hcm' := hcm
  unfold maxLen at hcm'
  obtain ⟨ti, hti, htz, ht1, ht2⟩ := info_parts Try.infoSkip
  have hcb : numO xs 0 4 < 4294967296 := numO_lt xs 0 4
  have HW0 : Hid (∀ W, Below w.heap.size w W → Calls Try.prog 56 #[.slice A n c, .int .i64 0, .int .i64 4] W fun e w' => e = .returned (.int .u64 (numO xs 0 4)) ∧ Below W.heap.size W w') := Lib.hid fun W hW => number_any A n c 0 4 xs W (by unfold IsSize; omega) (by omega) (by omega) hc hcm hx ((hr.below hW).more hW.size)
  have HWH : Hid (∀ (W : World) (a : Nat), a + 2 ≤ n → Below w.heap.size w W → Calls Try.prog 56 #[.slice A n c, .int .i64 (a : Int), .int .i64 2] W fun e w' => e = .returned (.int .u64 (num xs a 2)) ∧ Below W.heap.size W w') := Lib.hid fun W a ha hW => by
    have := number_any A n c a 2 xs W (by unfold IsSize; omega) (by omega) (by omega) hc hcm hx ((hr.below hW).more hW.size)
    rwa [numO_in (by omega)] at this
  have hpf : parseF xs = ⟨numO xs 0 4, getG xs 4 ((n - 4) / 4)⟩ := by rw [numO_in (by omega), ← hx]; rfl
  have HOKD : Hid (∀ r, decide (k = 192 ∧ f = 0 ∧ xs = bodyF ⟨numO xs 0 4, getG xs 4 ((n - 4) / 4)⟩) = r → okF k f xs = r) := Lib.hid fun r h => by unfold okF; rw [hpf]; exact h
  have HANS : Hid (okF k f xs = true → ansF k f xs = ⟨numO xs 0 4, getG xs 4 ((n - 4) / 4)⟩) := Lib.hid fun h => by unfold ansF; rw [h]; exact hpf
  have HSM : Hid (∀ r, decide (k = 192 ∧ f = 0 ∧ xs = bodyF ⟨numO xs 0 4, getG xs 4 ((n - 4) / 4)⟩) = r → ∀ (W : World) (A' : Option Addr) (c' : Nat), Below w.heap.size w W → Own8 W 5 w.heap.size A' (bodyF ⟨numO xs 0 4, getG xs 4 ((n - 4) / 4)⟩).length c' (bodyF ⟨numO xs 0 4, getG xs 4 ((n - 4) / 4)⟩) → Calls Try.prog 18 #[.agg #[.int .u8 ((192 : UInt8).toNat : Int), .int .u8 ((0 : UInt8).toNat : Int), .slice A' (bodyF ⟨numO xs 0 4, getG xs 4 ((n - 4) / 4)⟩).length c'], .agg #[.int .u8 (k.toNat : Int), .int .u8 (f.toNat : Int), .slice A n c]] W fun e w' => e = .returned (.bool r) ∧ Below W.heap.size W w') := Lib.hid fun r hd => sameR (c := c) (by omega) hx hr hd
  have HPT : Hid (∀ W (As : Option Addr) (cs : Nat), (n - 4) / 4 ≤ 1099511627776 → Og W 104 w.heap.size (.slice As ((n - 4) / 4) cs) (getG xs 4 ((n - 4) / 4)) → Puts 37 #[.agg #[.int .u32 (numO xs 0 4 : Int), .slice As ((n - 4) / 4 : Nat) cs]] 192 0 (bodyF ⟨numO xs 0 4, getG xs 4 ((n - 4) / 4)⟩) W) := Lib.hid fun W As cs hN ho => refPutForward_any (numO xs 0 4) _ hcb (getG_bd xs _ _) As ((n - 4) / 4) cs W hN (length_getG xs _ _) ho.rg
  obtain ⟨q, hq⟩ : ∃ q, q = numO xs 0 4 := ⟨_, rfl⟩
  rw [← hq] at HW0 HOKD HANS HSM HPT hcb
  obtain ⟨NN, hNN⟩ : ∃ NN, NN = (n - 4) / 4 := ⟨_, rfl⟩
  rw [← hNN] at HOKD HANS HSM HPT
  obtain ⟨Y, eY⟩ : ∃ Y, Y = bodyF ⟨q, getG xs 4 NN⟩ := ⟨_, rfl⟩
  rw [← eY] at HOKD HSM HPT
  have HNN := Lib.hid hNN
  have hcnt : NN ≤ 1099511627776 := by omega
  have hs1 : ¬ (n : Int) < 4 := by omega
  unfold GetsF
  clear hq hx hr hpf hNN eY
  have b0 : Blk (w.alloc (.cells #[.int .u8 (k.toNat : Int), .int .u8 (f.toNat : Int), .slice A n c] 28)) w.heap.size 28 #[.int .u8 (k.toNat : Int), .int .u8 (f.toNat : Int), .slice A n c] := Blk.new w 28 #[.int .u8 (k.toNat : Int), .int .u8 (f.toNat : Int), .slice A n c]
  have b1 : Blk ((w.alloc (.cells #[.int .u8 (k.toNat : Int), .int .u8 (f.toNat : Int), .slice A n c] 28)).alloc (.cells #[.int .u32 0, .slice none 0 0] 56)) (w.heap.size + 1) 56 #[.int .u32 0, .slice none 0 0] := by simpa using Blk.new (w.alloc (.cells #[.int .u8 (k.toNat : Int), .int .u8 (f.toNat : Int), .slice A n c] 28)) 56 #[.int .u32 0, .slice none 0 0]
  have K0 := Lib.hid (b0.alloc (.cells #[.int .u32 0, .slice none 0 0] 56))
  have K1 := Lib.hid b1
  have B0 : Hid (Below w.heap.size w ((w.alloc (.cells #[.int .u8 (k.toNat : Int), .int .u8 (f.toNat : Int), .slice A n c] 28)).alloc (.cells #[.int .u32 0, .slice none 0 0] 56))) := Lib.hid (Wr.below_ (((Wr.refl 5 w.heap.size w).alloc (.cells #[.int .u8 (k.toNat : Int), .int .u8 (f.toNat : Int), .slice A n c] 28)).alloc (.cells #[.int .u32 0, .slice none 0 0] 56)) (Nat.le_refl _))
  clear b0 b1
  go_enter Try.func36, Try.ntmps36
  rw [drawn_eq 7, drawn_eq 8]
  go_wp2_with fail
  generalize hv0 : ((w.alloc (.cells #[.int .u8 (k.toNat : Int), .int .u8 (f.toNat : Int), .slice A n c] 28)).alloc (.cells #[.int .u32 0, .slice none 0 0] 56)) = v0 at K0 K1 B0 ⊢
  have hsz0 : v0.heap.size = w.heap.size + 1 + 1 := by rw [← hv0]; simp
  clear hv0
  refine (HW0.out v0 B0.out).mono ?_
  rintro e w1 ⟨rfl, hb⟩
  have K0a := Lib.hid (K0.out.below hb K0.out.lt)
  have K1a := Lib.hid (K1.out.below hb K1.out.lt)
  have B0a := Lib.hid (below_then B0.out (Nat.le_refl _) hb)
  have hbs := hb.size
  have G1 := Lib.hid (Blk.new w1 56 #[.int .u32 (q : Int), .slice none 0 0])
  have K0b := Lib.hid (K0a.out.alloc (.cells #[.int .u32 (q : Int), .slice none 0 0] 56))
  have K1b := Lib.hid (K1a.out.alloc (.cells #[.int .u32 (q : Int), .slice none 0 0] 56))
  have B1 := Lib.hid (B0a.out.alloc B0a.out.size (.cells #[.int .u32 (q : Int), .slice none 0 0] 56))
  obtain ⟨g4, hg4⟩ : ∃ g4, g4 = w1.heap.size := ⟨_, rfl⟩
  have hge : w.heap.size + 1 + 1 ≤ g4 := by omega
  rw [← hg4] at G1
  have HG4 := Lib.hid hg4
  clear hg4 K0 K1 B0 K0a K1a B0a hb hbs hsz0
  go_wp2_with fail
  rw [← HG4.out]
  generalize w1.alloc (.cells #[.int .u32 (q : Int), .slice none 0 0] 56) = v1 at G1 K0b K1b B1 ⊢
  clear HG4
  go_loopw [5] (fun i wr => ∃ (k2 e cs : Nat) (As : Option Addr), k2 ≤ NN ∧ e ≤ n ∧ i = .int .i64 (e : Int) ∧ Hid (e = 4 + 4 * k2) ∧ Blk wr g4 56 #[.int .u32 (q : Int), .slice As k2 cs] ∧ Og wr 104 w.heap.size (.slice As k2 cs) (getG xs 4 k2) ∧ Blk wr w.heap.size 28 #[.int .u8 (k.toNat : Int), .int .u8 (f.toNat : Int), .slice A n c] ∧ Blk wr (w.heap.size + 1) 56 #[.int .u32 0, .slice none 0 0] ∧ Below w.heap.size w wr) (fun i _ => n + 8 - (intOf i).toNat)
  case atStart => exact ⟨0, 4, 0, none, by omega, by omega, rfl, Lib.hid rfl, G1.out, World.ownsRow_nil _ _ _ _, K0b.out, K1b.out, B1.out⟩
  case round =>
    clear G1 K0b K1b B1
    obtain ⟨k2, e, cs, As, hk2, he, rfl, HE, hG, hO, hK0, hK1, hB⟩ := hrel
    have HG := Lib.hid hG
    have HO := Lib.hid hO
    have HK0 := Lib.hid hK0
    have HK1 := Lib.hid hK1
    have HB := Lib.hid hB
    clear hO hK1 hB
    have x2 := hK0.cell 2
    have x2 : wr.cell? ⟨w.heap.size, 2, none⟩ = some (.slice A n c) := x2
    by_cases hlt : e + 4 ≤ n
    · have hkn : k2 < NN := by have := HNN.out; have := HE.out; omega
      have hne0 : some w.heap.size ≠ (Value.slice As k2 cs).ownBlock := owns_ne HO.out HK0.out (by decide)
      have hne4 : some g4 ≠ (Value.slice As k2 cs).ownBlock := owns_ne HO.out HG.out (by decide)
      have hne1 : some (w.heap.size + 1) ≠ (Value.slice As k2 cs).ownBlock := owns_ne HO.out HK1.out (by decide)
      have hob : ∀ b, (Value.slice As k2 cs).ownBlock = some b → b < wr.heap.size := own_lt HO.out
      have hobg : ∀ b, (Value.slice As k2 cs).ownBlock = some b → w.heap.size ≤ b := own_ge HO.out
      have hwr : w.heap.size ≤ wr.heap.size := HB.out.size
      have hpab : num xs e 2 < 65536 := num_lt xs e 2
      have hpbb : num xs (e + 2) 2 < 65536 := num_lt xs (e + 2) 2
      obtain ⟨pa, hpa⟩ : ∃ pa, pa = num xs e 2 := ⟨_, rfl⟩
      obtain ⟨pb, hpb⟩ : ∃ pb, pb = num xs (e + 2) 2 := ⟨_, rfl⟩
      rw [← hpa] at hpab
      rw [← hpb] at hpbb
      have HH1 : Hid (∀ W, Below w.heap.size w W → Calls Try.prog 56 #[.slice A n c, .int .i64 (e : Int), .int .i64 2] W fun e w' => e = .returned (.int .u64 (pa : Int)) ∧ Below W.heap.size W w') := Lib.hid fun W hW => by rw [hpa]; exact HWH.out W e (by omega) hW
      have HH2 : Hid (∀ W, Below w.heap.size w W → Calls Try.prog 56 #[.slice A n c, .int .i64 ((e : Int) + 2), .int .i64 2] W fun e w' => e = .returned (.int .u64 (pb : Int)) ∧ Below W.heap.size W w') := Lib.hid fun W hW => by
          have := HWH.out W (e + 2) (by omega) hW
          rw [← hpb] at this
          exact this
      have HSN : Hid (getG xs 4 (k2 + 1) = getG xs 4 k2 ++ [(pa, pb)]) := Lib.hid (by rw [getG_snoc, hpa, hpb, HE.out])
      clear hpa hpb
      go_wp2_with fail
      rw [← drawn_eq 7]
      refine wp_region_own_tail 17 15 ((Value.slice As k2 cs).ownBlock) (by kernel_rfl) [(Is (.pointer (some ⟨g4, 1, none⟩))), (Is (.slice As k2 cs)), (Is (.pointer (some ⟨w.heap.size, 2, none⟩))), (Is (.slice A n c)), (Is (.int .i64 (e : Int))), (Is (.int .u64 (pa : Int))), (Is (.int .u16 (pa : Int))), (Is (.pointer (some ⟨w.heap.size, 2, none⟩))), (Is (.slice A n c)), (Is (.int .i64 (e : Int))), (Is (.int .i64 ((e : Int) + 2))), (Is (.int .u64 (pb : Int))), (Is (.int .u16 (pb : Int))), (Is (.agg #[.int .u16 (pa : Int), .int .u16 (pb : Int)])), (NewSl wr.heap.size 104 1 #[.int .u16 (pa : Int), .int .u16 (pb : Int)])] (NewOg 104 w.heap.size (k2 + 1) (getG xs 4 k2 ++ [(pa, pb)])) [(Is (.pointer (some ⟨g4, 1, none⟩)))] rfl rfl (Lasts.newOg _ _ _ _) ?_ (by kernel_rfl) (by kernel_rfl) ?_ ?_
      · intro q hq
        simp only [List.cons_append, List.nil_append, List.mem_cons, List.not_mem_nil, or_false] at hq
        rcases hq with rfl | rfl | rfl | rfl | rfl | rfl | rfl | rfl | rfl | rfl | rfl | rfl | rfl | rfl | rfl | rfl
        · exact ⟨Lasts.is _, LastsO.is _ _⟩
        · exact ⟨Lasts.is _, LastsO.is _ _⟩
        · exact ⟨Lasts.is _, LastsO.is _ _⟩
        · exact ⟨Lasts.is _, LastsO.is _ _⟩
        · exact ⟨Lasts.is _, LastsO.is _ _⟩
        · exact ⟨Lasts.is _, LastsO.is _ _⟩
        · exact ⟨Lasts.is _, LastsO.is _ _⟩
        · exact ⟨Lasts.is _, LastsO.is _ _⟩
        · exact ⟨Lasts.is _, LastsO.is _ _⟩
        · exact ⟨Lasts.is _, LastsO.is _ _⟩
        · exact ⟨Lasts.is _, LastsO.is _ _⟩
        · exact ⟨Lasts.is _, LastsO.is _ _⟩
        · exact ⟨Lasts.is _, LastsO.is _ _⟩
        · exact ⟨Lasts.is _, LastsO.is _ _⟩
        · exact ⟨Lasts.newSl _ _ _ _, LastsO.newSl _ _ _ _ _ hob⟩
        · exact ⟨Lasts.is _, LastsO.is _ _⟩
      · refine ⟨?_, ?_, ?_, ?_, ?_, ?_, ?_, ?_, ?_, ?_, ?_, ?_, ?_, ?_, ?_, ?_, ?_, trivial⟩
        · intro listed a w1 hl hc hpre
          have h4 : a.tmps[4]?.getD undef = .pointer (some ⟨g4, 0, none⟩) := (hc.was 4 (by kernel_rfl)).trans rfl
          refine does_value rfl rfl (.pointer (some ⟨g4, 1, none⟩)) w1 ?_ (stepB (by decide) (Below.refl _ _)) rfl
          clear hc hl
          go_simp
        · intro listed a w1 hl hc hpre
          have h24 : a.tmps[24]?.getD undef = .pointer (some ⟨g4, 1, none⟩) := hc.dep hl 0 24 rfl (by kernel_rfl)
          have kb := HG.out.grown hc.g hne4
          have x1 : w1.cell? ⟨g4, 1, none⟩ = some (.slice As k2 cs) := kb.cell 1
          clear kb
          refine does_value rfl rfl (.slice As k2 cs) w1 ?_ (stepB (by decide) (Below.refl _ _)) rfl
          clear hc hl
          go_simp
        · intro listed a w1 hl hc hpre
          have h1 : a.tmps[1]?.getD undef = .pointer (some ⟨w.heap.size, 0, none⟩) := (hc.was 1 (by kernel_rfl)).trans rfl
          refine does_value rfl rfl (.pointer (some ⟨w.heap.size, 2, none⟩)) w1 ?_ (stepB (by decide) (Below.refl _ _)) rfl
          clear hc hl
          go_simp
        · intro listed a w1 hl hc hpre
          have h26 : a.tmps[26]?.getD undef = .pointer (some ⟨w.heap.size, 2, none⟩) := hc.dep hl 2 26 rfl (by kernel_rfl)
          have kb := HK0.out.grown hc.g hne0
          have x2 : w1.cell? ⟨w.heap.size, 2, none⟩ = some (.slice A n c) := kb.cell 2
          clear kb
          refine does_value rfl rfl (.slice A n c) w1 ?_ (stepB (by decide) (Below.refl _ _)) rfl
          clear hc hl
          go_simp
        · intro listed a w1 hl hc hpre
          have h5 : a.tmps[5]?.getD undef = .int .i64 (e : Int) := (hc.was 5 (by kernel_rfl)).trans rfl
          refine does_value rfl rfl (.int .i64 (e : Int)) w1 ?_ (stepB (by decide) (Below.refl _ _)) rfl
          clear hc hl
          go_simp
        · intro listed a w1 hl hc hpre
          have h27 : a.tmps[27]?.getD undef = .slice A n c := hc.dep hl 3 27 rfl (by kernel_rfl)
          have h28 : a.tmps[28]?.getD undef = .int .i64 (e : Int) := hc.dep hl 4 28 rfl (by kernel_rfl)
          refine does_call rfl rfl 56 #[.slice A n c, .int .i64 (e : Int), .int .i64 2] ?_ ((HH1.out w1 (HB.out.grown hc.g hwr hobg)).mono fun e w' ⟨he, hb⟩ => ⟨_, he, (stepB (by decide) hb), rfl⟩)
          clear hc hl
          go_simp
        · intro listed a w1 hl hc hpre
          have h29 : a.tmps[29]?.getD undef = .int .u64 (pa : Int) := hc.dep hl 5 29 rfl (by kernel_rfl)
          refine does_value rfl rfl (.int .u16 (pa : Int)) w1 ?_ (stepB (by decide) (Below.refl _ _)) rfl
          clear hc hl
          go_simp
          exact wrap_u16p hpab
        · intro listed a w1 hl hc hpre
          have h1 : a.tmps[1]?.getD undef = .pointer (some ⟨w.heap.size, 0, none⟩) := (hc.was 1 (by kernel_rfl)).trans rfl
          refine does_value rfl rfl (.pointer (some ⟨w.heap.size, 2, none⟩)) w1 ?_ (stepB (by decide) (Below.refl _ _)) rfl
          clear hc hl
          go_simp
        · intro listed a w1 hl hc hpre
          have h31 : a.tmps[31]?.getD undef = .pointer (some ⟨w.heap.size, 2, none⟩) := hc.dep hl 7 31 rfl (by kernel_rfl)
          have kb := HK0.out.grown hc.g hne0
          have x2 : w1.cell? ⟨w.heap.size, 2, none⟩ = some (.slice A n c) := kb.cell 2
          clear kb
          refine does_value rfl rfl (.slice A n c) w1 ?_ (stepB (by decide) (Below.refl _ _)) rfl
          clear hc hl
          go_simp
        · intro listed a w1 hl hc hpre
          have h5 : a.tmps[5]?.getD undef = .int .i64 (e : Int) := (hc.was 5 (by kernel_rfl)).trans rfl
          refine does_value rfl rfl (.int .i64 (e : Int)) w1 ?_ (stepB (by decide) (Below.refl _ _)) rfl
          clear hc hl
          go_simp
        · intro listed a w1 hl hc hpre
          have h33 : a.tmps[33]?.getD undef = .int .i64 (e : Int) := hc.dep hl 9 33 rfl (by kernel_rfl)
          refine does_value rfl rfl (.int .i64 ((e : Int) + 2)) w1 ?_ (stepB (by decide) (Below.refl _ _)) rfl
          clear hc hl
          go_simp
          exact wrap_small _ (by omega) (by omega)
        · intro listed a w1 hl hc hpre
          have h32 : a.tmps[32]?.getD undef = .slice A n c := hc.dep hl 8 32 rfl (by kernel_rfl)
          have h34 : a.tmps[34]?.getD undef = .int .i64 ((e : Int) + 2) := hc.dep hl 10 34 rfl (by kernel_rfl)
          refine does_call rfl rfl 56 #[.slice A n c, .int .i64 ((e : Int) + 2), .int .i64 2] ?_ ((HH2.out w1 (HB.out.grown hc.g hwr hobg)).mono fun e w' ⟨he, hb⟩ => ⟨_, he, (stepB (by decide) hb), rfl⟩)
          clear hc hl
          go_simp
        · intro listed a w1 hl hc hpre
          have h35 : a.tmps[35]?.getD undef = .int .u64 (pb : Int) := hc.dep hl 11 35 rfl (by kernel_rfl)
          refine does_value rfl rfl (.int .u16 (pb : Int)) w1 ?_ (stepB (by decide) (Below.refl _ _)) rfl
          clear hc hl
          go_simp
          exact wrap_u16p hpbb
        · intro listed a w1 hl hc hpre
          have h30 : a.tmps[30]?.getD undef = .int .u16 (pa : Int) := hc.dep hl 6 30 rfl (by kernel_rfl)
          have h36 : a.tmps[36]?.getD undef = .int .u16 (pb : Int) := hc.dep hl 12 36 rfl (by kernel_rfl)
          refine does_value rfl rfl (.agg #[.int .u16 (pa : Int), .int .u16 (pb : Int)]) w1 ?_ (stepB (by decide) (Below.refl _ _)) rfl
          clear hc hl
          go_simp
        · intro listed a w1 hl hc hpre
          have h37 : a.tmps[37]?.getD undef = .agg #[.int .u16 (pa : Int), .int .u16 (pb : Int)] := hc.dep hl 13 37 rfl (by kernel_rfl)
          refine does_value rfl rfl (.slice (some ⟨w1.heap.size, 0, none⟩) 1 1) (w1.alloc (.cells #[.int .u16 (pa : Int), .int .u16 (pb : Int)] 104)) ?_ (stepB (by decide) (below_new w1 _)) ⟨_, rfl, hc.g.size, Blk.new _ _ _⟩
          clear hc hl
          go_simp
        · intro listed a w1 hl hc hpre
          have h25 : a.tmps[25]?.getD undef = .slice As k2 cs := hc.dep hl 1 25 rfl (by kernel_rfl)
          obtain ⟨g38, h38, hg38, hb38⟩ := hc.dep hl 14 38 rfl (by kernel_rfl)
          obtain ⟨A9, c9, w9, hrun, hog, hgr⟩ := run_appendG Try.underlying54 hti htz ht1 ht2 w1 54 w.heap.size As k2 cs g38 (getG xs 4 k2) (pa, pb) (HO.out.below (hpre rfl)) (length_getG _ _ _) hb38 (by omega) (Nat.le_trans hwr hc.g.size)
          refine does_value rfl rfl (.slice A9 (k2 + 1 : Nat) c9) w9 (exec_append rfl h25 h38 hrun) (stepO hgr) ⟨A9, c9, rfl, hog⟩
        · intro listed a w1 hl hc hpre
          have h4 : a.tmps[4]?.getD undef = .pointer (some ⟨g4, 0, none⟩) := (hc.was 4 (by kernel_rfl)).trans rfl
          refine does_value rfl rfl (.pointer (some ⟨g4, 1, none⟩)) w1 ?_ (stepB (by decide) (Below.refl _ _)) rfl
          clear hc hl
          go_simp
      intro w2 hb2
      rintro _ rfl _ rfl _ rfl _ rfl _ rfl _ rfl _ rfl _ rfl _ rfl _ rfl _ rfl _ rfl _ rfl _ rfl _ ⟨g38, rfl, hg38, hb38⟩ _ ⟨A39, c39, rfl, ho39⟩ _ rfl
      simp only [Thus, List.reverse_cons, List.reverse_nil, List.nil_append, List.cons_append, List.drop, List.take, lay]
      go_frame
      have HG2 := Lib.hid (HG.out.grown hb2 hne4)
      have HK02 := Lib.hid (HK0.out.grown hb2 hne0)
      have HK12 := Lib.hid (HK1.out.grown hb2 hne1)
      have HB2 := Lib.hid (HB.out.grown hb2 hwr hobg)
      have HO2 := Lib.hid ho39
      have y0 := HG2.out.cell 0
      have y1 := HG2.out.cell 1
      have z0 := HG2.out.frozen 0
      have z1 := HG2.out.frozen 1
      clear hb2 hb38 hg38 ho39 hK0 x2 hG
      go_wp2_with fail
      go_roundw
      case rel => exact ⟨k2 + 1, e + 4, c39, A39, by omega, by omega, by go_num, Lib.hid (by have := HE.out; omega), HG2.out.set_ 1 _, by rw [HSN.out]; exact HO2.out.setBlk HG2.out (by decide) 1 _, HK02.out.far (p := ⟨g4, 1, none⟩) (show w.heap.size ≠ g4 by omega) _, HK12.out.far (p := ⟨g4, 1, none⟩) (show w.heap.size + 1 ≠ g4 by omega) _, HB2.out.setCell (p := ⟨g4, 1, none⟩) (show w.heap.size ≤ g4 by omega) _⟩
      case measure => simp [intOf]; omega
    · have hkn : k2 = NN := by have := HNN.out; have := HE.out; omega
      subst hkn
      have hlt2 : ¬ (e : Int) + 4 ≤ n := by omega
      go_wp2_with fail
      rw [← drawn_eq 8]
      clear x2 hG hK0
      cases hd : decide (k = 192 ∧ f = 0 ∧ xs = Y)
      · have HOK := Lib.hid (HOKD.out _ hd)
        have HSM2 := Lib.hid (HSM.out _ hd)
        clear hd
        refine wp_region_grow_tail 4 (by kernel_rfl) [(Is (.agg #[.int .u32 (q : Int), .slice As k2 cs])), (NewAgg 5 w.heap.size Y.length Y (fun s => .agg #[.int .u8 ((192 : UInt8).toNat : Int), .int .u8 ((0 : UInt8).toNat : Int), s])), (Is (.agg #[.int .u8 (k.toNat : Int), .int .u8 (f.toNat : Int), .slice A n c])), (Is (.bool false))] rfl ?_ (by kernel_rfl) (by kernel_rfl) ?_ ?_
        · intro p hp
          simp only [List.mem_cons, List.not_mem_nil, or_false] at hp
          rcases hp with rfl | rfl | rfl | rfl
          · exact Lasts.is _
          · exact Lasts.newAgg _ _ _ _ _
          · exact Lasts.is _
          · exact Lasts.is _
        · refine ⟨?_, ?_, ?_, ?_, trivial⟩
          · intro listed a w1 hl hc
            have h4 : a.tmps[4]?.getD undef = .pointer (some ⟨g4, 0, none⟩) := (hc.was 4 (by kernel_rfl)).trans rfl
            have kb := HG.out.below hc.g HG.out.lt
            have x0 : w1.cell? ⟨g4, 0, none⟩ = some (.int .u32 (q : Int)) := kb.cell 0
            have x1 : w1.cell? ⟨g4, 1, none⟩ = some (.slice As k2 cs) := kb.cell 1
            clear kb
            refine does_value rfl rfl (.agg #[.int .u32 (q : Int), .slice As k2 cs]) w1 ?_ (Below.refl _ _) rfl
            clear hc hl
            go_simp
          · intro listed a w1 hl hc
            have h41 : a.tmps[41]?.getD undef = .agg #[.int .u32 (q : Int), .slice As k2 cs] := hc.dep hl 0 41 rfl (by kernel_rfl)
            refine does_call rfl rfl 37 #[.agg #[.int .u32 (q : Int), .slice As k2 cs]] ?_ ((HPT.out w1 As cs (by omega) (HO.out.below hc.g)).mono fun e w' ⟨A9, c9, he, ho, hb⟩ => ⟨_, he, hb, A9, c9, rfl, ho.more (Nat.le_trans HB.out.size hc.g.size)⟩)
            clear hc hl
            go_simp
          · intro listed a w1 hl hc
            have h1 : a.tmps[1]?.getD undef = .pointer (some ⟨w.heap.size, 0, none⟩) := (hc.was 1 (by kernel_rfl)).trans rfl
            have kb := HK0.out.below hc.g HK0.out.lt
            have x0 : w1.cell? ⟨w.heap.size, 0, none⟩ = some (.int .u8 (k.toNat : Int)) := kb.cell 0
            have x1 : w1.cell? ⟨w.heap.size, 1, none⟩ = some (.int .u8 (f.toNat : Int)) := kb.cell 1
            have x2 : w1.cell? ⟨w.heap.size, 2, none⟩ = some (.slice A n c) := kb.cell 2
            clear kb
            refine does_value rfl rfl (.agg #[.int .u8 (k.toNat : Int), .int .u8 (f.toNat : Int), .slice A n c]) w1 ?_ (Below.refl _ _) rfl
            clear hc hl
            go_simp
          · intro listed a w1 hl hc
            obtain ⟨A42, c42, h42, ho42⟩ := hc.dep hl 1 42 rfl (by kernel_rfl)
            have h43 : a.tmps[43]?.getD undef = .agg #[.int .u8 (k.toNat : Int), .int .u8 (f.toNat : Int), .slice A n c] := hc.dep hl 2 43 rfl (by kernel_rfl)
            refine does_call rfl rfl 18 #[.agg #[.int .u8 ((192 : UInt8).toNat : Int), .int .u8 ((0 : UInt8).toNat : Int), .slice A42 Y.length c42], .agg #[.int .u8 (k.toNat : Int), .int .u8 (f.toNat : Int), .slice A n c]] ?_ ((HSM2.out w1 _ _ (HB.out.trans (hc.g.mono HB.out.size)) ho42).mono fun e w' ⟨he, hb⟩ => ⟨_, he, hb, rfl⟩)
            clear hc hl
            go_simp
        intro w2 hb2
        rintro _ rfl _ ⟨A42, c42, rfl, ho42⟩ _ rfl _ rfl
        simp only [Thus, List.reverse_cons, List.reverse_nil, List.nil_append, List.cons_append, List.drop, List.take, lay]
        go_frame
        have K1e := Lib.hid (HK1.out.below hb2 HK1.out.lt)
        have B6 := Lib.hid (below_then HB.out (Nat.le_refl _) hb2)
        have O6 := Lib.hid (HO.out.below hb2)
        have G9 := Lib.hid (HG.out.below hb2 HG.out.lt)
        clear hb2 HK1 HB HO HG ho42
        have y0 := K1e.out.cell 0
        have y1 := K1e.out.cell 1
        have z0 := K1e.out.frozen 0
        have z1 := K1e.out.frozen 1
        go_wp2_with fail
        have H3 := ((K1e.out.set_ 0 (.int .u32 0)).set_ 1 (.slice none 0 0))
        exact bodyPost_ret (v := .tuple #[.agg #[.int .u32 0, .slice none 0 0], .int .i64 7]) (by simp [results, Try.results36, go_sem, H3.cell]) rfl ⟨none, 0, 0, by rw [HOK.out, ansF_off HOK.out]; rfl, by rw [ansF_off HOK.out]; exact World.ownsRow_nil _ _ _ _, by rw [ansF_off HOK.out]; rfl, ((B6.out.setCell (p := ⟨w.heap.size + 1, 0, none⟩) (show w.heap.size ≤ w.heap.size + 1 by omega) (.int .u32 0)).setCell (p := ⟨w.heap.size + 1, 1, none⟩) (show w.heap.size ≤ w.heap.size + 1 by omega) (.slice none 0 0))⟩
      · have HOK := Lib.hid (HOKD.out _ hd)
        have HSM2 := Lib.hid (HSM.out _ hd)
        clear hd
        refine wp_region_grow_tail 4 (by kernel_rfl) [(Is (.agg #[.int .u32 (q : Int), .slice As k2 cs])), (NewAgg 5 w.heap.size Y.length Y (fun s => .agg #[.int .u8 ((192 : UInt8).toNat : Int), .int .u8 ((0 : UInt8).toNat : Int), s])), (Is (.agg #[.int .u8 (k.toNat : Int), .int .u8 (f.toNat : Int), .slice A n c])), (Is (.bool true))] rfl ?_ (by kernel_rfl) (by kernel_rfl) ?_ ?_
        · intro p hp
          simp only [List.mem_cons, List.not_mem_nil, or_false] at hp
          rcases hp with rfl | rfl | rfl | rfl
          · exact Lasts.is _
          · exact Lasts.newAgg _ _ _ _ _
          · exact Lasts.is _
          · exact Lasts.is _
        · refine ⟨?_, ?_, ?_, ?_, trivial⟩
          · intro listed a w1 hl hc
            have h4 : a.tmps[4]?.getD undef = .pointer (some ⟨g4, 0, none⟩) := (hc.was 4 (by kernel_rfl)).trans rfl
            have kb := HG.out.below hc.g HG.out.lt
            have x0 : w1.cell? ⟨g4, 0, none⟩ = some (.int .u32 (q : Int)) := kb.cell 0
            have x1 : w1.cell? ⟨g4, 1, none⟩ = some (.slice As k2 cs) := kb.cell 1
            clear kb
            refine does_value rfl rfl (.agg #[.int .u32 (q : Int), .slice As k2 cs]) w1 ?_ (Below.refl _ _) rfl
            clear hc hl
            go_simp
          · intro listed a w1 hl hc
            have h41 : a.tmps[41]?.getD undef = .agg #[.int .u32 (q : Int), .slice As k2 cs] := hc.dep hl 0 41 rfl (by kernel_rfl)
            refine does_call rfl rfl 37 #[.agg #[.int .u32 (q : Int), .slice As k2 cs]] ?_ ((HPT.out w1 As cs (by omega) (HO.out.below hc.g)).mono fun e w' ⟨A9, c9, he, ho, hb⟩ => ⟨_, he, hb, A9, c9, rfl, ho.more (Nat.le_trans HB.out.size hc.g.size)⟩)
            clear hc hl
            go_simp
          · intro listed a w1 hl hc
            have h1 : a.tmps[1]?.getD undef = .pointer (some ⟨w.heap.size, 0, none⟩) := (hc.was 1 (by kernel_rfl)).trans rfl
            have kb := HK0.out.below hc.g HK0.out.lt
            have x0 : w1.cell? ⟨w.heap.size, 0, none⟩ = some (.int .u8 (k.toNat : Int)) := kb.cell 0
            have x1 : w1.cell? ⟨w.heap.size, 1, none⟩ = some (.int .u8 (f.toNat : Int)) := kb.cell 1
            have x2 : w1.cell? ⟨w.heap.size, 2, none⟩ = some (.slice A n c) := kb.cell 2
            clear kb
            refine does_value rfl rfl (.agg #[.int .u8 (k.toNat : Int), .int .u8 (f.toNat : Int), .slice A n c]) w1 ?_ (Below.refl _ _) rfl
            clear hc hl
            go_simp
          · intro listed a w1 hl hc
            obtain ⟨A42, c42, h42, ho42⟩ := hc.dep hl 1 42 rfl (by kernel_rfl)
            have h43 : a.tmps[43]?.getD undef = .agg #[.int .u8 (k.toNat : Int), .int .u8 (f.toNat : Int), .slice A n c] := hc.dep hl 2 43 rfl (by kernel_rfl)
            refine does_call rfl rfl 18 #[.agg #[.int .u8 ((192 : UInt8).toNat : Int), .int .u8 ((0 : UInt8).toNat : Int), .slice A42 Y.length c42], .agg #[.int .u8 (k.toNat : Int), .int .u8 (f.toNat : Int), .slice A n c]] ?_ ((HSM2.out w1 _ _ (HB.out.trans (hc.g.mono HB.out.size)) ho42).mono fun e w' ⟨he, hb⟩ => ⟨_, he, hb, rfl⟩)
            clear hc hl
            go_simp
        intro w2 hb2
        rintro _ rfl _ ⟨A42, c42, rfl, ho42⟩ _ rfl _ rfl
        simp only [Thus, List.reverse_cons, List.reverse_nil, List.nil_append, List.cons_append, List.drop, List.take, lay]
        go_frame
        have K1e := Lib.hid (HK1.out.below hb2 HK1.out.lt)
        have B6 := Lib.hid (below_then HB.out (Nat.le_refl _) hb2)
        have O6 := Lib.hid (HO.out.below hb2)
        have G9 := Lib.hid (HG.out.below hb2 HG.out.lt)
        clear hb2 HK1 HB HO HG ho42
        have x0 := G9.out.cell 0
        have x1 := G9.out.cell 1
        have y0 := K1e.out.cell 0
        have y1 := K1e.out.cell 1
        have z0 := K1e.out.frozen 0
        have z1 := K1e.out.frozen 1
        go_wp2_with fail
        have H3 := ((K1e.out.set_ 0 (.int .u32 (q : Int))).set_ 1 (.slice As k2 cs))
        exact bodyPost_ret (v := .tuple #[.agg #[.int .u32 (q : Int), .slice As k2 cs], .int .i64 0]) (by simp [results, Try.results36, go_sem, H3.cell]) rfl ⟨As, k2, cs, by rw [HOK.out, HANS.out HOK.out]; rfl, by rw [HANS.out HOK.out]; exact ((O6.out.setBlk K1e.out (by decide) 0 (.int .u32 (q : Int))).setBlk (K1e.out.set_ 0 (.int .u32 (q : Int))) (by decide) 1 (.slice As k2 cs)), by rw [HANS.out HOK.out]; exact (length_getG _ _ _).symm, ((B6.out.setCell (p := ⟨w.heap.size + 1, 0, none⟩) (show w.heap.size ≤ w.heap.size + 1 by omega) (.int .u32 (q : Int))).setCell (p := ⟨w.heap.size + 1, 1, none⟩) (show w.heap.size ≤ w.heap.size + 1 by omega) (.slice As k2 cs))⟩
theorem refGetForward_any (k f : UInt8) (A : Option Addr) (n c : Nat) (xs : List UInt8) (w : World) (hn : n ≤ 1099511627776) (hc : n ≤ c) (hcm : c ≤ maxLen) (hx : xs.length = n) (hr : Rd w w.heap.size A xs) : GetsF 36 #[.agg #[.int .u8 (k.toNat : Int), .int .u8 (f.toNat : Int), .slice A n c]] k f xs w := by
  by_cases hl : n < 4
  · exact refGetForward_short k f A n c xs w hn hc hcm hx hr hl
  · exact refGetForward_long k f A n c xs w hn hc hcm hx hr (by omega)
end Go.Proofs.Ytalgkokgaibloaa
