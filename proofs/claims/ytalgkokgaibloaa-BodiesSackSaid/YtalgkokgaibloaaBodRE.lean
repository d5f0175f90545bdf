/-
  The reference: GetSack.
-/
import Derived.Test.YtalgkokgaibloaaBodRA
import Derived.Test.YtalgkokgaibloaaBodT
import Derived.Test.YtalgkokgaibloaaBodK
namespace Go.Proofs.Ytalgkokgaibloaa
open Go.RowKit
set_option linter.unusedVariables false

theorem wrap_u32q {a : Nat} (h : a < 4294967296) : IntKind.u32.wrap (a : Int) = a := by
  simp [IntKind.wrap, IntKind.bits, IntKind.signed]
  omega
theorem wrap_u16q {a : Nat} (h : a < 65536) : IntKind.u16.wrap (a : Int) = a := by
  simp [IntKind.wrap, IntKind.bits, IntKind.signed]
  omega
theorem ansS_off {k f : UInt8} {xs : List UInt8} (h : okS k f xs = false) : ansS k f xs = noS := by simp [ansS, h]
theorem bne_int {a b : Int} (h : a ≠ b) : (a != b) = true := by simp [bne, h]
theorem bne_int_no {a b : Int} (h : a = b) : (a != b) = false := by simp [bne, h]
set_option maxRecDepth 100000 in
set_option maxHeartbeats 4000000 in
theorem refGetSack_short (k f : UInt8) (A : Option Addr) (n c : Nat) (xs : List UInt8) (w : World) (hn : n ≤ 131072) (hc : n ≤ c) (hcm : c ≤ maxLen) (hx : xs.length = n) (hr : Rd w w.heap.size A xs) (hl : n < 12) :
    GetsS 31 #[.agg #[.int .u8 (k.toNat : Int), .int .u8 (f.toNat : Int), .slice A n c]] k f xs w := by
  have hz := zero_sack
  have hok : okS k f xs = false := okS_short (by omega)
  have hra := ansS_off hok
  unfold GetsS
  rw [hok, hra]
  have hs1 : (n : Int) < 12 := by omega
  clear hx hr hra hok
  have b0 : Blk (w.alloc (.cells #[.int .u8 (k.toNat : Int), .int .u8 (f.toNat : Int), .slice A n c] 28)) w.heap.size 28 #[.int .u8 (k.toNat : Int), .int .u8 (f.toNat : Int), .slice A n c] := Blk.new w 28 #[.int .u8 (k.toNat : Int), .int .u8 (f.toNat : Int), .slice A n c]
  have b1 : Blk ((w.alloc (.cells #[.int .u8 (k.toNat : Int), .int .u8 (f.toNat : Int), .slice A n c] 28)).alloc (.cells #[.int .u32 0, .int .u32 0, .slice none 0 0, .slice none 0 0] 52)) (w.heap.size + 1) 52 #[.int .u32 0, .int .u32 0, .slice none 0 0, .slice none 0 0] := by simpa using Blk.new (w.alloc (.cells #[.int .u8 (k.toNat : Int), .int .u8 (f.toNat : Int), .slice A n c] 28)) 52 #[.int .u32 0, .int .u32 0, .slice none 0 0, .slice none 0 0]
  have K0 := Lib.hid (b0.alloc (.cells #[.int .u32 0, .int .u32 0, .slice none 0 0, .slice none 0 0] 52))
  have K1 := Lib.hid b1
  have B0 : Hid (Below w.heap.size w ((w.alloc (.cells #[.int .u8 (k.toNat : Int), .int .u8 (f.toNat : Int), .slice A n c] 28)).alloc (.cells #[.int .u32 0, .int .u32 0, .slice none 0 0, .slice none 0 0] 52))) := Lib.hid (Wr.below_ (((Wr.refl 5 w.heap.size w).alloc (.cells #[.int .u8 (k.toNat : Int), .int .u8 (f.toNat : Int), .slice A n c] 28)).alloc (.cells #[.int .u32 0, .int .u32 0, .slice none 0 0, .slice none 0 0] 52)) (Nat.le_refl _))
  clear b0 b1
  go_enter Try.func31, Try.ntmps31
  go_wp2_with fail
  have H3 := K1.out
  exact bodyPost_ret (v := .tuple #[.agg #[.int .u32 0, .int .u32 0, .slice none 0 0, .slice none 0 0], .int .i64 7]) (by simp [results, Try.results31, go_sem, H3.cell]) rfl ⟨none, 0, 0, none, 0, 0, rfl, World.ownsRow_nil _ _ _ _, rfl, Ow.nil _ _ _, rfl, B0.out⟩
set_option maxRecDepth 100000 in
set_option maxHeartbeats 4000000 in
theorem refGetSack_long (k f : UInt8) (A : Option Addr) (n c : Nat) (xs : List UInt8) (w : World) (hn : n ≤ 131072) (hc : n ≤ c) (hcm : c ≤ maxLen) (hx : xs.length = n) (hr : Rd w w.heap.size A xs) (hl : 12 ≤ n) :
    GetsS 31 #[.agg #[.int .u8 (k.toNat : Int), .int .u8 (f.toNat : Int), .slice A n c]] k f xs w := by
  have hz := zero_sack
  have hcm' := hcm
  unfold maxLen at hcm'
  obtain ⟨ti, hti, htz, ht1, ht2⟩ := info_parts Try.infoGap
  obtain ⟨ui, hui, huz, hu1, hu2⟩ := info_parts Try.infoU32
  have h0b : num xs 0 4 < 4294967296 := num_lt xs 0 4
  have h4b : num xs 4 4 < 4294967296 := num_lt xs 4 4
  have h8b : num xs 8 2 < 65536 := num_lt xs 8 2
  have h10b : num xs 10 2 < 65536 := num_lt xs 10 2
  have HNU : Hid (∀ (W : World) (a s : Nat), IsSize s → a + s ≤ n → Below w.heap.size w W → Calls Try.prog 56 #[.slice A n c, .int .i64 (a : Int), .int .i64 (s : Int)] W fun e w' => e = .returned (.int .u64 (num xs a s)) ∧ Below W.heap.size W w') := Lib.hid fun W a s hs ha hW => by
    have := number_any A n c a s xs W hs (by omega) (by omega) hc hcm hx ((hr.below hW).more hW.size)
    rwa [numO_in (by omega)] at this
  have HW0 : Hid (∀ W, Below w.heap.size w W → Calls Try.prog 56 #[.slice A n c, .int .i64 0, .int .i64 4] W fun e w' => e = .returned (.int .u64 (num xs 0 4)) ∧ Below W.heap.size W w') := Lib.hid fun W hW => HNU.out W 0 4 (by unfold IsSize; omega) (by omega) hW
  have HW4 : Hid (∀ W, Below w.heap.size w W → Calls Try.prog 56 #[.slice A n c, .int .i64 4, .int .i64 4] W fun e w' => e = .returned (.int .u64 (num xs 4 4)) ∧ Below W.heap.size W w') := Lib.hid fun W hW => HNU.out W 4 4 (by unfold IsSize; omega) (by omega) hW
  have HH8 : Hid (∀ W, Below w.heap.size w W → Calls Try.prog 56 #[.slice A n c, .int .i64 8, .int .i64 2] W fun e w' => e = .returned (.int .u64 (num xs 8 2)) ∧ Below W.heap.size W w') := Lib.hid fun W hW => HNU.out W 8 2 (by unfold IsSize; omega) (by omega) hW
  have HH10 : Hid (∀ W, Below w.heap.size w W → Calls Try.prog 56 #[.slice A n c, .int .i64 10, .int .i64 2] W fun e w' => e = .returned (.int .u64 (num xs 10 2)) ∧ Below W.heap.size W w') := Lib.hid fun W hW => HNU.out W 10 2 (by unfold IsSize; omega) (by omega) hW
  have HLEN : Hid (n ≠ 12 + 4 * num xs 8 2 + 4 * num xs 10 2 → okS k f xs = false) := Lib.hid fun h => okS_short (by omega)
  have HOFF : Hid (apartG 0 (getG xs 12 (num xs 8 2)) = false → okS k f xs = false) := Lib.hid fun h => by
    have h2 : apartG 0 (parseS xs).gaps = false := h
    unfold okS
    rw [h2]
    rfl
  have HOKD : Hid (∀ r, apartG 0 (getG xs 12 (num xs 8 2)) = true → decide (k = 3 ∧ f = 0 ∧ xs = bodyS ⟨num xs 0 4, num xs 4 4, getG xs 12 (num xs 8 2), getN xs (12 + 4 * num xs 8 2) (num xs 10 2)⟩) = r → okS k f xs = r) := Lib.hid fun r h h1 => by
    have h2 : apartG 0 (parseS xs).gaps = true := h
    have h3 : decide (k = 3 ∧ f = 0 ∧ xs = bodyS (parseS xs)) = r := h1
    unfold okS
    rw [h2, h3]
    rfl
  have HANS : Hid (okS k f xs = true → ansS k f xs = ⟨num xs 0 4, num xs 4 4, getG xs 12 (num xs 8 2), getN xs (12 + 4 * num xs 8 2) (num xs 10 2)⟩) := Lib.hid fun h => by unfold ansS; rw [h]; rfl
  have HSM : Hid (∀ r, decide (k = 3 ∧ f = 0 ∧ xs = bodyS ⟨num xs 0 4, num xs 4 4, getG xs 12 (num xs 8 2), getN xs (12 + 4 * num xs 8 2) (num xs 10 2)⟩) = r → ∀ (W : World) (A' : Option Addr) (c' : Nat), Below w.heap.size w W → Own8 W 5 w.heap.size A' (bodyS ⟨num xs 0 4, num xs 4 4, getG xs 12 (num xs 8 2), getN xs (12 + 4 * num xs 8 2) (num xs 10 2)⟩).length c' (bodyS ⟨num xs 0 4, num xs 4 4, getG xs 12 (num xs 8 2), getN xs (12 + 4 * num xs 8 2) (num xs 10 2)⟩) → Calls Try.prog 18 #[.agg #[.int .u8 ((3 : UInt8).toNat : Int), .int .u8 ((0 : UInt8).toNat : Int), .slice A' (bodyS ⟨num xs 0 4, num xs 4 4, getG xs 12 (num xs 8 2), getN xs (12 + 4 * num xs 8 2) (num xs 10 2)⟩).length c'], .agg #[.int .u8 (k.toNat : Int), .int .u8 (f.toNat : Int), .slice A n c]] W fun e w' => e = .returned (.bool r) ∧ Below W.heap.size W w') := Lib.hid fun r hd => sameR (c := c) (by omega) hx hr hd
  have HPT : Hid (∀ W (As : Option Addr) (cs : Nat) (Ad : Option Addr) (cd : Nat), Og W 79 w.heap.size (.slice As (num xs 8 2) cs) (getG xs 12 (num xs 8 2)) → Ow W 22 w.heap.size (.slice Ad (num xs 10 2) cd) (ints (getN xs (12 + 4 * num xs 8 2) (num xs 10 2))) → Puts 32 #[.agg #[.int .u32 (num xs 0 4 : Int), .int .u32 (num xs 4 4 : Int), .slice As (num xs 8 2 : Nat) cs, .slice Ad (num xs 10 2 : Nat) cd]] 3 0 (bodyS ⟨num xs 0 4, num xs 4 4, getG xs 12 (num xs 8 2), getN xs (12 + 4 * num xs 8 2) (num xs 10 2)⟩) W) := Lib.hid fun W As cs Ad cd ho hp => refPutSack_any _ _ _ _ h0b h4b (getG_bd xs _ _) (getN_bd xs _ _) As Ad _ cs _ cd W (by omega) (by omega) (length_getG xs _ _) (length_getN xs _ _) ho.rg hp.ri
  have HAP : Hid (∀ r, apartG 0 (getG xs 12 (num xs 8 2)) = r → ∀ W (As : Option Addr) (cs : Nat), Og W 79 w.heap.size (.slice As (num xs 8 2) cs) (getG xs 12 (num xs 8 2)) → Calls Try.prog 69 #[.slice As (num xs 8 2) cs] W fun e w' => e = .returned (.bool r) ∧ Below W.heap.size W w') := Lib.hid fun r hv W As cs ho => by
    have := refApart_any As (num xs 8 2) cs _ W (by omega) (length_getG xs (num xs 8 2) 12) ho.rg (getG_bd xs _ _)
    rwa [hv] at this
  obtain ⟨q0, eq0⟩ : ∃ q, q = num xs 0 4 := ⟨_, rfl⟩
  rw [← eq0] at HW0 h0b HPT HSM HOKD HANS
  obtain ⟨q4, eq4⟩ : ∃ q, q = num xs 4 4 := ⟨_, rfl⟩
  rw [← eq4] at HW4 h4b HPT HSM HOKD HANS
  obtain ⟨h8, eh8⟩ : ∃ q, q = num xs 8 2 := ⟨_, rfl⟩
  rw [← eh8] at HH8 h8b HPT HSM HOKD HANS HLEN HAP HOFF
  obtain ⟨h10, eh10⟩ : ∃ q, q = num xs 10 2 := ⟨_, rfl⟩
  rw [← eh10] at HH10 h10b HPT HSM HOKD HANS HLEN
  obtain ⟨Y, eY⟩ : ∃ Y, Y = bodyS ⟨q0, q4, getG xs 12 h8, getN xs (12 + 4 * h8) h10⟩ := ⟨_, rfl⟩
  rw [← eY] at HOKD HSM HPT
  have hs1 : ¬ (n : Int) < 12 := by omega
  unfold GetsS
  clear eq0 eq4 eh8 eh10 eY hx hr
  have b0 : Blk (w.alloc (.cells #[.int .u8 (k.toNat : Int), .int .u8 (f.toNat : Int), .slice A n c] 28)) w.heap.size 28 #[.int .u8 (k.toNat : Int), .int .u8 (f.toNat : Int), .slice A n c] := Blk.new w 28 #[.int .u8 (k.toNat : Int), .int .u8 (f.toNat : Int), .slice A n c]
  have b1 : Blk ((w.alloc (.cells #[.int .u8 (k.toNat : Int), .int .u8 (f.toNat : Int), .slice A n c] 28)).alloc (.cells #[.int .u32 0, .int .u32 0, .slice none 0 0, .slice none 0 0] 52)) (w.heap.size + 1) 52 #[.int .u32 0, .int .u32 0, .slice none 0 0, .slice none 0 0] := by simpa using Blk.new (w.alloc (.cells #[.int .u8 (k.toNat : Int), .int .u8 (f.toNat : Int), .slice A n c] 28)) 52 #[.int .u32 0, .int .u32 0, .slice none 0 0, .slice none 0 0]
  have K0 := Lib.hid (b0.alloc (.cells #[.int .u32 0, .int .u32 0, .slice none 0 0, .slice none 0 0] 52))
  have K1 := Lib.hid b1
  have B0 : Hid (Below w.heap.size w ((w.alloc (.cells #[.int .u8 (k.toNat : Int), .int .u8 (f.toNat : Int), .slice A n c] 28)).alloc (.cells #[.int .u32 0, .int .u32 0, .slice none 0 0, .slice none 0 0] 52))) := Lib.hid (Wr.below_ (((Wr.refl 5 w.heap.size w).alloc (.cells #[.int .u8 (k.toNat : Int), .int .u8 (f.toNat : Int), .slice A n c] 28)).alloc (.cells #[.int .u32 0, .int .u32 0, .slice none 0 0, .slice none 0 0] 52)) (Nat.le_refl _))
  clear b0 b1
  go_enter Try.func31, Try.ntmps31
  rw [drawn_eq 3, drawn_eq 11, drawn_eq 15, drawn_eq 16]
  go_wp2_with fail
  generalize ((w.alloc (.cells #[.int .u8 (k.toNat : Int), .int .u8 (f.toNat : Int), .slice A n c] 28)).alloc (.cells #[.int .u32 0, .int .u32 0, .slice none 0 0, .slice none 0 0] 52)) = v0 at K0 K1 B0 ⊢
  rw [← drawn_eq 3]
  refine wp_region_grow_tail 10 (by kernel_rfl) [(Is (.pointer (some ⟨w.heap.size, 2, none⟩))), (Is (.slice A n c)), (Is (.int .u64 (q0 : Int))), (Is (.int .u32 (q0 : Int))), (Is (.pointer (some ⟨w.heap.size, 2, none⟩))), (Is (.slice A n c)), (Is (.int .u64 (q4 : Int))), (Is (.int .u32 (q4 : Int))), (Is (.agg #[.int .u32 (q0 : Int), .int .u32 (q4 : Int), .slice none 0 0, .slice none 0 0])), (NewBlk v0.heap.size 52 #[.int .u32 0, .int .u32 0, .slice none 0 0, .slice none 0 0])] rfl ?_ (by kernel_rfl) (by kernel_rfl) ?_ ?_
  · intro p hp
    simp only [List.mem_cons, List.not_mem_nil, or_false] at hp
    rcases hp with rfl | rfl | rfl | rfl | rfl | rfl | rfl | rfl | rfl | rfl
    · exact Lasts.is _
    · exact Lasts.is _
    · exact Lasts.is _
    · exact Lasts.is _
    · exact Lasts.is _
    · exact Lasts.is _
    · exact Lasts.is _
    · exact Lasts.is _
    · exact Lasts.is _
    · exact Lasts.newBlk _ _ _
  · refine ⟨?_, ?_, ?_, ?_, ?_, ?_, ?_, ?_, ?_, ?_, trivial⟩
    · intro listed a w1 hl hc
      have h1 : a.tmps[1]?.getD undef = .pointer (some ⟨w.heap.size, 0, none⟩) := (hc.was 1 (by kernel_rfl)).trans rfl
      refine does_value rfl rfl (.pointer (some ⟨w.heap.size, 2, none⟩)) w1 ?_ (Below.refl _ _) rfl
      clear hc hl
      go_simp
    · intro listed a w1 hl hc
      have h14 : a.tmps[14]?.getD undef = .pointer (some ⟨w.heap.size, 2, none⟩) := hc.dep hl 0 14 rfl (by kernel_rfl)
      have kb := K0.out.below hc.g K0.out.lt
      have x2 : w1.cell? ⟨w.heap.size, 2, none⟩ = some (.slice A n c) := kb.cell 2
      clear kb
      refine does_value rfl rfl (.slice A n c) w1 ?_ (Below.refl _ _) rfl
      clear hc hl
      go_simp
    · intro listed a w1 hl hc
      have h15 : a.tmps[15]?.getD undef = .slice A n c := hc.dep hl 1 15 rfl (by kernel_rfl)
      refine does_call rfl rfl 56 #[.slice A n c, .int .i64 0, .int .i64 4] ?_ ((HW0.out w1 (B0.out.trans (hc.g.mono B0.out.size))).mono fun e w' ⟨he, hb⟩ => ⟨_, he, hb, rfl⟩)
      clear hc hl
      go_simp
    · intro listed a w1 hl hc
      have h16 : a.tmps[16]?.getD undef = .int .u64 (q0 : Int) := hc.dep hl 2 16 rfl (by kernel_rfl)
      refine does_value rfl rfl (.int .u32 (q0 : Int)) w1 ?_ (Below.refl _ _) rfl
      clear hc hl
      go_simp
      exact wrap_u32q h0b
    · intro listed a w1 hl hc
      have h1 : a.tmps[1]?.getD undef = .pointer (some ⟨w.heap.size, 0, none⟩) := (hc.was 1 (by kernel_rfl)).trans rfl
      refine does_value rfl rfl (.pointer (some ⟨w.heap.size, 2, none⟩)) w1 ?_ (Below.refl _ _) rfl
      clear hc hl
      go_simp
    · intro listed a w1 hl hc
      have h18 : a.tmps[18]?.getD undef = .pointer (some ⟨w.heap.size, 2, none⟩) := hc.dep hl 4 18 rfl (by kernel_rfl)
      have kb := K0.out.below hc.g K0.out.lt
      have x2 : w1.cell? ⟨w.heap.size, 2, none⟩ = some (.slice A n c) := kb.cell 2
      clear kb
      refine does_value rfl rfl (.slice A n c) w1 ?_ (Below.refl _ _) rfl
      clear hc hl
      go_simp
    · intro listed a w1 hl hc
      have h19 : a.tmps[19]?.getD undef = .slice A n c := hc.dep hl 5 19 rfl (by kernel_rfl)
      refine does_call rfl rfl 56 #[.slice A n c, .int .i64 4, .int .i64 4] ?_ ((HW4.out w1 (B0.out.trans (hc.g.mono B0.out.size))).mono fun e w' ⟨he, hb⟩ => ⟨_, he, hb, rfl⟩)
      clear hc hl
      go_simp
    · intro listed a w1 hl hc
      have h20 : a.tmps[20]?.getD undef = .int .u64 (q4 : Int) := hc.dep hl 6 20 rfl (by kernel_rfl)
      refine does_value rfl rfl (.int .u32 (q4 : Int)) w1 ?_ (Below.refl _ _) rfl
      clear hc hl
      go_simp
      exact wrap_u32q h4b
    · intro listed a w1 hl hc
      have h17 : a.tmps[17]?.getD undef = .int .u32 (q0 : Int) := hc.dep hl 3 17 rfl (by kernel_rfl)
      have h21 : a.tmps[21]?.getD undef = .int .u32 (q4 : Int) := hc.dep hl 7 21 rfl (by kernel_rfl)
      refine does_value rfl rfl (.agg #[.int .u32 (q0 : Int), .int .u32 (q4 : Int), .slice none 0 0, .slice none 0 0]) w1 ?_ (Below.refl _ _) rfl
      clear hc hl
      go_simp
    · intro listed a w1 hl hc
      refine does_value rfl rfl (.pointer (some ⟨w1.heap.size, 0, none⟩)) (w1.alloc (.cells #[.int .u32 0, .int .u32 0, .slice none 0 0, .slice none 0 0] 52)) ?_ (below_new w1 _) ⟨_, rfl, hc.g.size, Blk.new _ _ _⟩
      clear hc hl
      go_simp
  intro w2 hb2
  rintro _ rfl _ rfl _ rfl _ rfl _ rfl _ rfl _ rfl _ rfl _ rfl _ ⟨g4, rfl, hg4, hb4⟩
  simp only [Thus, List.reverse_cons, List.reverse_nil, List.nil_append, List.cons_append, List.drop, List.take, lay]
  go_frame
  have hl0 := K0.out.lt
  have hl1 := K1.out.lt
  have HG := Lib.hid hb4
  have hge : w.heap.size + 1 + 1 ≤ g4 := by omega
  have y0 := HG.out.cell 0
  have y1 := HG.out.cell 1
  have y2 := HG.out.cell 2
  have y3 := HG.out.cell 3
  have z0 := HG.out.frozen 0
  have z1 := HG.out.frozen 1
  have z2 := HG.out.frozen 2
  have z3 := HG.out.frozen 3
  have G3 : Hid (Blk ((((w2.setCell ⟨g4, 0, none⟩ (.int .u32 (q0 : Int))).setCell ⟨g4, 1, none⟩ (.int .u32 (q4 : Int))).setCell ⟨g4, 2, none⟩ (.slice none 0 0)).setCell ⟨g4, 3, none⟩ (.slice none 0 0)) g4 52 #[.int .u32 (q0 : Int), .int .u32 (q4 : Int), .slice none 0 0, .slice none 0 0]) := Lib.hid ((((hb4.set_ 0 (.int .u32 (q0 : Int))).set_ 1 (.int .u32 (q4 : Int))).set_ 2 (.slice none 0 0)).set_ 3 (.slice none 0 0))
  have K0b := Lib.hid (((((K0.out.below hb2 K0.out.lt).far (p := ⟨g4, 0, none⟩) (show w.heap.size ≠ g4 by omega) (.int .u32 (q0 : Int))).far (p := ⟨g4, 1, none⟩) (show w.heap.size ≠ g4 by omega) (.int .u32 (q4 : Int))).far (p := ⟨g4, 2, none⟩) (show w.heap.size ≠ g4 by omega) (.slice none 0 0)).far (p := ⟨g4, 3, none⟩) (show w.heap.size ≠ g4 by omega) (.slice none 0 0))
  have K1b := Lib.hid (((((K1.out.below hb2 K1.out.lt).far (p := ⟨g4, 0, none⟩) (show w.heap.size + 1 ≠ g4 by omega) (.int .u32 (q0 : Int))).far (p := ⟨g4, 1, none⟩) (show w.heap.size + 1 ≠ g4 by omega) (.int .u32 (q4 : Int))).far (p := ⟨g4, 2, none⟩) (show w.heap.size + 1 ≠ g4 by omega) (.slice none 0 0)).far (p := ⟨g4, 3, none⟩) (show w.heap.size + 1 ≠ g4 by omega) (.slice none 0 0))
  have B3 := Lib.hid (((((below_then B0.out (Nat.le_refl _) hb2).setCell (p := ⟨g4, 0, none⟩) (show w.heap.size ≤ g4 by omega) (.int .u32 (q0 : Int))).setCell (p := ⟨g4, 1, none⟩) (show w.heap.size ≤ g4 by omega) (.int .u32 (q4 : Int))).setCell (p := ⟨g4, 2, none⟩) (show w.heap.size ≤ g4 by omega) (.slice none 0 0)).setCell (p := ⟨g4, 3, none⟩) (show w.heap.size ≤ g4 by omega) (.slice none 0 0))
  have hgl : g4 < w2.heap.size := hb4.lt
  clear hb2 hb4 hg4 hl0 hl1 K0 K1 B0 HG
  have x0 := K0b.out.cell 0
  have x1 := K0b.out.cell 1
  have x2 := K0b.out.cell 2
  go_wp2_with fail
  generalize ((((w2.setCell ⟨g4, 0, none⟩ (.int .u32 (q0 : Int))).setCell ⟨g4, 1, none⟩ (.int .u32 (q4 : Int))).setCell ⟨g4, 2, none⟩ (.slice none 0 0)).setCell ⟨g4, 3, none⟩ (.slice none 0 0)) = v3 at G3 K0b K1b B3 ⊢
  clear hgl x0 x1 x2 y0 z0 y1 z1 y2 z2 y3 z3
  refine (HH8.out v3 B3.out).mono ?_
  rintro e w4 ⟨rfl, hb⟩
  have G4 := Lib.hid (G3.out.below hb G3.out.lt)
  have K0c := Lib.hid (K0b.out.below hb K0b.out.lt)
  have K1c := Lib.hid (K1b.out.below hb K1b.out.lt)
  have B4 := Lib.hid (below_then B3.out (Nat.le_refl _) hb)
  clear hb G3 K0b K1b B3
  have x0 := K0c.out.cell 0
  have x1 := K0c.out.cell 1
  have x2 := K0c.out.cell 2
  go_wp2_with fail
  clear x0 x1 x2
  refine (HH10.out w4 B4.out).mono ?_
  rintro e w5 ⟨rfl, hb⟩
  have G5 := Lib.hid (G4.out.below hb G4.out.lt)
  have K0d := Lib.hid (K0c.out.below hb K0c.out.lt)
  have K1d := Lib.hid (K1c.out.below hb K1c.out.lt)
  have B5 := Lib.hid (below_then B4.out (Nat.le_refl _) hb)
  clear hb G4 K0c K1c B4
  have x0 := K0d.out.cell 0
  have x1 := K0d.out.cell 1
  have x2 := K0d.out.cell 2
  by_cases hlen : n = 12 + 4 * h8 + 4 * h10
  rotate_left
  · have HOK := Lib.hid (HLEN.out hlen)
    have hbn : ((n : Int) != 12 + 4 * (h8 : Int) + 4 * (h10 : Int)) = true := bne_int (by omega)
    clear hlen
    have y0 := K1d.out.cell 0
    have y1 := K1d.out.cell 1
    have y2 := K1d.out.cell 2
    have y3 := K1d.out.cell 3
    have z0 := K1d.out.frozen 0
    have z1 := K1d.out.frozen 1
    have z2 := K1d.out.frozen 2
    have z3 := K1d.out.frozen 3
    go_wp2_with fail
    have H3 := ((((K1d.out.set_ 0 (.int .u32 0)).set_ 1 (.int .u32 0)).set_ 2 (.slice none 0 0)).set_ 3 (.slice none 0 0))
    exact bodyPost_ret (v := .tuple #[.agg #[.int .u32 0, .int .u32 0, .slice none 0 0, .slice none 0 0], .int .i64 7]) (by simp [results, Try.results31, go_sem, H3.cell]) rfl ⟨none, 0, 0, none, 0, 0, by rw [HOK.out, ansS_off HOK.out]; rfl, by rw [ansS_off HOK.out]; exact World.ownsRow_nil _ _ _ _, by rw [ansS_off HOK.out]; rfl, by rw [ansS_off HOK.out]; exact Ow.nil _ _ _, by rw [ansS_off HOK.out]; rfl, ((((B5.out.setCell (p := ⟨w.heap.size + 1, 0, none⟩) (show w.heap.size ≤ w.heap.size + 1 by omega) (.int .u32 0)).setCell (p := ⟨w.heap.size + 1, 1, none⟩) (show w.heap.size ≤ w.heap.size + 1 by omega) (.int .u32 0)).setCell (p := ⟨w.heap.size + 1, 2, none⟩) (show w.heap.size ≤ w.heap.size + 1 by omega) (.slice none 0 0)).setCell (p := ⟨w.heap.size + 1, 3, none⟩) (show w.heap.size ≤ w.heap.size + 1 by omega) (.slice none 0 0))⟩
  have hbn : ((n : Int) != 12 + 4 * (h8 : Int) + 4 * (h10 : Int)) = false := bne_int_no (by omega)
  have hnl : 12 + 4 * h8 + 4 * h10 ≤ n := by omega
  have hnu : n ≤ 12 + 4 * h8 + 4 * h10 := by omega
  clear hlen
  go_wp2_with fail
  clear x0 x1 x2
  go_loopw [7] (fun i wr => ∃ (k2 cs : Nat) (As : Option Addr), k2 ≤ h8 ∧ i = .int .i64 (k2 : Int) ∧ Blk wr g4 52 #[.int .u32 (q0 : Int), .int .u32 (q4 : Int), .slice As k2 cs, .slice none 0 0] ∧ Og wr 79 w.heap.size (.slice As k2 cs) (getG xs 12 k2) ∧ Blk wr w.heap.size 28 #[.int .u8 (k.toNat : Int), .int .u8 (f.toNat : Int), .slice A n c] ∧ Blk wr (w.heap.size + 1) 52 #[.int .u32 0, .int .u32 0, .slice none 0 0, .slice none 0 0] ∧ Below w.heap.size w wr) (fun i _ => h8 - (intOf i).toNat)
  case atStart => exact ⟨0, 0, none, by omega, rfl, G5.out, World.ownsRow_nil _ _ _ _, K0d.out, K1d.out, B5.out⟩
  case round =>
    clear G5 K0d K1d B5
    obtain ⟨k2, cs, As, hk2, rfl, hG, hO, hK0, hK1, hB⟩ := hrel
    have HG := Lib.hid hG
    have HO := Lib.hid hO
    have HK0 := Lib.hid hK0
    have HK1 := Lib.hid hK1
    have HB := Lib.hid hB
    clear hG hO hK0 hK1 hB
    by_cases hlt : k2 < h8
    · have hne0 : some w.heap.size ≠ (Value.slice As k2 cs).ownBlock := owns_ne HO.out HK0.out (by decide)
      have hne4 : some g4 ≠ (Value.slice As k2 cs).ownBlock := owns_ne HO.out HG.out (by decide)
      have hne1 : some (w.heap.size + 1) ≠ (Value.slice As k2 cs).ownBlock := owns_ne HO.out HK1.out (by decide)
      have hob : ∀ b, (Value.slice As k2 cs).ownBlock = some b → b < wr.heap.size := own_lt HO.out
      have hobg : ∀ b, (Value.slice As k2 cs).ownBlock = some b → w.heap.size ≤ b := own_ge HO.out
      have hwr : w.heap.size ≤ wr.heap.size := HB.out.size
      have hpab : num xs (12 + 4 * k2) 2 < 65536 := num_lt _ _ _
      have hpbb : num xs (14 + 4 * k2) 2 < 65536 := num_lt _ _ _
      obtain ⟨pa, hpa⟩ : ∃ pa, pa = num xs (12 + 4 * k2) 2 := ⟨_, rfl⟩
      obtain ⟨pb, hpb⟩ : ∃ pb, pb = num xs (14 + 4 * k2) 2 := ⟨_, rfl⟩
      rw [← hpa] at hpab
      rw [← hpb] at hpbb
      have HH1 : Hid (∀ W, Below w.heap.size w W → Calls Try.prog 56 #[.slice A n c, .int .i64 (12 + 4 * (k2 : Int)), .int .i64 2] W fun e w' => e = .returned (.int .u64 (pa : Int)) ∧ Below W.heap.size W w') := Lib.hid fun W hW => by
              have := HNU.out W (12 + 4 * k2) 2 (by unfold IsSize; omega) (by omega) hW
              rw [← hpa] at this
              exact this
      have HH2 : Hid (∀ W, Below w.heap.size w W → Calls Try.prog 56 #[.slice A n c, .int .i64 (14 + 4 * (k2 : Int)), .int .i64 2] W fun e w' => e = .returned (.int .u64 (pb : Int)) ∧ Below W.heap.size W w') := Lib.hid fun W hW => by
              have := HNU.out W (14 + 4 * k2) 2 (by unfold IsSize; omega) (by omega) hW
              rw [← hpb] at this
              exact this
      have HSN : Hid (getG xs 12 (k2 + 1) = getG xs 12 k2 ++ [(pa, pb)]) := Lib.hid (by rw [getG_snoc, hpa, hpb, show 12 + 4 * k2 + 2 = 14 + 4 * k2 by omega])
      clear hpa hpb
      go_wp2_with fail
      rw [← drawn_eq 11]
      refine wp_region_own_tail 20 18 ((Value.slice As k2 cs).ownBlock) (by kernel_rfl) [(Is (.pointer (some ⟨g4, 2, none⟩))), (Is (.slice As k2 cs)), (Is (.pointer (some ⟨w.heap.size, 2, none⟩))), (Is (.slice A n c)), (Is (.int .i64 (k2 : Int))), (Is (.int .i64 (4 * (k2 : Int)))), (Is (.int .i64 (12 + 4 * (k2 : Int)))), (Is (.int .u64 (pa : Int))), (Is (.int .u16 (pa : Int))), (Is (.pointer (some ⟨w.heap.size, 2, none⟩))), (Is (.slice A n c)), (Is (.int .i64 (k2 : Int))), (Is (.int .i64 (4 * (k2 : Int)))), (Is (.int .i64 (14 + 4 * (k2 : Int)))), (Is (.int .u64 (pb : Int))), (Is (.int .u16 (pb : Int))), (Is (.agg #[.int .u16 (pa : Int), .int .u16 (pb : Int)])), (NewSl wr.heap.size 79 1 #[.int .u16 (pa : Int), .int .u16 (pb : Int)])] (NewOg 79 w.heap.size (k2 + 1) (getG xs 12 k2 ++ [(pa, pb)])) [(Is (.pointer (some ⟨g4, 2, none⟩)))] rfl rfl (Lasts.newOg _ _ _ _) ?_ (by kernel_rfl) (by kernel_rfl) ?_ ?_
      · intro q hq
        simp only [List.cons_append, List.nil_append, List.mem_cons, List.not_mem_nil, or_false] at hq
        rcases hq with rfl | rfl | rfl | rfl | rfl | rfl | rfl | rfl | rfl | rfl | rfl | rfl | rfl | rfl | rfl | rfl | rfl | rfl | rfl
        · exact ⟨Lasts.is _, LastsO.is _ _⟩
        · exact ⟨Lasts.is _, LastsO.is _ _⟩
        · exact ⟨Lasts.is _, LastsO.is _ _⟩
        · exact ⟨Lasts.is _, LastsO.is _ _⟩
        · exact ⟨Lasts.is _, LastsO.is _ _⟩
        · exact ⟨Lasts.is _, LastsO.is _ _⟩
        · exact ⟨Lasts.is _, LastsO.is _ _⟩
        · exact ⟨Lasts.is _, LastsO.is _ _⟩
        · exact ⟨Lasts.is _, LastsO.is _ _⟩
        · exact ⟨Lasts.is _, LastsO.is _ _⟩
        · exact ⟨Lasts.is _, LastsO.is _ _⟩
        · exact ⟨Lasts.is _, LastsO.is _ _⟩
        · exact ⟨Lasts.is _, LastsO.is _ _⟩
        · exact ⟨Lasts.is _, LastsO.is _ _⟩
        · exact ⟨Lasts.is _, LastsO.is _ _⟩
        · exact ⟨Lasts.is _, LastsO.is _ _⟩
        · exact ⟨Lasts.is _, LastsO.is _ _⟩
        · exact ⟨Lasts.newSl _ _ _ _, LastsO.newSl _ _ _ _ _ hob⟩
        · exact ⟨Lasts.is _, LastsO.is _ _⟩
      · refine ⟨?_, ?_, ?_, ?_, ?_, ?_, ?_, ?_, ?_, ?_, ?_, ?_, ?_, ?_, ?_, ?_, ?_, ?_, ?_, ?_, trivial⟩
        · intro listed a w1 hl hc hpre
          have h4 : a.tmps[4]?.getD undef = .pointer (some ⟨g4, 0, none⟩) := (hc.was 4 (by kernel_rfl)).trans rfl
          refine does_value rfl rfl (.pointer (some ⟨g4, 2, none⟩)) w1 ?_ (stepB (by decide) (Below.refl _ _)) rfl
          clear hc hl
          go_simp
        · intro listed a w1 hl hc hpre
          have h47 : a.tmps[47]?.getD undef = .pointer (some ⟨g4, 2, none⟩) := hc.dep hl 0 47 rfl (by kernel_rfl)
          have kb := HG.out.grown hc.g hne4
          have x2 : w1.cell? ⟨g4, 2, none⟩ = some (.slice As k2 cs) := kb.cell 2
          clear kb
          refine does_value rfl rfl (.slice As k2 cs) w1 ?_ (stepB (by decide) (Below.refl _ _)) rfl
          clear hc hl
          go_simp
        · intro listed a w1 hl hc hpre
          have h1 : a.tmps[1]?.getD undef = .pointer (some ⟨w.heap.size, 0, none⟩) := (hc.was 1 (by kernel_rfl)).trans rfl
          refine does_value rfl rfl (.pointer (some ⟨w.heap.size, 2, none⟩)) w1 ?_ (stepB (by decide) (Below.refl _ _)) rfl
          clear hc hl
          go_simp
        · intro listed a w1 hl hc hpre
          have h49 : a.tmps[49]?.getD undef = .pointer (some ⟨w.heap.size, 2, none⟩) := hc.dep hl 2 49 rfl (by kernel_rfl)
          have kb := HK0.out.grown hc.g hne0
          have x2 : w1.cell? ⟨w.heap.size, 2, none⟩ = some (.slice A n c) := kb.cell 2
          clear kb
          refine does_value rfl rfl (.slice A n c) w1 ?_ (stepB (by decide) (Below.refl _ _)) rfl
          clear hc hl
          go_simp
        · intro listed a w1 hl hc hpre
          have h7 : a.tmps[7]?.getD undef = .int .i64 (k2 : Int) := (hc.was 7 (by kernel_rfl)).trans rfl
          refine does_value rfl rfl (.int .i64 (k2 : Int)) w1 ?_ (stepB (by decide) (Below.refl _ _)) rfl
          clear hc hl
          go_simp
        · intro listed a w1 hl hc hpre
          have h51 : a.tmps[51]?.getD undef = .int .i64 (k2 : Int) := hc.dep hl 4 51 rfl (by kernel_rfl)
          refine does_value rfl rfl (.int .i64 (4 * (k2 : Int))) w1 ?_ (stepB (by decide) (Below.refl _ _)) rfl
          clear hc hl
          go_simp
          exact wrap_small _ (by omega) (by omega)
        · intro listed a w1 hl hc hpre
          have h52 : a.tmps[52]?.getD undef = .int .i64 (4 * (k2 : Int)) := hc.dep hl 5 52 rfl (by kernel_rfl)
          refine does_value rfl rfl (.int .i64 (12 + 4 * (k2 : Int))) w1 ?_ (stepB (by decide) (Below.refl _ _)) rfl
          clear hc hl
          go_simp
          exact wrap_small _ (by omega) (by omega)
        · intro listed a w1 hl hc hpre
          have h50 : a.tmps[50]?.getD undef = .slice A n c := hc.dep hl 3 50 rfl (by kernel_rfl)
          have h53 : a.tmps[53]?.getD undef = .int .i64 (12 + 4 * (k2 : Int)) := hc.dep hl 6 53 rfl (by kernel_rfl)
          refine does_call rfl rfl 56 #[.slice A n c, .int .i64 (12 + 4 * (k2 : Int)), .int .i64 2] ?_ ((HH1.out w1 (HB.out.grown hc.g hwr hobg)).mono fun e w' ⟨he, hb⟩ => ⟨_, he, (stepB (by decide) hb), rfl⟩)
          clear hc hl
          go_simp
        · intro listed a w1 hl hc hpre
          have h54 : a.tmps[54]?.getD undef = .int .u64 (pa : Int) := hc.dep hl 7 54 rfl (by kernel_rfl)
          refine does_value rfl rfl (.int .u16 (pa : Int)) w1 ?_ (stepB (by decide) (Below.refl _ _)) rfl
          clear hc hl
          go_simp
          exact wrap_u16q hpab
        · intro listed a w1 hl hc hpre
          have h1 : a.tmps[1]?.getD undef = .pointer (some ⟨w.heap.size, 0, none⟩) := (hc.was 1 (by kernel_rfl)).trans rfl
          refine does_value rfl rfl (.pointer (some ⟨w.heap.size, 2, none⟩)) w1 ?_ (stepB (by decide) (Below.refl _ _)) rfl
          clear hc hl
          go_simp
        · intro listed a w1 hl hc hpre
          have h56 : a.tmps[56]?.getD undef = .pointer (some ⟨w.heap.size, 2, none⟩) := hc.dep hl 9 56 rfl (by kernel_rfl)
          have kb := HK0.out.grown hc.g hne0
          have x2 : w1.cell? ⟨w.heap.size, 2, none⟩ = some (.slice A n c) := kb.cell 2
          clear kb
          refine does_value rfl rfl (.slice A n c) w1 ?_ (stepB (by decide) (Below.refl _ _)) rfl
          clear hc hl
          go_simp
        · intro listed a w1 hl hc hpre
          have h7 : a.tmps[7]?.getD undef = .int .i64 (k2 : Int) := (hc.was 7 (by kernel_rfl)).trans rfl
          refine does_value rfl rfl (.int .i64 (k2 : Int)) w1 ?_ (stepB (by decide) (Below.refl _ _)) rfl
          clear hc hl
          go_simp
        · intro listed a w1 hl hc hpre
          have h58 : a.tmps[58]?.getD undef = .int .i64 (k2 : Int) := hc.dep hl 11 58 rfl (by kernel_rfl)
          refine does_value rfl rfl (.int .i64 (4 * (k2 : Int))) w1 ?_ (stepB (by decide) (Below.refl _ _)) rfl
          clear hc hl
          go_simp
          exact wrap_small _ (by omega) (by omega)
        · intro listed a w1 hl hc hpre
          have h59 : a.tmps[59]?.getD undef = .int .i64 (4 * (k2 : Int)) := hc.dep hl 12 59 rfl (by kernel_rfl)
          refine does_value rfl rfl (.int .i64 (14 + 4 * (k2 : Int))) w1 ?_ (stepB (by decide) (Below.refl _ _)) rfl
          clear hc hl
          go_simp
          exact wrap_small _ (by omega) (by omega)
        · intro listed a w1 hl hc hpre
          have h57 : a.tmps[57]?.getD undef = .slice A n c := hc.dep hl 10 57 rfl (by kernel_rfl)
          have h60 : a.tmps[60]?.getD undef = .int .i64 (14 + 4 * (k2 : Int)) := hc.dep hl 13 60 rfl (by kernel_rfl)
          refine does_call rfl rfl 56 #[.slice A n c, .int .i64 (14 + 4 * (k2 : Int)), .int .i64 2] ?_ ((HH2.out w1 (HB.out.grown hc.g hwr hobg)).mono fun e w' ⟨he, hb⟩ => ⟨_, he, (stepB (by decide) hb), rfl⟩)
          clear hc hl
          go_simp
        · intro listed a w1 hl hc hpre
          have h61 : a.tmps[61]?.getD undef = .int .u64 (pb : Int) := hc.dep hl 14 61 rfl (by kernel_rfl)
          refine does_value rfl rfl (.int .u16 (pb : Int)) w1 ?_ (stepB (by decide) (Below.refl _ _)) rfl
          clear hc hl
          go_simp
          exact wrap_u16q hpbb
        · intro listed a w1 hl hc hpre
          have h55 : a.tmps[55]?.getD undef = .int .u16 (pa : Int) := hc.dep hl 8 55 rfl (by kernel_rfl)
          have h62 : a.tmps[62]?.getD undef = .int .u16 (pb : Int) := hc.dep hl 15 62 rfl (by kernel_rfl)
          refine does_value rfl rfl (.agg #[.int .u16 (pa : Int), .int .u16 (pb : Int)]) w1 ?_ (stepB (by decide) (Below.refl _ _)) rfl
          clear hc hl
          go_simp
        · intro listed a w1 hl hc hpre
          have h63 : a.tmps[63]?.getD undef = .agg #[.int .u16 (pa : Int), .int .u16 (pb : Int)] := hc.dep hl 16 63 rfl (by kernel_rfl)
          refine does_value rfl rfl (.slice (some ⟨w1.heap.size, 0, none⟩) 1 1) (w1.alloc (.cells #[.int .u16 (pa : Int), .int .u16 (pb : Int)] 79)) ?_ (stepB (by decide) (below_new w1 _)) ⟨_, rfl, hc.g.size, Blk.new _ _ _⟩
          clear hc hl
          go_simp
        · intro listed a w1 hl hc hpre
          have h48 : a.tmps[48]?.getD undef = .slice As k2 cs := hc.dep hl 1 48 rfl (by kernel_rfl)
          obtain ⟨g64, h64, hg64, hb64⟩ := hc.dep hl 17 64 rfl (by kernel_rfl)
          obtain ⟨A9, c9, w9, hrun, hog, hgr⟩ := run_appendG Try.underlying49 hti htz ht1 ht2 w1 49 w.heap.size As k2 cs g64 (getG xs 12 k2) (pa, pb) (HO.out.below (hpre rfl)) (length_getG _ _ _) hb64 (by omega) (Nat.le_trans hwr hc.g.size)
          refine does_value rfl rfl (.slice A9 (k2 + 1 : Nat) c9) w9 (exec_append rfl h48 h64 hrun) (stepO hgr) ⟨A9, c9, rfl, hog⟩
        · intro listed a w1 hl hc hpre
          have h4 : a.tmps[4]?.getD undef = .pointer (some ⟨g4, 0, none⟩) := (hc.was 4 (by kernel_rfl)).trans rfl
          refine does_value rfl rfl (.pointer (some ⟨g4, 2, none⟩)) w1 ?_ (stepB (by decide) (Below.refl _ _)) rfl
          clear hc hl
          go_simp
      intro w2 hb2
      rintro _ rfl _ rfl _ rfl _ rfl _ rfl _ rfl _ rfl _ rfl _ rfl _ rfl _ rfl _ rfl _ rfl _ rfl _ rfl _ rfl _ rfl _ ⟨g64, rfl, hg64, hb64⟩ _ ⟨A65, c65, rfl, ho65⟩ _ rfl
      simp only [Thus, List.reverse_cons, List.reverse_nil, List.nil_append, List.cons_append, List.drop, List.take, lay]
      go_frame
      have HG2 := Lib.hid (HG.out.grown hb2 hne4)
      have HK02 := Lib.hid (HK0.out.grown hb2 hne0)
      have HK12 := Lib.hid (HK1.out.grown hb2 hne1)
      have HB2 := Lib.hid (HB.out.grown hb2 hwr hobg)
      have HO2 := Lib.hid ho65
      have y2 := HG2.out.cell 2
      have z2 := HG2.out.frozen 2
      clear hb2 hb64 hg64 ho65
      go_wp2_with fail
      go_roundw
      case rel => exact ⟨k2 + 1, c65, A65, by omega, by go_num, HG2.out.set_ 2 _, by rw [HSN.out]; exact HO2.out.setBlk HG2.out (by decide) 2 _, HK02.out.far (p := ⟨g4, 2, none⟩) (show w.heap.size ≠ g4 by omega) _, HK12.out.far (p := ⟨g4, 2, none⟩) (show w.heap.size + 1 ≠ g4 by omega) _, HB2.out.setCell (p := ⟨g4, 2, none⟩) (show w.heap.size ≤ g4 by omega) _⟩
      case measure => simp [intOf]; omega
    · have hkn : k2 = h8 := by omega
      go_wp2_with fail
      rw [hkn] at HG HO
      clear hkn hlt hk2
      go_loopw [8] (fun i wr => ∃ (k3 cd : Nat) (Ad : Option Addr), k3 ≤ h10 ∧ i = .int .i64 (k3 : Int) ∧ Blk wr g4 52 #[.int .u32 (q0 : Int), .int .u32 (q4 : Int), .slice As h8 cs, .slice Ad k3 cd] ∧ Og wr 79 w.heap.size (.slice As h8 cs) (getG xs 12 h8) ∧ Ow wr 22 w.heap.size (.slice Ad k3 cd) (ints (getN xs (12 + 4 * h8) k3)) ∧ Blk wr w.heap.size 28 #[.int .u8 (k.toNat : Int), .int .u8 (f.toNat : Int), .slice A n c] ∧ Blk wr (w.heap.size + 1) 52 #[.int .u32 0, .int .u32 0, .slice none 0 0, .slice none 0 0] ∧ Below w.heap.size w wr) (fun i _ => h10 - (intOf i).toNat)
      case atStart => exact ⟨0, 0, none, by omega, rfl, HG.out, HO.out, Ow.nil _ _ _, HK0.out, HK1.out, HB.out⟩
      case round =>
        clear HG HO HK0 HK1 HB
        obtain ⟨k3, cd, Ad, hk3, rfl, hG, hO, hP, hK0, hK1, hB⟩ := hrel
        have HG := Lib.hid hG
        have HO := Lib.hid hO
        have HP := Lib.hid hP
        have HK0 := Lib.hid hK0
        have HK1 := Lib.hid hK1
        have HB := Lib.hid hB
        clear hG hO hP hK0 hK1 hB
        by_cases hlt : k3 < h10
        · have hne0 : some w.heap.size ≠ (Value.slice Ad k3 cd).ownBlock := owns_ne HP.out HK0.out (by decide)
          have hne4 : some g4 ≠ (Value.slice Ad k3 cd).ownBlock := owns_ne HP.out HG.out (by decide)
          have hne1 : some (w.heap.size + 1) ≠ (Value.slice Ad k3 cd).ownBlock := owns_ne HP.out HK1.out (by decide)
          have hob : ∀ b, (Value.slice Ad k3 cd).ownBlock = some b → b < wr.heap.size := own_lt HP.out
          have hobg : ∀ b, (Value.slice Ad k3 cd).ownBlock = some b → w.heap.size ≤ b := own_ge HP.out
          have hwr : w.heap.size ≤ wr.heap.size := HB.out.size
          have hpab : num xs (12 + 4 * h8 + 4 * k3) 4 < 4294967296 := num_lt _ _ _
          obtain ⟨pa, hpa⟩ : ∃ pa, pa = num xs (12 + 4 * h8 + 4 * k3) 4 := ⟨_, rfl⟩
          rw [← hpa] at hpab
          have HH1 : Hid (∀ W, Below w.heap.size w W → Calls Try.prog 56 #[.slice A n c, .int .i64 (12 + 4 * (h8 : Int) + 4 * (k3 : Int)), .int .i64 4] W fun e w' => e = .returned (.int .u64 (pa : Int)) ∧ Below W.heap.size W w') := Lib.hid fun W hW => by
              have := HNU.out W (12 + 4 * h8 + 4 * k3) 4 (by unfold IsSize; omega) (by omega) hW
              rw [← hpa] at this
              exact this
          have HSN : Hid (ints (getN xs (12 + 4 * h8) (k3 + 1)) = ints (getN xs (12 + 4 * h8) k3) ++ [(pa : Int)]) := Lib.hid (by rw [getN_snoc, ints_snoc, hpa])
          clear hpa
          go_wp2_with fail
          rw [← drawn_eq 15]
          refine wp_region_own_tail 15 13 ((Value.slice Ad k3 cd).ownBlock) (by kernel_rfl) [(Is (.pointer (some ⟨g4, 3, none⟩))), (Is (.slice Ad k3 cd)), (Is (.pointer (some ⟨w.heap.size, 2, none⟩))), (Is (.slice A n c)), (Is (.int .i64 (h8 : Int))), (Is (.int .i64 (4 * (h8 : Int)))), (Is (.int .i64 (12 + 4 * (h8 : Int)))), (Is (.int .i64 (k3 : Int))), (Is (.int .i64 (4 * (k3 : Int)))), (Is (.int .i64 (12 + 4 * (h8 : Int) + 4 * (k3 : Int)))), (Is (.int .u64 (pa : Int))), (Is (.int .u32 (pa : Int))), (NewSl wr.heap.size 22 1 #[.int .u32 (pa : Int)])] (NewOw 22 w.heap.size (k3 + 1) (ints (getN xs (12 + 4 * h8) k3) ++ [(pa : Int)])) [(Is (.pointer (some ⟨g4, 3, none⟩)))] rfl rfl (Lasts.newOw _ _ _ _) ?_ (by kernel_rfl) (by kernel_rfl) ?_ ?_
          · intro q hq
            simp only [List.cons_append, List.nil_append, List.mem_cons, List.not_mem_nil, or_false] at hq
            rcases hq with rfl | rfl | rfl | rfl | rfl | rfl | rfl | rfl | rfl | rfl | rfl | rfl | rfl | rfl
            · exact ⟨Lasts.is _, LastsO.is _ _⟩
            · exact ⟨Lasts.is _, LastsO.is _ _⟩
            · exact ⟨Lasts.is _, LastsO.is _ _⟩
            · exact ⟨Lasts.is _, LastsO.is _ _⟩
            · exact ⟨Lasts.is _, LastsO.is _ _⟩
            · exact ⟨Lasts.is _, LastsO.is _ _⟩
            · exact ⟨Lasts.is _, LastsO.is _ _⟩
            · exact ⟨Lasts.is _, LastsO.is _ _⟩
            · exact ⟨Lasts.is _, LastsO.is _ _⟩
            · exact ⟨Lasts.is _, LastsO.is _ _⟩
            · exact ⟨Lasts.is _, LastsO.is _ _⟩
            · exact ⟨Lasts.is _, LastsO.is _ _⟩
            · exact ⟨Lasts.newSl _ _ _ _, LastsO.newSl _ _ _ _ _ hob⟩
            · exact ⟨Lasts.is _, LastsO.is _ _⟩
          · refine ⟨?_, ?_, ?_, ?_, ?_, ?_, ?_, ?_, ?_, ?_, ?_, ?_, ?_, ?_, ?_, trivial⟩
            · intro listed a w1 hl hc hpre
              have h4 : a.tmps[4]?.getD undef = .pointer (some ⟨g4, 0, none⟩) := (hc.was 4 (by kernel_rfl)).trans rfl
              refine does_value rfl rfl (.pointer (some ⟨g4, 3, none⟩)) w1 ?_ (stepB (by decide) (Below.refl _ _)) rfl
              clear hc hl
              go_simp
            · intro listed a w1 hl hc hpre
              have h72 : a.tmps[72]?.getD undef = .pointer (some ⟨g4, 3, none⟩) := hc.dep hl 0 72 rfl (by kernel_rfl)
              have kb := HG.out.grown hc.g hne4
              have x3 : w1.cell? ⟨g4, 3, none⟩ = some (.slice Ad k3 cd) := kb.cell 3
              clear kb
              refine does_value rfl rfl (.slice Ad k3 cd) w1 ?_ (stepB (by decide) (Below.refl _ _)) rfl
              clear hc hl
              go_simp
            · intro listed a w1 hl hc hpre
              have h1 : a.tmps[1]?.getD undef = .pointer (some ⟨w.heap.size, 0, none⟩) := (hc.was 1 (by kernel_rfl)).trans rfl
              refine does_value rfl rfl (.pointer (some ⟨w.heap.size, 2, none⟩)) w1 ?_ (stepB (by decide) (Below.refl _ _)) rfl
              clear hc hl
              go_simp
            · intro listed a w1 hl hc hpre
              have h74 : a.tmps[74]?.getD undef = .pointer (some ⟨w.heap.size, 2, none⟩) := hc.dep hl 2 74 rfl (by kernel_rfl)
              have kb := HK0.out.grown hc.g hne0
              have x2 : w1.cell? ⟨w.heap.size, 2, none⟩ = some (.slice A n c) := kb.cell 2
              clear kb
              refine does_value rfl rfl (.slice A n c) w1 ?_ (stepB (by decide) (Below.refl _ _)) rfl
              clear hc hl
              go_simp
            · intro listed a w1 hl hc hpre
              have h5 : a.tmps[5]?.getD undef = .int .i64 (h8 : Int) := (hc.was 5 (by kernel_rfl)).trans rfl
              refine does_value rfl rfl (.int .i64 (h8 : Int)) w1 ?_ (stepB (by decide) (Below.refl _ _)) rfl
              clear hc hl
              go_simp
            · intro listed a w1 hl hc hpre
              have h76 : a.tmps[76]?.getD undef = .int .i64 (h8 : Int) := hc.dep hl 4 76 rfl (by kernel_rfl)
              refine does_value rfl rfl (.int .i64 (4 * (h8 : Int))) w1 ?_ (stepB (by decide) (Below.refl _ _)) rfl
              clear hc hl
              go_simp
              exact wrap_small _ (by omega) (by omega)
            · intro listed a w1 hl hc hpre
              have h77 : a.tmps[77]?.getD undef = .int .i64 (4 * (h8 : Int)) := hc.dep hl 5 77 rfl (by kernel_rfl)
              refine does_value rfl rfl (.int .i64 (12 + 4 * (h8 : Int))) w1 ?_ (stepB (by decide) (Below.refl _ _)) rfl
              clear hc hl
              go_simp
              exact wrap_small _ (by omega) (by omega)
            · intro listed a w1 hl hc hpre
              have h8 : a.tmps[8]?.getD undef = .int .i64 (k3 : Int) := (hc.was 8 (by kernel_rfl)).trans rfl
              refine does_value rfl rfl (.int .i64 (k3 : Int)) w1 ?_ (stepB (by decide) (Below.refl _ _)) rfl
              clear hc hl
              go_simp
            · intro listed a w1 hl hc hpre
              have h79 : a.tmps[79]?.getD undef = .int .i64 (k3 : Int) := hc.dep hl 7 79 rfl (by kernel_rfl)
              refine does_value rfl rfl (.int .i64 (4 * (k3 : Int))) w1 ?_ (stepB (by decide) (Below.refl _ _)) rfl
              clear hc hl
              go_simp
              exact wrap_small _ (by omega) (by omega)
            · intro listed a w1 hl hc hpre
              have h78 : a.tmps[78]?.getD undef = .int .i64 (12 + 4 * (h8 : Int)) := hc.dep hl 6 78 rfl (by kernel_rfl)
              have h80 : a.tmps[80]?.getD undef = .int .i64 (4 * (k3 : Int)) := hc.dep hl 8 80 rfl (by kernel_rfl)
              refine does_value rfl rfl (.int .i64 (12 + 4 * (h8 : Int) + 4 * (k3 : Int))) w1 ?_ (stepB (by decide) (Below.refl _ _)) rfl
              clear hc hl
              go_simp
              exact wrap_small _ (by omega) (by omega)
            · intro listed a w1 hl hc hpre
              have h75 : a.tmps[75]?.getD undef = .slice A n c := hc.dep hl 3 75 rfl (by kernel_rfl)
              have h81 : a.tmps[81]?.getD undef = .int .i64 (12 + 4 * (h8 : Int) + 4 * (k3 : Int)) := hc.dep hl 9 81 rfl (by kernel_rfl)
              refine does_call rfl rfl 56 #[.slice A n c, .int .i64 (12 + 4 * (h8 : Int) + 4 * (k3 : Int)), .int .i64 4] ?_ ((HH1.out w1 (HB.out.grown hc.g hwr hobg)).mono fun e w' ⟨he, hb⟩ => ⟨_, he, (stepB (by decide) hb), rfl⟩)
              clear hc hl
              go_simp
            · intro listed a w1 hl hc hpre
              have h82 : a.tmps[82]?.getD undef = .int .u64 (pa : Int) := hc.dep hl 10 82 rfl (by kernel_rfl)
              refine does_value rfl rfl (.int .u32 (pa : Int)) w1 ?_ (stepB (by decide) (Below.refl _ _)) rfl
              clear hc hl
              go_simp
              exact wrap_u32q hpab
            · intro listed a w1 hl hc hpre
              have h83 : a.tmps[83]?.getD undef = .int .u32 (pa : Int) := hc.dep hl 11 83 rfl (by kernel_rfl)
              refine does_value rfl rfl (.slice (some ⟨w1.heap.size, 0, none⟩) 1 1) (w1.alloc (.cells #[.int .u32 (pa : Int)] 22)) ?_ (stepB (by decide) (below_new w1 _)) ⟨_, rfl, hc.g.size, Blk.new _ _ _⟩
              clear hc hl
              go_simp
            · intro listed a w1 hl hc hpre
              have h73 : a.tmps[73]?.getD undef = .slice Ad k3 cd := hc.dep hl 1 73 rfl (by kernel_rfl)
              obtain ⟨g84, h84, hg84, hb84⟩ := hc.dep hl 12 84 rfl (by kernel_rfl)
              obtain ⟨A9, c9, w9, hrun, hog, hgr⟩ := run_appendW Try.underlying50 hui huz hu1 hu2 w1 50 w.heap.size Ad k3 cd g84 (ints (getN xs (12 + 4 * h8) k3)) (pa : Int) (HP.out.below (hpre rfl)) (by rw [length_ints, length_getN]) hb84 (by omega) (Nat.le_trans hwr hc.g.size)
              refine does_value rfl rfl (.slice A9 (k3 + 1 : Nat) c9) w9 (exec_append rfl h73 h84 hrun) (stepO hgr) ⟨A9, c9, rfl, hog⟩
            · intro listed a w1 hl hc hpre
              have h4 : a.tmps[4]?.getD undef = .pointer (some ⟨g4, 0, none⟩) := (hc.was 4 (by kernel_rfl)).trans rfl
              refine does_value rfl rfl (.pointer (some ⟨g4, 3, none⟩)) w1 ?_ (stepB (by decide) (Below.refl _ _)) rfl
              clear hc hl
              go_simp
          intro w2 hb2
          rintro _ rfl _ rfl _ rfl _ rfl _ rfl _ rfl _ rfl _ rfl _ rfl _ rfl _ rfl _ rfl _ ⟨g84, rfl, hg84, hb84⟩ _ ⟨A85, c85, rfl, ho85⟩ _ rfl
          simp only [Thus, List.reverse_cons, List.reverse_nil, List.nil_append, List.cons_append, List.drop, List.take, lay]
          go_frame
          have HG2 := Lib.hid (HG.out.grown hb2 hne4)
          have HK02 := Lib.hid (HK0.out.grown hb2 hne0)
          have HK12 := Lib.hid (HK1.out.grown hb2 hne1)
          have HB2 := Lib.hid (HB.out.grown hb2 hwr hobg)
          have HO2 := Lib.hid (HO.out.beside HP.out (by decide) hb2)
          have HP2 := Lib.hid ho85
          have y3 := HG2.out.cell 3
          have z3 := HG2.out.frozen 3
          clear hb2 hb84 hg84 ho85
          go_wp2_with fail
          go_roundw
          case rel => exact ⟨k3 + 1, c85, A85, by omega, by go_num, HG2.out.set_ 3 _, HO2.out.setBlk HG2.out (by decide) 3 _, by rw [HSN.out]; exact HP2.out.setBlk HG2.out (by decide) 3 _, HK02.out.far (p := ⟨g4, 3, none⟩) (show w.heap.size ≠ g4 by omega) _, HK12.out.far (p := ⟨g4, 3, none⟩) (show w.heap.size + 1 ≠ g4 by omega) _, HB2.out.setCell (p := ⟨g4, 3, none⟩) (show w.heap.size ≤ g4 by omega) _⟩
          case measure => simp [intOf]; omega
        · have hkn : k3 = h10 := by omega
          go_wp2_with fail
          rw [← drawn_eq 16]
          rw [hkn] at HG HP
          clear hkn hlt hk3
          cases hv : apartG 0 (getG xs 12 h8)
          · have HOK := Lib.hid (HOFF.out hv)
            have HAP2 := Lib.hid (HAP.out _ hv)
            clear hv
            refine wp_region_grow_tail 10 (by kernel_rfl) [(Is (.pointer (some ⟨g4, 2, none⟩))), (Is (.slice As h8 cs)), (Is (.bool false)), (Is (.bool true)), (Is (.bool true)), (Is undef), (Is undef), (Is undef), (Is undef), (Is undef)] rfl ?_ (by kernel_rfl) (by kernel_rfl) ?_ ?_
            · intro p hp
              simp only [List.mem_cons, List.not_mem_nil, or_false] at hp
              rcases hp with rfl | rfl | rfl | rfl | rfl | rfl | rfl | rfl | rfl | rfl
              · exact Lasts.is _
              · exact Lasts.is _
              · exact Lasts.is _
              · exact Lasts.is _
              · exact Lasts.is _
              · exact Lasts.is _
              · exact Lasts.is _
              · exact Lasts.is _
              · exact Lasts.is _
              · exact Lasts.is _
            · refine ⟨?_, ?_, ?_, ?_, ?_, ?_, ?_, ?_, ?_, ?_, trivial⟩
              · intro listed a w1 hl hc
                have h4 : a.tmps[4]?.getD undef = .pointer (some ⟨g4, 0, none⟩) := (hc.was 4 (by kernel_rfl)).trans rfl
                refine does_value rfl rfl (.pointer (some ⟨g4, 2, none⟩)) w1 ?_ (Below.refl _ _) rfl
                clear hc hl
                go_simp
              · intro listed a w1 hl hc
                have h87 : a.tmps[87]?.getD undef = .pointer (some ⟨g4, 2, none⟩) := hc.dep hl 0 87 rfl (by kernel_rfl)
                have kb := HG.out.below hc.g HG.out.lt
                have x2 : w1.cell? ⟨g4, 2, none⟩ = some (.slice As h8 cs) := kb.cell 2
                clear kb
                refine does_value rfl rfl (.slice As h8 cs) w1 ?_ (Below.refl _ _) rfl
                clear hc hl
                go_simp
              · intro listed a w1 hl hc
                have h88 : a.tmps[88]?.getD undef = .slice As h8 cs := hc.dep hl 1 88 rfl (by kernel_rfl)
                refine does_call rfl rfl 69 #[.slice As h8 cs] ?_ ((HAP2.out w1 As cs (HO.out.below hc.g)).mono fun e w' ⟨he, hb⟩ => ⟨_, he, hb, rfl⟩)
                clear hc hl
                go_simp
              · intro listed a w1 hl hc
                have h89 : a.tmps[89]?.getD undef = .bool false := hc.dep hl 2 89 rfl (by kernel_rfl)
                refine does_value rfl rfl (.bool true) w1 ?_ (Below.refl _ _) rfl
                clear hc hl
                go_simp
              · intro listed a w1 hl hc
                have h90 : a.tmps[90]?.getD undef = .bool true := hc.dep hl 3 90 rfl (by kernel_rfl)
                refine does_value rfl rfl (.bool true) w1 ?_ (Below.refl _ _) rfl
                clear hc hl
                go_simp
              · intro listed a w1 hl hc
                exact does_skip (fun _ => (Below.refl _ _)) rfl (unwanted_at rfl rfl (hc.dep hl 4 91 rfl (by kernel_rfl))) rfl
              · intro listed a w1 hl hc
                exact does_skip (fun _ => (Below.refl _ _)) rfl (unwanted_at rfl rfl (hc.dep hl 4 91 rfl (by kernel_rfl))) rfl
              · intro listed a w1 hl hc
                exact does_skip (fun _ => (Below.refl _ _)) rfl (unwanted_at rfl rfl (hc.dep hl 4 91 rfl (by kernel_rfl))) rfl
              · intro listed a w1 hl hc
                exact does_skip (fun _ => (Below.refl _ _)) rfl (unwanted_at rfl rfl (hc.dep hl 4 91 rfl (by kernel_rfl))) rfl
              · intro listed a w1 hl hc
                exact does_skip (fun _ => (Below.refl _ _)) rfl (unwanted_at rfl rfl (hc.dep hl 4 91 rfl (by kernel_rfl))) rfl
            intro w2 hb2
            rintro _ rfl _ rfl _ rfl _ rfl _ rfl _ rfl _ rfl _ rfl _ rfl _ rfl
            simp only [Thus, List.reverse_cons, List.reverse_nil, List.nil_append, List.cons_append, List.drop, List.take, lay]
            go_frame
            have K1e := Lib.hid (HK1.out.below hb2 HK1.out.lt)
            have B6 := Lib.hid (below_then HB.out (Nat.le_refl _) hb2)
            have O6 := Lib.hid (HO.out.below hb2)
            have P6 := Lib.hid (HP.out.below hb2)
            have G9 := Lib.hid (HG.out.below hb2 HG.out.lt)
            clear hb2 HK1 HB HO HP HG HK0
            have y0 := K1e.out.cell 0
            have y1 := K1e.out.cell 1
            have y2 := K1e.out.cell 2
            have y3 := K1e.out.cell 3
            have z0 := K1e.out.frozen 0
            have z1 := K1e.out.frozen 1
            have z2 := K1e.out.frozen 2
            have z3 := K1e.out.frozen 3
            go_wp2_with fail
            have H3 := ((((K1e.out.set_ 0 (.int .u32 0)).set_ 1 (.int .u32 0)).set_ 2 (.slice none 0 0)).set_ 3 (.slice none 0 0))
            exact bodyPost_ret (v := .tuple #[.agg #[.int .u32 0, .int .u32 0, .slice none 0 0, .slice none 0 0], .int .i64 7]) (by simp [results, Try.results31, go_sem, H3.cell]) rfl ⟨none, 0, 0, none, 0, 0, by rw [HOK.out, ansS_off HOK.out]; rfl, by rw [ansS_off HOK.out]; exact World.ownsRow_nil _ _ _ _, by rw [ansS_off HOK.out]; exact rfl, by rw [ansS_off HOK.out]; exact Ow.nil _ _ _, by rw [ansS_off HOK.out]; exact rfl, ((((B6.out.setCell (p := ⟨w.heap.size + 1, 0, none⟩) (show w.heap.size ≤ w.heap.size + 1 by omega) (.int .u32 0)).setCell (p := ⟨w.heap.size + 1, 1, none⟩) (show w.heap.size ≤ w.heap.size + 1 by omega) (.int .u32 0)).setCell (p := ⟨w.heap.size + 1, 2, none⟩) (show w.heap.size ≤ w.heap.size + 1 by omega) (.slice none 0 0)).setCell (p := ⟨w.heap.size + 1, 3, none⟩) (show w.heap.size ≤ w.heap.size + 1 by omega) (.slice none 0 0))⟩
          · cases hd : decide (k = 3 ∧ f = 0 ∧ xs = Y)
            · have HOK := Lib.hid (HOKD.out _ hv hd)
              have HAP2 := Lib.hid (HAP.out _ hv)
              have HSM2 := Lib.hid (HSM.out _ hd)
              clear hv hd
              refine wp_region_grow_tail 10 (by kernel_rfl) [(Is (.pointer (some ⟨g4, 2, none⟩))), (Is (.slice As h8 cs)), (Is (.bool true)), (Is (.bool false)), (Is (.bool false)), (Is (.agg #[.int .u32 (q0 : Int), .int .u32 (q4 : Int), .slice As h8 cs, .slice Ad h10 cd])), (NewAgg 5 w.heap.size Y.length Y (fun s => .agg #[.int .u8 ((3 : UInt8).toNat : Int), .int .u8 ((0 : UInt8).toNat : Int), s])), (Is (.agg #[.int .u8 (k.toNat : Int), .int .u8 (f.toNat : Int), .slice A n c])), (Is (.bool false)), (Is (.bool true))] rfl ?_ (by kernel_rfl) (by kernel_rfl) ?_ ?_
              · intro p hp
                simp only [List.mem_cons, List.not_mem_nil, or_false] at hp
                rcases hp with rfl | rfl | rfl | rfl | rfl | rfl | rfl | rfl | rfl | rfl
                · exact Lasts.is _
                · exact Lasts.is _
                · exact Lasts.is _
                · exact Lasts.is _
                · exact Lasts.is _
                · exact Lasts.is _
                · exact Lasts.newAgg _ _ _ _ _
                · exact Lasts.is _
                · exact Lasts.is _
                · exact Lasts.is _
              · refine ⟨?_, ?_, ?_, ?_, ?_, ?_, ?_, ?_, ?_, ?_, trivial⟩
                · intro listed a w1 hl hc
                  have h4 : a.tmps[4]?.getD undef = .pointer (some ⟨g4, 0, none⟩) := (hc.was 4 (by kernel_rfl)).trans rfl
                  refine does_value rfl rfl (.pointer (some ⟨g4, 2, none⟩)) w1 ?_ (Below.refl _ _) rfl
                  clear hc hl
                  go_simp
                · intro listed a w1 hl hc
                  have h87 : a.tmps[87]?.getD undef = .pointer (some ⟨g4, 2, none⟩) := hc.dep hl 0 87 rfl (by kernel_rfl)
                  have kb := HG.out.below hc.g HG.out.lt
                  have x2 : w1.cell? ⟨g4, 2, none⟩ = some (.slice As h8 cs) := kb.cell 2
                  clear kb
                  refine does_value rfl rfl (.slice As h8 cs) w1 ?_ (Below.refl _ _) rfl
                  clear hc hl
                  go_simp
                · intro listed a w1 hl hc
                  have h88 : a.tmps[88]?.getD undef = .slice As h8 cs := hc.dep hl 1 88 rfl (by kernel_rfl)
                  refine does_call rfl rfl 69 #[.slice As h8 cs] ?_ ((HAP2.out w1 As cs (HO.out.below hc.g)).mono fun e w' ⟨he, hb⟩ => ⟨_, he, hb, rfl⟩)
                  clear hc hl
                  go_simp
                · intro listed a w1 hl hc
                  have h89 : a.tmps[89]?.getD undef = .bool true := hc.dep hl 2 89 rfl (by kernel_rfl)
                  refine does_value rfl rfl (.bool false) w1 ?_ (Below.refl _ _) rfl
                  clear hc hl
                  go_simp
                · intro listed a w1 hl hc
                  have h90 : a.tmps[90]?.getD undef = .bool false := hc.dep hl 3 90 rfl (by kernel_rfl)
                  refine does_value rfl rfl (.bool false) w1 ?_ (Below.refl _ _) rfl
                  clear hc hl
                  go_simp
                · intro listed a w1 hl hc
                  have h4 : a.tmps[4]?.getD undef = .pointer (some ⟨g4, 0, none⟩) := (hc.was 4 (by kernel_rfl)).trans rfl
                  have kb := HG.out.below hc.g HG.out.lt
                  have x0 : w1.cell? ⟨g4, 0, none⟩ = some (.int .u32 (q0 : Int)) := kb.cell 0
                  have x1 : w1.cell? ⟨g4, 1, none⟩ = some (.int .u32 (q4 : Int)) := kb.cell 1
                  have x2 : w1.cell? ⟨g4, 2, none⟩ = some (.slice As h8 cs) := kb.cell 2
                  have x3 : w1.cell? ⟨g4, 3, none⟩ = some (.slice Ad h10 cd) := kb.cell 3
                  clear kb
                  refine does_value rfl (wanted_at rfl rfl (hc.dep hl 4 91 rfl (by kernel_rfl))) (.agg #[.int .u32 (q0 : Int), .int .u32 (q4 : Int), .slice As h8 cs, .slice Ad h10 cd]) w1 ?_ (Below.refl _ _) rfl
                  clear hc hl
                  go_simp
                · intro listed a w1 hl hc
                  have h92 : a.tmps[92]?.getD undef = .agg #[.int .u32 (q0 : Int), .int .u32 (q4 : Int), .slice As h8 cs, .slice Ad h10 cd] := hc.dep hl 5 92 rfl (by kernel_rfl)
                  refine does_call rfl (wanted_at rfl rfl (hc.dep hl 4 91 rfl (by kernel_rfl))) 32 #[.agg #[.int .u32 (q0 : Int), .int .u32 (q4 : Int), .slice As h8 cs, .slice Ad h10 cd]] ?_ ((HPT.out w1 As cs Ad cd (HO.out.below hc.g) (HP.out.below hc.g)).mono fun e w' ⟨A9, c9, he, ho, hb⟩ => ⟨_, he, hb, A9, c9, rfl, ho.more (Nat.le_trans HB.out.size hc.g.size)⟩)
                  clear hc hl
                  go_simp
                · intro listed a w1 hl hc
                  have h1 : a.tmps[1]?.getD undef = .pointer (some ⟨w.heap.size, 0, none⟩) := (hc.was 1 (by kernel_rfl)).trans rfl
                  have kb := HK0.out.below hc.g HK0.out.lt
                  have x0 : w1.cell? ⟨w.heap.size, 0, none⟩ = some (.int .u8 (k.toNat : Int)) := kb.cell 0
                  have x1 : w1.cell? ⟨w.heap.size, 1, none⟩ = some (.int .u8 (f.toNat : Int)) := kb.cell 1
                  have x2 : w1.cell? ⟨w.heap.size, 2, none⟩ = some (.slice A n c) := kb.cell 2
                  clear kb
                  refine does_value rfl (wanted_at rfl rfl (hc.dep hl 4 91 rfl (by kernel_rfl))) (.agg #[.int .u8 (k.toNat : Int), .int .u8 (f.toNat : Int), .slice A n c]) w1 ?_ (Below.refl _ _) rfl
                  clear hc hl
                  go_simp
                · intro listed a w1 hl hc
                  obtain ⟨A93, c93, h93, ho93⟩ := hc.dep hl 6 93 rfl (by kernel_rfl)
                  have h94 : a.tmps[94]?.getD undef = .agg #[.int .u8 (k.toNat : Int), .int .u8 (f.toNat : Int), .slice A n c] := hc.dep hl 7 94 rfl (by kernel_rfl)
                  refine does_call rfl (wanted_at rfl rfl (hc.dep hl 4 91 rfl (by kernel_rfl))) 18 #[.agg #[.int .u8 ((3 : UInt8).toNat : Int), .int .u8 ((0 : UInt8).toNat : Int), .slice A93 Y.length c93], .agg #[.int .u8 (k.toNat : Int), .int .u8 (f.toNat : Int), .slice A n c]] ?_ ((HSM2.out w1 _ _ (HB.out.trans (hc.g.mono HB.out.size)) ho93).mono fun e w' ⟨he, hb⟩ => ⟨_, he, hb, rfl⟩)
                  clear hc hl
                  go_simp
                · intro listed a w1 hl hc
                  have h95 : a.tmps[95]?.getD undef = .bool false := hc.dep hl 8 95 rfl (by kernel_rfl)
                  refine does_value rfl (wanted_at rfl rfl (hc.dep hl 4 91 rfl (by kernel_rfl))) (.bool true) w1 ?_ (Below.refl _ _) rfl
                  clear hc hl
                  go_simp
              intro w2 hb2
              rintro _ rfl _ rfl _ rfl _ rfl _ rfl _ rfl _ ⟨A93, c93, rfl, ho93⟩ _ rfl _ rfl _ rfl
              simp only [Thus, List.reverse_cons, List.reverse_nil, List.nil_append, List.cons_append, List.drop, List.take, lay]
              go_frame
              have K1e := Lib.hid (HK1.out.below hb2 HK1.out.lt)
              have B6 := Lib.hid (below_then HB.out (Nat.le_refl _) hb2)
              have O6 := Lib.hid (HO.out.below hb2)
              have P6 := Lib.hid (HP.out.below hb2)
              have G9 := Lib.hid (HG.out.below hb2 HG.out.lt)
              clear hb2 HK1 HB HO HP HG HK0
              have y0 := K1e.out.cell 0
              have y1 := K1e.out.cell 1
              have y2 := K1e.out.cell 2
              have y3 := K1e.out.cell 3
              have z0 := K1e.out.frozen 0
              have z1 := K1e.out.frozen 1
              have z2 := K1e.out.frozen 2
              have z3 := K1e.out.frozen 3
              go_wp2_with fail
              have H3 := ((((K1e.out.set_ 0 (.int .u32 0)).set_ 1 (.int .u32 0)).set_ 2 (.slice none 0 0)).set_ 3 (.slice none 0 0))
              exact bodyPost_ret (v := .tuple #[.agg #[.int .u32 0, .int .u32 0, .slice none 0 0, .slice none 0 0], .int .i64 7]) (by simp [results, Try.results31, go_sem, H3.cell]) rfl ⟨none, 0, 0, none, 0, 0, by rw [HOK.out, ansS_off HOK.out]; rfl, by rw [ansS_off HOK.out]; exact World.ownsRow_nil _ _ _ _, by rw [ansS_off HOK.out]; exact rfl, by rw [ansS_off HOK.out]; exact Ow.nil _ _ _, by rw [ansS_off HOK.out]; exact rfl, ((((B6.out.setCell (p := ⟨w.heap.size + 1, 0, none⟩) (show w.heap.size ≤ w.heap.size + 1 by omega) (.int .u32 0)).setCell (p := ⟨w.heap.size + 1, 1, none⟩) (show w.heap.size ≤ w.heap.size + 1 by omega) (.int .u32 0)).setCell (p := ⟨w.heap.size + 1, 2, none⟩) (show w.heap.size ≤ w.heap.size + 1 by omega) (.slice none 0 0)).setCell (p := ⟨w.heap.size + 1, 3, none⟩) (show w.heap.size ≤ w.heap.size + 1 by omega) (.slice none 0 0))⟩
            · have HOK := Lib.hid (HOKD.out _ hv hd)
              have HAP2 := Lib.hid (HAP.out _ hv)
              have HSM2 := Lib.hid (HSM.out _ hd)
              clear hv hd
              refine wp_region_grow_tail 10 (by kernel_rfl) [(Is (.pointer (some ⟨g4, 2, none⟩))), (Is (.slice As h8 cs)), (Is (.bool true)), (Is (.bool false)), (Is (.bool false)), (Is (.agg #[.int .u32 (q0 : Int), .int .u32 (q4 : Int), .slice As h8 cs, .slice Ad h10 cd])), (NewAgg 5 w.heap.size Y.length Y (fun s => .agg #[.int .u8 ((3 : UInt8).toNat : Int), .int .u8 ((0 : UInt8).toNat : Int), s])), (Is (.agg #[.int .u8 (k.toNat : Int), .int .u8 (f.toNat : Int), .slice A n c])), (Is (.bool true)), (Is (.bool false))] rfl ?_ (by kernel_rfl) (by kernel_rfl) ?_ ?_
              · intro p hp
                simp only [List.mem_cons, List.not_mem_nil, or_false] at hp
                rcases hp with rfl | rfl | rfl | rfl | rfl | rfl | rfl | rfl | rfl | rfl
                · exact Lasts.is _
                · exact Lasts.is _
                · exact Lasts.is _
                · exact Lasts.is _
                · exact Lasts.is _
                · exact Lasts.is _
                · exact Lasts.newAgg _ _ _ _ _
                · exact Lasts.is _
                · exact Lasts.is _
                · exact Lasts.is _
              · refine ⟨?_, ?_, ?_, ?_, ?_, ?_, ?_, ?_, ?_, ?_, trivial⟩
                · intro listed a w1 hl hc
                  have h4 : a.tmps[4]?.getD undef = .pointer (some ⟨g4, 0, none⟩) := (hc.was 4 (by kernel_rfl)).trans rfl
                  refine does_value rfl rfl (.pointer (some ⟨g4, 2, none⟩)) w1 ?_ (Below.refl _ _) rfl
                  clear hc hl
                  go_simp
                · intro listed a w1 hl hc
                  have h87 : a.tmps[87]?.getD undef = .pointer (some ⟨g4, 2, none⟩) := hc.dep hl 0 87 rfl (by kernel_rfl)
                  have kb := HG.out.below hc.g HG.out.lt
                  have x2 : w1.cell? ⟨g4, 2, none⟩ = some (.slice As h8 cs) := kb.cell 2
                  clear kb
                  refine does_value rfl rfl (.slice As h8 cs) w1 ?_ (Below.refl _ _) rfl
                  clear hc hl
                  go_simp
                · intro listed a w1 hl hc
                  have h88 : a.tmps[88]?.getD undef = .slice As h8 cs := hc.dep hl 1 88 rfl (by kernel_rfl)
                  refine does_call rfl rfl 69 #[.slice As h8 cs] ?_ ((HAP2.out w1 As cs (HO.out.below hc.g)).mono fun e w' ⟨he, hb⟩ => ⟨_, he, hb, rfl⟩)
                  clear hc hl
                  go_simp
                · intro listed a w1 hl hc
                  have h89 : a.tmps[89]?.getD undef = .bool true := hc.dep hl 2 89 rfl (by kernel_rfl)
                  refine does_value rfl rfl (.bool false) w1 ?_ (Below.refl _ _) rfl
                  clear hc hl
                  go_simp
                · intro listed a w1 hl hc
                  have h90 : a.tmps[90]?.getD undef = .bool false := hc.dep hl 3 90 rfl (by kernel_rfl)
                  refine does_value rfl rfl (.bool false) w1 ?_ (Below.refl _ _) rfl
                  clear hc hl
                  go_simp
                · intro listed a w1 hl hc
                  have h4 : a.tmps[4]?.getD undef = .pointer (some ⟨g4, 0, none⟩) := (hc.was 4 (by kernel_rfl)).trans rfl
                  have kb := HG.out.below hc.g HG.out.lt
                  have x0 : w1.cell? ⟨g4, 0, none⟩ = some (.int .u32 (q0 : Int)) := kb.cell 0
                  have x1 : w1.cell? ⟨g4, 1, none⟩ = some (.int .u32 (q4 : Int)) := kb.cell 1
                  have x2 : w1.cell? ⟨g4, 2, none⟩ = some (.slice As h8 cs) := kb.cell 2
                  have x3 : w1.cell? ⟨g4, 3, none⟩ = some (.slice Ad h10 cd) := kb.cell 3
                  clear kb
                  refine does_value rfl (wanted_at rfl rfl (hc.dep hl 4 91 rfl (by kernel_rfl))) (.agg #[.int .u32 (q0 : Int), .int .u32 (q4 : Int), .slice As h8 cs, .slice Ad h10 cd]) w1 ?_ (Below.refl _ _) rfl
                  clear hc hl
                  go_simp
                · intro listed a w1 hl hc
                  have h92 : a.tmps[92]?.getD undef = .agg #[.int .u32 (q0 : Int), .int .u32 (q4 : Int), .slice As h8 cs, .slice Ad h10 cd] := hc.dep hl 5 92 rfl (by kernel_rfl)
                  refine does_call rfl (wanted_at rfl rfl (hc.dep hl 4 91 rfl (by kernel_rfl))) 32 #[.agg #[.int .u32 (q0 : Int), .int .u32 (q4 : Int), .slice As h8 cs, .slice Ad h10 cd]] ?_ ((HPT.out w1 As cs Ad cd (HO.out.below hc.g) (HP.out.below hc.g)).mono fun e w' ⟨A9, c9, he, ho, hb⟩ => ⟨_, he, hb, A9, c9, rfl, ho.more (Nat.le_trans HB.out.size hc.g.size)⟩)
                  clear hc hl
                  go_simp
                · intro listed a w1 hl hc
                  have h1 : a.tmps[1]?.getD undef = .pointer (some ⟨w.heap.size, 0, none⟩) := (hc.was 1 (by kernel_rfl)).trans rfl
                  have kb := HK0.out.below hc.g HK0.out.lt
                  have x0 : w1.cell? ⟨w.heap.size, 0, none⟩ = some (.int .u8 (k.toNat : Int)) := kb.cell 0
                  have x1 : w1.cell? ⟨w.heap.size, 1, none⟩ = some (.int .u8 (f.toNat : Int)) := kb.cell 1
                  have x2 : w1.cell? ⟨w.heap.size, 2, none⟩ = some (.slice A n c) := kb.cell 2
                  clear kb
                  refine does_value rfl (wanted_at rfl rfl (hc.dep hl 4 91 rfl (by kernel_rfl))) (.agg #[.int .u8 (k.toNat : Int), .int .u8 (f.toNat : Int), .slice A n c]) w1 ?_ (Below.refl _ _) rfl
                  clear hc hl
                  go_simp
                · intro listed a w1 hl hc
                  obtain ⟨A93, c93, h93, ho93⟩ := hc.dep hl 6 93 rfl (by kernel_rfl)
                  have h94 : a.tmps[94]?.getD undef = .agg #[.int .u8 (k.toNat : Int), .int .u8 (f.toNat : Int), .slice A n c] := hc.dep hl 7 94 rfl (by kernel_rfl)
                  refine does_call rfl (wanted_at rfl rfl (hc.dep hl 4 91 rfl (by kernel_rfl))) 18 #[.agg #[.int .u8 ((3 : UInt8).toNat : Int), .int .u8 ((0 : UInt8).toNat : Int), .slice A93 Y.length c93], .agg #[.int .u8 (k.toNat : Int), .int .u8 (f.toNat : Int), .slice A n c]] ?_ ((HSM2.out w1 _ _ (HB.out.trans (hc.g.mono HB.out.size)) ho93).mono fun e w' ⟨he, hb⟩ => ⟨_, he, hb, rfl⟩)
                  clear hc hl
                  go_simp
                · intro listed a w1 hl hc
                  have h95 : a.tmps[95]?.getD undef = .bool true := hc.dep hl 8 95 rfl (by kernel_rfl)
                  refine does_value rfl (wanted_at rfl rfl (hc.dep hl 4 91 rfl (by kernel_rfl))) (.bool false) w1 ?_ (Below.refl _ _) rfl
                  clear hc hl
                  go_simp
              intro w2 hb2
              rintro _ rfl _ rfl _ rfl _ rfl _ rfl _ rfl _ ⟨A93, c93, rfl, ho93⟩ _ rfl _ rfl _ rfl
              simp only [Thus, List.reverse_cons, List.reverse_nil, List.nil_append, List.cons_append, List.drop, List.take, lay]
              go_frame
              have K1e := Lib.hid (HK1.out.below hb2 HK1.out.lt)
              have B6 := Lib.hid (below_then HB.out (Nat.le_refl _) hb2)
              have O6 := Lib.hid (HO.out.below hb2)
              have P6 := Lib.hid (HP.out.below hb2)
              have G9 := Lib.hid (HG.out.below hb2 HG.out.lt)
              clear hb2 HK1 HB HO HP HG HK0
              have x0 := G9.out.cell 0
              have x1 := G9.out.cell 1
              have x2 := G9.out.cell 2
              have x3 := G9.out.cell 3
              have y0 := K1e.out.cell 0
              have y1 := K1e.out.cell 1
              have y2 := K1e.out.cell 2
              have y3 := K1e.out.cell 3
              have z0 := K1e.out.frozen 0
              have z1 := K1e.out.frozen 1
              have z2 := K1e.out.frozen 2
              have z3 := K1e.out.frozen 3
              go_wp2_with fail
              have H3 := ((((K1e.out.set_ 0 (.int .u32 (q0 : Int))).set_ 1 (.int .u32 (q4 : Int))).set_ 2 (.slice As h8 cs)).set_ 3 (.slice Ad h10 cd))
              exact bodyPost_ret (v := .tuple #[.agg #[.int .u32 (q0 : Int), .int .u32 (q4 : Int), .slice As h8 cs, .slice Ad h10 cd], .int .i64 0]) (by simp [results, Try.results31, go_sem, H3.cell]) rfl ⟨As, h8, cs, Ad, h10, cd, by rw [HOK.out, HANS.out HOK.out]; rfl, by rw [HANS.out HOK.out]; exact ((((O6.out.setBlk K1e.out (by decide) 0 (.int .u32 (q0 : Int))).setBlk (K1e.out.set_ 0 (.int .u32 (q0 : Int))) (by decide) 1 (.int .u32 (q4 : Int))).setBlk ((K1e.out.set_ 0 (.int .u32 (q0 : Int))).set_ 1 (.int .u32 (q4 : Int))) (by decide) 2 (.slice As h8 cs)).setBlk (((K1e.out.set_ 0 (.int .u32 (q0 : Int))).set_ 1 (.int .u32 (q4 : Int))).set_ 2 (.slice As h8 cs)) (by decide) 3 (.slice Ad h10 cd)), by rw [HANS.out HOK.out]; exact (length_getG _ _ _).symm, by rw [HANS.out HOK.out]; exact ((((P6.out.setBlk K1e.out (by decide) 0 (.int .u32 (q0 : Int))).setBlk (K1e.out.set_ 0 (.int .u32 (q0 : Int))) (by decide) 1 (.int .u32 (q4 : Int))).setBlk ((K1e.out.set_ 0 (.int .u32 (q0 : Int))).set_ 1 (.int .u32 (q4 : Int))) (by decide) 2 (.slice As h8 cs)).setBlk (((K1e.out.set_ 0 (.int .u32 (q0 : Int))).set_ 1 (.int .u32 (q4 : Int))).set_ 2 (.slice As h8 cs)) (by decide) 3 (.slice Ad h10 cd)), by rw [HANS.out HOK.out]; exact (length_getN _ _ _).symm, ((((B6.out.setCell (p := ⟨w.heap.size + 1, 0, none⟩) (show w.heap.size ≤ w.heap.size + 1 by omega) (.int .u32 (q0 : Int))).setCell (p := ⟨w.heap.size + 1, 1, none⟩) (show w.heap.size ≤ w.heap.size + 1 by omega) (.int .u32 (q4 : Int))).setCell (p := ⟨w.heap.size + 1, 2, none⟩) (show w.heap.size ≤ w.heap.size + 1 by omega) (.slice As h8 cs)).setCell (p := ⟨w.heap.size + 1, 3, none⟩) (show w.heap.size ≤ w.heap.size + 1 by omega) (.slice Ad h10 cd))⟩
theorem refGetSack_any (k f : UInt8) (A : Option Addr) (n c : Nat) (xs : List UInt8) (w : World) (hn : n ≤ 131072) (hc : n ≤ c) (hcm : c ≤ maxLen) (hx : xs.length = n) (hr : Rd w w.heap.size A xs) : GetsS 31 #[.agg #[.int .u8 (k.toNat : Int), .int .u8 (f.toNat : Int), .slice A n c]] k f xs w := by
  by_cases hl : n < 12
  · exact refGetSack_short k f A n c xs w hn hc hcm hx hr hl
  · exact refGetSack_long k f A n c xs w hn hc hcm hx hr (by omega)
end Go.Proofs.Ytalgkokgaibloaa
