/-
  The reference's Read.
-/
import Derived.Test.YtifmhlbeodfpeaaQ13
import Derived.Test.YtifmhlbeodfpeaaQ14
import Derived.Test.YtifmhlbeodfpeaaQ12
import Derived.Test.YtifmhlbeodfpeaaQ11
namespace Go.Proofs.Ytifmhlbeodfpeaa
open Go.RowKit
set_option linter.unusedVariables false

set_option maxHeartbeats 1000000 in
theorem refRead_short (A : Option Addr) (n c : Nat) (w : World) (hn : n < 4) :
    Calls Try.prog 48 #[.slice A n c] w fun e w' => e = .returned noChunk ∧ Below w.heap.size w w' := by
  have hz := zero_chunk
  have HC : Hid (∀ W : World, Calls Try.prog 47 #[.slice A n c, .int .i64 2, .int .i64 2] W fun e w' => e = .returned (.tuple #[.int .u64 0, .int .i64 1]) ∧ Below W.heap.size W w') := Lib.hid fun W => refGet_out A n c 2 2 W (by unfold maxLen; omega) (fun h => by obtain ⟨h1, h2, h3, h4⟩ := h; omega)
  have hR0 := Blk.new w 41 #[.int .u8 0, .int .u8 0, .slice none 0 0]
  have HB0 := Lib.hid (below_new w (.cells #[.int .u8 0, .int .u8 0, .slice none 0 0] 41))
  have HR0 := Lib.hid hR0
  clear hR0
  go_enter Try.func48, Try.ntmps48
  go_wp2_with fail
  refine (HC.out _).mono ?_
  rintro e w1 ⟨rfl, hb1⟩
  have R6 := HR0.out.below hb1 HR0.out.lt
  have j3 : w1.cell? ⟨w.heap.size, 0, none⟩ = some (.int .u8 0) := R6.cell 0
  have j4 : w1.cell? ⟨w.heap.size, 1, none⟩ = some (.int .u8 0) := R6.cell 1
  have j5 : w1.cell? ⟨w.heap.size, 2, none⟩ = some (.slice none 0 0) := R6.cell 2
  have k3 := R6.frozen 0
  have k4 := R6.frozen 1
  have k5 := R6.frozen 2
  have B6 := Lib.hid (below_then HB0.out (Nat.le_refl _) hb1)
  clear R6 hb1
  go_wp2_with fail
  refine bodyPost_ret (v := noChunk) ?_ rfl ⟨rfl, ?_⟩
  · simp [noChunk, results, Try.results48, go_sem, j3, j4, j5]
  · exact ((B6.out.setCell (p := ⟨w.heap.size, 0, none⟩) (Nat.le_refl _) _).setCell (p := ⟨w.heap.size, 1, none⟩) (Nat.le_refl _) _).setCell (p := ⟨w.heap.size, 2, none⟩) (Nat.le_refl _) _

set_option maxHeartbeats 1000000 in
theorem refRead_off (A : Option Addr) (n c : Nat) (xs : List UInt8) (w : World) (hn : n ≤ 140737488355300) (hc : n ≤ c) (hcm : c ≤ maxLen) (hx : xs.length = n) (hr : Rd w w.heap.size A xs) (hn4 : 4 ≤ n) (hl : clen xs < 4 ∨ n < clen xs) :
    Calls Try.prog 48 #[.slice A n c] w fun e w' => e = .returned noChunk ∧ Below w.heap.size w w' := by
  have hz := zero_chunk
  have HC : Hid (∀ W : World, Below w.heap.size w W → Calls Try.prog 47 #[.slice A n c, .int .i64 2, .int .i64 2] W fun e w' => e = .returned (.tuple #[.int .u64 (clen xs), .int .i64 0]) ∧ Below W.heap.size W w') := Lib.hid fun W hW => refGet_yes A n c 2 2 xs W (by omega) hc hcm hx ((hr.below hW).more hW.size) (.inr (.inl rfl)) (by omega)
  have hLM := clen_lt xs
  obtain ⟨L, hL⟩ : ∃ L, L = clen xs := ⟨_, rfl⟩
  rw [← hL] at HC hl hLM
  clear hL hx hr
  have hR0 := Blk.new w 41 #[.int .u8 0, .int .u8 0, .slice none 0 0]
  have HB0 := Lib.hid (below_new w (.cells #[.int .u8 0, .int .u8 0, .slice none 0 0] 41))
  have HR0 := Lib.hid hR0
  clear hR0
  rcases (show L < 4 ∨ (4 ≤ L ∧ n < L) by omega) with h1 | ⟨h1, h2⟩
  all_goals
    clear hl
    go_enter Try.func48, Try.ntmps48
    go_wp2_with fail
    refine (HC.out _ HB0.out).mono ?_
    rintro e w1 ⟨rfl, hb1⟩
    have R6 := HR0.out.below hb1 HR0.out.lt
    have j3 : w1.cell? ⟨w.heap.size, 0, none⟩ = some (.int .u8 0) := R6.cell 0
    have j4 : w1.cell? ⟨w.heap.size, 1, none⟩ = some (.int .u8 0) := R6.cell 1
    have j5 : w1.cell? ⟨w.heap.size, 2, none⟩ = some (.slice none 0 0) := R6.cell 2
    have k3 := R6.frozen 0
    have k4 := R6.frozen 1
    have k5 := R6.frozen 2
    have B6 := Lib.hid (below_then HB0.out (Nat.le_refl _) hb1)
    clear R6 hb1
    go_wp2_with fail
    refine bodyPost_ret (v := noChunk) ?_ rfl ⟨rfl, ?_⟩
    · simp [noChunk, results, Try.results48, go_sem, j3, j4, j5]
    · exact ((B6.out.setCell (p := ⟨w.heap.size, 0, none⟩) (Nat.le_refl _) _).setCell (p := ⟨w.heap.size, 1, none⟩) (Nat.le_refl _) _).setCell (p := ⟨w.heap.size, 2, none⟩) (Nat.le_refl _) _

set_option maxHeartbeats 3000000 in
theorem refRead_on (A : Option Addr) (n c : Nat) (xs : List UInt8) (w : World) (hn : n ≤ 140737488355300) (hc : n ≤ c) (hcm : c ≤ maxLen) (hx : xs.length = n) (hr : Rd w w.heap.size A xs) (hn4 : 4 ≤ n) (h4 : 4 ≤ clen xs) (hLn : clen xs ≤ n) :
    Calls Try.prog 48 #[.slice A n c] w fun e w' => (Fits xs ∧ ∃ A2 c2, e = .returned (.tuple #[.agg #[.int .u8 ((kind xs).toNat : Int), .int .u8 ((flag xs).toNat : Int), .slice A2 (clen xs - 4) c2], .int .i64 (up4 (clen xs)), .int .i64 0]) ∧ Own8 w' 5 w.heap.size A2 (clen xs - 4) c2 (body xs) ∧ Below w.heap.size w w') ∨ (¬ Fits xs ∧ e = .returned noChunk ∧ Below w.heap.size w w') := by
  have hz := zero_chunk
  have HC : Hid (∀ W : World, Below w.heap.size w W → Calls Try.prog 47 #[.slice A n c, .int .i64 2, .int .i64 2] W fun e w' => e = .returned (.tuple #[.int .u64 (clen xs), .int .i64 0]) ∧ Below W.heap.size W w') := Lib.hid fun W hW => refGet_yes A n c 2 2 xs W (by omega) hc hcm hx ((hr.below hW).more hW.size) (.inr (.inl rfl)) (by omega)
  have hLM := clen_lt xs
  obtain ⟨L, hL⟩ : ∃ L, L = clen xs := ⟨_, rfl⟩
  rw [← hL] at HC h4 hLn hLM ⊢
  have hLU := up4_bd L
  obtain ⟨U, hU⟩ : ∃ U, U = up4 L := ⟨_, rfl⟩
  rw [← hU] at hLU ⊢
  have HL := Lib.hid hL
  have HU := Lib.hid hU
  have HX := Lib.hid hx
  have HR := Lib.hid hr
  obtain ⟨b, o, hAe, hbl, hcx⟩ := hr.at_ (by intro h; rw [h] at hx; simp at hx; omega)
  have HA := Lib.hid (show ∀ W : World, Below w.heap.size w W → W.cell? ⟨b, o, none⟩ = some (.int .u8 ((kind xs).toNat : Int)) ∧ W.cell? ⟨b, o + 1, none⟩ = some (.int .u8 ((flag xs).toNat : Int)) from fun W hW => by
    have h0 := hcx 0 (by omega)
    have h1 := hcx 1 (by omega)
    rw [hW.cell hbl, hW.cell hbl, h1, ← Nat.add_zero o, h0, kind, flag, List.getElem?_eq_getElem (by omega), List.getElem?_eq_getElem (by omega)]
    exact ⟨rfl, rfl⟩)
  obtain ⟨k0, hk0⟩ : ∃ k0, k0 = kind xs := ⟨_, rfl⟩
  obtain ⟨f0, hf0⟩ : ∃ f0, f0 = flag xs := ⟨_, rfl⟩
  rw [← hk0, ← hf0] at HA ⊢
  have HK0 := Lib.hid hk0
  have HF0 := Lib.hid hf0
  have HBL : Hid ((body xs).length = L - 4) := Lib.hid (by rw [hL]; exact length_body (by omega))
  obtain ⟨AA, hAA⟩ : ∃ AA : Option Addr, AA = if c = 4 then some ⟨b, o, none⟩ else some ⟨b, o + 4, none⟩ := ⟨_, rfl⟩
  have HAA := Lib.hid hAA
  have HBR : Hid (Rd w w.heap.size AA (body xs)) := Lib.hid (by
    rw [hAA]
    split
    · exact .inl (List.eq_nil_of_length_eq_zero (by rw [HBL.out]; omega))
    · have := hr.cut 4 (L - 4)
      rw [hAe] at this
      simpa [Addr.add, body, hL] using this)
  clear hcx hk0 hf0 hAA
  subst hAe
  clear hL hU hx hr
  have HB0 := Lib.hid (below_new w (.cells #[.int .u8 0, .int .u8 0, .slice none 0 0] 41))
  have HR0 := Lib.hid (Blk.new w 41 #[.int .u8 0, .int .u8 0, .slice none 0 0])
  unfold maxLen at hcm
  go_enter Try.func48, Try.ntmps48
  go_wp2_with fail
  refine (HC.out _ HB0.out).mono ?_
  rintro e v1 ⟨rfl, hb1⟩
  have R1 := Lib.hid (HR0.out.below hb1 HR0.out.lt)
  have B1 := Lib.hid (below_then HB0.out (Nat.le_refl _) hb1)
  have HCP : Hid (∀ W : World, Below w.heap.size w W → Calls Try.prog 30 #[.slice AA (L - 4 : Nat) (c - 4 : Nat)] W fun e w' => ∃ A2 c2, e = .returned (.slice A2 (L - 4 : Nat) c2) ∧ Own8 w' 5 W.heap.size A2 (L - 4) c2 (body xs) ∧ Below W.heap.size W w') := Lib.hid fun W hW => copyBytes_any _ _ _ _ W (by omega) HBL.out ((HBR.out.below hW).more hW.size)
  clear hb1
  go_wp2_with fail
  -- REGION 5
  refine wp_region_grow_tail 12 (by kernel_rfl) [(Is (.slice (some ⟨b, o, none⟩) n c)), (Is (.pointer (some ⟨b, o, none⟩))), (Is (.int .u8 (k0.toNat : Int))), (Is (.slice (some ⟨b, o, none⟩) n c)), (Is (.pointer (some ⟨b, o + 1, none⟩))), (Is (.int .u8 (f0.toNat : Int))), (Is (.slice (some ⟨b, o, none⟩) n c)), (Is (.int .i64 L)), (Is (.slice AA (L - 4 : Nat) (c - 4 : Nat))), (NewOwn 5 v1.heap.size (L - 4) (body xs)), (NewAgg 5 v1.heap.size (L - 4) (body xs) (fun s => .agg #[.int .u8 (k0.toNat : Int), .int .u8 (f0.toNat : Int), s])), (NewBlk v1.heap.size 41 #[.int .u8 0, .int .u8 0, .slice none 0 0])] rfl ?_ (by kernel_rfl) (by kernel_rfl) ?_ ?_
  · intro p hp
    simp only [List.mem_cons, List.not_mem_nil, or_false] at hp
    rcases hp with rfl | rfl | rfl | rfl | rfl | rfl | rfl | rfl | rfl | rfl | rfl | rfl
    · exact Lasts.is _
    · exact Lasts.is _
    · exact Lasts.is _
    · exact Lasts.is _
    · exact Lasts.is _
    · exact Lasts.is _
    · exact Lasts.is _
    · exact Lasts.is _
    · exact Lasts.is _
    · exact Lasts.newOwn _ _ _ _
    · exact Lasts.newAgg _ _ _ _ _
    · exact Lasts.newBlk _ _ _
  · refine ⟨?_, ?_, ?_, ?_, ?_, ?_, ?_, ?_, ?_, ?_, ?_, ?_, trivial⟩
    · intro listed a w1 hl hc
      have h0 : a.tmps[0]?.getD undef = .slice (some ⟨b, o, none⟩) n c := (hc.was 0 (by kernel_rfl)).trans rfl
      refine does_value rfl rfl (.slice (some ⟨b, o, none⟩) n c) w1 ?_ (Below.refl _ _) rfl
      clear hc hl
      go_simp
    · intro listed a w1 hl hc
      have h30 : a.tmps[30]?.getD undef = .slice (some ⟨b, o, none⟩) n c := hc.dep hl 0 30 rfl (by kernel_rfl)
      refine does_value rfl rfl (.pointer (some ⟨b, o, none⟩)) w1 ?_ (Below.refl _ _) rfl
      clear hc hl
      go_simp
      intro hh; omega
    · intro listed a w1 hl hc
      have h31 : a.tmps[31]?.getD undef = .pointer (some ⟨b, o, none⟩) := hc.dep hl 1 31 rfl (by kernel_rfl)
      have hk := (HA.out w1 (B1.out.trans (hc.g.mono B1.out.size))).1
      refine does_value rfl rfl (.int .u8 (k0.toNat : Int)) w1 ?_ (Below.refl _ _) rfl
      clear hc hl
      go_simp
    · intro listed a w1 hl hc
      have h0 : a.tmps[0]?.getD undef = .slice (some ⟨b, o, none⟩) n c := (hc.was 0 (by kernel_rfl)).trans rfl
      refine does_value rfl rfl (.slice (some ⟨b, o, none⟩) n c) w1 ?_ (Below.refl _ _) rfl
      clear hc hl
      go_simp
    · intro listed a w1 hl hc
      have h33 : a.tmps[33]?.getD undef = .slice (some ⟨b, o, none⟩) n c := hc.dep hl 3 33 rfl (by kernel_rfl)
      refine does_value rfl rfl (.pointer (some ⟨b, o + 1, none⟩)) w1 ?_ (Below.refl _ _) rfl
      clear hc hl
      go_simp
      intro hh; omega
    · intro listed a w1 hl hc
      have h34 : a.tmps[34]?.getD undef = .pointer (some ⟨b, o + 1, none⟩) := hc.dep hl 4 34 rfl (by kernel_rfl)
      have hk := (HA.out w1 (B1.out.trans (hc.g.mono B1.out.size))).2
      refine does_value rfl rfl (.int .u8 (f0.toNat : Int)) w1 ?_ (Below.refl _ _) rfl
      clear hc hl
      go_simp
    · intro listed a w1 hl hc
      have h0 : a.tmps[0]?.getD undef = .slice (some ⟨b, o, none⟩) n c := (hc.was 0 (by kernel_rfl)).trans rfl
      refine does_value rfl rfl (.slice (some ⟨b, o, none⟩) n c) w1 ?_ (Below.refl _ _) rfl
      clear hc hl
      go_simp
    · intro listed a w1 hl hc
      have h7 : a.tmps[7]?.getD undef = .int .i64 L := (hc.was 7 (by kernel_rfl)).trans rfl
      refine does_value rfl rfl (.int .i64 L) w1 ?_ (Below.refl _ _) rfl
      clear hc hl
      go_simp
    · intro listed a w1 hl hc
      have h36 : a.tmps[36]?.getD undef = .slice (some ⟨b, o, none⟩) n c := hc.dep hl 6 36 rfl (by kernel_rfl)
      have h37 : a.tmps[37]?.getD undef = .int .i64 L := hc.dep hl 7 37 rfl (by kernel_rfl)
      refine does_value rfl rfl (.slice (if c = 4 then some ⟨b, o, none⟩ else some ⟨b, o + 4, none⟩) (L - 4 : Nat) (c - 4 : Nat)) w1 ?_ (Below.refl _ _) (show _ = _ by rw [HAA.out])
      clear hc hl
      go_simp
      intro hh; omega
    · intro listed a w1 hl hc
      have h38 : a.tmps[38]?.getD undef = .slice AA (L - 4 : Nat) (c - 4 : Nat) := hc.dep hl 8 38 rfl (by kernel_rfl)
      refine does_call rfl rfl 30 #[.slice AA (L - 4 : Nat) (c - 4 : Nat)] ?_ ((HCP.out w1 (B1.out.trans (hc.g.mono B1.out.size))).mono fun e w' ⟨A2, c2, he, ho, hb⟩ => ⟨_, he, hb, A2, c2, rfl, ho.more hc.g.size⟩)
      clear hc hl
      go_simp
    · intro listed a w1 hl hc
      have h32 : a.tmps[32]?.getD undef = .int .u8 (k0.toNat : Int) := hc.dep hl 2 32 rfl (by kernel_rfl)
      have h35 : a.tmps[35]?.getD undef = .int .u8 (f0.toNat : Int) := hc.dep hl 5 35 rfl (by kernel_rfl)
      obtain ⟨A9, c9, h39, ho9⟩ := hc.dep hl 9 39 rfl (by kernel_rfl)
      refine does_value rfl rfl (.agg #[.int .u8 (k0.toNat : Int), .int .u8 (f0.toNat : Int), .slice A9 (L - 4 : Nat) c9]) w1 ?_ (Below.refl _ _) ⟨A9, c9, rfl, ho9⟩
      clear hc hl
      go_simp
    · intro listed a w1 hl hc
      refine does_value rfl rfl (.pointer (some ⟨w1.heap.size, 0, none⟩)) (w1.alloc (.cells #[.int .u8 0, .int .u8 0, .slice none 0 0] 41)) ?_ (below_new w1 _) ⟨_, rfl, hc.g.size, Blk.new _ _ _⟩
      clear hc hl
      go_simp
  -- END 5
  intro w2 hb2
  rintro _ rfl _ rfl _ rfl _ rfl _ rfl _ rfl _ rfl _ rfl _ rfl _ ⟨A9, c9, rfl, ho9⟩ _ ⟨A2, c2, rfl, ho2⟩ _ ⟨g, rfl, hg, hblk⟩
  simp only [Thus, List.reverse_cons, List.reverse_nil, List.nil_append, List.cons_append, List.drop, List.take, lay]
  go_frame
  have hrg : w.heap.size ≠ g := by have := R1.out.lt; omega
  have hwg : w.heap.size ≤ g := Nat.le_trans B1.out.size hg
  have hne := Own8.ne_blk ho2 hblk (by decide)
  have k3 : w2.cell? ⟨g, 0, none⟩ = some (.int .u8 0) := hblk.cell 0
  have k4 : w2.cell? ⟨g, 1, none⟩ = some (.int .u8 0) := hblk.cell 1
  have k5 : w2.cell? ⟨g, 2, none⟩ = some (.slice none 0 0) := hblk.cell 2
  have z3 := hblk.frozen 0
  have z4 := hblk.frozen 1
  have z5 := hblk.frozen 2
  have G3 : Hid (Blk (((w2.setCell ⟨g, 0, none⟩ (.int .u8 (k0.toNat : Int))).setCell ⟨g, 1, none⟩ (.int .u8 (f0.toNat : Int))).setCell ⟨g, 2, none⟩ (.slice A2 (L - 4 : Nat) c2)) g 41 #[.int .u8 (k0.toNat : Int), .int .u8 (f0.toNat : Int), .slice A2 (L - 4 : Nat) c2]) := Lib.hid (((hblk.set_ 0 _).set_ 1 _).set_ 2 _)
  have R3 : Hid (Blk (((w2.setCell ⟨g, 0, none⟩ (.int .u8 (k0.toNat : Int))).setCell ⟨g, 1, none⟩ (.int .u8 (f0.toNat : Int))).setCell ⟨g, 2, none⟩ (.slice A2 (L - 4 : Nat) c2)) w.heap.size 41 #[.int .u8 0, .int .u8 0, .slice none 0 0]) := Lib.hid ((((R1.out.below hb2 R1.out.lt).far (p := ⟨g, 0, none⟩) hrg _).far (p := ⟨g, 1, none⟩) hrg _).far (p := ⟨g, 2, none⟩) hrg _)
  have B3 : Hid (Below w.heap.size w (((w2.setCell ⟨g, 0, none⟩ (.int .u8 (k0.toNat : Int))).setCell ⟨g, 1, none⟩ (.int .u8 (f0.toNat : Int))).setCell ⟨g, 2, none⟩ (.slice A2 (L - 4 : Nat) c2))) := Lib.hid ((((below_then B1.out (Nat.le_refl _) hb2).setCell (p := ⟨g, 0, none⟩) hwg _).setCell (p := ⟨g, 1, none⟩) hwg _).setCell (p := ⟨g, 2, none⟩) hwg _)
  have O3 : Hid (Own8 (((w2.setCell ⟨g, 0, none⟩ (.int .u8 (k0.toNat : Int))).setCell ⟨g, 1, none⟩ (.int .u8 (f0.toNat : Int))).setCell ⟨g, 2, none⟩ (.slice A2 (L - 4 : Nat) c2)) 5 w.heap.size A2 (L - 4) c2 (body xs)) := Lib.hid ((ho2.keep fun q hq => by
    have h1 := hne q hq
    rw [Below.heap_setCell _ _ _ q (by simpa using h1), Below.heap_setCell _ _ _ q (by simpa using h1), Below.heap_setCell _ _ _ q (by simpa using h1)]).more B1.out.size)
  have HR0' := Lib.hid R1
  clear ho2 hne hb2 R1 HB0 HR0 HCP ho9
  go_wp2_with fail
  clear hblk k3 k4 k5 z3 z4 z5
  generalize ((w2.setCell ⟨g, 0, none⟩ (.int .u8 (k0.toNat : Int))).setCell ⟨g, 1, none⟩ (.int .u8 (f0.toNat : Int))).setCell ⟨g, 2, none⟩ (.slice A2 (L - 4 : Nat) c2) = w3 at G3 R3 B3 O3 ⊢
  refine (refWrite_any k0 f0 A2 (L - 4) c2 (body xs) w3 HBL.out O3.out.rd).mono ?_
  rintro e w4 ⟨A5, m5, c5, rfl, ho5, hb5⟩
  have hm5 : m5 = U := by
    rw [← ho5.len, length_wrt (by rw [HBL.out]; omega), HBL.out, HU.out]
    congr 1
    omega
  subst hm5
  have O5 := Lib.hid ho5
  have G4 := Lib.hid (G3.out.below hb5 G3.out.lt)
  have R4 := Lib.hid (R3.out.below hb5 R3.out.lt)
  have B4 := Lib.hid (below_then B3.out (Nat.le_refl _) hb5)
  have O4 := Lib.hid (O3.out.below hb5 (Nat.le_refl _))
  clear ho5 hb5 G3 R3 O3
  have hHU : m5 = up4 (clen xs) := by rw [HU.out, HL.out]
  have hHL := HL.out
  have hXn := HX.out
  have HUU := Lib.hid hHU
  have d3 : w4.cell? ⟨w.heap.size, 0, none⟩ = some (.int .u8 0) := R4.out.cell 0
  have d4 : w4.cell? ⟨w.heap.size, 1, none⟩ = some (.int .u8 0) := R4.out.cell 1
  have d5 : w4.cell? ⟨w.heap.size, 2, none⟩ = some (.slice none 0 0) := R4.out.cell 2
  have e3 := R4.out.frozen 0
  have e4 := R4.out.frozen 1
  have e5 := R4.out.frozen 2
  have hno := Lib.hid (fun W (hW : Below w.heap.size w W) => ((hW.setCell (p := ⟨w.heap.size, 0, none⟩) (Nat.le_refl _) (.int .u8 0)).setCell (p := ⟨w.heap.size, 1, none⟩) (Nat.le_refl _) (.int .u8 0)).setCell (p := ⟨w.heap.size, 2, none⟩) (Nat.le_refl _) (.slice none 0 0))
  by_cases hUn : m5 ≤ n
  · have HEQ := eqBytes_any w4.heap.size w.heap.size A5 (some ⟨b, o, none⟩) m5 m5 c5 c (wrt k0 f0 (body xs)) (xs.take m5) w4 O5.out.len (by simp; omega) (by unfold maxLen; omega) (by unfold maxLen; omega) O5.out.rd ((HR.out.below B4.out).take_ m5)
    by_cases heq : wrt k0 f0 (body xs) = xs.take m5
    · rw [decide_eq_true heq] at HEQ
      have hfit : Fits xs := wrt_fits (by omega) (by omega) (by omega) (by rw [← HK0.out, ← HF0.out, ← hHU]; exact heq)
      have HEQ := Lib.hid HEQ
      have HFIT := Lib.hid hfit
      have g3 : w4.cell? ⟨g, 0, none⟩ = some (.int .u8 (k0.toNat : Int)) := G4.out.cell 0
      have g4 : w4.cell? ⟨g, 1, none⟩ = some (.int .u8 (f0.toNat : Int)) := G4.out.cell 1
      have g5 : w4.cell? ⟨g, 2, none⟩ = some (.slice A2 (L - 4 : Nat) c2) := G4.out.cell 2
      have hne2 := Own8.ne_blk O4.out R4.out (by decide)
      have HNE := Lib.hid hne2
      clear heq hHU hHL hXn hfit hne2
      go_wp2_with fail
      refine HEQ.out.mono ?_
      rintro e w5 ⟨rfl, q5, rfl⟩
      go_wp2_with fail
      refine bodyPost_ret (v := .tuple #[.agg #[.int .u8 (k0.toNat : Int), .int .u8 (f0.toNat : Int), .slice A2 (L - 4 : Nat) c2], .int .i64 m5, .int .i64 0]) ?_ rfl (.inl ⟨HFIT.out, _, _, rfl, ?_, ?_⟩)
      · simp [results, Try.results48, go_sem, d3, d4, d5]
      · refine (O4.out.drewN q5).keep (w' := (((w4.drewN q5).setCell ⟨w.heap.size, 0, none⟩ (.int .u8 (k0.toNat : Int))).setCell ⟨w.heap.size, 1, none⟩ (.int .u8 (f0.toNat : Int))).setCell ⟨w.heap.size, 2, none⟩ (.slice A2 (L - 4 : Nat) c2)) fun q hq => ?_
        have h1 := HNE.out q hq
        rw [Below.heap_setCell _ _ _ q (by simpa using h1), Below.heap_setCell _ _ _ q (by simpa using h1), Below.heap_setCell _ _ _ q (by simpa using h1)]
      · exact (((below_drewN B4.out q5).setCell (p := ⟨w.heap.size, 0, none⟩) (Nat.le_refl _) _).setCell (p := ⟨w.heap.size, 1, none⟩) (Nat.le_refl _) _).setCell (p := ⟨w.heap.size, 2, none⟩) (Nat.le_refl _) _
    · rw [decide_eq_false heq] at HEQ
      have hfit : ¬ Fits xs := fun h => heq (by rw [HK0.out, HF0.out, hHU]; exact fits_wrt h)
      have HEQ := Lib.hid HEQ
      have HFIT := Lib.hid hfit
      clear heq hHU hHL hXn hfit
      go_wp2_with fail
      refine HEQ.out.mono ?_
      rintro e w5 ⟨rfl, q5, rfl⟩
      go_wp2_with fail
      refine bodyPost_ret (v := noChunk) ?_ rfl (.inr ⟨HFIT.out, rfl, ?_⟩)
      · simp [noChunk, results, Try.results48, go_sem, d3, d4, d5]
      · exact hno.out _ (below_drewN B4.out q5)
  · have hfit : ¬ Fits xs := fun h => hUn (by have := h.hi; omega)
    have HFIT := Lib.hid hfit
    have hUn' : n < m5 := by omega
    clear hHU hHL hXn hfit hUn
    go_wp2_with fail
    refine bodyPost_ret (v := noChunk) ?_ rfl (.inr ⟨HFIT.out, rfl, ?_⟩)
    · simp [noChunk, results, Try.results48, go_sem, d3, d4, d5]
    · exact hno.out _ B4.out

theorem refRead_yes (A : Option Addr) (n c : Nat) (xs : List UInt8) (w : World) (hn : n ≤ 140737488355300) (hc : n ≤ c) (hcm : c ≤ maxLen) (hx : xs.length = n) (hr : Rd w w.heap.size A xs) (hf : Fits xs) :
    Calls Try.prog 48 #[.slice A n c] w fun e w' => ∃ A2 c2, e = .returned (.tuple #[.agg #[.int .u8 ((kind xs).toNat : Int), .int .u8 ((flag xs).toNat : Int), .slice A2 (clen xs - 4) c2], .int .i64 (up4 (clen xs)), .int .i64 0]) ∧ Own8 w' 5 w.heap.size A2 (clen xs - 4) c2 (body xs) ∧ Below w.heap.size w w' := by
  have h4 := hf.four
  have hb := up4_bd (clen xs)
  have hi := hf.hi
  exact (refRead_on A n c xs w hn hc hcm hx hr (by omega) hf.lo (by omega)).mono fun e w' h => by
    rcases h with ⟨_, h⟩ | ⟨h, _⟩
    · exact h
    · exact absurd hf h
theorem refRead_no (A : Option Addr) (n c : Nat) (xs : List UInt8) (w : World) (hn : n ≤ 140737488355300) (hc : n ≤ c) (hcm : c ≤ maxLen) (hx : xs.length = n) (hr : Rd w w.heap.size A xs) (hf : ¬ Fits xs) :
    Calls Try.prog 48 #[.slice A n c] w fun e w' => e = .returned noChunk ∧ Below w.heap.size w w' := by
  by_cases h4 : 4 ≤ n
  · by_cases hl : clen xs < 4 ∨ n < clen xs
    · exact refRead_off A n c xs w hn hc hcm hx hr h4 hl
    · exact (refRead_on A n c xs w hn hc hcm hx hr h4 (by omega) (by omega)).mono fun e w' h => by
        rcases h with ⟨h, _⟩ | ⟨_, h⟩
        · exact absurd h hf
        · exact h
  · exact refRead_short A n c w (by omega)
end Go.Proofs.Ytifmhlbeodfpeaa
