/-
  Package bodies: GetData.
-/
import Derived.Test.YtalgkokgaibloaaBodX
namespace Go.Proofs.Ytalgkokgaibloaa
open Go.RowKit
set_option linter.unusedVariables false

/-- What a Get of data answers. -/
def GetsD (F : FuncId) (args : Array Value) (k f : UInt8) (xs : List UInt8) (w : World) : Prop :=
  Calls Try.prog F args w fun e w' => ∃ A m c, e = .returned (.tuple #[vD (ansD k f xs) A m c, .int .i64 (errOf (okD k f xs))]) ∧ Own8 w' 5 w.heap.size A m c (ansD k f xs).bytes ∧ Below w.heap.size w w'
theorem and_u8 (a b : UInt8) : bits .and .u8 (a.toNat : Int) (b.toNat : Int) = ((a &&& b).toNat : Int) := by
  rw [u8_and_nat _ _ a.toNat_lt b.toNat_lt, UInt8.toNat_and]
theorem ne_zero8 (x : UInt8) : ((x.toNat : Int) != 0) = decide (x ≠ 0) := by
  rw [Bool.eq_iff_iff, bne_iff_ne, decide_eq_true_iff]
  constructor
  · intro h e; exact h (by rw [e]; rfl)
  · intro h e; exact h (UInt8.toNat_inj.1 (by rw [show (0 : UInt8).toNat = 0 from rfl]; omega))
/-- The flags, one by one. -/
theorem flag_bit (f m : UInt8) : ∃ e : Int, bits .and .u8 (f.toNat : Int) (m.toNat : Int) = e ∧ (e != 0) = decide (f &&& m ≠ 0) := ⟨_, and_u8 f m, ne_zero8 _⟩

set_option maxRecDepth 100000 in
set_option maxHeartbeats 4000000 in
theorem getData_short (k f : UInt8) (A : Option Addr) (n c : Nat) (xs : List UInt8) (w : World) (hn : n ≤ 140737488355200) (hc : n ≤ c) (hcm : c ≤ maxLen) (hx : xs.length = n) (hr : Rd w w.heap.size A xs) (hs : n < 13) :
    GetsD 16 #[.agg #[.int .u8 (k.toNat : Int), .int .u8 (f.toNat : Int), .slice A n c]] k f xs w := by
  have hz := zero_data
  have hcm' := hcm
  unfold maxLen at hcm'
  have h0b : numO xs 0 4 < 4294967296 := numO_lt xs 0 4
  have h4b : numO xs 4 2 < 65536 := numO_lt xs 4 2
  have h6b : numO xs 6 2 < 65536 := numO_lt xs 6 2
  have HW0 : Hid (∀ W, Below w.heap.size w W → Calls Try.prog 52 #[.slice A n c, .int .i64 0] W fun e w' => e = .returned (.int .u32 (numO xs 0 4)) ∧ Below W.heap.size W w') := Lib.hid fun W hW => (word_any A n c 0 xs W (by omega) (by omega) hx ((hr.below hW).more hW.size)).mono fun e w' ⟨he, hw⟩ => ⟨he, hw ▸ Below.refl _ _⟩
  have HW4 : Hid (∀ W, Below w.heap.size w W → Calls Try.prog 53 #[.slice A n c, .int .i64 4] W fun e w' => e = .returned (.int .u16 (numO xs 4 2)) ∧ Below W.heap.size W w') := Lib.hid fun W hW => (half_any A n c 4 xs W (by omega) (by omega) hx ((hr.below hW).more hW.size)).mono fun e w' ⟨he, hw⟩ => ⟨he, hw ▸ Below.refl _ _⟩
  have HW6 : Hid (∀ W, Below w.heap.size w W → Calls Try.prog 53 #[.slice A n c, .int .i64 6] W fun e w' => e = .returned (.int .u16 (numO xs 6 2)) ∧ Below W.heap.size W w') := Lib.hid fun W hW => (half_any A n c 6 xs W (by omega) (by omega) hx ((hr.below hW).more hW.size)).mono fun e w' ⟨he, hw⟩ => ⟨he, hw ▸ Below.refl _ _⟩
  obtain ⟨e4, he4, hq4⟩ := flag_bit f 4
  obtain ⟨e2, he2, hq2⟩ := flag_bit f 2
  obtain ⟨e1, he1, hq1⟩ := flag_bit f 1
  have HCUT : Hid (∀ W, Below w.heap.size w W → Calls Try.prog 54 #[.slice A n c, .int .i64 12, .int .i64 ((n : Int) - 12)] W fun e w' => ∃ A2 c2 b, e = .returned (.tuple #[.slice A2 ((0 : Nat) : Int).toNat c2, .bool b]) ∧ Below W.heap.size W w') := Lib.hid fun W hW => by
    by_cases h : n = 12
    · subst h
      have := cut_yes A 12 c 12 0 xs W (by omega) hc hcm hx ((hr.below hW).more hW.size) (by omega)
      exact this.mono fun e w' ⟨A2, c2, he, _, hb⟩ => ⟨A2, c2, true, he, hb⟩
    · exact (cutNo A n c 12 ((n : Int) - 12) W (by unfold maxLen; omega) (fun ⟨h1, h2, h3, h4⟩ => by omega)).mono fun e w' ⟨he, hw⟩ => ⟨_, _, _, he, hw ▸ Below.refl _ _⟩
  have hok : okD k f xs = false := by simp [okD]; intro h; omega
  have hra : ansD k f xs = noD := by simp [ansD, hok]
  unfold GetsD
  rw [hok, hra]
  have HCK : Hid (∀ W (a b d : Int) (x y z : Bool) (Ax : Option Addr) (nx cx : Nat), Calls Try.prog 55 #[.agg #[.int .u8 (k.toNat : Int), .int .u8 (f.toNat : Int), .slice A n c], .agg #[.int .u32 a, .int .u16 b, .int .u16 d, .bool x, .bool y, .bool z, .slice Ax nx cx], .bool false, .func (.func 15) #[] #[]] W fun e w' => e = .returned (.tuple #[.agg #[.int .u32 0, .int .u16 0, .int .u16 0, .bool false, .bool false, .bool false, .slice none 0 0], .int .i64 7]) ∧ Below W.heap.size W w') := Lib.hid fun W a b d x y z Ax nx cx => checkedD_off k f A n c a b d x y z Ax nx cx W
  obtain ⟨n0, hn0⟩ : ∃ n0, n0 = numO xs 0 4 := ⟨_, rfl⟩
  obtain ⟨n4, hn4⟩ : ∃ n4, n4 = numO xs 4 2 := ⟨_, rfl⟩
  obtain ⟨n6, hn6⟩ : ∃ n6, n6 = numO xs 6 2 := ⟨_, rfl⟩
  obtain ⟨b4, hb4⟩ : ∃ b4, b4 = decide (f &&& 4 ≠ 0) := ⟨_, rfl⟩
  obtain ⟨b2, hb2⟩ : ∃ b2, b2 = decide (f &&& 2 ≠ 0) := ⟨_, rfl⟩
  obtain ⟨b1, hb1⟩ : ∃ b1, b1 = decide (f &&& 1 ≠ 0) := ⟨_, rfl⟩
  rw [← hn0] at HW0 h0b
  rw [← hn4] at HW4 h4b
  rw [← hn6] at HW6 h6b
  rw [← hb4] at hq4
  rw [← hb2] at hq2
  rw [← hb1] at hq1
  have he4 : bits .and .u8 (f.toNat : Int) 4 = e4 := he4
  have he2 : bits .and .u8 (f.toNat : Int) 2 = e2 := he2
  have he1 : bits .and .u8 (f.toNat : Int) 1 = e1 := he1
  clear hn0 hn4 hn6 hb4 hb2 hb1 hx hr hra hok
  have b0 : Blk (w.alloc (.cells #[.int .u8 (k.toNat : Int), .int .u8 (f.toNat : Int), .slice A n c] 28)) w.heap.size 28 #[.int .u8 (k.toNat : Int), .int .u8 (f.toNat : Int), .slice A n c] := Blk.new w 28 #[.int .u8 (k.toNat : Int), .int .u8 (f.toNat : Int), .slice A n c]
  have b1 : Blk ((w.alloc (.cells #[.int .u8 (k.toNat : Int), .int .u8 (f.toNat : Int), .slice A n c] 28)).alloc (.cells #[.int .u32 0, .int .u16 0, .int .u16 0, .bool false, .bool false, .bool false, .slice none 0 0] 26)) (w.heap.size + 1) 26 #[.int .u32 0, .int .u16 0, .int .u16 0, .bool false, .bool false, .bool false, .slice none 0 0] := by simpa using Blk.new (w.alloc (.cells #[.int .u8 (k.toNat : Int), .int .u8 (f.toNat : Int), .slice A n c] 28)) 26 #[.int .u32 0, .int .u16 0, .int .u16 0, .bool false, .bool false, .bool false, .slice none 0 0]
  have K0 := Lib.hid (b0.alloc (.cells #[.int .u32 0, .int .u16 0, .int .u16 0, .bool false, .bool false, .bool false, .slice none 0 0] 26))
  have K1 := Lib.hid b1
  have B0 : Hid (Below w.heap.size w ((w.alloc (.cells #[.int .u8 (k.toNat : Int), .int .u8 (f.toNat : Int), .slice A n c] 28)).alloc (.cells #[.int .u32 0, .int .u16 0, .int .u16 0, .bool false, .bool false, .bool false, .slice none 0 0] 26))) := Lib.hid (Wr.below_ (((Wr.refl 5 w.heap.size w).alloc (.cells #[.int .u8 (k.toNat : Int), .int .u8 (f.toNat : Int), .slice A n c] 28)).alloc (.cells #[.int .u32 0, .int .u16 0, .int .u16 0, .bool false, .bool false, .bool false, .slice none 0 0] 26)) (Nat.le_refl _))
  clear b0 b1
  go_enter Try.func16, Try.ntmps16
  rw [drawn_eq 1]
  go_wp2_with fail
  generalize ((w.alloc (.cells #[.int .u8 (k.toNat : Int), .int .u8 (f.toNat : Int), .slice A n c] 28)).alloc (.cells #[.int .u32 0, .int .u16 0, .int .u16 0, .bool false, .bool false, .bool false, .slice none 0 0] 26)) = v0 at K0 K1 B0 ⊢
  rw [← drawn_eq 1]
  refine wp_region_grow_tail 23 (by kernel_rfl) [(Is (.pointer (some ⟨w.heap.size, 2, none⟩))), (Is (.slice A n c)), (Is (.int .u32 (n0 : Int))), (Is (.pointer (some ⟨w.heap.size, 2, none⟩))), (Is (.slice A n c)), (Is (.int .u16 (n4 : Int))), (Is (.pointer (some ⟨w.heap.size, 2, none⟩))), (Is (.slice A n c)), (Is (.int .u16 (n6 : Int))), (Is (.pointer (some ⟨w.heap.size, 1, none⟩))), (Is (.int .u8 (f.toNat : Int))), (Is (.int .u8 e4)), (Is (.bool b4)), (Is (.pointer (some ⟨w.heap.size, 1, none⟩))), (Is (.int .u8 (f.toNat : Int))), (Is (.int .u8 e2)), (Is (.bool b2)), (Is (.pointer (some ⟨w.heap.size, 1, none⟩))), (Is (.int .u8 (f.toNat : Int))), (Is (.int .u8 e1)), (Is (.bool b1)), (Is (.agg #[.int .u32 (n0 : Int), .int .u16 (n4 : Int), .int .u16 (n6 : Int), .bool b4, .bool b2, .bool b1, .slice none 0 0])), (NewBlk v0.heap.size 26 #[.int .u32 0, .int .u16 0, .int .u16 0, .bool false, .bool false, .bool false, .slice none 0 0])] rfl ?_ (by kernel_rfl) (by kernel_rfl) ?_ ?_
  · intro p hp
    simp only [List.mem_cons, List.not_mem_nil, or_false] at hp
    rcases hp with rfl | rfl | rfl | rfl | rfl | rfl | rfl | rfl | rfl | rfl | rfl | rfl | rfl | rfl | rfl | rfl | rfl | rfl | rfl | rfl | rfl | rfl | rfl
    · exact Lasts.is _
    · exact Lasts.is _
    · exact Lasts.is _
    · exact Lasts.is _
    · exact Lasts.is _
    · exact Lasts.is _
    · exact Lasts.is _
    · exact Lasts.is _
    · exact Lasts.is _
    · exact Lasts.is _
    · exact Lasts.is _
    · exact Lasts.is _
    · exact Lasts.is _
    · exact Lasts.is _
    · exact Lasts.is _
    · exact Lasts.is _
    · exact Lasts.is _
    · exact Lasts.is _
    · exact Lasts.is _
    · exact Lasts.is _
    · exact Lasts.is _
    · exact Lasts.is _
    · exact Lasts.newBlk _ _ _
  · refine ⟨?_, ?_, ?_, ?_, ?_, ?_, ?_, ?_, ?_, ?_, ?_, ?_, ?_, ?_, ?_, ?_, ?_, ?_, ?_, ?_, ?_, ?_, ?_, trivial⟩
    · intro listed a w1 hl hc
      have h1 : a.tmps[1]?.getD undef = .pointer (some ⟨w.heap.size, 0, none⟩) := (hc.was 1 (by kernel_rfl)).trans rfl
      refine does_value rfl rfl (.pointer (some ⟨w.heap.size, 2, none⟩)) w1 ?_ (Below.refl _ _) rfl
      clear hc hl
      go_simp
    · intro listed a w1 hl hc
      have h5 : a.tmps[5]?.getD undef = .pointer (some ⟨w.heap.size, 2, none⟩) := hc.dep hl 0 5 rfl (by kernel_rfl)
      have kb := K0.out.below hc.g K0.out.lt
      have x2 : w1.cell? ⟨w.heap.size, 2, none⟩ = some (.slice A n c) := kb.cell 2
      clear kb
      refine does_value rfl rfl (.slice A n c) w1 ?_ (Below.refl _ _) rfl
      clear hc hl
      go_simp
    · intro listed a w1 hl hc
      have h6 : a.tmps[6]?.getD undef = .slice A n c := hc.dep hl 1 6 rfl (by kernel_rfl)
      refine does_call rfl rfl 52 #[.slice A n c, .int .i64 0] ?_ ((HW0.out w1 (B0.out.trans (hc.g.mono B0.out.size))).mono fun e w' ⟨he, hb⟩ => ⟨_, he, hb, rfl⟩)
      clear hc hl
      go_simp
    · intro listed a w1 hl hc
      have h1 : a.tmps[1]?.getD undef = .pointer (some ⟨w.heap.size, 0, none⟩) := (hc.was 1 (by kernel_rfl)).trans rfl
      refine does_value rfl rfl (.pointer (some ⟨w.heap.size, 2, none⟩)) w1 ?_ (Below.refl _ _) rfl
      clear hc hl
      go_simp
    · intro listed a w1 hl hc
      have h8 : a.tmps[8]?.getD undef = .pointer (some ⟨w.heap.size, 2, none⟩) := hc.dep hl 3 8 rfl (by kernel_rfl)
      have kb := K0.out.below hc.g K0.out.lt
      have x2 : w1.cell? ⟨w.heap.size, 2, none⟩ = some (.slice A n c) := kb.cell 2
      clear kb
      refine does_value rfl rfl (.slice A n c) w1 ?_ (Below.refl _ _) rfl
      clear hc hl
      go_simp
    · intro listed a w1 hl hc
      have h9 : a.tmps[9]?.getD undef = .slice A n c := hc.dep hl 4 9 rfl (by kernel_rfl)
      refine does_call rfl rfl 53 #[.slice A n c, .int .i64 4] ?_ ((HW4.out w1 (B0.out.trans (hc.g.mono B0.out.size))).mono fun e w' ⟨he, hb⟩ => ⟨_, he, hb, rfl⟩)
      clear hc hl
      go_simp
    · intro listed a w1 hl hc
      have h1 : a.tmps[1]?.getD undef = .pointer (some ⟨w.heap.size, 0, none⟩) := (hc.was 1 (by kernel_rfl)).trans rfl
      refine does_value rfl rfl (.pointer (some ⟨w.heap.size, 2, none⟩)) w1 ?_ (Below.refl _ _) rfl
      clear hc hl
      go_simp
    · intro listed a w1 hl hc
      have h11 : a.tmps[11]?.getD undef = .pointer (some ⟨w.heap.size, 2, none⟩) := hc.dep hl 6 11 rfl (by kernel_rfl)
      have kb := K0.out.below hc.g K0.out.lt
      have x2 : w1.cell? ⟨w.heap.size, 2, none⟩ = some (.slice A n c) := kb.cell 2
      clear kb
      refine does_value rfl rfl (.slice A n c) w1 ?_ (Below.refl _ _) rfl
      clear hc hl
      go_simp
    · intro listed a w1 hl hc
      have h12 : a.tmps[12]?.getD undef = .slice A n c := hc.dep hl 7 12 rfl (by kernel_rfl)
      refine does_call rfl rfl 53 #[.slice A n c, .int .i64 6] ?_ ((HW6.out w1 (B0.out.trans (hc.g.mono B0.out.size))).mono fun e w' ⟨he, hb⟩ => ⟨_, he, hb, rfl⟩)
      clear hc hl
      go_simp
    · intro listed a w1 hl hc
      have h1 : a.tmps[1]?.getD undef = .pointer (some ⟨w.heap.size, 0, none⟩) := (hc.was 1 (by kernel_rfl)).trans rfl
      refine does_value rfl rfl (.pointer (some ⟨w.heap.size, 1, none⟩)) w1 ?_ (Below.refl _ _) rfl
      clear hc hl
      go_simp
    · intro listed a w1 hl hc
      have h14 : a.tmps[14]?.getD undef = .pointer (some ⟨w.heap.size, 1, none⟩) := hc.dep hl 9 14 rfl (by kernel_rfl)
      have kb := K0.out.below hc.g K0.out.lt
      have x1 : w1.cell? ⟨w.heap.size, 1, none⟩ = some (.int .u8 (f.toNat : Int)) := kb.cell 1
      clear kb
      refine does_value rfl rfl (.int .u8 (f.toNat : Int)) w1 ?_ (Below.refl _ _) rfl
      clear hc hl
      go_simp
    · intro listed a w1 hl hc
      have h15 : a.tmps[15]?.getD undef = .int .u8 (f.toNat : Int) := hc.dep hl 10 15 rfl (by kernel_rfl)
      refine does_value rfl rfl (.int .u8 e4) w1 ?_ (Below.refl _ _) rfl
      clear hc hl
      go_simp
    · intro listed a w1 hl hc
      have h16 : a.tmps[16]?.getD undef = .int .u8 e4 := hc.dep hl 11 16 rfl (by kernel_rfl)
      refine does_value rfl rfl (.bool b4) w1 ?_ (Below.refl _ _) rfl
      clear hc hl
      go_simp
    · intro listed a w1 hl hc
      have h1 : a.tmps[1]?.getD undef = .pointer (some ⟨w.heap.size, 0, none⟩) := (hc.was 1 (by kernel_rfl)).trans rfl
      refine does_value rfl rfl (.pointer (some ⟨w.heap.size, 1, none⟩)) w1 ?_ (Below.refl _ _) rfl
      clear hc hl
      go_simp
    · intro listed a w1 hl hc
      have h18 : a.tmps[18]?.getD undef = .pointer (some ⟨w.heap.size, 1, none⟩) := hc.dep hl 13 18 rfl (by kernel_rfl)
      have kb := K0.out.below hc.g K0.out.lt
      have x1 : w1.cell? ⟨w.heap.size, 1, none⟩ = some (.int .u8 (f.toNat : Int)) := kb.cell 1
      clear kb
      refine does_value rfl rfl (.int .u8 (f.toNat : Int)) w1 ?_ (Below.refl _ _) rfl
      clear hc hl
      go_simp
    · intro listed a w1 hl hc
      have h19 : a.tmps[19]?.getD undef = .int .u8 (f.toNat : Int) := hc.dep hl 14 19 rfl (by kernel_rfl)
      refine does_value rfl rfl (.int .u8 e2) w1 ?_ (Below.refl _ _) rfl
      clear hc hl
      go_simp
    · intro listed a w1 hl hc
      have h20 : a.tmps[20]?.getD undef = .int .u8 e2 := hc.dep hl 15 20 rfl (by kernel_rfl)
      refine does_value rfl rfl (.bool b2) w1 ?_ (Below.refl _ _) rfl
      clear hc hl
      go_simp
    · intro listed a w1 hl hc
      have h1 : a.tmps[1]?.getD undef = .pointer (some ⟨w.heap.size, 0, none⟩) := (hc.was 1 (by kernel_rfl)).trans rfl
      refine does_value rfl rfl (.pointer (some ⟨w.heap.size, 1, none⟩)) w1 ?_ (Below.refl _ _) rfl
      clear hc hl
      go_simp
    · intro listed a w1 hl hc
      have h22 : a.tmps[22]?.getD undef = .pointer (some ⟨w.heap.size, 1, none⟩) := hc.dep hl 17 22 rfl (by kernel_rfl)
      have kb := K0.out.below hc.g K0.out.lt
      have x1 : w1.cell? ⟨w.heap.size, 1, none⟩ = some (.int .u8 (f.toNat : Int)) := kb.cell 1
      clear kb
      refine does_value rfl rfl (.int .u8 (f.toNat : Int)) w1 ?_ (Below.refl _ _) rfl
      clear hc hl
      go_simp
    · intro listed a w1 hl hc
      have h23 : a.tmps[23]?.getD undef = .int .u8 (f.toNat : Int) := hc.dep hl 18 23 rfl (by kernel_rfl)
      refine does_value rfl rfl (.int .u8 e1) w1 ?_ (Below.refl _ _) rfl
      clear hc hl
      go_simp
    · intro listed a w1 hl hc
      have h24 : a.tmps[24]?.getD undef = .int .u8 e1 := hc.dep hl 19 24 rfl (by kernel_rfl)
      refine does_value rfl rfl (.bool b1) w1 ?_ (Below.refl _ _) rfl
      clear hc hl
      go_simp
    · intro listed a w1 hl hc
      have h7 : a.tmps[7]?.getD undef = .int .u32 (n0 : Int) := hc.dep hl 2 7 rfl (by kernel_rfl)
      have h10 : a.tmps[10]?.getD undef = .int .u16 (n4 : Int) := hc.dep hl 5 10 rfl (by kernel_rfl)
      have h13 : a.tmps[13]?.getD undef = .int .u16 (n6 : Int) := hc.dep hl 8 13 rfl (by kernel_rfl)
      have h17 : a.tmps[17]?.getD undef = .bool b4 := hc.dep hl 12 17 rfl (by kernel_rfl)
      have h21 : a.tmps[21]?.getD undef = .bool b2 := hc.dep hl 16 21 rfl (by kernel_rfl)
      have h25 : a.tmps[25]?.getD undef = .bool b1 := hc.dep hl 20 25 rfl (by kernel_rfl)
      refine does_value rfl rfl (.agg #[.int .u32 (n0 : Int), .int .u16 (n4 : Int), .int .u16 (n6 : Int), .bool b4, .bool b2, .bool b1, .slice none 0 0]) w1 ?_ (Below.refl _ _) rfl
      clear hc hl
      go_simp
    · intro listed a w1 hl hc
      refine does_value rfl rfl (.pointer (some ⟨w1.heap.size, 0, none⟩)) (w1.alloc (.cells #[.int .u32 0, .int .u16 0, .int .u16 0, .bool false, .bool false, .bool false, .slice none 0 0] 26)) ?_ (below_new w1 _) ⟨_, rfl, hc.g.size, Blk.new _ _ _⟩
      clear hc hl
      go_simp
  intro w2 hb2
  rintro _ rfl _ rfl _ rfl _ rfl _ rfl _ rfl _ rfl _ rfl _ rfl _ rfl _ rfl _ rfl _ rfl _ rfl _ rfl _ rfl _ rfl _ rfl _ rfl _ rfl _ rfl _ rfl _ ⟨g4, rfl, hg4, hb4⟩
  simp only [Thus, List.reverse_cons, List.reverse_nil, List.nil_append, List.cons_append, List.drop, List.take, lay]
  go_frame
  have hl0 := K0.out.lt
  have hl1 := K1.out.lt
  have HG := Lib.hid hb4
  have hge : w.heap.size ≤ g4 := by omega
  have y0 := HG.out.cell 0
  have y1 := HG.out.cell 1
  have y2 := HG.out.cell 2
  have y3 := HG.out.cell 3
  have y4 := HG.out.cell 4
  have y5 := HG.out.cell 5
  have y6 := HG.out.cell 6
  have z0 := HG.out.frozen 0
  have z1 := HG.out.frozen 1
  have z2 := HG.out.frozen 2
  have z3 := HG.out.frozen 3
  have z4 := HG.out.frozen 4
  have z5 := HG.out.frozen 5
  have z6 := HG.out.frozen 6
  have G3 := Lib.hid (((((((hb4.set_ 0 (.int .u32 (n0 : Int))).set_ 1 (.int .u16 (n4 : Int))).set_ 2 (.int .u16 (n6 : Int))).set_ 3 (.bool b4)).set_ 4 (.bool b2)).set_ 5 (.bool b1)).set_ 6 (.slice none 0 0))
  have K0b := Lib.hid ((((((((K0.out.below hb2 K0.out.lt).far (p := ⟨g4, 0, none⟩) (show w.heap.size ≠ g4 by omega) (.int .u32 (n0 : Int))).far (p := ⟨g4, 1, none⟩) (show w.heap.size ≠ g4 by omega) (.int .u16 (n4 : Int))).far (p := ⟨g4, 2, none⟩) (show w.heap.size ≠ g4 by omega) (.int .u16 (n6 : Int))).far (p := ⟨g4, 3, none⟩) (show w.heap.size ≠ g4 by omega) (.bool b4)).far (p := ⟨g4, 4, none⟩) (show w.heap.size ≠ g4 by omega) (.bool b2)).far (p := ⟨g4, 5, none⟩) (show w.heap.size ≠ g4 by omega) (.bool b1)).far (p := ⟨g4, 6, none⟩) (show w.heap.size ≠ g4 by omega) (.slice none 0 0))
  have K1b := Lib.hid ((((((((K1.out.below hb2 K1.out.lt).far (p := ⟨g4, 0, none⟩) (show w.heap.size + 1 ≠ g4 by omega) (.int .u32 (n0 : Int))).far (p := ⟨g4, 1, none⟩) (show w.heap.size + 1 ≠ g4 by omega) (.int .u16 (n4 : Int))).far (p := ⟨g4, 2, none⟩) (show w.heap.size + 1 ≠ g4 by omega) (.int .u16 (n6 : Int))).far (p := ⟨g4, 3, none⟩) (show w.heap.size + 1 ≠ g4 by omega) (.bool b4)).far (p := ⟨g4, 4, none⟩) (show w.heap.size + 1 ≠ g4 by omega) (.bool b2)).far (p := ⟨g4, 5, none⟩) (show w.heap.size + 1 ≠ g4 by omega) (.bool b1)).far (p := ⟨g4, 6, none⟩) (show w.heap.size + 1 ≠ g4 by omega) (.slice none 0 0))
  have B3 := Lib.hid ((((((((below_then B0.out (Nat.le_refl _) hb2).setCell (p := ⟨g4, 0, none⟩) (show w.heap.size ≤ g4 by omega) (.int .u32 (n0 : Int))).setCell (p := ⟨g4, 1, none⟩) (show w.heap.size ≤ g4 by omega) (.int .u16 (n4 : Int))).setCell (p := ⟨g4, 2, none⟩) (show w.heap.size ≤ g4 by omega) (.int .u16 (n6 : Int))).setCell (p := ⟨g4, 3, none⟩) (show w.heap.size ≤ g4 by omega) (.bool b4)).setCell (p := ⟨g4, 4, none⟩) (show w.heap.size ≤ g4 by omega) (.bool b2)).setCell (p := ⟨g4, 5, none⟩) (show w.heap.size ≤ g4 by omega) (.bool b1)).setCell (p := ⟨g4, 6, none⟩) (show w.heap.size ≤ g4 by omega) (.slice none 0 0))
  have hgl : g4 < w2.heap.size := hb4.lt
  clear hb2 hb4 K0 K1 B0 HG
  have x0 := K0b.out.cell 0
  have x1 := K0b.out.cell 1
  have x2 := K0b.out.cell 2
  go_wp2_with fail
  generalize (((((((w2.setCell ⟨g4, 0, none⟩ (.int .u32 (n0 : Int))).setCell ⟨g4, 1, none⟩ (.int .u16 (n4 : Int))).setCell ⟨g4, 2, none⟩ (.int .u16 (n6 : Int))).setCell ⟨g4, 3, none⟩ (.bool b4)).setCell ⟨g4, 4, none⟩ (.bool b2)).setCell ⟨g4, 5, none⟩ (.bool b1)).setCell ⟨g4, 6, none⟩ (.slice none 0 0)) = v3 at G3 K0b K1b B3 ⊢
  clear hgl y0 z0 y1 z1 y2 z2 y3 z3 y4 z4 y5 z5 y6 z6
  refine (HCUT.out v3 B3.out).mono ?_
  rintro e w4 ⟨Ax, cx, bb, rfl, hb⟩
  have G4 := Lib.hid (G3.out.below hb G3.out.lt)
  have K0c := Lib.hid (K0b.out.below hb K0b.out.lt)
  have K1c := Lib.hid (K1b.out.below hb K1b.out.lt)
  have B4 := Lib.hid (below_then B3.out (Nat.le_refl _) hb)
  clear hb G3 K0b K1b B3 x0 x1 x2
  have y0 := G4.out.cell 0
  have y1 := G4.out.cell 1
  have y2 := G4.out.cell 2
  have y3 := G4.out.cell 3
  have y4 := G4.out.cell 4
  have y5 := G4.out.cell 5
  have y6 := G4.out.cell 6
  have z0 := G4.out.frozen 0
  have z1 := G4.out.frozen 1
  have z2 := G4.out.frozen 2
  have z3 := G4.out.frozen 3
  have z4 := G4.out.frozen 4
  have z5 := G4.out.frozen 5
  have z6 := G4.out.frozen 6
  have x0 := K0c.out.cell 0
  have x1 := K0c.out.cell 1
  have x2 := K0c.out.cell 2
  have G5 := Lib.hid (G4.out.set_ 6 (.slice Ax 0 cx))
  have K1d := Lib.hid (K1c.out.far (p := ⟨g4, 6, none⟩) (show w.heap.size + 1 ≠ g4 by omega) (.slice Ax 0 cx))
  have B5 := Lib.hid (B4.out.setCell (p := ⟨g4, 6, none⟩) (show w.heap.size ≤ g4 by omega) (.slice Ax 0 cx))
  have hgl : g4 < w4.heap.size := G4.out.lt
  have hne0 : ¬ w.heap.size = g4 := by omega
  clear G4 K0c K1c B4
  go_wp2_with fail
  generalize w4.setCell ⟨g4, 6, none⟩ (.slice Ax 0 cx) = v5 at G5 K1d B5 ⊢
  clear hgl y0 z0 y1 z1 y2 z2 y3 z3 y4 z4 y5 z5 y6 z6
  refine (HCK.out v5 _ _ _ _ _ _ Ax 0 cx).mono ?_
  rintro e w6 ⟨rfl, hb⟩
  have K1e := Lib.hid (K1d.out.below hb K1d.out.lt)
  have B6 := Lib.hid (below_then B5.out (Nat.le_refl _) hb)
  clear hb K1d B5
  have y0 := K1e.out.cell 0
  have y1 := K1e.out.cell 1
  have y2 := K1e.out.cell 2
  have y3 := K1e.out.cell 3
  have y4 := K1e.out.cell 4
  have y5 := K1e.out.cell 5
  have y6 := K1e.out.cell 6
  have z0 := K1e.out.frozen 0
  have z1 := K1e.out.frozen 1
  have z2 := K1e.out.frozen 2
  have z3 := K1e.out.frozen 3
  have z4 := K1e.out.frozen 4
  have z5 := K1e.out.frozen 5
  have z6 := K1e.out.frozen 6
  go_wp2_with fail
  have H3 := (((((((K1e.out.set_ 0 (.int .u32 0)).set_ 1 (.int .u16 0)).set_ 2 (.int .u16 0)).set_ 3 (.bool false)).set_ 4 (.bool false)).set_ 5 (.bool false)).set_ 6 (.slice none 0 0))
  exact bodyPost_ret (v := .tuple #[.agg #[.int .u32 0, .int .u16 0, .int .u16 0, .bool false, .bool false, .bool false, .slice none 0 0], .int .i64 7]) (by simp [results, Try.results16, go_sem, H3.cell]) rfl ⟨none, 0, 0, rfl, Own8.nil _ _ _, (((((((B6.out.setCell (p := ⟨w.heap.size + 1, 0, none⟩) (show w.heap.size ≤ w.heap.size + 1 by omega) (.int .u32 0)).setCell (p := ⟨w.heap.size + 1, 1, none⟩) (show w.heap.size ≤ w.heap.size + 1 by omega) (.int .u16 0)).setCell (p := ⟨w.heap.size + 1, 2, none⟩) (show w.heap.size ≤ w.heap.size + 1 by omega) (.int .u16 0)).setCell (p := ⟨w.heap.size + 1, 3, none⟩) (show w.heap.size ≤ w.heap.size + 1 by omega) (.bool false)).setCell (p := ⟨w.heap.size + 1, 4, none⟩) (show w.heap.size ≤ w.heap.size + 1 by omega) (.bool false)).setCell (p := ⟨w.heap.size + 1, 5, none⟩) (show w.heap.size ≤ w.heap.size + 1 by omega) (.bool false)).setCell (p := ⟨w.heap.size + 1, 6, none⟩) (show w.heap.size ≤ w.heap.size + 1 by omega) (.slice none 0 0))⟩
set_option maxRecDepth 100000 in
set_option maxHeartbeats 4000000 in
theorem getData_no (k f : UInt8) (A : Option Addr) (n c : Nat) (xs : List UInt8) (w : World) (hn : n ≤ 140737488355200) (hc : n ≤ c) (hcm : c ≤ maxLen) (hx : xs.length = n) (hr : Rd w w.heap.size A xs) (hl : 13 ≤ n) (hok : okD k f xs = false) :
    GetsD 16 #[.agg #[.int .u8 (k.toNat : Int), .int .u8 (f.toNat : Int), .slice A n c]] k f xs w := by
  have hz := zero_data
  have hcm' := hcm
  unfold maxLen at hcm'
  have h0b : numO xs 0 4 < 4294967296 := numO_lt xs 0 4
  have h4b : numO xs 4 2 < 65536 := numO_lt xs 4 2
  have h6b : numO xs 6 2 < 65536 := numO_lt xs 6 2
  have HW0 : Hid (∀ W, Below w.heap.size w W → Calls Try.prog 52 #[.slice A n c, .int .i64 0] W fun e w' => e = .returned (.int .u32 (numO xs 0 4)) ∧ Below W.heap.size W w') := Lib.hid fun W hW => (word_any A n c 0 xs W (by omega) (by omega) hx ((hr.below hW).more hW.size)).mono fun e w' ⟨he, hw⟩ => ⟨he, hw ▸ Below.refl _ _⟩
  have HW4 : Hid (∀ W, Below w.heap.size w W → Calls Try.prog 53 #[.slice A n c, .int .i64 4] W fun e w' => e = .returned (.int .u16 (numO xs 4 2)) ∧ Below W.heap.size W w') := Lib.hid fun W hW => (half_any A n c 4 xs W (by omega) (by omega) hx ((hr.below hW).more hW.size)).mono fun e w' ⟨he, hw⟩ => ⟨he, hw ▸ Below.refl _ _⟩
  have HW6 : Hid (∀ W, Below w.heap.size w W → Calls Try.prog 53 #[.slice A n c, .int .i64 6] W fun e w' => e = .returned (.int .u16 (numO xs 6 2)) ∧ Below W.heap.size W w') := Lib.hid fun W hW => (half_any A n c 6 xs W (by omega) (by omega) hx ((hr.below hW).more hW.size)).mono fun e w' ⟨he, hw⟩ => ⟨he, hw ▸ Below.refl _ _⟩
  obtain ⟨e4, he4, hq4⟩ := flag_bit f 4
  obtain ⟨e2, he2, hq2⟩ := flag_bit f 2
  obtain ⟨e1, he1, hq1⟩ := flag_bit f 1
  have HCUT : Hid (∀ W, Below w.heap.size w W → Calls Try.prog 54 #[.slice A n c, .int .i64 12, .int .i64 ((n : Int) - 12)] W fun e w' => ∃ A2 c2, e = .returned (.tuple #[.slice A2 (n - 12 : Nat) c2, .bool true]) ∧ Own8 w' 5 W.heap.size A2 (n - 12) c2 (xs.drop 12) ∧ Below W.heap.size W w') := Lib.hid fun W hW => by
    have := cut_yes A n c 12 (n - 12) xs W (by omega) hc hcm hx ((hr.below hW).more hW.size) (by omega)
    rw [List.take_of_length_le (by rw [List.length_drop]; omega), show ((n - 12 : Nat) : Int) = (n : Int) - 12 by omega] at this
    exact this
  have hp : parseD f xs = ⟨numO xs 0 4, numO xs 4 2, numO xs 6 2, decide (f &&& 4 ≠ 0), decide (f &&& 2 ≠ 0), decide (f &&& 1 ≠ 0), xs.drop 12⟩ := by rw [numO_in (by omega), numO_in (by omega), numO_in (by omega)]; rfl
  have hd : decide (k = 0 ∧ f = flagsD (decide (f &&& 4 ≠ 0)) (decide (f &&& 2 ≠ 0)) (decide (f &&& 1 ≠ 0)) ∧ xs = bodyD ⟨numO xs 0 4, numO xs 4 2, numO xs 6 2, decide (f &&& 4 ≠ 0), decide (f &&& 2 ≠ 0), decide (f &&& 1 ≠ 0), xs.drop 12⟩) = false := by
    have h := hok
    unfold okD at h
    rw [hp, show decide (13 ≤ xs.length) = true from decide_eq_true (by omega), Bool.true_and] at h
    exact h
  have hra : ansD k f xs = noD := by unfold ansD; rw [hok]; rfl
  unfold GetsD
  rw [hok, hra]
  have HCK : Hid (∀ W (Ax : Option Addr) (cx : Nat), Below w.heap.size w W → Own8 W 5 w.heap.size Ax (n - 12) cx (xs.drop 12) → Calls Try.prog 55 #[.agg #[.int .u8 (k.toNat : Int), .int .u8 (f.toNat : Int), .slice A n c], .agg #[.int .u32 (numO xs 0 4 : Int), .int .u16 (numO xs 4 2 : Int), .int .u16 (numO xs 6 2 : Int), .bool (decide (f &&& 4 ≠ 0)), .bool (decide (f &&& 2 ≠ 0)), .bool (decide (f &&& 1 ≠ 0)), .slice Ax (n - 12 : Nat) cx], .bool true, .func (.func 15) #[] #[]] W fun e w' => e = .returned (.tuple #[.agg #[.int .u32 0, .int .u16 0, .int .u16 0, .bool false, .bool false, .bool false, .slice none 0 0], .int .i64 7]) ∧ Below W.heap.size W w') := Lib.hid fun W Ax cx hW ho => checkedD_no k f A n c (numO xs 0 4) (numO xs 4 2) (numO xs 6 2) _ _ _ Ax (n - 12) cx xs _ 0 _ W hx ((hr.below hW).more hW.size) hd (fun W2 h2 => putData_any _ _ _ _ _ _ _ h0b h4b h6b Ax (n - 12) cx W2 (by omega) ho.len ((ho.rd.below h2).more h2.size))
  have hgt : decide (0 < n - 12) = true := decide_eq_true (by omega)
  clear hp hd
  obtain ⟨n0, hn0⟩ : ∃ n0, n0 = numO xs 0 4 := ⟨_, rfl⟩
  obtain ⟨n4, hn4⟩ : ∃ n4, n4 = numO xs 4 2 := ⟨_, rfl⟩
  obtain ⟨n6, hn6⟩ : ∃ n6, n6 = numO xs 6 2 := ⟨_, rfl⟩
  obtain ⟨b4, hb4⟩ : ∃ b4, b4 = decide (f &&& 4 ≠ 0) := ⟨_, rfl⟩
  obtain ⟨b2, hb2⟩ : ∃ b2, b2 = decide (f &&& 2 ≠ 0) := ⟨_, rfl⟩
  obtain ⟨b1, hb1⟩ : ∃ b1, b1 = decide (f &&& 1 ≠ 0) := ⟨_, rfl⟩
  rw [← hn0] at HW0 h0b HCK
  rw [← hn4] at HW4 h4b HCK
  rw [← hn6] at HW6 h6b HCK
  rw [← hb4] at hq4 HCK
  rw [← hb2] at hq2 HCK
  rw [← hb1] at hq1 HCK
  have he4 : bits .and .u8 (f.toNat : Int) 4 = e4 := he4
  have he2 : bits .and .u8 (f.toNat : Int) 2 = e2 := he2
  have he1 : bits .and .u8 (f.toNat : Int) 1 = e1 := he1
  clear hn0 hn4 hn6 hb4 hb2 hb1 hx hr hra hok
  have b0 : Blk (w.alloc (.cells #[.int .u8 (k.toNat : Int), .int .u8 (f.toNat : Int), .slice A n c] 28)) w.heap.size 28 #[.int .u8 (k.toNat : Int), .int .u8 (f.toNat : Int), .slice A n c] := Blk.new w 28 #[.int .u8 (k.toNat : Int), .int .u8 (f.toNat : Int), .slice A n c]
  have b1 : Blk ((w.alloc (.cells #[.int .u8 (k.toNat : Int), .int .u8 (f.toNat : Int), .slice A n c] 28)).alloc (.cells #[.int .u32 0, .int .u16 0, .int .u16 0, .bool false, .bool false, .bool false, .slice none 0 0] 26)) (w.heap.size + 1) 26 #[.int .u32 0, .int .u16 0, .int .u16 0, .bool false, .bool false, .bool false, .slice none 0 0] := by simpa using Blk.new (w.alloc (.cells #[.int .u8 (k.toNat : Int), .int .u8 (f.toNat : Int), .slice A n c] 28)) 26 #[.int .u32 0, .int .u16 0, .int .u16 0, .bool false, .bool false, .bool false, .slice none 0 0]
  have K0 := Lib.hid (b0.alloc (.cells #[.int .u32 0, .int .u16 0, .int .u16 0, .bool false, .bool false, .bool false, .slice none 0 0] 26))
  have K1 := Lib.hid b1
  have B0 : Hid (Below w.heap.size w ((w.alloc (.cells #[.int .u8 (k.toNat : Int), .int .u8 (f.toNat : Int), .slice A n c] 28)).alloc (.cells #[.int .u32 0, .int .u16 0, .int .u16 0, .bool false, .bool false, .bool false, .slice none 0 0] 26))) := Lib.hid (Wr.below_ (((Wr.refl 5 w.heap.size w).alloc (.cells #[.int .u8 (k.toNat : Int), .int .u8 (f.toNat : Int), .slice A n c] 28)).alloc (.cells #[.int .u32 0, .int .u16 0, .int .u16 0, .bool false, .bool false, .bool false, .slice none 0 0] 26)) (Nat.le_refl _))
  clear b0 b1
  go_enter Try.func16, Try.ntmps16
  rw [drawn_eq 1]
  go_wp2_with fail
  generalize ((w.alloc (.cells #[.int .u8 (k.toNat : Int), .int .u8 (f.toNat : Int), .slice A n c] 28)).alloc (.cells #[.int .u32 0, .int .u16 0, .int .u16 0, .bool false, .bool false, .bool false, .slice none 0 0] 26)) = v0 at K0 K1 B0 ⊢
  rw [← drawn_eq 1]
  refine wp_region_grow_tail 23 (by kernel_rfl) [(Is (.pointer (some ⟨w.heap.size, 2, none⟩))), (Is (.slice A n c)), (Is (.int .u32 (n0 : Int))), (Is (.pointer (some ⟨w.heap.size, 2, none⟩))), (Is (.slice A n c)), (Is (.int .u16 (n4 : Int))), (Is (.pointer (some ⟨w.heap.size, 2, none⟩))), (Is (.slice A n c)), (Is (.int .u16 (n6 : Int))), (Is (.pointer (some ⟨w.heap.size, 1, none⟩))), (Is (.int .u8 (f.toNat : Int))), (Is (.int .u8 e4)), (Is (.bool b4)), (Is (.pointer (some ⟨w.heap.size, 1, none⟩))), (Is (.int .u8 (f.toNat : Int))), (Is (.int .u8 e2)), (Is (.bool b2)), (Is (.pointer (some ⟨w.heap.size, 1, none⟩))), (Is (.int .u8 (f.toNat : Int))), (Is (.int .u8 e1)), (Is (.bool b1)), (Is (.agg #[.int .u32 (n0 : Int), .int .u16 (n4 : Int), .int .u16 (n6 : Int), .bool b4, .bool b2, .bool b1, .slice none 0 0])), (NewBlk v0.heap.size 26 #[.int .u32 0, .int .u16 0, .int .u16 0, .bool false, .bool false, .bool false, .slice none 0 0])] rfl ?_ (by kernel_rfl) (by kernel_rfl) ?_ ?_
  · intro p hp
    simp only [List.mem_cons, List.not_mem_nil, or_false] at hp
    rcases hp with rfl | rfl | rfl | rfl | rfl | rfl | rfl | rfl | rfl | rfl | rfl | rfl | rfl | rfl | rfl | rfl | rfl | rfl | rfl | rfl | rfl | rfl | rfl
    · exact Lasts.is _
    · exact Lasts.is _
    · exact Lasts.is _
    · exact Lasts.is _
    · exact Lasts.is _
    · exact Lasts.is _
    · exact Lasts.is _
    · exact Lasts.is _
    · exact Lasts.is _
    · exact Lasts.is _
    · exact Lasts.is _
    · exact Lasts.is _
    · exact Lasts.is _
    · exact Lasts.is _
    · exact Lasts.is _
    · exact Lasts.is _
    · exact Lasts.is _
    · exact Lasts.is _
    · exact Lasts.is _
    · exact Lasts.is _
    · exact Lasts.is _
    · exact Lasts.is _
    · exact Lasts.newBlk _ _ _
  · refine ⟨?_, ?_, ?_, ?_, ?_, ?_, ?_, ?_, ?_, ?_, ?_, ?_, ?_, ?_, ?_, ?_, ?_, ?_, ?_, ?_, ?_, ?_, ?_, trivial⟩
    · intro listed a w1 hl hc
      have h1 : a.tmps[1]?.getD undef = .pointer (some ⟨w.heap.size, 0, none⟩) := (hc.was 1 (by kernel_rfl)).trans rfl
      refine does_value rfl rfl (.pointer (some ⟨w.heap.size, 2, none⟩)) w1 ?_ (Below.refl _ _) rfl
      clear hc hl
      go_simp
    · intro listed a w1 hl hc
      have h5 : a.tmps[5]?.getD undef = .pointer (some ⟨w.heap.size, 2, none⟩) := hc.dep hl 0 5 rfl (by kernel_rfl)
      have kb := K0.out.below hc.g K0.out.lt
      have x2 : w1.cell? ⟨w.heap.size, 2, none⟩ = some (.slice A n c) := kb.cell 2
      clear kb
      refine does_value rfl rfl (.slice A n c) w1 ?_ (Below.refl _ _) rfl
      clear hc hl
      go_simp
    · intro listed a w1 hl hc
      have h6 : a.tmps[6]?.getD undef = .slice A n c := hc.dep hl 1 6 rfl (by kernel_rfl)
      refine does_call rfl rfl 52 #[.slice A n c, .int .i64 0] ?_ ((HW0.out w1 (B0.out.trans (hc.g.mono B0.out.size))).mono fun e w' ⟨he, hb⟩ => ⟨_, he, hb, rfl⟩)
      clear hc hl
      go_simp
    · intro listed a w1 hl hc
      have h1 : a.tmps[1]?.getD undef = .pointer (some ⟨w.heap.size, 0, none⟩) := (hc.was 1 (by kernel_rfl)).trans rfl
      refine does_value rfl rfl (.pointer (some ⟨w.heap.size, 2, none⟩)) w1 ?_ (Below.refl _ _) rfl
      clear hc hl
      go_simp
    · intro listed a w1 hl hc
      have h8 : a.tmps[8]?.getD undef = .pointer (some ⟨w.heap.size, 2, none⟩) := hc.dep hl 3 8 rfl (by kernel_rfl)
      have kb := K0.out.below hc.g K0.out.lt
      have x2 : w1.cell? ⟨w.heap.size, 2, none⟩ = some (.slice A n c) := kb.cell 2
      clear kb
      refine does_value rfl rfl (.slice A n c) w1 ?_ (Below.refl _ _) rfl
      clear hc hl
      go_simp
    · intro listed a w1 hl hc
      have h9 : a.tmps[9]?.getD undef = .slice A n c := hc.dep hl 4 9 rfl (by kernel_rfl)
      refine does_call rfl rfl 53 #[.slice A n c, .int .i64 4] ?_ ((HW4.out w1 (B0.out.trans (hc.g.mono B0.out.size))).mono fun e w' ⟨he, hb⟩ => ⟨_, he, hb, rfl⟩)
      clear hc hl
      go_simp
    · intro listed a w1 hl hc
      have h1 : a.tmps[1]?.getD undef = .pointer (some ⟨w.heap.size, 0, none⟩) := (hc.was 1 (by kernel_rfl)).trans rfl
      refine does_value rfl rfl (.pointer (some ⟨w.heap.size, 2, none⟩)) w1 ?_ (Below.refl _ _) rfl
      clear hc hl
      go_simp
    · intro listed a w1 hl hc
      have h11 : a.tmps[11]?.getD undef = .pointer (some ⟨w.heap.size, 2, none⟩) := hc.dep hl 6 11 rfl (by kernel_rfl)
      have kb := K0.out.below hc.g K0.out.lt
      have x2 : w1.cell? ⟨w.heap.size, 2, none⟩ = some (.slice A n c) := kb.cell 2
      clear kb
      refine does_value rfl rfl (.slice A n c) w1 ?_ (Below.refl _ _) rfl
      clear hc hl
      go_simp
    · intro listed a w1 hl hc
      have h12 : a.tmps[12]?.getD undef = .slice A n c := hc.dep hl 7 12 rfl (by kernel_rfl)
      refine does_call rfl rfl 53 #[.slice A n c, .int .i64 6] ?_ ((HW6.out w1 (B0.out.trans (hc.g.mono B0.out.size))).mono fun e w' ⟨he, hb⟩ => ⟨_, he, hb, rfl⟩)
      clear hc hl
      go_simp
    · intro listed a w1 hl hc
      have h1 : a.tmps[1]?.getD undef = .pointer (some ⟨w.heap.size, 0, none⟩) := (hc.was 1 (by kernel_rfl)).trans rfl
      refine does_value rfl rfl (.pointer (some ⟨w.heap.size, 1, none⟩)) w1 ?_ (Below.refl _ _) rfl
      clear hc hl
      go_simp
    · intro listed a w1 hl hc
      have h14 : a.tmps[14]?.getD undef = .pointer (some ⟨w.heap.size, 1, none⟩) := hc.dep hl 9 14 rfl (by kernel_rfl)
      have kb := K0.out.below hc.g K0.out.lt
      have x1 : w1.cell? ⟨w.heap.size, 1, none⟩ = some (.int .u8 (f.toNat : Int)) := kb.cell 1
      clear kb
      refine does_value rfl rfl (.int .u8 (f.toNat : Int)) w1 ?_ (Below.refl _ _) rfl
      clear hc hl
      go_simp
    · intro listed a w1 hl hc
      have h15 : a.tmps[15]?.getD undef = .int .u8 (f.toNat : Int) := hc.dep hl 10 15 rfl (by kernel_rfl)
      refine does_value rfl rfl (.int .u8 e4) w1 ?_ (Below.refl _ _) rfl
      clear hc hl
      go_simp
    · intro listed a w1 hl hc
      have h16 : a.tmps[16]?.getD undef = .int .u8 e4 := hc.dep hl 11 16 rfl (by kernel_rfl)
      refine does_value rfl rfl (.bool b4) w1 ?_ (Below.refl _ _) rfl
      clear hc hl
      go_simp
    · intro listed a w1 hl hc
      have h1 : a.tmps[1]?.getD undef = .pointer (some ⟨w.heap.size, 0, none⟩) := (hc.was 1 (by kernel_rfl)).trans rfl
      refine does_value rfl rfl (.pointer (some ⟨w.heap.size, 1, none⟩)) w1 ?_ (Below.refl _ _) rfl
      clear hc hl
      go_simp
    · intro listed a w1 hl hc
      have h18 : a.tmps[18]?.getD undef = .pointer (some ⟨w.heap.size, 1, none⟩) := hc.dep hl 13 18 rfl (by kernel_rfl)
      have kb := K0.out.below hc.g K0.out.lt
      have x1 : w1.cell? ⟨w.heap.size, 1, none⟩ = some (.int .u8 (f.toNat : Int)) := kb.cell 1
      clear kb
      refine does_value rfl rfl (.int .u8 (f.toNat : Int)) w1 ?_ (Below.refl _ _) rfl
      clear hc hl
      go_simp
    · intro listed a w1 hl hc
      have h19 : a.tmps[19]?.getD undef = .int .u8 (f.toNat : Int) := hc.dep hl 14 19 rfl (by kernel_rfl)
      refine does_value rfl rfl (.int .u8 e2) w1 ?_ (Below.refl _ _) rfl
      clear hc hl
      go_simp
    · intro listed a w1 hl hc
      have h20 : a.tmps[20]?.getD undef = .int .u8 e2 := hc.dep hl 15 20 rfl (by kernel_rfl)
      refine does_value rfl rfl (.bool b2) w1 ?_ (Below.refl _ _) rfl
      clear hc hl
      go_simp
    · intro listed a w1 hl hc
      have h1 : a.tmps[1]?.getD undef = .pointer (some ⟨w.heap.size, 0, none⟩) := (hc.was 1 (by kernel_rfl)).trans rfl
      refine does_value rfl rfl (.pointer (some ⟨w.heap.size, 1, none⟩)) w1 ?_ (Below.refl _ _) rfl
      clear hc hl
      go_simp
    · intro listed a w1 hl hc
      have h22 : a.tmps[22]?.getD undef = .pointer (some ⟨w.heap.size, 1, none⟩) := hc.dep hl 17 22 rfl (by kernel_rfl)
      have kb := K0.out.below hc.g K0.out.lt
      have x1 : w1.cell? ⟨w.heap.size, 1, none⟩ = some (.int .u8 (f.toNat : Int)) := kb.cell 1
      clear kb
      refine does_value rfl rfl (.int .u8 (f.toNat : Int)) w1 ?_ (Below.refl _ _) rfl
      clear hc hl
      go_simp
    · intro listed a w1 hl hc
      have h23 : a.tmps[23]?.getD undef = .int .u8 (f.toNat : Int) := hc.dep hl 18 23 rfl (by kernel_rfl)
      refine does_value rfl rfl (.int .u8 e1) w1 ?_ (Below.refl _ _) rfl
      clear hc hl
      go_simp
    · intro listed a w1 hl hc
      have h24 : a.tmps[24]?.getD undef = .int .u8 e1 := hc.dep hl 19 24 rfl (by kernel_rfl)
      refine does_value rfl rfl (.bool b1) w1 ?_ (Below.refl _ _) rfl
      clear hc hl
      go_simp
    · intro listed a w1 hl hc
      have h7 : a.tmps[7]?.getD undef = .int .u32 (n0 : Int) := hc.dep hl 2 7 rfl (by kernel_rfl)
      have h10 : a.tmps[10]?.getD undef = .int .u16 (n4 : Int) := hc.dep hl 5 10 rfl (by kernel_rfl)
      have h13 : a.tmps[13]?.getD undef = .int .u16 (n6 : Int) := hc.dep hl 8 13 rfl (by kernel_rfl)
      have h17 : a.tmps[17]?.getD undef = .bool b4 := hc.dep hl 12 17 rfl (by kernel_rfl)
      have h21 : a.tmps[21]?.getD undef = .bool b2 := hc.dep hl 16 21 rfl (by kernel_rfl)
      have h25 : a.tmps[25]?.getD undef = .bool b1 := hc.dep hl 20 25 rfl (by kernel_rfl)
      refine does_value rfl rfl (.agg #[.int .u32 (n0 : Int), .int .u16 (n4 : Int), .int .u16 (n6 : Int), .bool b4, .bool b2, .bool b1, .slice none 0 0]) w1 ?_ (Below.refl _ _) rfl
      clear hc hl
      go_simp
    · intro listed a w1 hl hc
      refine does_value rfl rfl (.pointer (some ⟨w1.heap.size, 0, none⟩)) (w1.alloc (.cells #[.int .u32 0, .int .u16 0, .int .u16 0, .bool false, .bool false, .bool false, .slice none 0 0] 26)) ?_ (below_new w1 _) ⟨_, rfl, hc.g.size, Blk.new _ _ _⟩
      clear hc hl
      go_simp
  intro w2 hb2
  rintro _ rfl _ rfl _ rfl _ rfl _ rfl _ rfl _ rfl _ rfl _ rfl _ rfl _ rfl _ rfl _ rfl _ rfl _ rfl _ rfl _ rfl _ rfl _ rfl _ rfl _ rfl _ rfl _ ⟨g4, rfl, hg4, hb4⟩
  simp only [Thus, List.reverse_cons, List.reverse_nil, List.nil_append, List.cons_append, List.drop, List.take, lay]
  go_frame
  have hl0 := K0.out.lt
  have hl1 := K1.out.lt
  have HG := Lib.hid hb4
  have hge : w.heap.size ≤ g4 := by omega
  have y0 := HG.out.cell 0
  have y1 := HG.out.cell 1
  have y2 := HG.out.cell 2
  have y3 := HG.out.cell 3
  have y4 := HG.out.cell 4
  have y5 := HG.out.cell 5
  have y6 := HG.out.cell 6
  have z0 := HG.out.frozen 0
  have z1 := HG.out.frozen 1
  have z2 := HG.out.frozen 2
  have z3 := HG.out.frozen 3
  have z4 := HG.out.frozen 4
  have z5 := HG.out.frozen 5
  have z6 := HG.out.frozen 6
  have G3 := Lib.hid (((((((hb4.set_ 0 (.int .u32 (n0 : Int))).set_ 1 (.int .u16 (n4 : Int))).set_ 2 (.int .u16 (n6 : Int))).set_ 3 (.bool b4)).set_ 4 (.bool b2)).set_ 5 (.bool b1)).set_ 6 (.slice none 0 0))
  have K0b := Lib.hid ((((((((K0.out.below hb2 K0.out.lt).far (p := ⟨g4, 0, none⟩) (show w.heap.size ≠ g4 by omega) (.int .u32 (n0 : Int))).far (p := ⟨g4, 1, none⟩) (show w.heap.size ≠ g4 by omega) (.int .u16 (n4 : Int))).far (p := ⟨g4, 2, none⟩) (show w.heap.size ≠ g4 by omega) (.int .u16 (n6 : Int))).far (p := ⟨g4, 3, none⟩) (show w.heap.size ≠ g4 by omega) (.bool b4)).far (p := ⟨g4, 4, none⟩) (show w.heap.size ≠ g4 by omega) (.bool b2)).far (p := ⟨g4, 5, none⟩) (show w.heap.size ≠ g4 by omega) (.bool b1)).far (p := ⟨g4, 6, none⟩) (show w.heap.size ≠ g4 by omega) (.slice none 0 0))
  have K1b := Lib.hid ((((((((K1.out.below hb2 K1.out.lt).far (p := ⟨g4, 0, none⟩) (show w.heap.size + 1 ≠ g4 by omega) (.int .u32 (n0 : Int))).far (p := ⟨g4, 1, none⟩) (show w.heap.size + 1 ≠ g4 by omega) (.int .u16 (n4 : Int))).far (p := ⟨g4, 2, none⟩) (show w.heap.size + 1 ≠ g4 by omega) (.int .u16 (n6 : Int))).far (p := ⟨g4, 3, none⟩) (show w.heap.size + 1 ≠ g4 by omega) (.bool b4)).far (p := ⟨g4, 4, none⟩) (show w.heap.size + 1 ≠ g4 by omega) (.bool b2)).far (p := ⟨g4, 5, none⟩) (show w.heap.size + 1 ≠ g4 by omega) (.bool b1)).far (p := ⟨g4, 6, none⟩) (show w.heap.size + 1 ≠ g4 by omega) (.slice none 0 0))
  have B3 := Lib.hid ((((((((below_then B0.out (Nat.le_refl _) hb2).setCell (p := ⟨g4, 0, none⟩) (show w.heap.size ≤ g4 by omega) (.int .u32 (n0 : Int))).setCell (p := ⟨g4, 1, none⟩) (show w.heap.size ≤ g4 by omega) (.int .u16 (n4 : Int))).setCell (p := ⟨g4, 2, none⟩) (show w.heap.size ≤ g4 by omega) (.int .u16 (n6 : Int))).setCell (p := ⟨g4, 3, none⟩) (show w.heap.size ≤ g4 by omega) (.bool b4)).setCell (p := ⟨g4, 4, none⟩) (show w.heap.size ≤ g4 by omega) (.bool b2)).setCell (p := ⟨g4, 5, none⟩) (show w.heap.size ≤ g4 by omega) (.bool b1)).setCell (p := ⟨g4, 6, none⟩) (show w.heap.size ≤ g4 by omega) (.slice none 0 0))
  have hgl : g4 < w2.heap.size := hb4.lt
  clear hb2 hb4 K0 K1 B0 HG
  have x0 := K0b.out.cell 0
  have x1 := K0b.out.cell 1
  have x2 := K0b.out.cell 2
  go_wp2_with fail
  generalize (((((((w2.setCell ⟨g4, 0, none⟩ (.int .u32 (n0 : Int))).setCell ⟨g4, 1, none⟩ (.int .u16 (n4 : Int))).setCell ⟨g4, 2, none⟩ (.int .u16 (n6 : Int))).setCell ⟨g4, 3, none⟩ (.bool b4)).setCell ⟨g4, 4, none⟩ (.bool b2)).setCell ⟨g4, 5, none⟩ (.bool b1)).setCell ⟨g4, 6, none⟩ (.slice none 0 0)) = v3 at G3 K0b K1b B3 ⊢
  clear hgl y0 z0 y1 z1 y2 z2 y3 z3 y4 z4 y5 z5 y6 z6
  refine (HCUT.out v3 B3.out).mono ?_
  rintro e w4 ⟨Ax, cx, rfl, ho, hb⟩
  have O4 := Lib.hid (ho.more B3.out.size)
  have G4 := Lib.hid (G3.out.below hb G3.out.lt)
  have K0c := Lib.hid (K0b.out.below hb K0b.out.lt)
  have K1c := Lib.hid (K1b.out.below hb K1b.out.lt)
  have B4 := Lib.hid (below_then B3.out (Nat.le_refl _) hb)
  clear hb G3 K0b K1b B3 x0 x1 x2 ho
  have y0 := G4.out.cell 0
  have y1 := G4.out.cell 1
  have y2 := G4.out.cell 2
  have y3 := G4.out.cell 3
  have y4 := G4.out.cell 4
  have y5 := G4.out.cell 5
  have y6 := G4.out.cell 6
  have z0 := G4.out.frozen 0
  have z1 := G4.out.frozen 1
  have z2 := G4.out.frozen 2
  have z3 := G4.out.frozen 3
  have z4 := G4.out.frozen 4
  have z5 := G4.out.frozen 5
  have z6 := G4.out.frozen 6
  have x0 := K0c.out.cell 0
  have x1 := K0c.out.cell 1
  have x2 := K0c.out.cell 2
  have G5 := Lib.hid (G4.out.set_ 6 (.slice Ax (n - 12 : Nat) cx))
  have K1d := Lib.hid (K1c.out.far (p := ⟨g4, 6, none⟩) (show w.heap.size + 1 ≠ g4 by omega) (.slice Ax (n - 12 : Nat) cx))
  have B5 := Lib.hid (B4.out.setCell (p := ⟨g4, 6, none⟩) (show w.heap.size ≤ g4 by omega) (.slice Ax (n - 12 : Nat) cx))
  have O5 := Lib.hid (O4.out.setBlk G4.out (by decide) 6 (.slice Ax (n - 12 : Nat) cx))
  have hgl : g4 < w4.heap.size := G4.out.lt
  have hne0 : ¬ w.heap.size = g4 := by omega
  clear G4 K0c K1c B4
  go_wp2_with fail
  generalize w4.setCell ⟨g4, 6, none⟩ (.slice Ax (n - 12 : Nat) cx) = v5 at G5 K1d B5 O5 ⊢
  clear hgl y0 z0 y1 z1 y2 z2 y3 z3 y4 z4 y5 z5 y6 z6
  refine (HCK.out v5 Ax cx B5.out O5.out).mono ?_
  rintro e w6 ⟨rfl, hb⟩
  have K1e := Lib.hid (K1d.out.below hb K1d.out.lt)
  have B6 := Lib.hid (below_then B5.out (Nat.le_refl _) hb)
  clear hb K1d B5
  have y0 := K1e.out.cell 0
  have y1 := K1e.out.cell 1
  have y2 := K1e.out.cell 2
  have y3 := K1e.out.cell 3
  have y4 := K1e.out.cell 4
  have y5 := K1e.out.cell 5
  have y6 := K1e.out.cell 6
  have z0 := K1e.out.frozen 0
  have z1 := K1e.out.frozen 1
  have z2 := K1e.out.frozen 2
  have z3 := K1e.out.frozen 3
  have z4 := K1e.out.frozen 4
  have z5 := K1e.out.frozen 5
  have z6 := K1e.out.frozen 6
  go_wp2_with fail
  have H3 := (((((((K1e.out.set_ 0 (.int .u32 0)).set_ 1 (.int .u16 0)).set_ 2 (.int .u16 0)).set_ 3 (.bool false)).set_ 4 (.bool false)).set_ 5 (.bool false)).set_ 6 (.slice none 0 0))
  exact bodyPost_ret (v := .tuple #[.agg #[.int .u32 0, .int .u16 0, .int .u16 0, .bool false, .bool false, .bool false, .slice none 0 0], .int .i64 7]) (by simp [results, Try.results16, go_sem, H3.cell]) rfl ⟨none, 0, 0, rfl, Own8.nil _ _ _, (((((((B6.out.setCell (p := ⟨w.heap.size + 1, 0, none⟩) (show w.heap.size ≤ w.heap.size + 1 by omega) (.int .u32 0)).setCell (p := ⟨w.heap.size + 1, 1, none⟩) (show w.heap.size ≤ w.heap.size + 1 by omega) (.int .u16 0)).setCell (p := ⟨w.heap.size + 1, 2, none⟩) (show w.heap.size ≤ w.heap.size + 1 by omega) (.int .u16 0)).setCell (p := ⟨w.heap.size + 1, 3, none⟩) (show w.heap.size ≤ w.heap.size + 1 by omega) (.bool false)).setCell (p := ⟨w.heap.size + 1, 4, none⟩) (show w.heap.size ≤ w.heap.size + 1 by omega) (.bool false)).setCell (p := ⟨w.heap.size + 1, 5, none⟩) (show w.heap.size ≤ w.heap.size + 1 by omega) (.bool false)).setCell (p := ⟨w.heap.size + 1, 6, none⟩) (show w.heap.size ≤ w.heap.size + 1 by omega) (.slice none 0 0))⟩
set_option maxRecDepth 100000 in
set_option maxHeartbeats 4000000 in
theorem getData_yes (k f : UInt8) (A : Option Addr) (n c : Nat) (xs : List UInt8) (w : World) (hn : n ≤ 140737488355200) (hc : n ≤ c) (hcm : c ≤ maxLen) (hx : xs.length = n) (hr : Rd w w.heap.size A xs) (hl : 13 ≤ n) (hok : okD k f xs = true) :
    GetsD 16 #[.agg #[.int .u8 (k.toNat : Int), .int .u8 (f.toNat : Int), .slice A n c]] k f xs w := by
  have hz := zero_data
  have hcm' := hcm
  unfold maxLen at hcm'
  have h0b : numO xs 0 4 < 4294967296 := numO_lt xs 0 4
  have h4b : numO xs 4 2 < 65536 := numO_lt xs 4 2
  have h6b : numO xs 6 2 < 65536 := numO_lt xs 6 2
  have HW0 : Hid (∀ W, Below w.heap.size w W → Calls Try.prog 52 #[.slice A n c, .int .i64 0] W fun e w' => e = .returned (.int .u32 (numO xs 0 4)) ∧ Below W.heap.size W w') := Lib.hid fun W hW => (word_any A n c 0 xs W (by omega) (by omega) hx ((hr.below hW).more hW.size)).mono fun e w' ⟨he, hw⟩ => ⟨he, hw ▸ Below.refl _ _⟩
  have HW4 : Hid (∀ W, Below w.heap.size w W → Calls Try.prog 53 #[.slice A n c, .int .i64 4] W fun e w' => e = .returned (.int .u16 (numO xs 4 2)) ∧ Below W.heap.size W w') := Lib.hid fun W hW => (half_any A n c 4 xs W (by omega) (by omega) hx ((hr.below hW).more hW.size)).mono fun e w' ⟨he, hw⟩ => ⟨he, hw ▸ Below.refl _ _⟩
  have HW6 : Hid (∀ W, Below w.heap.size w W → Calls Try.prog 53 #[.slice A n c, .int .i64 6] W fun e w' => e = .returned (.int .u16 (numO xs 6 2)) ∧ Below W.heap.size W w') := Lib.hid fun W hW => (half_any A n c 6 xs W (by omega) (by omega) hx ((hr.below hW).more hW.size)).mono fun e w' ⟨he, hw⟩ => ⟨he, hw ▸ Below.refl _ _⟩
  obtain ⟨e4, he4, hq4⟩ := flag_bit f 4
  obtain ⟨e2, he2, hq2⟩ := flag_bit f 2
  obtain ⟨e1, he1, hq1⟩ := flag_bit f 1
  have HCUT : Hid (∀ W, Below w.heap.size w W → Calls Try.prog 54 #[.slice A n c, .int .i64 12, .int .i64 ((n : Int) - 12)] W fun e w' => ∃ A2 c2, e = .returned (.tuple #[.slice A2 (n - 12 : Nat) c2, .bool true]) ∧ Own8 w' 5 W.heap.size A2 (n - 12) c2 (xs.drop 12) ∧ Below W.heap.size W w') := Lib.hid fun W hW => by
    have := cut_yes A n c 12 (n - 12) xs W (by omega) hc hcm hx ((hr.below hW).more hW.size) (by omega)
    rw [List.take_of_length_le (by rw [List.length_drop]; omega), show ((n - 12 : Nat) : Int) = (n : Int) - 12 by omega] at this
    exact this
  have hp : parseD f xs = ⟨numO xs 0 4, numO xs 4 2, numO xs 6 2, decide (f &&& 4 ≠ 0), decide (f &&& 2 ≠ 0), decide (f &&& 1 ≠ 0), xs.drop 12⟩ := by rw [numO_in (by omega), numO_in (by omega), numO_in (by omega)]; rfl
  have hd : decide (k = 0 ∧ f = flagsD (decide (f &&& 4 ≠ 0)) (decide (f &&& 2 ≠ 0)) (decide (f &&& 1 ≠ 0)) ∧ xs = bodyD ⟨numO xs 0 4, numO xs 4 2, numO xs 6 2, decide (f &&& 4 ≠ 0), decide (f &&& 2 ≠ 0), decide (f &&& 1 ≠ 0), xs.drop 12⟩) = true := by
    have h := hok
    unfold okD at h
    rw [hp, show decide (13 ≤ xs.length) = true from decide_eq_true (by omega), Bool.true_and] at h
    exact h
  have hra : ansD k f xs = ⟨numO xs 0 4, numO xs 4 2, numO xs 6 2, decide (f &&& 4 ≠ 0), decide (f &&& 2 ≠ 0), decide (f &&& 1 ≠ 0), xs.drop 12⟩ := by unfold ansD; rw [hok]; exact hp
  unfold GetsD
  rw [hok, hra]
  have HCK : Hid (∀ W (Ax : Option Addr) (cx : Nat), Below w.heap.size w W → Own8 W 5 w.heap.size Ax (n - 12) cx (xs.drop 12) → Calls Try.prog 55 #[.agg #[.int .u8 (k.toNat : Int), .int .u8 (f.toNat : Int), .slice A n c], .agg #[.int .u32 (numO xs 0 4 : Int), .int .u16 (numO xs 4 2 : Int), .int .u16 (numO xs 6 2 : Int), .bool (decide (f &&& 4 ≠ 0)), .bool (decide (f &&& 2 ≠ 0)), .bool (decide (f &&& 1 ≠ 0)), .slice Ax (n - 12 : Nat) cx], .bool true, .func (.func 15) #[] #[]] W fun e w' => e = .returned (.tuple #[.agg #[.int .u32 (numO xs 0 4 : Int), .int .u16 (numO xs 4 2 : Int), .int .u16 (numO xs 6 2 : Int), .bool (decide (f &&& 4 ≠ 0)), .bool (decide (f &&& 2 ≠ 0)), .bool (decide (f &&& 1 ≠ 0)), .slice Ax (n - 12 : Nat) cx], .int .i64 0]) ∧ Below W.heap.size W w') := Lib.hid fun W Ax cx hW ho => checkedD_yes k f A n c (numO xs 0 4) (numO xs 4 2) (numO xs 6 2) _ _ _ Ax (n - 12) cx xs _ 0 _ W hx ((hr.below hW).more hW.size) hd (fun W2 h2 => putData_any _ _ _ _ _ _ _ h0b h4b h6b Ax (n - 12) cx W2 (by omega) ho.len ((ho.rd.below h2).more h2.size))
  have hgt : decide (0 < n - 12) = true := decide_eq_true (by omega)
  clear hp hd
  obtain ⟨n0, hn0⟩ : ∃ n0, n0 = numO xs 0 4 := ⟨_, rfl⟩
  obtain ⟨n4, hn4⟩ : ∃ n4, n4 = numO xs 4 2 := ⟨_, rfl⟩
  obtain ⟨n6, hn6⟩ : ∃ n6, n6 = numO xs 6 2 := ⟨_, rfl⟩
  obtain ⟨b4, hb4⟩ : ∃ b4, b4 = decide (f &&& 4 ≠ 0) := ⟨_, rfl⟩
  obtain ⟨b2, hb2⟩ : ∃ b2, b2 = decide (f &&& 2 ≠ 0) := ⟨_, rfl⟩
  obtain ⟨b1, hb1⟩ : ∃ b1, b1 = decide (f &&& 1 ≠ 0) := ⟨_, rfl⟩
  rw [← hn0] at HW0 h0b HCK
  rw [← hn4] at HW4 h4b HCK
  rw [← hn6] at HW6 h6b HCK
  rw [← hb4] at hq4 HCK
  rw [← hb2] at hq2 HCK
  rw [← hb1] at hq1 HCK
  rw [← hn0, ← hn4, ← hn6, ← hb4, ← hb2, ← hb1]
  have he4 : bits .and .u8 (f.toNat : Int) 4 = e4 := he4
  have he2 : bits .and .u8 (f.toNat : Int) 2 = e2 := he2
  have he1 : bits .and .u8 (f.toNat : Int) 1 = e1 := he1
  obtain ⟨ZS, hZS⟩ : ∃ ZS, ZS = xs.drop 12 := ⟨_, rfl⟩
  rw [← hZS] at HCK HCUT ⊢
  clear hZS
  clear hn0 hn4 hn6 hb4 hb2 hb1 hx hr hra hok
  have b0 : Blk (w.alloc (.cells #[.int .u8 (k.toNat : Int), .int .u8 (f.toNat : Int), .slice A n c] 28)) w.heap.size 28 #[.int .u8 (k.toNat : Int), .int .u8 (f.toNat : Int), .slice A n c] := Blk.new w 28 #[.int .u8 (k.toNat : Int), .int .u8 (f.toNat : Int), .slice A n c]
  have b1 : Blk ((w.alloc (.cells #[.int .u8 (k.toNat : Int), .int .u8 (f.toNat : Int), .slice A n c] 28)).alloc (.cells #[.int .u32 0, .int .u16 0, .int .u16 0, .bool false, .bool false, .bool false, .slice none 0 0] 26)) (w.heap.size + 1) 26 #[.int .u32 0, .int .u16 0, .int .u16 0, .bool false, .bool false, .bool false, .slice none 0 0] := by simpa using Blk.new (w.alloc (.cells #[.int .u8 (k.toNat : Int), .int .u8 (f.toNat : Int), .slice A n c] 28)) 26 #[.int .u32 0, .int .u16 0, .int .u16 0, .bool false, .bool false, .bool false, .slice none 0 0]
  have K0 := Lib.hid (b0.alloc (.cells #[.int .u32 0, .int .u16 0, .int .u16 0, .bool false, .bool false, .bool false, .slice none 0 0] 26))
  have K1 := Lib.hid b1
  have B0 : Hid (Below w.heap.size w ((w.alloc (.cells #[.int .u8 (k.toNat : Int), .int .u8 (f.toNat : Int), .slice A n c] 28)).alloc (.cells #[.int .u32 0, .int .u16 0, .int .u16 0, .bool false, .bool false, .bool false, .slice none 0 0] 26))) := Lib.hid (Wr.below_ (((Wr.refl 5 w.heap.size w).alloc (.cells #[.int .u8 (k.toNat : Int), .int .u8 (f.toNat : Int), .slice A n c] 28)).alloc (.cells #[.int .u32 0, .int .u16 0, .int .u16 0, .bool false, .bool false, .bool false, .slice none 0 0] 26)) (Nat.le_refl _))
  clear b0 b1
  go_enter Try.func16, Try.ntmps16
  rw [drawn_eq 1]
  go_wp2_with fail
  generalize ((w.alloc (.cells #[.int .u8 (k.toNat : Int), .int .u8 (f.toNat : Int), .slice A n c] 28)).alloc (.cells #[.int .u32 0, .int .u16 0, .int .u16 0, .bool false, .bool false, .bool false, .slice none 0 0] 26)) = v0 at K0 K1 B0 ⊢
  rw [← drawn_eq 1]
  refine wp_region_grow_tail 23 (by kernel_rfl) [(Is (.pointer (some ⟨w.heap.size, 2, none⟩))), (Is (.slice A n c)), (Is (.int .u32 (n0 : Int))), (Is (.pointer (some ⟨w.heap.size, 2, none⟩))), (Is (.slice A n c)), (Is (.int .u16 (n4 : Int))), (Is (.pointer (some ⟨w.heap.size, 2, none⟩))), (Is (.slice A n c)), (Is (.int .u16 (n6 : Int))), (Is (.pointer (some ⟨w.heap.size, 1, none⟩))), (Is (.int .u8 (f.toNat : Int))), (Is (.int .u8 e4)), (Is (.bool b4)), (Is (.pointer (some ⟨w.heap.size, 1, none⟩))), (Is (.int .u8 (f.toNat : Int))), (Is (.int .u8 e2)), (Is (.bool b2)), (Is (.pointer (some ⟨w.heap.size, 1, none⟩))), (Is (.int .u8 (f.toNat : Int))), (Is (.int .u8 e1)), (Is (.bool b1)), (Is (.agg #[.int .u32 (n0 : Int), .int .u16 (n4 : Int), .int .u16 (n6 : Int), .bool b4, .bool b2, .bool b1, .slice none 0 0])), (NewBlk v0.heap.size 26 #[.int .u32 0, .int .u16 0, .int .u16 0, .bool false, .bool false, .bool false, .slice none 0 0])] rfl ?_ (by kernel_rfl) (by kernel_rfl) ?_ ?_
  · intro p hp
    simp only [List.mem_cons, List.not_mem_nil, or_false] at hp
    rcases hp with rfl | rfl | rfl | rfl | rfl | rfl | rfl | rfl | rfl | rfl | rfl | rfl | rfl | rfl | rfl | rfl | rfl | rfl | rfl | rfl | rfl | rfl | rfl
    · exact Lasts.is _
    · exact Lasts.is _
    · exact Lasts.is _
    · exact Lasts.is _
    · exact Lasts.is _
    · exact Lasts.is _
    · exact Lasts.is _
    · exact Lasts.is _
    · exact Lasts.is _
    · exact Lasts.is _
    · exact Lasts.is _
    · exact Lasts.is _
    · exact Lasts.is _
    · exact Lasts.is _
    · exact Lasts.is _
    · exact Lasts.is _
    · exact Lasts.is _
    · exact Lasts.is _
    · exact Lasts.is _
    · exact Lasts.is _
    · exact Lasts.is _
    · exact Lasts.is _
    · exact Lasts.newBlk _ _ _
  · refine ⟨?_, ?_, ?_, ?_, ?_, ?_, ?_, ?_, ?_, ?_, ?_, ?_, ?_, ?_, ?_, ?_, ?_, ?_, ?_, ?_, ?_, ?_, ?_, trivial⟩
    · intro listed a w1 hl hc
      have h1 : a.tmps[1]?.getD undef = .pointer (some ⟨w.heap.size, 0, none⟩) := (hc.was 1 (by kernel_rfl)).trans rfl
      refine does_value rfl rfl (.pointer (some ⟨w.heap.size, 2, none⟩)) w1 ?_ (Below.refl _ _) rfl
      clear hc hl
      go_simp
    · intro listed a w1 hl hc
      have h5 : a.tmps[5]?.getD undef = .pointer (some ⟨w.heap.size, 2, none⟩) := hc.dep hl 0 5 rfl (by kernel_rfl)
      have kb := K0.out.below hc.g K0.out.lt
      have x2 : w1.cell? ⟨w.heap.size, 2, none⟩ = some (.slice A n c) := kb.cell 2
      clear kb
      refine does_value rfl rfl (.slice A n c) w1 ?_ (Below.refl _ _) rfl
      clear hc hl
      go_simp
    · intro listed a w1 hl hc
      have h6 : a.tmps[6]?.getD undef = .slice A n c := hc.dep hl 1 6 rfl (by kernel_rfl)
      refine does_call rfl rfl 52 #[.slice A n c, .int .i64 0] ?_ ((HW0.out w1 (B0.out.trans (hc.g.mono B0.out.size))).mono fun e w' ⟨he, hb⟩ => ⟨_, he, hb, rfl⟩)
      clear hc hl
      go_simp
    · intro listed a w1 hl hc
      have h1 : a.tmps[1]?.getD undef = .pointer (some ⟨w.heap.size, 0, none⟩) := (hc.was 1 (by kernel_rfl)).trans rfl
      refine does_value rfl rfl (.pointer (some ⟨w.heap.size, 2, none⟩)) w1 ?_ (Below.refl _ _) rfl
      clear hc hl
      go_simp
    · intro listed a w1 hl hc
      have h8 : a.tmps[8]?.getD undef = .pointer (some ⟨w.heap.size, 2, none⟩) := hc.dep hl 3 8 rfl (by kernel_rfl)
      have kb := K0.out.below hc.g K0.out.lt
      have x2 : w1.cell? ⟨w.heap.size, 2, none⟩ = some (.slice A n c) := kb.cell 2
      clear kb
      refine does_value rfl rfl (.slice A n c) w1 ?_ (Below.refl _ _) rfl
      clear hc hl
      go_simp
    · intro listed a w1 hl hc
      have h9 : a.tmps[9]?.getD undef = .slice A n c := hc.dep hl 4 9 rfl (by kernel_rfl)
      refine does_call rfl rfl 53 #[.slice A n c, .int .i64 4] ?_ ((HW4.out w1 (B0.out.trans (hc.g.mono B0.out.size))).mono fun e w' ⟨he, hb⟩ => ⟨_, he, hb, rfl⟩)
      clear hc hl
      go_simp
    · intro listed a w1 hl hc
      have h1 : a.tmps[1]?.getD undef = .pointer (some ⟨w.heap.size, 0, none⟩) := (hc.was 1 (by kernel_rfl)).trans rfl
      refine does_value rfl rfl (.pointer (some ⟨w.heap.size, 2, none⟩)) w1 ?_ (Below.refl _ _) rfl
      clear hc hl
      go_simp
    · intro listed a w1 hl hc
      have h11 : a.tmps[11]?.getD undef = .pointer (some ⟨w.heap.size, 2, none⟩) := hc.dep hl 6 11 rfl (by kernel_rfl)
      have kb := K0.out.below hc.g K0.out.lt
      have x2 : w1.cell? ⟨w.heap.size, 2, none⟩ = some (.slice A n c) := kb.cell 2
      clear kb
      refine does_value rfl rfl (.slice A n c) w1 ?_ (Below.refl _ _) rfl
      clear hc hl
      go_simp
    · intro listed a w1 hl hc
      have h12 : a.tmps[12]?.getD undef = .slice A n c := hc.dep hl 7 12 rfl (by kernel_rfl)
      refine does_call rfl rfl 53 #[.slice A n c, .int .i64 6] ?_ ((HW6.out w1 (B0.out.trans (hc.g.mono B0.out.size))).mono fun e w' ⟨he, hb⟩ => ⟨_, he, hb, rfl⟩)
      clear hc hl
      go_simp
    · intro listed a w1 hl hc
      have h1 : a.tmps[1]?.getD undef = .pointer (some ⟨w.heap.size, 0, none⟩) := (hc.was 1 (by kernel_rfl)).trans rfl
      refine does_value rfl rfl (.pointer (some ⟨w.heap.size, 1, none⟩)) w1 ?_ (Below.refl _ _) rfl
      clear hc hl
      go_simp
    · intro listed a w1 hl hc
      have h14 : a.tmps[14]?.getD undef = .pointer (some ⟨w.heap.size, 1, none⟩) := hc.dep hl 9 14 rfl (by kernel_rfl)
      have kb := K0.out.below hc.g K0.out.lt
      have x1 : w1.cell? ⟨w.heap.size, 1, none⟩ = some (.int .u8 (f.toNat : Int)) := kb.cell 1
      clear kb
      refine does_value rfl rfl (.int .u8 (f.toNat : Int)) w1 ?_ (Below.refl _ _) rfl
      clear hc hl
      go_simp
    · intro listed a w1 hl hc
      have h15 : a.tmps[15]?.getD undef = .int .u8 (f.toNat : Int) := hc.dep hl 10 15 rfl (by kernel_rfl)
      refine does_value rfl rfl (.int .u8 e4) w1 ?_ (Below.refl _ _) rfl
      clear hc hl
      go_simp
    · intro listed a w1 hl hc
      have h16 : a.tmps[16]?.getD undef = .int .u8 e4 := hc.dep hl 11 16 rfl (by kernel_rfl)
      refine does_value rfl rfl (.bool b4) w1 ?_ (Below.refl _ _) rfl
      clear hc hl
      go_simp
    · intro listed a w1 hl hc
      have h1 : a.tmps[1]?.getD undef = .pointer (some ⟨w.heap.size, 0, none⟩) := (hc.was 1 (by kernel_rfl)).trans rfl
      refine does_value rfl rfl (.pointer (some ⟨w.heap.size, 1, none⟩)) w1 ?_ (Below.refl _ _) rfl
      clear hc hl
      go_simp
    · intro listed a w1 hl hc
      have h18 : a.tmps[18]?.getD undef = .pointer (some ⟨w.heap.size, 1, none⟩) := hc.dep hl 13 18 rfl (by kernel_rfl)
      have kb := K0.out.below hc.g K0.out.lt
      have x1 : w1.cell? ⟨w.heap.size, 1, none⟩ = some (.int .u8 (f.toNat : Int)) := kb.cell 1
      clear kb
      refine does_value rfl rfl (.int .u8 (f.toNat : Int)) w1 ?_ (Below.refl _ _) rfl
      clear hc hl
      go_simp
    · intro listed a w1 hl hc
      have h19 : a.tmps[19]?.getD undef = .int .u8 (f.toNat : Int) := hc.dep hl 14 19 rfl (by kernel_rfl)
      refine does_value rfl rfl (.int .u8 e2) w1 ?_ (Below.refl _ _) rfl
      clear hc hl
      go_simp
    · intro listed a w1 hl hc
      have h20 : a.tmps[20]?.getD undef = .int .u8 e2 := hc.dep hl 15 20 rfl (by kernel_rfl)
      refine does_value rfl rfl (.bool b2) w1 ?_ (Below.refl _ _) rfl
      clear hc hl
      go_simp
    · intro listed a w1 hl hc
      have h1 : a.tmps[1]?.getD undef = .pointer (some ⟨w.heap.size, 0, none⟩) := (hc.was 1 (by kernel_rfl)).trans rfl
      refine does_value rfl rfl (.pointer (some ⟨w.heap.size, 1, none⟩)) w1 ?_ (Below.refl _ _) rfl
      clear hc hl
      go_simp
    · intro listed a w1 hl hc
      have h22 : a.tmps[22]?.getD undef = .pointer (some ⟨w.heap.size, 1, none⟩) := hc.dep hl 17 22 rfl (by kernel_rfl)
      have kb := K0.out.below hc.g K0.out.lt
      have x1 : w1.cell? ⟨w.heap.size, 1, none⟩ = some (.int .u8 (f.toNat : Int)) := kb.cell 1
      clear kb
      refine does_value rfl rfl (.int .u8 (f.toNat : Int)) w1 ?_ (Below.refl _ _) rfl
      clear hc hl
      go_simp
    · intro listed a w1 hl hc
      have h23 : a.tmps[23]?.getD undef = .int .u8 (f.toNat : Int) := hc.dep hl 18 23 rfl (by kernel_rfl)
      refine does_value rfl rfl (.int .u8 e1) w1 ?_ (Below.refl _ _) rfl
      clear hc hl
      go_simp
    · intro listed a w1 hl hc
      have h24 : a.tmps[24]?.getD undef = .int .u8 e1 := hc.dep hl 19 24 rfl (by kernel_rfl)
      refine does_value rfl rfl (.bool b1) w1 ?_ (Below.refl _ _) rfl
      clear hc hl
      go_simp
    · intro listed a w1 hl hc
      have h7 : a.tmps[7]?.getD undef = .int .u32 (n0 : Int) := hc.dep hl 2 7 rfl (by kernel_rfl)
      have h10 : a.tmps[10]?.getD undef = .int .u16 (n4 : Int) := hc.dep hl 5 10 rfl (by kernel_rfl)
      have h13 : a.tmps[13]?.getD undef = .int .u16 (n6 : Int) := hc.dep hl 8 13 rfl (by kernel_rfl)
      have h17 : a.tmps[17]?.getD undef = .bool b4 := hc.dep hl 12 17 rfl (by kernel_rfl)
      have h21 : a.tmps[21]?.getD undef = .bool b2 := hc.dep hl 16 21 rfl (by kernel_rfl)
      have h25 : a.tmps[25]?.getD undef = .bool b1 := hc.dep hl 20 25 rfl (by kernel_rfl)
      refine does_value rfl rfl (.agg #[.int .u32 (n0 : Int), .int .u16 (n4 : Int), .int .u16 (n6 : Int), .bool b4, .bool b2, .bool b1, .slice none 0 0]) w1 ?_ (Below.refl _ _) rfl
      clear hc hl
      go_simp
    · intro listed a w1 hl hc
      refine does_value rfl rfl (.pointer (some ⟨w1.heap.size, 0, none⟩)) (w1.alloc (.cells #[.int .u32 0, .int .u16 0, .int .u16 0, .bool false, .bool false, .bool false, .slice none 0 0] 26)) ?_ (below_new w1 _) ⟨_, rfl, hc.g.size, Blk.new _ _ _⟩
      clear hc hl
      go_simp
  intro w2 hb2
  rintro _ rfl _ rfl _ rfl _ rfl _ rfl _ rfl _ rfl _ rfl _ rfl _ rfl _ rfl _ rfl _ rfl _ rfl _ rfl _ rfl _ rfl _ rfl _ rfl _ rfl _ rfl _ rfl _ ⟨g4, rfl, hg4, hb4⟩
  simp only [Thus, List.reverse_cons, List.reverse_nil, List.nil_append, List.cons_append, List.drop, List.take, lay]
  go_frame
  have hl0 := K0.out.lt
  have hl1 := K1.out.lt
  have HG := Lib.hid hb4
  have hge : w.heap.size ≤ g4 := by omega
  have y0 := HG.out.cell 0
  have y1 := HG.out.cell 1
  have y2 := HG.out.cell 2
  have y3 := HG.out.cell 3
  have y4 := HG.out.cell 4
  have y5 := HG.out.cell 5
  have y6 := HG.out.cell 6
  have z0 := HG.out.frozen 0
  have z1 := HG.out.frozen 1
  have z2 := HG.out.frozen 2
  have z3 := HG.out.frozen 3
  have z4 := HG.out.frozen 4
  have z5 := HG.out.frozen 5
  have z6 := HG.out.frozen 6
  have G3 := Lib.hid (((((((hb4.set_ 0 (.int .u32 (n0 : Int))).set_ 1 (.int .u16 (n4 : Int))).set_ 2 (.int .u16 (n6 : Int))).set_ 3 (.bool b4)).set_ 4 (.bool b2)).set_ 5 (.bool b1)).set_ 6 (.slice none 0 0))
  have K0b := Lib.hid ((((((((K0.out.below hb2 K0.out.lt).far (p := ⟨g4, 0, none⟩) (show w.heap.size ≠ g4 by omega) (.int .u32 (n0 : Int))).far (p := ⟨g4, 1, none⟩) (show w.heap.size ≠ g4 by omega) (.int .u16 (n4 : Int))).far (p := ⟨g4, 2, none⟩) (show w.heap.size ≠ g4 by omega) (.int .u16 (n6 : Int))).far (p := ⟨g4, 3, none⟩) (show w.heap.size ≠ g4 by omega) (.bool b4)).far (p := ⟨g4, 4, none⟩) (show w.heap.size ≠ g4 by omega) (.bool b2)).far (p := ⟨g4, 5, none⟩) (show w.heap.size ≠ g4 by omega) (.bool b1)).far (p := ⟨g4, 6, none⟩) (show w.heap.size ≠ g4 by omega) (.slice none 0 0))
  have K1b := Lib.hid ((((((((K1.out.below hb2 K1.out.lt).far (p := ⟨g4, 0, none⟩) (show w.heap.size + 1 ≠ g4 by omega) (.int .u32 (n0 : Int))).far (p := ⟨g4, 1, none⟩) (show w.heap.size + 1 ≠ g4 by omega) (.int .u16 (n4 : Int))).far (p := ⟨g4, 2, none⟩) (show w.heap.size + 1 ≠ g4 by omega) (.int .u16 (n6 : Int))).far (p := ⟨g4, 3, none⟩) (show w.heap.size + 1 ≠ g4 by omega) (.bool b4)).far (p := ⟨g4, 4, none⟩) (show w.heap.size + 1 ≠ g4 by omega) (.bool b2)).far (p := ⟨g4, 5, none⟩) (show w.heap.size + 1 ≠ g4 by omega) (.bool b1)).far (p := ⟨g4, 6, none⟩) (show w.heap.size + 1 ≠ g4 by omega) (.slice none 0 0))
  have B3 := Lib.hid ((((((((below_then B0.out (Nat.le_refl _) hb2).setCell (p := ⟨g4, 0, none⟩) (show w.heap.size ≤ g4 by omega) (.int .u32 (n0 : Int))).setCell (p := ⟨g4, 1, none⟩) (show w.heap.size ≤ g4 by omega) (.int .u16 (n4 : Int))).setCell (p := ⟨g4, 2, none⟩) (show w.heap.size ≤ g4 by omega) (.int .u16 (n6 : Int))).setCell (p := ⟨g4, 3, none⟩) (show w.heap.size ≤ g4 by omega) (.bool b4)).setCell (p := ⟨g4, 4, none⟩) (show w.heap.size ≤ g4 by omega) (.bool b2)).setCell (p := ⟨g4, 5, none⟩) (show w.heap.size ≤ g4 by omega) (.bool b1)).setCell (p := ⟨g4, 6, none⟩) (show w.heap.size ≤ g4 by omega) (.slice none 0 0))
  have hgl : g4 < w2.heap.size := hb4.lt
  clear hb2 hb4 K0 K1 B0 HG
  have x0 := K0b.out.cell 0
  have x1 := K0b.out.cell 1
  have x2 := K0b.out.cell 2
  go_wp2_with fail
  generalize (((((((w2.setCell ⟨g4, 0, none⟩ (.int .u32 (n0 : Int))).setCell ⟨g4, 1, none⟩ (.int .u16 (n4 : Int))).setCell ⟨g4, 2, none⟩ (.int .u16 (n6 : Int))).setCell ⟨g4, 3, none⟩ (.bool b4)).setCell ⟨g4, 4, none⟩ (.bool b2)).setCell ⟨g4, 5, none⟩ (.bool b1)).setCell ⟨g4, 6, none⟩ (.slice none 0 0)) = v3 at G3 K0b K1b B3 ⊢
  clear hgl y0 z0 y1 z1 y2 z2 y3 z3 y4 z4 y5 z5 y6 z6
  refine (HCUT.out v3 B3.out).mono ?_
  rintro e w4 ⟨Ax, cx, rfl, ho, hb⟩
  have O4 := Lib.hid (ho.more B3.out.size)
  have G4 := Lib.hid (G3.out.below hb G3.out.lt)
  have K0c := Lib.hid (K0b.out.below hb K0b.out.lt)
  have K1c := Lib.hid (K1b.out.below hb K1b.out.lt)
  have B4 := Lib.hid (below_then B3.out (Nat.le_refl _) hb)
  clear hb G3 K0b K1b B3 x0 x1 x2 ho
  have y0 := G4.out.cell 0
  have y1 := G4.out.cell 1
  have y2 := G4.out.cell 2
  have y3 := G4.out.cell 3
  have y4 := G4.out.cell 4
  have y5 := G4.out.cell 5
  have y6 := G4.out.cell 6
  have z0 := G4.out.frozen 0
  have z1 := G4.out.frozen 1
  have z2 := G4.out.frozen 2
  have z3 := G4.out.frozen 3
  have z4 := G4.out.frozen 4
  have z5 := G4.out.frozen 5
  have z6 := G4.out.frozen 6
  have x0 := K0c.out.cell 0
  have x1 := K0c.out.cell 1
  have x2 := K0c.out.cell 2
  have G5 := Lib.hid (G4.out.set_ 6 (.slice Ax (n - 12 : Nat) cx))
  have K1d := Lib.hid (K1c.out.far (p := ⟨g4, 6, none⟩) (show w.heap.size + 1 ≠ g4 by omega) (.slice Ax (n - 12 : Nat) cx))
  have B5 := Lib.hid (B4.out.setCell (p := ⟨g4, 6, none⟩) (show w.heap.size ≤ g4 by omega) (.slice Ax (n - 12 : Nat) cx))
  have O5 := Lib.hid (O4.out.setBlk G4.out (by decide) 6 (.slice Ax (n - 12 : Nat) cx))
  have hgl : g4 < w4.heap.size := G4.out.lt
  have hne0 : ¬ w.heap.size = g4 := by omega
  clear G4 K0c K1c B4
  go_wp2_with fail
  generalize w4.setCell ⟨g4, 6, none⟩ (.slice Ax (n - 12 : Nat) cx) = v5 at G5 K1d B5 O5 ⊢
  clear hgl y0 z0 y1 z1 y2 z2 y3 z3 y4 z4 y5 z5 y6 z6
  refine (HCK.out v5 Ax cx B5.out O5.out).mono ?_
  rintro e w6 ⟨rfl, hb⟩
  have K1e := Lib.hid (K1d.out.below hb K1d.out.lt)
  have B6 := Lib.hid (below_then B5.out (Nat.le_refl _) hb)
  have O6 := Lib.hid (O5.out.below hb (Nat.le_refl _))
  clear hb K1d B5
  have y0 := K1e.out.cell 0
  have y1 := K1e.out.cell 1
  have y2 := K1e.out.cell 2
  have y3 := K1e.out.cell 3
  have y4 := K1e.out.cell 4
  have y5 := K1e.out.cell 5
  have y6 := K1e.out.cell 6
  have z0 := K1e.out.frozen 0
  have z1 := K1e.out.frozen 1
  have z2 := K1e.out.frozen 2
  have z3 := K1e.out.frozen 3
  have z4 := K1e.out.frozen 4
  have z5 := K1e.out.frozen 5
  have z6 := K1e.out.frozen 6
  go_wp2_with fail
  have H3 := (((((((K1e.out.set_ 0 (.int .u32 (n0 : Int))).set_ 1 (.int .u16 (n4 : Int))).set_ 2 (.int .u16 (n6 : Int))).set_ 3 (.bool b4)).set_ 4 (.bool b2)).set_ 5 (.bool b1)).set_ 6 (.slice Ax (n - 12 : Nat) cx))
  exact bodyPost_ret (v := .tuple #[.agg #[.int .u32 (n0 : Int), .int .u16 (n4 : Int), .int .u16 (n6 : Int), .bool b4, .bool b2, .bool b1, .slice Ax (n - 12 : Nat) cx], .int .i64 0]) (by simp [results, Try.results16, go_sem, H3.cell]) rfl ⟨Ax, n - 12, cx, rfl, (((((((O6.out.setBlk K1e.out (by decide) 0 (.int .u32 (n0 : Int))).setBlk (K1e.out.set_ 0 (.int .u32 (n0 : Int))) (by decide) 1 (.int .u16 (n4 : Int))).setBlk ((K1e.out.set_ 0 (.int .u32 (n0 : Int))).set_ 1 (.int .u16 (n4 : Int))) (by decide) 2 (.int .u16 (n6 : Int))).setBlk (((K1e.out.set_ 0 (.int .u32 (n0 : Int))).set_ 1 (.int .u16 (n4 : Int))).set_ 2 (.int .u16 (n6 : Int))) (by decide) 3 (.bool b4)).setBlk ((((K1e.out.set_ 0 (.int .u32 (n0 : Int))).set_ 1 (.int .u16 (n4 : Int))).set_ 2 (.int .u16 (n6 : Int))).set_ 3 (.bool b4)) (by decide) 4 (.bool b2)).setBlk (((((K1e.out.set_ 0 (.int .u32 (n0 : Int))).set_ 1 (.int .u16 (n4 : Int))).set_ 2 (.int .u16 (n6 : Int))).set_ 3 (.bool b4)).set_ 4 (.bool b2)) (by decide) 5 (.bool b1)).setBlk ((((((K1e.out.set_ 0 (.int .u32 (n0 : Int))).set_ 1 (.int .u16 (n4 : Int))).set_ 2 (.int .u16 (n6 : Int))).set_ 3 (.bool b4)).set_ 4 (.bool b2)).set_ 5 (.bool b1)) (by decide) 6 (.slice Ax (n - 12 : Nat) cx)), (((((((B6.out.setCell (p := ⟨w.heap.size + 1, 0, none⟩) (show w.heap.size ≤ w.heap.size + 1 by omega) (.int .u32 (n0 : Int))).setCell (p := ⟨w.heap.size + 1, 1, none⟩) (show w.heap.size ≤ w.heap.size + 1 by omega) (.int .u16 (n4 : Int))).setCell (p := ⟨w.heap.size + 1, 2, none⟩) (show w.heap.size ≤ w.heap.size + 1 by omega) (.int .u16 (n6 : Int))).setCell (p := ⟨w.heap.size + 1, 3, none⟩) (show w.heap.size ≤ w.heap.size + 1 by omega) (.bool b4)).setCell (p := ⟨w.heap.size + 1, 4, none⟩) (show w.heap.size ≤ w.heap.size + 1 by omega) (.bool b2)).setCell (p := ⟨w.heap.size + 1, 5, none⟩) (show w.heap.size ≤ w.heap.size + 1 by omega) (.bool b1)).setCell (p := ⟨w.heap.size + 1, 6, none⟩) (show w.heap.size ≤ w.heap.size + 1 by omega) (.slice Ax (n - 12 : Nat) cx))⟩
theorem getData_any (k f : UInt8) (A : Option Addr) (n c : Nat) (xs : List UInt8) (w : World) (hn : n ≤ 140737488355200) (hc : n ≤ c) (hcm : c ≤ maxLen) (hx : xs.length = n) (hr : Rd w w.heap.size A xs) : GetsD 16 #[.agg #[.int .u8 (k.toNat : Int), .int .u8 (f.toNat : Int), .slice A n c]] k f xs w := by
  by_cases h : 13 ≤ n
  · cases hok : okD k f xs
    · exact getData_no k f A n c xs w hn hc hcm hx hr h hok
    · exact getData_yes k f A n c xs w hn hc hcm hx hr h hok
  · exact getData_short k f A n c xs w hn hc hcm hx hr (by omega)
end Go.Proofs.Ytalgkokgaibloaa
