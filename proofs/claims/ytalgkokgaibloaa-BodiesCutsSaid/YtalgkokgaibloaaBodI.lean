/-
  Package bodies: GetInit.
-/
import Derived.Test.YtalgkokgaibloaaBodX
namespace Go.Proofs.Ytalgkokgaibloaa
open Go.RowKit
set_option linter.unusedVariables false

/-- What a Get of a beginning answers. -/
def GetsI (F : FuncId) (args : Array Value) (k f : UInt8) (xs : List UInt8) (w : World) : Prop :=
  Calls Try.prog F args w fun e w' => ∃ A m c, e = .returned (.tuple #[vI (ansI k f xs) A m c, .int .i64 (errOf (okI k f xs))]) ∧ Own8 w' 5 w.heap.size A m c (ansI k f xs).cookie ∧ Below w.heap.size w w'
theorem nat_ne {a : Nat} (h : a ≠ 0) : ((a : Int) == 0) = false := by rw [beq_eq_false_iff_ne]; omega

set_option maxHeartbeats 2000000 in
theorem isInit_any (k : UInt8) (tag rwnd out in_ tsn : Nat) (Ax : Option Addr) (nx cx : Nat) (w : World) :
    Calls Try.prog 64 #[.int .u8 (k.toNat : Int), .agg #[.int .u32 (tag : Int), .int .u32 (rwnd : Int), .int .u16 (out : Int), .int .u16 (in_ : Int), .int .u32 (tsn : Int), .slice Ax nx cx]] w fun e w' => e = .returned (.bool (decide (tag ≠ 0 ∧ out ≠ 0 ∧ in_ ≠ 0 ∧ (k = 1 ∨ (k = 2 ∧ 0 < nx))))) ∧ Below w.heap.size w w' := by
  have HB := Lib.hid (below_new w (.cells #[.int .u32 (tag : Int), .int .u32 (rwnd : Int), .int .u16 (out : Int), .int .u16 (in_ : Int), .int .u32 (tsn : Int), .slice Ax nx cx] 43))
  by_cases h1 : tag = 0
  · subst h1
    have hd : decide ((0 : Nat) ≠ 0 ∧ out ≠ 0 ∧ in_ ≠ 0 ∧ (k = 1 ∨ (k = 2 ∧ 0 < nx))) = false := by simp
    rw [hd]
    clear hd
    go_enter Try.func64, Try.ntmps64
    go_wp2_with fail
    go_ret
    exact ⟨rfl, HB.out⟩
  · have n1 := nat_ne h1
    by_cases h2 : out = 0
    · subst h2
      have hd : decide (tag ≠ 0 ∧ (0 : Nat) ≠ 0 ∧ in_ ≠ 0 ∧ (k = 1 ∨ (k = 2 ∧ 0 < nx))) = false := by simp
      rw [hd]
      clear hd h1
      go_enter Try.func64, Try.ntmps64
      go_wp2_with fail
      go_ret
      exact ⟨rfl, HB.out⟩
    · have n2 := nat_ne h2
      by_cases h3 : in_ = 0
      · subst h3
        have hd : decide (tag ≠ 0 ∧ out ≠ 0 ∧ (0 : Nat) ≠ 0 ∧ (k = 1 ∨ (k = 2 ∧ 0 < nx))) = false := by simp
        rw [hd]
        clear hd h1 h2
        go_enter Try.func64, Try.ntmps64
        go_wp2_with fail
        go_ret
        exact ⟨rfl, HB.out⟩
      · have n3 := nat_ne h3
        by_cases h4 : k = 1
        · subst h4
          have hd : decide (tag ≠ 0 ∧ out ≠ 0 ∧ in_ ≠ 0 ∧ ((1 : UInt8) = 1 ∨ ((1 : UInt8) = 2 ∧ 0 < nx))) = true := by simp [h1, h2, h3]
          rw [hd]
          clear hd h1 h2 h3
          go_enter Try.func64, Try.ntmps64
          go_wp2_with fail
          go_ret
          exact ⟨rfl, HB.out⟩
        · have n4 : ((k.toNat : Int) == 1) = false := kind_ne (m := 1) h4
          by_cases h5 : k = 2
          · subst h5
            have hd : decide (tag ≠ 0 ∧ out ≠ 0 ∧ in_ ≠ 0 ∧ ((2 : UInt8) = 1 ∨ ((2 : UInt8) = 2 ∧ 0 < nx))) = decide (0 < nx) := by simp [h1, h2, h3]
            rw [hd]
            clear hd h1 h2 h3 h4
            go_enter Try.func64, Try.ntmps64
            go_wp2_with fail
            go_ret
            exact ⟨by simp, HB.out⟩
          · have n5 : ((k.toNat : Int) == 2) = false := kind_ne (m := 2) h5
            have hd : decide (tag ≠ 0 ∧ out ≠ 0 ∧ in_ ≠ 0 ∧ (k = 1 ∨ (k = 2 ∧ 0 < nx))) = false := by simp [h4, h5]
            rw [hd]
            clear hd h1 h2 h3 h4 h5
            go_enter Try.func64, Try.ntmps64
            go_wp2_with fail
            go_ret
            exact ⟨rfl, HB.out⟩

set_option maxRecDepth 100000 in
set_option maxHeartbeats 4000000 in
theorem getInit_other_off (k f : UInt8) (A : Option Addr) (n c : Nat) (xs : List UInt8) (w : World) (hn : n ≤ 140737488355200) (hc : n ≤ c) (hcm : c ≤ maxLen) (hx : xs.length = n) (hr : Rd w w.heap.size A xs) (hk : k ≠ 2) (hv : validI k (PI k xs) = false) :
    GetsI 24 #[.agg #[.int .u8 (k.toNat : Int), .int .u8 (f.toNat : Int), .slice A n c]] k f xs w := by
  have hz := zero_init
  have hcm' := hcm
  unfold maxLen at hcm'
  have hi0b : numO xs 0 4 < 4294967296 := numO_lt xs 0 4
  have Hi0 : Hid (∀ W, Below w.heap.size w W → Calls Try.prog 52 #[.slice A n c, .int .i64 0] W fun e w' => e = .returned (.int .u32 (numO xs 0 4)) ∧ Below W.heap.size W w') := Lib.hid fun W hW => (word_any A n c 0 xs W (by omega) (by omega) hx ((hr.below hW).more hW.size)).mono fun e w' ⟨he, hw⟩ => ⟨he, hw ▸ Below.refl _ _⟩
  have hi4b : numO xs 4 4 < 4294967296 := numO_lt xs 4 4
  have Hi4 : Hid (∀ W, Below w.heap.size w W → Calls Try.prog 52 #[.slice A n c, .int .i64 4] W fun e w' => e = .returned (.int .u32 (numO xs 4 4)) ∧ Below W.heap.size W w') := Lib.hid fun W hW => (word_any A n c 4 xs W (by omega) (by omega) hx ((hr.below hW).more hW.size)).mono fun e w' ⟨he, hw⟩ => ⟨he, hw ▸ Below.refl _ _⟩
  have hi8b : numO xs 8 2 < 65536 := numO_lt xs 8 2
  have Hi8 : Hid (∀ W, Below w.heap.size w W → Calls Try.prog 53 #[.slice A n c, .int .i64 8] W fun e w' => e = .returned (.int .u16 (numO xs 8 2)) ∧ Below W.heap.size W w') := Lib.hid fun W hW => (half_any A n c 8 xs W (by omega) (by omega) hx ((hr.below hW).more hW.size)).mono fun e w' ⟨he, hw⟩ => ⟨he, hw ▸ Below.refl _ _⟩
  have hi10b : numO xs 10 2 < 65536 := numO_lt xs 10 2
  have Hi10 : Hid (∀ W, Below w.heap.size w W → Calls Try.prog 53 #[.slice A n c, .int .i64 10] W fun e w' => e = .returned (.int .u16 (numO xs 10 2)) ∧ Below W.heap.size W w') := Lib.hid fun W hW => (half_any A n c 10 xs W (by omega) (by omega) hx ((hr.below hW).more hW.size)).mono fun e w' ⟨he, hw⟩ => ⟨he, hw ▸ Below.refl _ _⟩
  have hi12b : numO xs 12 4 < 4294967296 := numO_lt xs 12 4
  have Hi12 : Hid (∀ W, Below w.heap.size w W → Calls Try.prog 52 #[.slice A n c, .int .i64 12] W fun e w' => e = .returned (.int .u32 (numO xs 12 4)) ∧ Below W.heap.size W w') := Lib.hid fun W hW => (word_any A n c 12 xs W (by omega) (by omega) hx ((hr.below hW).more hW.size)).mono fun e w' ⟨he, hw⟩ => ⟨he, hw ▸ Below.refl _ _⟩
  have hcko : cookieOf k xs = [] := by unfold cookieOf; rw [if_neg (fun h => hk h.1)]
  have hpi : PI k xs = ⟨numO xs 0 4, numO xs 4 4, numO xs 8 2, numO xs 10 2, numO xs 12 4, []⟩ := by unfold PI; rw [hcko]
  have hok : okI k f xs = false := by unfold okI; rw [hv]; rfl
  have hra : ansI k f xs = noI := by unfold ansI; rw [hok]; rfl
  unfold GetsI
  rw [hok, hra]
  rw [hpi] at hv
  have HII : Hid (∀ W, Calls Try.prog 64 #[.int .u8 (k.toNat : Int), .agg #[.int .u32 (numO xs 0 4 : Int), .int .u32 (numO xs 4 4 : Int), .int .u16 (numO xs 8 2 : Int), .int .u16 (numO xs 10 2 : Int), .int .u32 (numO xs 12 4 : Int), .slice none 0 0]] W fun e w' => e = .returned (.bool false) ∧ Below W.heap.size W w') := Lib.hid fun W => by
    have := isInit_any k (numO xs 0 4) (numO xs 4 4) (numO xs 8 2) (numO xs 10 2) (numO xs 12 4) none 0 0 W
    unfold validI at hv
    rw [List.length_nil] at hv
    rw [hv] at this
    exact this
  have HCK : Hid (∀ W, Below w.heap.size w W → Blk W w.heap.size 28 #[.int .u8 (k.toNat : Int), .int .u8 (f.toNat : Int), .slice A n c] → Calls Try.prog 63 #[.agg #[.int .u8 (k.toNat : Int), .int .u8 (f.toNat : Int), .slice A n c], .agg #[.int .u32 (numO xs 0 4 : Int), .int .u32 (numO xs 4 4 : Int), .int .u16 (numO xs 8 2 : Int), .int .u16 (numO xs 10 2 : Int), .int .u32 (numO xs 12 4 : Int), .slice none 0 0], .bool false, .func (.func 62) #[] #[.pointer (some ⟨w.heap.size, 0, none⟩)]] W fun e w' => e = .returned (.tuple #[.agg #[.int .u32 0, .int .u32 0, .int .u16 0, .int .u16 0, .int .u32 0, .slice none 0 0], .int .i64 7]) ∧ Below W.heap.size W w') := Lib.hid fun W hW hB => checkedI_off k f A n c (numO xs 0 4) (numO xs 4 4) (numO xs 8 2) (numO xs 10 2) (numO xs 12 4) none 0 0 w.heap.size W
  obtain ⟨i0, ei0⟩ : ∃ i0, i0 = numO xs 0 4 := ⟨_, rfl⟩
  rw [← ei0] at Hi0 hi0b HCK HII
  obtain ⟨i4, ei4⟩ : ∃ i4, i4 = numO xs 4 4 := ⟨_, rfl⟩
  rw [← ei4] at Hi4 hi4b HCK HII
  obtain ⟨i8, ei8⟩ : ∃ i8, i8 = numO xs 8 2 := ⟨_, rfl⟩
  rw [← ei8] at Hi8 hi8b HCK HII
  obtain ⟨i10, ei10⟩ : ∃ i10, i10 = numO xs 10 2 := ⟨_, rfl⟩
  rw [← ei10] at Hi10 hi10b HCK HII
  obtain ⟨i12, ei12⟩ : ∃ i12, i12 = numO xs 12 4 := ⟨_, rfl⟩
  rw [← ei12] at Hi12 hi12b HCK HII
  have hk2 : ((k.toNat : Int) == 2) = false := kind_ne (m := 2) hk
  clear hx hr hra hok hv hcko hpi hk ei0 ei4 ei8 ei10 ei12
  have hmf : ∀ (fn : Fn) (first cap : Array Value) (w : World), (Instr.makeFunc fn first cap).run Try.prog w = .ok (.func fn first cap) w := fun _ _ _ _ => rfl
  have b0 : Blk (w.alloc (.cells #[.int .u8 (k.toNat : Int), .int .u8 (f.toNat : Int), .slice A n c] 28)) w.heap.size 28 #[.int .u8 (k.toNat : Int), .int .u8 (f.toNat : Int), .slice A n c] := Blk.new w 28 #[.int .u8 (k.toNat : Int), .int .u8 (f.toNat : Int), .slice A n c]
  have b1 : Blk ((w.alloc (.cells #[.int .u8 (k.toNat : Int), .int .u8 (f.toNat : Int), .slice A n c] 28)).alloc (.cells #[.int .u32 0, .int .u32 0, .int .u16 0, .int .u16 0, .int .u32 0, .slice none 0 0] 43)) (w.heap.size + 1) 43 #[.int .u32 0, .int .u32 0, .int .u16 0, .int .u16 0, .int .u32 0, .slice none 0 0] := by simpa using Blk.new (w.alloc (.cells #[.int .u8 (k.toNat : Int), .int .u8 (f.toNat : Int), .slice A n c] 28)) 43 #[.int .u32 0, .int .u32 0, .int .u16 0, .int .u16 0, .int .u32 0, .slice none 0 0]
  have K0 := Lib.hid (b0.alloc (.cells #[.int .u32 0, .int .u32 0, .int .u16 0, .int .u16 0, .int .u32 0, .slice none 0 0] 43))
  have K1 := Lib.hid b1
  have B0 : Hid (Below w.heap.size w ((w.alloc (.cells #[.int .u8 (k.toNat : Int), .int .u8 (f.toNat : Int), .slice A n c] 28)).alloc (.cells #[.int .u32 0, .int .u32 0, .int .u16 0, .int .u16 0, .int .u32 0, .slice none 0 0] 43))) := Lib.hid (Wr.below_ (((Wr.refl 5 w.heap.size w).alloc (.cells #[.int .u8 (k.toNat : Int), .int .u8 (f.toNat : Int), .slice A n c] 28)).alloc (.cells #[.int .u32 0, .int .u32 0, .int .u16 0, .int .u16 0, .int .u32 0, .slice none 0 0] 43)) (Nat.le_refl _))
  clear b0 b1
  go_enter Try.func24, Try.ntmps24
  rw [drawn_eq 1, drawn_eq 6]
  go_wp2_with fail
  generalize ((w.alloc (.cells #[.int .u8 (k.toNat : Int), .int .u8 (f.toNat : Int), .slice A n c] 28)).alloc (.cells #[.int .u32 0, .int .u32 0, .int .u16 0, .int .u16 0, .int .u32 0, .slice none 0 0] 43)) = v0 at K0 K1 B0 ⊢
  rw [← drawn_eq 1]
  refine wp_region_grow_tail 17 (by kernel_rfl) [(Is (.pointer (some ⟨w.heap.size, 2, none⟩))), (Is (.slice A n c)), (Is (.int .u32 (i0 : Int))), (Is (.pointer (some ⟨w.heap.size, 2, none⟩))), (Is (.slice A n c)), (Is (.int .u32 (i4 : Int))), (Is (.pointer (some ⟨w.heap.size, 2, none⟩))), (Is (.slice A n c)), (Is (.int .u16 (i8 : Int))), (Is (.pointer (some ⟨w.heap.size, 2, none⟩))), (Is (.slice A n c)), (Is (.int .u16 (i10 : Int))), (Is (.pointer (some ⟨w.heap.size, 2, none⟩))), (Is (.slice A n c)), (Is (.int .u32 (i12 : Int))), (Is (.agg #[.int .u32 (i0 : Int), .int .u32 (i4 : Int), .int .u16 (i8 : Int), .int .u16 (i10 : Int), .int .u32 (i12 : Int), .slice none 0 0])), (NewBlk v0.heap.size 43 #[.int .u32 0, .int .u32 0, .int .u16 0, .int .u16 0, .int .u32 0, .slice none 0 0])] rfl ?_ (by kernel_rfl) (by kernel_rfl) ?_ ?_
  · intro p hp
    simp only [List.mem_cons, List.not_mem_nil, or_false] at hp
    rcases hp with rfl | rfl | rfl | rfl | rfl | rfl | rfl | rfl | rfl | rfl | rfl | rfl | rfl | rfl | rfl | rfl | rfl
    · exact Lasts.is _
    · exact Lasts.is _
    · exact Lasts.is _
    · exact Lasts.is _
    · exact Lasts.is _
    · exact Lasts.is _
    · exact Lasts.is _
    · exact Lasts.is _
    · exact Lasts.is _
    · exact Lasts.is _
    · exact Lasts.is _
    · exact Lasts.is _
    · exact Lasts.is _
    · exact Lasts.is _
    · exact Lasts.is _
    · exact Lasts.is _
    · exact Lasts.newBlk _ _ _
  · refine ⟨?_, ?_, ?_, ?_, ?_, ?_, ?_, ?_, ?_, ?_, ?_, ?_, ?_, ?_, ?_, ?_, ?_, trivial⟩
    · intro listed a w1 hl hc
      have h1 : a.tmps[1]?.getD undef = .pointer (some ⟨w.heap.size, 0, none⟩) := (hc.was 1 (by kernel_rfl)).trans rfl
      refine does_value rfl rfl (.pointer (some ⟨w.heap.size, 2, none⟩)) w1 ?_ (Below.refl _ _) rfl
      clear hc hl
      go_simp
    · intro listed a w1 hl hc
      have h7 : a.tmps[7]?.getD undef = .pointer (some ⟨w.heap.size, 2, none⟩) := hc.dep hl 0 7 rfl (by kernel_rfl)
      have kb := K0.out.below hc.g K0.out.lt
      have x2 : w1.cell? ⟨w.heap.size, 2, none⟩ = some (.slice A n c) := kb.cell 2
      clear kb
      refine does_value rfl rfl (.slice A n c) w1 ?_ (Below.refl _ _) rfl
      clear hc hl
      go_simp
    · intro listed a w1 hl hc
      have h8 : a.tmps[8]?.getD undef = .slice A n c := hc.dep hl 1 8 rfl (by kernel_rfl)
      refine does_call rfl rfl 52 #[.slice A n c, .int .i64 0] ?_ ((Hi0.out w1 (B0.out.trans (hc.g.mono B0.out.size))).mono fun e w' ⟨he, hb⟩ => ⟨_, he, hb, rfl⟩)
      clear hc hl
      go_simp
    · intro listed a w1 hl hc
      have h1 : a.tmps[1]?.getD undef = .pointer (some ⟨w.heap.size, 0, none⟩) := (hc.was 1 (by kernel_rfl)).trans rfl
      refine does_value rfl rfl (.pointer (some ⟨w.heap.size, 2, none⟩)) w1 ?_ (Below.refl _ _) rfl
      clear hc hl
      go_simp
    · intro listed a w1 hl hc
      have h10 : a.tmps[10]?.getD undef = .pointer (some ⟨w.heap.size, 2, none⟩) := hc.dep hl 3 10 rfl (by kernel_rfl)
      have kb := K0.out.below hc.g K0.out.lt
      have x2 : w1.cell? ⟨w.heap.size, 2, none⟩ = some (.slice A n c) := kb.cell 2
      clear kb
      refine does_value rfl rfl (.slice A n c) w1 ?_ (Below.refl _ _) rfl
      clear hc hl
      go_simp
    · intro listed a w1 hl hc
      have h11 : a.tmps[11]?.getD undef = .slice A n c := hc.dep hl 4 11 rfl (by kernel_rfl)
      refine does_call rfl rfl 52 #[.slice A n c, .int .i64 4] ?_ ((Hi4.out w1 (B0.out.trans (hc.g.mono B0.out.size))).mono fun e w' ⟨he, hb⟩ => ⟨_, he, hb, rfl⟩)
      clear hc hl
      go_simp
    · intro listed a w1 hl hc
      have h1 : a.tmps[1]?.getD undef = .pointer (some ⟨w.heap.size, 0, none⟩) := (hc.was 1 (by kernel_rfl)).trans rfl
      refine does_value rfl rfl (.pointer (some ⟨w.heap.size, 2, none⟩)) w1 ?_ (Below.refl _ _) rfl
      clear hc hl
      go_simp
    · intro listed a w1 hl hc
      have h13 : a.tmps[13]?.getD undef = .pointer (some ⟨w.heap.size, 2, none⟩) := hc.dep hl 6 13 rfl (by kernel_rfl)
      have kb := K0.out.below hc.g K0.out.lt
      have x2 : w1.cell? ⟨w.heap.size, 2, none⟩ = some (.slice A n c) := kb.cell 2
      clear kb
      refine does_value rfl rfl (.slice A n c) w1 ?_ (Below.refl _ _) rfl
      clear hc hl
      go_simp
    · intro listed a w1 hl hc
      have h14 : a.tmps[14]?.getD undef = .slice A n c := hc.dep hl 7 14 rfl (by kernel_rfl)
      refine does_call rfl rfl 53 #[.slice A n c, .int .i64 8] ?_ ((Hi8.out w1 (B0.out.trans (hc.g.mono B0.out.size))).mono fun e w' ⟨he, hb⟩ => ⟨_, he, hb, rfl⟩)
      clear hc hl
      go_simp
    · intro listed a w1 hl hc
      have h1 : a.tmps[1]?.getD undef = .pointer (some ⟨w.heap.size, 0, none⟩) := (hc.was 1 (by kernel_rfl)).trans rfl
      refine does_value rfl rfl (.pointer (some ⟨w.heap.size, 2, none⟩)) w1 ?_ (Below.refl _ _) rfl
      clear hc hl
      go_simp
    · intro listed a w1 hl hc
      have h16 : a.tmps[16]?.getD undef = .pointer (some ⟨w.heap.size, 2, none⟩) := hc.dep hl 9 16 rfl (by kernel_rfl)
      have kb := K0.out.below hc.g K0.out.lt
      have x2 : w1.cell? ⟨w.heap.size, 2, none⟩ = some (.slice A n c) := kb.cell 2
      clear kb
      refine does_value rfl rfl (.slice A n c) w1 ?_ (Below.refl _ _) rfl
      clear hc hl
      go_simp
    · intro listed a w1 hl hc
      have h17 : a.tmps[17]?.getD undef = .slice A n c := hc.dep hl 10 17 rfl (by kernel_rfl)
      refine does_call rfl rfl 53 #[.slice A n c, .int .i64 10] ?_ ((Hi10.out w1 (B0.out.trans (hc.g.mono B0.out.size))).mono fun e w' ⟨he, hb⟩ => ⟨_, he, hb, rfl⟩)
      clear hc hl
      go_simp
    · intro listed a w1 hl hc
      have h1 : a.tmps[1]?.getD undef = .pointer (some ⟨w.heap.size, 0, none⟩) := (hc.was 1 (by kernel_rfl)).trans rfl
      refine does_value rfl rfl (.pointer (some ⟨w.heap.size, 2, none⟩)) w1 ?_ (Below.refl _ _) rfl
      clear hc hl
      go_simp
    · intro listed a w1 hl hc
      have h19 : a.tmps[19]?.getD undef = .pointer (some ⟨w.heap.size, 2, none⟩) := hc.dep hl 12 19 rfl (by kernel_rfl)
      have kb := K0.out.below hc.g K0.out.lt
      have x2 : w1.cell? ⟨w.heap.size, 2, none⟩ = some (.slice A n c) := kb.cell 2
      clear kb
      refine does_value rfl rfl (.slice A n c) w1 ?_ (Below.refl _ _) rfl
      clear hc hl
      go_simp
    · intro listed a w1 hl hc
      have h20 : a.tmps[20]?.getD undef = .slice A n c := hc.dep hl 13 20 rfl (by kernel_rfl)
      refine does_call rfl rfl 52 #[.slice A n c, .int .i64 12] ?_ ((Hi12.out w1 (B0.out.trans (hc.g.mono B0.out.size))).mono fun e w' ⟨he, hb⟩ => ⟨_, he, hb, rfl⟩)
      clear hc hl
      go_simp
    · intro listed a w1 hl hc
      have h9 : a.tmps[9]?.getD undef = .int .u32 (i0 : Int) := hc.dep hl 2 9 rfl (by kernel_rfl)
      have h12 : a.tmps[12]?.getD undef = .int .u32 (i4 : Int) := hc.dep hl 5 12 rfl (by kernel_rfl)
      have h15 : a.tmps[15]?.getD undef = .int .u16 (i8 : Int) := hc.dep hl 8 15 rfl (by kernel_rfl)
      have h18 : a.tmps[18]?.getD undef = .int .u16 (i10 : Int) := hc.dep hl 11 18 rfl (by kernel_rfl)
      have h21 : a.tmps[21]?.getD undef = .int .u32 (i12 : Int) := hc.dep hl 14 21 rfl (by kernel_rfl)
      refine does_value rfl rfl (.agg #[.int .u32 (i0 : Int), .int .u32 (i4 : Int), .int .u16 (i8 : Int), .int .u16 (i10 : Int), .int .u32 (i12 : Int), .slice none 0 0]) w1 ?_ (Below.refl _ _) rfl
      clear hc hl
      go_simp
    · intro listed a w1 hl hc
      refine does_value rfl rfl (.pointer (some ⟨w1.heap.size, 0, none⟩)) (w1.alloc (.cells #[.int .u32 0, .int .u32 0, .int .u16 0, .int .u16 0, .int .u32 0, .slice none 0 0] 43)) ?_ (below_new w1 _) ⟨_, rfl, hc.g.size, Blk.new _ _ _⟩
      clear hc hl
      go_simp
  intro w2 hb2
  rintro _ rfl _ rfl _ rfl _ rfl _ rfl _ rfl _ rfl _ rfl _ rfl _ rfl _ rfl _ rfl _ rfl _ rfl _ rfl _ rfl _ ⟨g4, rfl, hg4, hb4⟩
  simp only [Thus, List.reverse_cons, List.reverse_nil, List.nil_append, List.cons_append, List.drop, List.take, lay]
  go_frame
  have hl0 := K0.out.lt
  have hl1 := K1.out.lt
  have HG := Lib.hid hb4
  have hge : w.heap.size ≤ g4 := by omega
  have y0 := HG.out.cell 0
  have y1 := HG.out.cell 1
  have y2 := HG.out.cell 2
  have y3 := HG.out.cell 3
  have y4 := HG.out.cell 4
  have y5 := HG.out.cell 5
  have z0 := HG.out.frozen 0
  have z1 := HG.out.frozen 1
  have z2 := HG.out.frozen 2
  have z3 := HG.out.frozen 3
  have z4 := HG.out.frozen 4
  have z5 := HG.out.frozen 5
  have G3 : Hid (Blk ((((((w2.setCell ⟨g4, 0, none⟩ (.int .u32 (i0 : Int))).setCell ⟨g4, 1, none⟩ (.int .u32 (i4 : Int))).setCell ⟨g4, 2, none⟩ (.int .u16 (i8 : Int))).setCell ⟨g4, 3, none⟩ (.int .u16 (i10 : Int))).setCell ⟨g4, 4, none⟩ (.int .u32 (i12 : Int))).setCell ⟨g4, 5, none⟩ (.slice none 0 0)) g4 43 #[.int .u32 (i0 : Int), .int .u32 (i4 : Int), .int .u16 (i8 : Int), .int .u16 (i10 : Int), .int .u32 (i12 : Int), .slice none 0 0]) := Lib.hid ((((((hb4.set_ 0 (.int .u32 (i0 : Int))).set_ 1 (.int .u32 (i4 : Int))).set_ 2 (.int .u16 (i8 : Int))).set_ 3 (.int .u16 (i10 : Int))).set_ 4 (.int .u32 (i12 : Int))).set_ 5 (.slice none 0 0))
  have K0b := Lib.hid (((((((K0.out.below hb2 K0.out.lt).far (p := ⟨g4, 0, none⟩) (show w.heap.size ≠ g4 by omega) (.int .u32 (i0 : Int))).far (p := ⟨g4, 1, none⟩) (show w.heap.size ≠ g4 by omega) (.int .u32 (i4 : Int))).far (p := ⟨g4, 2, none⟩) (show w.heap.size ≠ g4 by omega) (.int .u16 (i8 : Int))).far (p := ⟨g4, 3, none⟩) (show w.heap.size ≠ g4 by omega) (.int .u16 (i10 : Int))).far (p := ⟨g4, 4, none⟩) (show w.heap.size ≠ g4 by omega) (.int .u32 (i12 : Int))).far (p := ⟨g4, 5, none⟩) (show w.heap.size ≠ g4 by omega) (.slice none 0 0))
  have K1b := Lib.hid (((((((K1.out.below hb2 K1.out.lt).far (p := ⟨g4, 0, none⟩) (show w.heap.size + 1 ≠ g4 by omega) (.int .u32 (i0 : Int))).far (p := ⟨g4, 1, none⟩) (show w.heap.size + 1 ≠ g4 by omega) (.int .u32 (i4 : Int))).far (p := ⟨g4, 2, none⟩) (show w.heap.size + 1 ≠ g4 by omega) (.int .u16 (i8 : Int))).far (p := ⟨g4, 3, none⟩) (show w.heap.size + 1 ≠ g4 by omega) (.int .u16 (i10 : Int))).far (p := ⟨g4, 4, none⟩) (show w.heap.size + 1 ≠ g4 by omega) (.int .u32 (i12 : Int))).far (p := ⟨g4, 5, none⟩) (show w.heap.size + 1 ≠ g4 by omega) (.slice none 0 0))
  have B3 := Lib.hid (((((((below_then B0.out (Nat.le_refl _) hb2).setCell (p := ⟨g4, 0, none⟩) (show w.heap.size ≤ g4 by omega) (.int .u32 (i0 : Int))).setCell (p := ⟨g4, 1, none⟩) (show w.heap.size ≤ g4 by omega) (.int .u32 (i4 : Int))).setCell (p := ⟨g4, 2, none⟩) (show w.heap.size ≤ g4 by omega) (.int .u16 (i8 : Int))).setCell (p := ⟨g4, 3, none⟩) (show w.heap.size ≤ g4 by omega) (.int .u16 (i10 : Int))).setCell (p := ⟨g4, 4, none⟩) (show w.heap.size ≤ g4 by omega) (.int .u32 (i12 : Int))).setCell (p := ⟨g4, 5, none⟩) (show w.heap.size ≤ g4 by omega) (.slice none 0 0))
  have hgl : g4 < w2.heap.size := hb4.lt
  clear hb2 hb4 K0 K1 B0 HG
  have x0 := K0b.out.cell 0
  have x1 := K0b.out.cell 1
  have x2 := K0b.out.cell 2
  go_wp2_with fail
  generalize ((((((w2.setCell ⟨g4, 0, none⟩ (.int .u32 (i0 : Int))).setCell ⟨g4, 1, none⟩ (.int .u32 (i4 : Int))).setCell ⟨g4, 2, none⟩ (.int .u16 (i8 : Int))).setCell ⟨g4, 3, none⟩ (.int .u16 (i10 : Int))).setCell ⟨g4, 4, none⟩ (.int .u32 (i12 : Int))).setCell ⟨g4, 5, none⟩ (.slice none 0 0)) = v3 at G3 K0b K1b B3 ⊢
  clear hgl y0 z0 y1 z1 y2 z2 y3 z3 y4 z4 y5 z5
  clear x0 x1 x2
  rw [← drawn_eq 6]
  refine wp_region_grow_tail 10 (by kernel_rfl) [(Is (.agg #[.int .u8 (k.toNat : Int), .int .u8 (f.toNat : Int), .slice A n c])), (Is (.agg #[.int .u32 (i0 : Int), .int .u32 (i4 : Int), .int .u16 (i8 : Int), .int .u16 (i10 : Int), .int .u32 (i12 : Int), .slice none 0 0])), (Is (.pointer (some ⟨w.heap.size, 0, none⟩))), (Is (.int .u8 (k.toNat : Int))), (Is (.agg #[.int .u32 (i0 : Int), .int .u32 (i4 : Int), .int .u16 (i8 : Int), .int .u16 (i10 : Int), .int .u32 (i12 : Int), .slice none 0 0])), (Is (.bool false)), (Is (.func (.func 62) #[] #[.pointer (some ⟨w.heap.size, 0, none⟩)])), (Is (.tuple #[.agg #[.int .u32 0, .int .u32 0, .int .u16 0, .int .u16 0, .int .u32 0, .slice none 0 0], .int .i64 7])), (Is (.agg #[.int .u32 0, .int .u32 0, .int .u16 0, .int .u16 0, .int .u32 0, .slice none 0 0])), (Is (.int .i64 7))] rfl ?_ (by kernel_rfl) (by kernel_rfl) ?_ ?_
  · intro p hp
    simp only [List.mem_cons, List.not_mem_nil, or_false] at hp
    rcases hp with rfl | rfl | rfl | rfl | rfl | rfl | rfl | rfl | rfl | rfl
    · exact Lasts.is _
    · exact Lasts.is _
    · exact Lasts.is _
    · exact Lasts.is _
    · exact Lasts.is _
    · exact Lasts.is _
    · exact Lasts.is _
    · exact Lasts.is _
    · exact Lasts.is _
    · exact Lasts.is _
  · refine ⟨?_, ?_, ?_, ?_, ?_, ?_, ?_, ?_, ?_, ?_, trivial⟩
    · intro listed a w1 hl hc
      have h1 : a.tmps[1]?.getD undef = .pointer (some ⟨w.heap.size, 0, none⟩) := (hc.was 1 (by kernel_rfl)).trans rfl
      have kb := K0b.out.below hc.g K0b.out.lt
      have x0 : w1.cell? ⟨w.heap.size, 0, none⟩ = some (.int .u8 (k.toNat : Int)) := kb.cell 0
      have x1 : w1.cell? ⟨w.heap.size, 1, none⟩ = some (.int .u8 (f.toNat : Int)) := kb.cell 1
      have x2 : w1.cell? ⟨w.heap.size, 2, none⟩ = some (.slice A n c) := kb.cell 2
      clear kb
      refine does_value rfl rfl (.agg #[.int .u8 (k.toNat : Int), .int .u8 (f.toNat : Int), .slice A n c]) w1 ?_ (Below.refl _ _) rfl
      clear hc hl
      go_simp
    · intro listed a w1 hl hc
      have h4 : a.tmps[4]?.getD undef = .pointer (some ⟨g4, 0, none⟩) := (hc.was 4 (by kernel_rfl)).trans rfl
      have kb := G3.out.below hc.g G3.out.lt
      have x0 : w1.cell? ⟨g4, 0, none⟩ = some (.int .u32 (i0 : Int)) := kb.cell 0
      have x1 : w1.cell? ⟨g4, 1, none⟩ = some (.int .u32 (i4 : Int)) := kb.cell 1
      have x2 : w1.cell? ⟨g4, 2, none⟩ = some (.int .u16 (i8 : Int)) := kb.cell 2
      have x3 : w1.cell? ⟨g4, 3, none⟩ = some (.int .u16 (i10 : Int)) := kb.cell 3
      have x4 : w1.cell? ⟨g4, 4, none⟩ = some (.int .u32 (i12 : Int)) := kb.cell 4
      have x5 : w1.cell? ⟨g4, 5, none⟩ = some (.slice none 0 0) := kb.cell 5
      clear kb
      refine does_value rfl rfl (.agg #[.int .u32 (i0 : Int), .int .u32 (i4 : Int), .int .u16 (i8 : Int), .int .u16 (i10 : Int), .int .u32 (i12 : Int), .slice none 0 0]) w1 ?_ (Below.refl _ _) rfl
      clear hc hl
      go_simp
    · intro listed a w1 hl hc
      have h1 : a.tmps[1]?.getD undef = .pointer (some ⟨w.heap.size, 0, none⟩) := (hc.was 1 (by kernel_rfl)).trans rfl
      refine does_value rfl rfl (.pointer (some ⟨w.heap.size, 0, none⟩)) w1 ?_ (Below.refl _ _) rfl
      clear hc hl
      go_simp
    · intro listed a w1 hl hc
      have h42 : a.tmps[42]?.getD undef = .pointer (some ⟨w.heap.size, 0, none⟩) := hc.dep hl 2 42 rfl (by kernel_rfl)
      have kb := K0b.out.below hc.g K0b.out.lt
      have x0 : w1.cell? ⟨w.heap.size, 0, none⟩ = some (.int .u8 (k.toNat : Int)) := kb.cell 0
      clear kb
      refine does_value rfl rfl (.int .u8 (k.toNat : Int)) w1 ?_ (Below.refl _ _) rfl
      clear hc hl
      go_simp
    · intro listed a w1 hl hc
      have h4 : a.tmps[4]?.getD undef = .pointer (some ⟨g4, 0, none⟩) := (hc.was 4 (by kernel_rfl)).trans rfl
      have kb := G3.out.below hc.g G3.out.lt
      have x0 : w1.cell? ⟨g4, 0, none⟩ = some (.int .u32 (i0 : Int)) := kb.cell 0
      have x1 : w1.cell? ⟨g4, 1, none⟩ = some (.int .u32 (i4 : Int)) := kb.cell 1
      have x2 : w1.cell? ⟨g4, 2, none⟩ = some (.int .u16 (i8 : Int)) := kb.cell 2
      have x3 : w1.cell? ⟨g4, 3, none⟩ = some (.int .u16 (i10 : Int)) := kb.cell 3
      have x4 : w1.cell? ⟨g4, 4, none⟩ = some (.int .u32 (i12 : Int)) := kb.cell 4
      have x5 : w1.cell? ⟨g4, 5, none⟩ = some (.slice none 0 0) := kb.cell 5
      clear kb
      refine does_value rfl rfl (.agg #[.int .u32 (i0 : Int), .int .u32 (i4 : Int), .int .u16 (i8 : Int), .int .u16 (i10 : Int), .int .u32 (i12 : Int), .slice none 0 0]) w1 ?_ (Below.refl _ _) rfl
      clear hc hl
      go_simp
    · intro listed a w1 hl hc
      have h43 : a.tmps[43]?.getD undef = .int .u8 (k.toNat : Int) := hc.dep hl 3 43 rfl (by kernel_rfl)
      have h44 : a.tmps[44]?.getD undef = .agg #[.int .u32 (i0 : Int), .int .u32 (i4 : Int), .int .u16 (i8 : Int), .int .u16 (i10 : Int), .int .u32 (i12 : Int), .slice none 0 0] := hc.dep hl 4 44 rfl (by kernel_rfl)
      refine does_call rfl rfl 64 #[.int .u8 (k.toNat : Int), .agg #[.int .u32 (i0 : Int), .int .u32 (i4 : Int), .int .u16 (i8 : Int), .int .u16 (i10 : Int), .int .u32 (i12 : Int), .slice none 0 0]] ?_ ((HII.out w1).mono fun e w' ⟨he, hb⟩ => ⟨_, he, hb, rfl⟩)
      clear hc hl
      go_simp
    · intro listed a w1 hl hc
      have h6 : a.tmps[6]?.getD undef = .func (.func 62) #[] #[.pointer (some ⟨w.heap.size, 0, none⟩)] := (hc.was 6 (by kernel_rfl)).trans rfl
      refine does_value rfl rfl (.func (.func 62) #[] #[.pointer (some ⟨w.heap.size, 0, none⟩)]) w1 ?_ (Below.refl _ _) rfl
      clear hc hl
      go_simp
    · intro listed a w1 hl hc
      have h40 : a.tmps[40]?.getD undef = .agg #[.int .u8 (k.toNat : Int), .int .u8 (f.toNat : Int), .slice A n c] := hc.dep hl 0 40 rfl (by kernel_rfl)
      have h41 : a.tmps[41]?.getD undef = .agg #[.int .u32 (i0 : Int), .int .u32 (i4 : Int), .int .u16 (i8 : Int), .int .u16 (i10 : Int), .int .u32 (i12 : Int), .slice none 0 0] := hc.dep hl 1 41 rfl (by kernel_rfl)
      have h45 : a.tmps[45]?.getD undef = .bool false := hc.dep hl 5 45 rfl (by kernel_rfl)
      have h46 : a.tmps[46]?.getD undef = .func (.func 62) #[] #[.pointer (some ⟨w.heap.size, 0, none⟩)] := hc.dep hl 6 46 rfl (by kernel_rfl)
      refine does_call rfl rfl 63 #[.agg #[.int .u8 (k.toNat : Int), .int .u8 (f.toNat : Int), .slice A n c], .agg #[.int .u32 (i0 : Int), .int .u32 (i4 : Int), .int .u16 (i8 : Int), .int .u16 (i10 : Int), .int .u32 (i12 : Int), .slice none 0 0], .bool false, .func (.func 62) #[] #[.pointer (some ⟨w.heap.size, 0, none⟩)]] ?_ ((HCK.out w1 (B3.out.trans (hc.g.mono B3.out.size)) (K0b.out.below hc.g K0b.out.lt)).mono fun e w' ⟨he, hb⟩ => ⟨_, he, hb, rfl⟩)
      clear hc hl
      go_simp
    · intro listed a w1 hl hc
      have h47 : a.tmps[47]?.getD undef = .tuple #[.agg #[.int .u32 0, .int .u32 0, .int .u16 0, .int .u16 0, .int .u32 0, .slice none 0 0], .int .i64 7] := hc.dep hl 7 47 rfl (by kernel_rfl)
      refine does_value rfl rfl (.agg #[.int .u32 0, .int .u32 0, .int .u16 0, .int .u16 0, .int .u32 0, .slice none 0 0]) w1 ?_ (Below.refl _ _) rfl
      clear hc hl
      go_simp
    · intro listed a w1 hl hc
      have h47 : a.tmps[47]?.getD undef = .tuple #[.agg #[.int .u32 0, .int .u32 0, .int .u16 0, .int .u16 0, .int .u32 0, .slice none 0 0], .int .i64 7] := hc.dep hl 7 47 rfl (by kernel_rfl)
      refine does_value rfl rfl (.int .i64 7) w1 ?_ (Below.refl _ _) rfl
      clear hc hl
      go_simp
  intro w2 hb2
  rintro _ rfl _ rfl _ rfl _ rfl _ rfl _ rfl _ rfl _ rfl _ rfl _ rfl
  simp only [Thus, List.reverse_cons, List.reverse_nil, List.nil_append, List.cons_append, List.drop, List.take, lay]
  go_frame
  have K1e := Lib.hid (K1b.out.below hb2 K1b.out.lt)
  have B6 := Lib.hid (below_then B3.out (Nat.le_refl _) hb2)
  clear hb2 K1b B3
  have y0 := K1e.out.cell 0
  have y1 := K1e.out.cell 1
  have y2 := K1e.out.cell 2
  have y3 := K1e.out.cell 3
  have y4 := K1e.out.cell 4
  have y5 := K1e.out.cell 5
  have z0 := K1e.out.frozen 0
  have z1 := K1e.out.frozen 1
  have z2 := K1e.out.frozen 2
  have z3 := K1e.out.frozen 3
  have z4 := K1e.out.frozen 4
  have z5 := K1e.out.frozen 5
  go_wp2_with fail
  have H3 := ((((((K1e.out.set_ 0 (.int .u32 0)).set_ 1 (.int .u32 0)).set_ 2 (.int .u16 0)).set_ 3 (.int .u16 0)).set_ 4 (.int .u32 0)).set_ 5 (.slice none 0 0))
  exact bodyPost_ret (v := .tuple #[.agg #[.int .u32 0, .int .u32 0, .int .u16 0, .int .u16 0, .int .u32 0, .slice none 0 0], .int .i64 7]) (by simp [results, Try.results24, go_sem, H3.cell]) rfl ⟨none, 0, 0, rfl, Own8.nil _ _ _, ((((((B6.out.setCell (p := ⟨w.heap.size + 1, 0, none⟩) (show w.heap.size ≤ w.heap.size + 1 by omega) (.int .u32 0)).setCell (p := ⟨w.heap.size + 1, 1, none⟩) (show w.heap.size ≤ w.heap.size + 1 by omega) (.int .u32 0)).setCell (p := ⟨w.heap.size + 1, 2, none⟩) (show w.heap.size ≤ w.heap.size + 1 by omega) (.int .u16 0)).setCell (p := ⟨w.heap.size + 1, 3, none⟩) (show w.heap.size ≤ w.heap.size + 1 by omega) (.int .u16 0)).setCell (p := ⟨w.heap.size + 1, 4, none⟩) (show w.heap.size ≤ w.heap.size + 1 by omega) (.int .u32 0)).setCell (p := ⟨w.heap.size + 1, 5, none⟩) (show w.heap.size ≤ w.heap.size + 1 by omega) (.slice none 0 0))⟩
set_option maxRecDepth 100000 in
set_option maxHeartbeats 4000000 in
theorem getInit_other_no (k f : UInt8) (A : Option Addr) (n c : Nat) (xs : List UInt8) (w : World) (hn : n ≤ 140737488355200) (hc : n ≤ c) (hcm : c ≤ maxLen) (hx : xs.length = n) (hr : Rd w w.heap.size A xs) (hk : k ≠ 2) (hv : validI k (PI k xs) = true) (hd : decide ((k : UInt8) = k ∧ f = 0 ∧ xs = bodyI k (PI k xs)) = false) :
    GetsI 24 #[.agg #[.int .u8 (k.toNat : Int), .int .u8 (f.toNat : Int), .slice A n c]] k f xs w := by
  have hz := zero_init
  have hcm' := hcm
  unfold maxLen at hcm'
  have hi0b : numO xs 0 4 < 4294967296 := numO_lt xs 0 4
  have Hi0 : Hid (∀ W, Below w.heap.size w W → Calls Try.prog 52 #[.slice A n c, .int .i64 0] W fun e w' => e = .returned (.int .u32 (numO xs 0 4)) ∧ Below W.heap.size W w') := Lib.hid fun W hW => (word_any A n c 0 xs W (by omega) (by omega) hx ((hr.below hW).more hW.size)).mono fun e w' ⟨he, hw⟩ => ⟨he, hw ▸ Below.refl _ _⟩
  have hi4b : numO xs 4 4 < 4294967296 := numO_lt xs 4 4
  have Hi4 : Hid (∀ W, Below w.heap.size w W → Calls Try.prog 52 #[.slice A n c, .int .i64 4] W fun e w' => e = .returned (.int .u32 (numO xs 4 4)) ∧ Below W.heap.size W w') := Lib.hid fun W hW => (word_any A n c 4 xs W (by omega) (by omega) hx ((hr.below hW).more hW.size)).mono fun e w' ⟨he, hw⟩ => ⟨he, hw ▸ Below.refl _ _⟩
  have hi8b : numO xs 8 2 < 65536 := numO_lt xs 8 2
  have Hi8 : Hid (∀ W, Below w.heap.size w W → Calls Try.prog 53 #[.slice A n c, .int .i64 8] W fun e w' => e = .returned (.int .u16 (numO xs 8 2)) ∧ Below W.heap.size W w') := Lib.hid fun W hW => (half_any A n c 8 xs W (by omega) (by omega) hx ((hr.below hW).more hW.size)).mono fun e w' ⟨he, hw⟩ => ⟨he, hw ▸ Below.refl _ _⟩
  have hi10b : numO xs 10 2 < 65536 := numO_lt xs 10 2
  have Hi10 : Hid (∀ W, Below w.heap.size w W → Calls Try.prog 53 #[.slice A n c, .int .i64 10] W fun e w' => e = .returned (.int .u16 (numO xs 10 2)) ∧ Below W.heap.size W w') := Lib.hid fun W hW => (half_any A n c 10 xs W (by omega) (by omega) hx ((hr.below hW).more hW.size)).mono fun e w' ⟨he, hw⟩ => ⟨he, hw ▸ Below.refl _ _⟩
  have hi12b : numO xs 12 4 < 4294967296 := numO_lt xs 12 4
  have Hi12 : Hid (∀ W, Below w.heap.size w W → Calls Try.prog 52 #[.slice A n c, .int .i64 12] W fun e w' => e = .returned (.int .u32 (numO xs 12 4)) ∧ Below W.heap.size W w') := Lib.hid fun W hW => (word_any A n c 12 xs W (by omega) (by omega) hx ((hr.below hW).more hW.size)).mono fun e w' ⟨he, hw⟩ => ⟨he, hw ▸ Below.refl _ _⟩
  have hcko : cookieOf k xs = [] := by unfold cookieOf; rw [if_neg (fun h => hk h.1)]
  have hpi : PI k xs = ⟨numO xs 0 4, numO xs 4 4, numO xs 8 2, numO xs 10 2, numO xs 12 4, []⟩ := by unfold PI; rw [hcko]
  have hok : okI k f xs = false := by unfold okI; rw [hv, hd]; rfl
  have hra : ansI k f xs = noI := by unfold ansI; rw [hok]; rfl
  unfold GetsI
  rw [hok, hra]
  rw [hpi] at hv hd
  have HII : Hid (∀ W, Calls Try.prog 64 #[.int .u8 (k.toNat : Int), .agg #[.int .u32 (numO xs 0 4 : Int), .int .u32 (numO xs 4 4 : Int), .int .u16 (numO xs 8 2 : Int), .int .u16 (numO xs 10 2 : Int), .int .u32 (numO xs 12 4 : Int), .slice none 0 0]] W fun e w' => e = .returned (.bool true) ∧ Below W.heap.size W w') := Lib.hid fun W => by
    have := isInit_any k (numO xs 0 4) (numO xs 4 4) (numO xs 8 2) (numO xs 10 2) (numO xs 12 4) none 0 0 W
    unfold validI at hv
    rw [List.length_nil] at hv
    rw [hv] at this
    exact this
  have HCK : Hid (∀ W, Below w.heap.size w W → Blk W w.heap.size 28 #[.int .u8 (k.toNat : Int), .int .u8 (f.toNat : Int), .slice A n c] → Calls Try.prog 63 #[.agg #[.int .u8 (k.toNat : Int), .int .u8 (f.toNat : Int), .slice A n c], .agg #[.int .u32 (numO xs 0 4 : Int), .int .u32 (numO xs 4 4 : Int), .int .u16 (numO xs 8 2 : Int), .int .u16 (numO xs 10 2 : Int), .int .u32 (numO xs 12 4 : Int), .slice none 0 0], .bool true, .func (.func 62) #[] #[.pointer (some ⟨w.heap.size, 0, none⟩)]] W fun e w' => e = .returned (.tuple #[.agg #[.int .u32 0, .int .u32 0, .int .u16 0, .int .u16 0, .int .u32 0, .slice none 0 0], .int .i64 7]) ∧ Below W.heap.size W w') := Lib.hid fun W hW hB => checkedI_no k f A n c (numO xs 0 4) (numO xs 4 4) (numO xs 8 2) (numO xs 10 2) (numO xs 12 4) none 0 0 w.heap.size xs (bodyI k ⟨numO xs 0 4, numO xs 4 4, numO xs 8 2, numO xs 10 2, numO xs 12 4, []⟩) k 0 W hx ((hr.below hW).more hW.size) hd (fun W2 h2 => getInit1_any k f A n c w.heap.size _ _ _ _ _ _ hi0b hi4b hi8b hi10b hi12b none 0 0 W2 (by omega) rfl (Rd.nil _ _ _) (hB.below h2 hB.lt))
  obtain ⟨i0, ei0⟩ : ∃ i0, i0 = numO xs 0 4 := ⟨_, rfl⟩
  rw [← ei0] at Hi0 hi0b HCK HII
  obtain ⟨i4, ei4⟩ : ∃ i4, i4 = numO xs 4 4 := ⟨_, rfl⟩
  rw [← ei4] at Hi4 hi4b HCK HII
  obtain ⟨i8, ei8⟩ : ∃ i8, i8 = numO xs 8 2 := ⟨_, rfl⟩
  rw [← ei8] at Hi8 hi8b HCK HII
  obtain ⟨i10, ei10⟩ : ∃ i10, i10 = numO xs 10 2 := ⟨_, rfl⟩
  rw [← ei10] at Hi10 hi10b HCK HII
  obtain ⟨i12, ei12⟩ : ∃ i12, i12 = numO xs 12 4 := ⟨_, rfl⟩
  rw [← ei12] at Hi12 hi12b HCK HII
  have hk2 : ((k.toNat : Int) == 2) = false := kind_ne (m := 2) hk
  clear hx hr hra hok hv hcko hpi hd hk ei0 ei4 ei8 ei10 ei12
  have hmf : ∀ (fn : Fn) (first cap : Array Value) (w : World), (Instr.makeFunc fn first cap).run Try.prog w = .ok (.func fn first cap) w := fun _ _ _ _ => rfl
  have b0 : Blk (w.alloc (.cells #[.int .u8 (k.toNat : Int), .int .u8 (f.toNat : Int), .slice A n c] 28)) w.heap.size 28 #[.int .u8 (k.toNat : Int), .int .u8 (f.toNat : Int), .slice A n c] := Blk.new w 28 #[.int .u8 (k.toNat : Int), .int .u8 (f.toNat : Int), .slice A n c]
  have b1 : Blk ((w.alloc (.cells #[.int .u8 (k.toNat : Int), .int .u8 (f.toNat : Int), .slice A n c] 28)).alloc (.cells #[.int .u32 0, .int .u32 0, .int .u16 0, .int .u16 0, .int .u32 0, .slice none 0 0] 43)) (w.heap.size + 1) 43 #[.int .u32 0, .int .u32 0, .int .u16 0, .int .u16 0, .int .u32 0, .slice none 0 0] := by simpa using Blk.new (w.alloc (.cells #[.int .u8 (k.toNat : Int), .int .u8 (f.toNat : Int), .slice A n c] 28)) 43 #[.int .u32 0, .int .u32 0, .int .u16 0, .int .u16 0, .int .u32 0, .slice none 0 0]
  have K0 := Lib.hid (b0.alloc (.cells #[.int .u32 0, .int .u32 0, .int .u16 0, .int .u16 0, .int .u32 0, .slice none 0 0] 43))
  have K1 := Lib.hid b1
  have B0 : Hid (Below w.heap.size w ((w.alloc (.cells #[.int .u8 (k.toNat : Int), .int .u8 (f.toNat : Int), .slice A n c] 28)).alloc (.cells #[.int .u32 0, .int .u32 0, .int .u16 0, .int .u16 0, .int .u32 0, .slice none 0 0] 43))) := Lib.hid (Wr.below_ (((Wr.refl 5 w.heap.size w).alloc (.cells #[.int .u8 (k.toNat : Int), .int .u8 (f.toNat : Int), .slice A n c] 28)).alloc (.cells #[.int .u32 0, .int .u32 0, .int .u16 0, .int .u16 0, .int .u32 0, .slice none 0 0] 43)) (Nat.le_refl _))
  clear b0 b1
  go_enter Try.func24, Try.ntmps24
  rw [drawn_eq 1, drawn_eq 6]
  go_wp2_with fail
  generalize ((w.alloc (.cells #[.int .u8 (k.toNat : Int), .int .u8 (f.toNat : Int), .slice A n c] 28)).alloc (.cells #[.int .u32 0, .int .u32 0, .int .u16 0, .int .u16 0, .int .u32 0, .slice none 0 0] 43)) = v0 at K0 K1 B0 ⊢
  rw [← drawn_eq 1]
  refine wp_region_grow_tail 17 (by kernel_rfl) [(Is (.pointer (some ⟨w.heap.size, 2, none⟩))), (Is (.slice A n c)), (Is (.int .u32 (i0 : Int))), (Is (.pointer (some ⟨w.heap.size, 2, none⟩))), (Is (.slice A n c)), (Is (.int .u32 (i4 : Int))), (Is (.pointer (some ⟨w.heap.size, 2, none⟩))), (Is (.slice A n c)), (Is (.int .u16 (i8 : Int))), (Is (.pointer (some ⟨w.heap.size, 2, none⟩))), (Is (.slice A n c)), (Is (.int .u16 (i10 : Int))), (Is (.pointer (some ⟨w.heap.size, 2, none⟩))), (Is (.slice A n c)), (Is (.int .u32 (i12 : Int))), (Is (.agg #[.int .u32 (i0 : Int), .int .u32 (i4 : Int), .int .u16 (i8 : Int), .int .u16 (i10 : Int), .int .u32 (i12 : Int), .slice none 0 0])), (NewBlk v0.heap.size 43 #[.int .u32 0, .int .u32 0, .int .u16 0, .int .u16 0, .int .u32 0, .slice none 0 0])] rfl ?_ (by kernel_rfl) (by kernel_rfl) ?_ ?_
  · intro p hp
    simp only [List.mem_cons, List.not_mem_nil, or_false] at hp
    rcases hp with rfl | rfl | rfl | rfl | rfl | rfl | rfl | rfl | rfl | rfl | rfl | rfl | rfl | rfl | rfl | rfl | rfl
    · exact Lasts.is _
    · exact Lasts.is _
    · exact Lasts.is _
    · exact Lasts.is _
    · exact Lasts.is _
    · exact Lasts.is _
    · exact Lasts.is _
    · exact Lasts.is _
    · exact Lasts.is _
    · exact Lasts.is _
    · exact Lasts.is _
    · exact Lasts.is _
    · exact Lasts.is _
    · exact Lasts.is _
    · exact Lasts.is _
    · exact Lasts.is _
    · exact Lasts.newBlk _ _ _
  · refine ⟨?_, ?_, ?_, ?_, ?_, ?_, ?_, ?_, ?_, ?_, ?_, ?_, ?_, ?_, ?_, ?_, ?_, trivial⟩
    · intro listed a w1 hl hc
      have h1 : a.tmps[1]?.getD undef = .pointer (some ⟨w.heap.size, 0, none⟩) := (hc.was 1 (by kernel_rfl)).trans rfl
      refine does_value rfl rfl (.pointer (some ⟨w.heap.size, 2, none⟩)) w1 ?_ (Below.refl _ _) rfl
      clear hc hl
      go_simp
    · intro listed a w1 hl hc
      have h7 : a.tmps[7]?.getD undef = .pointer (some ⟨w.heap.size, 2, none⟩) := hc.dep hl 0 7 rfl (by kernel_rfl)
      have kb := K0.out.below hc.g K0.out.lt
      have x2 : w1.cell? ⟨w.heap.size, 2, none⟩ = some (.slice A n c) := kb.cell 2
      clear kb
      refine does_value rfl rfl (.slice A n c) w1 ?_ (Below.refl _ _) rfl
      clear hc hl
      go_simp
    · intro listed a w1 hl hc
      have h8 : a.tmps[8]?.getD undef = .slice A n c := hc.dep hl 1 8 rfl (by kernel_rfl)
      refine does_call rfl rfl 52 #[.slice A n c, .int .i64 0] ?_ ((Hi0.out w1 (B0.out.trans (hc.g.mono B0.out.size))).mono fun e w' ⟨he, hb⟩ => ⟨_, he, hb, rfl⟩)
      clear hc hl
      go_simp
    · intro listed a w1 hl hc
      have h1 : a.tmps[1]?.getD undef = .pointer (some ⟨w.heap.size, 0, none⟩) := (hc.was 1 (by kernel_rfl)).trans rfl
      refine does_value rfl rfl (.pointer (some ⟨w.heap.size, 2, none⟩)) w1 ?_ (Below.refl _ _) rfl
      clear hc hl
      go_simp
    · intro listed a w1 hl hc
      have h10 : a.tmps[10]?.getD undef = .pointer (some ⟨w.heap.size, 2, none⟩) := hc.dep hl 3 10 rfl (by kernel_rfl)
      have kb := K0.out.below hc.g K0.out.lt
      have x2 : w1.cell? ⟨w.heap.size, 2, none⟩ = some (.slice A n c) := kb.cell 2
      clear kb
      refine does_value rfl rfl (.slice A n c) w1 ?_ (Below.refl _ _) rfl
      clear hc hl
      go_simp
    · intro listed a w1 hl hc
      have h11 : a.tmps[11]?.getD undef = .slice A n c := hc.dep hl 4 11 rfl (by kernel_rfl)
      refine does_call rfl rfl 52 #[.slice A n c, .int .i64 4] ?_ ((Hi4.out w1 (B0.out.trans (hc.g.mono B0.out.size))).mono fun e w' ⟨he, hb⟩ => ⟨_, he, hb, rfl⟩)
      clear hc hl
      go_simp
    · intro listed a w1 hl hc
      have h1 : a.tmps[1]?.getD undef = .pointer (some ⟨w.heap.size, 0, none⟩) := (hc.was 1 (by kernel_rfl)).trans rfl
      refine does_value rfl rfl (.pointer (some ⟨w.heap.size, 2, none⟩)) w1 ?_ (Below.refl _ _) rfl
      clear hc hl
      go_simp
    · intro listed a w1 hl hc
      have h13 : a.tmps[13]?.getD undef = .pointer (some ⟨w.heap.size, 2, none⟩) := hc.dep hl 6 13 rfl (by kernel_rfl)
      have kb := K0.out.below hc.g K0.out.lt
      have x2 : w1.cell? ⟨w.heap.size, 2, none⟩ = some (.slice A n c) := kb.cell 2
      clear kb
      refine does_value rfl rfl (.slice A n c) w1 ?_ (Below.refl _ _) rfl
      clear hc hl
      go_simp
    · intro listed a w1 hl hc
      have h14 : a.tmps[14]?.getD undef = .slice A n c := hc.dep hl 7 14 rfl (by kernel_rfl)
      refine does_call rfl rfl 53 #[.slice A n c, .int .i64 8] ?_ ((Hi8.out w1 (B0.out.trans (hc.g.mono B0.out.size))).mono fun e w' ⟨he, hb⟩ => ⟨_, he, hb, rfl⟩)
      clear hc hl
      go_simp
    · intro listed a w1 hl hc
      have h1 : a.tmps[1]?.getD undef = .pointer (some ⟨w.heap.size, 0, none⟩) := (hc.was 1 (by kernel_rfl)).trans rfl
      refine does_value rfl rfl (.pointer (some ⟨w.heap.size, 2, none⟩)) w1 ?_ (Below.refl _ _) rfl
      clear hc hl
      go_simp
    · intro listed a w1 hl hc
      have h16 : a.tmps[16]?.getD undef = .pointer (some ⟨w.heap.size, 2, none⟩) := hc.dep hl 9 16 rfl (by kernel_rfl)
      have kb := K0.out.below hc.g K0.out.lt
      have x2 : w1.cell? ⟨w.heap.size, 2, none⟩ = some (.slice A n c) := kb.cell 2
      clear kb
      refine does_value rfl rfl (.slice A n c) w1 ?_ (Below.refl _ _) rfl
      clear hc hl
      go_simp
    · intro listed a w1 hl hc
      have h17 : a.tmps[17]?.getD undef = .slice A n c := hc.dep hl 10 17 rfl (by kernel_rfl)
      refine does_call rfl rfl 53 #[.slice A n c, .int .i64 10] ?_ ((Hi10.out w1 (B0.out.trans (hc.g.mono B0.out.size))).mono fun e w' ⟨he, hb⟩ => ⟨_, he, hb, rfl⟩)
      clear hc hl
      go_simp
    · intro listed a w1 hl hc
      have h1 : a.tmps[1]?.getD undef = .pointer (some ⟨w.heap.size, 0, none⟩) := (hc.was 1 (by kernel_rfl)).trans rfl
      refine does_value rfl rfl (.pointer (some ⟨w.heap.size, 2, none⟩)) w1 ?_ (Below.refl _ _) rfl
      clear hc hl
      go_simp
    · intro listed a w1 hl hc
      have h19 : a.tmps[19]?.getD undef = .pointer (some ⟨w.heap.size, 2, none⟩) := hc.dep hl 12 19 rfl (by kernel_rfl)
      have kb := K0.out.below hc.g K0.out.lt
      have x2 : w1.cell? ⟨w.heap.size, 2, none⟩ = some (.slice A n c) := kb.cell 2
      clear kb
      refine does_value rfl rfl (.slice A n c) w1 ?_ (Below.refl _ _) rfl
      clear hc hl
      go_simp
    · intro listed a w1 hl hc
      have h20 : a.tmps[20]?.getD undef = .slice A n c := hc.dep hl 13 20 rfl (by kernel_rfl)
      refine does_call rfl rfl 52 #[.slice A n c, .int .i64 12] ?_ ((Hi12.out w1 (B0.out.trans (hc.g.mono B0.out.size))).mono fun e w' ⟨he, hb⟩ => ⟨_, he, hb, rfl⟩)
      clear hc hl
      go_simp
    · intro listed a w1 hl hc
      have h9 : a.tmps[9]?.getD undef = .int .u32 (i0 : Int) := hc.dep hl 2 9 rfl (by kernel_rfl)
      have h12 : a.tmps[12]?.getD undef = .int .u32 (i4 : Int) := hc.dep hl 5 12 rfl (by kernel_rfl)
      have h15 : a.tmps[15]?.getD undef = .int .u16 (i8 : Int) := hc.dep hl 8 15 rfl (by kernel_rfl)
      have h18 : a.tmps[18]?.getD undef = .int .u16 (i10 : Int) := hc.dep hl 11 18 rfl (by kernel_rfl)
      have h21 : a.tmps[21]?.getD undef = .int .u32 (i12 : Int) := hc.dep hl 14 21 rfl (by kernel_rfl)
      refine does_value rfl rfl (.agg #[.int .u32 (i0 : Int), .int .u32 (i4 : Int), .int .u16 (i8 : Int), .int .u16 (i10 : Int), .int .u32 (i12 : Int), .slice none 0 0]) w1 ?_ (Below.refl _ _) rfl
      clear hc hl
      go_simp
    · intro listed a w1 hl hc
      refine does_value rfl rfl (.pointer (some ⟨w1.heap.size, 0, none⟩)) (w1.alloc (.cells #[.int .u32 0, .int .u32 0, .int .u16 0, .int .u16 0, .int .u32 0, .slice none 0 0] 43)) ?_ (below_new w1 _) ⟨_, rfl, hc.g.size, Blk.new _ _ _⟩
      clear hc hl
      go_simp
  intro w2 hb2
  rintro _ rfl _ rfl _ rfl _ rfl _ rfl _ rfl _ rfl _ rfl _ rfl _ rfl _ rfl _ rfl _ rfl _ rfl _ rfl _ rfl _ ⟨g4, rfl, hg4, hb4⟩
  simp only [Thus, List.reverse_cons, List.reverse_nil, List.nil_append, List.cons_append, List.drop, List.take, lay]
  go_frame
  have hl0 := K0.out.lt
  have hl1 := K1.out.lt
  have HG := Lib.hid hb4
  have hge : w.heap.size ≤ g4 := by omega
  have y0 := HG.out.cell 0
  have y1 := HG.out.cell 1
  have y2 := HG.out.cell 2
  have y3 := HG.out.cell 3
  have y4 := HG.out.cell 4
  have y5 := HG.out.cell 5
  have z0 := HG.out.frozen 0
  have z1 := HG.out.frozen 1
  have z2 := HG.out.frozen 2
  have z3 := HG.out.frozen 3
  have z4 := HG.out.frozen 4
  have z5 := HG.out.frozen 5
  have G3 : Hid (Blk ((((((w2.setCell ⟨g4, 0, none⟩ (.int .u32 (i0 : Int))).setCell ⟨g4, 1, none⟩ (.int .u32 (i4 : Int))).setCell ⟨g4, 2, none⟩ (.int .u16 (i8 : Int))).setCell ⟨g4, 3, none⟩ (.int .u16 (i10 : Int))).setCell ⟨g4, 4, none⟩ (.int .u32 (i12 : Int))).setCell ⟨g4, 5, none⟩ (.slice none 0 0)) g4 43 #[.int .u32 (i0 : Int), .int .u32 (i4 : Int), .int .u16 (i8 : Int), .int .u16 (i10 : Int), .int .u32 (i12 : Int), .slice none 0 0]) := Lib.hid ((((((hb4.set_ 0 (.int .u32 (i0 : Int))).set_ 1 (.int .u32 (i4 : Int))).set_ 2 (.int .u16 (i8 : Int))).set_ 3 (.int .u16 (i10 : Int))).set_ 4 (.int .u32 (i12 : Int))).set_ 5 (.slice none 0 0))
  have K0b := Lib.hid (((((((K0.out.below hb2 K0.out.lt).far (p := ⟨g4, 0, none⟩) (show w.heap.size ≠ g4 by omega) (.int .u32 (i0 : Int))).far (p := ⟨g4, 1, none⟩) (show w.heap.size ≠ g4 by omega) (.int .u32 (i4 : Int))).far (p := ⟨g4, 2, none⟩) (show w.heap.size ≠ g4 by omega) (.int .u16 (i8 : Int))).far (p := ⟨g4, 3, none⟩) (show w.heap.size ≠ g4 by omega) (.int .u16 (i10 : Int))).far (p := ⟨g4, 4, none⟩) (show w.heap.size ≠ g4 by omega) (.int .u32 (i12 : Int))).far (p := ⟨g4, 5, none⟩) (show w.heap.size ≠ g4 by omega) (.slice none 0 0))
  have K1b := Lib.hid (((((((K1.out.below hb2 K1.out.lt).far (p := ⟨g4, 0, none⟩) (show w.heap.size + 1 ≠ g4 by omega) (.int .u32 (i0 : Int))).far (p := ⟨g4, 1, none⟩) (show w.heap.size + 1 ≠ g4 by omega) (.int .u32 (i4 : Int))).far (p := ⟨g4, 2, none⟩) (show w.heap.size + 1 ≠ g4 by omega) (.int .u16 (i8 : Int))).far (p := ⟨g4, 3, none⟩) (show w.heap.size + 1 ≠ g4 by omega) (.int .u16 (i10 : Int))).far (p := ⟨g4, 4, none⟩) (show w.heap.size + 1 ≠ g4 by omega) (.int .u32 (i12 : Int))).far (p := ⟨g4, 5, none⟩) (show w.heap.size + 1 ≠ g4 by omega) (.slice none 0 0))
  have B3 := Lib.hid (((((((below_then B0.out (Nat.le_refl _) hb2).setCell (p := ⟨g4, 0, none⟩) (show w.heap.size ≤ g4 by omega) (.int .u32 (i0 : Int))).setCell (p := ⟨g4, 1, none⟩) (show w.heap.size ≤ g4 by omega) (.int .u32 (i4 : Int))).setCell (p := ⟨g4, 2, none⟩) (show w.heap.size ≤ g4 by omega) (.int .u16 (i8 : Int))).setCell (p := ⟨g4, 3, none⟩) (show w.heap.size ≤ g4 by omega) (.int .u16 (i10 : Int))).setCell (p := ⟨g4, 4, none⟩) (show w.heap.size ≤ g4 by omega) (.int .u32 (i12 : Int))).setCell (p := ⟨g4, 5, none⟩) (show w.heap.size ≤ g4 by omega) (.slice none 0 0))
  have hgl : g4 < w2.heap.size := hb4.lt
  clear hb2 hb4 K0 K1 B0 HG
  have x0 := K0b.out.cell 0
  have x1 := K0b.out.cell 1
  have x2 := K0b.out.cell 2
  go_wp2_with fail
  generalize ((((((w2.setCell ⟨g4, 0, none⟩ (.int .u32 (i0 : Int))).setCell ⟨g4, 1, none⟩ (.int .u32 (i4 : Int))).setCell ⟨g4, 2, none⟩ (.int .u16 (i8 : Int))).setCell ⟨g4, 3, none⟩ (.int .u16 (i10 : Int))).setCell ⟨g4, 4, none⟩ (.int .u32 (i12 : Int))).setCell ⟨g4, 5, none⟩ (.slice none 0 0)) = v3 at G3 K0b K1b B3 ⊢
  clear hgl y0 z0 y1 z1 y2 z2 y3 z3 y4 z4 y5 z5
  clear x0 x1 x2
  rw [← drawn_eq 6]
  refine wp_region_grow_tail 10 (by kernel_rfl) [(Is (.agg #[.int .u8 (k.toNat : Int), .int .u8 (f.toNat : Int), .slice A n c])), (Is (.agg #[.int .u32 (i0 : Int), .int .u32 (i4 : Int), .int .u16 (i8 : Int), .int .u16 (i10 : Int), .int .u32 (i12 : Int), .slice none 0 0])), (Is (.pointer (some ⟨w.heap.size, 0, none⟩))), (Is (.int .u8 (k.toNat : Int))), (Is (.agg #[.int .u32 (i0 : Int), .int .u32 (i4 : Int), .int .u16 (i8 : Int), .int .u16 (i10 : Int), .int .u32 (i12 : Int), .slice none 0 0])), (Is (.bool true)), (Is (.func (.func 62) #[] #[.pointer (some ⟨w.heap.size, 0, none⟩)])), (Is (.tuple #[.agg #[.int .u32 0, .int .u32 0, .int .u16 0, .int .u16 0, .int .u32 0, .slice none 0 0], .int .i64 7])), (Is (.agg #[.int .u32 0, .int .u32 0, .int .u16 0, .int .u16 0, .int .u32 0, .slice none 0 0])), (Is (.int .i64 7))] rfl ?_ (by kernel_rfl) (by kernel_rfl) ?_ ?_
  · intro p hp
    simp only [List.mem_cons, List.not_mem_nil, or_false] at hp
    rcases hp with rfl | rfl | rfl | rfl | rfl | rfl | rfl | rfl | rfl | rfl
    · exact Lasts.is _
    · exact Lasts.is _
    · exact Lasts.is _
    · exact Lasts.is _
    · exact Lasts.is _
    · exact Lasts.is _
    · exact Lasts.is _
    · exact Lasts.is _
    · exact Lasts.is _
    · exact Lasts.is _
  · refine ⟨?_, ?_, ?_, ?_, ?_, ?_, ?_, ?_, ?_, ?_, trivial⟩
    · intro listed a w1 hl hc
      have h1 : a.tmps[1]?.getD undef = .pointer (some ⟨w.heap.size, 0, none⟩) := (hc.was 1 (by kernel_rfl)).trans rfl
      have kb := K0b.out.below hc.g K0b.out.lt
      have x0 : w1.cell? ⟨w.heap.size, 0, none⟩ = some (.int .u8 (k.toNat : Int)) := kb.cell 0
      have x1 : w1.cell? ⟨w.heap.size, 1, none⟩ = some (.int .u8 (f.toNat : Int)) := kb.cell 1
      have x2 : w1.cell? ⟨w.heap.size, 2, none⟩ = some (.slice A n c) := kb.cell 2
      clear kb
      refine does_value rfl rfl (.agg #[.int .u8 (k.toNat : Int), .int .u8 (f.toNat : Int), .slice A n c]) w1 ?_ (Below.refl _ _) rfl
      clear hc hl
      go_simp
    · intro listed a w1 hl hc
      have h4 : a.tmps[4]?.getD undef = .pointer (some ⟨g4, 0, none⟩) := (hc.was 4 (by kernel_rfl)).trans rfl
      have kb := G3.out.below hc.g G3.out.lt
      have x0 : w1.cell? ⟨g4, 0, none⟩ = some (.int .u32 (i0 : Int)) := kb.cell 0
      have x1 : w1.cell? ⟨g4, 1, none⟩ = some (.int .u32 (i4 : Int)) := kb.cell 1
      have x2 : w1.cell? ⟨g4, 2, none⟩ = some (.int .u16 (i8 : Int)) := kb.cell 2
      have x3 : w1.cell? ⟨g4, 3, none⟩ = some (.int .u16 (i10 : Int)) := kb.cell 3
      have x4 : w1.cell? ⟨g4, 4, none⟩ = some (.int .u32 (i12 : Int)) := kb.cell 4
      have x5 : w1.cell? ⟨g4, 5, none⟩ = some (.slice none 0 0) := kb.cell 5
      clear kb
      refine does_value rfl rfl (.agg #[.int .u32 (i0 : Int), .int .u32 (i4 : Int), .int .u16 (i8 : Int), .int .u16 (i10 : Int), .int .u32 (i12 : Int), .slice none 0 0]) w1 ?_ (Below.refl _ _) rfl
      clear hc hl
      go_simp
    · intro listed a w1 hl hc
      have h1 : a.tmps[1]?.getD undef = .pointer (some ⟨w.heap.size, 0, none⟩) := (hc.was 1 (by kernel_rfl)).trans rfl
      refine does_value rfl rfl (.pointer (some ⟨w.heap.size, 0, none⟩)) w1 ?_ (Below.refl _ _) rfl
      clear hc hl
      go_simp
    · intro listed a w1 hl hc
      have h42 : a.tmps[42]?.getD undef = .pointer (some ⟨w.heap.size, 0, none⟩) := hc.dep hl 2 42 rfl (by kernel_rfl)
      have kb := K0b.out.below hc.g K0b.out.lt
      have x0 : w1.cell? ⟨w.heap.size, 0, none⟩ = some (.int .u8 (k.toNat : Int)) := kb.cell 0
      clear kb
      refine does_value rfl rfl (.int .u8 (k.toNat : Int)) w1 ?_ (Below.refl _ _) rfl
      clear hc hl
      go_simp
    · intro listed a w1 hl hc
      have h4 : a.tmps[4]?.getD undef = .pointer (some ⟨g4, 0, none⟩) := (hc.was 4 (by kernel_rfl)).trans rfl
      have kb := G3.out.below hc.g G3.out.lt
      have x0 : w1.cell? ⟨g4, 0, none⟩ = some (.int .u32 (i0 : Int)) := kb.cell 0
      have x1 : w1.cell? ⟨g4, 1, none⟩ = some (.int .u32 (i4 : Int)) := kb.cell 1
      have x2 : w1.cell? ⟨g4, 2, none⟩ = some (.int .u16 (i8 : Int)) := kb.cell 2
      have x3 : w1.cell? ⟨g4, 3, none⟩ = some (.int .u16 (i10 : Int)) := kb.cell 3
      have x4 : w1.cell? ⟨g4, 4, none⟩ = some (.int .u32 (i12 : Int)) := kb.cell 4
      have x5 : w1.cell? ⟨g4, 5, none⟩ = some (.slice none 0 0) := kb.cell 5
      clear kb
      refine does_value rfl rfl (.agg #[.int .u32 (i0 : Int), .int .u32 (i4 : Int), .int .u16 (i8 : Int), .int .u16 (i10 : Int), .int .u32 (i12 : Int), .slice none 0 0]) w1 ?_ (Below.refl _ _) rfl
      clear hc hl
      go_simp
    · intro listed a w1 hl hc
      have h43 : a.tmps[43]?.getD undef = .int .u8 (k.toNat : Int) := hc.dep hl 3 43 rfl (by kernel_rfl)
      have h44 : a.tmps[44]?.getD undef = .agg #[.int .u32 (i0 : Int), .int .u32 (i4 : Int), .int .u16 (i8 : Int), .int .u16 (i10 : Int), .int .u32 (i12 : Int), .slice none 0 0] := hc.dep hl 4 44 rfl (by kernel_rfl)
      refine does_call rfl rfl 64 #[.int .u8 (k.toNat : Int), .agg #[.int .u32 (i0 : Int), .int .u32 (i4 : Int), .int .u16 (i8 : Int), .int .u16 (i10 : Int), .int .u32 (i12 : Int), .slice none 0 0]] ?_ ((HII.out w1).mono fun e w' ⟨he, hb⟩ => ⟨_, he, hb, rfl⟩)
      clear hc hl
      go_simp
    · intro listed a w1 hl hc
      have h6 : a.tmps[6]?.getD undef = .func (.func 62) #[] #[.pointer (some ⟨w.heap.size, 0, none⟩)] := (hc.was 6 (by kernel_rfl)).trans rfl
      refine does_value rfl rfl (.func (.func 62) #[] #[.pointer (some ⟨w.heap.size, 0, none⟩)]) w1 ?_ (Below.refl _ _) rfl
      clear hc hl
      go_simp
    · intro listed a w1 hl hc
      have h40 : a.tmps[40]?.getD undef = .agg #[.int .u8 (k.toNat : Int), .int .u8 (f.toNat : Int), .slice A n c] := hc.dep hl 0 40 rfl (by kernel_rfl)
      have h41 : a.tmps[41]?.getD undef = .agg #[.int .u32 (i0 : Int), .int .u32 (i4 : Int), .int .u16 (i8 : Int), .int .u16 (i10 : Int), .int .u32 (i12 : Int), .slice none 0 0] := hc.dep hl 1 41 rfl (by kernel_rfl)
      have h45 : a.tmps[45]?.getD undef = .bool true := hc.dep hl 5 45 rfl (by kernel_rfl)
      have h46 : a.tmps[46]?.getD undef = .func (.func 62) #[] #[.pointer (some ⟨w.heap.size, 0, none⟩)] := hc.dep hl 6 46 rfl (by kernel_rfl)
      refine does_call rfl rfl 63 #[.agg #[.int .u8 (k.toNat : Int), .int .u8 (f.toNat : Int), .slice A n c], .agg #[.int .u32 (i0 : Int), .int .u32 (i4 : Int), .int .u16 (i8 : Int), .int .u16 (i10 : Int), .int .u32 (i12 : Int), .slice none 0 0], .bool true, .func (.func 62) #[] #[.pointer (some ⟨w.heap.size, 0, none⟩)]] ?_ ((HCK.out w1 (B3.out.trans (hc.g.mono B3.out.size)) (K0b.out.below hc.g K0b.out.lt)).mono fun e w' ⟨he, hb⟩ => ⟨_, he, hb, rfl⟩)
      clear hc hl
      go_simp
    · intro listed a w1 hl hc
      have h47 : a.tmps[47]?.getD undef = .tuple #[.agg #[.int .u32 0, .int .u32 0, .int .u16 0, .int .u16 0, .int .u32 0, .slice none 0 0], .int .i64 7] := hc.dep hl 7 47 rfl (by kernel_rfl)
      refine does_value rfl rfl (.agg #[.int .u32 0, .int .u32 0, .int .u16 0, .int .u16 0, .int .u32 0, .slice none 0 0]) w1 ?_ (Below.refl _ _) rfl
      clear hc hl
      go_simp
    · intro listed a w1 hl hc
      have h47 : a.tmps[47]?.getD undef = .tuple #[.agg #[.int .u32 0, .int .u32 0, .int .u16 0, .int .u16 0, .int .u32 0, .slice none 0 0], .int .i64 7] := hc.dep hl 7 47 rfl (by kernel_rfl)
      refine does_value rfl rfl (.int .i64 7) w1 ?_ (Below.refl _ _) rfl
      clear hc hl
      go_simp
  intro w2 hb2
  rintro _ rfl _ rfl _ rfl _ rfl _ rfl _ rfl _ rfl _ rfl _ rfl _ rfl
  simp only [Thus, List.reverse_cons, List.reverse_nil, List.nil_append, List.cons_append, List.drop, List.take, lay]
  go_frame
  have K1e := Lib.hid (K1b.out.below hb2 K1b.out.lt)
  have B6 := Lib.hid (below_then B3.out (Nat.le_refl _) hb2)
  clear hb2 K1b B3
  have y0 := K1e.out.cell 0
  have y1 := K1e.out.cell 1
  have y2 := K1e.out.cell 2
  have y3 := K1e.out.cell 3
  have y4 := K1e.out.cell 4
  have y5 := K1e.out.cell 5
  have z0 := K1e.out.frozen 0
  have z1 := K1e.out.frozen 1
  have z2 := K1e.out.frozen 2
  have z3 := K1e.out.frozen 3
  have z4 := K1e.out.frozen 4
  have z5 := K1e.out.frozen 5
  go_wp2_with fail
  have H3 := ((((((K1e.out.set_ 0 (.int .u32 0)).set_ 1 (.int .u32 0)).set_ 2 (.int .u16 0)).set_ 3 (.int .u16 0)).set_ 4 (.int .u32 0)).set_ 5 (.slice none 0 0))
  exact bodyPost_ret (v := .tuple #[.agg #[.int .u32 0, .int .u32 0, .int .u16 0, .int .u16 0, .int .u32 0, .slice none 0 0], .int .i64 7]) (by simp [results, Try.results24, go_sem, H3.cell]) rfl ⟨none, 0, 0, rfl, Own8.nil _ _ _, ((((((B6.out.setCell (p := ⟨w.heap.size + 1, 0, none⟩) (show w.heap.size ≤ w.heap.size + 1 by omega) (.int .u32 0)).setCell (p := ⟨w.heap.size + 1, 1, none⟩) (show w.heap.size ≤ w.heap.size + 1 by omega) (.int .u32 0)).setCell (p := ⟨w.heap.size + 1, 2, none⟩) (show w.heap.size ≤ w.heap.size + 1 by omega) (.int .u16 0)).setCell (p := ⟨w.heap.size + 1, 3, none⟩) (show w.heap.size ≤ w.heap.size + 1 by omega) (.int .u16 0)).setCell (p := ⟨w.heap.size + 1, 4, none⟩) (show w.heap.size ≤ w.heap.size + 1 by omega) (.int .u32 0)).setCell (p := ⟨w.heap.size + 1, 5, none⟩) (show w.heap.size ≤ w.heap.size + 1 by omega) (.slice none 0 0))⟩
set_option maxRecDepth 100000 in
set_option maxHeartbeats 4000000 in
theorem getInit_other_yes (k f : UInt8) (A : Option Addr) (n c : Nat) (xs : List UInt8) (w : World) (hn : n ≤ 140737488355200) (hc : n ≤ c) (hcm : c ≤ maxLen) (hx : xs.length = n) (hr : Rd w w.heap.size A xs) (hk : k ≠ 2) (hv : validI k (PI k xs) = true) (hd : decide ((k : UInt8) = k ∧ f = 0 ∧ xs = bodyI k (PI k xs)) = true) :
    GetsI 24 #[.agg #[.int .u8 (k.toNat : Int), .int .u8 (f.toNat : Int), .slice A n c]] k f xs w := by
  have hz := zero_init
  have hcm' := hcm
  unfold maxLen at hcm'
  have hi0b : numO xs 0 4 < 4294967296 := numO_lt xs 0 4
  have Hi0 : Hid (∀ W, Below w.heap.size w W → Calls Try.prog 52 #[.slice A n c, .int .i64 0] W fun e w' => e = .returned (.int .u32 (numO xs 0 4)) ∧ Below W.heap.size W w') := Lib.hid fun W hW => (word_any A n c 0 xs W (by omega) (by omega) hx ((hr.below hW).more hW.size)).mono fun e w' ⟨he, hw⟩ => ⟨he, hw ▸ Below.refl _ _⟩
  have hi4b : numO xs 4 4 < 4294967296 := numO_lt xs 4 4
  have Hi4 : Hid (∀ W, Below w.heap.size w W → Calls Try.prog 52 #[.slice A n c, .int .i64 4] W fun e w' => e = .returned (.int .u32 (numO xs 4 4)) ∧ Below W.heap.size W w') := Lib.hid fun W hW => (word_any A n c 4 xs W (by omega) (by omega) hx ((hr.below hW).more hW.size)).mono fun e w' ⟨he, hw⟩ => ⟨he, hw ▸ Below.refl _ _⟩
  have hi8b : numO xs 8 2 < 65536 := numO_lt xs 8 2
  have Hi8 : Hid (∀ W, Below w.heap.size w W → Calls Try.prog 53 #[.slice A n c, .int .i64 8] W fun e w' => e = .returned (.int .u16 (numO xs 8 2)) ∧ Below W.heap.size W w') := Lib.hid fun W hW => (half_any A n c 8 xs W (by omega) (by omega) hx ((hr.below hW).more hW.size)).mono fun e w' ⟨he, hw⟩ => ⟨he, hw ▸ Below.refl _ _⟩
  have hi10b : numO xs 10 2 < 65536 := numO_lt xs 10 2
  have Hi10 : Hid (∀ W, Below w.heap.size w W → Calls Try.prog 53 #[.slice A n c, .int .i64 10] W fun e w' => e = .returned (.int .u16 (numO xs 10 2)) ∧ Below W.heap.size W w') := Lib.hid fun W hW => (half_any A n c 10 xs W (by omega) (by omega) hx ((hr.below hW).more hW.size)).mono fun e w' ⟨he, hw⟩ => ⟨he, hw ▸ Below.refl _ _⟩
  have hi12b : numO xs 12 4 < 4294967296 := numO_lt xs 12 4
  have Hi12 : Hid (∀ W, Below w.heap.size w W → Calls Try.prog 52 #[.slice A n c, .int .i64 12] W fun e w' => e = .returned (.int .u32 (numO xs 12 4)) ∧ Below W.heap.size W w') := Lib.hid fun W hW => (word_any A n c 12 xs W (by omega) (by omega) hx ((hr.below hW).more hW.size)).mono fun e w' ⟨he, hw⟩ => ⟨he, hw ▸ Below.refl _ _⟩
  have hcko : cookieOf k xs = [] := by unfold cookieOf; rw [if_neg (fun h => hk h.1)]
  have hpi : PI k xs = ⟨numO xs 0 4, numO xs 4 4, numO xs 8 2, numO xs 10 2, numO xs 12 4, []⟩ := by unfold PI; rw [hcko]
  have hok : okI k f xs = true := by unfold okI; rw [hv, hd]; rfl
  have hra : ansI k f xs = ⟨numO xs 0 4, numO xs 4 4, numO xs 8 2, numO xs 10 2, numO xs 12 4, []⟩ := by unfold ansI; rw [hok]; exact hpi
  unfold GetsI
  rw [hok, hra]
  rw [hpi] at hv hd
  have HII : Hid (∀ W, Calls Try.prog 64 #[.int .u8 (k.toNat : Int), .agg #[.int .u32 (numO xs 0 4 : Int), .int .u32 (numO xs 4 4 : Int), .int .u16 (numO xs 8 2 : Int), .int .u16 (numO xs 10 2 : Int), .int .u32 (numO xs 12 4 : Int), .slice none 0 0]] W fun e w' => e = .returned (.bool true) ∧ Below W.heap.size W w') := Lib.hid fun W => by
    have := isInit_any k (numO xs 0 4) (numO xs 4 4) (numO xs 8 2) (numO xs 10 2) (numO xs 12 4) none 0 0 W
    unfold validI at hv
    rw [List.length_nil] at hv
    rw [hv] at this
    exact this
  have HCK : Hid (∀ W, Below w.heap.size w W → Blk W w.heap.size 28 #[.int .u8 (k.toNat : Int), .int .u8 (f.toNat : Int), .slice A n c] → Calls Try.prog 63 #[.agg #[.int .u8 (k.toNat : Int), .int .u8 (f.toNat : Int), .slice A n c], .agg #[.int .u32 (numO xs 0 4 : Int), .int .u32 (numO xs 4 4 : Int), .int .u16 (numO xs 8 2 : Int), .int .u16 (numO xs 10 2 : Int), .int .u32 (numO xs 12 4 : Int), .slice none 0 0], .bool true, .func (.func 62) #[] #[.pointer (some ⟨w.heap.size, 0, none⟩)]] W fun e w' => e = .returned (.tuple #[.agg #[.int .u32 (numO xs 0 4 : Int), .int .u32 (numO xs 4 4 : Int), .int .u16 (numO xs 8 2 : Int), .int .u16 (numO xs 10 2 : Int), .int .u32 (numO xs 12 4 : Int), .slice none 0 0], .int .i64 0]) ∧ Below W.heap.size W w') := Lib.hid fun W hW hB => checkedI_yes k f A n c (numO xs 0 4) (numO xs 4 4) (numO xs 8 2) (numO xs 10 2) (numO xs 12 4) none 0 0 w.heap.size xs (bodyI k ⟨numO xs 0 4, numO xs 4 4, numO xs 8 2, numO xs 10 2, numO xs 12 4, []⟩) k 0 W hx ((hr.below hW).more hW.size) hd (fun W2 h2 => getInit1_any k f A n c w.heap.size _ _ _ _ _ _ hi0b hi4b hi8b hi10b hi12b none 0 0 W2 (by omega) rfl (Rd.nil _ _ _) (hB.below h2 hB.lt))
  obtain ⟨i0, ei0⟩ : ∃ i0, i0 = numO xs 0 4 := ⟨_, rfl⟩
  rw [← ei0] at Hi0 hi0b HCK HII ⊢
  obtain ⟨i4, ei4⟩ : ∃ i4, i4 = numO xs 4 4 := ⟨_, rfl⟩
  rw [← ei4] at Hi4 hi4b HCK HII ⊢
  obtain ⟨i8, ei8⟩ : ∃ i8, i8 = numO xs 8 2 := ⟨_, rfl⟩
  rw [← ei8] at Hi8 hi8b HCK HII ⊢
  obtain ⟨i10, ei10⟩ : ∃ i10, i10 = numO xs 10 2 := ⟨_, rfl⟩
  rw [← ei10] at Hi10 hi10b HCK HII ⊢
  obtain ⟨i12, ei12⟩ : ∃ i12, i12 = numO xs 12 4 := ⟨_, rfl⟩
  rw [← ei12] at Hi12 hi12b HCK HII ⊢
  have hk2 : ((k.toNat : Int) == 2) = false := kind_ne (m := 2) hk
  clear hx hr hra hok hv hcko hpi hd hk ei0 ei4 ei8 ei10 ei12
  have hmf : ∀ (fn : Fn) (first cap : Array Value) (w : World), (Instr.makeFunc fn first cap).run Try.prog w = .ok (.func fn first cap) w := fun _ _ _ _ => rfl
  have b0 : Blk (w.alloc (.cells #[.int .u8 (k.toNat : Int), .int .u8 (f.toNat : Int), .slice A n c] 28)) w.heap.size 28 #[.int .u8 (k.toNat : Int), .int .u8 (f.toNat : Int), .slice A n c] := Blk.new w 28 #[.int .u8 (k.toNat : Int), .int .u8 (f.toNat : Int), .slice A n c]
  have b1 : Blk ((w.alloc (.cells #[.int .u8 (k.toNat : Int), .int .u8 (f.toNat : Int), .slice A n c] 28)).alloc (.cells #[.int .u32 0, .int .u32 0, .int .u16 0, .int .u16 0, .int .u32 0, .slice none 0 0] 43)) (w.heap.size + 1) 43 #[.int .u32 0, .int .u32 0, .int .u16 0, .int .u16 0, .int .u32 0, .slice none 0 0] := by simpa using Blk.new (w.alloc (.cells #[.int .u8 (k.toNat : Int), .int .u8 (f.toNat : Int), .slice A n c] 28)) 43 #[.int .u32 0, .int .u32 0, .int .u16 0, .int .u16 0, .int .u32 0, .slice none 0 0]
  have K0 := Lib.hid (b0.alloc (.cells #[.int .u32 0, .int .u32 0, .int .u16 0, .int .u16 0, .int .u32 0, .slice none 0 0] 43))
  have K1 := Lib.hid b1
  have B0 : Hid (Below w.heap.size w ((w.alloc (.cells #[.int .u8 (k.toNat : Int), .int .u8 (f.toNat : Int), .slice A n c] 28)).alloc (.cells #[.int .u32 0, .int .u32 0, .int .u16 0, .int .u16 0, .int .u32 0, .slice none 0 0] 43))) := Lib.hid (Wr.below_ (((Wr.refl 5 w.heap.size w).alloc (.cells #[.int .u8 (k.toNat : Int), .int .u8 (f.toNat : Int), .slice A n c] 28)).alloc (.cells #[.int .u32 0, .int .u32 0, .int .u16 0, .int .u16 0, .int .u32 0, .slice none 0 0] 43)) (Nat.le_refl _))
  clear b0 b1
  go_enter Try.func24, Try.ntmps24
  rw [drawn_eq 1, drawn_eq 6]
  go_wp2_with fail
  generalize ((w.alloc (.cells #[.int .u8 (k.toNat : Int), .int .u8 (f.toNat : Int), .slice A n c] 28)).alloc (.cells #[.int .u32 0, .int .u32 0, .int .u16 0, .int .u16 0, .int .u32 0, .slice none 0 0] 43)) = v0 at K0 K1 B0 ⊢
  rw [← drawn_eq 1]
  refine wp_region_grow_tail 17 (by kernel_rfl) [(Is (.pointer (some ⟨w.heap.size, 2, none⟩))), (Is (.slice A n c)), (Is (.int .u32 (i0 : Int))), (Is (.pointer (some ⟨w.heap.size, 2, none⟩))), (Is (.slice A n c)), (Is (.int .u32 (i4 : Int))), (Is (.pointer (some ⟨w.heap.size, 2, none⟩))), (Is (.slice A n c)), (Is (.int .u16 (i8 : Int))), (Is (.pointer (some ⟨w.heap.size, 2, none⟩))), (Is (.slice A n c)), (Is (.int .u16 (i10 : Int))), (Is (.pointer (some ⟨w.heap.size, 2, none⟩))), (Is (.slice A n c)), (Is (.int .u32 (i12 : Int))), (Is (.agg #[.int .u32 (i0 : Int), .int .u32 (i4 : Int), .int .u16 (i8 : Int), .int .u16 (i10 : Int), .int .u32 (i12 : Int), .slice none 0 0])), (NewBlk v0.heap.size 43 #[.int .u32 0, .int .u32 0, .int .u16 0, .int .u16 0, .int .u32 0, .slice none 0 0])] rfl ?_ (by kernel_rfl) (by kernel_rfl) ?_ ?_
  · intro p hp
    simp only [List.mem_cons, List.not_mem_nil, or_false] at hp
    rcases hp with rfl | rfl | rfl | rfl | rfl | rfl | rfl | rfl | rfl | rfl | rfl | rfl | rfl | rfl | rfl | rfl | rfl
    · exact Lasts.is _
    · exact Lasts.is _
    · exact Lasts.is _
    · exact Lasts.is _
    · exact Lasts.is _
    · exact Lasts.is _
    · exact Lasts.is _
    · exact Lasts.is _
    · exact Lasts.is _
    · exact Lasts.is _
    · exact Lasts.is _
    · exact Lasts.is _
    · exact Lasts.is _
    · exact Lasts.is _
    · exact Lasts.is _
    · exact Lasts.is _
    · exact Lasts.newBlk _ _ _
  · refine ⟨?_, ?_, ?_, ?_, ?_, ?_, ?_, ?_, ?_, ?_, ?_, ?_, ?_, ?_, ?_, ?_, ?_, trivial⟩
    · intro listed a w1 hl hc
      have h1 : a.tmps[1]?.getD undef = .pointer (some ⟨w.heap.size, 0, none⟩) := (hc.was 1 (by kernel_rfl)).trans rfl
      refine does_value rfl rfl (.pointer (some ⟨w.heap.size, 2, none⟩)) w1 ?_ (Below.refl _ _) rfl
      clear hc hl
      go_simp
    · intro listed a w1 hl hc
      have h7 : a.tmps[7]?.getD undef = .pointer (some ⟨w.heap.size, 2, none⟩) := hc.dep hl 0 7 rfl (by kernel_rfl)
      have kb := K0.out.below hc.g K0.out.lt
      have x2 : w1.cell? ⟨w.heap.size, 2, none⟩ = some (.slice A n c) := kb.cell 2
      clear kb
      refine does_value rfl rfl (.slice A n c) w1 ?_ (Below.refl _ _) rfl
      clear hc hl
      go_simp
    · intro listed a w1 hl hc
      have h8 : a.tmps[8]?.getD undef = .slice A n c := hc.dep hl 1 8 rfl (by kernel_rfl)
      refine does_call rfl rfl 52 #[.slice A n c, .int .i64 0] ?_ ((Hi0.out w1 (B0.out.trans (hc.g.mono B0.out.size))).mono fun e w' ⟨he, hb⟩ => ⟨_, he, hb, rfl⟩)
      clear hc hl
      go_simp
    · intro listed a w1 hl hc
      have h1 : a.tmps[1]?.getD undef = .pointer (some ⟨w.heap.size, 0, none⟩) := (hc.was 1 (by kernel_rfl)).trans rfl
      refine does_value rfl rfl (.pointer (some ⟨w.heap.size, 2, none⟩)) w1 ?_ (Below.refl _ _) rfl
      clear hc hl
      go_simp
    · intro listed a w1 hl hc
      have h10 : a.tmps[10]?.getD undef = .pointer (some ⟨w.heap.size, 2, none⟩) := hc.dep hl 3 10 rfl (by kernel_rfl)
      have kb := K0.out.below hc.g K0.out.lt
      have x2 : w1.cell? ⟨w.heap.size, 2, none⟩ = some (.slice A n c) := kb.cell 2
      clear kb
      refine does_value rfl rfl (.slice A n c) w1 ?_ (Below.refl _ _) rfl
      clear hc hl
      go_simp
    · intro listed a w1 hl hc
      have h11 : a.tmps[11]?.getD undef = .slice A n c := hc.dep hl 4 11 rfl (by kernel_rfl)
      refine does_call rfl rfl 52 #[.slice A n c, .int .i64 4] ?_ ((Hi4.out w1 (B0.out.trans (hc.g.mono B0.out.size))).mono fun e w' ⟨he, hb⟩ => ⟨_, he, hb, rfl⟩)
      clear hc hl
      go_simp
    · intro listed a w1 hl hc
      have h1 : a.tmps[1]?.getD undef = .pointer (some ⟨w.heap.size, 0, none⟩) := (hc.was 1 (by kernel_rfl)).trans rfl
      refine does_value rfl rfl (.pointer (some ⟨w.heap.size, 2, none⟩)) w1 ?_ (Below.refl _ _) rfl
      clear hc hl
      go_simp
    · intro listed a w1 hl hc
      have h13 : a.tmps[13]?.getD undef = .pointer (some ⟨w.heap.size, 2, none⟩) := hc.dep hl 6 13 rfl (by kernel_rfl)
      have kb := K0.out.below hc.g K0.out.lt
      have x2 : w1.cell? ⟨w.heap.size, 2, none⟩ = some (.slice A n c) := kb.cell 2
      clear kb
      refine does_value rfl rfl (.slice A n c) w1 ?_ (Below.refl _ _) rfl
      clear hc hl
      go_simp
    · intro listed a w1 hl hc
      have h14 : a.tmps[14]?.getD undef = .slice A n c := hc.dep hl 7 14 rfl (by kernel_rfl)
      refine does_call rfl rfl 53 #[.slice A n c, .int .i64 8] ?_ ((Hi8.out w1 (B0.out.trans (hc.g.mono B0.out.size))).mono fun e w' ⟨he, hb⟩ => ⟨_, he, hb, rfl⟩)
      clear hc hl
      go_simp
    · intro listed a w1 hl hc
      have h1 : a.tmps[1]?.getD undef = .pointer (some ⟨w.heap.size, 0, none⟩) := (hc.was 1 (by kernel_rfl)).trans rfl
      refine does_value rfl rfl (.pointer (some ⟨w.heap.size, 2, none⟩)) w1 ?_ (Below.refl _ _) rfl
      clear hc hl
      go_simp
    · intro listed a w1 hl hc
      have h16 : a.tmps[16]?.getD undef = .pointer (some ⟨w.heap.size, 2, none⟩) := hc.dep hl 9 16 rfl (by kernel_rfl)
      have kb := K0.out.below hc.g K0.out.lt
      have x2 : w1.cell? ⟨w.heap.size, 2, none⟩ = some (.slice A n c) := kb.cell 2
      clear kb
      refine does_value rfl rfl (.slice A n c) w1 ?_ (Below.refl _ _) rfl
      clear hc hl
      go_simp
    · intro listed a w1 hl hc
      have h17 : a.tmps[17]?.getD undef = .slice A n c := hc.dep hl 10 17 rfl (by kernel_rfl)
      refine does_call rfl rfl 53 #[.slice A n c, .int .i64 10] ?_ ((Hi10.out w1 (B0.out.trans (hc.g.mono B0.out.size))).mono fun e w' ⟨he, hb⟩ => ⟨_, he, hb, rfl⟩)
      clear hc hl
      go_simp
    · intro listed a w1 hl hc
      have h1 : a.tmps[1]?.getD undef = .pointer (some ⟨w.heap.size, 0, none⟩) := (hc.was 1 (by kernel_rfl)).trans rfl
      refine does_value rfl rfl (.pointer (some ⟨w.heap.size, 2, none⟩)) w1 ?_ (Below.refl _ _) rfl
      clear hc hl
      go_simp
    · intro listed a w1 hl hc
      have h19 : a.tmps[19]?.getD undef = .pointer (some ⟨w.heap.size, 2, none⟩) := hc.dep hl 12 19 rfl (by kernel_rfl)
      have kb := K0.out.below hc.g K0.out.lt
      have x2 : w1.cell? ⟨w.heap.size, 2, none⟩ = some (.slice A n c) := kb.cell 2
      clear kb
      refine does_value rfl rfl (.slice A n c) w1 ?_ (Below.refl _ _) rfl
      clear hc hl
      go_simp
    · intro listed a w1 hl hc
      have h20 : a.tmps[20]?.getD undef = .slice A n c := hc.dep hl 13 20 rfl (by kernel_rfl)
      refine does_call rfl rfl 52 #[.slice A n c, .int .i64 12] ?_ ((Hi12.out w1 (B0.out.trans (hc.g.mono B0.out.size))).mono fun e w' ⟨he, hb⟩ => ⟨_, he, hb, rfl⟩)
      clear hc hl
      go_simp
    · intro listed a w1 hl hc
      have h9 : a.tmps[9]?.getD undef = .int .u32 (i0 : Int) := hc.dep hl 2 9 rfl (by kernel_rfl)
      have h12 : a.tmps[12]?.getD undef = .int .u32 (i4 : Int) := hc.dep hl 5 12 rfl (by kernel_rfl)
      have h15 : a.tmps[15]?.getD undef = .int .u16 (i8 : Int) := hc.dep hl 8 15 rfl (by kernel_rfl)
      have h18 : a.tmps[18]?.getD undef = .int .u16 (i10 : Int) := hc.dep hl 11 18 rfl (by kernel_rfl)
      have h21 : a.tmps[21]?.getD undef = .int .u32 (i12 : Int) := hc.dep hl 14 21 rfl (by kernel_rfl)
      refine does_value rfl rfl (.agg #[.int .u32 (i0 : Int), .int .u32 (i4 : Int), .int .u16 (i8 : Int), .int .u16 (i10 : Int), .int .u32 (i12 : Int), .slice none 0 0]) w1 ?_ (Below.refl _ _) rfl
      clear hc hl
      go_simp
    · intro listed a w1 hl hc
      refine does_value rfl rfl (.pointer (some ⟨w1.heap.size, 0, none⟩)) (w1.alloc (.cells #[.int .u32 0, .int .u32 0, .int .u16 0, .int .u16 0, .int .u32 0, .slice none 0 0] 43)) ?_ (below_new w1 _) ⟨_, rfl, hc.g.size, Blk.new _ _ _⟩
      clear hc hl
      go_simp
  intro w2 hb2
  rintro _ rfl _ rfl _ rfl _ rfl _ rfl _ rfl _ rfl _ rfl _ rfl _ rfl _ rfl _ rfl _ rfl _ rfl _ rfl _ rfl _ ⟨g4, rfl, hg4, hb4⟩
  simp only [Thus, List.reverse_cons, List.reverse_nil, List.nil_append, List.cons_append, List.drop, List.take, lay]
  go_frame
  have hl0 := K0.out.lt
  have hl1 := K1.out.lt
  have HG := Lib.hid hb4
  have hge : w.heap.size ≤ g4 := by omega
  have y0 := HG.out.cell 0
  have y1 := HG.out.cell 1
  have y2 := HG.out.cell 2
  have y3 := HG.out.cell 3
  have y4 := HG.out.cell 4
  have y5 := HG.out.cell 5
  have z0 := HG.out.frozen 0
  have z1 := HG.out.frozen 1
  have z2 := HG.out.frozen 2
  have z3 := HG.out.frozen 3
  have z4 := HG.out.frozen 4
  have z5 := HG.out.frozen 5
  have G3 : Hid (Blk ((((((w2.setCell ⟨g4, 0, none⟩ (.int .u32 (i0 : Int))).setCell ⟨g4, 1, none⟩ (.int .u32 (i4 : Int))).setCell ⟨g4, 2, none⟩ (.int .u16 (i8 : Int))).setCell ⟨g4, 3, none⟩ (.int .u16 (i10 : Int))).setCell ⟨g4, 4, none⟩ (.int .u32 (i12 : Int))).setCell ⟨g4, 5, none⟩ (.slice none 0 0)) g4 43 #[.int .u32 (i0 : Int), .int .u32 (i4 : Int), .int .u16 (i8 : Int), .int .u16 (i10 : Int), .int .u32 (i12 : Int), .slice none 0 0]) := Lib.hid ((((((hb4.set_ 0 (.int .u32 (i0 : Int))).set_ 1 (.int .u32 (i4 : Int))).set_ 2 (.int .u16 (i8 : Int))).set_ 3 (.int .u16 (i10 : Int))).set_ 4 (.int .u32 (i12 : Int))).set_ 5 (.slice none 0 0))
  have K0b := Lib.hid (((((((K0.out.below hb2 K0.out.lt).far (p := ⟨g4, 0, none⟩) (show w.heap.size ≠ g4 by omega) (.int .u32 (i0 : Int))).far (p := ⟨g4, 1, none⟩) (show w.heap.size ≠ g4 by omega) (.int .u32 (i4 : Int))).far (p := ⟨g4, 2, none⟩) (show w.heap.size ≠ g4 by omega) (.int .u16 (i8 : Int))).far (p := ⟨g4, 3, none⟩) (show w.heap.size ≠ g4 by omega) (.int .u16 (i10 : Int))).far (p := ⟨g4, 4, none⟩) (show w.heap.size ≠ g4 by omega) (.int .u32 (i12 : Int))).far (p := ⟨g4, 5, none⟩) (show w.heap.size ≠ g4 by omega) (.slice none 0 0))
  have K1b := Lib.hid (((((((K1.out.below hb2 K1.out.lt).far (p := ⟨g4, 0, none⟩) (show w.heap.size + 1 ≠ g4 by omega) (.int .u32 (i0 : Int))).far (p := ⟨g4, 1, none⟩) (show w.heap.size + 1 ≠ g4 by omega) (.int .u32 (i4 : Int))).far (p := ⟨g4, 2, none⟩) (show w.heap.size + 1 ≠ g4 by omega) (.int .u16 (i8 : Int))).far (p := ⟨g4, 3, none⟩) (show w.heap.size + 1 ≠ g4 by omega) (.int .u16 (i10 : Int))).far (p := ⟨g4, 4, none⟩) (show w.heap.size + 1 ≠ g4 by omega) (.int .u32 (i12 : Int))).far (p := ⟨g4, 5, none⟩) (show w.heap.size + 1 ≠ g4 by omega) (.slice none 0 0))
  have B3 := Lib.hid (((((((below_then B0.out (Nat.le_refl _) hb2).setCell (p := ⟨g4, 0, none⟩) (show w.heap.size ≤ g4 by omega) (.int .u32 (i0 : Int))).setCell (p := ⟨g4, 1, none⟩) (show w.heap.size ≤ g4 by omega) (.int .u32 (i4 : Int))).setCell (p := ⟨g4, 2, none⟩) (show w.heap.size ≤ g4 by omega) (.int .u16 (i8 : Int))).setCell (p := ⟨g4, 3, none⟩) (show w.heap.size ≤ g4 by omega) (.int .u16 (i10 : Int))).setCell (p := ⟨g4, 4, none⟩) (show w.heap.size ≤ g4 by omega) (.int .u32 (i12 : Int))).setCell (p := ⟨g4, 5, none⟩) (show w.heap.size ≤ g4 by omega) (.slice none 0 0))
  have hgl : g4 < w2.heap.size := hb4.lt
  clear hb2 hb4 K0 K1 B0 HG
  have x0 := K0b.out.cell 0
  have x1 := K0b.out.cell 1
  have x2 := K0b.out.cell 2
  go_wp2_with fail
  generalize ((((((w2.setCell ⟨g4, 0, none⟩ (.int .u32 (i0 : Int))).setCell ⟨g4, 1, none⟩ (.int .u32 (i4 : Int))).setCell ⟨g4, 2, none⟩ (.int .u16 (i8 : Int))).setCell ⟨g4, 3, none⟩ (.int .u16 (i10 : Int))).setCell ⟨g4, 4, none⟩ (.int .u32 (i12 : Int))).setCell ⟨g4, 5, none⟩ (.slice none 0 0)) = v3 at G3 K0b K1b B3 ⊢
  clear hgl y0 z0 y1 z1 y2 z2 y3 z3 y4 z4 y5 z5
  clear x0 x1 x2
  rw [← drawn_eq 6]
  refine wp_region_grow_tail 10 (by kernel_rfl) [(Is (.agg #[.int .u8 (k.toNat : Int), .int .u8 (f.toNat : Int), .slice A n c])), (Is (.agg #[.int .u32 (i0 : Int), .int .u32 (i4 : Int), .int .u16 (i8 : Int), .int .u16 (i10 : Int), .int .u32 (i12 : Int), .slice none 0 0])), (Is (.pointer (some ⟨w.heap.size, 0, none⟩))), (Is (.int .u8 (k.toNat : Int))), (Is (.agg #[.int .u32 (i0 : Int), .int .u32 (i4 : Int), .int .u16 (i8 : Int), .int .u16 (i10 : Int), .int .u32 (i12 : Int), .slice none 0 0])), (Is (.bool true)), (Is (.func (.func 62) #[] #[.pointer (some ⟨w.heap.size, 0, none⟩)])), (Is (.tuple #[.agg #[.int .u32 (i0 : Int), .int .u32 (i4 : Int), .int .u16 (i8 : Int), .int .u16 (i10 : Int), .int .u32 (i12 : Int), .slice none 0 0], .int .i64 0])), (Is (.agg #[.int .u32 (i0 : Int), .int .u32 (i4 : Int), .int .u16 (i8 : Int), .int .u16 (i10 : Int), .int .u32 (i12 : Int), .slice none 0 0])), (Is (.int .i64 0))] rfl ?_ (by kernel_rfl) (by kernel_rfl) ?_ ?_
  · intro p hp
    simp only [List.mem_cons, List.not_mem_nil, or_false] at hp
    rcases hp with rfl | rfl | rfl | rfl | rfl | rfl | rfl | rfl | rfl | rfl
    · exact Lasts.is _
    · exact Lasts.is _
    · exact Lasts.is _
    · exact Lasts.is _
    · exact Lasts.is _
    · exact Lasts.is _
    · exact Lasts.is _
    · exact Lasts.is _
    · exact Lasts.is _
    · exact Lasts.is _
  · refine ⟨?_, ?_, ?_, ?_, ?_, ?_, ?_, ?_, ?_, ?_, trivial⟩
    · intro listed a w1 hl hc
      have h1 : a.tmps[1]?.getD undef = .pointer (some ⟨w.heap.size, 0, none⟩) := (hc.was 1 (by kernel_rfl)).trans rfl
      have kb := K0b.out.below hc.g K0b.out.lt
      have x0 : w1.cell? ⟨w.heap.size, 0, none⟩ = some (.int .u8 (k.toNat : Int)) := kb.cell 0
      have x1 : w1.cell? ⟨w.heap.size, 1, none⟩ = some (.int .u8 (f.toNat : Int)) := kb.cell 1
      have x2 : w1.cell? ⟨w.heap.size, 2, none⟩ = some (.slice A n c) := kb.cell 2
      clear kb
      refine does_value rfl rfl (.agg #[.int .u8 (k.toNat : Int), .int .u8 (f.toNat : Int), .slice A n c]) w1 ?_ (Below.refl _ _) rfl
      clear hc hl
      go_simp
    · intro listed a w1 hl hc
      have h4 : a.tmps[4]?.getD undef = .pointer (some ⟨g4, 0, none⟩) := (hc.was 4 (by kernel_rfl)).trans rfl
      have kb := G3.out.below hc.g G3.out.lt
      have x0 : w1.cell? ⟨g4, 0, none⟩ = some (.int .u32 (i0 : Int)) := kb.cell 0
      have x1 : w1.cell? ⟨g4, 1, none⟩ = some (.int .u32 (i4 : Int)) := kb.cell 1
      have x2 : w1.cell? ⟨g4, 2, none⟩ = some (.int .u16 (i8 : Int)) := kb.cell 2
      have x3 : w1.cell? ⟨g4, 3, none⟩ = some (.int .u16 (i10 : Int)) := kb.cell 3
      have x4 : w1.cell? ⟨g4, 4, none⟩ = some (.int .u32 (i12 : Int)) := kb.cell 4
      have x5 : w1.cell? ⟨g4, 5, none⟩ = some (.slice none 0 0) := kb.cell 5
      clear kb
      refine does_value rfl rfl (.agg #[.int .u32 (i0 : Int), .int .u32 (i4 : Int), .int .u16 (i8 : Int), .int .u16 (i10 : Int), .int .u32 (i12 : Int), .slice none 0 0]) w1 ?_ (Below.refl _ _) rfl
      clear hc hl
      go_simp
    · intro listed a w1 hl hc
      have h1 : a.tmps[1]?.getD undef = .pointer (some ⟨w.heap.size, 0, none⟩) := (hc.was 1 (by kernel_rfl)).trans rfl
      refine does_value rfl rfl (.pointer (some ⟨w.heap.size, 0, none⟩)) w1 ?_ (Below.refl _ _) rfl
      clear hc hl
      go_simp
    · intro listed a w1 hl hc
      have h42 : a.tmps[42]?.getD undef = .pointer (some ⟨w.heap.size, 0, none⟩) := hc.dep hl 2 42 rfl (by kernel_rfl)
      have kb := K0b.out.below hc.g K0b.out.lt
      have x0 : w1.cell? ⟨w.heap.size, 0, none⟩ = some (.int .u8 (k.toNat : Int)) := kb.cell 0
      clear kb
      refine does_value rfl rfl (.int .u8 (k.toNat : Int)) w1 ?_ (Below.refl _ _) rfl
      clear hc hl
      go_simp
    · intro listed a w1 hl hc
      have h4 : a.tmps[4]?.getD undef = .pointer (some ⟨g4, 0, none⟩) := (hc.was 4 (by kernel_rfl)).trans rfl
      have kb := G3.out.below hc.g G3.out.lt
      have x0 : w1.cell? ⟨g4, 0, none⟩ = some (.int .u32 (i0 : Int)) := kb.cell 0
      have x1 : w1.cell? ⟨g4, 1, none⟩ = some (.int .u32 (i4 : Int)) := kb.cell 1
      have x2 : w1.cell? ⟨g4, 2, none⟩ = some (.int .u16 (i8 : Int)) := kb.cell 2
      have x3 : w1.cell? ⟨g4, 3, none⟩ = some (.int .u16 (i10 : Int)) := kb.cell 3
      have x4 : w1.cell? ⟨g4, 4, none⟩ = some (.int .u32 (i12 : Int)) := kb.cell 4
      have x5 : w1.cell? ⟨g4, 5, none⟩ = some (.slice none 0 0) := kb.cell 5
      clear kb
      refine does_value rfl rfl (.agg #[.int .u32 (i0 : Int), .int .u32 (i4 : Int), .int .u16 (i8 : Int), .int .u16 (i10 : Int), .int .u32 (i12 : Int), .slice none 0 0]) w1 ?_ (Below.refl _ _) rfl
      clear hc hl
      go_simp
    · intro listed a w1 hl hc
      have h43 : a.tmps[43]?.getD undef = .int .u8 (k.toNat : Int) := hc.dep hl 3 43 rfl (by kernel_rfl)
      have h44 : a.tmps[44]?.getD undef = .agg #[.int .u32 (i0 : Int), .int .u32 (i4 : Int), .int .u16 (i8 : Int), .int .u16 (i10 : Int), .int .u32 (i12 : Int), .slice none 0 0] := hc.dep hl 4 44 rfl (by kernel_rfl)
      refine does_call rfl rfl 64 #[.int .u8 (k.toNat : Int), .agg #[.int .u32 (i0 : Int), .int .u32 (i4 : Int), .int .u16 (i8 : Int), .int .u16 (i10 : Int), .int .u32 (i12 : Int), .slice none 0 0]] ?_ ((HII.out w1).mono fun e w' ⟨he, hb⟩ => ⟨_, he, hb, rfl⟩)
      clear hc hl
      go_simp
    · intro listed a w1 hl hc
      have h6 : a.tmps[6]?.getD undef = .func (.func 62) #[] #[.pointer (some ⟨w.heap.size, 0, none⟩)] := (hc.was 6 (by kernel_rfl)).trans rfl
      refine does_value rfl rfl (.func (.func 62) #[] #[.pointer (some ⟨w.heap.size, 0, none⟩)]) w1 ?_ (Below.refl _ _) rfl
      clear hc hl
      go_simp
    · intro listed a w1 hl hc
      have h40 : a.tmps[40]?.getD undef = .agg #[.int .u8 (k.toNat : Int), .int .u8 (f.toNat : Int), .slice A n c] := hc.dep hl 0 40 rfl (by kernel_rfl)
      have h41 : a.tmps[41]?.getD undef = .agg #[.int .u32 (i0 : Int), .int .u32 (i4 : Int), .int .u16 (i8 : Int), .int .u16 (i10 : Int), .int .u32 (i12 : Int), .slice none 0 0] := hc.dep hl 1 41 rfl (by kernel_rfl)
      have h45 : a.tmps[45]?.getD undef = .bool true := hc.dep hl 5 45 rfl (by kernel_rfl)
      have h46 : a.tmps[46]?.getD undef = .func (.func 62) #[] #[.pointer (some ⟨w.heap.size, 0, none⟩)] := hc.dep hl 6 46 rfl (by kernel_rfl)
      refine does_call rfl rfl 63 #[.agg #[.int .u8 (k.toNat : Int), .int .u8 (f.toNat : Int), .slice A n c], .agg #[.int .u32 (i0 : Int), .int .u32 (i4 : Int), .int .u16 (i8 : Int), .int .u16 (i10 : Int), .int .u32 (i12 : Int), .slice none 0 0], .bool true, .func (.func 62) #[] #[.pointer (some ⟨w.heap.size, 0, none⟩)]] ?_ ((HCK.out w1 (B3.out.trans (hc.g.mono B3.out.size)) (K0b.out.below hc.g K0b.out.lt)).mono fun e w' ⟨he, hb⟩ => ⟨_, he, hb, rfl⟩)
      clear hc hl
      go_simp
    · intro listed a w1 hl hc
      have h47 : a.tmps[47]?.getD undef = .tuple #[.agg #[.int .u32 (i0 : Int), .int .u32 (i4 : Int), .int .u16 (i8 : Int), .int .u16 (i10 : Int), .int .u32 (i12 : Int), .slice none 0 0], .int .i64 0] := hc.dep hl 7 47 rfl (by kernel_rfl)
      refine does_value rfl rfl (.agg #[.int .u32 (i0 : Int), .int .u32 (i4 : Int), .int .u16 (i8 : Int), .int .u16 (i10 : Int), .int .u32 (i12 : Int), .slice none 0 0]) w1 ?_ (Below.refl _ _) rfl
      clear hc hl
      go_simp
    · intro listed a w1 hl hc
      have h47 : a.tmps[47]?.getD undef = .tuple #[.agg #[.int .u32 (i0 : Int), .int .u32 (i4 : Int), .int .u16 (i8 : Int), .int .u16 (i10 : Int), .int .u32 (i12 : Int), .slice none 0 0], .int .i64 0] := hc.dep hl 7 47 rfl (by kernel_rfl)
      refine does_value rfl rfl (.int .i64 0) w1 ?_ (Below.refl _ _) rfl
      clear hc hl
      go_simp
  intro w2 hb2
  rintro _ rfl _ rfl _ rfl _ rfl _ rfl _ rfl _ rfl _ rfl _ rfl _ rfl
  simp only [Thus, List.reverse_cons, List.reverse_nil, List.nil_append, List.cons_append, List.drop, List.take, lay]
  go_frame
  have K1e := Lib.hid (K1b.out.below hb2 K1b.out.lt)
  have B6 := Lib.hid (below_then B3.out (Nat.le_refl _) hb2)
  clear hb2 K1b B3
  have y0 := K1e.out.cell 0
  have y1 := K1e.out.cell 1
  have y2 := K1e.out.cell 2
  have y3 := K1e.out.cell 3
  have y4 := K1e.out.cell 4
  have y5 := K1e.out.cell 5
  have z0 := K1e.out.frozen 0
  have z1 := K1e.out.frozen 1
  have z2 := K1e.out.frozen 2
  have z3 := K1e.out.frozen 3
  have z4 := K1e.out.frozen 4
  have z5 := K1e.out.frozen 5
  go_wp2_with fail
  have H3 := ((((((K1e.out.set_ 0 (.int .u32 (i0 : Int))).set_ 1 (.int .u32 (i4 : Int))).set_ 2 (.int .u16 (i8 : Int))).set_ 3 (.int .u16 (i10 : Int))).set_ 4 (.int .u32 (i12 : Int))).set_ 5 (.slice none 0 0))
  exact bodyPost_ret (v := .tuple #[.agg #[.int .u32 (i0 : Int), .int .u32 (i4 : Int), .int .u16 (i8 : Int), .int .u16 (i10 : Int), .int .u32 (i12 : Int), .slice none 0 0], .int .i64 0]) (by simp [results, Try.results24, go_sem, H3.cell]) rfl ⟨none, 0, 0, rfl, Own8.nil _ _ _, ((((((B6.out.setCell (p := ⟨w.heap.size + 1, 0, none⟩) (show w.heap.size ≤ w.heap.size + 1 by omega) (.int .u32 (i0 : Int))).setCell (p := ⟨w.heap.size + 1, 1, none⟩) (show w.heap.size ≤ w.heap.size + 1 by omega) (.int .u32 (i4 : Int))).setCell (p := ⟨w.heap.size + 1, 2, none⟩) (show w.heap.size ≤ w.heap.size + 1 by omega) (.int .u16 (i8 : Int))).setCell (p := ⟨w.heap.size + 1, 3, none⟩) (show w.heap.size ≤ w.heap.size + 1 by omega) (.int .u16 (i10 : Int))).setCell (p := ⟨w.heap.size + 1, 4, none⟩) (show w.heap.size ≤ w.heap.size + 1 by omega) (.int .u32 (i12 : Int))).setCell (p := ⟨w.heap.size + 1, 5, none⟩) (show w.heap.size ≤ w.heap.size + 1 by omega) (.slice none 0 0))⟩
set_option maxRecDepth 100000 in
set_option maxHeartbeats 4000000 in
theorem getInit_nocut_off (f : UInt8) (A : Option Addr) (n c : Nat) (xs : List UInt8) (w : World) (hn : n ≤ 140737488355200) (hc : n ≤ c) (hcm : c ≤ maxLen) (hx : xs.length = n) (hr : Rd w w.heap.size A xs) (hcut : ¬ (4 ≤ numO xs 18 2 ∧ 20 + (numO xs 18 2 - 4) ≤ n)) (hv : validI 2 (PI 2 xs) = false) :
    GetsI 24 #[.agg #[.int .u8 2, .int .u8 (f.toNat : Int), .slice A n c]] 2 f xs w := by
  have hz := zero_init
  have hcm' := hcm
  unfold maxLen at hcm'
  have hi0b : numO xs 0 4 < 4294967296 := numO_lt xs 0 4
  have Hi0 : Hid (∀ W, Below w.heap.size w W → Calls Try.prog 52 #[.slice A n c, .int .i64 0] W fun e w' => e = .returned (.int .u32 (numO xs 0 4)) ∧ Below W.heap.size W w') := Lib.hid fun W hW => (word_any A n c 0 xs W (by omega) (by omega) hx ((hr.below hW).more hW.size)).mono fun e w' ⟨he, hw⟩ => ⟨he, hw ▸ Below.refl _ _⟩
  have hi4b : numO xs 4 4 < 4294967296 := numO_lt xs 4 4
  have Hi4 : Hid (∀ W, Below w.heap.size w W → Calls Try.prog 52 #[.slice A n c, .int .i64 4] W fun e w' => e = .returned (.int .u32 (numO xs 4 4)) ∧ Below W.heap.size W w') := Lib.hid fun W hW => (word_any A n c 4 xs W (by omega) (by omega) hx ((hr.below hW).more hW.size)).mono fun e w' ⟨he, hw⟩ => ⟨he, hw ▸ Below.refl _ _⟩
  have hi8b : numO xs 8 2 < 65536 := numO_lt xs 8 2
  have Hi8 : Hid (∀ W, Below w.heap.size w W → Calls Try.prog 53 #[.slice A n c, .int .i64 8] W fun e w' => e = .returned (.int .u16 (numO xs 8 2)) ∧ Below W.heap.size W w') := Lib.hid fun W hW => (half_any A n c 8 xs W (by omega) (by omega) hx ((hr.below hW).more hW.size)).mono fun e w' ⟨he, hw⟩ => ⟨he, hw ▸ Below.refl _ _⟩
  have hi10b : numO xs 10 2 < 65536 := numO_lt xs 10 2
  have Hi10 : Hid (∀ W, Below w.heap.size w W → Calls Try.prog 53 #[.slice A n c, .int .i64 10] W fun e w' => e = .returned (.int .u16 (numO xs 10 2)) ∧ Below W.heap.size W w') := Lib.hid fun W hW => (half_any A n c 10 xs W (by omega) (by omega) hx ((hr.below hW).more hW.size)).mono fun e w' ⟨he, hw⟩ => ⟨he, hw ▸ Below.refl _ _⟩
  have hi12b : numO xs 12 4 < 4294967296 := numO_lt xs 12 4
  have Hi12 : Hid (∀ W, Below w.heap.size w W → Calls Try.prog 52 #[.slice A n c, .int .i64 12] W fun e w' => e = .returned (.int .u32 (numO xs 12 4)) ∧ Below W.heap.size W w') := Lib.hid fun W hW => (word_any A n c 12 xs W (by omega) (by omega) hx ((hr.below hW).more hW.size)).mono fun e w' ⟨he, hw⟩ => ⟨he, hw ▸ Below.refl _ _⟩
  have hcko : cookieOf 2 xs = [] := by unfold cookieOf; rw [if_neg (fun h => hcut ⟨h.2.1, by have := h.2.2; omega⟩)]
  have hpi : PI 2 xs = ⟨numO xs 0 4, numO xs 4 4, numO xs 8 2, numO xs 10 2, numO xs 12 4, []⟩ := by unfold PI; rw [hcko]
  have hok : okI 2 f xs = false := by unfold okI; rw [hv]; rfl
  have hra : ansI 2 f xs = noI := by unfold ansI; rw [hok]; rfl
  unfold GetsI
  rw [hok, hra]
  rw [hpi] at hv
  have HII : Hid (∀ W, Calls Try.prog 64 #[.int .u8 2, .agg #[.int .u32 (numO xs 0 4 : Int), .int .u32 (numO xs 4 4 : Int), .int .u16 (numO xs 8 2 : Int), .int .u16 (numO xs 10 2 : Int), .int .u32 (numO xs 12 4 : Int), .slice none 0 0]] W fun e w' => e = .returned (.bool false) ∧ Below W.heap.size W w') := Lib.hid fun W => by
    have := isInit_any 2 (numO xs 0 4) (numO xs 4 4) (numO xs 8 2) (numO xs 10 2) (numO xs 12 4) none 0 0 W
    unfold validI at hv
    rw [List.length_nil] at hv
    rw [hv] at this
    exact this
  have HCK : Hid (∀ W, Below w.heap.size w W → Blk W w.heap.size 28 #[.int .u8 2, .int .u8 (f.toNat : Int), .slice A n c] → Calls Try.prog 63 #[.agg #[.int .u8 2, .int .u8 (f.toNat : Int), .slice A n c], .agg #[.int .u32 (numO xs 0 4 : Int), .int .u32 (numO xs 4 4 : Int), .int .u16 (numO xs 8 2 : Int), .int .u16 (numO xs 10 2 : Int), .int .u32 (numO xs 12 4 : Int), .slice none 0 0], .bool false, .func (.func 62) #[] #[.pointer (some ⟨w.heap.size, 0, none⟩)]] W fun e w' => e = .returned (.tuple #[.agg #[.int .u32 0, .int .u32 0, .int .u16 0, .int .u16 0, .int .u32 0, .slice none 0 0], .int .i64 7]) ∧ Below W.heap.size W w') := Lib.hid fun W hW hB => checkedI_off 2 f A n c (numO xs 0 4) (numO xs 4 4) (numO xs 8 2) (numO xs 10 2) (numO xs 12 4) none 0 0 w.heap.size W
  have hlb : numO xs 18 2 < 65536 := numO_lt xs 18 2
  have HL : Hid (∀ W, Below w.heap.size w W → Calls Try.prog 53 #[.slice A n c, .int .i64 18] W fun e w' => e = .returned (.int .u16 (numO xs 18 2)) ∧ W = w') := Lib.hid fun W hW => half_any A n c 18 xs W (by omega) (by omega) hx ((hr.below hW).more hW.size)
  have HCUT : Hid (∀ W, Below w.heap.size w W → Calls Try.prog 54 #[.slice A n c, .int .i64 20, .int .i64 ((numO xs 18 2 : Int) - 4)] W fun e w' => e = .returned (.tuple #[.slice none 0 0, .bool false]) ∧ Below W.heap.size W w') := Lib.hid fun W hW => (cutNo A n c 20 ((numO xs 18 2 : Int) - 4) W (by unfold maxLen; omega) (fun ⟨h1, h2, h3, h4⟩ => hcut ⟨by omega, by omega⟩)).mono fun e w' ⟨he, hw⟩ => ⟨he, hw ▸ Below.refl _ _⟩
  obtain ⟨i0, ei0⟩ : ∃ i0, i0 = numO xs 0 4 := ⟨_, rfl⟩
  rw [← ei0] at Hi0 hi0b HCK HII
  obtain ⟨i4, ei4⟩ : ∃ i4, i4 = numO xs 4 4 := ⟨_, rfl⟩
  rw [← ei4] at Hi4 hi4b HCK HII
  obtain ⟨i8, ei8⟩ : ∃ i8, i8 = numO xs 8 2 := ⟨_, rfl⟩
  rw [← ei8] at Hi8 hi8b HCK HII
  obtain ⟨i10, ei10⟩ : ∃ i10, i10 = numO xs 10 2 := ⟨_, rfl⟩
  rw [← ei10] at Hi10 hi10b HCK HII
  obtain ⟨i12, ei12⟩ : ∃ i12, i12 = numO xs 12 4 := ⟨_, rfl⟩
  rw [← ei12] at Hi12 hi12b HCK HII
  obtain ⟨nl, enl⟩ : ∃ nl, nl = numO xs 18 2 := ⟨_, rfl⟩
  rw [← enl] at HL HCUT hlb
  clear hx hr hra hok hv hcko hpi enl hcut ei0 ei4 ei8 ei10 ei12
  have hmf : ∀ (fn : Fn) (first cap : Array Value) (w : World), (Instr.makeFunc fn first cap).run Try.prog w = .ok (.func fn first cap) w := fun _ _ _ _ => rfl
  have b0 : Blk (w.alloc (.cells #[.int .u8 2, .int .u8 (f.toNat : Int), .slice A n c] 28)) w.heap.size 28 #[.int .u8 2, .int .u8 (f.toNat : Int), .slice A n c] := Blk.new w 28 #[.int .u8 2, .int .u8 (f.toNat : Int), .slice A n c]
  have b1 : Blk ((w.alloc (.cells #[.int .u8 2, .int .u8 (f.toNat : Int), .slice A n c] 28)).alloc (.cells #[.int .u32 0, .int .u32 0, .int .u16 0, .int .u16 0, .int .u32 0, .slice none 0 0] 43)) (w.heap.size + 1) 43 #[.int .u32 0, .int .u32 0, .int .u16 0, .int .u16 0, .int .u32 0, .slice none 0 0] := by simpa using Blk.new (w.alloc (.cells #[.int .u8 2, .int .u8 (f.toNat : Int), .slice A n c] 28)) 43 #[.int .u32 0, .int .u32 0, .int .u16 0, .int .u16 0, .int .u32 0, .slice none 0 0]
  have K0 := Lib.hid (b0.alloc (.cells #[.int .u32 0, .int .u32 0, .int .u16 0, .int .u16 0, .int .u32 0, .slice none 0 0] 43))
  have K1 := Lib.hid b1
  have B0 : Hid (Below w.heap.size w ((w.alloc (.cells #[.int .u8 2, .int .u8 (f.toNat : Int), .slice A n c] 28)).alloc (.cells #[.int .u32 0, .int .u32 0, .int .u16 0, .int .u16 0, .int .u32 0, .slice none 0 0] 43))) := Lib.hid (Wr.below_ (((Wr.refl 5 w.heap.size w).alloc (.cells #[.int .u8 2, .int .u8 (f.toNat : Int), .slice A n c] 28)).alloc (.cells #[.int .u32 0, .int .u32 0, .int .u16 0, .int .u16 0, .int .u32 0, .slice none 0 0] 43)) (Nat.le_refl _))
  clear b0 b1
  go_enter Try.func24, Try.ntmps24
  rw [drawn_eq 1, drawn_eq 6]
  go_wp2_with fail
  generalize ((w.alloc (.cells #[.int .u8 2, .int .u8 (f.toNat : Int), .slice A n c] 28)).alloc (.cells #[.int .u32 0, .int .u32 0, .int .u16 0, .int .u16 0, .int .u32 0, .slice none 0 0] 43)) = v0 at K0 K1 B0 ⊢
  rw [← drawn_eq 1]
  refine wp_region_grow_tail 17 (by kernel_rfl) [(Is (.pointer (some ⟨w.heap.size, 2, none⟩))), (Is (.slice A n c)), (Is (.int .u32 (i0 : Int))), (Is (.pointer (some ⟨w.heap.size, 2, none⟩))), (Is (.slice A n c)), (Is (.int .u32 (i4 : Int))), (Is (.pointer (some ⟨w.heap.size, 2, none⟩))), (Is (.slice A n c)), (Is (.int .u16 (i8 : Int))), (Is (.pointer (some ⟨w.heap.size, 2, none⟩))), (Is (.slice A n c)), (Is (.int .u16 (i10 : Int))), (Is (.pointer (some ⟨w.heap.size, 2, none⟩))), (Is (.slice A n c)), (Is (.int .u32 (i12 : Int))), (Is (.agg #[.int .u32 (i0 : Int), .int .u32 (i4 : Int), .int .u16 (i8 : Int), .int .u16 (i10 : Int), .int .u32 (i12 : Int), .slice none 0 0])), (NewBlk v0.heap.size 43 #[.int .u32 0, .int .u32 0, .int .u16 0, .int .u16 0, .int .u32 0, .slice none 0 0])] rfl ?_ (by kernel_rfl) (by kernel_rfl) ?_ ?_
  · intro p hp
    simp only [List.mem_cons, List.not_mem_nil, or_false] at hp
    rcases hp with rfl | rfl | rfl | rfl | rfl | rfl | rfl | rfl | rfl | rfl | rfl | rfl | rfl | rfl | rfl | rfl | rfl
    · exact Lasts.is _
    · exact Lasts.is _
    · exact Lasts.is _
    · exact Lasts.is _
    · exact Lasts.is _
    · exact Lasts.is _
    · exact Lasts.is _
    · exact Lasts.is _
    · exact Lasts.is _
    · exact Lasts.is _
    · exact Lasts.is _
    · exact Lasts.is _
    · exact Lasts.is _
    · exact Lasts.is _
    · exact Lasts.is _
    · exact Lasts.is _
    · exact Lasts.newBlk _ _ _
  · refine ⟨?_, ?_, ?_, ?_, ?_, ?_, ?_, ?_, ?_, ?_, ?_, ?_, ?_, ?_, ?_, ?_, ?_, trivial⟩
    · intro listed a w1 hl hc
      have h1 : a.tmps[1]?.getD undef = .pointer (some ⟨w.heap.size, 0, none⟩) := (hc.was 1 (by kernel_rfl)).trans rfl
      refine does_value rfl rfl (.pointer (some ⟨w.heap.size, 2, none⟩)) w1 ?_ (Below.refl _ _) rfl
      clear hc hl
      go_simp
    · intro listed a w1 hl hc
      have h7 : a.tmps[7]?.getD undef = .pointer (some ⟨w.heap.size, 2, none⟩) := hc.dep hl 0 7 rfl (by kernel_rfl)
      have kb := K0.out.below hc.g K0.out.lt
      have x2 : w1.cell? ⟨w.heap.size, 2, none⟩ = some (.slice A n c) := kb.cell 2
      clear kb
      refine does_value rfl rfl (.slice A n c) w1 ?_ (Below.refl _ _) rfl
      clear hc hl
      go_simp
    · intro listed a w1 hl hc
      have h8 : a.tmps[8]?.getD undef = .slice A n c := hc.dep hl 1 8 rfl (by kernel_rfl)
      refine does_call rfl rfl 52 #[.slice A n c, .int .i64 0] ?_ ((Hi0.out w1 (B0.out.trans (hc.g.mono B0.out.size))).mono fun e w' ⟨he, hb⟩ => ⟨_, he, hb, rfl⟩)
      clear hc hl
      go_simp
    · intro listed a w1 hl hc
      have h1 : a.tmps[1]?.getD undef = .pointer (some ⟨w.heap.size, 0, none⟩) := (hc.was 1 (by kernel_rfl)).trans rfl
      refine does_value rfl rfl (.pointer (some ⟨w.heap.size, 2, none⟩)) w1 ?_ (Below.refl _ _) rfl
      clear hc hl
      go_simp
    · intro listed a w1 hl hc
      have h10 : a.tmps[10]?.getD undef = .pointer (some ⟨w.heap.size, 2, none⟩) := hc.dep hl 3 10 rfl (by kernel_rfl)
      have kb := K0.out.below hc.g K0.out.lt
      have x2 : w1.cell? ⟨w.heap.size, 2, none⟩ = some (.slice A n c) := kb.cell 2
      clear kb
      refine does_value rfl rfl (.slice A n c) w1 ?_ (Below.refl _ _) rfl
      clear hc hl
      go_simp
    · intro listed a w1 hl hc
      have h11 : a.tmps[11]?.getD undef = .slice A n c := hc.dep hl 4 11 rfl (by kernel_rfl)
      refine does_call rfl rfl 52 #[.slice A n c, .int .i64 4] ?_ ((Hi4.out w1 (B0.out.trans (hc.g.mono B0.out.size))).mono fun e w' ⟨he, hb⟩ => ⟨_, he, hb, rfl⟩)
      clear hc hl
      go_simp
    · intro listed a w1 hl hc
      have h1 : a.tmps[1]?.getD undef = .pointer (some ⟨w.heap.size, 0, none⟩) := (hc.was 1 (by kernel_rfl)).trans rfl
      refine does_value rfl rfl (.pointer (some ⟨w.heap.size, 2, none⟩)) w1 ?_ (Below.refl _ _) rfl
      clear hc hl
      go_simp
    · intro listed a w1 hl hc
      have h13 : a.tmps[13]?.getD undef = .pointer (some ⟨w.heap.size, 2, none⟩) := hc.dep hl 6 13 rfl (by kernel_rfl)
      have kb := K0.out.below hc.g K0.out.lt
      have x2 : w1.cell? ⟨w.heap.size, 2, none⟩ = some (.slice A n c) := kb.cell 2
      clear kb
      refine does_value rfl rfl (.slice A n c) w1 ?_ (Below.refl _ _) rfl
      clear hc hl
      go_simp
    · intro listed a w1 hl hc
      have h14 : a.tmps[14]?.getD undef = .slice A n c := hc.dep hl 7 14 rfl (by kernel_rfl)
      refine does_call rfl rfl 53 #[.slice A n c, .int .i64 8] ?_ ((Hi8.out w1 (B0.out.trans (hc.g.mono B0.out.size))).mono fun e w' ⟨he, hb⟩ => ⟨_, he, hb, rfl⟩)
      clear hc hl
      go_simp
    · intro listed a w1 hl hc
      have h1 : a.tmps[1]?.getD undef = .pointer (some ⟨w.heap.size, 0, none⟩) := (hc.was 1 (by kernel_rfl)).trans rfl
      refine does_value rfl rfl (.pointer (some ⟨w.heap.size, 2, none⟩)) w1 ?_ (Below.refl _ _) rfl
      clear hc hl
      go_simp
    · intro listed a w1 hl hc
      have h16 : a.tmps[16]?.getD undef = .pointer (some ⟨w.heap.size, 2, none⟩) := hc.dep hl 9 16 rfl (by kernel_rfl)
      have kb := K0.out.below hc.g K0.out.lt
      have x2 : w1.cell? ⟨w.heap.size, 2, none⟩ = some (.slice A n c) := kb.cell 2
      clear kb
      refine does_value rfl rfl (.slice A n c) w1 ?_ (Below.refl _ _) rfl
      clear hc hl
      go_simp
    · intro listed a w1 hl hc
      have h17 : a.tmps[17]?.getD undef = .slice A n c := hc.dep hl 10 17 rfl (by kernel_rfl)
      refine does_call rfl rfl 53 #[.slice A n c, .int .i64 10] ?_ ((Hi10.out w1 (B0.out.trans (hc.g.mono B0.out.size))).mono fun e w' ⟨he, hb⟩ => ⟨_, he, hb, rfl⟩)
      clear hc hl
      go_simp
    · intro listed a w1 hl hc
      have h1 : a.tmps[1]?.getD undef = .pointer (some ⟨w.heap.size, 0, none⟩) := (hc.was 1 (by kernel_rfl)).trans rfl
      refine does_value rfl rfl (.pointer (some ⟨w.heap.size, 2, none⟩)) w1 ?_ (Below.refl _ _) rfl
      clear hc hl
      go_simp
    · intro listed a w1 hl hc
      have h19 : a.tmps[19]?.getD undef = .pointer (some ⟨w.heap.size, 2, none⟩) := hc.dep hl 12 19 rfl (by kernel_rfl)
      have kb := K0.out.below hc.g K0.out.lt
      have x2 : w1.cell? ⟨w.heap.size, 2, none⟩ = some (.slice A n c) := kb.cell 2
      clear kb
      refine does_value rfl rfl (.slice A n c) w1 ?_ (Below.refl _ _) rfl
      clear hc hl
      go_simp
    · intro listed a w1 hl hc
      have h20 : a.tmps[20]?.getD undef = .slice A n c := hc.dep hl 13 20 rfl (by kernel_rfl)
      refine does_call rfl rfl 52 #[.slice A n c, .int .i64 12] ?_ ((Hi12.out w1 (B0.out.trans (hc.g.mono B0.out.size))).mono fun e w' ⟨he, hb⟩ => ⟨_, he, hb, rfl⟩)
      clear hc hl
      go_simp
    · intro listed a w1 hl hc
      have h9 : a.tmps[9]?.getD undef = .int .u32 (i0 : Int) := hc.dep hl 2 9 rfl (by kernel_rfl)
      have h12 : a.tmps[12]?.getD undef = .int .u32 (i4 : Int) := hc.dep hl 5 12 rfl (by kernel_rfl)
      have h15 : a.tmps[15]?.getD undef = .int .u16 (i8 : Int) := hc.dep hl 8 15 rfl (by kernel_rfl)
      have h18 : a.tmps[18]?.getD undef = .int .u16 (i10 : Int) := hc.dep hl 11 18 rfl (by kernel_rfl)
      have h21 : a.tmps[21]?.getD undef = .int .u32 (i12 : Int) := hc.dep hl 14 21 rfl (by kernel_rfl)
      refine does_value rfl rfl (.agg #[.int .u32 (i0 : Int), .int .u32 (i4 : Int), .int .u16 (i8 : Int), .int .u16 (i10 : Int), .int .u32 (i12 : Int), .slice none 0 0]) w1 ?_ (Below.refl _ _) rfl
      clear hc hl
      go_simp
    · intro listed a w1 hl hc
      refine does_value rfl rfl (.pointer (some ⟨w1.heap.size, 0, none⟩)) (w1.alloc (.cells #[.int .u32 0, .int .u32 0, .int .u16 0, .int .u16 0, .int .u32 0, .slice none 0 0] 43)) ?_ (below_new w1 _) ⟨_, rfl, hc.g.size, Blk.new _ _ _⟩
      clear hc hl
      go_simp
  intro w2 hb2
  rintro _ rfl _ rfl _ rfl _ rfl _ rfl _ rfl _ rfl _ rfl _ rfl _ rfl _ rfl _ rfl _ rfl _ rfl _ rfl _ rfl _ ⟨g4, rfl, hg4, hb4⟩
  simp only [Thus, List.reverse_cons, List.reverse_nil, List.nil_append, List.cons_append, List.drop, List.take, lay]
  go_frame
  have hl0 := K0.out.lt
  have hl1 := K1.out.lt
  have HG := Lib.hid hb4
  have hge : w.heap.size ≤ g4 := by omega
  have y0 := HG.out.cell 0
  have y1 := HG.out.cell 1
  have y2 := HG.out.cell 2
  have y3 := HG.out.cell 3
  have y4 := HG.out.cell 4
  have y5 := HG.out.cell 5
  have z0 := HG.out.frozen 0
  have z1 := HG.out.frozen 1
  have z2 := HG.out.frozen 2
  have z3 := HG.out.frozen 3
  have z4 := HG.out.frozen 4
  have z5 := HG.out.frozen 5
  have G3 : Hid (Blk ((((((w2.setCell ⟨g4, 0, none⟩ (.int .u32 (i0 : Int))).setCell ⟨g4, 1, none⟩ (.int .u32 (i4 : Int))).setCell ⟨g4, 2, none⟩ (.int .u16 (i8 : Int))).setCell ⟨g4, 3, none⟩ (.int .u16 (i10 : Int))).setCell ⟨g4, 4, none⟩ (.int .u32 (i12 : Int))).setCell ⟨g4, 5, none⟩ (.slice none 0 0)) g4 43 #[.int .u32 (i0 : Int), .int .u32 (i4 : Int), .int .u16 (i8 : Int), .int .u16 (i10 : Int), .int .u32 (i12 : Int), .slice none 0 0]) := Lib.hid ((((((hb4.set_ 0 (.int .u32 (i0 : Int))).set_ 1 (.int .u32 (i4 : Int))).set_ 2 (.int .u16 (i8 : Int))).set_ 3 (.int .u16 (i10 : Int))).set_ 4 (.int .u32 (i12 : Int))).set_ 5 (.slice none 0 0))
  have K0b := Lib.hid (((((((K0.out.below hb2 K0.out.lt).far (p := ⟨g4, 0, none⟩) (show w.heap.size ≠ g4 by omega) (.int .u32 (i0 : Int))).far (p := ⟨g4, 1, none⟩) (show w.heap.size ≠ g4 by omega) (.int .u32 (i4 : Int))).far (p := ⟨g4, 2, none⟩) (show w.heap.size ≠ g4 by omega) (.int .u16 (i8 : Int))).far (p := ⟨g4, 3, none⟩) (show w.heap.size ≠ g4 by omega) (.int .u16 (i10 : Int))).far (p := ⟨g4, 4, none⟩) (show w.heap.size ≠ g4 by omega) (.int .u32 (i12 : Int))).far (p := ⟨g4, 5, none⟩) (show w.heap.size ≠ g4 by omega) (.slice none 0 0))
  have K1b := Lib.hid (((((((K1.out.below hb2 K1.out.lt).far (p := ⟨g4, 0, none⟩) (show w.heap.size + 1 ≠ g4 by omega) (.int .u32 (i0 : Int))).far (p := ⟨g4, 1, none⟩) (show w.heap.size + 1 ≠ g4 by omega) (.int .u32 (i4 : Int))).far (p := ⟨g4, 2, none⟩) (show w.heap.size + 1 ≠ g4 by omega) (.int .u16 (i8 : Int))).far (p := ⟨g4, 3, none⟩) (show w.heap.size + 1 ≠ g4 by omega) (.int .u16 (i10 : Int))).far (p := ⟨g4, 4, none⟩) (show w.heap.size + 1 ≠ g4 by omega) (.int .u32 (i12 : Int))).far (p := ⟨g4, 5, none⟩) (show w.heap.size + 1 ≠ g4 by omega) (.slice none 0 0))
  have B3 := Lib.hid (((((((below_then B0.out (Nat.le_refl _) hb2).setCell (p := ⟨g4, 0, none⟩) (show w.heap.size ≤ g4 by omega) (.int .u32 (i0 : Int))).setCell (p := ⟨g4, 1, none⟩) (show w.heap.size ≤ g4 by omega) (.int .u32 (i4 : Int))).setCell (p := ⟨g4, 2, none⟩) (show w.heap.size ≤ g4 by omega) (.int .u16 (i8 : Int))).setCell (p := ⟨g4, 3, none⟩) (show w.heap.size ≤ g4 by omega) (.int .u16 (i10 : Int))).setCell (p := ⟨g4, 4, none⟩) (show w.heap.size ≤ g4 by omega) (.int .u32 (i12 : Int))).setCell (p := ⟨g4, 5, none⟩) (show w.heap.size ≤ g4 by omega) (.slice none 0 0))
  have hgl : g4 < w2.heap.size := hb4.lt
  clear hb2 hb4 K0 K1 B0 HG
  have x0 := K0b.out.cell 0
  have x1 := K0b.out.cell 1
  have x2 := K0b.out.cell 2
  go_wp2_with fail
  generalize ((((((w2.setCell ⟨g4, 0, none⟩ (.int .u32 (i0 : Int))).setCell ⟨g4, 1, none⟩ (.int .u32 (i4 : Int))).setCell ⟨g4, 2, none⟩ (.int .u16 (i8 : Int))).setCell ⟨g4, 3, none⟩ (.int .u16 (i10 : Int))).setCell ⟨g4, 4, none⟩ (.int .u32 (i12 : Int))).setCell ⟨g4, 5, none⟩ (.slice none 0 0)) = v3 at G3 K0b K1b B3 ⊢
  clear hgl y0 z0 y1 z1 y2 z2 y3 z3 y4 z4 y5 z5
  clear x0 x1 x2
  refine (HL.out v3 B3.out).mono ?_
  rintro e w4 ⟨rfl, rfl⟩
  have x0 := K0b.out.cell 0
  have x1 := K0b.out.cell 1
  have x2 := K0b.out.cell 2
  go_wp2_with fail
  refine (HCUT.out v3 B3.out).mono ?_
  rintro e w5 ⟨rfl, hb⟩
  have G4 := Lib.hid (G3.out.below hb G3.out.lt)
  have K0c := Lib.hid (K0b.out.below hb K0b.out.lt)
  have K1c := Lib.hid (K1b.out.below hb K1b.out.lt)
  have B4 := Lib.hid (below_then B3.out (Nat.le_refl _) hb)
  clear hb G3 K0b K1b B3 x0 x1 x2
  have y0 := G4.out.cell 0
  have y1 := G4.out.cell 1
  have y2 := G4.out.cell 2
  have y3 := G4.out.cell 3
  have y4 := G4.out.cell 4
  have y5 := G4.out.cell 5
  have z0 := G4.out.frozen 0
  have z1 := G4.out.frozen 1
  have z2 := G4.out.frozen 2
  have z3 := G4.out.frozen 3
  have z4 := G4.out.frozen 4
  have z5 := G4.out.frozen 5
  have x0 := K0c.out.cell 0
  have x1 := K0c.out.cell 1
  have x2 := K0c.out.cell 2
  have G5 : Hid (Blk (w5.setCell ⟨g4, 5, none⟩ (.slice none 0 0)) g4 43 #[.int .u32 (i0 : Int), .int .u32 (i4 : Int), .int .u16 (i8 : Int), .int .u16 (i10 : Int), .int .u32 (i12 : Int), .slice none 0 0]) := Lib.hid (G4.out.set_ 5 (.slice none 0 0))
  have K0d := Lib.hid (K0c.out.far (p := ⟨g4, 5, none⟩) (show w.heap.size ≠ g4 by omega) (.slice none 0 0))
  have K1d := Lib.hid (K1c.out.far (p := ⟨g4, 5, none⟩) (show w.heap.size + 1 ≠ g4 by omega) (.slice none 0 0))
  have B5 := Lib.hid (B4.out.setCell (p := ⟨g4, 5, none⟩) (show w.heap.size ≤ g4 by omega) (.slice none 0 0))
  have hgl : g4 < w5.heap.size := G4.out.lt
  clear G4 K0c K1c B4
  go_wp2_with fail
  generalize w5.setCell ⟨g4, 5, none⟩ (.slice none 0 0) = v6 at G5 K0d K1d B5 ⊢
  clear hgl x0 x1 x2 y0 z0 y1 z1 y2 z2 y3 z3 y4 z4 y5 z5
  rw [← drawn_eq 6]
  refine wp_region_grow_tail 10 (by kernel_rfl) [(Is (.agg #[.int .u8 2, .int .u8 (f.toNat : Int), .slice A n c])), (Is (.agg #[.int .u32 (i0 : Int), .int .u32 (i4 : Int), .int .u16 (i8 : Int), .int .u16 (i10 : Int), .int .u32 (i12 : Int), .slice none 0 0])), (Is (.pointer (some ⟨w.heap.size, 0, none⟩))), (Is (.int .u8 2)), (Is (.agg #[.int .u32 (i0 : Int), .int .u32 (i4 : Int), .int .u16 (i8 : Int), .int .u16 (i10 : Int), .int .u32 (i12 : Int), .slice none 0 0])), (Is (.bool false)), (Is (.func (.func 62) #[] #[.pointer (some ⟨w.heap.size, 0, none⟩)])), (Is (.tuple #[.agg #[.int .u32 0, .int .u32 0, .int .u16 0, .int .u16 0, .int .u32 0, .slice none 0 0], .int .i64 7])), (Is (.agg #[.int .u32 0, .int .u32 0, .int .u16 0, .int .u16 0, .int .u32 0, .slice none 0 0])), (Is (.int .i64 7))] rfl ?_ (by kernel_rfl) (by kernel_rfl) ?_ ?_
  · intro p hp
    simp only [List.mem_cons, List.not_mem_nil, or_false] at hp
    rcases hp with rfl | rfl | rfl | rfl | rfl | rfl | rfl | rfl | rfl | rfl
    · exact Lasts.is _
    · exact Lasts.is _
    · exact Lasts.is _
    · exact Lasts.is _
    · exact Lasts.is _
    · exact Lasts.is _
    · exact Lasts.is _
    · exact Lasts.is _
    · exact Lasts.is _
    · exact Lasts.is _
  · refine ⟨?_, ?_, ?_, ?_, ?_, ?_, ?_, ?_, ?_, ?_, trivial⟩
    · intro listed a w1 hl hc
      have h1 : a.tmps[1]?.getD undef = .pointer (some ⟨w.heap.size, 0, none⟩) := (hc.was 1 (by kernel_rfl)).trans rfl
      have kb := K0d.out.below hc.g K0d.out.lt
      have x0 : w1.cell? ⟨w.heap.size, 0, none⟩ = some (.int .u8 2) := kb.cell 0
      have x1 : w1.cell? ⟨w.heap.size, 1, none⟩ = some (.int .u8 (f.toNat : Int)) := kb.cell 1
      have x2 : w1.cell? ⟨w.heap.size, 2, none⟩ = some (.slice A n c) := kb.cell 2
      clear kb
      refine does_value rfl rfl (.agg #[.int .u8 2, .int .u8 (f.toNat : Int), .slice A n c]) w1 ?_ (Below.refl _ _) rfl
      clear hc hl
      go_simp
    · intro listed a w1 hl hc
      have h4 : a.tmps[4]?.getD undef = .pointer (some ⟨g4, 0, none⟩) := (hc.was 4 (by kernel_rfl)).trans rfl
      have kb := G5.out.below hc.g G5.out.lt
      have x0 : w1.cell? ⟨g4, 0, none⟩ = some (.int .u32 (i0 : Int)) := kb.cell 0
      have x1 : w1.cell? ⟨g4, 1, none⟩ = some (.int .u32 (i4 : Int)) := kb.cell 1
      have x2 : w1.cell? ⟨g4, 2, none⟩ = some (.int .u16 (i8 : Int)) := kb.cell 2
      have x3 : w1.cell? ⟨g4, 3, none⟩ = some (.int .u16 (i10 : Int)) := kb.cell 3
      have x4 : w1.cell? ⟨g4, 4, none⟩ = some (.int .u32 (i12 : Int)) := kb.cell 4
      have x5 : w1.cell? ⟨g4, 5, none⟩ = some (.slice none 0 0) := kb.cell 5
      clear kb
      refine does_value rfl rfl (.agg #[.int .u32 (i0 : Int), .int .u32 (i4 : Int), .int .u16 (i8 : Int), .int .u16 (i10 : Int), .int .u32 (i12 : Int), .slice none 0 0]) w1 ?_ (Below.refl _ _) rfl
      clear hc hl
      go_simp
    · intro listed a w1 hl hc
      have h1 : a.tmps[1]?.getD undef = .pointer (some ⟨w.heap.size, 0, none⟩) := (hc.was 1 (by kernel_rfl)).trans rfl
      refine does_value rfl rfl (.pointer (some ⟨w.heap.size, 0, none⟩)) w1 ?_ (Below.refl _ _) rfl
      clear hc hl
      go_simp
    · intro listed a w1 hl hc
      have h42 : a.tmps[42]?.getD undef = .pointer (some ⟨w.heap.size, 0, none⟩) := hc.dep hl 2 42 rfl (by kernel_rfl)
      have kb := K0d.out.below hc.g K0d.out.lt
      have x0 : w1.cell? ⟨w.heap.size, 0, none⟩ = some (.int .u8 2) := kb.cell 0
      clear kb
      refine does_value rfl rfl (.int .u8 2) w1 ?_ (Below.refl _ _) rfl
      clear hc hl
      go_simp
    · intro listed a w1 hl hc
      have h4 : a.tmps[4]?.getD undef = .pointer (some ⟨g4, 0, none⟩) := (hc.was 4 (by kernel_rfl)).trans rfl
      have kb := G5.out.below hc.g G5.out.lt
      have x0 : w1.cell? ⟨g4, 0, none⟩ = some (.int .u32 (i0 : Int)) := kb.cell 0
      have x1 : w1.cell? ⟨g4, 1, none⟩ = some (.int .u32 (i4 : Int)) := kb.cell 1
      have x2 : w1.cell? ⟨g4, 2, none⟩ = some (.int .u16 (i8 : Int)) := kb.cell 2
      have x3 : w1.cell? ⟨g4, 3, none⟩ = some (.int .u16 (i10 : Int)) := kb.cell 3
      have x4 : w1.cell? ⟨g4, 4, none⟩ = some (.int .u32 (i12 : Int)) := kb.cell 4
      have x5 : w1.cell? ⟨g4, 5, none⟩ = some (.slice none 0 0) := kb.cell 5
      clear kb
      refine does_value rfl rfl (.agg #[.int .u32 (i0 : Int), .int .u32 (i4 : Int), .int .u16 (i8 : Int), .int .u16 (i10 : Int), .int .u32 (i12 : Int), .slice none 0 0]) w1 ?_ (Below.refl _ _) rfl
      clear hc hl
      go_simp
    · intro listed a w1 hl hc
      have h43 : a.tmps[43]?.getD undef = .int .u8 2 := hc.dep hl 3 43 rfl (by kernel_rfl)
      have h44 : a.tmps[44]?.getD undef = .agg #[.int .u32 (i0 : Int), .int .u32 (i4 : Int), .int .u16 (i8 : Int), .int .u16 (i10 : Int), .int .u32 (i12 : Int), .slice none 0 0] := hc.dep hl 4 44 rfl (by kernel_rfl)
      refine does_call rfl rfl 64 #[.int .u8 2, .agg #[.int .u32 (i0 : Int), .int .u32 (i4 : Int), .int .u16 (i8 : Int), .int .u16 (i10 : Int), .int .u32 (i12 : Int), .slice none 0 0]] ?_ ((HII.out w1).mono fun e w' ⟨he, hb⟩ => ⟨_, he, hb, rfl⟩)
      clear hc hl
      go_simp
    · intro listed a w1 hl hc
      have h6 : a.tmps[6]?.getD undef = .func (.func 62) #[] #[.pointer (some ⟨w.heap.size, 0, none⟩)] := (hc.was 6 (by kernel_rfl)).trans rfl
      refine does_value rfl rfl (.func (.func 62) #[] #[.pointer (some ⟨w.heap.size, 0, none⟩)]) w1 ?_ (Below.refl _ _) rfl
      clear hc hl
      go_simp
    · intro listed a w1 hl hc
      have h40 : a.tmps[40]?.getD undef = .agg #[.int .u8 2, .int .u8 (f.toNat : Int), .slice A n c] := hc.dep hl 0 40 rfl (by kernel_rfl)
      have h41 : a.tmps[41]?.getD undef = .agg #[.int .u32 (i0 : Int), .int .u32 (i4 : Int), .int .u16 (i8 : Int), .int .u16 (i10 : Int), .int .u32 (i12 : Int), .slice none 0 0] := hc.dep hl 1 41 rfl (by kernel_rfl)
      have h45 : a.tmps[45]?.getD undef = .bool false := hc.dep hl 5 45 rfl (by kernel_rfl)
      have h46 : a.tmps[46]?.getD undef = .func (.func 62) #[] #[.pointer (some ⟨w.heap.size, 0, none⟩)] := hc.dep hl 6 46 rfl (by kernel_rfl)
      refine does_call rfl rfl 63 #[.agg #[.int .u8 2, .int .u8 (f.toNat : Int), .slice A n c], .agg #[.int .u32 (i0 : Int), .int .u32 (i4 : Int), .int .u16 (i8 : Int), .int .u16 (i10 : Int), .int .u32 (i12 : Int), .slice none 0 0], .bool false, .func (.func 62) #[] #[.pointer (some ⟨w.heap.size, 0, none⟩)]] ?_ ((HCK.out w1 (B5.out.trans (hc.g.mono B5.out.size)) (K0d.out.below hc.g K0d.out.lt)).mono fun e w' ⟨he, hb⟩ => ⟨_, he, hb, rfl⟩)
      clear hc hl
      go_simp
    · intro listed a w1 hl hc
      have h47 : a.tmps[47]?.getD undef = .tuple #[.agg #[.int .u32 0, .int .u32 0, .int .u16 0, .int .u16 0, .int .u32 0, .slice none 0 0], .int .i64 7] := hc.dep hl 7 47 rfl (by kernel_rfl)
      refine does_value rfl rfl (.agg #[.int .u32 0, .int .u32 0, .int .u16 0, .int .u16 0, .int .u32 0, .slice none 0 0]) w1 ?_ (Below.refl _ _) rfl
      clear hc hl
      go_simp
    · intro listed a w1 hl hc
      have h47 : a.tmps[47]?.getD undef = .tuple #[.agg #[.int .u32 0, .int .u32 0, .int .u16 0, .int .u16 0, .int .u32 0, .slice none 0 0], .int .i64 7] := hc.dep hl 7 47 rfl (by kernel_rfl)
      refine does_value rfl rfl (.int .i64 7) w1 ?_ (Below.refl _ _) rfl
      clear hc hl
      go_simp
  intro w2 hb2
  rintro _ rfl _ rfl _ rfl _ rfl _ rfl _ rfl _ rfl _ rfl _ rfl _ rfl
  simp only [Thus, List.reverse_cons, List.reverse_nil, List.nil_append, List.cons_append, List.drop, List.take, lay]
  go_frame
  have K1e := Lib.hid (K1d.out.below hb2 K1d.out.lt)
  have B6 := Lib.hid (below_then B5.out (Nat.le_refl _) hb2)
  clear hb2 K1d B5
  have y0 := K1e.out.cell 0
  have y1 := K1e.out.cell 1
  have y2 := K1e.out.cell 2
  have y3 := K1e.out.cell 3
  have y4 := K1e.out.cell 4
  have y5 := K1e.out.cell 5
  have z0 := K1e.out.frozen 0
  have z1 := K1e.out.frozen 1
  have z2 := K1e.out.frozen 2
  have z3 := K1e.out.frozen 3
  have z4 := K1e.out.frozen 4
  have z5 := K1e.out.frozen 5
  go_wp2_with fail
  have H3 := ((((((K1e.out.set_ 0 (.int .u32 0)).set_ 1 (.int .u32 0)).set_ 2 (.int .u16 0)).set_ 3 (.int .u16 0)).set_ 4 (.int .u32 0)).set_ 5 (.slice none 0 0))
  exact bodyPost_ret (v := .tuple #[.agg #[.int .u32 0, .int .u32 0, .int .u16 0, .int .u16 0, .int .u32 0, .slice none 0 0], .int .i64 7]) (by simp [results, Try.results24, go_sem, H3.cell]) rfl ⟨none, 0, 0, rfl, Own8.nil _ _ _, ((((((B6.out.setCell (p := ⟨w.heap.size + 1, 0, none⟩) (show w.heap.size ≤ w.heap.size + 1 by omega) (.int .u32 0)).setCell (p := ⟨w.heap.size + 1, 1, none⟩) (show w.heap.size ≤ w.heap.size + 1 by omega) (.int .u32 0)).setCell (p := ⟨w.heap.size + 1, 2, none⟩) (show w.heap.size ≤ w.heap.size + 1 by omega) (.int .u16 0)).setCell (p := ⟨w.heap.size + 1, 3, none⟩) (show w.heap.size ≤ w.heap.size + 1 by omega) (.int .u16 0)).setCell (p := ⟨w.heap.size + 1, 4, none⟩) (show w.heap.size ≤ w.heap.size + 1 by omega) (.int .u32 0)).setCell (p := ⟨w.heap.size + 1, 5, none⟩) (show w.heap.size ≤ w.heap.size + 1 by omega) (.slice none 0 0))⟩
set_option maxRecDepth 100000 in
set_option maxHeartbeats 4000000 in
theorem getInit_cut_off (f : UInt8) (A : Option Addr) (n c : Nat) (xs : List UInt8) (w : World) (hn : n ≤ 140737488355200) (hc : n ≤ c) (hcm : c ≤ maxLen) (hx : xs.length = n) (hr : Rd w w.heap.size A xs) (hcut : 4 ≤ numO xs 18 2 ∧ 20 + (numO xs 18 2 - 4) ≤ n) (hv : validI 2 (PI 2 xs) = false) :
    GetsI 24 #[.agg #[.int .u8 2, .int .u8 (f.toNat : Int), .slice A n c]] 2 f xs w := by
  have hz := zero_init
  have hcm' := hcm
  unfold maxLen at hcm'
  have hi0b : numO xs 0 4 < 4294967296 := numO_lt xs 0 4
  have Hi0 : Hid (∀ W, Below w.heap.size w W → Calls Try.prog 52 #[.slice A n c, .int .i64 0] W fun e w' => e = .returned (.int .u32 (numO xs 0 4)) ∧ Below W.heap.size W w') := Lib.hid fun W hW => (word_any A n c 0 xs W (by omega) (by omega) hx ((hr.below hW).more hW.size)).mono fun e w' ⟨he, hw⟩ => ⟨he, hw ▸ Below.refl _ _⟩
  have hi4b : numO xs 4 4 < 4294967296 := numO_lt xs 4 4
  have Hi4 : Hid (∀ W, Below w.heap.size w W → Calls Try.prog 52 #[.slice A n c, .int .i64 4] W fun e w' => e = .returned (.int .u32 (numO xs 4 4)) ∧ Below W.heap.size W w') := Lib.hid fun W hW => (word_any A n c 4 xs W (by omega) (by omega) hx ((hr.below hW).more hW.size)).mono fun e w' ⟨he, hw⟩ => ⟨he, hw ▸ Below.refl _ _⟩
  have hi8b : numO xs 8 2 < 65536 := numO_lt xs 8 2
  have Hi8 : Hid (∀ W, Below w.heap.size w W → Calls Try.prog 53 #[.slice A n c, .int .i64 8] W fun e w' => e = .returned (.int .u16 (numO xs 8 2)) ∧ Below W.heap.size W w') := Lib.hid fun W hW => (half_any A n c 8 xs W (by omega) (by omega) hx ((hr.below hW).more hW.size)).mono fun e w' ⟨he, hw⟩ => ⟨he, hw ▸ Below.refl _ _⟩
  have hi10b : numO xs 10 2 < 65536 := numO_lt xs 10 2
  have Hi10 : Hid (∀ W, Below w.heap.size w W → Calls Try.prog 53 #[.slice A n c, .int .i64 10] W fun e w' => e = .returned (.int .u16 (numO xs 10 2)) ∧ Below W.heap.size W w') := Lib.hid fun W hW => (half_any A n c 10 xs W (by omega) (by omega) hx ((hr.below hW).more hW.size)).mono fun e w' ⟨he, hw⟩ => ⟨he, hw ▸ Below.refl _ _⟩
  have hi12b : numO xs 12 4 < 4294967296 := numO_lt xs 12 4
  have Hi12 : Hid (∀ W, Below w.heap.size w W → Calls Try.prog 52 #[.slice A n c, .int .i64 12] W fun e w' => e = .returned (.int .u32 (numO xs 12 4)) ∧ Below W.heap.size W w') := Lib.hid fun W hW => (word_any A n c 12 xs W (by omega) (by omega) hx ((hr.below hW).more hW.size)).mono fun e w' ⟨he, hw⟩ => ⟨he, hw ▸ Below.refl _ _⟩
  have hcko : cookieOf 2 xs = (xs.drop 20).take (numO xs 18 2 - 4) := by unfold cookieOf; rw [if_pos ⟨rfl, hcut.1, by have := hcut.2; omega⟩]
  have hpi : PI 2 xs = ⟨numO xs 0 4, numO xs 4 4, numO xs 8 2, numO xs 10 2, numO xs 12 4, (xs.drop 20).take (numO xs 18 2 - 4)⟩ := by unfold PI; rw [hcko]
  have hckl : ((xs.drop 20).take (numO xs 18 2 - 4)).length = numO xs 18 2 - 4 := by have := hcut.2; simp; omega
  have hok : okI 2 f xs = false := by unfold okI; rw [hv]; rfl
  have hra : ansI 2 f xs = noI := by unfold ansI; rw [hok]; rfl
  unfold GetsI
  rw [hok, hra]
  rw [hpi] at hv
  have HII : Hid (∀ W (Ax : Option Addr) (cx : Nat), Calls Try.prog 64 #[.int .u8 2, .agg #[.int .u32 (numO xs 0 4 : Int), .int .u32 (numO xs 4 4 : Int), .int .u16 (numO xs 8 2 : Int), .int .u16 (numO xs 10 2 : Int), .int .u32 (numO xs 12 4 : Int), .slice Ax (numO xs 18 2 - 4 : Nat) cx]] W fun e w' => e = .returned (.bool false) ∧ Below W.heap.size W w') := Lib.hid fun W Ax cx => by
    have := isInit_any 2 (numO xs 0 4) (numO xs 4 4) (numO xs 8 2) (numO xs 10 2) (numO xs 12 4) Ax (numO xs 18 2 - 4 : Nat) cx W
    unfold validI at hv
    rw [hckl] at hv
    rw [hv] at this
    exact this
  have HCK : Hid (∀ W (Ax : Option Addr) (cx : Nat), Below w.heap.size w W → Blk W w.heap.size 28 #[.int .u8 2, .int .u8 (f.toNat : Int), .slice A n c] → Own8 W 5 w.heap.size Ax (numO xs 18 2 - 4 : Nat) cx ((xs.drop 20).take (numO xs 18 2 - 4)) → Calls Try.prog 63 #[.agg #[.int .u8 2, .int .u8 (f.toNat : Int), .slice A n c], .agg #[.int .u32 (numO xs 0 4 : Int), .int .u32 (numO xs 4 4 : Int), .int .u16 (numO xs 8 2 : Int), .int .u16 (numO xs 10 2 : Int), .int .u32 (numO xs 12 4 : Int), .slice Ax (numO xs 18 2 - 4 : Nat) cx], .bool false, .func (.func 62) #[] #[.pointer (some ⟨w.heap.size, 0, none⟩)]] W fun e w' => e = .returned (.tuple #[.agg #[.int .u32 0, .int .u32 0, .int .u16 0, .int .u16 0, .int .u32 0, .slice none 0 0], .int .i64 7]) ∧ Below W.heap.size W w') := Lib.hid fun W Ax cx hW hB ho => checkedI_off 2 f A n c (numO xs 0 4) (numO xs 4 4) (numO xs 8 2) (numO xs 10 2) (numO xs 12 4) Ax (numO xs 18 2 - 4 : Nat) cx w.heap.size W
  have hlb : numO xs 18 2 < 65536 := numO_lt xs 18 2
  have HL : Hid (∀ W, Below w.heap.size w W → Calls Try.prog 53 #[.slice A n c, .int .i64 18] W fun e w' => e = .returned (.int .u16 (numO xs 18 2)) ∧ W = w') := Lib.hid fun W hW => half_any A n c 18 xs W (by omega) (by omega) hx ((hr.below hW).more hW.size)
  have HCUT : Hid (∀ W, Below w.heap.size w W → Calls Try.prog 54 #[.slice A n c, .int .i64 20, .int .i64 ((numO xs 18 2 : Int) - 4)] W fun e w' => ∃ A2 c2, e = .returned (.tuple #[.slice A2 (numO xs 18 2 - 4 : Nat) c2, .bool true]) ∧ Own8 w' 5 W.heap.size A2 (numO xs 18 2 - 4 : Nat) c2 ((xs.drop 20).take (numO xs 18 2 - 4)) ∧ Below W.heap.size W w') := Lib.hid fun W hW => by
    have := cut_yes A n c 20 (numO xs 18 2 - 4) xs W (by omega) hc hcm hx ((hr.below hW).more hW.size) (by have := hcut.2; omega)
    rw [show ((numO xs 18 2 - 4 : Nat) : Int) = (numO xs 18 2 : Int) - 4 by have := hcut.1; omega] at this
    exact this
  obtain ⟨i0, ei0⟩ : ∃ i0, i0 = numO xs 0 4 := ⟨_, rfl⟩
  rw [← ei0] at Hi0 hi0b HCK HII
  obtain ⟨i4, ei4⟩ : ∃ i4, i4 = numO xs 4 4 := ⟨_, rfl⟩
  rw [← ei4] at Hi4 hi4b HCK HII
  obtain ⟨i8, ei8⟩ : ∃ i8, i8 = numO xs 8 2 := ⟨_, rfl⟩
  rw [← ei8] at Hi8 hi8b HCK HII
  obtain ⟨i10, ei10⟩ : ∃ i10, i10 = numO xs 10 2 := ⟨_, rfl⟩
  rw [← ei10] at Hi10 hi10b HCK HII
  obtain ⟨i12, ei12⟩ : ∃ i12, i12 = numO xs 12 4 := ⟨_, rfl⟩
  rw [← ei12] at Hi12 hi12b HCK HII
  obtain ⟨nl, enl⟩ : ∃ nl, nl = numO xs 18 2 := ⟨_, rfl⟩
  rw [← enl] at HL HCUT hlb HCK HII
  rw [← enl] at hcut
  obtain ⟨CKL, eCK⟩ : ∃ CKL, CKL = (xs.drop 20).take (nl - 4) := ⟨_, rfl⟩
  rw [← eCK] at HCUT HCK
  have hcut1 := hcut.1
  clear hx hr hra hok hv hcko hpi enl hcut hckl eCK ei0 ei4 ei8 ei10 ei12
  have hmf : ∀ (fn : Fn) (first cap : Array Value) (w : World), (Instr.makeFunc fn first cap).run Try.prog w = .ok (.func fn first cap) w := fun _ _ _ _ => rfl
  have b0 : Blk (w.alloc (.cells #[.int .u8 2, .int .u8 (f.toNat : Int), .slice A n c] 28)) w.heap.size 28 #[.int .u8 2, .int .u8 (f.toNat : Int), .slice A n c] := Blk.new w 28 #[.int .u8 2, .int .u8 (f.toNat : Int), .slice A n c]
  have b1 : Blk ((w.alloc (.cells #[.int .u8 2, .int .u8 (f.toNat : Int), .slice A n c] 28)).alloc (.cells #[.int .u32 0, .int .u32 0, .int .u16 0, .int .u16 0, .int .u32 0, .slice none 0 0] 43)) (w.heap.size + 1) 43 #[.int .u32 0, .int .u32 0, .int .u16 0, .int .u16 0, .int .u32 0, .slice none 0 0] := by simpa using Blk.new (w.alloc (.cells #[.int .u8 2, .int .u8 (f.toNat : Int), .slice A n c] 28)) 43 #[.int .u32 0, .int .u32 0, .int .u16 0, .int .u16 0, .int .u32 0, .slice none 0 0]
  have K0 := Lib.hid (b0.alloc (.cells #[.int .u32 0, .int .u32 0, .int .u16 0, .int .u16 0, .int .u32 0, .slice none 0 0] 43))
  have K1 := Lib.hid b1
  have B0 : Hid (Below w.heap.size w ((w.alloc (.cells #[.int .u8 2, .int .u8 (f.toNat : Int), .slice A n c] 28)).alloc (.cells #[.int .u32 0, .int .u32 0, .int .u16 0, .int .u16 0, .int .u32 0, .slice none 0 0] 43))) := Lib.hid (Wr.below_ (((Wr.refl 5 w.heap.size w).alloc (.cells #[.int .u8 2, .int .u8 (f.toNat : Int), .slice A n c] 28)).alloc (.cells #[.int .u32 0, .int .u32 0, .int .u16 0, .int .u16 0, .int .u32 0, .slice none 0 0] 43)) (Nat.le_refl _))
  clear b0 b1
  go_enter Try.func24, Try.ntmps24
  rw [drawn_eq 1, drawn_eq 6]
  go_wp2_with fail
  generalize ((w.alloc (.cells #[.int .u8 2, .int .u8 (f.toNat : Int), .slice A n c] 28)).alloc (.cells #[.int .u32 0, .int .u32 0, .int .u16 0, .int .u16 0, .int .u32 0, .slice none 0 0] 43)) = v0 at K0 K1 B0 ⊢
  rw [← drawn_eq 1]
  refine wp_region_grow_tail 17 (by kernel_rfl) [(Is (.pointer (some ⟨w.heap.size, 2, none⟩))), (Is (.slice A n c)), (Is (.int .u32 (i0 : Int))), (Is (.pointer (some ⟨w.heap.size, 2, none⟩))), (Is (.slice A n c)), (Is (.int .u32 (i4 : Int))), (Is (.pointer (some ⟨w.heap.size, 2, none⟩))), (Is (.slice A n c)), (Is (.int .u16 (i8 : Int))), (Is (.pointer (some ⟨w.heap.size, 2, none⟩))), (Is (.slice A n c)), (Is (.int .u16 (i10 : Int))), (Is (.pointer (some ⟨w.heap.size, 2, none⟩))), (Is (.slice A n c)), (Is (.int .u32 (i12 : Int))), (Is (.agg #[.int .u32 (i0 : Int), .int .u32 (i4 : Int), .int .u16 (i8 : Int), .int .u16 (i10 : Int), .int .u32 (i12 : Int), .slice none 0 0])), (NewBlk v0.heap.size 43 #[.int .u32 0, .int .u32 0, .int .u16 0, .int .u16 0, .int .u32 0, .slice none 0 0])] rfl ?_ (by kernel_rfl) (by kernel_rfl) ?_ ?_
  · intro p hp
    simp only [List.mem_cons, List.not_mem_nil, or_false] at hp
    rcases hp with rfl | rfl | rfl | rfl | rfl | rfl | rfl | rfl | rfl | rfl | rfl | rfl | rfl | rfl | rfl | rfl | rfl
    · exact Lasts.is _
    · exact Lasts.is _
    · exact Lasts.is _
    · exact Lasts.is _
    · exact Lasts.is _
    · exact Lasts.is _
    · exact Lasts.is _
    · exact Lasts.is _
    · exact Lasts.is _
    · exact Lasts.is _
    · exact Lasts.is _
    · exact Lasts.is _
    · exact Lasts.is _
    · exact Lasts.is _
    · exact Lasts.is _
    · exact Lasts.is _
    · exact Lasts.newBlk _ _ _
  · refine ⟨?_, ?_, ?_, ?_, ?_, ?_, ?_, ?_, ?_, ?_, ?_, ?_, ?_, ?_, ?_, ?_, ?_, trivial⟩
    · intro listed a w1 hl hc
      have h1 : a.tmps[1]?.getD undef = .pointer (some ⟨w.heap.size, 0, none⟩) := (hc.was 1 (by kernel_rfl)).trans rfl
      refine does_value rfl rfl (.pointer (some ⟨w.heap.size, 2, none⟩)) w1 ?_ (Below.refl _ _) rfl
      clear hc hl
      go_simp
    · intro listed a w1 hl hc
      have h7 : a.tmps[7]?.getD undef = .pointer (some ⟨w.heap.size, 2, none⟩) := hc.dep hl 0 7 rfl (by kernel_rfl)
      have kb := K0.out.below hc.g K0.out.lt
      have x2 : w1.cell? ⟨w.heap.size, 2, none⟩ = some (.slice A n c) := kb.cell 2
      clear kb
      refine does_value rfl rfl (.slice A n c) w1 ?_ (Below.refl _ _) rfl
      clear hc hl
      go_simp
    · intro listed a w1 hl hc
      have h8 : a.tmps[8]?.getD undef = .slice A n c := hc.dep hl 1 8 rfl (by kernel_rfl)
      refine does_call rfl rfl 52 #[.slice A n c, .int .i64 0] ?_ ((Hi0.out w1 (B0.out.trans (hc.g.mono B0.out.size))).mono fun e w' ⟨he, hb⟩ => ⟨_, he, hb, rfl⟩)
      clear hc hl
      go_simp
    · intro listed a w1 hl hc
      have h1 : a.tmps[1]?.getD undef = .pointer (some ⟨w.heap.size, 0, none⟩) := (hc.was 1 (by kernel_rfl)).trans rfl
      refine does_value rfl rfl (.pointer (some ⟨w.heap.size, 2, none⟩)) w1 ?_ (Below.refl _ _) rfl
      clear hc hl
      go_simp
    · intro listed a w1 hl hc
      have h10 : a.tmps[10]?.getD undef = .pointer (some ⟨w.heap.size, 2, none⟩) := hc.dep hl 3 10 rfl (by kernel_rfl)
      have kb := K0.out.below hc.g K0.out.lt
      have x2 : w1.cell? ⟨w.heap.size, 2, none⟩ = some (.slice A n c) := kb.cell 2
      clear kb
      refine does_value rfl rfl (.slice A n c) w1 ?_ (Below.refl _ _) rfl
      clear hc hl
      go_simp
    · intro listed a w1 hl hc
      have h11 : a.tmps[11]?.getD undef = .slice A n c := hc.dep hl 4 11 rfl (by kernel_rfl)
      refine does_call rfl rfl 52 #[.slice A n c, .int .i64 4] ?_ ((Hi4.out w1 (B0.out.trans (hc.g.mono B0.out.size))).mono fun e w' ⟨he, hb⟩ => ⟨_, he, hb, rfl⟩)
      clear hc hl
      go_simp
    · intro listed a w1 hl hc
      have h1 : a.tmps[1]?.getD undef = .pointer (some ⟨w.heap.size, 0, none⟩) := (hc.was 1 (by kernel_rfl)).trans rfl
      refine does_value rfl rfl (.pointer (some ⟨w.heap.size, 2, none⟩)) w1 ?_ (Below.refl _ _) rfl
      clear hc hl
      go_simp
    · intro listed a w1 hl hc
      have h13 : a.tmps[13]?.getD undef = .pointer (some ⟨w.heap.size, 2, none⟩) := hc.dep hl 6 13 rfl (by kernel_rfl)
      have kb := K0.out.below hc.g K0.out.lt
      have x2 : w1.cell? ⟨w.heap.size, 2, none⟩ = some (.slice A n c) := kb.cell 2
      clear kb
      refine does_value rfl rfl (.slice A n c) w1 ?_ (Below.refl _ _) rfl
      clear hc hl
      go_simp
    · intro listed a w1 hl hc
      have h14 : a.tmps[14]?.getD undef = .slice A n c := hc.dep hl 7 14 rfl (by kernel_rfl)
      refine does_call rfl rfl 53 #[.slice A n c, .int .i64 8] ?_ ((Hi8.out w1 (B0.out.trans (hc.g.mono B0.out.size))).mono fun e w' ⟨he, hb⟩ => ⟨_, he, hb, rfl⟩)
      clear hc hl
      go_simp
    · intro listed a w1 hl hc
      have h1 : a.tmps[1]?.getD undef = .pointer (some ⟨w.heap.size, 0, none⟩) := (hc.was 1 (by kernel_rfl)).trans rfl
      refine does_value rfl rfl (.pointer (some ⟨w.heap.size, 2, none⟩)) w1 ?_ (Below.refl _ _) rfl
      clear hc hl
      go_simp
    · intro listed a w1 hl hc
      have h16 : a.tmps[16]?.getD undef = .pointer (some ⟨w.heap.size, 2, none⟩) := hc.dep hl 9 16 rfl (by kernel_rfl)
      have kb := K0.out.below hc.g K0.out.lt
      have x2 : w1.cell? ⟨w.heap.size, 2, none⟩ = some (.slice A n c) := kb.cell 2
      clear kb
      refine does_value rfl rfl (.slice A n c) w1 ?_ (Below.refl _ _) rfl
      clear hc hl
      go_simp
    · intro listed a w1 hl hc
      have h17 : a.tmps[17]?.getD undef = .slice A n c := hc.dep hl 10 17 rfl (by kernel_rfl)
      refine does_call rfl rfl 53 #[.slice A n c, .int .i64 10] ?_ ((Hi10.out w1 (B0.out.trans (hc.g.mono B0.out.size))).mono fun e w' ⟨he, hb⟩ => ⟨_, he, hb, rfl⟩)
      clear hc hl
      go_simp
    · intro listed a w1 hl hc
      have h1 : a.tmps[1]?.getD undef = .pointer (some ⟨w.heap.size, 0, none⟩) := (hc.was 1 (by kernel_rfl)).trans rfl
      refine does_value rfl rfl (.pointer (some ⟨w.heap.size, 2, none⟩)) w1 ?_ (Below.refl _ _) rfl
      clear hc hl
      go_simp
    · intro listed a w1 hl hc
      have h19 : a.tmps[19]?.getD undef = .pointer (some ⟨w.heap.size, 2, none⟩) := hc.dep hl 12 19 rfl (by kernel_rfl)
      have kb := K0.out.below hc.g K0.out.lt
      have x2 : w1.cell? ⟨w.heap.size, 2, none⟩ = some (.slice A n c) := kb.cell 2
      clear kb
      refine does_value rfl rfl (.slice A n c) w1 ?_ (Below.refl _ _) rfl
      clear hc hl
      go_simp
    · intro listed a w1 hl hc
      have h20 : a.tmps[20]?.getD undef = .slice A n c := hc.dep hl 13 20 rfl (by kernel_rfl)
      refine does_call rfl rfl 52 #[.slice A n c, .int .i64 12] ?_ ((Hi12.out w1 (B0.out.trans (hc.g.mono B0.out.size))).mono fun e w' ⟨he, hb⟩ => ⟨_, he, hb, rfl⟩)
      clear hc hl
      go_simp
    · intro listed a w1 hl hc
      have h9 : a.tmps[9]?.getD undef = .int .u32 (i0 : Int) := hc.dep hl 2 9 rfl (by kernel_rfl)
      have h12 : a.tmps[12]?.getD undef = .int .u32 (i4 : Int) := hc.dep hl 5 12 rfl (by kernel_rfl)
      have h15 : a.tmps[15]?.getD undef = .int .u16 (i8 : Int) := hc.dep hl 8 15 rfl (by kernel_rfl)
      have h18 : a.tmps[18]?.getD undef = .int .u16 (i10 : Int) := hc.dep hl 11 18 rfl (by kernel_rfl)
      have h21 : a.tmps[21]?.getD undef = .int .u32 (i12 : Int) := hc.dep hl 14 21 rfl (by kernel_rfl)
      refine does_value rfl rfl (.agg #[.int .u32 (i0 : Int), .int .u32 (i4 : Int), .int .u16 (i8 : Int), .int .u16 (i10 : Int), .int .u32 (i12 : Int), .slice none 0 0]) w1 ?_ (Below.refl _ _) rfl
      clear hc hl
      go_simp
    · intro listed a w1 hl hc
      refine does_value rfl rfl (.pointer (some ⟨w1.heap.size, 0, none⟩)) (w1.alloc (.cells #[.int .u32 0, .int .u32 0, .int .u16 0, .int .u16 0, .int .u32 0, .slice none 0 0] 43)) ?_ (below_new w1 _) ⟨_, rfl, hc.g.size, Blk.new _ _ _⟩
      clear hc hl
      go_simp
  intro w2 hb2
  rintro _ rfl _ rfl _ rfl _ rfl _ rfl _ rfl _ rfl _ rfl _ rfl _ rfl _ rfl _ rfl _ rfl _ rfl _ rfl _ rfl _ ⟨g4, rfl, hg4, hb4⟩
  simp only [Thus, List.reverse_cons, List.reverse_nil, List.nil_append, List.cons_append, List.drop, List.take, lay]
  go_frame
  have hl0 := K0.out.lt
  have hl1 := K1.out.lt
  have HG := Lib.hid hb4
  have hge : w.heap.size ≤ g4 := by omega
  have y0 := HG.out.cell 0
  have y1 := HG.out.cell 1
  have y2 := HG.out.cell 2
  have y3 := HG.out.cell 3
  have y4 := HG.out.cell 4
  have y5 := HG.out.cell 5
  have z0 := HG.out.frozen 0
  have z1 := HG.out.frozen 1
  have z2 := HG.out.frozen 2
  have z3 := HG.out.frozen 3
  have z4 := HG.out.frozen 4
  have z5 := HG.out.frozen 5
  have G3 : Hid (Blk ((((((w2.setCell ⟨g4, 0, none⟩ (.int .u32 (i0 : Int))).setCell ⟨g4, 1, none⟩ (.int .u32 (i4 : Int))).setCell ⟨g4, 2, none⟩ (.int .u16 (i8 : Int))).setCell ⟨g4, 3, none⟩ (.int .u16 (i10 : Int))).setCell ⟨g4, 4, none⟩ (.int .u32 (i12 : Int))).setCell ⟨g4, 5, none⟩ (.slice none 0 0)) g4 43 #[.int .u32 (i0 : Int), .int .u32 (i4 : Int), .int .u16 (i8 : Int), .int .u16 (i10 : Int), .int .u32 (i12 : Int), .slice none 0 0]) := Lib.hid ((((((hb4.set_ 0 (.int .u32 (i0 : Int))).set_ 1 (.int .u32 (i4 : Int))).set_ 2 (.int .u16 (i8 : Int))).set_ 3 (.int .u16 (i10 : Int))).set_ 4 (.int .u32 (i12 : Int))).set_ 5 (.slice none 0 0))
  have K0b := Lib.hid (((((((K0.out.below hb2 K0.out.lt).far (p := ⟨g4, 0, none⟩) (show w.heap.size ≠ g4 by omega) (.int .u32 (i0 : Int))).far (p := ⟨g4, 1, none⟩) (show w.heap.size ≠ g4 by omega) (.int .u32 (i4 : Int))).far (p := ⟨g4, 2, none⟩) (show w.heap.size ≠ g4 by omega) (.int .u16 (i8 : Int))).far (p := ⟨g4, 3, none⟩) (show w.heap.size ≠ g4 by omega) (.int .u16 (i10 : Int))).far (p := ⟨g4, 4, none⟩) (show w.heap.size ≠ g4 by omega) (.int .u32 (i12 : Int))).far (p := ⟨g4, 5, none⟩) (show w.heap.size ≠ g4 by omega) (.slice none 0 0))
  have K1b := Lib.hid (((((((K1.out.below hb2 K1.out.lt).far (p := ⟨g4, 0, none⟩) (show w.heap.size + 1 ≠ g4 by omega) (.int .u32 (i0 : Int))).far (p := ⟨g4, 1, none⟩) (show w.heap.size + 1 ≠ g4 by omega) (.int .u32 (i4 : Int))).far (p := ⟨g4, 2, none⟩) (show w.heap.size + 1 ≠ g4 by omega) (.int .u16 (i8 : Int))).far (p := ⟨g4, 3, none⟩) (show w.heap.size + 1 ≠ g4 by omega) (.int .u16 (i10 : Int))).far (p := ⟨g4, 4, none⟩) (show w.heap.size + 1 ≠ g4 by omega) (.int .u32 (i12 : Int))).far (p := ⟨g4, 5, none⟩) (show w.heap.size + 1 ≠ g4 by omega) (.slice none 0 0))
  have B3 := Lib.hid (((((((below_then B0.out (Nat.le_refl _) hb2).setCell (p := ⟨g4, 0, none⟩) (show w.heap.size ≤ g4 by omega) (.int .u32 (i0 : Int))).setCell (p := ⟨g4, 1, none⟩) (show w.heap.size ≤ g4 by omega) (.int .u32 (i4 : Int))).setCell (p := ⟨g4, 2, none⟩) (show w.heap.size ≤ g4 by omega) (.int .u16 (i8 : Int))).setCell (p := ⟨g4, 3, none⟩) (show w.heap.size ≤ g4 by omega) (.int .u16 (i10 : Int))).setCell (p := ⟨g4, 4, none⟩) (show w.heap.size ≤ g4 by omega) (.int .u32 (i12 : Int))).setCell (p := ⟨g4, 5, none⟩) (show w.heap.size ≤ g4 by omega) (.slice none 0 0))
  have hgl : g4 < w2.heap.size := hb4.lt
  clear hb2 hb4 K0 K1 B0 HG
  have x0 := K0b.out.cell 0
  have x1 := K0b.out.cell 1
  have x2 := K0b.out.cell 2
  go_wp2_with fail
  generalize ((((((w2.setCell ⟨g4, 0, none⟩ (.int .u32 (i0 : Int))).setCell ⟨g4, 1, none⟩ (.int .u32 (i4 : Int))).setCell ⟨g4, 2, none⟩ (.int .u16 (i8 : Int))).setCell ⟨g4, 3, none⟩ (.int .u16 (i10 : Int))).setCell ⟨g4, 4, none⟩ (.int .u32 (i12 : Int))).setCell ⟨g4, 5, none⟩ (.slice none 0 0)) = v3 at G3 K0b K1b B3 ⊢
  clear hgl y0 z0 y1 z1 y2 z2 y3 z3 y4 z4 y5 z5
  clear x0 x1 x2
  refine (HL.out v3 B3.out).mono ?_
  rintro e w4 ⟨rfl, rfl⟩
  have x0 := K0b.out.cell 0
  have x1 := K0b.out.cell 1
  have x2 := K0b.out.cell 2
  go_wp2_with fail
  refine (HCUT.out v3 B3.out).mono ?_
  rintro e w5 ⟨Ax, cx, rfl, ho, hb⟩
  have O4 := Lib.hid (ho.more B3.out.size)
  have G4 := Lib.hid (G3.out.below hb G3.out.lt)
  have K0c := Lib.hid (K0b.out.below hb K0b.out.lt)
  have K1c := Lib.hid (K1b.out.below hb K1b.out.lt)
  have B4 := Lib.hid (below_then B3.out (Nat.le_refl _) hb)
  clear hb G3 K0b K1b B3 x0 x1 x2 ho
  have y0 := G4.out.cell 0
  have y1 := G4.out.cell 1
  have y2 := G4.out.cell 2
  have y3 := G4.out.cell 3
  have y4 := G4.out.cell 4
  have y5 := G4.out.cell 5
  have z0 := G4.out.frozen 0
  have z1 := G4.out.frozen 1
  have z2 := G4.out.frozen 2
  have z3 := G4.out.frozen 3
  have z4 := G4.out.frozen 4
  have z5 := G4.out.frozen 5
  have x0 := K0c.out.cell 0
  have x1 := K0c.out.cell 1
  have x2 := K0c.out.cell 2
  have G5 : Hid (Blk (w5.setCell ⟨g4, 5, none⟩ (.slice Ax (nl - 4 : Nat) cx)) g4 43 #[.int .u32 (i0 : Int), .int .u32 (i4 : Int), .int .u16 (i8 : Int), .int .u16 (i10 : Int), .int .u32 (i12 : Int), .slice Ax (nl - 4 : Nat) cx]) := Lib.hid (G4.out.set_ 5 (.slice Ax (nl - 4 : Nat) cx))
  have K0d := Lib.hid (K0c.out.far (p := ⟨g4, 5, none⟩) (show w.heap.size ≠ g4 by omega) (.slice Ax (nl - 4 : Nat) cx))
  have K1d := Lib.hid (K1c.out.far (p := ⟨g4, 5, none⟩) (show w.heap.size + 1 ≠ g4 by omega) (.slice Ax (nl - 4 : Nat) cx))
  have B5 := Lib.hid (B4.out.setCell (p := ⟨g4, 5, none⟩) (show w.heap.size ≤ g4 by omega) (.slice Ax (nl - 4 : Nat) cx))
  have O5 := Lib.hid (O4.out.setBlk G4.out (by decide) 5 (.slice Ax (nl - 4 : Nat) cx))
  have hgl : g4 < w5.heap.size := G4.out.lt
  clear G4 K0c K1c B4
  go_wp2_with fail
  generalize w5.setCell ⟨g4, 5, none⟩ (.slice Ax (nl - 4 : Nat) cx) = v6 at G5 K0d K1d B5 O5 ⊢
  clear hgl x0 x1 x2 y0 z0 y1 z1 y2 z2 y3 z3 y4 z4 y5 z5
  rw [← drawn_eq 6]
  refine wp_region_grow_tail 10 (by kernel_rfl) [(Is (.agg #[.int .u8 2, .int .u8 (f.toNat : Int), .slice A n c])), (Is (.agg #[.int .u32 (i0 : Int), .int .u32 (i4 : Int), .int .u16 (i8 : Int), .int .u16 (i10 : Int), .int .u32 (i12 : Int), .slice Ax (nl - 4 : Nat) cx])), (Is (.pointer (some ⟨w.heap.size, 0, none⟩))), (Is (.int .u8 2)), (Is (.agg #[.int .u32 (i0 : Int), .int .u32 (i4 : Int), .int .u16 (i8 : Int), .int .u16 (i10 : Int), .int .u32 (i12 : Int), .slice Ax (nl - 4 : Nat) cx])), (Is (.bool false)), (Is (.func (.func 62) #[] #[.pointer (some ⟨w.heap.size, 0, none⟩)])), (Is (.tuple #[.agg #[.int .u32 0, .int .u32 0, .int .u16 0, .int .u16 0, .int .u32 0, .slice none 0 0], .int .i64 7])), (Is (.agg #[.int .u32 0, .int .u32 0, .int .u16 0, .int .u16 0, .int .u32 0, .slice none 0 0])), (Is (.int .i64 7))] rfl ?_ (by kernel_rfl) (by kernel_rfl) ?_ ?_
  · intro p hp
    simp only [List.mem_cons, List.not_mem_nil, or_false] at hp
    rcases hp with rfl | rfl | rfl | rfl | rfl | rfl | rfl | rfl | rfl | rfl
    · exact Lasts.is _
    · exact Lasts.is _
    · exact Lasts.is _
    · exact Lasts.is _
    · exact Lasts.is _
    · exact Lasts.is _
    · exact Lasts.is _
    · exact Lasts.is _
    · exact Lasts.is _
    · exact Lasts.is _
  · refine ⟨?_, ?_, ?_, ?_, ?_, ?_, ?_, ?_, ?_, ?_, trivial⟩
    · intro listed a w1 hl hc
      have h1 : a.tmps[1]?.getD undef = .pointer (some ⟨w.heap.size, 0, none⟩) := (hc.was 1 (by kernel_rfl)).trans rfl
      have kb := K0d.out.below hc.g K0d.out.lt
      have x0 : w1.cell? ⟨w.heap.size, 0, none⟩ = some (.int .u8 2) := kb.cell 0
      have x1 : w1.cell? ⟨w.heap.size, 1, none⟩ = some (.int .u8 (f.toNat : Int)) := kb.cell 1
      have x2 : w1.cell? ⟨w.heap.size, 2, none⟩ = some (.slice A n c) := kb.cell 2
      clear kb
      refine does_value rfl rfl (.agg #[.int .u8 2, .int .u8 (f.toNat : Int), .slice A n c]) w1 ?_ (Below.refl _ _) rfl
      clear hc hl
      go_simp
    · intro listed a w1 hl hc
      have h4 : a.tmps[4]?.getD undef = .pointer (some ⟨g4, 0, none⟩) := (hc.was 4 (by kernel_rfl)).trans rfl
      have kb := G5.out.below hc.g G5.out.lt
      have x0 : w1.cell? ⟨g4, 0, none⟩ = some (.int .u32 (i0 : Int)) := kb.cell 0
      have x1 : w1.cell? ⟨g4, 1, none⟩ = some (.int .u32 (i4 : Int)) := kb.cell 1
      have x2 : w1.cell? ⟨g4, 2, none⟩ = some (.int .u16 (i8 : Int)) := kb.cell 2
      have x3 : w1.cell? ⟨g4, 3, none⟩ = some (.int .u16 (i10 : Int)) := kb.cell 3
      have x4 : w1.cell? ⟨g4, 4, none⟩ = some (.int .u32 (i12 : Int)) := kb.cell 4
      have x5 : w1.cell? ⟨g4, 5, none⟩ = some (.slice Ax (nl - 4 : Nat) cx) := kb.cell 5
      clear kb
      refine does_value rfl rfl (.agg #[.int .u32 (i0 : Int), .int .u32 (i4 : Int), .int .u16 (i8 : Int), .int .u16 (i10 : Int), .int .u32 (i12 : Int), .slice Ax (nl - 4 : Nat) cx]) w1 ?_ (Below.refl _ _) rfl
      clear hc hl
      go_simp
    · intro listed a w1 hl hc
      have h1 : a.tmps[1]?.getD undef = .pointer (some ⟨w.heap.size, 0, none⟩) := (hc.was 1 (by kernel_rfl)).trans rfl
      refine does_value rfl rfl (.pointer (some ⟨w.heap.size, 0, none⟩)) w1 ?_ (Below.refl _ _) rfl
      clear hc hl
      go_simp
    · intro listed a w1 hl hc
      have h42 : a.tmps[42]?.getD undef = .pointer (some ⟨w.heap.size, 0, none⟩) := hc.dep hl 2 42 rfl (by kernel_rfl)
      have kb := K0d.out.below hc.g K0d.out.lt
      have x0 : w1.cell? ⟨w.heap.size, 0, none⟩ = some (.int .u8 2) := kb.cell 0
      clear kb
      refine does_value rfl rfl (.int .u8 2) w1 ?_ (Below.refl _ _) rfl
      clear hc hl
      go_simp
    · intro listed a w1 hl hc
      have h4 : a.tmps[4]?.getD undef = .pointer (some ⟨g4, 0, none⟩) := (hc.was 4 (by kernel_rfl)).trans rfl
      have kb := G5.out.below hc.g G5.out.lt
      have x0 : w1.cell? ⟨g4, 0, none⟩ = some (.int .u32 (i0 : Int)) := kb.cell 0
      have x1 : w1.cell? ⟨g4, 1, none⟩ = some (.int .u32 (i4 : Int)) := kb.cell 1
      have x2 : w1.cell? ⟨g4, 2, none⟩ = some (.int .u16 (i8 : Int)) := kb.cell 2
      have x3 : w1.cell? ⟨g4, 3, none⟩ = some (.int .u16 (i10 : Int)) := kb.cell 3
      have x4 : w1.cell? ⟨g4, 4, none⟩ = some (.int .u32 (i12 : Int)) := kb.cell 4
      have x5 : w1.cell? ⟨g4, 5, none⟩ = some (.slice Ax (nl - 4 : Nat) cx) := kb.cell 5
      clear kb
      refine does_value rfl rfl (.agg #[.int .u32 (i0 : Int), .int .u32 (i4 : Int), .int .u16 (i8 : Int), .int .u16 (i10 : Int), .int .u32 (i12 : Int), .slice Ax (nl - 4 : Nat) cx]) w1 ?_ (Below.refl _ _) rfl
      clear hc hl
      go_simp
    · intro listed a w1 hl hc
      have h43 : a.tmps[43]?.getD undef = .int .u8 2 := hc.dep hl 3 43 rfl (by kernel_rfl)
      have h44 : a.tmps[44]?.getD undef = .agg #[.int .u32 (i0 : Int), .int .u32 (i4 : Int), .int .u16 (i8 : Int), .int .u16 (i10 : Int), .int .u32 (i12 : Int), .slice Ax (nl - 4 : Nat) cx] := hc.dep hl 4 44 rfl (by kernel_rfl)
      refine does_call rfl rfl 64 #[.int .u8 2, .agg #[.int .u32 (i0 : Int), .int .u32 (i4 : Int), .int .u16 (i8 : Int), .int .u16 (i10 : Int), .int .u32 (i12 : Int), .slice Ax (nl - 4 : Nat) cx]] ?_ ((HII.out w1 Ax cx).mono fun e w' ⟨he, hb⟩ => ⟨_, he, hb, rfl⟩)
      clear hc hl
      go_simp
    · intro listed a w1 hl hc
      have h6 : a.tmps[6]?.getD undef = .func (.func 62) #[] #[.pointer (some ⟨w.heap.size, 0, none⟩)] := (hc.was 6 (by kernel_rfl)).trans rfl
      refine does_value rfl rfl (.func (.func 62) #[] #[.pointer (some ⟨w.heap.size, 0, none⟩)]) w1 ?_ (Below.refl _ _) rfl
      clear hc hl
      go_simp
    · intro listed a w1 hl hc
      have h40 : a.tmps[40]?.getD undef = .agg #[.int .u8 2, .int .u8 (f.toNat : Int), .slice A n c] := hc.dep hl 0 40 rfl (by kernel_rfl)
      have h41 : a.tmps[41]?.getD undef = .agg #[.int .u32 (i0 : Int), .int .u32 (i4 : Int), .int .u16 (i8 : Int), .int .u16 (i10 : Int), .int .u32 (i12 : Int), .slice Ax (nl - 4 : Nat) cx] := hc.dep hl 1 41 rfl (by kernel_rfl)
      have h45 : a.tmps[45]?.getD undef = .bool false := hc.dep hl 5 45 rfl (by kernel_rfl)
      have h46 : a.tmps[46]?.getD undef = .func (.func 62) #[] #[.pointer (some ⟨w.heap.size, 0, none⟩)] := hc.dep hl 6 46 rfl (by kernel_rfl)
      refine does_call rfl rfl 63 #[.agg #[.int .u8 2, .int .u8 (f.toNat : Int), .slice A n c], .agg #[.int .u32 (i0 : Int), .int .u32 (i4 : Int), .int .u16 (i8 : Int), .int .u16 (i10 : Int), .int .u32 (i12 : Int), .slice Ax (nl - 4 : Nat) cx], .bool false, .func (.func 62) #[] #[.pointer (some ⟨w.heap.size, 0, none⟩)]] ?_ ((HCK.out w1 Ax cx (B5.out.trans (hc.g.mono B5.out.size)) (K0d.out.below hc.g K0d.out.lt) (O5.out.below hc.g (Nat.le_refl _))).mono fun e w' ⟨he, hb⟩ => ⟨_, he, hb, rfl⟩)
      clear hc hl
      go_simp
    · intro listed a w1 hl hc
      have h47 : a.tmps[47]?.getD undef = .tuple #[.agg #[.int .u32 0, .int .u32 0, .int .u16 0, .int .u16 0, .int .u32 0, .slice none 0 0], .int .i64 7] := hc.dep hl 7 47 rfl (by kernel_rfl)
      refine does_value rfl rfl (.agg #[.int .u32 0, .int .u32 0, .int .u16 0, .int .u16 0, .int .u32 0, .slice none 0 0]) w1 ?_ (Below.refl _ _) rfl
      clear hc hl
      go_simp
    · intro listed a w1 hl hc
      have h47 : a.tmps[47]?.getD undef = .tuple #[.agg #[.int .u32 0, .int .u32 0, .int .u16 0, .int .u16 0, .int .u32 0, .slice none 0 0], .int .i64 7] := hc.dep hl 7 47 rfl (by kernel_rfl)
      refine does_value rfl rfl (.int .i64 7) w1 ?_ (Below.refl _ _) rfl
      clear hc hl
      go_simp
  intro w2 hb2
  rintro _ rfl _ rfl _ rfl _ rfl _ rfl _ rfl _ rfl _ rfl _ rfl _ rfl
  simp only [Thus, List.reverse_cons, List.reverse_nil, List.nil_append, List.cons_append, List.drop, List.take, lay]
  go_frame
  have K1e := Lib.hid (K1d.out.below hb2 K1d.out.lt)
  have B6 := Lib.hid (below_then B5.out (Nat.le_refl _) hb2)
  clear hb2 K1d B5
  have y0 := K1e.out.cell 0
  have y1 := K1e.out.cell 1
  have y2 := K1e.out.cell 2
  have y3 := K1e.out.cell 3
  have y4 := K1e.out.cell 4
  have y5 := K1e.out.cell 5
  have z0 := K1e.out.frozen 0
  have z1 := K1e.out.frozen 1
  have z2 := K1e.out.frozen 2
  have z3 := K1e.out.frozen 3
  have z4 := K1e.out.frozen 4
  have z5 := K1e.out.frozen 5
  go_wp2_with fail
  have H3 := ((((((K1e.out.set_ 0 (.int .u32 0)).set_ 1 (.int .u32 0)).set_ 2 (.int .u16 0)).set_ 3 (.int .u16 0)).set_ 4 (.int .u32 0)).set_ 5 (.slice none 0 0))
  exact bodyPost_ret (v := .tuple #[.agg #[.int .u32 0, .int .u32 0, .int .u16 0, .int .u16 0, .int .u32 0, .slice none 0 0], .int .i64 7]) (by simp [results, Try.results24, go_sem, H3.cell]) rfl ⟨none, 0, 0, rfl, Own8.nil _ _ _, ((((((B6.out.setCell (p := ⟨w.heap.size + 1, 0, none⟩) (show w.heap.size ≤ w.heap.size + 1 by omega) (.int .u32 0)).setCell (p := ⟨w.heap.size + 1, 1, none⟩) (show w.heap.size ≤ w.heap.size + 1 by omega) (.int .u32 0)).setCell (p := ⟨w.heap.size + 1, 2, none⟩) (show w.heap.size ≤ w.heap.size + 1 by omega) (.int .u16 0)).setCell (p := ⟨w.heap.size + 1, 3, none⟩) (show w.heap.size ≤ w.heap.size + 1 by omega) (.int .u16 0)).setCell (p := ⟨w.heap.size + 1, 4, none⟩) (show w.heap.size ≤ w.heap.size + 1 by omega) (.int .u32 0)).setCell (p := ⟨w.heap.size + 1, 5, none⟩) (show w.heap.size ≤ w.heap.size + 1 by omega) (.slice none 0 0))⟩
set_option maxRecDepth 100000 in
set_option maxHeartbeats 4000000 in
theorem getInit_cut_no (f : UInt8) (A : Option Addr) (n c : Nat) (xs : List UInt8) (w : World) (hn : n ≤ 140737488355200) (hc : n ≤ c) (hcm : c ≤ maxLen) (hx : xs.length = n) (hr : Rd w w.heap.size A xs) (hcut : 4 ≤ numO xs 18 2 ∧ 20 + (numO xs 18 2 - 4) ≤ n) (hv : validI 2 (PI 2 xs) = true) (hd : decide ((2 : UInt8) = 2 ∧ f = 0 ∧ xs = bodyI 2 (PI 2 xs)) = false) :
    GetsI 24 #[.agg #[.int .u8 2, .int .u8 (f.toNat : Int), .slice A n c]] 2 f xs w := by
  have hz := zero_init
  have hcm' := hcm
  unfold maxLen at hcm'
  have hi0b : numO xs 0 4 < 4294967296 := numO_lt xs 0 4
  have Hi0 : Hid (∀ W, Below w.heap.size w W → Calls Try.prog 52 #[.slice A n c, .int .i64 0] W fun e w' => e = .returned (.int .u32 (numO xs 0 4)) ∧ Below W.heap.size W w') := Lib.hid fun W hW => (word_any A n c 0 xs W (by omega) (by omega) hx ((hr.below hW).more hW.size)).mono fun e w' ⟨he, hw⟩ => ⟨he, hw ▸ Below.refl _ _⟩
  have hi4b : numO xs 4 4 < 4294967296 := numO_lt xs 4 4
  have Hi4 : Hid (∀ W, Below w.heap.size w W → Calls Try.prog 52 #[.slice A n c, .int .i64 4] W fun e w' => e = .returned (.int .u32 (numO xs 4 4)) ∧ Below W.heap.size W w') := Lib.hid fun W hW => (word_any A n c 4 xs W (by omega) (by omega) hx ((hr.below hW).more hW.size)).mono fun e w' ⟨he, hw⟩ => ⟨he, hw ▸ Below.refl _ _⟩
  have hi8b : numO xs 8 2 < 65536 := numO_lt xs 8 2
  have Hi8 : Hid (∀ W, Below w.heap.size w W → Calls Try.prog 53 #[.slice A n c, .int .i64 8] W fun e w' => e = .returned (.int .u16 (numO xs 8 2)) ∧ Below W.heap.size W w') := Lib.hid fun W hW => (half_any A n c 8 xs W (by omega) (by omega) hx ((hr.below hW).more hW.size)).mono fun e w' ⟨he, hw⟩ => ⟨he, hw ▸ Below.refl _ _⟩
  have hi10b : numO xs 10 2 < 65536 := numO_lt xs 10 2
  have Hi10 : Hid (∀ W, Below w.heap.size w W → Calls Try.prog 53 #[.slice A n c, .int .i64 10] W fun e w' => e = .returned (.int .u16 (numO xs 10 2)) ∧ Below W.heap.size W w') := Lib.hid fun W hW => (half_any A n c 10 xs W (by omega) (by omega) hx ((hr.below hW).more hW.size)).mono fun e w' ⟨he, hw⟩ => ⟨he, hw ▸ Below.refl _ _⟩
  have hi12b : numO xs 12 4 < 4294967296 := numO_lt xs 12 4
  have Hi12 : Hid (∀ W, Below w.heap.size w W → Calls Try.prog 52 #[.slice A n c, .int .i64 12] W fun e w' => e = .returned (.int .u32 (numO xs 12 4)) ∧ Below W.heap.size W w') := Lib.hid fun W hW => (word_any A n c 12 xs W (by omega) (by omega) hx ((hr.below hW).more hW.size)).mono fun e w' ⟨he, hw⟩ => ⟨he, hw ▸ Below.refl _ _⟩
  have hcko : cookieOf 2 xs = (xs.drop 20).take (numO xs 18 2 - 4) := by unfold cookieOf; rw [if_pos ⟨rfl, hcut.1, by have := hcut.2; omega⟩]
  have hpi : PI 2 xs = ⟨numO xs 0 4, numO xs 4 4, numO xs 8 2, numO xs 10 2, numO xs 12 4, (xs.drop 20).take (numO xs 18 2 - 4)⟩ := by unfold PI; rw [hcko]
  have hckl : ((xs.drop 20).take (numO xs 18 2 - 4)).length = numO xs 18 2 - 4 := by have := hcut.2; simp; omega
  have hok : okI 2 f xs = false := by unfold okI; rw [hv, hd]; rfl
  have hra : ansI 2 f xs = noI := by unfold ansI; rw [hok]; rfl
  unfold GetsI
  rw [hok, hra]
  rw [hpi] at hv hd
  have HII : Hid (∀ W (Ax : Option Addr) (cx : Nat), Calls Try.prog 64 #[.int .u8 2, .agg #[.int .u32 (numO xs 0 4 : Int), .int .u32 (numO xs 4 4 : Int), .int .u16 (numO xs 8 2 : Int), .int .u16 (numO xs 10 2 : Int), .int .u32 (numO xs 12 4 : Int), .slice Ax (numO xs 18 2 - 4 : Nat) cx]] W fun e w' => e = .returned (.bool true) ∧ Below W.heap.size W w') := Lib.hid fun W Ax cx => by
    have := isInit_any 2 (numO xs 0 4) (numO xs 4 4) (numO xs 8 2) (numO xs 10 2) (numO xs 12 4) Ax (numO xs 18 2 - 4 : Nat) cx W
    unfold validI at hv
    rw [hckl] at hv
    rw [hv] at this
    exact this
  have HCK : Hid (∀ W (Ax : Option Addr) (cx : Nat), Below w.heap.size w W → Blk W w.heap.size 28 #[.int .u8 2, .int .u8 (f.toNat : Int), .slice A n c] → Own8 W 5 w.heap.size Ax (numO xs 18 2 - 4 : Nat) cx ((xs.drop 20).take (numO xs 18 2 - 4)) → Calls Try.prog 63 #[.agg #[.int .u8 2, .int .u8 (f.toNat : Int), .slice A n c], .agg #[.int .u32 (numO xs 0 4 : Int), .int .u32 (numO xs 4 4 : Int), .int .u16 (numO xs 8 2 : Int), .int .u16 (numO xs 10 2 : Int), .int .u32 (numO xs 12 4 : Int), .slice Ax (numO xs 18 2 - 4 : Nat) cx], .bool true, .func (.func 62) #[] #[.pointer (some ⟨w.heap.size, 0, none⟩)]] W fun e w' => e = .returned (.tuple #[.agg #[.int .u32 0, .int .u32 0, .int .u16 0, .int .u16 0, .int .u32 0, .slice none 0 0], .int .i64 7]) ∧ Below W.heap.size W w') := Lib.hid fun W Ax cx hW hB ho => checkedI_no 2 f A n c (numO xs 0 4) (numO xs 4 4) (numO xs 8 2) (numO xs 10 2) (numO xs 12 4) Ax (numO xs 18 2 - 4 : Nat) cx w.heap.size xs (bodyI 2 ⟨numO xs 0 4, numO xs 4 4, numO xs 8 2, numO xs 10 2, numO xs 12 4, (xs.drop 20).take (numO xs 18 2 - 4)⟩) 2 0 W hx ((hr.below hW).more hW.size) hd (fun W2 h2 => getInit1_any 2 f A n c w.heap.size _ _ _ _ _ _ hi0b hi4b hi8b hi10b hi12b Ax (numO xs 18 2 - 4 : Nat) cx W2 (by omega) hckl ((ho.rd.below h2).more h2.size) (hB.below h2 hB.lt))
  have hlb : numO xs 18 2 < 65536 := numO_lt xs 18 2
  have HL : Hid (∀ W, Below w.heap.size w W → Calls Try.prog 53 #[.slice A n c, .int .i64 18] W fun e w' => e = .returned (.int .u16 (numO xs 18 2)) ∧ W = w') := Lib.hid fun W hW => half_any A n c 18 xs W (by omega) (by omega) hx ((hr.below hW).more hW.size)
  have HCUT : Hid (∀ W, Below w.heap.size w W → Calls Try.prog 54 #[.slice A n c, .int .i64 20, .int .i64 ((numO xs 18 2 : Int) - 4)] W fun e w' => ∃ A2 c2, e = .returned (.tuple #[.slice A2 (numO xs 18 2 - 4 : Nat) c2, .bool true]) ∧ Own8 w' 5 W.heap.size A2 (numO xs 18 2 - 4 : Nat) c2 ((xs.drop 20).take (numO xs 18 2 - 4)) ∧ Below W.heap.size W w') := Lib.hid fun W hW => by
    have := cut_yes A n c 20 (numO xs 18 2 - 4) xs W (by omega) hc hcm hx ((hr.below hW).more hW.size) (by have := hcut.2; omega)
    rw [show ((numO xs 18 2 - 4 : Nat) : Int) = (numO xs 18 2 : Int) - 4 by have := hcut.1; omega] at this
    exact this
  obtain ⟨i0, ei0⟩ : ∃ i0, i0 = numO xs 0 4 := ⟨_, rfl⟩
  rw [← ei0] at Hi0 hi0b HCK HII
  obtain ⟨i4, ei4⟩ : ∃ i4, i4 = numO xs 4 4 := ⟨_, rfl⟩
  rw [← ei4] at Hi4 hi4b HCK HII
  obtain ⟨i8, ei8⟩ : ∃ i8, i8 = numO xs 8 2 := ⟨_, rfl⟩
  rw [← ei8] at Hi8 hi8b HCK HII
  obtain ⟨i10, ei10⟩ : ∃ i10, i10 = numO xs 10 2 := ⟨_, rfl⟩
  rw [← ei10] at Hi10 hi10b HCK HII
  obtain ⟨i12, ei12⟩ : ∃ i12, i12 = numO xs 12 4 := ⟨_, rfl⟩
  rw [← ei12] at Hi12 hi12b HCK HII
  obtain ⟨nl, enl⟩ : ∃ nl, nl = numO xs 18 2 := ⟨_, rfl⟩
  rw [← enl] at HL HCUT hlb HCK HII
  rw [← enl] at hcut
  obtain ⟨CKL, eCK⟩ : ∃ CKL, CKL = (xs.drop 20).take (nl - 4) := ⟨_, rfl⟩
  rw [← eCK] at HCUT HCK
  have hcut1 := hcut.1
  clear hx hr hra hok hv hcko hpi hd enl hcut hckl eCK ei0 ei4 ei8 ei10 ei12
  have hmf : ∀ (fn : Fn) (first cap : Array Value) (w : World), (Instr.makeFunc fn first cap).run Try.prog w = .ok (.func fn first cap) w := fun _ _ _ _ => rfl
  have b0 : Blk (w.alloc (.cells #[.int .u8 2, .int .u8 (f.toNat : Int), .slice A n c] 28)) w.heap.size 28 #[.int .u8 2, .int .u8 (f.toNat : Int), .slice A n c] := Blk.new w 28 #[.int .u8 2, .int .u8 (f.toNat : Int), .slice A n c]
  have b1 : Blk ((w.alloc (.cells #[.int .u8 2, .int .u8 (f.toNat : Int), .slice A n c] 28)).alloc (.cells #[.int .u32 0, .int .u32 0, .int .u16 0, .int .u16 0, .int .u32 0, .slice none 0 0] 43)) (w.heap.size + 1) 43 #[.int .u32 0, .int .u32 0, .int .u16 0, .int .u16 0, .int .u32 0, .slice none 0 0] := by simpa using Blk.new (w.alloc (.cells #[.int .u8 2, .int .u8 (f.toNat : Int), .slice A n c] 28)) 43 #[.int .u32 0, .int .u32 0, .int .u16 0, .int .u16 0, .int .u32 0, .slice none 0 0]
  have K0 := Lib.hid (b0.alloc (.cells #[.int .u32 0, .int .u32 0, .int .u16 0, .int .u16 0, .int .u32 0, .slice none 0 0] 43))
  have K1 := Lib.hid b1
  have B0 : Hid (Below w.heap.size w ((w.alloc (.cells #[.int .u8 2, .int .u8 (f.toNat : Int), .slice A n c] 28)).alloc (.cells #[.int .u32 0, .int .u32 0, .int .u16 0, .int .u16 0, .int .u32 0, .slice none 0 0] 43))) := Lib.hid (Wr.below_ (((Wr.refl 5 w.heap.size w).alloc (.cells #[.int .u8 2, .int .u8 (f.toNat : Int), .slice A n c] 28)).alloc (.cells #[.int .u32 0, .int .u32 0, .int .u16 0, .int .u16 0, .int .u32 0, .slice none 0 0] 43)) (Nat.le_refl _))
  clear b0 b1
  go_enter Try.func24, Try.ntmps24
  rw [drawn_eq 1, drawn_eq 6]
  go_wp2_with fail
  generalize ((w.alloc (.cells #[.int .u8 2, .int .u8 (f.toNat : Int), .slice A n c] 28)).alloc (.cells #[.int .u32 0, .int .u32 0, .int .u16 0, .int .u16 0, .int .u32 0, .slice none 0 0] 43)) = v0 at K0 K1 B0 ⊢
  rw [← drawn_eq 1]
  refine wp_region_grow_tail 17 (by kernel_rfl) [(Is (.pointer (some ⟨w.heap.size, 2, none⟩))), (Is (.slice A n c)), (Is (.int .u32 (i0 : Int))), (Is (.pointer (some ⟨w.heap.size, 2, none⟩))), (Is (.slice A n c)), (Is (.int .u32 (i4 : Int))), (Is (.pointer (some ⟨w.heap.size, 2, none⟩))), (Is (.slice A n c)), (Is (.int .u16 (i8 : Int))), (Is (.pointer (some ⟨w.heap.size, 2, none⟩))), (Is (.slice A n c)), (Is (.int .u16 (i10 : Int))), (Is (.pointer (some ⟨w.heap.size, 2, none⟩))), (Is (.slice A n c)), (Is (.int .u32 (i12 : Int))), (Is (.agg #[.int .u32 (i0 : Int), .int .u32 (i4 : Int), .int .u16 (i8 : Int), .int .u16 (i10 : Int), .int .u32 (i12 : Int), .slice none 0 0])), (NewBlk v0.heap.size 43 #[.int .u32 0, .int .u32 0, .int .u16 0, .int .u16 0, .int .u32 0, .slice none 0 0])] rfl ?_ (by kernel_rfl) (by kernel_rfl) ?_ ?_
  · intro p hp
    simp only [List.mem_cons, List.not_mem_nil, or_false] at hp
    rcases hp with rfl | rfl | rfl | rfl | rfl | rfl | rfl | rfl | rfl | rfl | rfl | rfl | rfl | rfl | rfl | rfl | rfl
    · exact Lasts.is _
    · exact Lasts.is _
    · exact Lasts.is _
    · exact Lasts.is _
    · exact Lasts.is _
    · exact Lasts.is _
    · exact Lasts.is _
    · exact Lasts.is _
    · exact Lasts.is _
    · exact Lasts.is _
    · exact Lasts.is _
    · exact Lasts.is _
    · exact Lasts.is _
    · exact Lasts.is _
    · exact Lasts.is _
    · exact Lasts.is _
    · exact Lasts.newBlk _ _ _
  · refine ⟨?_, ?_, ?_, ?_, ?_, ?_, ?_, ?_, ?_, ?_, ?_, ?_, ?_, ?_, ?_, ?_, ?_, trivial⟩
    · intro listed a w1 hl hc
      have h1 : a.tmps[1]?.getD undef = .pointer (some ⟨w.heap.size, 0, none⟩) := (hc.was 1 (by kernel_rfl)).trans rfl
      refine does_value rfl rfl (.pointer (some ⟨w.heap.size, 2, none⟩)) w1 ?_ (Below.refl _ _) rfl
      clear hc hl
      go_simp
    · intro listed a w1 hl hc
      have h7 : a.tmps[7]?.getD undef = .pointer (some ⟨w.heap.size, 2, none⟩) := hc.dep hl 0 7 rfl (by kernel_rfl)
      have kb := K0.out.below hc.g K0.out.lt
      have x2 : w1.cell? ⟨w.heap.size, 2, none⟩ = some (.slice A n c) := kb.cell 2
      clear kb
      refine does_value rfl rfl (.slice A n c) w1 ?_ (Below.refl _ _) rfl
      clear hc hl
      go_simp
    · intro listed a w1 hl hc
      have h8 : a.tmps[8]?.getD undef = .slice A n c := hc.dep hl 1 8 rfl (by kernel_rfl)
      refine does_call rfl rfl 52 #[.slice A n c, .int .i64 0] ?_ ((Hi0.out w1 (B0.out.trans (hc.g.mono B0.out.size))).mono fun e w' ⟨he, hb⟩ => ⟨_, he, hb, rfl⟩)
      clear hc hl
      go_simp
    · intro listed a w1 hl hc
      have h1 : a.tmps[1]?.getD undef = .pointer (some ⟨w.heap.size, 0, none⟩) := (hc.was 1 (by kernel_rfl)).trans rfl
      refine does_value rfl rfl (.pointer (some ⟨w.heap.size, 2, none⟩)) w1 ?_ (Below.refl _ _) rfl
      clear hc hl
      go_simp
    · intro listed a w1 hl hc
      have h10 : a.tmps[10]?.getD undef = .pointer (some ⟨w.heap.size, 2, none⟩) := hc.dep hl 3 10 rfl (by kernel_rfl)
      have kb := K0.out.below hc.g K0.out.lt
      have x2 : w1.cell? ⟨w.heap.size, 2, none⟩ = some (.slice A n c) := kb.cell 2
      clear kb
      refine does_value rfl rfl (.slice A n c) w1 ?_ (Below.refl _ _) rfl
      clear hc hl
      go_simp
    · intro listed a w1 hl hc
      have h11 : a.tmps[11]?.getD undef = .slice A n c := hc.dep hl 4 11 rfl (by kernel_rfl)
      refine does_call rfl rfl 52 #[.slice A n c, .int .i64 4] ?_ ((Hi4.out w1 (B0.out.trans (hc.g.mono B0.out.size))).mono fun e w' ⟨he, hb⟩ => ⟨_, he, hb, rfl⟩)
      clear hc hl
      go_simp
    · intro listed a w1 hl hc
      have h1 : a.tmps[1]?.getD undef = .pointer (some ⟨w.heap.size, 0, none⟩) := (hc.was 1 (by kernel_rfl)).trans rfl
      refine does_value rfl rfl (.pointer (some ⟨w.heap.size, 2, none⟩)) w1 ?_ (Below.refl _ _) rfl
      clear hc hl
      go_simp
    · intro listed a w1 hl hc
      have h13 : a.tmps[13]?.getD undef = .pointer (some ⟨w.heap.size, 2, none⟩) := hc.dep hl 6 13 rfl (by kernel_rfl)
      have kb := K0.out.below hc.g K0.out.lt
      have x2 : w1.cell? ⟨w.heap.size, 2, none⟩ = some (.slice A n c) := kb.cell 2
      clear kb
      refine does_value rfl rfl (.slice A n c) w1 ?_ (Below.refl _ _) rfl
      clear hc hl
      go_simp
    · intro listed a w1 hl hc
      have h14 : a.tmps[14]?.getD undef = .slice A n c := hc.dep hl 7 14 rfl (by kernel_rfl)
      refine does_call rfl rfl 53 #[.slice A n c, .int .i64 8] ?_ ((Hi8.out w1 (B0.out.trans (hc.g.mono B0.out.size))).mono fun e w' ⟨he, hb⟩ => ⟨_, he, hb, rfl⟩)
      clear hc hl
      go_simp
    · intro listed a w1 hl hc
      have h1 : a.tmps[1]?.getD undef = .pointer (some ⟨w.heap.size, 0, none⟩) := (hc.was 1 (by kernel_rfl)).trans rfl
      refine does_value rfl rfl (.pointer (some ⟨w.heap.size, 2, none⟩)) w1 ?_ (Below.refl _ _) rfl
      clear hc hl
      go_simp
    · intro listed a w1 hl hc
      have h16 : a.tmps[16]?.getD undef = .pointer (some ⟨w.heap.size, 2, none⟩) := hc.dep hl 9 16 rfl (by kernel_rfl)
      have kb := K0.out.below hc.g K0.out.lt
      have x2 : w1.cell? ⟨w.heap.size, 2, none⟩ = some (.slice A n c) := kb.cell 2
      clear kb
      refine does_value rfl rfl (.slice A n c) w1 ?_ (Below.refl _ _) rfl
      clear hc hl
      go_simp
    · intro listed a w1 hl hc
      have h17 : a.tmps[17]?.getD undef = .slice A n c := hc.dep hl 10 17 rfl (by kernel_rfl)
      refine does_call rfl rfl 53 #[.slice A n c, .int .i64 10] ?_ ((Hi10.out w1 (B0.out.trans (hc.g.mono B0.out.size))).mono fun e w' ⟨he, hb⟩ => ⟨_, he, hb, rfl⟩)
      clear hc hl
      go_simp
    · intro listed a w1 hl hc
      have h1 : a.tmps[1]?.getD undef = .pointer (some ⟨w.heap.size, 0, none⟩) := (hc.was 1 (by kernel_rfl)).trans rfl
      refine does_value rfl rfl (.pointer (some ⟨w.heap.size, 2, none⟩)) w1 ?_ (Below.refl _ _) rfl
      clear hc hl
      go_simp
    · intro listed a w1 hl hc
      have h19 : a.tmps[19]?.getD undef = .pointer (some ⟨w.heap.size, 2, none⟩) := hc.dep hl 12 19 rfl (by kernel_rfl)
      have kb := K0.out.below hc.g K0.out.lt
      have x2 : w1.cell? ⟨w.heap.size, 2, none⟩ = some (.slice A n c) := kb.cell 2
      clear kb
      refine does_value rfl rfl (.slice A n c) w1 ?_ (Below.refl _ _) rfl
      clear hc hl
      go_simp
    · intro listed a w1 hl hc
      have h20 : a.tmps[20]?.getD undef = .slice A n c := hc.dep hl 13 20 rfl (by kernel_rfl)
      refine does_call rfl rfl 52 #[.slice A n c, .int .i64 12] ?_ ((Hi12.out w1 (B0.out.trans (hc.g.mono B0.out.size))).mono fun e w' ⟨he, hb⟩ => ⟨_, he, hb, rfl⟩)
      clear hc hl
      go_simp
    · intro listed a w1 hl hc
      have h9 : a.tmps[9]?.getD undef = .int .u32 (i0 : Int) := hc.dep hl 2 9 rfl (by kernel_rfl)
      have h12 : a.tmps[12]?.getD undef = .int .u32 (i4 : Int) := hc.dep hl 5 12 rfl (by kernel_rfl)
      have h15 : a.tmps[15]?.getD undef = .int .u16 (i8 : Int) := hc.dep hl 8 15 rfl (by kernel_rfl)
      have h18 : a.tmps[18]?.getD undef = .int .u16 (i10 : Int) := hc.dep hl 11 18 rfl (by kernel_rfl)
      have h21 : a.tmps[21]?.getD undef = .int .u32 (i12 : Int) := hc.dep hl 14 21 rfl (by kernel_rfl)
      refine does_value rfl rfl (.agg #[.int .u32 (i0 : Int), .int .u32 (i4 : Int), .int .u16 (i8 : Int), .int .u16 (i10 : Int), .int .u32 (i12 : Int), .slice none 0 0]) w1 ?_ (Below.refl _ _) rfl
      clear hc hl
      go_simp
    · intro listed a w1 hl hc
      refine does_value rfl rfl (.pointer (some ⟨w1.heap.size, 0, none⟩)) (w1.alloc (.cells #[.int .u32 0, .int .u32 0, .int .u16 0, .int .u16 0, .int .u32 0, .slice none 0 0] 43)) ?_ (below_new w1 _) ⟨_, rfl, hc.g.size, Blk.new _ _ _⟩
      clear hc hl
      go_simp
  intro w2 hb2
  rintro _ rfl _ rfl _ rfl _ rfl _ rfl _ rfl _ rfl _ rfl _ rfl _ rfl _ rfl _ rfl _ rfl _ rfl _ rfl _ rfl _ ⟨g4, rfl, hg4, hb4⟩
  simp only [Thus, List.reverse_cons, List.reverse_nil, List.nil_append, List.cons_append, List.drop, List.take, lay]
  go_frame
  have hl0 := K0.out.lt
  have hl1 := K1.out.lt
  have HG := Lib.hid hb4
  have hge : w.heap.size ≤ g4 := by omega
  have y0 := HG.out.cell 0
  have y1 := HG.out.cell 1
  have y2 := HG.out.cell 2
  have y3 := HG.out.cell 3
  have y4 := HG.out.cell 4
  have y5 := HG.out.cell 5
  have z0 := HG.out.frozen 0
  have z1 := HG.out.frozen 1
  have z2 := HG.out.frozen 2
  have z3 := HG.out.frozen 3
  have z4 := HG.out.frozen 4
  have z5 := HG.out.frozen 5
  have G3 : Hid (Blk ((((((w2.setCell ⟨g4, 0, none⟩ (.int .u32 (i0 : Int))).setCell ⟨g4, 1, none⟩ (.int .u32 (i4 : Int))).setCell ⟨g4, 2, none⟩ (.int .u16 (i8 : Int))).setCell ⟨g4, 3, none⟩ (.int .u16 (i10 : Int))).setCell ⟨g4, 4, none⟩ (.int .u32 (i12 : Int))).setCell ⟨g4, 5, none⟩ (.slice none 0 0)) g4 43 #[.int .u32 (i0 : Int), .int .u32 (i4 : Int), .int .u16 (i8 : Int), .int .u16 (i10 : Int), .int .u32 (i12 : Int), .slice none 0 0]) := Lib.hid ((((((hb4.set_ 0 (.int .u32 (i0 : Int))).set_ 1 (.int .u32 (i4 : Int))).set_ 2 (.int .u16 (i8 : Int))).set_ 3 (.int .u16 (i10 : Int))).set_ 4 (.int .u32 (i12 : Int))).set_ 5 (.slice none 0 0))
  have K0b := Lib.hid (((((((K0.out.below hb2 K0.out.lt).far (p := ⟨g4, 0, none⟩) (show w.heap.size ≠ g4 by omega) (.int .u32 (i0 : Int))).far (p := ⟨g4, 1, none⟩) (show w.heap.size ≠ g4 by omega) (.int .u32 (i4 : Int))).far (p := ⟨g4, 2, none⟩) (show w.heap.size ≠ g4 by omega) (.int .u16 (i8 : Int))).far (p := ⟨g4, 3, none⟩) (show w.heap.size ≠ g4 by omega) (.int .u16 (i10 : Int))).far (p := ⟨g4, 4, none⟩) (show w.heap.size ≠ g4 by omega) (.int .u32 (i12 : Int))).far (p := ⟨g4, 5, none⟩) (show w.heap.size ≠ g4 by omega) (.slice none 0 0))
  have K1b := Lib.hid (((((((K1.out.below hb2 K1.out.lt).far (p := ⟨g4, 0, none⟩) (show w.heap.size + 1 ≠ g4 by omega) (.int .u32 (i0 : Int))).far (p := ⟨g4, 1, none⟩) (show w.heap.size + 1 ≠ g4 by omega) (.int .u32 (i4 : Int))).far (p := ⟨g4, 2, none⟩) (show w.heap.size + 1 ≠ g4 by omega) (.int .u16 (i8 : Int))).far (p := ⟨g4, 3, none⟩) (show w.heap.size + 1 ≠ g4 by omega) (.int .u16 (i10 : Int))).far (p := ⟨g4, 4, none⟩) (show w.heap.size + 1 ≠ g4 by omega) (.int .u32 (i12 : Int))).far (p := ⟨g4, 5, none⟩) (show w.heap.size + 1 ≠ g4 by omega) (.slice none 0 0))
  have B3 := Lib.hid (((((((below_then B0.out (Nat.le_refl _) hb2).setCell (p := ⟨g4, 0, none⟩) (show w.heap.size ≤ g4 by omega) (.int .u32 (i0 : Int))).setCell (p := ⟨g4, 1, none⟩) (show w.heap.size ≤ g4 by omega) (.int .u32 (i4 : Int))).setCell (p := ⟨g4, 2, none⟩) (show w.heap.size ≤ g4 by omega) (.int .u16 (i8 : Int))).setCell (p := ⟨g4, 3, none⟩) (show w.heap.size ≤ g4 by omega) (.int .u16 (i10 : Int))).setCell (p := ⟨g4, 4, none⟩) (show w.heap.size ≤ g4 by omega) (.int .u32 (i12 : Int))).setCell (p := ⟨g4, 5, none⟩) (show w.heap.size ≤ g4 by omega) (.slice none 0 0))
  have hgl : g4 < w2.heap.size := hb4.lt
  clear hb2 hb4 K0 K1 B0 HG
  have x0 := K0b.out.cell 0
  have x1 := K0b.out.cell 1
  have x2 := K0b.out.cell 2
  go_wp2_with fail
  generalize ((((((w2.setCell ⟨g4, 0, none⟩ (.int .u32 (i0 : Int))).setCell ⟨g4, 1, none⟩ (.int .u32 (i4 : Int))).setCell ⟨g4, 2, none⟩ (.int .u16 (i8 : Int))).setCell ⟨g4, 3, none⟩ (.int .u16 (i10 : Int))).setCell ⟨g4, 4, none⟩ (.int .u32 (i12 : Int))).setCell ⟨g4, 5, none⟩ (.slice none 0 0)) = v3 at G3 K0b K1b B3 ⊢
  clear hgl y0 z0 y1 z1 y2 z2 y3 z3 y4 z4 y5 z5
  clear x0 x1 x2
  refine (HL.out v3 B3.out).mono ?_
  rintro e w4 ⟨rfl, rfl⟩
  have x0 := K0b.out.cell 0
  have x1 := K0b.out.cell 1
  have x2 := K0b.out.cell 2
  go_wp2_with fail
  refine (HCUT.out v3 B3.out).mono ?_
  rintro e w5 ⟨Ax, cx, rfl, ho, hb⟩
  have O4 := Lib.hid (ho.more B3.out.size)
  have G4 := Lib.hid (G3.out.below hb G3.out.lt)
  have K0c := Lib.hid (K0b.out.below hb K0b.out.lt)
  have K1c := Lib.hid (K1b.out.below hb K1b.out.lt)
  have B4 := Lib.hid (below_then B3.out (Nat.le_refl _) hb)
  clear hb G3 K0b K1b B3 x0 x1 x2 ho
  have y0 := G4.out.cell 0
  have y1 := G4.out.cell 1
  have y2 := G4.out.cell 2
  have y3 := G4.out.cell 3
  have y4 := G4.out.cell 4
  have y5 := G4.out.cell 5
  have z0 := G4.out.frozen 0
  have z1 := G4.out.frozen 1
  have z2 := G4.out.frozen 2
  have z3 := G4.out.frozen 3
  have z4 := G4.out.frozen 4
  have z5 := G4.out.frozen 5
  have x0 := K0c.out.cell 0
  have x1 := K0c.out.cell 1
  have x2 := K0c.out.cell 2
  have G5 : Hid (Blk (w5.setCell ⟨g4, 5, none⟩ (.slice Ax (nl - 4 : Nat) cx)) g4 43 #[.int .u32 (i0 : Int), .int .u32 (i4 : Int), .int .u16 (i8 : Int), .int .u16 (i10 : Int), .int .u32 (i12 : Int), .slice Ax (nl - 4 : Nat) cx]) := Lib.hid (G4.out.set_ 5 (.slice Ax (nl - 4 : Nat) cx))
  have K0d := Lib.hid (K0c.out.far (p := ⟨g4, 5, none⟩) (show w.heap.size ≠ g4 by omega) (.slice Ax (nl - 4 : Nat) cx))
  have K1d := Lib.hid (K1c.out.far (p := ⟨g4, 5, none⟩) (show w.heap.size + 1 ≠ g4 by omega) (.slice Ax (nl - 4 : Nat) cx))
  have B5 := Lib.hid (B4.out.setCell (p := ⟨g4, 5, none⟩) (show w.heap.size ≤ g4 by omega) (.slice Ax (nl - 4 : Nat) cx))
  have O5 := Lib.hid (O4.out.setBlk G4.out (by decide) 5 (.slice Ax (nl - 4 : Nat) cx))
  have hgl : g4 < w5.heap.size := G4.out.lt
  clear G4 K0c K1c B4
  go_wp2_with fail
  generalize w5.setCell ⟨g4, 5, none⟩ (.slice Ax (nl - 4 : Nat) cx) = v6 at G5 K0d K1d B5 O5 ⊢
  clear hgl x0 x1 x2 y0 z0 y1 z1 y2 z2 y3 z3 y4 z4 y5 z5
  rw [← drawn_eq 6]
  refine wp_region_grow_tail 10 (by kernel_rfl) [(Is (.agg #[.int .u8 2, .int .u8 (f.toNat : Int), .slice A n c])), (Is (.agg #[.int .u32 (i0 : Int), .int .u32 (i4 : Int), .int .u16 (i8 : Int), .int .u16 (i10 : Int), .int .u32 (i12 : Int), .slice Ax (nl - 4 : Nat) cx])), (Is (.pointer (some ⟨w.heap.size, 0, none⟩))), (Is (.int .u8 2)), (Is (.agg #[.int .u32 (i0 : Int), .int .u32 (i4 : Int), .int .u16 (i8 : Int), .int .u16 (i10 : Int), .int .u32 (i12 : Int), .slice Ax (nl - 4 : Nat) cx])), (Is (.bool true)), (Is (.func (.func 62) #[] #[.pointer (some ⟨w.heap.size, 0, none⟩)])), (Is (.tuple #[.agg #[.int .u32 0, .int .u32 0, .int .u16 0, .int .u16 0, .int .u32 0, .slice none 0 0], .int .i64 7])), (Is (.agg #[.int .u32 0, .int .u32 0, .int .u16 0, .int .u16 0, .int .u32 0, .slice none 0 0])), (Is (.int .i64 7))] rfl ?_ (by kernel_rfl) (by kernel_rfl) ?_ ?_
  · intro p hp
    simp only [List.mem_cons, List.not_mem_nil, or_false] at hp
    rcases hp with rfl | rfl | rfl | rfl | rfl | rfl | rfl | rfl | rfl | rfl
    · exact Lasts.is _
    · exact Lasts.is _
    · exact Lasts.is _
    · exact Lasts.is _
    · exact Lasts.is _
    · exact Lasts.is _
    · exact Lasts.is _
    · exact Lasts.is _
    · exact Lasts.is _
    · exact Lasts.is _
  · refine ⟨?_, ?_, ?_, ?_, ?_, ?_, ?_, ?_, ?_, ?_, trivial⟩
    · intro listed a w1 hl hc
      have h1 : a.tmps[1]?.getD undef = .pointer (some ⟨w.heap.size, 0, none⟩) := (hc.was 1 (by kernel_rfl)).trans rfl
      have kb := K0d.out.below hc.g K0d.out.lt
      have x0 : w1.cell? ⟨w.heap.size, 0, none⟩ = some (.int .u8 2) := kb.cell 0
      have x1 : w1.cell? ⟨w.heap.size, 1, none⟩ = some (.int .u8 (f.toNat : Int)) := kb.cell 1
      have x2 : w1.cell? ⟨w.heap.size, 2, none⟩ = some (.slice A n c) := kb.cell 2
      clear kb
      refine does_value rfl rfl (.agg #[.int .u8 2, .int .u8 (f.toNat : Int), .slice A n c]) w1 ?_ (Below.refl _ _) rfl
      clear hc hl
      go_simp
    · intro listed a w1 hl hc
      have h4 : a.tmps[4]?.getD undef = .pointer (some ⟨g4, 0, none⟩) := (hc.was 4 (by kernel_rfl)).trans rfl
      have kb := G5.out.below hc.g G5.out.lt
      have x0 : w1.cell? ⟨g4, 0, none⟩ = some (.int .u32 (i0 : Int)) := kb.cell 0
      have x1 : w1.cell? ⟨g4, 1, none⟩ = some (.int .u32 (i4 : Int)) := kb.cell 1
      have x2 : w1.cell? ⟨g4, 2, none⟩ = some (.int .u16 (i8 : Int)) := kb.cell 2
      have x3 : w1.cell? ⟨g4, 3, none⟩ = some (.int .u16 (i10 : Int)) := kb.cell 3
      have x4 : w1.cell? ⟨g4, 4, none⟩ = some (.int .u32 (i12 : Int)) := kb.cell 4
      have x5 : w1.cell? ⟨g4, 5, none⟩ = some (.slice Ax (nl - 4 : Nat) cx) := kb.cell 5
      clear kb
      refine does_value rfl rfl (.agg #[.int .u32 (i0 : Int), .int .u32 (i4 : Int), .int .u16 (i8 : Int), .int .u16 (i10 : Int), .int .u32 (i12 : Int), .slice Ax (nl - 4 : Nat) cx]) w1 ?_ (Below.refl _ _) rfl
      clear hc hl
      go_simp
    · intro listed a w1 hl hc
      have h1 : a.tmps[1]?.getD undef = .pointer (some ⟨w.heap.size, 0, none⟩) := (hc.was 1 (by kernel_rfl)).trans rfl
      refine does_value rfl rfl (.pointer (some ⟨w.heap.size, 0, none⟩)) w1 ?_ (Below.refl _ _) rfl
      clear hc hl
      go_simp
    · intro listed a w1 hl hc
      have h42 : a.tmps[42]?.getD undef = .pointer (some ⟨w.heap.size, 0, none⟩) := hc.dep hl 2 42 rfl (by kernel_rfl)
      have kb := K0d.out.below hc.g K0d.out.lt
      have x0 : w1.cell? ⟨w.heap.size, 0, none⟩ = some (.int .u8 2) := kb.cell 0
      clear kb
      refine does_value rfl rfl (.int .u8 2) w1 ?_ (Below.refl _ _) rfl
      clear hc hl
      go_simp
    · intro listed a w1 hl hc
      have h4 : a.tmps[4]?.getD undef = .pointer (some ⟨g4, 0, none⟩) := (hc.was 4 (by kernel_rfl)).trans rfl
      have kb := G5.out.below hc.g G5.out.lt
      have x0 : w1.cell? ⟨g4, 0, none⟩ = some (.int .u32 (i0 : Int)) := kb.cell 0
      have x1 : w1.cell? ⟨g4, 1, none⟩ = some (.int .u32 (i4 : Int)) := kb.cell 1
      have x2 : w1.cell? ⟨g4, 2, none⟩ = some (.int .u16 (i8 : Int)) := kb.cell 2
      have x3 : w1.cell? ⟨g4, 3, none⟩ = some (.int .u16 (i10 : Int)) := kb.cell 3
      have x4 : w1.cell? ⟨g4, 4, none⟩ = some (.int .u32 (i12 : Int)) := kb.cell 4
      have x5 : w1.cell? ⟨g4, 5, none⟩ = some (.slice Ax (nl - 4 : Nat) cx) := kb.cell 5
      clear kb
      refine does_value rfl rfl (.agg #[.int .u32 (i0 : Int), .int .u32 (i4 : Int), .int .u16 (i8 : Int), .int .u16 (i10 : Int), .int .u32 (i12 : Int), .slice Ax (nl - 4 : Nat) cx]) w1 ?_ (Below.refl _ _) rfl
      clear hc hl
      go_simp
    · intro listed a w1 hl hc
      have h43 : a.tmps[43]?.getD undef = .int .u8 2 := hc.dep hl 3 43 rfl (by kernel_rfl)
      have h44 : a.tmps[44]?.getD undef = .agg #[.int .u32 (i0 : Int), .int .u32 (i4 : Int), .int .u16 (i8 : Int), .int .u16 (i10 : Int), .int .u32 (i12 : Int), .slice Ax (nl - 4 : Nat) cx] := hc.dep hl 4 44 rfl (by kernel_rfl)
      refine does_call rfl rfl 64 #[.int .u8 2, .agg #[.int .u32 (i0 : Int), .int .u32 (i4 : Int), .int .u16 (i8 : Int), .int .u16 (i10 : Int), .int .u32 (i12 : Int), .slice Ax (nl - 4 : Nat) cx]] ?_ ((HII.out w1 Ax cx).mono fun e w' ⟨he, hb⟩ => ⟨_, he, hb, rfl⟩)
      clear hc hl
      go_simp
    · intro listed a w1 hl hc
      have h6 : a.tmps[6]?.getD undef = .func (.func 62) #[] #[.pointer (some ⟨w.heap.size, 0, none⟩)] := (hc.was 6 (by kernel_rfl)).trans rfl
      refine does_value rfl rfl (.func (.func 62) #[] #[.pointer (some ⟨w.heap.size, 0, none⟩)]) w1 ?_ (Below.refl _ _) rfl
      clear hc hl
      go_simp
    · intro listed a w1 hl hc
      have h40 : a.tmps[40]?.getD undef = .agg #[.int .u8 2, .int .u8 (f.toNat : Int), .slice A n c] := hc.dep hl 0 40 rfl (by kernel_rfl)
      have h41 : a.tmps[41]?.getD undef = .agg #[.int .u32 (i0 : Int), .int .u32 (i4 : Int), .int .u16 (i8 : Int), .int .u16 (i10 : Int), .int .u32 (i12 : Int), .slice Ax (nl - 4 : Nat) cx] := hc.dep hl 1 41 rfl (by kernel_rfl)
      have h45 : a.tmps[45]?.getD undef = .bool true := hc.dep hl 5 45 rfl (by kernel_rfl)
      have h46 : a.tmps[46]?.getD undef = .func (.func 62) #[] #[.pointer (some ⟨w.heap.size, 0, none⟩)] := hc.dep hl 6 46 rfl (by kernel_rfl)
      refine does_call rfl rfl 63 #[.agg #[.int .u8 2, .int .u8 (f.toNat : Int), .slice A n c], .agg #[.int .u32 (i0 : Int), .int .u32 (i4 : Int), .int .u16 (i8 : Int), .int .u16 (i10 : Int), .int .u32 (i12 : Int), .slice Ax (nl - 4 : Nat) cx], .bool true, .func (.func 62) #[] #[.pointer (some ⟨w.heap.size, 0, none⟩)]] ?_ ((HCK.out w1 Ax cx (B5.out.trans (hc.g.mono B5.out.size)) (K0d.out.below hc.g K0d.out.lt) (O5.out.below hc.g (Nat.le_refl _))).mono fun e w' ⟨he, hb⟩ => ⟨_, he, hb, rfl⟩)
      clear hc hl
      go_simp
    · intro listed a w1 hl hc
      have h47 : a.tmps[47]?.getD undef = .tuple #[.agg #[.int .u32 0, .int .u32 0, .int .u16 0, .int .u16 0, .int .u32 0, .slice none 0 0], .int .i64 7] := hc.dep hl 7 47 rfl (by kernel_rfl)
      refine does_value rfl rfl (.agg #[.int .u32 0, .int .u32 0, .int .u16 0, .int .u16 0, .int .u32 0, .slice none 0 0]) w1 ?_ (Below.refl _ _) rfl
      clear hc hl
      go_simp
    · intro listed a w1 hl hc
      have h47 : a.tmps[47]?.getD undef = .tuple #[.agg #[.int .u32 0, .int .u32 0, .int .u16 0, .int .u16 0, .int .u32 0, .slice none 0 0], .int .i64 7] := hc.dep hl 7 47 rfl (by kernel_rfl)
      refine does_value rfl rfl (.int .i64 7) w1 ?_ (Below.refl _ _) rfl
      clear hc hl
      go_simp
  intro w2 hb2
  rintro _ rfl _ rfl _ rfl _ rfl _ rfl _ rfl _ rfl _ rfl _ rfl _ rfl
  simp only [Thus, List.reverse_cons, List.reverse_nil, List.nil_append, List.cons_append, List.drop, List.take, lay]
  go_frame
  have K1e := Lib.hid (K1d.out.below hb2 K1d.out.lt)
  have B6 := Lib.hid (below_then B5.out (Nat.le_refl _) hb2)
  clear hb2 K1d B5
  have y0 := K1e.out.cell 0
  have y1 := K1e.out.cell 1
  have y2 := K1e.out.cell 2
  have y3 := K1e.out.cell 3
  have y4 := K1e.out.cell 4
  have y5 := K1e.out.cell 5
  have z0 := K1e.out.frozen 0
  have z1 := K1e.out.frozen 1
  have z2 := K1e.out.frozen 2
  have z3 := K1e.out.frozen 3
  have z4 := K1e.out.frozen 4
  have z5 := K1e.out.frozen 5
  go_wp2_with fail
  have H3 := ((((((K1e.out.set_ 0 (.int .u32 0)).set_ 1 (.int .u32 0)).set_ 2 (.int .u16 0)).set_ 3 (.int .u16 0)).set_ 4 (.int .u32 0)).set_ 5 (.slice none 0 0))
  exact bodyPost_ret (v := .tuple #[.agg #[.int .u32 0, .int .u32 0, .int .u16 0, .int .u16 0, .int .u32 0, .slice none 0 0], .int .i64 7]) (by simp [results, Try.results24, go_sem, H3.cell]) rfl ⟨none, 0, 0, rfl, Own8.nil _ _ _, ((((((B6.out.setCell (p := ⟨w.heap.size + 1, 0, none⟩) (show w.heap.size ≤ w.heap.size + 1 by omega) (.int .u32 0)).setCell (p := ⟨w.heap.size + 1, 1, none⟩) (show w.heap.size ≤ w.heap.size + 1 by omega) (.int .u32 0)).setCell (p := ⟨w.heap.size + 1, 2, none⟩) (show w.heap.size ≤ w.heap.size + 1 by omega) (.int .u16 0)).setCell (p := ⟨w.heap.size + 1, 3, none⟩) (show w.heap.size ≤ w.heap.size + 1 by omega) (.int .u16 0)).setCell (p := ⟨w.heap.size + 1, 4, none⟩) (show w.heap.size ≤ w.heap.size + 1 by omega) (.int .u32 0)).setCell (p := ⟨w.heap.size + 1, 5, none⟩) (show w.heap.size ≤ w.heap.size + 1 by omega) (.slice none 0 0))⟩
set_option maxRecDepth 100000 in
set_option maxHeartbeats 4000000 in
theorem getInit_cut_yes (f : UInt8) (A : Option Addr) (n c : Nat) (xs : List UInt8) (w : World) (hn : n ≤ 140737488355200) (hc : n ≤ c) (hcm : c ≤ maxLen) (hx : xs.length = n) (hr : Rd w w.heap.size A xs) (hcut : 4 ≤ numO xs 18 2 ∧ 20 + (numO xs 18 2 - 4) ≤ n) (hv : validI 2 (PI 2 xs) = true) (hd : decide ((2 : UInt8) = 2 ∧ f = 0 ∧ xs = bodyI 2 (PI 2 xs)) = true) :
    GetsI 24 #[.agg #[.int .u8 2, .int .u8 (f.toNat : Int), .slice A n c]] 2 f xs w := by
  have hz := zero_init
  have hcm' := hcm
  unfold maxLen at hcm'
  have hi0b : numO xs 0 4 < 4294967296 := numO_lt xs 0 4
  have Hi0 : Hid (∀ W, Below w.heap.size w W → Calls Try.prog 52 #[.slice A n c, .int .i64 0] W fun e w' => e = .returned (.int .u32 (numO xs 0 4)) ∧ Below W.heap.size W w') := Lib.hid fun W hW => (word_any A n c 0 xs W (by omega) (by omega) hx ((hr.below hW).more hW.size)).mono fun e w' ⟨he, hw⟩ => ⟨he, hw ▸ Below.refl _ _⟩
  have hi4b : numO xs 4 4 < 4294967296 := numO_lt xs 4 4
  have Hi4 : Hid (∀ W, Below w.heap.size w W → Calls Try.prog 52 #[.slice A n c, .int .i64 4] W fun e w' => e = .returned (.int .u32 (numO xs 4 4)) ∧ Below W.heap.size W w') := Lib.hid fun W hW => (word_any A n c 4 xs W (by omega) (by omega) hx ((hr.below hW).more hW.size)).mono fun e w' ⟨he, hw⟩ => ⟨he, hw ▸ Below.refl _ _⟩
  have hi8b : numO xs 8 2 < 65536 := numO_lt xs 8 2
  have Hi8 : Hid (∀ W, Below w.heap.size w W → Calls Try.prog 53 #[.slice A n c, .int .i64 8] W fun e w' => e = .returned (.int .u16 (numO xs 8 2)) ∧ Below W.heap.size W w') := Lib.hid fun W hW => (half_any A n c 8 xs W (by omega) (by omega) hx ((hr.below hW).more hW.size)).mono fun e w' ⟨he, hw⟩ => ⟨he, hw ▸ Below.refl _ _⟩
  have hi10b : numO xs 10 2 < 65536 := numO_lt xs 10 2
  have Hi10 : Hid (∀ W, Below w.heap.size w W → Calls Try.prog 53 #[.slice A n c, .int .i64 10] W fun e w' => e = .returned (.int .u16 (numO xs 10 2)) ∧ Below W.heap.size W w') := Lib.hid fun W hW => (half_any A n c 10 xs W (by omega) (by omega) hx ((hr.below hW).more hW.size)).mono fun e w' ⟨he, hw⟩ => ⟨he, hw ▸ Below.refl _ _⟩
  have hi12b : numO xs 12 4 < 4294967296 := numO_lt xs 12 4
  have Hi12 : Hid (∀ W, Below w.heap.size w W → Calls Try.prog 52 #[.slice A n c, .int .i64 12] W fun e w' => e = .returned (.int .u32 (numO xs 12 4)) ∧ Below W.heap.size W w') := Lib.hid fun W hW => (word_any A n c 12 xs W (by omega) (by omega) hx ((hr.below hW).more hW.size)).mono fun e w' ⟨he, hw⟩ => ⟨he, hw ▸ Below.refl _ _⟩
  have hcko : cookieOf 2 xs = (xs.drop 20).take (numO xs 18 2 - 4) := by unfold cookieOf; rw [if_pos ⟨rfl, hcut.1, by have := hcut.2; omega⟩]
  have hpi : PI 2 xs = ⟨numO xs 0 4, numO xs 4 4, numO xs 8 2, numO xs 10 2, numO xs 12 4, (xs.drop 20).take (numO xs 18 2 - 4)⟩ := by unfold PI; rw [hcko]
  have hckl : ((xs.drop 20).take (numO xs 18 2 - 4)).length = numO xs 18 2 - 4 := by have := hcut.2; simp; omega
  have hok : okI 2 f xs = true := by unfold okI; rw [hv, hd]; rfl
  have hra : ansI 2 f xs = ⟨numO xs 0 4, numO xs 4 4, numO xs 8 2, numO xs 10 2, numO xs 12 4, (xs.drop 20).take (numO xs 18 2 - 4)⟩ := by unfold ansI; rw [hok]; exact hpi
  unfold GetsI
  rw [hok, hra]
  rw [hpi] at hv hd
  have HII : Hid (∀ W (Ax : Option Addr) (cx : Nat), Calls Try.prog 64 #[.int .u8 2, .agg #[.int .u32 (numO xs 0 4 : Int), .int .u32 (numO xs 4 4 : Int), .int .u16 (numO xs 8 2 : Int), .int .u16 (numO xs 10 2 : Int), .int .u32 (numO xs 12 4 : Int), .slice Ax (numO xs 18 2 - 4 : Nat) cx]] W fun e w' => e = .returned (.bool true) ∧ Below W.heap.size W w') := Lib.hid fun W Ax cx => by
    have := isInit_any 2 (numO xs 0 4) (numO xs 4 4) (numO xs 8 2) (numO xs 10 2) (numO xs 12 4) Ax (numO xs 18 2 - 4 : Nat) cx W
    unfold validI at hv
    rw [hckl] at hv
    rw [hv] at this
    exact this
  have HCK : Hid (∀ W (Ax : Option Addr) (cx : Nat), Below w.heap.size w W → Blk W w.heap.size 28 #[.int .u8 2, .int .u8 (f.toNat : Int), .slice A n c] → Own8 W 5 w.heap.size Ax (numO xs 18 2 - 4 : Nat) cx ((xs.drop 20).take (numO xs 18 2 - 4)) → Calls Try.prog 63 #[.agg #[.int .u8 2, .int .u8 (f.toNat : Int), .slice A n c], .agg #[.int .u32 (numO xs 0 4 : Int), .int .u32 (numO xs 4 4 : Int), .int .u16 (numO xs 8 2 : Int), .int .u16 (numO xs 10 2 : Int), .int .u32 (numO xs 12 4 : Int), .slice Ax (numO xs 18 2 - 4 : Nat) cx], .bool true, .func (.func 62) #[] #[.pointer (some ⟨w.heap.size, 0, none⟩)]] W fun e w' => e = .returned (.tuple #[.agg #[.int .u32 (numO xs 0 4 : Int), .int .u32 (numO xs 4 4 : Int), .int .u16 (numO xs 8 2 : Int), .int .u16 (numO xs 10 2 : Int), .int .u32 (numO xs 12 4 : Int), .slice Ax (numO xs 18 2 - 4 : Nat) cx], .int .i64 0]) ∧ Below W.heap.size W w') := Lib.hid fun W Ax cx hW hB ho => checkedI_yes 2 f A n c (numO xs 0 4) (numO xs 4 4) (numO xs 8 2) (numO xs 10 2) (numO xs 12 4) Ax (numO xs 18 2 - 4 : Nat) cx w.heap.size xs (bodyI 2 ⟨numO xs 0 4, numO xs 4 4, numO xs 8 2, numO xs 10 2, numO xs 12 4, (xs.drop 20).take (numO xs 18 2 - 4)⟩) 2 0 W hx ((hr.below hW).more hW.size) hd (fun W2 h2 => getInit1_any 2 f A n c w.heap.size _ _ _ _ _ _ hi0b hi4b hi8b hi10b hi12b Ax (numO xs 18 2 - 4 : Nat) cx W2 (by omega) hckl ((ho.rd.below h2).more h2.size) (hB.below h2 hB.lt))
  have hlb : numO xs 18 2 < 65536 := numO_lt xs 18 2
  have HL : Hid (∀ W, Below w.heap.size w W → Calls Try.prog 53 #[.slice A n c, .int .i64 18] W fun e w' => e = .returned (.int .u16 (numO xs 18 2)) ∧ W = w') := Lib.hid fun W hW => half_any A n c 18 xs W (by omega) (by omega) hx ((hr.below hW).more hW.size)
  have HCUT : Hid (∀ W, Below w.heap.size w W → Calls Try.prog 54 #[.slice A n c, .int .i64 20, .int .i64 ((numO xs 18 2 : Int) - 4)] W fun e w' => ∃ A2 c2, e = .returned (.tuple #[.slice A2 (numO xs 18 2 - 4 : Nat) c2, .bool true]) ∧ Own8 w' 5 W.heap.size A2 (numO xs 18 2 - 4 : Nat) c2 ((xs.drop 20).take (numO xs 18 2 - 4)) ∧ Below W.heap.size W w') := Lib.hid fun W hW => by
    have := cut_yes A n c 20 (numO xs 18 2 - 4) xs W (by omega) hc hcm hx ((hr.below hW).more hW.size) (by have := hcut.2; omega)
    rw [show ((numO xs 18 2 - 4 : Nat) : Int) = (numO xs 18 2 : Int) - 4 by have := hcut.1; omega] at this
    exact this
  obtain ⟨i0, ei0⟩ : ∃ i0, i0 = numO xs 0 4 := ⟨_, rfl⟩
  rw [← ei0] at Hi0 hi0b HCK HII ⊢
  obtain ⟨i4, ei4⟩ : ∃ i4, i4 = numO xs 4 4 := ⟨_, rfl⟩
  rw [← ei4] at Hi4 hi4b HCK HII ⊢
  obtain ⟨i8, ei8⟩ : ∃ i8, i8 = numO xs 8 2 := ⟨_, rfl⟩
  rw [← ei8] at Hi8 hi8b HCK HII ⊢
  obtain ⟨i10, ei10⟩ : ∃ i10, i10 = numO xs 10 2 := ⟨_, rfl⟩
  rw [← ei10] at Hi10 hi10b HCK HII ⊢
  obtain ⟨i12, ei12⟩ : ∃ i12, i12 = numO xs 12 4 := ⟨_, rfl⟩
  rw [← ei12] at Hi12 hi12b HCK HII ⊢
  obtain ⟨nl, enl⟩ : ∃ nl, nl = numO xs 18 2 := ⟨_, rfl⟩
  rw [← enl] at HL HCUT hlb HCK HII ⊢
  rw [← enl] at hcut
  obtain ⟨CKL, eCK⟩ : ∃ CKL, CKL = (xs.drop 20).take (nl - 4) := ⟨_, rfl⟩
  rw [← eCK] at HCUT HCK ⊢
  have hcut1 := hcut.1
  clear hx hr hra hok hv hcko hpi hd enl hcut hckl eCK ei0 ei4 ei8 ei10 ei12
  have hmf : ∀ (fn : Fn) (first cap : Array Value) (w : World), (Instr.makeFunc fn first cap).run Try.prog w = .ok (.func fn first cap) w := fun _ _ _ _ => rfl
  have b0 : Blk (w.alloc (.cells #[.int .u8 2, .int .u8 (f.toNat : Int), .slice A n c] 28)) w.heap.size 28 #[.int .u8 2, .int .u8 (f.toNat : Int), .slice A n c] := Blk.new w 28 #[.int .u8 2, .int .u8 (f.toNat : Int), .slice A n c]
  have b1 : Blk ((w.alloc (.cells #[.int .u8 2, .int .u8 (f.toNat : Int), .slice A n c] 28)).alloc (.cells #[.int .u32 0, .int .u32 0, .int .u16 0, .int .u16 0, .int .u32 0, .slice none 0 0] 43)) (w.heap.size + 1) 43 #[.int .u32 0, .int .u32 0, .int .u16 0, .int .u16 0, .int .u32 0, .slice none 0 0] := by simpa using Blk.new (w.alloc (.cells #[.int .u8 2, .int .u8 (f.toNat : Int), .slice A n c] 28)) 43 #[.int .u32 0, .int .u32 0, .int .u16 0, .int .u16 0, .int .u32 0, .slice none 0 0]
  have K0 := Lib.hid (b0.alloc (.cells #[.int .u32 0, .int .u32 0, .int .u16 0, .int .u16 0, .int .u32 0, .slice none 0 0] 43))
  have K1 := Lib.hid b1
  have B0 : Hid (Below w.heap.size w ((w.alloc (.cells #[.int .u8 2, .int .u8 (f.toNat : Int), .slice A n c] 28)).alloc (.cells #[.int .u32 0, .int .u32 0, .int .u16 0, .int .u16 0, .int .u32 0, .slice none 0 0] 43))) := Lib.hid (Wr.below_ (((Wr.refl 5 w.heap.size w).alloc (.cells #[.int .u8 2, .int .u8 (f.toNat : Int), .slice A n c] 28)).alloc (.cells #[.int .u32 0, .int .u32 0, .int .u16 0, .int .u16 0, .int .u32 0, .slice none 0 0] 43)) (Nat.le_refl _))
  clear b0 b1
  go_enter Try.func24, Try.ntmps24
  rw [drawn_eq 1, drawn_eq 6]
  go_wp2_with fail
  generalize ((w.alloc (.cells #[.int .u8 2, .int .u8 (f.toNat : Int), .slice A n c] 28)).alloc (.cells #[.int .u32 0, .int .u32 0, .int .u16 0, .int .u16 0, .int .u32 0, .slice none 0 0] 43)) = v0 at K0 K1 B0 ⊢
  rw [← drawn_eq 1]
  refine wp_region_grow_tail 17 (by kernel_rfl) [(Is (.pointer (some ⟨w.heap.size, 2, none⟩))), (Is (.slice A n c)), (Is (.int .u32 (i0 : Int))), (Is (.pointer (some ⟨w.heap.size, 2, none⟩))), (Is (.slice A n c)), (Is (.int .u32 (i4 : Int))), (Is (.pointer (some ⟨w.heap.size, 2, none⟩))), (Is (.slice A n c)), (Is (.int .u16 (i8 : Int))), (Is (.pointer (some ⟨w.heap.size, 2, none⟩))), (Is (.slice A n c)), (Is (.int .u16 (i10 : Int))), (Is (.pointer (some ⟨w.heap.size, 2, none⟩))), (Is (.slice A n c)), (Is (.int .u32 (i12 : Int))), (Is (.agg #[.int .u32 (i0 : Int), .int .u32 (i4 : Int), .int .u16 (i8 : Int), .int .u16 (i10 : Int), .int .u32 (i12 : Int), .slice none 0 0])), (NewBlk v0.heap.size 43 #[.int .u32 0, .int .u32 0, .int .u16 0, .int .u16 0, .int .u32 0, .slice none 0 0])] rfl ?_ (by kernel_rfl) (by kernel_rfl) ?_ ?_
  · intro p hp
    simp only [List.mem_cons, List.not_mem_nil, or_false] at hp
    rcases hp with rfl | rfl | rfl | rfl | rfl | rfl | rfl | rfl | rfl | rfl | rfl | rfl | rfl | rfl | rfl | rfl | rfl
    · exact Lasts.is _
    · exact Lasts.is _
    · exact Lasts.is _
    · exact Lasts.is _
    · exact Lasts.is _
    · exact Lasts.is _
    · exact Lasts.is _
    · exact Lasts.is _
    · exact Lasts.is _
    · exact Lasts.is _
    · exact Lasts.is _
    · exact Lasts.is _
    · exact Lasts.is _
    · exact Lasts.is _
    · exact Lasts.is _
    · exact Lasts.is _
    · exact Lasts.newBlk _ _ _
  · refine ⟨?_, ?_, ?_, ?_, ?_, ?_, ?_, ?_, ?_, ?_, ?_, ?_, ?_, ?_, ?_, ?_, ?_, trivial⟩
    · intro listed a w1 hl hc
      have h1 : a.tmps[1]?.getD undef = .pointer (some ⟨w.heap.size, 0, none⟩) := (hc.was 1 (by kernel_rfl)).trans rfl
      refine does_value rfl rfl (.pointer (some ⟨w.heap.size, 2, none⟩)) w1 ?_ (Below.refl _ _) rfl
      clear hc hl
      go_simp
    · intro listed a w1 hl hc
      have h7 : a.tmps[7]?.getD undef = .pointer (some ⟨w.heap.size, 2, none⟩) := hc.dep hl 0 7 rfl (by kernel_rfl)
      have kb := K0.out.below hc.g K0.out.lt
      have x2 : w1.cell? ⟨w.heap.size, 2, none⟩ = some (.slice A n c) := kb.cell 2
      clear kb
      refine does_value rfl rfl (.slice A n c) w1 ?_ (Below.refl _ _) rfl
      clear hc hl
      go_simp
    · intro listed a w1 hl hc
      have h8 : a.tmps[8]?.getD undef = .slice A n c := hc.dep hl 1 8 rfl (by kernel_rfl)
      refine does_call rfl rfl 52 #[.slice A n c, .int .i64 0] ?_ ((Hi0.out w1 (B0.out.trans (hc.g.mono B0.out.size))).mono fun e w' ⟨he, hb⟩ => ⟨_, he, hb, rfl⟩)
      clear hc hl
      go_simp
    · intro listed a w1 hl hc
      have h1 : a.tmps[1]?.getD undef = .pointer (some ⟨w.heap.size, 0, none⟩) := (hc.was 1 (by kernel_rfl)).trans rfl
      refine does_value rfl rfl (.pointer (some ⟨w.heap.size, 2, none⟩)) w1 ?_ (Below.refl _ _) rfl
      clear hc hl
      go_simp
    · intro listed a w1 hl hc
      have h10 : a.tmps[10]?.getD undef = .pointer (some ⟨w.heap.size, 2, none⟩) := hc.dep hl 3 10 rfl (by kernel_rfl)
      have kb := K0.out.below hc.g K0.out.lt
      have x2 : w1.cell? ⟨w.heap.size, 2, none⟩ = some (.slice A n c) := kb.cell 2
      clear kb
      refine does_value rfl rfl (.slice A n c) w1 ?_ (Below.refl _ _) rfl
      clear hc hl
      go_simp
    · intro listed a w1 hl hc
      have h11 : a.tmps[11]?.getD undef = .slice A n c := hc.dep hl 4 11 rfl (by kernel_rfl)
      refine does_call rfl rfl 52 #[.slice A n c, .int .i64 4] ?_ ((Hi4.out w1 (B0.out.trans (hc.g.mono B0.out.size))).mono fun e w' ⟨he, hb⟩ => ⟨_, he, hb, rfl⟩)
      clear hc hl
      go_simp
    · intro listed a w1 hl hc
      have h1 : a.tmps[1]?.getD undef = .pointer (some ⟨w.heap.size, 0, none⟩) := (hc.was 1 (by kernel_rfl)).trans rfl
      refine does_value rfl rfl (.pointer (some ⟨w.heap.size, 2, none⟩)) w1 ?_ (Below.refl _ _) rfl
      clear hc hl
      go_simp
    · intro listed a w1 hl hc
      have h13 : a.tmps[13]?.getD undef = .pointer (some ⟨w.heap.size, 2, none⟩) := hc.dep hl 6 13 rfl (by kernel_rfl)
      have kb := K0.out.below hc.g K0.out.lt
      have x2 : w1.cell? ⟨w.heap.size, 2, none⟩ = some (.slice A n c) := kb.cell 2
      clear kb
      refine does_value rfl rfl (.slice A n c) w1 ?_ (Below.refl _ _) rfl
      clear hc hl
      go_simp
    · intro listed a w1 hl hc
      have h14 : a.tmps[14]?.getD undef = .slice A n c := hc.dep hl 7 14 rfl (by kernel_rfl)
      refine does_call rfl rfl 53 #[.slice A n c, .int .i64 8] ?_ ((Hi8.out w1 (B0.out.trans (hc.g.mono B0.out.size))).mono fun e w' ⟨he, hb⟩ => ⟨_, he, hb, rfl⟩)
      clear hc hl
      go_simp
    · intro listed a w1 hl hc
      have h1 : a.tmps[1]?.getD undef = .pointer (some ⟨w.heap.size, 0, none⟩) := (hc.was 1 (by kernel_rfl)).trans rfl
      refine does_value rfl rfl (.pointer (some ⟨w.heap.size, 2, none⟩)) w1 ?_ (Below.refl _ _) rfl
      clear hc hl
      go_simp
    · intro listed a w1 hl hc
      have h16 : a.tmps[16]?.getD undef = .pointer (some ⟨w.heap.size, 2, none⟩) := hc.dep hl 9 16 rfl (by kernel_rfl)
      have kb := K0.out.below hc.g K0.out.lt
      have x2 : w1.cell? ⟨w.heap.size, 2, none⟩ = some (.slice A n c) := kb.cell 2
      clear kb
      refine does_value rfl rfl (.slice A n c) w1 ?_ (Below.refl _ _) rfl
      clear hc hl
      go_simp
    · intro listed a w1 hl hc
      have h17 : a.tmps[17]?.getD undef = .slice A n c := hc.dep hl 10 17 rfl (by kernel_rfl)
      refine does_call rfl rfl 53 #[.slice A n c, .int .i64 10] ?_ ((Hi10.out w1 (B0.out.trans (hc.g.mono B0.out.size))).mono fun e w' ⟨he, hb⟩ => ⟨_, he, hb, rfl⟩)
      clear hc hl
      go_simp
    · intro listed a w1 hl hc
      have h1 : a.tmps[1]?.getD undef = .pointer (some ⟨w.heap.size, 0, none⟩) := (hc.was 1 (by kernel_rfl)).trans rfl
      refine does_value rfl rfl (.pointer (some ⟨w.heap.size, 2, none⟩)) w1 ?_ (Below.refl _ _) rfl
      clear hc hl
      go_simp
    · intro listed a w1 hl hc
      have h19 : a.tmps[19]?.getD undef = .pointer (some ⟨w.heap.size, 2, none⟩) := hc.dep hl 12 19 rfl (by kernel_rfl)
      have kb := K0.out.below hc.g K0.out.lt
      have x2 : w1.cell? ⟨w.heap.size, 2, none⟩ = some (.slice A n c) := kb.cell 2
      clear kb
      refine does_value rfl rfl (.slice A n c) w1 ?_ (Below.refl _ _) rfl
      clear hc hl
      go_simp
    · intro listed a w1 hl hc
      have h20 : a.tmps[20]?.getD undef = .slice A n c := hc.dep hl 13 20 rfl (by kernel_rfl)
      refine does_call rfl rfl 52 #[.slice A n c, .int .i64 12] ?_ ((Hi12.out w1 (B0.out.trans (hc.g.mono B0.out.size))).mono fun e w' ⟨he, hb⟩ => ⟨_, he, hb, rfl⟩)
      clear hc hl
      go_simp
    · intro listed a w1 hl hc
      have h9 : a.tmps[9]?.getD undef = .int .u32 (i0 : Int) := hc.dep hl 2 9 rfl (by kernel_rfl)
      have h12 : a.tmps[12]?.getD undef = .int .u32 (i4 : Int) := hc.dep hl 5 12 rfl (by kernel_rfl)
      have h15 : a.tmps[15]?.getD undef = .int .u16 (i8 : Int) := hc.dep hl 8 15 rfl (by kernel_rfl)
      have h18 : a.tmps[18]?.getD undef = .int .u16 (i10 : Int) := hc.dep hl 11 18 rfl (by kernel_rfl)
      have h21 : a.tmps[21]?.getD undef = .int .u32 (i12 : Int) := hc.dep hl 14 21 rfl (by kernel_rfl)
      refine does_value rfl rfl (.agg #[.int .u32 (i0 : Int), .int .u32 (i4 : Int), .int .u16 (i8 : Int), .int .u16 (i10 : Int), .int .u32 (i12 : Int), .slice none 0 0]) w1 ?_ (Below.refl _ _) rfl
      clear hc hl
      go_simp
    · intro listed a w1 hl hc
      refine does_value rfl rfl (.pointer (some ⟨w1.heap.size, 0, none⟩)) (w1.alloc (.cells #[.int .u32 0, .int .u32 0, .int .u16 0, .int .u16 0, .int .u32 0, .slice none 0 0] 43)) ?_ (below_new w1 _) ⟨_, rfl, hc.g.size, Blk.new _ _ _⟩
      clear hc hl
      go_simp
  intro w2 hb2
  rintro _ rfl _ rfl _ rfl _ rfl _ rfl _ rfl _ rfl _ rfl _ rfl _ rfl _ rfl _ rfl _ rfl _ rfl _ rfl _ rfl _ ⟨g4, rfl, hg4, hb4⟩
  simp only [Thus, List.reverse_cons, List.reverse_nil, List.nil_append, List.cons_append, List.drop, List.take, lay]
  go_frame
  have hl0 := K0.out.lt
  have hl1 := K1.out.lt
  have HG := Lib.hid hb4
  have hge : w.heap.size ≤ g4 := by omega
  have y0 := HG.out.cell 0
  have y1 := HG.out.cell 1
  have y2 := HG.out.cell 2
  have y3 := HG.out.cell 3
  have y4 := HG.out.cell 4
  have y5 := HG.out.cell 5
  have z0 := HG.out.frozen 0
  have z1 := HG.out.frozen 1
  have z2 := HG.out.frozen 2
  have z3 := HG.out.frozen 3
  have z4 := HG.out.frozen 4
  have z5 := HG.out.frozen 5
  have G3 : Hid (Blk ((((((w2.setCell ⟨g4, 0, none⟩ (.int .u32 (i0 : Int))).setCell ⟨g4, 1, none⟩ (.int .u32 (i4 : Int))).setCell ⟨g4, 2, none⟩ (.int .u16 (i8 : Int))).setCell ⟨g4, 3, none⟩ (.int .u16 (i10 : Int))).setCell ⟨g4, 4, none⟩ (.int .u32 (i12 : Int))).setCell ⟨g4, 5, none⟩ (.slice none 0 0)) g4 43 #[.int .u32 (i0 : Int), .int .u32 (i4 : Int), .int .u16 (i8 : Int), .int .u16 (i10 : Int), .int .u32 (i12 : Int), .slice none 0 0]) := Lib.hid ((((((hb4.set_ 0 (.int .u32 (i0 : Int))).set_ 1 (.int .u32 (i4 : Int))).set_ 2 (.int .u16 (i8 : Int))).set_ 3 (.int .u16 (i10 : Int))).set_ 4 (.int .u32 (i12 : Int))).set_ 5 (.slice none 0 0))
  have K0b := Lib.hid (((((((K0.out.below hb2 K0.out.lt).far (p := ⟨g4, 0, none⟩) (show w.heap.size ≠ g4 by omega) (.int .u32 (i0 : Int))).far (p := ⟨g4, 1, none⟩) (show w.heap.size ≠ g4 by omega) (.int .u32 (i4 : Int))).far (p := ⟨g4, 2, none⟩) (show w.heap.size ≠ g4 by omega) (.int .u16 (i8 : Int))).far (p := ⟨g4, 3, none⟩) (show w.heap.size ≠ g4 by omega) (.int .u16 (i10 : Int))).far (p := ⟨g4, 4, none⟩) (show w.heap.size ≠ g4 by omega) (.int .u32 (i12 : Int))).far (p := ⟨g4, 5, none⟩) (show w.heap.size ≠ g4 by omega) (.slice none 0 0))
  have K1b := Lib.hid (((((((K1.out.below hb2 K1.out.lt).far (p := ⟨g4, 0, none⟩) (show w.heap.size + 1 ≠ g4 by omega) (.int .u32 (i0 : Int))).far (p := ⟨g4, 1, none⟩) (show w.heap.size + 1 ≠ g4 by omega) (.int .u32 (i4 : Int))).far (p := ⟨g4, 2, none⟩) (show w.heap.size + 1 ≠ g4 by omega) (.int .u16 (i8 : Int))).far (p := ⟨g4, 3, none⟩) (show w.heap.size + 1 ≠ g4 by omega) (.int .u16 (i10 : Int))).far (p := ⟨g4, 4, none⟩) (show w.heap.size + 1 ≠ g4 by omega) (.int .u32 (i12 : Int))).far (p := ⟨g4, 5, none⟩) (show w.heap.size + 1 ≠ g4 by omega) (.slice none 0 0))
  have B3 := Lib.hid (((((((below_then B0.out (Nat.le_refl _) hb2).setCell (p := ⟨g4, 0, none⟩) (show w.heap.size ≤ g4 by omega) (.int .u32 (i0 : Int))).setCell (p := ⟨g4, 1, none⟩) (show w.heap.size ≤ g4 by omega) (.int .u32 (i4 : Int))).setCell (p := ⟨g4, 2, none⟩) (show w.heap.size ≤ g4 by omega) (.int .u16 (i8 : Int))).setCell (p := ⟨g4, 3, none⟩) (show w.heap.size ≤ g4 by omega) (.int .u16 (i10 : Int))).setCell (p := ⟨g4, 4, none⟩) (show w.heap.size ≤ g4 by omega) (.int .u32 (i12 : Int))).setCell (p := ⟨g4, 5, none⟩) (show w.heap.size ≤ g4 by omega) (.slice none 0 0))
  have hgl : g4 < w2.heap.size := hb4.lt
  clear hb2 hb4 K0 K1 B0 HG
  have x0 := K0b.out.cell 0
  have x1 := K0b.out.cell 1
  have x2 := K0b.out.cell 2
  go_wp2_with fail
  generalize ((((((w2.setCell ⟨g4, 0, none⟩ (.int .u32 (i0 : Int))).setCell ⟨g4, 1, none⟩ (.int .u32 (i4 : Int))).setCell ⟨g4, 2, none⟩ (.int .u16 (i8 : Int))).setCell ⟨g4, 3, none⟩ (.int .u16 (i10 : Int))).setCell ⟨g4, 4, none⟩ (.int .u32 (i12 : Int))).setCell ⟨g4, 5, none⟩ (.slice none 0 0)) = v3 at G3 K0b K1b B3 ⊢
  clear hgl y0 z0 y1 z1 y2 z2 y3 z3 y4 z4 y5 z5
  clear x0 x1 x2
  refine (HL.out v3 B3.out).mono ?_
  rintro e w4 ⟨rfl, rfl⟩
  have x0 := K0b.out.cell 0
  have x1 := K0b.out.cell 1
  have x2 := K0b.out.cell 2
  go_wp2_with fail
  refine (HCUT.out v3 B3.out).mono ?_
  rintro e w5 ⟨Ax, cx, rfl, ho, hb⟩
  have O4 := Lib.hid (ho.more B3.out.size)
  have G4 := Lib.hid (G3.out.below hb G3.out.lt)
  have K0c := Lib.hid (K0b.out.below hb K0b.out.lt)
  have K1c := Lib.hid (K1b.out.below hb K1b.out.lt)
  have B4 := Lib.hid (below_then B3.out (Nat.le_refl _) hb)
  clear hb G3 K0b K1b B3 x0 x1 x2 ho
  have y0 := G4.out.cell 0
  have y1 := G4.out.cell 1
  have y2 := G4.out.cell 2
  have y3 := G4.out.cell 3
  have y4 := G4.out.cell 4
  have y5 := G4.out.cell 5
  have z0 := G4.out.frozen 0
  have z1 := G4.out.frozen 1
  have z2 := G4.out.frozen 2
  have z3 := G4.out.frozen 3
  have z4 := G4.out.frozen 4
  have z5 := G4.out.frozen 5
  have x0 := K0c.out.cell 0
  have x1 := K0c.out.cell 1
  have x2 := K0c.out.cell 2
  have G5 : Hid (Blk (w5.setCell ⟨g4, 5, none⟩ (.slice Ax (nl - 4 : Nat) cx)) g4 43 #[.int .u32 (i0 : Int), .int .u32 (i4 : Int), .int .u16 (i8 : Int), .int .u16 (i10 : Int), .int .u32 (i12 : Int), .slice Ax (nl - 4 : Nat) cx]) := Lib.hid (G4.out.set_ 5 (.slice Ax (nl - 4 : Nat) cx))
  have K0d := Lib.hid (K0c.out.far (p := ⟨g4, 5, none⟩) (show w.heap.size ≠ g4 by omega) (.slice Ax (nl - 4 : Nat) cx))
  have K1d := Lib.hid (K1c.out.far (p := ⟨g4, 5, none⟩) (show w.heap.size + 1 ≠ g4 by omega) (.slice Ax (nl - 4 : Nat) cx))
  have B5 := Lib.hid (B4.out.setCell (p := ⟨g4, 5, none⟩) (show w.heap.size ≤ g4 by omega) (.slice Ax (nl - 4 : Nat) cx))
  have O5 := Lib.hid (O4.out.setBlk G4.out (by decide) 5 (.slice Ax (nl - 4 : Nat) cx))
  have hgl : g4 < w5.heap.size := G4.out.lt
  clear G4 K0c K1c B4
  go_wp2_with fail
  generalize w5.setCell ⟨g4, 5, none⟩ (.slice Ax (nl - 4 : Nat) cx) = v6 at G5 K0d K1d B5 O5 ⊢
  clear hgl x0 x1 x2 y0 z0 y1 z1 y2 z2 y3 z3 y4 z4 y5 z5
  rw [← drawn_eq 6]
  refine wp_region_grow_tail 10 (by kernel_rfl) [(Is (.agg #[.int .u8 2, .int .u8 (f.toNat : Int), .slice A n c])), (Is (.agg #[.int .u32 (i0 : Int), .int .u32 (i4 : Int), .int .u16 (i8 : Int), .int .u16 (i10 : Int), .int .u32 (i12 : Int), .slice Ax (nl - 4 : Nat) cx])), (Is (.pointer (some ⟨w.heap.size, 0, none⟩))), (Is (.int .u8 2)), (Is (.agg #[.int .u32 (i0 : Int), .int .u32 (i4 : Int), .int .u16 (i8 : Int), .int .u16 (i10 : Int), .int .u32 (i12 : Int), .slice Ax (nl - 4 : Nat) cx])), (Is (.bool true)), (Is (.func (.func 62) #[] #[.pointer (some ⟨w.heap.size, 0, none⟩)])), (Is (.tuple #[.agg #[.int .u32 (i0 : Int), .int .u32 (i4 : Int), .int .u16 (i8 : Int), .int .u16 (i10 : Int), .int .u32 (i12 : Int), .slice Ax (nl - 4 : Nat) cx], .int .i64 0])), (Is (.agg #[.int .u32 (i0 : Int), .int .u32 (i4 : Int), .int .u16 (i8 : Int), .int .u16 (i10 : Int), .int .u32 (i12 : Int), .slice Ax (nl - 4 : Nat) cx])), (Is (.int .i64 0))] rfl ?_ (by kernel_rfl) (by kernel_rfl) ?_ ?_
  · intro p hp
    simp only [List.mem_cons, List.not_mem_nil, or_false] at hp
    rcases hp with rfl | rfl | rfl | rfl | rfl | rfl | rfl | rfl | rfl | rfl
    · exact Lasts.is _
    · exact Lasts.is _
    · exact Lasts.is _
    · exact Lasts.is _
    · exact Lasts.is _
    · exact Lasts.is _
    · exact Lasts.is _
    · exact Lasts.is _
    · exact Lasts.is _
    · exact Lasts.is _
  · refine ⟨?_, ?_, ?_, ?_, ?_, ?_, ?_, ?_, ?_, ?_, trivial⟩
    · intro listed a w1 hl hc
      have h1 : a.tmps[1]?.getD undef = .pointer (some ⟨w.heap.size, 0, none⟩) := (hc.was 1 (by kernel_rfl)).trans rfl
      have kb := K0d.out.below hc.g K0d.out.lt
      have x0 : w1.cell? ⟨w.heap.size, 0, none⟩ = some (.int .u8 2) := kb.cell 0
      have x1 : w1.cell? ⟨w.heap.size, 1, none⟩ = some (.int .u8 (f.toNat : Int)) := kb.cell 1
      have x2 : w1.cell? ⟨w.heap.size, 2, none⟩ = some (.slice A n c) := kb.cell 2
      clear kb
      refine does_value rfl rfl (.agg #[.int .u8 2, .int .u8 (f.toNat : Int), .slice A n c]) w1 ?_ (Below.refl _ _) rfl
      clear hc hl
      go_simp
    · intro listed a w1 hl hc
      have h4 : a.tmps[4]?.getD undef = .pointer (some ⟨g4, 0, none⟩) := (hc.was 4 (by kernel_rfl)).trans rfl
      have kb := G5.out.below hc.g G5.out.lt
      have x0 : w1.cell? ⟨g4, 0, none⟩ = some (.int .u32 (i0 : Int)) := kb.cell 0
      have x1 : w1.cell? ⟨g4, 1, none⟩ = some (.int .u32 (i4 : Int)) := kb.cell 1
      have x2 : w1.cell? ⟨g4, 2, none⟩ = some (.int .u16 (i8 : Int)) := kb.cell 2
      have x3 : w1.cell? ⟨g4, 3, none⟩ = some (.int .u16 (i10 : Int)) := kb.cell 3
      have x4 : w1.cell? ⟨g4, 4, none⟩ = some (.int .u32 (i12 : Int)) := kb.cell 4
      have x5 : w1.cell? ⟨g4, 5, none⟩ = some (.slice Ax (nl - 4 : Nat) cx) := kb.cell 5
      clear kb
      refine does_value rfl rfl (.agg #[.int .u32 (i0 : Int), .int .u32 (i4 : Int), .int .u16 (i8 : Int), .int .u16 (i10 : Int), .int .u32 (i12 : Int), .slice Ax (nl - 4 : Nat) cx]) w1 ?_ (Below.refl _ _) rfl
      clear hc hl
      go_simp
    · intro listed a w1 hl hc
      have h1 : a.tmps[1]?.getD undef = .pointer (some ⟨w.heap.size, 0, none⟩) := (hc.was 1 (by kernel_rfl)).trans rfl
      refine does_value rfl rfl (.pointer (some ⟨w.heap.size, 0, none⟩)) w1 ?_ (Below.refl _ _) rfl
      clear hc hl
      go_simp
    · intro listed a w1 hl hc
      have h42 : a.tmps[42]?.getD undef = .pointer (some ⟨w.heap.size, 0, none⟩) := hc.dep hl 2 42 rfl (by kernel_rfl)
      have kb := K0d.out.below hc.g K0d.out.lt
      have x0 : w1.cell? ⟨w.heap.size, 0, none⟩ = some (.int .u8 2) := kb.cell 0
      clear kb
      refine does_value rfl rfl (.int .u8 2) w1 ?_ (Below.refl _ _) rfl
      clear hc hl
      go_simp
    · intro listed a w1 hl hc
      have h4 : a.tmps[4]?.getD undef = .pointer (some ⟨g4, 0, none⟩) := (hc.was 4 (by kernel_rfl)).trans rfl
      have kb := G5.out.below hc.g G5.out.lt
      have x0 : w1.cell? ⟨g4, 0, none⟩ = some (.int .u32 (i0 : Int)) := kb.cell 0
      have x1 : w1.cell? ⟨g4, 1, none⟩ = some (.int .u32 (i4 : Int)) := kb.cell 1
      have x2 : w1.cell? ⟨g4, 2, none⟩ = some (.int .u16 (i8 : Int)) := kb.cell 2
      have x3 : w1.cell? ⟨g4, 3, none⟩ = some (.int .u16 (i10 : Int)) := kb.cell 3
      have x4 : w1.cell? ⟨g4, 4, none⟩ = some (.int .u32 (i12 : Int)) := kb.cell 4
      have x5 : w1.cell? ⟨g4, 5, none⟩ = some (.slice Ax (nl - 4 : Nat) cx) := kb.cell 5
      clear kb
      refine does_value rfl rfl (.agg #[.int .u32 (i0 : Int), .int .u32 (i4 : Int), .int .u16 (i8 : Int), .int .u16 (i10 : Int), .int .u32 (i12 : Int), .slice Ax (nl - 4 : Nat) cx]) w1 ?_ (Below.refl _ _) rfl
      clear hc hl
      go_simp
    · intro listed a w1 hl hc
      have h43 : a.tmps[43]?.getD undef = .int .u8 2 := hc.dep hl 3 43 rfl (by kernel_rfl)
      have h44 : a.tmps[44]?.getD undef = .agg #[.int .u32 (i0 : Int), .int .u32 (i4 : Int), .int .u16 (i8 : Int), .int .u16 (i10 : Int), .int .u32 (i12 : Int), .slice Ax (nl - 4 : Nat) cx] := hc.dep hl 4 44 rfl (by kernel_rfl)
      refine does_call rfl rfl 64 #[.int .u8 2, .agg #[.int .u32 (i0 : Int), .int .u32 (i4 : Int), .int .u16 (i8 : Int), .int .u16 (i10 : Int), .int .u32 (i12 : Int), .slice Ax (nl - 4 : Nat) cx]] ?_ ((HII.out w1 Ax cx).mono fun e w' ⟨he, hb⟩ => ⟨_, he, hb, rfl⟩)
      clear hc hl
      go_simp
    · intro listed a w1 hl hc
      have h6 : a.tmps[6]?.getD undef = .func (.func 62) #[] #[.pointer (some ⟨w.heap.size, 0, none⟩)] := (hc.was 6 (by kernel_rfl)).trans rfl
      refine does_value rfl rfl (.func (.func 62) #[] #[.pointer (some ⟨w.heap.size, 0, none⟩)]) w1 ?_ (Below.refl _ _) rfl
      clear hc hl
      go_simp
    · intro listed a w1 hl hc
      have h40 : a.tmps[40]?.getD undef = .agg #[.int .u8 2, .int .u8 (f.toNat : Int), .slice A n c] := hc.dep hl 0 40 rfl (by kernel_rfl)
      have h41 : a.tmps[41]?.getD undef = .agg #[.int .u32 (i0 : Int), .int .u32 (i4 : Int), .int .u16 (i8 : Int), .int .u16 (i10 : Int), .int .u32 (i12 : Int), .slice Ax (nl - 4 : Nat) cx] := hc.dep hl 1 41 rfl (by kernel_rfl)
      have h45 : a.tmps[45]?.getD undef = .bool true := hc.dep hl 5 45 rfl (by kernel_rfl)
      have h46 : a.tmps[46]?.getD undef = .func (.func 62) #[] #[.pointer (some ⟨w.heap.size, 0, none⟩)] := hc.dep hl 6 46 rfl (by kernel_rfl)
      refine does_call rfl rfl 63 #[.agg #[.int .u8 2, .int .u8 (f.toNat : Int), .slice A n c], .agg #[.int .u32 (i0 : Int), .int .u32 (i4 : Int), .int .u16 (i8 : Int), .int .u16 (i10 : Int), .int .u32 (i12 : Int), .slice Ax (nl - 4 : Nat) cx], .bool true, .func (.func 62) #[] #[.pointer (some ⟨w.heap.size, 0, none⟩)]] ?_ ((HCK.out w1 Ax cx (B5.out.trans (hc.g.mono B5.out.size)) (K0d.out.below hc.g K0d.out.lt) (O5.out.below hc.g (Nat.le_refl _))).mono fun e w' ⟨he, hb⟩ => ⟨_, he, hb, rfl⟩)
      clear hc hl
      go_simp
    · intro listed a w1 hl hc
      have h47 : a.tmps[47]?.getD undef = .tuple #[.agg #[.int .u32 (i0 : Int), .int .u32 (i4 : Int), .int .u16 (i8 : Int), .int .u16 (i10 : Int), .int .u32 (i12 : Int), .slice Ax (nl - 4 : Nat) cx], .int .i64 0] := hc.dep hl 7 47 rfl (by kernel_rfl)
      refine does_value rfl rfl (.agg #[.int .u32 (i0 : Int), .int .u32 (i4 : Int), .int .u16 (i8 : Int), .int .u16 (i10 : Int), .int .u32 (i12 : Int), .slice Ax (nl - 4 : Nat) cx]) w1 ?_ (Below.refl _ _) rfl
      clear hc hl
      go_simp
    · intro listed a w1 hl hc
      have h47 : a.tmps[47]?.getD undef = .tuple #[.agg #[.int .u32 (i0 : Int), .int .u32 (i4 : Int), .int .u16 (i8 : Int), .int .u16 (i10 : Int), .int .u32 (i12 : Int), .slice Ax (nl - 4 : Nat) cx], .int .i64 0] := hc.dep hl 7 47 rfl (by kernel_rfl)
      refine does_value rfl rfl (.int .i64 0) w1 ?_ (Below.refl _ _) rfl
      clear hc hl
      go_simp
  intro w2 hb2
  rintro _ rfl _ rfl _ rfl _ rfl _ rfl _ rfl _ rfl _ rfl _ rfl _ rfl
  simp only [Thus, List.reverse_cons, List.reverse_nil, List.nil_append, List.cons_append, List.drop, List.take, lay]
  go_frame
  have K1e := Lib.hid (K1d.out.below hb2 K1d.out.lt)
  have B6 := Lib.hid (below_then B5.out (Nat.le_refl _) hb2)
  have O6 := Lib.hid (O5.out.below hb2 (Nat.le_refl _))
  clear hb2 K1d B5
  have y0 := K1e.out.cell 0
  have y1 := K1e.out.cell 1
  have y2 := K1e.out.cell 2
  have y3 := K1e.out.cell 3
  have y4 := K1e.out.cell 4
  have y5 := K1e.out.cell 5
  have z0 := K1e.out.frozen 0
  have z1 := K1e.out.frozen 1
  have z2 := K1e.out.frozen 2
  have z3 := K1e.out.frozen 3
  have z4 := K1e.out.frozen 4
  have z5 := K1e.out.frozen 5
  go_wp2_with fail
  have H3 := ((((((K1e.out.set_ 0 (.int .u32 (i0 : Int))).set_ 1 (.int .u32 (i4 : Int))).set_ 2 (.int .u16 (i8 : Int))).set_ 3 (.int .u16 (i10 : Int))).set_ 4 (.int .u32 (i12 : Int))).set_ 5 (.slice Ax (nl - 4 : Nat) cx))
  exact bodyPost_ret (v := .tuple #[.agg #[.int .u32 (i0 : Int), .int .u32 (i4 : Int), .int .u16 (i8 : Int), .int .u16 (i10 : Int), .int .u32 (i12 : Int), .slice Ax (nl - 4 : Nat) cx], .int .i64 0]) (by simp [results, Try.results24, go_sem, H3.cell]) rfl ⟨Ax, nl - 4, cx, rfl, ((((((O6.out.setBlk K1e.out (by decide) 0 (.int .u32 (i0 : Int))).setBlk (K1e.out.set_ 0 (.int .u32 (i0 : Int))) (by decide) 1 (.int .u32 (i4 : Int))).setBlk ((K1e.out.set_ 0 (.int .u32 (i0 : Int))).set_ 1 (.int .u32 (i4 : Int))) (by decide) 2 (.int .u16 (i8 : Int))).setBlk (((K1e.out.set_ 0 (.int .u32 (i0 : Int))).set_ 1 (.int .u32 (i4 : Int))).set_ 2 (.int .u16 (i8 : Int))) (by decide) 3 (.int .u16 (i10 : Int))).setBlk ((((K1e.out.set_ 0 (.int .u32 (i0 : Int))).set_ 1 (.int .u32 (i4 : Int))).set_ 2 (.int .u16 (i8 : Int))).set_ 3 (.int .u16 (i10 : Int))) (by decide) 4 (.int .u32 (i12 : Int))).setBlk (((((K1e.out.set_ 0 (.int .u32 (i0 : Int))).set_ 1 (.int .u32 (i4 : Int))).set_ 2 (.int .u16 (i8 : Int))).set_ 3 (.int .u16 (i10 : Int))).set_ 4 (.int .u32 (i12 : Int))) (by decide) 5 (.slice Ax (nl - 4 : Nat) cx)), ((((((B6.out.setCell (p := ⟨w.heap.size + 1, 0, none⟩) (show w.heap.size ≤ w.heap.size + 1 by omega) (.int .u32 (i0 : Int))).setCell (p := ⟨w.heap.size + 1, 1, none⟩) (show w.heap.size ≤ w.heap.size + 1 by omega) (.int .u32 (i4 : Int))).setCell (p := ⟨w.heap.size + 1, 2, none⟩) (show w.heap.size ≤ w.heap.size + 1 by omega) (.int .u16 (i8 : Int))).setCell (p := ⟨w.heap.size + 1, 3, none⟩) (show w.heap.size ≤ w.heap.size + 1 by omega) (.int .u16 (i10 : Int))).setCell (p := ⟨w.heap.size + 1, 4, none⟩) (show w.heap.size ≤ w.heap.size + 1 by omega) (.int .u32 (i12 : Int))).setCell (p := ⟨w.heap.size + 1, 5, none⟩) (show w.heap.size ≤ w.heap.size + 1 by omega) (.slice Ax (nl - 4 : Nat) cx))⟩
theorem getInit_any (k f : UInt8) (A : Option Addr) (n c : Nat) (xs : List UInt8) (w : World) (hn : n ≤ 140737488355200) (hc : n ≤ c) (hcm : c ≤ maxLen) (hx : xs.length = n) (hr : Rd w w.heap.size A xs) : GetsI 24 #[.agg #[.int .u8 (k.toNat : Int), .int .u8 (f.toNat : Int), .slice A n c]] k f xs w := by
  by_cases hk : k = 2
  · subst hk
    by_cases hcut : 4 ≤ numO xs 18 2 ∧ 20 + (numO xs 18 2 - 4) ≤ n
    · cases hv : validI 2 (PI 2 xs)
      · exact getInit_cut_off f A n c xs w hn hc hcm hx hr hcut hv
      · cases hd : decide ((2 : UInt8) = 2 ∧ f = 0 ∧ xs = bodyI 2 (PI 2 xs))
        · exact getInit_cut_no f A n c xs w hn hc hcm hx hr hcut hv hd
        · exact getInit_cut_yes f A n c xs w hn hc hcm hx hr hcut hv hd
    · refine getInit_nocut_off f A n c xs w hn hc hcm hx hr hcut ?_
      have : cookieOf 2 xs = [] := by unfold cookieOf; rw [if_neg (fun h => hcut ⟨h.2.1, by have := h.2.2; omega⟩)]
      simp [validI, PI, this]
  · cases hv : validI k (PI k xs)
    · exact getInit_other_off k f A n c xs w hn hc hcm hx hr hk hv
    · cases hd : decide (k = k ∧ f = 0 ∧ xs = bodyI k (PI k xs))
      · exact getInit_other_no k f A n c xs w hn hc hcm hx hr hk hv hd
      · exact getInit_other_yes k f A n c xs w hn hc hcm hx hr hk hv hd
end Go.Proofs.Ytalgkokgaibloaa
