/-
  The reference: GetInit.
-/
import Derived.Test.YtalgkokgaibloaaBodRA
import Derived.Test.YtalgkokgaibloaaBodI
import Derived.Test.YtalgkokgaibloaaCut
namespace Go.Proofs.Ytalgkokgaibloaa
open Go.RowKit
set_option linter.unusedVariables false

theorem wrap_u32m {a : Nat} (h : a < 4294967296) : IntKind.u32.wrap (a : Int) = a := by
  simp [IntKind.wrap, IntKind.bits, IntKind.signed]
  omega
theorem wrap_u16m {a : Nat} (h : a < 65536) : IntKind.u16.wrap (a : Int) = a := by
  simp [IntKind.wrap, IntKind.bits, IntKind.signed]
  omega
theorem one_same {f : UInt8} {xs ys : List UInt8} {r : Bool} (k : UInt8) (h : decide (f = 0 ∧ xs = ys) = r) : decide (k = k ∧ f = 0 ∧ xs = ys) = r := by simpa using h
theorem nat_eq0 {a : Nat} (h : a = 0) : ((a : Int) == 0) = true := by rw [h]; rfl
theorem ansI_off {k f : UInt8} {xs : List UInt8} (h : okI k f xs = false) : ansI k f xs = noI := by simp [ansI, h]
theorem okI_nums {k f : UInt8} {xs : List UInt8} (h : numO xs 0 4 = 0 ∨ numO xs 8 2 = 0 ∨ numO xs 10 2 = 0) : okI k f xs = false := by
  rcases h with h | h | h <;> simp [okI, validI, PI, h]
set_option maxRecDepth 100000 in
set_option maxHeartbeats 4000000 in
theorem refGetInit_bad (k f : UInt8) (A : Option Addr) (n c : Nat) (xs : List UInt8) (w : World) (hn : n ≤ 140737488355200) (hc : n ≤ c) (hcm : c ≤ maxLen) (hx : xs.length = n) (hr : Rd w w.heap.size A xs) (hk1 : k ≠ 1) (hk2 : k ≠ 2) :
    GetsI 25 #[.agg #[.int .u8 (k.toNat : Int), .int .u8 (f.toNat : Int), .slice A n c]] k f xs w := by
  have hz := zero_init
  have hcm' := hcm
  unfold maxLen at hcm'
  have hok : okI k f xs = false := by simp [okI, validI, hk1, hk2]
  have hb1 : ((k.toNat : Int) != 1) = true := bne_of (kind_ne (m := 1) hk1)
  have hb2 : ((k.toNat : Int) != 2) = true := bne_of (kind_ne (m := 2) hk2)
  clear hk1 hk2
  have hra := ansI_off hok
  unfold GetsI
  rw [hok, hra]
  clear hx hr hra hok
  have b0 : Blk (w.alloc (.cells #[.int .u8 (k.toNat : Int), .int .u8 (f.toNat : Int), .slice A n c] 28)) w.heap.size 28 #[.int .u8 (k.toNat : Int), .int .u8 (f.toNat : Int), .slice A n c] := Blk.new w 28 #[.int .u8 (k.toNat : Int), .int .u8 (f.toNat : Int), .slice A n c]
  have b1 : Blk ((w.alloc (.cells #[.int .u8 (k.toNat : Int), .int .u8 (f.toNat : Int), .slice A n c] 28)).alloc (.cells #[.int .u32 0, .int .u32 0, .int .u16 0, .int .u16 0, .int .u32 0, .slice none 0 0] 43)) (w.heap.size + 1) 43 #[.int .u32 0, .int .u32 0, .int .u16 0, .int .u16 0, .int .u32 0, .slice none 0 0] := by simpa using Blk.new (w.alloc (.cells #[.int .u8 (k.toNat : Int), .int .u8 (f.toNat : Int), .slice A n c] 28)) 43 #[.int .u32 0, .int .u32 0, .int .u16 0, .int .u16 0, .int .u32 0, .slice none 0 0]
  have K0 := Lib.hid (b0.alloc (.cells #[.int .u32 0, .int .u32 0, .int .u16 0, .int .u16 0, .int .u32 0, .slice none 0 0] 43))
  have K1 := Lib.hid b1
  have B0 : Hid (Below w.heap.size w ((w.alloc (.cells #[.int .u8 (k.toNat : Int), .int .u8 (f.toNat : Int), .slice A n c] 28)).alloc (.cells #[.int .u32 0, .int .u32 0, .int .u16 0, .int .u16 0, .int .u32 0, .slice none 0 0] 43))) := Lib.hid (Wr.below_ (((Wr.refl 5 w.heap.size w).alloc (.cells #[.int .u8 (k.toNat : Int), .int .u8 (f.toNat : Int), .slice A n c] 28)).alloc (.cells #[.int .u32 0, .int .u32 0, .int .u16 0, .int .u16 0, .int .u32 0, .slice none 0 0] 43)) (Nat.le_refl _))
  clear b0 b1
  go_enter Try.func25, Try.ntmps25
  go_wp2_with fail
  have H3 := K1.out
  exact bodyPost_ret (v := .tuple #[.agg #[.int .u32 0, .int .u32 0, .int .u16 0, .int .u16 0, .int .u32 0, .slice none 0 0], .int .i64 7]) (by simp [results, Try.results25, go_sem, H3.cell]) rfl ⟨none, 0, 0, rfl, Own8.nil _ _ _, B0.out⟩
set_option maxRecDepth 100000 in
set_option maxHeartbeats 4000000 in
theorem refGetInit_short1 (f : UInt8) (A : Option Addr) (n c : Nat) (xs : List UInt8) (w : World) (hn : n ≤ 140737488355200) (hc : n ≤ c) (hcm : c ≤ maxLen) (hx : xs.length = n) (hr : Rd w w.heap.size A xs) (hl : n < 16) :
    GetsI 25 #[.agg #[.int .u8 1, .int .u8 (f.toNat : Int), .slice A n c]] 1 f xs w := by
  have hz := zero_init
  have hcm' := hcm
  unfold maxLen at hcm'
  have hok : okI 1 f xs = false := okI_short (by omega)
  have hs1 : (n : Int) < 16 := by omega
  have hra := ansI_off hok
  unfold GetsI
  rw [hok, hra]
  clear hx hr hra hok
  have b0 : Blk (w.alloc (.cells #[.int .u8 1, .int .u8 (f.toNat : Int), .slice A n c] 28)) w.heap.size 28 #[.int .u8 1, .int .u8 (f.toNat : Int), .slice A n c] := Blk.new w 28 #[.int .u8 1, .int .u8 (f.toNat : Int), .slice A n c]
  have b1 : Blk ((w.alloc (.cells #[.int .u8 1, .int .u8 (f.toNat : Int), .slice A n c] 28)).alloc (.cells #[.int .u32 0, .int .u32 0, .int .u16 0, .int .u16 0, .int .u32 0, .slice none 0 0] 43)) (w.heap.size + 1) 43 #[.int .u32 0, .int .u32 0, .int .u16 0, .int .u16 0, .int .u32 0, .slice none 0 0] := by simpa using Blk.new (w.alloc (.cells #[.int .u8 1, .int .u8 (f.toNat : Int), .slice A n c] 28)) 43 #[.int .u32 0, .int .u32 0, .int .u16 0, .int .u16 0, .int .u32 0, .slice none 0 0]
  have K0 := Lib.hid (b0.alloc (.cells #[.int .u32 0, .int .u32 0, .int .u16 0, .int .u16 0, .int .u32 0, .slice none 0 0] 43))
  have K1 := Lib.hid b1
  have B0 : Hid (Below w.heap.size w ((w.alloc (.cells #[.int .u8 1, .int .u8 (f.toNat : Int), .slice A n c] 28)).alloc (.cells #[.int .u32 0, .int .u32 0, .int .u16 0, .int .u16 0, .int .u32 0, .slice none 0 0] 43))) := Lib.hid (Wr.below_ (((Wr.refl 5 w.heap.size w).alloc (.cells #[.int .u8 1, .int .u8 (f.toNat : Int), .slice A n c] 28)).alloc (.cells #[.int .u32 0, .int .u32 0, .int .u16 0, .int .u16 0, .int .u32 0, .slice none 0 0] 43)) (Nat.le_refl _))
  clear b0 b1
  go_enter Try.func25, Try.ntmps25
  go_wp2_with fail
  have H3 := K1.out
  exact bodyPost_ret (v := .tuple #[.agg #[.int .u32 0, .int .u32 0, .int .u16 0, .int .u16 0, .int .u32 0, .slice none 0 0], .int .i64 7]) (by simp [results, Try.results25, go_sem, H3.cell]) rfl ⟨none, 0, 0, rfl, Own8.nil _ _ _, B0.out⟩
set_option maxRecDepth 100000 in
set_option maxHeartbeats 4000000 in
theorem refGetInit_short2 (f : UInt8) (A : Option Addr) (n c : Nat) (xs : List UInt8) (w : World) (hn : n ≤ 140737488355200) (hc : n ≤ c) (hcm : c ≤ maxLen) (hx : xs.length = n) (hr : Rd w w.heap.size A xs) (hl : n < 16) :
    GetsI 25 #[.agg #[.int .u8 2, .int .u8 (f.toNat : Int), .slice A n c]] 2 f xs w := by
  have hz := zero_init
  have hcm' := hcm
  unfold maxLen at hcm'
  have hok : okI 2 f xs = false := okI_short (by omega)
  have hs1 : (n : Int) < 16 := by omega
  have hra := ansI_off hok
  unfold GetsI
  rw [hok, hra]
  clear hx hr hra hok
  have b0 : Blk (w.alloc (.cells #[.int .u8 2, .int .u8 (f.toNat : Int), .slice A n c] 28)) w.heap.size 28 #[.int .u8 2, .int .u8 (f.toNat : Int), .slice A n c] := Blk.new w 28 #[.int .u8 2, .int .u8 (f.toNat : Int), .slice A n c]
  have b1 : Blk ((w.alloc (.cells #[.int .u8 2, .int .u8 (f.toNat : Int), .slice A n c] 28)).alloc (.cells #[.int .u32 0, .int .u32 0, .int .u16 0, .int .u16 0, .int .u32 0, .slice none 0 0] 43)) (w.heap.size + 1) 43 #[.int .u32 0, .int .u32 0, .int .u16 0, .int .u16 0, .int .u32 0, .slice none 0 0] := by simpa using Blk.new (w.alloc (.cells #[.int .u8 2, .int .u8 (f.toNat : Int), .slice A n c] 28)) 43 #[.int .u32 0, .int .u32 0, .int .u16 0, .int .u16 0, .int .u32 0, .slice none 0 0]
  have K0 := Lib.hid (b0.alloc (.cells #[.int .u32 0, .int .u32 0, .int .u16 0, .int .u16 0, .int .u32 0, .slice none 0 0] 43))
  have K1 := Lib.hid b1
  have B0 : Hid (Below w.heap.size w ((w.alloc (.cells #[.int .u8 2, .int .u8 (f.toNat : Int), .slice A n c] 28)).alloc (.cells #[.int .u32 0, .int .u32 0, .int .u16 0, .int .u16 0, .int .u32 0, .slice none 0 0] 43))) := Lib.hid (Wr.below_ (((Wr.refl 5 w.heap.size w).alloc (.cells #[.int .u8 2, .int .u8 (f.toNat : Int), .slice A n c] 28)).alloc (.cells #[.int .u32 0, .int .u32 0, .int .u16 0, .int .u16 0, .int .u32 0, .slice none 0 0] 43)) (Nat.le_refl _))
  clear b0 b1
  go_enter Try.func25, Try.ntmps25
  go_wp2_with fail
  have H3 := K1.out
  exact bodyPost_ret (v := .tuple #[.agg #[.int .u32 0, .int .u32 0, .int .u16 0, .int .u16 0, .int .u32 0, .slice none 0 0], .int .i64 7]) (by simp [results, Try.results25, go_sem, H3.cell]) rfl ⟨none, 0, 0, rfl, Own8.nil _ _ _, B0.out⟩
set_option maxRecDepth 100000 in
set_option maxHeartbeats 4000000 in
theorem refGetInit_one (f : UInt8) (A : Option Addr) (n c : Nat) (xs : List UInt8) (w : World) (hn : n ≤ 140737488355200) (hc : n ≤ c) (hcm : c ≤ maxLen) (hx : xs.length = n) (hr : Rd w w.heap.size A xs) (hl : 16 ≤ n) :
    GetsI 25 #[.agg #[.int .u8 1, .int .u8 (f.toNat : Int), .slice A n c]] 1 f xs w := by
  have hz := zero_init
  have hcm' := hcm
  unfold maxLen at hcm'
  have hs1 : ¬ (n : Int) < 16 := by omega
  have hi0b : numO xs 0 4 < 4294967296 := numO_lt xs 0 4
  have Hi0 : Hid (∀ W, Below w.heap.size w W → Calls Try.prog 56 #[.slice A n c, .int .i64 0, .int .i64 4] W fun e w' => e = .returned (.int .u64 (numO xs 0 4)) ∧ Below W.heap.size W w') := Lib.hid fun W hW => number_any A n c 0 4 xs W (by unfold IsSize; omega) (by omega) (by omega) hc hcm hx ((hr.below hW).more hW.size)
  have hi4b : numO xs 4 4 < 4294967296 := numO_lt xs 4 4
  have Hi4 : Hid (∀ W, Below w.heap.size w W → Calls Try.prog 56 #[.slice A n c, .int .i64 4, .int .i64 4] W fun e w' => e = .returned (.int .u64 (numO xs 4 4)) ∧ Below W.heap.size W w') := Lib.hid fun W hW => number_any A n c 4 4 xs W (by unfold IsSize; omega) (by omega) (by omega) hc hcm hx ((hr.below hW).more hW.size)
  have hi8b : numO xs 8 2 < 65536 := numO_lt xs 8 2
  have Hi8 : Hid (∀ W, Below w.heap.size w W → Calls Try.prog 56 #[.slice A n c, .int .i64 8, .int .i64 2] W fun e w' => e = .returned (.int .u64 (numO xs 8 2)) ∧ Below W.heap.size W w') := Lib.hid fun W hW => number_any A n c 8 2 xs W (by unfold IsSize; omega) (by omega) (by omega) hc hcm hx ((hr.below hW).more hW.size)
  have hi10b : numO xs 10 2 < 65536 := numO_lt xs 10 2
  have Hi10 : Hid (∀ W, Below w.heap.size w W → Calls Try.prog 56 #[.slice A n c, .int .i64 10, .int .i64 2] W fun e w' => e = .returned (.int .u64 (numO xs 10 2)) ∧ Below W.heap.size W w') := Lib.hid fun W hW => number_any A n c 10 2 xs W (by unfold IsSize; omega) (by omega) (by omega) hc hcm hx ((hr.below hW).more hW.size)
  have hi12b : numO xs 12 4 < 4294967296 := numO_lt xs 12 4
  have Hi12 : Hid (∀ W, Below w.heap.size w W → Calls Try.prog 56 #[.slice A n c, .int .i64 12, .int .i64 4] W fun e w' => e = .returned (.int .u64 (numO xs 12 4)) ∧ Below W.heap.size W w') := Lib.hid fun W hW => number_any A n c 12 4 xs W (by unfold IsSize; omega) (by omega) (by omega) hc hcm hx ((hr.below hW).more hW.size)
  have hpi : PI 1 xs = ⟨numO xs 0 4, numO xs 4 4, numO xs 8 2, numO xs 10 2, numO xs 12 4, []⟩ := by unfold PI cookieOf; rw [if_neg (fun h => absurd h.1 (by decide))]
  have HPT : Hid (∀ W, Puts 26 #[.int .u8 1, .agg #[.int .u32 (numO xs 0 4 : Int), .int .u32 (numO xs 4 4 : Int), .int .u16 (numO xs 8 2 : Int), .int .u16 (numO xs 10 2 : Int), .int .u32 (numO xs 12 4 : Int), .slice none 0 0]] 1 0 (bodyI 1 ⟨numO xs 0 4, numO xs 4 4, numO xs 8 2, numO xs 10 2, numO xs 12 4, []⟩) W) := Lib.hid fun W => refPutInit_no 1 (by decide) _ _ _ _ _ _ hi0b hi4b hi8b hi10b hi12b none 0 0 W (by omega) rfl (Rd.nil _ _ _)
  have HOKD : Hid (∀ r, numO xs 0 4 ≠ 0 → numO xs 8 2 ≠ 0 → numO xs 10 2 ≠ 0 → decide (f = 0 ∧ xs = bodyI 1 ⟨numO xs 0 4, numO xs 4 4, numO xs 8 2, numO xs 10 2, numO xs 12 4, []⟩) = r → okI 1 f xs = r) := Lib.hid fun r h0 h8 h10 hh => by
    have h := one_same (1 : UInt8) hh
    have hv : validI 1 (PI 1 xs) = true := by rw [hpi]; simp [validI, h0, h8, h10]
    unfold okI
    rw [hv, hpi, h]
    rfl
  have HANS : Hid (okI 1 f xs = true → ansI 1 f xs = ⟨numO xs 0 4, numO xs 4 4, numO xs 8 2, numO xs 10 2, numO xs 12 4, []⟩) := Lib.hid fun h => by unfold ansI; rw [h]; exact hpi
  have HSM : Hid (∀ r, decide (f = 0 ∧ xs = bodyI 1 ⟨numO xs 0 4, numO xs 4 4, numO xs 8 2, numO xs 10 2, numO xs 12 4, []⟩) = r → ∀ (W : World) (A' : Option Addr) (c' : Nat), Below w.heap.size w W → Own8 W 5 w.heap.size A' (bodyI 1 ⟨numO xs 0 4, numO xs 4 4, numO xs 8 2, numO xs 10 2, numO xs 12 4, []⟩).length c' (bodyI 1 ⟨numO xs 0 4, numO xs 4 4, numO xs 8 2, numO xs 10 2, numO xs 12 4, []⟩) → Calls Try.prog 18 #[.agg #[.int .u8 ((1 : UInt8).toNat : Int), .int .u8 ((0 : UInt8).toNat : Int), .slice A' (bodyI 1 ⟨numO xs 0 4, numO xs 4 4, numO xs 8 2, numO xs 10 2, numO xs 12 4, []⟩).length c'], .agg #[.int .u8 ((1 : UInt8).toNat : Int), .int .u8 (f.toNat : Int), .slice A n c]] W fun e w' => e = .returned (.bool r) ∧ Below W.heap.size W w') := Lib.hid fun r hd => sameR (c := c) (by omega) hx hr (one_same (1 : UInt8) hd)
  obtain ⟨i0, ei0⟩ : ∃ i0, i0 = numO xs 0 4 := ⟨_, rfl⟩
  rw [← ei0] at Hi0 hi0b HPT HSM HOKD HANS
  obtain ⟨i4, ei4⟩ : ∃ i4, i4 = numO xs 4 4 := ⟨_, rfl⟩
  rw [← ei4] at Hi4 hi4b HPT HSM HOKD HANS
  obtain ⟨i8, ei8⟩ : ∃ i8, i8 = numO xs 8 2 := ⟨_, rfl⟩
  rw [← ei8] at Hi8 hi8b HPT HSM HOKD HANS
  obtain ⟨i10, ei10⟩ : ∃ i10, i10 = numO xs 10 2 := ⟨_, rfl⟩
  rw [← ei10] at Hi10 hi10b HPT HSM HOKD HANS
  obtain ⟨i12, ei12⟩ : ∃ i12, i12 = numO xs 12 4 := ⟨_, rfl⟩
  rw [← ei12] at Hi12 hi12b HPT HSM HOKD HANS
  have HE0 := Lib.hid ei0
  have HE8 := Lib.hid ei8
  have HE10 := Lib.hid ei10
  obtain ⟨Y, eY⟩ : ∃ Y, Y = bodyI 1 ⟨i0, i4, i8, i10, i12, []⟩ := ⟨_, rfl⟩
  rw [← eY] at HPT HSM HOKD
  unfold GetsI
  clear eY hx hr hpi ei0 ei4 ei8 ei10 ei12
  have b0 : Blk (w.alloc (.cells #[.int .u8 1, .int .u8 (f.toNat : Int), .slice A n c] 28)) w.heap.size 28 #[.int .u8 1, .int .u8 (f.toNat : Int), .slice A n c] := Blk.new w 28 #[.int .u8 1, .int .u8 (f.toNat : Int), .slice A n c]
  have b1 : Blk ((w.alloc (.cells #[.int .u8 1, .int .u8 (f.toNat : Int), .slice A n c] 28)).alloc (.cells #[.int .u32 0, .int .u32 0, .int .u16 0, .int .u16 0, .int .u32 0, .slice none 0 0] 43)) (w.heap.size + 1) 43 #[.int .u32 0, .int .u32 0, .int .u16 0, .int .u16 0, .int .u32 0, .slice none 0 0] := by simpa using Blk.new (w.alloc (.cells #[.int .u8 1, .int .u8 (f.toNat : Int), .slice A n c] 28)) 43 #[.int .u32 0, .int .u32 0, .int .u16 0, .int .u16 0, .int .u32 0, .slice none 0 0]
  have K0 := Lib.hid (b0.alloc (.cells #[.int .u32 0, .int .u32 0, .int .u16 0, .int .u16 0, .int .u32 0, .slice none 0 0] 43))
  have K1 := Lib.hid b1
  have B0 : Hid (Below w.heap.size w ((w.alloc (.cells #[.int .u8 1, .int .u8 (f.toNat : Int), .slice A n c] 28)).alloc (.cells #[.int .u32 0, .int .u32 0, .int .u16 0, .int .u16 0, .int .u32 0, .slice none 0 0] 43))) := Lib.hid (Wr.below_ (((Wr.refl 5 w.heap.size w).alloc (.cells #[.int .u8 1, .int .u8 (f.toNat : Int), .slice A n c] 28)).alloc (.cells #[.int .u32 0, .int .u32 0, .int .u16 0, .int .u16 0, .int .u32 0, .slice none 0 0] 43)) (Nat.le_refl _))
  clear b0 b1
  go_enter Try.func25, Try.ntmps25
  rw [drawn_eq 3, drawn_eq 10]
  go_wp2_with fail
  generalize ((w.alloc (.cells #[.int .u8 1, .int .u8 (f.toNat : Int), .slice A n c] 28)).alloc (.cells #[.int .u32 0, .int .u32 0, .int .u16 0, .int .u16 0, .int .u32 0, .slice none 0 0] 43)) = v0 at K0 K1 B0 ⊢
  rw [← drawn_eq 3]
  refine wp_region_grow_tail 22 (by kernel_rfl) [(Is (.pointer (some ⟨w.heap.size, 2, none⟩))), (Is (.slice A n c)), (Is (.int .u64 (i0 : Int))), (Is (.int .u32 (i0 : Int))), (Is (.pointer (some ⟨w.heap.size, 2, none⟩))), (Is (.slice A n c)), (Is (.int .u64 (i4 : Int))), (Is (.int .u32 (i4 : Int))), (Is (.pointer (some ⟨w.heap.size, 2, none⟩))), (Is (.slice A n c)), (Is (.int .u64 (i8 : Int))), (Is (.int .u16 (i8 : Int))), (Is (.pointer (some ⟨w.heap.size, 2, none⟩))), (Is (.slice A n c)), (Is (.int .u64 (i10 : Int))), (Is (.int .u16 (i10 : Int))), (Is (.pointer (some ⟨w.heap.size, 2, none⟩))), (Is (.slice A n c)), (Is (.int .u64 (i12 : Int))), (Is (.int .u32 (i12 : Int))), (Is (.agg #[.int .u32 (i0 : Int), .int .u32 (i4 : Int), .int .u16 (i8 : Int), .int .u16 (i10 : Int), .int .u32 (i12 : Int), .slice none 0 0])), (NewBlk v0.heap.size 43 #[.int .u32 0, .int .u32 0, .int .u16 0, .int .u16 0, .int .u32 0, .slice none 0 0])] rfl ?_ (by kernel_rfl) (by kernel_rfl) ?_ ?_
  · intro p hp
    simp only [List.mem_cons, List.not_mem_nil, or_false] at hp
    rcases hp with rfl | rfl | rfl | rfl | rfl | rfl | rfl | rfl | rfl | rfl | rfl | rfl | rfl | rfl | rfl | rfl | rfl | rfl | rfl | rfl | rfl | rfl
    · exact Lasts.is _
    · exact Lasts.is _
    · exact Lasts.is _
    · exact Lasts.is _
    · exact Lasts.is _
    · exact Lasts.is _
    · exact Lasts.is _
    · exact Lasts.is _
    · exact Lasts.is _
    · exact Lasts.is _
    · exact Lasts.is _
    · exact Lasts.is _
    · exact Lasts.is _
    · exact Lasts.is _
    · exact Lasts.is _
    · exact Lasts.is _
    · exact Lasts.is _
    · exact Lasts.is _
    · exact Lasts.is _
    · exact Lasts.is _
    · exact Lasts.is _
    · exact Lasts.newBlk _ _ _
  · refine ⟨?_, ?_, ?_, ?_, ?_, ?_, ?_, ?_, ?_, ?_, ?_, ?_, ?_, ?_, ?_, ?_, ?_, ?_, ?_, ?_, ?_, ?_, trivial⟩
    · intro listed a w1 hl hc
      have h1 : a.tmps[1]?.getD undef = .pointer (some ⟨w.heap.size, 0, none⟩) := (hc.was 1 (by kernel_rfl)).trans rfl
      refine does_value rfl rfl (.pointer (some ⟨w.heap.size, 2, none⟩)) w1 ?_ (Below.refl _ _) rfl
      clear hc hl
      go_simp
    · intro listed a w1 hl hc
      have h23 : a.tmps[23]?.getD undef = .pointer (some ⟨w.heap.size, 2, none⟩) := hc.dep hl 0 23 rfl (by kernel_rfl)
      have kb := K0.out.below hc.g K0.out.lt
      have x2 : w1.cell? ⟨w.heap.size, 2, none⟩ = some (.slice A n c) := kb.cell 2
      clear kb
      refine does_value rfl rfl (.slice A n c) w1 ?_ (Below.refl _ _) rfl
      clear hc hl
      go_simp
    · intro listed a w1 hl hc
      have h24 : a.tmps[24]?.getD undef = .slice A n c := hc.dep hl 1 24 rfl (by kernel_rfl)
      refine does_call rfl rfl 56 #[.slice A n c, .int .i64 0, .int .i64 4] ?_ ((Hi0.out w1 (B0.out.trans (hc.g.mono B0.out.size))).mono fun e w' ⟨he, hb⟩ => ⟨_, he, hb, rfl⟩)
      clear hc hl
      go_simp
    · intro listed a w1 hl hc
      have h25 : a.tmps[25]?.getD undef = .int .u64 (i0 : Int) := hc.dep hl 2 25 rfl (by kernel_rfl)
      refine does_value rfl rfl (.int .u32 (i0 : Int)) w1 ?_ (Below.refl _ _) rfl
      clear hc hl
      go_simp
      exact wrap_u32m hi0b
    · intro listed a w1 hl hc
      have h1 : a.tmps[1]?.getD undef = .pointer (some ⟨w.heap.size, 0, none⟩) := (hc.was 1 (by kernel_rfl)).trans rfl
      refine does_value rfl rfl (.pointer (some ⟨w.heap.size, 2, none⟩)) w1 ?_ (Below.refl _ _) rfl
      clear hc hl
      go_simp
    · intro listed a w1 hl hc
      have h27 : a.tmps[27]?.getD undef = .pointer (some ⟨w.heap.size, 2, none⟩) := hc.dep hl 4 27 rfl (by kernel_rfl)
      have kb := K0.out.below hc.g K0.out.lt
      have x2 : w1.cell? ⟨w.heap.size, 2, none⟩ = some (.slice A n c) := kb.cell 2
      clear kb
      refine does_value rfl rfl (.slice A n c) w1 ?_ (Below.refl _ _) rfl
      clear hc hl
      go_simp
    · intro listed a w1 hl hc
      have h28 : a.tmps[28]?.getD undef = .slice A n c := hc.dep hl 5 28 rfl (by kernel_rfl)
      refine does_call rfl rfl 56 #[.slice A n c, .int .i64 4, .int .i64 4] ?_ ((Hi4.out w1 (B0.out.trans (hc.g.mono B0.out.size))).mono fun e w' ⟨he, hb⟩ => ⟨_, he, hb, rfl⟩)
      clear hc hl
      go_simp
    · intro listed a w1 hl hc
      have h29 : a.tmps[29]?.getD undef = .int .u64 (i4 : Int) := hc.dep hl 6 29 rfl (by kernel_rfl)
      refine does_value rfl rfl (.int .u32 (i4 : Int)) w1 ?_ (Below.refl _ _) rfl
      clear hc hl
      go_simp
      exact wrap_u32m hi4b
    · intro listed a w1 hl hc
      have h1 : a.tmps[1]?.getD undef = .pointer (some ⟨w.heap.size, 0, none⟩) := (hc.was 1 (by kernel_rfl)).trans rfl
      refine does_value rfl rfl (.pointer (some ⟨w.heap.size, 2, none⟩)) w1 ?_ (Below.refl _ _) rfl
      clear hc hl
      go_simp
    · intro listed a w1 hl hc
      have h31 : a.tmps[31]?.getD undef = .pointer (some ⟨w.heap.size, 2, none⟩) := hc.dep hl 8 31 rfl (by kernel_rfl)
      have kb := K0.out.below hc.g K0.out.lt
      have x2 : w1.cell? ⟨w.heap.size, 2, none⟩ = some (.slice A n c) := kb.cell 2
      clear kb
      refine does_value rfl rfl (.slice A n c) w1 ?_ (Below.refl _ _) rfl
      clear hc hl
      go_simp
    · intro listed a w1 hl hc
      have h32 : a.tmps[32]?.getD undef = .slice A n c := hc.dep hl 9 32 rfl (by kernel_rfl)
      refine does_call rfl rfl 56 #[.slice A n c, .int .i64 8, .int .i64 2] ?_ ((Hi8.out w1 (B0.out.trans (hc.g.mono B0.out.size))).mono fun e w' ⟨he, hb⟩ => ⟨_, he, hb, rfl⟩)
      clear hc hl
      go_simp
    · intro listed a w1 hl hc
      have h33 : a.tmps[33]?.getD undef = .int .u64 (i8 : Int) := hc.dep hl 10 33 rfl (by kernel_rfl)
      refine does_value rfl rfl (.int .u16 (i8 : Int)) w1 ?_ (Below.refl _ _) rfl
      clear hc hl
      go_simp
      exact wrap_u16m hi8b
    · intro listed a w1 hl hc
      have h1 : a.tmps[1]?.getD undef = .pointer (some ⟨w.heap.size, 0, none⟩) := (hc.was 1 (by kernel_rfl)).trans rfl
      refine does_value rfl rfl (.pointer (some ⟨w.heap.size, 2, none⟩)) w1 ?_ (Below.refl _ _) rfl
      clear hc hl
      go_simp
    · intro listed a w1 hl hc
      have h35 : a.tmps[35]?.getD undef = .pointer (some ⟨w.heap.size, 2, none⟩) := hc.dep hl 12 35 rfl (by kernel_rfl)
      have kb := K0.out.below hc.g K0.out.lt
      have x2 : w1.cell? ⟨w.heap.size, 2, none⟩ = some (.slice A n c) := kb.cell 2
      clear kb
      refine does_value rfl rfl (.slice A n c) w1 ?_ (Below.refl _ _) rfl
      clear hc hl
      go_simp
    · intro listed a w1 hl hc
      have h36 : a.tmps[36]?.getD undef = .slice A n c := hc.dep hl 13 36 rfl (by kernel_rfl)
      refine does_call rfl rfl 56 #[.slice A n c, .int .i64 10, .int .i64 2] ?_ ((Hi10.out w1 (B0.out.trans (hc.g.mono B0.out.size))).mono fun e w' ⟨he, hb⟩ => ⟨_, he, hb, rfl⟩)
      clear hc hl
      go_simp
    · intro listed a w1 hl hc
      have h37 : a.tmps[37]?.getD undef = .int .u64 (i10 : Int) := hc.dep hl 14 37 rfl (by kernel_rfl)
      refine does_value rfl rfl (.int .u16 (i10 : Int)) w1 ?_ (Below.refl _ _) rfl
      clear hc hl
      go_simp
      exact wrap_u16m hi10b
    · intro listed a w1 hl hc
      have h1 : a.tmps[1]?.getD undef = .pointer (some ⟨w.heap.size, 0, none⟩) := (hc.was 1 (by kernel_rfl)).trans rfl
      refine does_value rfl rfl (.pointer (some ⟨w.heap.size, 2, none⟩)) w1 ?_ (Below.refl _ _) rfl
      clear hc hl
      go_simp
    · intro listed a w1 hl hc
      have h39 : a.tmps[39]?.getD undef = .pointer (some ⟨w.heap.size, 2, none⟩) := hc.dep hl 16 39 rfl (by kernel_rfl)
      have kb := K0.out.below hc.g K0.out.lt
      have x2 : w1.cell? ⟨w.heap.size, 2, none⟩ = some (.slice A n c) := kb.cell 2
      clear kb
      refine does_value rfl rfl (.slice A n c) w1 ?_ (Below.refl _ _) rfl
      clear hc hl
      go_simp
    · intro listed a w1 hl hc
      have h40 : a.tmps[40]?.getD undef = .slice A n c := hc.dep hl 17 40 rfl (by kernel_rfl)
      refine does_call rfl rfl 56 #[.slice A n c, .int .i64 12, .int .i64 4] ?_ ((Hi12.out w1 (B0.out.trans (hc.g.mono B0.out.size))).mono fun e w' ⟨he, hb⟩ => ⟨_, he, hb, rfl⟩)
      clear hc hl
      go_simp
    · intro listed a w1 hl hc
      have h41 : a.tmps[41]?.getD undef = .int .u64 (i12 : Int) := hc.dep hl 18 41 rfl (by kernel_rfl)
      refine does_value rfl rfl (.int .u32 (i12 : Int)) w1 ?_ (Below.refl _ _) rfl
      clear hc hl
      go_simp
      exact wrap_u32m hi12b
    · intro listed a w1 hl hc
      have h26 : a.tmps[26]?.getD undef = .int .u32 (i0 : Int) := hc.dep hl 3 26 rfl (by kernel_rfl)
      have h30 : a.tmps[30]?.getD undef = .int .u32 (i4 : Int) := hc.dep hl 7 30 rfl (by kernel_rfl)
      have h34 : a.tmps[34]?.getD undef = .int .u16 (i8 : Int) := hc.dep hl 11 34 rfl (by kernel_rfl)
      have h38 : a.tmps[38]?.getD undef = .int .u16 (i10 : Int) := hc.dep hl 15 38 rfl (by kernel_rfl)
      have h42 : a.tmps[42]?.getD undef = .int .u32 (i12 : Int) := hc.dep hl 19 42 rfl (by kernel_rfl)
      refine does_value rfl rfl (.agg #[.int .u32 (i0 : Int), .int .u32 (i4 : Int), .int .u16 (i8 : Int), .int .u16 (i10 : Int), .int .u32 (i12 : Int), .slice none 0 0]) w1 ?_ (Below.refl _ _) rfl
      clear hc hl
      go_simp
    · intro listed a w1 hl hc
      refine does_value rfl rfl (.pointer (some ⟨w1.heap.size, 0, none⟩)) (w1.alloc (.cells #[.int .u32 0, .int .u32 0, .int .u16 0, .int .u16 0, .int .u32 0, .slice none 0 0] 43)) ?_ (below_new w1 _) ⟨_, rfl, hc.g.size, Blk.new _ _ _⟩
      clear hc hl
      go_simp
  intro w2 hb2
  rintro _ rfl _ rfl _ rfl _ rfl _ rfl _ rfl _ rfl _ rfl _ rfl _ rfl _ rfl _ rfl _ rfl _ rfl _ rfl _ rfl _ rfl _ rfl _ rfl _ rfl _ rfl _ ⟨g4, rfl, hg4, hb4⟩
  simp only [Thus, List.reverse_cons, List.reverse_nil, List.nil_append, List.cons_append, List.drop, List.take, lay]
  go_frame
  have hl0 := K0.out.lt
  have hl1 := K1.out.lt
  have HG := Lib.hid hb4
  have hge : w.heap.size ≤ g4 := by omega
  have y0 := HG.out.cell 0
  have y1 := HG.out.cell 1
  have y2 := HG.out.cell 2
  have y3 := HG.out.cell 3
  have y4 := HG.out.cell 4
  have y5 := HG.out.cell 5
  have z0 := HG.out.frozen 0
  have z1 := HG.out.frozen 1
  have z2 := HG.out.frozen 2
  have z3 := HG.out.frozen 3
  have z4 := HG.out.frozen 4
  have z5 := HG.out.frozen 5
  have G3 : Hid (Blk ((((((w2.setCell ⟨g4, 0, none⟩ (.int .u32 (i0 : Int))).setCell ⟨g4, 1, none⟩ (.int .u32 (i4 : Int))).setCell ⟨g4, 2, none⟩ (.int .u16 (i8 : Int))).setCell ⟨g4, 3, none⟩ (.int .u16 (i10 : Int))).setCell ⟨g4, 4, none⟩ (.int .u32 (i12 : Int))).setCell ⟨g4, 5, none⟩ (.slice none 0 0)) g4 43 #[.int .u32 (i0 : Int), .int .u32 (i4 : Int), .int .u16 (i8 : Int), .int .u16 (i10 : Int), .int .u32 (i12 : Int), .slice none 0 0]) := Lib.hid ((((((hb4.set_ 0 (.int .u32 (i0 : Int))).set_ 1 (.int .u32 (i4 : Int))).set_ 2 (.int .u16 (i8 : Int))).set_ 3 (.int .u16 (i10 : Int))).set_ 4 (.int .u32 (i12 : Int))).set_ 5 (.slice none 0 0))
  have K0b := Lib.hid (((((((K0.out.below hb2 K0.out.lt).far (p := ⟨g4, 0, none⟩) (show w.heap.size ≠ g4 by omega) (.int .u32 (i0 : Int))).far (p := ⟨g4, 1, none⟩) (show w.heap.size ≠ g4 by omega) (.int .u32 (i4 : Int))).far (p := ⟨g4, 2, none⟩) (show w.heap.size ≠ g4 by omega) (.int .u16 (i8 : Int))).far (p := ⟨g4, 3, none⟩) (show w.heap.size ≠ g4 by omega) (.int .u16 (i10 : Int))).far (p := ⟨g4, 4, none⟩) (show w.heap.size ≠ g4 by omega) (.int .u32 (i12 : Int))).far (p := ⟨g4, 5, none⟩) (show w.heap.size ≠ g4 by omega) (.slice none 0 0))
  have K1b := Lib.hid (((((((K1.out.below hb2 K1.out.lt).far (p := ⟨g4, 0, none⟩) (show w.heap.size + 1 ≠ g4 by omega) (.int .u32 (i0 : Int))).far (p := ⟨g4, 1, none⟩) (show w.heap.size + 1 ≠ g4 by omega) (.int .u32 (i4 : Int))).far (p := ⟨g4, 2, none⟩) (show w.heap.size + 1 ≠ g4 by omega) (.int .u16 (i8 : Int))).far (p := ⟨g4, 3, none⟩) (show w.heap.size + 1 ≠ g4 by omega) (.int .u16 (i10 : Int))).far (p := ⟨g4, 4, none⟩) (show w.heap.size + 1 ≠ g4 by omega) (.int .u32 (i12 : Int))).far (p := ⟨g4, 5, none⟩) (show w.heap.size + 1 ≠ g4 by omega) (.slice none 0 0))
  have B3 := Lib.hid (((((((below_then B0.out (Nat.le_refl _) hb2).setCell (p := ⟨g4, 0, none⟩) (show w.heap.size ≤ g4 by omega) (.int .u32 (i0 : Int))).setCell (p := ⟨g4, 1, none⟩) (show w.heap.size ≤ g4 by omega) (.int .u32 (i4 : Int))).setCell (p := ⟨g4, 2, none⟩) (show w.heap.size ≤ g4 by omega) (.int .u16 (i8 : Int))).setCell (p := ⟨g4, 3, none⟩) (show w.heap.size ≤ g4 by omega) (.int .u16 (i10 : Int))).setCell (p := ⟨g4, 4, none⟩) (show w.heap.size ≤ g4 by omega) (.int .u32 (i12 : Int))).setCell (p := ⟨g4, 5, none⟩) (show w.heap.size ≤ g4 by omega) (.slice none 0 0))
  have hgl : g4 < w2.heap.size := hb4.lt
  clear hb2 hb4 K0 K1 B0 HG
  have x0 := K0b.out.cell 0
  have x1 := K0b.out.cell 1
  have x2 := K0b.out.cell 2
  go_wp2_with fail
  generalize ((((((w2.setCell ⟨g4, 0, none⟩ (.int .u32 (i0 : Int))).setCell ⟨g4, 1, none⟩ (.int .u32 (i4 : Int))).setCell ⟨g4, 2, none⟩ (.int .u16 (i8 : Int))).setCell ⟨g4, 3, none⟩ (.int .u16 (i10 : Int))).setCell ⟨g4, 4, none⟩ (.int .u32 (i12 : Int))).setCell ⟨g4, 5, none⟩ (.slice none 0 0)) = v3 at G3 K0b K1b B3 ⊢
  clear hgl x0 x1 x2 y0 z0 y1 z1 y2 z2 y3 z3 y4 z4 y5 z5
  rw [← drawn_eq 10]
  by_cases q0n : i0 = 0
  · have HOK : Hid (okI 1 f xs = false) := Lib.hid (okI_nums (.inl (HE0.out.symm.trans q0n)))
    have q0 := nat_eq0 q0n
    clear q0n
    refine wp_region_grow_tail 21 (by kernel_rfl) [(Is (.pointer (some ⟨g4, 0, none⟩))), (Is (.int .u32 (i0 : Int))), (Is (.bool true)), (Is (.bool true)), (Is undef), (Is undef), (Is undef), (Is (.bool true)), (Is (.bool true)), (Is undef), (Is undef), (Is undef), (Is (.bool true)), (Is (.bool true)), (Is undef), (Is undef), (Is undef), (Is undef), (Is undef), (Is undef), (Is undef)] rfl ?_ (by kernel_rfl) (by kernel_rfl) ?_ ?_
    · intro p hp
      simp only [List.mem_cons, List.not_mem_nil, or_false] at hp
      rcases hp with rfl | rfl | rfl | rfl | rfl | rfl | rfl | rfl | rfl | rfl | rfl | rfl | rfl | rfl | rfl | rfl | rfl | rfl | rfl | rfl | rfl
      · exact Lasts.is _
      · exact Lasts.is _
      · exact Lasts.is _
      · exact Lasts.is _
      · exact Lasts.is _
      · exact Lasts.is _
      · exact Lasts.is _
      · exact Lasts.is _
      · exact Lasts.is _
      · exact Lasts.is _
      · exact Lasts.is _
      · exact Lasts.is _
      · exact Lasts.is _
      · exact Lasts.is _
      · exact Lasts.is _
      · exact Lasts.is _
      · exact Lasts.is _
      · exact Lasts.is _
      · exact Lasts.is _
      · exact Lasts.is _
      · exact Lasts.is _
    · refine ⟨?_, ?_, ?_, ?_, ?_, ?_, ?_, ?_, ?_, ?_, ?_, ?_, ?_, ?_, ?_, ?_, ?_, ?_, ?_, ?_, ?_, trivial⟩
      · intro listed a w1 hl hc
        have h4 : a.tmps[4]?.getD undef = .pointer (some ⟨g4, 0, none⟩) := (hc.was 4 (by kernel_rfl)).trans rfl
        refine does_value rfl rfl (.pointer (some ⟨g4, 0, none⟩)) w1 ?_ (Below.refl _ _) rfl
        clear hc hl
        go_simp
      · intro listed a w1 hl hc
        have h68 : a.tmps[68]?.getD undef = .pointer (some ⟨g4, 0, none⟩) := hc.dep hl 0 68 rfl (by kernel_rfl)
        have kb := G3.out.below hc.g G3.out.lt
        have x0 : w1.cell? ⟨g4, 0, none⟩ = some (.int .u32 (i0 : Int)) := kb.cell 0
        clear kb
        refine does_value rfl rfl (.int .u32 (i0 : Int)) w1 ?_ (Below.refl _ _) rfl
        clear hc hl
        go_simp
      · intro listed a w1 hl hc
        have h69 : a.tmps[69]?.getD undef = .int .u32 (i0 : Int) := hc.dep hl 1 69 rfl (by kernel_rfl)
        refine does_value rfl rfl (.bool true) w1 ?_ (Below.refl _ _) rfl
        clear hc hl
        go_simp
      · intro listed a w1 hl hc
        have h70 : a.tmps[70]?.getD undef = .bool true := hc.dep hl 2 70 rfl (by kernel_rfl)
        refine does_value rfl rfl (.bool true) w1 ?_ (Below.refl _ _) rfl
        clear hc hl
        go_simp
      · intro listed a w1 hl hc
        exact does_skip (fun _ => (Below.refl _ _)) rfl (unwanted_at rfl rfl (hc.dep hl 3 71 rfl (by kernel_rfl))) rfl
      · intro listed a w1 hl hc
        exact does_skip (fun _ => (Below.refl _ _)) rfl (unwanted_at rfl rfl (hc.dep hl 3 71 rfl (by kernel_rfl))) rfl
      · intro listed a w1 hl hc
        exact does_skip (fun _ => (Below.refl _ _)) rfl (unwanted_at rfl rfl (hc.dep hl 3 71 rfl (by kernel_rfl))) rfl
      · intro listed a w1 hl hc
        have h71 : a.tmps[71]?.getD undef = .bool true := hc.dep hl 3 71 rfl (by kernel_rfl)
        have h74 : a.tmps[74]?.getD undef = undef := hc.dep hl 6 74 rfl (by kernel_rfl)
        refine does_value rfl rfl (.bool true) w1 ?_ (Below.refl _ _) rfl
        clear hc hl
        go_simp
      · intro listed a w1 hl hc
        have h75 : a.tmps[75]?.getD undef = .bool true := hc.dep hl 7 75 rfl (by kernel_rfl)
        refine does_value rfl rfl (.bool true) w1 ?_ (Below.refl _ _) rfl
        clear hc hl
        go_simp
      · intro listed a w1 hl hc
        exact does_skip (fun _ => (Below.refl _ _)) rfl (unwanted_at rfl rfl (hc.dep hl 8 76 rfl (by kernel_rfl))) rfl
      · intro listed a w1 hl hc
        exact does_skip (fun _ => (Below.refl _ _)) rfl (unwanted_at rfl rfl (hc.dep hl 8 76 rfl (by kernel_rfl))) rfl
      · intro listed a w1 hl hc
        exact does_skip (fun _ => (Below.refl _ _)) rfl (unwanted_at rfl rfl (hc.dep hl 8 76 rfl (by kernel_rfl))) rfl
      · intro listed a w1 hl hc
        have h76 : a.tmps[76]?.getD undef = .bool true := hc.dep hl 8 76 rfl (by kernel_rfl)
        have h79 : a.tmps[79]?.getD undef = undef := hc.dep hl 11 79 rfl (by kernel_rfl)
        refine does_value rfl rfl (.bool true) w1 ?_ (Below.refl _ _) rfl
        clear hc hl
        go_simp
      · intro listed a w1 hl hc
        have h80 : a.tmps[80]?.getD undef = .bool true := hc.dep hl 12 80 rfl (by kernel_rfl)
        refine does_value rfl rfl (.bool true) w1 ?_ (Below.refl _ _) rfl
        clear hc hl
        go_simp
      · intro listed a w1 hl hc
        exact does_skip (fun _ => (Below.refl _ _)) rfl (unwanted_at rfl rfl (hc.dep hl 13 81 rfl (by kernel_rfl))) rfl
      · intro listed a w1 hl hc
        exact does_skip (fun _ => (Below.refl _ _)) rfl (unwanted_at rfl rfl (hc.dep hl 13 81 rfl (by kernel_rfl))) rfl
      · intro listed a w1 hl hc
        exact does_skip (fun _ => (Below.refl _ _)) rfl (unwanted_at rfl rfl (hc.dep hl 13 81 rfl (by kernel_rfl))) rfl
      · intro listed a w1 hl hc
        exact does_skip (fun _ => (Below.refl _ _)) rfl (unwanted_at rfl rfl (hc.dep hl 13 81 rfl (by kernel_rfl))) rfl
      · intro listed a w1 hl hc
        exact does_skip (fun _ => (Below.refl _ _)) rfl (unwanted_at rfl rfl (hc.dep hl 13 81 rfl (by kernel_rfl))) rfl
      · intro listed a w1 hl hc
        exact does_skip (fun _ => (Below.refl _ _)) rfl (unwanted_at rfl rfl (hc.dep hl 13 81 rfl (by kernel_rfl))) rfl
      · intro listed a w1 hl hc
        exact does_skip (fun _ => (Below.refl _ _)) rfl (unwanted_at rfl rfl (hc.dep hl 13 81 rfl (by kernel_rfl))) rfl
    intro w2 hb2
    rintro _ rfl _ rfl _ rfl _ rfl _ rfl _ rfl _ rfl _ rfl _ rfl _ rfl _ rfl _ rfl _ rfl _ rfl _ rfl _ rfl _ rfl _ rfl _ rfl _ rfl _ rfl
    simp only [Thus, List.reverse_cons, List.reverse_nil, List.nil_append, List.cons_append, List.drop, List.take, lay]
    go_frame
    have K1e := Lib.hid (K1b.out.below hb2 K1b.out.lt)
    have B6 := Lib.hid (below_then B3.out (Nat.le_refl _) hb2)
    clear hb2 K1b B3 G3 K0b
    have y0 := K1e.out.cell 0
    have y1 := K1e.out.cell 1
    have y2 := K1e.out.cell 2
    have y3 := K1e.out.cell 3
    have y4 := K1e.out.cell 4
    have y5 := K1e.out.cell 5
    have z0 := K1e.out.frozen 0
    have z1 := K1e.out.frozen 1
    have z2 := K1e.out.frozen 2
    have z3 := K1e.out.frozen 3
    have z4 := K1e.out.frozen 4
    have z5 := K1e.out.frozen 5
    go_wp2_with fail
    have H3 := ((((((K1e.out.set_ 0 (.int .u32 0)).set_ 1 (.int .u32 0)).set_ 2 (.int .u16 0)).set_ 3 (.int .u16 0)).set_ 4 (.int .u32 0)).set_ 5 (.slice none 0 0))
    exact bodyPost_ret (v := .tuple #[.agg #[.int .u32 0, .int .u32 0, .int .u16 0, .int .u16 0, .int .u32 0, .slice none 0 0], .int .i64 7]) (by simp [results, Try.results25, go_sem, H3.cell]) rfl ⟨none, 0, 0, by rw [HOK.out, ansI_off HOK.out]; rfl, by rw [ansI_off HOK.out]; exact Own8.nil _ _ _, ((((((B6.out.setCell (p := ⟨w.heap.size + 1, 0, none⟩) (show w.heap.size ≤ w.heap.size + 1 by omega) (.int .u32 0)).setCell (p := ⟨w.heap.size + 1, 1, none⟩) (show w.heap.size ≤ w.heap.size + 1 by omega) (.int .u32 0)).setCell (p := ⟨w.heap.size + 1, 2, none⟩) (show w.heap.size ≤ w.heap.size + 1 by omega) (.int .u16 0)).setCell (p := ⟨w.heap.size + 1, 3, none⟩) (show w.heap.size ≤ w.heap.size + 1 by omega) (.int .u16 0)).setCell (p := ⟨w.heap.size + 1, 4, none⟩) (show w.heap.size ≤ w.heap.size + 1 by omega) (.int .u32 0)).setCell (p := ⟨w.heap.size + 1, 5, none⟩) (show w.heap.size ≤ w.heap.size + 1 by omega) (.slice none 0 0))⟩
  by_cases q8n : i8 = 0
  · have HOK : Hid (okI 1 f xs = false) := Lib.hid (okI_nums (.inr (.inl (HE8.out.symm.trans q8n))))
    have q0 := nat_ne q0n
    have q8 := nat_eq0 q8n
    clear q0n q8n
    refine wp_region_grow_tail 21 (by kernel_rfl) [(Is (.pointer (some ⟨g4, 0, none⟩))), (Is (.int .u32 (i0 : Int))), (Is (.bool false)), (Is (.bool false)), (Is (.pointer (some ⟨g4, 2, none⟩))), (Is (.int .u16 (i8 : Int))), (Is (.bool true)), (Is (.bool true)), (Is (.bool true)), (Is undef), (Is undef), (Is undef), (Is (.bool true)), (Is (.bool true)), (Is undef), (Is undef), (Is undef), (Is undef), (Is undef), (Is undef), (Is undef)] rfl ?_ (by kernel_rfl) (by kernel_rfl) ?_ ?_
    · intro p hp
      simp only [List.mem_cons, List.not_mem_nil, or_false] at hp
      rcases hp with rfl | rfl | rfl | rfl | rfl | rfl | rfl | rfl | rfl | rfl | rfl | rfl | rfl | rfl | rfl | rfl | rfl | rfl | rfl | rfl | rfl
      · exact Lasts.is _
      · exact Lasts.is _
      · exact Lasts.is _
      · exact Lasts.is _
      · exact Lasts.is _
      · exact Lasts.is _
      · exact Lasts.is _
      · exact Lasts.is _
      · exact Lasts.is _
      · exact Lasts.is _
      · exact Lasts.is _
      · exact Lasts.is _
      · exact Lasts.is _
      · exact Lasts.is _
      · exact Lasts.is _
      · exact Lasts.is _
      · exact Lasts.is _
      · exact Lasts.is _
      · exact Lasts.is _
      · exact Lasts.is _
      · exact Lasts.is _
    · refine ⟨?_, ?_, ?_, ?_, ?_, ?_, ?_, ?_, ?_, ?_, ?_, ?_, ?_, ?_, ?_, ?_, ?_, ?_, ?_, ?_, ?_, trivial⟩
      · intro listed a w1 hl hc
        have h4 : a.tmps[4]?.getD undef = .pointer (some ⟨g4, 0, none⟩) := (hc.was 4 (by kernel_rfl)).trans rfl
        refine does_value rfl rfl (.pointer (some ⟨g4, 0, none⟩)) w1 ?_ (Below.refl _ _) rfl
        clear hc hl
        go_simp
      · intro listed a w1 hl hc
        have h68 : a.tmps[68]?.getD undef = .pointer (some ⟨g4, 0, none⟩) := hc.dep hl 0 68 rfl (by kernel_rfl)
        have kb := G3.out.below hc.g G3.out.lt
        have x0 : w1.cell? ⟨g4, 0, none⟩ = some (.int .u32 (i0 : Int)) := kb.cell 0
        clear kb
        refine does_value rfl rfl (.int .u32 (i0 : Int)) w1 ?_ (Below.refl _ _) rfl
        clear hc hl
        go_simp
      · intro listed a w1 hl hc
        have h69 : a.tmps[69]?.getD undef = .int .u32 (i0 : Int) := hc.dep hl 1 69 rfl (by kernel_rfl)
        refine does_value rfl rfl (.bool false) w1 ?_ (Below.refl _ _) rfl
        clear hc hl
        go_simp
      · intro listed a w1 hl hc
        have h70 : a.tmps[70]?.getD undef = .bool false := hc.dep hl 2 70 rfl (by kernel_rfl)
        refine does_value rfl rfl (.bool false) w1 ?_ (Below.refl _ _) rfl
        clear hc hl
        go_simp
      · intro listed a w1 hl hc
        have h4 : a.tmps[4]?.getD undef = .pointer (some ⟨g4, 0, none⟩) := (hc.was 4 (by kernel_rfl)).trans rfl
        refine does_value rfl (wanted_at rfl rfl (hc.dep hl 3 71 rfl (by kernel_rfl))) (.pointer (some ⟨g4, 2, none⟩)) w1 ?_ (Below.refl _ _) rfl
        clear hc hl
        go_simp
      · intro listed a w1 hl hc
        have h72 : a.tmps[72]?.getD undef = .pointer (some ⟨g4, 2, none⟩) := hc.dep hl 4 72 rfl (by kernel_rfl)
        have kb := G3.out.below hc.g G3.out.lt
        have x2 : w1.cell? ⟨g4, 2, none⟩ = some (.int .u16 (i8 : Int)) := kb.cell 2
        clear kb
        refine does_value rfl (wanted_at rfl rfl (hc.dep hl 3 71 rfl (by kernel_rfl))) (.int .u16 (i8 : Int)) w1 ?_ (Below.refl _ _) rfl
        clear hc hl
        go_simp
      · intro listed a w1 hl hc
        have h73 : a.tmps[73]?.getD undef = .int .u16 (i8 : Int) := hc.dep hl 5 73 rfl (by kernel_rfl)
        refine does_value rfl (wanted_at rfl rfl (hc.dep hl 3 71 rfl (by kernel_rfl))) (.bool true) w1 ?_ (Below.refl _ _) rfl
        clear hc hl
        go_simp
      · intro listed a w1 hl hc
        have h71 : a.tmps[71]?.getD undef = .bool false := hc.dep hl 3 71 rfl (by kernel_rfl)
        have h74 : a.tmps[74]?.getD undef = .bool true := hc.dep hl 6 74 rfl (by kernel_rfl)
        refine does_value rfl rfl (.bool true) w1 ?_ (Below.refl _ _) rfl
        clear hc hl
        go_simp
      · intro listed a w1 hl hc
        have h75 : a.tmps[75]?.getD undef = .bool true := hc.dep hl 7 75 rfl (by kernel_rfl)
        refine does_value rfl rfl (.bool true) w1 ?_ (Below.refl _ _) rfl
        clear hc hl
        go_simp
      · intro listed a w1 hl hc
        exact does_skip (fun _ => (Below.refl _ _)) rfl (unwanted_at rfl rfl (hc.dep hl 8 76 rfl (by kernel_rfl))) rfl
      · intro listed a w1 hl hc
        exact does_skip (fun _ => (Below.refl _ _)) rfl (unwanted_at rfl rfl (hc.dep hl 8 76 rfl (by kernel_rfl))) rfl
      · intro listed a w1 hl hc
        exact does_skip (fun _ => (Below.refl _ _)) rfl (unwanted_at rfl rfl (hc.dep hl 8 76 rfl (by kernel_rfl))) rfl
      · intro listed a w1 hl hc
        have h76 : a.tmps[76]?.getD undef = .bool true := hc.dep hl 8 76 rfl (by kernel_rfl)
        have h79 : a.tmps[79]?.getD undef = undef := hc.dep hl 11 79 rfl (by kernel_rfl)
        refine does_value rfl rfl (.bool true) w1 ?_ (Below.refl _ _) rfl
        clear hc hl
        go_simp
      · intro listed a w1 hl hc
        have h80 : a.tmps[80]?.getD undef = .bool true := hc.dep hl 12 80 rfl (by kernel_rfl)
        refine does_value rfl rfl (.bool true) w1 ?_ (Below.refl _ _) rfl
        clear hc hl
        go_simp
      · intro listed a w1 hl hc
        exact does_skip (fun _ => (Below.refl _ _)) rfl (unwanted_at rfl rfl (hc.dep hl 13 81 rfl (by kernel_rfl))) rfl
      · intro listed a w1 hl hc
        exact does_skip (fun _ => (Below.refl _ _)) rfl (unwanted_at rfl rfl (hc.dep hl 13 81 rfl (by kernel_rfl))) rfl
      · intro listed a w1 hl hc
        exact does_skip (fun _ => (Below.refl _ _)) rfl (unwanted_at rfl rfl (hc.dep hl 13 81 rfl (by kernel_rfl))) rfl
      · intro listed a w1 hl hc
        exact does_skip (fun _ => (Below.refl _ _)) rfl (unwanted_at rfl rfl (hc.dep hl 13 81 rfl (by kernel_rfl))) rfl
      · intro listed a w1 hl hc
        exact does_skip (fun _ => (Below.refl _ _)) rfl (unwanted_at rfl rfl (hc.dep hl 13 81 rfl (by kernel_rfl))) rfl
      · intro listed a w1 hl hc
        exact does_skip (fun _ => (Below.refl _ _)) rfl (unwanted_at rfl rfl (hc.dep hl 13 81 rfl (by kernel_rfl))) rfl
      · intro listed a w1 hl hc
        exact does_skip (fun _ => (Below.refl _ _)) rfl (unwanted_at rfl rfl (hc.dep hl 13 81 rfl (by kernel_rfl))) rfl
    intro w2 hb2
    rintro _ rfl _ rfl _ rfl _ rfl _ rfl _ rfl _ rfl _ rfl _ rfl _ rfl _ rfl _ rfl _ rfl _ rfl _ rfl _ rfl _ rfl _ rfl _ rfl _ rfl _ rfl
    simp only [Thus, List.reverse_cons, List.reverse_nil, List.nil_append, List.cons_append, List.drop, List.take, lay]
    go_frame
    have K1e := Lib.hid (K1b.out.below hb2 K1b.out.lt)
    have B6 := Lib.hid (below_then B3.out (Nat.le_refl _) hb2)
    clear hb2 K1b B3 G3 K0b
    have y0 := K1e.out.cell 0
    have y1 := K1e.out.cell 1
    have y2 := K1e.out.cell 2
    have y3 := K1e.out.cell 3
    have y4 := K1e.out.cell 4
    have y5 := K1e.out.cell 5
    have z0 := K1e.out.frozen 0
    have z1 := K1e.out.frozen 1
    have z2 := K1e.out.frozen 2
    have z3 := K1e.out.frozen 3
    have z4 := K1e.out.frozen 4
    have z5 := K1e.out.frozen 5
    go_wp2_with fail
    have H3 := ((((((K1e.out.set_ 0 (.int .u32 0)).set_ 1 (.int .u32 0)).set_ 2 (.int .u16 0)).set_ 3 (.int .u16 0)).set_ 4 (.int .u32 0)).set_ 5 (.slice none 0 0))
    exact bodyPost_ret (v := .tuple #[.agg #[.int .u32 0, .int .u32 0, .int .u16 0, .int .u16 0, .int .u32 0, .slice none 0 0], .int .i64 7]) (by simp [results, Try.results25, go_sem, H3.cell]) rfl ⟨none, 0, 0, by rw [HOK.out, ansI_off HOK.out]; rfl, by rw [ansI_off HOK.out]; exact Own8.nil _ _ _, ((((((B6.out.setCell (p := ⟨w.heap.size + 1, 0, none⟩) (show w.heap.size ≤ w.heap.size + 1 by omega) (.int .u32 0)).setCell (p := ⟨w.heap.size + 1, 1, none⟩) (show w.heap.size ≤ w.heap.size + 1 by omega) (.int .u32 0)).setCell (p := ⟨w.heap.size + 1, 2, none⟩) (show w.heap.size ≤ w.heap.size + 1 by omega) (.int .u16 0)).setCell (p := ⟨w.heap.size + 1, 3, none⟩) (show w.heap.size ≤ w.heap.size + 1 by omega) (.int .u16 0)).setCell (p := ⟨w.heap.size + 1, 4, none⟩) (show w.heap.size ≤ w.heap.size + 1 by omega) (.int .u32 0)).setCell (p := ⟨w.heap.size + 1, 5, none⟩) (show w.heap.size ≤ w.heap.size + 1 by omega) (.slice none 0 0))⟩
  by_cases q10n : i10 = 0
  · have HOK : Hid (okI 1 f xs = false) := Lib.hid (okI_nums (.inr (.inr (HE10.out.symm.trans q10n))))
    have q0 := nat_ne q0n
    have q8 := nat_ne q8n
    have q10 := nat_eq0 q10n
    clear q0n q8n q10n
    refine wp_region_grow_tail 21 (by kernel_rfl) [(Is (.pointer (some ⟨g4, 0, none⟩))), (Is (.int .u32 (i0 : Int))), (Is (.bool false)), (Is (.bool false)), (Is (.pointer (some ⟨g4, 2, none⟩))), (Is (.int .u16 (i8 : Int))), (Is (.bool false)), (Is (.bool false)), (Is (.bool false)), (Is (.pointer (some ⟨g4, 3, none⟩))), (Is (.int .u16 (i10 : Int))), (Is (.bool true)), (Is (.bool true)), (Is (.bool true)), (Is undef), (Is undef), (Is undef), (Is undef), (Is undef), (Is undef), (Is undef)] rfl ?_ (by kernel_rfl) (by kernel_rfl) ?_ ?_
    · intro p hp
      simp only [List.mem_cons, List.not_mem_nil, or_false] at hp
      rcases hp with rfl | rfl | rfl | rfl | rfl | rfl | rfl | rfl | rfl | rfl | rfl | rfl | rfl | rfl | rfl | rfl | rfl | rfl | rfl | rfl | rfl
      · exact Lasts.is _
      · exact Lasts.is _
      · exact Lasts.is _
      · exact Lasts.is _
      · exact Lasts.is _
      · exact Lasts.is _
      · exact Lasts.is _
      · exact Lasts.is _
      · exact Lasts.is _
      · exact Lasts.is _
      · exact Lasts.is _
      · exact Lasts.is _
      · exact Lasts.is _
      · exact Lasts.is _
      · exact Lasts.is _
      · exact Lasts.is _
      · exact Lasts.is _
      · exact Lasts.is _
      · exact Lasts.is _
      · exact Lasts.is _
      · exact Lasts.is _
    · refine ⟨?_, ?_, ?_, ?_, ?_, ?_, ?_, ?_, ?_, ?_, ?_, ?_, ?_, ?_, ?_, ?_, ?_, ?_, ?_, ?_, ?_, trivial⟩
      · intro listed a w1 hl hc
        have h4 : a.tmps[4]?.getD undef = .pointer (some ⟨g4, 0, none⟩) := (hc.was 4 (by kernel_rfl)).trans rfl
        refine does_value rfl rfl (.pointer (some ⟨g4, 0, none⟩)) w1 ?_ (Below.refl _ _) rfl
        clear hc hl
        go_simp
      · intro listed a w1 hl hc
        have h68 : a.tmps[68]?.getD undef = .pointer (some ⟨g4, 0, none⟩) := hc.dep hl 0 68 rfl (by kernel_rfl)
        have kb := G3.out.below hc.g G3.out.lt
        have x0 : w1.cell? ⟨g4, 0, none⟩ = some (.int .u32 (i0 : Int)) := kb.cell 0
        clear kb
        refine does_value rfl rfl (.int .u32 (i0 : Int)) w1 ?_ (Below.refl _ _) rfl
        clear hc hl
        go_simp
      · intro listed a w1 hl hc
        have h69 : a.tmps[69]?.getD undef = .int .u32 (i0 : Int) := hc.dep hl 1 69 rfl (by kernel_rfl)
        refine does_value rfl rfl (.bool false) w1 ?_ (Below.refl _ _) rfl
        clear hc hl
        go_simp
      · intro listed a w1 hl hc
        have h70 : a.tmps[70]?.getD undef = .bool false := hc.dep hl 2 70 rfl (by kernel_rfl)
        refine does_value rfl rfl (.bool false) w1 ?_ (Below.refl _ _) rfl
        clear hc hl
        go_simp
      · intro listed a w1 hl hc
        have h4 : a.tmps[4]?.getD undef = .pointer (some ⟨g4, 0, none⟩) := (hc.was 4 (by kernel_rfl)).trans rfl
        refine does_value rfl (wanted_at rfl rfl (hc.dep hl 3 71 rfl (by kernel_rfl))) (.pointer (some ⟨g4, 2, none⟩)) w1 ?_ (Below.refl _ _) rfl
        clear hc hl
        go_simp
      · intro listed a w1 hl hc
        have h72 : a.tmps[72]?.getD undef = .pointer (some ⟨g4, 2, none⟩) := hc.dep hl 4 72 rfl (by kernel_rfl)
        have kb := G3.out.below hc.g G3.out.lt
        have x2 : w1.cell? ⟨g4, 2, none⟩ = some (.int .u16 (i8 : Int)) := kb.cell 2
        clear kb
        refine does_value rfl (wanted_at rfl rfl (hc.dep hl 3 71 rfl (by kernel_rfl))) (.int .u16 (i8 : Int)) w1 ?_ (Below.refl _ _) rfl
        clear hc hl
        go_simp
      · intro listed a w1 hl hc
        have h73 : a.tmps[73]?.getD undef = .int .u16 (i8 : Int) := hc.dep hl 5 73 rfl (by kernel_rfl)
        refine does_value rfl (wanted_at rfl rfl (hc.dep hl 3 71 rfl (by kernel_rfl))) (.bool false) w1 ?_ (Below.refl _ _) rfl
        clear hc hl
        go_simp
      · intro listed a w1 hl hc
        have h71 : a.tmps[71]?.getD undef = .bool false := hc.dep hl 3 71 rfl (by kernel_rfl)
        have h74 : a.tmps[74]?.getD undef = .bool false := hc.dep hl 6 74 rfl (by kernel_rfl)
        refine does_value rfl rfl (.bool false) w1 ?_ (Below.refl _ _) rfl
        clear hc hl
        go_simp
      · intro listed a w1 hl hc
        have h75 : a.tmps[75]?.getD undef = .bool false := hc.dep hl 7 75 rfl (by kernel_rfl)
        refine does_value rfl rfl (.bool false) w1 ?_ (Below.refl _ _) rfl
        clear hc hl
        go_simp
      · intro listed a w1 hl hc
        have h4 : a.tmps[4]?.getD undef = .pointer (some ⟨g4, 0, none⟩) := (hc.was 4 (by kernel_rfl)).trans rfl
        refine does_value rfl (wanted_at rfl rfl (hc.dep hl 8 76 rfl (by kernel_rfl))) (.pointer (some ⟨g4, 3, none⟩)) w1 ?_ (Below.refl _ _) rfl
        clear hc hl
        go_simp
      · intro listed a w1 hl hc
        have h77 : a.tmps[77]?.getD undef = .pointer (some ⟨g4, 3, none⟩) := hc.dep hl 9 77 rfl (by kernel_rfl)
        have kb := G3.out.below hc.g G3.out.lt
        have x3 : w1.cell? ⟨g4, 3, none⟩ = some (.int .u16 (i10 : Int)) := kb.cell 3
        clear kb
        refine does_value rfl (wanted_at rfl rfl (hc.dep hl 8 76 rfl (by kernel_rfl))) (.int .u16 (i10 : Int)) w1 ?_ (Below.refl _ _) rfl
        clear hc hl
        go_simp
      · intro listed a w1 hl hc
        have h78 : a.tmps[78]?.getD undef = .int .u16 (i10 : Int) := hc.dep hl 10 78 rfl (by kernel_rfl)
        refine does_value rfl (wanted_at rfl rfl (hc.dep hl 8 76 rfl (by kernel_rfl))) (.bool true) w1 ?_ (Below.refl _ _) rfl
        clear hc hl
        go_simp
      · intro listed a w1 hl hc
        have h76 : a.tmps[76]?.getD undef = .bool false := hc.dep hl 8 76 rfl (by kernel_rfl)
        have h79 : a.tmps[79]?.getD undef = .bool true := hc.dep hl 11 79 rfl (by kernel_rfl)
        refine does_value rfl rfl (.bool true) w1 ?_ (Below.refl _ _) rfl
        clear hc hl
        go_simp
      · intro listed a w1 hl hc
        have h80 : a.tmps[80]?.getD undef = .bool true := hc.dep hl 12 80 rfl (by kernel_rfl)
        refine does_value rfl rfl (.bool true) w1 ?_ (Below.refl _ _) rfl
        clear hc hl
        go_simp
      · intro listed a w1 hl hc
        exact does_skip (fun _ => (Below.refl _ _)) rfl (unwanted_at rfl rfl (hc.dep hl 13 81 rfl (by kernel_rfl))) rfl
      · intro listed a w1 hl hc
        exact does_skip (fun _ => (Below.refl _ _)) rfl (unwanted_at rfl rfl (hc.dep hl 13 81 rfl (by kernel_rfl))) rfl
      · intro listed a w1 hl hc
        exact does_skip (fun _ => (Below.refl _ _)) rfl (unwanted_at rfl rfl (hc.dep hl 13 81 rfl (by kernel_rfl))) rfl
      · intro listed a w1 hl hc
        exact does_skip (fun _ => (Below.refl _ _)) rfl (unwanted_at rfl rfl (hc.dep hl 13 81 rfl (by kernel_rfl))) rfl
      · intro listed a w1 hl hc
        exact does_skip (fun _ => (Below.refl _ _)) rfl (unwanted_at rfl rfl (hc.dep hl 13 81 rfl (by kernel_rfl))) rfl
      · intro listed a w1 hl hc
        exact does_skip (fun _ => (Below.refl _ _)) rfl (unwanted_at rfl rfl (hc.dep hl 13 81 rfl (by kernel_rfl))) rfl
      · intro listed a w1 hl hc
        exact does_skip (fun _ => (Below.refl _ _)) rfl (unwanted_at rfl rfl (hc.dep hl 13 81 rfl (by kernel_rfl))) rfl
    intro w2 hb2
    rintro _ rfl _ rfl _ rfl _ rfl _ rfl _ rfl _ rfl _ rfl _ rfl _ rfl _ rfl _ rfl _ rfl _ rfl _ rfl _ rfl _ rfl _ rfl _ rfl _ rfl _ rfl
    simp only [Thus, List.reverse_cons, List.reverse_nil, List.nil_append, List.cons_append, List.drop, List.take, lay]
    go_frame
    have K1e := Lib.hid (K1b.out.below hb2 K1b.out.lt)
    have B6 := Lib.hid (below_then B3.out (Nat.le_refl _) hb2)
    clear hb2 K1b B3 G3 K0b
    have y0 := K1e.out.cell 0
    have y1 := K1e.out.cell 1
    have y2 := K1e.out.cell 2
    have y3 := K1e.out.cell 3
    have y4 := K1e.out.cell 4
    have y5 := K1e.out.cell 5
    have z0 := K1e.out.frozen 0
    have z1 := K1e.out.frozen 1
    have z2 := K1e.out.frozen 2
    have z3 := K1e.out.frozen 3
    have z4 := K1e.out.frozen 4
    have z5 := K1e.out.frozen 5
    go_wp2_with fail
    have H3 := ((((((K1e.out.set_ 0 (.int .u32 0)).set_ 1 (.int .u32 0)).set_ 2 (.int .u16 0)).set_ 3 (.int .u16 0)).set_ 4 (.int .u32 0)).set_ 5 (.slice none 0 0))
    exact bodyPost_ret (v := .tuple #[.agg #[.int .u32 0, .int .u32 0, .int .u16 0, .int .u16 0, .int .u32 0, .slice none 0 0], .int .i64 7]) (by simp [results, Try.results25, go_sem, H3.cell]) rfl ⟨none, 0, 0, by rw [HOK.out, ansI_off HOK.out]; rfl, by rw [ansI_off HOK.out]; exact Own8.nil _ _ _, ((((((B6.out.setCell (p := ⟨w.heap.size + 1, 0, none⟩) (show w.heap.size ≤ w.heap.size + 1 by omega) (.int .u32 0)).setCell (p := ⟨w.heap.size + 1, 1, none⟩) (show w.heap.size ≤ w.heap.size + 1 by omega) (.int .u32 0)).setCell (p := ⟨w.heap.size + 1, 2, none⟩) (show w.heap.size ≤ w.heap.size + 1 by omega) (.int .u16 0)).setCell (p := ⟨w.heap.size + 1, 3, none⟩) (show w.heap.size ≤ w.heap.size + 1 by omega) (.int .u16 0)).setCell (p := ⟨w.heap.size + 1, 4, none⟩) (show w.heap.size ≤ w.heap.size + 1 by omega) (.int .u32 0)).setCell (p := ⟨w.heap.size + 1, 5, none⟩) (show w.heap.size ≤ w.heap.size + 1 by omega) (.slice none 0 0))⟩
  cases hd : decide (f = 0 ∧ xs = Y)
  · have HOK := Lib.hid (HOKD.out _ q0n q8n q10n hd)
    have HSM2 := Lib.hid (HSM.out _ hd)
    have q0 := nat_ne q0n
    have q8 := nat_ne q8n
    have q10 := nat_ne q10n
    clear q0n q8n q10n hd
    refine wp_region_grow_tail 21 (by kernel_rfl) [(Is (.pointer (some ⟨g4, 0, none⟩))), (Is (.int .u32 (i0 : Int))), (Is (.bool false)), (Is (.bool false)), (Is (.pointer (some ⟨g4, 2, none⟩))), (Is (.int .u16 (i8 : Int))), (Is (.bool false)), (Is (.bool false)), (Is (.bool false)), (Is (.pointer (some ⟨g4, 3, none⟩))), (Is (.int .u16 (i10 : Int))), (Is (.bool false)), (Is (.bool false)), (Is (.bool false)), (Is (.pointer (some ⟨w.heap.size, 0, none⟩))), (Is (.int .u8 1)), (Is (.agg #[.int .u32 (i0 : Int), .int .u32 (i4 : Int), .int .u16 (i8 : Int), .int .u16 (i10 : Int), .int .u32 (i12 : Int), .slice none 0 0])), (NewAgg 5 w.heap.size Y.length Y (fun s => .agg #[.int .u8 ((1 : UInt8).toNat : Int), .int .u8 ((0 : UInt8).toNat : Int), s])), (Is (.agg #[.int .u8 1, .int .u8 (f.toNat : Int), .slice A n c])), (Is (.bool false)), (Is (.bool true))] rfl ?_ (by kernel_rfl) (by kernel_rfl) ?_ ?_
    · intro p hp
      simp only [List.mem_cons, List.not_mem_nil, or_false] at hp
      rcases hp with rfl | rfl | rfl | rfl | rfl | rfl | rfl | rfl | rfl | rfl | rfl | rfl | rfl | rfl | rfl | rfl | rfl | rfl | rfl | rfl | rfl
      · exact Lasts.is _
      · exact Lasts.is _
      · exact Lasts.is _
      · exact Lasts.is _
      · exact Lasts.is _
      · exact Lasts.is _
      · exact Lasts.is _
      · exact Lasts.is _
      · exact Lasts.is _
      · exact Lasts.is _
      · exact Lasts.is _
      · exact Lasts.is _
      · exact Lasts.is _
      · exact Lasts.is _
      · exact Lasts.is _
      · exact Lasts.is _
      · exact Lasts.is _
      · exact Lasts.newAgg _ _ _ _ _
      · exact Lasts.is _
      · exact Lasts.is _
      · exact Lasts.is _
    · refine ⟨?_, ?_, ?_, ?_, ?_, ?_, ?_, ?_, ?_, ?_, ?_, ?_, ?_, ?_, ?_, ?_, ?_, ?_, ?_, ?_, ?_, trivial⟩
      · intro listed a w1 hl hc
        have h4 : a.tmps[4]?.getD undef = .pointer (some ⟨g4, 0, none⟩) := (hc.was 4 (by kernel_rfl)).trans rfl
        refine does_value rfl rfl (.pointer (some ⟨g4, 0, none⟩)) w1 ?_ (Below.refl _ _) rfl
        clear hc hl
        go_simp
      · intro listed a w1 hl hc
        have h68 : a.tmps[68]?.getD undef = .pointer (some ⟨g4, 0, none⟩) := hc.dep hl 0 68 rfl (by kernel_rfl)
        have kb := G3.out.below hc.g G3.out.lt
        have x0 : w1.cell? ⟨g4, 0, none⟩ = some (.int .u32 (i0 : Int)) := kb.cell 0
        clear kb
        refine does_value rfl rfl (.int .u32 (i0 : Int)) w1 ?_ (Below.refl _ _) rfl
        clear hc hl
        go_simp
      · intro listed a w1 hl hc
        have h69 : a.tmps[69]?.getD undef = .int .u32 (i0 : Int) := hc.dep hl 1 69 rfl (by kernel_rfl)
        refine does_value rfl rfl (.bool false) w1 ?_ (Below.refl _ _) rfl
        clear hc hl
        go_simp
      · intro listed a w1 hl hc
        have h70 : a.tmps[70]?.getD undef = .bool false := hc.dep hl 2 70 rfl (by kernel_rfl)
        refine does_value rfl rfl (.bool false) w1 ?_ (Below.refl _ _) rfl
        clear hc hl
        go_simp
      · intro listed a w1 hl hc
        have h4 : a.tmps[4]?.getD undef = .pointer (some ⟨g4, 0, none⟩) := (hc.was 4 (by kernel_rfl)).trans rfl
        refine does_value rfl (wanted_at rfl rfl (hc.dep hl 3 71 rfl (by kernel_rfl))) (.pointer (some ⟨g4, 2, none⟩)) w1 ?_ (Below.refl _ _) rfl
        clear hc hl
        go_simp
      · intro listed a w1 hl hc
        have h72 : a.tmps[72]?.getD undef = .pointer (some ⟨g4, 2, none⟩) := hc.dep hl 4 72 rfl (by kernel_rfl)
        have kb := G3.out.below hc.g G3.out.lt
        have x2 : w1.cell? ⟨g4, 2, none⟩ = some (.int .u16 (i8 : Int)) := kb.cell 2
        clear kb
        refine does_value rfl (wanted_at rfl rfl (hc.dep hl 3 71 rfl (by kernel_rfl))) (.int .u16 (i8 : Int)) w1 ?_ (Below.refl _ _) rfl
        clear hc hl
        go_simp
      · intro listed a w1 hl hc
        have h73 : a.tmps[73]?.getD undef = .int .u16 (i8 : Int) := hc.dep hl 5 73 rfl (by kernel_rfl)
        refine does_value rfl (wanted_at rfl rfl (hc.dep hl 3 71 rfl (by kernel_rfl))) (.bool false) w1 ?_ (Below.refl _ _) rfl
        clear hc hl
        go_simp
      · intro listed a w1 hl hc
        have h71 : a.tmps[71]?.getD undef = .bool false := hc.dep hl 3 71 rfl (by kernel_rfl)
        have h74 : a.tmps[74]?.getD undef = .bool false := hc.dep hl 6 74 rfl (by kernel_rfl)
        refine does_value rfl rfl (.bool false) w1 ?_ (Below.refl _ _) rfl
        clear hc hl
        go_simp
      · intro listed a w1 hl hc
        have h75 : a.tmps[75]?.getD undef = .bool false := hc.dep hl 7 75 rfl (by kernel_rfl)
        refine does_value rfl rfl (.bool false) w1 ?_ (Below.refl _ _) rfl
        clear hc hl
        go_simp
      · intro listed a w1 hl hc
        have h4 : a.tmps[4]?.getD undef = .pointer (some ⟨g4, 0, none⟩) := (hc.was 4 (by kernel_rfl)).trans rfl
        refine does_value rfl (wanted_at rfl rfl (hc.dep hl 8 76 rfl (by kernel_rfl))) (.pointer (some ⟨g4, 3, none⟩)) w1 ?_ (Below.refl _ _) rfl
        clear hc hl
        go_simp
      · intro listed a w1 hl hc
        have h77 : a.tmps[77]?.getD undef = .pointer (some ⟨g4, 3, none⟩) := hc.dep hl 9 77 rfl (by kernel_rfl)
        have kb := G3.out.below hc.g G3.out.lt
        have x3 : w1.cell? ⟨g4, 3, none⟩ = some (.int .u16 (i10 : Int)) := kb.cell 3
        clear kb
        refine does_value rfl (wanted_at rfl rfl (hc.dep hl 8 76 rfl (by kernel_rfl))) (.int .u16 (i10 : Int)) w1 ?_ (Below.refl _ _) rfl
        clear hc hl
        go_simp
      · intro listed a w1 hl hc
        have h78 : a.tmps[78]?.getD undef = .int .u16 (i10 : Int) := hc.dep hl 10 78 rfl (by kernel_rfl)
        refine does_value rfl (wanted_at rfl rfl (hc.dep hl 8 76 rfl (by kernel_rfl))) (.bool false) w1 ?_ (Below.refl _ _) rfl
        clear hc hl
        go_simp
      · intro listed a w1 hl hc
        have h76 : a.tmps[76]?.getD undef = .bool false := hc.dep hl 8 76 rfl (by kernel_rfl)
        have h79 : a.tmps[79]?.getD undef = .bool false := hc.dep hl 11 79 rfl (by kernel_rfl)
        refine does_value rfl rfl (.bool false) w1 ?_ (Below.refl _ _) rfl
        clear hc hl
        go_simp
      · intro listed a w1 hl hc
        have h80 : a.tmps[80]?.getD undef = .bool false := hc.dep hl 12 80 rfl (by kernel_rfl)
        refine does_value rfl rfl (.bool false) w1 ?_ (Below.refl _ _) rfl
        clear hc hl
        go_simp
      · intro listed a w1 hl hc
        have h1 : a.tmps[1]?.getD undef = .pointer (some ⟨w.heap.size, 0, none⟩) := (hc.was 1 (by kernel_rfl)).trans rfl
        refine does_value rfl (wanted_at rfl rfl (hc.dep hl 13 81 rfl (by kernel_rfl))) (.pointer (some ⟨w.heap.size, 0, none⟩)) w1 ?_ (Below.refl _ _) rfl
        clear hc hl
        go_simp
      · intro listed a w1 hl hc
        have h82 : a.tmps[82]?.getD undef = .pointer (some ⟨w.heap.size, 0, none⟩) := hc.dep hl 14 82 rfl (by kernel_rfl)
        have kb := K0b.out.below hc.g K0b.out.lt
        have x0 : w1.cell? ⟨w.heap.size, 0, none⟩ = some (.int .u8 1) := kb.cell 0
        clear kb
        refine does_value rfl (wanted_at rfl rfl (hc.dep hl 13 81 rfl (by kernel_rfl))) (.int .u8 1) w1 ?_ (Below.refl _ _) rfl
        clear hc hl
        go_simp
      · intro listed a w1 hl hc
        have h4 : a.tmps[4]?.getD undef = .pointer (some ⟨g4, 0, none⟩) := (hc.was 4 (by kernel_rfl)).trans rfl
        have kb := G3.out.below hc.g G3.out.lt
        have x0 : w1.cell? ⟨g4, 0, none⟩ = some (.int .u32 (i0 : Int)) := kb.cell 0
        have x1 : w1.cell? ⟨g4, 1, none⟩ = some (.int .u32 (i4 : Int)) := kb.cell 1
        have x2 : w1.cell? ⟨g4, 2, none⟩ = some (.int .u16 (i8 : Int)) := kb.cell 2
        have x3 : w1.cell? ⟨g4, 3, none⟩ = some (.int .u16 (i10 : Int)) := kb.cell 3
        have x4 : w1.cell? ⟨g4, 4, none⟩ = some (.int .u32 (i12 : Int)) := kb.cell 4
        have x5 : w1.cell? ⟨g4, 5, none⟩ = some (.slice none 0 0) := kb.cell 5
        clear kb
        refine does_value rfl (wanted_at rfl rfl (hc.dep hl 13 81 rfl (by kernel_rfl))) (.agg #[.int .u32 (i0 : Int), .int .u32 (i4 : Int), .int .u16 (i8 : Int), .int .u16 (i10 : Int), .int .u32 (i12 : Int), .slice none 0 0]) w1 ?_ (Below.refl _ _) rfl
        clear hc hl
        go_simp
      · intro listed a w1 hl hc
        have h83 : a.tmps[83]?.getD undef = .int .u8 1 := hc.dep hl 15 83 rfl (by kernel_rfl)
        have h84 : a.tmps[84]?.getD undef = .agg #[.int .u32 (i0 : Int), .int .u32 (i4 : Int), .int .u16 (i8 : Int), .int .u16 (i10 : Int), .int .u32 (i12 : Int), .slice none 0 0] := hc.dep hl 16 84 rfl (by kernel_rfl)
        refine does_call rfl (wanted_at rfl rfl (hc.dep hl 13 81 rfl (by kernel_rfl))) 26 #[.int .u8 1, .agg #[.int .u32 (i0 : Int), .int .u32 (i4 : Int), .int .u16 (i8 : Int), .int .u16 (i10 : Int), .int .u32 (i12 : Int), .slice none 0 0]] ?_ ((HPT.out w1).mono fun e w' ⟨A9, c9, he, ho, hb⟩ => ⟨_, he, hb, A9, c9, rfl, ho.more (Nat.le_trans B3.out.size hc.g.size)⟩)
        clear hc hl
        go_simp
      · intro listed a w1 hl hc
        have h1 : a.tmps[1]?.getD undef = .pointer (some ⟨w.heap.size, 0, none⟩) := (hc.was 1 (by kernel_rfl)).trans rfl
        have kb := K0b.out.below hc.g K0b.out.lt
        have x0 : w1.cell? ⟨w.heap.size, 0, none⟩ = some (.int .u8 1) := kb.cell 0
        have x1 : w1.cell? ⟨w.heap.size, 1, none⟩ = some (.int .u8 (f.toNat : Int)) := kb.cell 1
        have x2 : w1.cell? ⟨w.heap.size, 2, none⟩ = some (.slice A n c) := kb.cell 2
        clear kb
        refine does_value rfl (wanted_at rfl rfl (hc.dep hl 13 81 rfl (by kernel_rfl))) (.agg #[.int .u8 1, .int .u8 (f.toNat : Int), .slice A n c]) w1 ?_ (Below.refl _ _) rfl
        clear hc hl
        go_simp
      · intro listed a w1 hl hc
        obtain ⟨A85, c85, h85, ho85⟩ := hc.dep hl 17 85 rfl (by kernel_rfl)
        have h86 : a.tmps[86]?.getD undef = .agg #[.int .u8 1, .int .u8 (f.toNat : Int), .slice A n c] := hc.dep hl 18 86 rfl (by kernel_rfl)
        refine does_call rfl (wanted_at rfl rfl (hc.dep hl 13 81 rfl (by kernel_rfl))) 18 #[.agg #[.int .u8 ((1 : UInt8).toNat : Int), .int .u8 ((0 : UInt8).toNat : Int), .slice A85 Y.length c85], .agg #[.int .u8 1, .int .u8 (f.toNat : Int), .slice A n c]] ?_ ((HSM2.out w1 _ _ (B3.out.trans (hc.g.mono B3.out.size)) ho85).mono fun e w' ⟨he, hb⟩ => ⟨_, he, hb, rfl⟩)
        clear hc hl
        go_simp
      · intro listed a w1 hl hc
        have h87 : a.tmps[87]?.getD undef = .bool false := hc.dep hl 19 87 rfl (by kernel_rfl)
        refine does_value rfl (wanted_at rfl rfl (hc.dep hl 13 81 rfl (by kernel_rfl))) (.bool true) w1 ?_ (Below.refl _ _) rfl
        clear hc hl
        go_simp
    intro w2 hb2
    rintro _ rfl _ rfl _ rfl _ rfl _ rfl _ rfl _ rfl _ rfl _ rfl _ rfl _ rfl _ rfl _ rfl _ rfl _ rfl _ rfl _ rfl _ ⟨A85, c85, rfl, ho85⟩ _ rfl _ rfl _ rfl
    simp only [Thus, List.reverse_cons, List.reverse_nil, List.nil_append, List.cons_append, List.drop, List.take, lay]
    go_frame
    have K1e := Lib.hid (K1b.out.below hb2 K1b.out.lt)
    have B6 := Lib.hid (below_then B3.out (Nat.le_refl _) hb2)
    clear hb2 K1b B3 G3 K0b
    have y0 := K1e.out.cell 0
    have y1 := K1e.out.cell 1
    have y2 := K1e.out.cell 2
    have y3 := K1e.out.cell 3
    have y4 := K1e.out.cell 4
    have y5 := K1e.out.cell 5
    have z0 := K1e.out.frozen 0
    have z1 := K1e.out.frozen 1
    have z2 := K1e.out.frozen 2
    have z3 := K1e.out.frozen 3
    have z4 := K1e.out.frozen 4
    have z5 := K1e.out.frozen 5
    go_wp2_with fail
    have H3 := ((((((K1e.out.set_ 0 (.int .u32 0)).set_ 1 (.int .u32 0)).set_ 2 (.int .u16 0)).set_ 3 (.int .u16 0)).set_ 4 (.int .u32 0)).set_ 5 (.slice none 0 0))
    exact bodyPost_ret (v := .tuple #[.agg #[.int .u32 0, .int .u32 0, .int .u16 0, .int .u16 0, .int .u32 0, .slice none 0 0], .int .i64 7]) (by simp [results, Try.results25, go_sem, H3.cell]) rfl ⟨none, 0, 0, by rw [HOK.out, ansI_off HOK.out]; rfl, by rw [ansI_off HOK.out]; exact Own8.nil _ _ _, ((((((B6.out.setCell (p := ⟨w.heap.size + 1, 0, none⟩) (show w.heap.size ≤ w.heap.size + 1 by omega) (.int .u32 0)).setCell (p := ⟨w.heap.size + 1, 1, none⟩) (show w.heap.size ≤ w.heap.size + 1 by omega) (.int .u32 0)).setCell (p := ⟨w.heap.size + 1, 2, none⟩) (show w.heap.size ≤ w.heap.size + 1 by omega) (.int .u16 0)).setCell (p := ⟨w.heap.size + 1, 3, none⟩) (show w.heap.size ≤ w.heap.size + 1 by omega) (.int .u16 0)).setCell (p := ⟨w.heap.size + 1, 4, none⟩) (show w.heap.size ≤ w.heap.size + 1 by omega) (.int .u32 0)).setCell (p := ⟨w.heap.size + 1, 5, none⟩) (show w.heap.size ≤ w.heap.size + 1 by omega) (.slice none 0 0))⟩
  · have HOK := Lib.hid (HOKD.out _ q0n q8n q10n hd)
    have HSM2 := Lib.hid (HSM.out _ hd)
    have q0 := nat_ne q0n
    have q8 := nat_ne q8n
    have q10 := nat_ne q10n
    clear q0n q8n q10n hd
    refine wp_region_grow_tail 21 (by kernel_rfl) [(Is (.pointer (some ⟨g4, 0, none⟩))), (Is (.int .u32 (i0 : Int))), (Is (.bool false)), (Is (.bool false)), (Is (.pointer (some ⟨g4, 2, none⟩))), (Is (.int .u16 (i8 : Int))), (Is (.bool false)), (Is (.bool false)), (Is (.bool false)), (Is (.pointer (some ⟨g4, 3, none⟩))), (Is (.int .u16 (i10 : Int))), (Is (.bool false)), (Is (.bool false)), (Is (.bool false)), (Is (.pointer (some ⟨w.heap.size, 0, none⟩))), (Is (.int .u8 1)), (Is (.agg #[.int .u32 (i0 : Int), .int .u32 (i4 : Int), .int .u16 (i8 : Int), .int .u16 (i10 : Int), .int .u32 (i12 : Int), .slice none 0 0])), (NewAgg 5 w.heap.size Y.length Y (fun s => .agg #[.int .u8 ((1 : UInt8).toNat : Int), .int .u8 ((0 : UInt8).toNat : Int), s])), (Is (.agg #[.int .u8 1, .int .u8 (f.toNat : Int), .slice A n c])), (Is (.bool true)), (Is (.bool false))] rfl ?_ (by kernel_rfl) (by kernel_rfl) ?_ ?_
    · intro p hp
      simp only [List.mem_cons, List.not_mem_nil, or_false] at hp
      rcases hp with rfl | rfl | rfl | rfl | rfl | rfl | rfl | rfl | rfl | rfl | rfl | rfl | rfl | rfl | rfl | rfl | rfl | rfl | rfl | rfl | rfl
      · exact Lasts.is _
      · exact Lasts.is _
      · exact Lasts.is _
      · exact Lasts.is _
      · exact Lasts.is _
      · exact Lasts.is _
      · exact Lasts.is _
      · exact Lasts.is _
      · exact Lasts.is _
      · exact Lasts.is _
      · exact Lasts.is _
      · exact Lasts.is _
      · exact Lasts.is _
      · exact Lasts.is _
      · exact Lasts.is _
      · exact Lasts.is _
      · exact Lasts.is _
      · exact Lasts.newAgg _ _ _ _ _
      · exact Lasts.is _
      · exact Lasts.is _
      · exact Lasts.is _
    · refine ⟨?_, ?_, ?_, ?_, ?_, ?_, ?_, ?_, ?_, ?_, ?_, ?_, ?_, ?_, ?_, ?_, ?_, ?_, ?_, ?_, ?_, trivial⟩
      · intro listed a w1 hl hc
        have h4 : a.tmps[4]?.getD undef = .pointer (some ⟨g4, 0, none⟩) := (hc.was 4 (by kernel_rfl)).trans rfl
        refine does_value rfl rfl (.pointer (some ⟨g4, 0, none⟩)) w1 ?_ (Below.refl _ _) rfl
        clear hc hl
        go_simp
      · intro listed a w1 hl hc
        have h68 : a.tmps[68]?.getD undef = .pointer (some ⟨g4, 0, none⟩) := hc.dep hl 0 68 rfl (by kernel_rfl)
        have kb := G3.out.below hc.g G3.out.lt
        have x0 : w1.cell? ⟨g4, 0, none⟩ = some (.int .u32 (i0 : Int)) := kb.cell 0
        clear kb
        refine does_value rfl rfl (.int .u32 (i0 : Int)) w1 ?_ (Below.refl _ _) rfl
        clear hc hl
        go_simp
      · intro listed a w1 hl hc
        have h69 : a.tmps[69]?.getD undef = .int .u32 (i0 : Int) := hc.dep hl 1 69 rfl (by kernel_rfl)
        refine does_value rfl rfl (.bool false) w1 ?_ (Below.refl _ _) rfl
        clear hc hl
        go_simp
      · intro listed a w1 hl hc
        have h70 : a.tmps[70]?.getD undef = .bool false := hc.dep hl 2 70 rfl (by kernel_rfl)
        refine does_value rfl rfl (.bool false) w1 ?_ (Below.refl _ _) rfl
        clear hc hl
        go_simp
      · intro listed a w1 hl hc
        have h4 : a.tmps[4]?.getD undef = .pointer (some ⟨g4, 0, none⟩) := (hc.was 4 (by kernel_rfl)).trans rfl
        refine does_value rfl (wanted_at rfl rfl (hc.dep hl 3 71 rfl (by kernel_rfl))) (.pointer (some ⟨g4, 2, none⟩)) w1 ?_ (Below.refl _ _) rfl
        clear hc hl
        go_simp
      · intro listed a w1 hl hc
        have h72 : a.tmps[72]?.getD undef = .pointer (some ⟨g4, 2, none⟩) := hc.dep hl 4 72 rfl (by kernel_rfl)
        have kb := G3.out.below hc.g G3.out.lt
        have x2 : w1.cell? ⟨g4, 2, none⟩ = some (.int .u16 (i8 : Int)) := kb.cell 2
        clear kb
        refine does_value rfl (wanted_at rfl rfl (hc.dep hl 3 71 rfl (by kernel_rfl))) (.int .u16 (i8 : Int)) w1 ?_ (Below.refl _ _) rfl
        clear hc hl
        go_simp
      · intro listed a w1 hl hc
        have h73 : a.tmps[73]?.getD undef = .int .u16 (i8 : Int) := hc.dep hl 5 73 rfl (by kernel_rfl)
        refine does_value rfl (wanted_at rfl rfl (hc.dep hl 3 71 rfl (by kernel_rfl))) (.bool false) w1 ?_ (Below.refl _ _) rfl
        clear hc hl
        go_simp
      · intro listed a w1 hl hc
        have h71 : a.tmps[71]?.getD undef = .bool false := hc.dep hl 3 71 rfl (by kernel_rfl)
        have h74 : a.tmps[74]?.getD undef = .bool false := hc.dep hl 6 74 rfl (by kernel_rfl)
        refine does_value rfl rfl (.bool false) w1 ?_ (Below.refl _ _) rfl
        clear hc hl
        go_simp
      · intro listed a w1 hl hc
        have h75 : a.tmps[75]?.getD undef = .bool false := hc.dep hl 7 75 rfl (by kernel_rfl)
        refine does_value rfl rfl (.bool false) w1 ?_ (Below.refl _ _) rfl
        clear hc hl
        go_simp
      · intro listed a w1 hl hc
        have h4 : a.tmps[4]?.getD undef = .pointer (some ⟨g4, 0, none⟩) := (hc.was 4 (by kernel_rfl)).trans rfl
        refine does_value rfl (wanted_at rfl rfl (hc.dep hl 8 76 rfl (by kernel_rfl))) (.pointer (some ⟨g4, 3, none⟩)) w1 ?_ (Below.refl _ _) rfl
        clear hc hl
        go_simp
      · intro listed a w1 hl hc
        have h77 : a.tmps[77]?.getD undef = .pointer (some ⟨g4, 3, none⟩) := hc.dep hl 9 77 rfl (by kernel_rfl)
        have kb := G3.out.below hc.g G3.out.lt
        have x3 : w1.cell? ⟨g4, 3, none⟩ = some (.int .u16 (i10 : Int)) := kb.cell 3
        clear kb
        refine does_value rfl (wanted_at rfl rfl (hc.dep hl 8 76 rfl (by kernel_rfl))) (.int .u16 (i10 : Int)) w1 ?_ (Below.refl _ _) rfl
        clear hc hl
        go_simp
      · intro listed a w1 hl hc
        have h78 : a.tmps[78]?.getD undef = .int .u16 (i10 : Int) := hc.dep hl 10 78 rfl (by kernel_rfl)
        refine does_value rfl (wanted_at rfl rfl (hc.dep hl 8 76 rfl (by kernel_rfl))) (.bool false) w1 ?_ (Below.refl _ _) rfl
        clear hc hl
        go_simp
      · intro listed a w1 hl hc
        have h76 : a.tmps[76]?.getD undef = .bool false := hc.dep hl 8 76 rfl (by kernel_rfl)
        have h79 : a.tmps[79]?.getD undef = .bool false := hc.dep hl 11 79 rfl (by kernel_rfl)
        refine does_value rfl rfl (.bool false) w1 ?_ (Below.refl _ _) rfl
        clear hc hl
        go_simp
      · intro listed a w1 hl hc
        have h80 : a.tmps[80]?.getD undef = .bool false := hc.dep hl 12 80 rfl (by kernel_rfl)
        refine does_value rfl rfl (.bool false) w1 ?_ (Below.refl _ _) rfl
        clear hc hl
        go_simp
      · intro listed a w1 hl hc
        have h1 : a.tmps[1]?.getD undef = .pointer (some ⟨w.heap.size, 0, none⟩) := (hc.was 1 (by kernel_rfl)).trans rfl
        refine does_value rfl (wanted_at rfl rfl (hc.dep hl 13 81 rfl (by kernel_rfl))) (.pointer (some ⟨w.heap.size, 0, none⟩)) w1 ?_ (Below.refl _ _) rfl
        clear hc hl
        go_simp
      · intro listed a w1 hl hc
        have h82 : a.tmps[82]?.getD undef = .pointer (some ⟨w.heap.size, 0, none⟩) := hc.dep hl 14 82 rfl (by kernel_rfl)
        have kb := K0b.out.below hc.g K0b.out.lt
        have x0 : w1.cell? ⟨w.heap.size, 0, none⟩ = some (.int .u8 1) := kb.cell 0
        clear kb
        refine does_value rfl (wanted_at rfl rfl (hc.dep hl 13 81 rfl (by kernel_rfl))) (.int .u8 1) w1 ?_ (Below.refl _ _) rfl
        clear hc hl
        go_simp
      · intro listed a w1 hl hc
        have h4 : a.tmps[4]?.getD undef = .pointer (some ⟨g4, 0, none⟩) := (hc.was 4 (by kernel_rfl)).trans rfl
        have kb := G3.out.below hc.g G3.out.lt
        have x0 : w1.cell? ⟨g4, 0, none⟩ = some (.int .u32 (i0 : Int)) := kb.cell 0
        have x1 : w1.cell? ⟨g4, 1, none⟩ = some (.int .u32 (i4 : Int)) := kb.cell 1
        have x2 : w1.cell? ⟨g4, 2, none⟩ = some (.int .u16 (i8 : Int)) := kb.cell 2
        have x3 : w1.cell? ⟨g4, 3, none⟩ = some (.int .u16 (i10 : Int)) := kb.cell 3
        have x4 : w1.cell? ⟨g4, 4, none⟩ = some (.int .u32 (i12 : Int)) := kb.cell 4
        have x5 : w1.cell? ⟨g4, 5, none⟩ = some (.slice none 0 0) := kb.cell 5
        clear kb
        refine does_value rfl (wanted_at rfl rfl (hc.dep hl 13 81 rfl (by kernel_rfl))) (.agg #[.int .u32 (i0 : Int), .int .u32 (i4 : Int), .int .u16 (i8 : Int), .int .u16 (i10 : Int), .int .u32 (i12 : Int), .slice none 0 0]) w1 ?_ (Below.refl _ _) rfl
        clear hc hl
        go_simp
      · intro listed a w1 hl hc
        have h83 : a.tmps[83]?.getD undef = .int .u8 1 := hc.dep hl 15 83 rfl (by kernel_rfl)
        have h84 : a.tmps[84]?.getD undef = .agg #[.int .u32 (i0 : Int), .int .u32 (i4 : Int), .int .u16 (i8 : Int), .int .u16 (i10 : Int), .int .u32 (i12 : Int), .slice none 0 0] := hc.dep hl 16 84 rfl (by kernel_rfl)
        refine does_call rfl (wanted_at rfl rfl (hc.dep hl 13 81 rfl (by kernel_rfl))) 26 #[.int .u8 1, .agg #[.int .u32 (i0 : Int), .int .u32 (i4 : Int), .int .u16 (i8 : Int), .int .u16 (i10 : Int), .int .u32 (i12 : Int), .slice none 0 0]] ?_ ((HPT.out w1).mono fun e w' ⟨A9, c9, he, ho, hb⟩ => ⟨_, he, hb, A9, c9, rfl, ho.more (Nat.le_trans B3.out.size hc.g.size)⟩)
        clear hc hl
        go_simp
      · intro listed a w1 hl hc
        have h1 : a.tmps[1]?.getD undef = .pointer (some ⟨w.heap.size, 0, none⟩) := (hc.was 1 (by kernel_rfl)).trans rfl
        have kb := K0b.out.below hc.g K0b.out.lt
        have x0 : w1.cell? ⟨w.heap.size, 0, none⟩ = some (.int .u8 1) := kb.cell 0
        have x1 : w1.cell? ⟨w.heap.size, 1, none⟩ = some (.int .u8 (f.toNat : Int)) := kb.cell 1
        have x2 : w1.cell? ⟨w.heap.size, 2, none⟩ = some (.slice A n c) := kb.cell 2
        clear kb
        refine does_value rfl (wanted_at rfl rfl (hc.dep hl 13 81 rfl (by kernel_rfl))) (.agg #[.int .u8 1, .int .u8 (f.toNat : Int), .slice A n c]) w1 ?_ (Below.refl _ _) rfl
        clear hc hl
        go_simp
      · intro listed a w1 hl hc
        obtain ⟨A85, c85, h85, ho85⟩ := hc.dep hl 17 85 rfl (by kernel_rfl)
        have h86 : a.tmps[86]?.getD undef = .agg #[.int .u8 1, .int .u8 (f.toNat : Int), .slice A n c] := hc.dep hl 18 86 rfl (by kernel_rfl)
        refine does_call rfl (wanted_at rfl rfl (hc.dep hl 13 81 rfl (by kernel_rfl))) 18 #[.agg #[.int .u8 ((1 : UInt8).toNat : Int), .int .u8 ((0 : UInt8).toNat : Int), .slice A85 Y.length c85], .agg #[.int .u8 1, .int .u8 (f.toNat : Int), .slice A n c]] ?_ ((HSM2.out w1 _ _ (B3.out.trans (hc.g.mono B3.out.size)) ho85).mono fun e w' ⟨he, hb⟩ => ⟨_, he, hb, rfl⟩)
        clear hc hl
        go_simp
      · intro listed a w1 hl hc
        have h87 : a.tmps[87]?.getD undef = .bool true := hc.dep hl 19 87 rfl (by kernel_rfl)
        refine does_value rfl (wanted_at rfl rfl (hc.dep hl 13 81 rfl (by kernel_rfl))) (.bool false) w1 ?_ (Below.refl _ _) rfl
        clear hc hl
        go_simp
    intro w2 hb2
    rintro _ rfl _ rfl _ rfl _ rfl _ rfl _ rfl _ rfl _ rfl _ rfl _ rfl _ rfl _ rfl _ rfl _ rfl _ rfl _ rfl _ rfl _ ⟨A85, c85, rfl, ho85⟩ _ rfl _ rfl _ rfl
    simp only [Thus, List.reverse_cons, List.reverse_nil, List.nil_append, List.cons_append, List.drop, List.take, lay]
    go_frame
    have K1e := Lib.hid (K1b.out.below hb2 K1b.out.lt)
    have B6 := Lib.hid (below_then B3.out (Nat.le_refl _) hb2)
    have G9 := Lib.hid (G3.out.below hb2 G3.out.lt)
    clear hb2 K1b B3 G3 K0b
    have x0 := G9.out.cell 0
    have x1 := G9.out.cell 1
    have x2 := G9.out.cell 2
    have x3 := G9.out.cell 3
    have x4 := G9.out.cell 4
    have x5 := G9.out.cell 5
    have y0 := K1e.out.cell 0
    have y1 := K1e.out.cell 1
    have y2 := K1e.out.cell 2
    have y3 := K1e.out.cell 3
    have y4 := K1e.out.cell 4
    have y5 := K1e.out.cell 5
    have z0 := K1e.out.frozen 0
    have z1 := K1e.out.frozen 1
    have z2 := K1e.out.frozen 2
    have z3 := K1e.out.frozen 3
    have z4 := K1e.out.frozen 4
    have z5 := K1e.out.frozen 5
    go_wp2_with fail
    have H3 := ((((((K1e.out.set_ 0 (.int .u32 (i0 : Int))).set_ 1 (.int .u32 (i4 : Int))).set_ 2 (.int .u16 (i8 : Int))).set_ 3 (.int .u16 (i10 : Int))).set_ 4 (.int .u32 (i12 : Int))).set_ 5 (.slice none 0 0))
    exact bodyPost_ret (v := .tuple #[.agg #[.int .u32 (i0 : Int), .int .u32 (i4 : Int), .int .u16 (i8 : Int), .int .u16 (i10 : Int), .int .u32 (i12 : Int), .slice none 0 0], .int .i64 0]) (by simp [results, Try.results25, go_sem, H3.cell]) rfl ⟨none, 0, 0, by rw [HOK.out, HANS.out HOK.out]; rfl, by rw [HANS.out HOK.out]; exact Own8.nil _ _ _, ((((((B6.out.setCell (p := ⟨w.heap.size + 1, 0, none⟩) (show w.heap.size ≤ w.heap.size + 1 by omega) (.int .u32 (i0 : Int))).setCell (p := ⟨w.heap.size + 1, 1, none⟩) (show w.heap.size ≤ w.heap.size + 1 by omega) (.int .u32 (i4 : Int))).setCell (p := ⟨w.heap.size + 1, 2, none⟩) (show w.heap.size ≤ w.heap.size + 1 by omega) (.int .u16 (i8 : Int))).setCell (p := ⟨w.heap.size + 1, 3, none⟩) (show w.heap.size ≤ w.heap.size + 1 by omega) (.int .u16 (i10 : Int))).setCell (p := ⟨w.heap.size + 1, 4, none⟩) (show w.heap.size ≤ w.heap.size + 1 by omega) (.int .u32 (i12 : Int))).setCell (p := ⟨w.heap.size + 1, 5, none⟩) (show w.heap.size ≤ w.heap.size + 1 by omega) (.slice none 0 0))⟩
set_option maxRecDepth 100000 in
set_option maxHeartbeats 4000000 in
theorem refGetInit_two (f : UInt8) (A : Option Addr) (n c : Nat) (xs : List UInt8) (w : World) (hn : n ≤ 140737488355200) (hc : n ≤ c) (hcm : c ≤ maxLen) (hx : xs.length = n) (hr : Rd w w.heap.size A xs) (hl : 16 ≤ n) :
    GetsI 25 #[.agg #[.int .u8 2, .int .u8 (f.toNat : Int), .slice A n c]] 2 f xs w := by
  have hz := zero_init
  have hcm' := hcm
  unfold maxLen at hcm'
  have hs1 : ¬ (n : Int) < 16 := by omega
  have hi0b : numO xs 0 4 < 4294967296 := numO_lt xs 0 4
  have Hi0 : Hid (∀ W, Below w.heap.size w W → Calls Try.prog 56 #[.slice A n c, .int .i64 0, .int .i64 4] W fun e w' => e = .returned (.int .u64 (numO xs 0 4)) ∧ Below W.heap.size W w') := Lib.hid fun W hW => number_any A n c 0 4 xs W (by unfold IsSize; omega) (by omega) (by omega) hc hcm hx ((hr.below hW).more hW.size)
  have hi4b : numO xs 4 4 < 4294967296 := numO_lt xs 4 4
  have Hi4 : Hid (∀ W, Below w.heap.size w W → Calls Try.prog 56 #[.slice A n c, .int .i64 4, .int .i64 4] W fun e w' => e = .returned (.int .u64 (numO xs 4 4)) ∧ Below W.heap.size W w') := Lib.hid fun W hW => number_any A n c 4 4 xs W (by unfold IsSize; omega) (by omega) (by omega) hc hcm hx ((hr.below hW).more hW.size)
  have hi8b : numO xs 8 2 < 65536 := numO_lt xs 8 2
  have Hi8 : Hid (∀ W, Below w.heap.size w W → Calls Try.prog 56 #[.slice A n c, .int .i64 8, .int .i64 2] W fun e w' => e = .returned (.int .u64 (numO xs 8 2)) ∧ Below W.heap.size W w') := Lib.hid fun W hW => number_any A n c 8 2 xs W (by unfold IsSize; omega) (by omega) (by omega) hc hcm hx ((hr.below hW).more hW.size)
  have hi10b : numO xs 10 2 < 65536 := numO_lt xs 10 2
  have Hi10 : Hid (∀ W, Below w.heap.size w W → Calls Try.prog 56 #[.slice A n c, .int .i64 10, .int .i64 2] W fun e w' => e = .returned (.int .u64 (numO xs 10 2)) ∧ Below W.heap.size W w') := Lib.hid fun W hW => number_any A n c 10 2 xs W (by unfold IsSize; omega) (by omega) (by omega) hc hcm hx ((hr.below hW).more hW.size)
  have hi12b : numO xs 12 4 < 4294967296 := numO_lt xs 12 4
  have Hi12 : Hid (∀ W, Below w.heap.size w W → Calls Try.prog 56 #[.slice A n c, .int .i64 12, .int .i64 4] W fun e w' => e = .returned (.int .u64 (numO xs 12 4)) ∧ Below W.heap.size W w') := Lib.hid fun W hW => number_any A n c 12 4 xs W (by unfold IsSize; omega) (by omega) (by omega) hc hcm hx ((hr.below hW).more hW.size)
  have hpi : 4 ≤ numO xs 18 2 → 20 + (numO xs 18 2 - 4) ≤ n → PI 2 xs = ⟨numO xs 0 4, numO xs 4 4, numO xs 8 2, numO xs 10 2, numO xs 12 4, (xs.drop 20).take (numO xs 18 2 - 4)⟩ := fun h1 h2 => by unfold PI cookieOf; rw [if_pos ⟨rfl, h1, by omega⟩]
  have hckl : 20 + (numO xs 18 2 - 4) ≤ n → ((xs.drop 20).take (numO xs 18 2 - 4)).length = numO xs 18 2 - 4 := fun h => by simp; omega
  have HPT : Hid (4 ≤ numO xs 18 2 → 20 + (numO xs 18 2 - 4) ≤ n → ∀ W (Ax : Option Addr) (cx : Nat), Own8 W 5 w.heap.size Ax (numO xs 18 2 - 4) cx ((xs.drop 20).take (numO xs 18 2 - 4)) → Puts 26 #[.int .u8 2, .agg #[.int .u32 (numO xs 0 4 : Int), .int .u32 (numO xs 4 4 : Int), .int .u16 (numO xs 8 2 : Int), .int .u16 (numO xs 10 2 : Int), .int .u32 (numO xs 12 4 : Int), .slice Ax (numO xs 18 2 - 4 : Nat) cx]] 2 0 (bodyI 2 ⟨numO xs 0 4, numO xs 4 4, numO xs 8 2, numO xs 10 2, numO xs 12 4, (xs.drop 20).take (numO xs 18 2 - 4)⟩) W) := Lib.hid fun h1 h2 W Ax cx ho => refPutInit_ack _ _ _ _ _ _ hi0b hi4b hi8b hi10b hi12b Ax (numO xs 18 2 - 4) cx W (by have := numO_lt xs 18 2; omega) (hckl h2) ho.rd
  have HOKD : Hid (∀ r, numO xs 0 4 ≠ 0 → numO xs 8 2 ≠ 0 → numO xs 10 2 ≠ 0 → 4 ≤ numO xs 18 2 → 20 + (numO xs 18 2 - 4) ≤ n → 5 ≤ numO xs 18 2 → decide (f = 0 ∧ xs = bodyI 2 ⟨numO xs 0 4, numO xs 4 4, numO xs 8 2, numO xs 10 2, numO xs 12 4, (xs.drop 20).take (numO xs 18 2 - 4)⟩) = r → okI 2 f xs = r) := Lib.hid fun r h0 h8 h10 h1 h2 h5 hh => by
    have h := one_same (2 : UInt8) hh
    have hv : validI 2 (PI 2 xs) = true := by
      rw [hpi h1 h2]
      simp only [validI, hckl h2, decide_eq_true_eq]
      exact ⟨h0, h8, h10, .inr ⟨trivial, by omega⟩⟩
    unfold okI
    rw [hv, hpi h1 h2, h]
    rfl
  have HANS : Hid (4 ≤ numO xs 18 2 → 20 + (numO xs 18 2 - 4) ≤ n → okI 2 f xs = true → ansI 2 f xs = ⟨numO xs 0 4, numO xs 4 4, numO xs 8 2, numO xs 10 2, numO xs 12 4, (xs.drop 20).take (numO xs 18 2 - 4)⟩) := Lib.hid fun h1 h2 h => by unfold ansI; rw [h]; exact hpi h1 h2
  have HOKX : Hid (¬ (4 ≤ numO xs 18 2 ∧ 20 + (numO xs 18 2 - 4) ≤ n) ∨ numO xs 18 2 ≤ 4 → okI 2 f xs = false) := Lib.hid fun h => by
    have : (cookieOf 2 xs).length = 0 := by
      unfold cookieOf
      split
      · rename_i h2
        rcases h with h | h
        · exact absurd ⟨h2.2.1, by omega⟩ h
        · simp
          omega
      · rfl
    simp [okI, validI, PI, List.eq_nil_of_length_eq_zero this]
  have hlb : numO xs 18 2 < 65536 := numO_lt xs 18 2
  have HL : Hid (∀ W, Below w.heap.size w W → Calls Try.prog 56 #[.slice A n c, .int .i64 18, .int .i64 2] W fun e w' => e = .returned (.int .u64 (numO xs 18 2)) ∧ Below W.heap.size W w') := Lib.hid fun W hW => number_any A n c 18 2 xs W (by unfold IsSize; omega) (by omega) (by omega) hc hcm hx ((hr.below hW).more hW.size)
  have HCN : Hid (¬ (4 ≤ numO xs 18 2 ∧ 20 + (numO xs 18 2 - 4) ≤ n) → ∀ W, Calls Try.prog 65 #[.slice A n c, .int .i64 20, .int .i64 ((numO xs 18 2 : Int) - 4)] W fun e w' => e = .returned (.tuple #[.slice none 0 0, .bool false]) ∧ Below W.heap.size W w') := Lib.hid fun hcut W => (refCutNo A n c 20 ((numO xs 18 2 : Int) - 4) W (by unfold maxLen; omega) (fun ⟨h1, h2, h3, h4⟩ => hcut ⟨by omega, by omega⟩)).mono fun e w' ⟨he, hw⟩ => ⟨he, hw ▸ Below.refl _ _⟩
  have HCY : Hid (4 ≤ numO xs 18 2 → 20 + (numO xs 18 2 - 4) ≤ n → ∀ W, Below w.heap.size w W → Calls Try.prog 65 #[.slice A n c, .int .i64 20, .int .i64 ((numO xs 18 2 : Int) - 4)] W fun e w' => ∃ A2 c2, e = .returned (.tuple #[.slice A2 (numO xs 18 2 - 4 : Nat) c2, .bool true]) ∧ Own8 w' 5 W.heap.size A2 (numO xs 18 2 - 4) c2 ((xs.drop 20).take (numO xs 18 2 - 4)) ∧ Below W.heap.size W w') := Lib.hid fun h1 h2 W hW => by
    have := refCut_yes A n c 20 (numO xs 18 2 - 4) xs W (by omega) hc hcm hx ((hr.below hW).more hW.size) (by omega)
    rw [show ((numO xs 18 2 - 4 : Nat) : Int) = (numO xs 18 2 : Int) - 4 by omega] at this
    exact this
  have HSM : Hid (∀ r, decide (f = 0 ∧ xs = bodyI 2 ⟨numO xs 0 4, numO xs 4 4, numO xs 8 2, numO xs 10 2, numO xs 12 4, (xs.drop 20).take (numO xs 18 2 - 4)⟩) = r → ∀ (W : World) (A' : Option Addr) (c' : Nat), Below w.heap.size w W → Own8 W 5 w.heap.size A' (bodyI 2 ⟨numO xs 0 4, numO xs 4 4, numO xs 8 2, numO xs 10 2, numO xs 12 4, (xs.drop 20).take (numO xs 18 2 - 4)⟩).length c' (bodyI 2 ⟨numO xs 0 4, numO xs 4 4, numO xs 8 2, numO xs 10 2, numO xs 12 4, (xs.drop 20).take (numO xs 18 2 - 4)⟩) → Calls Try.prog 18 #[.agg #[.int .u8 ((2 : UInt8).toNat : Int), .int .u8 ((0 : UInt8).toNat : Int), .slice A' (bodyI 2 ⟨numO xs 0 4, numO xs 4 4, numO xs 8 2, numO xs 10 2, numO xs 12 4, (xs.drop 20).take (numO xs 18 2 - 4)⟩).length c'], .agg #[.int .u8 ((2 : UInt8).toNat : Int), .int .u8 (f.toNat : Int), .slice A n c]] W fun e w' => e = .returned (.bool r) ∧ Below W.heap.size W w') := Lib.hid fun r hd => sameR (c := c) (by omega) hx hr (one_same (2 : UInt8) hd)
  obtain ⟨i0, ei0⟩ : ∃ i0, i0 = numO xs 0 4 := ⟨_, rfl⟩
  rw [← ei0] at Hi0 hi0b HPT HSM HOKD HANS
  obtain ⟨i4, ei4⟩ : ∃ i4, i4 = numO xs 4 4 := ⟨_, rfl⟩
  rw [← ei4] at Hi4 hi4b HPT HSM HOKD HANS
  obtain ⟨i8, ei8⟩ : ∃ i8, i8 = numO xs 8 2 := ⟨_, rfl⟩
  rw [← ei8] at Hi8 hi8b HPT HSM HOKD HANS
  obtain ⟨i10, ei10⟩ : ∃ i10, i10 = numO xs 10 2 := ⟨_, rfl⟩
  rw [← ei10] at Hi10 hi10b HPT HSM HOKD HANS
  obtain ⟨i12, ei12⟩ : ∃ i12, i12 = numO xs 12 4 := ⟨_, rfl⟩
  rw [← ei12] at Hi12 hi12b HPT HSM HOKD HANS
  have HE0 := Lib.hid ei0
  have HE8 := Lib.hid ei8
  have HE10 := Lib.hid ei10
  obtain ⟨nl, enl⟩ : ∃ nl, nl = numO xs 18 2 := ⟨_, rfl⟩
  rw [← enl] at HL hlb HCN HCY HOKX HPT HSM HOKD HANS
  obtain ⟨CKL, eCK⟩ : ∃ CKL, CKL = (xs.drop 20).take (nl - 4) := ⟨_, rfl⟩
  rw [← eCK] at HCY HPT HSM HOKD HANS
  obtain ⟨Y, eY⟩ : ∃ Y, Y = bodyI 2 ⟨i0, i4, i8, i10, i12, CKL⟩ := ⟨_, rfl⟩
  rw [← eY] at HPT HSM HOKD
  unfold GetsI
  clear eY hx hr hpi enl eCK hckl ei0 ei4 ei8 ei10 ei12
  have b0 : Blk (w.alloc (.cells #[.int .u8 2, .int .u8 (f.toNat : Int), .slice A n c] 28)) w.heap.size 28 #[.int .u8 2, .int .u8 (f.toNat : Int), .slice A n c] := Blk.new w 28 #[.int .u8 2, .int .u8 (f.toNat : Int), .slice A n c]
  have b1 : Blk ((w.alloc (.cells #[.int .u8 2, .int .u8 (f.toNat : Int), .slice A n c] 28)).alloc (.cells #[.int .u32 0, .int .u32 0, .int .u16 0, .int .u16 0, .int .u32 0, .slice none 0 0] 43)) (w.heap.size + 1) 43 #[.int .u32 0, .int .u32 0, .int .u16 0, .int .u16 0, .int .u32 0, .slice none 0 0] := by simpa using Blk.new (w.alloc (.cells #[.int .u8 2, .int .u8 (f.toNat : Int), .slice A n c] 28)) 43 #[.int .u32 0, .int .u32 0, .int .u16 0, .int .u16 0, .int .u32 0, .slice none 0 0]
  have K0 := Lib.hid (b0.alloc (.cells #[.int .u32 0, .int .u32 0, .int .u16 0, .int .u16 0, .int .u32 0, .slice none 0 0] 43))
  have K1 := Lib.hid b1
  have B0 : Hid (Below w.heap.size w ((w.alloc (.cells #[.int .u8 2, .int .u8 (f.toNat : Int), .slice A n c] 28)).alloc (.cells #[.int .u32 0, .int .u32 0, .int .u16 0, .int .u16 0, .int .u32 0, .slice none 0 0] 43))) := Lib.hid (Wr.below_ (((Wr.refl 5 w.heap.size w).alloc (.cells #[.int .u8 2, .int .u8 (f.toNat : Int), .slice A n c] 28)).alloc (.cells #[.int .u32 0, .int .u32 0, .int .u16 0, .int .u16 0, .int .u32 0, .slice none 0 0] 43)) (Nat.le_refl _))
  clear b0 b1
  go_enter Try.func25, Try.ntmps25
  rw [drawn_eq 3, drawn_eq 10]
  go_wp2_with fail
  generalize ((w.alloc (.cells #[.int .u8 2, .int .u8 (f.toNat : Int), .slice A n c] 28)).alloc (.cells #[.int .u32 0, .int .u32 0, .int .u16 0, .int .u16 0, .int .u32 0, .slice none 0 0] 43)) = v0 at K0 K1 B0 ⊢
  rw [← drawn_eq 3]
  refine wp_region_grow_tail 22 (by kernel_rfl) [(Is (.pointer (some ⟨w.heap.size, 2, none⟩))), (Is (.slice A n c)), (Is (.int .u64 (i0 : Int))), (Is (.int .u32 (i0 : Int))), (Is (.pointer (some ⟨w.heap.size, 2, none⟩))), (Is (.slice A n c)), (Is (.int .u64 (i4 : Int))), (Is (.int .u32 (i4 : Int))), (Is (.pointer (some ⟨w.heap.size, 2, none⟩))), (Is (.slice A n c)), (Is (.int .u64 (i8 : Int))), (Is (.int .u16 (i8 : Int))), (Is (.pointer (some ⟨w.heap.size, 2, none⟩))), (Is (.slice A n c)), (Is (.int .u64 (i10 : Int))), (Is (.int .u16 (i10 : Int))), (Is (.pointer (some ⟨w.heap.size, 2, none⟩))), (Is (.slice A n c)), (Is (.int .u64 (i12 : Int))), (Is (.int .u32 (i12 : Int))), (Is (.agg #[.int .u32 (i0 : Int), .int .u32 (i4 : Int), .int .u16 (i8 : Int), .int .u16 (i10 : Int), .int .u32 (i12 : Int), .slice none 0 0])), (NewBlk v0.heap.size 43 #[.int .u32 0, .int .u32 0, .int .u16 0, .int .u16 0, .int .u32 0, .slice none 0 0])] rfl ?_ (by kernel_rfl) (by kernel_rfl) ?_ ?_
  · intro p hp
    simp only [List.mem_cons, List.not_mem_nil, or_false] at hp
    rcases hp with rfl | rfl | rfl | rfl | rfl | rfl | rfl | rfl | rfl | rfl | rfl | rfl | rfl | rfl | rfl | rfl | rfl | rfl | rfl | rfl | rfl | rfl
    · exact Lasts.is _
    · exact Lasts.is _
    · exact Lasts.is _
    · exact Lasts.is _
    · exact Lasts.is _
    · exact Lasts.is _
    · exact Lasts.is _
    · exact Lasts.is _
    · exact Lasts.is _
    · exact Lasts.is _
    · exact Lasts.is _
    · exact Lasts.is _
    · exact Lasts.is _
    · exact Lasts.is _
    · exact Lasts.is _
    · exact Lasts.is _
    · exact Lasts.is _
    · exact Lasts.is _
    · exact Lasts.is _
    · exact Lasts.is _
    · exact Lasts.is _
    · exact Lasts.newBlk _ _ _
  · refine ⟨?_, ?_, ?_, ?_, ?_, ?_, ?_, ?_, ?_, ?_, ?_, ?_, ?_, ?_, ?_, ?_, ?_, ?_, ?_, ?_, ?_, ?_, trivial⟩
    · intro listed a w1 hl hc
      have h1 : a.tmps[1]?.getD undef = .pointer (some ⟨w.heap.size, 0, none⟩) := (hc.was 1 (by kernel_rfl)).trans rfl
      refine does_value rfl rfl (.pointer (some ⟨w.heap.size, 2, none⟩)) w1 ?_ (Below.refl _ _) rfl
      clear hc hl
      go_simp
    · intro listed a w1 hl hc
      have h23 : a.tmps[23]?.getD undef = .pointer (some ⟨w.heap.size, 2, none⟩) := hc.dep hl 0 23 rfl (by kernel_rfl)
      have kb := K0.out.below hc.g K0.out.lt
      have x2 : w1.cell? ⟨w.heap.size, 2, none⟩ = some (.slice A n c) := kb.cell 2
      clear kb
      refine does_value rfl rfl (.slice A n c) w1 ?_ (Below.refl _ _) rfl
      clear hc hl
      go_simp
    · intro listed a w1 hl hc
      have h24 : a.tmps[24]?.getD undef = .slice A n c := hc.dep hl 1 24 rfl (by kernel_rfl)
      refine does_call rfl rfl 56 #[.slice A n c, .int .i64 0, .int .i64 4] ?_ ((Hi0.out w1 (B0.out.trans (hc.g.mono B0.out.size))).mono fun e w' ⟨he, hb⟩ => ⟨_, he, hb, rfl⟩)
      clear hc hl
      go_simp
    · intro listed a w1 hl hc
      have h25 : a.tmps[25]?.getD undef = .int .u64 (i0 : Int) := hc.dep hl 2 25 rfl (by kernel_rfl)
      refine does_value rfl rfl (.int .u32 (i0 : Int)) w1 ?_ (Below.refl _ _) rfl
      clear hc hl
      go_simp
      exact wrap_u32m hi0b
    · intro listed a w1 hl hc
      have h1 : a.tmps[1]?.getD undef = .pointer (some ⟨w.heap.size, 0, none⟩) := (hc.was 1 (by kernel_rfl)).trans rfl
      refine does_value rfl rfl (.pointer (some ⟨w.heap.size, 2, none⟩)) w1 ?_ (Below.refl _ _) rfl
      clear hc hl
      go_simp
    · intro listed a w1 hl hc
      have h27 : a.tmps[27]?.getD undef = .pointer (some ⟨w.heap.size, 2, none⟩) := hc.dep hl 4 27 rfl (by kernel_rfl)
      have kb := K0.out.below hc.g K0.out.lt
      have x2 : w1.cell? ⟨w.heap.size, 2, none⟩ = some (.slice A n c) := kb.cell 2
      clear kb
      refine does_value rfl rfl (.slice A n c) w1 ?_ (Below.refl _ _) rfl
      clear hc hl
      go_simp
    · intro listed a w1 hl hc
      have h28 : a.tmps[28]?.getD undef = .slice A n c := hc.dep hl 5 28 rfl (by kernel_rfl)
      refine does_call rfl rfl 56 #[.slice A n c, .int .i64 4, .int .i64 4] ?_ ((Hi4.out w1 (B0.out.trans (hc.g.mono B0.out.size))).mono fun e w' ⟨he, hb⟩ => ⟨_, he, hb, rfl⟩)
      clear hc hl
      go_simp
    · intro listed a w1 hl hc
      have h29 : a.tmps[29]?.getD undef = .int .u64 (i4 : Int) := hc.dep hl 6 29 rfl (by kernel_rfl)
      refine does_value rfl rfl (.int .u32 (i4 : Int)) w1 ?_ (Below.refl _ _) rfl
      clear hc hl
      go_simp
      exact wrap_u32m hi4b
    · intro listed a w1 hl hc
      have h1 : a.tmps[1]?.getD undef = .pointer (some ⟨w.heap.size, 0, none⟩) := (hc.was 1 (by kernel_rfl)).trans rfl
      refine does_value rfl rfl (.pointer (some ⟨w.heap.size, 2, none⟩)) w1 ?_ (Below.refl _ _) rfl
      clear hc hl
      go_simp
    · intro listed a w1 hl hc
      have h31 : a.tmps[31]?.getD undef = .pointer (some ⟨w.heap.size, 2, none⟩) := hc.dep hl 8 31 rfl (by kernel_rfl)
      have kb := K0.out.below hc.g K0.out.lt
      have x2 : w1.cell? ⟨w.heap.size, 2, none⟩ = some (.slice A n c) := kb.cell 2
      clear kb
      refine does_value rfl rfl (.slice A n c) w1 ?_ (Below.refl _ _) rfl
      clear hc hl
      go_simp
    · intro listed a w1 hl hc
      have h32 : a.tmps[32]?.getD undef = .slice A n c := hc.dep hl 9 32 rfl (by kernel_rfl)
      refine does_call rfl rfl 56 #[.slice A n c, .int .i64 8, .int .i64 2] ?_ ((Hi8.out w1 (B0.out.trans (hc.g.mono B0.out.size))).mono fun e w' ⟨he, hb⟩ => ⟨_, he, hb, rfl⟩)
      clear hc hl
      go_simp
    · intro listed a w1 hl hc
      have h33 : a.tmps[33]?.getD undef = .int .u64 (i8 : Int) := hc.dep hl 10 33 rfl (by kernel_rfl)
      refine does_value rfl rfl (.int .u16 (i8 : Int)) w1 ?_ (Below.refl _ _) rfl
      clear hc hl
      go_simp
      exact wrap_u16m hi8b
    · intro listed a w1 hl hc
      have h1 : a.tmps[1]?.getD undef = .pointer (some ⟨w.heap.size, 0, none⟩) := (hc.was 1 (by kernel_rfl)).trans rfl
      refine does_value rfl rfl (.pointer (some ⟨w.heap.size, 2, none⟩)) w1 ?_ (Below.refl _ _) rfl
      clear hc hl
      go_simp
    · intro listed a w1 hl hc
      have h35 : a.tmps[35]?.getD undef = .pointer (some ⟨w.heap.size, 2, none⟩) := hc.dep hl 12 35 rfl (by kernel_rfl)
      have kb := K0.out.below hc.g K0.out.lt
      have x2 : w1.cell? ⟨w.heap.size, 2, none⟩ = some (.slice A n c) := kb.cell 2
      clear kb
      refine does_value rfl rfl (.slice A n c) w1 ?_ (Below.refl _ _) rfl
      clear hc hl
      go_simp
    · intro listed a w1 hl hc
      have h36 : a.tmps[36]?.getD undef = .slice A n c := hc.dep hl 13 36 rfl (by kernel_rfl)
      refine does_call rfl rfl 56 #[.slice A n c, .int .i64 10, .int .i64 2] ?_ ((Hi10.out w1 (B0.out.trans (hc.g.mono B0.out.size))).mono fun e w' ⟨he, hb⟩ => ⟨_, he, hb, rfl⟩)
      clear hc hl
      go_simp
    · intro listed a w1 hl hc
      have h37 : a.tmps[37]?.getD undef = .int .u64 (i10 : Int) := hc.dep hl 14 37 rfl (by kernel_rfl)
      refine does_value rfl rfl (.int .u16 (i10 : Int)) w1 ?_ (Below.refl _ _) rfl
      clear hc hl
      go_simp
      exact wrap_u16m hi10b
    · intro listed a w1 hl hc
      have h1 : a.tmps[1]?.getD undef = .pointer (some ⟨w.heap.size, 0, none⟩) := (hc.was 1 (by kernel_rfl)).trans rfl
      refine does_value rfl rfl (.pointer (some ⟨w.heap.size, 2, none⟩)) w1 ?_ (Below.refl _ _) rfl
      clear hc hl
      go_simp
    · intro listed a w1 hl hc
      have h39 : a.tmps[39]?.getD undef = .pointer (some ⟨w.heap.size, 2, none⟩) := hc.dep hl 16 39 rfl (by kernel_rfl)
      have kb := K0.out.below hc.g K0.out.lt
      have x2 : w1.cell? ⟨w.heap.size, 2, none⟩ = some (.slice A n c) := kb.cell 2
      clear kb
      refine does_value rfl rfl (.slice A n c) w1 ?_ (Below.refl _ _) rfl
      clear hc hl
      go_simp
    · intro listed a w1 hl hc
      have h40 : a.tmps[40]?.getD undef = .slice A n c := hc.dep hl 17 40 rfl (by kernel_rfl)
      refine does_call rfl rfl 56 #[.slice A n c, .int .i64 12, .int .i64 4] ?_ ((Hi12.out w1 (B0.out.trans (hc.g.mono B0.out.size))).mono fun e w' ⟨he, hb⟩ => ⟨_, he, hb, rfl⟩)
      clear hc hl
      go_simp
    · intro listed a w1 hl hc
      have h41 : a.tmps[41]?.getD undef = .int .u64 (i12 : Int) := hc.dep hl 18 41 rfl (by kernel_rfl)
      refine does_value rfl rfl (.int .u32 (i12 : Int)) w1 ?_ (Below.refl _ _) rfl
      clear hc hl
      go_simp
      exact wrap_u32m hi12b
    · intro listed a w1 hl hc
      have h26 : a.tmps[26]?.getD undef = .int .u32 (i0 : Int) := hc.dep hl 3 26 rfl (by kernel_rfl)
      have h30 : a.tmps[30]?.getD undef = .int .u32 (i4 : Int) := hc.dep hl 7 30 rfl (by kernel_rfl)
      have h34 : a.tmps[34]?.getD undef = .int .u16 (i8 : Int) := hc.dep hl 11 34 rfl (by kernel_rfl)
      have h38 : a.tmps[38]?.getD undef = .int .u16 (i10 : Int) := hc.dep hl 15 38 rfl (by kernel_rfl)
      have h42 : a.tmps[42]?.getD undef = .int .u32 (i12 : Int) := hc.dep hl 19 42 rfl (by kernel_rfl)
      refine does_value rfl rfl (.agg #[.int .u32 (i0 : Int), .int .u32 (i4 : Int), .int .u16 (i8 : Int), .int .u16 (i10 : Int), .int .u32 (i12 : Int), .slice none 0 0]) w1 ?_ (Below.refl _ _) rfl
      clear hc hl
      go_simp
    · intro listed a w1 hl hc
      refine does_value rfl rfl (.pointer (some ⟨w1.heap.size, 0, none⟩)) (w1.alloc (.cells #[.int .u32 0, .int .u32 0, .int .u16 0, .int .u16 0, .int .u32 0, .slice none 0 0] 43)) ?_ (below_new w1 _) ⟨_, rfl, hc.g.size, Blk.new _ _ _⟩
      clear hc hl
      go_simp
  intro w2 hb2
  rintro _ rfl _ rfl _ rfl _ rfl _ rfl _ rfl _ rfl _ rfl _ rfl _ rfl _ rfl _ rfl _ rfl _ rfl _ rfl _ rfl _ rfl _ rfl _ rfl _ rfl _ rfl _ ⟨g4, rfl, hg4, hb4⟩
  simp only [Thus, List.reverse_cons, List.reverse_nil, List.nil_append, List.cons_append, List.drop, List.take, lay]
  go_frame
  have hl0 := K0.out.lt
  have hl1 := K1.out.lt
  have HG := Lib.hid hb4
  have hge : w.heap.size ≤ g4 := by omega
  have y0 := HG.out.cell 0
  have y1 := HG.out.cell 1
  have y2 := HG.out.cell 2
  have y3 := HG.out.cell 3
  have y4 := HG.out.cell 4
  have y5 := HG.out.cell 5
  have z0 := HG.out.frozen 0
  have z1 := HG.out.frozen 1
  have z2 := HG.out.frozen 2
  have z3 := HG.out.frozen 3
  have z4 := HG.out.frozen 4
  have z5 := HG.out.frozen 5
  have G3 : Hid (Blk ((((((w2.setCell ⟨g4, 0, none⟩ (.int .u32 (i0 : Int))).setCell ⟨g4, 1, none⟩ (.int .u32 (i4 : Int))).setCell ⟨g4, 2, none⟩ (.int .u16 (i8 : Int))).setCell ⟨g4, 3, none⟩ (.int .u16 (i10 : Int))).setCell ⟨g4, 4, none⟩ (.int .u32 (i12 : Int))).setCell ⟨g4, 5, none⟩ (.slice none 0 0)) g4 43 #[.int .u32 (i0 : Int), .int .u32 (i4 : Int), .int .u16 (i8 : Int), .int .u16 (i10 : Int), .int .u32 (i12 : Int), .slice none 0 0]) := Lib.hid ((((((hb4.set_ 0 (.int .u32 (i0 : Int))).set_ 1 (.int .u32 (i4 : Int))).set_ 2 (.int .u16 (i8 : Int))).set_ 3 (.int .u16 (i10 : Int))).set_ 4 (.int .u32 (i12 : Int))).set_ 5 (.slice none 0 0))
  have K0b := Lib.hid (((((((K0.out.below hb2 K0.out.lt).far (p := ⟨g4, 0, none⟩) (show w.heap.size ≠ g4 by omega) (.int .u32 (i0 : Int))).far (p := ⟨g4, 1, none⟩) (show w.heap.size ≠ g4 by omega) (.int .u32 (i4 : Int))).far (p := ⟨g4, 2, none⟩) (show w.heap.size ≠ g4 by omega) (.int .u16 (i8 : Int))).far (p := ⟨g4, 3, none⟩) (show w.heap.size ≠ g4 by omega) (.int .u16 (i10 : Int))).far (p := ⟨g4, 4, none⟩) (show w.heap.size ≠ g4 by omega) (.int .u32 (i12 : Int))).far (p := ⟨g4, 5, none⟩) (show w.heap.size ≠ g4 by omega) (.slice none 0 0))
  have K1b := Lib.hid (((((((K1.out.below hb2 K1.out.lt).far (p := ⟨g4, 0, none⟩) (show w.heap.size + 1 ≠ g4 by omega) (.int .u32 (i0 : Int))).far (p := ⟨g4, 1, none⟩) (show w.heap.size + 1 ≠ g4 by omega) (.int .u32 (i4 : Int))).far (p := ⟨g4, 2, none⟩) (show w.heap.size + 1 ≠ g4 by omega) (.int .u16 (i8 : Int))).far (p := ⟨g4, 3, none⟩) (show w.heap.size + 1 ≠ g4 by omega) (.int .u16 (i10 : Int))).far (p := ⟨g4, 4, none⟩) (show w.heap.size + 1 ≠ g4 by omega) (.int .u32 (i12 : Int))).far (p := ⟨g4, 5, none⟩) (show w.heap.size + 1 ≠ g4 by omega) (.slice none 0 0))
  have B3 := Lib.hid (((((((below_then B0.out (Nat.le_refl _) hb2).setCell (p := ⟨g4, 0, none⟩) (show w.heap.size ≤ g4 by omega) (.int .u32 (i0 : Int))).setCell (p := ⟨g4, 1, none⟩) (show w.heap.size ≤ g4 by omega) (.int .u32 (i4 : Int))).setCell (p := ⟨g4, 2, none⟩) (show w.heap.size ≤ g4 by omega) (.int .u16 (i8 : Int))).setCell (p := ⟨g4, 3, none⟩) (show w.heap.size ≤ g4 by omega) (.int .u16 (i10 : Int))).setCell (p := ⟨g4, 4, none⟩) (show w.heap.size ≤ g4 by omega) (.int .u32 (i12 : Int))).setCell (p := ⟨g4, 5, none⟩) (show w.heap.size ≤ g4 by omega) (.slice none 0 0))
  have hgl : g4 < w2.heap.size := hb4.lt
  clear hb2 hb4 K0 K1 B0 HG
  have x0 := K0b.out.cell 0
  have x1 := K0b.out.cell 1
  have x2 := K0b.out.cell 2
  go_wp2_with fail
  generalize ((((((w2.setCell ⟨g4, 0, none⟩ (.int .u32 (i0 : Int))).setCell ⟨g4, 1, none⟩ (.int .u32 (i4 : Int))).setCell ⟨g4, 2, none⟩ (.int .u16 (i8 : Int))).setCell ⟨g4, 3, none⟩ (.int .u16 (i10 : Int))).setCell ⟨g4, 4, none⟩ (.int .u32 (i12 : Int))).setCell ⟨g4, 5, none⟩ (.slice none 0 0)) = v3 at G3 K0b K1b B3 ⊢
  clear hgl x0 x1 x2 y0 z0 y1 z1 y2 z2 y3 z3 y4 z4 y5 z5
  refine (HL.out v3 B3.out).mono ?_
  rintro e w4 ⟨rfl, hb⟩
  have G4 := Lib.hid (G3.out.below hb G3.out.lt)
  have K0c := Lib.hid (K0b.out.below hb K0b.out.lt)
  have K1c := Lib.hid (K1b.out.below hb K1b.out.lt)
  have B4 := Lib.hid (below_then B3.out (Nat.le_refl _) hb)
  clear hb G3 K0b K1b B3
  have x0 := K0c.out.cell 0
  have x1 := K0c.out.cell 1
  have x2 := K0c.out.cell 2
  go_wp2_with fail
  clear x0 x1 x2
  by_cases hcut : 4 ≤ nl ∧ 20 + (nl - 4) ≤ n
  · have HCUT := Lib.hid (HCY.out hcut.1 hcut.2)
    have hcut1 := hcut.1
    refine (HCUT.out w4 B4.out).mono ?_
    rintro e w5 ⟨Ax, cx, rfl, ho, hb⟩
    by_cases h5 : 5 ≤ nl
    · have O4 := Lib.hid (ho.more B4.out.size)
      have G5 := Lib.hid (G4.out.below hb G4.out.lt)
      have K0d := Lib.hid (K0c.out.below hb K0c.out.lt)
      have K1d := Lib.hid (K1c.out.below hb K1c.out.lt)
      have B5 := Lib.hid (below_then B4.out (Nat.le_refl _) hb)
      clear ho hb G4 K0c K1c B4
      have y0 := G5.out.cell 0
      have y1 := G5.out.cell 1
      have y2 := G5.out.cell 2
      have y3 := G5.out.cell 3
      have y4 := G5.out.cell 4
      have y5 := G5.out.cell 5
      have z0 := G5.out.frozen 0
      have z1 := G5.out.frozen 1
      have z2 := G5.out.frozen 2
      have z3 := G5.out.frozen 3
      have z4 := G5.out.frozen 4
      have z5 := G5.out.frozen 5
      have G6 : Hid (Blk (w5.setCell ⟨g4, 5, none⟩ (.slice Ax (nl - 4 : Nat) cx)) g4 43 #[.int .u32 (i0 : Int), .int .u32 (i4 : Int), .int .u16 (i8 : Int), .int .u16 (i10 : Int), .int .u32 (i12 : Int), .slice Ax (nl - 4 : Nat) cx]) := Lib.hid (G5.out.set_ 5 (.slice Ax (nl - 4 : Nat) cx))
      have K0e := Lib.hid (K0d.out.far (p := ⟨g4, 5, none⟩) (show w.heap.size ≠ g4 by omega) (.slice Ax (nl - 4 : Nat) cx))
      have K1f := Lib.hid (K1d.out.far (p := ⟨g4, 5, none⟩) (show w.heap.size + 1 ≠ g4 by omega) (.slice Ax (nl - 4 : Nat) cx))
      have B7 := Lib.hid (B5.out.setCell (p := ⟨g4, 5, none⟩) (show w.heap.size ≤ g4 by omega) (.slice Ax (nl - 4 : Nat) cx))
      have O7 := Lib.hid (O4.out.setBlk G5.out (by decide) 5 (.slice Ax (nl - 4 : Nat) cx))
      have hgl : g4 < w5.heap.size := G5.out.lt
      have HPT := Lib.hid (HPT.out hcut.1 hcut.2)
      clear G5 K0d K1d B5 O4
      go_wp2_with fail
      generalize w5.setCell ⟨g4, 5, none⟩ (.slice Ax (nl - 4 : Nat) cx) = v6 at G6 K0e K1f B7 O7 ⊢
      clear hgl y0 z0 y1 z1 y2 z2 y3 z3 y4 z4 y5 z5
      rw [← drawn_eq 10]
      by_cases q0n : i0 = 0
      · have HOK : Hid (okI 2 f xs = false) := Lib.hid (okI_nums (.inl (HE0.out.symm.trans q0n)))
        have q0 := nat_eq0 q0n
        clear q0n
        refine wp_region_grow_tail 21 (by kernel_rfl) [(Is (.pointer (some ⟨g4, 0, none⟩))), (Is (.int .u32 (i0 : Int))), (Is (.bool true)), (Is (.bool true)), (Is undef), (Is undef), (Is undef), (Is (.bool true)), (Is (.bool true)), (Is undef), (Is undef), (Is undef), (Is (.bool true)), (Is (.bool true)), (Is undef), (Is undef), (Is undef), (Is undef), (Is undef), (Is undef), (Is undef)] rfl ?_ (by kernel_rfl) (by kernel_rfl) ?_ ?_
        · intro p hp
          simp only [List.mem_cons, List.not_mem_nil, or_false] at hp
          rcases hp with rfl | rfl | rfl | rfl | rfl | rfl | rfl | rfl | rfl | rfl | rfl | rfl | rfl | rfl | rfl | rfl | rfl | rfl | rfl | rfl | rfl
          · exact Lasts.is _
          · exact Lasts.is _
          · exact Lasts.is _
          · exact Lasts.is _
          · exact Lasts.is _
          · exact Lasts.is _
          · exact Lasts.is _
          · exact Lasts.is _
          · exact Lasts.is _
          · exact Lasts.is _
          · exact Lasts.is _
          · exact Lasts.is _
          · exact Lasts.is _
          · exact Lasts.is _
          · exact Lasts.is _
          · exact Lasts.is _
          · exact Lasts.is _
          · exact Lasts.is _
          · exact Lasts.is _
          · exact Lasts.is _
          · exact Lasts.is _
        · refine ⟨?_, ?_, ?_, ?_, ?_, ?_, ?_, ?_, ?_, ?_, ?_, ?_, ?_, ?_, ?_, ?_, ?_, ?_, ?_, ?_, ?_, trivial⟩
          · intro listed a w1 hl hc
            have h4 : a.tmps[4]?.getD undef = .pointer (some ⟨g4, 0, none⟩) := (hc.was 4 (by kernel_rfl)).trans rfl
            refine does_value rfl rfl (.pointer (some ⟨g4, 0, none⟩)) w1 ?_ (Below.refl _ _) rfl
            clear hc hl
            go_simp
          · intro listed a w1 hl hc
            have h68 : a.tmps[68]?.getD undef = .pointer (some ⟨g4, 0, none⟩) := hc.dep hl 0 68 rfl (by kernel_rfl)
            have kb := G6.out.below hc.g G6.out.lt
            have x0 : w1.cell? ⟨g4, 0, none⟩ = some (.int .u32 (i0 : Int)) := kb.cell 0
            clear kb
            refine does_value rfl rfl (.int .u32 (i0 : Int)) w1 ?_ (Below.refl _ _) rfl
            clear hc hl
            go_simp
          · intro listed a w1 hl hc
            have h69 : a.tmps[69]?.getD undef = .int .u32 (i0 : Int) := hc.dep hl 1 69 rfl (by kernel_rfl)
            refine does_value rfl rfl (.bool true) w1 ?_ (Below.refl _ _) rfl
            clear hc hl
            go_simp
          · intro listed a w1 hl hc
            have h70 : a.tmps[70]?.getD undef = .bool true := hc.dep hl 2 70 rfl (by kernel_rfl)
            refine does_value rfl rfl (.bool true) w1 ?_ (Below.refl _ _) rfl
            clear hc hl
            go_simp
          · intro listed a w1 hl hc
            exact does_skip (fun _ => (Below.refl _ _)) rfl (unwanted_at rfl rfl (hc.dep hl 3 71 rfl (by kernel_rfl))) rfl
          · intro listed a w1 hl hc
            exact does_skip (fun _ => (Below.refl _ _)) rfl (unwanted_at rfl rfl (hc.dep hl 3 71 rfl (by kernel_rfl))) rfl
          · intro listed a w1 hl hc
            exact does_skip (fun _ => (Below.refl _ _)) rfl (unwanted_at rfl rfl (hc.dep hl 3 71 rfl (by kernel_rfl))) rfl
          · intro listed a w1 hl hc
            have h71 : a.tmps[71]?.getD undef = .bool true := hc.dep hl 3 71 rfl (by kernel_rfl)
            have h74 : a.tmps[74]?.getD undef = undef := hc.dep hl 6 74 rfl (by kernel_rfl)
            refine does_value rfl rfl (.bool true) w1 ?_ (Below.refl _ _) rfl
            clear hc hl
            go_simp
          · intro listed a w1 hl hc
            have h75 : a.tmps[75]?.getD undef = .bool true := hc.dep hl 7 75 rfl (by kernel_rfl)
            refine does_value rfl rfl (.bool true) w1 ?_ (Below.refl _ _) rfl
            clear hc hl
            go_simp
          · intro listed a w1 hl hc
            exact does_skip (fun _ => (Below.refl _ _)) rfl (unwanted_at rfl rfl (hc.dep hl 8 76 rfl (by kernel_rfl))) rfl
          · intro listed a w1 hl hc
            exact does_skip (fun _ => (Below.refl _ _)) rfl (unwanted_at rfl rfl (hc.dep hl 8 76 rfl (by kernel_rfl))) rfl
          · intro listed a w1 hl hc
            exact does_skip (fun _ => (Below.refl _ _)) rfl (unwanted_at rfl rfl (hc.dep hl 8 76 rfl (by kernel_rfl))) rfl
          · intro listed a w1 hl hc
            have h76 : a.tmps[76]?.getD undef = .bool true := hc.dep hl 8 76 rfl (by kernel_rfl)
            have h79 : a.tmps[79]?.getD undef = undef := hc.dep hl 11 79 rfl (by kernel_rfl)
            refine does_value rfl rfl (.bool true) w1 ?_ (Below.refl _ _) rfl
            clear hc hl
            go_simp
          · intro listed a w1 hl hc
            have h80 : a.tmps[80]?.getD undef = .bool true := hc.dep hl 12 80 rfl (by kernel_rfl)
            refine does_value rfl rfl (.bool true) w1 ?_ (Below.refl _ _) rfl
            clear hc hl
            go_simp
          · intro listed a w1 hl hc
            exact does_skip (fun _ => (Below.refl _ _)) rfl (unwanted_at rfl rfl (hc.dep hl 13 81 rfl (by kernel_rfl))) rfl
          · intro listed a w1 hl hc
            exact does_skip (fun _ => (Below.refl _ _)) rfl (unwanted_at rfl rfl (hc.dep hl 13 81 rfl (by kernel_rfl))) rfl
          · intro listed a w1 hl hc
            exact does_skip (fun _ => (Below.refl _ _)) rfl (unwanted_at rfl rfl (hc.dep hl 13 81 rfl (by kernel_rfl))) rfl
          · intro listed a w1 hl hc
            exact does_skip (fun _ => (Below.refl _ _)) rfl (unwanted_at rfl rfl (hc.dep hl 13 81 rfl (by kernel_rfl))) rfl
          · intro listed a w1 hl hc
            exact does_skip (fun _ => (Below.refl _ _)) rfl (unwanted_at rfl rfl (hc.dep hl 13 81 rfl (by kernel_rfl))) rfl
          · intro listed a w1 hl hc
            exact does_skip (fun _ => (Below.refl _ _)) rfl (unwanted_at rfl rfl (hc.dep hl 13 81 rfl (by kernel_rfl))) rfl
          · intro listed a w1 hl hc
            exact does_skip (fun _ => (Below.refl _ _)) rfl (unwanted_at rfl rfl (hc.dep hl 13 81 rfl (by kernel_rfl))) rfl
        intro w2 hb2
        rintro _ rfl _ rfl _ rfl _ rfl _ rfl _ rfl _ rfl _ rfl _ rfl _ rfl _ rfl _ rfl _ rfl _ rfl _ rfl _ rfl _ rfl _ rfl _ rfl _ rfl _ rfl
        simp only [Thus, List.reverse_cons, List.reverse_nil, List.nil_append, List.cons_append, List.drop, List.take, lay]
        go_frame
        have K1e := Lib.hid (K1f.out.below hb2 K1f.out.lt)
        have B6 := Lib.hid (below_then B7.out (Nat.le_refl _) hb2)
        clear hb2 K1f B7 G6 K0e
        have y0 := K1e.out.cell 0
        have y1 := K1e.out.cell 1
        have y2 := K1e.out.cell 2
        have y3 := K1e.out.cell 3
        have y4 := K1e.out.cell 4
        have y5 := K1e.out.cell 5
        have z0 := K1e.out.frozen 0
        have z1 := K1e.out.frozen 1
        have z2 := K1e.out.frozen 2
        have z3 := K1e.out.frozen 3
        have z4 := K1e.out.frozen 4
        have z5 := K1e.out.frozen 5
        go_wp2_with fail
        have H3 := ((((((K1e.out.set_ 0 (.int .u32 0)).set_ 1 (.int .u32 0)).set_ 2 (.int .u16 0)).set_ 3 (.int .u16 0)).set_ 4 (.int .u32 0)).set_ 5 (.slice none 0 0))
        exact bodyPost_ret (v := .tuple #[.agg #[.int .u32 0, .int .u32 0, .int .u16 0, .int .u16 0, .int .u32 0, .slice none 0 0], .int .i64 7]) (by simp [results, Try.results25, go_sem, H3.cell]) rfl ⟨none, 0, 0, by rw [HOK.out, ansI_off HOK.out]; rfl, by rw [ansI_off HOK.out]; exact Own8.nil _ _ _, ((((((B6.out.setCell (p := ⟨w.heap.size + 1, 0, none⟩) (show w.heap.size ≤ w.heap.size + 1 by omega) (.int .u32 0)).setCell (p := ⟨w.heap.size + 1, 1, none⟩) (show w.heap.size ≤ w.heap.size + 1 by omega) (.int .u32 0)).setCell (p := ⟨w.heap.size + 1, 2, none⟩) (show w.heap.size ≤ w.heap.size + 1 by omega) (.int .u16 0)).setCell (p := ⟨w.heap.size + 1, 3, none⟩) (show w.heap.size ≤ w.heap.size + 1 by omega) (.int .u16 0)).setCell (p := ⟨w.heap.size + 1, 4, none⟩) (show w.heap.size ≤ w.heap.size + 1 by omega) (.int .u32 0)).setCell (p := ⟨w.heap.size + 1, 5, none⟩) (show w.heap.size ≤ w.heap.size + 1 by omega) (.slice none 0 0))⟩
      by_cases q8n : i8 = 0
      · have HOK : Hid (okI 2 f xs = false) := Lib.hid (okI_nums (.inr (.inl (HE8.out.symm.trans q8n))))
        have q0 := nat_ne q0n
        have q8 := nat_eq0 q8n
        clear q0n q8n
        refine wp_region_grow_tail 21 (by kernel_rfl) [(Is (.pointer (some ⟨g4, 0, none⟩))), (Is (.int .u32 (i0 : Int))), (Is (.bool false)), (Is (.bool false)), (Is (.pointer (some ⟨g4, 2, none⟩))), (Is (.int .u16 (i8 : Int))), (Is (.bool true)), (Is (.bool true)), (Is (.bool true)), (Is undef), (Is undef), (Is undef), (Is (.bool true)), (Is (.bool true)), (Is undef), (Is undef), (Is undef), (Is undef), (Is undef), (Is undef), (Is undef)] rfl ?_ (by kernel_rfl) (by kernel_rfl) ?_ ?_
        · intro p hp
          simp only [List.mem_cons, List.not_mem_nil, or_false] at hp
          rcases hp with rfl | rfl | rfl | rfl | rfl | rfl | rfl | rfl | rfl | rfl | rfl | rfl | rfl | rfl | rfl | rfl | rfl | rfl | rfl | rfl | rfl
          · exact Lasts.is _
          · exact Lasts.is _
          · exact Lasts.is _
          · exact Lasts.is _
          · exact Lasts.is _
          · exact Lasts.is _
          · exact Lasts.is _
          · exact Lasts.is _
          · exact Lasts.is _
          · exact Lasts.is _
          · exact Lasts.is _
          · exact Lasts.is _
          · exact Lasts.is _
          · exact Lasts.is _
          · exact Lasts.is _
          · exact Lasts.is _
          · exact Lasts.is _
          · exact Lasts.is _
          · exact Lasts.is _
          · exact Lasts.is _
          · exact Lasts.is _
        · refine ⟨?_, ?_, ?_, ?_, ?_, ?_, ?_, ?_, ?_, ?_, ?_, ?_, ?_, ?_, ?_, ?_, ?_, ?_, ?_, ?_, ?_, trivial⟩
          · intro listed a w1 hl hc
            have h4 : a.tmps[4]?.getD undef = .pointer (some ⟨g4, 0, none⟩) := (hc.was 4 (by kernel_rfl)).trans rfl
            refine does_value rfl rfl (.pointer (some ⟨g4, 0, none⟩)) w1 ?_ (Below.refl _ _) rfl
            clear hc hl
            go_simp
          · intro listed a w1 hl hc
            have h68 : a.tmps[68]?.getD undef = .pointer (some ⟨g4, 0, none⟩) := hc.dep hl 0 68 rfl (by kernel_rfl)
            have kb := G6.out.below hc.g G6.out.lt
            have x0 : w1.cell? ⟨g4, 0, none⟩ = some (.int .u32 (i0 : Int)) := kb.cell 0
            clear kb
            refine does_value rfl rfl (.int .u32 (i0 : Int)) w1 ?_ (Below.refl _ _) rfl
            clear hc hl
            go_simp
          · intro listed a w1 hl hc
            have h69 : a.tmps[69]?.getD undef = .int .u32 (i0 : Int) := hc.dep hl 1 69 rfl (by kernel_rfl)
            refine does_value rfl rfl (.bool false) w1 ?_ (Below.refl _ _) rfl
            clear hc hl
            go_simp
          · intro listed a w1 hl hc
            have h70 : a.tmps[70]?.getD undef = .bool false := hc.dep hl 2 70 rfl (by kernel_rfl)
            refine does_value rfl rfl (.bool false) w1 ?_ (Below.refl _ _) rfl
            clear hc hl
            go_simp
          · intro listed a w1 hl hc
            have h4 : a.tmps[4]?.getD undef = .pointer (some ⟨g4, 0, none⟩) := (hc.was 4 (by kernel_rfl)).trans rfl
            refine does_value rfl (wanted_at rfl rfl (hc.dep hl 3 71 rfl (by kernel_rfl))) (.pointer (some ⟨g4, 2, none⟩)) w1 ?_ (Below.refl _ _) rfl
            clear hc hl
            go_simp
          · intro listed a w1 hl hc
            have h72 : a.tmps[72]?.getD undef = .pointer (some ⟨g4, 2, none⟩) := hc.dep hl 4 72 rfl (by kernel_rfl)
            have kb := G6.out.below hc.g G6.out.lt
            have x2 : w1.cell? ⟨g4, 2, none⟩ = some (.int .u16 (i8 : Int)) := kb.cell 2
            clear kb
            refine does_value rfl (wanted_at rfl rfl (hc.dep hl 3 71 rfl (by kernel_rfl))) (.int .u16 (i8 : Int)) w1 ?_ (Below.refl _ _) rfl
            clear hc hl
            go_simp
          · intro listed a w1 hl hc
            have h73 : a.tmps[73]?.getD undef = .int .u16 (i8 : Int) := hc.dep hl 5 73 rfl (by kernel_rfl)
            refine does_value rfl (wanted_at rfl rfl (hc.dep hl 3 71 rfl (by kernel_rfl))) (.bool true) w1 ?_ (Below.refl _ _) rfl
            clear hc hl
            go_simp
          · intro listed a w1 hl hc
            have h71 : a.tmps[71]?.getD undef = .bool false := hc.dep hl 3 71 rfl (by kernel_rfl)
            have h74 : a.tmps[74]?.getD undef = .bool true := hc.dep hl 6 74 rfl (by kernel_rfl)
            refine does_value rfl rfl (.bool true) w1 ?_ (Below.refl _ _) rfl
            clear hc hl
            go_simp
          · intro listed a w1 hl hc
            have h75 : a.tmps[75]?.getD undef = .bool true := hc.dep hl 7 75 rfl (by kernel_rfl)
            refine does_value rfl rfl (.bool true) w1 ?_ (Below.refl _ _) rfl
            clear hc hl
            go_simp
          · intro listed a w1 hl hc
            exact does_skip (fun _ => (Below.refl _ _)) rfl (unwanted_at rfl rfl (hc.dep hl 8 76 rfl (by kernel_rfl))) rfl
          · intro listed a w1 hl hc
            exact does_skip (fun _ => (Below.refl _ _)) rfl (unwanted_at rfl rfl (hc.dep hl 8 76 rfl (by kernel_rfl))) rfl
          · intro listed a w1 hl hc
            exact does_skip (fun _ => (Below.refl _ _)) rfl (unwanted_at rfl rfl (hc.dep hl 8 76 rfl (by kernel_rfl))) rfl
          · intro listed a w1 hl hc
            have h76 : a.tmps[76]?.getD undef = .bool true := hc.dep hl 8 76 rfl (by kernel_rfl)
            have h79 : a.tmps[79]?.getD undef = undef := hc.dep hl 11 79 rfl (by kernel_rfl)
            refine does_value rfl rfl (.bool true) w1 ?_ (Below.refl _ _) rfl
            clear hc hl
            go_simp
          · intro listed a w1 hl hc
            have h80 : a.tmps[80]?.getD undef = .bool true := hc.dep hl 12 80 rfl (by kernel_rfl)
            refine does_value rfl rfl (.bool true) w1 ?_ (Below.refl _ _) rfl
            clear hc hl
            go_simp
          · intro listed a w1 hl hc
            exact does_skip (fun _ => (Below.refl _ _)) rfl (unwanted_at rfl rfl (hc.dep hl 13 81 rfl (by kernel_rfl))) rfl
          · intro listed a w1 hl hc
            exact does_skip (fun _ => (Below.refl _ _)) rfl (unwanted_at rfl rfl (hc.dep hl 13 81 rfl (by kernel_rfl))) rfl
          · intro listed a w1 hl hc
            exact does_skip (fun _ => (Below.refl _ _)) rfl (unwanted_at rfl rfl (hc.dep hl 13 81 rfl (by kernel_rfl))) rfl
          · intro listed a w1 hl hc
            exact does_skip (fun _ => (Below.refl _ _)) rfl (unwanted_at rfl rfl (hc.dep hl 13 81 rfl (by kernel_rfl))) rfl
          · intro listed a w1 hl hc
            exact does_skip (fun _ => (Below.refl _ _)) rfl (unwanted_at rfl rfl (hc.dep hl 13 81 rfl (by kernel_rfl))) rfl
          · intro listed a w1 hl hc
            exact does_skip (fun _ => (Below.refl _ _)) rfl (unwanted_at rfl rfl (hc.dep hl 13 81 rfl (by kernel_rfl))) rfl
          · intro listed a w1 hl hc
            exact does_skip (fun _ => (Below.refl _ _)) rfl (unwanted_at rfl rfl (hc.dep hl 13 81 rfl (by kernel_rfl))) rfl
        intro w2 hb2
        rintro _ rfl _ rfl _ rfl _ rfl _ rfl _ rfl _ rfl _ rfl _ rfl _ rfl _ rfl _ rfl _ rfl _ rfl _ rfl _ rfl _ rfl _ rfl _ rfl _ rfl _ rfl
        simp only [Thus, List.reverse_cons, List.reverse_nil, List.nil_append, List.cons_append, List.drop, List.take, lay]
        go_frame
        have K1e := Lib.hid (K1f.out.below hb2 K1f.out.lt)
        have B6 := Lib.hid (below_then B7.out (Nat.le_refl _) hb2)
        clear hb2 K1f B7 G6 K0e
        have y0 := K1e.out.cell 0
        have y1 := K1e.out.cell 1
        have y2 := K1e.out.cell 2
        have y3 := K1e.out.cell 3
        have y4 := K1e.out.cell 4
        have y5 := K1e.out.cell 5
        have z0 := K1e.out.frozen 0
        have z1 := K1e.out.frozen 1
        have z2 := K1e.out.frozen 2
        have z3 := K1e.out.frozen 3
        have z4 := K1e.out.frozen 4
        have z5 := K1e.out.frozen 5
        go_wp2_with fail
        have H3 := ((((((K1e.out.set_ 0 (.int .u32 0)).set_ 1 (.int .u32 0)).set_ 2 (.int .u16 0)).set_ 3 (.int .u16 0)).set_ 4 (.int .u32 0)).set_ 5 (.slice none 0 0))
        exact bodyPost_ret (v := .tuple #[.agg #[.int .u32 0, .int .u32 0, .int .u16 0, .int .u16 0, .int .u32 0, .slice none 0 0], .int .i64 7]) (by simp [results, Try.results25, go_sem, H3.cell]) rfl ⟨none, 0, 0, by rw [HOK.out, ansI_off HOK.out]; rfl, by rw [ansI_off HOK.out]; exact Own8.nil _ _ _, ((((((B6.out.setCell (p := ⟨w.heap.size + 1, 0, none⟩) (show w.heap.size ≤ w.heap.size + 1 by omega) (.int .u32 0)).setCell (p := ⟨w.heap.size + 1, 1, none⟩) (show w.heap.size ≤ w.heap.size + 1 by omega) (.int .u32 0)).setCell (p := ⟨w.heap.size + 1, 2, none⟩) (show w.heap.size ≤ w.heap.size + 1 by omega) (.int .u16 0)).setCell (p := ⟨w.heap.size + 1, 3, none⟩) (show w.heap.size ≤ w.heap.size + 1 by omega) (.int .u16 0)).setCell (p := ⟨w.heap.size + 1, 4, none⟩) (show w.heap.size ≤ w.heap.size + 1 by omega) (.int .u32 0)).setCell (p := ⟨w.heap.size + 1, 5, none⟩) (show w.heap.size ≤ w.heap.size + 1 by omega) (.slice none 0 0))⟩
      by_cases q10n : i10 = 0
      · have HOK : Hid (okI 2 f xs = false) := Lib.hid (okI_nums (.inr (.inr (HE10.out.symm.trans q10n))))
        have q0 := nat_ne q0n
        have q8 := nat_ne q8n
        have q10 := nat_eq0 q10n
        clear q0n q8n q10n
        refine wp_region_grow_tail 21 (by kernel_rfl) [(Is (.pointer (some ⟨g4, 0, none⟩))), (Is (.int .u32 (i0 : Int))), (Is (.bool false)), (Is (.bool false)), (Is (.pointer (some ⟨g4, 2, none⟩))), (Is (.int .u16 (i8 : Int))), (Is (.bool false)), (Is (.bool false)), (Is (.bool false)), (Is (.pointer (some ⟨g4, 3, none⟩))), (Is (.int .u16 (i10 : Int))), (Is (.bool true)), (Is (.bool true)), (Is (.bool true)), (Is undef), (Is undef), (Is undef), (Is undef), (Is undef), (Is undef), (Is undef)] rfl ?_ (by kernel_rfl) (by kernel_rfl) ?_ ?_
        · intro p hp
          simp only [List.mem_cons, List.not_mem_nil, or_false] at hp
          rcases hp with rfl | rfl | rfl | rfl | rfl | rfl | rfl | rfl | rfl | rfl | rfl | rfl | rfl | rfl | rfl | rfl | rfl | rfl | rfl | rfl | rfl
          · exact Lasts.is _
          · exact Lasts.is _
          · exact Lasts.is _
          · exact Lasts.is _
          · exact Lasts.is _
          · exact Lasts.is _
          · exact Lasts.is _
          · exact Lasts.is _
          · exact Lasts.is _
          · exact Lasts.is _
          · exact Lasts.is _
          · exact Lasts.is _
          · exact Lasts.is _
          · exact Lasts.is _
          · exact Lasts.is _
          · exact Lasts.is _
          · exact Lasts.is _
          · exact Lasts.is _
          · exact Lasts.is _
          · exact Lasts.is _
          · exact Lasts.is _
        · refine ⟨?_, ?_, ?_, ?_, ?_, ?_, ?_, ?_, ?_, ?_, ?_, ?_, ?_, ?_, ?_, ?_, ?_, ?_, ?_, ?_, ?_, trivial⟩
          · intro listed a w1 hl hc
            have h4 : a.tmps[4]?.getD undef = .pointer (some ⟨g4, 0, none⟩) := (hc.was 4 (by kernel_rfl)).trans rfl
            refine does_value rfl rfl (.pointer (some ⟨g4, 0, none⟩)) w1 ?_ (Below.refl _ _) rfl
            clear hc hl
            go_simp
          · intro listed a w1 hl hc
            have h68 : a.tmps[68]?.getD undef = .pointer (some ⟨g4, 0, none⟩) := hc.dep hl 0 68 rfl (by kernel_rfl)
            have kb := G6.out.below hc.g G6.out.lt
            have x0 : w1.cell? ⟨g4, 0, none⟩ = some (.int .u32 (i0 : Int)) := kb.cell 0
            clear kb
            refine does_value rfl rfl (.int .u32 (i0 : Int)) w1 ?_ (Below.refl _ _) rfl
            clear hc hl
            go_simp
          · intro listed a w1 hl hc
            have h69 : a.tmps[69]?.getD undef = .int .u32 (i0 : Int) := hc.dep hl 1 69 rfl (by kernel_rfl)
            refine does_value rfl rfl (.bool false) w1 ?_ (Below.refl _ _) rfl
            clear hc hl
            go_simp
          · intro listed a w1 hl hc
            have h70 : a.tmps[70]?.getD undef = .bool false := hc.dep hl 2 70 rfl (by kernel_rfl)
            refine does_value rfl rfl (.bool false) w1 ?_ (Below.refl _ _) rfl
            clear hc hl
            go_simp
          · intro listed a w1 hl hc
            have h4 : a.tmps[4]?.getD undef = .pointer (some ⟨g4, 0, none⟩) := (hc.was 4 (by kernel_rfl)).trans rfl
            refine does_value rfl (wanted_at rfl rfl (hc.dep hl 3 71 rfl (by kernel_rfl))) (.pointer (some ⟨g4, 2, none⟩)) w1 ?_ (Below.refl _ _) rfl
            clear hc hl
            go_simp
          · intro listed a w1 hl hc
            have h72 : a.tmps[72]?.getD undef = .pointer (some ⟨g4, 2, none⟩) := hc.dep hl 4 72 rfl (by kernel_rfl)
            have kb := G6.out.below hc.g G6.out.lt
            have x2 : w1.cell? ⟨g4, 2, none⟩ = some (.int .u16 (i8 : Int)) := kb.cell 2
            clear kb
            refine does_value rfl (wanted_at rfl rfl (hc.dep hl 3 71 rfl (by kernel_rfl))) (.int .u16 (i8 : Int)) w1 ?_ (Below.refl _ _) rfl
            clear hc hl
            go_simp
          · intro listed a w1 hl hc
            have h73 : a.tmps[73]?.getD undef = .int .u16 (i8 : Int) := hc.dep hl 5 73 rfl (by kernel_rfl)
            refine does_value rfl (wanted_at rfl rfl (hc.dep hl 3 71 rfl (by kernel_rfl))) (.bool false) w1 ?_ (Below.refl _ _) rfl
            clear hc hl
            go_simp
          · intro listed a w1 hl hc
            have h71 : a.tmps[71]?.getD undef = .bool false := hc.dep hl 3 71 rfl (by kernel_rfl)
            have h74 : a.tmps[74]?.getD undef = .bool false := hc.dep hl 6 74 rfl (by kernel_rfl)
            refine does_value rfl rfl (.bool false) w1 ?_ (Below.refl _ _) rfl
            clear hc hl
            go_simp
          · intro listed a w1 hl hc
            have h75 : a.tmps[75]?.getD undef = .bool false := hc.dep hl 7 75 rfl (by kernel_rfl)
            refine does_value rfl rfl (.bool false) w1 ?_ (Below.refl _ _) rfl
            clear hc hl
            go_simp
          · intro listed a w1 hl hc
            have h4 : a.tmps[4]?.getD undef = .pointer (some ⟨g4, 0, none⟩) := (hc.was 4 (by kernel_rfl)).trans rfl
            refine does_value rfl (wanted_at rfl rfl (hc.dep hl 8 76 rfl (by kernel_rfl))) (.pointer (some ⟨g4, 3, none⟩)) w1 ?_ (Below.refl _ _) rfl
            clear hc hl
            go_simp
          · intro listed a w1 hl hc
            have h77 : a.tmps[77]?.getD undef = .pointer (some ⟨g4, 3, none⟩) := hc.dep hl 9 77 rfl (by kernel_rfl)
            have kb := G6.out.below hc.g G6.out.lt
            have x3 : w1.cell? ⟨g4, 3, none⟩ = some (.int .u16 (i10 : Int)) := kb.cell 3
            clear kb
            refine does_value rfl (wanted_at rfl rfl (hc.dep hl 8 76 rfl (by kernel_rfl))) (.int .u16 (i10 : Int)) w1 ?_ (Below.refl _ _) rfl
            clear hc hl
            go_simp
          · intro listed a w1 hl hc
            have h78 : a.tmps[78]?.getD undef = .int .u16 (i10 : Int) := hc.dep hl 10 78 rfl (by kernel_rfl)
            refine does_value rfl (wanted_at rfl rfl (hc.dep hl 8 76 rfl (by kernel_rfl))) (.bool true) w1 ?_ (Below.refl _ _) rfl
            clear hc hl
            go_simp
          · intro listed a w1 hl hc
            have h76 : a.tmps[76]?.getD undef = .bool false := hc.dep hl 8 76 rfl (by kernel_rfl)
            have h79 : a.tmps[79]?.getD undef = .bool true := hc.dep hl 11 79 rfl (by kernel_rfl)
            refine does_value rfl rfl (.bool true) w1 ?_ (Below.refl _ _) rfl
            clear hc hl
            go_simp
          · intro listed a w1 hl hc
            have h80 : a.tmps[80]?.getD undef = .bool true := hc.dep hl 12 80 rfl (by kernel_rfl)
            refine does_value rfl rfl (.bool true) w1 ?_ (Below.refl _ _) rfl
            clear hc hl
            go_simp
          · intro listed a w1 hl hc
            exact does_skip (fun _ => (Below.refl _ _)) rfl (unwanted_at rfl rfl (hc.dep hl 13 81 rfl (by kernel_rfl))) rfl
          · intro listed a w1 hl hc
            exact does_skip (fun _ => (Below.refl _ _)) rfl (unwanted_at rfl rfl (hc.dep hl 13 81 rfl (by kernel_rfl))) rfl
          · intro listed a w1 hl hc
            exact does_skip (fun _ => (Below.refl _ _)) rfl (unwanted_at rfl rfl (hc.dep hl 13 81 rfl (by kernel_rfl))) rfl
          · intro listed a w1 hl hc
            exact does_skip (fun _ => (Below.refl _ _)) rfl (unwanted_at rfl rfl (hc.dep hl 13 81 rfl (by kernel_rfl))) rfl
          · intro listed a w1 hl hc
            exact does_skip (fun _ => (Below.refl _ _)) rfl (unwanted_at rfl rfl (hc.dep hl 13 81 rfl (by kernel_rfl))) rfl
          · intro listed a w1 hl hc
            exact does_skip (fun _ => (Below.refl _ _)) rfl (unwanted_at rfl rfl (hc.dep hl 13 81 rfl (by kernel_rfl))) rfl
          · intro listed a w1 hl hc
            exact does_skip (fun _ => (Below.refl _ _)) rfl (unwanted_at rfl rfl (hc.dep hl 13 81 rfl (by kernel_rfl))) rfl
        intro w2 hb2
        rintro _ rfl _ rfl _ rfl _ rfl _ rfl _ rfl _ rfl _ rfl _ rfl _ rfl _ rfl _ rfl _ rfl _ rfl _ rfl _ rfl _ rfl _ rfl _ rfl _ rfl _ rfl
        simp only [Thus, List.reverse_cons, List.reverse_nil, List.nil_append, List.cons_append, List.drop, List.take, lay]
        go_frame
        have K1e := Lib.hid (K1f.out.below hb2 K1f.out.lt)
        have B6 := Lib.hid (below_then B7.out (Nat.le_refl _) hb2)
        clear hb2 K1f B7 G6 K0e
        have y0 := K1e.out.cell 0
        have y1 := K1e.out.cell 1
        have y2 := K1e.out.cell 2
        have y3 := K1e.out.cell 3
        have y4 := K1e.out.cell 4
        have y5 := K1e.out.cell 5
        have z0 := K1e.out.frozen 0
        have z1 := K1e.out.frozen 1
        have z2 := K1e.out.frozen 2
        have z3 := K1e.out.frozen 3
        have z4 := K1e.out.frozen 4
        have z5 := K1e.out.frozen 5
        go_wp2_with fail
        have H3 := ((((((K1e.out.set_ 0 (.int .u32 0)).set_ 1 (.int .u32 0)).set_ 2 (.int .u16 0)).set_ 3 (.int .u16 0)).set_ 4 (.int .u32 0)).set_ 5 (.slice none 0 0))
        exact bodyPost_ret (v := .tuple #[.agg #[.int .u32 0, .int .u32 0, .int .u16 0, .int .u16 0, .int .u32 0, .slice none 0 0], .int .i64 7]) (by simp [results, Try.results25, go_sem, H3.cell]) rfl ⟨none, 0, 0, by rw [HOK.out, ansI_off HOK.out]; rfl, by rw [ansI_off HOK.out]; exact Own8.nil _ _ _, ((((((B6.out.setCell (p := ⟨w.heap.size + 1, 0, none⟩) (show w.heap.size ≤ w.heap.size + 1 by omega) (.int .u32 0)).setCell (p := ⟨w.heap.size + 1, 1, none⟩) (show w.heap.size ≤ w.heap.size + 1 by omega) (.int .u32 0)).setCell (p := ⟨w.heap.size + 1, 2, none⟩) (show w.heap.size ≤ w.heap.size + 1 by omega) (.int .u16 0)).setCell (p := ⟨w.heap.size + 1, 3, none⟩) (show w.heap.size ≤ w.heap.size + 1 by omega) (.int .u16 0)).setCell (p := ⟨w.heap.size + 1, 4, none⟩) (show w.heap.size ≤ w.heap.size + 1 by omega) (.int .u32 0)).setCell (p := ⟨w.heap.size + 1, 5, none⟩) (show w.heap.size ≤ w.heap.size + 1 by omega) (.slice none 0 0))⟩
      cases hd : decide (f = 0 ∧ xs = Y)
      · have HOK := Lib.hid (HOKD.out _ q0n q8n q10n hcut.1 hcut.2 h5 hd)
        have HSM2 := Lib.hid (HSM.out _ hd)
        have q0 := nat_ne q0n
        have q8 := nat_ne q8n
        have q10 := nat_ne q10n
        clear q0n q8n q10n hd
        refine wp_region_grow_tail 21 (by kernel_rfl) [(Is (.pointer (some ⟨g4, 0, none⟩))), (Is (.int .u32 (i0 : Int))), (Is (.bool false)), (Is (.bool false)), (Is (.pointer (some ⟨g4, 2, none⟩))), (Is (.int .u16 (i8 : Int))), (Is (.bool false)), (Is (.bool false)), (Is (.bool false)), (Is (.pointer (some ⟨g4, 3, none⟩))), (Is (.int .u16 (i10 : Int))), (Is (.bool false)), (Is (.bool false)), (Is (.bool false)), (Is (.pointer (some ⟨w.heap.size, 0, none⟩))), (Is (.int .u8 2)), (Is (.agg #[.int .u32 (i0 : Int), .int .u32 (i4 : Int), .int .u16 (i8 : Int), .int .u16 (i10 : Int), .int .u32 (i12 : Int), .slice Ax (nl - 4 : Nat) cx])), (NewAgg 5 w.heap.size Y.length Y (fun s => .agg #[.int .u8 ((2 : UInt8).toNat : Int), .int .u8 ((0 : UInt8).toNat : Int), s])), (Is (.agg #[.int .u8 2, .int .u8 (f.toNat : Int), .slice A n c])), (Is (.bool false)), (Is (.bool true))] rfl ?_ (by kernel_rfl) (by kernel_rfl) ?_ ?_
        · intro p hp
          simp only [List.mem_cons, List.not_mem_nil, or_false] at hp
          rcases hp with rfl | rfl | rfl | rfl | rfl | rfl | rfl | rfl | rfl | rfl | rfl | rfl | rfl | rfl | rfl | rfl | rfl | rfl | rfl | rfl | rfl
          · exact Lasts.is _
          · exact Lasts.is _
          · exact Lasts.is _
          · exact Lasts.is _
          · exact Lasts.is _
          · exact Lasts.is _
          · exact Lasts.is _
          · exact Lasts.is _
          · exact Lasts.is _
          · exact Lasts.is _
          · exact Lasts.is _
          · exact Lasts.is _
          · exact Lasts.is _
          · exact Lasts.is _
          · exact Lasts.is _
          · exact Lasts.is _
          · exact Lasts.is _
          · exact Lasts.newAgg _ _ _ _ _
          · exact Lasts.is _
          · exact Lasts.is _
          · exact Lasts.is _
        · refine ⟨?_, ?_, ?_, ?_, ?_, ?_, ?_, ?_, ?_, ?_, ?_, ?_, ?_, ?_, ?_, ?_, ?_, ?_, ?_, ?_, ?_, trivial⟩
          · intro listed a w1 hl hc
            have h4 : a.tmps[4]?.getD undef = .pointer (some ⟨g4, 0, none⟩) := (hc.was 4 (by kernel_rfl)).trans rfl
            refine does_value rfl rfl (.pointer (some ⟨g4, 0, none⟩)) w1 ?_ (Below.refl _ _) rfl
            clear hc hl
            go_simp
          · intro listed a w1 hl hc
            have h68 : a.tmps[68]?.getD undef = .pointer (some ⟨g4, 0, none⟩) := hc.dep hl 0 68 rfl (by kernel_rfl)
            have kb := G6.out.below hc.g G6.out.lt
            have x0 : w1.cell? ⟨g4, 0, none⟩ = some (.int .u32 (i0 : Int)) := kb.cell 0
            clear kb
            refine does_value rfl rfl (.int .u32 (i0 : Int)) w1 ?_ (Below.refl _ _) rfl
            clear hc hl
            go_simp
          · intro listed a w1 hl hc
            have h69 : a.tmps[69]?.getD undef = .int .u32 (i0 : Int) := hc.dep hl 1 69 rfl (by kernel_rfl)
            refine does_value rfl rfl (.bool false) w1 ?_ (Below.refl _ _) rfl
            clear hc hl
            go_simp
          · intro listed a w1 hl hc
            have h70 : a.tmps[70]?.getD undef = .bool false := hc.dep hl 2 70 rfl (by kernel_rfl)
            refine does_value rfl rfl (.bool false) w1 ?_ (Below.refl _ _) rfl
            clear hc hl
            go_simp
          · intro listed a w1 hl hc
            have h4 : a.tmps[4]?.getD undef = .pointer (some ⟨g4, 0, none⟩) := (hc.was 4 (by kernel_rfl)).trans rfl
            refine does_value rfl (wanted_at rfl rfl (hc.dep hl 3 71 rfl (by kernel_rfl))) (.pointer (some ⟨g4, 2, none⟩)) w1 ?_ (Below.refl _ _) rfl
            clear hc hl
            go_simp
          · intro listed a w1 hl hc
            have h72 : a.tmps[72]?.getD undef = .pointer (some ⟨g4, 2, none⟩) := hc.dep hl 4 72 rfl (by kernel_rfl)
            have kb := G6.out.below hc.g G6.out.lt
            have x2 : w1.cell? ⟨g4, 2, none⟩ = some (.int .u16 (i8 : Int)) := kb.cell 2
            clear kb
            refine does_value rfl (wanted_at rfl rfl (hc.dep hl 3 71 rfl (by kernel_rfl))) (.int .u16 (i8 : Int)) w1 ?_ (Below.refl _ _) rfl
            clear hc hl
            go_simp
          · intro listed a w1 hl hc
            have h73 : a.tmps[73]?.getD undef = .int .u16 (i8 : Int) := hc.dep hl 5 73 rfl (by kernel_rfl)
            refine does_value rfl (wanted_at rfl rfl (hc.dep hl 3 71 rfl (by kernel_rfl))) (.bool false) w1 ?_ (Below.refl _ _) rfl
            clear hc hl
            go_simp
          · intro listed a w1 hl hc
            have h71 : a.tmps[71]?.getD undef = .bool false := hc.dep hl 3 71 rfl (by kernel_rfl)
            have h74 : a.tmps[74]?.getD undef = .bool false := hc.dep hl 6 74 rfl (by kernel_rfl)
            refine does_value rfl rfl (.bool false) w1 ?_ (Below.refl _ _) rfl
            clear hc hl
            go_simp
          · intro listed a w1 hl hc
            have h75 : a.tmps[75]?.getD undef = .bool false := hc.dep hl 7 75 rfl (by kernel_rfl)
            refine does_value rfl rfl (.bool false) w1 ?_ (Below.refl _ _) rfl
            clear hc hl
            go_simp
          · intro listed a w1 hl hc
            have h4 : a.tmps[4]?.getD undef = .pointer (some ⟨g4, 0, none⟩) := (hc.was 4 (by kernel_rfl)).trans rfl
            refine does_value rfl (wanted_at rfl rfl (hc.dep hl 8 76 rfl (by kernel_rfl))) (.pointer (some ⟨g4, 3, none⟩)) w1 ?_ (Below.refl _ _) rfl
            clear hc hl
            go_simp
          · intro listed a w1 hl hc
            have h77 : a.tmps[77]?.getD undef = .pointer (some ⟨g4, 3, none⟩) := hc.dep hl 9 77 rfl (by kernel_rfl)
            have kb := G6.out.below hc.g G6.out.lt
            have x3 : w1.cell? ⟨g4, 3, none⟩ = some (.int .u16 (i10 : Int)) := kb.cell 3
            clear kb
            refine does_value rfl (wanted_at rfl rfl (hc.dep hl 8 76 rfl (by kernel_rfl))) (.int .u16 (i10 : Int)) w1 ?_ (Below.refl _ _) rfl
            clear hc hl
            go_simp
          · intro listed a w1 hl hc
            have h78 : a.tmps[78]?.getD undef = .int .u16 (i10 : Int) := hc.dep hl 10 78 rfl (by kernel_rfl)
            refine does_value rfl (wanted_at rfl rfl (hc.dep hl 8 76 rfl (by kernel_rfl))) (.bool false) w1 ?_ (Below.refl _ _) rfl
            clear hc hl
            go_simp
          · intro listed a w1 hl hc
            have h76 : a.tmps[76]?.getD undef = .bool false := hc.dep hl 8 76 rfl (by kernel_rfl)
            have h79 : a.tmps[79]?.getD undef = .bool false := hc.dep hl 11 79 rfl (by kernel_rfl)
            refine does_value rfl rfl (.bool false) w1 ?_ (Below.refl _ _) rfl
            clear hc hl
            go_simp
          · intro listed a w1 hl hc
            have h80 : a.tmps[80]?.getD undef = .bool false := hc.dep hl 12 80 rfl (by kernel_rfl)
            refine does_value rfl rfl (.bool false) w1 ?_ (Below.refl _ _) rfl
            clear hc hl
            go_simp
          · intro listed a w1 hl hc
            have h1 : a.tmps[1]?.getD undef = .pointer (some ⟨w.heap.size, 0, none⟩) := (hc.was 1 (by kernel_rfl)).trans rfl
            refine does_value rfl (wanted_at rfl rfl (hc.dep hl 13 81 rfl (by kernel_rfl))) (.pointer (some ⟨w.heap.size, 0, none⟩)) w1 ?_ (Below.refl _ _) rfl
            clear hc hl
            go_simp
          · intro listed a w1 hl hc
            have h82 : a.tmps[82]?.getD undef = .pointer (some ⟨w.heap.size, 0, none⟩) := hc.dep hl 14 82 rfl (by kernel_rfl)
            have kb := K0e.out.below hc.g K0e.out.lt
            have x0 : w1.cell? ⟨w.heap.size, 0, none⟩ = some (.int .u8 2) := kb.cell 0
            clear kb
            refine does_value rfl (wanted_at rfl rfl (hc.dep hl 13 81 rfl (by kernel_rfl))) (.int .u8 2) w1 ?_ (Below.refl _ _) rfl
            clear hc hl
            go_simp
          · intro listed a w1 hl hc
            have h4 : a.tmps[4]?.getD undef = .pointer (some ⟨g4, 0, none⟩) := (hc.was 4 (by kernel_rfl)).trans rfl
            have kb := G6.out.below hc.g G6.out.lt
            have x0 : w1.cell? ⟨g4, 0, none⟩ = some (.int .u32 (i0 : Int)) := kb.cell 0
            have x1 : w1.cell? ⟨g4, 1, none⟩ = some (.int .u32 (i4 : Int)) := kb.cell 1
            have x2 : w1.cell? ⟨g4, 2, none⟩ = some (.int .u16 (i8 : Int)) := kb.cell 2
            have x3 : w1.cell? ⟨g4, 3, none⟩ = some (.int .u16 (i10 : Int)) := kb.cell 3
            have x4 : w1.cell? ⟨g4, 4, none⟩ = some (.int .u32 (i12 : Int)) := kb.cell 4
            have x5 : w1.cell? ⟨g4, 5, none⟩ = some (.slice Ax (nl - 4 : Nat) cx) := kb.cell 5
            clear kb
            refine does_value rfl (wanted_at rfl rfl (hc.dep hl 13 81 rfl (by kernel_rfl))) (.agg #[.int .u32 (i0 : Int), .int .u32 (i4 : Int), .int .u16 (i8 : Int), .int .u16 (i10 : Int), .int .u32 (i12 : Int), .slice Ax (nl - 4 : Nat) cx]) w1 ?_ (Below.refl _ _) rfl
            clear hc hl
            go_simp
          · intro listed a w1 hl hc
            have h83 : a.tmps[83]?.getD undef = .int .u8 2 := hc.dep hl 15 83 rfl (by kernel_rfl)
            have h84 : a.tmps[84]?.getD undef = .agg #[.int .u32 (i0 : Int), .int .u32 (i4 : Int), .int .u16 (i8 : Int), .int .u16 (i10 : Int), .int .u32 (i12 : Int), .slice Ax (nl - 4 : Nat) cx] := hc.dep hl 16 84 rfl (by kernel_rfl)
            refine does_call rfl (wanted_at rfl rfl (hc.dep hl 13 81 rfl (by kernel_rfl))) 26 #[.int .u8 2, .agg #[.int .u32 (i0 : Int), .int .u32 (i4 : Int), .int .u16 (i8 : Int), .int .u16 (i10 : Int), .int .u32 (i12 : Int), .slice Ax (nl - 4 : Nat) cx]] ?_ ((HPT.out w1 Ax cx (O7.out.below hc.g (Nat.le_refl _))).mono fun e w' ⟨A9, c9, he, ho, hb⟩ => ⟨_, he, hb, A9, c9, rfl, ho.more (Nat.le_trans B7.out.size hc.g.size)⟩)
            clear hc hl
            go_simp
          · intro listed a w1 hl hc
            have h1 : a.tmps[1]?.getD undef = .pointer (some ⟨w.heap.size, 0, none⟩) := (hc.was 1 (by kernel_rfl)).trans rfl
            have kb := K0e.out.below hc.g K0e.out.lt
            have x0 : w1.cell? ⟨w.heap.size, 0, none⟩ = some (.int .u8 2) := kb.cell 0
            have x1 : w1.cell? ⟨w.heap.size, 1, none⟩ = some (.int .u8 (f.toNat : Int)) := kb.cell 1
            have x2 : w1.cell? ⟨w.heap.size, 2, none⟩ = some (.slice A n c) := kb.cell 2
            clear kb
            refine does_value rfl (wanted_at rfl rfl (hc.dep hl 13 81 rfl (by kernel_rfl))) (.agg #[.int .u8 2, .int .u8 (f.toNat : Int), .slice A n c]) w1 ?_ (Below.refl _ _) rfl
            clear hc hl
            go_simp
          · intro listed a w1 hl hc
            obtain ⟨A85, c85, h85, ho85⟩ := hc.dep hl 17 85 rfl (by kernel_rfl)
            have h86 : a.tmps[86]?.getD undef = .agg #[.int .u8 2, .int .u8 (f.toNat : Int), .slice A n c] := hc.dep hl 18 86 rfl (by kernel_rfl)
            refine does_call rfl (wanted_at rfl rfl (hc.dep hl 13 81 rfl (by kernel_rfl))) 18 #[.agg #[.int .u8 ((2 : UInt8).toNat : Int), .int .u8 ((0 : UInt8).toNat : Int), .slice A85 Y.length c85], .agg #[.int .u8 2, .int .u8 (f.toNat : Int), .slice A n c]] ?_ ((HSM2.out w1 _ _ (B7.out.trans (hc.g.mono B7.out.size)) ho85).mono fun e w' ⟨he, hb⟩ => ⟨_, he, hb, rfl⟩)
            clear hc hl
            go_simp
          · intro listed a w1 hl hc
            have h87 : a.tmps[87]?.getD undef = .bool false := hc.dep hl 19 87 rfl (by kernel_rfl)
            refine does_value rfl (wanted_at rfl rfl (hc.dep hl 13 81 rfl (by kernel_rfl))) (.bool true) w1 ?_ (Below.refl _ _) rfl
            clear hc hl
            go_simp
        intro w2 hb2
        rintro _ rfl _ rfl _ rfl _ rfl _ rfl _ rfl _ rfl _ rfl _ rfl _ rfl _ rfl _ rfl _ rfl _ rfl _ rfl _ rfl _ rfl _ ⟨A85, c85, rfl, ho85⟩ _ rfl _ rfl _ rfl
        simp only [Thus, List.reverse_cons, List.reverse_nil, List.nil_append, List.cons_append, List.drop, List.take, lay]
        go_frame
        have K1e := Lib.hid (K1f.out.below hb2 K1f.out.lt)
        have B6 := Lib.hid (below_then B7.out (Nat.le_refl _) hb2)
        clear hb2 K1f B7 G6 K0e
        have y0 := K1e.out.cell 0
        have y1 := K1e.out.cell 1
        have y2 := K1e.out.cell 2
        have y3 := K1e.out.cell 3
        have y4 := K1e.out.cell 4
        have y5 := K1e.out.cell 5
        have z0 := K1e.out.frozen 0
        have z1 := K1e.out.frozen 1
        have z2 := K1e.out.frozen 2
        have z3 := K1e.out.frozen 3
        have z4 := K1e.out.frozen 4
        have z5 := K1e.out.frozen 5
        go_wp2_with fail
        have H3 := ((((((K1e.out.set_ 0 (.int .u32 0)).set_ 1 (.int .u32 0)).set_ 2 (.int .u16 0)).set_ 3 (.int .u16 0)).set_ 4 (.int .u32 0)).set_ 5 (.slice none 0 0))
        exact bodyPost_ret (v := .tuple #[.agg #[.int .u32 0, .int .u32 0, .int .u16 0, .int .u16 0, .int .u32 0, .slice none 0 0], .int .i64 7]) (by simp [results, Try.results25, go_sem, H3.cell]) rfl ⟨none, 0, 0, by rw [HOK.out, ansI_off HOK.out]; rfl, by rw [ansI_off HOK.out]; exact Own8.nil _ _ _, ((((((B6.out.setCell (p := ⟨w.heap.size + 1, 0, none⟩) (show w.heap.size ≤ w.heap.size + 1 by omega) (.int .u32 0)).setCell (p := ⟨w.heap.size + 1, 1, none⟩) (show w.heap.size ≤ w.heap.size + 1 by omega) (.int .u32 0)).setCell (p := ⟨w.heap.size + 1, 2, none⟩) (show w.heap.size ≤ w.heap.size + 1 by omega) (.int .u16 0)).setCell (p := ⟨w.heap.size + 1, 3, none⟩) (show w.heap.size ≤ w.heap.size + 1 by omega) (.int .u16 0)).setCell (p := ⟨w.heap.size + 1, 4, none⟩) (show w.heap.size ≤ w.heap.size + 1 by omega) (.int .u32 0)).setCell (p := ⟨w.heap.size + 1, 5, none⟩) (show w.heap.size ≤ w.heap.size + 1 by omega) (.slice none 0 0))⟩
      · have HOK := Lib.hid (HOKD.out _ q0n q8n q10n hcut.1 hcut.2 h5 hd)
        have HSM2 := Lib.hid (HSM.out _ hd)
        have q0 := nat_ne q0n
        have q8 := nat_ne q8n
        have q10 := nat_ne q10n
        clear q0n q8n q10n hd
        refine wp_region_grow_tail 21 (by kernel_rfl) [(Is (.pointer (some ⟨g4, 0, none⟩))), (Is (.int .u32 (i0 : Int))), (Is (.bool false)), (Is (.bool false)), (Is (.pointer (some ⟨g4, 2, none⟩))), (Is (.int .u16 (i8 : Int))), (Is (.bool false)), (Is (.bool false)), (Is (.bool false)), (Is (.pointer (some ⟨g4, 3, none⟩))), (Is (.int .u16 (i10 : Int))), (Is (.bool false)), (Is (.bool false)), (Is (.bool false)), (Is (.pointer (some ⟨w.heap.size, 0, none⟩))), (Is (.int .u8 2)), (Is (.agg #[.int .u32 (i0 : Int), .int .u32 (i4 : Int), .int .u16 (i8 : Int), .int .u16 (i10 : Int), .int .u32 (i12 : Int), .slice Ax (nl - 4 : Nat) cx])), (NewAgg 5 w.heap.size Y.length Y (fun s => .agg #[.int .u8 ((2 : UInt8).toNat : Int), .int .u8 ((0 : UInt8).toNat : Int), s])), (Is (.agg #[.int .u8 2, .int .u8 (f.toNat : Int), .slice A n c])), (Is (.bool true)), (Is (.bool false))] rfl ?_ (by kernel_rfl) (by kernel_rfl) ?_ ?_
        · intro p hp
          simp only [List.mem_cons, List.not_mem_nil, or_false] at hp
          rcases hp with rfl | rfl | rfl | rfl | rfl | rfl | rfl | rfl | rfl | rfl | rfl | rfl | rfl | rfl | rfl | rfl | rfl | rfl | rfl | rfl | rfl
          · exact Lasts.is _
          · exact Lasts.is _
          · exact Lasts.is _
          · exact Lasts.is _
          · exact Lasts.is _
          · exact Lasts.is _
          · exact Lasts.is _
          · exact Lasts.is _
          · exact Lasts.is _
          · exact Lasts.is _
          · exact Lasts.is _
          · exact Lasts.is _
          · exact Lasts.is _
          · exact Lasts.is _
          · exact Lasts.is _
          · exact Lasts.is _
          · exact Lasts.is _
          · exact Lasts.newAgg _ _ _ _ _
          · exact Lasts.is _
          · exact Lasts.is _
          · exact Lasts.is _
        · refine ⟨?_, ?_, ?_, ?_, ?_, ?_, ?_, ?_, ?_, ?_, ?_, ?_, ?_, ?_, ?_, ?_, ?_, ?_, ?_, ?_, ?_, trivial⟩
          · intro listed a w1 hl hc
            have h4 : a.tmps[4]?.getD undef = .pointer (some ⟨g4, 0, none⟩) := (hc.was 4 (by kernel_rfl)).trans rfl
            refine does_value rfl rfl (.pointer (some ⟨g4, 0, none⟩)) w1 ?_ (Below.refl _ _) rfl
            clear hc hl
            go_simp
          · intro listed a w1 hl hc
            have h68 : a.tmps[68]?.getD undef = .pointer (some ⟨g4, 0, none⟩) := hc.dep hl 0 68 rfl (by kernel_rfl)
            have kb := G6.out.below hc.g G6.out.lt
            have x0 : w1.cell? ⟨g4, 0, none⟩ = some (.int .u32 (i0 : Int)) := kb.cell 0
            clear kb
            refine does_value rfl rfl (.int .u32 (i0 : Int)) w1 ?_ (Below.refl _ _) rfl
            clear hc hl
            go_simp
          · intro listed a w1 hl hc
            have h69 : a.tmps[69]?.getD undef = .int .u32 (i0 : Int) := hc.dep hl 1 69 rfl (by kernel_rfl)
            refine does_value rfl rfl (.bool false) w1 ?_ (Below.refl _ _) rfl
            clear hc hl
            go_simp
          · intro listed a w1 hl hc
            have h70 : a.tmps[70]?.getD undef = .bool false := hc.dep hl 2 70 rfl (by kernel_rfl)
            refine does_value rfl rfl (.bool false) w1 ?_ (Below.refl _ _) rfl
            clear hc hl
            go_simp
          · intro listed a w1 hl hc
            have h4 : a.tmps[4]?.getD undef = .pointer (some ⟨g4, 0, none⟩) := (hc.was 4 (by kernel_rfl)).trans rfl
            refine does_value rfl (wanted_at rfl rfl (hc.dep hl 3 71 rfl (by kernel_rfl))) (.pointer (some ⟨g4, 2, none⟩)) w1 ?_ (Below.refl _ _) rfl
            clear hc hl
            go_simp
          · intro listed a w1 hl hc
            have h72 : a.tmps[72]?.getD undef = .pointer (some ⟨g4, 2, none⟩) := hc.dep hl 4 72 rfl (by kernel_rfl)
            have kb := G6.out.below hc.g G6.out.lt
            have x2 : w1.cell? ⟨g4, 2, none⟩ = some (.int .u16 (i8 : Int)) := kb.cell 2
            clear kb
            refine does_value rfl (wanted_at rfl rfl (hc.dep hl 3 71 rfl (by kernel_rfl))) (.int .u16 (i8 : Int)) w1 ?_ (Below.refl _ _) rfl
            clear hc hl
            go_simp
          · intro listed a w1 hl hc
            have h73 : a.tmps[73]?.getD undef = .int .u16 (i8 : Int) := hc.dep hl 5 73 rfl (by kernel_rfl)
            refine does_value rfl (wanted_at rfl rfl (hc.dep hl 3 71 rfl (by kernel_rfl))) (.bool false) w1 ?_ (Below.refl _ _) rfl
            clear hc hl
            go_simp
          · intro listed a w1 hl hc
            have h71 : a.tmps[71]?.getD undef = .bool false := hc.dep hl 3 71 rfl (by kernel_rfl)
            have h74 : a.tmps[74]?.getD undef = .bool false := hc.dep hl 6 74 rfl (by kernel_rfl)
            refine does_value rfl rfl (.bool false) w1 ?_ (Below.refl _ _) rfl
            clear hc hl
            go_simp
          · intro listed a w1 hl hc
            have h75 : a.tmps[75]?.getD undef = .bool false := hc.dep hl 7 75 rfl (by kernel_rfl)
            refine does_value rfl rfl (.bool false) w1 ?_ (Below.refl _ _) rfl
            clear hc hl
            go_simp
          · intro listed a w1 hl hc
            have h4 : a.tmps[4]?.getD undef = .pointer (some ⟨g4, 0, none⟩) := (hc.was 4 (by kernel_rfl)).trans rfl
            refine does_value rfl (wanted_at rfl rfl (hc.dep hl 8 76 rfl (by kernel_rfl))) (.pointer (some ⟨g4, 3, none⟩)) w1 ?_ (Below.refl _ _) rfl
            clear hc hl
            go_simp
          · intro listed a w1 hl hc
            have h77 : a.tmps[77]?.getD undef = .pointer (some ⟨g4, 3, none⟩) := hc.dep hl 9 77 rfl (by kernel_rfl)
            have kb := G6.out.below hc.g G6.out.lt
            have x3 : w1.cell? ⟨g4, 3, none⟩ = some (.int .u16 (i10 : Int)) := kb.cell 3
            clear kb
            refine does_value rfl (wanted_at rfl rfl (hc.dep hl 8 76 rfl (by kernel_rfl))) (.int .u16 (i10 : Int)) w1 ?_ (Below.refl _ _) rfl
            clear hc hl
            go_simp
          · intro listed a w1 hl hc
            have h78 : a.tmps[78]?.getD undef = .int .u16 (i10 : Int) := hc.dep hl 10 78 rfl (by kernel_rfl)
            refine does_value rfl (wanted_at rfl rfl (hc.dep hl 8 76 rfl (by kernel_rfl))) (.bool false) w1 ?_ (Below.refl _ _) rfl
            clear hc hl
            go_simp
          · intro listed a w1 hl hc
            have h76 : a.tmps[76]?.getD undef = .bool false := hc.dep hl 8 76 rfl (by kernel_rfl)
            have h79 : a.tmps[79]?.getD undef = .bool false := hc.dep hl 11 79 rfl (by kernel_rfl)
            refine does_value rfl rfl (.bool false) w1 ?_ (Below.refl _ _) rfl
            clear hc hl
            go_simp
          · intro listed a w1 hl hc
            have h80 : a.tmps[80]?.getD undef = .bool false := hc.dep hl 12 80 rfl (by kernel_rfl)
            refine does_value rfl rfl (.bool false) w1 ?_ (Below.refl _ _) rfl
            clear hc hl
            go_simp
          · intro listed a w1 hl hc
            have h1 : a.tmps[1]?.getD undef = .pointer (some ⟨w.heap.size, 0, none⟩) := (hc.was 1 (by kernel_rfl)).trans rfl
            refine does_value rfl (wanted_at rfl rfl (hc.dep hl 13 81 rfl (by kernel_rfl))) (.pointer (some ⟨w.heap.size, 0, none⟩)) w1 ?_ (Below.refl _ _) rfl
            clear hc hl
            go_simp
          · intro listed a w1 hl hc
            have h82 : a.tmps[82]?.getD undef = .pointer (some ⟨w.heap.size, 0, none⟩) := hc.dep hl 14 82 rfl (by kernel_rfl)
            have kb := K0e.out.below hc.g K0e.out.lt
            have x0 : w1.cell? ⟨w.heap.size, 0, none⟩ = some (.int .u8 2) := kb.cell 0
            clear kb
            refine does_value rfl (wanted_at rfl rfl (hc.dep hl 13 81 rfl (by kernel_rfl))) (.int .u8 2) w1 ?_ (Below.refl _ _) rfl
            clear hc hl
            go_simp
          · intro listed a w1 hl hc
            have h4 : a.tmps[4]?.getD undef = .pointer (some ⟨g4, 0, none⟩) := (hc.was 4 (by kernel_rfl)).trans rfl
            have kb := G6.out.below hc.g G6.out.lt
            have x0 : w1.cell? ⟨g4, 0, none⟩ = some (.int .u32 (i0 : Int)) := kb.cell 0
            have x1 : w1.cell? ⟨g4, 1, none⟩ = some (.int .u32 (i4 : Int)) := kb.cell 1
            have x2 : w1.cell? ⟨g4, 2, none⟩ = some (.int .u16 (i8 : Int)) := kb.cell 2
            have x3 : w1.cell? ⟨g4, 3, none⟩ = some (.int .u16 (i10 : Int)) := kb.cell 3
            have x4 : w1.cell? ⟨g4, 4, none⟩ = some (.int .u32 (i12 : Int)) := kb.cell 4
            have x5 : w1.cell? ⟨g4, 5, none⟩ = some (.slice Ax (nl - 4 : Nat) cx) := kb.cell 5
            clear kb
            refine does_value rfl (wanted_at rfl rfl (hc.dep hl 13 81 rfl (by kernel_rfl))) (.agg #[.int .u32 (i0 : Int), .int .u32 (i4 : Int), .int .u16 (i8 : Int), .int .u16 (i10 : Int), .int .u32 (i12 : Int), .slice Ax (nl - 4 : Nat) cx]) w1 ?_ (Below.refl _ _) rfl
            clear hc hl
            go_simp
          · intro listed a w1 hl hc
            have h83 : a.tmps[83]?.getD undef = .int .u8 2 := hc.dep hl 15 83 rfl (by kernel_rfl)
            have h84 : a.tmps[84]?.getD undef = .agg #[.int .u32 (i0 : Int), .int .u32 (i4 : Int), .int .u16 (i8 : Int), .int .u16 (i10 : Int), .int .u32 (i12 : Int), .slice Ax (nl - 4 : Nat) cx] := hc.dep hl 16 84 rfl (by kernel_rfl)
            refine does_call rfl (wanted_at rfl rfl (hc.dep hl 13 81 rfl (by kernel_rfl))) 26 #[.int .u8 2, .agg #[.int .u32 (i0 : Int), .int .u32 (i4 : Int), .int .u16 (i8 : Int), .int .u16 (i10 : Int), .int .u32 (i12 : Int), .slice Ax (nl - 4 : Nat) cx]] ?_ ((HPT.out w1 Ax cx (O7.out.below hc.g (Nat.le_refl _))).mono fun e w' ⟨A9, c9, he, ho, hb⟩ => ⟨_, he, hb, A9, c9, rfl, ho.more (Nat.le_trans B7.out.size hc.g.size)⟩)
            clear hc hl
            go_simp
          · intro listed a w1 hl hc
            have h1 : a.tmps[1]?.getD undef = .pointer (some ⟨w.heap.size, 0, none⟩) := (hc.was 1 (by kernel_rfl)).trans rfl
            have kb := K0e.out.below hc.g K0e.out.lt
            have x0 : w1.cell? ⟨w.heap.size, 0, none⟩ = some (.int .u8 2) := kb.cell 0
            have x1 : w1.cell? ⟨w.heap.size, 1, none⟩ = some (.int .u8 (f.toNat : Int)) := kb.cell 1
            have x2 : w1.cell? ⟨w.heap.size, 2, none⟩ = some (.slice A n c) := kb.cell 2
            clear kb
            refine does_value rfl (wanted_at rfl rfl (hc.dep hl 13 81 rfl (by kernel_rfl))) (.agg #[.int .u8 2, .int .u8 (f.toNat : Int), .slice A n c]) w1 ?_ (Below.refl _ _) rfl
            clear hc hl
            go_simp
          · intro listed a w1 hl hc
            obtain ⟨A85, c85, h85, ho85⟩ := hc.dep hl 17 85 rfl (by kernel_rfl)
            have h86 : a.tmps[86]?.getD undef = .agg #[.int .u8 2, .int .u8 (f.toNat : Int), .slice A n c] := hc.dep hl 18 86 rfl (by kernel_rfl)
            refine does_call rfl (wanted_at rfl rfl (hc.dep hl 13 81 rfl (by kernel_rfl))) 18 #[.agg #[.int .u8 ((2 : UInt8).toNat : Int), .int .u8 ((0 : UInt8).toNat : Int), .slice A85 Y.length c85], .agg #[.int .u8 2, .int .u8 (f.toNat : Int), .slice A n c]] ?_ ((HSM2.out w1 _ _ (B7.out.trans (hc.g.mono B7.out.size)) ho85).mono fun e w' ⟨he, hb⟩ => ⟨_, he, hb, rfl⟩)
            clear hc hl
            go_simp
          · intro listed a w1 hl hc
            have h87 : a.tmps[87]?.getD undef = .bool true := hc.dep hl 19 87 rfl (by kernel_rfl)
            refine does_value rfl (wanted_at rfl rfl (hc.dep hl 13 81 rfl (by kernel_rfl))) (.bool false) w1 ?_ (Below.refl _ _) rfl
            clear hc hl
            go_simp
        intro w2 hb2
        rintro _ rfl _ rfl _ rfl _ rfl _ rfl _ rfl _ rfl _ rfl _ rfl _ rfl _ rfl _ rfl _ rfl _ rfl _ rfl _ rfl _ rfl _ ⟨A85, c85, rfl, ho85⟩ _ rfl _ rfl _ rfl
        simp only [Thus, List.reverse_cons, List.reverse_nil, List.nil_append, List.cons_append, List.drop, List.take, lay]
        go_frame
        have K1e := Lib.hid (K1f.out.below hb2 K1f.out.lt)
        have B6 := Lib.hid (below_then B7.out (Nat.le_refl _) hb2)
        have G9 := Lib.hid (G6.out.below hb2 G6.out.lt)
        have O9 := Lib.hid (O7.out.below hb2 (Nat.le_refl _))
        clear hb2 K1f B7 G6 K0e
        have x0 := G9.out.cell 0
        have x1 := G9.out.cell 1
        have x2 := G9.out.cell 2
        have x3 := G9.out.cell 3
        have x4 := G9.out.cell 4
        have x5 := G9.out.cell 5
        have y0 := K1e.out.cell 0
        have y1 := K1e.out.cell 1
        have y2 := K1e.out.cell 2
        have y3 := K1e.out.cell 3
        have y4 := K1e.out.cell 4
        have y5 := K1e.out.cell 5
        have z0 := K1e.out.frozen 0
        have z1 := K1e.out.frozen 1
        have z2 := K1e.out.frozen 2
        have z3 := K1e.out.frozen 3
        have z4 := K1e.out.frozen 4
        have z5 := K1e.out.frozen 5
        go_wp2_with fail
        have H3 := ((((((K1e.out.set_ 0 (.int .u32 (i0 : Int))).set_ 1 (.int .u32 (i4 : Int))).set_ 2 (.int .u16 (i8 : Int))).set_ 3 (.int .u16 (i10 : Int))).set_ 4 (.int .u32 (i12 : Int))).set_ 5 (.slice Ax (nl - 4 : Nat) cx))
        exact bodyPost_ret (v := .tuple #[.agg #[.int .u32 (i0 : Int), .int .u32 (i4 : Int), .int .u16 (i8 : Int), .int .u16 (i10 : Int), .int .u32 (i12 : Int), .slice Ax (nl - 4 : Nat) cx], .int .i64 0]) (by simp [results, Try.results25, go_sem, H3.cell]) rfl ⟨Ax, nl - 4, cx, by rw [HOK.out, HANS.out hcut.1 hcut.2 HOK.out]; rfl, by rw [HANS.out hcut.1 hcut.2 HOK.out]; exact ((((((O9.out.setBlk K1e.out (by decide) 0 (.int .u32 (i0 : Int))).setBlk (K1e.out.set_ 0 (.int .u32 (i0 : Int))) (by decide) 1 (.int .u32 (i4 : Int))).setBlk ((K1e.out.set_ 0 (.int .u32 (i0 : Int))).set_ 1 (.int .u32 (i4 : Int))) (by decide) 2 (.int .u16 (i8 : Int))).setBlk (((K1e.out.set_ 0 (.int .u32 (i0 : Int))).set_ 1 (.int .u32 (i4 : Int))).set_ 2 (.int .u16 (i8 : Int))) (by decide) 3 (.int .u16 (i10 : Int))).setBlk ((((K1e.out.set_ 0 (.int .u32 (i0 : Int))).set_ 1 (.int .u32 (i4 : Int))).set_ 2 (.int .u16 (i8 : Int))).set_ 3 (.int .u16 (i10 : Int))) (by decide) 4 (.int .u32 (i12 : Int))).setBlk (((((K1e.out.set_ 0 (.int .u32 (i0 : Int))).set_ 1 (.int .u32 (i4 : Int))).set_ 2 (.int .u16 (i8 : Int))).set_ 3 (.int .u16 (i10 : Int))).set_ 4 (.int .u32 (i12 : Int))) (by decide) 5 (.slice Ax (nl - 4 : Nat) cx)), ((((((B6.out.setCell (p := ⟨w.heap.size + 1, 0, none⟩) (show w.heap.size ≤ w.heap.size + 1 by omega) (.int .u32 (i0 : Int))).setCell (p := ⟨w.heap.size + 1, 1, none⟩) (show w.heap.size ≤ w.heap.size + 1 by omega) (.int .u32 (i4 : Int))).setCell (p := ⟨w.heap.size + 1, 2, none⟩) (show w.heap.size ≤ w.heap.size + 1 by omega) (.int .u16 (i8 : Int))).setCell (p := ⟨w.heap.size + 1, 3, none⟩) (show w.heap.size ≤ w.heap.size + 1 by omega) (.int .u16 (i10 : Int))).setCell (p := ⟨w.heap.size + 1, 4, none⟩) (show w.heap.size ≤ w.heap.size + 1 by omega) (.int .u32 (i12 : Int))).setCell (p := ⟨w.heap.size + 1, 5, none⟩) (show w.heap.size ≤ w.heap.size + 1 by omega) (.slice Ax (nl - 4 : Nat) cx))⟩
    · have HOK := Lib.hid (HOKX.out (.inr (by omega)))
      have K1e := Lib.hid (K1c.out.below hb K1c.out.lt)
      have B6 := Lib.hid (below_then B4.out (Nat.le_refl _) hb)
      have hn4 : (nl : Int) - 4 < 1 := by omega
      clear ho hb G4 K0c K1c B4
      have y0 := K1e.out.cell 0
      have y1 := K1e.out.cell 1
      have y2 := K1e.out.cell 2
      have y3 := K1e.out.cell 3
      have y4 := K1e.out.cell 4
      have y5 := K1e.out.cell 5
      have z0 := K1e.out.frozen 0
      have z1 := K1e.out.frozen 1
      have z2 := K1e.out.frozen 2
      have z3 := K1e.out.frozen 3
      have z4 := K1e.out.frozen 4
      have z5 := K1e.out.frozen 5
      go_wp2_with fail
      have H3 := ((((((K1e.out.set_ 0 (.int .u32 0)).set_ 1 (.int .u32 0)).set_ 2 (.int .u16 0)).set_ 3 (.int .u16 0)).set_ 4 (.int .u32 0)).set_ 5 (.slice none 0 0))
      exact bodyPost_ret (v := .tuple #[.agg #[.int .u32 0, .int .u32 0, .int .u16 0, .int .u16 0, .int .u32 0, .slice none 0 0], .int .i64 7]) (by simp [results, Try.results25, go_sem, H3.cell]) rfl ⟨none, 0, 0, by rw [HOK.out, ansI_off HOK.out]; rfl, by rw [ansI_off HOK.out]; exact Own8.nil _ _ _, ((((((B6.out.setCell (p := ⟨w.heap.size + 1, 0, none⟩) (show w.heap.size ≤ w.heap.size + 1 by omega) (.int .u32 0)).setCell (p := ⟨w.heap.size + 1, 1, none⟩) (show w.heap.size ≤ w.heap.size + 1 by omega) (.int .u32 0)).setCell (p := ⟨w.heap.size + 1, 2, none⟩) (show w.heap.size ≤ w.heap.size + 1 by omega) (.int .u16 0)).setCell (p := ⟨w.heap.size + 1, 3, none⟩) (show w.heap.size ≤ w.heap.size + 1 by omega) (.int .u16 0)).setCell (p := ⟨w.heap.size + 1, 4, none⟩) (show w.heap.size ≤ w.heap.size + 1 by omega) (.int .u32 0)).setCell (p := ⟨w.heap.size + 1, 5, none⟩) (show w.heap.size ≤ w.heap.size + 1 by omega) (.slice none 0 0))⟩
  · have HCUT := Lib.hid (HCN.out hcut)
    have HOK := Lib.hid (HOKX.out (.inl hcut))
    clear hcut
    refine (HCUT.out w4).mono ?_
    rintro e w5 ⟨rfl, hb⟩
    have K1e := Lib.hid (K1c.out.below hb K1c.out.lt)
    have B6 := Lib.hid (below_then B4.out (Nat.le_refl _) hb)
    clear hb G4 K0c K1c B4
    have y0 := K1e.out.cell 0
    have y1 := K1e.out.cell 1
    have y2 := K1e.out.cell 2
    have y3 := K1e.out.cell 3
    have y4 := K1e.out.cell 4
    have y5 := K1e.out.cell 5
    have z0 := K1e.out.frozen 0
    have z1 := K1e.out.frozen 1
    have z2 := K1e.out.frozen 2
    have z3 := K1e.out.frozen 3
    have z4 := K1e.out.frozen 4
    have z5 := K1e.out.frozen 5
    go_wp2_with fail
    have H3 := ((((((K1e.out.set_ 0 (.int .u32 0)).set_ 1 (.int .u32 0)).set_ 2 (.int .u16 0)).set_ 3 (.int .u16 0)).set_ 4 (.int .u32 0)).set_ 5 (.slice none 0 0))
    exact bodyPost_ret (v := .tuple #[.agg #[.int .u32 0, .int .u32 0, .int .u16 0, .int .u16 0, .int .u32 0, .slice none 0 0], .int .i64 7]) (by simp [results, Try.results25, go_sem, H3.cell]) rfl ⟨none, 0, 0, by rw [HOK.out, ansI_off HOK.out]; rfl, by rw [ansI_off HOK.out]; exact Own8.nil _ _ _, ((((((B6.out.setCell (p := ⟨w.heap.size + 1, 0, none⟩) (show w.heap.size ≤ w.heap.size + 1 by omega) (.int .u32 0)).setCell (p := ⟨w.heap.size + 1, 1, none⟩) (show w.heap.size ≤ w.heap.size + 1 by omega) (.int .u32 0)).setCell (p := ⟨w.heap.size + 1, 2, none⟩) (show w.heap.size ≤ w.heap.size + 1 by omega) (.int .u16 0)).setCell (p := ⟨w.heap.size + 1, 3, none⟩) (show w.heap.size ≤ w.heap.size + 1 by omega) (.int .u16 0)).setCell (p := ⟨w.heap.size + 1, 4, none⟩) (show w.heap.size ≤ w.heap.size + 1 by omega) (.int .u32 0)).setCell (p := ⟨w.heap.size + 1, 5, none⟩) (show w.heap.size ≤ w.heap.size + 1 by omega) (.slice none 0 0))⟩
theorem refGetInit_any (k f : UInt8) (A : Option Addr) (n c : Nat) (xs : List UInt8) (w : World) (hn : n ≤ 140737488355200) (hc : n ≤ c) (hcm : c ≤ maxLen) (hx : xs.length = n) (hr : Rd w w.heap.size A xs) : GetsI 25 #[.agg #[.int .u8 (k.toNat : Int), .int .u8 (f.toNat : Int), .slice A n c]] k f xs w := by
  by_cases hl : n < 16
  · by_cases h1 : k = 1
    · subst h1; exact refGetInit_short1 f A n c xs w hn hc hcm hx hr hl
    · by_cases h2 : k = 2
      · subst h2; exact refGetInit_short2 f A n c xs w hn hc hcm hx hr hl
      · exact refGetInit_bad k f A n c xs w hn hc hcm hx hr h1 h2
  by_cases h1 : k = 1
  · subst h1
    exact refGetInit_one f A n c xs w hn hc hcm hx hr (by omega)
  by_cases h2 : k = 2
  · subst h2
    exact refGetInit_two f A n c xs w hn hc hcm hx hr (by omega)
  exact refGetInit_bad k f A n c xs w hn hc hcm hx hr h1 h2
end Go.Proofs.Ytalgkokgaibloaa
