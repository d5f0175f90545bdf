/-
  Layer 8: two chunks that are alike; the statements' bound; the anchor.
-/
import Derived.Test.YtnlhkofkjcofdaaChkA
import Derived.Test.YtnlhkofkjcofdaaChkD
import Derived.Test.YtnlhkofkjcofdaaRows3
namespace Go.Proofs.Ytnlhkofkjcofdaa
open Go.RowKit
set_option linter.unusedVariables false

set_option maxHeartbeats 1000000 in
theorem same_yes (a b : Int) (A A' : Option Addr) (n c c' : Nat) (xs : List UInt8) (w : World) (hx : xs.length = n) (hn : n ≤ 140737488355300) (hr : Rd w w.heap.size A xs) (hr' : Rd w w.heap.size A' xs) :
    Calls Try.prog 20 #[.agg #[.int .u8 a, .int .u8 b, .slice A n c], .agg #[.int .u8 a, .int .u8 b, .slice A' n c']] w fun e w' => e = .returned (.bool true) ∧ Below w.heap.size w w' := by
  have HC : Hid (∀ W : World, Below w.heap.size w W → Calls Try.prog 14 #[.slice A n c, .slice A' n c'] W fun e w' => e = .returned (.bool true) ∧ ∃ q, W.drewN q = w') := Lib.hid fun W hW => eqBytes_same w.heap.size w.heap.size A A' n c c' xs W hx (by unfold maxLen; omega) (hr.below hW) (hr'.below hW)
  have HB := Lib.hid ((below_new w (.cells #[.int .u8 a, .int .u8 b, .slice A n c] 24)).alloc (by simp) (.cells #[.int .u8 a, .int .u8 b, .slice A' n c'] 24))
  clear hx hr hr'
  go_enter Try.func20, Try.ntmps20
  go_wp2_with fail
  refine (HC.out _ HB.out).mono ?_
  rintro e w1 ⟨rfl, q, rfl⟩
  go_wp2_with fail
  go_ret
  exact ⟨rfl, below_drewN HB.out q⟩

set_option maxHeartbeats 1000000 in
theorem large_no (a b : Int) (A : Option Addr) (n c : Nat) (w : World) (h : n ≤ 131072) :
    Calls Try.prog 10 #[.agg #[.int .u8 a, .int .u8 b, .slice A n c]] w fun e w' => e = .returned (.bool false) ∧ Below w.heap.size w w' := by
  go_enter Try.func10, Try.ntmps10
  go_wp2_with fail
  go_ret
  exact ⟨by simp; omega, below_new w _⟩
set_option maxHeartbeats 1000000 in
theorem large_yes (a b : Int) (A : Option Addr) (n c : Nat) (w : World) (h : 131072 < n) :
    Calls Try.prog 10 #[.agg #[.int .u8 a, .int .u8 b, .slice A n c]] w fun e w' => e = .returned (.bool true) ∧ Below w.heap.size w w' := by
  go_enter Try.func10, Try.ntmps10
  go_wp2_with fail
  go_ret
  exact ⟨by simp; omega, below_new w _⟩

/-- What Read answers of what was written. -/
theorem read_back (k f : UInt8) (ys more xs : List UInt8) (hxs : xs = wrt k f ys ++ more) (hy : ys.length ≤ 65531) (A : Option Addr) (n c : Nat) (w : World) (hn : n ≤ 140737488355300) (hc : n ≤ c) (hcm : c ≤ maxLen) (hx : xs.length = n) (hr : Rd w w.heap.size A xs) :
    Calls Try.prog 18 #[.slice A n c] w fun e w' => ∃ A2 c2, e = .returned (.tuple #[.agg #[.int .u8 (k.toNat : Int), .int .u8 (f.toNat : Int), .slice A2 ys.length c2], .int .i64 (up4 (4 + ys.length)), .int .i64 0]) ∧ Own8 w' 5 w.heap.size A2 ys.length c2 ys ∧ Below w.heap.size w w' := by
  obtain ⟨h1, h2, h3, h4, h5⟩ := read_wrt (k := k) (f := f) (more := more) hy
  have h := read_yes A n c xs w hn hc hcm hx hr (by rw [hxs]; exact h1)
  rw [hxs, h2, h3, h4, h5, Nat.add_sub_cancel_left] at h
  exact h

set_option maxRecDepth 100000 in
set_option maxHeartbeats 2000000 in
theorem works_any (w : World) : Calls Try.prog 11 #[] w fun e w' => e = .returned (.bool true) ∧ Below w.heap.size w w' := by
  have HW : Hid (Calls Try.prog 13 #[.agg #[.int .u8 10, .int .u8 0, .slice (some ⟨w.heap.size, 0, none⟩) 1 1]] (w.alloc (.cells #[.int .u8 170] 5)) fun e w' => ∃ A2 m c2, e = .returned (.slice A2 m c2) ∧ Own8 w' 5 (w.alloc (.cells #[.int .u8 170] 5)).heap.size A2 m c2 (wrt 10 0 [170]) ∧ Below (w.alloc (.cells #[.int .u8 170] 5)).heap.size (w.alloc (.cells #[.int .u8 170] 5)) w') :=
    Lib.hid (write_any 10 0 (some ⟨w.heap.size, 0, none⟩) 1 1 [170] _ rfl ((RowAt.new w 5 [170]).rd 0 [170] (fun j hj => by simp)))
  have HB0 := Lib.hid (below_new w (.cells #[.int .u8 170] 5))
  have hz := zero_chunk
  go_enter Try.func11, Try.ntmps11
  go_wp2_with fail
  refine HW.out.mono ?_
  rintro e w1 ⟨A1, m1, c1, rfl, ho1, hb1⟩
  have hm1 : m1 = 8 := by rw [← ho1.len, length_wrt (by simp)]; rfl
  subst hm1
  have HB1 := Lib.hid (below_then HB0.out (Nat.le_refl _) hb1)
  have HR : Hid (Calls Try.prog 18 #[.slice A1 8 c1] w1 fun e w' => ∃ A2 c2, e = .returned (.tuple #[.agg #[.int .u8 10, .int .u8 0, .slice A2 1 c2], .int .i64 8, .int .i64 0]) ∧ Own8 w' 5 w1.heap.size A2 1 c2 [170] ∧ Below w1.heap.size w1 w') := Lib.hid (read_back 10 0 [170] [] (wrt 10 0 [170]) (by simp) (by simp) A1 8 c1 w1 (by omega) ho1.cap.1 ho1.cap.2 ho1.len ho1.rd)
  clear ho1 hb1 HW
  go_wp2_with fail
  refine HR.out.mono ?_
  rintro e w2 ⟨A2, c2, rfl, ho2, hb2⟩
  have HB2 := Lib.hid ((below_then HB1.out (Nat.le_refl _) hb2).alloc (Nat.le_trans HB1.out.size hb2.size) (.cells #[.int .u8 10, .int .u8 0, .slice A2 1 c2] 24))
  have D2 := Lib.hid (Blk.new w2 24 #[.int .u8 10, .int .u8 0, .slice A2 1 c2])
  obtain ⟨b, o, rfl, hbl, hcx⟩ := ho2.rd.at_ (by simp)
  have hc0 := hcx 0 (by simp)
  have HC := Lib.hid hc0
  have HS := Lib.hid hbl
  clear ho2 hb2 hcx hc0 hbl HR
  go_wp2_with fail
  generalize hw3 : w2.alloc (.cells #[.int .u8 10, .int .u8 0, .slice (some ⟨b, o, none⟩) 1 c2] 24) = w3 at HB2 D2 ⊢
  refine (read_no none 0 0 [] w3 (by omega) (by omega) (by unfold maxLen; omega) rfl (Rd.nil _ _ _) (fun h => by have := h.four; simp at this)).mono ?_
  rintro e w4 ⟨rfl, hb4⟩
  have D4 := (D2.out.below hb4 D2.out.lt).alloc (.cells #[.int .u8 0, .int .u8 0, .slice none 0 0] 24)
  have B4 := (below_then HB2.out (Nat.le_refl _) hb4).alloc (Nat.le_trans HB2.out.size hb4.size) (.cells #[.int .u8 0, .int .u8 0, .slice none 0 0] 24)
  have hk : (w4.alloc (.cells #[.int .u8 0, .int .u8 0, .slice none 0 0] 24)).cell? ⟨b, o, none⟩ = some (.int .u8 170) := by
    have h1 := HC.out
    have h2 := HS.out
    have h3 : w2.heap.size ≤ w3.heap.size := by rw [← hw3]; simp
    have h5 : w3.cell? ⟨b, o, none⟩ = some (.int .u8 170) := by rw [← hw3, World.cell?_alloc_lt _ _ _ h2]; exact h1
    rw [World.cell?_alloc_lt _ _ _ (Nat.lt_of_lt_of_le h2 (Nat.le_trans h3 hb4.size)), hb4.cell (p := ⟨b, o, none⟩) (Nat.lt_of_lt_of_le h2 h3)]
    exact h5
  have B4 := Lib.hid B4
  have hz4 : w2.heap.size < w4.heap.size := Nat.lt_of_lt_of_le D2.out.lt hb4.size
  have d0 : (w4.alloc (.cells #[.int .u8 0, .int .u8 0, .slice none 0 0] 24)).cell? ⟨w2.heap.size, 0, none⟩ = some (.int .u8 10) := D4.cell 0
  have d2 : (w4.alloc (.cells #[.int .u8 0, .int .u8 0, .slice none 0 0] 24)).cell? ⟨w2.heap.size, 2, none⟩ = some (.slice (some ⟨b, o, none⟩) 1 c2) := D4.cell 2
  clear D4 hb4 hw3
  rw [noChunk]
  go_wp2_with fail
  go_ret
  exact ⟨rfl, B4.out⟩
end Go.Proofs.Ytnlhkofkjcofdaa
