/-
  Package chunk: Write, and the reference's.
  Numbers that come in: their plain values; a slice's head.
-/
import Derived.Test.YtifmhlbeodfpeaaQ4
import Derived.Test.YtifmhlbeodfpeaaQ1
namespace Go.Proofs.Ytifmhlbeodfpeaa
open Go.RowKit
set_option linter.unusedVariables false

theorem enc1 (k : UInt8) : enc k.toNat 1 = [k] := by
  have : byteOf k.toNat 0 = k := by apply UInt8.toNat_inj.1; simp [byteOf]
  simp [enc, List.range_succ, this]
theorem enc2 (L : Nat) : enc L 2 = [byteOf L 1, byteOf L 0] := by simp [enc, List.range_succ]

set_option maxHeartbeats 1000000 in
theorem write_big (k f : UInt8) (A : Option Addr) (n c : Nat) (w : World) (h : 65531 < n) :
    Calls Try.prog 34 #[.agg #[.int .u8 (k.toNat : Int), .int .u8 (f.toNat : Int), .slice A n c]] w fun e w' => e = .returned (.slice none 0 0) ∧ Below w.heap.size w w' := by
  go_enter Try.func34, Try.ntmps34
  go_wp2
  go_ret
  exact ⟨rfl, below_new w _⟩
set_option maxHeartbeats 1000000 in
theorem refWrite_big (k f : UInt8) (A : Option Addr) (n c : Nat) (w : World) (h : 65531 < n) :
    Calls Try.prog 56 #[.agg #[.int .u8 (k.toNat : Int), .int .u8 (f.toNat : Int), .slice A n c]] w fun e w' => e = .returned (.slice none 0 0) ∧ Below w.heap.size w w' := by
  go_enter Try.func56, Try.ntmps56
  go_wp2
  go_ret
  exact ⟨rfl, below_new w _⟩

set_option maxHeartbeats 1000000 in
theorem write_small (k f : UInt8) (A : Option Addr) (n c : Nat) (xs : List UInt8) (w : World) (h : n ≤ 65531) (hx : xs.length = n) (hr : Rd w w.heap.size A xs) :
    Calls Try.prog 34 #[.agg #[.int .u8 (k.toNat : Int), .int .u8 (f.toNat : Int), .slice A n c]] w fun e w' => ∃ A2 m c2, e = .returned (.slice A2 m c2) ∧ Own8 w' 5 w.heap.size A2 m c2 (wrt k f xs) ∧ Below w.heap.size w w' := by
  obtain ⟨i8, h8⟩ := Try.ty8
  have hk := k.toNat_lt
  have hf := f.toNat_lt
  have HX := Lib.hid hx
  have HB0 : Hid (Blk (w.alloc (.cells #[.int .u8 (k.toNat : Int), .int .u8 (f.toNat : Int), .slice A n c] 41)) w.heap.size 41 #[.int .u8 (k.toNat : Int), .int .u8 (f.toNat : Int), .slice A n c]) := Blk.new _ _ _
  have hr1 := (hr.alloc (Nat.le_refl _) (.cells #[.int .u8 (k.toNat : Int), .int .u8 (f.toNat : Int), .slice A n c] 41))
  have HW : Hid (wrt k f xs = pd (([] ++ enc k.toNat 1) ++ enc f.toNat 1 ++ enc (4 + n) 2 ++ xs)) := Lib.hid (by rw [wrt_small (by omega), hx, enc1, enc1, enc2]; rfl)
  have HL : Hid (((([] ++ enc k.toNat 1) ++ enc f.toNat 1 ++ enc (4 + n) 2 ++ xs)).length = 4 + n) := Lib.hid (by simp [enc1, enc2, hx]; omega)
  have HL1 : Hid ((([] : List UInt8) ++ enc k.toNat 1).length = 1) := Lib.hid (by simp [enc1])
  have HL2 : Hid (((([] : List UInt8) ++ enc k.toNat 1) ++ enc f.toNat 1).length = 2) := Lib.hid (by simp [enc1])
  clear hx hr
  go_enter Try.func34, Try.ntmps34
  go_wp2_with fail
  refine (put_yes none 0 0 k.toNat 1 [] _ (by omega) (by omega) rfl (Rd.nil _ _ _) (.inl rfl)).mono ?_
  rintro e w1 ⟨g1, rfl, hg1, hrow1, hb1⟩
  have hB1 := HB0.out.below hb1 HB0.out.lt
  have f10 : w1.cell? ⟨w.heap.size, 1, none⟩ = some (.int .u8 (f.toNat : Int)) := hB1.cell 1
  have HB1 := Lib.hid hB1
  clear hB1
  go_wp2_with fail
  refine (put_yes _ (0 + 1) _ f.toNat 1 _ w1 (by omega) (by omega) HL1.out (hrow1.rd 0 _ (fun j hj => by rw [Nat.zero_add])) (.inl rfl)).mono ?_
  rintro e w2 ⟨g2, rfl, hg2, hrow2, hb2⟩
  have hB2 := HB1.out.below hb2 HB1.out.lt
  have f22 : w2.cell? ⟨w.heap.size, 2, none⟩ = some (.slice A n c) := hB2.cell 2
  have HB2 := Lib.hid hB2
  clear hB2
  go_wp2_with fail
  refine (put_yes _ (0 + 1 + 1) _ (4 + n) 2 _ w2 (by omega) (by omega) HL2.out (hrow2.rd 0 _ (fun j hj => by rw [Nat.zero_add])) (.inr (.inl rfl))).mono ?_
  rintro e w3 ⟨g3, rfl, hg3, hrow3, hb3⟩
  have hB3 := HB2.out.below hb3 HB2.out.lt
  have f32 : w3.cell? ⟨w.heap.size, 2, none⟩ = some (.slice A n c) := hB3.cell 2
  have hz := hb1.size
  have hz2 := hb2.size
  have hz3 := hb3.size
  have ho3 : Own8 w3 5 w.heap.size _ (4 + n - n) (4 + n - n) _ := Own8.of_row hrow3 (by simp at hz; omega) (by simp [enc1, enc2]) (by unfold maxLen; omega)
  have hr3 : Rd w3 w.heap.size A xs := (((hr1.below (hb1.mono (by simp))).below (hb2.mono (by simp at hz; omega))).below (hb3.mono (by simp at hz; omega)))
  have HBW : Hid (Below w.heap.size w w3) := below_then (below_then (below_then (below_new w _) (Nat.le_refl _) hb1) (Nat.le_refl _) hb2) (Nat.le_refl _) hb3
  rw [show 4 + n - n = 0 + 1 + 1 + 2 by omega] at ho3
  have hzz : w.heap.size ≤ w3.heap.size := HBW.out.size
  clear hB3 hrow3 hrow1 hrow2 hb1 hb2 hb3 hr1
  go_wp2_with (at_builtin; refine wpList_append8 h8 _ rfl _ _ rfl w.heap.size _ _ _ _ rfl ho3 _ _ _ _ _ rfl HX.out hr3 (by omega) hzz ?_; intro A4 c4 w4 ho4 hg4 hh4)
  have hbw4 := HBW.out.grown hg4 hzz ho3.blk
  have hl4 := ho4.len
  have hpad := pad_any A4 (0 + 1 + 1 + 2 + n) c4 _ w4 (by omega) hl4 ho4.rd
  have HH := Lib.hid hbw4
  clear hbw4 ho4 hg4 ho3
  go_wp2_with fail
  refine hpad.mono ?_
  rintro e w5 ⟨g5, rfl, hg5, hrow5, hb5⟩
  go_wp2_with fail
  go_ret
  refine ⟨_, _, _, rfl, ?_, below_then HH.out (Nat.le_refl _) hb5⟩
  rw [HW.out, pd, HL.out, show 4 + n = 0 + 1 + 1 + 2 + n by omega]
  exact Own8.of_row hrow5 (Nat.le_trans HH.out.size hg5) (by rw [List.length_append, hl4, List.length_replicate]; have := up4_bd (0 + 1 + 1 + 2 + n); omega) (by have := up4_bd (0 + 1 + 1 + 2 + n); unfold maxLen; omega)

theorem row8_two (a b : UInt8) : #[Value.int .u8 (a.toNat : Int), Value.int .u8 (b.toNat : Int)] = row8 [a, b] := rfl

set_option maxHeartbeats 1000000 in
theorem refWrite_small (k f : UInt8) (A : Option Addr) (n c : Nat) (xs : List UInt8) (w : World) (h : n ≤ 65531) (hx : xs.length = n) (hr : Rd w w.heap.size A xs) :
    Calls Try.prog 56 #[.agg #[.int .u8 (k.toNat : Int), .int .u8 (f.toNat : Int), .slice A n c]] w fun e w' => ∃ A2 m c2, e = .returned (.slice A2 m c2) ∧ Own8 w' 5 w.heap.size A2 m c2 (wrt k f xs) ∧ Below w.heap.size w w' := by
  obtain ⟨i8, h8⟩ := Try.ty8
  have HX := Lib.hid hx
  have hB0 : Blk (w.alloc (.cells #[.int .u8 (k.toNat : Int), .int .u8 (f.toNat : Int), .slice A n c] 41)) w.heap.size 41 #[.int .u8 (k.toNat : Int), .int .u8 (f.toNat : Int), .slice A n c] := Blk.new _ _ _
  have hB1 := hB0.alloc (.cells #[.int .u8 (k.toNat : Int), .int .u8 (f.toNat : Int)] 5)
  have hr1 := (hr.alloc (Nat.le_refl _) (.cells #[.int .u8 (k.toNat : Int), .int .u8 (f.toNat : Int), .slice A n c] 41)).alloc (by simp) (.cells #[.int .u8 (k.toNat : Int), .int .u8 (f.toNat : Int)] 5)
  have hrow1 : RowAt ((w.alloc (.cells #[.int .u8 (k.toNat : Int), .int .u8 (f.toNat : Int), .slice A n c] 41)).alloc (.cells #[.int .u8 (k.toNat : Int), .int .u8 (f.toNat : Int)] 5)) 5 (w.heap.size + 1) [k, f] := by
    have := RowAt.new (w.alloc (.cells #[.int .u8 (k.toNat : Int), .int .u8 (f.toNat : Int), .slice A n c] 41)) 5 [k, f]
    simpa [row8] using this
  have hbw1 : Below w.heap.size w ((w.alloc (.cells #[.int .u8 (k.toNat : Int), .int .u8 (f.toNat : Int), .slice A n c] 41)).alloc (.cells #[.int .u8 (k.toNat : Int), .int .u8 (f.toNat : Int)] 5)) := ((below_new w _).alloc (by simp) _)
  have HW : Hid (wrt k f xs = pd ([k, f] ++ enc (4 + n) 2 ++ xs)) := Lib.hid (by rw [wrt_small (by omega), hx, enc2]; rfl)
  have HL : Hid (([k, f] ++ enc (4 + n) 2 ++ xs).length = 4 + n) := Lib.hid (by simp [enc2, hx]; omega)
  clear hx hr hB0
  go_enter Try.func56, Try.ntmps56
  go_wp2_with fail
  generalize (w.alloc (.cells #[.int .u8 (k.toNat : Int), .int .u8 (f.toNat : Int), .slice A n c] 41)).alloc (.cells #[.int .u8 (k.toNat : Int), .int .u8 (f.toNat : Int)] 5) = w1 at hr1 hrow1 hbw1 hB1 ⊢
  have hzz1 := hbw1.size
  have hrd1 := hrow1.rd 0 [k, f] (fun j hj => by rw [Nat.zero_add])
  have HBW1 := Lib.hid hbw1
  have HB1 := Lib.hid hB1
  clear hbw1 hB1
  refine (refPut_yes _ 2 2 (4 + n) 2 [k, f] w1 (by omega) (by omega) rfl hrd1 (.inr (.inl rfl))).mono ?_
  rintro e w2 ⟨A2, c2, rfl, ho2, hb2⟩
  have hB2 := HB1.out.below hb2 HB1.out.lt
  have f22 : w2.cell? ⟨w.heap.size, 2, none⟩ = some (.slice A n c) := hB2.cell 2
  have HBW2 : Hid (Below w.heap.size w w2) := below_then HBW1.out (Nat.le_refl _) hb2
  have hr2 : Rd w2 w.heap.size A xs := hr1.below (hb2.mono hzz1)
  have hzz : w.heap.size ≤ w2.heap.size := HBW2.out.size
  have ho2 := ho2.more hzz1
  clear hB2 hb2 hr1 hrow1 hrd1
  go_wp2_with (at_builtin; refine wpList_append8 h8 _ rfl _ _ rfl w.heap.size _ _ _ _ rfl ho2 _ _ _ _ _ rfl HX.out hr2 (by omega) hzz ?_; intro A4 c4 w4 ho4 hg4 hh4)
  have hbw4 := HBW2.out.grown hg4 hzz ho2.blk
  have hl4 := ho4.len
  have hpad := refPad_any A4 (2 + 2 + n) c4 _ w4 (by omega) hl4 ho4.rd
  have HH := Lib.hid hbw4
  clear hbw4 ho4 hg4 ho2
  go_wp2_with fail
  refine hpad.mono ?_
  rintro e w5 ⟨A5, c5, rfl, ho5, hb5⟩
  go_wp2_with fail
  go_ret
  refine ⟨_, _, _, rfl, ?_, below_then HH.out (Nat.le_refl _) hb5⟩
  rw [HW.out, pd, HL.out, show 4 + n = 2 + 2 + n by omega]
  exact ho5.more HH.out.size

theorem write_any (k f : UInt8) (A : Option Addr) (n c : Nat) (xs : List UInt8) (w : World) (hx : xs.length = n) (hr : Rd w w.heap.size A xs) :
    Calls Try.prog 34 #[.agg #[.int .u8 (k.toNat : Int), .int .u8 (f.toNat : Int), .slice A n c]] w fun e w' => ∃ A2 m c2, e = .returned (.slice A2 m c2) ∧ Own8 w' 5 w.heap.size A2 m c2 (wrt k f xs) ∧ Below w.heap.size w w' := by
  by_cases h : n ≤ 65531
  · exact write_small k f A n c xs w h hx hr
  · refine (write_big k f A n c w (by omega)).mono fun e w' ⟨he, hb⟩ => ⟨_, _, _, he, ?_, hb⟩
    rw [wrt_big (by omega)]
    exact Own8.nil _ _ _
theorem refWrite_any (k f : UInt8) (A : Option Addr) (n c : Nat) (xs : List UInt8) (w : World) (hx : xs.length = n) (hr : Rd w w.heap.size A xs) :
    Calls Try.prog 56 #[.agg #[.int .u8 (k.toNat : Int), .int .u8 (f.toNat : Int), .slice A n c]] w fun e w' => ∃ A2 m c2, e = .returned (.slice A2 m c2) ∧ Own8 w' 5 w.heap.size A2 m c2 (wrt k f xs) ∧ Below w.heap.size w w' := by
  by_cases h : n ≤ 65531
  · exact refWrite_small k f A n c xs w h hx hr
  · refine (refWrite_big k f A n c w (by omega)).mono fun e w' ⟨he, hb⟩ => ⟨_, _, _, he, ?_, hb⟩
    rw [wrt_big (by omega)]
    exact Own8.nil _ _ _
end Go.Proofs.Ytifmhlbeodfpeaa

namespace Go.Proofs.Ytifmhlbeodfpeaa
open Go.RowKit
set_option linter.unusedVariables false

theorem nat_of_u16 {a : Int} (h : (Lit.int .u16 a).wf = true) : ∃ n : Nat, a = n ∧ n < 65536 := by
  have hb : 0 ≤ a ∧ a ≤ 65535 := by simpa [Lit.wf, IntKind.min, IntKind.max, IntKind.signed, IntKind.bits] using h
  exact ⟨a.toNat, by omega, by omega⟩
theorem Rd.take_ {w : World} {B : Nat} {A : Option Addr} {xs : List UInt8} (h : Rd w B A xs) (k : Nat) : Rd w B A (xs.take k) := by
  rcases h with rfl | ⟨b, o, ha, hb, hc⟩
  · exact .inl (by simp)
  · refine .inr ⟨b, o, ha, hb, fun j x hx => hc j x ?_⟩
    rw [List.getElem?_take] at hx
    split at hx
    · exact hx
    · cases hx
theorem mod_nat (c n : Nat) : (c : Int) % ((n : Int) + 1) = ((c % (n + 1) : Nat) : Int) := by rw [Int.natCast_emod]; rfl
theorem byte_of {a : Int} (h : (Lit.int .u8 a).wf = true) : ∃ t : UInt8, a = (t.toNat : Int) := by
  have hb : 0 ≤ a ∧ a ≤ 255 := by simpa [Lit.wf, IntKind.min, IntKind.max, IntKind.signed, IntKind.bits] using h
  exact ⟨UInt8.ofNat a.toNat, by rw [UInt8.toNat_ofNat']; omega⟩
end Go.Proofs.Ytifmhlbeodfpeaa
