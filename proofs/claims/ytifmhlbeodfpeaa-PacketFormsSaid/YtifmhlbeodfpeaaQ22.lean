/-
  Package chunk: Read, where there is no chunk.
-/
import Derived.Test.YtifmhlbeodfpeaaQ13
namespace Go.Proofs.Ytifmhlbeodfpeaa
open Go.RowKit
set_option linter.unusedVariables false

set_option maxHeartbeats 10000000 in
theorem read_long (A : Option Addr) (n c : Nat) (xs : List UInt8) (w : World) (hn : n ≤ 140737488355300) (hc : n ≤ c) (hcm : c ≤ maxLen) (hx : xs.length = n) (hr : Rd w w.heap.size A xs) (hn4 : 4 ≤ n) (h4 : 4 ≤ clen xs) (hLn : n < clen xs) :
    Calls Try.prog 60 #[.slice A n c] w fun e w' => e = .returned noChunk ∧ Below w.heap.size w w' := by
  have hz := zero_chunk
  have HC : Hid (∀ W : World, Below w.heap.size w W → Calls Try.prog 44 #[.slice A n c, .int .i64 2, .int .i64 2] W fun e w' => e = .returned (.tuple #[.int .u64 (clen xs), .int .i64 0]) ∧ W = w') := Lib.hid fun W hW => get_yes w.heap.size A n c 2 2 xs W (by unfold maxLen; omega) hx (hr.below hW) (.inr (.inl rfl)) (by omega)
  have hLM := clen_lt xs
  obtain ⟨L, hL⟩ : ∃ L, L = clen xs := ⟨_, rfl⟩
  rw [← hL] at HC h4 hLM hLn
  obtain ⟨U, hU⟩ : ∃ U, U = up4 4 := ⟨_, rfl⟩
  have hLU := up4_bd 4
  rw [← hU] at hLU
  have HL := Lib.hid hL
  have HU := Lib.hid hU
  have hUn : U ≤ n := by rw [hU]; exact hn4
  have HX := Lib.hid hx
  have HR := Lib.hid hr
  clear hL hU hx hr
  go_enter Try.func60, Try.ntmps60
  go_wp2_with fail
  refine (HC.out _ ((below_new w _).alloc (by simp) _)).mono ?_
  rintro e w1 ⟨rfl, rfl⟩
  go_wp2_with fail
  have P1 : Blk (((w.alloc (.cells #[.slice A n c] 29)).alloc (.cells #[.int .u8 0, .int .u8 0, .slice none 0 0] 41)).alloc (.cells #[.int .i64 4] 3)) w.heap.size 29 #[.slice A n c] := ((Blk.new _ _ _).alloc _).alloc _
  have R1 : Blk (((w.alloc (.cells #[.slice A n c] 29)).alloc (.cells #[.int .u8 0, .int .u8 0, .slice none 0 0] 41)).alloc (.cells #[.int .i64 4] 3)) (w.heap.size + 1) 41 #[.int .u8 0, .int .u8 0, .slice none 0 0] := by
    have := (Blk.new (w.alloc (.cells #[.slice A n c] 29)) 41 #[.int .u8 0, .int .u8 0, .slice none 0 0]).alloc (.cells #[.int .i64 4] 3)
    rwa [show (w.alloc (.cells #[.slice A n c] 29)).heap.size = w.heap.size + 1 by simp] at this
  have Q1 : Blk (((w.alloc (.cells #[.slice A n c] 29)).alloc (.cells #[.int .u8 0, .int .u8 0, .slice none 0 0] 41)).alloc (.cells #[.int .i64 4] 3)) (w.heap.size + 1 + 1) 3 #[.int .i64 4] := by
    have := Blk.new ((w.alloc (.cells #[.slice A n c] 29)).alloc (.cells #[.int .u8 0, .int .u8 0, .slice none 0 0] 41)) 3 #[.int .i64 4]
    rwa [show ((w.alloc (.cells #[.slice A n c] 29)).alloc (.cells #[.int .u8 0, .int .u8 0, .slice none 0 0] 41)).heap.size = w.heap.size + 1 + 1 by simp] at this
  have B1 : Below w.heap.size w (((w.alloc (.cells #[.slice A n c] 29)).alloc (.cells #[.int .u8 0, .int .u8 0, .slice none 0 0] 41)).alloc (.cells #[.int .i64 4] 3)) := ((below_new w _).alloc (by simp) _).alloc (by simp; omega) _
  rw [show (L : Int) - 4 = ((L - 4 : Nat) : Int) from by omega]
  generalize (((w.alloc (.cells #[.slice A n c] 29)).alloc (.cells #[.int .u8 0, .int .u8 0, .slice none 0 0] 41)).alloc (.cells #[.int .i64 4] 3)) = w1 at P1 R1 Q1 B1 ⊢
  obtain ⟨q, hq⟩ : ∃ q, q = w.heap.size + 1 + 1 := ⟨_, rfl⟩
  obtain ⟨r, hr⟩ : ∃ r, r = w.heap.size + 1 := ⟨_, rfl⟩
  rw [← hr] at R1
  rw [← hr] at hq
  rw [← hr, ← hq]
  rw [← hr, ← hq] at Q1
  have hqr : q ≠ r := by omega
  have hrq : r ≠ q := by omega
  have hpq : w.heap.size ≠ q := by omega
  have hpr : w.heap.size ≤ r := by omega
  have hpq' : w.heap.size ≤ q := by omega
  have HCT := Lib.hid (take_no A n c 4 (L - 4) w.heap.size q w1 hn hn4 (by omega) P1 Q1)
  replace P1 := Lib.hid P1
  replace R1 := Lib.hid R1
  replace Q1 := Lib.hid Q1
  replace B1 := Lib.hid B1
  have HRR := Lib.hid hr
  have HQQ := Lib.hid hq
  clear hr hq
  refine HCT.out.mono ?_
  rintro e w3 ⟨rfl, rfl⟩
  clear HCT
  obtain ⟨a, ha⟩ : ∃ a : Nat, a = 4 := ⟨_, rfl⟩
  rw [← ha]
  have P2 := Lib.hid (P1.out.far (p := ⟨q, 0, none⟩) (by simpa using hpq) (.int .i64 (a : Nat)))
  have R2 := Lib.hid (R1.out.far (p := ⟨q, 0, none⟩) (by simpa using hrq) (.int .i64 (a : Nat)))
  have Q2 := Lib.hid (Q1.out.set_ 0 (.int .i64 (a : Nat)))
  have B2 := Lib.hid (B1.out.setCell (p := ⟨q, 0, none⟩) hpq' (.int .i64 (a : Nat)))
  generalize w1.setCell ⟨q, 0, none⟩ (.int .i64 (a : Nat)) = w3 at P2 R2 Q2 B2 ⊢
  have g2 : w3.cell? ⟨q, 0, none⟩ = some (.int .i64 a) := Q2.out.cell 0
  have haU : a ≤ U ∧ U ≤ a + 3 := by omega
  have hab : a < 65536 := by omega
  have HAA := Lib.hid ha
  clear ha hLU
  go_wp2_with fail
  have HRD := Lib.hid (fun W : World => round_yes (a : Int) (by omega) (by omega) W)
  have HU3 : Hid (((a : Int) + 3) / 4 * 4 = (U : Int)) := Lib.hid (by rw [HU.out, HAA.out]; exact up4_int _)
  have HWR : Hid (IntKind.i64.wrap ((U : Int) - a) = ((U - a : Nat) : Int)) := Lib.hid (by rw [show (U : Int) - a = ((U - a : Nat) : Int) from by omega]; exact wrap_nat64 (by omega))
  have HCT2 := Lib.hid (take_yes A n c a (U - a) U w.heap.size q (by omega) xs w3.drew hn hc hcm HX.out ((HR.out.below B2.out).more B2.out.size) (by omega) (P2.out.drewN 1) (Q2.out.drewN 1))
  go_region_with (first
    | (go_at_call 36; refine (HRD.out _).mono ?_; rintro e w4 ⟨rfl, rfl⟩; rw [HU3.out])
    | (go_at_call 65; rw [HWR.out]; refine HCT2.out.mono ?_; rintro e w5 ⟨A3, c3, w4, rfl, rfl, ho4, hb4⟩))
  all_goals
    have R4 := Lib.hid (((R2.out.drewN 1).below hb4 (R2.out.drewN 1).lt).far (p := ⟨q, 0, none⟩) (by simpa using hrq) (.int .i64 (U : Nat)))
    have B4 := Lib.hid ((below_then (below_drewN B2.out 1) (Nat.le_refl _) hb4).setCell (p := ⟨q, 0, none⟩) hpq' (.int .i64 (U : Nat)))
    have hqlt := Q2.out.lt
    have O5 : Hid (Own8 (w4.setCell ⟨q, 0, none⟩ (.int .i64 (U : Nat))) 5 w3.drew.heap.size A3 (U - a) c3 ((xs.drop a).take (U - a))) := Lib.hid (ho4.keep fun g hg => Below.heap_setCell w4 ⟨q, 0, none⟩ _ g (by have := (ho4.lt g hg).1; have : w3.drew.heap.size = w3.heap.size := rfl; simp; omega))
    clear ho4 hb4 HCT2
    generalize w4.setCell ⟨q, 0, none⟩ (.int .i64 (U : Nat)) = w5 at R4 B4 O5 ⊢
    obtain ⟨w6, hw6⟩ : ∃ w6, w6 = w5 := ⟨_, rfl⟩
    subst hw6
    have R6 := R4.out
    have B6 := B4
    have j3 : w6.cell? ⟨r, 0, none⟩ = some (.int .u8 0) := R6.cell 0
    have j4 : w6.cell? ⟨r, 1, none⟩ = some (.int .u8 0) := R6.cell 1
    have j5 : w6.cell? ⟨r, 2, none⟩ = some (.slice none 0 0) := R6.cell 2
    have k3 := R6.frozen 0
    have k4 := R6.frozen 1
    have k5 := R6.frozen 2
    have R6 := Lib.hid R6
    go_wp2_with fail
    refine bodyPost_ret (v := noChunk) ?_ rfl ⟨rfl, ?_⟩
    · simp [noChunk, results, Try.results60, go_sem, j3, j4, j5]
    · exact ((B6.out.setCell (p := ⟨r, 0, none⟩) hpr _).setCell (p := ⟨r, 1, none⟩) hpr _).setCell (p := ⟨r, 2, none⟩) hpr _

set_option maxHeartbeats 10000000 in
theorem read_cut (A : Option Addr) (n c : Nat) (xs : List UInt8) (w : World) (hn : n ≤ 140737488355300) (hc : n ≤ c) (hcm : c ≤ maxLen) (hx : xs.length = n) (hr : Rd w w.heap.size A xs) (hn4 : 4 ≤ n) (h4 : 4 ≤ clen xs) (hLn : clen xs ≤ n) (hUn : n < up4 (clen xs)) :
    Calls Try.prog 60 #[.slice A n c] w fun e w' => e = .returned noChunk ∧ Below w.heap.size w w' := by
  have hz := zero_chunk
  have HC : Hid (∀ W : World, Below w.heap.size w W → Calls Try.prog 44 #[.slice A n c, .int .i64 2, .int .i64 2] W fun e w' => e = .returned (.tuple #[.int .u64 (clen xs), .int .i64 0]) ∧ W = w') := Lib.hid fun W hW => get_yes w.heap.size A n c 2 2 xs W (by unfold maxLen; omega) hx (hr.below hW) (.inr (.inl rfl)) (by omega)
  have hLM := clen_lt xs
  obtain ⟨L, hL⟩ : ∃ L, L = clen xs := ⟨_, rfl⟩
  rw [← hL] at HC h4 hLM hLn hUn
  obtain ⟨U, hU⟩ : ∃ U, U = up4 L := ⟨_, rfl⟩
  have hLU := up4_bd L
  rw [← hU] at hLU hUn
  have HL := Lib.hid hL
  have HU := Lib.hid hU
  have HX := Lib.hid hx
  have HR := Lib.hid hr
  clear hL hU hx hr
  go_enter Try.func60, Try.ntmps60
  go_wp2_with fail
  refine (HC.out _ ((below_new w _).alloc (by simp) _)).mono ?_
  rintro e w1 ⟨rfl, rfl⟩
  go_wp2_with fail
  have P1 : Blk (((w.alloc (.cells #[.slice A n c] 29)).alloc (.cells #[.int .u8 0, .int .u8 0, .slice none 0 0] 41)).alloc (.cells #[.int .i64 4] 3)) w.heap.size 29 #[.slice A n c] := ((Blk.new _ _ _).alloc _).alloc _
  have R1 : Blk (((w.alloc (.cells #[.slice A n c] 29)).alloc (.cells #[.int .u8 0, .int .u8 0, .slice none 0 0] 41)).alloc (.cells #[.int .i64 4] 3)) (w.heap.size + 1) 41 #[.int .u8 0, .int .u8 0, .slice none 0 0] := by
    have := (Blk.new (w.alloc (.cells #[.slice A n c] 29)) 41 #[.int .u8 0, .int .u8 0, .slice none 0 0]).alloc (.cells #[.int .i64 4] 3)
    rwa [show (w.alloc (.cells #[.slice A n c] 29)).heap.size = w.heap.size + 1 by simp] at this
  have Q1 : Blk (((w.alloc (.cells #[.slice A n c] 29)).alloc (.cells #[.int .u8 0, .int .u8 0, .slice none 0 0] 41)).alloc (.cells #[.int .i64 4] 3)) (w.heap.size + 1 + 1) 3 #[.int .i64 4] := by
    have := Blk.new ((w.alloc (.cells #[.slice A n c] 29)).alloc (.cells #[.int .u8 0, .int .u8 0, .slice none 0 0] 41)) 3 #[.int .i64 4]
    rwa [show ((w.alloc (.cells #[.slice A n c] 29)).alloc (.cells #[.int .u8 0, .int .u8 0, .slice none 0 0] 41)).heap.size = w.heap.size + 1 + 1 by simp] at this
  have B1 : Below w.heap.size w (((w.alloc (.cells #[.slice A n c] 29)).alloc (.cells #[.int .u8 0, .int .u8 0, .slice none 0 0] 41)).alloc (.cells #[.int .i64 4] 3)) := ((below_new w _).alloc (by simp) _).alloc (by simp; omega) _
  rw [show (L : Int) - 4 = ((L - 4 : Nat) : Int) from by omega]
  generalize (((w.alloc (.cells #[.slice A n c] 29)).alloc (.cells #[.int .u8 0, .int .u8 0, .slice none 0 0] 41)).alloc (.cells #[.int .i64 4] 3)) = w1 at P1 R1 Q1 B1 ⊢
  obtain ⟨q, hq⟩ : ∃ q, q = w.heap.size + 1 + 1 := ⟨_, rfl⟩
  obtain ⟨r, hr⟩ : ∃ r, r = w.heap.size + 1 := ⟨_, rfl⟩
  rw [← hr] at R1
  rw [← hr] at hq
  rw [← hr, ← hq]
  rw [← hr, ← hq] at Q1
  have hqr : q ≠ r := by omega
  have hrq : r ≠ q := by omega
  have hpq : w.heap.size ≠ q := by omega
  have hpr : w.heap.size ≤ r := by omega
  have hpq' : w.heap.size ≤ q := by omega
  have HCT := Lib.hid (take_yes A n c 4 (L - 4) L w.heap.size q (by omega) xs w1 hn hc hcm HX.out ((HR.out.below B1).more B1.size) (by omega) P1 Q1)
  replace P1 := Lib.hid P1
  replace R1 := Lib.hid R1
  replace Q1 := Lib.hid Q1
  replace B1 := Lib.hid B1
  have HRR := Lib.hid hr
  have HQQ := Lib.hid hq
  clear hr hq
  refine HCT.out.mono ?_
  rintro e w2' ⟨A2, c2, w2, rfl, rfl, ho2, hb2⟩
  clear HCT
  obtain ⟨a, ha⟩ : ∃ a : Nat, a = L := ⟨_, rfl⟩
  rw [← ha]
  have P2 := Lib.hid ((P1.out.below hb2 P1.out.lt).far (p := ⟨q, 0, none⟩) (by simpa using hpq) (.int .i64 (a : Nat)))
  have R2 := Lib.hid ((R1.out.below hb2 R1.out.lt).far (p := ⟨q, 0, none⟩) (by simpa using hrq) (.int .i64 (a : Nat)))
  have Q2 := Lib.hid ((Q1.out.below hb2 Q1.out.lt).set_ 0 (.int .i64 (a : Nat)))
  have B2 := Lib.hid ((below_then B1.out (Nat.le_refl _) hb2).setCell (p := ⟨q, 0, none⟩) hpq' (.int .i64 (a : Nat)))
  clear ho2 hb2
  generalize w2.setCell ⟨q, 0, none⟩ (.int .i64 (a : Nat)) = w3 at P2 R2 Q2 B2 ⊢
  have g2 : w3.cell? ⟨q, 0, none⟩ = some (.int .i64 a) := Q2.out.cell 0
  have haU : a ≤ U ∧ U ≤ a + 3 := by omega
  have hab : a < 65536 := by omega
  have HAA := Lib.hid ha
  clear ha hLU
  go_wp2_with fail
  have HRD := Lib.hid (fun W : World => round_yes (a : Int) (by omega) (by omega) W)
  have HU3 : Hid (((a : Int) + 3) / 4 * 4 = (U : Int)) := Lib.hid (by rw [HU.out, HAA.out]; exact up4_int _)
  have HWR : Hid (IntKind.i64.wrap ((U : Int) - a) = ((U - a : Nat) : Int)) := Lib.hid (by rw [show (U : Int) - a = ((U - a : Nat) : Int) from by omega]; exact wrap_nat64 (by omega))
  have HCT2 := Lib.hid (take_no A n c a (U - a) w.heap.size q w3.drew hn (by have := HAA.out; omega) (by omega) (P2.out.drewN 1) (Q2.out.drewN 1))
  go_region_with (first
    | (go_at_call 36; refine (HRD.out _).mono ?_; rintro e w4 ⟨rfl, rfl⟩; rw [HU3.out])
    | (go_at_call 65; rw [HWR.out]; refine HCT2.out.mono ?_; rintro e w5 ⟨rfl, rfl⟩))
  all_goals
    have R4 : Hid (Blk (w3.setCell ⟨q, 0, none⟩ (.int .i64 (a : Nat))).drew r 41 #[.int .u8 0, .int .u8 0, .slice none 0 0]) := Lib.hid ((R2.out.far (p := ⟨q, 0, none⟩) (by simpa using hrq) (.int .i64 (a : Nat))).drewN 1)
    have B4 : Hid (Below w.heap.size w (w3.setCell ⟨q, 0, none⟩ (.int .i64 (a : Nat))).drew) := Lib.hid (below_drewN (B2.out.setCell (p := ⟨q, 0, none⟩) hpq' (.int .i64 (a : Nat))) 1)
    clear HCT2
    generalize (w3.setCell ⟨q, 0, none⟩ (.int .i64 (a : Nat))).drew = w5 at R4 B4 ⊢
    obtain ⟨w6, hw6⟩ : ∃ w6, w6 = w5 := ⟨_, rfl⟩
    subst hw6
    have R6 := R4.out
    have B6 := B4
    have j3 : w6.cell? ⟨r, 0, none⟩ = some (.int .u8 0) := R6.cell 0
    have j4 : w6.cell? ⟨r, 1, none⟩ = some (.int .u8 0) := R6.cell 1
    have j5 : w6.cell? ⟨r, 2, none⟩ = some (.slice none 0 0) := R6.cell 2
    have k3 := R6.frozen 0
    have k4 := R6.frozen 1
    have k5 := R6.frozen 2
    have R6 := Lib.hid R6
    go_wp2_with fail
    refine bodyPost_ret (v := noChunk) ?_ rfl ⟨rfl, ?_⟩
    · simp [noChunk, results, Try.results60, go_sem, j3, j4, j5]
    · exact ((B6.out.setCell (p := ⟨r, 0, none⟩) hpr _).setCell (p := ⟨r, 1, none⟩) hpr _).setCell (p := ⟨r, 2, none⟩) hpr _

set_option maxHeartbeats 10000000 in
theorem read_bad (A : Option Addr) (n c : Nat) (xs : List UInt8) (w : World) (hn : n ≤ 140737488355300) (hc : n ≤ c) (hcm : c ≤ maxLen) (hx : xs.length = n) (hr : Rd w w.heap.size A xs) (hn4 : 4 ≤ n) (h4 : 4 ≤ clen xs) (hUn : up4 (clen xs) ≤ n) (hbad : ¬ ∀ x ∈ (xs.drop (clen xs)).take (up4 (clen xs) - clen xs), x = 0) :
    Calls Try.prog 60 #[.slice A n c] w fun e w' => e = .returned noChunk ∧ Below w.heap.size w w' := by
  have hz := zero_chunk
  have HC : Hid (∀ W : World, Below w.heap.size w W → Calls Try.prog 44 #[.slice A n c, .int .i64 2, .int .i64 2] W fun e w' => e = .returned (.tuple #[.int .u64 (clen xs), .int .i64 0]) ∧ W = w') := Lib.hid fun W hW => get_yes w.heap.size A n c 2 2 xs W (by unfold maxLen; omega) hx (hr.below hW) (.inr (.inl rfl)) (by omega)
  have hLM := clen_lt xs
  obtain ⟨L, hL⟩ : ∃ L, L = clen xs := ⟨_, rfl⟩
  rw [← hL] at HC h4 hLM hUn hbad
  obtain ⟨U, hU⟩ : ∃ U, U = up4 L := ⟨_, rfl⟩
  have hLU := up4_bd L
  rw [← hU] at hLU hUn hbad
  have HL := Lib.hid hL
  have HU := Lib.hid hU
  have HBAD := Lib.hid hbad
  clear hbad
  have HX := Lib.hid hx
  have HR := Lib.hid hr
  clear hL hU hx hr
  go_enter Try.func60, Try.ntmps60
  go_wp2_with fail
  refine (HC.out _ ((below_new w _).alloc (by simp) _)).mono ?_
  rintro e w1 ⟨rfl, rfl⟩
  go_wp2_with fail
  have P1 : Blk (((w.alloc (.cells #[.slice A n c] 29)).alloc (.cells #[.int .u8 0, .int .u8 0, .slice none 0 0] 41)).alloc (.cells #[.int .i64 4] 3)) w.heap.size 29 #[.slice A n c] := ((Blk.new _ _ _).alloc _).alloc _
  have R1 : Blk (((w.alloc (.cells #[.slice A n c] 29)).alloc (.cells #[.int .u8 0, .int .u8 0, .slice none 0 0] 41)).alloc (.cells #[.int .i64 4] 3)) (w.heap.size + 1) 41 #[.int .u8 0, .int .u8 0, .slice none 0 0] := by
    have := (Blk.new (w.alloc (.cells #[.slice A n c] 29)) 41 #[.int .u8 0, .int .u8 0, .slice none 0 0]).alloc (.cells #[.int .i64 4] 3)
    rwa [show (w.alloc (.cells #[.slice A n c] 29)).heap.size = w.heap.size + 1 by simp] at this
  have Q1 : Blk (((w.alloc (.cells #[.slice A n c] 29)).alloc (.cells #[.int .u8 0, .int .u8 0, .slice none 0 0] 41)).alloc (.cells #[.int .i64 4] 3)) (w.heap.size + 1 + 1) 3 #[.int .i64 4] := by
    have := Blk.new ((w.alloc (.cells #[.slice A n c] 29)).alloc (.cells #[.int .u8 0, .int .u8 0, .slice none 0 0] 41)) 3 #[.int .i64 4]
    rwa [show ((w.alloc (.cells #[.slice A n c] 29)).alloc (.cells #[.int .u8 0, .int .u8 0, .slice none 0 0] 41)).heap.size = w.heap.size + 1 + 1 by simp] at this
  have B1 : Below w.heap.size w (((w.alloc (.cells #[.slice A n c] 29)).alloc (.cells #[.int .u8 0, .int .u8 0, .slice none 0 0] 41)).alloc (.cells #[.int .i64 4] 3)) := ((below_new w _).alloc (by simp) _).alloc (by simp; omega) _
  rw [show (L : Int) - 4 = ((L - 4 : Nat) : Int) from by omega]
  generalize (((w.alloc (.cells #[.slice A n c] 29)).alloc (.cells #[.int .u8 0, .int .u8 0, .slice none 0 0] 41)).alloc (.cells #[.int .i64 4] 3)) = w1 at P1 R1 Q1 B1 ⊢
  obtain ⟨q, hq⟩ : ∃ q, q = w.heap.size + 1 + 1 := ⟨_, rfl⟩
  obtain ⟨r, hr⟩ : ∃ r, r = w.heap.size + 1 := ⟨_, rfl⟩
  rw [← hr] at R1
  rw [← hr] at hq
  rw [← hr, ← hq]
  rw [← hr, ← hq] at Q1
  have hqr : q ≠ r := by omega
  have hrq : r ≠ q := by omega
  have hpq : w.heap.size ≠ q := by omega
  have hpr : w.heap.size ≤ r := by omega
  have hpq' : w.heap.size ≤ q := by omega
  have HCT := Lib.hid (take_yes A n c 4 (L - 4) L w.heap.size q (by omega) xs w1 hn hc hcm HX.out ((HR.out.below B1).more B1.size) (by omega) P1 Q1)
  replace P1 := Lib.hid P1
  replace R1 := Lib.hid R1
  replace Q1 := Lib.hid Q1
  replace B1 := Lib.hid B1
  have HRR := Lib.hid hr
  have HQQ := Lib.hid hq
  clear hr hq
  refine HCT.out.mono ?_
  rintro e w2' ⟨A2, c2, w2, rfl, rfl, ho2, hb2⟩
  clear HCT
  obtain ⟨a, ha⟩ : ∃ a : Nat, a = L := ⟨_, rfl⟩
  rw [← ha]
  have P2 := Lib.hid ((P1.out.below hb2 P1.out.lt).far (p := ⟨q, 0, none⟩) (by simpa using hpq) (.int .i64 (a : Nat)))
  have R2 := Lib.hid ((R1.out.below hb2 R1.out.lt).far (p := ⟨q, 0, none⟩) (by simpa using hrq) (.int .i64 (a : Nat)))
  have Q2 := Lib.hid ((Q1.out.below hb2 Q1.out.lt).set_ 0 (.int .i64 (a : Nat)))
  have B2 := Lib.hid ((below_then B1.out (Nat.le_refl _) hb2).setCell (p := ⟨q, 0, none⟩) hpq' (.int .i64 (a : Nat)))
  clear ho2 hb2
  generalize w2.setCell ⟨q, 0, none⟩ (.int .i64 (a : Nat)) = w3 at P2 R2 Q2 B2 ⊢
  have g2 : w3.cell? ⟨q, 0, none⟩ = some (.int .i64 a) := Q2.out.cell 0
  have haU : a ≤ U ∧ U ≤ a + 3 := by omega
  have hab : a < 65536 := by omega
  have HAA := Lib.hid ha
  clear ha hLU
  go_wp2_with fail
  have HRD := Lib.hid (fun W : World => round_yes (a : Int) (by omega) (by omega) W)
  have HU3 : Hid (((a : Int) + 3) / 4 * 4 = (U : Int)) := Lib.hid (by rw [HU.out, HAA.out]; exact up4_int _)
  have HWR : Hid (IntKind.i64.wrap ((U : Int) - a) = ((U - a : Nat) : Int)) := Lib.hid (by rw [show (U : Int) - a = ((U - a : Nat) : Int) from by omega]; exact wrap_nat64 (by omega))
  have HCT2 := Lib.hid (take_yes A n c a (U - a) U w.heap.size q (by omega) xs w3.drew hn hc hcm HX.out ((HR.out.below B2.out).more B2.out.size) (by omega) (P2.out.drewN 1) (Q2.out.drewN 1))
  go_region_with (first
    | (go_at_call 36; refine (HRD.out _).mono ?_; rintro e w4 ⟨rfl, rfl⟩; rw [HU3.out])
    | (go_at_call 65; rw [HWR.out]; refine HCT2.out.mono ?_; rintro e w5 ⟨A3, c3, w4, rfl, rfl, ho4, hb4⟩))
  all_goals
    have R4 := Lib.hid (((R2.out.drewN 1).below hb4 (R2.out.drewN 1).lt).far (p := ⟨q, 0, none⟩) (by simpa using hrq) (.int .i64 (U : Nat)))
    have B4 := Lib.hid ((below_then (below_drewN B2.out 1) (Nat.le_refl _) hb4).setCell (p := ⟨q, 0, none⟩) hpq' (.int .i64 (U : Nat)))
    have hqlt := Q2.out.lt
    have O5 : Hid (Own8 (w4.setCell ⟨q, 0, none⟩ (.int .i64 (U : Nat))) 5 w3.drew.heap.size A3 (U - a) c3 ((xs.drop a).take (U - a))) := Lib.hid (ho4.keep fun g hg => Below.heap_setCell w4 ⟨q, 0, none⟩ _ g (by have := (ho4.lt g hg).1; have : w3.drew.heap.size = w3.heap.size := rfl; simp; omega))
    clear ho4 hb4 HCT2
    generalize w4.setCell ⟨q, 0, none⟩ (.int .i64 (U : Nat)) = w5 at R4 B4 O5 ⊢
    have HZ : Hid (Calls Try.prog 67 #[.slice A3 (U - a : Nat) c3] w5 fun e w' => e = .returned (.bool false) ∧ Below w5.heap.size w5 w') := Lib.hid ((isZero_any A3 (U - a) c3 _ w5 (by omega) O5.out.len O5.out.rd).mono fun e w' ⟨he, hb⟩ => ⟨he.trans (ret_bool (decide_eq_false (by rw [HAA.out]; exact HBAD.out))), hb⟩)
    go_wp2_with fail
    refine HZ.out.mono ?_
    rintro e w6 ⟨rfl, hb6⟩
    clear HZ
    have R6 := R4.out.below hb6 R4.out.lt
    have B6 := Lib.hid (below_then B4.out (Nat.le_refl _) hb6)
    clear hb6
    have j3 : w6.cell? ⟨r, 0, none⟩ = some (.int .u8 0) := R6.cell 0
    have j4 : w6.cell? ⟨r, 1, none⟩ = some (.int .u8 0) := R6.cell 1
    have j5 : w6.cell? ⟨r, 2, none⟩ = some (.slice none 0 0) := R6.cell 2
    have k3 := R6.frozen 0
    have k4 := R6.frozen 1
    have k5 := R6.frozen 2
    have R6 := Lib.hid R6
    go_wp2_with fail
    refine bodyPost_ret (v := noChunk) ?_ rfl ⟨rfl, ?_⟩
    · simp [noChunk, results, Try.results60, go_sem, j3, j4, j5]
    · exact ((B6.out.setCell (p := ⟨r, 0, none⟩) hpr _).setCell (p := ⟨r, 1, none⟩) hpr _).setCell (p := ⟨r, 2, none⟩) hpr _

/-- Read, where there is no chunk. -/
theorem read_no (A : Option Addr) (n c : Nat) (xs : List UInt8) (w : World) (hn : n ≤ 140737488355300) (hc : n ≤ c) (hcm : c ≤ maxLen) (hx : xs.length = n) (hr : Rd w w.heap.size A xs) (hf : ¬ Fits xs) :
    Calls Try.prog 60 #[.slice A n c] w fun e w' => e = .returned noChunk ∧ Below w.heap.size w w' := by
  by_cases h4 : 4 ≤ n
  · by_cases hl : 4 ≤ clen xs
    · by_cases hL : clen xs ≤ n
      · by_cases hU : up4 (clen xs) ≤ n
        · refine read_bad A n c xs w hn hc hcm hx hr h4 hl hU (fun h => hf ⟨by omega, hl, by omega, fun j h1 h2 => ?_⟩)
          have hj : j < xs.length := by omega
          rw [List.getElem?_eq_getElem hj]
          congr 1
          refine h _ (List.mem_iff_getElem?.2 ⟨j - clen xs, ?_⟩)
          rw [List.getElem?_take, if_pos (by omega), List.getElem?_drop, show clen xs + (j - clen xs) = j by omega, List.getElem?_eq_getElem hj]
        · exact read_cut A n c xs w hn hc hcm hx hr h4 hl hL (by omega)
      · exact read_long A n c xs w hn hc hcm hx hr h4 hl (by omega)
    · exact read_low A n c xs w hn h4 hx hr (by omega)
  · exact read_short A n c w (by omega)
end Go.Proofs.Ytifmhlbeodfpeaa
