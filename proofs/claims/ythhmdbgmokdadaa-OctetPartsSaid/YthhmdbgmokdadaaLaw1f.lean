/-
  OctetParts, walked.
-/
import Derived.Test.YthhmdbgmokdadaaLaw1b
namespace Go.Proofs.Ythhmdbgmokdadaa
open Go.RowKit
set_option linter.unusedVariables false

theorem two_parts (xs : List UInt8) (a k m : Nat) (h : k ≤ m) : (xs.drop a).take k ++ (xs.drop (a + k)).take (m - k) = (xs.drop a).take m := by
  rw [← List.drop_drop, ← List.take_add]
  congr 1
  omega

theorem tmod_bd (c m : Int) (h : 0 ≤ m) : -m ≤ c.tmod (m + 1) ∧ c.tmod (m + 1) ≤ m := by
  have h1 := Int.lt_tmod_of_pos c (show 0 < m + 1 by omega)
  have h2 := Int.tmod_lt_of_pos c (show 0 < m + 1 by omega)
  omega

set_option maxHeartbeats 400000 in
theorem octetParts_big (A : Option Addr) (n c : Nat) (a m k : Int) (w : World) (h : 65536 < n) :
    Calls Try.prog 10 #[.agg #[.slice A n c, .int .i64 a, .int .i64 m, .int .i64 k]] w fun e w' => e = .returned (.bool true) ∧ Below w.heap.size w w' := by
  go_enter Try.func10, Try.ntmps10
  go_wp2_with (go_at_call 11; refine (works_any _).mono ?_; rintro e w' ⟨rfl, hb⟩)
  go_ret
  exact ⟨rfl, below_then (below_new w _) (Nat.le_refl _) hb⟩

set_option maxHeartbeats 800000 in
theorem octetParts_no (A : Option Addr) (n c : Nat) (a m k : Int) (w : World) (h : n ≤ 65536) (hi : ¬ Within n a m) :
    Calls Try.prog 10 #[.agg #[.slice A n c, .int .i64 a, .int .i64 m, .int .i64 k]] w fun e w' => e = .returned (.bool true) ∧ Below w.heap.size w w' := by
  have HI := Lib.hid hi
  unfold Within at hi
  have hall : (a < 0) ∨ (0 ≤ a ∧ m < 0) ∨ (0 ≤ a ∧ 0 ≤ m ∧ (n : Int) < a) ∨ (0 ≤ a ∧ 0 ≤ m ∧ a ≤ n ∧ (n : Int) - a < m) := by omega
  clear hi
  rcases hall with h1 | ⟨h1, h2⟩ | ⟨h1, h2, h3⟩ | ⟨h1, h2, h3, h4⟩
  all_goals
    go_enter Try.func10, Try.ntmps10
    go_wp2_with (first | (go_at_call 20; refine (cutNo _ _ _ _ _ _ (by unfold maxLen; omega) HI.out).mono ?_; rintro e w1 ⟨rfl, rfl⟩) | (go_at_call 11; refine (works_any _).mono ?_; rintro e w' ⟨rfl, hb⟩))
    go_ret
    exact ⟨rfl, below_then (below_new w _) (Nat.le_refl _) hb⟩

set_option maxHeartbeats 800000 in
theorem octetParts_yes (A : Option Addr) (n c a m : Nat) (k : Int) (xs : List UInt8) (w : World) (h : n ≤ 65536) (hc : n ≤ c) (hcm : c ≤ maxLen) (hx : xs.length = n) (hr : Rd w w.heap.size A xs) (hi : a + m ≤ n) :
    Calls Try.prog 10 #[.agg #[.slice A n c, .int .i64 a, .int .i64 m, .int .i64 k]] w fun e w' => e = .returned (.bool true) ∧ Below w.heap.size w w' := by
  obtain ⟨i8, h8⟩ := Try.ty8
  have HX := Lib.hid hx
  have HM := Lib.hid hcm
  have hr1 := (hr.alloc (Nat.le_refl _) (.cells #[.slice A n c, .int .i64 a, .int .i64 m, .int .i64 k] 45)).more (B' := (w.alloc (.cells #[.slice A n c, .int .i64 a, .int .i64 m, .int .i64 k] 45)).heap.size) (by simp)
  have htb := tmod_bd k m (by omega)
  obtain ⟨r, hrk⟩ : ∃ r : Int, k.tmod ((m : Int) + 1) = r := ⟨_, rfl⟩
  rw [hrk] at htb
  clear hx hcm
  go_enter Try.func10, Try.ntmps10
  go_wp2_with fail
  refine (cut_yes A n c a m xs _ (by omega) hc HM.out HX.out hr1 hi).mono ?_
  rintro e w1 ⟨A1, c1, rfl, ho1, hb1⟩
  have hB1 := (Blk.new w 45 #[.slice A n c, .int .i64 a, .int .i64 m, .int .i64 k]).below hb1 (by simp)
  have hr2 : Rd w1 w1.heap.size A xs := (hr1.below hb1).more hb1.size
  have ho1' := ho1
  have HB := Lib.hid hB1
  have HB1 := Lib.hid hb1
  have HO := Lib.hid ho1
  have HR := Lib.hid hr2
  have f0 : w1.cell? ⟨w.heap.size, 0, none⟩ = some (.slice A n c) := hB1.cell 0
  have f1 : w1.cell? ⟨w.heap.size, 1, none⟩ = some (.int .i64 a) := hB1.cell 1
  have f2 : w1.cell? ⟨w.heap.size, 2, none⟩ = some (.int .i64 m) := hB1.cell 2
  have f3 : w1.cell? ⟨w.heap.size, 3, none⟩ = some (.int .i64 k) := hB1.cell 3
  clear hB1 hr2 ho1 ho1' hb1 hr1 hr
  have hcase : ∃ j : Nat, j ≤ m ∧ ((0 ≤ k ∧ k % ((m : Int) + 1) = j ∧ r = j) ∨ (k < 0 ∧ r < 0 ∧ r + m + 1 = j) ∨ (k < 0 ∧ r = j)) := by
    by_cases hk : 0 ≤ k
    · refine ⟨r.toNat, by omega, .inl ⟨hk, ?_, ?_⟩⟩
      · rw [← Int.tmod_eq_emod_of_nonneg hk, hrk]
        have := Int.tmod_nonneg (a := k) ((m : Int) + 1) hk
        omega
      · have := Int.tmod_nonneg (a := k) ((m : Int) + 1) hk
        omega
    · by_cases hr0 : r < 0
      · exact ⟨(r + m + 1).toNat, by omega, .inr (.inl ⟨by omega, hr0, by omega⟩)⟩
      · exact ⟨r.toNat, by omega, .inr (.inr ⟨by omega, by omega⟩)⟩
  obtain ⟨j, hjm, hj⟩ := hcase
  rcases hj with ⟨hk, hj, rfl⟩ | ⟨hk, hr0, hj⟩ | ⟨hk, rfl⟩
  all_goals
    go_wp2_with fail
    refine (cut_yes A n c a j xs w1 (by omega) hc HM.out HX.out HR.out (by omega)).mono ?_
    rintro e w2 ⟨A2, c2, rfl, ho2, hb2⟩
    have hB2 := HB.out.below hb2 HB.out.lt
    have g0 : w2.cell? ⟨w.heap.size, 0, none⟩ = some (.slice A n c) := hB2.cell 0
    have g1 : w2.cell? ⟨w.heap.size, 1, none⟩ = some (.int .i64 a) := hB2.cell 1
    have g2 : w2.cell? ⟨w.heap.size, 2, none⟩ = some (.int .i64 m) := hB2.cell 2
    have hr2 : Rd w2 w2.heap.size A xs := (HR.out.below hb2).more hb2.size
    clear hB2
    go_wp2_with fail
    rw [show ((a : Int) + j) = ((a + j : Nat) : Int) from by omega, show ((m : Int) - j) = ((m - j : Nat) : Int) from by omega]
    refine (cut_yes A n c (a + j) (m - j) xs w2 (by omega) hc HM.out HX.out hr2 (by omega)).mono ?_
    rintro e w3 ⟨A3, c3, rfl, ho3, hb3⟩
    have ho2' := ho2.below hb3 (Nat.le_refl _)
    go_wp2_with (at_builtin; refine wpList_append8 h8 _ rfl _ _ rfl w1.heap.size _ _ _ _ rfl ho2' _ _ _ _ _ rfl ho3.len ho3.rd (by omega) (Nat.le_trans hb2.size hb3.size) ?_; intro A4 c4 w4 ho4 hg4 hh4)
    have hlen : j + (m - j) = m := by omega
    rw [two_parts xs a j m hjm, hlen] at ho4
    have ho1 : Own8 w4 5 _ A1 m c1 _ := ((HO.out.below hb2 (Nat.le_refl _)).below hb3 (Nat.le_refl _)).keep fun g hg => hg4.block g (by have := (HO.out.lt g hg).2; have := hb2.size; have := hb3.size; omega)
      (by intro e; have h1 := ho2.blk g e.symm; have h2 := (HO.out.lt g hg).2; omega)
    have hsz4 := hg4.size
    have hbel : Below w1.heap.size w1 w4 := (below_then hb2 (Nat.le_refl _) hb3).grown hg4 (Nat.le_trans hb2.size hb3.size) ho2'.blk
    go_wp2_with fail
    refine (eqBytes_same _ _ _ _ _ _ _ _ _ ho4.len (by unfold maxLen; omega) ho4.rd ho1.rd).mono ?_
    rintro e w5 ⟨rfl, q, rfl⟩
    go_wp2_with fail
    refine (works_any _).mono ?_
    rintro e w6 ⟨rfl, hb6⟩
    go_wp2_with fail
    go_ret
    exact ⟨rfl, below_then (below_drewN (below_then (below_then (below_new w _) (Nat.le_refl _) HB1.out) (Nat.le_refl _) hbel) q) (Nat.le_refl _) hb6⟩

theorem octetParts_walk (A : Option Addr) (n c : Nat) (xs : List UInt8) (a m k : Int) (w : World) (hc : n ≤ c) (hcm : c ≤ maxLen) (hx : xs.length = n) (hr : Rd w w.heap.size A xs) (_ : (Lit.int .i64 a).wf = true) (_ : (Lit.int .i64 m).wf = true) (_ : (Lit.int .i64 k).wf = true) :
    Calls Try.prog 10 #[.agg #[.slice A n c, .int .i64 a, .int .i64 m, .int .i64 k]] w fun e w' => e = .returned (.bool true) ∧ Below w.heap.size w w' := by
  by_cases h : 65536 < n
  · exact octetParts_big A n c a m k w h
  · by_cases hi : Within n a m
    · obtain ⟨h1, h2, h3, h4⟩ := hi
      obtain ⟨a, rfl⟩ := Int.eq_ofNat_of_zero_le h1
      obtain ⟨m, rfl⟩ := Int.eq_ofNat_of_zero_le h2
      exact octetParts_yes A n c a m k xs w (by omega) hc hcm hx hr (by omega)
    · exact octetParts_no A n c a m k w (by omega) hi
end Go.Proofs.Ythhmdbgmokdadaa
