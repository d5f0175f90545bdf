/-
  OctetBack, walked.
-/
import Derived.Test.YthhmdbgmokdadaaLaw1d
namespace Go.Proofs.Ythhmdbgmokdadaa
open Go.RowKit
set_option linter.unusedVariables false

theorem num_enc (xs : List UInt8) (x s k : Nat) (hk : k ≤ s) : num (xs ++ enc x s) xs.length k = x / 256 ^ (s - k) % 256 ^ k := by
  induction k with
  | zero => simp [num, Nat.mod_one]
  | succ k ih =>
    rw [num, ih (by omega), List.getElem?_append_right (by omega), Nat.add_sub_cancel_left, get_enc _ _ _ (by omega), Option.getD_some, byteOf_nat]
    have h1 : s - k = (s - 1 - k) + 1 := by omega
    have h2 : s - (k + 1) = s - 1 - k := by omega
    rw [h1, h2, Nat.pow_succ 256 (s - 1 - k), ← Nat.div_div_eq_div_mul, Nat.pow_succ 256 k, Nat.mul_comm (256 ^ k) 256, Nat.mod_mul]
    omega
theorem num_back (xs : List UInt8) (x s n : Nat) (hn : xs.length = n) : num (xs ++ enc x s) n s = x % 256 ^ s := by
  subst hn
  rw [num_enc xs x s s (Nat.le_refl _), Nat.sub_self, Nat.pow_zero, Nat.div_one]

theorem get_back (g n c x s m : Nat) (xs : List UInt8) (w : World) (hn : n ≤ 1048576) (hx : xs.length = n) (hs : IsSize s) (hm : m = 256 ^ s) (hr : RowAt w 5 g (xs ++ enc x s)) :
    Calls Try.prog 13 #[.slice (some ⟨g, 0, none⟩) (n + s) c, .int .i64 n, .int .i64 s] w fun e w' => e = .returned (.tuple #[.int .u64 ((x % m : Nat) : Int), .int .i64 0]) ∧ w = w' := by
  have hs8 : s ≤ 8 := by unfold IsSize at hs; omega
  refine (get_yes w.heap.size _ (n + s) c n s (xs ++ enc x s) w (by unfold maxLen; omega) (by rw [List.length_append, length_enc, hx]) (hr.rd 0 _ (fun j hj => by rw [Nat.zero_add])) hs (by omega)).mono fun e w' ⟨he, hw⟩ => ⟨?_, hw⟩
  rw [he, num_back xs x s n hx, hm]

theorem byte_at (xs : List UInt8) (x s j n : Nat) (hn : xs.length = n) (hj : j < s) {w : World} {g : Nat} {t : TypeId} (hr : RowAt w t g (xs ++ enc x s)) :
    w.cell? ⟨g, n + s - 1 - j, none⟩ = some (.int .u8 ((x / 256 ^ j % 256 : Nat) : Int)) := by
  have hl : n + s - 1 - j < (xs ++ enc x s).length := by rw [List.length_append, length_enc]; omega
  have h : (xs ++ enc x s)[n + s - 1 - j]? = some (byteOf x j) := by
    rw [List.getElem?_append_right (by omega), get_enc _ _ _ (by omega)]
    congr 2
    omega
  rw [hr.cell _ hl, (List.getElem_eq_iff hl).2 h, byteOf_nat]

set_option maxHeartbeats 400000 in
theorem octetBack_big (A : Option Addr) (n c : Nat) (x : Int) (w : World) (h : 4096 < n) :
    Calls Try.prog 8 #[.slice A n c, .int .u64 x] w fun e w' => e = .returned (.bool true) ∧ Below w.heap.size w w' := by
  go_enter Try.func8, Try.ntmps8
  go_wp2_with (go_at_call 11; refine (works_any _).mono ?_; rintro e w' ⟨rfl, hb⟩)
  go_ret
  exact ⟨rfl, hb⟩

set_option maxRecDepth 100000 in
set_option maxHeartbeats 2000000 in
theorem octetBack_small (A : Option Addr) (n c x : Nat) (xs : List UInt8) (w : World) (h : n ≤ 4096) (hxb : x < 18446744073709551616) (hx : xs.length = n) (hr : Rd w w.heap.size A xs) :
    Calls Try.prog 8 #[.slice A n c, .int .u64 x] w fun e w' => e = .returned (.bool true) ∧ Below w.heap.size w w' := by
  have hsz := sizes_cell w 3
  have HX := Lib.hid hx
  have HB := Lib.hid hxb
  have HSZ := Lib.hid hsz
  clear hsz hx
  go_enter Try.func8, Try.ntmps8
  go_wp2
  go_loopw [6] (fun i wr => ∃ k : Nat, k ≤ 4 ∧ i = .int .i64 k ∧ Below (w.heap.size + 1) (w.alloc (.cells #[.int .i64 1, .int .i64 2, .int .i64 4, .int .i64 8] 3)) wr) (fun i _ => 4 - (intOf i).toNat)
  case atStart => exact ⟨0, by omega, rfl, Below.refl _ _⟩
  case round =>
    obtain ⟨k, hk, rfl, hb⟩ := hrel
    by_cases hlt : k < 4
    · have hc := (hb.cell (p := ⟨w.heap.size, k, none⟩) (Nat.lt_succ_self _)).trans (HSZ.out k hlt)
      have hsis := sizeAt_is k
      obtain ⟨s, hs⟩ : ∃ s : Nat, s = sizeAt k := ⟨_, rfl⟩
      rw [← hs] at hc hsis
      have HS := Lib.hid hsis
      clear hs
      have hr1 : Rd wr wr.heap.size A xs := ((hr.alloc (Nat.le_refl _) _).below (hb.mono (by omega))).more (Nat.le_trans (by simp) hb.size)
      obtain ⟨wo, hwo⟩ : ∃ wo : World, wo = wr := ⟨_, rfl⟩
      subst hwo
      have hs8 : 1 ≤ s ∧ s ≤ 8 := by unfold IsSize at hsis; omega
      clear hsis
      obtain ⟨m, hm⟩ : ∃ m : Nat, m = 256 ^ s := ⟨_, rfl⟩
      have HM := Lib.hid hm
      clear hm
      go_wp2_with fail
      refine (put_yes A n c x s xs wo (by omega) HB.out HX.out hr1 HS.out).mono ?_
      rintro e w1 ⟨g, rfl, hg, hrow, hb1⟩
      go_wp2_with fail
      refine (get_back g n _ x s m xs w1 (by omega) HX.out HS.out HM.out hrow).mono ?_
      rintro e w2 ⟨rfl, rfl⟩
      go_wp2_with fail
      have hr2 : Rd w1 wo.heap.size A xs := hr1.below hb1
      refine (eqBytes_same w1.heap.size _ _ _ _ _ _ _ _ HX.out (by unfold maxLen; omega) (hrow.rd 0 xs (fun j hj => by rw [Nat.zero_add, List.getElem?_append_left hj])) hr2).mono ?_
      rintro e w3 ⟨rfl, q, rfl⟩
      have HR := Lib.hid hrow
      clear hrow hc
      go_wp2_with fail
      go_loop [11, 12] (fun l i => ∃ j : Nat, j ≤ s ∧ i = .int .i64 ((n : Int) + s - 1 - j) ∧ l = .int .u64 ((x / 256 ^ j : Nat) : Int)) (fun _ i => (intOf i + 1 - n).toNat)
      case atStart => exact ⟨0, by omega, by go_num, by simp⟩
      case round =>
        obtain ⟨j, hj, rfl, rfl⟩ := hrel
        by_cases hjs : j < s
        · have hcb := byte_at xs x s j n HX.out hjs HR.out
          obtain ⟨l, hl⟩ : ∃ l : Nat, l = x / 256 ^ j := ⟨_, rfl⟩
          have hlb : l < 18446744073709551616 := by rw [hl]; exact Nat.lt_of_le_of_lt (Nat.div_le_self _ _) HB.out
          have hnx : x / 256 ^ (j + 1) = l / 256 := by rw [Nat.pow_succ, ← Nat.div_div_eq_div_mul, hl]
          rw [← hl] at hcb ⊢
          have HN := Lib.hid hnx
          clear hl hnx
          go_wp2
          go_round
          case rel => exact ⟨j + 1, by omega, by go_num, by rw [HN.out]; go_num⟩
          case measure => simp [intOf]; omega
        · obtain rfl : s = j := by omega
          have hs4 : s = 1 ∨ s = 2 ∨ s = 4 ∨ s = 8 := by have := HS.out; unfold IsSize at this; omega
          have hm := HM.out
          rcases hs4 with rfl | rfl | rfl | rfl
          all_goals
            simp at hm
            subst hm
            go_wp2
            go_roundw
            case rel => exact ⟨k + 1, by omega, by go_num, below_drewN (below_then hb (by simp) hb1) q⟩
            case measure => simp [intOf]; omega
    · obtain rfl : k = 4 := by omega
      go_wp2_with (go_at_call 11; refine (works_any _).mono ?_; rintro e w' ⟨rfl, hb9⟩)
      go_ret
      exact ⟨rfl, ((below_new w _).trans (hb.mono (by omega))).trans (hb9.mono (Nat.le_trans (by simp) hb.size))⟩

theorem octetBack_walk (A : Option Addr) (n c : Nat) (xs : List UInt8) (x : Int) (w : World) (hc : n ≤ c) (hcm : c ≤ maxLen) (hx : xs.length = n) (hr : Rd w w.heap.size A xs) (hxw : (Lit.int .u64 x).wf = true) :
    Calls Try.prog 8 #[.slice A n c, .int .u64 x] w fun e w' => e = .returned (.bool true) ∧ Below w.heap.size w w' := by
  by_cases h : 4096 < n
  · exact octetBack_big A n c x w h
  · have hb : 0 ≤ x ∧ x ≤ 18446744073709551615 := by simpa [Lit.wf, IntKind.min, IntKind.max, IntKind.signed, IntKind.bits] using hxw
    obtain ⟨y, rfl⟩ := Int.eq_ofNat_of_zero_le hb.1
    exact octetBack_small A n c y xs w (by omega) (by omega) hx hr
end Go.Proofs.Ythhmdbgmokdadaa
