/-
  octet.Get, octet.Cut and those of the reference.
-/
import Derived.Test.YtalgkokgaibloaaOct1
import Derived.Test.YtalgkokgaibloaaCopy
import Derived.Test.YtalgkokgaibloaaOwn
namespace Go.Proofs.Ytalgkokgaibloaa
open Go.RowKit
set_option linter.unusedVariables false

/-- The number that k bytes tell from place a on, the highest one first. -/
def num (xs : List UInt8) (a : Nat) : Nat → Nat
  | 0 => 0
  | k + 1 => 256 * num xs a k + (xs[a + k]?.getD 0).toNat
theorem num_lt (xs : List UInt8) (a k : Nat) : num xs a k < 256 ^ k := by
  induction k with
  | zero => simp [num]
  | succ k ih =>
    rw [num, Nat.pow_succ]
    have := (xs[a + k]?.getD 0).toNat_lt
    omega
theorem num_small (xs : List UInt8) (a k : Nat) (h : k ≤ 7) : num xs a k < 72057594037927936 :=
  Nat.lt_of_lt_of_le (num_lt xs a k) (Nat.le_trans (Nat.pow_le_pow_right (by decide) h) (by decide))

theorem shl_or (m b : Nat) (hm : m < 72057594037927936) (hb : b < 256) : bits .or .u64 ((m : Int) * 256) (b : Int) = ((256 * m + b : Nat) : Int) := by
  have h : ((m : Int) * 256) = ((m * 256 : Nat) : Int) := by omega
  rw [h, u64_or_nat _ _ (by omega) (by omega), nat_join 8 _ _ (by omega) hb]
  omega

set_option maxHeartbeats 400000 in
theorem get_no (A : Option Addr) (n c : Nat) (at_ s : Int) (w : World) (hn : n ≤ maxLen) (h : ¬ (IsSize s ∧ Within n at_ s)) :
    Calls Try.prog 71 #[.slice A n c, .int .i64 at_, .int .i64 s] w fun e w' => e = .returned (.tuple #[.int .u64 0, .int .i64 1]) ∧ w = w' := by
  by_cases h1 : IsSize s
  · have h2 : ¬ Within n at_ s := fun h2 => h ⟨h1, h2⟩
    have H1 := Lib.hid h1
    have H2 := Lib.hid h2
    clear h h1 h2
    go_enter Try.func71, Try.ntmps71
    go_wp2_with (first | (go_at_call 84; refine (isSize_yes _ H1.out _).mono ?_; rintro e w' ⟨rfl, rfl⟩) | (go_at_call 77; refine (inside_no _ _ _ _ _ _ hn H2.out).mono ?_; rintro e w' ⟨rfl, rfl⟩))
    go_ret2
    exact ⟨rfl, rfl⟩
  · have H1 := Lib.hid h1
    clear h h1
    go_enter Try.func71, Try.ntmps71
    go_wp2_with (first | (go_at_call 84; refine (isSize_no _ H1.out _).mono ?_; rintro e w' ⟨rfl, rfl⟩))
    go_ret2
    exact ⟨rfl, rfl⟩

set_option maxHeartbeats 400000 in
theorem get_yes (B : Nat) (A : Option Addr) (n c a s : Nat) (xs : List UInt8) (w : World) (hn : n ≤ maxLen) (hx : xs.length = n) (hr : Rd w B A xs) (hs : IsSize s) (hi : a + s ≤ n) :
    Calls Try.prog 71 #[.slice A n c, .int .i64 a, .int .i64 s] w fun e w' => e = .returned (.tuple #[.int .u64 (num xs a s), .int .i64 0]) ∧ w = w' := by
  have hs8 : 1 ≤ s ∧ s ≤ 8 := by unfold IsSize at hs; omega
  obtain ⟨b, o, rfl, hbl, hcx⟩ := hr.at_ (by rintro rfl; simp at hx; omega)
  have H1 := Lib.hid hs
  have H2 : Hid (Within n a s) := ⟨by omega, by omega, by omega, by omega⟩
  have HX := Lib.hid hx
  have HN := Lib.hid hn
  unfold maxLen at hn
  clear hs hr hx
  go_enter Try.func71, Try.ntmps71
  go_wp2_with (first | (go_at_call 84; refine (isSize_yes _ H1.out _).mono ?_; rintro e w' ⟨rfl, rfl⟩) | (go_at_call 77; refine (inside_yes _ _ _ _ _ _ HN.out H2.out).mono ?_; rintro e w' ⟨rfl, rfl⟩))
  go_loop [8, 21] (fun x i => ∃ k : Nat, k ≤ s ∧ i = .int .i64 k ∧ x = .int .u64 (num xs a k)) (fun _ i => s - (intOf i).toNat)
  case atStart => exact ⟨0, Nat.zero_le _, rfl, rfl⟩
  case round =>
    obtain ⟨k, hk, rfl, rfl⟩ := hrel
    by_cases hlt : k < s
    · have hkx : a + k < xs.length := by have := HX.out; omega
      have hc := hcx (a + k) hkx
      have hm := num_small xs a k (by omega)
      have hb := (xs[a + k]).toNat_lt
      clear hcx
      go_wp2
      go_round
      case rel =>
        refine ⟨k + 1, by omega, by go_num, ?_⟩
        rw [shl_or _ _ hm hb, num, List.getElem?_eq_getElem hkx]
        rfl
      case measure => simp [intOf]; omega
    · obtain rfl : k = s := by omega
      go_wp2
      go_ret2
      exact ⟨rfl, rfl⟩

/-! ### Cut -/
theorem drop_take_get (xs : List UInt8) (a k j : Nat) (hj : j < ((xs.drop a).take k).length) : ((xs.drop a).take k)[j]? = xs[a + j]? := by
  rw [List.getElem?_take, List.getElem?_drop]
  split
  · rfl
  · simp at hj; omega
theorem Rd.cut {w : World} {B : Nat} {A : Option Addr} {xs : List UInt8} (h : Rd w B A xs) (a k : Nat) : Rd w B (A.map (·.add a)) ((xs.drop a).take k) := by
  rcases h with rfl | ⟨b, o, rfl, hb, hc⟩
  · exact .inl (by simp)
  · refine .inr ⟨b, o + a, by simp [Addr.add_lit], hb, fun j x hx => ?_⟩
    have hj : j < ((xs.drop a).take k).length := by
      rcases Nat.lt_or_ge j ((xs.drop a).take k).length with h | h
      · exact h
      · rw [List.getElem?_eq_none h] at hx; cases hx
    rw [drop_take_get _ _ _ _ hj] at hx
    rw [Nat.add_assoc]
    exact hc _ x hx

theorem cutNo (A : Option Addr) (n c : Nat) (at_ k : Int) (w : World) (hn : n ≤ maxLen) (h : ¬ Within n at_ k) :
    Calls Try.prog 54 #[.slice A n c, .int .i64 at_, .int .i64 k] w fun e w' => e = .returned (.tuple #[.slice none 0 0, .bool false]) ∧ w = w' := by
  have H2 := Lib.hid h
  clear h
  go_enter Try.func54, Try.ntmps54
  go_wp2_with (first | (go_at_call 77; refine (inside_no _ _ _ _ _ _ hn H2.out).mono ?_; rintro e w' ⟨rfl, rfl⟩))
  go_ret2
  exact ⟨rfl, rfl⟩
theorem refCutNo (A : Option Addr) (n c : Nat) (at_ k : Int) (w : World) (hn : n ≤ maxLen) (h : ¬ Within n at_ k) :
    Calls Try.prog 65 #[.slice A n c, .int .i64 at_, .int .i64 k] w fun e w' => e = .returned (.tuple #[.slice none 0 0, .bool false]) ∧ w = w' := by
  unfold maxLen at hn
  unfold Within at h
  by_cases h1 : 0 ≤ at_
  · by_cases h2 : 0 ≤ k
    · by_cases h3 : at_ ≤ n
      · have h4 : (n : Int) - at_ < k := by omega
        clear h
        go_enter Try.func65, Try.ntmps65
        go_wp2
        go_ret2
        exact ⟨rfl, rfl⟩
      · have h4 : (n : Int) < at_ := by omega
        clear h h3
        go_enter Try.func65, Try.ntmps65
        go_wp2
        go_ret2
        exact ⟨rfl, rfl⟩
    · have h4 : k < 0 := by omega
      clear h h2
      go_enter Try.func65, Try.ntmps65
      go_wp2
      go_ret2
      exact ⟨rfl, rfl⟩
  · have h4 : at_ < 0 := by omega
    clear h h1
    go_enter Try.func65, Try.ntmps65
    go_wp2
    go_ret2
    exact ⟨rfl, rfl⟩
end Go.Proofs.Ytalgkokgaibloaa
