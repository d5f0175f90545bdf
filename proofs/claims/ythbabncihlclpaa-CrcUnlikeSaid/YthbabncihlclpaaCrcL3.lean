/-
  Layer 2's statements, walked: CrcUnlike.
-/
import Derived.Test.YthbabncihlclpaaCrcL1
import Derived.Test.YthbabncihlclpaaEq
namespace Go.Proofs.Ythbabncihlclpaa
open Go.RowKit
set_option linter.unusedVariables false

/-- Where the bits that differ, of the first k, begin and end. -/
def Span (d : Nat → Bool) (k : Nat) (f l : Int) : Prop :=
  (f = -1 ∧ l = -1 ∧ ∀ i, i < k → d i = false) ∨
  ∃ a b : Nat, f = a ∧ l = b ∧ a ≤ b ∧ b < k ∧ d a = true ∧ (∀ i, i < a → d i = false) ∧ ∀ i, b < i → i < k → d i = false
theorem Span.none (d : Nat → Bool) : Span d 0 (-1) (-1) := .inl ⟨rfl, rfl, fun i h => absurd h (Nat.not_lt_zero i)⟩
theorem Span.bounds {d : Nat → Bool} {k : Nat} {f l : Int} (h : Span d k f l) : -1 ≤ f ∧ f ≤ l ∧ l < k := by
  rcases h with ⟨rfl, rfl, _⟩ | ⟨a, b, rfl, rfl, h1, h2, _⟩ <;> omega
theorem Span.same {d : Nat → Bool} {k : Nat} {f l : Int} (h : Span d k f l) (hd : d k = false) : Span d (k + 1) f l := by
  rcases h with ⟨h1, h2, h3⟩ | ⟨a, b, h1, h2, h3, h4, h5, h6, h7⟩
  · refine .inl ⟨h1, h2, fun i hi => ?_⟩
    rcases Nat.lt_succ_iff_lt_or_eq.1 hi with hi | rfl
    · exact h3 i hi
    · exact hd
  · refine .inr ⟨a, b, h1, h2, h3, by omega, h5, h6, fun i hi hi' => ?_⟩
    rcases Nat.lt_succ_iff_lt_or_eq.1 hi' with hi' | rfl
    · exact h7 i hi hi'
    · exact hd
theorem Span.first {d : Nat → Bool} {k : Nat} {f l : Int} (h : Span d k f l) (hf : f < 0) (hd : d k = true) : Span d (k + 1) k k := by
  rcases h with ⟨h1, h2, h3⟩ | ⟨a, b, h1, h2, h3, h4, h5, h6, h7⟩
  · exact .inr ⟨k, k, rfl, rfl, Nat.le_refl _, Nat.lt_succ_self _, hd, h3, fun i h1 h2 => absurd h1 (by omega)⟩
  · omega
theorem Span.next {d : Nat → Bool} {k : Nat} {f l : Int} (h : Span d k f l) (hf : ¬ f < 0) (hd : d k = true) : Span d (k + 1) f k := by
  rcases h with ⟨h1, h2, h3⟩ | ⟨a, b, h1, h2, h3, h4, h5, h6, h7⟩
  · omega
  · exact .inr ⟨a, k, h1, rfl, by omega, Nat.lt_succ_self _, h5, h6, fun i h1 h2 => absurd h1 (by omega)⟩

/-- In which bits two texts differ. -/
def dif (xs ys : List UInt8) (i : Nat) : Bool := bitAt xs i ^^ bitAt ys i
/-- Two texts whose bits that differ stand within 32 in a row have one sum just if none does. -/
theorem span_sum (xs ys : List UInt8) (h : xs.length = ys.length) {f l : Int} (hs : Span (dif xs ys) (8 * xs.length) f l) (hw : l - f < 32) : decide (sum xs = sum ys) = decide (f < 0) := by
  have hout : ∀ i, 8 * xs.length ≤ i → dif xs ys i = false := fun i hi => by
    unfold dif; rw [bitAt_out xs i hi, bitAt_out ys i (by omega)]; rfl
  have he := sum_differ xs ys h
  rcases hs with ⟨rfl, rfl, h3⟩ | ⟨a, b, rfl, rfl, h3, h4, h5, h6, h7⟩
  · have : sum xs = sum ys := (xor_zero_iff _ _).1 (he.trans (reg_none _ _ h3))
    rw [decide_eq_true this, decide_eq_true (by omega)]
  · have hne : ¬ sum xs = sum ys := fun e => by
      rw [(xor_zero_iff _ _).2 e] at he
      refine reg_burst (dif xs ys) a (8 * xs.length) h5 (by omega) h6 (fun i hi => ?_) hout he.symm
      rcases Nat.lt_or_ge i (8 * xs.length) with h8 | h8
      · exact h7 i (by omega) h8
      · exact hout i h8
    rw [decide_eq_false hne, decide_eq_false (by omega)]

theorem dif_bit (x y z : UInt8) (hz : z = x ^^^ y) (m : Nat) : (bits .and .u8 ((z.toNat : Int) / 2 ^ m) 1 == 1) = (x.toNat.testBit m ^^ y.toNat.testBit m) := by
  have h := bit_u8 z m
  have hx := z.toNat_lt
  have h1 : z.toNat / 2 ^ m < 256 := Nat.lt_of_le_of_lt (Nat.div_le_self _ _) (by omega)
  have h2 := u8_and_nat (z.toNat / 2 ^ m) 1 h1 (by omega)
  have h3 : ((z.toNat : Int) / 2 ^ m) = ((z.toNat / 2 ^ m : Nat) : Int) := by norm_cast
  rw [h3] at h ⊢
  rw [show ((1 : Nat) : Int) = 1 from rfl] at h2
  rw [h2] at h ⊢
  have h4 : z.toNat / 2 ^ m &&& 1 ≤ 1 := Nat.and_le_right
  have h5 : (((z.toNat / 2 ^ m &&& 1 : Nat) : Int)) = ((bitv (z.toNat.testBit m)).toNat : Int) := by omega
  rw [h5, hz, UInt8.toNat_xor, Nat.testBit_xor]
  cases x.toNat.testBit m <;> cases y.toNat.testBit m <;> rfl

set_option maxHeartbeats 400000 in
theorem crcUnlike_big (A A' : Option Addr) (n c n' c' : Nat) (w : World) (hn : n ≤ maxLen) (hn' : n' ≤ maxLen) (h : 4096 < n) :
    Calls Try.prog 5 #[.slice A n c, .slice A' n' c'] w fun e w' => e = .returned (.bool true) ∧ Below w.heap.size w w' := by
  unfold maxLen at hn hn'
  go_enter Try.func5, Try.ntmps5
  go_wp2_with (go_at_call 9; refine (works_any _).mono ?_; rintro e w4 ⟨rfl, hb4⟩)
  go_ret
  exact ⟨rfl, hb4⟩
set_option maxHeartbeats 400000 in
theorem crcUnlike_other (A A' : Option Addr) (n c n' c' : Nat) (w : World) (hn : n ≤ maxLen) (hn' : n' ≤ maxLen) (h : n ≠ n') (h0 : n ≤ 4096) :
    Calls Try.prog 5 #[.slice A n c, .slice A' n' c'] w fun e w' => e = .returned (.bool true) ∧ Below w.heap.size w w' := by
  unfold maxLen at hn hn'
  have hne : ((n : Int) != (n' : Int)) = true := by rw [bne_iff_ne]; omega
  go_enter Try.func5, Try.ntmps5
  go_wp2_with (go_at_call 9; refine (works_any _).mono ?_; rintro e w4 ⟨rfl, hb4⟩)
  go_ret
  exact ⟨rfl, hb4⟩

set_option maxHeartbeats 1000000 in
theorem crcUnlike_small (A A' : Option Addr) (n c c' : Nat) (xs ys : List UInt8) (w : World) (h : n ≤ 4096) (hx : xs.length = n) (hr : Rd w w.heap.size A xs) (hy : ys.length = n) (hr' : Rd w w.heap.size A' ys) :
    Calls Try.prog 5 #[.slice A n c, .slice A' n c'] w fun e w' => e = .returned (.bool true) ∧ Below w.heap.size w w' := by
  have HX := Lib.hid hx
  have HY := Lib.hid hy
  clear hx hy
  go_enter Try.func5, Try.ntmps5
  go_wp2
  go_loopw [5, 6, 7] (fun f l i wr => ∃ (k q : Nat) (F L : Int), k ≤ 8 * n ∧ i = .int .i64 k ∧ f = .int .i64 F ∧ l = .int .i64 L ∧ Hid (Span (dif xs ys) k F L) ∧ wr = w.drewN q) (fun _ _ i _ => 8 * n - (intOf i).toNat)
  case atStart => exact ⟨0, 0, -1, -1, Nat.zero_le _, rfl, rfl, rfl, Span.none _, rfl⟩
  case round =>
    obtain ⟨k, q, F, L, hk, rfl, rfl, rfl, hs, rfl⟩ := hrel
    have hbd := hs.out.bounds
    by_cases hlt : k < 8 * n
    · obtain ⟨b, o, rfl, hbl, hcx⟩ := hr.at_ (by rintro rfl; have := HX.out; simp at this; omega)
      obtain ⟨b', o', rfl, hbl', hcy⟩ := hr'.at_ (by rintro rfl; have := HY.out; simp at this; omega)
      have hkx : k / 8 < xs.length := by have := HX.out; omega
      have hky : k / 8 < ys.length := by have := HY.out; omega
      have hc1 := hcx (k / 8) hkx
      have hc2 := hcy (k / 8) hky
      obtain ⟨z, hz⟩ : ∃ z : UInt8, z = xs[k / 8] ^^^ ys[k / 8] := ⟨_, rfl⟩
      have hxor := bits_xor_u8 xs[k / 8] ys[k / 8]
      rw [← hz] at hxor
      have hzb := z.toNat_lt
      have hbit := dif_bit _ _ z hz (k % 8)
      have hdk : dif xs ys k = (xs[k / 8].toNat.testBit (k % 8) ^^ ys[k / 8].toNat.testBit (k % 8)) := by unfold dif; rw [bitAt_get xs k hkx, bitAt_get ys k hky]
      rw [← hdk] at hbit
      clear hdk hz hcx hcy
      cases hd : dif xs ys k
      all_goals
        rw [hd] at hbit
        have HD := Lib.hid hd
        clear hd
      · go_wp2
        go_quiet (fail)
        go_wp2
        go_roundw
        case rel => exact ⟨k + 1, _, F, L, by omega, by go_num, rfl, rfl, hs.out.same HD.out, rfl⟩
        case measure => simp [intOf]; omega
      · by_cases hf : F < 0
        · go_wp2
          go_quiet (fail)
          go_wp2
          go_roundw
          case rel => exact ⟨k + 1, _, k, k, by omega, by go_num, rfl, rfl, hs.out.first hf HD.out, rfl⟩
          case measure => simp [intOf]; omega
        · go_wp2
          go_quiet (fail)
          go_wp2
          go_roundw
          case rel => exact ⟨k + 1, _, F, k, by omega, by go_num, rfl, rfl, hs.out.next (by omega) HD.out, rfl⟩
          case measure => simp [intOf]; omega
    · obtain rfl : k = 8 * n := by omega
      by_cases hw : L - F < 32
      · have hsum := span_sum xs ys (by rw [HX.out, HY.out]) (by rw [HX.out]; exact hs.out) hw
        have heq := rv_inj (sum xs) (sum ys)
        rw [hsum] at heq
        clear hsum
        go_wp2_with fail
        refine (sum_any _ _ _ _ _ _ (by unfold maxLen; omega) HX.out (hr.drewN q)).mono ?_
        rintro e w2 ⟨rfl, rfl⟩
        go_wp2_with fail
        refine (sum_any _ _ _ _ _ _ (by unfold maxLen; omega) HY.out (hr'.drewN q)).mono ?_
        rintro e w2 ⟨rfl, rfl⟩
        go_wp2_with fail
        refine (works_any _).mono ?_
        rintro e w3 ⟨rfl, hb3⟩
        go_wp2
        go_ret
        exact ⟨rfl, below_then (below_drewN (Below.refl _ _) q) (Nat.le_refl _) hb3⟩
      · go_wp2_with (go_at_call 9; refine (works_any _).mono ?_; rintro e w4 ⟨rfl, hb4⟩)
        go_ret
        exact ⟨rfl, below_then (below_drewN (Below.refl _ _) q) (Nat.le_refl _) hb4⟩

theorem crcUnlike_walk (A : Option Addr) (n c : Nat) (xs : List UInt8) (A' : Option Addr) (n' c' : Nat) (ys : List UInt8) (w : World) (hc : n ≤ c) (hcm : c ≤ maxLen) (hx : xs.length = n) (hr : Rd w w.heap.size A xs) (hc' : n' ≤ c') (hcm' : c' ≤ maxLen) (hy : ys.length = n') (hr' : Rd w w.heap.size A' ys) :
    Calls Try.prog 5 #[.slice A n c, .slice A' n' c'] w fun e w' => e = .returned (.bool true) ∧ Below w.heap.size w w' := by
  by_cases h : 4096 < n
  · exact crcUnlike_big A A' n c n' c' w (by omega) (by omega) h
  · by_cases hne : n = n'
    · subst hne
      exact crcUnlike_small A A' n c c' xs ys w (by omega) hx hr hy hr'
    · exact crcUnlike_other A A' n c n' c' w (by omega) (by omega) hne (by omega)
end Go.Proofs.Ythbabncihlclpaa
