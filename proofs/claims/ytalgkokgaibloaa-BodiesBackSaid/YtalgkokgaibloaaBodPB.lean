/-
  Package bodies, plainly: what each Get answers of what each Put wrote.
-/
import Derived.Test.YtalgkokgaibloaaBodG
namespace Go.Proofs.Ytalgkokgaibloaa
open Go.RowKit
set_option linter.unusedVariables false

theorem okD_put (d : BData) (h : d.Ok) : okD 0 (flagsD d.un d.fi d.la) (bodyD d) = decide (0 < d.bytes.length) := by
  unfold okD
  rw [parse_put d h, length_bodyD, Bool.eq_iff_iff, Bool.and_eq_true, decide_eq_true_iff, decide_eq_true_iff, decide_eq_true_iff]
  constructor
  · rintro ⟨h1, _⟩; omega
  · intro h1; exact ⟨by omega, rfl, rfl, rfl⟩
theorem ansD_put (d : BData) (h : d.Ok) (h0 : 0 < d.bytes.length) : ansD 0 (flagsD d.un d.fi d.la) (bodyD d) = d := by
  unfold ansD
  rw [okD_put d h, decide_eq_true h0, if_pos rfl, parse_put d h]

theorem PI_put (k : UInt8) (hk : k = 1 ∨ k = 2) (d : BInit) (h : d.Ok) (hc : d.cookie.length ≤ 65531) : PI k (bodyI k d) = if k = 2 then d else { d with cookie := [] } := by
  have hp := parse_putI k d h (fun _ => hc)
  have hl := length_bodyI k d
  have hl16 : 16 ≤ (bodyI k d).length := by rw [hl]; split <;> omega
  rw [← hp]
  unfold PI parseI
  rw [numO_in (by omega), numO_in (by omega), numO_in (by omega), numO_in (by omega), numO_in (by omega)]
  congr 1
  rcases hk with rfl | rfl
  · rfl
  · have h18 : num (bodyI 2 d) 18 2 = 4 + d.cookie.length := by
      rw [bodyI_ack, num_drop, drop_headI _ _ _ (by decide), drop_enc]
      exact num_put _ 2 _ (by omega)
    have hu := up4_bd d.cookie.length
    rw [if_pos rfl] at hl
    have hle : 20 ≤ (bodyI 2 d).length := by omega
    unfold cookieOf
    rw [numO_in (by omega), h18, if_pos ⟨rfl, by omega, by omega⟩, if_pos rfl]
theorem okI_put (k : UInt8) (hk : k = 1 ∨ k = 2) (d : BInit) (h : d.Ok) (hc : d.cookie.length ≤ 65531) : okI k 0 (bodyI k d) = decide (d.tag ≠ 0 ∧ d.out ≠ 0 ∧ d.in_ ≠ 0 ∧ (k = 1 ∨ 0 < d.cookie.length)) := by
  unfold okI
  have hp := PI_put k hk d h hc
  have hb : bodyI k (PI k (bodyI k d)) = bodyI k d := by
    rw [hp]
    rcases hk with rfl | rfl
    · rw [if_neg (by decide)]
      rfl
    · rw [if_pos rfl]
  have e2 : decide (k = k ∧ (0 : UInt8) = 0 ∧ bodyI k d = bodyI k (PI k (bodyI k d))) = true := by rw [hb]; simp
  rw [e2, Bool.and_true, hp]
  rcases hk with rfl | rfl
  · rw [if_neg (by decide)]
    simp [validI]
  · rw [if_pos rfl]
    simp [validI]
theorem ansI_put (k : UInt8) (hk : k = 1 ∨ k = 2) (d : BInit) (h : d.Ok) (hc : d.cookie.length ≤ 65531) (ho : okI k 0 (bodyI k d) = true) : ansI k 0 (bodyI k d) = if k = 2 then d else { d with cookie := [] } := by
  unfold ansI
  rw [ho, if_pos rfl, PI_put k hk d h hc]

theorem okS_put (d : BSack) (h : d.Ok) (hg : d.gaps.length < 65536) (hd : d.dups.length < 65536) : okS 3 0 (bodyS d) = apartG 0 d.gaps := by
  unfold okS
  rw [parse_putS d h hg hd]
  simp
theorem ansS_put (d : BSack) (h : d.Ok) (hg : d.gaps.length < 65536) (hd : d.dups.length < 65536) (ha : apartG 0 d.gaps = true) : ansS 3 0 (bodyS d) = d := by
  unfold ansS
  rw [okS_put d h hg hd, ha, if_pos rfl, parse_putS d h hg hd]

theorem okF_put (d : BFwd) (h : d.Ok) : okF 192 0 (bodyF d) = true := by
  unfold okF
  rw [parse_putF d h]
  simp
theorem ansF_put (d : BFwd) (h : d.Ok) : ansF 192 0 (bodyF d) = d := by
  unfold ansF
  rw [okF_put d h, if_pos rfl, parse_putF d h]

theorem numO_bodyT (q : Nat) (h : q < 18446744073709551616) : numO (bodyT q) 4 8 = q := by
  rw [numO_in (by rw [length_bodyT]; decide), parse_putT q h]
theorem okT_put (k : UInt8) (hk : k = 4 ∨ k = 5) (q : Nat) (h : q < 18446744073709551616) : okT k 0 (bodyT q) = true := by
  unfold okT
  rw [numO_bodyT q h]
  simp [hk]
theorem ansT_put (k : UInt8) (hk : k = 4 ∨ k = 5) (t : Int) (ht : -9223372036854775808 ≤ t ∧ t < 9223372036854775808) : ansT k 0 (bodyT (t % 18446744073709551616).toNat) = t := by
  have h : (t % 18446744073709551616).toNat < 18446744073709551616 := by omega
  unfold ansT
  rw [okT_put k hk _ h, if_pos rfl, numO_bodyT _ h, s64_of ht]
theorem numO_enc4 (x : Nat) (h : x < 4294967296) : numO (enc x 4) 0 4 = x := by
  rw [numO_in (by rw [length_enc]; decide), parse_putC x h]
theorem okC_put (x : Nat) (h : x < 4294967296) : okC 7 0 (enc x 4) = true := by
  unfold okC
  rw [numO_enc4 x h]
  simp
theorem ansC_put (x : Nat) (h : x < 4294967296) : ansC 7 0 (enc x 4) = x := by
  unfold ansC
  rw [okC_put x h, if_pos rfl, numO_enc4 x h]
end Go.Proofs.Ytalgkokgaibloaa
