/-
  The order of the encodings of two numbers is theirs.
-/
import Derived.Test.YthhmdbgmokdadaaPut
import Derived.Test.YthhmdbgmokdadaaApart
namespace Go.Proofs.Ythhmdbgmokdadaa
open Go.RowKit
set_option linter.unusedVariables false

theorem enc_succ (x s : Nat) : enc x (s + 1) = byteOf x s :: enc x s := by
  apply List.ext_getElem?
  intro j
  match j with
  | 0 => rw [get_enc _ _ _ (by omega)]; simp
  | j + 1 =>
    rw [List.getElem?_cons_succ]
    rcases Nat.lt_or_ge j s with h | h
    · rw [get_enc _ _ _ (by omega), get_enc _ _ _ h]
      congr 2
      omega
    · rw [List.getElem?_eq_none (by rw [length_enc]; omega), List.getElem?_eq_none (by rw [length_enc]; omega)]

theorem byteOf_nat (x k : Nat) : (byteOf x k).toNat = x / 256 ^ k % 256 := by
  have := toNat_byteOf x k
  omega

theorem mod_succ (x s : Nat) : x % 256 ^ (s + 1) = (x / 256 ^ s % 256) * 256 ^ s + x % 256 ^ s := by
  rw [Nat.pow_succ, Nat.mod_mul, Nat.add_comm, Nat.mul_comm]

theorem bytesLess_enc (x y s : Nat) : Op.bytesLess (enc x s) (enc y s) = decide (x % 256 ^ s < y % 256 ^ s) := by
  induction s with
  | zero => simp [enc, Op.bytesLess, Nat.mod_one]
  | succ s ih =>
    rw [enc_succ, enc_succ, Op.bytesLess, ih, mod_succ, mod_succ]
    have hx := byteOf_nat x s
    have hy := byteOf_nat y s
    have h1 : x % 256 ^ s < 256 ^ s := Nat.mod_lt _ (Nat.pow_pos (by decide))
    have h2 : y % 256 ^ s < 256 ^ s := Nat.mod_lt _ (Nat.pow_pos (by decide))
    rw [← hx, ← hy]
    have hlt : decide (byteOf x s < byteOf y s) = decide ((byteOf x s).toNat < (byteOf y s).toNat) := by simp [UInt8.lt_iff_toNat_lt]
    have heq : (byteOf x s == byteOf y s) = decide ((byteOf x s).toNat = (byteOf y s).toNat) := by
      rw [Bool.eq_iff_iff, beq_iff_eq, decide_eq_true_iff, UInt8.toNat_inj]
    rw [hlt, heq, Bool.eq_iff_iff]
    simp only [Bool.or_eq_true, Bool.and_eq_true, decide_eq_true_iff]
    generalize (byteOf x s).toNat = a
    generalize (byteOf y s).toNat = b
    generalize x % 256 ^ s = p at *
    generalize y % 256 ^ s = q at *
    generalize 256 ^ s = m at *
    constructor
    · rintro (h | ⟨rfl, h⟩)
      · have : (a + 1) * m ≤ b * m := Nat.mul_le_mul_right m h
        rw [Nat.add_mul] at this
        omega
      · omega
    · intro h
      rcases Nat.lt_trichotomy a b with hab | hab | hab
      · exact .inl hab
      · subst hab; exact .inr ⟨rfl, by omega⟩
      · have : (b + 1) * m ≤ a * m := Nat.mul_le_mul_right m hab
        rw [Nat.add_mul] at this
        omega
end Go.Proofs.Ythhmdbgmokdadaa
