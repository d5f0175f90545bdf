/-
  Layer 3: SerialHalf, walked.
-/
import Derived.Test.YteodjppligelnaaSerL1
namespace Go.Proofs.Yteodjppligelnaa
open Go.RowKit
set_option linter.unusedVariables false

/-- How two numbers may lie: p is less, q is less the other way, they are the same, they are a half apart. -/
def Lies (p q same apart : Bool) : Prop := (p = false ∧ q = false ∧ same = true ∧ apart = false) ∨ (p = false ∧ q = false ∧ same = false ∧ apart = true) ∨
  (p = true ∧ q = false ∧ same = false ∧ apart = false) ∨ (p = false ∧ q = true ∧ same = false ∧ apart = false)
theorem lss_true {m a b : Int} : lss m a b = true ↔ 1 ≤ (b - a) % m ∧ (b - a) % m < m / 2 := by
  have := (lss_iff (p := lss m a b) (m := m) (a := a) (b := b)).1 rfl
  exact this
theorem lss_false {m a b : Int} : lss m a b = false ↔ ¬ (1 ≤ (b - a) % m ∧ (b - a) % m < m / 2) := by
  rw [← lss_true, Bool.not_eq_true]
theorem lie_of {m a b : Int} (hm : m = 65536 ∨ m = 4294967296) (ha : 0 ≤ a ∧ a < m) (hb : 0 ≤ b ∧ b < m) : Lies (lss m a b) (lss m b a) (a == b) ((a - b) % m == m / 2) := by
  unfold Lies
  rcases hm with rfl | rfl
  all_goals
    simp only [lss_true, lss_false, beq_iff_eq, beq_eq_false_iff_ne]
    omega
theorem bne_of {a b : Int} {v : Bool} (h : (a == b) = v) : (a != b) = !v := by rw [bne, h]
theorem mxx_after {m a b : Int} (h : lss m a b = true) : mxx m a b = b := if_pos h
theorem mxx_first {m a b : Int} (h : lss m a b = false) : mxx m a b = a := if_neg (by rw [h]; decide)
theorem lss_self (m a : Int) : lss m a a = false := by rw [lss_false]; simp

set_option maxHeartbeats 4000000 in
theorem serialHalf_walk (a b : Int) (w : World) (ha : (Lit.int .u32 a).wf = true) (hb : (Lit.int .u32 b).wf = true) :
    Calls Try.prog 7 #[.int .u32 a, .int .u32 b] w fun e w' => e = .returned (.bool true) ∧ Below w.heap.size w w' := by
  have ha := u32_in ha
  have hb := u32_in hb
  have hc := mod16_in a
  have hd := mod16_in b
  have h1 : Lies (lss 4294967296 a b) (lss 4294967296 b a) (a == b) ((a - b) % 4294967296 == 2147483648) := lie_of (.inr rfl) ha hb
  have h2 : Lies (lss 65536 (a % 65536) (b % 65536)) (lss 65536 (b % 65536) (a % 65536)) (a % 65536 == b % 65536) (IntKind.u16.wrap (a % 65536 - b % 65536) == 32768) := by rw [wrap_u16]; exact lie_of (.inl rfl) hc hd
  unfold Lies at h1 h2
  rcases h1 with ⟨e1, e2, h3, h4⟩ | ⟨e1, e2, h3, h4⟩ | ⟨e1, e2, h3, h4⟩ | ⟨e1, e2, h3, h4⟩
  all_goals rcases h2 with ⟨e3, e4, h5, h6⟩ | ⟨e3, e4, h5, h6⟩ | ⟨e3, e4, h5, h6⟩ | ⟨e3, e4, h5, h6⟩
  all_goals
    have E1 := Lib.hid e1
    have E2 := Lib.hid e2
    have E3 := Lib.hid e3
    have E4 := Lib.hid e4
    have n3 := bne_of h3
    have n4 := bne_of h4
    have n5 := bne_of h5
    have n6 := bne_of h6
    clear e1 e2 e3 e4
    go_enter Try.func7, Try.ntmps7
    go_wp2_with fail
    refine (less_32 _ _ _ ha hb).mono ?_
    rintro e w2 ⟨rfl, rfl⟩
    rw [E1.out]
    go_wp2_with fail
    refine (less_32 _ _ _ hb ha).mono ?_
    rintro e w2 ⟨rfl, rfl⟩
    rw [E2.out]
    go_wp2_with fail
    refine (less_16 _ _ _ hc hd).mono ?_
    rintro e w2 ⟨rfl, rfl⟩
    rw [E3.out]
    go_wp2_with fail
    refine (less_16 _ _ _ hd hc).mono ?_
    rintro e w2 ⟨rfl, rfl⟩
    rw [E4.out]
    go_wp2_with fail
    refine (less_32 _ _ _ ha ha).mono ?_
    rintro e w2 ⟨rfl, rfl⟩
    rw [lss_self]
    go_wp2_with fail
    refine (less_16 _ _ _ hc hc).mono ?_
    rintro e w2 ⟨rfl, rfl⟩
    rw [lss_self]
    go_wp2_with (first
      | (go_at_call 16; refine (works_any _).mono ?_; rintro e w2 ⟨rfl, rfl⟩)
      | (go_at_call 23; refine (max_32 _ _ _ (by assumption) (by assumption)).mono ?_; rintro e w2 ⟨rfl, rfl⟩; first | rw [mxx_after E1.out] | rw [mxx_first E2.out])
      | (go_at_call 26; refine (max_16 _ _ _ (by assumption) (by assumption)).mono ?_; rintro e w2 ⟨rfl, rfl⟩; first | rw [mxx_after E3.out] | rw [mxx_first E4.out]))
    go_ret
    exact ⟨rfl, Below.refl _ _⟩
end Go.Proofs.Yteodjppligelnaa
