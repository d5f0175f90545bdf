/-
  CopyBytes over any row: a slice of the call's own.
-/
import Derived.Test.YtalgkokgaibloaaCopy
import Derived.Test.YtalgkokgaibloaaOwn
namespace Go.Proofs.Ytalgkokgaibloaa
open Go.RowKit
set_option linter.unusedVariables false

/-- CopyBytes over any row. -/
theorem copyBytes_any (A : Option Addr) (n c : Nat) (xs : List UInt8) (w : World) (hn : n ≤ 140737488355328) (hx : xs.length = n) (hr : Rd w w.heap.size A xs) :
    Calls Try.prog 57 #[.slice A n c] w fun e w' => ∃ A2 c2, e = .returned (.slice A2 n c2) ∧ Own8 w' 5 w.heap.size A2 n c2 xs ∧ Below w.heap.size w w' := by
  by_cases h0 : n = 0
  · subst h0
    obtain rfl := List.eq_nil_of_length_eq_zero hx
    exact (copyBytes_none A c w).mono fun e w' ⟨he, hw⟩ => ⟨none, 0, he, Own8.nil _ _ _, hw ▸ Below.refl _ _⟩
  · exact (copyBytes_some A n c xs w h0 (by omega) hx hr).mono fun e w' ⟨he, hrow, hb⟩ => ⟨_, n, he, Own8.of_row hrow (Nat.le_refl _) hx (by unfold maxLen; omega), hb⟩
end Go.Proofs.Ytalgkokgaibloaa
