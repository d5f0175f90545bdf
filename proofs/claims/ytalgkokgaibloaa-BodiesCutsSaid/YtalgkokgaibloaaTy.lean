/-
  The type []byte, for the laws of append and copy.
-/
import Derived.Test.YtalgkokgaibloaaRoomy
import Derived.Test.YtalgkokgaibloaaOwn
namespace Go.Proofs.Ytalgkokgaibloaa
open Go.RowKit
set_option linter.unusedVariables false

theorem Try.ty8 : ∃ i, Ty8 Try.prog 24 5 i := by
  obtain ⟨i0, hi, hz0, hz1, hz2⟩ := info_parts Try.info8
  exact ⟨i0, ⟨Try.underlying24, hi, hz0, hz1, hz2⟩⟩
end Go.Proofs.Ytalgkokgaibloaa
