/-
  The type []byte, for the laws of append and copy.
-/
import Derived.Test.YtdhbafmccphelaaDoorRoomy
import Derived.Test.YtdhbafmccphelaaDoorOwn
namespace Go.Proofs.YtdhbafmccphelaaDoor
open Go.RowKit
set_option linter.unusedVariables false

theorem Tryd.ty8 : ∃ i, Ty8 Tryd.prog 22 5 i := by
  obtain ⟨i0, hi, hz0, hz1, hz2⟩ := info_parts Tryd.info8
  exact ⟨i0, ⟨Tryd.underlying22, hi, hz0, hz1, hz2⟩⟩
end Go.Proofs.YtdhbafmccphelaaDoor
