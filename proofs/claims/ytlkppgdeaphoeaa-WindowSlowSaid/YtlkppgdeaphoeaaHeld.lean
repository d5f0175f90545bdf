/-
  A plain region, hidden from the walk.
-/
import Derived.WalkKit
import Derived.Test.YtlkppgdeaphoeaaMem
namespace Go.Proofs.Ytlkppgdeaphoeaa
open Go.RowKit
set_option linter.unusedVariables false

/-- A region, a range over a function whose walk stops ahead of it. -/
def Held (id : Nat) (ops : Array Oper) : Code := .region id ops false
theorem held_eq (id : Nat) (ops : Array Oper) : Code.region id ops false = Held id ops := rfl
/-- A region that draws its order; the walk stops ahead of it. -/
def Drawn (id : Nat) (ops : Array Oper) : Code := .region id ops true
theorem drawn_eq (id : Nat) (ops : Array Oper) : Code.region id ops true = Drawn id ops := rfl
end Go.Proofs.Ytlkppgdeaphoeaa
