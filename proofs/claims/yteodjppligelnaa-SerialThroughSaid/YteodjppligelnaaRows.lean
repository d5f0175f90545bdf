/-
  No cell of these rows narrows 'for every input' (looked for: loops, veiled, ifaces, maps, wideKeys, modest, calm, conditions, laid).
  DERIVED. THE GIVEN ROWS OF THIS SEAT. 7 by the template 'for every input the law returns true; each argument reads behind the call as it read before'; 0 by the template 'total and deterministic' (their statements: YteodjppligelnaaTotals.lean).
  GIVEN WITH THE SEED: the statements are not yours to turn. If you find one false, say at which input.
  Laid BY PROGRAM, IN A SANDBOX (cutbox-rows.mjs): the forced cells as the released guide's own fill.sh prints them over the translation f9dd90249e68555b… (all of the seat's roots in one cut). By AI agents, Wed Nov 11 2026. No macro, syntax, notation, axiom, sorry.
-/
import Derived.Test.YteodjppligelnaaChecked
import GoSem.Claim
import GoSem.ClaimJoined
import GoSem.ClaimMapViews
import Derived.JoinedTies
import Derived.KernelRfl
namespace Go.Proofs.Yteodjppligelnaa
/- THE CELL 'sum', in the pinned program and in every row, IS THE sha256 OF THE DUMP (.gsa) THAT YteodjppligelnaaProg.lean LOADS. Nothing in Lean hashes anything: it is a label: what it is worth is what the hold of that sum in a sandbox is worth. -/
noncomputable def Try.pinned : Pinned := { name := "yteodjppligelnaa", sum := "f9dd90249e68555b87f941f8bf88952a8ec4fcf98b33be2dae2f1fd2748ffd75", checked := Try.checked }
namespace Rows
def none {H : Type} : Left H := { results := [], args := [] }

/-- 'fairleadlaw03.SerialAhead': WHATEVER THE INPUT: true; the input reads as it did. -/
def serialAheadSpec : ChangeSpec := { name := "serialAhead", fn := fun _ => fun
  | [d1, d2] => { results := [.lit (.bool true)], args := [d1, d2] }
  | _ => none }
def serialAheadRow : OpenClaim := { program := "yteodjppligelnaa", sum := "f9dd90249e68555b87f941f8bf88952a8ec4fcf98b33be2dae2f1fd2748ffd75", func := "fairlead/fairleadlaw03.SerialAhead", spec := "serialAhead", apart := false }
def SerialAheadSaid : Prop := serialAheadRow.holds Try.pinned (OpenSpec.ofChange serialAheadSpec)

/-- ITS FALSE NEIGHBOUR: 'it returns false'. Refute it at one input. -/
def serialAheadWrong : ChangeSpec := { name := "serialAhead", fn := fun _ => fun
  | [d1, d2] => { results := [.lit (.bool false)], args := [d1, d2] }
  | _ => none }
def SerialAheadWrongFalsely : Prop := serialAheadRow.holds Try.pinned (OpenSpec.ofChange serialAheadWrong)

/-- 'fairleadlaw03.SerialLess': WHATEVER THE INPUT: true; the input reads as it did. -/
def serialLessSpec : ChangeSpec := { name := "serialLess", fn := fun _ => fun
  | [d1, d2] => { results := [.lit (.bool true)], args := [d1, d2] }
  | _ => none }
def serialLessRow : OpenClaim := { program := "yteodjppligelnaa", sum := "f9dd90249e68555b87f941f8bf88952a8ec4fcf98b33be2dae2f1fd2748ffd75", func := "fairlead/fairleadlaw03.SerialLess", spec := "serialLess", apart := false }
def SerialLessSaid : Prop := serialLessRow.holds Try.pinned (OpenSpec.ofChange serialLessSpec)

/-- ITS FALSE NEIGHBOUR: 'it returns false'. Refute it at one input. -/
def serialLessWrong : ChangeSpec := { name := "serialLess", fn := fun _ => fun
  | [d1, d2] => { results := [.lit (.bool false)], args := [d1, d2] }
  | _ => none }
def SerialLessWrongFalsely : Prop := serialLessRow.holds Try.pinned (OpenSpec.ofChange serialLessWrong)

/-- 'fairleadlaw03.SerialMax': WHATEVER THE INPUT: true; the input reads as it did. -/
def serialMaxSpec : ChangeSpec := { name := "serialMax", fn := fun _ => fun
  | [d1, d2] => { results := [.lit (.bool true)], args := [d1, d2] }
  | _ => none }
def serialMaxRow : OpenClaim := { program := "yteodjppligelnaa", sum := "f9dd90249e68555b87f941f8bf88952a8ec4fcf98b33be2dae2f1fd2748ffd75", func := "fairlead/fairleadlaw03.SerialMax", spec := "serialMax", apart := false }
def SerialMaxSaid : Prop := serialMaxRow.holds Try.pinned (OpenSpec.ofChange serialMaxSpec)

/-- ITS FALSE NEIGHBOUR: 'it returns false'. Refute it at one input. -/
def serialMaxWrong : ChangeSpec := { name := "serialMax", fn := fun _ => fun
  | [d1, d2] => { results := [.lit (.bool false)], args := [d1, d2] }
  | _ => none }
def SerialMaxWrongFalsely : Prop := serialMaxRow.holds Try.pinned (OpenSpec.ofChange serialMaxWrong)

/-- 'fairleadlaw03.SerialIn': WHATEVER THE INPUT: true; the input reads as it did. -/
def serialInSpec : ChangeSpec := { name := "serialIn", fn := fun _ => fun
  | [d1, d2, d3] => { results := [.lit (.bool true)], args := [d1, d2, d3] }
  | _ => none }
def serialInRow : OpenClaim := { program := "yteodjppligelnaa", sum := "f9dd90249e68555b87f941f8bf88952a8ec4fcf98b33be2dae2f1fd2748ffd75", func := "fairlead/fairleadlaw03.SerialIn", spec := "serialIn", apart := false }
def SerialInSaid : Prop := serialInRow.holds Try.pinned (OpenSpec.ofChange serialInSpec)

/-- ITS FALSE NEIGHBOUR: 'it returns false'. Refute it at one input. -/
def serialInWrong : ChangeSpec := { name := "serialIn", fn := fun _ => fun
  | [d1, d2, d3] => { results := [.lit (.bool false)], args := [d1, d2, d3] }
  | _ => none }
def SerialInWrongFalsely : Prop := serialInRow.holds Try.pinned (OpenSpec.ofChange serialInWrong)

/-- 'fairleadlaw03.SerialHalf': WHATEVER THE INPUT: true; the input reads as it did. -/
def serialHalfSpec : ChangeSpec := { name := "serialHalf", fn := fun _ => fun
  | [d1, d2] => { results := [.lit (.bool true)], args := [d1, d2] }
  | _ => none }
def serialHalfRow : OpenClaim := { program := "yteodjppligelnaa", sum := "f9dd90249e68555b87f941f8bf88952a8ec4fcf98b33be2dae2f1fd2748ffd75", func := "fairlead/fairleadlaw03.SerialHalf", spec := "serialHalf", apart := false }
def SerialHalfSaid : Prop := serialHalfRow.holds Try.pinned (OpenSpec.ofChange serialHalfSpec)

/-- ITS FALSE NEIGHBOUR: 'it returns false'. Refute it at one input. -/
def serialHalfWrong : ChangeSpec := { name := "serialHalf", fn := fun _ => fun
  | [d1, d2] => { results := [.lit (.bool false)], args := [d1, d2] }
  | _ => none }
def SerialHalfWrongFalsely : Prop := serialHalfRow.holds Try.pinned (OpenSpec.ofChange serialHalfWrong)

/-- 'fairleadlaw03.SerialShift': WHATEVER THE INPUT: true; the input reads as it did. -/
def serialShiftSpec : ChangeSpec := { name := "serialShift", fn := fun _ => fun
  | [d] => { results := [.lit (.bool true)], args := [d] }
  | _ => none }
def serialShiftRow : OpenClaim := { program := "yteodjppligelnaa", sum := "f9dd90249e68555b87f941f8bf88952a8ec4fcf98b33be2dae2f1fd2748ffd75", func := "fairlead/fairleadlaw03.SerialShift", spec := "serialShift", apart := false }
def SerialShiftSaid : Prop := serialShiftRow.holds Try.pinned (OpenSpec.ofChange serialShiftSpec)

/-- ITS FALSE NEIGHBOUR: 'it returns false'. Refute it at one input. -/
def serialShiftWrong : ChangeSpec := { name := "serialShift", fn := fun _ => fun
  | [d] => { results := [.lit (.bool false)], args := [d] }
  | _ => none }
def SerialShiftWrongFalsely : Prop := serialShiftRow.holds Try.pinned (OpenSpec.ofChange serialShiftWrong)

/-- 'fairleadlaw03.SerialThrough': WHATEVER THE INPUT: true; the input reads as it did. -/
def serialThroughSpec : ChangeSpec := { name := "serialThrough", fn := fun _ => fun
  | [d1, d2, d3] => { results := [.lit (.bool true)], args := [d1, d2, d3] }
  | _ => none }
def serialThroughRow : OpenClaim := { program := "yteodjppligelnaa", sum := "f9dd90249e68555b87f941f8bf88952a8ec4fcf98b33be2dae2f1fd2748ffd75", func := "fairlead/fairleadlaw03.SerialThrough", spec := "serialThrough", apart := false }
def SerialThroughSaid : Prop := serialThroughRow.holds Try.pinned (OpenSpec.ofChange serialThroughSpec)

/-- ITS FALSE NEIGHBOUR: 'it returns false'. Refute it at one input. -/
def serialThroughWrong : ChangeSpec := { name := "serialThrough", fn := fun _ => fun
  | [d1, d2, d3] => { results := [.lit (.bool false)], args := [d1, d2, d3] }
  | _ => none }
def SerialThroughWrongFalsely : Prop := serialThroughRow.holds Try.pinned (OpenSpec.ofChange serialThroughWrong)

/- THE SECOND FORM. 'bulk': how many values and letters a reading holds, each counted each time it is reached (what is shared counts as often as it is met; a slice's spare places count too). A statement '..UptoSaid' is the law's where the arguments, and the package variables that the reading takes, are together of bulk at most 1048576: NARROWER than '..Said'. Prove '..Said' where nothing that the law and all that it calls make is longer than what came in: it says more and counts as full. Else prove '..UptoSaid'. A law counts once. -/
mutual
def uptoBulk {H : Type} : DataW H → Nat
  | .lit (.string bytes) => bytes.length + 1
  | .lit _ => 1
  | .nil => 1
  | .ptr d => uptoBulk d + 1
  | .slice elems spare => uptoBulkAll elems + uptoBulkAll spare + 1
  | .agg parts => uptoBulkAll parts + 1
  | .iface _ d => uptoBulk d + 1
  | .map entries => uptoBulkEntries entries + 1
  | .held _ => 1
def uptoBulkAll {H : Type} : List (DataW H) → Nat
  | [] => 0
  | d :: r => uptoBulk d + uptoBulkAll r
def uptoBulkEntries {H : Type} : List (Lit × DataW H) → Nat
  | [] => 0
  | x :: r => uptoBulkEntry x + uptoBulkEntries r
def uptoBulkEntry {H : Type} : Lit × DataW H → Nat
  | (.string bytes, d) => bytes.length + uptoBulk d + 1
  | (_, d) => uptoBulk d + 1
 end
def uptoSmall : (H : Type) → List (DataW H) → Bool := fun _ ds => decide (uptoBulkAll ds ≤ 1048576)
def OpenSpec.upto (s : _root_.Go.ChangeSpec) : _root_.Go.OpenSpec := { _root_.Go.OpenSpec.ofChange s with cond := some uptoSmall }

/-- 'fairleadlaw03.SerialAhead', WHERE WHAT IT READS IS OF BULK AT MOST 1048576: true; the input reads as it did. -/
def serialAheadUptoRow : OpenClaim := { program := "yteodjppligelnaa", sum := "f9dd90249e68555b87f941f8bf88952a8ec4fcf98b33be2dae2f1fd2748ffd75", func := "fairlead/fairleadlaw03.SerialAhead", spec := "serialAhead", apart := false, narrowed := true }
def SerialAheadUptoSaid : Prop := serialAheadUptoRow.holds Try.pinned (OpenSpec.upto serialAheadSpec)

/-- 'fairleadlaw03.SerialLess', WHERE WHAT IT READS IS OF BULK AT MOST 1048576: true; the input reads as it did. -/
def serialLessUptoRow : OpenClaim := { program := "yteodjppligelnaa", sum := "f9dd90249e68555b87f941f8bf88952a8ec4fcf98b33be2dae2f1fd2748ffd75", func := "fairlead/fairleadlaw03.SerialLess", spec := "serialLess", apart := false, narrowed := true }
def SerialLessUptoSaid : Prop := serialLessUptoRow.holds Try.pinned (OpenSpec.upto serialLessSpec)

/-- 'fairleadlaw03.SerialMax', WHERE WHAT IT READS IS OF BULK AT MOST 1048576: true; the input reads as it did. -/
def serialMaxUptoRow : OpenClaim := { program := "yteodjppligelnaa", sum := "f9dd90249e68555b87f941f8bf88952a8ec4fcf98b33be2dae2f1fd2748ffd75", func := "fairlead/fairleadlaw03.SerialMax", spec := "serialMax", apart := false, narrowed := true }
def SerialMaxUptoSaid : Prop := serialMaxUptoRow.holds Try.pinned (OpenSpec.upto serialMaxSpec)

/-- 'fairleadlaw03.SerialIn', WHERE WHAT IT READS IS OF BULK AT MOST 1048576: true; the input reads as it did. -/
def serialInUptoRow : OpenClaim := { program := "yteodjppligelnaa", sum := "f9dd90249e68555b87f941f8bf88952a8ec4fcf98b33be2dae2f1fd2748ffd75", func := "fairlead/fairleadlaw03.SerialIn", spec := "serialIn", apart := false, narrowed := true }
def SerialInUptoSaid : Prop := serialInUptoRow.holds Try.pinned (OpenSpec.upto serialInSpec)

/-- 'fairleadlaw03.SerialHalf', WHERE WHAT IT READS IS OF BULK AT MOST 1048576: true; the input reads as it did. -/
def serialHalfUptoRow : OpenClaim := { program := "yteodjppligelnaa", sum := "f9dd90249e68555b87f941f8bf88952a8ec4fcf98b33be2dae2f1fd2748ffd75", func := "fairlead/fairleadlaw03.SerialHalf", spec := "serialHalf", apart := false, narrowed := true }
def SerialHalfUptoSaid : Prop := serialHalfUptoRow.holds Try.pinned (OpenSpec.upto serialHalfSpec)

/-- 'fairleadlaw03.SerialShift', WHERE WHAT IT READS IS OF BULK AT MOST 1048576: true; the input reads as it did. -/
def serialShiftUptoRow : OpenClaim := { program := "yteodjppligelnaa", sum := "f9dd90249e68555b87f941f8bf88952a8ec4fcf98b33be2dae2f1fd2748ffd75", func := "fairlead/fairleadlaw03.SerialShift", spec := "serialShift", apart := false, narrowed := true }
def SerialShiftUptoSaid : Prop := serialShiftUptoRow.holds Try.pinned (OpenSpec.upto serialShiftSpec)

/-- 'fairleadlaw03.SerialThrough', WHERE WHAT IT READS IS OF BULK AT MOST 1048576: true; the input reads as it did. -/
def serialThroughUptoRow : OpenClaim := { program := "yteodjppligelnaa", sum := "f9dd90249e68555b87f941f8bf88952a8ec4fcf98b33be2dae2f1fd2748ffd75", func := "fairlead/fairleadlaw03.SerialThrough", spec := "serialThrough", apart := false, narrowed := true }
def SerialThroughUptoSaid : Prop := serialThroughUptoRow.holds Try.pinned (OpenSpec.upto serialThroughSpec)

end Rows
end Go.Proofs.Yteodjppligelnaa
