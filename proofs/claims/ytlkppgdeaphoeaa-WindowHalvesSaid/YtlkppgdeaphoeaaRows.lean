/-
  No cell of these rows narrows 'for every input' (looked for: loops, veiled, ifaces, maps, wideKeys, modest, calm, conditions, laid).
  DERIVED. THE GIVEN ROWS OF THIS SEAT. 6 by the template 'for every input the law returns true; each argument reads behind the call as it read before'; 0 by the template 'total and deterministic' (their statements: YtlkppgdeaphoeaaTotals.lean).
  GIVEN WITH THE SEED: the statements are not yours to turn. If you find one false, say at which input.
  Laid BY PROGRAM, IN A SANDBOX (cutbox-rows.mjs): the forced cells as the released guide's own fill.sh prints them over the translation 58a38a866f4da0c8… (all of the seat's roots in one cut). By AI agents, Wed Nov 11 2026. No macro, syntax, notation, axiom, sorry.
-/
import Derived.Test.YtlkppgdeaphoeaaChecked
import GoSem.Claim
import GoSem.ClaimJoined
import GoSem.ClaimMapViews
import Derived.JoinedTies
import Derived.KernelRfl
namespace Go.Proofs.Ytlkppgdeaphoeaa
/- THE CELL 'sum', in the pinned program and in every row, IS THE sha256 OF THE DUMP (.gsa) THAT YtlkppgdeaphoeaaProg.lean LOADS. Nothing in Lean hashes anything: it is a label: what it is worth is what the hold of that sum in a sandbox is worth. -/
noncomputable def Try.pinned : Pinned := { name := "ytlkppgdeaphoeaa", sum := "58a38a866f4da0c820a1445a8693d330c009085a6d5e5c02dc67adb9027f2918", checked := Try.checked }
namespace Rows
def none {H : Type} : Left H := { results := [], args := [] }

/-- 'fairleadlaw13.WindowPlays': WHATEVER THE INPUT: true; the input reads as it did. -/
def windowPlaysSpec : ChangeSpec := { name := "windowPlays", fn := fun _ => fun
  | [d1, d2, d3] => { results := [.lit (.bool true)], args := [d1, d2, d3] }
  | _ => none }
def windowPlaysRow : OpenClaim := { program := "ytlkppgdeaphoeaa", sum := "58a38a866f4da0c820a1445a8693d330c009085a6d5e5c02dc67adb9027f2918", func := "fairlead/fairleadlaw13.WindowPlays", spec := "windowPlays", unfollowed := true, recurses := true, apart := false }
def WindowPlaysSaid : Prop := windowPlaysRow.holds Try.pinned (OpenSpec.ofChange windowPlaysSpec)

/-- ITS FALSE NEIGHBOUR: 'it returns false'. Refute it at one input. -/
def windowPlaysWrong : ChangeSpec := { name := "windowPlays", fn := fun _ => fun
  | [d1, d2, d3] => { results := [.lit (.bool false)], args := [d1, d2, d3] }
  | _ => none }
def WindowPlaysWrongFalsely : Prop := windowPlaysRow.holds Try.pinned (OpenSpec.ofChange windowPlaysWrong)

/-- 'fairleadlaw13.WindowBounds': WHATEVER THE INPUT: true; the input reads as it did. -/
def windowBoundsSpec : ChangeSpec := { name := "windowBounds", fn := fun _ => fun
  | [d1, d2, d3] => { results := [.lit (.bool true)], args := [d1, d2, d3] }
  | _ => none }
def windowBoundsRow : OpenClaim := { program := "ytlkppgdeaphoeaa", sum := "58a38a866f4da0c820a1445a8693d330c009085a6d5e5c02dc67adb9027f2918", func := "fairlead/fairleadlaw13.WindowBounds", spec := "windowBounds", unfollowed := true, recurses := true, apart := false }
def WindowBoundsSaid : Prop := windowBoundsRow.holds Try.pinned (OpenSpec.ofChange windowBoundsSpec)

/-- ITS FALSE NEIGHBOUR: 'it returns false'. Refute it at one input. -/
def windowBoundsWrong : ChangeSpec := { name := "windowBounds", fn := fun _ => fun
  | [d1, d2, d3] => { results := [.lit (.bool false)], args := [d1, d2, d3] }
  | _ => none }
def WindowBoundsWrongFalsely : Prop := windowBoundsRow.holds Try.pinned (OpenSpec.ofChange windowBoundsWrong)

/-- 'fairleadlaw13.WindowSlow': WHATEVER THE INPUT: true; the input reads as it did. -/
def windowSlowSpec : ChangeSpec := { name := "windowSlow", fn := fun _ => fun
  | [d1, d2, d3] => { results := [.lit (.bool true)], args := [d1, d2, d3] }
  | _ => none }
def windowSlowRow : OpenClaim := { program := "ytlkppgdeaphoeaa", sum := "58a38a866f4da0c820a1445a8693d330c009085a6d5e5c02dc67adb9027f2918", func := "fairlead/fairleadlaw13.WindowSlow", spec := "windowSlow", unfollowed := true, recurses := true, apart := false }
def WindowSlowSaid : Prop := windowSlowRow.holds Try.pinned (OpenSpec.ofChange windowSlowSpec)

/-- ITS FALSE NEIGHBOUR: 'it returns false'. Refute it at one input. -/
def windowSlowWrong : ChangeSpec := { name := "windowSlow", fn := fun _ => fun
  | [d1, d2, d3] => { results := [.lit (.bool false)], args := [d1, d2, d3] }
  | _ => none }
def WindowSlowWrongFalsely : Prop := windowSlowRow.holds Try.pinned (OpenSpec.ofChange windowSlowWrong)

/-- 'fairleadlaw13.WindowAvoids': WHATEVER THE INPUT: true; the input reads as it did. -/
def windowAvoidsSpec : ChangeSpec := { name := "windowAvoids", fn := fun _ => fun
  | [d1, d2] => { results := [.lit (.bool true)], args := [d1, d2] }
  | _ => none }
def windowAvoidsRow : OpenClaim := { program := "ytlkppgdeaphoeaa", sum := "58a38a866f4da0c820a1445a8693d330c009085a6d5e5c02dc67adb9027f2918", func := "fairlead/fairleadlaw13.WindowAvoids", spec := "windowAvoids", unfollowed := true, recurses := true, apart := false }
def WindowAvoidsSaid : Prop := windowAvoidsRow.holds Try.pinned (OpenSpec.ofChange windowAvoidsSpec)

/-- ITS FALSE NEIGHBOUR: 'it returns false'. Refute it at one input. -/
def windowAvoidsWrong : ChangeSpec := { name := "windowAvoids", fn := fun _ => fun
  | [d1, d2] => { results := [.lit (.bool false)], args := [d1, d2] }
  | _ => none }
def WindowAvoidsWrongFalsely : Prop := windowAvoidsRow.holds Try.pinned (OpenSpec.ofChange windowAvoidsWrong)

/-- 'fairleadlaw13.WindowHalves': WHATEVER THE INPUT: true; the input reads as it did. -/
def windowHalvesSpec : ChangeSpec := { name := "windowHalves", fn := fun _ => fun
  | [d1, d2, d3, d4] => { results := [.lit (.bool true)], args := [d1, d2, d3, d4] }
  | _ => none }
def windowHalvesRow : OpenClaim := { program := "ytlkppgdeaphoeaa", sum := "58a38a866f4da0c820a1445a8693d330c009085a6d5e5c02dc67adb9027f2918", func := "fairlead/fairleadlaw13.WindowHalves", spec := "windowHalves", unfollowed := true, recurses := true, apart := false }
def WindowHalvesSaid : Prop := windowHalvesRow.holds Try.pinned (OpenSpec.ofChange windowHalvesSpec)

/-- ITS FALSE NEIGHBOUR: 'it returns false'. Refute it at one input. -/
def windowHalvesWrong : ChangeSpec := { name := "windowHalves", fn := fun _ => fun
  | [d1, d2, d3, d4] => { results := [.lit (.bool false)], args := [d1, d2, d3, d4] }
  | _ => none }
def WindowHalvesWrongFalsely : Prop := windowHalvesRow.holds Try.pinned (OpenSpec.ofChange windowHalvesWrong)

/-- 'fairleadlaw13.WindowNil': WHATEVER THE INPUT: true; the input reads as it did. -/
def windowNilSpec : ChangeSpec := { name := "windowNil", fn := fun _ => fun
  | [d] => { results := [.lit (.bool true)], args := [d] }
  | _ => none }
def windowNilRow : OpenClaim := { program := "ytlkppgdeaphoeaa", sum := "58a38a866f4da0c820a1445a8693d330c009085a6d5e5c02dc67adb9027f2918", func := "fairlead/fairleadlaw13.WindowNil", spec := "windowNil", unfollowed := true, recurses := true, apart := false }
def WindowNilSaid : Prop := windowNilRow.holds Try.pinned (OpenSpec.ofChange windowNilSpec)

/-- ITS FALSE NEIGHBOUR: 'it returns false'. Refute it at one input. -/
def windowNilWrong : ChangeSpec := { name := "windowNil", fn := fun _ => fun
  | [d] => { results := [.lit (.bool false)], args := [d] }
  | _ => none }
def WindowNilWrongFalsely : Prop := windowNilRow.holds Try.pinned (OpenSpec.ofChange windowNilWrong)

/- THE SECOND FORM. 'bulk': how many values and letters a reading holds, each counted each time it is reached (what is shared counts as often as it is met; a slice's spare places count too). A statement '..UptoSaid' is the law's where the arguments, and the package variables that the reading takes, are together of bulk at most 1048576: NARROWER than '..Said'. Prove '..Said' where nothing that the law and all that it calls make is longer than what came in: it says more and counts as full. Else prove '..UptoSaid'. A law counts once. -/
mutual
def uptoBulk {H : Type} : DataW H → Nat
  | .lit (.string bytes) => bytes.length + 1
  | .lit _ => 1
  | .nil => 1
  | .ptr d => uptoBulk d + 1
  | .slice elems spare => uptoBulkAll elems + uptoBulkAll spare + 1
  | .agg parts => uptoBulkAll parts + 1
  | .iface _ d => uptoBulk d + 1
  | .map entries => uptoBulkEntries entries + 1
  | .held _ => 1
def uptoBulkAll {H : Type} : List (DataW H) → Nat
  | [] => 0
  | d :: r => uptoBulk d + uptoBulkAll r
def uptoBulkEntries {H : Type} : List (Lit × DataW H) → Nat
  | [] => 0
  | x :: r => uptoBulkEntry x + uptoBulkEntries r
def uptoBulkEntry {H : Type} : Lit × DataW H → Nat
  | (.string bytes, d) => bytes.length + uptoBulk d + 1
  | (_, d) => uptoBulk d + 1
 end
def uptoSmall : (H : Type) → List (DataW H) → Bool := fun _ ds => decide (uptoBulkAll ds ≤ 1048576)
def OpenSpec.upto (s : _root_.Go.ChangeSpec) : _root_.Go.OpenSpec := { _root_.Go.OpenSpec.ofChange s with cond := some uptoSmall }

/-- 'fairleadlaw13.WindowPlays', WHERE WHAT IT READS IS OF BULK AT MOST 1048576: true; the input reads as it did. -/
def windowPlaysUptoRow : OpenClaim := { program := "ytlkppgdeaphoeaa", sum := "58a38a866f4da0c820a1445a8693d330c009085a6d5e5c02dc67adb9027f2918", func := "fairlead/fairleadlaw13.WindowPlays", spec := "windowPlays", unfollowed := true, recurses := true, apart := false, narrowed := true }
def WindowPlaysUptoSaid : Prop := windowPlaysUptoRow.holds Try.pinned (OpenSpec.upto windowPlaysSpec)

/-- 'fairleadlaw13.WindowBounds', WHERE WHAT IT READS IS OF BULK AT MOST 1048576: true; the input reads as it did. -/
def windowBoundsUptoRow : OpenClaim := { program := "ytlkppgdeaphoeaa", sum := "58a38a866f4da0c820a1445a8693d330c009085a6d5e5c02dc67adb9027f2918", func := "fairlead/fairleadlaw13.WindowBounds", spec := "windowBounds", unfollowed := true, recurses := true, apart := false, narrowed := true }
def WindowBoundsUptoSaid : Prop := windowBoundsUptoRow.holds Try.pinned (OpenSpec.upto windowBoundsSpec)

/-- 'fairleadlaw13.WindowSlow', WHERE WHAT IT READS IS OF BULK AT MOST 1048576: true; the input reads as it did. -/
def windowSlowUptoRow : OpenClaim := { program := "ytlkppgdeaphoeaa", sum := "58a38a866f4da0c820a1445a8693d330c009085a6d5e5c02dc67adb9027f2918", func := "fairlead/fairleadlaw13.WindowSlow", spec := "windowSlow", unfollowed := true, recurses := true, apart := false, narrowed := true }
def WindowSlowUptoSaid : Prop := windowSlowUptoRow.holds Try.pinned (OpenSpec.upto windowSlowSpec)

/-- 'fairleadlaw13.WindowAvoids', WHERE WHAT IT READS IS OF BULK AT MOST 1048576: true; the input reads as it did. -/
def windowAvoidsUptoRow : OpenClaim := { program := "ytlkppgdeaphoeaa", sum := "58a38a866f4da0c820a1445a8693d330c009085a6d5e5c02dc67adb9027f2918", func := "fairlead/fairleadlaw13.WindowAvoids", spec := "windowAvoids", unfollowed := true, recurses := true, apart := false, narrowed := true }
def WindowAvoidsUptoSaid : Prop := windowAvoidsUptoRow.holds Try.pinned (OpenSpec.upto windowAvoidsSpec)

/-- 'fairleadlaw13.WindowHalves', WHERE WHAT IT READS IS OF BULK AT MOST 1048576: true; the input reads as it did. -/
def windowHalvesUptoRow : OpenClaim := { program := "ytlkppgdeaphoeaa", sum := "58a38a866f4da0c820a1445a8693d330c009085a6d5e5c02dc67adb9027f2918", func := "fairlead/fairleadlaw13.WindowHalves", spec := "windowHalves", unfollowed := true, recurses := true, apart := false, narrowed := true }
def WindowHalvesUptoSaid : Prop := windowHalvesUptoRow.holds Try.pinned (OpenSpec.upto windowHalvesSpec)

/-- 'fairleadlaw13.WindowNil', WHERE WHAT IT READS IS OF BULK AT MOST 1048576: true; the input reads as it did. -/
def windowNilUptoRow : OpenClaim := { program := "ytlkppgdeaphoeaa", sum := "58a38a866f4da0c820a1445a8693d330c009085a6d5e5c02dc67adb9027f2918", func := "fairlead/fairleadlaw13.WindowNil", spec := "windowNil", unfollowed := true, recurses := true, apart := false, narrowed := true }
def WindowNilUptoSaid : Prop := windowNilUptoRow.holds Try.pinned (OpenSpec.upto windowNilSpec)

end Rows
end Go.Proofs.Ytlkppgdeaphoeaa
