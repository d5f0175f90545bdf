/-
  No cell of these rows narrows 'for every input' (looked for: loops, veiled, ifaces, maps, wideKeys, modest, calm, conditions, laid).
  DERIVED. THE GIVEN ROWS OF THIS SEAT. 7 by the template 'for every input the law returns true; each argument reads behind the call as it read before'; 0 by the template 'total and deterministic' (their statements: YtnlhkofkjcofdaaTotals.lean).
  GIVEN WITH THE SEED: the statements are not yours to turn. If you find one false, say at which input.
  Laid BY PROGRAM, IN A SANDBOX (cutbox-rows.mjs): the forced cells as the released guide's own fill.sh prints them over the translation 085adfe512e94f1e… (all of the seat's roots in one cut). By AI agents, Wed Nov 11 2026. No macro, syntax, notation, axiom, sorry.
-/
import Derived.Test.YtnlhkofkjcofdaaChecked
import GoSem.Claim
import GoSem.ClaimJoined
import GoSem.ClaimMapViews
import Derived.JoinedTies
import Derived.KernelRfl
namespace Go.Proofs.Ytnlhkofkjcofdaa
/- THE CELL 'sum', in the pinned program and in every row, IS THE sha256 OF THE DUMP (.gsa) THAT YtnlhkofkjcofdaaProg.lean LOADS. Nothing in Lean hashes anything: it is a label: what it is worth is what the hold of that sum in a sandbox is worth. -/
noncomputable def Try.pinned : Pinned := { name := "ytnlhkofkjcofdaa", sum := "085adfe512e94f1ef6c33e1c4ff0878a8ce8419a1a4da25f96fa3f0468b89880", checked := Try.checked }
namespace Rows
def none {H : Type} : Left H := { results := [], args := [] }

/-- 'fairleadlaw08.ChunkWrites': WHATEVER THE INPUT: true; the input reads as it did. -/
def chunkWritesSpec : ChangeSpec := { name := "chunkWrites", fn := fun _ => fun
  | [d] => { results := [.lit (.bool true)], args := [d] }
  | _ => none }
def chunkWritesRow : OpenClaim := { program := "ytnlhkofkjcofdaa", sum := "085adfe512e94f1ef6c33e1c4ff0878a8ce8419a1a4da25f96fa3f0468b89880", func := "fairlead/fairleadlaw08.ChunkWrites", spec := "chunkWrites", inPlace := ["internal/bytealg.Count", "internal/bytealg.IndexByte", "internal/bytealg.Index"], unfollowed := true, recurses := true, named := ["internal/bytealg.MaxLen"], apart := false }
def ChunkWritesSaid : Prop := chunkWritesRow.holds Try.pinned (OpenSpec.ofChange chunkWritesSpec)

/-- ITS FALSE NEIGHBOUR: 'it returns false'. Refute it at one input. -/
def chunkWritesWrong : ChangeSpec := { name := "chunkWrites", fn := fun _ => fun
  | [d] => { results := [.lit (.bool false)], args := [d] }
  | _ => none }
def ChunkWritesWrongFalsely : Prop := chunkWritesRow.holds Try.pinned (OpenSpec.ofChange chunkWritesWrong)

/-- 'fairleadlaw08.ChunkReads': WHATEVER THE INPUT: true; the input reads as it did. -/
def chunkReadsSpec : ChangeSpec := { name := "chunkReads", fn := fun _ => fun
  | [d] => { results := [.lit (.bool true)], args := [d] }
  | _ => none }
def chunkReadsRow : OpenClaim := { program := "ytnlhkofkjcofdaa", sum := "085adfe512e94f1ef6c33e1c4ff0878a8ce8419a1a4da25f96fa3f0468b89880", func := "fairlead/fairleadlaw08.ChunkReads", spec := "chunkReads", inPlace := ["internal/bytealg.Count", "internal/bytealg.IndexByte", "internal/bytealg.Index"], unfollowed := true, recurses := true, named := ["internal/bytealg.MaxLen"], apart := false }
def ChunkReadsSaid : Prop := chunkReadsRow.holds Try.pinned (OpenSpec.ofChange chunkReadsSpec)

/-- ITS FALSE NEIGHBOUR: 'it returns false'. Refute it at one input. -/
def chunkReadsWrong : ChangeSpec := { name := "chunkReads", fn := fun _ => fun
  | [d] => { results := [.lit (.bool false)], args := [d] }
  | _ => none }
def ChunkReadsWrongFalsely : Prop := chunkReadsRow.holds Try.pinned (OpenSpec.ofChange chunkReadsWrong)

/-- 'fairleadlaw08.ChunkBack': WHATEVER THE INPUT: true; the input reads as it did. -/
def chunkBackSpec : ChangeSpec := { name := "chunkBack", fn := fun _ => fun
  | [d1, d2] => { results := [.lit (.bool true)], args := [d1, d2] }
  | _ => none }
def chunkBackRow : OpenClaim := { program := "ytnlhkofkjcofdaa", sum := "085adfe512e94f1ef6c33e1c4ff0878a8ce8419a1a4da25f96fa3f0468b89880", func := "fairlead/fairleadlaw08.ChunkBack", spec := "chunkBack", inPlace := ["internal/bytealg.Count", "internal/bytealg.IndexByte", "internal/bytealg.Index"], unfollowed := true, recurses := true, named := ["internal/bytealg.MaxLen"], apart := false }
def ChunkBackSaid : Prop := chunkBackRow.holds Try.pinned (OpenSpec.ofChange chunkBackSpec)

/-- ITS FALSE NEIGHBOUR: 'it returns false'. Refute it at one input. -/
def chunkBackWrong : ChangeSpec := { name := "chunkBack", fn := fun _ => fun
  | [d1, d2] => { results := [.lit (.bool false)], args := [d1, d2] }
  | _ => none }
def ChunkBackWrongFalsely : Prop := chunkBackRow.holds Try.pinned (OpenSpec.ofChange chunkBackWrong)

/-- 'fairleadlaw08.ChunkRow': WHATEVER THE INPUT: true; the input reads as it did. -/
def chunkRowSpec : ChangeSpec := { name := "chunkRow", fn := fun _ => fun
  | [d] => { results := [.lit (.bool true)], args := [d] }
  | _ => none }
def chunkRowRow : OpenClaim := { program := "ytnlhkofkjcofdaa", sum := "085adfe512e94f1ef6c33e1c4ff0878a8ce8419a1a4da25f96fa3f0468b89880", func := "fairlead/fairleadlaw08.ChunkRow", spec := "chunkRow", inPlace := ["internal/bytealg.Count", "internal/bytealg.IndexByte", "internal/bytealg.Index"], unfollowed := true, recurses := true, named := ["internal/bytealg.MaxLen"], apart := false }
def ChunkRowSaid : Prop := chunkRowRow.holds Try.pinned (OpenSpec.ofChange chunkRowSpec)

/-- ITS FALSE NEIGHBOUR: 'it returns false'. Refute it at one input. -/
def chunkRowWrong : ChangeSpec := { name := "chunkRow", fn := fun _ => fun
  | [d] => { results := [.lit (.bool false)], args := [d] }
  | _ => none }
def ChunkRowWrongFalsely : Prop := chunkRowRow.holds Try.pinned (OpenSpec.ofChange chunkRowWrong)

/-- 'fairleadlaw08.ChunkCuts': WHATEVER THE INPUT: true; the input reads as it did. -/
def chunkCutsSpec : ChangeSpec := { name := "chunkCuts", fn := fun _ => fun
  | [d1, d2] => { results := [.lit (.bool true)], args := [d1, d2] }
  | _ => none }
def chunkCutsRow : OpenClaim := { program := "ytnlhkofkjcofdaa", sum := "085adfe512e94f1ef6c33e1c4ff0878a8ce8419a1a4da25f96fa3f0468b89880", func := "fairlead/fairleadlaw08.ChunkCuts", spec := "chunkCuts", inPlace := ["internal/bytealg.Count", "internal/bytealg.IndexByte", "internal/bytealg.Index"], unfollowed := true, recurses := true, named := ["internal/bytealg.MaxLen"], apart := false }
def ChunkCutsSaid : Prop := chunkCutsRow.holds Try.pinned (OpenSpec.ofChange chunkCutsSpec)

/-- ITS FALSE NEIGHBOUR: 'it returns false'. Refute it at one input. -/
def chunkCutsWrong : ChangeSpec := { name := "chunkCuts", fn := fun _ => fun
  | [d1, d2] => { results := [.lit (.bool false)], args := [d1, d2] }
  | _ => none }
def ChunkCutsWrongFalsely : Prop := chunkCutsRow.holds Try.pinned (OpenSpec.ofChange chunkCutsWrong)

/-- 'fairleadlaw08.ChunkPads': WHATEVER THE INPUT: true; the input reads as it did. -/
def chunkPadsSpec : ChangeSpec := { name := "chunkPads", fn := fun _ => fun
  | [d1, d2, d3] => { results := [.lit (.bool true)], args := [d1, d2, d3] }
  | _ => none }
def chunkPadsRow : OpenClaim := { program := "ytnlhkofkjcofdaa", sum := "085adfe512e94f1ef6c33e1c4ff0878a8ce8419a1a4da25f96fa3f0468b89880", func := "fairlead/fairleadlaw08.ChunkPads", spec := "chunkPads", inPlace := ["internal/bytealg.Count", "internal/bytealg.IndexByte", "internal/bytealg.Index"], unfollowed := true, recurses := true, named := ["internal/bytealg.MaxLen"], apart := false }
def ChunkPadsSaid : Prop := chunkPadsRow.holds Try.pinned (OpenSpec.ofChange chunkPadsSpec)

/-- ITS FALSE NEIGHBOUR: 'it returns false'. Refute it at one input. -/
def chunkPadsWrong : ChangeSpec := { name := "chunkPads", fn := fun _ => fun
  | [d1, d2, d3] => { results := [.lit (.bool false)], args := [d1, d2, d3] }
  | _ => none }
def ChunkPadsWrongFalsely : Prop := chunkPadsRow.holds Try.pinned (OpenSpec.ofChange chunkPadsWrong)

/-- 'fairleadlaw08.ChunkLengths': WHATEVER THE INPUT: true; the input reads as it did. -/
def chunkLengthsSpec : ChangeSpec := { name := "chunkLengths", fn := fun _ => fun
  | [d1, d2, d3] => { results := [.lit (.bool true)], args := [d1, d2, d3] }
  | _ => none }
def chunkLengthsRow : OpenClaim := { program := "ytnlhkofkjcofdaa", sum := "085adfe512e94f1ef6c33e1c4ff0878a8ce8419a1a4da25f96fa3f0468b89880", func := "fairlead/fairleadlaw08.ChunkLengths", spec := "chunkLengths", inPlace := ["internal/bytealg.Count", "internal/bytealg.IndexByte", "internal/bytealg.Index"], unfollowed := true, recurses := true, named := ["internal/bytealg.MaxLen"], apart := false }
def ChunkLengthsSaid : Prop := chunkLengthsRow.holds Try.pinned (OpenSpec.ofChange chunkLengthsSpec)

/-- ITS FALSE NEIGHBOUR: 'it returns false'. Refute it at one input. -/
def chunkLengthsWrong : ChangeSpec := { name := "chunkLengths", fn := fun _ => fun
  | [d1, d2, d3] => { results := [.lit (.bool false)], args := [d1, d2, d3] }
  | _ => none }
def ChunkLengthsWrongFalsely : Prop := chunkLengthsRow.holds Try.pinned (OpenSpec.ofChange chunkLengthsWrong)

/- THE SECOND FORM. 'bulk': how many values and letters a reading holds, each counted each time it is reached (what is shared counts as often as it is met; a slice's spare places count too). A statement '..UptoSaid' is the law's where the arguments, and the package variables that the reading takes, are together of bulk at most 1048576: NARROWER than '..Said'. Prove '..Said' where nothing that the law and all that it calls make is longer than what came in: it says more and counts as full. Else prove '..UptoSaid'. A law counts once. -/
mutual
def uptoBulk {H : Type} : DataW H → Nat
  | .lit (.string bytes) => bytes.length + 1
  | .lit _ => 1
  | .nil => 1
  | .ptr d => uptoBulk d + 1
  | .slice elems spare => uptoBulkAll elems + uptoBulkAll spare + 1
  | .agg parts => uptoBulkAll parts + 1
  | .iface _ d => uptoBulk d + 1
  | .map entries => uptoBulkEntries entries + 1
  | .held _ => 1
def uptoBulkAll {H : Type} : List (DataW H) → Nat
  | [] => 0
  | d :: r => uptoBulk d + uptoBulkAll r
def uptoBulkEntries {H : Type} : List (Lit × DataW H) → Nat
  | [] => 0
  | x :: r => uptoBulkEntry x + uptoBulkEntries r
def uptoBulkEntry {H : Type} : Lit × DataW H → Nat
  | (.string bytes, d) => bytes.length + uptoBulk d + 1
  | (_, d) => uptoBulk d + 1
 end
def uptoSmall : (H : Type) → List (DataW H) → Bool := fun _ ds => decide (uptoBulkAll ds ≤ 1048576)
def OpenSpec.upto (s : _root_.Go.ChangeSpec) : _root_.Go.OpenSpec := { _root_.Go.OpenSpec.ofChange s with cond := some uptoSmall }

/-- 'fairleadlaw08.ChunkWrites', WHERE WHAT IT READS IS OF BULK AT MOST 1048576: true; the input reads as it did. -/
def chunkWritesUptoRow : OpenClaim := { program := "ytnlhkofkjcofdaa", sum := "085adfe512e94f1ef6c33e1c4ff0878a8ce8419a1a4da25f96fa3f0468b89880", func := "fairlead/fairleadlaw08.ChunkWrites", spec := "chunkWrites", inPlace := ["internal/bytealg.Count", "internal/bytealg.IndexByte", "internal/bytealg.Index"], unfollowed := true, recurses := true, named := ["internal/bytealg.MaxLen"], apart := false, narrowed := true }
def ChunkWritesUptoSaid : Prop := chunkWritesUptoRow.holds Try.pinned (OpenSpec.upto chunkWritesSpec)

/-- 'fairleadlaw08.ChunkReads', WHERE WHAT IT READS IS OF BULK AT MOST 1048576: true; the input reads as it did. -/
def chunkReadsUptoRow : OpenClaim := { program := "ytnlhkofkjcofdaa", sum := "085adfe512e94f1ef6c33e1c4ff0878a8ce8419a1a4da25f96fa3f0468b89880", func := "fairlead/fairleadlaw08.ChunkReads", spec := "chunkReads", inPlace := ["internal/bytealg.Count", "internal/bytealg.IndexByte", "internal/bytealg.Index"], unfollowed := true, recurses := true, named := ["internal/bytealg.MaxLen"], apart := false, narrowed := true }
def ChunkReadsUptoSaid : Prop := chunkReadsUptoRow.holds Try.pinned (OpenSpec.upto chunkReadsSpec)

/-- 'fairleadlaw08.ChunkBack', WHERE WHAT IT READS IS OF BULK AT MOST 1048576: true; the input reads as it did. -/
def chunkBackUptoRow : OpenClaim := { program := "ytnlhkofkjcofdaa", sum := "085adfe512e94f1ef6c33e1c4ff0878a8ce8419a1a4da25f96fa3f0468b89880", func := "fairlead/fairleadlaw08.ChunkBack", spec := "chunkBack", inPlace := ["internal/bytealg.Count", "internal/bytealg.IndexByte", "internal/bytealg.Index"], unfollowed := true, recurses := true, named := ["internal/bytealg.MaxLen"], apart := false, narrowed := true }
def ChunkBackUptoSaid : Prop := chunkBackUptoRow.holds Try.pinned (OpenSpec.upto chunkBackSpec)

/-- 'fairleadlaw08.ChunkRow', WHERE WHAT IT READS IS OF BULK AT MOST 1048576: true; the input reads as it did. -/
def chunkRowUptoRow : OpenClaim := { program := "ytnlhkofkjcofdaa", sum := "085adfe512e94f1ef6c33e1c4ff0878a8ce8419a1a4da25f96fa3f0468b89880", func := "fairlead/fairleadlaw08.ChunkRow", spec := "chunkRow", inPlace := ["internal/bytealg.Count", "internal/bytealg.IndexByte", "internal/bytealg.Index"], unfollowed := true, recurses := true, named := ["internal/bytealg.MaxLen"], apart := false, narrowed := true }
def ChunkRowUptoSaid : Prop := chunkRowUptoRow.holds Try.pinned (OpenSpec.upto chunkRowSpec)

/-- 'fairleadlaw08.ChunkCuts', WHERE WHAT IT READS IS OF BULK AT MOST 1048576: true; the input reads as it did. -/
def chunkCutsUptoRow : OpenClaim := { program := "ytnlhkofkjcofdaa", sum := "085adfe512e94f1ef6c33e1c4ff0878a8ce8419a1a4da25f96fa3f0468b89880", func := "fairlead/fairleadlaw08.ChunkCuts", spec := "chunkCuts", inPlace := ["internal/bytealg.Count", "internal/bytealg.IndexByte", "internal/bytealg.Index"], unfollowed := true, recurses := true, named := ["internal/bytealg.MaxLen"], apart := false, narrowed := true }
def ChunkCutsUptoSaid : Prop := chunkCutsUptoRow.holds Try.pinned (OpenSpec.upto chunkCutsSpec)

/-- 'fairleadlaw08.ChunkPads', WHERE WHAT IT READS IS OF BULK AT MOST 1048576: true; the input reads as it did. -/
def chunkPadsUptoRow : OpenClaim := { program := "ytnlhkofkjcofdaa", sum := "085adfe512e94f1ef6c33e1c4ff0878a8ce8419a1a4da25f96fa3f0468b89880", func := "fairlead/fairleadlaw08.ChunkPads", spec := "chunkPads", inPlace := ["internal/bytealg.Count", "internal/bytealg.IndexByte", "internal/bytealg.Index"], unfollowed := true, recurses := true, named := ["internal/bytealg.MaxLen"], apart := false, narrowed := true }
def ChunkPadsUptoSaid : Prop := chunkPadsUptoRow.holds Try.pinned (OpenSpec.upto chunkPadsSpec)

/-- 'fairleadlaw08.ChunkLengths', WHERE WHAT IT READS IS OF BULK AT MOST 1048576: true; the input reads as it did. -/
def chunkLengthsUptoRow : OpenClaim := { program := "ytnlhkofkjcofdaa", sum := "085adfe512e94f1ef6c33e1c4ff0878a8ce8419a1a4da25f96fa3f0468b89880", func := "fairlead/fairleadlaw08.ChunkLengths", spec := "chunkLengths", inPlace := ["internal/bytealg.Count", "internal/bytealg.IndexByte", "internal/bytealg.Index"], unfollowed := true, recurses := true, named := ["internal/bytealg.MaxLen"], apart := false, narrowed := true }
def ChunkLengthsUptoSaid : Prop := chunkLengthsUptoRow.holds Try.pinned (OpenSpec.upto chunkLengthsSpec)

end Rows
end Go.Proofs.Ytnlhkofkjcofdaa
