/-
  Layer 9: one of each (All), as it comes in.
-/
import Derived.Test.YtalgkokgaibloaaBodZ
namespace Go.Proofs.Ytalgkokgaibloaa
open Go.RowKit
set_option linter.unusedVariables false

/-- The body of a chunk by value. -/
theorem field_body (a b : Int) (A : Option Addr) (n c : Nat) (w : World) : (Instr.field 28 (.agg #[.int .u8 a, .int .u8 b, .slice A n c]) 2).run Try.prog w = .ok (.slice A n c) w := by kernel_rfl

structure AX where
  ack : Bool
  tsn : Nat
  stream : Nat
  ssn : Nat
  un : Bool
  fi : Bool
  la : Bool
  Ad : Option Addr
  nd : Nat
  cd : Nat
  ds : List UInt8
  tag : Nat
  rwnd : Nat
  out : Nat
  in_ : Nat
  tsn2 : Nat
  Ai : Option Addr
  ni : Nat
  ci : Nat
  ck : List UInt8
  cum : Nat
  rwnd2 : Nat
  Ag : Option Addr
  ng : Nat
  cg : Nat
  gaps : List (Nat × Nat)
  Au : Option Addr
  nu : Nat
  cu : Nat
  dups : List Nat
  fcum : Nat
  As : Option Addr
  ns : Nat
  cs : Nat
  skips : List (Nat × Nat)
  t : Int
  cum2 : Nat
/-- It lies in w. -/
structure AX.In (x : AX) (w : World) : Prop where
  tsn : x.tsn < 4294967296
  stream : x.stream < 65536
  ssn : x.ssn < 65536
  tag : x.tag < 4294967296
  rwnd : x.rwnd < 4294967296
  out : x.out < 65536
  in_ : x.in_ < 65536
  tsn2 : x.tsn2 < 4294967296
  cum : x.cum < 4294967296
  rwnd2 : x.rwnd2 < 4294967296
  fcum : x.fcum < 4294967296
  t : -9223372036854775808 ≤ x.t ∧ x.t < 9223372036854775808
  cum2 : x.cum2 < 4294967296
  nd : x.nd ≤ x.cd ∧ x.cd ≤ maxLen ∧ x.ds.length = x.nd ∧ Rd w w.heap.size x.Ad x.ds
  ni : x.ni ≤ x.ci ∧ x.ci ≤ maxLen ∧ x.ck.length = x.ni ∧ Rd w w.heap.size x.Ai x.ck
  ng : x.ng ≤ x.cg ∧ x.cg ≤ maxLen ∧ x.gaps.length = x.ng ∧ Rg w 0 w.heap.size x.Ag x.gaps ∧ ∀ g ∈ x.gaps, g.1 < 65536 ∧ g.2 < 65536
  nu : x.nu ≤ x.cu ∧ x.cu ≤ maxLen ∧ x.dups.length = x.nu ∧ Ri .u32 w w.heap.size x.Au (ints x.dups) ∧ ∀ g ∈ x.dups, g < 4294967296
  ns : x.ns ≤ x.cs ∧ x.cs ≤ maxLen ∧ x.skips.length = x.ns ∧ Rg w 0 w.heap.size x.As x.skips ∧ ∀ g ∈ x.skips, g.1 < 65536 ∧ g.2 < 65536
end Go.Proofs.Ytalgkokgaibloaa
