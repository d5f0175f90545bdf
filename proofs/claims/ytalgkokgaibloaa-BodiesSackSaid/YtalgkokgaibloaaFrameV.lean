/-
  What the frames of layer 9 share: structs of the document by value.
-/
import Derived.Test.YtalgkokgaibloaaFrameB
import Derived.Test.YtalgkokgaibloaaBodK
namespace Go.Proofs.Ytalgkokgaibloaa
open Go.ChangeShapes Go.WideShapes Go.ChangeAt Go.RowKit Go.Deep
set_option linter.unusedVariables false

theorem arrayV_7 {α : Type} {cs : Array α} (h : cs.size = 7) : ∃ a0 a1 a2 a3 a4 a5 a6, cs = #[a0, a1, a2, a3, a4, a5, a6] := by
  obtain ⟨l⟩ := cs
  rcases l with _ | ⟨a0, l⟩
  · simp at h
  rcases l with _ | ⟨a1, l⟩
  · simp at h
  rcases l with _ | ⟨a2, l⟩
  · simp at h
  rcases l with _ | ⟨a3, l⟩
  · simp at h
  rcases l with _ | ⟨a4, l⟩
  · simp at h
  rcases l with _ | ⟨a5, l⟩
  · simp at h
  rcases l with _ | ⟨a6, l⟩
  · simp at h
  rcases l with _ | ⟨b, l⟩
  · exact ⟨a0, a1, a2, a3, a4, a5, a6, rfl⟩
  · simp at h
theorem arrayV_6 {α : Type} {cs : Array α} (h : cs.size = 6) : ∃ a0 a1 a2 a3 a4 a5, cs = #[a0, a1, a2, a3, a4, a5] := by
  obtain ⟨l⟩ := cs
  rcases l with _ | ⟨a0, l⟩
  · simp at h
  rcases l with _ | ⟨a1, l⟩
  · simp at h
  rcases l with _ | ⟨a2, l⟩
  · simp at h
  rcases l with _ | ⟨a3, l⟩
  · simp at h
  rcases l with _ | ⟨a4, l⟩
  · simp at h
  rcases l with _ | ⟨a5, l⟩
  · simp at h
  rcases l with _ | ⟨b, l⟩
  · exact ⟨a0, a1, a2, a3, a4, a5, rfl⟩
  · simp at h
theorem arrayV_4 {α : Type} {cs : Array α} (h : cs.size = 4) : ∃ a0 a1 a2 a3, cs = #[a0, a1, a2, a3] := by
  obtain ⟨l⟩ := cs
  rcases l with _ | ⟨a0, l⟩
  · simp at h
  rcases l with _ | ⟨a1, l⟩
  · simp at h
  rcases l with _ | ⟨a2, l⟩
  · simp at h
  rcases l with _ | ⟨a3, l⟩
  · simp at h
  rcases l with _ | ⟨b, l⟩
  · exact ⟨a0, a1, a2, a3, rfl⟩
  · simp at h
theorem arrayV_2 {α : Type} {cs : Array α} (h : cs.size = 2) : ∃ a0 a1, cs = #[a0, a1] := by
  obtain ⟨l⟩ := cs
  rcases l with _ | ⟨a0, l⟩
  · simp at h
  rcases l with _ | ⟨a1, l⟩
  · simp at h
  rcases l with _ | ⟨b, l⟩
  · exact ⟨a0, a1, rfl⟩
  · simp at h
theorem natV_of_u32 {a : Int} (h : (Lit.int .u32 a).wf = true) : ∃ n : Nat, a = n ∧ n < 4294967296 := by
  have hb : 0 ≤ a ∧ a ≤ 4294967295 := by simpa [Lit.wf, IntKind.min, IntKind.max, IntKind.signed, IntKind.bits] using h
  exact ⟨a.toNat, by omega, by omega⟩
theorem natV_of_u16 {a : Int} (h : (Lit.int .u16 a).wf = true) : ∃ n : Nat, a = n ∧ n < 65536 := by
  have hb : 0 ≤ a ∧ a ≤ 65535 := by simpa [Lit.wf, IntKind.min, IntKind.max, IntKind.signed, IntKind.bits] using h
  exact ⟨a.toNat, by omega, by omega⟩
set_option maxRecDepth 100000 in
set_option maxHeartbeats 4000000 in
theorem open_data {H : Type} {enc : TypeId × Value → H} {W : World} {r : Reach} {b0 : Nat} {v : Value} {d : DataW H} {p : List MemPlace} (hv : Value.okWide Try.prog W r b0 26 v) (h : DataW.Trod enc Try.prog W 0 (fun _ => true) true 26 v d p) :
    ∃ (tsn : Nat) (stream : Nat) (ssn : Nat) (un : Bool) (fi : Bool) (la : Bool) (Ad : Option Addr) (nd cd : Nat) (ds : List UInt8), v = .agg #[.int .u32 (tsn : Int), .int .u16 (stream : Int), .int .u16 (ssn : Int), .bool un, .bool fi, .bool la, .slice Ad nd cd] ∧ tsn < 4294967296 ∧ stream < 65536 ∧ ssn < 65536 ∧ (nd ≤ cd ∧ cd ≤ maxLen ∧ ds.length = nd ∧ Rd W W.heap.size Ad ds) := by
  obtain ⟨cs0, rfl, hsz⟩ := okWide_struct Try.underlying26 hv
  have hsz : cs0.size = 7 := hsz.trans (by kernel_rfl)
  obtain ⟨a0, a1, a2, a3, a4, a5, a6, rfl⟩ := arrayV_7 hsz
  obtain ⟨fuel, hf⟩ := h
  have hf : DataW.trod enc Try.prog W 0 (fun _ => true) true fuel 26 [a0, a1, a2, a3, a4, a5, a6] = some (d, p) := hf
  obtain ⟨n1, _, F⟩ := part_of Try.underlying26 hf
  obtain ⟨ys0, s0⟩ := F 0 _ rfl
  have s0 : DataW.trod enc Try.prog W 0 (fun _ => true) true n1 22 [a0] = some ys0 := by
    have h := s0
    change DataW.trod enc Try.prog W 0 (fun _ => true) true n1 22 (List.take (Try.prog.cellsOf 22) (List.drop 0 [a0, a1, a2, a3, a4, a5, a6])) = _ at h
    rw [show Try.prog.cellsOf 22 = 1 by kernel_rfl] at h
    exact h
  obtain ⟨ys1, s1⟩ := F 1 _ rfl
  have s1 : DataW.trod enc Try.prog W 0 (fun _ => true) true n1 23 [a1] = some ys1 := by
    have h := s1
    change DataW.trod enc Try.prog W 0 (fun _ => true) true n1 23 (List.take (Try.prog.cellsOf 23) (List.drop 1 [a0, a1, a2, a3, a4, a5, a6])) = _ at h
    rw [show Try.prog.cellsOf 23 = 1 by kernel_rfl] at h
    exact h
  obtain ⟨ys2, s2⟩ := F 2 _ rfl
  have s2 : DataW.trod enc Try.prog W 0 (fun _ => true) true n1 23 [a2] = some ys2 := by
    have h := s2
    change DataW.trod enc Try.prog W 0 (fun _ => true) true n1 23 (List.take (Try.prog.cellsOf 23) (List.drop 2 [a0, a1, a2, a3, a4, a5, a6])) = _ at h
    rw [show Try.prog.cellsOf 23 = 1 by kernel_rfl] at h
    exact h
  obtain ⟨ys3, s3⟩ := F 3 _ rfl
  have s3 : DataW.trod enc Try.prog W 0 (fun _ => true) true n1 4 [a3] = some ys3 := by
    have h := s3
    change DataW.trod enc Try.prog W 0 (fun _ => true) true n1 4 (List.take (Try.prog.cellsOf 4) (List.drop 3 [a0, a1, a2, a3, a4, a5, a6])) = _ at h
    rw [show Try.prog.cellsOf 4 = 1 by kernel_rfl] at h
    exact h
  obtain ⟨ys4, s4⟩ := F 4 _ rfl
  have s4 : DataW.trod enc Try.prog W 0 (fun _ => true) true n1 4 [a4] = some ys4 := by
    have h := s4
    change DataW.trod enc Try.prog W 0 (fun _ => true) true n1 4 (List.take (Try.prog.cellsOf 4) (List.drop 4 [a0, a1, a2, a3, a4, a5, a6])) = _ at h
    rw [show Try.prog.cellsOf 4 = 1 by kernel_rfl] at h
    exact h
  obtain ⟨ys5, s5⟩ := F 5 _ rfl
  have s5 : DataW.trod enc Try.prog W 0 (fun _ => true) true n1 4 [a5] = some ys5 := by
    have h := s5
    change DataW.trod enc Try.prog W 0 (fun _ => true) true n1 4 (List.take (Try.prog.cellsOf 4) (List.drop 5 [a0, a1, a2, a3, a4, a5, a6])) = _ at h
    rw [show Try.prog.cellsOf 4 = 1 by kernel_rfl] at h
    exact h
  obtain ⟨ys6, s6⟩ := F 6 _ rfl
  have s6 : DataW.trod enc Try.prog W 0 (fun _ => true) true n1 24 [a6] = some ys6 := by
    have h := s6
    change DataW.trod enc Try.prog W 0 (fun _ => true) true n1 24 (List.take (Try.prog.cellsOf 24) (List.drop 6 [a0, a1, a2, a3, a4, a5, a6])) = _ at h
    rw [show Try.prog.cellsOf 24 = 1 by kernel_rfl] at h
    exact h
  obtain ⟨tsn_, rfl, wtsn⟩ := field_int Try.underlying22 s0
  obtain ⟨tsn, rfl, btsn⟩ := natV_of_u32 wtsn
  obtain ⟨stream_, rfl, wstream⟩ := field_int Try.underlying23 s1
  obtain ⟨stream, rfl, bstream⟩ := natV_of_u16 wstream
  obtain ⟨ssn_, rfl, wssn⟩ := field_int Try.underlying23 s2
  obtain ⟨ssn, rfl, bssn⟩ := natV_of_u16 wssn
  obtain ⟨un, rfl⟩ := field_bool Try.underlying4 s3
  obtain ⟨fi, rfl⟩ := field_bool Try.underlying4 s4
  obtain ⟨la, rfl⟩ := field_bool Try.underlying4 s5
  obtain ⟨Ad, nd, cd, ds, rfl, fds⟩ := field_bytes Try.underlying24 Try.underlying5 (by kernel_rfl) s6
  exact ⟨tsn, stream, ssn, un, fi, la, Ad, nd, cd, ds, rfl, btsn, bstream, bssn, fds⟩
set_option maxRecDepth 100000 in
set_option maxHeartbeats 4000000 in
theorem open_init {H : Type} {enc : TypeId × Value → H} {W : World} {r : Reach} {b0 : Nat} {v : Value} {d : DataW H} {p : List MemPlace} (hv : Value.okWide Try.prog W r b0 43 v) (h : DataW.Trod enc Try.prog W 0 (fun _ => true) true 43 v d p) :
    ∃ (tag : Nat) (rwnd : Nat) (out : Nat) (in_ : Nat) (tsn2 : Nat) (Ai : Option Addr) (ni ci : Nat) (ck : List UInt8), v = .agg #[.int .u32 (tag : Int), .int .u32 (rwnd : Int), .int .u16 (out : Int), .int .u16 (in_ : Int), .int .u32 (tsn2 : Int), .slice Ai ni ci] ∧ tag < 4294967296 ∧ rwnd < 4294967296 ∧ out < 65536 ∧ in_ < 65536 ∧ tsn2 < 4294967296 ∧ (ni ≤ ci ∧ ci ≤ maxLen ∧ ck.length = ni ∧ Rd W W.heap.size Ai ck) := by
  obtain ⟨cs0, rfl, hsz⟩ := okWide_struct Try.underlying43 hv
  have hsz : cs0.size = 6 := hsz.trans (by kernel_rfl)
  obtain ⟨a0, a1, a2, a3, a4, a5, rfl⟩ := arrayV_6 hsz
  obtain ⟨fuel, hf⟩ := h
  have hf : DataW.trod enc Try.prog W 0 (fun _ => true) true fuel 43 [a0, a1, a2, a3, a4, a5] = some (d, p) := hf
  obtain ⟨n1, _, F⟩ := part_of Try.underlying43 hf
  obtain ⟨ys0, s0⟩ := F 0 _ rfl
  have s0 : DataW.trod enc Try.prog W 0 (fun _ => true) true n1 22 [a0] = some ys0 := by
    have h := s0
    change DataW.trod enc Try.prog W 0 (fun _ => true) true n1 22 (List.take (Try.prog.cellsOf 22) (List.drop 0 [a0, a1, a2, a3, a4, a5])) = _ at h
    rw [show Try.prog.cellsOf 22 = 1 by kernel_rfl] at h
    exact h
  obtain ⟨ys1, s1⟩ := F 1 _ rfl
  have s1 : DataW.trod enc Try.prog W 0 (fun _ => true) true n1 22 [a1] = some ys1 := by
    have h := s1
    change DataW.trod enc Try.prog W 0 (fun _ => true) true n1 22 (List.take (Try.prog.cellsOf 22) (List.drop 1 [a0, a1, a2, a3, a4, a5])) = _ at h
    rw [show Try.prog.cellsOf 22 = 1 by kernel_rfl] at h
    exact h
  obtain ⟨ys2, s2⟩ := F 2 _ rfl
  have s2 : DataW.trod enc Try.prog W 0 (fun _ => true) true n1 23 [a2] = some ys2 := by
    have h := s2
    change DataW.trod enc Try.prog W 0 (fun _ => true) true n1 23 (List.take (Try.prog.cellsOf 23) (List.drop 2 [a0, a1, a2, a3, a4, a5])) = _ at h
    rw [show Try.prog.cellsOf 23 = 1 by kernel_rfl] at h
    exact h
  obtain ⟨ys3, s3⟩ := F 3 _ rfl
  have s3 : DataW.trod enc Try.prog W 0 (fun _ => true) true n1 23 [a3] = some ys3 := by
    have h := s3
    change DataW.trod enc Try.prog W 0 (fun _ => true) true n1 23 (List.take (Try.prog.cellsOf 23) (List.drop 3 [a0, a1, a2, a3, a4, a5])) = _ at h
    rw [show Try.prog.cellsOf 23 = 1 by kernel_rfl] at h
    exact h
  obtain ⟨ys4, s4⟩ := F 4 _ rfl
  have s4 : DataW.trod enc Try.prog W 0 (fun _ => true) true n1 22 [a4] = some ys4 := by
    have h := s4
    change DataW.trod enc Try.prog W 0 (fun _ => true) true n1 22 (List.take (Try.prog.cellsOf 22) (List.drop 4 [a0, a1, a2, a3, a4, a5])) = _ at h
    rw [show Try.prog.cellsOf 22 = 1 by kernel_rfl] at h
    exact h
  obtain ⟨ys5, s5⟩ := F 5 _ rfl
  have s5 : DataW.trod enc Try.prog W 0 (fun _ => true) true n1 24 [a5] = some ys5 := by
    have h := s5
    change DataW.trod enc Try.prog W 0 (fun _ => true) true n1 24 (List.take (Try.prog.cellsOf 24) (List.drop 5 [a0, a1, a2, a3, a4, a5])) = _ at h
    rw [show Try.prog.cellsOf 24 = 1 by kernel_rfl] at h
    exact h
  obtain ⟨tag_, rfl, wtag⟩ := field_int Try.underlying22 s0
  obtain ⟨tag, rfl, btag⟩ := natV_of_u32 wtag
  obtain ⟨rwnd_, rfl, wrwnd⟩ := field_int Try.underlying22 s1
  obtain ⟨rwnd, rfl, brwnd⟩ := natV_of_u32 wrwnd
  obtain ⟨out_, rfl, wout⟩ := field_int Try.underlying23 s2
  obtain ⟨out, rfl, bout⟩ := natV_of_u16 wout
  obtain ⟨in__, rfl, win_⟩ := field_int Try.underlying23 s3
  obtain ⟨in_, rfl, bin_⟩ := natV_of_u16 win_
  obtain ⟨tsn2_, rfl, wtsn2⟩ := field_int Try.underlying22 s4
  obtain ⟨tsn2, rfl, btsn2⟩ := natV_of_u32 wtsn2
  obtain ⟨Ai, ni, ci, ck, rfl, fck⟩ := field_bytes Try.underlying24 Try.underlying5 (by kernel_rfl) s5
  exact ⟨tag, rwnd, out, in_, tsn2, Ai, ni, ci, ck, rfl, btag, brwnd, bout, bin_, btsn2, fck⟩
set_option maxRecDepth 100000 in
set_option maxHeartbeats 4000000 in
theorem open_sack {H : Type} {enc : TypeId × Value → H} {W : World} {r : Reach} {b0 : Nat} {v : Value} {d : DataW H} {p : List MemPlace} (hv : Value.okWide Try.prog W r b0 52 v) (h : DataW.Trod enc Try.prog W 0 (fun _ => true) true 52 v d p) :
    ∃ (cum : Nat) (rwnd2 : Nat) (Ag : Option Addr) (ng cg : Nat) (gaps : List (Nat × Nat)) (Au : Option Addr) (nu cu : Nat) (dups : List Nat), v = .agg #[.int .u32 (cum : Int), .int .u32 (rwnd2 : Int), .slice Ag ng cg, .slice Au nu cu] ∧ cum < 4294967296 ∧ rwnd2 < 4294967296 ∧ (ng ≤ cg ∧ cg ≤ maxLen ∧ gaps.length = ng ∧ Rg W 0 W.heap.size Ag gaps ∧ ∀ g ∈ gaps, g.1 < 65536 ∧ g.2 < 65536) ∧ (nu ≤ cu ∧ cu ≤ maxLen ∧ dups.length = nu ∧ Ri .u32 W W.heap.size Au (ints dups) ∧ ∀ g ∈ dups, g < 4294967296) := by
  obtain ⟨cs0, rfl, hsz⟩ := okWide_struct Try.underlying52 hv
  have hsz : cs0.size = 4 := hsz.trans (by kernel_rfl)
  obtain ⟨a0, a1, a2, a3, rfl⟩ := arrayV_4 hsz
  obtain ⟨fuel, hf⟩ := h
  have hf : DataW.trod enc Try.prog W 0 (fun _ => true) true fuel 52 [a0, a1, a2, a3] = some (d, p) := hf
  obtain ⟨n1, _, F⟩ := part_of Try.underlying52 hf
  obtain ⟨ys0, s0⟩ := F 0 _ rfl
  have s0 : DataW.trod enc Try.prog W 0 (fun _ => true) true n1 22 [a0] = some ys0 := by
    have h := s0
    change DataW.trod enc Try.prog W 0 (fun _ => true) true n1 22 (List.take (Try.prog.cellsOf 22) (List.drop 0 [a0, a1, a2, a3])) = _ at h
    rw [show Try.prog.cellsOf 22 = 1 by kernel_rfl] at h
    exact h
  obtain ⟨ys1, s1⟩ := F 1 _ rfl
  have s1 : DataW.trod enc Try.prog W 0 (fun _ => true) true n1 22 [a1] = some ys1 := by
    have h := s1
    change DataW.trod enc Try.prog W 0 (fun _ => true) true n1 22 (List.take (Try.prog.cellsOf 22) (List.drop 1 [a0, a1, a2, a3])) = _ at h
    rw [show Try.prog.cellsOf 22 = 1 by kernel_rfl] at h
    exact h
  obtain ⟨ys2, s2⟩ := F 2 _ rfl
  have s2 : DataW.trod enc Try.prog W 0 (fun _ => true) true n1 49 [a2] = some ys2 := by
    have h := s2
    change DataW.trod enc Try.prog W 0 (fun _ => true) true n1 49 (List.take (Try.prog.cellsOf 49) (List.drop 2 [a0, a1, a2, a3])) = _ at h
    rw [show Try.prog.cellsOf 49 = 1 by kernel_rfl] at h
    exact h
  obtain ⟨ys3, s3⟩ := F 3 _ rfl
  have s3 : DataW.trod enc Try.prog W 0 (fun _ => true) true n1 50 [a3] = some ys3 := by
    have h := s3
    change DataW.trod enc Try.prog W 0 (fun _ => true) true n1 50 (List.take (Try.prog.cellsOf 50) (List.drop 3 [a0, a1, a2, a3])) = _ at h
    rw [show Try.prog.cellsOf 50 = 1 by kernel_rfl] at h
    exact h
  obtain ⟨cum_, rfl, wcum⟩ := field_int Try.underlying22 s0
  obtain ⟨cum, rfl, bcum⟩ := natV_of_u32 wcum
  obtain ⟨rwnd2_, rfl, wrwnd2⟩ := field_int Try.underlying22 s1
  obtain ⟨rwnd2, rfl, brwnd2⟩ := natV_of_u32 wrwnd2
  obtain ⟨Ag, ng, cg, gaps, rfl, fgaps⟩ := field_pairs Try.underlying49 Try.underlying79 (by kernel_rfl) (by kernel_rfl) Try.underlying23 Try.underlying23 s2
  obtain ⟨Au, nu, cu, dups, rfl, fdups⟩ := field_u32s Try.underlying50 Try.underlying22 (by kernel_rfl) s3
  exact ⟨cum, rwnd2, Ag, ng, cg, gaps, Au, nu, cu, dups, rfl, bcum, brwnd2, fgaps, fdups⟩
set_option maxRecDepth 100000 in
set_option maxHeartbeats 4000000 in
theorem open_forward {H : Type} {enc : TypeId × Value → H} {W : World} {r : Reach} {b0 : Nat} {v : Value} {d : DataW H} {p : List MemPlace} (hv : Value.okWide Try.prog W r b0 56 v) (h : DataW.Trod enc Try.prog W 0 (fun _ => true) true 56 v d p) :
    ∃ (fcum : Nat) (As : Option Addr) (ns cs : Nat) (skips : List (Nat × Nat)), v = .agg #[.int .u32 (fcum : Int), .slice As ns cs] ∧ fcum < 4294967296 ∧ (ns ≤ cs ∧ cs ≤ maxLen ∧ skips.length = ns ∧ Rg W 0 W.heap.size As skips ∧ ∀ g ∈ skips, g.1 < 65536 ∧ g.2 < 65536) := by
  obtain ⟨cs0, rfl, hsz⟩ := okWide_struct Try.underlying56 hv
  have hsz : cs0.size = 2 := hsz.trans (by kernel_rfl)
  obtain ⟨a0, a1, rfl⟩ := arrayV_2 hsz
  obtain ⟨fuel, hf⟩ := h
  have hf : DataW.trod enc Try.prog W 0 (fun _ => true) true fuel 56 [a0, a1] = some (d, p) := hf
  obtain ⟨n1, _, F⟩ := part_of Try.underlying56 hf
  obtain ⟨ys0, s0⟩ := F 0 _ rfl
  have s0 : DataW.trod enc Try.prog W 0 (fun _ => true) true n1 22 [a0] = some ys0 := by
    have h := s0
    change DataW.trod enc Try.prog W 0 (fun _ => true) true n1 22 (List.take (Try.prog.cellsOf 22) (List.drop 0 [a0, a1])) = _ at h
    rw [show Try.prog.cellsOf 22 = 1 by kernel_rfl] at h
    exact h
  obtain ⟨ys1, s1⟩ := F 1 _ rfl
  have s1 : DataW.trod enc Try.prog W 0 (fun _ => true) true n1 54 [a1] = some ys1 := by
    have h := s1
    change DataW.trod enc Try.prog W 0 (fun _ => true) true n1 54 (List.take (Try.prog.cellsOf 54) (List.drop 1 [a0, a1])) = _ at h
    rw [show Try.prog.cellsOf 54 = 1 by kernel_rfl] at h
    exact h
  obtain ⟨fcum_, rfl, wfcum⟩ := field_int Try.underlying22 s0
  obtain ⟨fcum, rfl, bfcum⟩ := natV_of_u32 wfcum
  obtain ⟨As, ns, cs, skips, rfl, fskips⟩ := field_pairs Try.underlying54 Try.underlying104 (by kernel_rfl) (by kernel_rfl) Try.underlying23 Try.underlying23 s1
  exact ⟨fcum, As, ns, cs, skips, rfl, bfcum, fskips⟩
end Go.Proofs.Ytalgkokgaibloaa
