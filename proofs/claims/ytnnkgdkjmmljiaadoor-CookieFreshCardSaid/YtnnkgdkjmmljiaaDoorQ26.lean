/-
  What frames with structs by value share.
  A cookie by value.
  The frame of a law whose row lists what start-up lays: the door's own heap meets the condition; what the condition gives.
-/
import Derived.Test.YtnnkgdkjmmljiaaDoorQ25
import Derived.Test.YtnnkgdkjmmljiaaDoorQ5
import Derived.Test.YtnnkgdkjmmljiaaDoorTie
import Derived.Test.YtnnkgdkjmmljiaaDoorCards
import Derived.Test.YtnnkgdkjmmljiaaDoorQ10
import Derived.LaidMore
import Derived.SevenTiedAt
import Derived.Stop.Joined
namespace Go.Proofs.YtnnkgdkjmmljiaaDoor
open Go.ChangeShapes Go.WideShapes Go.ChangeAt Go.RowKit
set_option linter.unusedVariables false

theorem arrayQ_2 {α : Type} {cs : Array α} (h : cs.size = 2) : ∃ a0 a1, cs = #[a0, a1] := by
  obtain ⟨l⟩ := cs
  rcases l with _ | ⟨a0, l⟩
  · simp at h
  rcases l with _ | ⟨a1, l⟩
  · simp at h
  rcases l with _ | ⟨b, l⟩
  · exact ⟨a0, a1, rfl⟩
  · simp at h
theorem arrayQ_3 {α : Type} {cs : Array α} (h : cs.size = 3) : ∃ a0 a1 a2, cs = #[a0, a1, a2] := by
  obtain ⟨l⟩ := cs
  rcases l with _ | ⟨a0, l⟩
  · simp at h
  rcases l with _ | ⟨a1, l⟩
  · simp at h
  rcases l with _ | ⟨a2, l⟩
  · simp at h
  rcases l with _ | ⟨b, l⟩
  · exact ⟨a0, a1, a2, rfl⟩
  · simp at h
theorem arrayQ_4 {α : Type} {cs : Array α} (h : cs.size = 4) : ∃ a0 a1 a2 a3, cs = #[a0, a1, a2, a3] := by
  obtain ⟨l⟩ := cs
  rcases l with _ | ⟨a0, l⟩
  · simp at h
  rcases l with _ | ⟨a1, l⟩
  · simp at h
  rcases l with _ | ⟨a2, l⟩
  · simp at h
  rcases l with _ | ⟨a3, l⟩
  · simp at h
  rcases l with _ | ⟨b, l⟩
  · exact ⟨a0, a1, a2, a3, rfl⟩
  · simp at h
theorem arrayQ_5 {α : Type} {cs : Array α} (h : cs.size = 5) : ∃ a0 a1 a2 a3 a4, cs = #[a0, a1, a2, a3, a4] := by
  obtain ⟨l⟩ := cs
  rcases l with _ | ⟨a0, l⟩
  · simp at h
  rcases l with _ | ⟨a1, l⟩
  · simp at h
  rcases l with _ | ⟨a2, l⟩
  · simp at h
  rcases l with _ | ⟨a3, l⟩
  · simp at h
  rcases l with _ | ⟨a4, l⟩
  · simp at h
  rcases l with _ | ⟨b, l⟩
  · exact ⟨a0, a1, a2, a3, a4, rfl⟩
  · simp at h
theorem arrayQ_6 {α : Type} {cs : Array α} (h : cs.size = 6) : ∃ a0 a1 a2 a3 a4 a5, cs = #[a0, a1, a2, a3, a4, a5] := by
  obtain ⟨l⟩ := cs
  rcases l with _ | ⟨a0, l⟩
  · simp at h
  rcases l with _ | ⟨a1, l⟩
  · simp at h
  rcases l with _ | ⟨a2, l⟩
  · simp at h
  rcases l with _ | ⟨a3, l⟩
  · simp at h
  rcases l with _ | ⟨a4, l⟩
  · simp at h
  rcases l with _ | ⟨a5, l⟩
  · simp at h
  rcases l with _ | ⟨b, l⟩
  · exact ⟨a0, a1, a2, a3, a4, a5, rfl⟩
  · simp at h
theorem arrayQ_7 {α : Type} {cs : Array α} (h : cs.size = 7) : ∃ a0 a1 a2 a3 a4 a5 a6, cs = #[a0, a1, a2, a3, a4, a5, a6] := by
  obtain ⟨l⟩ := cs
  rcases l with _ | ⟨a0, l⟩
  · simp at h
  rcases l with _ | ⟨a1, l⟩
  · simp at h
  rcases l with _ | ⟨a2, l⟩
  · simp at h
  rcases l with _ | ⟨a3, l⟩
  · simp at h
  rcases l with _ | ⟨a4, l⟩
  · simp at h
  rcases l with _ | ⟨a5, l⟩
  · simp at h
  rcases l with _ | ⟨a6, l⟩
  · simp at h
  rcases l with _ | ⟨b, l⟩
  · exact ⟨a0, a1, a2, a3, a4, a5, a6, rfl⟩
  · simp at h
theorem arrayQ_8 {α : Type} {cs : Array α} (h : cs.size = 8) : ∃ a0 a1 a2 a3 a4 a5 a6 a7, cs = #[a0, a1, a2, a3, a4, a5, a6, a7] := by
  obtain ⟨l⟩ := cs
  rcases l with _ | ⟨a0, l⟩
  · simp at h
  rcases l with _ | ⟨a1, l⟩
  · simp at h
  rcases l with _ | ⟨a2, l⟩
  · simp at h
  rcases l with _ | ⟨a3, l⟩
  · simp at h
  rcases l with _ | ⟨a4, l⟩
  · simp at h
  rcases l with _ | ⟨a5, l⟩
  · simp at h
  rcases l with _ | ⟨a6, l⟩
  · simp at h
  rcases l with _ | ⟨a7, l⟩
  · simp at h
  rcases l with _ | ⟨b, l⟩
  · exact ⟨a0, a1, a2, a3, a4, a5, a6, a7, rfl⟩
  · simp at h
theorem arrayQ_9 {α : Type} {cs : Array α} (h : cs.size = 9) : ∃ a0 a1 a2 a3 a4 a5 a6 a7 a8, cs = #[a0, a1, a2, a3, a4, a5, a6, a7, a8] := by
  obtain ⟨l⟩ := cs
  rcases l with _ | ⟨a0, l⟩
  · simp at h
  rcases l with _ | ⟨a1, l⟩
  · simp at h
  rcases l with _ | ⟨a2, l⟩
  · simp at h
  rcases l with _ | ⟨a3, l⟩
  · simp at h
  rcases l with _ | ⟨a4, l⟩
  · simp at h
  rcases l with _ | ⟨a5, l⟩
  · simp at h
  rcases l with _ | ⟨a6, l⟩
  · simp at h
  rcases l with _ | ⟨a7, l⟩
  · simp at h
  rcases l with _ | ⟨a8, l⟩
  · simp at h
  rcases l with _ | ⟨b, l⟩
  · exact ⟨a0, a1, a2, a3, a4, a5, a6, a7, a8, rfl⟩
  · simp at h
theorem arrayQ_10 {α : Type} {cs : Array α} (h : cs.size = 10) : ∃ a0 a1 a2 a3 a4 a5 a6 a7 a8 a9, cs = #[a0, a1, a2, a3, a4, a5, a6, a7, a8, a9] := by
  obtain ⟨l⟩ := cs
  rcases l with _ | ⟨a0, l⟩
  · simp at h
  rcases l with _ | ⟨a1, l⟩
  · simp at h
  rcases l with _ | ⟨a2, l⟩
  · simp at h
  rcases l with _ | ⟨a3, l⟩
  · simp at h
  rcases l with _ | ⟨a4, l⟩
  · simp at h
  rcases l with _ | ⟨a5, l⟩
  · simp at h
  rcases l with _ | ⟨a6, l⟩
  · simp at h
  rcases l with _ | ⟨a7, l⟩
  · simp at h
  rcases l with _ | ⟨a8, l⟩
  · simp at h
  rcases l with _ | ⟨a9, l⟩
  · simp at h
  rcases l with _ | ⟨b, l⟩
  · exact ⟨a0, a1, a2, a3, a4, a5, a6, a7, a8, a9, rfl⟩
  · simp at h
theorem arrayQ_11 {α : Type} {cs : Array α} (h : cs.size = 11) : ∃ a0 a1 a2 a3 a4 a5 a6 a7 a8 a9 a10, cs = #[a0, a1, a2, a3, a4, a5, a6, a7, a8, a9, a10] := by
  obtain ⟨l⟩ := cs
  rcases l with _ | ⟨a0, l⟩
  · simp at h
  rcases l with _ | ⟨a1, l⟩
  · simp at h
  rcases l with _ | ⟨a2, l⟩
  · simp at h
  rcases l with _ | ⟨a3, l⟩
  · simp at h
  rcases l with _ | ⟨a4, l⟩
  · simp at h
  rcases l with _ | ⟨a5, l⟩
  · simp at h
  rcases l with _ | ⟨a6, l⟩
  · simp at h
  rcases l with _ | ⟨a7, l⟩
  · simp at h
  rcases l with _ | ⟨a8, l⟩
  · simp at h
  rcases l with _ | ⟨a9, l⟩
  · simp at h
  rcases l with _ | ⟨a10, l⟩
  · simp at h
  rcases l with _ | ⟨b, l⟩
  · exact ⟨a0, a1, a2, a3, a4, a5, a6, a7, a8, a9, a10, rfl⟩
  · simp at h
theorem arrayQ_12 {α : Type} {cs : Array α} (h : cs.size = 12) : ∃ a0 a1 a2 a3 a4 a5 a6 a7 a8 a9 a10 a11, cs = #[a0, a1, a2, a3, a4, a5, a6, a7, a8, a9, a10, a11] := by
  obtain ⟨l⟩ := cs
  rcases l with _ | ⟨a0, l⟩
  · simp at h
  rcases l with _ | ⟨a1, l⟩
  · simp at h
  rcases l with _ | ⟨a2, l⟩
  · simp at h
  rcases l with _ | ⟨a3, l⟩
  · simp at h
  rcases l with _ | ⟨a4, l⟩
  · simp at h
  rcases l with _ | ⟨a5, l⟩
  · simp at h
  rcases l with _ | ⟨a6, l⟩
  · simp at h
  rcases l with _ | ⟨a7, l⟩
  · simp at h
  rcases l with _ | ⟨a8, l⟩
  · simp at h
  rcases l with _ | ⟨a9, l⟩
  · simp at h
  rcases l with _ | ⟨a10, l⟩
  · simp at h
  rcases l with _ | ⟨a11, l⟩
  · simp at h
  rcases l with _ | ⟨b, l⟩
  · exact ⟨a0, a1, a2, a3, a4, a5, a6, a7, a8, a9, a10, a11, rfl⟩
  · simp at h
theorem arrayQ_13 {α : Type} {cs : Array α} (h : cs.size = 13) : ∃ a0 a1 a2 a3 a4 a5 a6 a7 a8 a9 a10 a11 a12, cs = #[a0, a1, a2, a3, a4, a5, a6, a7, a8, a9, a10, a11, a12] := by
  obtain ⟨l⟩ := cs
  rcases l with _ | ⟨a0, l⟩
  · simp at h
  rcases l with _ | ⟨a1, l⟩
  · simp at h
  rcases l with _ | ⟨a2, l⟩
  · simp at h
  rcases l with _ | ⟨a3, l⟩
  · simp at h
  rcases l with _ | ⟨a4, l⟩
  · simp at h
  rcases l with _ | ⟨a5, l⟩
  · simp at h
  rcases l with _ | ⟨a6, l⟩
  · simp at h
  rcases l with _ | ⟨a7, l⟩
  · simp at h
  rcases l with _ | ⟨a8, l⟩
  · simp at h
  rcases l with _ | ⟨a9, l⟩
  · simp at h
  rcases l with _ | ⟨a10, l⟩
  · simp at h
  rcases l with _ | ⟨a11, l⟩
  · simp at h
  rcases l with _ | ⟨a12, l⟩
  · simp at h
  rcases l with _ | ⟨b, l⟩
  · exact ⟨a0, a1, a2, a3, a4, a5, a6, a7, a8, a9, a10, a11, a12, rfl⟩
  · simp at h
theorem arrayQ_14 {α : Type} {cs : Array α} (h : cs.size = 14) : ∃ a0 a1 a2 a3 a4 a5 a6 a7 a8 a9 a10 a11 a12 a13, cs = #[a0, a1, a2, a3, a4, a5, a6, a7, a8, a9, a10, a11, a12, a13] := by
  obtain ⟨l⟩ := cs
  rcases l with _ | ⟨a0, l⟩
  · simp at h
  rcases l with _ | ⟨a1, l⟩
  · simp at h
  rcases l with _ | ⟨a2, l⟩
  · simp at h
  rcases l with _ | ⟨a3, l⟩
  · simp at h
  rcases l with _ | ⟨a4, l⟩
  · simp at h
  rcases l with _ | ⟨a5, l⟩
  · simp at h
  rcases l with _ | ⟨a6, l⟩
  · simp at h
  rcases l with _ | ⟨a7, l⟩
  · simp at h
  rcases l with _ | ⟨a8, l⟩
  · simp at h
  rcases l with _ | ⟨a9, l⟩
  · simp at h
  rcases l with _ | ⟨a10, l⟩
  · simp at h
  rcases l with _ | ⟨a11, l⟩
  · simp at h
  rcases l with _ | ⟨a12, l⟩
  · simp at h
  rcases l with _ | ⟨a13, l⟩
  · simp at h
  rcases l with _ | ⟨b, l⟩
  · exact ⟨a0, a1, a2, a3, a4, a5, a6, a7, a8, a9, a10, a11, a12, a13, rfl⟩
  · simp at h
theorem natQ_of_u32 {a : Int} (h : (Lit.int .u32 a).wf = true) : ∃ n : Nat, a = n ∧ n < 4294967296 := by
  have hb : 0 ≤ a ∧ a ≤ 4294967295 := by simpa [Lit.wf, IntKind.min, IntKind.max, IntKind.signed, IntKind.bits] using h
  exact ⟨a.toNat, by omega, by omega⟩
theorem natQ_of_u16 {a : Int} (h : (Lit.int .u16 a).wf = true) : ∃ n : Nat, a = n ∧ n < 65536 := by
  have hb : 0 ≤ a ∧ a ≤ 65535 := by simpa [Lit.wf, IntKind.min, IntKind.max, IntKind.signed, IntKind.bits] using h
  exact ⟨a.toNat, by omega, by omega⟩
theorem natQ_of_u8 {a : Int} (h : (Lit.int .u8 a).wf = true) : ∃ n : Nat, a = n ∧ n < 256 := by
  have hb : 0 ≤ a ∧ a ≤ 255 := by simpa [Lit.wf, IntKind.min, IntKind.max, IntKind.signed, IntKind.bits] using h
  exact ⟨a.toNat, by omega, by omega⟩
theorem natQ_of_u64 {a : Int} (h : (Lit.int .u64 a).wf = true) : ∃ n : Nat, a = n ∧ n < 18446744073709551616 := by
  have hb : 0 ≤ a ∧ a ≤ 18446744073709551615 := by simpa [Lit.wf, IntKind.min, IntKind.max, IntKind.signed, IntKind.bits] using h
  exact ⟨a.toNat, by omega, by omega⟩
theorem rangeQ_i64 {a : Int} (h : (Lit.int .i64 a).wf = true) : -9223372036854775808 ≤ a ∧ a ≤ 9223372036854775807 := by simpa [Lit.wf, IntKind.min, IntKind.max, IntKind.signed, IntKind.bits] using h
/-- What a struct's cells hold, field by field. -/
theorem partQ_of {H : Type} {enc : TypeId × Value → H} {P : Program} {W : World} {fs : Array Field} {t : TypeId} {m : Nat} {cs : List Value} {x : DataW H × List MemPlace} (ht : P.underlying t = some (.struct fs)) (h : DataW.trod enc P W 0 (fun _ => true) true m t cs = some x) :
    ∃ n, cs.length = P.cellsOf t ∧ ∀ (i : Nat) (f : Field), fs[i]? = some f → ∃ y, DataW.trod enc P W 0 (fun _ => true) true n f.type ((cs.drop f.offset).take (P.cellsOf f.type)) = some y := by
  obtain ⟨xs, n, _, _, hl, hx, hf⟩ := DataW.trod_struct ht h
  refine ⟨n, hl, fun i f hi => ?_⟩
  have hlt : i < fs.size := (Array.getElem?_eq_some_iff.1 hi).1
  have := hf i f hi
  rw [List.getElem?_eq_getElem (by omega)] at this
  exact ⟨_, this⟩
end Go.Proofs.YtnnkgdkjmmljiaaDoor

namespace Go.Proofs.YtnnkgdkjmmljiaaDoor
open Go.ChangeShapes Go.WideShapes Go.ChangeAt Go.RowKit
set_option linter.unusedVariables false

set_option maxRecDepth 100000 in
set_option maxHeartbeats 4000000 in
theorem open_cookie {H : Type} {enc : TypeId × Value → H} {W : World} {r : Reach} {b0 : Nat} {v : Value} {d : DataW H} {p : List MemPlace} (hv : Value.okWide Tryd.prog W r b0 26 v) (h : DataW.Trod enc Tryd.prog W 0 (fun _ => true) true 26 v d p) :
    ∃ x : Ck, v = .agg #[.int .i64 x.b, .int .u32 (x.ot : Int), .int .u32 (x.pt : Int), .int .u32 (x.os : Int), .int .u32 (x.ps : Int), .int .u32 (x.rw : Int), .int .u16 (x.ou : Int), .int .u16 (x.inn : Int)] ∧ x.Wf := by
  obtain ⟨cs0, rfl, hsz⟩ := okWide_struct Tryd.underlying26 hv
  have hsz : cs0.size = 8 := hsz.trans (by kernel_rfl)
  obtain ⟨a0, a1, a2, a3, a4, a5, a6, a7, rfl⟩ := arrayQ_8 hsz
  obtain ⟨fuel, hf⟩ := h
  have hf : DataW.trod enc Tryd.prog W 0 (fun _ => true) true fuel 26 [a0, a1, a2, a3, a4, a5, a6, a7] = some (d, p) := hf
  obtain ⟨n1, _, F⟩ := partQ_of Tryd.underlying26 hf
  obtain ⟨ys0, s0⟩ := F 0 _ rfl
  have s0 : DataW.trod enc Tryd.prog W 0 (fun _ => true) true n1 2 [a0] = some ys0 := by
      have h := s0
      change DataW.trod enc Tryd.prog W 0 (fun _ => true) true n1 2 (List.take (Tryd.prog.cellsOf 2) (List.drop 0 [a0, a1, a2, a3, a4, a5, a6, a7])) = _ at h
      rw [show Tryd.prog.cellsOf 2 = 1 by kernel_rfl] at h
      exact h
  obtain ⟨ys1, s1⟩ := F 1 _ rfl
  have s1 : DataW.trod enc Tryd.prog W 0 (fun _ => true) true n1 23 [a1] = some ys1 := by
      have h := s1
      change DataW.trod enc Tryd.prog W 0 (fun _ => true) true n1 23 (List.take (Tryd.prog.cellsOf 23) (List.drop 1 [a0, a1, a2, a3, a4, a5, a6, a7])) = _ at h
      rw [show Tryd.prog.cellsOf 23 = 1 by kernel_rfl] at h
      exact h
  obtain ⟨ys2, s2⟩ := F 2 _ rfl
  have s2 : DataW.trod enc Tryd.prog W 0 (fun _ => true) true n1 23 [a2] = some ys2 := by
      have h := s2
      change DataW.trod enc Tryd.prog W 0 (fun _ => true) true n1 23 (List.take (Tryd.prog.cellsOf 23) (List.drop 2 [a0, a1, a2, a3, a4, a5, a6, a7])) = _ at h
      rw [show Tryd.prog.cellsOf 23 = 1 by kernel_rfl] at h
      exact h
  obtain ⟨ys3, s3⟩ := F 3 _ rfl
  have s3 : DataW.trod enc Tryd.prog W 0 (fun _ => true) true n1 23 [a3] = some ys3 := by
      have h := s3
      change DataW.trod enc Tryd.prog W 0 (fun _ => true) true n1 23 (List.take (Tryd.prog.cellsOf 23) (List.drop 3 [a0, a1, a2, a3, a4, a5, a6, a7])) = _ at h
      rw [show Tryd.prog.cellsOf 23 = 1 by kernel_rfl] at h
      exact h
  obtain ⟨ys4, s4⟩ := F 4 _ rfl
  have s4 : DataW.trod enc Tryd.prog W 0 (fun _ => true) true n1 23 [a4] = some ys4 := by
      have h := s4
      change DataW.trod enc Tryd.prog W 0 (fun _ => true) true n1 23 (List.take (Tryd.prog.cellsOf 23) (List.drop 4 [a0, a1, a2, a3, a4, a5, a6, a7])) = _ at h
      rw [show Tryd.prog.cellsOf 23 = 1 by kernel_rfl] at h
      exact h
  obtain ⟨ys5, s5⟩ := F 5 _ rfl
  have s5 : DataW.trod enc Tryd.prog W 0 (fun _ => true) true n1 23 [a5] = some ys5 := by
      have h := s5
      change DataW.trod enc Tryd.prog W 0 (fun _ => true) true n1 23 (List.take (Tryd.prog.cellsOf 23) (List.drop 5 [a0, a1, a2, a3, a4, a5, a6, a7])) = _ at h
      rw [show Tryd.prog.cellsOf 23 = 1 by kernel_rfl] at h
      exact h
  obtain ⟨ys6, s6⟩ := F 6 _ rfl
  have s6 : DataW.trod enc Tryd.prog W 0 (fun _ => true) true n1 24 [a6] = some ys6 := by
      have h := s6
      change DataW.trod enc Tryd.prog W 0 (fun _ => true) true n1 24 (List.take (Tryd.prog.cellsOf 24) (List.drop 6 [a0, a1, a2, a3, a4, a5, a6, a7])) = _ at h
      rw [show Tryd.prog.cellsOf 24 = 1 by kernel_rfl] at h
      exact h
  obtain ⟨ys7, s7⟩ := F 7 _ rfl
  have s7 : DataW.trod enc Tryd.prog W 0 (fun _ => true) true n1 24 [a7] = some ys7 := by
      have h := s7
      change DataW.trod enc Tryd.prog W 0 (fun _ => true) true n1 24 (List.take (Tryd.prog.cellsOf 24) (List.drop 7 [a0, a1, a2, a3, a4, a5, a6, a7])) = _ at h
      rw [show Tryd.prog.cellsOf 24 = 1 by kernel_rfl] at h
      exact h
  obtain ⟨z0, rfl, w0⟩ := field_int Tryd.underlying2 s0
  have b0 := rangeQ_i64 w0
  obtain ⟨z1, rfl, w1⟩ := field_int Tryd.underlying23 s1
  obtain ⟨x1, rfl, b1⟩ := natQ_of_u32 w1
  obtain ⟨z2, rfl, w2⟩ := field_int Tryd.underlying23 s2
  obtain ⟨x2, rfl, b2⟩ := natQ_of_u32 w2
  obtain ⟨z3, rfl, w3⟩ := field_int Tryd.underlying23 s3
  obtain ⟨x3, rfl, b3⟩ := natQ_of_u32 w3
  obtain ⟨z4, rfl, w4⟩ := field_int Tryd.underlying23 s4
  obtain ⟨x4, rfl, b4⟩ := natQ_of_u32 w4
  obtain ⟨z5, rfl, w5⟩ := field_int Tryd.underlying23 s5
  obtain ⟨x5, rfl, b5⟩ := natQ_of_u32 w5
  obtain ⟨z6, rfl, w6⟩ := field_int Tryd.underlying24 s6
  obtain ⟨x6, rfl, b6⟩ := natQ_of_u16 w6
  obtain ⟨z7, rfl, w7⟩ := field_int Tryd.underlying24 s7
  obtain ⟨x7, rfl, b7⟩ := natQ_of_u16 w7
  exact ⟨⟨z0, x1, x2, x3, x4, x5, x6, x7⟩, rfl, ⟨b0, b1, b2, b3, b4, b5, b6, b7⟩⟩
end Go.Proofs.YtnnkgdkjmmljiaaDoor

namespace Go.Proofs.YtnnkgdkjmmljiaaDoor
open Go.ChangeShapes Go.WideShapes Go.WideMaps Go.WideElems Go.ChangeAt Go.RowKit
set_option linter.unusedVariables false
set_option maxRecDepth 100000

/-- What the rows list. -/
def laidAll : List (String × DataW Unit) := [("fairlead/sha.constants", Rows.laid_fairlead_sha_constants), ("fairlead/sha.initial", Rows.laid_fairlead_sha_initial)]
theorem door_met (os : Os) (args : Array Value) : laidMetH Tryd.prog laidAll ((World.doorLaid Tryd.prog 19 os).forCall (fun _ _ => 0) ⟨#[], args, []⟩).memory :=
  laidMetH_of_parts3 (fuel := 8) (laidMet_of_run' 8 (by kernel_rfl) (by kernel_rfl)) (by kernel_rfl) (by kernel_rfl)

/-- An array that reads as these numbers holds them. -/
theorem laid_ints {H : Type} {enc : TypeId × Value → H} {P : Program} {W : World} {b : Nat} {sp : Nat → Bool} {held : Bool} {f : Nat} {t e : TypeId} {n : Nat} {k : IntKind} {cs : List Value} {zs : List Int} {p : List MemPlace}
    (ht : P.underlying t = some (.array n e)) (he : P.underlying e = some (.int k)) (hc : P.cellsOf e = 1) (h : DataW.trod enc P W b sp held f t cs = some (.agg (zs.map fun z => DataW.lit (.int k z)), p)) :
    ∀ (i : Nat) (z : Int), zs[i]? = some z → cs[i]? = some (Value.int k z) := by
  obtain ⟨xs, m, rfl, hx, hlen, hn, hel⟩ := DataW.trod_array ht h
  simp only [Prod.mk.injEq, DataW.agg.injEq] at hx
  have hl : zs.length = n := by
    have := congrArg List.length hx.1
    simp at this
    omega
  intro i z hz
  have hi : i < n := by have := (List.getElem?_eq_some_iff.1 hz).1; omega
  have h0 := hel i hi
  rw [hc] at h0
  obtain ⟨x, hxi⟩ : ∃ x, xs[i]? = some x := ⟨xs[i], List.getElem?_eq_getElem (by omega)⟩
  rw [hxi] at h0
  obtain ⟨z', e1, e2, _⟩ := DataW.trod_int he h0
  have h1 : (xs.map (·.1))[i]? = some x.1 := by simp [hxi]
  rw [← hx.1] at h1
  simp only [List.getElem?_map, hz, Option.map_some, Option.some.injEq] at h1
  have hzz : z' = z := by
    rw [e2] at h1
    simpa using h1.symm
  subst hzz
  have := congrArg (·[0]?) e1
  simpa [List.getElem?_take, List.getElem?_drop] using this

theorem gConst : Tryd.prog.globalNamed "fairlead/sha.constants" = some 1 := by kernel_rfl
theorem gInit : Tryd.prog.globalNamed "fairlead/sha.initial" = some 0 := by kernel_rfl
theorem tConst : (Tryd.prog.globals[1]?).map (·.type) = some 82 := by kernel_rfl
theorem tInit : (Tryd.prog.globals[0]?).map (·.type) = some 75 := by kernel_rfl
theorem dConst {H : Type} : (Rows.laid_fairlead_sha_constants : DataW H) = .agg ((K.map fun x => (x.toNat : Int)).map fun z => .lit (.int .u32 z)) := by rfl
theorem dInit {H : Type} : (Rows.laid_fairlead_sha_initial : DataW H) = .agg ((H0.map fun x => (x.toNat : Int)).map fun z => .lit (.int .u32 z)) := by rfl

/-- WHAT THE CONDITION GIVES THE WALKS. -/
theorem tabs_of {W : World} (h : laidMetH Tryd.prog laidAll W) : Tabs W := by
  rw [MakeChecks.laidMetH_plain _ _ _ (by kernel_rfl)] at h
  obtain ⟨ps, ⟨g0, t0, cs0, f0, p0, q0, hg0, ht0, hv0, hd0, ⟨g1, t1, cs1, f1, p1, q1, hg1, ht1, hv1, hd1, _, _⟩, _⟩, _, _⟩ := h
  obtain rfl := Option.some.inj (gConst.symm.trans hg0)
  obtain rfl := Option.some.inj (gInit.symm.trans hg1)
  obtain rfl := Option.some.inj (tConst.symm.trans ht0)
  obtain rfl := Option.some.inj (tInit.symm.trans ht1)
  rw [dConst] at hd0
  rw [dInit] at hd1
  have k0 := laid_ints Tryd.underlying82 Tryd.underlying23 (by kernel_rfl) hd0
  have k1 := laid_ints Tryd.underlying75 Tryd.underlying23 (by kernel_rfl) hd1
  have hc0 : ∀ i x, K[i]? = some x → W.cell? ⟨1, i, none⟩ = some (rv x) := fun i x hx => by
    rw [World.var?_cell hg0 hv0 i]
    have := k0 i (x.toNat : Int) (by rw [List.getElem?_map, hx]; rfl)
    simpa using this
  refine ⟨hc0, fun i x hx => ?_, ?_⟩
  · rw [World.var?_cell hg1 hv1 i]
    have := k1 i (x.toNat : Int) (by rw [List.getElem?_map, hx]; rfl)
    simpa using this
  · have := World.block_lt_of_cell? W _ (hc0 0 _ rfl)
    exact this
end Go.Proofs.YtnnkgdkjmmljiaaDoor
