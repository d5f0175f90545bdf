/-
  What the frames of the statements share: structs of any number of fields, structs in structs, slices of pairs, slices of numbers in a field.
  What the frames of layer 9 share: an argument of type All.
-/
import Derived.Test.YtalgkokgaibloaaFrame
import Derived.Test.YtalgkokgaibloaaFrameI
import Derived.Test.YtalgkokgaibloaaBodR
import Derived.Test.YtalgkokgaibloaaNums
import Derived.Deep.Slices
import Derived.Deep.Fields
import Derived.Test.YtalgkokgaibloaaBodAll
namespace Go.Proofs.Ytalgkokgaibloaa
open Go.ChangeShapes Go.WideShapes Go.ChangeAt Go.RowKit Go.Deep
set_option linter.unusedVariables false

section
variable {H : Type} {enc : TypeId × Value → H} {P : Program} {W : World}

/-- What a struct's cells hold, field by field. -/
theorem part_of {fs : Array Field} {t : TypeId} {m : Nat} {cs : List Value} {x : DataW H × List MemPlace} (ht : P.underlying t = some (.struct fs)) (h : DataW.trod enc P W 0 (fun _ => true) true m t cs = some x) :
    ∃ n, cs.length = P.cellsOf t ∧ ∀ (i : Nat) (f : Field), fs[i]? = some f → ∃ y, DataW.trod enc P W 0 (fun _ => true) true n f.type ((cs.drop f.offset).take (P.cellsOf f.type)) = some y := by
  obtain ⟨xs, n, _, _, hl, hx, hf⟩ := DataW.trod_struct ht h
  refine ⟨n, hl, fun i f hi => ?_⟩
  have hlt : i < fs.size := (Array.getElem?_eq_some_iff.1 hi).1
  have := hf i f hi
  rw [List.getElem?_eq_getElem (by omega)] at this
  exact ⟨_, this⟩
theorem field_bool {t : TypeId} {m : Nat} {v : Value} {y : DataW H × List MemPlace} (ht : P.underlying t = some .bool) (h : DataW.trod enc P W 0 (fun _ => true) true m t [v] = some y) : ∃ b : Bool, v = .bool b := by
  obtain ⟨b, hb, _⟩ := DataW.trod_bool ht h
  injection hb with hb
  exact ⟨b, hb⟩

theorem field_pairs {t e : TypeId} {f0 f1 : Field} {m : Nat} {v : Value} {y : DataW H × List MemPlace}
    (ht : P.underlying t = some (.slice e)) (hs : P.underlying e = some (.struct #[f0, f1])) (hone : oneCellFields P #[f0, f1] = true) (hC : P.cellsOf e = 2) (h0 : P.underlying f0.type = some (.int .u16)) (h1 : P.underlying f1.type = some (.int .u16))
    (h : DataW.trod enc P W 0 (fun _ => true) true m t [v] = some y) :
    ∃ (A : Option Addr) (n c : Nat) (L : List (Nat × Nat)), v = .slice A n c ∧ n ≤ c ∧ c ≤ maxLen ∧ L.length = n ∧ Rg W 0 W.heap.size A L ∧ ∀ g ∈ L, g.1 < 65536 ∧ g.2 < 65536 := by
  rcases open_slice ht h with ⟨hcs, _⟩ | ⟨a, len, cap, m1, n', D, Pl, hcs, hb, hl, hm, hmm, hx, hi⟩
  · injection hcs with hcs
    exact ⟨none, 0, 0, [], hcs, Nat.le_refl _, Nat.zero_le _, rfl, .inl rfl, fun g hg => by cases hg⟩
  · injection hcs with hcs
    have hmm' : m1 = cap := by simpa using hmm
    have key : ∀ i, i < len → ∃ x : Nat × Nat, W.cell? (a.add (i * 2)) = some (.int .u16 (x.1 : Nat)) ∧ W.cell? (a.add (i * 2 + 1)) = some (.int .u16 (x.2 : Nat)) ∧ x.1 < 65536 ∧ x.2 < 65536 := by
      intro i hin
      obtain ⟨cs', hc, ht'⟩ := hi i (by omega)
      rw [hC] at hc
      obtain ⟨_, hcl, hat⟩ := World.cells?_some hc
      obtain ⟨n2, _, hf⟩ := part_of hs ht'
      obtain ⟨o0, k0⟩ := hone_of hone 0 f0 rfl
      obtain ⟨o1, k1⟩ := hone_of hone 1 f1 rfl
      obtain ⟨y0, t0⟩ := hf 0 f0 rfl
      obtain ⟨y1, t1⟩ := hf 1 f1 rfl
      rw [o0, k0] at t0
      rw [o1, k1] at t1
      obtain ⟨c0, c1, rfl⟩ : ∃ c0 c1, cs' = [c0, c1] := by
        rcases cs' with _ | ⟨c0, _ | ⟨c1, _ | ⟨c2, l⟩⟩⟩
        · simp at hcl
        · simp at hcl
        · exact ⟨c0, c1, rfl⟩
        · simp at hcl
      obtain ⟨x0, rfl, w0⟩ := field_int h0 t0
      obtain ⟨x1, rfl, w1⟩ := field_int h1 t1
      obtain ⟨p, rfl, hp⟩ := nat_of_u16 w0
      obtain ⟨q, rfl, hq⟩ := nat_of_u16 w1
      have e0 := hat 0 (by omega)
      have e1 := hat 1 (by omega)
      rw [add_add] at e0 e1
      exact ⟨(p, q), e0, e1, hp, hq⟩
    refine ⟨some a, len, cap, (List.range len).map fun i => if h : i < len then Classical.choose (key i h) else (0, 0), hcs, hl, hm, by simp, ?_, fun g hg => ?_⟩
    · by_cases hn0 : len = 0
      · subst hn0; exact .inl (by simp)
      · obtain ⟨b, off, spot⟩ := a
        obtain ⟨_, h00, _⟩ := key 0 (by omega)
        have hspot : spot = none := by simpa [Addr.add] using World.cell?_spot h00
        subst hspot
        have hblt := World.block_lt_of_cell? W _ h00
        refine .inr ⟨b, off, rfl, Nat.zero_le _, by simpa [Addr.add] using hblt, fun i l hl' => ?_⟩
        rw [List.getElem?_map, Option.map_eq_some_iff] at hl'
        obtain ⟨i', hi', rfl⟩ := hl'
        have hin : i < len := by
          rcases Nat.lt_or_ge i len with hlt | hge
          · exact hlt
          · rw [List.getElem?_eq_none (by simpa using hge)] at hi'; cases hi'
        rw [List.getElem?_range hin] at hi'
        injection hi' with hi'
        subst hi'
        rw [dif_pos hin]
        generalize hz : Classical.choose (key i hin) = z
        have hk := Classical.choose_spec (key i hin)
        rw [hz] at hk
        obtain ⟨g0, g1, _⟩ := hk
        rw [Addr.add_lit] at g0 g1
        rw [← Nat.add_assoc] at g1
        exact ⟨g0, g1⟩
    · rw [List.mem_map] at hg
      obtain ⟨i, hi', rfl⟩ := hg
      have hin : i < len := List.mem_range.1 hi'
      rw [dif_pos hin]
      exact (Classical.choose_spec (key i hin)).2.2

theorem field_u32s {t e : TypeId} {m : Nat} {v : Value} {y : DataW H × List MemPlace} (ht : P.underlying t = some (.slice e)) (he : P.underlying e = some (.int .u32)) (hc : P.cellsOf e = 1)
    (h : DataW.trod enc P W 0 (fun _ => true) true m t [v] = some y) :
    ∃ (A : Option Addr) (n c : Nat) (l : List Nat), v = .slice A n c ∧ n ≤ c ∧ c ≤ maxLen ∧ l.length = n ∧ Ri .u32 W W.heap.size A (ints l) ∧ ∀ x ∈ l, x < 4294967296 := by
  have hv : ∃ (A : Option Addr) (n c : Nat), v = .slice A n c := by
    rcases open_ints ht he hc h with ⟨hcs, _⟩ | ⟨x, l, c', zs, hcs, _⟩
    · injection hcs with hcs; exact ⟨_, _, _, hcs⟩
    · injection hcs with hcs; exact ⟨_, _, _, hcs⟩
  obtain ⟨A, n, c, rfl⟩ := hv
  obtain ⟨xs, h1, h2, h3, h4, h5⟩ := arg_ints (d := y.1) (p := y.2) ht he hc ⟨m, by simpa [Value.cells] using h⟩
  have hb : ∀ x ∈ xs, 0 ≤ x ∧ x ≤ 4294967295 := fun x hx => by simpa [Lit.wf, IntKind.min, IntKind.max, IntKind.signed, IntKind.bits] using h5 x hx
  have hi : ints (xs.map Int.toNat) = xs := by
    unfold ints
    rw [List.map_map]
    conv => rhs; rw [← List.map_id xs]
    refine List.map_congr_left fun x hx => ?_
    have := hb x hx
    simp only [Function.comp, id]
    omega
  refine ⟨A, n, c, xs.map Int.toNat, rfl, h1, h2, by simpa using h3, by rw [hi]; exact h4, fun x hx => ?_⟩
  obtain ⟨z, hz, rfl⟩ := List.mem_map.1 hx
  have := hb z hz
  omega
end
end Go.Proofs.Ytalgkokgaibloaa

namespace Go.Proofs.Ytalgkokgaibloaa
open Go.ChangeShapes Go.WideShapes Go.ChangeAt Go.RowKit Go.Deep
set_option linter.unusedVariables false

theorem array_22 {α : Type} {cs : Array α} (h : cs.size = 22) : ∃ a0 a1 a2 a3 a4 a5 a6 a7 a8 a9 a10 a11 a12 a13 a14 a15 a16 a17 a18 a19 a20 a21, cs = #[a0, a1, a2, a3, a4, a5, a6, a7, a8, a9, a10, a11, a12, a13, a14, a15, a16, a17, a18, a19, a20, a21] := by
  obtain ⟨l⟩ := cs
  rcases l with _ | ⟨a0, l⟩
  · simp at h
  rcases l with _ | ⟨a1, l⟩
  · simp at h
  rcases l with _ | ⟨a2, l⟩
  · simp at h
  rcases l with _ | ⟨a3, l⟩
  · simp at h
  rcases l with _ | ⟨a4, l⟩
  · simp at h
  rcases l with _ | ⟨a5, l⟩
  · simp at h
  rcases l with _ | ⟨a6, l⟩
  · simp at h
  rcases l with _ | ⟨a7, l⟩
  · simp at h
  rcases l with _ | ⟨a8, l⟩
  · simp at h
  rcases l with _ | ⟨a9, l⟩
  · simp at h
  rcases l with _ | ⟨a10, l⟩
  · simp at h
  rcases l with _ | ⟨a11, l⟩
  · simp at h
  rcases l with _ | ⟨a12, l⟩
  · simp at h
  rcases l with _ | ⟨a13, l⟩
  · simp at h
  rcases l with _ | ⟨a14, l⟩
  · simp at h
  rcases l with _ | ⟨a15, l⟩
  · simp at h
  rcases l with _ | ⟨a16, l⟩
  · simp at h
  rcases l with _ | ⟨a17, l⟩
  · simp at h
  rcases l with _ | ⟨a18, l⟩
  · simp at h
  rcases l with _ | ⟨a19, l⟩
  · simp at h
  rcases l with _ | ⟨a20, l⟩
  · simp at h
  rcases l with _ | ⟨a21, l⟩
  · simp at h
  rcases l with _ | ⟨b, l⟩
  · exact ⟨a0, a1, a2, a3, a4, a5, a6, a7, a8, a9, a10, a11, a12, a13, a14, a15, a16, a17, a18, a19, a20, a21, rfl⟩
  · simp at h
theorem nat_of_u32 {a : Int} (h : (Lit.int .u32 a).wf = true) : ∃ n : Nat, a = n ∧ n < 4294967296 := by
  have hb : 0 ≤ a ∧ a ≤ 4294967295 := by simpa [Lit.wf, IntKind.min, IntKind.max, IntKind.signed, IntKind.bits] using h
  exact ⟨a.toNat, by omega, by omega⟩
set_option maxRecDepth 100000 in
set_option maxHeartbeats 4000000 in
theorem open_all {H : Type} {enc : TypeId × Value → H} {W : World} {r : Reach} {b0 : Nat} {v : Value} {d : DataW H} {p : List MemPlace} (hv : Value.okWide Try.prog W r b0 77 v) (h : DataW.Trod enc Try.prog W 0 (fun _ => true) true 77 v d p) :
    ∃ x : AX, v = .agg #[.bool x.ack, .int .u32 (x.tsn : Int), .int .u16 (x.stream : Int), .int .u16 (x.ssn : Int), .bool x.un, .bool x.fi, .bool x.la, .slice x.Ad x.nd x.cd, .int .u32 (x.tag : Int), .int .u32 (x.rwnd : Int), .int .u16 (x.out : Int), .int .u16 (x.in_ : Int), .int .u32 (x.tsn2 : Int), .slice x.Ai x.ni x.ci, .int .u32 (x.cum : Int), .int .u32 (x.rwnd2 : Int), .slice x.Ag x.ng x.cg, .slice x.Au x.nu x.cu, .int .u32 (x.fcum : Int), .slice x.As x.ns x.cs, .int .i64 x.t, .int .u32 (x.cum2 : Int)] ∧ x.In W := by
  obtain ⟨cs0, rfl, hsz⟩ := okWide_struct Try.underlying77 hv
  have hsz : cs0.size = 22 := hsz.trans (by kernel_rfl)
  obtain ⟨a0, a1, a2, a3, a4, a5, a6, a7, a8, a9, a10, a11, a12, a13, a14, a15, a16, a17, a18, a19, a20, a21, rfl⟩ := array_22 hsz
  obtain ⟨fuel, hf⟩ := h
  have hf : DataW.trod enc Try.prog W 0 (fun _ => true) true fuel 77 [a0, a1, a2, a3, a4, a5, a6, a7, a8, a9, a10, a11, a12, a13, a14, a15, a16, a17, a18, a19, a20, a21] = some (d, p) := hf
  obtain ⟨n1, _, F⟩ := part_of Try.underlying77 hf
  obtain ⟨yt0, t0⟩ := F 0 _ rfl
  have t0 : DataW.trod enc Try.prog W 0 (fun _ => true) true n1 4 [a0] = some yt0 := by
    have h := t0
    change DataW.trod enc Try.prog W 0 (fun _ => true) true n1 4 (List.take (Try.prog.cellsOf 4) (List.drop 0 [a0, a1, a2, a3, a4, a5, a6, a7, a8, a9, a10, a11, a12, a13, a14, a15, a16, a17, a18, a19, a20, a21])) = _ at h
    rw [show Try.prog.cellsOf 4 = 1 by kernel_rfl] at h
    exact h
  obtain ⟨yt1, t1⟩ := F 1 _ rfl
  have t1 : DataW.trod enc Try.prog W 0 (fun _ => true) true n1 26 [a1, a2, a3, a4, a5, a6, a7] = some yt1 := by
    have h := t1
    change DataW.trod enc Try.prog W 0 (fun _ => true) true n1 26 (List.take (Try.prog.cellsOf 26) (List.drop 1 [a0, a1, a2, a3, a4, a5, a6, a7, a8, a9, a10, a11, a12, a13, a14, a15, a16, a17, a18, a19, a20, a21])) = _ at h
    rw [show Try.prog.cellsOf 26 = 7 by kernel_rfl] at h
    exact h
  obtain ⟨m1, _, F1⟩ := part_of Try.underlying26 t1
  obtain ⟨ys1_0, s1_0⟩ := F1 0 _ rfl
  have s1_0 : DataW.trod enc Try.prog W 0 (fun _ => true) true m1 22 [a1] = some ys1_0 := by
    have h := s1_0
    change DataW.trod enc Try.prog W 0 (fun _ => true) true m1 22 (List.take (Try.prog.cellsOf 22) (List.drop 0 [a1, a2, a3, a4, a5, a6, a7])) = _ at h
    rw [show Try.prog.cellsOf 22 = 1 by kernel_rfl] at h
    exact h
  obtain ⟨ys1_1, s1_1⟩ := F1 1 _ rfl
  have s1_1 : DataW.trod enc Try.prog W 0 (fun _ => true) true m1 23 [a2] = some ys1_1 := by
    have h := s1_1
    change DataW.trod enc Try.prog W 0 (fun _ => true) true m1 23 (List.take (Try.prog.cellsOf 23) (List.drop 1 [a1, a2, a3, a4, a5, a6, a7])) = _ at h
    rw [show Try.prog.cellsOf 23 = 1 by kernel_rfl] at h
    exact h
  obtain ⟨ys1_2, s1_2⟩ := F1 2 _ rfl
  have s1_2 : DataW.trod enc Try.prog W 0 (fun _ => true) true m1 23 [a3] = some ys1_2 := by
    have h := s1_2
    change DataW.trod enc Try.prog W 0 (fun _ => true) true m1 23 (List.take (Try.prog.cellsOf 23) (List.drop 2 [a1, a2, a3, a4, a5, a6, a7])) = _ at h
    rw [show Try.prog.cellsOf 23 = 1 by kernel_rfl] at h
    exact h
  obtain ⟨ys1_3, s1_3⟩ := F1 3 _ rfl
  have s1_3 : DataW.trod enc Try.prog W 0 (fun _ => true) true m1 4 [a4] = some ys1_3 := by
    have h := s1_3
    change DataW.trod enc Try.prog W 0 (fun _ => true) true m1 4 (List.take (Try.prog.cellsOf 4) (List.drop 3 [a1, a2, a3, a4, a5, a6, a7])) = _ at h
    rw [show Try.prog.cellsOf 4 = 1 by kernel_rfl] at h
    exact h
  obtain ⟨ys1_4, s1_4⟩ := F1 4 _ rfl
  have s1_4 : DataW.trod enc Try.prog W 0 (fun _ => true) true m1 4 [a5] = some ys1_4 := by
    have h := s1_4
    change DataW.trod enc Try.prog W 0 (fun _ => true) true m1 4 (List.take (Try.prog.cellsOf 4) (List.drop 4 [a1, a2, a3, a4, a5, a6, a7])) = _ at h
    rw [show Try.prog.cellsOf 4 = 1 by kernel_rfl] at h
    exact h
  obtain ⟨ys1_5, s1_5⟩ := F1 5 _ rfl
  have s1_5 : DataW.trod enc Try.prog W 0 (fun _ => true) true m1 4 [a6] = some ys1_5 := by
    have h := s1_5
    change DataW.trod enc Try.prog W 0 (fun _ => true) true m1 4 (List.take (Try.prog.cellsOf 4) (List.drop 5 [a1, a2, a3, a4, a5, a6, a7])) = _ at h
    rw [show Try.prog.cellsOf 4 = 1 by kernel_rfl] at h
    exact h
  obtain ⟨ys1_6, s1_6⟩ := F1 6 _ rfl
  have s1_6 : DataW.trod enc Try.prog W 0 (fun _ => true) true m1 24 [a7] = some ys1_6 := by
    have h := s1_6
    change DataW.trod enc Try.prog W 0 (fun _ => true) true m1 24 (List.take (Try.prog.cellsOf 24) (List.drop 6 [a1, a2, a3, a4, a5, a6, a7])) = _ at h
    rw [show Try.prog.cellsOf 24 = 1 by kernel_rfl] at h
    exact h
  obtain ⟨yt2, t2⟩ := F 2 _ rfl
  have t2 : DataW.trod enc Try.prog W 0 (fun _ => true) true n1 43 [a8, a9, a10, a11, a12, a13] = some yt2 := by
    have h := t2
    change DataW.trod enc Try.prog W 0 (fun _ => true) true n1 43 (List.take (Try.prog.cellsOf 43) (List.drop 8 [a0, a1, a2, a3, a4, a5, a6, a7, a8, a9, a10, a11, a12, a13, a14, a15, a16, a17, a18, a19, a20, a21])) = _ at h
    rw [show Try.prog.cellsOf 43 = 6 by kernel_rfl] at h
    exact h
  obtain ⟨m2, _, F2⟩ := part_of Try.underlying43 t2
  obtain ⟨ys2_0, s2_0⟩ := F2 0 _ rfl
  have s2_0 : DataW.trod enc Try.prog W 0 (fun _ => true) true m2 22 [a8] = some ys2_0 := by
    have h := s2_0
    change DataW.trod enc Try.prog W 0 (fun _ => true) true m2 22 (List.take (Try.prog.cellsOf 22) (List.drop 0 [a8, a9, a10, a11, a12, a13])) = _ at h
    rw [show Try.prog.cellsOf 22 = 1 by kernel_rfl] at h
    exact h
  obtain ⟨ys2_1, s2_1⟩ := F2 1 _ rfl
  have s2_1 : DataW.trod enc Try.prog W 0 (fun _ => true) true m2 22 [a9] = some ys2_1 := by
    have h := s2_1
    change DataW.trod enc Try.prog W 0 (fun _ => true) true m2 22 (List.take (Try.prog.cellsOf 22) (List.drop 1 [a8, a9, a10, a11, a12, a13])) = _ at h
    rw [show Try.prog.cellsOf 22 = 1 by kernel_rfl] at h
    exact h
  obtain ⟨ys2_2, s2_2⟩ := F2 2 _ rfl
  have s2_2 : DataW.trod enc Try.prog W 0 (fun _ => true) true m2 23 [a10] = some ys2_2 := by
    have h := s2_2
    change DataW.trod enc Try.prog W 0 (fun _ => true) true m2 23 (List.take (Try.prog.cellsOf 23) (List.drop 2 [a8, a9, a10, a11, a12, a13])) = _ at h
    rw [show Try.prog.cellsOf 23 = 1 by kernel_rfl] at h
    exact h
  obtain ⟨ys2_3, s2_3⟩ := F2 3 _ rfl
  have s2_3 : DataW.trod enc Try.prog W 0 (fun _ => true) true m2 23 [a11] = some ys2_3 := by
    have h := s2_3
    change DataW.trod enc Try.prog W 0 (fun _ => true) true m2 23 (List.take (Try.prog.cellsOf 23) (List.drop 3 [a8, a9, a10, a11, a12, a13])) = _ at h
    rw [show Try.prog.cellsOf 23 = 1 by kernel_rfl] at h
    exact h
  obtain ⟨ys2_4, s2_4⟩ := F2 4 _ rfl
  have s2_4 : DataW.trod enc Try.prog W 0 (fun _ => true) true m2 22 [a12] = some ys2_4 := by
    have h := s2_4
    change DataW.trod enc Try.prog W 0 (fun _ => true) true m2 22 (List.take (Try.prog.cellsOf 22) (List.drop 4 [a8, a9, a10, a11, a12, a13])) = _ at h
    rw [show Try.prog.cellsOf 22 = 1 by kernel_rfl] at h
    exact h
  obtain ⟨ys2_5, s2_5⟩ := F2 5 _ rfl
  have s2_5 : DataW.trod enc Try.prog W 0 (fun _ => true) true m2 24 [a13] = some ys2_5 := by
    have h := s2_5
    change DataW.trod enc Try.prog W 0 (fun _ => true) true m2 24 (List.take (Try.prog.cellsOf 24) (List.drop 5 [a8, a9, a10, a11, a12, a13])) = _ at h
    rw [show Try.prog.cellsOf 24 = 1 by kernel_rfl] at h
    exact h
  obtain ⟨yt3, t3⟩ := F 3 _ rfl
  have t3 : DataW.trod enc Try.prog W 0 (fun _ => true) true n1 52 [a14, a15, a16, a17] = some yt3 := by
    have h := t3
    change DataW.trod enc Try.prog W 0 (fun _ => true) true n1 52 (List.take (Try.prog.cellsOf 52) (List.drop 14 [a0, a1, a2, a3, a4, a5, a6, a7, a8, a9, a10, a11, a12, a13, a14, a15, a16, a17, a18, a19, a20, a21])) = _ at h
    rw [show Try.prog.cellsOf 52 = 4 by kernel_rfl] at h
    exact h
  obtain ⟨m3, _, F3⟩ := part_of Try.underlying52 t3
  obtain ⟨ys3_0, s3_0⟩ := F3 0 _ rfl
  have s3_0 : DataW.trod enc Try.prog W 0 (fun _ => true) true m3 22 [a14] = some ys3_0 := by
    have h := s3_0
    change DataW.trod enc Try.prog W 0 (fun _ => true) true m3 22 (List.take (Try.prog.cellsOf 22) (List.drop 0 [a14, a15, a16, a17])) = _ at h
    rw [show Try.prog.cellsOf 22 = 1 by kernel_rfl] at h
    exact h
  obtain ⟨ys3_1, s3_1⟩ := F3 1 _ rfl
  have s3_1 : DataW.trod enc Try.prog W 0 (fun _ => true) true m3 22 [a15] = some ys3_1 := by
    have h := s3_1
    change DataW.trod enc Try.prog W 0 (fun _ => true) true m3 22 (List.take (Try.prog.cellsOf 22) (List.drop 1 [a14, a15, a16, a17])) = _ at h
    rw [show Try.prog.cellsOf 22 = 1 by kernel_rfl] at h
    exact h
  obtain ⟨ys3_2, s3_2⟩ := F3 2 _ rfl
  have s3_2 : DataW.trod enc Try.prog W 0 (fun _ => true) true m3 49 [a16] = some ys3_2 := by
    have h := s3_2
    change DataW.trod enc Try.prog W 0 (fun _ => true) true m3 49 (List.take (Try.prog.cellsOf 49) (List.drop 2 [a14, a15, a16, a17])) = _ at h
    rw [show Try.prog.cellsOf 49 = 1 by kernel_rfl] at h
    exact h
  obtain ⟨ys3_3, s3_3⟩ := F3 3 _ rfl
  have s3_3 : DataW.trod enc Try.prog W 0 (fun _ => true) true m3 50 [a17] = some ys3_3 := by
    have h := s3_3
    change DataW.trod enc Try.prog W 0 (fun _ => true) true m3 50 (List.take (Try.prog.cellsOf 50) (List.drop 3 [a14, a15, a16, a17])) = _ at h
    rw [show Try.prog.cellsOf 50 = 1 by kernel_rfl] at h
    exact h
  obtain ⟨yt4, t4⟩ := F 4 _ rfl
  have t4 : DataW.trod enc Try.prog W 0 (fun _ => true) true n1 56 [a18, a19] = some yt4 := by
    have h := t4
    change DataW.trod enc Try.prog W 0 (fun _ => true) true n1 56 (List.take (Try.prog.cellsOf 56) (List.drop 18 [a0, a1, a2, a3, a4, a5, a6, a7, a8, a9, a10, a11, a12, a13, a14, a15, a16, a17, a18, a19, a20, a21])) = _ at h
    rw [show Try.prog.cellsOf 56 = 2 by kernel_rfl] at h
    exact h
  obtain ⟨m4, _, F4⟩ := part_of Try.underlying56 t4
  obtain ⟨ys4_0, s4_0⟩ := F4 0 _ rfl
  have s4_0 : DataW.trod enc Try.prog W 0 (fun _ => true) true m4 22 [a18] = some ys4_0 := by
    have h := s4_0
    change DataW.trod enc Try.prog W 0 (fun _ => true) true m4 22 (List.take (Try.prog.cellsOf 22) (List.drop 0 [a18, a19])) = _ at h
    rw [show Try.prog.cellsOf 22 = 1 by kernel_rfl] at h
    exact h
  obtain ⟨ys4_1, s4_1⟩ := F4 1 _ rfl
  have s4_1 : DataW.trod enc Try.prog W 0 (fun _ => true) true m4 54 [a19] = some ys4_1 := by
    have h := s4_1
    change DataW.trod enc Try.prog W 0 (fun _ => true) true m4 54 (List.take (Try.prog.cellsOf 54) (List.drop 1 [a18, a19])) = _ at h
    rw [show Try.prog.cellsOf 54 = 1 by kernel_rfl] at h
    exact h
  obtain ⟨yt5, t5⟩ := F 5 _ rfl
  have t5 : DataW.trod enc Try.prog W 0 (fun _ => true) true n1 2 [a20] = some yt5 := by
    have h := t5
    change DataW.trod enc Try.prog W 0 (fun _ => true) true n1 2 (List.take (Try.prog.cellsOf 2) (List.drop 20 [a0, a1, a2, a3, a4, a5, a6, a7, a8, a9, a10, a11, a12, a13, a14, a15, a16, a17, a18, a19, a20, a21])) = _ at h
    rw [show Try.prog.cellsOf 2 = 1 by kernel_rfl] at h
    exact h
  obtain ⟨yt6, t6⟩ := F 6 _ rfl
  have t6 : DataW.trod enc Try.prog W 0 (fun _ => true) true n1 22 [a21] = some yt6 := by
    have h := t6
    change DataW.trod enc Try.prog W 0 (fun _ => true) true n1 22 (List.take (Try.prog.cellsOf 22) (List.drop 21 [a0, a1, a2, a3, a4, a5, a6, a7, a8, a9, a10, a11, a12, a13, a14, a15, a16, a17, a18, a19, a20, a21])) = _ at h
    rw [show Try.prog.cellsOf 22 = 1 by kernel_rfl] at h
    exact h
  obtain ⟨ack, rfl⟩ := field_bool Try.underlying4 t0
  obtain ⟨tsn_, rfl, wtsn⟩ := field_int Try.underlying22 s1_0
  obtain ⟨tsn, rfl, btsn⟩ := nat_of_u32 wtsn
  obtain ⟨stream_, rfl, wstream⟩ := field_int Try.underlying23 s1_1
  obtain ⟨stream, rfl, bstream⟩ := nat_of_u16 wstream
  obtain ⟨ssn_, rfl, wssn⟩ := field_int Try.underlying23 s1_2
  obtain ⟨ssn, rfl, bssn⟩ := nat_of_u16 wssn
  obtain ⟨un, rfl⟩ := field_bool Try.underlying4 s1_3
  obtain ⟨fi, rfl⟩ := field_bool Try.underlying4 s1_4
  obtain ⟨la, rfl⟩ := field_bool Try.underlying4 s1_5
  obtain ⟨Ad, nd, cd, ds, rfl, fds⟩ := field_bytes Try.underlying24 Try.underlying5 (by kernel_rfl) s1_6
  obtain ⟨tag_, rfl, wtag⟩ := field_int Try.underlying22 s2_0
  obtain ⟨tag, rfl, btag⟩ := nat_of_u32 wtag
  obtain ⟨rwnd_, rfl, wrwnd⟩ := field_int Try.underlying22 s2_1
  obtain ⟨rwnd, rfl, brwnd⟩ := nat_of_u32 wrwnd
  obtain ⟨out_, rfl, wout⟩ := field_int Try.underlying23 s2_2
  obtain ⟨out, rfl, bout⟩ := nat_of_u16 wout
  obtain ⟨in__, rfl, win_⟩ := field_int Try.underlying23 s2_3
  obtain ⟨in_, rfl, bin_⟩ := nat_of_u16 win_
  obtain ⟨tsn2_, rfl, wtsn2⟩ := field_int Try.underlying22 s2_4
  obtain ⟨tsn2, rfl, btsn2⟩ := nat_of_u32 wtsn2
  obtain ⟨Ai, ni, ci, ck, rfl, fck⟩ := field_bytes Try.underlying24 Try.underlying5 (by kernel_rfl) s2_5
  obtain ⟨cum_, rfl, wcum⟩ := field_int Try.underlying22 s3_0
  obtain ⟨cum, rfl, bcum⟩ := nat_of_u32 wcum
  obtain ⟨rwnd2_, rfl, wrwnd2⟩ := field_int Try.underlying22 s3_1
  obtain ⟨rwnd2, rfl, brwnd2⟩ := nat_of_u32 wrwnd2
  obtain ⟨Ag, ng, cg, gaps, rfl, fgaps⟩ := field_pairs Try.underlying49 Try.underlying79 (by kernel_rfl) (by kernel_rfl) Try.underlying23 Try.underlying23 s3_2
  obtain ⟨Au, nu, cu, dups, rfl, fdups⟩ := field_u32s Try.underlying50 Try.underlying22 (by kernel_rfl) s3_3
  obtain ⟨fcum_, rfl, wfcum⟩ := field_int Try.underlying22 s4_0
  obtain ⟨fcum, rfl, bfcum⟩ := nat_of_u32 wfcum
  obtain ⟨As, ns, cs, skips, rfl, fskips⟩ := field_pairs Try.underlying54 Try.underlying104 (by kernel_rfl) (by kernel_rfl) Try.underlying23 Try.underlying23 s4_1
  obtain ⟨t, rfl, wt⟩ := field_int Try.underlying2 t5
  obtain ⟨cum2_, rfl, wcum2⟩ := field_int Try.underlying22 t6
  obtain ⟨cum2, rfl, bcum2⟩ := nat_of_u32 wcum2
  have ht : -9223372036854775808 ≤ t ∧ t ≤ 9223372036854775807 := by simpa [Lit.wf, IntKind.min, IntKind.max, IntKind.signed, IntKind.bits] using wt
  have ht2 : t < 9223372036854775808 := by omega
  exact ⟨⟨ack, tsn, stream, ssn, un, fi, la, Ad, nd, cd, ds, tag, rwnd, out, in_, tsn2, Ai, ni, ci, ck, cum, rwnd2, Ag, ng, cg, gaps, Au, nu, cu, dups, fcum, As, ns, cs, skips, t, cum2⟩, rfl, ⟨btsn, bstream, bssn, btag, brwnd, bout, bin_, btsn2, bcum, brwnd2, bfcum, ⟨ht.1, ht2⟩, bcum2, fds, fck, fgaps, fdups, fskips⟩⟩
end Go.Proofs.Ytalgkokgaibloaa
