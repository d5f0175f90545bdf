/-
  What the frames of the statements share: structs of any number of fields, structs in structs, slices of pairs, slices of numbers in a field.
-/
import Derived.Test.YtalgkokgaibloaaFrame
import Derived.Test.YtalgkokgaibloaaFrameI
import Derived.Test.YtalgkokgaibloaaBodR
import Derived.Test.YtalgkokgaibloaaNums
import Derived.Deep.Slices
import Derived.Deep.Fields
namespace Go.Proofs.Ytalgkokgaibloaa
open Go.ChangeShapes Go.WideShapes Go.ChangeAt Go.RowKit Go.Deep
set_option linter.unusedVariables false

section
variable {H : Type} {enc : TypeId × Value → H} {P : Program} {W : World}

/-- What a struct's cells hold, field by field. -/
theorem part_of {fs : Array Field} {t : TypeId} {m : Nat} {cs : List Value} {x : DataW H × List MemPlace} (ht : P.underlying t = some (.struct fs)) (h : DataW.trod enc P W 0 (fun _ => true) true m t cs = some x) :
    ∃ n, cs.length = P.cellsOf t ∧ ∀ (i : Nat) (f : Field), fs[i]? = some f → ∃ y, DataW.trod enc P W 0 (fun _ => true) true n f.type ((cs.drop f.offset).take (P.cellsOf f.type)) = some y := by
  obtain ⟨xs, n, _, _, hl, hx, hf⟩ := DataW.trod_struct ht h
  refine ⟨n, hl, fun i f hi => ?_⟩
  have hlt : i < fs.size := (Array.getElem?_eq_some_iff.1 hi).1
  have := hf i f hi
  rw [List.getElem?_eq_getElem (by omega)] at this
  exact ⟨_, this⟩
theorem field_bool {t : TypeId} {m : Nat} {v : Value} {y : DataW H × List MemPlace} (ht : P.underlying t = some .bool) (h : DataW.trod enc P W 0 (fun _ => true) true m t [v] = some y) : ∃ b : Bool, v = .bool b := by
  obtain ⟨b, hb, _⟩ := DataW.trod_bool ht h
  injection hb with hb
  exact ⟨b, hb⟩

theorem field_pairs {t e : TypeId} {f0 f1 : Field} {m : Nat} {v : Value} {y : DataW H × List MemPlace}
    (ht : P.underlying t = some (.slice e)) (hs : P.underlying e = some (.struct #[f0, f1])) (hone : oneCellFields P #[f0, f1] = true) (hC : P.cellsOf e = 2) (h0 : P.underlying f0.type = some (.int .u16)) (h1 : P.underlying f1.type = some (.int .u16))
    (h : DataW.trod enc P W 0 (fun _ => true) true m t [v] = some y) :
    ∃ (A : Option Addr) (n c : Nat) (L : List (Nat × Nat)), v = .slice A n c ∧ n ≤ c ∧ c ≤ maxLen ∧ L.length = n ∧ Rg W 0 W.heap.size A L ∧ ∀ g ∈ L, g.1 < 65536 ∧ g.2 < 65536 := by
  rcases open_slice ht h with ⟨hcs, _⟩ | ⟨a, len, cap, m1, n', D, Pl, hcs, hb, hl, hm, hmm, hx, hi⟩
  · injection hcs with hcs
    exact ⟨none, 0, 0, [], hcs, Nat.le_refl _, Nat.zero_le _, rfl, .inl rfl, fun g hg => by cases hg⟩
  · injection hcs with hcs
    have hmm' : m1 = cap := by simpa using hmm
    have key : ∀ i, i < len → ∃ x : Nat × Nat, W.cell? (a.add (i * 2)) = some (.int .u16 (x.1 : Nat)) ∧ W.cell? (a.add (i * 2 + 1)) = some (.int .u16 (x.2 : Nat)) ∧ x.1 < 65536 ∧ x.2 < 65536 := by
      intro i hin
      obtain ⟨cs', hc, ht'⟩ := hi i (by omega)
      rw [hC] at hc
      obtain ⟨_, hcl, hat⟩ := World.cells?_some hc
      obtain ⟨n2, _, hf⟩ := part_of hs ht'
      obtain ⟨o0, k0⟩ := hone_of hone 0 f0 rfl
      obtain ⟨o1, k1⟩ := hone_of hone 1 f1 rfl
      obtain ⟨y0, t0⟩ := hf 0 f0 rfl
      obtain ⟨y1, t1⟩ := hf 1 f1 rfl
      rw [o0, k0] at t0
      rw [o1, k1] at t1
      obtain ⟨c0, c1, rfl⟩ : ∃ c0 c1, cs' = [c0, c1] := by
        rcases cs' with _ | ⟨c0, _ | ⟨c1, _ | ⟨c2, l⟩⟩⟩
        · simp at hcl
        · simp at hcl
        · exact ⟨c0, c1, rfl⟩
        · simp at hcl
      obtain ⟨x0, rfl, w0⟩ := field_int h0 t0
      obtain ⟨x1, rfl, w1⟩ := field_int h1 t1
      obtain ⟨p, rfl, hp⟩ := nat_of_u16 w0
      obtain ⟨q, rfl, hq⟩ := nat_of_u16 w1
      have e0 := hat 0 (by omega)
      have e1 := hat 1 (by omega)
      rw [add_add] at e0 e1
      exact ⟨(p, q), e0, e1, hp, hq⟩
    refine ⟨some a, len, cap, (List.range len).map fun i => if h : i < len then Classical.choose (key i h) else (0, 0), hcs, hl, hm, by simp, ?_, fun g hg => ?_⟩
    · by_cases hn0 : len = 0
      · subst hn0; exact .inl (by simp)
      · obtain ⟨b, off, spot⟩ := a
        obtain ⟨_, h00, _⟩ := key 0 (by omega)
        have hspot : spot = none := by simpa [Addr.add] using World.cell?_spot h00
        subst hspot
        have hblt := World.block_lt_of_cell? W _ h00
        refine .inr ⟨b, off, rfl, Nat.zero_le _, by simpa [Addr.add] using hblt, fun i l hl' => ?_⟩
        rw [List.getElem?_map, Option.map_eq_some_iff] at hl'
        obtain ⟨i', hi', rfl⟩ := hl'
        have hin : i < len := by
          rcases Nat.lt_or_ge i len with hlt | hge
          · exact hlt
          · rw [List.getElem?_eq_none (by simpa using hge)] at hi'; cases hi'
        rw [List.getElem?_range hin] at hi'
        injection hi' with hi'
        subst hi'
        rw [dif_pos hin]
        generalize hz : Classical.choose (key i hin) = z
        have hk := Classical.choose_spec (key i hin)
        rw [hz] at hk
        obtain ⟨g0, g1, _⟩ := hk
        rw [Addr.add_lit] at g0 g1
        rw [← Nat.add_assoc] at g1
        exact ⟨g0, g1⟩
    · rw [List.mem_map] at hg
      obtain ⟨i, hi', rfl⟩ := hg
      have hin : i < len := List.mem_range.1 hi'
      rw [dif_pos hin]
      exact (Classical.choose_spec (key i hin)).2.2

theorem field_u32s {t e : TypeId} {m : Nat} {v : Value} {y : DataW H × List MemPlace} (ht : P.underlying t = some (.slice e)) (he : P.underlying e = some (.int .u32)) (hc : P.cellsOf e = 1)
    (h : DataW.trod enc P W 0 (fun _ => true) true m t [v] = some y) :
    ∃ (A : Option Addr) (n c : Nat) (l : List Nat), v = .slice A n c ∧ n ≤ c ∧ c ≤ maxLen ∧ l.length = n ∧ Ri .u32 W W.heap.size A (ints l) ∧ ∀ x ∈ l, x < 4294967296 := by
  have hv : ∃ (A : Option Addr) (n c : Nat), v = .slice A n c := by
    rcases open_ints ht he hc h with ⟨hcs, _⟩ | ⟨x, l, c', zs, hcs, _⟩
    · injection hcs with hcs; exact ⟨_, _, _, hcs⟩
    · injection hcs with hcs; exact ⟨_, _, _, hcs⟩
  obtain ⟨A, n, c, rfl⟩ := hv
  obtain ⟨xs, h1, h2, h3, h4, h5⟩ := arg_ints (d := y.1) (p := y.2) ht he hc ⟨m, by simpa [Value.cells] using h⟩
  have hb : ∀ x ∈ xs, 0 ≤ x ∧ x ≤ 4294967295 := fun x hx => by simpa [Lit.wf, IntKind.min, IntKind.max, IntKind.signed, IntKind.bits] using h5 x hx
  have hi : ints (xs.map Int.toNat) = xs := by
    unfold ints
    rw [List.map_map]
    conv => rhs; rw [← List.map_id xs]
    refine List.map_congr_left fun x hx => ?_
    have := hb x hx
    simp only [Function.comp, id]
    omega
  refine ⟨A, n, c, xs.map Int.toNat, rfl, h1, h2, by simpa using h3, by rw [hi]; exact h4, fun x hx => ?_⟩
  obtain ⟨z, hz, rfl⟩ := List.mem_map.1 hx
  have := hb z hz
  omega
end
end Go.Proofs.Ytalgkokgaibloaa
