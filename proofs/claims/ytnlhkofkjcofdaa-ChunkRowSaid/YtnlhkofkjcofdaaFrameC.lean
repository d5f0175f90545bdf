/-
  What the frames of the statements share: an argument that is a slice of chunks.
-/
import Derived.Test.YtnlhkofkjcofdaaFrame
import Derived.Test.YtnlhkofkjcofdaaChkR
import Derived.Test.YtnlhkofkjcofdaaNums
import Derived.Deep.Slices
import Derived.Deep.Fields
namespace Go.Proofs.Ytnlhkofkjcofdaa
open Go.ChangeShapes Go.WideShapes Go.ChangeAt Go.RowKit Go.Deep
set_option linter.unusedVariables false

theorem field_at {H : Type} {enc : TypeId × Value → H} {P : Program} {W : World} {fs : Array Field} {e : TypeId} {cs' : List Value} {y : DataW H × List MemPlace} {m : Nat} {a : Addr}
    (hs : P.underlying e = some (.struct fs)) (hone : oneCellFields P fs = true) (hcl : cs'.length = fs.size) (hat : ∀ i, i < fs.size → W.cell? (a.add i) = cs'[i]?) (h : DataW.trod enc P W 0 (fun _ => true) true m e cs' = some y)
    (j : Nat) (f : Field) (hj : fs[j]? = some f) : ∃ v m' y', W.cell? (a.add j) = some v ∧ DataW.trod enc P W 0 (fun _ => true) true m' f.type [v] = some y' := by
  obtain ⟨ys, n', _, _, _, hyl, hf⟩ := DataW.trod_struct hs h
  obtain ⟨ho, hk⟩ := hone_of hone j f hj
  have hjl : j < fs.size := (Array.getElem?_eq_some_iff.1 hj).1
  have h1 := hf j f hj
  rw [ho, hk] at h1
  have hone' : (cs'.drop j).take 1 = [cs'[j]'(by omega)] := by
    rw [List.drop_eq_getElem_cons (by omega)]
    rfl
  have hys : ys[j]? = some (ys[j]'(by omega)) := List.getElem?_eq_getElem (by omega)
  rw [hone', hys] at h1
  exact ⟨cs'[j]'(by omega), _, _, by rw [hat j hjl, List.getElem?_eq_getElem (by omega)], h1⟩

theorem arg_chunks {H : Type} {enc : TypeId × Value → H} {P : Program} {W : World} {t e b8 : TypeId} {f0 f1 f2 : Field} {A : Option Addr} {n c : Nat} {d : DataW H} {p : List MemPlace}
    (ht : P.underlying t = some (.slice e)) (hs : P.underlying e = some (.struct #[f0, f1, f2])) (hone : oneCellFields P #[f0, f1, f2] = true) (hC : P.cellsOf e = 3) (h0 : P.underlying f0.type = some (.int .u8)) (h1 : P.underlying f1.type = some (.int .u8)) (h2 : P.underlying f2.type = some (.slice b8)) (h8 : P.underlying b8 = some (.int .u8)) (hC8 : P.cellsOf b8 = 1)
    (h : DataW.Trod enc P W 0 (fun _ => true) true t (.slice A n c) d p) :
    ∃ cs : List Chk, n ≤ c ∧ c ≤ maxLen ∧ cs.length = n ∧ Chunks W W.heap.size A cs := by
  obtain ⟨fuel, hf⟩ := h
  rcases open_slice ht hf with ⟨hcs, _⟩ | ⟨a, len, cap, m, n', D, Pl, hcs, hb, hl, hm, hmm, hx, hi⟩
  · simp [Value.cells] at hcs
    obtain ⟨rfl, rfl, rfl⟩ := hcs
    exact ⟨[], Nat.le_refl _, Nat.zero_le _, rfl, .inl rfl⟩
  · simp [Value.cells] at hcs
    obtain ⟨rfl, rfl, rfl⟩ := hcs
    have hmm' : m = c := by simpa using hmm
    have key : ∀ i, i < n → ∃ x : Chk, W.cell? (a.add (i * 3)) = some (.int .u8 (x.1.toNat : Int)) ∧ W.cell? (a.add (i * 3 + 1)) = some (.int .u8 (x.2.1.toNat : Int)) ∧ ∃ A' n1 c1, W.cell? (a.add (i * 3 + 2)) = some (.slice A' n1 c1) ∧ n1 ≤ c1 ∧ c1 ≤ maxLen ∧ x.2.2.length = n1 ∧ Rd W W.heap.size A' x.2.2 := by
      intro i hin
      obtain ⟨cs', hc, ht'⟩ := hi i (by omega)
      rw [hC] at hc
      obtain ⟨_, hcl, hat⟩ := World.cells?_some hc
      have fa := fun j f hj => field_at (j := j) (f := f) hs hone (by rw [hcl]; rfl) (fun i' hi' => hat i' hi') ht' hj
      obtain ⟨v0, m0, y0, e0, t0⟩ := fa 0 f0 rfl
      obtain ⟨v1, m1, y1, e1, t1⟩ := fa 1 f1 rfl
      obtain ⟨v2, m2, y2, e2, t2⟩ := fa 2 f2 rfl
      obtain ⟨x0, rfl, w0⟩ := field_int h0 t0
      obtain ⟨x1, rfl, w1⟩ := field_int h1 t1
      obtain ⟨A', n1, c1, xs, rfl, g1, g2, g3, g4⟩ := field_bytes h2 h8 hC8 t2
      obtain ⟨k, rfl⟩ := byte_of w0
      obtain ⟨f, rfl⟩ := byte_of w1
      rw [add_add] at e0 e1 e2
      exact ⟨(k, f, xs), e0, e1, A', n1, c1, e2, g1, g2, g3, g4⟩
    refine ⟨(List.range n).map fun i => if h : i < n then Classical.choose (key i h) else (0, 0, []), hl, hm, by simp, ?_⟩
    by_cases hn0 : n = 0
    · subst hn0; exact .inl (by simp)
    · obtain ⟨b, off, spot⟩ := a
      obtain ⟨_, h00, _⟩ := key 0 (by omega)
      have hspot : spot = none := by simpa [Addr.add] using World.cell?_spot h00
      subst hspot
      have hblt := World.block_lt_of_cell? W _ h00
      refine .inr ⟨b, off, rfl, by simpa [Addr.add] using hblt, fun i l hl' => ?_⟩
      rw [List.getElem?_map, Option.map_eq_some_iff] at hl'
      obtain ⟨i', hi', rfl⟩ := hl'
      have hin : i < n := by
        rcases Nat.lt_or_ge i n with hlt | hge
        · exact hlt
        · rw [List.getElem?_eq_none (by simpa using hge)] at hi'; cases hi'
      rw [List.getElem?_range hin] at hi'
      injection hi' with hi'
      subst hi'
      rw [dif_pos hin]
      generalize hz : Classical.choose (key i hin) = z
      have hk := Classical.choose_spec (key i hin)
      rw [hz] at hk
      obtain ⟨g0, g1, A', n1, c1, g2, g3⟩ := hk
      rw [Addr.add_lit] at g0 g1 g2
      rw [← Nat.add_assoc] at g1 g2
      exact ⟨g0, g1, A', n1, c1, g2, g3⟩
end Go.Proofs.Ytnlhkofkjcofdaa
