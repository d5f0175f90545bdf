/-
  What the frames of the statements share: an argument that is a slice of structs each of whose fields is one cell (numbers, texts, bools).
-/
import Derived.Test.YtlkppgdeaphoeaaFrameI
import Derived.Deep.Slices
import Derived.Deep.Fields
namespace Go.Proofs.Ytlkppgdeaphoeaa
open Go.ChangeShapes Go.WideShapes Go.ChangeAt Go.RowKit Go.Deep
set_option linter.unusedVariables false

/-- What a cell of that type holds. -/
structure FieldIs (P : Program) (ty : TypeId) (v : Value) : Prop where
  int : ∀ q, P.underlying ty = some (.int q) → ∃ x : Int, v = .int q x ∧ (Lit.int q x).wf = true
  str : P.underlying ty = some .string → ∃ s : ByteArray, v = .string s ∧ s.size ≤ maxLen
  bool : P.underlying ty = some .bool → ∃ b : Bool, v = .bool b

/-- Rows of cells, one behind the other, below block B. -/
def Rows_ (w : World) (B : Nat) (A : Option Addr) (sz : Nat) (rows : List (List Value)) : Prop :=
  rows = [] ∨ ∃ b o, A = some ⟨b, o, none⟩ ∧ b < B ∧ ∀ (i : Nat) row, rows[i]? = some row → ∀ j, j < sz → w.cell? ⟨b, o + i * sz + j, none⟩ = row[j]?

theorem field_any {H : Type} {enc : TypeId × Value → H} {P : Program} {W : World} {fs : Array Field} {e : TypeId} {cs' : List Value} {y : DataW H × List MemPlace} {m : Nat} {a : Addr}
    (hs : P.underlying e = some (.struct fs)) (hone : oneCellFields P fs = true) (hcl : cs'.length = fs.size) (hat : ∀ i, i < fs.size → W.cell? (a.add i) = cs'[i]?) (h : DataW.trod enc P W 0 (fun _ => true) true m e cs' = some y)
    (j : Nat) (f : Field) (hj : fs[j]? = some f) : ∃ v, W.cell? (a.add j) = some v ∧ FieldIs P f.type v := by
  obtain ⟨ys, n', _, _, _, hyl, hf⟩ := DataW.trod_struct hs h
  obtain ⟨ho, hk⟩ := hone_of hone j f hj
  have hjl : j < fs.size := (Array.getElem?_eq_some_iff.1 hj).1
  have h1 := hf j f hj
  rw [ho, hk] at h1
  have hone' : (cs'.drop j).take 1 = [cs'[j]'(by omega)] := by
    rw [List.drop_eq_getElem_cons (by omega)]
    rfl
  have hys : ys[j]? = some (ys[j]'(by omega)) := List.getElem?_eq_getElem (by omega)
  rw [hone', hys] at h1
  refine ⟨cs'[j]'(by omega), by rw [hat j hjl, List.getElem?_eq_getElem (by omega)], ⟨fun q hq => ?_, fun hq => ?_, fun hq => ?_⟩⟩
  · obtain ⟨x, hx, _, hw⟩ := DataW.trod_int hq h1
    injection hx with hx
    exact ⟨x, hx, hw⟩
  · obtain ⟨s, hx, _, hw⟩ := DataW.trod_string hq h1
    injection hx with hx
    exact ⟨s, hx, hw⟩
  · obtain ⟨b, hx, _⟩ := DataW.trod_bool hq h1
    injection hx with hx
    exact ⟨b, hx⟩

theorem arg_rows {H : Type} {enc : TypeId × Value → H} {P : Program} {W : World} {t e : TypeId} {fs : Array Field} {A : Option Addr} {n c : Nat} {d : DataW H} {p : List MemPlace}
    (ht : P.underlying t = some (.slice e)) (hs : P.underlying e = some (.struct fs)) (hone : oneCellFields P fs = true) (hC : P.cellsOf e = fs.size) (h0 : 0 < fs.size) (h : DataW.Trod enc P W 0 (fun _ => true) true t (.slice A n c) d p) :
    ∃ rows : List (List Value), n ≤ c ∧ c ≤ maxLen ∧ rows.length = n ∧ Rows_ W W.heap.size A fs.size rows ∧ ∀ row ∈ rows, ∀ (j : Nat) (f : Field), fs[j]? = some f → ∃ v, row[j]? = some v ∧ FieldIs P f.type v := by
  obtain ⟨fuel, hf⟩ := h
  rcases open_slice ht hf with ⟨hcs, _⟩ | ⟨a, len, cap, m, n', D, Pl, hcs, hb, hl, hm, hmm, hx, hi⟩
  · simp [Value.cells] at hcs
    obtain ⟨rfl, rfl, rfl⟩ := hcs
    exact ⟨[], Nat.le_refl _, Nat.zero_le _, rfl, .inl rfl, fun s hs => by cases hs⟩
  · simp [Value.cells] at hcs
    obtain ⟨rfl, rfl, rfl⟩ := hcs
    have hmm' : m = c := by simpa using hmm
    have key : ∀ i, i < n → ∀ (j : Nat) (f : Field), fs[j]? = some f → ∃ v, W.cell? (a.add (i * fs.size + j)) = some v ∧ FieldIs P f.type v := by
      intro i hin j f hj
      obtain ⟨cs', hc, ht'⟩ := hi i (by omega)
      rw [hC] at hc
      obtain ⟨_, hcl, hat⟩ := World.cells?_some hc
      obtain ⟨v, hv, hw⟩ := field_any hs hone (by rw [hcl]) (fun i' hi' => hat i' hi') ht' j f hj
      exact ⟨v, by rw [← add_add]; exact hv, hw⟩
    refine ⟨(List.range n).map fun i => (List.range fs.size).map fun j => (W.cell? (a.add (i * fs.size + j))).getD undef, hl, hm, by simp, ?_, fun row hrow j f hj => ?_⟩
    · by_cases hn0 : n = 0
      · subst hn0; exact .inl (by simp)
      · obtain ⟨b, off, spot⟩ := a
        obtain ⟨x00, h00, _⟩ := key 0 (by omega) 0 fs[0] (Array.getElem?_eq_getElem h0)
        have hspot : spot = none := by simpa [Addr.add] using World.cell?_spot h00
        subst hspot
        have hblt := World.block_lt_of_cell? W _ h00
        refine .inr ⟨b, off, rfl, by simpa [Addr.add] using hblt, fun i row hrow j hj => ?_⟩
        rw [List.getElem?_map, Option.map_eq_some_iff] at hrow
        obtain ⟨i', hi', rfl⟩ := hrow
        have hin : i < n := by
          rcases Nat.lt_or_ge i n with hlt | hge
          · exact hlt
          · rw [List.getElem?_eq_none (by simpa using hge)] at hi'; cases hi'
        rw [List.getElem?_range hin] at hi'
        injection hi' with hi'
        subst hi'
        obtain ⟨v, e, _⟩ := key i hin j fs[j] (Array.getElem?_eq_getElem hj)
        rw [List.getElem?_map, List.getElem?_range hj]
        simp only [Option.map_some, e, Option.getD_some]
        rw [Addr.add_lit] at e
        rw [Nat.add_assoc]
        exact e
    · obtain ⟨i, hi', rfl⟩ := List.mem_map.1 hrow
      have hin := List.mem_range.1 hi'
      obtain ⟨v, e, hw⟩ := key i hin j f hj
      have hjl : j < fs.size := (Array.getElem?_eq_some_iff.1 hj).1
      exact ⟨v, by rw [List.getElem?_map, List.getElem?_range hjl]; simp [e], hw⟩
end Go.Proofs.Ytlkppgdeaphoeaa
