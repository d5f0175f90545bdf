/-
  What the frames of the statements share: an argument that is a slice of slices of bytes; a slice of bools.
-/
import Derived.Test.YtakbppgcfhdkeaaDoorFrameL
import Derived.Deep.Slices
import Derived.Deep.Fields
import Derived.Test.YtakbppgcfhdkeaaDoorShaMat
namespace Go.Proofs.YtakbppgcfhdkeaaDoor
open Go.ChangeShapes Go.WideShapes Go.ChangeAt Go.RowKit Go.Deep
set_option linter.unusedVariables false

theorem arg_mat {H : Type} {enc : TypeId × Value → H} {P : Program} {W : World} {t e b8 : TypeId} {A : Option Addr} {n c : Nat} {d : DataW H} {p : List MemPlace}
    (ht : P.underlying t = some (.slice e)) (he : P.underlying e = some (.slice b8)) (h8 : P.underlying b8 = some (.int .u8)) (hC : P.cellsOf e = 1) (hC8 : P.cellsOf b8 = 1) (h : DataW.Trod enc P W 0 (fun _ => true) true t (.slice A n c) d p) :
    ∃ ls : List (List UInt8), n ≤ c ∧ c ≤ maxLen ∧ ls.length = n ∧ Mat W W.heap.size A ls := by
  obtain ⟨fuel, hf⟩ := h
  rcases open_slice ht hf with ⟨hcs, _⟩ | ⟨a, len, cap, m, n', D, Pl, hcs, hb, hl, hm, hmm, hx, hi⟩
  · simp [Value.cells] at hcs
    obtain ⟨rfl, rfl, rfl⟩ := hcs
    exact ⟨[], Nat.le_refl _, Nat.zero_le _, rfl, .inl rfl⟩
  · simp [Value.cells] at hcs
    obtain ⟨rfl, rfl, rfl⟩ := hcs
    have hmm' : m = c := by simpa using hmm
    have key : ∀ i, i < n → ∃ l : List UInt8, ∃ A' n1 c1, W.cell? (a.add i) = some (.slice A' n1 c1) ∧ n1 ≤ c1 ∧ c1 ≤ maxLen ∧ l.length = n1 ∧ Rd W W.heap.size A' l := by
      intro i hin
      obtain ⟨cs', hc, ht'⟩ := hi i (by omega)
      rw [hC] at hc
      obtain ⟨_, hcl, hat⟩ := World.cells?_some hc
      have h0 := hat 0 (by omega)
      rw [Nat.mul_one, show (a.add i).add 0 = a.add i from by unfold Addr.add; split <;> simp_all] at h0
      match cs', hcl with
      | [v], _ =>
        obtain ⟨A', n1, c1, xs, rfl, h1, h2, h3, h4⟩ := field_bytes he h8 hC8 ht'
        exact ⟨xs, A', n1, c1, by simpa using h0, h1, h2, h3, h4⟩
    refine ⟨(List.range n).map fun i => if h : i < n then Classical.choose (key i h) else [], hl, hm, by simp, ?_⟩
    by_cases hn0 : n = 0
    · subst hn0; exact .inl (by simp)
    · obtain ⟨b, off, spot⟩ := a
      obtain ⟨_, _, _, _, h00, _⟩ := key 0 (by omega)
      have hspot : spot = none := by simpa [Addr.add] using World.cell?_spot h00
      subst hspot
      have hblt := World.block_lt_of_cell? W _ h00
      refine .inr ⟨b, off, rfl, by simpa [Addr.add] using hblt, fun i l hl' => ?_⟩
      rw [List.getElem?_map, Option.map_eq_some_iff] at hl'
      obtain ⟨i', hi', rfl⟩ := hl'
      have hin : i < n := by
        rcases Nat.lt_or_ge i n with hlt | hge
        · exact hlt
        · rw [List.getElem?_eq_none (by simpa using hge)] at hi'; cases hi'
      rw [List.getElem?_range hin] at hi'
      injection hi' with hi'
      subst hi'
      rw [dif_pos hin]
      obtain ⟨A', n1, c1, h1, h2, h3, h4, h5⟩ := Classical.choose_spec (key i hin)
      have e : (⟨b, off, none⟩ : Addr).add i = ⟨b, off + i, none⟩ := Addr.add_lit b off i
      exact ⟨A', n1, c1, by rw [← e]; exact h1, h2, h3, h4, h5⟩

theorem arg_bools {H : Type} {enc : TypeId × Value → H} {P : Program} {W : World} {t e : TypeId} {A : Option Addr} {n c : Nat} {d : DataW H} {p : List MemPlace}
    (ht : P.underlying t = some (.slice e)) (he : P.underlying e = some .bool) (hC : P.cellsOf e = 1) (h : DataW.Trod enc P W 0 (fun _ => true) true t (.slice A n c) d p) :
    ∃ bs : List Bool, n ≤ c ∧ c ≤ maxLen ∧ bs.length = n ∧ Bools W W.heap.size A bs := by
  obtain ⟨fuel, hf⟩ := h
  rcases open_slice ht hf with ⟨hcs, _⟩ | ⟨a, len, cap, m, n', D, Pl, hcs, hb, hl, hm, hmm, hx, hi⟩
  · simp [Value.cells] at hcs
    obtain ⟨rfl, rfl, rfl⟩ := hcs
    exact ⟨[], Nat.le_refl _, Nat.zero_le _, rfl, .inl rfl⟩
  · simp [Value.cells] at hcs
    obtain ⟨rfl, rfl, rfl⟩ := hcs
    have hmm' : m = c := by simpa using hmm
    have key : ∀ i, i < n → ∃ x : Bool, W.cell? (a.add i) = some (.bool x) := by
      intro i hin
      obtain ⟨cs', hc, ht'⟩ := hi i (by omega)
      rw [hC] at hc
      obtain ⟨_, hcl, hat⟩ := World.cells?_some hc
      have h0 := hat 0 (by omega)
      rw [Nat.mul_one, show (a.add i).add 0 = a.add i from by unfold Addr.add; split <;> simp_all] at h0
      match cs', hcl with
      | [v], _ =>
        obtain ⟨x, hx, _⟩ := DataW.trod_bool he ht'
        injection hx with hx
        exact ⟨x, by rw [h0, ← hx]; rfl⟩
    refine ⟨(List.range n).map fun i => if h : i < n then Classical.choose (key i h) else false, hl, hm, by simp, ?_⟩
    by_cases hn0 : n = 0
    · subst hn0; exact .inl (by simp)
    · obtain ⟨b, off, spot⟩ := a
      obtain ⟨_, h00⟩ := key 0 (by omega)
      have hspot : spot = none := by simpa [Addr.add] using World.cell?_spot h00
      subst hspot
      have hblt := World.block_lt_of_cell? W _ h00
      refine .inr ⟨b, off, rfl, by simpa [Addr.add] using hblt, fun i l hl' => ?_⟩
      rw [List.getElem?_map, Option.map_eq_some_iff] at hl'
      obtain ⟨i', hi', rfl⟩ := hl'
      have hin : i < n := by
        rcases Nat.lt_or_ge i n with hlt | hge
        · exact hlt
        · rw [List.getElem?_eq_none (by simpa using hge)] at hi'; cases hi'
      rw [List.getElem?_range hin] at hi'
      injection hi' with hi'
      subst hi'
      rw [dif_pos hin]
      have h1 := Classical.choose_spec (key i hin)
      have e : (⟨b, off, none⟩ : Addr).add i = ⟨b, off + i, none⟩ := Addr.add_lit b off i
      rw [← e]
      exact h1
end Go.Proofs.YtakbppgcfhdkeaaDoor
