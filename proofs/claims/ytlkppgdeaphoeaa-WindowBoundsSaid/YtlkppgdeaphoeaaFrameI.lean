/-
  What the frames of the statements share: an argument's numbers.
-/
import Derived.Test.YtlkppgdeaphoeaaFrame
import Derived.Test.YtlkppgdeaphoeaaSpM
namespace Go.Proofs.Ytlkppgdeaphoeaa
open Go.ChangeShapes Go.WideShapes Go.ChangeAt Go.RowKit
set_option linter.unusedVariables false

/-- A slice of numbers that came in: its numbers, and how it reads. -/
theorem arg_ints {H : Type} {enc : TypeId × Value → H} {P : Program} {W : World} {t e : TypeId} {q : IntKind} {A : Option Addr} {n c : Nat} {d : DataW H} {p : List MemPlace}
    (ht : P.underlying t = some (.slice e)) (he : P.underlying e = some (.int q)) (hc : P.cellsOf e = 1) (h : DataW.Trod enc P W 0 (fun _ => true) true t (.slice A n c) d p) :
    ∃ xs : List Int, n ≤ c ∧ c ≤ maxLen ∧ xs.length = n ∧ Ri q W W.heap.size A xs ∧ ∀ x ∈ xs, (Lit.int q x).wf = true := by
  obtain ⟨fuel, hf⟩ := h
  rcases open_ints ht he hc hf with ⟨hcs, _⟩ | ⟨x, l, c', zs, hcs, _, hl, hm, hz, _, hcell, hwz⟩
  · simp [Value.cells] at hcs
    obtain ⟨rfl, rfl, rfl⟩ := hcs
    exact ⟨[], Nat.le_refl _, Nat.zero_le _, rfl, .inl rfl, fun x hx => by cases hx⟩
  · simp [Value.cells] at hcs
    obtain ⟨rfl, rfl, rfl⟩ := hcs
    have hz : zs.length = c := by simpa using hz
    refine ⟨zs.take n, hl, hm, by rw [List.length_take]; omega, ?_, fun x hx => hwz x (List.mem_of_mem_take hx)⟩
    by_cases h0 : n = 0
    · subst h0; exact .inl (by simp)
    · obtain ⟨b, off, spot⟩ := x
      have h00 := hcell 0 (by omega)
      have hspot : spot = none := by simpa [Addr.add] using World.cell?_spot h00
      subst hspot
      have hb := World.block_lt_of_cell? W _ h00
      refine .inr ⟨b, off, rfl, by simpa [Addr.add] using hb, fun j x hx => ?_⟩
      rw [List.getElem?_take] at hx
      split at hx
      · have hjl : j < zs.length := by omega
        have hcj := hcell j hjl
        rw [Addr.add_lit] at hcj
        rw [hcj]
        have hzj : zs.getD j 0 = x := by simp [List.getD, hx]
        rw [hzj]
      · cases hx
end Go.Proofs.Ytlkppgdeaphoeaa
