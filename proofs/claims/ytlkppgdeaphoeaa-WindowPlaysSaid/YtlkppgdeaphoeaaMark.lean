/-
  '[]byte("..")' of a constant, in any world: the row is marked; its cells, and all others, read as before. Rows that a region lays in an order of its own.
-/
import Derived.Test.YtlkppgdeaphoeaaMem
namespace Go.Proofs.Ytlkppgdeaphoeaa
open Go.RowKit
set_option linter.unusedVariables false

/-- The world with block g's mark laid. A definition of its own, so that the walk leaves it. -/
def marked (w : World) (g : Nat) : World := match w.shape? g with
  | some (_, k) => w.freeze ⟨g, k, none⟩ 1
  | none => w

theorem run_mark {P : Program} {t e : TypeId} (ht : P.underlying t = some (.slice e)) (he : P.underlying e = some (.int .u8)) (w : World) (g n c : Nat) :
    (convert t t (.slice (some ⟨g, 0, none⟩) n c)).run P w = .ok (.slice (some ⟨g, 0, none⟩) n c) (marked w g) := by
  unfold marked
  cases h : w.shape? g with
  | none => simp [convert, run_underlying ht, run_underlying he, markStringish, h]
  | some x => simp [convert, run_underlying ht, run_underlying he, markStringish, h]

theorem heap_freeze (w : World) (g k i : Nat) : (w.freeze ⟨g, k, none⟩ 1).heap.size = w.heap.size ∧ (i ≠ g → (w.freeze ⟨g, k, none⟩ 1).heap[i]? = w.heap[i]?) ∧ ∀ j, (w.freeze ⟨g, k, none⟩ 1).cell? ⟨i, j, none⟩ = w.cell? ⟨i, j, none⟩ := by
  unfold World.freeze
  rw [if_neg (by decide)]
  refine ⟨by simp, fun h => by simp [Array.getElem?_modify, Ne.symm h], fun j => ?_⟩
  simp only [World.cell?, Array.getElem?_modify]
  by_cases h : g = i
  · subst h
    simp
    cases w.heap[g]? with
    | none => rfl
    | some o => cases o <;> rfl
  · simp [h]
theorem size_marked (w : World) (g : Nat) : (marked w g).heap.size = w.heap.size := by
  unfold marked
  split
  · exact (heap_freeze w g _ 0).1
  · rfl
theorem cell_marked (w : World) (g i j : Nat) : (marked w g).cell? ⟨i, j, none⟩ = w.cell? ⟨i, j, none⟩ := by
  unfold marked
  split
  · exact (heap_freeze w g _ i).2.2 j
  · rfl
theorem below_marked {B : Nat} {a w : World} (h : Below B a w) (g : Nat) (hg : B ≤ g) : Below B a (marked w g) := by
  unfold marked
  split
  · refine h.trans ⟨?_, ?_, ?_, Nat.le_of_eq (heap_freeze w g _ 0).1.symm, fun k hk => (heap_freeze w g _ k).2.1 (by omega)⟩
    all_goals (unfold World.freeze; rw [if_neg (by decide)])
  · exact h

/-- Block g begins with these bytes. -/
def Has (w : World) (g : Nat) (ys : List UInt8) : Prop := ∀ j x, ys[j]? = some x → w.cell? ⟨g, j, none⟩ = some (.int .u8 (x.toNat : Int))
section
variable {w : World} {g : Nat} {ys : List UInt8}
theorem Has.mk_ (w : World) (t : TypeId) (cs : Array Value) (ys : List UInt8) (fr : Nat × Nat) (g : Nat) (hg : g = w.heap.size) (hc : cs = row8 ys) : Has (w.alloc (.cells cs t fr)) g ys := by
  subst hg hc
  intro j x hx
  rw [World.cell?_alloc_mark, get_row8, hx]
  rfl
theorem Has.alloc (h : Has w g ys) (o : Obj) : Has (w.alloc o) g ys := by
  intro j x hx
  have := h j x hx
  rw [World.cell?_alloc_lt w o _ (World.block_lt_of_cell? w _ this)]
  exact this
theorem Has.drew (h : Has w g ys) : Has w.drew g ys := h
theorem Has.marked (h : Has w g ys) (i : Nat) : Has (marked w i) g ys := fun j x hx => (cell_marked w i g j).trans (h j x hx)
theorem Has.rd (h : Has w g ys) : Rd w (g + 1) (some ⟨g, 0, none⟩) ys := .inr ⟨g, 0, rfl, Nat.lt_succ_self _, fun j x hx => by rw [Nat.zero_add]; exact h j x hx⟩
end
end Go.Proofs.Ytlkppgdeaphoeaa
