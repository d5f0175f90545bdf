/-
  Over any program: a slice of 32-bit numbers of the call's own (nil, or at the head of a row), and append of one onto it.
-/
import Derived.Test.YtalgkokgaibloaaSpM
import Derived.Laws.AppendOwn
import Derived.Laws.OwnMore
import Derived.OwnWalk
namespace Go.Proofs.Ytalgkokgaibloaa
open Go.RowKit
set_option linter.unusedVariables false

/-- A slice of numbers of the call's own. -/
def Ow (w : World) (t : TypeId) (base : Nat) (v : Value) (zs : List Int) : Prop := w.ownsRow base t 1 v zs.length (zs.map (Value.int .u32))
section
variable {w w' : World} {t : TypeId} {base : Nat} {v : Value} {zs : List Int} {S : List Nat}
theorem Ow.nil (w : World) (t : TypeId) (base : Nat) : Ow w t base (.slice none 0 0) [] := World.ownsRow_nil _ _ _ _
theorem Ow.form (h : Ow w t base v zs) : ∃ A c, v = .slice A zs.length c ∧ zs.length ≤ c ∧ c ≤ maxLen := by
  rcases h.2 with ⟨rfl, hn⟩ | ⟨g, cap, cur, rfl, hb, hg, hnc, hcm, hcs, htake⟩
  · exact ⟨none, 0, by rw [hn], by omega, Nat.zero_le _⟩
  · exact ⟨_, _, rfl, hnc, hcm⟩
/-- What its numbers are. -/
theorem Ow.cell {A : Option Addr} {m c : Nat} (h : Ow w t base (.slice A m c) zs) (k : Nat) (hk : k < zs.length) : ∃ g, A = some ⟨g, 0, none⟩ ∧ base ≤ g ∧ g < w.heap.size ∧ w.cell? ⟨g, k, none⟩ = some (.int .u32 zs[k]) := by
  have hz : zs[k]? = some zs[k] := List.getElem?_eq_getElem hk
  rcases h.2 with ⟨_, hn⟩ | ⟨g, cap, cur, hv, hb, hg, hnc, hcm, hcs, htake⟩
  · omega
  · injection hv with e1 e2 e3
    subst e1
    have hlt : g < w.heap.size := (Array.getElem?_eq_some_iff.1 hg).1
    have := h.cells (g := g) rfl k (.int .u32 zs[k]) (by simp [hz])
    rw [Addr.add_lit, Nat.zero_add] at this
    exact ⟨g, rfl, hb, hlt, this⟩
theorem Ow.keep (h : Ow w t base v zs) (hk : ∀ g, v.ownBlock = some g → w'.heap[g]? = w.heap[g]?) : Ow w' t base v zs := by
  refine ⟨h.1, ?_⟩
  rcases h.2 with hn | ⟨g, cap, cur, rfl, hb, hg, rest⟩
  · exact .inl hn
  · exact .inr ⟨g, cap, cur, rfl, hb, (hk g rfl).trans hg, rest⟩
theorem Ow.tw (h : Ow w t base v zs) (ht : Tw S w w') (hS : ∀ g, v.ownBlock = some g → g ∉ S) : Ow w' t base v zs := h.keep fun g hg => ht.block g (World.ownsRow.lt h g hg).2 (hS g hg)
theorem Ow.alloc (h : Ow w t base v zs) (o : Obj) : Ow (w.alloc o) t base v zs := World.ownsRow.alloc h o
theorem Ow.block {g : Nat} (h : Ow w t base v zs) (hg : v.ownBlock = some g) : ∃ cur, Blk w g t cur := by
  rcases h.2 with ⟨rfl, _⟩ | ⟨g', cap, cur, rfl, hb, hgg, _⟩
  · simp [Value.ownBlock] at hg
  · simp [Value.ownBlock] at hg
    subst hg
    exact ⟨cur, hgg⟩
end
theorem cell_one_new (W : World) (a : Value) (t : TypeId) : ∀ (j : Nat) u, [a][j]? = some u → (W.alloc (.cells #[a] t)).cell? ((⟨W.heap.size, 0, none⟩ : Addr).add j) = some u := by
  intro j u hu
  rw [Addr.add_lit, Nat.zero_add, (Blk.new W t #[a]).cell j]
  simpa using hu
end Go.Proofs.Ytalgkokgaibloaa
