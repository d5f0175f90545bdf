/-
  Apart at any number of rows of the call's own.
-/
import Derived.Test.YtalgkokgaibloaaRows3
namespace Go.Proofs.Ytalgkokgaibloaa
open Go.RowKit
set_option linter.unusedVariables false

/-- A slice of bytes: its address, length, capacity, bytes. -/
structure Ent where
  A : Option Addr
  n : Nat
  c : Nat
  xs : List UInt8
def Ent.val (x : Ent) : Value := .slice x.A x.n x.c
def Ent.none : Ent := ⟨.none, 0, 0, []⟩

theorem rowsL {w : World} {t : Nat} (e : TypeId) (es : List Ent) (ho : ∀ x ∈ es, ∃ b, Own8 w t b x.A x.n x.c x.xs) (hf : es.Pairwise fun x y => Far x.A y.A) :
    Rows8 (w.alloc (.cells (es.map Ent.val).toArray e)) t 0 w.heap.size 0 es.length (fun k => (es.getD k Ent.none).A) (fun k => (es.getD k Ent.none).n) (fun k => (es.getD k Ent.none).c) (fun k => (es.getD k Ent.none).xs) := by
  have hat : ∀ k, (hk : k < es.length) → es.getD k Ent.none = es[k] := fun k hk => by simp [List.getD, hk]
  refine ⟨fun k hk => ?_, fun k hk => ?_, fun j k hj hk hne => ?_, fun k hk => ?_, by simp⟩
  · rw [World.cell?_alloc_at _ _ _ _ rfl, Nat.zero_add, hat k hk]
    simp [hk, Ent.val]
  · rw [hat k hk]
    obtain ⟨b, h⟩ := ho _ (List.getElem_mem hk)
    exact (h.more (Nat.zero_le _)).alloc _
  · rw [hat j hj, hat k hk]
    rcases Nat.lt_or_ge j k with h | h
    · exact List.pairwise_iff_getElem.1 hf j k hj hk h
    · exact (List.pairwise_iff_getElem.1 hf k j hk hj (by omega)).symm
  · rw [hat k hk]
    intro he
    obtain ⟨b, h⟩ := ho _ (List.getElem_mem hk)
    have := (h.lt _ he).2
    omega

theorem apartL {w : World} (es : List Ent) (hl : es.length ≤ 1048576) (ho : ∀ x ∈ es, ∃ b, Own8 w 5 b x.A x.n x.c x.xs) (hf : es.Pairwise fun x y => Far x.A y.A) (cap : Nat) :
    Calls Try.prog 22 #[.slice (some ⟨w.heap.size, 0, none⟩) es.length cap] (w.alloc (.cells (es.map Ent.val).toArray 24)) fun e w' => e = .returned (.bool true) ∧ Below w.heap.size w w' :=
  (apart_any w.heap.size 0 es.length cap 0 _ _ _ _ _ hl (rowsL 24 es ho hf)).mono fun e w' ⟨he, hb⟩ => ⟨he, (below_new w _).trans (hb.mono (by simp))⟩

theorem apart4 {w : World} {b1 b2 b3 b4 : Nat} {A1 A2 A3 A4 : Option Addr} {n1 n2 n3 n4 c1 c2 c3 c4 : Nat} {x1 x2 x3 x4 : List UInt8} (h1 : Own8 w 5 b1 A1 n1 c1 x1) (h2 : Own8 w 5 b2 A2 n2 c2 x2) (h3 : Own8 w 5 b3 A3 n3 c3 x3) (h4 : Own8 w 5 b4 A4 n4 c4 x4)
    (f12 : Far A1 A2) (f13 : Far A1 A3) (f14 : Far A1 A4) (f23 : Far A2 A3) (f24 : Far A2 A4) (f34 : Far A3 A4) (cap : Nat) :
    Calls Try.prog 22 #[.slice (some ⟨w.heap.size, 0, none⟩) 4 cap] (w.alloc (.cells #[.slice A1 n1 c1, .slice A2 n2 c2, .slice A3 n3 c3, .slice A4 n4 c4] 24)) fun e w' => e = .returned (.bool true) ∧ Below w.heap.size w w' := by
  refine apartL [⟨A1, n1, c1, x1⟩, ⟨A2, n2, c2, x2⟩, ⟨A3, n3, c3, x3⟩, ⟨A4, n4, c4, x4⟩] (by simp) (fun x hx => ?_) ?_ cap
  · simp only [List.mem_cons, List.not_mem_nil, or_false] at hx
    rcases hx with rfl | rfl | rfl | rfl
    · exact ⟨_, h1⟩
    · exact ⟨_, h2⟩
    · exact ⟨_, h3⟩
    · exact ⟨_, h4⟩
  · simp only [List.pairwise_cons, List.mem_cons, List.not_mem_nil, or_false, List.Pairwise.nil, and_true]
    refine ⟨?_, ?_, ?_, ?_⟩
    · rintro y (rfl | rfl | rfl)
      · exact f12
      · exact f13
      · exact f14
    · rintro y (rfl | rfl)
      · exact f23
      · exact f24
    · rintro y rfl
      exact f34
    · intro y hy
      exact hy.elim
end Go.Proofs.Ytalgkokgaibloaa
