/-
  Pieces of what is read; what a state may be written from.
-/
import Derived.Test.YtdhbafmccphelaaDoorShaE
import Derived.Test.YtdhbafmccphelaaDoorOwn
import Derived.Test.YtdhbafmccphelaaDoorCopyAny
namespace Go.Proofs.YtdhbafmccphelaaDoor
open Go.RowKit
set_option linter.unusedVariables false
set_option maxRecDepth 100000

theorem Rd.take_k {w : World} {B : Nat} {A : Option Addr} {xs : List UInt8} (h : Rd w B A xs) (k : Nat) : Rd w B A (xs.take k) := by
  rcases h with rfl | ⟨b, o, ha, hb, hc⟩
  · exact .inl (by simp)
  · refine .inr ⟨b, o, ha, hb, fun j x hx => hc j x ?_⟩
    rw [List.getElem?_take] at hx
    split at hx
    · exact hx
    · cases hx
/-- A piece of what is read. -/
theorem Rd.drop_k {w : World} {B b o : Nat} {xs : List UInt8} (h : Rd w B (some ⟨b, o, none⟩) xs) (k : Nat) : Rd w B (some ⟨b, o + k, none⟩) (xs.drop k) := by
  rcases h with rfl | ⟨b', o', ha, hb, hc⟩
  · exact .inl (by simp)
  · injection ha with ha
    injection ha with h1 h2
    subst h1 h2
    refine .inr ⟨b, o + k, rfl, hb, fun j x hx => ?_⟩
    rw [List.getElem?_drop] at hx
    rw [Nat.add_assoc]
    exact hc _ x hx
theorem Rd.src {w w' : World} {q : Nat} {A : Option Addr} {xs : List UInt8} (h : Rd w w.heap.size A xs) (hb : Below w.heap.size w w') (hq : w.heap.size ≤ q) : Src w' q A xs := Src.of_rd (h.below hb) hb.size hq

theorem Src.of_own {w : World} {t : TypeId} {base q n c : Nat} {A : Option Addr} {xs : List UInt8} (h : Own8 w t base A n c xs) (hq : q < base) : Src w q A xs := by
  rcases h.2 with ⟨rfl, rfl, _⟩ | ⟨g, zs, rfl, hb, hr, _⟩
  · exact .inl (List.eq_nil_of_length_eq_zero h.1)
  · refine .inr ⟨g, 0, rfl, by omega, hr.lt, fun j x hx => ?_⟩
    obtain ⟨hj, rfl⟩ := List.getElem?_eq_some_iff.1 hx
    rw [Nat.zero_add]
    have := hr.cell j (by simp; omega)
    rw [List.getElem_append_left hj] at this
    exact this
/-- Two rows of the call's own, in two blocks. -/
def Ap (A B : Option Addr) : Prop := ∀ g, A = some ⟨g, 0, none⟩ → B ≠ some ⟨g, 0, none⟩
theorem Ap.symm {A B : Option Addr} (h : Ap A B) : Ap B A := fun g hb ha => h g ha hb
theorem own_pair {w w4 : World} {t : TypeId} {base n c on oc : Nat} {A A4 oA : Option Addr} {xs oxs : List UInt8} (hm : Own8 w t base A n c xs) (ho : Own8 w t base oA on oc oxs) (hap : Ap A oA) (hg : w.grownBy w4 (A.map (·.block)))
    (h4 : A4 = A ∨ A4 = some ⟨w.heap.size, 0, none⟩) : Own8 w4 t base oA on oc oxs ∧ Ap A4 oA := by
  refine ⟨ho.keep fun g hg' => hg.block g (ho.lt g hg').2 fun e => ?_, fun g ha hb => ?_⟩
  · rcases hm.2 with ⟨rfl, _⟩ | ⟨g', zs, rfl, _⟩
    · cases e
    · injection e with e
      have : g = g' := e
      subst this
      exact hap g rfl hg'
  · rcases h4 with rfl | rfl
    · exact hap g ha hb
    · injection ha with ha
      injection ha with ha
      have := (ho.lt g hb).2
      omega
theorem St.grown {w w' : World} {q : Nat} {xs : List UInt8} {row : Option Nat} (h : St w q xs) (hg : w.grownBy w' row) (hne : some q ≠ row) : St w' q xs := let ⟨G, bs, hb, hi⟩ := h; ⟨G, bs, hb.grown hg hne, hi⟩
end Go.Proofs.YtdhbafmccphelaaDoor
