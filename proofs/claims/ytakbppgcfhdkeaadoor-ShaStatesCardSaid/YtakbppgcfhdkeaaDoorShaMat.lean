/-
  Words on memory: a slice of slices of bytes that came in; a slice of bools.
-/
import Derived.Test.YtakbppgcfhdkeaaDoorMem
namespace Go.Proofs.YtakbppgcfhdkeaaDoor
open Go.RowKit
set_option linter.unusedVariables false

/-- A slice of slices of bytes reads as ls, below block B. -/
def Mat (w : World) (B : Nat) (A : Option Addr) (ls : List (List UInt8)) : Prop :=
  ls = [] ∨ ∃ b o, A = some ⟨b, o, none⟩ ∧ b < B ∧ ∀ (i : Nat) l, ls[i]? = some l → ∃ A' n c, w.cell? ⟨b, o + i, none⟩ = some (.slice A' n c) ∧ n ≤ c ∧ c ≤ maxLen ∧ l.length = n ∧ Rd w B A' l
/-- A slice of bools. -/
def Bools (w : World) (B : Nat) (A : Option Addr) (ts : List Bool) : Prop :=
  ts = [] ∨ ∃ b o, A = some ⟨b, o, none⟩ ∧ b < B ∧ ∀ (i : Nat) x, ts[i]? = some x → w.cell? ⟨b, o + i, none⟩ = some (.bool x)

section
variable {w w' : World} {B : Nat} {A : Option Addr} {ls : List (List UInt8)} {ts : List Bool}
theorem Mat.below (h : Mat w B A ls) (hb : Below B w w') : Mat w' B A ls := by
  rcases h with h | ⟨b, o, ha, hlt, hc⟩
  · exact .inl h
  · exact .inr ⟨b, o, ha, hlt, fun i l hl => let ⟨A', n, c, h1, h2, h3, h4, h5⟩ := hc i l hl; ⟨A', n, c, (hb.cell hlt).trans h1, h2, h3, h4, h5.below hb⟩⟩
theorem Mat.at_ (h : Mat w B A ls) {i : Nat} (hi : i < ls.length) : ∃ b o, A = some ⟨b, o, none⟩ ∧ b < B ∧ ∃ A' n c, w.cell? ⟨b, o + i, none⟩ = some (.slice A' n c) ∧ n ≤ c ∧ c ≤ maxLen ∧ (ls[i]).length = n ∧ Rd w B A' ls[i] := by
  rcases h with rfl | ⟨b, o, ha, hlt, hc⟩
  · simp at hi
  · exact ⟨b, o, ha, hlt, hc i _ (List.getElem?_eq_getElem hi)⟩
theorem Bools.below (h : Bools w B A ts) (hb : Below B w w') : Bools w' B A ts := by
  rcases h with h | ⟨b, o, ha, hlt, hc⟩
  · exact .inl h
  · exact .inr ⟨b, o, ha, hlt, fun i x hx => (hb.cell hlt).trans (hc i x hx)⟩
theorem Bools.at_ (h : Bools w B A ts) {i : Nat} (hi : i < ts.length) : ∃ b o, A = some ⟨b, o, none⟩ ∧ b < B ∧ w.cell? ⟨b, o + i, none⟩ = some (.bool ts[i]) := by
  rcases h with rfl | ⟨b, o, ha, hlt, hc⟩
  · simp at hi
  · exact ⟨b, o, ha, hlt, hc i _ (List.getElem?_eq_getElem hi)⟩
end
end Go.Proofs.YtakbppgcfhdkeaaDoor
