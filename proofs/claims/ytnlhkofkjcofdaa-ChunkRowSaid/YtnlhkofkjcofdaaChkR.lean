/-
  Words on memory: a slice of chunks that came in; the bytes of chunks one behind the other.
-/
import Derived.Test.YtnlhkofkjcofdaaChkM
namespace Go.Proofs.Ytnlhkofkjcofdaa
open Go.RowKit
set_option linter.unusedVariables false

/-- A chunk: kind, flags, body. -/
abbrev Chk := UInt8 × UInt8 × List UInt8
/-- A slice of chunks reads as cs, below block B. -/
def Chunks (w : World) (B : Nat) (A : Option Addr) (cs : List Chk) : Prop :=
  cs = [] ∨ ∃ b o, A = some ⟨b, o, none⟩ ∧ b < B ∧ ∀ (i : Nat) (x : Chk), cs[i]? = some x → w.cell? ⟨b, o + i * 3, none⟩ = some (.int .u8 (x.1.toNat : Int)) ∧ w.cell? ⟨b, o + i * 3 + 1, none⟩ = some (.int .u8 (x.2.1.toNat : Int)) ∧
    ∃ A' n c, w.cell? ⟨b, o + i * 3 + 2, none⟩ = some (.slice A' n c) ∧ n ≤ c ∧ c ≤ maxLen ∧ x.2.2.length = n ∧ Rd w B A' x.2.2

section
variable {w w' : World} {B : Nat} {A : Option Addr} {cs : List Chk}
theorem Chunks.below (h : Chunks w B A cs) (hb : Below B w w') : Chunks w' B A cs := by
  rcases h with h | ⟨b, o, ha, hlt, hc⟩
  · exact .inl h
  · refine .inr ⟨b, o, ha, hlt, fun i x hx => ?_⟩
    obtain ⟨h1, h2, A', n, c, h3, h4, h5, h6, h7⟩ := hc i x hx
    exact ⟨(hb.cell hlt).trans h1, (hb.cell hlt).trans h2, A', n, c, (hb.cell hlt).trans h3, h4, h5, h6, h7.below hb⟩
end

/-- The bytes of chunks one behind the other. -/
def cat (cs : List Chk) : List UInt8 := (cs.map fun x => wrt x.1 x.2.1 x.2.2).flatten
theorem cat_nil : cat [] = [] := rfl
theorem cat_cons (x : Chk) (cs : List Chk) : cat (x :: cs) = wrt x.1 x.2.1 x.2.2 ++ cat cs := rfl
theorem cat_snoc (cs : List Chk) (k : Nat) (x : Chk) (h : cs[k]? = some x) : cat (cs.take (k + 1)) = cat (cs.take k) ++ wrt x.1 x.2.1 x.2.2 := by
  have hk := (List.getElem?_eq_some_iff.1 h).1
  have hx := (List.getElem?_eq_some_iff.1 h).2
  rw [List.take_succ_eq_append_getElem hk, hx, cat, List.map_append, List.flatten_append]
  simp [cat]
theorem cat_drop (cs : List Chk) (k : Nat) (x : Chk) (h : cs[k]? = some x) : cat (cs.drop k) = wrt x.1 x.2.1 x.2.2 ++ cat (cs.drop (k + 1)) := by
  have hk := (List.getElem?_eq_some_iff.1 h).1
  have hx := (List.getElem?_eq_some_iff.1 h).2
  rw [List.drop_eq_getElem_cons hk, hx, cat_cons]
theorem length_cat_take (cs : List Chk) : ∀ k, (cat (cs.take k)).length ≤ k * 65536
  | 0 => by rw [List.take_zero, cat_nil]; exact Nat.zero_le _
  | k + 1 => by
    have ih := length_cat_take cs k
    rcases Nat.lt_or_ge k cs.length with hk | hk
    · rw [cat_snoc cs k _ (List.getElem?_eq_getElem hk), List.length_append]
      have := wrt_le cs[k].1 cs[k].2.1 cs[k].2.2
      rw [Nat.add_mul, Nat.one_mul]
      exact Nat.add_le_add ih this
    · rw [List.take_of_length_le (by omega)]
      rw [List.take_of_length_le hk] at ih
      exact Nat.le_trans ih (Nat.mul_le_mul_right _ (Nat.le_succ k))
theorem length_cat (cs : List Chk) : (cat cs).length ≤ cs.length * 65536 := by
  have := length_cat_take cs cs.length
  rwa [List.take_of_length_le (Nat.le_refl _)] at this
end Go.Proofs.Ytnlhkofkjcofdaa
