/-
  Apart at three rows of the call's own.
-/
import Derived.Test.YtalgkokgaibloaaApart
import Derived.Test.YtalgkokgaibloaaKept
namespace Go.Proofs.Ytalgkokgaibloaa
open Go.RowKit
set_option linter.unusedVariables false

def pick3 {α : Type} (a b c : α) : Nat → α | 0 => a | 1 => b | _ => c

/-- No block is shared. -/
def Far (A A' : Option Addr) : Prop := ∀ g, A = some ⟨g, 0, none⟩ → A' ≠ some ⟨g, 0, none⟩
theorem Far.symm {A A' : Option Addr} (h : Far A A') : Far A' A := fun g hg hg' => h g hg' hg
theorem far_of {w w' : World} {t base base' : Nat} {A A' : Option Addr} {n c n' c' : Nat} {xs xs' : List UInt8} (h : Own8 w t base A n c xs) (h' : Own8 w' t base' A' n' c' xs') (hb : w.heap.size ≤ base') : Far A A' := by
  intro g hg hg'
  have h1 := h.lt g hg
  have h2 := h'.lt g hg'
  omega

theorem rows3 {w : World} {t b1 b2 b3 : Nat} (e : TypeId) {A1 A2 A3 : Option Addr} {n1 n2 n3 c1 c2 c3 : Nat} {x1 x2 x3 : List UInt8} (h1 : Own8 w t b1 A1 n1 c1 x1) (h2 : Own8 w t b2 A2 n2 c2 x2) (h3 : Own8 w t b3 A3 n3 c3 x3)
    (f12 : Far A1 A2) (f13 : Far A1 A3) (f23 : Far A2 A3) :
    Rows8 (w.alloc (.cells #[.slice A1 n1 c1, .slice A2 n2 c2, .slice A3 n3 c3] e)) t 0 w.heap.size 0 3 (pick3 A1 A2 A3) (pick3 n1 n2 n3) (pick3 c1 c2 c3) (pick3 x1 x2 x3) := by
  refine ⟨fun k hk => ?_, fun k hk => ?_, fun j k hj hk hne => ?_, fun k hk => ?_, by simp⟩
  · rw [World.cell?_alloc_at _ _ _ _ rfl, Nat.zero_add]
    match k, hk with
    | 0, _ => rfl
    | 1, _ => rfl
    | 2, _ => rfl
  · match k, hk with
    | 0, _ => exact (h1.more (Nat.zero_le _)).alloc _
    | 1, _ => exact (h2.more (Nat.zero_le _)).alloc _
    | 2, _ => exact (h3.more (Nat.zero_le _)).alloc _
  · match j, hj, k, hk, hne with
    | 0, _, 1, _, _ => exact f12
    | 0, _, 2, _, _ => exact f13
    | 1, _, 0, _, _ => exact f12.symm
    | 1, _, 2, _, _ => exact f23
    | 2, _, 0, _, _ => exact f13.symm
    | 2, _, 1, _, _ => exact f23.symm
    | 2, _, 2, _, hne => exact absurd rfl hne
  · intro he
    match k, hk with
    | 0, _ => have := (h1.lt _ he).2; omega
    | 1, _ => have := (h2.lt _ he).2; omega
    | 2, _ => have := (h3.lt _ he).2; omega

theorem apart3 {w : World} {b1 b2 b3 : Nat} {A1 A2 A3 : Option Addr} {n1 n2 n3 c1 c2 c3 : Nat} {x1 x2 x3 : List UInt8} (h1 : Own8 w 5 b1 A1 n1 c1 x1) (h2 : Own8 w 5 b2 A2 n2 c2 x2) (h3 : Own8 w 5 b3 A3 n3 c3 x3)
    (f12 : Far A1 A2) (f13 : Far A1 A3) (f23 : Far A2 A3) (cap : Nat) :
    Calls Try.prog 22 #[.slice (some ⟨w.heap.size, 0, none⟩) 3 cap] (w.alloc (.cells #[.slice A1 n1 c1, .slice A2 n2 c2, .slice A3 n3 c3] 24)) fun e w' => e = .returned (.bool true) ∧ Below w.heap.size w w' :=
  (apart_any w.heap.size 0 3 cap 0 _ _ _ _ _ (by omega) (rows3 24 h1 h2 h3 f12 f13 f23)).mono fun e w' ⟨he, hb⟩ => ⟨he, (below_new w _).trans (hb.mono (by simp))⟩

/-- The row that Roomy made, as one of the call's own. -/
theorem own_in {w : World} {g n base : Nat} {xs : List UInt8} (h : RowAt w 5 g (xs ++ marks16)) (hn : xs.length = n) (hb : base ≤ g) (hm : n ≤ 1048576) : Own8 w 5 base (some ⟨g, 0, none⟩) n (n + 16) xs :=
  ⟨hn, .inr ⟨g, marks16, rfl, hb, h, by rw [length_marks16], by unfold maxLen; omega⟩⟩

/-- EqBytes at two rows that are alike. -/
theorem eqBytes_same (B B' : Nat) (A A' : Option Addr) (n c c' : Nat) (xs : List UInt8) (w : World) (hx : xs.length = n) (hn : n ≤ maxLen) (rx : Rd w B A xs) (ry : Rd w B' A' xs) :
    Calls Try.prog 58 #[.slice A n c, .slice A' n c'] w fun e w' => e = .returned (.bool true) ∧ ∃ q, w.drewN q = w' :=
  (eqBytes_any B B' A A' n n c c' xs xs w hx hx hn hn rx ry).mono fun e w' ⟨he, hw⟩ => ⟨by rw [he]; simp, hw⟩
end Go.Proofs.Ytalgkokgaibloaa
