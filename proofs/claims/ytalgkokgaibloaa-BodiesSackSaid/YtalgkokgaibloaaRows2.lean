/-
  Apart at two rows of the call's own.
-/
import Derived.Test.YtalgkokgaibloaaRows3
namespace Go.Proofs.Ytalgkokgaibloaa
open Go.RowKit
set_option linter.unusedVariables false

theorem rows2 {w : World} {t b1 b2 : Nat} (e : TypeId) {A1 A2 : Option Addr} {n1 n2 c1 c2 : Nat} {x1 x2 : List UInt8} (h1 : Own8 w t b1 A1 n1 c1 x1) (h2 : Own8 w t b2 A2 n2 c2 x2) (f12 : Far A1 A2) :
    Rows8 (w.alloc (.cells #[.slice A1 n1 c1, .slice A2 n2 c2] e)) t 0 w.heap.size 0 2 (pick3 A1 A2 A2) (pick3 n1 n2 n2) (pick3 c1 c2 c2) (pick3 x1 x2 x2) := by
  refine ⟨fun k hk => ?_, fun k hk => ?_, fun j k hj hk hne => ?_, fun k hk => ?_, by simp⟩
  · rw [World.cell?_alloc_at _ _ _ _ rfl, Nat.zero_add]
    match k, hk with
    | 0, _ => rfl
    | 1, _ => rfl
  · match k, hk with
    | 0, _ => exact (h1.more (Nat.zero_le _)).alloc _
    | 1, _ => exact (h2.more (Nat.zero_le _)).alloc _
  · match j, hj, k, hk, hne with
    | 0, _, 1, _, _ => exact f12
    | 1, _, 0, _, _ => exact f12.symm
    | 1, _, 1, _, hne => exact absurd rfl hne
  · intro he
    match k, hk with
    | 0, _ => have := (h1.lt _ he).2; omega
    | 1, _ => have := (h2.lt _ he).2; omega

theorem apart2 {w : World} {b1 b2 : Nat} {A1 A2 : Option Addr} {n1 n2 c1 c2 : Nat} {x1 x2 : List UInt8} (h1 : Own8 w 5 b1 A1 n1 c1 x1) (h2 : Own8 w 5 b2 A2 n2 c2 x2) (f12 : Far A1 A2) (cap : Nat) :
    Calls Try.prog 22 #[.slice (some ⟨w.heap.size, 0, none⟩) 2 cap] (w.alloc (.cells #[.slice A1 n1 c1, .slice A2 n2 c2] 24)) fun e w' => e = .returned (.bool true) ∧ Below w.heap.size w w' :=
  (apart_any w.heap.size 0 2 cap 0 _ _ _ _ _ (by omega) (rows2 24 h1 h2 f12)).mono fun e w' ⟨he, hb⟩ => ⟨he, (below_new w _).trans (hb.mono (by simp))⟩
/-- The row that Roomy made, as it reads. -/
theorem rd_room {w : World} {g : Nat} {xs : List UInt8} (h : RowAt w 5 g (xs ++ marks16)) : Rd w w.heap.size (some ⟨g, 0, none⟩) xs := h.rd 0 xs (fun j hj => by rw [Nat.zero_add, List.getElem?_append_left hj])
end Go.Proofs.Ytalgkokgaibloaa
