/-
  bytes.Clone.
-/
import Derived.Test.YtalgkokgaibloaaTy
import Derived.WalkSpells
namespace Go.Proofs.Ytalgkokgaibloaa
open Go.RowKit
set_option linter.unusedVariables false

set_option maxHeartbeats 400000 in
theorem clone_none (n c : Nat) (w : World) :
    Calls Try.prog 78 #[.slice none n c] w fun e w' => e = .returned (.slice none 0 0) ∧ w = w' := by
  have he := Lib.run_eql_slice_nil (P := Try.prog) w 24 5 none n c 0 0 Try.underlying24
  go_enter Try.func78, Try.ntmps78
  go_wp2
  go_ret
  exact ⟨rfl, rfl⟩

set_option maxHeartbeats 400000 in
theorem clone_some (ad : Addr) (n c : Nat) (xs : List UInt8) (w : World) (hn : n ≤ 140737488355328) (hx : xs.length = n) (hr : Rd w w.heap.size (some ad) xs) :
    Calls Try.prog 78 #[.slice (some ad) n c] w fun e w' => ∃ A2 c2, e = .returned (.slice A2 n c2) ∧ Own8 w' 5 w.heap.size A2 n c2 xs ∧ Below w.heap.size w w' := by
  obtain ⟨i, h8⟩ := Try.ty8
  have HX := Lib.hid hx
  clear hx
  have he := Lib.run_eql_slice_nil (P := Try.prog) w 24 5 (some ad) n c 0 0 Try.underlying24
  have hown : Own8 (w.alloc (.cells #[] 5)) 5 w.heap.size (some ⟨w.heap.size, 0, none⟩) 0 0 [] := Own8.of_row (RowAt.new w 5 []) (Nat.le_refl _) rfl (Nat.zero_le _)
  have hr1 := hr.alloc (Nat.le_refl _) (.cells #[] 5)
  have hb : 0 + n ≤ 140737488355328 := by omega
  go_enter Try.func78, Try.ntmps78
  go_wp2_with (at_builtin; refine wpList_append8 h8 _ rfl _ _ rfl w.heap.size _ _ _ _ rfl hown _ _ _ _ _ rfl HX.out hr1 hb (by simp) ?_; intro A2 c2 w2 h2 hg2 ho2; simp only [Nat.zero_add, List.nil_append] at h2)
  go_ret
  exact ⟨_, _, rfl, h2, ((Below.refl _ _).alloc (Nat.le_refl _) _).grown hg2 (by simp) (by simp)⟩

/-- bytes.Clone. -/
theorem clone_any (A : Option Addr) (n c : Nat) (xs : List UInt8) (w : World) (hn : n ≤ 140737488355328) (hx : xs.length = n) (hr : Rd w w.heap.size A xs) :
    Calls Try.prog 78 #[.slice A n c] w fun e w' => ∃ A2 c2, e = .returned (.slice A2 n c2) ∧ Own8 w' 5 w.heap.size A2 n c2 xs ∧ Below w.heap.size w w' := by
  rcases A with _ | ad
  · rcases hr with rfl | ⟨_, _, h, _⟩
    · simp at hx
      subst hx
      exact (clone_none 0 c w).mono fun e w' ⟨he, hw⟩ => ⟨none, 0, he, Own8.nil _ _ _, hw ▸ Below.refl _ _⟩
    · cases h
  · exact clone_some ad n c xs w hn hx hr
end Go.Proofs.Ytalgkokgaibloaa
