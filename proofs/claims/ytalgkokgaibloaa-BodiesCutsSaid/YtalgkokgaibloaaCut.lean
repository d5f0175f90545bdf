/-
  octet.Cut, the reference's Cut and Get.
-/
import Derived.Test.YtalgkokgaibloaaGet
import Derived.Test.YtalgkokgaibloaaClone
import Derived.Test.YtalgkokgaibloaaCopyAny
import Derived.WalkSpells
namespace Go.Proofs.Ytalgkokgaibloaa
open Go.RowKit
set_option linter.unusedVariables false

set_option maxHeartbeats 400000 in
theorem cut_yes (A : Option Addr) (n c a k : Nat) (xs : List UInt8) (w : World) (hn : n ≤ 140737488355328) (hc : n ≤ c) (hcm : c ≤ maxLen) (hx : xs.length = n) (hr : Rd w w.heap.size A xs) (hak : a + k ≤ n) :
    Calls Try.prog 54 #[.slice A n c, .int .i64 a, .int .i64 k] w fun e w' =>
      ∃ A2 c2, e = .returned (.tuple #[.slice A2 k c2, .bool true]) ∧ Own8 w' 5 w.heap.size A2 k c2 ((xs.drop a).take k) ∧ Below w.heap.size w w' := by
  have H1 : Hid (Within n a k) := ⟨by omega, by omega, by omega, by omega⟩
  have H2 : Hid (Rd w w.heap.size (A.map (·.add a)) ((xs.drop a).take k)) := hr.cut a k
  have H2b : Hid (c = a → Rd w w.heap.size A ((xs.drop a).take k)) := (fun h => .inl (by rw [show k = 0 by omega]; rfl) : _ → _)
  have H3 : Hid (((xs.drop a).take k).length = k) := (by simp; omega : _ = _)
  unfold maxLen at hcm
  have H4 : Hid (n ≤ maxLen) := (by unfold maxLen; omega : _ ≤ _)
  clear hx hr
  go_enter Try.func54, Try.ntmps54
  go_wp2_with (first | (go_at_call 77; refine (inside_yes _ _ _ _ _ _ H4.out H1.out).mono ?_; rintro e w' ⟨rfl, rfl⟩) | (go_at_call 78; refine (clone_any _ _ _ _ _ (by omega) H3.out (by first | exact H2.out | exact H2b.out ‹c = a›)).mono ?_; rintro e w' ⟨A2, c2, rfl, ho, hb⟩))
  all_goals
    go_ret2
    exact ⟨_, _, rfl, ho, hb⟩

set_option maxHeartbeats 400000 in
theorem refCut_yes (A : Option Addr) (n c a k : Nat) (xs : List UInt8) (w : World) (hn : n ≤ 140737488355328) (hc : n ≤ c) (hcm : c ≤ maxLen) (hx : xs.length = n) (hr : Rd w w.heap.size A xs) (hak : a + k ≤ n) :
    Calls Try.prog 65 #[.slice A n c, .int .i64 a, .int .i64 k] w fun e w' =>
      ∃ A2 c2, e = .returned (.tuple #[.slice A2 k c2, .bool true]) ∧ Own8 w' 5 w.heap.size A2 k c2 ((xs.drop a).take k) ∧ Below w.heap.size w w' := by
  have H2 : Hid (Rd w w.heap.size (A.map (·.add a)) ((xs.drop a).take k)) := hr.cut a k
  have H2b : Hid (c = a → Rd w w.heap.size A ((xs.drop a).take k)) := (fun h => .inl (by rw [show k = 0 by omega]; rfl) : _ → _)
  have H3 : Hid (((xs.drop a).take k).length = k) := (by simp; omega : _ = _)
  unfold maxLen at hcm
  clear hx hr
  go_enter Try.func65, Try.ntmps65
  go_wp2_with (go_at_call 57; refine (copyBytes_any _ _ _ _ _ (by omega) H3.out (by first | exact H2.out | exact H2b.out ‹c = a›)).mono ?_; rintro e w' ⟨A2, c2, rfl, ho, hb⟩)
  all_goals
    go_ret2
    exact ⟨_, _, rfl, ho, hb⟩
end Go.Proofs.Ytalgkokgaibloaa
