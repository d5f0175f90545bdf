/-
  bytes.Clone, octet.Cut, the reference's Cut and Get.
-/
import Derived.Test.YthhmdbgmokdadaaGet
import Derived.WalkSpells
namespace Go.Proofs.Ythhmdbgmokdadaa
open Go.RowKit
set_option linter.unusedVariables false

theorem Try.ty8 : ∃ i, Ty8 Try.prog 22 5 i := by
  obtain ⟨i0, hi, hz0, hz1, hz2⟩ := info_parts Try.info8
  exact ⟨i0, ⟨Try.underlying22, hi, hz0, hz1, hz2⟩⟩

set_option maxHeartbeats 400000 in
theorem clone_none (n c : Nat) (w : World) :
    Calls Try.prog 28 #[.slice none n c] w fun e w' => e = .returned (.slice none 0 0) ∧ w = w' := by
  have he := Lib.run_eql_slice_nil (P := Try.prog) w 22 5 none n c 0 0 Try.underlying22
  go_enter Try.func28, Try.ntmps28
  go_wp2
  go_ret
  exact ⟨rfl, rfl⟩

set_option maxHeartbeats 400000 in
theorem clone_some (ad : Addr) (n c : Nat) (xs : List UInt8) (w : World) (hn : n ≤ 140737488355328) (hx : xs.length = n) (hr : Rd w w.heap.size (some ad) xs) :
    Calls Try.prog 28 #[.slice (some ad) n c] w fun e w' => ∃ A2 c2, e = .returned (.slice A2 n c2) ∧ Own8 w' 5 w.heap.size A2 n c2 xs ∧ Below w.heap.size w w' := by
  obtain ⟨i, h8⟩ := Try.ty8
  have HX := Lib.hid hx
  clear hx
  have he := Lib.run_eql_slice_nil (P := Try.prog) w 22 5 (some ad) n c 0 0 Try.underlying22
  have hown : Own8 (w.alloc (.cells #[] 5)) 5 w.heap.size (some ⟨w.heap.size, 0, none⟩) 0 0 [] := Own8.of_row (RowAt.new w 5 []) (Nat.le_refl _) rfl (Nat.zero_le _)
  have hr1 := hr.alloc (Nat.le_refl _) (.cells #[] 5)
  have hb : 0 + n ≤ 140737488355328 := by omega
  go_enter Try.func28, Try.ntmps28
  go_wp2_with (at_builtin; refine wpList_append8 h8 _ rfl _ _ rfl w.heap.size _ _ _ _ rfl hown _ _ _ _ _ rfl HX.out hr1 hb (by simp) ?_; intro A2 c2 w2 h2 hg2 ho2; simp only [Nat.zero_add, List.nil_append] at h2)
  go_ret
  exact ⟨_, _, rfl, h2, ((Below.refl _ _).alloc (Nat.le_refl _) _).grown hg2 (by simp) (by simp)⟩

/-- bytes.Clone. -/
theorem clone_any (A : Option Addr) (n c : Nat) (xs : List UInt8) (w : World) (hn : n ≤ 140737488355328) (hx : xs.length = n) (hr : Rd w w.heap.size A xs) :
    Calls Try.prog 28 #[.slice A n c] w fun e w' => ∃ A2 c2, e = .returned (.slice A2 n c2) ∧ Own8 w' 5 w.heap.size A2 n c2 xs ∧ Below w.heap.size w w' := by
  rcases A with _ | ad
  · rcases hr with rfl | ⟨_, _, h, _⟩
    · simp at hx
      subst hx
      exact (clone_none 0 c w).mono fun e w' ⟨he, hw⟩ => ⟨none, 0, he, Own8.nil _ _ _, hw ▸ Below.refl _ _⟩
    · cases h
  · exact clone_some ad n c xs w hn hx hr

set_option maxHeartbeats 400000 in
theorem cut_yes (A : Option Addr) (n c a k : Nat) (xs : List UInt8) (w : World) (hn : n ≤ 140737488355328) (hc : n ≤ c) (hcm : c ≤ maxLen) (hx : xs.length = n) (hr : Rd w w.heap.size A xs) (hak : a + k ≤ n) :
    Calls Try.prog 20 #[.slice A n c, .int .i64 a, .int .i64 k] w fun e w' =>
      ∃ A2 c2, e = .returned (.tuple #[.slice A2 k c2, .bool true]) ∧ Own8 w' 5 w.heap.size A2 k c2 ((xs.drop a).take k) ∧ Below w.heap.size w w' := by
  have H1 : Hid (Within n a k) := ⟨by omega, by omega, by omega, by omega⟩
  have H2 : Hid (Rd w w.heap.size (A.map (·.add a)) ((xs.drop a).take k)) := hr.cut a k
  have H2b : Hid (c = a → Rd w w.heap.size A ((xs.drop a).take k)) := (fun h => .inl (by rw [show k = 0 by omega]; rfl) : _ → _)
  have H3 : Hid (((xs.drop a).take k).length = k) := (by simp; omega : _ = _)
  unfold maxLen at hcm
  have H4 : Hid (n ≤ maxLen) := (by unfold maxLen; omega : _ ≤ _)
  clear hx hr
  go_enter Try.func20, Try.ntmps20
  go_wp2_with (first | (go_at_call 26; refine (inside_yes _ _ _ _ _ _ H4.out H1.out).mono ?_; rintro e w' ⟨rfl, rfl⟩) | (go_at_call 28; refine (clone_any _ _ _ _ _ (by omega) H3.out (by first | exact H2.out | exact H2b.out ‹c = a›)).mono ?_; rintro e w' ⟨A2, c2, rfl, ho, hb⟩))
  all_goals
    go_ret2
    exact ⟨_, _, rfl, ho, hb⟩

/-- CopyBytes over any row. -/
theorem copyBytes_any (A : Option Addr) (n c : Nat) (xs : List UInt8) (w : World) (hn : n ≤ 140737488355328) (hx : xs.length = n) (hr : Rd w w.heap.size A xs) :
    Calls Try.prog 29 #[.slice A n c] w fun e w' => ∃ A2 c2, e = .returned (.slice A2 n c2) ∧ Own8 w' 5 w.heap.size A2 n c2 xs ∧ Below w.heap.size w w' := by
  by_cases h0 : n = 0
  · subst h0
    obtain rfl := List.eq_nil_of_length_eq_zero hx
    exact (copyBytes_none A c w).mono fun e w' ⟨he, hw⟩ => ⟨none, 0, he, Own8.nil _ _ _, hw ▸ Below.refl _ _⟩
  · exact (copyBytes_some A n c xs w h0 (by omega) hx hr).mono fun e w' ⟨he, hrow, hb⟩ => ⟨_, n, he, Own8.of_row hrow (Nat.le_refl _) hx (by unfold maxLen; omega), hb⟩

set_option maxHeartbeats 400000 in
theorem refCut_yes (A : Option Addr) (n c a k : Nat) (xs : List UInt8) (w : World) (hn : n ≤ 140737488355328) (hc : n ≤ c) (hcm : c ≤ maxLen) (hx : xs.length = n) (hr : Rd w w.heap.size A xs) (hak : a + k ≤ n) :
    Calls Try.prog 21 #[.slice A n c, .int .i64 a, .int .i64 k] w fun e w' =>
      ∃ A2 c2, e = .returned (.tuple #[.slice A2 k c2, .bool true]) ∧ Own8 w' 5 w.heap.size A2 k c2 ((xs.drop a).take k) ∧ Below w.heap.size w w' := by
  have H2 : Hid (Rd w w.heap.size (A.map (·.add a)) ((xs.drop a).take k)) := hr.cut a k
  have H2b : Hid (c = a → Rd w w.heap.size A ((xs.drop a).take k)) := (fun h => .inl (by rw [show k = 0 by omega]; rfl) : _ → _)
  have H3 : Hid (((xs.drop a).take k).length = k) := (by simp; omega : _ = _)
  unfold maxLen at hcm
  clear hx hr
  go_enter Try.func21, Try.ntmps21
  go_wp2_with (go_at_call 29; refine (copyBytes_any _ _ _ _ _ (by omega) H3.out (by first | exact H2.out | exact H2b.out ‹c = a›)).mono ?_; rintro e w' ⟨A2, c2, rfl, ho, hb⟩)
  all_goals
    go_ret2
    exact ⟨_, _, rfl, ho, hb⟩
end Go.Proofs.Ythhmdbgmokdadaa
