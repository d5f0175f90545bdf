/-
  octet.Pad and the reference's.
-/
import Derived.Test.YtalgkokgaibloaaPut
namespace Go.Proofs.Ytalgkokgaibloaa
open Go.RowKit
set_option linter.unusedVariables false

/-- What n is rounded up to. -/
def up4 (n : Nat) : Nat := (n + 3) / 4 * 4
theorem up4_int (n : Nat) : ((n : Int) + 3) / 4 * 4 = (up4 n : Int) := by unfold up4; omega
theorem up4_bd (n : Nat) : n ≤ up4 n ∧ up4 n ≤ n + 3 := by unfold up4; omega

set_option maxHeartbeats 400000 in
theorem pad_any (A : Option Addr) (n c : Nat) (xs : List UInt8) (w : World) (hn : n ≤ 140737488355300) (hx : xs.length = n) (hr : Rd w w.heap.size A xs) :
    Calls Try.prog 61 #[.slice A n c] w fun e w' => ∃ g, e = .returned (.slice (some ⟨g, 0, none⟩) (up4 n) (up4 n)) ∧ w.heap.size ≤ g ∧ RowAt w' 5 g (xs ++ List.replicate (up4 n - n) 0) ∧ Below w.heap.size w w' := by
  obtain ⟨i, h8⟩ := Try.ty8
  have hu := up4_bd n
  have hmk := run_make8 (P := Try.prog) h8.slice h8.info h8.zero h8.size h8.bytes .i64 .i64 (up4 n : Int) (up4 n) rfl (by omega)
  have HX := Lib.hid hx
  have HU : Hid (((n : Int) + 3) / 4 * 4 = (up4 n : Int)) := up4_int n
  have hr1 := hr.alloc (Nat.le_refl _) (.cells (row8 (List.replicate (up4 n) 0)) 5)
  clear hx hr
  go_enter Try.func61, Try.ntmps61
  go_wp2_with (first | (go_at_call 82; refine (round_yes _ (by omega) (by omega) _).mono ?_; rintro e w' ⟨rfl, rfl⟩; rw [HU.out]) | (with_reducible refine wpList_copy8 h8 _ rfl (.tmp 8) (.tmp 9) rfl w.heap.size 0 (up4 n) (up4 n) _ rfl (RowAt.new _ _ _) _ _ _ _ _ rfl HX.out hr1 (by omega) (by simp) ?_; intro w1 hrow hg1))
  go_ret
  refine ⟨_, rfl, Nat.le_refl _, ?_, ((Below.refl _ _).alloc (Nat.le_refl _) _).grown hg1 (by simp) (fun k hk => by injection hk with hk; omega)⟩
  have h := hrow
  rwa [List.take_zero, List.nil_append, Nat.zero_add, List.drop_replicate] at h

set_option maxHeartbeats 400000 in
theorem refPad_any (A : Option Addr) (n c : Nat) (xs : List UInt8) (w : World) (hn : n ≤ 140737488355300) (hx : xs.length = n) (hr : Rd w w.heap.size A xs) :
    Calls Try.prog 66 #[.slice A n c] w fun e w' => ∃ A2 c2, e = .returned (.slice A2 (up4 n) c2) ∧ Own8 w' 5 w.heap.size A2 (up4 n) c2 (xs ++ List.replicate (up4 n - n) 0) ∧ Below w.heap.size w w' := by
  obtain ⟨i, h8⟩ := Try.ty8
  have hu := up4_bd n
  have HX := Lib.hid hx
  have HU : Hid (((n : Int) + 3) / 4 * 4 = (up4 n : Int)) := up4_int n
  clear hx
  go_enter Try.func66, Try.ntmps66
  go_wp2_with (first | (go_at_call 57; refine (copyBytes_any _ _ _ _ _ (by omega) HX.out hr).mono ?_; rintro e w1 ⟨A2, c2, rfl, ho, hb⟩))
  go_loopw [3] (fun v wr => ∃ (k : Nat) (A3 : Option Addr) (c3 : Nat), n + k ≤ up4 n ∧ v = .slice A3 (n + k) c3 ∧ Own8 wr 5 w.heap.size A3 (n + k) c3 (xs ++ List.replicate k 0) ∧ Below w.heap.size w wr) (fun v _ => match v with | .slice _ m _ => up4 n - m | _ => 0)
  case atStart => exact ⟨0, A2, c2, by omega, rfl, by simpa using ho, hb⟩
  case round =>
    clear ho hb
    obtain ⟨k, A3, c3, hk, rfl, ho, hb⟩ := hrel
    by_cases hlt : n + k < up4 n
    · have hz := hb.size
      have h1 := rd_one wr 5 0 0 rfl
      have h2 := ho.alloc (.cells #[.int .u8 0] 5)
      clear ho
      go_wp2_with (first | (go_at_call 83; refine (refRound_yes _ (by omega) (by omega) _).mono ?_; rintro e w' ⟨rfl, rfl⟩; rw [HU.out]) | (at_builtin; refine wpList_append8 h8 _ rfl _ _ rfl w.heap.size _ _ _ _ rfl h2 _ _ _ _ _ rfl rfl h1 (by omega) (by simp; omega) ?_; intro A4 c4 w4 h4 hg4 ho4))
      go_roundw
      case rel =>
        refine ⟨k + 1, A4, c4, by omega, rfl, ?_, (hb.alloc hz _).grown hg4 (by simp; omega) h2.blk⟩
        rw [List.append_assoc, ← List.replicate_succ'] at h4
        exact h4
      case measure => simp; omega
    · have hk2 : up4 n - n = k := by omega
      have hk3 : n + k = up4 n := by omega
      have HK := Lib.hid hk3
      have HK2 := Lib.hid hk2
      clear hk2 hk3
      go_wp2_with (first | (go_at_call 83; refine (refRound_yes _ (by omega) (by omega) _).mono ?_; rintro e w' ⟨rfl, rfl⟩; rw [HU.out]))
      go_ret
      rw [HK2.out, ← HK.out]
      exact ⟨_, _, rfl, ho, hb⟩
end Go.Proofs.Ytalgkokgaibloaa
