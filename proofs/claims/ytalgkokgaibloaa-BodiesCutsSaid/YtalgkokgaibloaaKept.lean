/-
  Kept: a row that Roomy made is told to be as it was.
-/
import Derived.Test.YtalgkokgaibloaaEq
import Derived.Test.YtalgkokgaibloaaRoomy
namespace Go.Proofs.Ytalgkokgaibloaa
open Go.RowKit
set_option linter.unusedVariables false

set_option maxHeartbeats 400000 in
theorem kept_any (B : Nat) (A : Option Addr) (n c g : Nat) (xs : List UInt8) (w : World) (hn : n ≤ 1048576) (hx : xs.length = n) (hr : Rd w B A xs) (hg : RowAt w 5 g (xs ++ marks16)) :
    Calls Try.prog 20 #[.slice (some ⟨g, 0, none⟩) n (n + 16), .slice A n c] w fun e w' => e = .returned (.bool true) ∧ ∃ q, w.drewN q = w' := by
  have hin : Rd w w.heap.size (some ⟨g, 0, none⟩) xs := hg.rd 0 xs (fun j hj => by rw [Nat.zero_add, List.getElem?_append_left hj])
  have H1 : ∀ c, Calls Try.prog 58 #[.slice (some ⟨g, 0, none⟩) n (n + 16), .slice A n c] w fun e w' => e = .returned (.bool true) ∧ ∃ q, w.drewN q = w' := fun c =>
    (eqBytes_any w.heap.size B _ A n n (n + 16) c xs xs w hx hx (by unfold maxLen; omega) (by unfold maxLen; omega) hin hr).mono fun e w' ⟨he, hw⟩ => ⟨by rw [he]; simp, hw⟩
  have hcell : ∀ k, k < 16 → w.cell? ⟨g, n + k, none⟩ = some (.int .u8 90) := fun k hk => by
    have hl : n + k < (xs ++ marks16).length := by rw [List.length_append, length_marks16]; omega
    have h90 : (xs ++ marks16)[n + k]? = some 90 := by rw [List.getElem?_append_right (by omega), get_marks16, if_pos (by omega)]
    rw [hg.cell (n + k) hl, List.getElem_eq_iff _ |>.2 h90]; rfl
  clear hin hg hr hx
  have HH := Lib.hid H1
  have HC := Lib.hid hcell
  clear H1 hcell
  go_enter Try.func20, Try.ntmps20
  go_wp2_with (go_at_call 58; refine (HH.out _).mono ?_; rintro e w' ⟨rfl, q, rfl⟩)
  go_loopw [6] (fun i wr => ∃ k q : Nat, k ≤ 16 ∧ i = .int .i64 k ∧ wr = w.drewN q) (fun i _ => 16 - (intOf i).toNat)
  case atStart => exact ⟨0, q, Nat.zero_le _, rfl, rfl⟩
  case round =>
    obtain ⟨k, q, hk, rfl, rfl⟩ := hrel
    by_cases hlt : k < 16
    · have hc := HC.out k hlt
      go_wp2
      go_roundw
      case rel => exact ⟨k + 1, _, by omega, by go_num, rfl⟩
      case measure => simp [intOf]; omega
    · obtain rfl : k = 16 := by omega
      go_wp2
      go_ret
      exact ⟨rfl, q, rfl⟩
end Go.Proofs.Ytalgkokgaibloaa
