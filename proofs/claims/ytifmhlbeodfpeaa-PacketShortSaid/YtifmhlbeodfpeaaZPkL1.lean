/-
  PacketShort, walked.
-/
import Derived.Test.YtifmhlbeodfpeaaQ31
namespace Go.Proofs.Ytifmhlbeodfpeaa
open Go.RowKit
set_option linter.unusedVariables false

set_option maxRecDepth 100000 in
set_option maxHeartbeats 4000000 in
theorem packetShort_of (A : Option Addr) (n c m : Nat) (xs : List UInt8) (w : World) (hm : m = min n 11) (hc : n ≤ c) (hcm : c ≤ maxLen) (hx : xs.length = n) (hr : Rd w w.heap.size A xs) (A' : Option Addr) (hA : A = A') (hn : A = none → n = 0) :
    Calls Try.prog 10 #[.slice A n c] w fun e w' => e = .returned (.bool true) ∧ Below w.heap.size w w' := by
  have HRD : Hid (Calls Try.prog 22 #[.slice A m c] w fun e w' => e = .returned (noPkt 7) ∧ Below w.heap.size w w') := Lib.hid (by
    have hmn : m ≤ n := by omega
    have h := readP_any A m c (xs.take m) w (by omega) (by omega) hcm (by simp; omega) (hr.take_ m)
    rw [rd_short (by simp; omega)] at h
    exact h)
  have hz : ∀ W, (zeroValue 25).run Try.prog W = .ok (.agg #[.int .u32 0, .slice none 0 0]) W := by intro W; kernel_rfl
  unfold maxLen at hcm
  clear hr hx
  by_cases h11 : n < 11
  · obtain rfl : m = n := by omega
    have hmin : min (m : Int) 11 = (m : Int) := by omega
    clear hm
    rcases A with _ | ad
    · obtain rfl := hn rfl
      clear hn hA
      go_enter Try.func10, Try.ntmps10
      go_wp2_with fail
      refine HRD.out.mono ?_
      rintro e w1 ⟨rfl, hb⟩
      have B1 := Lib.hid (hb.alloc hb.size (.cells #[.int .u32 0, .slice none 0 0] 25))
      clear hb HRD
      rw [noPkt]
      go_wp2_with fail
      generalize w1.alloc (.cells #[.int .u32 0, .slice none 0 0] 25) = w2 at B1 ⊢
      refine (works_any w2).mono ?_
      rintro e w3 ⟨rfl, hb⟩
      go_wp2_with fail
      go_ret
      exact ⟨rfl, below_then B1.out (Nat.le_refl _) hb⟩
    · clear hn hA
      go_enter Try.func10, Try.ntmps10
      go_wp2_with fail
      refine HRD.out.mono ?_
      rintro e w1 ⟨rfl, hb⟩
      have B1 := Lib.hid (hb.alloc hb.size (.cells #[.int .u32 0, .slice none 0 0] 25))
      clear hb HRD
      rw [noPkt]
      go_wp2_with fail
      generalize w1.alloc (.cells #[.int .u32 0, .slice none 0 0] 25) = w2 at B1 ⊢
      refine (works_any w2).mono ?_
      rintro e w3 ⟨rfl, hb⟩
      go_wp2_with fail
      go_ret
      exact ⟨rfl, below_then B1.out (Nat.le_refl _) hb⟩
  · obtain rfl : m = 11 := by omega
    have hmin : min (n : Int) 11 = 11 := by omega
    clear hm
    rcases A with _ | ad
    · exfalso
      have := hn rfl
      omega
    · clear hn hA
      go_enter Try.func10, Try.ntmps10
      go_wp2_with fail
      refine HRD.out.mono ?_
      rintro e w1 ⟨rfl, hb⟩
      have B1 := Lib.hid (hb.alloc hb.size (.cells #[.int .u32 0, .slice none 0 0] 25))
      clear hb HRD
      rw [noPkt]
      go_wp2_with fail
      generalize w1.alloc (.cells #[.int .u32 0, .slice none 0 0] 25) = w2 at B1 ⊢
      refine (works_any w2).mono ?_
      rintro e w3 ⟨rfl, hb⟩
      go_wp2_with fail
      go_ret
      exact ⟨rfl, below_then B1.out (Nat.le_refl _) hb⟩

theorem packetShort_walk (A : Option Addr) (n c : Nat) (xs : List UInt8) (w : World) (hc : n ≤ c) (hcm : c ≤ maxLen) (hx : xs.length = n) (hr : Rd w w.heap.size A xs) :
    Calls Try.prog 10 #[.slice A n c] w fun e w' => e = .returned (.bool true) ∧ Below w.heap.size w w' :=
  packetShort_of A n c (min n 11) xs w rfl hc hcm hx hr A rfl (fun h => by
    rcases hr with h2 | ⟨_, _, h2, _⟩
    · rw [← hx, h2]; rfl
    · rw [h] at h2; cases h2)
end Go.Proofs.Ytifmhlbeodfpeaa
