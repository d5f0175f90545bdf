/-
  Layer 6: the law ShaNil.
-/
import Derived.Test.YtakbppgcfhdkeaaDoorShaE
import Derived.Test.YtakbppgcfhdkeaaDoorTy
namespace Go.Proofs.YtakbppgcfhdkeaaDoor
open Go.RowKit
set_option linter.unusedVariables false
set_option maxRecDepth 100000

set_option maxHeartbeats 1000000 in
theorem shaNil_walk (A : Option Addr) (n c : Nat) (xs : List UInt8) (w : World) (hT : Tabs w) (hn : n ≤ c) (hc : c ≤ maxLen) (hx : xs.length = n) (hr : Rd w w.heap.size A xs) :
    Calls Tryd.prog 9 #[.slice A n c] w fun e w' => e = .returned (.bool true) ∧ Below w.heap.size w w' := by
  have h2 := hT.2.2
  by_cases hbig : 65536 < n
  · have hb : decide ((n : Int) > 65536) = true := by simp; omega
    go_enter Tryd.func9, Tryd.ntmps9
    go_wp2_with (go_at_call 10; refine (works_any _ hT).mono ?_; rintro e w1 ⟨rfl, hB⟩)
    go_ret
    exact ⟨rfl, hB⟩
  · have hb : decide ((n : Int) > 65536) = false := by simp; omega
    obtain ⟨S, hS⟩ : ∃ S : List UInt8, S = List.replicate 32 0 := ⟨_, rfl⟩
    have heq : ∀ w : World, (binOp .eql 25 (.agg (row8 S)) (.agg #[.int .u8 0, .int .u8 0, .int .u8 0, .int .u8 0, .int .u8 0, .int .u8 0, .int .u8 0, .int .u8 0, .int .u8 0, .int .u8 0, .int .u8 0, .int .u8 0, .int .u8 0, .int .u8 0, .int .u8 0, .int .u8 0, .int .u8 0, .int .u8 0, .int .u8 0, .int .u8 0, .int .u8 0, .int .u8 0, .int .u8 0, .int .u8 0, .int .u8 0, .int .u8 0, .int .u8 0, .int .u8 0, .int .u8 0, .int .u8 0, .int .u8 0, .int .u8 0])).run Tryd.prog w = .ok (.bool true) w := fun w => by
      have h := eql_row8 S (List.replicate 32 0) (by rw [hS]; rfl) rfl w
      rw [decide_eq_true hS] at h
      exact h
    have HS := Lib.hid hS
    clear hS
    go_enter Tryd.func9, Tryd.ntmps9
    go_wp2_with (go_at_call 17; refine (write_nil _ _ _ _).mono ?_; rintro e w1 ⟨rfl, rfl⟩)
    refine (sumNil_any w).mono ?_
    rintro e w1 ⟨rfl, hB1⟩
    rw [← HS.out]
    go_wp2_with (go_at_call 10; refine (works_any _ (hT.below hB1 h2)).mono ?_; rintro e w2 ⟨rfl, hB2⟩)
    go_ret
    exact ⟨rfl, hB1.trans (hB2.mono hB1.size)⟩
end Go.Proofs.YtakbppgcfhdkeaaDoor
