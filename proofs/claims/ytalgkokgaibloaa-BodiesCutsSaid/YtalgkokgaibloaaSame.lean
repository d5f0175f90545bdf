/-
  fairleadref08.Same: whether two chunks are alike.
-/
import Derived.Test.YtalgkokgaibloaaMem
import Derived.Test.YtalgkokgaibloaaEq
namespace Go.Proofs.Ytalgkokgaibloaa
open Go.RowKit
set_option linter.unusedVariables false

theorem byte_ne {a b : UInt8} (h : a ≠ b) : ((a.toNat : Int) == (b.toNat : Int)) = false := by
  rw [beq_eq_false_iff_ne]
  intro he
  exact h (UInt8.toNat_inj.1 (by omega))

set_option maxHeartbeats 1000000 in
theorem same_any (k f k' f' : UInt8) (A A' : Option Addr) (n n' c c' : Nat) (xs ys : List UInt8) (w : World) (hx : xs.length = n) (hy : ys.length = n') (hn : n ≤ maxLen) (hn' : n' ≤ maxLen) (hr : Rd w w.heap.size A xs) (hr' : Rd w w.heap.size A' ys) :
    Calls Try.prog 18 #[.agg #[.int .u8 (k.toNat : Int), .int .u8 (f.toNat : Int), .slice A n c], .agg #[.int .u8 (k'.toNat : Int), .int .u8 (f'.toNat : Int), .slice A' n' c']] w fun e w' => e = .returned (.bool (decide (k = k' ∧ f = f' ∧ xs = ys))) ∧ Below w.heap.size w w' := by
  have HC : Hid (∀ W : World, Below w.heap.size w W → Calls Try.prog 58 #[.slice A n c, .slice A' n' c'] W fun e w' => e = .returned (.bool (decide (xs = ys))) ∧ ∃ q, W.drewN q = w') := Lib.hid fun W hW => eqBytes_any w.heap.size w.heap.size A A' n n' c c' xs ys W hx hy hn hn' (hr.below hW) (hr'.below hW)
  have HB := Lib.hid ((below_new w (.cells #[.int .u8 (k.toNat : Int), .int .u8 (f.toNat : Int), .slice A n c] 28)).alloc (by simp) (.cells #[.int .u8 (k'.toNat : Int), .int .u8 (f'.toNat : Int), .slice A' n' c'] 28))
  clear hx hy hr hr'
  by_cases hk : k = k'
  · subst hk
    by_cases hf : f = f'
    · subst hf
      obtain ⟨d, hd⟩ : ∃ d, d = decide (xs = ys) := ⟨_, rfl⟩
      have hdd : decide (k = k ∧ f = f ∧ xs = ys) = d := by rw [hd]; simp
      rw [hdd]
      rw [← hd] at HC
      clear hd hdd
      go_enter Try.func18, Try.ntmps18
      go_wp2_with fail
      refine (HC.out _ HB.out).mono ?_
      rintro e w1 ⟨rfl, q, rfl⟩
      go_wp2_with fail
      go_ret
      exact ⟨rfl, below_drewN HB.out q⟩
    · have hb := byte_ne hf
      have hdd : decide (k = k ∧ f = f' ∧ xs = ys) = false := by simp [hf]
      rw [hdd]
      clear hdd hf
      go_enter Try.func18, Try.ntmps18
      go_wp2_with fail
      go_ret
      exact ⟨rfl, HB.out⟩
  · have hb := byte_ne hk
    have hdd : decide (k = k' ∧ f = f' ∧ xs = ys) = false := by simp [hk]
    rw [hdd]
    clear hdd hk
    go_enter Try.func18, Try.ntmps18
    go_wp2_with fail
    go_ret
    exact ⟨rfl, HB.out⟩
end Go.Proofs.Ytalgkokgaibloaa
