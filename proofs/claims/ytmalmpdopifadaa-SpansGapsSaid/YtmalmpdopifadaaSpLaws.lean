/-
  Layer 4 (spans): the laws but SpansPlays, for whatever arguments.
-/
import Derived.Test.YtmalmpdopifadaaSpL8
namespace Go.Proofs.Ytmalmpdopifadaa
open Go.RowKit
set_option linter.unusedVariables false

theorem all_u32 {xs : List Int} (h : ∀ x ∈ xs, (Lit.int .u32 x).wf = true) : ∀ x ∈ xs, 0 ≤ x ∧ x < 4294967296 := fun x hx => u32_in (h x hx)

theorem spansGaps_walk (base : Int) (A : Option Addr) (n c : Nat) (xs : List Int) (w : World) (w0 : (Lit.int .u32 base).wf = true) (h1 : n ≤ c) (h2 : c ≤ maxLen) (hn : xs.length = n) (hr : Ri .u32 w w.heap.size A xs) (hx : ∀ x ∈ xs, (Lit.int .u32 x).wf = true) :
    Calls Try.prog 4 #[.int .u32 base, .slice A n c] w fun e w' => e = .returned (.bool true) ∧ Below w.heap.size w w' := by
  by_cases h : 200 < n
  · exact spansGaps_big base A n c w h (Nat.le_trans h1 h2)
  · exact spansGaps_small base A n c xs w hn (by omega) hr (all_u32 hx) (u32_in w0)
theorem spansSettle_walk (base : Int) (A : Option Addr) (n c : Nat) (xs : List Int) (w : World) (w0 : (Lit.int .u32 base).wf = true) (h1 : n ≤ c) (h2 : c ≤ maxLen) (hn : xs.length = n) (hr : Ri .u32 w w.heap.size A xs) (hx : ∀ x ∈ xs, (Lit.int .u32 x).wf = true) :
    Calls Try.prog 5 #[.int .u32 base, .slice A n c] w fun e w' => e = .returned (.bool true) ∧ Below w.heap.size w w' := by
  by_cases h : 200 < n
  · exact spansSettle_big base A n c w h (Nat.le_trans h1 h2)
  · exact spansSettle_small base A n c xs w hn (by omega) hr (all_u32 hx) (u32_in w0)
theorem spansOrder_walk (base other : Int) (A : Option Addr) (n c : Nat) (xs : List Int) (w : World) (w0 : (Lit.int .u32 base).wf = true) (w1 : (Lit.int .u32 other).wf = true) (h1 : n ≤ c) (h2 : c ≤ maxLen) (hn : xs.length = n) (hr : Ri .u32 w w.heap.size A xs) (hx : ∀ x ∈ xs, (Lit.int .u32 x).wf = true) :
    Calls Try.prog 6 #[.int .u32 base, .int .u32 other, .slice A n c] w fun e w' => e = .returned (.bool true) ∧ Below w.heap.size w w' := by
  by_cases h : 200 < n
  · exact spansOrder_big base other A n c w h (Nat.le_trans h1 h2)
  · exact spansOrder_small base other A n c xs w hn (by omega) hr (all_u32 hx) (u32_in w0) (u32_in w1)
theorem spansMove_walk (base : Int) (A : Option Addr) (n c : Nat) (xs : List Int) (to : Int) (w : World) (w0 : (Lit.int .u32 base).wf = true) (h1 : n ≤ c) (h2 : c ≤ maxLen) (hn : xs.length = n) (hr : Ri .u32 w w.heap.size A xs) (hx : ∀ x ∈ xs, (Lit.int .u32 x).wf = true) (w2 : (Lit.int .u32 to).wf = true) :
    Calls Try.prog 7 #[.int .u32 base, .slice A n c, .int .u32 to] w fun e w' => e = .returned (.bool true) ∧ Below w.heap.size w w' := by
  have ht := u32_in w2
  by_cases h : 200 < n
  · exact spansMove_big base to A n c w h (Nat.le_trans h1 h2)
  · by_cases hno : to < 1 ∨ 4096 < to
    · exact spansMove_no base to A n c xs w hn (by omega) hr (all_u32 hx) (u32_in w0) ht hno
    · exact spansMove_yes base to A n c xs w hn (by omega) hr (all_u32 hx) (u32_in w0) (by omega)
theorem spansFew_walk (base : Int) (A : Option Addr) (n c : Nat) (xs : List Int) (most : Int) (w : World) (w0 : (Lit.int .u32 base).wf = true) (h1 : n ≤ c) (h2 : c ≤ maxLen) (hn : xs.length = n) (hr : Ri .u32 w w.heap.size A xs) (hx : ∀ x ∈ xs, (Lit.int .u32 x).wf = true) (w2 : (Lit.int .i64 most).wf = true) :
    Calls Try.prog 8 #[.int .u32 base, .slice A n c, .int .i64 most] w fun e w' => e = .returned (.bool true) ∧ Below w.heap.size w w' := by
  by_cases h : 200 < n
  · exact spansFew_big base most A n c w h (Nat.le_trans h1 h2)
  · exact spansFew_small base most A n c xs w hn (by omega) hr (all_u32 hx) (u32_in w0) (i64_in w2)
end Go.Proofs.Ytmalmpdopifadaa
