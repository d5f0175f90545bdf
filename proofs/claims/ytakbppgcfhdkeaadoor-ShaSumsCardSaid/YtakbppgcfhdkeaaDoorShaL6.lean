/-
  Layer 6: the law ShaSums.
-/
import Derived.Test.YtakbppgcfhdkeaaDoorShaL1
import Derived.Test.YtakbppgcfhdkeaaDoorShaR3
import Derived.Test.YtakbppgcfhdkeaaDoorKept
namespace Go.Proofs.YtakbppgcfhdkeaaDoor
open Go.RowKit
set_option linter.unusedVariables false
set_option maxRecDepth 100000

set_option maxHeartbeats 4000000 in
theorem shaSums_walk (A : Option Addr) (n c : Nat) (xs : List UInt8) (w : World) (hT : Tabs w) (hn : n ≤ c) (hc : c ≤ maxLen) (hx : xs.length = n) (hr : Rd w w.heap.size A xs) :
    Calls Tryd.prog 3 #[.slice A n c] w fun e w' => e = .returned (.bool true) ∧ Below w.heap.size w w' := by
  have h2 := hT.2.2
  by_cases hbig : 16384 < n
  · have hb : decide ((n : Int) > 16384) = true := by simp; omega
    go_enter Tryd.func3, Tryd.ntmps3
    go_wp2_with (go_at_call 10; refine (works_any _ hT).mono ?_; rintro e w1 ⟨rfl, hB⟩)
    go_ret
    exact ⟨rfl, hB⟩
  · have hb : decide ((n : Int) > 16384) = false := by simp; omega
    have HX := Lib.hid hx
    have HR := Lib.hid hr
    have HC := Lib.hid hc
    obtain ⟨D, hD⟩ : ∃ D, D = dig xs := ⟨_, rfl⟩
    have HD := Lib.hid hD
    have heq := equal_same D (by rw [hD, length_dig])
    clear hx hr hc hD
    go_enter Tryd.func3, Tryd.ntmps3
    go_wp2_with fail
    refine (roomy_any _ _ _ _ _ (by omega) HX.out HR.out).mono ?_
    rintro e w1 ⟨g, rfl, hg, hrow, hb1⟩
    have hz := hb1.size
    have hin : Rd w1 w1.heap.size (some ⟨g, 0, none⟩) xs := hrow.rd 0 xs (fun j hj => by rw [Nat.zero_add, List.getElem?_append_left hj])
    go_wp2_with fail
    refine (sum_any _ _ _ _ _ (hT.below hb1 h2) (by omega) (by unfold maxLen; omega) HX.out hin (by omega)).mono ?_
    rintro e w2 ⟨rfl, hb2⟩
    rw [← HD.out]
    have hB2 : Below w.heap.size w w2 := hb1.trans (hb2.mono hz)
    have hrow2 := hrow.below hb2 hrow.lt
    clear hin hb2 hb1 hrow hz
    go_wp2_with fail
    refine (refSum_any _ _ _ _ _ (by omega) HX.out ((HR.out.below hB2).more hB2.size)).mono ?_
    rintro e w3 ⟨rfl, hb3⟩
    rw [← HD.out]
    have hB3 : Below w.heap.size w w3 := hB2.trans (hb3.mono hB2.size)
    have hrow3 := hrow2.below hb3 hrow2.lt
    have hr3 : Rd w3 w.heap.size A xs := HR.out.below hB3
    clear hb3 hB2 hrow2
    go_wp2_with fail
    refine (kept_any _ _ _ _ _ _ _ (by omega) HX.out hr3 hrow3).mono ?_
    rintro e w4 ⟨rfl, q, rfl⟩
    have hB4 := below_drewN hB3 q
    clear hB3 hr3 hrow3
    go_wp2_with fail
    refine (works_any _ (hT.below hB4 h2)).mono ?_
    rintro e w5 ⟨rfl, hb5⟩
    go_wp2_with fail
    go_ret
    exact ⟨rfl, hB4.trans (hb5.mono hB4.size)⟩
end Go.Proofs.YtakbppgcfhdkeaaDoor
