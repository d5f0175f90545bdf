/-
  Layer 7: the law MacSums.
-/
import Derived.Test.YtdhbafmccphelaaDoorMacW
import Derived.Test.YtdhbafmccphelaaDoorMacR2
import Derived.Test.YtdhbafmccphelaaDoorKept
namespace Go.Proofs.YtdhbafmccphelaaDoor
open Go.RowKit
set_option linter.unusedVariables false
set_option maxRecDepth 100000

set_option maxHeartbeats 4000000 in
theorem macSums_walk (A : Option Addr) (n c : Nat) (xs : List UInt8) (A' : Option Addr) (n' c' : Nat) (ys : List UInt8) (w : World) (hT : Tabs w) (hn : n ≤ c) (hc : c ≤ maxLen) (hx : xs.length = n) (hr : Rd w w.heap.size A xs)
    (hn' : n' ≤ c') (hc' : c' ≤ maxLen) (hy : ys.length = n') (hr' : Rd w w.heap.size A' ys) :
    Calls Tryd.prog 3 #[.slice A n c, .slice A' n' c'] w fun e w' => e = .returned (.bool true) ∧ Below w.heap.size w w' := by
  have h2 := hT.2.2
  by_cases hbig : 4096 < n
  · have hb : decide ((n : Int) > 4096) = true := by simp; omega
    go_enter Tryd.func3, Tryd.ntmps3
    go_wp2_with (go_at_call 8; refine (works_any _ hT).mono ?_; rintro e w1 ⟨rfl, hB⟩)
    go_ret
    exact ⟨rfl, hB⟩
  · have hb : decide ((n : Int) > 4096) = false := by simp; omega
    by_cases hbig' : 8192 < n'
    · have hb' : decide ((n' : Int) > 8192) = true := by simp; omega
      go_enter Tryd.func3, Tryd.ntmps3
      go_wp2_with (go_at_call 8; refine (works_any _ hT).mono ?_; rintro e w1 ⟨rfl, hB⟩)
      go_ret
      exact ⟨rfl, hB⟩
    · have hb' : decide ((n' : Int) > 8192) = false := by simp; omega
      have HX := Lib.hid hx
      have HY := Lib.hid hy
      have HR := Lib.hid hr
      have HR' := Lib.hid hr'
      have HC := Lib.hid hc
      have HC' := Lib.hid hc'
      obtain ⟨D, hD⟩ : ∃ D, D = mac xs ys := ⟨_, rfl⟩
      have HD := Lib.hid hD
      have heq := equal_same D (by rw [hD, length_mac])
      clear hx hr hc hD hy hr' hc'
      go_enter Tryd.func3, Tryd.ntmps3
      go_wp2_with fail
      refine (roomy_any _ _ _ _ _ (by omega) HX.out HR.out).mono ?_
      rintro e w1 ⟨g, rfl, hg, hrow, hb1⟩
      have hz := hb1.size
      go_wp2_with fail
      refine (roomy_any _ _ _ _ _ (by omega) HY.out ((HR'.out.below hb1).more hz)).mono ?_
      rintro e w2 ⟨g', rfl, hg', hrow', hb2⟩
      have hrow1 := hrow.below hb2 hrow.lt
      have B2 := hb1.trans (hb2.mono hz)
      clear hrow hb2 hb1 hz
      have hin : Rd w2 w2.heap.size (some ⟨g, 0, none⟩) xs := hrow1.rd 0 xs (fun j hj => by rw [Nat.zero_add, List.getElem?_append_left hj])
      have hin' : Rd w2 w2.heap.size (some ⟨g', 0, none⟩) ys := hrow'.rd 0 ys (fun j hj => by rw [Nat.zero_add, List.getElem?_append_left hj])
      go_wp2_with fail
      refine (macSum_any _ _ _ _ _ _ _ _ _ (hT.below B2 h2) (by omega) (by unfold maxLen; omega) HX.out hin (by omega) (by omega) (by unfold maxLen; omega) HY.out hin' (by omega)).mono ?_
      rintro e w3 ⟨rfl, hb3⟩
      rw [← HD.out]
      have B3 : Below w.heap.size w w3 := B2.trans (hb3.mono B2.size)
      have hrow3 := hrow1.below hb3 hrow1.lt
      have hrow3' := hrow'.below hb3 hrow'.lt
      clear hin hin' hb3 B2 hrow1 hrow'
      go_wp2_with fail
      refine (refMac_any _ _ _ _ _ _ _ _ _ (by omega) HX.out ((HR.out.below B3).more B3.size) (by omega) HY.out ((HR'.out.below B3).more B3.size)).mono ?_
      rintro e w4 ⟨rfl, hb4⟩
      rw [← HD.out]
      have B4 : Below w.heap.size w w4 := B3.trans (hb4.mono B3.size)
      have hrow4 := hrow3.below hb4 hrow3.lt
      have hrow4' := hrow3'.below hb4 hrow3'.lt
      have r4 : Rd w4 w.heap.size A xs := HR.out.below B4
      have r4' : Rd w4 w.heap.size A' ys := HR'.out.below B4
      clear hb4 B3 hrow3 hrow3'
      go_wp2_with fail
      refine (kept_any _ _ _ _ _ _ _ (by omega) HX.out r4 hrow4).mono ?_
      rintro e w5 ⟨rfl, q, rfl⟩
      go_wp2_with fail
      refine (kept_any w.heap.size _ _ _ _ _ _ (by omega) HY.out (r4'.drewN q) (hrow4'.drewN q)).mono ?_
      rintro e w6 ⟨rfl, q', rfl⟩
      have B6 := below_drewN B4 (q + q')
      clear B4 r4 r4' hrow4 hrow4'
      go_wp2_with fail
      refine (works_any _ (hT.below B6 h2)).mono ?_
      rintro e w7 ⟨rfl, hb7⟩
      go_wp2_with fail
      go_ret
      exact ⟨rfl, B6.trans (hb7.mono B6.size)⟩
end Go.Proofs.YtdhbafmccphelaaDoor
