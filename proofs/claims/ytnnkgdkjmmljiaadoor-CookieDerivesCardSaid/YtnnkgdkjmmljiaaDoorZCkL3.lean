/-
  Package cookie: CookieDerives, walked.
-/
import Derived.Test.YtnnkgdkjmmljiaaDoorZCkL1
namespace Go.Proofs.YtnnkgdkjmmljiaaDoor
open Go.RowKit
set_option linter.unusedVariables false

theorem derive_pos (ks ts : List UInt8) : (deriveC ks ts).1 ≠ 0 := by
  unfold deriveC
  dsimp only
  split <;> omega
set_option maxRecDepth 100000 in
set_option maxHeartbeats 4000000 in
theorem cookieDerives_walk (A : Option Addr) (n c : Nat) (xs : List UInt8) (A' : Option Addr) (n' c' : Nat) (ys : List UInt8) (w : World) (hT : Tabs w) (hn : n ≤ c) (hc : c ≤ maxLen) (hx : xs.length = n) (hr : Rd w w.heap.size A xs)
    (hn' : n' ≤ c') (hc' : c' ≤ maxLen) (hy : ys.length = n') (hr' : Rd w w.heap.size A' ys) :
    Calls Tryd.prog 8 #[.slice A n c, .slice A' n' c'] w fun e w' => e = .returned (.bool true) ∧ Below w.heap.size w w' := by
  have h2 := hT.2.2
  have HT := Lib.hid hT
  have HR := Lib.hid hr
  have HX := Lib.hid hx
  have HR' := Lib.hid hr'
  have HY := Lib.hid hy
  have HC := Lib.hid hc
  have HC' := Lib.hid hc'
  clear hT hx hr hc hy hr' hc'
  by_cases hbig : 4096 < n
  · have hb : decide ((n : Int) > 4096) = true := by simp; omega
    go_enter Tryd.func8, Tryd.ntmps8
    go_wp2_with fail
    refine (ckWorks_any w (HT.out.below (Below.refl _ _) h2)).mono ?_
    rintro e w9 ⟨rfl, hb9⟩
    go_wp2_with fail
    go_ret
    exact ⟨rfl, below_then (Below.refl _ _) (Nat.le_refl _) hb9⟩
  have hb : decide ((n : Int) > 4096) = false := by simp; omega
  by_cases hbig' : 4096 < n'
  · have hb' : decide ((n' : Int) > 4096) = true := by simp; omega
    go_enter Tryd.func8, Tryd.ntmps8
    go_wp2_with fail
    refine (ckWorks_any w (HT.out.below (Below.refl _ _) h2)).mono ?_
    rintro e w9 ⟨rfl, hb9⟩
    go_wp2_with fail
    go_ret
    exact ⟨rfl, below_then (Below.refl _ _) (Nat.le_refl _) hb9⟩
  have hb' : decide ((n' : Int) > 4096) = false := by simp; omega
  obtain ⟨t, ht⟩ : ∃ t, t = (deriveC xs ys).1 := ⟨_, rfl⟩
  obtain ⟨s, hs⟩ : ∃ s, s = (deriveC xs ys).2 := ⟨_, rfl⟩
  have HG := Lib.hid ht
  have HE := Lib.hid hs
  have hne : ((t : Int) != 0) = true := by rw [bne_iff_ne, ht]; have := derive_pos xs ys; omega
  clear ht hs
  go_enter Tryd.func8, Tryd.ntmps8
  rw [whole_eq 7]
  go_wp2_with fail
  refine (twin_any A' n' c' ys w (by omega) HY.out HR'.out).mono ?_
  rintro e w1 ⟨A1, c1, rfl, ho1, hb1⟩
  have hcap1 := ho1.cap
  have O1 := Lib.hid ho1
  have B1 := Lib.hid hb1
  clear ho1 hb1
  go_wp2_with fail
  refine (twin_any A n c xs w1 (by omega) HX.out ((HR.out.below B1.out).more B1.out.size)).mono ?_
  rintro e w2 ⟨A2, c2, rfl, ho2, hb2⟩
  have hcap2 := ho2.cap
  have O2 := Lib.hid ho2
  have B2 := Lib.hid (below_then B1.out (Nat.le_refl _) hb2)
  have P2 := Lib.hid (O1.out.below hb2 (Nat.le_refl _))
  clear ho2 hb2 O1 B1
  go_wp2_with fail
  refine (ckDerive_any A2 A1 n c2 n' c1 xs ys w2 (HT.out.below B2.out h2) hcap2.1 hcap2.2 HX.out O2.out.rd (by omega) hcap1.1 hcap1.2 HY.out P2.out.rd (by omega)).mono ?_
  rintro e w3 ⟨rfl, hb3⟩
  rw [← HG.out, ← HE.out]
  have B3 := Lib.hid (below_then B2.out (Nat.le_refl _) hb3)
  have P3 := Lib.hid (P2.out.below hb3 (Nat.le_refl _))
  clear hb3 B2 P2 O2
  go_wp2_with fail
  refine (refCkDerive_any A A' n c n' c' xs ys w3 HX.out ((HR.out.below B3.out).more B3.out.size) (by omega) HY.out ((HR'.out.below B3.out).more B3.out.size) (by omega)).mono ?_
  rintro e w4 ⟨rfl, hb4⟩
  rw [← HG.out, ← HE.out]
  have B4 := Lib.hid (below_then B3.out (Nat.le_refl _) hb4)
  have P4 := Lib.hid (P3.out.below hb4 (Nat.le_refl _))
  clear hb4 B3 P3
  go_wp2_with fail
  refine (ckDerive_any A A' n c n' c' xs ys w4 (HT.out.below B4.out h2) hn HC.out HX.out ((HR.out.below B4.out).more B4.out.size) (by omega) hn' HC'.out HY.out ((HR'.out.below B4.out).more B4.out.size) (by omega)).mono ?_
  rintro e w5 ⟨rfl, hb5⟩
  rw [← HG.out, ← HE.out]
  have B5 := Lib.hid (below_then B4.out (Nat.le_refl _) hb5)
  have P5 := Lib.hid (P4.out.below hb5 (Nat.le_refl _))
  clear hb5 B4 P4
  go_wp2_with fail
  rw [← whole_eq 7]
  go_wp2_with fail
  refine (sameL_yes A1 A' n' c1 c' ys w5 HY.out _ _ P5.out.rd (HR'.out.below B5.out)).mono ?_
  rintro e w8 ⟨rfl, hb8⟩
  have B8 := Lib.hid (below_then B5.out (Nat.le_refl _) hb8)
  clear hb8
  go_wp2_with fail
  refine (ckWorks_any w8 (HT.out.below B8.out h2)).mono ?_
  rintro e w9 ⟨rfl, hb9⟩
  go_wp2_with fail
  go_ret
  exact ⟨rfl, below_then B8.out (Nat.le_refl _) hb9⟩

end Go.Proofs.YtnnkgdkjmmljiaaDoor
