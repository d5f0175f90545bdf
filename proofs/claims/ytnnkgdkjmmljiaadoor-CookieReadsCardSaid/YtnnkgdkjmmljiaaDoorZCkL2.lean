/-
  Package cookie: CookieReads, walked.
-/
import Derived.Test.YtnnkgdkjmmljiaaDoorZCkL1
namespace Go.Proofs.YtnnkgdkjmmljiaaDoor
open Go.RowKit
set_option linter.unusedVariables false

set_option maxRecDepth 100000 in
set_option maxHeartbeats 4000000 in
theorem cookieReads_walk (A : Option Addr) (n c : Nat) (xs : List UInt8) (A' : Option Addr) (n' c' : Nat) (ys : List UInt8) (w : World) (hT : Tabs w) (hn : n ≤ c) (hc : c ≤ maxLen) (hx : xs.length = n) (hr : Rd w w.heap.size A xs)
    (hn' : n' ≤ c') (hc' : c' ≤ maxLen) (hy : ys.length = n') (hr' : Rd w w.heap.size A' ys) :
    Calls Tryd.prog 4 #[.slice A n c, .slice A' n' c'] w fun e w' => e = .returned (.bool true) ∧ Below w.heap.size w w' := by
  have h2 := hT.2.2
  have HT := Lib.hid hT
  have HR := Lib.hid hr
  have HX := Lib.hid hx
  have HR' := Lib.hid hr'
  have HY := Lib.hid hy
  have HC := Lib.hid hc
  have HC' := Lib.hid hc'
  clear hT hx hr hc hy hr' hc'
  by_cases hbig : 4096 < n
  · have hb : decide ((n : Int) > 4096) = true := by simp; omega
    go_enter Tryd.func4, Tryd.ntmps4
    go_wp2_with fail
    refine (ckWorks_any w (HT.out.below (Below.refl _ _) h2)).mono ?_
    rintro e w9 ⟨rfl, hb9⟩
    go_wp2_with fail
    go_ret
    exact ⟨rfl, below_then (Below.refl _ _) (Nat.le_refl _) hb9⟩
  have hb : decide ((n : Int) > 4096) = false := by simp; omega
  by_cases hbig' : 4096 < n'
  · have hb' : decide ((n' : Int) > 4096) = true := by simp; omega
    go_enter Tryd.func4, Tryd.ntmps4
    go_wp2_with fail
    refine (ckWorks_any w (HT.out.below (Below.refl _ _) h2)).mono ?_
    rintro e w9 ⟨rfl, hb9⟩
    go_wp2_with fail
    go_ret
    exact ⟨rfl, below_then (Below.refl _ _) (Nat.le_refl _) hb9⟩
  have hb' : decide ((n' : Int) > 4096) = false := by simp; omega
  obtain ⟨G, hG⟩ : ∃ G, G = ansC (rdC xs ys) := ⟨_, rfl⟩
  obtain ⟨E, hE⟩ : ∃ E, E = errC (rdC xs ys) := ⟨_, rfl⟩
  have HG := Lib.hid hG
  have HE := Lib.hid hE
  clear hG hE
  go_enter Tryd.func4, Tryd.ntmps4
  rw [whole_eq 7]
  go_wp2_with fail
  refine (twin_any A n c xs w (by omega) HX.out HR.out).mono ?_
  rintro e w1 ⟨A1, c1, rfl, ho1, hb1⟩
  have hcap1 := ho1.cap
  have O1 := Lib.hid ho1
  have B1 := Lib.hid hb1
  clear ho1 hb1
  go_wp2_with fail
  refine (twin_any A' n' c' ys w1 (by omega) HY.out ((HR'.out.below B1.out).more B1.out.size)).mono ?_
  rintro e w2 ⟨A2, c2, rfl, ho2, hb2⟩
  have hcap2 := ho2.cap
  have O2 := Lib.hid ho2
  have B2 := Lib.hid (below_then B1.out (Nat.le_refl _) hb2)
  have P2 := Lib.hid (O1.out.below hb2 (Nat.le_refl _))
  clear ho2 hb2 O1 B1
  go_wp2_with fail
  refine (ckRead_any A1 A2 n c1 n' c2 xs ys w2 (HT.out.below B2.out h2) hcap1.1 hcap1.2 HX.out P2.out.rd (by omega) hcap2.1 hcap2.2 HY.out O2.out.rd).mono ?_
  rintro e w3 ⟨rfl, hb3⟩
  rw [← HG.out, ← HE.out]
  have B3 := Lib.hid (below_then B2.out (Nat.le_refl _) hb3)
  have P3 := Lib.hid (P2.out.below hb3 (Nat.le_refl _))
  have O3 := Lib.hid (O2.out.below hb3 (Nat.le_refl _))
  clear hb3 B2 P2 O2
  have B4 := Lib.hid (B3.out.alloc B3.out.size (.cells #[.int .i64 G.b, .int .u32 (G.ot : Int), .int .u32 (G.pt : Int), .int .u32 (G.os : Int), .int .u32 (G.ps : Int), .int .u32 (G.rw : Int), .int .u16 (G.ou : Int), .int .u16 (G.inn : Int)] 26))
  have P4 := Lib.hid (P3.out.alloc (.cells #[.int .i64 G.b, .int .u32 (G.ot : Int), .int .u32 (G.pt : Int), .int .u32 (G.os : Int), .int .u32 (G.ps : Int), .int .u32 (G.rw : Int), .int .u16 (G.ou : Int), .int .u16 (G.inn : Int)] 26))
  have O4 := Lib.hid (O3.out.alloc (.cells #[.int .i64 G.b, .int .u32 (G.ot : Int), .int .u32 (G.pt : Int), .int .u32 (G.os : Int), .int .u32 (G.ps : Int), .int .u32 (G.rw : Int), .int .u16 (G.ou : Int), .int .u16 (G.inn : Int)] 26))
  have D4 : Hid (Blk (w3.alloc (.cells #[.int .i64 G.b, .int .u32 (G.ot : Int), .int .u32 (G.pt : Int), .int .u32 (G.os : Int), .int .u32 (G.ps : Int), .int .u32 (G.rw : Int), .int .u16 (G.ou : Int), .int .u16 (G.inn : Int)] 26)) w3.heap.size 26 #[.int .i64 G.b, .int .u32 (G.ot : Int), .int .u32 (G.pt : Int), .int .u32 (G.os : Int), .int .u32 (G.ps : Int), .int .u32 (G.rw : Int), .int .u16 (G.ou : Int), .int .u16 (G.inn : Int)]) := Lib.hid (Blk.new _ _ _)
  go_wp2_with fail
  generalize w3.alloc (.cells #[.int .i64 G.b, .int .u32 (G.ot : Int), .int .u32 (G.pt : Int), .int .u32 (G.os : Int), .int .u32 (G.ps : Int), .int .u32 (G.rw : Int), .int .u16 (G.ou : Int), .int .u16 (G.inn : Int)] 26) = w4 at B4 P4 O4 D4 ⊢
  generalize w3.heap.size = q4 at D4 ⊢
  refine (refCkRead_any A A' n c n' c' xs ys w4 HX.out ((HR.out.below B4.out).more B4.out.size) (by omega) hn' HC'.out HY.out ((HR'.out.below B4.out).more B4.out.size)).mono ?_
  rintro e w5 ⟨rfl, hb5⟩
  rw [← HG.out, ← HE.out]
  have B5 := Lib.hid (below_then B4.out (Nat.le_refl _) hb5)
  have P5 := Lib.hid (P4.out.below hb5 (Nat.le_refl _))
  have O5 := Lib.hid (O4.out.below hb5 (Nat.le_refl _))
  have D5 := Lib.hid (D4.out.below hb5 D4.out.lt)
  clear hb5 B4 P4 O4 D4
  have B6 := Lib.hid (B5.out.alloc B5.out.size (.cells #[.int .i64 G.b, .int .u32 (G.ot : Int), .int .u32 (G.pt : Int), .int .u32 (G.os : Int), .int .u32 (G.ps : Int), .int .u32 (G.rw : Int), .int .u16 (G.ou : Int), .int .u16 (G.inn : Int)] 26))
  have P6 := Lib.hid (P5.out.alloc (.cells #[.int .i64 G.b, .int .u32 (G.ot : Int), .int .u32 (G.pt : Int), .int .u32 (G.os : Int), .int .u32 (G.ps : Int), .int .u32 (G.rw : Int), .int .u16 (G.ou : Int), .int .u16 (G.inn : Int)] 26))
  have O6 := Lib.hid (O5.out.alloc (.cells #[.int .i64 G.b, .int .u32 (G.ot : Int), .int .u32 (G.pt : Int), .int .u32 (G.os : Int), .int .u32 (G.ps : Int), .int .u32 (G.rw : Int), .int .u16 (G.ou : Int), .int .u16 (G.inn : Int)] 26))
  have D6 := Lib.hid (D5.out.alloc (.cells #[.int .i64 G.b, .int .u32 (G.ot : Int), .int .u32 (G.pt : Int), .int .u32 (G.os : Int), .int .u32 (G.ps : Int), .int .u32 (G.rw : Int), .int .u16 (G.ou : Int), .int .u16 (G.inn : Int)] 26))
  have F6 : Hid (Blk (w5.alloc (.cells #[.int .i64 G.b, .int .u32 (G.ot : Int), .int .u32 (G.pt : Int), .int .u32 (G.os : Int), .int .u32 (G.ps : Int), .int .u32 (G.rw : Int), .int .u16 (G.ou : Int), .int .u16 (G.inn : Int)] 26)) w5.heap.size 26 #[.int .i64 G.b, .int .u32 (G.ot : Int), .int .u32 (G.pt : Int), .int .u32 (G.os : Int), .int .u32 (G.ps : Int), .int .u32 (G.rw : Int), .int .u16 (G.ou : Int), .int .u16 (G.inn : Int)]) := Lib.hid (Blk.new _ _ _)
  go_wp2_with fail
  generalize w5.alloc (.cells #[.int .i64 G.b, .int .u32 (G.ot : Int), .int .u32 (G.pt : Int), .int .u32 (G.os : Int), .int .u32 (G.ps : Int), .int .u32 (G.rw : Int), .int .u16 (G.ou : Int), .int .u16 (G.inn : Int)] 26) = w6 at B6 P6 O6 D6 F6 ⊢
  generalize w5.heap.size = q6 at F6 ⊢
  have d0 : w6.cell? ⟨q4, 0, none⟩ = some (.int .i64 G.b) := D6.out.cell 0
  have d1 : w6.cell? ⟨q4, 1, none⟩ = some (.int .u32 (G.ot : Int)) := D6.out.cell 1
  have d2 : w6.cell? ⟨q4, 2, none⟩ = some (.int .u32 (G.pt : Int)) := D6.out.cell 2
  have d3 : w6.cell? ⟨q4, 3, none⟩ = some (.int .u32 (G.os : Int)) := D6.out.cell 3
  have d4 : w6.cell? ⟨q4, 4, none⟩ = some (.int .u32 (G.ps : Int)) := D6.out.cell 4
  have d5 : w6.cell? ⟨q4, 5, none⟩ = some (.int .u32 (G.rw : Int)) := D6.out.cell 5
  have d6 : w6.cell? ⟨q4, 6, none⟩ = some (.int .u16 (G.ou : Int)) := D6.out.cell 6
  have d7 : w6.cell? ⟨q4, 7, none⟩ = some (.int .u16 (G.inn : Int)) := D6.out.cell 7
  have f0 : w6.cell? ⟨q6, 0, none⟩ = some (.int .i64 G.b) := F6.out.cell 0
  have f1 : w6.cell? ⟨q6, 1, none⟩ = some (.int .u32 (G.ot : Int)) := F6.out.cell 1
  have f2 : w6.cell? ⟨q6, 2, none⟩ = some (.int .u32 (G.pt : Int)) := F6.out.cell 2
  have f3 : w6.cell? ⟨q6, 3, none⟩ = some (.int .u32 (G.os : Int)) := F6.out.cell 3
  have f4 : w6.cell? ⟨q6, 4, none⟩ = some (.int .u32 (G.ps : Int)) := F6.out.cell 4
  have f5 : w6.cell? ⟨q6, 5, none⟩ = some (.int .u32 (G.rw : Int)) := F6.out.cell 5
  have f6 : w6.cell? ⟨q6, 6, none⟩ = some (.int .u16 (G.ou : Int)) := F6.out.cell 6
  have f7 : w6.cell? ⟨q6, 7, none⟩ = some (.int .u16 (G.inn : Int)) := F6.out.cell 7
  rw [← whole_eq 7]
  go_wp2_with fail
  clear d0 d1 d2 d3 d4 d5 d6 d7 f0 f1 f2 f3 f4 f5 f6 f7
  refine (sameL_yes A1 A n c1 c xs w6 HX.out _ _ P6.out.rd (HR.out.below B6.out)).mono ?_
  rintro e w7 ⟨rfl, hb7⟩
  have B7 := Lib.hid (below_then B6.out (Nat.le_refl _) hb7)
  have O7 := Lib.hid (O6.out.below hb7 (Nat.le_refl _))
  clear hb7
  go_wp2_with fail
  refine (sameL_yes A2 A' n' c2 c' ys w7 HY.out _ _ O7.out.rd (HR'.out.below B7.out)).mono ?_
  rintro e w8 ⟨rfl, hb8⟩
  have B8 := Lib.hid (below_then B7.out (Nat.le_refl _) hb8)
  clear hb8
  go_wp2_with fail
  refine (ckWorks_any w8 (HT.out.below B8.out h2)).mono ?_
  rintro e w9 ⟨rfl, hb9⟩
  go_wp2_with fail
  go_ret
  exact ⟨rfl, below_then B8.out (Nat.le_refl _) hb9⟩

end Go.Proofs.YtnnkgdkjmmljiaaDoor
