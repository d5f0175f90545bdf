/-
  got, told whole; BodiesOnce, walked.
-/
import Derived.Test.YtalgkokgaibloaaBodGot
import Derived.Test.YtalgkokgaibloaaNums
namespace Go.Proofs.Ytalgkokgaibloaa
open Go.RowKit
set_option linter.unusedVariables false

theorem kindD {k f : UInt8} {xs : List UInt8} (h : okD k f xs = true) : k = 0 := by unfold okD at h; simp only [Bool.and_eq_true, decide_eq_true_eq] at h; exact h.2.1
theorem kindI {k f : UInt8} {xs : List UInt8} (h : okI k f xs = true) : k = 1 ∨ k = 2 := by unfold okI validI at h; simp only [Bool.and_eq_true, decide_eq_true_eq] at h; exact h.1.2.2.2.imp id And.left
theorem kindS {k f : UInt8} {xs : List UInt8} (h : okS k f xs = true) : k = 3 := by unfold okS at h; simp only [Bool.and_eq_true, decide_eq_true_eq] at h; exact h.2.1
theorem kindF {k f : UInt8} {xs : List UInt8} (h : okF k f xs = true) : k = 192 := by unfold okF at h; simp only [decide_eq_true_eq] at h; exact h.1
theorem kindT {k f : UInt8} {xs : List UInt8} (h : okT k f xs = true) : k = 4 ∨ k = 5 := by unfold okT at h; simp only [Bool.and_eq_true, decide_eq_true_eq] at h; exact h.1
theorem kindC {k f : UInt8} {xs : List UInt8} (h : okC k f xs = true) : k = 7 := by unfold okC at h; simp only [decide_eq_true_eq] at h; exact h.1
def known (k : UInt8) : Prop := k = 0 ∨ k = 1 ∨ k = 2 ∨ k = 3 ∨ k = 4 ∨ k = 5 ∨ k = 7 ∨ k = 192
/-- By how many Gets a chunk is taken. -/
def cntG (k f : UInt8) (xs : List UInt8) : Int := if okD k f xs || okI k f xs || okS k f xs || okF k f xs || okT k f xs || okC k f xs then 1 else 0
theorem not_of {b : Bool} (h : b = true → False) : b = false := by cases b with | false => rfl | true => exact (h rfl).elim
theorem got_any (k f : UInt8) (A : Option Addr) (n c : Nat) (xs : List UInt8) (w : World) (hn : n ≤ 131072) (hc : n ≤ c) (hcm : c ≤ maxLen) (hx : xs.length = n) (hr : Rd w w.heap.size A xs) :
    Calls Try.prog 47 #[.agg #[.int .u8 (k.toNat : Int), .int .u8 (f.toNat : Int), .slice A n c]] w fun e w' => e = .returned (.tuple #[.int .i64 (cntG k f xs), .bool true]) ∧ Below w.heap.size w w' := by
  unfold cntG
  cases hD : okD k f xs
  rotate_left
  · have hk := kindD hD
    have hI : okI k f xs = false := not_of fun h => by have h2 := kindI h; clear h; rcases hk with rfl <;> rcases h2 with h2 | h2 <;> exact absurd h2 (by decide)
    have hS : okS k f xs = false := not_of fun h => by have h2 := kindS h; clear h; rcases hk with rfl <;> rcases h2 with h2 <;> exact absurd h2 (by decide)
    have hF : okF k f xs = false := not_of fun h => by have h2 := kindF h; clear h; rcases hk with rfl <;> rcases h2 with h2 <;> exact absurd h2 (by decide)
    have hT : okT k f xs = false := not_of fun h => by have h2 := kindT h; clear h; rcases hk with rfl <;> rcases h2 with h2 | h2 <;> exact absurd h2 (by decide)
    have hC : okC k f xs = false := not_of fun h => by have h2 := kindC h; clear h; rcases hk with rfl <;> rcases h2 with h2 <;> exact absurd h2 (by decide)
    have := got_D k f A n c xs w hn hc hcm hx hr hD hI hS hF hT hC
    simpa [hD, hI, hS, hF, hT, hC] using this
  cases hI : okI k f xs
  rotate_left
  · have hk := kindI hI
    have hS : okS k f xs = false := not_of fun h => by have h2 := kindS h; clear h; rcases hk with rfl | rfl <;> rcases h2 with h2 <;> exact absurd h2 (by decide)
    have hF : okF k f xs = false := not_of fun h => by have h2 := kindF h; clear h; rcases hk with rfl | rfl <;> rcases h2 with h2 <;> exact absurd h2 (by decide)
    have hT : okT k f xs = false := not_of fun h => by have h2 := kindT h; clear h; rcases hk with rfl | rfl <;> rcases h2 with h2 | h2 <;> exact absurd h2 (by decide)
    have hC : okC k f xs = false := not_of fun h => by have h2 := kindC h; clear h; rcases hk with rfl | rfl <;> rcases h2 with h2 <;> exact absurd h2 (by decide)
    have := got_I k f A n c xs w hn hc hcm hx hr hD hI hS hF hT hC
    simpa [hD, hI, hS, hF, hT, hC] using this
  cases hS : okS k f xs
  rotate_left
  · have hk := kindS hS
    have hF : okF k f xs = false := not_of fun h => by have h2 := kindF h; clear h; rcases hk with rfl <;> rcases h2 with h2 <;> exact absurd h2 (by decide)
    have hT : okT k f xs = false := not_of fun h => by have h2 := kindT h; clear h; rcases hk with rfl <;> rcases h2 with h2 | h2 <;> exact absurd h2 (by decide)
    have hC : okC k f xs = false := not_of fun h => by have h2 := kindC h; clear h; rcases hk with rfl <;> rcases h2 with h2 <;> exact absurd h2 (by decide)
    have := got_S k f A n c xs w hn hc hcm hx hr hD hI hS hF hT hC
    simpa [hD, hI, hS, hF, hT, hC] using this
  cases hF : okF k f xs
  rotate_left
  · have hk := kindF hF
    have hT : okT k f xs = false := not_of fun h => by have h2 := kindT h; clear h; rcases hk with rfl <;> rcases h2 with h2 | h2 <;> exact absurd h2 (by decide)
    have hC : okC k f xs = false := not_of fun h => by have h2 := kindC h; clear h; rcases hk with rfl <;> rcases h2 with h2 <;> exact absurd h2 (by decide)
    have := got_F k f A n c xs w hn hc hcm hx hr hD hI hS hF hT hC
    simpa [hD, hI, hS, hF, hT, hC] using this
  cases hT : okT k f xs
  rotate_left
  · have hk := kindT hT
    have hC : okC k f xs = false := not_of fun h => by have h2 := kindC h; clear h; rcases hk with rfl | rfl <;> rcases h2 with h2 <;> exact absurd h2 (by decide)
    have := got_T k f A n c xs w hn hc hcm hx hr hD hI hS hF hT hC
    simpa [hD, hI, hS, hF, hT, hC] using this
  cases hC : okC k f xs
  rotate_left
  · have hk := kindC hC
    have := got_C k f A n c xs w hn hc hcm hx hr hD hI hS hF hT hC
    simpa [hD, hI, hS, hF, hT, hC] using this
  have := got_none k f A n c xs w hn hc hcm hx hr hD hI hS hF hT hC
  simpa [hD, hI, hS, hF, hT, hC] using this
theorem cnt_known (k f : UInt8) (xs : List UInt8) : cntG k f xs = 0 ∨ (cntG k f xs = 1 ∧ known k) := by
  unfold cntG
  split
  · next h =>
    refine .inr ⟨rfl, ?_⟩
    simp only [Bool.or_eq_true] at h
    unfold known
    rcases h with ((((h | h) | h) | h) | h) | h
    · have := kindD h; simp [this]
    · have := kindI h; rcases this with h | h <;> simp [h]
    · have := kindS h; simp [this]
    · have := kindF h; simp [this]
    · have := kindT h; rcases this with h | h <;> simp [h]
    · have := kindC h; simp [this]
  · exact .inl rfl
set_option maxRecDepth 100000 in
set_option maxHeartbeats 4000000 in
theorem bodiesOnce_big (k f : UInt8) (A : Option Addr) (n c : Nat) (w : World) (hc : n ≤ c) (hcm : c ≤ maxLen) (h : 8192 < n) :
    Calls Try.prog 9 #[.agg #[.int .u8 (k.toNat : Int), .int .u8 (f.toNat : Int), .slice A n c]] w fun e w' => e = .returned (.bool true) ∧ Below w.heap.size w w' := by
  have HLG : Hid (∀ W, Calls Try.prog 12 #[.agg #[.int .u8 (k.toNat : Int), .int .u8 (f.toNat : Int), .slice A n c]] W fun e w' => e = .returned (.bool true) ∧ Below W.heap.size W w') := Lib.hid fun W => by
    have := large_any (k.toNat : Int) (f.toNat : Int) A n c W (Nat.le_trans hc hcm)
    rwa [decide_eq_true h] at this
  have b0 : Blk (w.alloc (.cells #[.int .u8 (k.toNat : Int), .int .u8 (f.toNat : Int), .slice A n c] 28)) w.heap.size 28 #[.int .u8 (k.toNat : Int), .int .u8 (f.toNat : Int), .slice A n c] := Blk.new w 28 #[.int .u8 (k.toNat : Int), .int .u8 (f.toNat : Int), .slice A n c]
  have K0 := Lib.hid b0
  have B0 : Hid (Below w.heap.size w (w.alloc (.cells #[.int .u8 (k.toNat : Int), .int .u8 (f.toNat : Int), .slice A n c] 28))) := Lib.hid (Wr.below_ ((Wr.refl 5 w.heap.size w).alloc (.cells #[.int .u8 (k.toNat : Int), .int .u8 (f.toNat : Int), .slice A n c] 28)) (Nat.le_refl _))
  clear b0
  go_enter Try.func9, Try.ntmps9
  go_wp2_with fail
  generalize (w.alloc (.cells #[.int .u8 (k.toNat : Int), .int .u8 (f.toNat : Int), .slice A n c] 28)) = v0 at K0 B0 ⊢
  refine (HLG.out v0).mono ?_
  rintro e w1 ⟨rfl, hb⟩
  have B1 := Lib.hid (below_then B0.out (Nat.le_refl _) hb)
  clear hb
  go_wp2_with fail
  refine (works_any _).mono ?_
  rintro e w2 ⟨rfl, hb⟩
  go_wp2_with fail
  go_ret
  exact ⟨rfl, below_then B1.out (Nat.le_refl _) hb⟩
set_option maxRecDepth 100000 in
set_option maxHeartbeats 4000000 in
theorem bodiesOnce_none (k : UInt8) (f : UInt8) (A : Option Addr) (n c : Nat) (w : World) (HLG : Hid (∀ W, Calls Try.prog 12 #[.agg #[.int .u8 (k.toNat : Int), .int .u8 (f.toNat : Int), .slice A n c]] W fun e w' => e = .returned (.bool false) ∧ Below W.heap.size W w')) (HGT : Hid (∀ W, Below w.heap.size w W → Calls Try.prog 47 #[.agg #[.int .u8 (k.toNat : Int), .int .u8 (f.toNat : Int), .slice A n c]] W fun e w' => e = .returned (.tuple #[.int .i64 0, .bool true]) ∧ Below W.heap.size W w')) :
    Calls Try.prog 9 #[.agg #[.int .u8 (k.toNat : Int), .int .u8 (f.toNat : Int), .slice A n c]] w fun e w' => e = .returned (.bool true) ∧ Below w.heap.size w w' := by
  have b0 : Blk (w.alloc (.cells #[.int .u8 (k.toNat : Int), .int .u8 (f.toNat : Int), .slice A n c] 28)) w.heap.size 28 #[.int .u8 (k.toNat : Int), .int .u8 (f.toNat : Int), .slice A n c] := Blk.new w 28 #[.int .u8 (k.toNat : Int), .int .u8 (f.toNat : Int), .slice A n c]
  have K0 := Lib.hid b0
  have B0 : Hid (Below w.heap.size w (w.alloc (.cells #[.int .u8 (k.toNat : Int), .int .u8 (f.toNat : Int), .slice A n c] 28))) := Lib.hid (Wr.below_ ((Wr.refl 5 w.heap.size w).alloc (.cells #[.int .u8 (k.toNat : Int), .int .u8 (f.toNat : Int), .slice A n c] 28)) (Nat.le_refl _))
  clear b0
  go_enter Try.func9, Try.ntmps9
  go_wp2_with fail
  generalize (w.alloc (.cells #[.int .u8 (k.toNat : Int), .int .u8 (f.toNat : Int), .slice A n c] 28)) = v0 at K0 B0 ⊢
  refine (HLG.out v0).mono ?_
  rintro e w1 ⟨rfl, hb⟩
  have K1 := Lib.hid (K0.out.below hb K0.out.lt)
  have B1 := Lib.hid (below_then B0.out (Nat.le_refl _) hb)
  have x0 : w1.cell? ⟨w.heap.size, 0, none⟩ = some (.int .u8 (k.toNat : Int)) := K1.out.cell 0
  have x1 : w1.cell? ⟨w.heap.size, 1, none⟩ = some (.int .u8 (f.toNat : Int)) := K1.out.cell 1
  have x2 : w1.cell? ⟨w.heap.size, 2, none⟩ = some (.slice A n c) := K1.out.cell 2
  clear hb K0 B0
  go_wp2_with fail
  clear x0 x1 x2
  refine (HGT.out w1 B1.out).mono ?_
  rintro e w2 ⟨rfl, hb⟩
  have K2 := Lib.hid (K1.out.below hb K1.out.lt)
  have B2 := Lib.hid (below_then B1.out (Nat.le_refl _) hb)
  have x0 : w2.cell? ⟨w.heap.size, 0, none⟩ = some (.int .u8 (k.toNat : Int)) := K2.out.cell 0
  clear hb K1 B1
  go_wp2_with fail
  all_goals
    refine (works_any _).mono ?_
    rintro e w3 ⟨rfl, hb⟩
    go_wp2_with fail
    go_ret
    exact ⟨rfl, below_then B2.out (Nat.le_refl _) hb⟩
set_option maxRecDepth 100000 in
set_option maxHeartbeats 4000000 in
theorem bodiesOnce_k0 (f : UInt8) (A : Option Addr) (n c : Nat) (w : World) (HLG : Hid (∀ W, Calls Try.prog 12 #[.agg #[.int .u8 0, .int .u8 (f.toNat : Int), .slice A n c]] W fun e w' => e = .returned (.bool false) ∧ Below W.heap.size W w')) (HGT : Hid (∀ W, Below w.heap.size w W → Calls Try.prog 47 #[.agg #[.int .u8 0, .int .u8 (f.toNat : Int), .slice A n c]] W fun e w' => e = .returned (.tuple #[.int .i64 1, .bool true]) ∧ Below W.heap.size W w')) :
    Calls Try.prog 9 #[.agg #[.int .u8 0, .int .u8 (f.toNat : Int), .slice A n c]] w fun e w' => e = .returned (.bool true) ∧ Below w.heap.size w w' := by
  have b0 : Blk (w.alloc (.cells #[.int .u8 0, .int .u8 (f.toNat : Int), .slice A n c] 28)) w.heap.size 28 #[.int .u8 0, .int .u8 (f.toNat : Int), .slice A n c] := Blk.new w 28 #[.int .u8 0, .int .u8 (f.toNat : Int), .slice A n c]
  have K0 := Lib.hid b0
  have B0 : Hid (Below w.heap.size w (w.alloc (.cells #[.int .u8 0, .int .u8 (f.toNat : Int), .slice A n c] 28))) := Lib.hid (Wr.below_ ((Wr.refl 5 w.heap.size w).alloc (.cells #[.int .u8 0, .int .u8 (f.toNat : Int), .slice A n c] 28)) (Nat.le_refl _))
  clear b0
  go_enter Try.func9, Try.ntmps9
  go_wp2_with fail
  generalize (w.alloc (.cells #[.int .u8 0, .int .u8 (f.toNat : Int), .slice A n c] 28)) = v0 at K0 B0 ⊢
  refine (HLG.out v0).mono ?_
  rintro e w1 ⟨rfl, hb⟩
  have K1 := Lib.hid (K0.out.below hb K0.out.lt)
  have B1 := Lib.hid (below_then B0.out (Nat.le_refl _) hb)
  have x0 : w1.cell? ⟨w.heap.size, 0, none⟩ = some (.int .u8 0) := K1.out.cell 0
  have x1 : w1.cell? ⟨w.heap.size, 1, none⟩ = some (.int .u8 (f.toNat : Int)) := K1.out.cell 1
  have x2 : w1.cell? ⟨w.heap.size, 2, none⟩ = some (.slice A n c) := K1.out.cell 2
  clear hb K0 B0
  go_wp2_with fail
  clear x0 x1 x2
  refine (HGT.out w1 B1.out).mono ?_
  rintro e w2 ⟨rfl, hb⟩
  have K2 := Lib.hid (K1.out.below hb K1.out.lt)
  have B2 := Lib.hid (below_then B1.out (Nat.le_refl _) hb)
  have x0 : w2.cell? ⟨w.heap.size, 0, none⟩ = some (.int .u8 0) := K2.out.cell 0
  clear hb K1 B1
  go_wp2_with fail
  all_goals
    refine (works_any _).mono ?_
    rintro e w3 ⟨rfl, hb⟩
    go_wp2_with fail
    go_ret
    exact ⟨rfl, below_then B2.out (Nat.le_refl _) hb⟩
set_option maxRecDepth 100000 in
set_option maxHeartbeats 4000000 in
theorem bodiesOnce_k1 (f : UInt8) (A : Option Addr) (n c : Nat) (w : World) (HLG : Hid (∀ W, Calls Try.prog 12 #[.agg #[.int .u8 1, .int .u8 (f.toNat : Int), .slice A n c]] W fun e w' => e = .returned (.bool false) ∧ Below W.heap.size W w')) (HGT : Hid (∀ W, Below w.heap.size w W → Calls Try.prog 47 #[.agg #[.int .u8 1, .int .u8 (f.toNat : Int), .slice A n c]] W fun e w' => e = .returned (.tuple #[.int .i64 1, .bool true]) ∧ Below W.heap.size W w')) :
    Calls Try.prog 9 #[.agg #[.int .u8 1, .int .u8 (f.toNat : Int), .slice A n c]] w fun e w' => e = .returned (.bool true) ∧ Below w.heap.size w w' := by
  have b0 : Blk (w.alloc (.cells #[.int .u8 1, .int .u8 (f.toNat : Int), .slice A n c] 28)) w.heap.size 28 #[.int .u8 1, .int .u8 (f.toNat : Int), .slice A n c] := Blk.new w 28 #[.int .u8 1, .int .u8 (f.toNat : Int), .slice A n c]
  have K0 := Lib.hid b0
  have B0 : Hid (Below w.heap.size w (w.alloc (.cells #[.int .u8 1, .int .u8 (f.toNat : Int), .slice A n c] 28))) := Lib.hid (Wr.below_ ((Wr.refl 5 w.heap.size w).alloc (.cells #[.int .u8 1, .int .u8 (f.toNat : Int), .slice A n c] 28)) (Nat.le_refl _))
  clear b0
  go_enter Try.func9, Try.ntmps9
  go_wp2_with fail
  generalize (w.alloc (.cells #[.int .u8 1, .int .u8 (f.toNat : Int), .slice A n c] 28)) = v0 at K0 B0 ⊢
  refine (HLG.out v0).mono ?_
  rintro e w1 ⟨rfl, hb⟩
  have K1 := Lib.hid (K0.out.below hb K0.out.lt)
  have B1 := Lib.hid (below_then B0.out (Nat.le_refl _) hb)
  have x0 : w1.cell? ⟨w.heap.size, 0, none⟩ = some (.int .u8 1) := K1.out.cell 0
  have x1 : w1.cell? ⟨w.heap.size, 1, none⟩ = some (.int .u8 (f.toNat : Int)) := K1.out.cell 1
  have x2 : w1.cell? ⟨w.heap.size, 2, none⟩ = some (.slice A n c) := K1.out.cell 2
  clear hb K0 B0
  go_wp2_with fail
  clear x0 x1 x2
  refine (HGT.out w1 B1.out).mono ?_
  rintro e w2 ⟨rfl, hb⟩
  have K2 := Lib.hid (K1.out.below hb K1.out.lt)
  have B2 := Lib.hid (below_then B1.out (Nat.le_refl _) hb)
  have x0 : w2.cell? ⟨w.heap.size, 0, none⟩ = some (.int .u8 1) := K2.out.cell 0
  clear hb K1 B1
  go_wp2_with fail
  all_goals
    refine (works_any _).mono ?_
    rintro e w3 ⟨rfl, hb⟩
    go_wp2_with fail
    go_ret
    exact ⟨rfl, below_then B2.out (Nat.le_refl _) hb⟩
set_option maxRecDepth 100000 in
set_option maxHeartbeats 4000000 in
theorem bodiesOnce_k2 (f : UInt8) (A : Option Addr) (n c : Nat) (w : World) (HLG : Hid (∀ W, Calls Try.prog 12 #[.agg #[.int .u8 2, .int .u8 (f.toNat : Int), .slice A n c]] W fun e w' => e = .returned (.bool false) ∧ Below W.heap.size W w')) (HGT : Hid (∀ W, Below w.heap.size w W → Calls Try.prog 47 #[.agg #[.int .u8 2, .int .u8 (f.toNat : Int), .slice A n c]] W fun e w' => e = .returned (.tuple #[.int .i64 1, .bool true]) ∧ Below W.heap.size W w')) :
    Calls Try.prog 9 #[.agg #[.int .u8 2, .int .u8 (f.toNat : Int), .slice A n c]] w fun e w' => e = .returned (.bool true) ∧ Below w.heap.size w w' := by
  have b0 : Blk (w.alloc (.cells #[.int .u8 2, .int .u8 (f.toNat : Int), .slice A n c] 28)) w.heap.size 28 #[.int .u8 2, .int .u8 (f.toNat : Int), .slice A n c] := Blk.new w 28 #[.int .u8 2, .int .u8 (f.toNat : Int), .slice A n c]
  have K0 := Lib.hid b0
  have B0 : Hid (Below w.heap.size w (w.alloc (.cells #[.int .u8 2, .int .u8 (f.toNat : Int), .slice A n c] 28))) := Lib.hid (Wr.below_ ((Wr.refl 5 w.heap.size w).alloc (.cells #[.int .u8 2, .int .u8 (f.toNat : Int), .slice A n c] 28)) (Nat.le_refl _))
  clear b0
  go_enter Try.func9, Try.ntmps9
  go_wp2_with fail
  generalize (w.alloc (.cells #[.int .u8 2, .int .u8 (f.toNat : Int), .slice A n c] 28)) = v0 at K0 B0 ⊢
  refine (HLG.out v0).mono ?_
  rintro e w1 ⟨rfl, hb⟩
  have K1 := Lib.hid (K0.out.below hb K0.out.lt)
  have B1 := Lib.hid (below_then B0.out (Nat.le_refl _) hb)
  have x0 : w1.cell? ⟨w.heap.size, 0, none⟩ = some (.int .u8 2) := K1.out.cell 0
  have x1 : w1.cell? ⟨w.heap.size, 1, none⟩ = some (.int .u8 (f.toNat : Int)) := K1.out.cell 1
  have x2 : w1.cell? ⟨w.heap.size, 2, none⟩ = some (.slice A n c) := K1.out.cell 2
  clear hb K0 B0
  go_wp2_with fail
  clear x0 x1 x2
  refine (HGT.out w1 B1.out).mono ?_
  rintro e w2 ⟨rfl, hb⟩
  have K2 := Lib.hid (K1.out.below hb K1.out.lt)
  have B2 := Lib.hid (below_then B1.out (Nat.le_refl _) hb)
  have x0 : w2.cell? ⟨w.heap.size, 0, none⟩ = some (.int .u8 2) := K2.out.cell 0
  clear hb K1 B1
  go_wp2_with fail
  all_goals
    refine (works_any _).mono ?_
    rintro e w3 ⟨rfl, hb⟩
    go_wp2_with fail
    go_ret
    exact ⟨rfl, below_then B2.out (Nat.le_refl _) hb⟩
set_option maxRecDepth 100000 in
set_option maxHeartbeats 4000000 in
theorem bodiesOnce_k3 (f : UInt8) (A : Option Addr) (n c : Nat) (w : World) (HLG : Hid (∀ W, Calls Try.prog 12 #[.agg #[.int .u8 3, .int .u8 (f.toNat : Int), .slice A n c]] W fun e w' => e = .returned (.bool false) ∧ Below W.heap.size W w')) (HGT : Hid (∀ W, Below w.heap.size w W → Calls Try.prog 47 #[.agg #[.int .u8 3, .int .u8 (f.toNat : Int), .slice A n c]] W fun e w' => e = .returned (.tuple #[.int .i64 1, .bool true]) ∧ Below W.heap.size W w')) :
    Calls Try.prog 9 #[.agg #[.int .u8 3, .int .u8 (f.toNat : Int), .slice A n c]] w fun e w' => e = .returned (.bool true) ∧ Below w.heap.size w w' := by
  have b0 : Blk (w.alloc (.cells #[.int .u8 3, .int .u8 (f.toNat : Int), .slice A n c] 28)) w.heap.size 28 #[.int .u8 3, .int .u8 (f.toNat : Int), .slice A n c] := Blk.new w 28 #[.int .u8 3, .int .u8 (f.toNat : Int), .slice A n c]
  have K0 := Lib.hid b0
  have B0 : Hid (Below w.heap.size w (w.alloc (.cells #[.int .u8 3, .int .u8 (f.toNat : Int), .slice A n c] 28))) := Lib.hid (Wr.below_ ((Wr.refl 5 w.heap.size w).alloc (.cells #[.int .u8 3, .int .u8 (f.toNat : Int), .slice A n c] 28)) (Nat.le_refl _))
  clear b0
  go_enter Try.func9, Try.ntmps9
  go_wp2_with fail
  generalize (w.alloc (.cells #[.int .u8 3, .int .u8 (f.toNat : Int), .slice A n c] 28)) = v0 at K0 B0 ⊢
  refine (HLG.out v0).mono ?_
  rintro e w1 ⟨rfl, hb⟩
  have K1 := Lib.hid (K0.out.below hb K0.out.lt)
  have B1 := Lib.hid (below_then B0.out (Nat.le_refl _) hb)
  have x0 : w1.cell? ⟨w.heap.size, 0, none⟩ = some (.int .u8 3) := K1.out.cell 0
  have x1 : w1.cell? ⟨w.heap.size, 1, none⟩ = some (.int .u8 (f.toNat : Int)) := K1.out.cell 1
  have x2 : w1.cell? ⟨w.heap.size, 2, none⟩ = some (.slice A n c) := K1.out.cell 2
  clear hb K0 B0
  go_wp2_with fail
  clear x0 x1 x2
  refine (HGT.out w1 B1.out).mono ?_
  rintro e w2 ⟨rfl, hb⟩
  have K2 := Lib.hid (K1.out.below hb K1.out.lt)
  have B2 := Lib.hid (below_then B1.out (Nat.le_refl _) hb)
  have x0 : w2.cell? ⟨w.heap.size, 0, none⟩ = some (.int .u8 3) := K2.out.cell 0
  clear hb K1 B1
  go_wp2_with fail
  all_goals
    refine (works_any _).mono ?_
    rintro e w3 ⟨rfl, hb⟩
    go_wp2_with fail
    go_ret
    exact ⟨rfl, below_then B2.out (Nat.le_refl _) hb⟩
set_option maxRecDepth 100000 in
set_option maxHeartbeats 4000000 in
theorem bodiesOnce_k4 (f : UInt8) (A : Option Addr) (n c : Nat) (w : World) (HLG : Hid (∀ W, Calls Try.prog 12 #[.agg #[.int .u8 4, .int .u8 (f.toNat : Int), .slice A n c]] W fun e w' => e = .returned (.bool false) ∧ Below W.heap.size W w')) (HGT : Hid (∀ W, Below w.heap.size w W → Calls Try.prog 47 #[.agg #[.int .u8 4, .int .u8 (f.toNat : Int), .slice A n c]] W fun e w' => e = .returned (.tuple #[.int .i64 1, .bool true]) ∧ Below W.heap.size W w')) :
    Calls Try.prog 9 #[.agg #[.int .u8 4, .int .u8 (f.toNat : Int), .slice A n c]] w fun e w' => e = .returned (.bool true) ∧ Below w.heap.size w w' := by
  have b0 : Blk (w.alloc (.cells #[.int .u8 4, .int .u8 (f.toNat : Int), .slice A n c] 28)) w.heap.size 28 #[.int .u8 4, .int .u8 (f.toNat : Int), .slice A n c] := Blk.new w 28 #[.int .u8 4, .int .u8 (f.toNat : Int), .slice A n c]
  have K0 := Lib.hid b0
  have B0 : Hid (Below w.heap.size w (w.alloc (.cells #[.int .u8 4, .int .u8 (f.toNat : Int), .slice A n c] 28))) := Lib.hid (Wr.below_ ((Wr.refl 5 w.heap.size w).alloc (.cells #[.int .u8 4, .int .u8 (f.toNat : Int), .slice A n c] 28)) (Nat.le_refl _))
  clear b0
  go_enter Try.func9, Try.ntmps9
  go_wp2_with fail
  generalize (w.alloc (.cells #[.int .u8 4, .int .u8 (f.toNat : Int), .slice A n c] 28)) = v0 at K0 B0 ⊢
  refine (HLG.out v0).mono ?_
  rintro e w1 ⟨rfl, hb⟩
  have K1 := Lib.hid (K0.out.below hb K0.out.lt)
  have B1 := Lib.hid (below_then B0.out (Nat.le_refl _) hb)
  have x0 : w1.cell? ⟨w.heap.size, 0, none⟩ = some (.int .u8 4) := K1.out.cell 0
  have x1 : w1.cell? ⟨w.heap.size, 1, none⟩ = some (.int .u8 (f.toNat : Int)) := K1.out.cell 1
  have x2 : w1.cell? ⟨w.heap.size, 2, none⟩ = some (.slice A n c) := K1.out.cell 2
  clear hb K0 B0
  go_wp2_with fail
  clear x0 x1 x2
  refine (HGT.out w1 B1.out).mono ?_
  rintro e w2 ⟨rfl, hb⟩
  have K2 := Lib.hid (K1.out.below hb K1.out.lt)
  have B2 := Lib.hid (below_then B1.out (Nat.le_refl _) hb)
  have x0 : w2.cell? ⟨w.heap.size, 0, none⟩ = some (.int .u8 4) := K2.out.cell 0
  clear hb K1 B1
  go_wp2_with fail
  all_goals
    refine (works_any _).mono ?_
    rintro e w3 ⟨rfl, hb⟩
    go_wp2_with fail
    go_ret
    exact ⟨rfl, below_then B2.out (Nat.le_refl _) hb⟩
set_option maxRecDepth 100000 in
set_option maxHeartbeats 4000000 in
theorem bodiesOnce_k5 (f : UInt8) (A : Option Addr) (n c : Nat) (w : World) (HLG : Hid (∀ W, Calls Try.prog 12 #[.agg #[.int .u8 5, .int .u8 (f.toNat : Int), .slice A n c]] W fun e w' => e = .returned (.bool false) ∧ Below W.heap.size W w')) (HGT : Hid (∀ W, Below w.heap.size w W → Calls Try.prog 47 #[.agg #[.int .u8 5, .int .u8 (f.toNat : Int), .slice A n c]] W fun e w' => e = .returned (.tuple #[.int .i64 1, .bool true]) ∧ Below W.heap.size W w')) :
    Calls Try.prog 9 #[.agg #[.int .u8 5, .int .u8 (f.toNat : Int), .slice A n c]] w fun e w' => e = .returned (.bool true) ∧ Below w.heap.size w w' := by
  have b0 : Blk (w.alloc (.cells #[.int .u8 5, .int .u8 (f.toNat : Int), .slice A n c] 28)) w.heap.size 28 #[.int .u8 5, .int .u8 (f.toNat : Int), .slice A n c] := Blk.new w 28 #[.int .u8 5, .int .u8 (f.toNat : Int), .slice A n c]
  have K0 := Lib.hid b0
  have B0 : Hid (Below w.heap.size w (w.alloc (.cells #[.int .u8 5, .int .u8 (f.toNat : Int), .slice A n c] 28))) := Lib.hid (Wr.below_ ((Wr.refl 5 w.heap.size w).alloc (.cells #[.int .u8 5, .int .u8 (f.toNat : Int), .slice A n c] 28)) (Nat.le_refl _))
  clear b0
  go_enter Try.func9, Try.ntmps9
  go_wp2_with fail
  generalize (w.alloc (.cells #[.int .u8 5, .int .u8 (f.toNat : Int), .slice A n c] 28)) = v0 at K0 B0 ⊢
  refine (HLG.out v0).mono ?_
  rintro e w1 ⟨rfl, hb⟩
  have K1 := Lib.hid (K0.out.below hb K0.out.lt)
  have B1 := Lib.hid (below_then B0.out (Nat.le_refl _) hb)
  have x0 : w1.cell? ⟨w.heap.size, 0, none⟩ = some (.int .u8 5) := K1.out.cell 0
  have x1 : w1.cell? ⟨w.heap.size, 1, none⟩ = some (.int .u8 (f.toNat : Int)) := K1.out.cell 1
  have x2 : w1.cell? ⟨w.heap.size, 2, none⟩ = some (.slice A n c) := K1.out.cell 2
  clear hb K0 B0
  go_wp2_with fail
  clear x0 x1 x2
  refine (HGT.out w1 B1.out).mono ?_
  rintro e w2 ⟨rfl, hb⟩
  have K2 := Lib.hid (K1.out.below hb K1.out.lt)
  have B2 := Lib.hid (below_then B1.out (Nat.le_refl _) hb)
  have x0 : w2.cell? ⟨w.heap.size, 0, none⟩ = some (.int .u8 5) := K2.out.cell 0
  clear hb K1 B1
  go_wp2_with fail
  all_goals
    refine (works_any _).mono ?_
    rintro e w3 ⟨rfl, hb⟩
    go_wp2_with fail
    go_ret
    exact ⟨rfl, below_then B2.out (Nat.le_refl _) hb⟩
set_option maxRecDepth 100000 in
set_option maxHeartbeats 4000000 in
theorem bodiesOnce_k7 (f : UInt8) (A : Option Addr) (n c : Nat) (w : World) (HLG : Hid (∀ W, Calls Try.prog 12 #[.agg #[.int .u8 7, .int .u8 (f.toNat : Int), .slice A n c]] W fun e w' => e = .returned (.bool false) ∧ Below W.heap.size W w')) (HGT : Hid (∀ W, Below w.heap.size w W → Calls Try.prog 47 #[.agg #[.int .u8 7, .int .u8 (f.toNat : Int), .slice A n c]] W fun e w' => e = .returned (.tuple #[.int .i64 1, .bool true]) ∧ Below W.heap.size W w')) :
    Calls Try.prog 9 #[.agg #[.int .u8 7, .int .u8 (f.toNat : Int), .slice A n c]] w fun e w' => e = .returned (.bool true) ∧ Below w.heap.size w w' := by
  have b0 : Blk (w.alloc (.cells #[.int .u8 7, .int .u8 (f.toNat : Int), .slice A n c] 28)) w.heap.size 28 #[.int .u8 7, .int .u8 (f.toNat : Int), .slice A n c] := Blk.new w 28 #[.int .u8 7, .int .u8 (f.toNat : Int), .slice A n c]
  have K0 := Lib.hid b0
  have B0 : Hid (Below w.heap.size w (w.alloc (.cells #[.int .u8 7, .int .u8 (f.toNat : Int), .slice A n c] 28))) := Lib.hid (Wr.below_ ((Wr.refl 5 w.heap.size w).alloc (.cells #[.int .u8 7, .int .u8 (f.toNat : Int), .slice A n c] 28)) (Nat.le_refl _))
  clear b0
  go_enter Try.func9, Try.ntmps9
  go_wp2_with fail
  generalize (w.alloc (.cells #[.int .u8 7, .int .u8 (f.toNat : Int), .slice A n c] 28)) = v0 at K0 B0 ⊢
  refine (HLG.out v0).mono ?_
  rintro e w1 ⟨rfl, hb⟩
  have K1 := Lib.hid (K0.out.below hb K0.out.lt)
  have B1 := Lib.hid (below_then B0.out (Nat.le_refl _) hb)
  have x0 : w1.cell? ⟨w.heap.size, 0, none⟩ = some (.int .u8 7) := K1.out.cell 0
  have x1 : w1.cell? ⟨w.heap.size, 1, none⟩ = some (.int .u8 (f.toNat : Int)) := K1.out.cell 1
  have x2 : w1.cell? ⟨w.heap.size, 2, none⟩ = some (.slice A n c) := K1.out.cell 2
  clear hb K0 B0
  go_wp2_with fail
  clear x0 x1 x2
  refine (HGT.out w1 B1.out).mono ?_
  rintro e w2 ⟨rfl, hb⟩
  have K2 := Lib.hid (K1.out.below hb K1.out.lt)
  have B2 := Lib.hid (below_then B1.out (Nat.le_refl _) hb)
  have x0 : w2.cell? ⟨w.heap.size, 0, none⟩ = some (.int .u8 7) := K2.out.cell 0
  clear hb K1 B1
  go_wp2_with fail
  all_goals
    refine (works_any _).mono ?_
    rintro e w3 ⟨rfl, hb⟩
    go_wp2_with fail
    go_ret
    exact ⟨rfl, below_then B2.out (Nat.le_refl _) hb⟩
set_option maxRecDepth 100000 in
set_option maxHeartbeats 4000000 in
theorem bodiesOnce_k192 (f : UInt8) (A : Option Addr) (n c : Nat) (w : World) (HLG : Hid (∀ W, Calls Try.prog 12 #[.agg #[.int .u8 192, .int .u8 (f.toNat : Int), .slice A n c]] W fun e w' => e = .returned (.bool false) ∧ Below W.heap.size W w')) (HGT : Hid (∀ W, Below w.heap.size w W → Calls Try.prog 47 #[.agg #[.int .u8 192, .int .u8 (f.toNat : Int), .slice A n c]] W fun e w' => e = .returned (.tuple #[.int .i64 1, .bool true]) ∧ Below W.heap.size W w')) :
    Calls Try.prog 9 #[.agg #[.int .u8 192, .int .u8 (f.toNat : Int), .slice A n c]] w fun e w' => e = .returned (.bool true) ∧ Below w.heap.size w w' := by
  have b0 : Blk (w.alloc (.cells #[.int .u8 192, .int .u8 (f.toNat : Int), .slice A n c] 28)) w.heap.size 28 #[.int .u8 192, .int .u8 (f.toNat : Int), .slice A n c] := Blk.new w 28 #[.int .u8 192, .int .u8 (f.toNat : Int), .slice A n c]
  have K0 := Lib.hid b0
  have B0 : Hid (Below w.heap.size w (w.alloc (.cells #[.int .u8 192, .int .u8 (f.toNat : Int), .slice A n c] 28))) := Lib.hid (Wr.below_ ((Wr.refl 5 w.heap.size w).alloc (.cells #[.int .u8 192, .int .u8 (f.toNat : Int), .slice A n c] 28)) (Nat.le_refl _))
  clear b0
  go_enter Try.func9, Try.ntmps9
  go_wp2_with fail
  generalize (w.alloc (.cells #[.int .u8 192, .int .u8 (f.toNat : Int), .slice A n c] 28)) = v0 at K0 B0 ⊢
  refine (HLG.out v0).mono ?_
  rintro e w1 ⟨rfl, hb⟩
  have K1 := Lib.hid (K0.out.below hb K0.out.lt)
  have B1 := Lib.hid (below_then B0.out (Nat.le_refl _) hb)
  have x0 : w1.cell? ⟨w.heap.size, 0, none⟩ = some (.int .u8 192) := K1.out.cell 0
  have x1 : w1.cell? ⟨w.heap.size, 1, none⟩ = some (.int .u8 (f.toNat : Int)) := K1.out.cell 1
  have x2 : w1.cell? ⟨w.heap.size, 2, none⟩ = some (.slice A n c) := K1.out.cell 2
  clear hb K0 B0
  go_wp2_with fail
  clear x0 x1 x2
  refine (HGT.out w1 B1.out).mono ?_
  rintro e w2 ⟨rfl, hb⟩
  have K2 := Lib.hid (K1.out.below hb K1.out.lt)
  have B2 := Lib.hid (below_then B1.out (Nat.le_refl _) hb)
  have x0 : w2.cell? ⟨w.heap.size, 0, none⟩ = some (.int .u8 192) := K2.out.cell 0
  clear hb K1 B1
  go_wp2_with fail
  all_goals
    refine (works_any _).mono ?_
    rintro e w3 ⟨rfl, hb⟩
    go_wp2_with fail
    go_ret
    exact ⟨rfl, below_then B2.out (Nat.le_refl _) hb⟩
theorem bodiesOnce_walk (b0 b1 : Int) (A : Option Addr) (n c : Nat) (xs : List UInt8) (w : World) (h3 : (Lit.int .u8 b0).wf = true) (h4 : (Lit.int .u8 b1).wf = true) (hc : n ≤ c) (hcm : c ≤ maxLen) (hx : xs.length = n) (hr : Rd w w.heap.size A xs) :
    Calls Try.prog 9 #[.agg #[.int .u8 b0, .int .u8 b1, .slice A n c]] w fun e w' => e = .returned (.bool true) ∧ Below w.heap.size w w' := by
  obtain ⟨k, rfl⟩ := byte_of h3
  obtain ⟨f, rfl⟩ := byte_of h4
  by_cases h : 8192 < n
  · exact bodiesOnce_big k f A n c w hc hcm h
  · have HL := Lib.hid fun W => large_any (k.toNat : Int) (f.toNat : Int) A n c W (Nat.le_trans hc hcm)
    rw [decide_eq_false h] at HL
    have HG := Lib.hid fun W (hW : Below w.heap.size w W) => got_any k f A n c xs W (by omega) hc hcm hx ((hr.below hW).more hW.size)
    rcases cnt_known k f xs with h0 | ⟨h1, hk⟩
    · rw [h0] at HG
      exact bodiesOnce_none k f A n c w HL HG
    · rw [h1] at HG
      unfold known at hk
      rcases hk with rfl | rfl | rfl | rfl | rfl | rfl | rfl | rfl
      · exact bodiesOnce_k0 f A n c w HL HG
      · exact bodiesOnce_k1 f A n c w HL HG
      · exact bodiesOnce_k2 f A n c w HL HG
      · exact bodiesOnce_k3 f A n c w HL HG
      · exact bodiesOnce_k4 f A n c w HL HG
      · exact bodiesOnce_k5 f A n c w HL HG
      · exact bodiesOnce_k7 f A n c w HL HG
      · exact bodiesOnce_k192 f A n c w HL HG
end Go.Proofs.Ytalgkokgaibloaa
