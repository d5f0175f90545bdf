/-
  Layer 9: got.
-/
import Derived.Test.YtalgkokgaibloaaBodOn
import Derived.Test.YtalgkokgaibloaaGrowL
namespace Go.Proofs.Ytalgkokgaibloaa
open Go.RowKit
set_option linter.unusedVariables false

theorem getD_off (k f : UInt8) (A : Option Addr) (n c : Nat) (xs : List UInt8) (w : World) (hn : n ≤ 131072) (hc : n ≤ c) (hcm : c ≤ maxLen) (hx : xs.length = n) (hr : Rd w w.heap.size A xs) (hok : okD k f xs = false) :
    Calls Try.prog 16 #[.agg #[.int .u8 (k.toNat : Int), .int .u8 (f.toNat : Int), .slice A n c]] w fun e w' => ∃ AD mD cD, e = .returned (.tuple #[.agg #[.int .u32 0, .int .u16 0, .int .u16 0, .bool false, .bool false, .bool false, .slice AD mD cD], .int .i64 7]) ∧ Below w.heap.size w w' :=
  (getData_any k f A n c xs w (by omega) hc hcm hx hr).mono fun e w' ⟨A, m, c, he, ho, hb⟩ => by
    have h2 : ansD k f xs = noD := by unfold ansD; rw [hok]; rfl
    rw [hok, h2] at he
    exact ⟨A, m, c, he, hb⟩
theorem getI_off (k f : UInt8) (A : Option Addr) (n c : Nat) (xs : List UInt8) (w : World) (hn : n ≤ 131072) (hc : n ≤ c) (hcm : c ≤ maxLen) (hx : xs.length = n) (hr : Rd w w.heap.size A xs) (hok : okI k f xs = false) :
    Calls Try.prog 24 #[.agg #[.int .u8 (k.toNat : Int), .int .u8 (f.toNat : Int), .slice A n c]] w fun e w' => ∃ AI mI cI, e = .returned (.tuple #[.agg #[.int .u32 0, .int .u32 0, .int .u16 0, .int .u16 0, .int .u32 0, .slice AI mI cI], .int .i64 7]) ∧ Below w.heap.size w w' :=
  (getInit_any k f A n c xs w (by omega) hc hcm hx hr).mono fun e w' ⟨A, m, c, he, ho, hb⟩ => by
    have h2 : ansI k f xs = noI := by unfold ansI; rw [hok]; rfl
    rw [hok, h2] at he
    exact ⟨A, m, c, he, hb⟩
theorem getS_off (k f : UInt8) (A : Option Addr) (n c : Nat) (xs : List UInt8) (w : World) (hn : n ≤ 131072) (hc : n ≤ c) (hcm : c ≤ maxLen) (hx : xs.length = n) (hr : Rd w w.heap.size A xs) (hok : okS k f xs = false) :
    Calls Try.prog 30 #[.agg #[.int .u8 (k.toNat : Int), .int .u8 (f.toNat : Int), .slice A n c]] w fun e w' => ∃ AS mS cS AU mU cU, e = .returned (.tuple #[.agg #[.int .u32 0, .int .u32 0, .slice AS mS cS, .slice AU mU cU], .int .i64 7]) ∧ Below w.heap.size w w' :=
  (getSack_any k f A n c xs w (by omega) hc hcm hx hr).mono fun e w' ⟨A, m, c, A', m', c', he, ho, hm, hp, hm', hb⟩ => by
    have h2 : ansS k f xs = noS := by unfold ansS; rw [hok]; rfl
    rw [hok, h2] at he
    exact ⟨A, m, c, A', m', c', he, hb⟩
theorem getF_off (k f : UInt8) (A : Option Addr) (n c : Nat) (xs : List UInt8) (w : World) (hn : n ≤ 131072) (hc : n ≤ c) (hcm : c ≤ maxLen) (hx : xs.length = n) (hr : Rd w w.heap.size A xs) (hok : okF k f xs = false) :
    Calls Try.prog 35 #[.agg #[.int .u8 (k.toNat : Int), .int .u8 (f.toNat : Int), .slice A n c]] w fun e w' => ∃ AF mF cF, e = .returned (.tuple #[.agg #[.int .u32 0, .slice AF mF cF], .int .i64 7]) ∧ Below w.heap.size w w' :=
  (getForward_any k f A n c xs w (by omega) hc hcm hx hr).mono fun e w' ⟨A, m, c, he, ho, hm, hb⟩ => by
    have h2 : ansF k f xs = noFw := by unfold ansF; rw [hok]; rfl
    rw [hok, h2] at he
    exact ⟨A, m, c, he, hb⟩
theorem getT_off (k f : UInt8) (A : Option Addr) (n c : Nat) (xs : List UInt8) (w : World) (hn : n ≤ 131072) (hc : n ≤ c) (hcm : c ≤ maxLen) (hx : xs.length = n) (hr : Rd w w.heap.size A xs) (hok : okT k f xs = false) :
    Calls Try.prog 39 #[.agg #[.int .u8 (k.toNat : Int), .int .u8 (f.toNat : Int), .slice A n c]] w fun e w' => e = .returned (.tuple #[.int .i64 0, .int .i64 7]) ∧ Below w.heap.size w w' :=
  (getTime_any k f A n c xs w (by omega) hc hcm hx hr).mono fun e w' ⟨he, hb⟩ => by
    have h2 : ansT k f xs = 0 := by unfold ansT; rw [hok]; rfl
    rw [hok, h2] at he
    exact ⟨he, hb⟩
theorem getC_off (k f : UInt8) (A : Option Addr) (n c : Nat) (xs : List UInt8) (w : World) (hn : n ≤ 131072) (hc : n ≤ c) (hcm : c ≤ maxLen) (hx : xs.length = n) (hr : Rd w w.heap.size A xs) (hok : okC k f xs = false) :
    Calls Try.prog 41 #[.agg #[.int .u8 (k.toNat : Int), .int .u8 (f.toNat : Int), .slice A n c]] w fun e w' => e = .returned (.tuple #[.int .u32 0, .int .i64 7]) ∧ Below w.heap.size w w' :=
  (getCum_any k f A n c xs w (by omega) hc hcm hx hr).mono fun e w' ⟨he, hb⟩ => by
    have h2 : ansC k f xs = 0 := by unfold ansC; rw [hok]; rfl
    rw [hok, h2] at he
    exact ⟨he, hb⟩
set_option maxRecDepth 100000 in
set_option maxHeartbeats 4000000 in
theorem got_none (k f : UInt8) (A : Option Addr) (n c : Nat) (xs : List UInt8) (w : World) (hn : n ≤ 131072) (hc : n ≤ c) (hcm : c ≤ maxLen) (hx : xs.length = n) (hr : Rd w w.heap.size A xs) (hD : okD k f xs = false) (hI : okI k f xs = false) (hS : okS k f xs = false) (hF : okF k f xs = false) (hT : okT k f xs = false) (hC : okC k f xs = false) :
    Calls Try.prog 47 #[.agg #[.int .u8 (k.toNat : Int), .int .u8 (f.toNat : Int), .slice A n c]] w fun e w' => e = .returned (.tuple #[.int .i64 0, .bool true]) ∧ Below w.heap.size w w' := by
  have hz0 := zero_data
  have hz1 := zero_init
  have hz2 := zero_sack
  have hz3 := zero_fwd
  have HGD : Hid (∀ W, Below w.heap.size w W → Calls Try.prog 16 #[.agg #[.int .u8 (k.toNat : Int), .int .u8 (f.toNat : Int), .slice A n c]] W fun e w' => ∃ AD mD cD, e = .returned (.tuple #[.agg #[.int .u32 0, .int .u16 0, .int .u16 0, .bool false, .bool false, .bool false, .slice AD mD cD], .int .i64 7]) ∧ Below W.heap.size W w') := Lib.hid fun W hW => getD_off k f A n c xs W hn hc hcm hx ((hr.below hW).more hW.size) hD
  have HGI : Hid (∀ W, Below w.heap.size w W → Calls Try.prog 24 #[.agg #[.int .u8 (k.toNat : Int), .int .u8 (f.toNat : Int), .slice A n c]] W fun e w' => ∃ AI mI cI, e = .returned (.tuple #[.agg #[.int .u32 0, .int .u32 0, .int .u16 0, .int .u16 0, .int .u32 0, .slice AI mI cI], .int .i64 7]) ∧ Below W.heap.size W w') := Lib.hid fun W hW => getI_off k f A n c xs W hn hc hcm hx ((hr.below hW).more hW.size) hI
  have HGS : Hid (∀ W, Below w.heap.size w W → Calls Try.prog 30 #[.agg #[.int .u8 (k.toNat : Int), .int .u8 (f.toNat : Int), .slice A n c]] W fun e w' => ∃ AS mS cS AU mU cU, e = .returned (.tuple #[.agg #[.int .u32 0, .int .u32 0, .slice AS mS cS, .slice AU mU cU], .int .i64 7]) ∧ Below W.heap.size W w') := Lib.hid fun W hW => getS_off k f A n c xs W hn hc hcm hx ((hr.below hW).more hW.size) hS
  have HGF : Hid (∀ W, Below w.heap.size w W → Calls Try.prog 35 #[.agg #[.int .u8 (k.toNat : Int), .int .u8 (f.toNat : Int), .slice A n c]] W fun e w' => ∃ AF mF cF, e = .returned (.tuple #[.agg #[.int .u32 0, .slice AF mF cF], .int .i64 7]) ∧ Below W.heap.size W w') := Lib.hid fun W hW => getF_off k f A n c xs W hn hc hcm hx ((hr.below hW).more hW.size) hF
  have HGT : Hid (∀ W, Below w.heap.size w W → Calls Try.prog 39 #[.agg #[.int .u8 (k.toNat : Int), .int .u8 (f.toNat : Int), .slice A n c]] W fun e w' => e = .returned (.tuple #[.int .i64 0, .int .i64 7]) ∧ Below W.heap.size W w') := Lib.hid fun W hW => getT_off k f A n c xs W hn hc hcm hx ((hr.below hW).more hW.size) hT
  have HGC : Hid (∀ W, Below w.heap.size w W → Calls Try.prog 41 #[.agg #[.int .u8 (k.toNat : Int), .int .u8 (f.toNat : Int), .slice A n c]] W fun e w' => e = .returned (.tuple #[.int .u32 0, .int .i64 7]) ∧ Below W.heap.size W w') := Lib.hid fun W hW => getC_off k f A n c xs W hn hc hcm hx ((hr.below hW).more hW.size) hC
  clear hx hr hD hI hS hF hT hC
  have b0 : Blk (w.alloc (.cells #[.int .u8 (k.toNat : Int), .int .u8 (f.toNat : Int), .slice A n c] 28)) w.heap.size 28 #[.int .u8 (k.toNat : Int), .int .u8 (f.toNat : Int), .slice A n c] := Blk.new w 28 #[.int .u8 (k.toNat : Int), .int .u8 (f.toNat : Int), .slice A n c]
  have K0 := Lib.hid b0
  have B0 : Hid (Below w.heap.size w (w.alloc (.cells #[.int .u8 (k.toNat : Int), .int .u8 (f.toNat : Int), .slice A n c] 28))) := Lib.hid (Wr.below_ ((Wr.refl 5 w.heap.size w).alloc (.cells #[.int .u8 (k.toNat : Int), .int .u8 (f.toNat : Int), .slice A n c] 28)) (Nat.le_refl _))
  clear b0
  go_enter Try.func47, Try.ntmps47
  rw [drawn_eq 6, drawn_eq 10, drawn_eq 14, drawn_eq 18, drawn_eq 22, drawn_eq 26]
  go_wp2_with fail
  generalize (w.alloc (.cells #[.int .u8 (k.toNat : Int), .int .u8 (f.toNat : Int), .slice A n c] 28)) = v0 at K0 B0 ⊢
  refine (HGD.out v0 B0.out).mono ?_
  rintro e w1 ⟨AD, mD, cD, rfl, hb⟩
  have b1 := below_then B0.out (Nat.le_refl _) hb
  have B1 := Lib.hid (b1.alloc b1.size (.cells #[.int .u32 0, .int .u16 0, .int .u16 0, .bool false, .bool false, .bool false, .slice AD mD cD] 26))
  have K1 := Lib.hid ((K0.out.below hb K0.out.lt).alloc (.cells #[.int .u32 0, .int .u16 0, .int .u16 0, .bool false, .bool false, .bool false, .slice AD mD cD] 26))
  clear hb b1 B0 K0 HGD
  have x0 : (w1.alloc (.cells #[.int .u32 0, .int .u16 0, .int .u16 0, .bool false, .bool false, .bool false, .slice AD mD cD] 26)).cell? ⟨w.heap.size, 0, none⟩ = some (.int .u8 (k.toNat : Int)) := K1.out.cell 0
  have x1 : (w1.alloc (.cells #[.int .u32 0, .int .u16 0, .int .u16 0, .bool false, .bool false, .bool false, .slice AD mD cD] 26)).cell? ⟨w.heap.size, 1, none⟩ = some (.int .u8 (f.toNat : Int)) := K1.out.cell 1
  have x2 : (w1.alloc (.cells #[.int .u32 0, .int .u16 0, .int .u16 0, .bool false, .bool false, .bool false, .slice AD mD cD] 26)).cell? ⟨w.heap.size, 2, none⟩ = some (.slice A n c) := K1.out.cell 2
  go_wp2_with fail
  generalize w1.alloc (.cells #[.int .u32 0, .int .u16 0, .int .u16 0, .bool false, .bool false, .bool false, .slice AD mD cD] 26) = v0 at B1 K1 ⊢
  clear x0 x1 x2
  have B0 := B1
  have K0 := K1
  clear B1 K1
  refine (HGI.out v0 B0.out).mono ?_
  rintro e w1 ⟨AI, mI, cI, rfl, hb⟩
  have b1 := below_then B0.out (Nat.le_refl _) hb
  have B1 := Lib.hid (b1.alloc b1.size (.cells #[.int .u32 0, .int .u32 0, .int .u16 0, .int .u16 0, .int .u32 0, .slice AI mI cI] 43))
  have K1 := Lib.hid ((K0.out.below hb K0.out.lt).alloc (.cells #[.int .u32 0, .int .u32 0, .int .u16 0, .int .u16 0, .int .u32 0, .slice AI mI cI] 43))
  clear hb b1 B0 K0 HGI
  have x0 : (w1.alloc (.cells #[.int .u32 0, .int .u32 0, .int .u16 0, .int .u16 0, .int .u32 0, .slice AI mI cI] 43)).cell? ⟨w.heap.size, 0, none⟩ = some (.int .u8 (k.toNat : Int)) := K1.out.cell 0
  have x1 : (w1.alloc (.cells #[.int .u32 0, .int .u32 0, .int .u16 0, .int .u16 0, .int .u32 0, .slice AI mI cI] 43)).cell? ⟨w.heap.size, 1, none⟩ = some (.int .u8 (f.toNat : Int)) := K1.out.cell 1
  have x2 : (w1.alloc (.cells #[.int .u32 0, .int .u32 0, .int .u16 0, .int .u16 0, .int .u32 0, .slice AI mI cI] 43)).cell? ⟨w.heap.size, 2, none⟩ = some (.slice A n c) := K1.out.cell 2
  go_wp2_with fail
  generalize w1.alloc (.cells #[.int .u32 0, .int .u32 0, .int .u16 0, .int .u16 0, .int .u32 0, .slice AI mI cI] 43) = v0 at B1 K1 ⊢
  clear x0 x1 x2
  have B0 := B1
  have K0 := K1
  clear B1 K1
  refine (HGS.out v0 B0.out).mono ?_
  rintro e w1 ⟨AS, mS, cS, AU, mU, cU, rfl, hb⟩
  have b1 := below_then B0.out (Nat.le_refl _) hb
  have B1 := Lib.hid (b1.alloc b1.size (.cells #[.int .u32 0, .int .u32 0, .slice AS mS cS, .slice AU mU cU] 52))
  have K1 := Lib.hid ((K0.out.below hb K0.out.lt).alloc (.cells #[.int .u32 0, .int .u32 0, .slice AS mS cS, .slice AU mU cU] 52))
  clear hb b1 B0 K0 HGS
  have x0 : (w1.alloc (.cells #[.int .u32 0, .int .u32 0, .slice AS mS cS, .slice AU mU cU] 52)).cell? ⟨w.heap.size, 0, none⟩ = some (.int .u8 (k.toNat : Int)) := K1.out.cell 0
  have x1 : (w1.alloc (.cells #[.int .u32 0, .int .u32 0, .slice AS mS cS, .slice AU mU cU] 52)).cell? ⟨w.heap.size, 1, none⟩ = some (.int .u8 (f.toNat : Int)) := K1.out.cell 1
  have x2 : (w1.alloc (.cells #[.int .u32 0, .int .u32 0, .slice AS mS cS, .slice AU mU cU] 52)).cell? ⟨w.heap.size, 2, none⟩ = some (.slice A n c) := K1.out.cell 2
  go_wp2_with fail
  generalize w1.alloc (.cells #[.int .u32 0, .int .u32 0, .slice AS mS cS, .slice AU mU cU] 52) = v0 at B1 K1 ⊢
  clear x0 x1 x2
  have B0 := B1
  have K0 := K1
  clear B1 K1
  refine (HGF.out v0 B0.out).mono ?_
  rintro e w1 ⟨AF, mF, cF, rfl, hb⟩
  have b1 := below_then B0.out (Nat.le_refl _) hb
  have B1 := Lib.hid (b1.alloc b1.size (.cells #[.int .u32 0, .slice AF mF cF] 56))
  have K1 := Lib.hid ((K0.out.below hb K0.out.lt).alloc (.cells #[.int .u32 0, .slice AF mF cF] 56))
  clear hb b1 B0 K0 HGF
  have x0 : (w1.alloc (.cells #[.int .u32 0, .slice AF mF cF] 56)).cell? ⟨w.heap.size, 0, none⟩ = some (.int .u8 (k.toNat : Int)) := K1.out.cell 0
  have x1 : (w1.alloc (.cells #[.int .u32 0, .slice AF mF cF] 56)).cell? ⟨w.heap.size, 1, none⟩ = some (.int .u8 (f.toNat : Int)) := K1.out.cell 1
  have x2 : (w1.alloc (.cells #[.int .u32 0, .slice AF mF cF] 56)).cell? ⟨w.heap.size, 2, none⟩ = some (.slice A n c) := K1.out.cell 2
  go_wp2_with fail
  generalize w1.alloc (.cells #[.int .u32 0, .slice AF mF cF] 56) = v0 at B1 K1 ⊢
  clear x0 x1 x2
  have B0 := B1
  have K0 := K1
  clear B1 K1
  refine (HGT.out v0 B0.out).mono ?_
  rintro e w1 ⟨rfl, hb⟩
  have B1 := Lib.hid (below_then B0.out (Nat.le_refl _) hb)
  have K1 := Lib.hid (K0.out.below hb K0.out.lt)
  clear hb B0 K0 HGT
  have x0 : w1.cell? ⟨w.heap.size, 0, none⟩ = some (.int .u8 (k.toNat : Int)) := K1.out.cell 0
  have x1 : w1.cell? ⟨w.heap.size, 1, none⟩ = some (.int .u8 (f.toNat : Int)) := K1.out.cell 1
  have x2 : w1.cell? ⟨w.heap.size, 2, none⟩ = some (.slice A n c) := K1.out.cell 2
  go_wp2_with fail
  clear x0 x1 x2
  generalize w1 = v0 at B1 K1 ⊢
  have B0 := B1
  have K0 := K1
  clear B1 K1
  refine (HGC.out v0 B0.out).mono ?_
  rintro e w1 ⟨rfl, hb⟩
  have B1 := Lib.hid (below_then B0.out (Nat.le_refl _) hb)
  have K1 := Lib.hid (K0.out.below hb K0.out.lt)
  clear hb B0 K0 HGC
  have x0 : w1.cell? ⟨w.heap.size, 0, none⟩ = some (.int .u8 (k.toNat : Int)) := K1.out.cell 0
  have x1 : w1.cell? ⟨w.heap.size, 1, none⟩ = some (.int .u8 (f.toNat : Int)) := K1.out.cell 1
  have x2 : w1.cell? ⟨w.heap.size, 2, none⟩ = some (.slice A n c) := K1.out.cell 2
  go_wp2_with fail
  clear x0 x1 x2
  go_ret2
  exact ⟨rfl, B1.out⟩
set_option maxRecDepth 100000 in
set_option maxHeartbeats 4000000 in
theorem got_D (k f : UInt8) (A : Option Addr) (n c : Nat) (xs : List UInt8) (w : World) (hn : n ≤ 131072) (hc : n ≤ c) (hcm : c ≤ maxLen) (hx : xs.length = n) (hr : Rd w w.heap.size A xs) (hD : okD k f xs = true) (hI : okI k f xs = false) (hS : okS k f xs = false) (hF : okF k f xs = false) (hT : okT k f xs = false) (hC : okC k f xs = false) :
    Calls Try.prog 47 #[.agg #[.int .u8 (k.toNat : Int), .int .u8 (f.toNat : Int), .slice A n c]] w fun e w' => e = .returned (.tuple #[.int .i64 1, .bool true]) ∧ Below w.heap.size w w' := by
  have hz0 := zero_data
  have hz1 := zero_init
  have hz2 := zero_sack
  have hz3 := zero_fwd
  have HGI : Hid (∀ W, Below w.heap.size w W → Calls Try.prog 24 #[.agg #[.int .u8 (k.toNat : Int), .int .u8 (f.toNat : Int), .slice A n c]] W fun e w' => ∃ AI mI cI, e = .returned (.tuple #[.agg #[.int .u32 0, .int .u32 0, .int .u16 0, .int .u16 0, .int .u32 0, .slice AI mI cI], .int .i64 7]) ∧ Below W.heap.size W w') := Lib.hid fun W hW => getI_off k f A n c xs W hn hc hcm hx ((hr.below hW).more hW.size) hI
  have HGS : Hid (∀ W, Below w.heap.size w W → Calls Try.prog 30 #[.agg #[.int .u8 (k.toNat : Int), .int .u8 (f.toNat : Int), .slice A n c]] W fun e w' => ∃ AS mS cS AU mU cU, e = .returned (.tuple #[.agg #[.int .u32 0, .int .u32 0, .slice AS mS cS, .slice AU mU cU], .int .i64 7]) ∧ Below W.heap.size W w') := Lib.hid fun W hW => getS_off k f A n c xs W hn hc hcm hx ((hr.below hW).more hW.size) hS
  have HGF : Hid (∀ W, Below w.heap.size w W → Calls Try.prog 35 #[.agg #[.int .u8 (k.toNat : Int), .int .u8 (f.toNat : Int), .slice A n c]] W fun e w' => ∃ AF mF cF, e = .returned (.tuple #[.agg #[.int .u32 0, .slice AF mF cF], .int .i64 7]) ∧ Below W.heap.size W w') := Lib.hid fun W hW => getF_off k f A n c xs W hn hc hcm hx ((hr.below hW).more hW.size) hF
  have HGT : Hid (∀ W, Below w.heap.size w W → Calls Try.prog 39 #[.agg #[.int .u8 (k.toNat : Int), .int .u8 (f.toNat : Int), .slice A n c]] W fun e w' => e = .returned (.tuple #[.int .i64 0, .int .i64 7]) ∧ Below W.heap.size W w') := Lib.hid fun W hW => getT_off k f A n c xs W hn hc hcm hx ((hr.below hW).more hW.size) hT
  have HGC : Hid (∀ W, Below w.heap.size w W → Calls Try.prog 41 #[.agg #[.int .u8 (k.toNat : Int), .int .u8 (f.toNat : Int), .slice A n c]] W fun e w' => e = .returned (.tuple #[.int .u32 0, .int .i64 7]) ∧ Below W.heap.size W w') := Lib.hid fun W hW => getC_off k f A n c xs W hn hc hcm hx ((hr.below hW).more hW.size) hC
  obtain ⟨d0, d1, d2, d3, d4, d5, DS, hgx, hpx⟩ := onD k f A n c xs hn hc hcm hx hD
  have HGD : Hid (∀ W, Below w.heap.size w W → Calls Try.prog 16 #[.agg #[.int .u8 (k.toNat : Int), .int .u8 (f.toNat : Int), .slice A n c]] W fun e w' => ∃ AD mD cD, e = .returned (.tuple #[.agg #[.int .u32 (d0 : Int), .int .u16 (d1 : Int), .int .u16 (d2 : Int), .bool d3, .bool d4, .bool d5, .slice AD mD cD], .int .i64 0]) ∧ (Own8 w' 5 W.heap.size AD mD cD DS) ∧ Below W.heap.size W w') := Lib.hid fun W hW => hgx W ((hr.below hW).more hW.size)
  have HPX := Lib.hid hpx
  have HSM : Hid (∀ (W : World) (A' : Option Addr) (c' : Nat), Below w.heap.size w W → Own8 W 5 w.heap.size A' xs.length c' xs → Calls Try.prog 18 #[.agg #[.int .u8 (k.toNat : Int), .int .u8 (f.toNat : Int), .slice A' xs.length c'], .agg #[.int .u8 (k.toNat : Int), .int .u8 (f.toNat : Int), .slice A n c]] W fun e w' => e = .returned (.bool true) ∧ Below W.heap.size W w') := Lib.hid fun W A' c' hW ho => by
    have := same_any k f k f A' A xs.length n c' c xs xs W rfl hx (Nat.le_trans ho.cap.1 ho.cap.2) (by unfold maxLen; omega) ho.rd ((hr.below hW).more hW.size)
    simpa using this
  clear hgx hpx hx hr hD hI hS hF hT hC
  have b0 : Blk (w.alloc (.cells #[.int .u8 (k.toNat : Int), .int .u8 (f.toNat : Int), .slice A n c] 28)) w.heap.size 28 #[.int .u8 (k.toNat : Int), .int .u8 (f.toNat : Int), .slice A n c] := Blk.new w 28 #[.int .u8 (k.toNat : Int), .int .u8 (f.toNat : Int), .slice A n c]
  have K0 := Lib.hid b0
  have B0 : Hid (Below w.heap.size w (w.alloc (.cells #[.int .u8 (k.toNat : Int), .int .u8 (f.toNat : Int), .slice A n c] 28))) := Lib.hid (Wr.below_ ((Wr.refl 5 w.heap.size w).alloc (.cells #[.int .u8 (k.toNat : Int), .int .u8 (f.toNat : Int), .slice A n c] 28)) (Nat.le_refl _))
  clear b0
  go_enter Try.func47, Try.ntmps47
  rw [drawn_eq 6, drawn_eq 10, drawn_eq 14, drawn_eq 18, drawn_eq 22, drawn_eq 26]
  go_wp2_with fail
  generalize (w.alloc (.cells #[.int .u8 (k.toNat : Int), .int .u8 (f.toNat : Int), .slice A n c] 28)) = v0 at K0 B0 ⊢
  refine (HGD.out v0 B0.out).mono ?_
  rintro e w1 ⟨AD, mD, cD, rfl, ho, hb⟩
  have b1 := below_then B0.out (Nat.le_refl _) hb
  have B1 := Lib.hid (b1.alloc b1.size (.cells #[.int .u32 (d0 : Int), .int .u16 (d1 : Int), .int .u16 (d2 : Int), .bool d3, .bool d4, .bool d5, .slice AD mD cD] 26))
  have K1 := Lib.hid ((K0.out.below hb K0.out.lt).alloc (.cells #[.int .u32 (d0 : Int), .int .u16 (d1 : Int), .int .u16 (d2 : Int), .bool d3, .bool d4, .bool d5, .slice AD mD cD] 26))
  have G1 := Lib.hid (Blk.new w1 26 #[.int .u32 (d0 : Int), .int .u16 (d1 : Int), .int .u16 (d2 : Int), .bool d3, .bool d4, .bool d5, .slice AD mD cD])
  have HPU : Hid (∀ W, Below (w1.alloc (.cells #[.int .u32 (d0 : Int), .int .u16 (d1 : Int), .int .u16 (d2 : Int), .bool d3, .bool d4, .bool d5, .slice AD mD cD] 26)).heap.size (w1.alloc (.cells #[.int .u32 (d0 : Int), .int .u16 (d1 : Int), .int .u16 (d2 : Int), .bool d3, .bool d4, .bool d5, .slice AD mD cD] 26)) W → Puts 15 #[.agg #[.int .u32 (d0 : Int), .int .u16 (d1 : Int), .int .u16 (d2 : Int), .bool d3, .bool d4, .bool d5, .slice AD mD cD]] k f xs W) := Lib.hid fun W hW => HPX.out W AD mD cD _ (Own8.below (ho.alloc (.cells #[.int .u32 (d0 : Int), .int .u16 (d1 : Int), .int .u16 (d2 : Int), .bool d3, .bool d4, .bool d5, .slice AD mD cD] 26)) hW (Nat.le_refl _))
  clear hb b1 B0 K0 HGD ho HPX
  have x0 : (w1.alloc (.cells #[.int .u32 (d0 : Int), .int .u16 (d1 : Int), .int .u16 (d2 : Int), .bool d3, .bool d4, .bool d5, .slice AD mD cD] 26)).cell? ⟨w.heap.size, 0, none⟩ = some (.int .u8 (k.toNat : Int)) := K1.out.cell 0
  have x1 : (w1.alloc (.cells #[.int .u32 (d0 : Int), .int .u16 (d1 : Int), .int .u16 (d2 : Int), .bool d3, .bool d4, .bool d5, .slice AD mD cD] 26)).cell? ⟨w.heap.size, 1, none⟩ = some (.int .u8 (f.toNat : Int)) := K1.out.cell 1
  have x2 : (w1.alloc (.cells #[.int .u32 (d0 : Int), .int .u16 (d1 : Int), .int .u16 (d2 : Int), .bool d3, .bool d4, .bool d5, .slice AD mD cD] 26)).cell? ⟨w.heap.size, 2, none⟩ = some (.slice A n c) := K1.out.cell 2
  go_wp2_with fail
  clear x0 x1 x2
  obtain ⟨g6, hg6⟩ : ∃ g6, g6 = w1.heap.size := ⟨_, rfl⟩
  rw [← hg6] at G1 ⊢
  generalize w1.alloc (.cells #[.int .u32 (d0 : Int), .int .u16 (d1 : Int), .int .u16 (d2 : Int), .bool d3, .bool d4, .bool d5, .slice AD mD cD] 26) = v1 at B1 K1 G1 HPU ⊢
  clear hg6
  rw [← drawn_eq 6]
  refine wp_region_grow_tailT 7 (by kernel_rfl) [(Is (.bool true)), (Is (.bool true)), (Is (.agg #[.int .u32 (d0 : Int), .int .u16 (d1 : Int), .int .u16 (d2 : Int), .bool d3, .bool d4, .bool d5, .slice AD mD cD])), (NewAgg 5 w.heap.size xs.length xs (fun s => .agg #[.int .u8 (k.toNat : Int), .int .u8 (f.toNat : Int), s])), (Is (.agg #[.int .u8 (k.toNat : Int), .int .u8 (f.toNat : Int), .slice A n c])), (Is (.bool true)), (Is (.bool true))] rfl ?_ (by kernel_rfl) (by kernel_rfl) ?_ ?_
  · intro p hp
    simp only [List.mem_cons, List.not_mem_nil, or_false] at hp
    rcases hp with rfl | rfl | rfl | rfl | rfl | rfl | rfl
    · exact Lasts.is _
    · exact Lasts.is _
    · exact Lasts.is _
    · exact Lasts.newAgg _ _ _ _ _
    · exact Lasts.is _
    · exact Lasts.is _
    · exact Lasts.is _
  · refine ⟨?_, ?_, ?_, ?_, ?_, ?_, ?_, trivial⟩
    · intro listed a w1 hfar hl hc
      have h5 : a.tmps[5]?.getD undef = .bool true := (hc.wasT hfar 5 (by kernel_rfl)).trans rfl
      refine does_value rfl rfl (.bool true) w1 ?_ (Below.refl _ _) rfl
      clear hc hl
      go_simp
    · intro listed a w1 hfar hl hc
      have h22 : a.tmps[22]?.getD undef = .bool true := hc.dep hl 0 22 rfl (by kernel_rfl)
      refine does_value rfl rfl (.bool true) w1 ?_ (Below.refl _ _) rfl
      clear hc hl
      go_simp
    · intro listed a w1 hfar hl hc
      have h6 : a.tmps[6]?.getD undef = .pointer (some ⟨g6, 0, none⟩) := (hc.was 6 (by kernel_rfl)).trans rfl
      have kb := G1.out.below hc.g G1.out.lt
      have x0 : w1.cell? ⟨g6, 0, none⟩ = some (.int .u32 (d0 : Int)) := kb.cell 0
      have x1 : w1.cell? ⟨g6, 1, none⟩ = some (.int .u16 (d1 : Int)) := kb.cell 1
      have x2 : w1.cell? ⟨g6, 2, none⟩ = some (.int .u16 (d2 : Int)) := kb.cell 2
      have x3 : w1.cell? ⟨g6, 3, none⟩ = some (.bool d3) := kb.cell 3
      have x4 : w1.cell? ⟨g6, 4, none⟩ = some (.bool d4) := kb.cell 4
      have x5 : w1.cell? ⟨g6, 5, none⟩ = some (.bool d5) := kb.cell 5
      have x6 : w1.cell? ⟨g6, 6, none⟩ = some (.slice AD mD cD) := kb.cell 6
      clear kb
      refine does_value rfl (wanted_at rfl rfl (hc.dep hl 1 23 rfl (by kernel_rfl))) (.agg #[.int .u32 (d0 : Int), .int .u16 (d1 : Int), .int .u16 (d2 : Int), .bool d3, .bool d4, .bool d5, .slice AD mD cD]) w1 ?_ (Below.refl _ _) rfl
      clear hc hl
      go_simp
    · intro listed a w1 hfar hl hc
      have h24 : a.tmps[24]?.getD undef = .agg #[.int .u32 (d0 : Int), .int .u16 (d1 : Int), .int .u16 (d2 : Int), .bool d3, .bool d4, .bool d5, .slice AD mD cD] := hc.dep hl 2 24 rfl (by kernel_rfl)
      refine does_call rfl (wanted_at rfl rfl (hc.dep hl 1 23 rfl (by kernel_rfl))) 15 #[.agg #[.int .u32 (d0 : Int), .int .u16 (d1 : Int), .int .u16 (d2 : Int), .bool d3, .bool d4, .bool d5, .slice AD mD cD]] ?_ ((HPU.out w1 hc.g).mono fun e w' ⟨A9, c9, he, ho, hb⟩ => ⟨_, he, hb, A9, c9, rfl, ho.more (Nat.le_trans B1.out.size hc.g.size)⟩)
      clear hc hl
      go_simp
    · intro listed a w1 hfar hl hc
      have h1 : a.tmps[1]?.getD undef = .pointer (some ⟨w.heap.size, 0, none⟩) := (hc.was 1 (by kernel_rfl)).trans rfl
      have kb := K1.out.below hc.g K1.out.lt
      have x0 : w1.cell? ⟨w.heap.size, 0, none⟩ = some (.int .u8 (k.toNat : Int)) := kb.cell 0
      have x1 : w1.cell? ⟨w.heap.size, 1, none⟩ = some (.int .u8 (f.toNat : Int)) := kb.cell 1
      have x2 : w1.cell? ⟨w.heap.size, 2, none⟩ = some (.slice A n c) := kb.cell 2
      clear kb
      refine does_value rfl (wanted_at rfl rfl (hc.dep hl 1 23 rfl (by kernel_rfl))) (.agg #[.int .u8 (k.toNat : Int), .int .u8 (f.toNat : Int), .slice A n c]) w1 ?_ (Below.refl _ _) rfl
      clear hc hl
      go_simp
    · intro listed a w1 hfar hl hc
      obtain ⟨A25, c25, h25, ho25⟩ := hc.dep hl 3 25 rfl (by kernel_rfl)
      have h26 : a.tmps[26]?.getD undef = .agg #[.int .u8 (k.toNat : Int), .int .u8 (f.toNat : Int), .slice A n c] := hc.dep hl 4 26 rfl (by kernel_rfl)
      refine does_call rfl (wanted_at rfl rfl (hc.dep hl 1 23 rfl (by kernel_rfl))) 18 #[.agg #[.int .u8 (k.toNat : Int), .int .u8 (f.toNat : Int), .slice A25 xs.length c25], .agg #[.int .u8 (k.toNat : Int), .int .u8 (f.toNat : Int), .slice A n c]] ?_ ((HSM.out w1 _ _ (B1.out.trans (hc.g.mono B1.out.size)) ho25).mono fun e w' ⟨he, hb⟩ => ⟨_, he, hb, rfl⟩)
      clear hc hl
      go_simp
    · intro listed a w1 hfar hl hc
      have h23 : a.tmps[23]?.getD undef = .bool true := hc.dep hl 1 23 rfl (by kernel_rfl)
      have h27 : a.tmps[27]?.getD undef = .bool true := hc.dep hl 5 27 rfl (by kernel_rfl)
      refine does_value rfl rfl (.bool true) w1 ?_ (Below.refl _ _) rfl
      clear hc hl
      go_simp
  intro w2 hb2
  rintro _ rfl _ rfl _ rfl _ ⟨A25, c25, rfl, ho25⟩ _ rfl _ rfl _ rfl
  simp only [Thus, List.reverse_cons, List.reverse_nil, List.nil_append, List.cons_append, List.drop, List.take, lay]
  go_frame
  have B0 := Lib.hid (below_then B1.out (Nat.le_refl _) hb2)
  have K0 := Lib.hid (K1.out.below hb2 K1.out.lt)
  clear hb2 B1 K1 HPU G1
  have x0 : w2.cell? ⟨w.heap.size, 0, none⟩ = some (.int .u8 (k.toNat : Int)) := K0.out.cell 0
  have x1 : w2.cell? ⟨w.heap.size, 1, none⟩ = some (.int .u8 (f.toNat : Int)) := K0.out.cell 1
  have x2 : w2.cell? ⟨w.heap.size, 2, none⟩ = some (.slice A n c) := K0.out.cell 2
  go_wp2_with fail
  clear x0 x1 x2
  generalize w2 = v0 at B0 K0 ⊢
  refine (HGI.out v0 B0.out).mono ?_
  rintro e w1 ⟨AI, mI, cI, rfl, hb⟩
  have b1 := below_then B0.out (Nat.le_refl _) hb
  have B1 := Lib.hid (b1.alloc b1.size (.cells #[.int .u32 0, .int .u32 0, .int .u16 0, .int .u16 0, .int .u32 0, .slice AI mI cI] 43))
  have K1 := Lib.hid ((K0.out.below hb K0.out.lt).alloc (.cells #[.int .u32 0, .int .u32 0, .int .u16 0, .int .u16 0, .int .u32 0, .slice AI mI cI] 43))
  clear hb b1 B0 K0 HGI
  have x0 : (w1.alloc (.cells #[.int .u32 0, .int .u32 0, .int .u16 0, .int .u16 0, .int .u32 0, .slice AI mI cI] 43)).cell? ⟨w.heap.size, 0, none⟩ = some (.int .u8 (k.toNat : Int)) := K1.out.cell 0
  have x1 : (w1.alloc (.cells #[.int .u32 0, .int .u32 0, .int .u16 0, .int .u16 0, .int .u32 0, .slice AI mI cI] 43)).cell? ⟨w.heap.size, 1, none⟩ = some (.int .u8 (f.toNat : Int)) := K1.out.cell 1
  have x2 : (w1.alloc (.cells #[.int .u32 0, .int .u32 0, .int .u16 0, .int .u16 0, .int .u32 0, .slice AI mI cI] 43)).cell? ⟨w.heap.size, 2, none⟩ = some (.slice A n c) := K1.out.cell 2
  go_wp2_with fail
  generalize w1.alloc (.cells #[.int .u32 0, .int .u32 0, .int .u16 0, .int .u16 0, .int .u32 0, .slice AI mI cI] 43) = v0 at B1 K1 ⊢
  clear x0 x1 x2
  have B0 := B1
  have K0 := K1
  clear B1 K1
  refine (HGS.out v0 B0.out).mono ?_
  rintro e w1 ⟨AS, mS, cS, AU, mU, cU, rfl, hb⟩
  have b1 := below_then B0.out (Nat.le_refl _) hb
  have B1 := Lib.hid (b1.alloc b1.size (.cells #[.int .u32 0, .int .u32 0, .slice AS mS cS, .slice AU mU cU] 52))
  have K1 := Lib.hid ((K0.out.below hb K0.out.lt).alloc (.cells #[.int .u32 0, .int .u32 0, .slice AS mS cS, .slice AU mU cU] 52))
  clear hb b1 B0 K0 HGS
  have x0 : (w1.alloc (.cells #[.int .u32 0, .int .u32 0, .slice AS mS cS, .slice AU mU cU] 52)).cell? ⟨w.heap.size, 0, none⟩ = some (.int .u8 (k.toNat : Int)) := K1.out.cell 0
  have x1 : (w1.alloc (.cells #[.int .u32 0, .int .u32 0, .slice AS mS cS, .slice AU mU cU] 52)).cell? ⟨w.heap.size, 1, none⟩ = some (.int .u8 (f.toNat : Int)) := K1.out.cell 1
  have x2 : (w1.alloc (.cells #[.int .u32 0, .int .u32 0, .slice AS mS cS, .slice AU mU cU] 52)).cell? ⟨w.heap.size, 2, none⟩ = some (.slice A n c) := K1.out.cell 2
  go_wp2_with fail
  generalize w1.alloc (.cells #[.int .u32 0, .int .u32 0, .slice AS mS cS, .slice AU mU cU] 52) = v0 at B1 K1 ⊢
  clear x0 x1 x2
  have B0 := B1
  have K0 := K1
  clear B1 K1
  refine (HGF.out v0 B0.out).mono ?_
  rintro e w1 ⟨AF, mF, cF, rfl, hb⟩
  have b1 := below_then B0.out (Nat.le_refl _) hb
  have B1 := Lib.hid (b1.alloc b1.size (.cells #[.int .u32 0, .slice AF mF cF] 56))
  have K1 := Lib.hid ((K0.out.below hb K0.out.lt).alloc (.cells #[.int .u32 0, .slice AF mF cF] 56))
  clear hb b1 B0 K0 HGF
  have x0 : (w1.alloc (.cells #[.int .u32 0, .slice AF mF cF] 56)).cell? ⟨w.heap.size, 0, none⟩ = some (.int .u8 (k.toNat : Int)) := K1.out.cell 0
  have x1 : (w1.alloc (.cells #[.int .u32 0, .slice AF mF cF] 56)).cell? ⟨w.heap.size, 1, none⟩ = some (.int .u8 (f.toNat : Int)) := K1.out.cell 1
  have x2 : (w1.alloc (.cells #[.int .u32 0, .slice AF mF cF] 56)).cell? ⟨w.heap.size, 2, none⟩ = some (.slice A n c) := K1.out.cell 2
  go_wp2_with fail
  generalize w1.alloc (.cells #[.int .u32 0, .slice AF mF cF] 56) = v0 at B1 K1 ⊢
  clear x0 x1 x2
  have B0 := B1
  have K0 := K1
  clear B1 K1
  refine (HGT.out v0 B0.out).mono ?_
  rintro e w1 ⟨rfl, hb⟩
  have B1 := Lib.hid (below_then B0.out (Nat.le_refl _) hb)
  have K1 := Lib.hid (K0.out.below hb K0.out.lt)
  clear hb B0 K0 HGT
  have x0 : w1.cell? ⟨w.heap.size, 0, none⟩ = some (.int .u8 (k.toNat : Int)) := K1.out.cell 0
  have x1 : w1.cell? ⟨w.heap.size, 1, none⟩ = some (.int .u8 (f.toNat : Int)) := K1.out.cell 1
  have x2 : w1.cell? ⟨w.heap.size, 2, none⟩ = some (.slice A n c) := K1.out.cell 2
  go_wp2_with fail
  clear x0 x1 x2
  generalize w1 = v0 at B1 K1 ⊢
  have B0 := B1
  have K0 := K1
  clear B1 K1
  refine (HGC.out v0 B0.out).mono ?_
  rintro e w1 ⟨rfl, hb⟩
  have B1 := Lib.hid (below_then B0.out (Nat.le_refl _) hb)
  have K1 := Lib.hid (K0.out.below hb K0.out.lt)
  clear hb B0 K0 HGC
  have x0 : w1.cell? ⟨w.heap.size, 0, none⟩ = some (.int .u8 (k.toNat : Int)) := K1.out.cell 0
  have x1 : w1.cell? ⟨w.heap.size, 1, none⟩ = some (.int .u8 (f.toNat : Int)) := K1.out.cell 1
  have x2 : w1.cell? ⟨w.heap.size, 2, none⟩ = some (.slice A n c) := K1.out.cell 2
  go_wp2_with fail
  clear x0 x1 x2
  go_ret2
  exact ⟨rfl, B1.out⟩
set_option maxRecDepth 100000 in
set_option maxHeartbeats 4000000 in
theorem got_I (k f : UInt8) (A : Option Addr) (n c : Nat) (xs : List UInt8) (w : World) (hn : n ≤ 131072) (hc : n ≤ c) (hcm : c ≤ maxLen) (hx : xs.length = n) (hr : Rd w w.heap.size A xs) (hD : okD k f xs = false) (hI : okI k f xs = true) (hS : okS k f xs = false) (hF : okF k f xs = false) (hT : okT k f xs = false) (hC : okC k f xs = false) :
    Calls Try.prog 47 #[.agg #[.int .u8 (k.toNat : Int), .int .u8 (f.toNat : Int), .slice A n c]] w fun e w' => e = .returned (.tuple #[.int .i64 1, .bool true]) ∧ Below w.heap.size w w' := by
  have hz0 := zero_data
  have hz1 := zero_init
  have hz2 := zero_sack
  have hz3 := zero_fwd
  have HGD : Hid (∀ W, Below w.heap.size w W → Calls Try.prog 16 #[.agg #[.int .u8 (k.toNat : Int), .int .u8 (f.toNat : Int), .slice A n c]] W fun e w' => ∃ AD mD cD, e = .returned (.tuple #[.agg #[.int .u32 0, .int .u16 0, .int .u16 0, .bool false, .bool false, .bool false, .slice AD mD cD], .int .i64 7]) ∧ Below W.heap.size W w') := Lib.hid fun W hW => getD_off k f A n c xs W hn hc hcm hx ((hr.below hW).more hW.size) hD
  have HGS : Hid (∀ W, Below w.heap.size w W → Calls Try.prog 30 #[.agg #[.int .u8 (k.toNat : Int), .int .u8 (f.toNat : Int), .slice A n c]] W fun e w' => ∃ AS mS cS AU mU cU, e = .returned (.tuple #[.agg #[.int .u32 0, .int .u32 0, .slice AS mS cS, .slice AU mU cU], .int .i64 7]) ∧ Below W.heap.size W w') := Lib.hid fun W hW => getS_off k f A n c xs W hn hc hcm hx ((hr.below hW).more hW.size) hS
  have HGF : Hid (∀ W, Below w.heap.size w W → Calls Try.prog 35 #[.agg #[.int .u8 (k.toNat : Int), .int .u8 (f.toNat : Int), .slice A n c]] W fun e w' => ∃ AF mF cF, e = .returned (.tuple #[.agg #[.int .u32 0, .slice AF mF cF], .int .i64 7]) ∧ Below W.heap.size W w') := Lib.hid fun W hW => getF_off k f A n c xs W hn hc hcm hx ((hr.below hW).more hW.size) hF
  have HGT : Hid (∀ W, Below w.heap.size w W → Calls Try.prog 39 #[.agg #[.int .u8 (k.toNat : Int), .int .u8 (f.toNat : Int), .slice A n c]] W fun e w' => e = .returned (.tuple #[.int .i64 0, .int .i64 7]) ∧ Below W.heap.size W w') := Lib.hid fun W hW => getT_off k f A n c xs W hn hc hcm hx ((hr.below hW).more hW.size) hT
  have HGC : Hid (∀ W, Below w.heap.size w W → Calls Try.prog 41 #[.agg #[.int .u8 (k.toNat : Int), .int .u8 (f.toNat : Int), .slice A n c]] W fun e w' => e = .returned (.tuple #[.int .u32 0, .int .i64 7]) ∧ Below W.heap.size W w') := Lib.hid fun W hW => getC_off k f A n c xs W hn hc hcm hx ((hr.below hW).more hW.size) hC
  obtain ⟨i0, i1, i2, i3, i4, IS, hgx, hpx⟩ := onI k f A n c xs hn hc hcm hx hI
  have HGI : Hid (∀ W, Below w.heap.size w W → Calls Try.prog 24 #[.agg #[.int .u8 (k.toNat : Int), .int .u8 (f.toNat : Int), .slice A n c]] W fun e w' => ∃ AI mI cI, e = .returned (.tuple #[.agg #[.int .u32 (i0 : Int), .int .u32 (i1 : Int), .int .u16 (i2 : Int), .int .u16 (i3 : Int), .int .u32 (i4 : Int), .slice AI mI cI], .int .i64 0]) ∧ (Own8 w' 5 W.heap.size AI mI cI IS) ∧ Below W.heap.size W w') := Lib.hid fun W hW => hgx W ((hr.below hW).more hW.size)
  have HPX := Lib.hid hpx
  have HSM : Hid (∀ (W : World) (A' : Option Addr) (c' : Nat), Below w.heap.size w W → Own8 W 5 w.heap.size A' xs.length c' xs → Calls Try.prog 18 #[.agg #[.int .u8 (k.toNat : Int), .int .u8 (f.toNat : Int), .slice A' xs.length c'], .agg #[.int .u8 (k.toNat : Int), .int .u8 (f.toNat : Int), .slice A n c]] W fun e w' => e = .returned (.bool true) ∧ Below W.heap.size W w') := Lib.hid fun W A' c' hW ho => by
    have := same_any k f k f A' A xs.length n c' c xs xs W rfl hx (Nat.le_trans ho.cap.1 ho.cap.2) (by unfold maxLen; omega) ho.rd ((hr.below hW).more hW.size)
    simpa using this
  clear hgx hpx hx hr hD hI hS hF hT hC
  have b0 : Blk (w.alloc (.cells #[.int .u8 (k.toNat : Int), .int .u8 (f.toNat : Int), .slice A n c] 28)) w.heap.size 28 #[.int .u8 (k.toNat : Int), .int .u8 (f.toNat : Int), .slice A n c] := Blk.new w 28 #[.int .u8 (k.toNat : Int), .int .u8 (f.toNat : Int), .slice A n c]
  have K0 := Lib.hid b0
  have B0 : Hid (Below w.heap.size w (w.alloc (.cells #[.int .u8 (k.toNat : Int), .int .u8 (f.toNat : Int), .slice A n c] 28))) := Lib.hid (Wr.below_ ((Wr.refl 5 w.heap.size w).alloc (.cells #[.int .u8 (k.toNat : Int), .int .u8 (f.toNat : Int), .slice A n c] 28)) (Nat.le_refl _))
  clear b0
  go_enter Try.func47, Try.ntmps47
  rw [drawn_eq 6, drawn_eq 10, drawn_eq 14, drawn_eq 18, drawn_eq 22, drawn_eq 26]
  go_wp2_with fail
  generalize (w.alloc (.cells #[.int .u8 (k.toNat : Int), .int .u8 (f.toNat : Int), .slice A n c] 28)) = v0 at K0 B0 ⊢
  refine (HGD.out v0 B0.out).mono ?_
  rintro e w1 ⟨AD, mD, cD, rfl, hb⟩
  have b1 := below_then B0.out (Nat.le_refl _) hb
  have B1 := Lib.hid (b1.alloc b1.size (.cells #[.int .u32 0, .int .u16 0, .int .u16 0, .bool false, .bool false, .bool false, .slice AD mD cD] 26))
  have K1 := Lib.hid ((K0.out.below hb K0.out.lt).alloc (.cells #[.int .u32 0, .int .u16 0, .int .u16 0, .bool false, .bool false, .bool false, .slice AD mD cD] 26))
  clear hb b1 B0 K0 HGD
  have x0 : (w1.alloc (.cells #[.int .u32 0, .int .u16 0, .int .u16 0, .bool false, .bool false, .bool false, .slice AD mD cD] 26)).cell? ⟨w.heap.size, 0, none⟩ = some (.int .u8 (k.toNat : Int)) := K1.out.cell 0
  have x1 : (w1.alloc (.cells #[.int .u32 0, .int .u16 0, .int .u16 0, .bool false, .bool false, .bool false, .slice AD mD cD] 26)).cell? ⟨w.heap.size, 1, none⟩ = some (.int .u8 (f.toNat : Int)) := K1.out.cell 1
  have x2 : (w1.alloc (.cells #[.int .u32 0, .int .u16 0, .int .u16 0, .bool false, .bool false, .bool false, .slice AD mD cD] 26)).cell? ⟨w.heap.size, 2, none⟩ = some (.slice A n c) := K1.out.cell 2
  go_wp2_with fail
  generalize w1.alloc (.cells #[.int .u32 0, .int .u16 0, .int .u16 0, .bool false, .bool false, .bool false, .slice AD mD cD] 26) = v0 at B1 K1 ⊢
  clear x0 x1 x2
  have B0 := B1
  have K0 := K1
  clear B1 K1
  refine (HGI.out v0 B0.out).mono ?_
  rintro e w1 ⟨AI, mI, cI, rfl, ho, hb⟩
  have b1 := below_then B0.out (Nat.le_refl _) hb
  have B1 := Lib.hid (b1.alloc b1.size (.cells #[.int .u32 (i0 : Int), .int .u32 (i1 : Int), .int .u16 (i2 : Int), .int .u16 (i3 : Int), .int .u32 (i4 : Int), .slice AI mI cI] 43))
  have K1 := Lib.hid ((K0.out.below hb K0.out.lt).alloc (.cells #[.int .u32 (i0 : Int), .int .u32 (i1 : Int), .int .u16 (i2 : Int), .int .u16 (i3 : Int), .int .u32 (i4 : Int), .slice AI mI cI] 43))
  have G1 := Lib.hid (Blk.new w1 43 #[.int .u32 (i0 : Int), .int .u32 (i1 : Int), .int .u16 (i2 : Int), .int .u16 (i3 : Int), .int .u32 (i4 : Int), .slice AI mI cI])
  have HPU : Hid (∀ W, Below (w1.alloc (.cells #[.int .u32 (i0 : Int), .int .u32 (i1 : Int), .int .u16 (i2 : Int), .int .u16 (i3 : Int), .int .u32 (i4 : Int), .slice AI mI cI] 43)).heap.size (w1.alloc (.cells #[.int .u32 (i0 : Int), .int .u32 (i1 : Int), .int .u16 (i2 : Int), .int .u16 (i3 : Int), .int .u32 (i4 : Int), .slice AI mI cI] 43)) W → Puts 23 #[.int .u8 (k.toNat : Int), .agg #[.int .u32 (i0 : Int), .int .u32 (i1 : Int), .int .u16 (i2 : Int), .int .u16 (i3 : Int), .int .u32 (i4 : Int), .slice AI mI cI]] k f xs W) := Lib.hid fun W hW => HPX.out W AI mI cI _ (Own8.below (ho.alloc (.cells #[.int .u32 (i0 : Int), .int .u32 (i1 : Int), .int .u16 (i2 : Int), .int .u16 (i3 : Int), .int .u32 (i4 : Int), .slice AI mI cI] 43)) hW (Nat.le_refl _))
  clear hb b1 B0 K0 HGI ho HPX
  have x0 : (w1.alloc (.cells #[.int .u32 (i0 : Int), .int .u32 (i1 : Int), .int .u16 (i2 : Int), .int .u16 (i3 : Int), .int .u32 (i4 : Int), .slice AI mI cI] 43)).cell? ⟨w.heap.size, 0, none⟩ = some (.int .u8 (k.toNat : Int)) := K1.out.cell 0
  have x1 : (w1.alloc (.cells #[.int .u32 (i0 : Int), .int .u32 (i1 : Int), .int .u16 (i2 : Int), .int .u16 (i3 : Int), .int .u32 (i4 : Int), .slice AI mI cI] 43)).cell? ⟨w.heap.size, 1, none⟩ = some (.int .u8 (f.toNat : Int)) := K1.out.cell 1
  have x2 : (w1.alloc (.cells #[.int .u32 (i0 : Int), .int .u32 (i1 : Int), .int .u16 (i2 : Int), .int .u16 (i3 : Int), .int .u32 (i4 : Int), .slice AI mI cI] 43)).cell? ⟨w.heap.size, 2, none⟩ = some (.slice A n c) := K1.out.cell 2
  go_wp2_with fail
  clear x0 x1 x2
  obtain ⟨g6, hg6⟩ : ∃ g6, g6 = w1.heap.size := ⟨_, rfl⟩
  rw [← hg6] at G1 ⊢
  generalize w1.alloc (.cells #[.int .u32 (i0 : Int), .int .u32 (i1 : Int), .int .u16 (i2 : Int), .int .u16 (i3 : Int), .int .u32 (i4 : Int), .slice AI mI cI] 43) = v1 at B1 K1 G1 HPU ⊢
  clear hg6
  rw [← drawn_eq 10]
  refine wp_region_grow_tailT 9 (by kernel_rfl) [(Is (.bool true)), (Is (.bool true)), (Is (.pointer (some ⟨w.heap.size, 0, none⟩))), (Is (.int .u8 (k.toNat : Int))), (Is (.agg #[.int .u32 (i0 : Int), .int .u32 (i1 : Int), .int .u16 (i2 : Int), .int .u16 (i3 : Int), .int .u32 (i4 : Int), .slice AI mI cI])), (NewAgg 5 w.heap.size xs.length xs (fun s => .agg #[.int .u8 (k.toNat : Int), .int .u8 (f.toNat : Int), s])), (Is (.agg #[.int .u8 (k.toNat : Int), .int .u8 (f.toNat : Int), .slice A n c])), (Is (.bool true)), (Is (.bool true))] rfl ?_ (by kernel_rfl) (by kernel_rfl) ?_ ?_
  · intro p hp
    simp only [List.mem_cons, List.not_mem_nil, or_false] at hp
    rcases hp with rfl | rfl | rfl | rfl | rfl | rfl | rfl | rfl | rfl
    · exact Lasts.is _
    · exact Lasts.is _
    · exact Lasts.is _
    · exact Lasts.is _
    · exact Lasts.is _
    · exact Lasts.newAgg _ _ _ _ _
    · exact Lasts.is _
    · exact Lasts.is _
    · exact Lasts.is _
  · refine ⟨?_, ?_, ?_, ?_, ?_, ?_, ?_, ?_, ?_, trivial⟩
    · intro listed a w1 hfar hl hc
      have h5 : a.tmps[5]?.getD undef = .bool true := (hc.wasT hfar 5 (by kernel_rfl)).trans rfl
      refine does_value rfl rfl (.bool true) w1 ?_ (Below.refl _ _) rfl
      clear hc hl
      go_simp
    · intro listed a w1 hfar hl hc
      have h38 : a.tmps[38]?.getD undef = .bool true := hc.dep hl 0 38 rfl (by kernel_rfl)
      refine does_value rfl rfl (.bool true) w1 ?_ (Below.refl _ _) rfl
      clear hc hl
      go_simp
    · intro listed a w1 hfar hl hc
      have h1 : a.tmps[1]?.getD undef = .pointer (some ⟨w.heap.size, 0, none⟩) := (hc.was 1 (by kernel_rfl)).trans rfl
      refine does_value rfl (wanted_at rfl rfl (hc.dep hl 1 39 rfl (by kernel_rfl))) (.pointer (some ⟨w.heap.size, 0, none⟩)) w1 ?_ (Below.refl _ _) rfl
      clear hc hl
      go_simp
    · intro listed a w1 hfar hl hc
      have h40 : a.tmps[40]?.getD undef = .pointer (some ⟨w.heap.size, 0, none⟩) := hc.dep hl 2 40 rfl (by kernel_rfl)
      have kb := K1.out.below hc.g K1.out.lt
      have x0 : w1.cell? ⟨w.heap.size, 0, none⟩ = some (.int .u8 (k.toNat : Int)) := kb.cell 0
      clear kb
      refine does_value rfl (wanted_at rfl rfl (hc.dep hl 1 39 rfl (by kernel_rfl))) (.int .u8 (k.toNat : Int)) w1 ?_ (Below.refl _ _) rfl
      clear hc hl
      go_simp
    · intro listed a w1 hfar hl hc
      have h8 : a.tmps[8]?.getD undef = .pointer (some ⟨g6, 0, none⟩) := (hc.was 8 (by kernel_rfl)).trans rfl
      have kb := G1.out.below hc.g G1.out.lt
      have x0 : w1.cell? ⟨g6, 0, none⟩ = some (.int .u32 (i0 : Int)) := kb.cell 0
      have x1 : w1.cell? ⟨g6, 1, none⟩ = some (.int .u32 (i1 : Int)) := kb.cell 1
      have x2 : w1.cell? ⟨g6, 2, none⟩ = some (.int .u16 (i2 : Int)) := kb.cell 2
      have x3 : w1.cell? ⟨g6, 3, none⟩ = some (.int .u16 (i3 : Int)) := kb.cell 3
      have x4 : w1.cell? ⟨g6, 4, none⟩ = some (.int .u32 (i4 : Int)) := kb.cell 4
      have x5 : w1.cell? ⟨g6, 5, none⟩ = some (.slice AI mI cI) := kb.cell 5
      clear kb
      refine does_value rfl (wanted_at rfl rfl (hc.dep hl 1 39 rfl (by kernel_rfl))) (.agg #[.int .u32 (i0 : Int), .int .u32 (i1 : Int), .int .u16 (i2 : Int), .int .u16 (i3 : Int), .int .u32 (i4 : Int), .slice AI mI cI]) w1 ?_ (Below.refl _ _) rfl
      clear hc hl
      go_simp
    · intro listed a w1 hfar hl hc
      have h41 : a.tmps[41]?.getD undef = .int .u8 (k.toNat : Int) := hc.dep hl 3 41 rfl (by kernel_rfl)
      have h42 : a.tmps[42]?.getD undef = .agg #[.int .u32 (i0 : Int), .int .u32 (i1 : Int), .int .u16 (i2 : Int), .int .u16 (i3 : Int), .int .u32 (i4 : Int), .slice AI mI cI] := hc.dep hl 4 42 rfl (by kernel_rfl)
      refine does_call rfl (wanted_at rfl rfl (hc.dep hl 1 39 rfl (by kernel_rfl))) 23 #[.int .u8 (k.toNat : Int), .agg #[.int .u32 (i0 : Int), .int .u32 (i1 : Int), .int .u16 (i2 : Int), .int .u16 (i3 : Int), .int .u32 (i4 : Int), .slice AI mI cI]] ?_ ((HPU.out w1 hc.g).mono fun e w' ⟨A9, c9, he, ho, hb⟩ => ⟨_, he, hb, A9, c9, rfl, ho.more (Nat.le_trans B1.out.size hc.g.size)⟩)
      clear hc hl
      go_simp
    · intro listed a w1 hfar hl hc
      have h1 : a.tmps[1]?.getD undef = .pointer (some ⟨w.heap.size, 0, none⟩) := (hc.was 1 (by kernel_rfl)).trans rfl
      have kb := K1.out.below hc.g K1.out.lt
      have x0 : w1.cell? ⟨w.heap.size, 0, none⟩ = some (.int .u8 (k.toNat : Int)) := kb.cell 0
      have x1 : w1.cell? ⟨w.heap.size, 1, none⟩ = some (.int .u8 (f.toNat : Int)) := kb.cell 1
      have x2 : w1.cell? ⟨w.heap.size, 2, none⟩ = some (.slice A n c) := kb.cell 2
      clear kb
      refine does_value rfl (wanted_at rfl rfl (hc.dep hl 1 39 rfl (by kernel_rfl))) (.agg #[.int .u8 (k.toNat : Int), .int .u8 (f.toNat : Int), .slice A n c]) w1 ?_ (Below.refl _ _) rfl
      clear hc hl
      go_simp
    · intro listed a w1 hfar hl hc
      obtain ⟨A43, c43, h43, ho43⟩ := hc.dep hl 5 43 rfl (by kernel_rfl)
      have h44 : a.tmps[44]?.getD undef = .agg #[.int .u8 (k.toNat : Int), .int .u8 (f.toNat : Int), .slice A n c] := hc.dep hl 6 44 rfl (by kernel_rfl)
      refine does_call rfl (wanted_at rfl rfl (hc.dep hl 1 39 rfl (by kernel_rfl))) 18 #[.agg #[.int .u8 (k.toNat : Int), .int .u8 (f.toNat : Int), .slice A43 xs.length c43], .agg #[.int .u8 (k.toNat : Int), .int .u8 (f.toNat : Int), .slice A n c]] ?_ ((HSM.out w1 _ _ (B1.out.trans (hc.g.mono B1.out.size)) ho43).mono fun e w' ⟨he, hb⟩ => ⟨_, he, hb, rfl⟩)
      clear hc hl
      go_simp
    · intro listed a w1 hfar hl hc
      have h39 : a.tmps[39]?.getD undef = .bool true := hc.dep hl 1 39 rfl (by kernel_rfl)
      have h45 : a.tmps[45]?.getD undef = .bool true := hc.dep hl 7 45 rfl (by kernel_rfl)
      refine does_value rfl rfl (.bool true) w1 ?_ (Below.refl _ _) rfl
      clear hc hl
      go_simp
  intro w2 hb2
  rintro _ rfl _ rfl _ rfl _ rfl _ rfl _ ⟨A43, c43, rfl, ho43⟩ _ rfl _ rfl _ rfl
  simp only [Thus, List.reverse_cons, List.reverse_nil, List.nil_append, List.cons_append, List.drop, List.take, lay]
  go_frame
  have B0 := Lib.hid (below_then B1.out (Nat.le_refl _) hb2)
  have K0 := Lib.hid (K1.out.below hb2 K1.out.lt)
  clear hb2 B1 K1 HPU G1
  have x0 : w2.cell? ⟨w.heap.size, 0, none⟩ = some (.int .u8 (k.toNat : Int)) := K0.out.cell 0
  have x1 : w2.cell? ⟨w.heap.size, 1, none⟩ = some (.int .u8 (f.toNat : Int)) := K0.out.cell 1
  have x2 : w2.cell? ⟨w.heap.size, 2, none⟩ = some (.slice A n c) := K0.out.cell 2
  go_wp2_with fail
  clear x0 x1 x2
  generalize w2 = v0 at B0 K0 ⊢
  refine (HGS.out v0 B0.out).mono ?_
  rintro e w1 ⟨AS, mS, cS, AU, mU, cU, rfl, hb⟩
  have b1 := below_then B0.out (Nat.le_refl _) hb
  have B1 := Lib.hid (b1.alloc b1.size (.cells #[.int .u32 0, .int .u32 0, .slice AS mS cS, .slice AU mU cU] 52))
  have K1 := Lib.hid ((K0.out.below hb K0.out.lt).alloc (.cells #[.int .u32 0, .int .u32 0, .slice AS mS cS, .slice AU mU cU] 52))
  clear hb b1 B0 K0 HGS
  have x0 : (w1.alloc (.cells #[.int .u32 0, .int .u32 0, .slice AS mS cS, .slice AU mU cU] 52)).cell? ⟨w.heap.size, 0, none⟩ = some (.int .u8 (k.toNat : Int)) := K1.out.cell 0
  have x1 : (w1.alloc (.cells #[.int .u32 0, .int .u32 0, .slice AS mS cS, .slice AU mU cU] 52)).cell? ⟨w.heap.size, 1, none⟩ = some (.int .u8 (f.toNat : Int)) := K1.out.cell 1
  have x2 : (w1.alloc (.cells #[.int .u32 0, .int .u32 0, .slice AS mS cS, .slice AU mU cU] 52)).cell? ⟨w.heap.size, 2, none⟩ = some (.slice A n c) := K1.out.cell 2
  go_wp2_with fail
  generalize w1.alloc (.cells #[.int .u32 0, .int .u32 0, .slice AS mS cS, .slice AU mU cU] 52) = v0 at B1 K1 ⊢
  clear x0 x1 x2
  have B0 := B1
  have K0 := K1
  clear B1 K1
  refine (HGF.out v0 B0.out).mono ?_
  rintro e w1 ⟨AF, mF, cF, rfl, hb⟩
  have b1 := below_then B0.out (Nat.le_refl _) hb
  have B1 := Lib.hid (b1.alloc b1.size (.cells #[.int .u32 0, .slice AF mF cF] 56))
  have K1 := Lib.hid ((K0.out.below hb K0.out.lt).alloc (.cells #[.int .u32 0, .slice AF mF cF] 56))
  clear hb b1 B0 K0 HGF
  have x0 : (w1.alloc (.cells #[.int .u32 0, .slice AF mF cF] 56)).cell? ⟨w.heap.size, 0, none⟩ = some (.int .u8 (k.toNat : Int)) := K1.out.cell 0
  have x1 : (w1.alloc (.cells #[.int .u32 0, .slice AF mF cF] 56)).cell? ⟨w.heap.size, 1, none⟩ = some (.int .u8 (f.toNat : Int)) := K1.out.cell 1
  have x2 : (w1.alloc (.cells #[.int .u32 0, .slice AF mF cF] 56)).cell? ⟨w.heap.size, 2, none⟩ = some (.slice A n c) := K1.out.cell 2
  go_wp2_with fail
  generalize w1.alloc (.cells #[.int .u32 0, .slice AF mF cF] 56) = v0 at B1 K1 ⊢
  clear x0 x1 x2
  have B0 := B1
  have K0 := K1
  clear B1 K1
  refine (HGT.out v0 B0.out).mono ?_
  rintro e w1 ⟨rfl, hb⟩
  have B1 := Lib.hid (below_then B0.out (Nat.le_refl _) hb)
  have K1 := Lib.hid (K0.out.below hb K0.out.lt)
  clear hb B0 K0 HGT
  have x0 : w1.cell? ⟨w.heap.size, 0, none⟩ = some (.int .u8 (k.toNat : Int)) := K1.out.cell 0
  have x1 : w1.cell? ⟨w.heap.size, 1, none⟩ = some (.int .u8 (f.toNat : Int)) := K1.out.cell 1
  have x2 : w1.cell? ⟨w.heap.size, 2, none⟩ = some (.slice A n c) := K1.out.cell 2
  go_wp2_with fail
  clear x0 x1 x2
  generalize w1 = v0 at B1 K1 ⊢
  have B0 := B1
  have K0 := K1
  clear B1 K1
  refine (HGC.out v0 B0.out).mono ?_
  rintro e w1 ⟨rfl, hb⟩
  have B1 := Lib.hid (below_then B0.out (Nat.le_refl _) hb)
  have K1 := Lib.hid (K0.out.below hb K0.out.lt)
  clear hb B0 K0 HGC
  have x0 : w1.cell? ⟨w.heap.size, 0, none⟩ = some (.int .u8 (k.toNat : Int)) := K1.out.cell 0
  have x1 : w1.cell? ⟨w.heap.size, 1, none⟩ = some (.int .u8 (f.toNat : Int)) := K1.out.cell 1
  have x2 : w1.cell? ⟨w.heap.size, 2, none⟩ = some (.slice A n c) := K1.out.cell 2
  go_wp2_with fail
  clear x0 x1 x2
  go_ret2
  exact ⟨rfl, B1.out⟩
set_option maxRecDepth 100000 in
set_option maxHeartbeats 4000000 in
theorem got_S (k f : UInt8) (A : Option Addr) (n c : Nat) (xs : List UInt8) (w : World) (hn : n ≤ 131072) (hc : n ≤ c) (hcm : c ≤ maxLen) (hx : xs.length = n) (hr : Rd w w.heap.size A xs) (hD : okD k f xs = false) (hI : okI k f xs = false) (hS : okS k f xs = true) (hF : okF k f xs = false) (hT : okT k f xs = false) (hC : okC k f xs = false) :
    Calls Try.prog 47 #[.agg #[.int .u8 (k.toNat : Int), .int .u8 (f.toNat : Int), .slice A n c]] w fun e w' => e = .returned (.tuple #[.int .i64 1, .bool true]) ∧ Below w.heap.size w w' := by
  have hz0 := zero_data
  have hz1 := zero_init
  have hz2 := zero_sack
  have hz3 := zero_fwd
  have HGD : Hid (∀ W, Below w.heap.size w W → Calls Try.prog 16 #[.agg #[.int .u8 (k.toNat : Int), .int .u8 (f.toNat : Int), .slice A n c]] W fun e w' => ∃ AD mD cD, e = .returned (.tuple #[.agg #[.int .u32 0, .int .u16 0, .int .u16 0, .bool false, .bool false, .bool false, .slice AD mD cD], .int .i64 7]) ∧ Below W.heap.size W w') := Lib.hid fun W hW => getD_off k f A n c xs W hn hc hcm hx ((hr.below hW).more hW.size) hD
  have HGI : Hid (∀ W, Below w.heap.size w W → Calls Try.prog 24 #[.agg #[.int .u8 (k.toNat : Int), .int .u8 (f.toNat : Int), .slice A n c]] W fun e w' => ∃ AI mI cI, e = .returned (.tuple #[.agg #[.int .u32 0, .int .u32 0, .int .u16 0, .int .u16 0, .int .u32 0, .slice AI mI cI], .int .i64 7]) ∧ Below W.heap.size W w') := Lib.hid fun W hW => getI_off k f A n c xs W hn hc hcm hx ((hr.below hW).more hW.size) hI
  have HGF : Hid (∀ W, Below w.heap.size w W → Calls Try.prog 35 #[.agg #[.int .u8 (k.toNat : Int), .int .u8 (f.toNat : Int), .slice A n c]] W fun e w' => ∃ AF mF cF, e = .returned (.tuple #[.agg #[.int .u32 0, .slice AF mF cF], .int .i64 7]) ∧ Below W.heap.size W w') := Lib.hid fun W hW => getF_off k f A n c xs W hn hc hcm hx ((hr.below hW).more hW.size) hF
  have HGT : Hid (∀ W, Below w.heap.size w W → Calls Try.prog 39 #[.agg #[.int .u8 (k.toNat : Int), .int .u8 (f.toNat : Int), .slice A n c]] W fun e w' => e = .returned (.tuple #[.int .i64 0, .int .i64 7]) ∧ Below W.heap.size W w') := Lib.hid fun W hW => getT_off k f A n c xs W hn hc hcm hx ((hr.below hW).more hW.size) hT
  have HGC : Hid (∀ W, Below w.heap.size w W → Calls Try.prog 41 #[.agg #[.int .u8 (k.toNat : Int), .int .u8 (f.toNat : Int), .slice A n c]] W fun e w' => e = .returned (.tuple #[.int .u32 0, .int .i64 7]) ∧ Below W.heap.size W w') := Lib.hid fun W hW => getC_off k f A n c xs W hn hc hcm hx ((hr.below hW).more hW.size) hC
  obtain ⟨s0, s1, GS, US, hgx, hpx⟩ := onS k f A n c xs hn hc hcm hx hS
  have HGS : Hid (∀ W, Below w.heap.size w W → Calls Try.prog 30 #[.agg #[.int .u8 (k.toNat : Int), .int .u8 (f.toNat : Int), .slice A n c]] W fun e w' => ∃ AS mS cS AU mU cU, e = .returned (.tuple #[.agg #[.int .u32 (s0 : Int), .int .u32 (s1 : Int), .slice AS mS cS, .slice AU mU cU], .int .i64 0]) ∧ (Og w' 79 W.heap.size (.slice AS mS cS) GS ∧ mS = GS.length ∧ Ow w' 22 W.heap.size (.slice AU mU cU) (ints US) ∧ mU = US.length) ∧ Below W.heap.size W w') := Lib.hid fun W hW => hgx W ((hr.below hW).more hW.size)
  have HPX := Lib.hid hpx
  have HSM : Hid (∀ (W : World) (A' : Option Addr) (c' : Nat), Below w.heap.size w W → Own8 W 5 w.heap.size A' xs.length c' xs → Calls Try.prog 18 #[.agg #[.int .u8 (k.toNat : Int), .int .u8 (f.toNat : Int), .slice A' xs.length c'], .agg #[.int .u8 (k.toNat : Int), .int .u8 (f.toNat : Int), .slice A n c]] W fun e w' => e = .returned (.bool true) ∧ Below W.heap.size W w') := Lib.hid fun W A' c' hW ho => by
    have := same_any k f k f A' A xs.length n c' c xs xs W rfl hx (Nat.le_trans ho.cap.1 ho.cap.2) (by unfold maxLen; omega) ho.rd ((hr.below hW).more hW.size)
    simpa using this
  clear hgx hpx hx hr hD hI hS hF hT hC
  have b0 : Blk (w.alloc (.cells #[.int .u8 (k.toNat : Int), .int .u8 (f.toNat : Int), .slice A n c] 28)) w.heap.size 28 #[.int .u8 (k.toNat : Int), .int .u8 (f.toNat : Int), .slice A n c] := Blk.new w 28 #[.int .u8 (k.toNat : Int), .int .u8 (f.toNat : Int), .slice A n c]
  have K0 := Lib.hid b0
  have B0 : Hid (Below w.heap.size w (w.alloc (.cells #[.int .u8 (k.toNat : Int), .int .u8 (f.toNat : Int), .slice A n c] 28))) := Lib.hid (Wr.below_ ((Wr.refl 5 w.heap.size w).alloc (.cells #[.int .u8 (k.toNat : Int), .int .u8 (f.toNat : Int), .slice A n c] 28)) (Nat.le_refl _))
  clear b0
  go_enter Try.func47, Try.ntmps47
  rw [drawn_eq 6, drawn_eq 10, drawn_eq 14, drawn_eq 18, drawn_eq 22, drawn_eq 26]
  go_wp2_with fail
  generalize (w.alloc (.cells #[.int .u8 (k.toNat : Int), .int .u8 (f.toNat : Int), .slice A n c] 28)) = v0 at K0 B0 ⊢
  refine (HGD.out v0 B0.out).mono ?_
  rintro e w1 ⟨AD, mD, cD, rfl, hb⟩
  have b1 := below_then B0.out (Nat.le_refl _) hb
  have B1 := Lib.hid (b1.alloc b1.size (.cells #[.int .u32 0, .int .u16 0, .int .u16 0, .bool false, .bool false, .bool false, .slice AD mD cD] 26))
  have K1 := Lib.hid ((K0.out.below hb K0.out.lt).alloc (.cells #[.int .u32 0, .int .u16 0, .int .u16 0, .bool false, .bool false, .bool false, .slice AD mD cD] 26))
  clear hb b1 B0 K0 HGD
  have x0 : (w1.alloc (.cells #[.int .u32 0, .int .u16 0, .int .u16 0, .bool false, .bool false, .bool false, .slice AD mD cD] 26)).cell? ⟨w.heap.size, 0, none⟩ = some (.int .u8 (k.toNat : Int)) := K1.out.cell 0
  have x1 : (w1.alloc (.cells #[.int .u32 0, .int .u16 0, .int .u16 0, .bool false, .bool false, .bool false, .slice AD mD cD] 26)).cell? ⟨w.heap.size, 1, none⟩ = some (.int .u8 (f.toNat : Int)) := K1.out.cell 1
  have x2 : (w1.alloc (.cells #[.int .u32 0, .int .u16 0, .int .u16 0, .bool false, .bool false, .bool false, .slice AD mD cD] 26)).cell? ⟨w.heap.size, 2, none⟩ = some (.slice A n c) := K1.out.cell 2
  go_wp2_with fail
  generalize w1.alloc (.cells #[.int .u32 0, .int .u16 0, .int .u16 0, .bool false, .bool false, .bool false, .slice AD mD cD] 26) = v0 at B1 K1 ⊢
  clear x0 x1 x2
  have B0 := B1
  have K0 := K1
  clear B1 K1
  refine (HGI.out v0 B0.out).mono ?_
  rintro e w1 ⟨AI, mI, cI, rfl, hb⟩
  have b1 := below_then B0.out (Nat.le_refl _) hb
  have B1 := Lib.hid (b1.alloc b1.size (.cells #[.int .u32 0, .int .u32 0, .int .u16 0, .int .u16 0, .int .u32 0, .slice AI mI cI] 43))
  have K1 := Lib.hid ((K0.out.below hb K0.out.lt).alloc (.cells #[.int .u32 0, .int .u32 0, .int .u16 0, .int .u16 0, .int .u32 0, .slice AI mI cI] 43))
  clear hb b1 B0 K0 HGI
  have x0 : (w1.alloc (.cells #[.int .u32 0, .int .u32 0, .int .u16 0, .int .u16 0, .int .u32 0, .slice AI mI cI] 43)).cell? ⟨w.heap.size, 0, none⟩ = some (.int .u8 (k.toNat : Int)) := K1.out.cell 0
  have x1 : (w1.alloc (.cells #[.int .u32 0, .int .u32 0, .int .u16 0, .int .u16 0, .int .u32 0, .slice AI mI cI] 43)).cell? ⟨w.heap.size, 1, none⟩ = some (.int .u8 (f.toNat : Int)) := K1.out.cell 1
  have x2 : (w1.alloc (.cells #[.int .u32 0, .int .u32 0, .int .u16 0, .int .u16 0, .int .u32 0, .slice AI mI cI] 43)).cell? ⟨w.heap.size, 2, none⟩ = some (.slice A n c) := K1.out.cell 2
  go_wp2_with fail
  generalize w1.alloc (.cells #[.int .u32 0, .int .u32 0, .int .u16 0, .int .u16 0, .int .u32 0, .slice AI mI cI] 43) = v0 at B1 K1 ⊢
  clear x0 x1 x2
  have B0 := B1
  have K0 := K1
  clear B1 K1
  refine (HGS.out v0 B0.out).mono ?_
  rintro e w1 ⟨AS, mS, cS, AU, mU, cU, rfl, ⟨ho, hm, hp, hm2⟩, hb⟩
  have HM := Lib.hid hm
  have HM2 := Lib.hid hm2
  clear hm hm2
  have b1 := below_then B0.out (Nat.le_refl _) hb
  have B1 := Lib.hid (b1.alloc b1.size (.cells #[.int .u32 (s0 : Int), .int .u32 (s1 : Int), .slice AS mS cS, .slice AU mU cU] 52))
  have K1 := Lib.hid ((K0.out.below hb K0.out.lt).alloc (.cells #[.int .u32 (s0 : Int), .int .u32 (s1 : Int), .slice AS mS cS, .slice AU mU cU] 52))
  have G1 := Lib.hid (Blk.new w1 52 #[.int .u32 (s0 : Int), .int .u32 (s1 : Int), .slice AS mS cS, .slice AU mU cU])
  have HPU : Hid (∀ W, Below (w1.alloc (.cells #[.int .u32 (s0 : Int), .int .u32 (s1 : Int), .slice AS mS cS, .slice AU mU cU] 52)).heap.size (w1.alloc (.cells #[.int .u32 (s0 : Int), .int .u32 (s1 : Int), .slice AS mS cS, .slice AU mU cU] 52)) W → Puts 29 #[.agg #[.int .u32 (s0 : Int), .int .u32 (s1 : Int), .slice AS mS cS, .slice AU mU cU]] k f xs W) := Lib.hid fun W hW => HPX.out W AS mS cS AU mU cU _ ⟨(Og.alloc ho (.cells #[.int .u32 (s0 : Int), .int .u32 (s1 : Int), .slice AS mS cS, .slice AU mU cU] 52)).below hW, HM.out, (Ow.alloc hp (.cells #[.int .u32 (s0 : Int), .int .u32 (s1 : Int), .slice AS mS cS, .slice AU mU cU] 52)).below hW, HM2.out⟩
  clear hb b1 B0 K0 HGS ho hp HPX
  have x0 : (w1.alloc (.cells #[.int .u32 (s0 : Int), .int .u32 (s1 : Int), .slice AS mS cS, .slice AU mU cU] 52)).cell? ⟨w.heap.size, 0, none⟩ = some (.int .u8 (k.toNat : Int)) := K1.out.cell 0
  have x1 : (w1.alloc (.cells #[.int .u32 (s0 : Int), .int .u32 (s1 : Int), .slice AS mS cS, .slice AU mU cU] 52)).cell? ⟨w.heap.size, 1, none⟩ = some (.int .u8 (f.toNat : Int)) := K1.out.cell 1
  have x2 : (w1.alloc (.cells #[.int .u32 (s0 : Int), .int .u32 (s1 : Int), .slice AS mS cS, .slice AU mU cU] 52)).cell? ⟨w.heap.size, 2, none⟩ = some (.slice A n c) := K1.out.cell 2
  go_wp2_with fail
  clear x0 x1 x2
  obtain ⟨g6, hg6⟩ : ∃ g6, g6 = w1.heap.size := ⟨_, rfl⟩
  rw [← hg6] at G1 ⊢
  generalize w1.alloc (.cells #[.int .u32 (s0 : Int), .int .u32 (s1 : Int), .slice AS mS cS, .slice AU mU cU] 52) = v1 at B1 K1 G1 HPU ⊢
  clear hg6
  rw [← drawn_eq 14]
  refine wp_region_grow_tailT 7 (by kernel_rfl) [(Is (.bool true)), (Is (.bool true)), (Is (.agg #[.int .u32 (s0 : Int), .int .u32 (s1 : Int), .slice AS mS cS, .slice AU mU cU])), (NewAgg 5 w.heap.size xs.length xs (fun s => .agg #[.int .u8 (k.toNat : Int), .int .u8 (f.toNat : Int), s])), (Is (.agg #[.int .u8 (k.toNat : Int), .int .u8 (f.toNat : Int), .slice A n c])), (Is (.bool true)), (Is (.bool true))] rfl ?_ (by kernel_rfl) (by kernel_rfl) ?_ ?_
  · intro p hp
    simp only [List.mem_cons, List.not_mem_nil, or_false] at hp
    rcases hp with rfl | rfl | rfl | rfl | rfl | rfl | rfl
    · exact Lasts.is _
    · exact Lasts.is _
    · exact Lasts.is _
    · exact Lasts.newAgg _ _ _ _ _
    · exact Lasts.is _
    · exact Lasts.is _
    · exact Lasts.is _
  · refine ⟨?_, ?_, ?_, ?_, ?_, ?_, ?_, trivial⟩
    · intro listed a w1 hfar hl hc
      have h5 : a.tmps[5]?.getD undef = .bool true := (hc.wasT hfar 5 (by kernel_rfl)).trans rfl
      refine does_value rfl rfl (.bool true) w1 ?_ (Below.refl _ _) rfl
      clear hc hl
      go_simp
    · intro listed a w1 hfar hl hc
      have h56 : a.tmps[56]?.getD undef = .bool true := hc.dep hl 0 56 rfl (by kernel_rfl)
      refine does_value rfl rfl (.bool true) w1 ?_ (Below.refl _ _) rfl
      clear hc hl
      go_simp
    · intro listed a w1 hfar hl hc
      have h9 : a.tmps[9]?.getD undef = .pointer (some ⟨g6, 0, none⟩) := (hc.was 9 (by kernel_rfl)).trans rfl
      have kb := G1.out.below hc.g G1.out.lt
      have x0 : w1.cell? ⟨g6, 0, none⟩ = some (.int .u32 (s0 : Int)) := kb.cell 0
      have x1 : w1.cell? ⟨g6, 1, none⟩ = some (.int .u32 (s1 : Int)) := kb.cell 1
      have x2 : w1.cell? ⟨g6, 2, none⟩ = some (.slice AS mS cS) := kb.cell 2
      have x3 : w1.cell? ⟨g6, 3, none⟩ = some (.slice AU mU cU) := kb.cell 3
      clear kb
      refine does_value rfl (wanted_at rfl rfl (hc.dep hl 1 57 rfl (by kernel_rfl))) (.agg #[.int .u32 (s0 : Int), .int .u32 (s1 : Int), .slice AS mS cS, .slice AU mU cU]) w1 ?_ (Below.refl _ _) rfl
      clear hc hl
      go_simp
    · intro listed a w1 hfar hl hc
      have h58 : a.tmps[58]?.getD undef = .agg #[.int .u32 (s0 : Int), .int .u32 (s1 : Int), .slice AS mS cS, .slice AU mU cU] := hc.dep hl 2 58 rfl (by kernel_rfl)
      refine does_call rfl (wanted_at rfl rfl (hc.dep hl 1 57 rfl (by kernel_rfl))) 29 #[.agg #[.int .u32 (s0 : Int), .int .u32 (s1 : Int), .slice AS mS cS, .slice AU mU cU]] ?_ ((HPU.out w1 hc.g).mono fun e w' ⟨A9, c9, he, ho, hb⟩ => ⟨_, he, hb, A9, c9, rfl, ho.more (Nat.le_trans B1.out.size hc.g.size)⟩)
      clear hc hl
      go_simp
    · intro listed a w1 hfar hl hc
      have h1 : a.tmps[1]?.getD undef = .pointer (some ⟨w.heap.size, 0, none⟩) := (hc.was 1 (by kernel_rfl)).trans rfl
      have kb := K1.out.below hc.g K1.out.lt
      have x0 : w1.cell? ⟨w.heap.size, 0, none⟩ = some (.int .u8 (k.toNat : Int)) := kb.cell 0
      have x1 : w1.cell? ⟨w.heap.size, 1, none⟩ = some (.int .u8 (f.toNat : Int)) := kb.cell 1
      have x2 : w1.cell? ⟨w.heap.size, 2, none⟩ = some (.slice A n c) := kb.cell 2
      clear kb
      refine does_value rfl (wanted_at rfl rfl (hc.dep hl 1 57 rfl (by kernel_rfl))) (.agg #[.int .u8 (k.toNat : Int), .int .u8 (f.toNat : Int), .slice A n c]) w1 ?_ (Below.refl _ _) rfl
      clear hc hl
      go_simp
    · intro listed a w1 hfar hl hc
      obtain ⟨A59, c59, h59, ho59⟩ := hc.dep hl 3 59 rfl (by kernel_rfl)
      have h60 : a.tmps[60]?.getD undef = .agg #[.int .u8 (k.toNat : Int), .int .u8 (f.toNat : Int), .slice A n c] := hc.dep hl 4 60 rfl (by kernel_rfl)
      refine does_call rfl (wanted_at rfl rfl (hc.dep hl 1 57 rfl (by kernel_rfl))) 18 #[.agg #[.int .u8 (k.toNat : Int), .int .u8 (f.toNat : Int), .slice A59 xs.length c59], .agg #[.int .u8 (k.toNat : Int), .int .u8 (f.toNat : Int), .slice A n c]] ?_ ((HSM.out w1 _ _ (B1.out.trans (hc.g.mono B1.out.size)) ho59).mono fun e w' ⟨he, hb⟩ => ⟨_, he, hb, rfl⟩)
      clear hc hl
      go_simp
    · intro listed a w1 hfar hl hc
      have h57 : a.tmps[57]?.getD undef = .bool true := hc.dep hl 1 57 rfl (by kernel_rfl)
      have h61 : a.tmps[61]?.getD undef = .bool true := hc.dep hl 5 61 rfl (by kernel_rfl)
      refine does_value rfl rfl (.bool true) w1 ?_ (Below.refl _ _) rfl
      clear hc hl
      go_simp
  intro w2 hb2
  rintro _ rfl _ rfl _ rfl _ ⟨A59, c59, rfl, ho59⟩ _ rfl _ rfl _ rfl
  simp only [Thus, List.reverse_cons, List.reverse_nil, List.nil_append, List.cons_append, List.drop, List.take, lay]
  go_frame
  have B0 := Lib.hid (below_then B1.out (Nat.le_refl _) hb2)
  have K0 := Lib.hid (K1.out.below hb2 K1.out.lt)
  clear hb2 B1 K1 HPU G1
  have x0 : w2.cell? ⟨w.heap.size, 0, none⟩ = some (.int .u8 (k.toNat : Int)) := K0.out.cell 0
  have x1 : w2.cell? ⟨w.heap.size, 1, none⟩ = some (.int .u8 (f.toNat : Int)) := K0.out.cell 1
  have x2 : w2.cell? ⟨w.heap.size, 2, none⟩ = some (.slice A n c) := K0.out.cell 2
  go_wp2_with fail
  clear x0 x1 x2
  generalize w2 = v0 at B0 K0 ⊢
  refine (HGF.out v0 B0.out).mono ?_
  rintro e w1 ⟨AF, mF, cF, rfl, hb⟩
  have b1 := below_then B0.out (Nat.le_refl _) hb
  have B1 := Lib.hid (b1.alloc b1.size (.cells #[.int .u32 0, .slice AF mF cF] 56))
  have K1 := Lib.hid ((K0.out.below hb K0.out.lt).alloc (.cells #[.int .u32 0, .slice AF mF cF] 56))
  clear hb b1 B0 K0 HGF
  have x0 : (w1.alloc (.cells #[.int .u32 0, .slice AF mF cF] 56)).cell? ⟨w.heap.size, 0, none⟩ = some (.int .u8 (k.toNat : Int)) := K1.out.cell 0
  have x1 : (w1.alloc (.cells #[.int .u32 0, .slice AF mF cF] 56)).cell? ⟨w.heap.size, 1, none⟩ = some (.int .u8 (f.toNat : Int)) := K1.out.cell 1
  have x2 : (w1.alloc (.cells #[.int .u32 0, .slice AF mF cF] 56)).cell? ⟨w.heap.size, 2, none⟩ = some (.slice A n c) := K1.out.cell 2
  go_wp2_with fail
  generalize w1.alloc (.cells #[.int .u32 0, .slice AF mF cF] 56) = v0 at B1 K1 ⊢
  clear x0 x1 x2
  have B0 := B1
  have K0 := K1
  clear B1 K1
  refine (HGT.out v0 B0.out).mono ?_
  rintro e w1 ⟨rfl, hb⟩
  have B1 := Lib.hid (below_then B0.out (Nat.le_refl _) hb)
  have K1 := Lib.hid (K0.out.below hb K0.out.lt)
  clear hb B0 K0 HGT
  have x0 : w1.cell? ⟨w.heap.size, 0, none⟩ = some (.int .u8 (k.toNat : Int)) := K1.out.cell 0
  have x1 : w1.cell? ⟨w.heap.size, 1, none⟩ = some (.int .u8 (f.toNat : Int)) := K1.out.cell 1
  have x2 : w1.cell? ⟨w.heap.size, 2, none⟩ = some (.slice A n c) := K1.out.cell 2
  go_wp2_with fail
  clear x0 x1 x2
  generalize w1 = v0 at B1 K1 ⊢
  have B0 := B1
  have K0 := K1
  clear B1 K1
  refine (HGC.out v0 B0.out).mono ?_
  rintro e w1 ⟨rfl, hb⟩
  have B1 := Lib.hid (below_then B0.out (Nat.le_refl _) hb)
  have K1 := Lib.hid (K0.out.below hb K0.out.lt)
  clear hb B0 K0 HGC
  have x0 : w1.cell? ⟨w.heap.size, 0, none⟩ = some (.int .u8 (k.toNat : Int)) := K1.out.cell 0
  have x1 : w1.cell? ⟨w.heap.size, 1, none⟩ = some (.int .u8 (f.toNat : Int)) := K1.out.cell 1
  have x2 : w1.cell? ⟨w.heap.size, 2, none⟩ = some (.slice A n c) := K1.out.cell 2
  go_wp2_with fail
  clear x0 x1 x2
  go_ret2
  exact ⟨rfl, B1.out⟩
set_option maxRecDepth 100000 in
set_option maxHeartbeats 4000000 in
theorem got_F (k f : UInt8) (A : Option Addr) (n c : Nat) (xs : List UInt8) (w : World) (hn : n ≤ 131072) (hc : n ≤ c) (hcm : c ≤ maxLen) (hx : xs.length = n) (hr : Rd w w.heap.size A xs) (hD : okD k f xs = false) (hI : okI k f xs = false) (hS : okS k f xs = false) (hF : okF k f xs = true) (hT : okT k f xs = false) (hC : okC k f xs = false) :
    Calls Try.prog 47 #[.agg #[.int .u8 (k.toNat : Int), .int .u8 (f.toNat : Int), .slice A n c]] w fun e w' => e = .returned (.tuple #[.int .i64 1, .bool true]) ∧ Below w.heap.size w w' := by
  have hz0 := zero_data
  have hz1 := zero_init
  have hz2 := zero_sack
  have hz3 := zero_fwd
  have HGD : Hid (∀ W, Below w.heap.size w W → Calls Try.prog 16 #[.agg #[.int .u8 (k.toNat : Int), .int .u8 (f.toNat : Int), .slice A n c]] W fun e w' => ∃ AD mD cD, e = .returned (.tuple #[.agg #[.int .u32 0, .int .u16 0, .int .u16 0, .bool false, .bool false, .bool false, .slice AD mD cD], .int .i64 7]) ∧ Below W.heap.size W w') := Lib.hid fun W hW => getD_off k f A n c xs W hn hc hcm hx ((hr.below hW).more hW.size) hD
  have HGI : Hid (∀ W, Below w.heap.size w W → Calls Try.prog 24 #[.agg #[.int .u8 (k.toNat : Int), .int .u8 (f.toNat : Int), .slice A n c]] W fun e w' => ∃ AI mI cI, e = .returned (.tuple #[.agg #[.int .u32 0, .int .u32 0, .int .u16 0, .int .u16 0, .int .u32 0, .slice AI mI cI], .int .i64 7]) ∧ Below W.heap.size W w') := Lib.hid fun W hW => getI_off k f A n c xs W hn hc hcm hx ((hr.below hW).more hW.size) hI
  have HGS : Hid (∀ W, Below w.heap.size w W → Calls Try.prog 30 #[.agg #[.int .u8 (k.toNat : Int), .int .u8 (f.toNat : Int), .slice A n c]] W fun e w' => ∃ AS mS cS AU mU cU, e = .returned (.tuple #[.agg #[.int .u32 0, .int .u32 0, .slice AS mS cS, .slice AU mU cU], .int .i64 7]) ∧ Below W.heap.size W w') := Lib.hid fun W hW => getS_off k f A n c xs W hn hc hcm hx ((hr.below hW).more hW.size) hS
  have HGT : Hid (∀ W, Below w.heap.size w W → Calls Try.prog 39 #[.agg #[.int .u8 (k.toNat : Int), .int .u8 (f.toNat : Int), .slice A n c]] W fun e w' => e = .returned (.tuple #[.int .i64 0, .int .i64 7]) ∧ Below W.heap.size W w') := Lib.hid fun W hW => getT_off k f A n c xs W hn hc hcm hx ((hr.below hW).more hW.size) hT
  have HGC : Hid (∀ W, Below w.heap.size w W → Calls Try.prog 41 #[.agg #[.int .u8 (k.toNat : Int), .int .u8 (f.toNat : Int), .slice A n c]] W fun e w' => e = .returned (.tuple #[.int .u32 0, .int .i64 7]) ∧ Below W.heap.size W w') := Lib.hid fun W hW => getC_off k f A n c xs W hn hc hcm hx ((hr.below hW).more hW.size) hC
  obtain ⟨f0, FS, hgx, hpx⟩ := onF k f A n c xs hn hc hcm hx hF
  have HGF : Hid (∀ W, Below w.heap.size w W → Calls Try.prog 35 #[.agg #[.int .u8 (k.toNat : Int), .int .u8 (f.toNat : Int), .slice A n c]] W fun e w' => ∃ AF mF cF, e = .returned (.tuple #[.agg #[.int .u32 (f0 : Int), .slice AF mF cF], .int .i64 0]) ∧ (Og w' 104 W.heap.size (.slice AF mF cF) FS ∧ mF = FS.length) ∧ Below W.heap.size W w') := Lib.hid fun W hW => hgx W ((hr.below hW).more hW.size)
  have HPX := Lib.hid hpx
  have HSM : Hid (∀ (W : World) (A' : Option Addr) (c' : Nat), Below w.heap.size w W → Own8 W 5 w.heap.size A' xs.length c' xs → Calls Try.prog 18 #[.agg #[.int .u8 (k.toNat : Int), .int .u8 (f.toNat : Int), .slice A' xs.length c'], .agg #[.int .u8 (k.toNat : Int), .int .u8 (f.toNat : Int), .slice A n c]] W fun e w' => e = .returned (.bool true) ∧ Below W.heap.size W w') := Lib.hid fun W A' c' hW ho => by
    have := same_any k f k f A' A xs.length n c' c xs xs W rfl hx (Nat.le_trans ho.cap.1 ho.cap.2) (by unfold maxLen; omega) ho.rd ((hr.below hW).more hW.size)
    simpa using this
  clear hgx hpx hx hr hD hI hS hF hT hC
  have b0 : Blk (w.alloc (.cells #[.int .u8 (k.toNat : Int), .int .u8 (f.toNat : Int), .slice A n c] 28)) w.heap.size 28 #[.int .u8 (k.toNat : Int), .int .u8 (f.toNat : Int), .slice A n c] := Blk.new w 28 #[.int .u8 (k.toNat : Int), .int .u8 (f.toNat : Int), .slice A n c]
  have K0 := Lib.hid b0
  have B0 : Hid (Below w.heap.size w (w.alloc (.cells #[.int .u8 (k.toNat : Int), .int .u8 (f.toNat : Int), .slice A n c] 28))) := Lib.hid (Wr.below_ ((Wr.refl 5 w.heap.size w).alloc (.cells #[.int .u8 (k.toNat : Int), .int .u8 (f.toNat : Int), .slice A n c] 28)) (Nat.le_refl _))
  clear b0
  go_enter Try.func47, Try.ntmps47
  rw [drawn_eq 6, drawn_eq 10, drawn_eq 14, drawn_eq 18, drawn_eq 22, drawn_eq 26]
  go_wp2_with fail
  generalize (w.alloc (.cells #[.int .u8 (k.toNat : Int), .int .u8 (f.toNat : Int), .slice A n c] 28)) = v0 at K0 B0 ⊢
  refine (HGD.out v0 B0.out).mono ?_
  rintro e w1 ⟨AD, mD, cD, rfl, hb⟩
  have b1 := below_then B0.out (Nat.le_refl _) hb
  have B1 := Lib.hid (b1.alloc b1.size (.cells #[.int .u32 0, .int .u16 0, .int .u16 0, .bool false, .bool false, .bool false, .slice AD mD cD] 26))
  have K1 := Lib.hid ((K0.out.below hb K0.out.lt).alloc (.cells #[.int .u32 0, .int .u16 0, .int .u16 0, .bool false, .bool false, .bool false, .slice AD mD cD] 26))
  clear hb b1 B0 K0 HGD
  have x0 : (w1.alloc (.cells #[.int .u32 0, .int .u16 0, .int .u16 0, .bool false, .bool false, .bool false, .slice AD mD cD] 26)).cell? ⟨w.heap.size, 0, none⟩ = some (.int .u8 (k.toNat : Int)) := K1.out.cell 0
  have x1 : (w1.alloc (.cells #[.int .u32 0, .int .u16 0, .int .u16 0, .bool false, .bool false, .bool false, .slice AD mD cD] 26)).cell? ⟨w.heap.size, 1, none⟩ = some (.int .u8 (f.toNat : Int)) := K1.out.cell 1
  have x2 : (w1.alloc (.cells #[.int .u32 0, .int .u16 0, .int .u16 0, .bool false, .bool false, .bool false, .slice AD mD cD] 26)).cell? ⟨w.heap.size, 2, none⟩ = some (.slice A n c) := K1.out.cell 2
  go_wp2_with fail
  generalize w1.alloc (.cells #[.int .u32 0, .int .u16 0, .int .u16 0, .bool false, .bool false, .bool false, .slice AD mD cD] 26) = v0 at B1 K1 ⊢
  clear x0 x1 x2
  have B0 := B1
  have K0 := K1
  clear B1 K1
  refine (HGI.out v0 B0.out).mono ?_
  rintro e w1 ⟨AI, mI, cI, rfl, hb⟩
  have b1 := below_then B0.out (Nat.le_refl _) hb
  have B1 := Lib.hid (b1.alloc b1.size (.cells #[.int .u32 0, .int .u32 0, .int .u16 0, .int .u16 0, .int .u32 0, .slice AI mI cI] 43))
  have K1 := Lib.hid ((K0.out.below hb K0.out.lt).alloc (.cells #[.int .u32 0, .int .u32 0, .int .u16 0, .int .u16 0, .int .u32 0, .slice AI mI cI] 43))
  clear hb b1 B0 K0 HGI
  have x0 : (w1.alloc (.cells #[.int .u32 0, .int .u32 0, .int .u16 0, .int .u16 0, .int .u32 0, .slice AI mI cI] 43)).cell? ⟨w.heap.size, 0, none⟩ = some (.int .u8 (k.toNat : Int)) := K1.out.cell 0
  have x1 : (w1.alloc (.cells #[.int .u32 0, .int .u32 0, .int .u16 0, .int .u16 0, .int .u32 0, .slice AI mI cI] 43)).cell? ⟨w.heap.size, 1, none⟩ = some (.int .u8 (f.toNat : Int)) := K1.out.cell 1
  have x2 : (w1.alloc (.cells #[.int .u32 0, .int .u32 0, .int .u16 0, .int .u16 0, .int .u32 0, .slice AI mI cI] 43)).cell? ⟨w.heap.size, 2, none⟩ = some (.slice A n c) := K1.out.cell 2
  go_wp2_with fail
  generalize w1.alloc (.cells #[.int .u32 0, .int .u32 0, .int .u16 0, .int .u16 0, .int .u32 0, .slice AI mI cI] 43) = v0 at B1 K1 ⊢
  clear x0 x1 x2
  have B0 := B1
  have K0 := K1
  clear B1 K1
  refine (HGS.out v0 B0.out).mono ?_
  rintro e w1 ⟨AS, mS, cS, AU, mU, cU, rfl, hb⟩
  have b1 := below_then B0.out (Nat.le_refl _) hb
  have B1 := Lib.hid (b1.alloc b1.size (.cells #[.int .u32 0, .int .u32 0, .slice AS mS cS, .slice AU mU cU] 52))
  have K1 := Lib.hid ((K0.out.below hb K0.out.lt).alloc (.cells #[.int .u32 0, .int .u32 0, .slice AS mS cS, .slice AU mU cU] 52))
  clear hb b1 B0 K0 HGS
  have x0 : (w1.alloc (.cells #[.int .u32 0, .int .u32 0, .slice AS mS cS, .slice AU mU cU] 52)).cell? ⟨w.heap.size, 0, none⟩ = some (.int .u8 (k.toNat : Int)) := K1.out.cell 0
  have x1 : (w1.alloc (.cells #[.int .u32 0, .int .u32 0, .slice AS mS cS, .slice AU mU cU] 52)).cell? ⟨w.heap.size, 1, none⟩ = some (.int .u8 (f.toNat : Int)) := K1.out.cell 1
  have x2 : (w1.alloc (.cells #[.int .u32 0, .int .u32 0, .slice AS mS cS, .slice AU mU cU] 52)).cell? ⟨w.heap.size, 2, none⟩ = some (.slice A n c) := K1.out.cell 2
  go_wp2_with fail
  generalize w1.alloc (.cells #[.int .u32 0, .int .u32 0, .slice AS mS cS, .slice AU mU cU] 52) = v0 at B1 K1 ⊢
  clear x0 x1 x2
  have B0 := B1
  have K0 := K1
  clear B1 K1
  refine (HGF.out v0 B0.out).mono ?_
  rintro e w1 ⟨AF, mF, cF, rfl, ⟨ho, hm⟩, hb⟩
  have HM := Lib.hid hm
  clear hm
  have b1 := below_then B0.out (Nat.le_refl _) hb
  have B1 := Lib.hid (b1.alloc b1.size (.cells #[.int .u32 (f0 : Int), .slice AF mF cF] 56))
  have K1 := Lib.hid ((K0.out.below hb K0.out.lt).alloc (.cells #[.int .u32 (f0 : Int), .slice AF mF cF] 56))
  have G1 := Lib.hid (Blk.new w1 56 #[.int .u32 (f0 : Int), .slice AF mF cF])
  have HPU : Hid (∀ W, Below (w1.alloc (.cells #[.int .u32 (f0 : Int), .slice AF mF cF] 56)).heap.size (w1.alloc (.cells #[.int .u32 (f0 : Int), .slice AF mF cF] 56)) W → Puts 34 #[.agg #[.int .u32 (f0 : Int), .slice AF mF cF]] k f xs W) := Lib.hid fun W hW => HPX.out W AF mF cF _ ⟨(Og.alloc ho (.cells #[.int .u32 (f0 : Int), .slice AF mF cF] 56)).below hW, HM.out⟩
  clear hb b1 B0 K0 HGF ho HPX
  have x0 : (w1.alloc (.cells #[.int .u32 (f0 : Int), .slice AF mF cF] 56)).cell? ⟨w.heap.size, 0, none⟩ = some (.int .u8 (k.toNat : Int)) := K1.out.cell 0
  have x1 : (w1.alloc (.cells #[.int .u32 (f0 : Int), .slice AF mF cF] 56)).cell? ⟨w.heap.size, 1, none⟩ = some (.int .u8 (f.toNat : Int)) := K1.out.cell 1
  have x2 : (w1.alloc (.cells #[.int .u32 (f0 : Int), .slice AF mF cF] 56)).cell? ⟨w.heap.size, 2, none⟩ = some (.slice A n c) := K1.out.cell 2
  go_wp2_with fail
  clear x0 x1 x2
  obtain ⟨g6, hg6⟩ : ∃ g6, g6 = w1.heap.size := ⟨_, rfl⟩
  rw [← hg6] at G1 ⊢
  generalize w1.alloc (.cells #[.int .u32 (f0 : Int), .slice AF mF cF] 56) = v1 at B1 K1 G1 HPU ⊢
  clear hg6
  rw [← drawn_eq 18]
  refine wp_region_grow_tailT 7 (by kernel_rfl) [(Is (.bool true)), (Is (.bool true)), (Is (.agg #[.int .u32 (f0 : Int), .slice AF mF cF])), (NewAgg 5 w.heap.size xs.length xs (fun s => .agg #[.int .u8 (k.toNat : Int), .int .u8 (f.toNat : Int), s])), (Is (.agg #[.int .u8 (k.toNat : Int), .int .u8 (f.toNat : Int), .slice A n c])), (Is (.bool true)), (Is (.bool true))] rfl ?_ (by kernel_rfl) (by kernel_rfl) ?_ ?_
  · intro p hp
    simp only [List.mem_cons, List.not_mem_nil, or_false] at hp
    rcases hp with rfl | rfl | rfl | rfl | rfl | rfl | rfl
    · exact Lasts.is _
    · exact Lasts.is _
    · exact Lasts.is _
    · exact Lasts.newAgg _ _ _ _ _
    · exact Lasts.is _
    · exact Lasts.is _
    · exact Lasts.is _
  · refine ⟨?_, ?_, ?_, ?_, ?_, ?_, ?_, trivial⟩
    · intro listed a w1 hfar hl hc
      have h5 : a.tmps[5]?.getD undef = .bool true := (hc.wasT hfar 5 (by kernel_rfl)).trans rfl
      refine does_value rfl rfl (.bool true) w1 ?_ (Below.refl _ _) rfl
      clear hc hl
      go_simp
    · intro listed a w1 hfar hl hc
      have h72 : a.tmps[72]?.getD undef = .bool true := hc.dep hl 0 72 rfl (by kernel_rfl)
      refine does_value rfl rfl (.bool true) w1 ?_ (Below.refl _ _) rfl
      clear hc hl
      go_simp
    · intro listed a w1 hfar hl hc
      have h10 : a.tmps[10]?.getD undef = .pointer (some ⟨g6, 0, none⟩) := (hc.was 10 (by kernel_rfl)).trans rfl
      have kb := G1.out.below hc.g G1.out.lt
      have x0 : w1.cell? ⟨g6, 0, none⟩ = some (.int .u32 (f0 : Int)) := kb.cell 0
      have x1 : w1.cell? ⟨g6, 1, none⟩ = some (.slice AF mF cF) := kb.cell 1
      clear kb
      refine does_value rfl (wanted_at rfl rfl (hc.dep hl 1 73 rfl (by kernel_rfl))) (.agg #[.int .u32 (f0 : Int), .slice AF mF cF]) w1 ?_ (Below.refl _ _) rfl
      clear hc hl
      go_simp
    · intro listed a w1 hfar hl hc
      have h74 : a.tmps[74]?.getD undef = .agg #[.int .u32 (f0 : Int), .slice AF mF cF] := hc.dep hl 2 74 rfl (by kernel_rfl)
      refine does_call rfl (wanted_at rfl rfl (hc.dep hl 1 73 rfl (by kernel_rfl))) 34 #[.agg #[.int .u32 (f0 : Int), .slice AF mF cF]] ?_ ((HPU.out w1 hc.g).mono fun e w' ⟨A9, c9, he, ho, hb⟩ => ⟨_, he, hb, A9, c9, rfl, ho.more (Nat.le_trans B1.out.size hc.g.size)⟩)
      clear hc hl
      go_simp
    · intro listed a w1 hfar hl hc
      have h1 : a.tmps[1]?.getD undef = .pointer (some ⟨w.heap.size, 0, none⟩) := (hc.was 1 (by kernel_rfl)).trans rfl
      have kb := K1.out.below hc.g K1.out.lt
      have x0 : w1.cell? ⟨w.heap.size, 0, none⟩ = some (.int .u8 (k.toNat : Int)) := kb.cell 0
      have x1 : w1.cell? ⟨w.heap.size, 1, none⟩ = some (.int .u8 (f.toNat : Int)) := kb.cell 1
      have x2 : w1.cell? ⟨w.heap.size, 2, none⟩ = some (.slice A n c) := kb.cell 2
      clear kb
      refine does_value rfl (wanted_at rfl rfl (hc.dep hl 1 73 rfl (by kernel_rfl))) (.agg #[.int .u8 (k.toNat : Int), .int .u8 (f.toNat : Int), .slice A n c]) w1 ?_ (Below.refl _ _) rfl
      clear hc hl
      go_simp
    · intro listed a w1 hfar hl hc
      obtain ⟨A75, c75, h75, ho75⟩ := hc.dep hl 3 75 rfl (by kernel_rfl)
      have h76 : a.tmps[76]?.getD undef = .agg #[.int .u8 (k.toNat : Int), .int .u8 (f.toNat : Int), .slice A n c] := hc.dep hl 4 76 rfl (by kernel_rfl)
      refine does_call rfl (wanted_at rfl rfl (hc.dep hl 1 73 rfl (by kernel_rfl))) 18 #[.agg #[.int .u8 (k.toNat : Int), .int .u8 (f.toNat : Int), .slice A75 xs.length c75], .agg #[.int .u8 (k.toNat : Int), .int .u8 (f.toNat : Int), .slice A n c]] ?_ ((HSM.out w1 _ _ (B1.out.trans (hc.g.mono B1.out.size)) ho75).mono fun e w' ⟨he, hb⟩ => ⟨_, he, hb, rfl⟩)
      clear hc hl
      go_simp
    · intro listed a w1 hfar hl hc
      have h73 : a.tmps[73]?.getD undef = .bool true := hc.dep hl 1 73 rfl (by kernel_rfl)
      have h77 : a.tmps[77]?.getD undef = .bool true := hc.dep hl 5 77 rfl (by kernel_rfl)
      refine does_value rfl rfl (.bool true) w1 ?_ (Below.refl _ _) rfl
      clear hc hl
      go_simp
  intro w2 hb2
  rintro _ rfl _ rfl _ rfl _ ⟨A75, c75, rfl, ho75⟩ _ rfl _ rfl _ rfl
  simp only [Thus, List.reverse_cons, List.reverse_nil, List.nil_append, List.cons_append, List.drop, List.take, lay]
  go_frame
  have B0 := Lib.hid (below_then B1.out (Nat.le_refl _) hb2)
  have K0 := Lib.hid (K1.out.below hb2 K1.out.lt)
  clear hb2 B1 K1 HPU G1
  have x0 : w2.cell? ⟨w.heap.size, 0, none⟩ = some (.int .u8 (k.toNat : Int)) := K0.out.cell 0
  have x1 : w2.cell? ⟨w.heap.size, 1, none⟩ = some (.int .u8 (f.toNat : Int)) := K0.out.cell 1
  have x2 : w2.cell? ⟨w.heap.size, 2, none⟩ = some (.slice A n c) := K0.out.cell 2
  go_wp2_with fail
  clear x0 x1 x2
  generalize w2 = v0 at B0 K0 ⊢
  refine (HGT.out v0 B0.out).mono ?_
  rintro e w1 ⟨rfl, hb⟩
  have B1 := Lib.hid (below_then B0.out (Nat.le_refl _) hb)
  have K1 := Lib.hid (K0.out.below hb K0.out.lt)
  clear hb B0 K0 HGT
  have x0 : w1.cell? ⟨w.heap.size, 0, none⟩ = some (.int .u8 (k.toNat : Int)) := K1.out.cell 0
  have x1 : w1.cell? ⟨w.heap.size, 1, none⟩ = some (.int .u8 (f.toNat : Int)) := K1.out.cell 1
  have x2 : w1.cell? ⟨w.heap.size, 2, none⟩ = some (.slice A n c) := K1.out.cell 2
  go_wp2_with fail
  clear x0 x1 x2
  generalize w1 = v0 at B1 K1 ⊢
  have B0 := B1
  have K0 := K1
  clear B1 K1
  refine (HGC.out v0 B0.out).mono ?_
  rintro e w1 ⟨rfl, hb⟩
  have B1 := Lib.hid (below_then B0.out (Nat.le_refl _) hb)
  have K1 := Lib.hid (K0.out.below hb K0.out.lt)
  clear hb B0 K0 HGC
  have x0 : w1.cell? ⟨w.heap.size, 0, none⟩ = some (.int .u8 (k.toNat : Int)) := K1.out.cell 0
  have x1 : w1.cell? ⟨w.heap.size, 1, none⟩ = some (.int .u8 (f.toNat : Int)) := K1.out.cell 1
  have x2 : w1.cell? ⟨w.heap.size, 2, none⟩ = some (.slice A n c) := K1.out.cell 2
  go_wp2_with fail
  clear x0 x1 x2
  go_ret2
  exact ⟨rfl, B1.out⟩
set_option maxRecDepth 100000 in
set_option maxHeartbeats 4000000 in
theorem got_T (k f : UInt8) (A : Option Addr) (n c : Nat) (xs : List UInt8) (w : World) (hn : n ≤ 131072) (hc : n ≤ c) (hcm : c ≤ maxLen) (hx : xs.length = n) (hr : Rd w w.heap.size A xs) (hD : okD k f xs = false) (hI : okI k f xs = false) (hS : okS k f xs = false) (hF : okF k f xs = false) (hT : okT k f xs = true) (hC : okC k f xs = false) :
    Calls Try.prog 47 #[.agg #[.int .u8 (k.toNat : Int), .int .u8 (f.toNat : Int), .slice A n c]] w fun e w' => e = .returned (.tuple #[.int .i64 1, .bool true]) ∧ Below w.heap.size w w' := by
  have hz0 := zero_data
  have hz1 := zero_init
  have hz2 := zero_sack
  have hz3 := zero_fwd
  have HGD : Hid (∀ W, Below w.heap.size w W → Calls Try.prog 16 #[.agg #[.int .u8 (k.toNat : Int), .int .u8 (f.toNat : Int), .slice A n c]] W fun e w' => ∃ AD mD cD, e = .returned (.tuple #[.agg #[.int .u32 0, .int .u16 0, .int .u16 0, .bool false, .bool false, .bool false, .slice AD mD cD], .int .i64 7]) ∧ Below W.heap.size W w') := Lib.hid fun W hW => getD_off k f A n c xs W hn hc hcm hx ((hr.below hW).more hW.size) hD
  have HGI : Hid (∀ W, Below w.heap.size w W → Calls Try.prog 24 #[.agg #[.int .u8 (k.toNat : Int), .int .u8 (f.toNat : Int), .slice A n c]] W fun e w' => ∃ AI mI cI, e = .returned (.tuple #[.agg #[.int .u32 0, .int .u32 0, .int .u16 0, .int .u16 0, .int .u32 0, .slice AI mI cI], .int .i64 7]) ∧ Below W.heap.size W w') := Lib.hid fun W hW => getI_off k f A n c xs W hn hc hcm hx ((hr.below hW).more hW.size) hI
  have HGS : Hid (∀ W, Below w.heap.size w W → Calls Try.prog 30 #[.agg #[.int .u8 (k.toNat : Int), .int .u8 (f.toNat : Int), .slice A n c]] W fun e w' => ∃ AS mS cS AU mU cU, e = .returned (.tuple #[.agg #[.int .u32 0, .int .u32 0, .slice AS mS cS, .slice AU mU cU], .int .i64 7]) ∧ Below W.heap.size W w') := Lib.hid fun W hW => getS_off k f A n c xs W hn hc hcm hx ((hr.below hW).more hW.size) hS
  have HGF : Hid (∀ W, Below w.heap.size w W → Calls Try.prog 35 #[.agg #[.int .u8 (k.toNat : Int), .int .u8 (f.toNat : Int), .slice A n c]] W fun e w' => ∃ AF mF cF, e = .returned (.tuple #[.agg #[.int .u32 0, .slice AF mF cF], .int .i64 7]) ∧ Below W.heap.size W w') := Lib.hid fun W hW => getF_off k f A n c xs W hn hc hcm hx ((hr.below hW).more hW.size) hF
  have HGC : Hid (∀ W, Below w.heap.size w W → Calls Try.prog 41 #[.agg #[.int .u8 (k.toNat : Int), .int .u8 (f.toNat : Int), .slice A n c]] W fun e w' => e = .returned (.tuple #[.int .u32 0, .int .i64 7]) ∧ Below W.heap.size W w') := Lib.hid fun W hW => getC_off k f A n c xs W hn hc hcm hx ((hr.below hW).more hW.size) hC
  obtain ⟨t0, hgx, hpx⟩ := onT k f A n c xs hn hc hcm hx hT
  have HGT : Hid (∀ W, Below w.heap.size w W → Calls Try.prog 39 #[.agg #[.int .u8 (k.toNat : Int), .int .u8 (f.toNat : Int), .slice A n c]] W fun e w' => e = .returned (.tuple #[.int .i64 t0, .int .i64 0]) ∧ Below W.heap.size W w') := Lib.hid fun W hW => hgx W ((hr.below hW).more hW.size)
  have HPX := Lib.hid hpx
  have HSM : Hid (∀ (W : World) (A' : Option Addr) (c' : Nat), Below w.heap.size w W → Own8 W 5 w.heap.size A' xs.length c' xs → Calls Try.prog 18 #[.agg #[.int .u8 (k.toNat : Int), .int .u8 (f.toNat : Int), .slice A' xs.length c'], .agg #[.int .u8 (k.toNat : Int), .int .u8 (f.toNat : Int), .slice A n c]] W fun e w' => e = .returned (.bool true) ∧ Below W.heap.size W w') := Lib.hid fun W A' c' hW ho => by
    have := same_any k f k f A' A xs.length n c' c xs xs W rfl hx (Nat.le_trans ho.cap.1 ho.cap.2) (by unfold maxLen; omega) ho.rd ((hr.below hW).more hW.size)
    simpa using this
  clear hgx hpx hx hr hD hI hS hF hT hC
  have b0 : Blk (w.alloc (.cells #[.int .u8 (k.toNat : Int), .int .u8 (f.toNat : Int), .slice A n c] 28)) w.heap.size 28 #[.int .u8 (k.toNat : Int), .int .u8 (f.toNat : Int), .slice A n c] := Blk.new w 28 #[.int .u8 (k.toNat : Int), .int .u8 (f.toNat : Int), .slice A n c]
  have K0 := Lib.hid b0
  have B0 : Hid (Below w.heap.size w (w.alloc (.cells #[.int .u8 (k.toNat : Int), .int .u8 (f.toNat : Int), .slice A n c] 28))) := Lib.hid (Wr.below_ ((Wr.refl 5 w.heap.size w).alloc (.cells #[.int .u8 (k.toNat : Int), .int .u8 (f.toNat : Int), .slice A n c] 28)) (Nat.le_refl _))
  clear b0
  go_enter Try.func47, Try.ntmps47
  rw [drawn_eq 6, drawn_eq 10, drawn_eq 14, drawn_eq 18, drawn_eq 22, drawn_eq 26]
  go_wp2_with fail
  generalize (w.alloc (.cells #[.int .u8 (k.toNat : Int), .int .u8 (f.toNat : Int), .slice A n c] 28)) = v0 at K0 B0 ⊢
  refine (HGD.out v0 B0.out).mono ?_
  rintro e w1 ⟨AD, mD, cD, rfl, hb⟩
  have b1 := below_then B0.out (Nat.le_refl _) hb
  have B1 := Lib.hid (b1.alloc b1.size (.cells #[.int .u32 0, .int .u16 0, .int .u16 0, .bool false, .bool false, .bool false, .slice AD mD cD] 26))
  have K1 := Lib.hid ((K0.out.below hb K0.out.lt).alloc (.cells #[.int .u32 0, .int .u16 0, .int .u16 0, .bool false, .bool false, .bool false, .slice AD mD cD] 26))
  clear hb b1 B0 K0 HGD
  have x0 : (w1.alloc (.cells #[.int .u32 0, .int .u16 0, .int .u16 0, .bool false, .bool false, .bool false, .slice AD mD cD] 26)).cell? ⟨w.heap.size, 0, none⟩ = some (.int .u8 (k.toNat : Int)) := K1.out.cell 0
  have x1 : (w1.alloc (.cells #[.int .u32 0, .int .u16 0, .int .u16 0, .bool false, .bool false, .bool false, .slice AD mD cD] 26)).cell? ⟨w.heap.size, 1, none⟩ = some (.int .u8 (f.toNat : Int)) := K1.out.cell 1
  have x2 : (w1.alloc (.cells #[.int .u32 0, .int .u16 0, .int .u16 0, .bool false, .bool false, .bool false, .slice AD mD cD] 26)).cell? ⟨w.heap.size, 2, none⟩ = some (.slice A n c) := K1.out.cell 2
  go_wp2_with fail
  generalize w1.alloc (.cells #[.int .u32 0, .int .u16 0, .int .u16 0, .bool false, .bool false, .bool false, .slice AD mD cD] 26) = v0 at B1 K1 ⊢
  clear x0 x1 x2
  have B0 := B1
  have K0 := K1
  clear B1 K1
  refine (HGI.out v0 B0.out).mono ?_
  rintro e w1 ⟨AI, mI, cI, rfl, hb⟩
  have b1 := below_then B0.out (Nat.le_refl _) hb
  have B1 := Lib.hid (b1.alloc b1.size (.cells #[.int .u32 0, .int .u32 0, .int .u16 0, .int .u16 0, .int .u32 0, .slice AI mI cI] 43))
  have K1 := Lib.hid ((K0.out.below hb K0.out.lt).alloc (.cells #[.int .u32 0, .int .u32 0, .int .u16 0, .int .u16 0, .int .u32 0, .slice AI mI cI] 43))
  clear hb b1 B0 K0 HGI
  have x0 : (w1.alloc (.cells #[.int .u32 0, .int .u32 0, .int .u16 0, .int .u16 0, .int .u32 0, .slice AI mI cI] 43)).cell? ⟨w.heap.size, 0, none⟩ = some (.int .u8 (k.toNat : Int)) := K1.out.cell 0
  have x1 : (w1.alloc (.cells #[.int .u32 0, .int .u32 0, .int .u16 0, .int .u16 0, .int .u32 0, .slice AI mI cI] 43)).cell? ⟨w.heap.size, 1, none⟩ = some (.int .u8 (f.toNat : Int)) := K1.out.cell 1
  have x2 : (w1.alloc (.cells #[.int .u32 0, .int .u32 0, .int .u16 0, .int .u16 0, .int .u32 0, .slice AI mI cI] 43)).cell? ⟨w.heap.size, 2, none⟩ = some (.slice A n c) := K1.out.cell 2
  go_wp2_with fail
  generalize w1.alloc (.cells #[.int .u32 0, .int .u32 0, .int .u16 0, .int .u16 0, .int .u32 0, .slice AI mI cI] 43) = v0 at B1 K1 ⊢
  clear x0 x1 x2
  have B0 := B1
  have K0 := K1
  clear B1 K1
  refine (HGS.out v0 B0.out).mono ?_
  rintro e w1 ⟨AS, mS, cS, AU, mU, cU, rfl, hb⟩
  have b1 := below_then B0.out (Nat.le_refl _) hb
  have B1 := Lib.hid (b1.alloc b1.size (.cells #[.int .u32 0, .int .u32 0, .slice AS mS cS, .slice AU mU cU] 52))
  have K1 := Lib.hid ((K0.out.below hb K0.out.lt).alloc (.cells #[.int .u32 0, .int .u32 0, .slice AS mS cS, .slice AU mU cU] 52))
  clear hb b1 B0 K0 HGS
  have x0 : (w1.alloc (.cells #[.int .u32 0, .int .u32 0, .slice AS mS cS, .slice AU mU cU] 52)).cell? ⟨w.heap.size, 0, none⟩ = some (.int .u8 (k.toNat : Int)) := K1.out.cell 0
  have x1 : (w1.alloc (.cells #[.int .u32 0, .int .u32 0, .slice AS mS cS, .slice AU mU cU] 52)).cell? ⟨w.heap.size, 1, none⟩ = some (.int .u8 (f.toNat : Int)) := K1.out.cell 1
  have x2 : (w1.alloc (.cells #[.int .u32 0, .int .u32 0, .slice AS mS cS, .slice AU mU cU] 52)).cell? ⟨w.heap.size, 2, none⟩ = some (.slice A n c) := K1.out.cell 2
  go_wp2_with fail
  generalize w1.alloc (.cells #[.int .u32 0, .int .u32 0, .slice AS mS cS, .slice AU mU cU] 52) = v0 at B1 K1 ⊢
  clear x0 x1 x2
  have B0 := B1
  have K0 := K1
  clear B1 K1
  refine (HGF.out v0 B0.out).mono ?_
  rintro e w1 ⟨AF, mF, cF, rfl, hb⟩
  have b1 := below_then B0.out (Nat.le_refl _) hb
  have B1 := Lib.hid (b1.alloc b1.size (.cells #[.int .u32 0, .slice AF mF cF] 56))
  have K1 := Lib.hid ((K0.out.below hb K0.out.lt).alloc (.cells #[.int .u32 0, .slice AF mF cF] 56))
  clear hb b1 B0 K0 HGF
  have x0 : (w1.alloc (.cells #[.int .u32 0, .slice AF mF cF] 56)).cell? ⟨w.heap.size, 0, none⟩ = some (.int .u8 (k.toNat : Int)) := K1.out.cell 0
  have x1 : (w1.alloc (.cells #[.int .u32 0, .slice AF mF cF] 56)).cell? ⟨w.heap.size, 1, none⟩ = some (.int .u8 (f.toNat : Int)) := K1.out.cell 1
  have x2 : (w1.alloc (.cells #[.int .u32 0, .slice AF mF cF] 56)).cell? ⟨w.heap.size, 2, none⟩ = some (.slice A n c) := K1.out.cell 2
  go_wp2_with fail
  generalize w1.alloc (.cells #[.int .u32 0, .slice AF mF cF] 56) = v0 at B1 K1 ⊢
  clear x0 x1 x2
  have B0 := B1
  have K0 := K1
  clear B1 K1
  refine (HGT.out v0 B0.out).mono ?_
  rintro e w1 ⟨rfl, hb⟩
  have B1 := Lib.hid (below_then B0.out (Nat.le_refl _) hb)
  have K1 := Lib.hid (K0.out.below hb K0.out.lt)
  have HPU : Hid (∀ W, Below w1.heap.size w1 W → Puts 43 #[.int .u8 (k.toNat : Int), .int .i64 t0] k f xs W) := Lib.hid fun W _ => HPX.out W
  clear hb B0 K0 HGT HPX
  have x0 : w1.cell? ⟨w.heap.size, 0, none⟩ = some (.int .u8 (k.toNat : Int)) := K1.out.cell 0
  have x1 : w1.cell? ⟨w.heap.size, 1, none⟩ = some (.int .u8 (f.toNat : Int)) := K1.out.cell 1
  have x2 : w1.cell? ⟨w.heap.size, 2, none⟩ = some (.slice A n c) := K1.out.cell 2
  go_wp2_with fail
  clear x0 x1 x2
  generalize w1 = v1 at B1 K1 HPU ⊢
  rw [← drawn_eq 22]
  refine wp_region_grow_tailT 9 (by kernel_rfl) [(Is (.bool true)), (Is (.bool true)), (Is (.pointer (some ⟨w.heap.size, 0, none⟩))), (Is (.int .u8 (k.toNat : Int))), (Is (.int .i64 t0)), (NewAgg 5 w.heap.size xs.length xs (fun s => .agg #[.int .u8 (k.toNat : Int), .int .u8 (f.toNat : Int), s])), (Is (.agg #[.int .u8 (k.toNat : Int), .int .u8 (f.toNat : Int), .slice A n c])), (Is (.bool true)), (Is (.bool true))] rfl ?_ (by kernel_rfl) (by kernel_rfl) ?_ ?_
  · intro p hp
    simp only [List.mem_cons, List.not_mem_nil, or_false] at hp
    rcases hp with rfl | rfl | rfl | rfl | rfl | rfl | rfl | rfl | rfl
    · exact Lasts.is _
    · exact Lasts.is _
    · exact Lasts.is _
    · exact Lasts.is _
    · exact Lasts.is _
    · exact Lasts.newAgg _ _ _ _ _
    · exact Lasts.is _
    · exact Lasts.is _
    · exact Lasts.is _
  · refine ⟨?_, ?_, ?_, ?_, ?_, ?_, ?_, ?_, ?_, trivial⟩
    · intro listed a w1 hfar hl hc
      have h5 : a.tmps[5]?.getD undef = .bool true := (hc.wasT hfar 5 (by kernel_rfl)).trans rfl
      refine does_value rfl rfl (.bool true) w1 ?_ (Below.refl _ _) rfl
      clear hc hl
      go_simp
    · intro listed a w1 hfar hl hc
      have h88 : a.tmps[88]?.getD undef = .bool true := hc.dep hl 0 88 rfl (by kernel_rfl)
      refine does_value rfl rfl (.bool true) w1 ?_ (Below.refl _ _) rfl
      clear hc hl
      go_simp
    · intro listed a w1 hfar hl hc
      have h1 : a.tmps[1]?.getD undef = .pointer (some ⟨w.heap.size, 0, none⟩) := (hc.was 1 (by kernel_rfl)).trans rfl
      refine does_value rfl (wanted_at rfl rfl (hc.dep hl 1 89 rfl (by kernel_rfl))) (.pointer (some ⟨w.heap.size, 0, none⟩)) w1 ?_ (Below.refl _ _) rfl
      clear hc hl
      go_simp
    · intro listed a w1 hfar hl hc
      have h90 : a.tmps[90]?.getD undef = .pointer (some ⟨w.heap.size, 0, none⟩) := hc.dep hl 2 90 rfl (by kernel_rfl)
      have kb := K1.out.below hc.g K1.out.lt
      have x0 : w1.cell? ⟨w.heap.size, 0, none⟩ = some (.int .u8 (k.toNat : Int)) := kb.cell 0
      clear kb
      refine does_value rfl (wanted_at rfl rfl (hc.dep hl 1 89 rfl (by kernel_rfl))) (.int .u8 (k.toNat : Int)) w1 ?_ (Below.refl _ _) rfl
      clear hc hl
      go_simp
    · intro listed a w1 hfar hl hc
      have h11 : a.tmps[11]?.getD undef = .int .i64 t0 := (hc.was 11 (by kernel_rfl)).trans rfl
      refine does_value rfl (wanted_at rfl rfl (hc.dep hl 1 89 rfl (by kernel_rfl))) (.int .i64 t0) w1 ?_ (Below.refl _ _) rfl
      clear hc hl
      go_simp
    · intro listed a w1 hfar hl hc
      have h91 : a.tmps[91]?.getD undef = .int .u8 (k.toNat : Int) := hc.dep hl 3 91 rfl (by kernel_rfl)
      have h92 : a.tmps[92]?.getD undef = .int .i64 t0 := hc.dep hl 4 92 rfl (by kernel_rfl)
      refine does_call rfl (wanted_at rfl rfl (hc.dep hl 1 89 rfl (by kernel_rfl))) 43 #[.int .u8 (k.toNat : Int), .int .i64 t0] ?_ ((HPU.out w1 hc.g).mono fun e w' ⟨A9, c9, he, ho, hb⟩ => ⟨_, he, hb, A9, c9, rfl, ho.more (Nat.le_trans B1.out.size hc.g.size)⟩)
      clear hc hl
      go_simp
    · intro listed a w1 hfar hl hc
      have h1 : a.tmps[1]?.getD undef = .pointer (some ⟨w.heap.size, 0, none⟩) := (hc.was 1 (by kernel_rfl)).trans rfl
      have kb := K1.out.below hc.g K1.out.lt
      have x0 : w1.cell? ⟨w.heap.size, 0, none⟩ = some (.int .u8 (k.toNat : Int)) := kb.cell 0
      have x1 : w1.cell? ⟨w.heap.size, 1, none⟩ = some (.int .u8 (f.toNat : Int)) := kb.cell 1
      have x2 : w1.cell? ⟨w.heap.size, 2, none⟩ = some (.slice A n c) := kb.cell 2
      clear kb
      refine does_value rfl (wanted_at rfl rfl (hc.dep hl 1 89 rfl (by kernel_rfl))) (.agg #[.int .u8 (k.toNat : Int), .int .u8 (f.toNat : Int), .slice A n c]) w1 ?_ (Below.refl _ _) rfl
      clear hc hl
      go_simp
    · intro listed a w1 hfar hl hc
      obtain ⟨A93, c93, h93, ho93⟩ := hc.dep hl 5 93 rfl (by kernel_rfl)
      have h94 : a.tmps[94]?.getD undef = .agg #[.int .u8 (k.toNat : Int), .int .u8 (f.toNat : Int), .slice A n c] := hc.dep hl 6 94 rfl (by kernel_rfl)
      refine does_call rfl (wanted_at rfl rfl (hc.dep hl 1 89 rfl (by kernel_rfl))) 18 #[.agg #[.int .u8 (k.toNat : Int), .int .u8 (f.toNat : Int), .slice A93 xs.length c93], .agg #[.int .u8 (k.toNat : Int), .int .u8 (f.toNat : Int), .slice A n c]] ?_ ((HSM.out w1 _ _ (B1.out.trans (hc.g.mono B1.out.size)) ho93).mono fun e w' ⟨he, hb⟩ => ⟨_, he, hb, rfl⟩)
      clear hc hl
      go_simp
    · intro listed a w1 hfar hl hc
      have h89 : a.tmps[89]?.getD undef = .bool true := hc.dep hl 1 89 rfl (by kernel_rfl)
      have h95 : a.tmps[95]?.getD undef = .bool true := hc.dep hl 7 95 rfl (by kernel_rfl)
      refine does_value rfl rfl (.bool true) w1 ?_ (Below.refl _ _) rfl
      clear hc hl
      go_simp
  intro w2 hb2
  rintro _ rfl _ rfl _ rfl _ rfl _ rfl _ ⟨A93, c93, rfl, ho93⟩ _ rfl _ rfl _ rfl
  simp only [Thus, List.reverse_cons, List.reverse_nil, List.nil_append, List.cons_append, List.drop, List.take, lay]
  go_frame
  have B0 := Lib.hid (below_then B1.out (Nat.le_refl _) hb2)
  have K0 := Lib.hid (K1.out.below hb2 K1.out.lt)
  clear hb2 B1 K1 HPU
  have x0 : w2.cell? ⟨w.heap.size, 0, none⟩ = some (.int .u8 (k.toNat : Int)) := K0.out.cell 0
  have x1 : w2.cell? ⟨w.heap.size, 1, none⟩ = some (.int .u8 (f.toNat : Int)) := K0.out.cell 1
  have x2 : w2.cell? ⟨w.heap.size, 2, none⟩ = some (.slice A n c) := K0.out.cell 2
  go_wp2_with fail
  clear x0 x1 x2
  generalize w2 = v0 at B0 K0 ⊢
  refine (HGC.out v0 B0.out).mono ?_
  rintro e w1 ⟨rfl, hb⟩
  have B1 := Lib.hid (below_then B0.out (Nat.le_refl _) hb)
  have K1 := Lib.hid (K0.out.below hb K0.out.lt)
  clear hb B0 K0 HGC
  have x0 : w1.cell? ⟨w.heap.size, 0, none⟩ = some (.int .u8 (k.toNat : Int)) := K1.out.cell 0
  have x1 : w1.cell? ⟨w.heap.size, 1, none⟩ = some (.int .u8 (f.toNat : Int)) := K1.out.cell 1
  have x2 : w1.cell? ⟨w.heap.size, 2, none⟩ = some (.slice A n c) := K1.out.cell 2
  go_wp2_with fail
  clear x0 x1 x2
  go_ret2
  exact ⟨rfl, B1.out⟩
set_option maxRecDepth 100000 in
set_option maxHeartbeats 4000000 in
theorem got_C (k f : UInt8) (A : Option Addr) (n c : Nat) (xs : List UInt8) (w : World) (hn : n ≤ 131072) (hc : n ≤ c) (hcm : c ≤ maxLen) (hx : xs.length = n) (hr : Rd w w.heap.size A xs) (hD : okD k f xs = false) (hI : okI k f xs = false) (hS : okS k f xs = false) (hF : okF k f xs = false) (hT : okT k f xs = false) (hC : okC k f xs = true) :
    Calls Try.prog 47 #[.agg #[.int .u8 (k.toNat : Int), .int .u8 (f.toNat : Int), .slice A n c]] w fun e w' => e = .returned (.tuple #[.int .i64 1, .bool true]) ∧ Below w.heap.size w w' := by
  have hz0 := zero_data
  have hz1 := zero_init
  have hz2 := zero_sack
  have hz3 := zero_fwd
  have HGD : Hid (∀ W, Below w.heap.size w W → Calls Try.prog 16 #[.agg #[.int .u8 (k.toNat : Int), .int .u8 (f.toNat : Int), .slice A n c]] W fun e w' => ∃ AD mD cD, e = .returned (.tuple #[.agg #[.int .u32 0, .int .u16 0, .int .u16 0, .bool false, .bool false, .bool false, .slice AD mD cD], .int .i64 7]) ∧ Below W.heap.size W w') := Lib.hid fun W hW => getD_off k f A n c xs W hn hc hcm hx ((hr.below hW).more hW.size) hD
  have HGI : Hid (∀ W, Below w.heap.size w W → Calls Try.prog 24 #[.agg #[.int .u8 (k.toNat : Int), .int .u8 (f.toNat : Int), .slice A n c]] W fun e w' => ∃ AI mI cI, e = .returned (.tuple #[.agg #[.int .u32 0, .int .u32 0, .int .u16 0, .int .u16 0, .int .u32 0, .slice AI mI cI], .int .i64 7]) ∧ Below W.heap.size W w') := Lib.hid fun W hW => getI_off k f A n c xs W hn hc hcm hx ((hr.below hW).more hW.size) hI
  have HGS : Hid (∀ W, Below w.heap.size w W → Calls Try.prog 30 #[.agg #[.int .u8 (k.toNat : Int), .int .u8 (f.toNat : Int), .slice A n c]] W fun e w' => ∃ AS mS cS AU mU cU, e = .returned (.tuple #[.agg #[.int .u32 0, .int .u32 0, .slice AS mS cS, .slice AU mU cU], .int .i64 7]) ∧ Below W.heap.size W w') := Lib.hid fun W hW => getS_off k f A n c xs W hn hc hcm hx ((hr.below hW).more hW.size) hS
  have HGF : Hid (∀ W, Below w.heap.size w W → Calls Try.prog 35 #[.agg #[.int .u8 (k.toNat : Int), .int .u8 (f.toNat : Int), .slice A n c]] W fun e w' => ∃ AF mF cF, e = .returned (.tuple #[.agg #[.int .u32 0, .slice AF mF cF], .int .i64 7]) ∧ Below W.heap.size W w') := Lib.hid fun W hW => getF_off k f A n c xs W hn hc hcm hx ((hr.below hW).more hW.size) hF
  have HGT : Hid (∀ W, Below w.heap.size w W → Calls Try.prog 39 #[.agg #[.int .u8 (k.toNat : Int), .int .u8 (f.toNat : Int), .slice A n c]] W fun e w' => e = .returned (.tuple #[.int .i64 0, .int .i64 7]) ∧ Below W.heap.size W w') := Lib.hid fun W hW => getT_off k f A n c xs W hn hc hcm hx ((hr.below hW).more hW.size) hT
  obtain ⟨c0, hgx, hpx⟩ := onC k f A n c xs hn hc hcm hx hC
  have HGC : Hid (∀ W, Below w.heap.size w W → Calls Try.prog 41 #[.agg #[.int .u8 (k.toNat : Int), .int .u8 (f.toNat : Int), .slice A n c]] W fun e w' => e = .returned (.tuple #[.int .u32 (c0 : Int), .int .i64 0]) ∧ Below W.heap.size W w') := Lib.hid fun W hW => hgx W ((hr.below hW).more hW.size)
  have HPX := Lib.hid hpx
  have HSM : Hid (∀ (W : World) (A' : Option Addr) (c' : Nat), Below w.heap.size w W → Own8 W 5 w.heap.size A' xs.length c' xs → Calls Try.prog 18 #[.agg #[.int .u8 (k.toNat : Int), .int .u8 (f.toNat : Int), .slice A' xs.length c'], .agg #[.int .u8 (k.toNat : Int), .int .u8 (f.toNat : Int), .slice A n c]] W fun e w' => e = .returned (.bool true) ∧ Below W.heap.size W w') := Lib.hid fun W A' c' hW ho => by
    have := same_any k f k f A' A xs.length n c' c xs xs W rfl hx (Nat.le_trans ho.cap.1 ho.cap.2) (by unfold maxLen; omega) ho.rd ((hr.below hW).more hW.size)
    simpa using this
  clear hgx hpx hx hr hD hI hS hF hT hC
  have b0 : Blk (w.alloc (.cells #[.int .u8 (k.toNat : Int), .int .u8 (f.toNat : Int), .slice A n c] 28)) w.heap.size 28 #[.int .u8 (k.toNat : Int), .int .u8 (f.toNat : Int), .slice A n c] := Blk.new w 28 #[.int .u8 (k.toNat : Int), .int .u8 (f.toNat : Int), .slice A n c]
  have K0 := Lib.hid b0
  have B0 : Hid (Below w.heap.size w (w.alloc (.cells #[.int .u8 (k.toNat : Int), .int .u8 (f.toNat : Int), .slice A n c] 28))) := Lib.hid (Wr.below_ ((Wr.refl 5 w.heap.size w).alloc (.cells #[.int .u8 (k.toNat : Int), .int .u8 (f.toNat : Int), .slice A n c] 28)) (Nat.le_refl _))
  clear b0
  go_enter Try.func47, Try.ntmps47
  rw [drawn_eq 6, drawn_eq 10, drawn_eq 14, drawn_eq 18, drawn_eq 22, drawn_eq 26]
  go_wp2_with fail
  generalize (w.alloc (.cells #[.int .u8 (k.toNat : Int), .int .u8 (f.toNat : Int), .slice A n c] 28)) = v0 at K0 B0 ⊢
  refine (HGD.out v0 B0.out).mono ?_
  rintro e w1 ⟨AD, mD, cD, rfl, hb⟩
  have b1 := below_then B0.out (Nat.le_refl _) hb
  have B1 := Lib.hid (b1.alloc b1.size (.cells #[.int .u32 0, .int .u16 0, .int .u16 0, .bool false, .bool false, .bool false, .slice AD mD cD] 26))
  have K1 := Lib.hid ((K0.out.below hb K0.out.lt).alloc (.cells #[.int .u32 0, .int .u16 0, .int .u16 0, .bool false, .bool false, .bool false, .slice AD mD cD] 26))
  clear hb b1 B0 K0 HGD
  have x0 : (w1.alloc (.cells #[.int .u32 0, .int .u16 0, .int .u16 0, .bool false, .bool false, .bool false, .slice AD mD cD] 26)).cell? ⟨w.heap.size, 0, none⟩ = some (.int .u8 (k.toNat : Int)) := K1.out.cell 0
  have x1 : (w1.alloc (.cells #[.int .u32 0, .int .u16 0, .int .u16 0, .bool false, .bool false, .bool false, .slice AD mD cD] 26)).cell? ⟨w.heap.size, 1, none⟩ = some (.int .u8 (f.toNat : Int)) := K1.out.cell 1
  have x2 : (w1.alloc (.cells #[.int .u32 0, .int .u16 0, .int .u16 0, .bool false, .bool false, .bool false, .slice AD mD cD] 26)).cell? ⟨w.heap.size, 2, none⟩ = some (.slice A n c) := K1.out.cell 2
  go_wp2_with fail
  generalize w1.alloc (.cells #[.int .u32 0, .int .u16 0, .int .u16 0, .bool false, .bool false, .bool false, .slice AD mD cD] 26) = v0 at B1 K1 ⊢
  clear x0 x1 x2
  have B0 := B1
  have K0 := K1
  clear B1 K1
  refine (HGI.out v0 B0.out).mono ?_
  rintro e w1 ⟨AI, mI, cI, rfl, hb⟩
  have b1 := below_then B0.out (Nat.le_refl _) hb
  have B1 := Lib.hid (b1.alloc b1.size (.cells #[.int .u32 0, .int .u32 0, .int .u16 0, .int .u16 0, .int .u32 0, .slice AI mI cI] 43))
  have K1 := Lib.hid ((K0.out.below hb K0.out.lt).alloc (.cells #[.int .u32 0, .int .u32 0, .int .u16 0, .int .u16 0, .int .u32 0, .slice AI mI cI] 43))
  clear hb b1 B0 K0 HGI
  have x0 : (w1.alloc (.cells #[.int .u32 0, .int .u32 0, .int .u16 0, .int .u16 0, .int .u32 0, .slice AI mI cI] 43)).cell? ⟨w.heap.size, 0, none⟩ = some (.int .u8 (k.toNat : Int)) := K1.out.cell 0
  have x1 : (w1.alloc (.cells #[.int .u32 0, .int .u32 0, .int .u16 0, .int .u16 0, .int .u32 0, .slice AI mI cI] 43)).cell? ⟨w.heap.size, 1, none⟩ = some (.int .u8 (f.toNat : Int)) := K1.out.cell 1
  have x2 : (w1.alloc (.cells #[.int .u32 0, .int .u32 0, .int .u16 0, .int .u16 0, .int .u32 0, .slice AI mI cI] 43)).cell? ⟨w.heap.size, 2, none⟩ = some (.slice A n c) := K1.out.cell 2
  go_wp2_with fail
  generalize w1.alloc (.cells #[.int .u32 0, .int .u32 0, .int .u16 0, .int .u16 0, .int .u32 0, .slice AI mI cI] 43) = v0 at B1 K1 ⊢
  clear x0 x1 x2
  have B0 := B1
  have K0 := K1
  clear B1 K1
  refine (HGS.out v0 B0.out).mono ?_
  rintro e w1 ⟨AS, mS, cS, AU, mU, cU, rfl, hb⟩
  have b1 := below_then B0.out (Nat.le_refl _) hb
  have B1 := Lib.hid (b1.alloc b1.size (.cells #[.int .u32 0, .int .u32 0, .slice AS mS cS, .slice AU mU cU] 52))
  have K1 := Lib.hid ((K0.out.below hb K0.out.lt).alloc (.cells #[.int .u32 0, .int .u32 0, .slice AS mS cS, .slice AU mU cU] 52))
  clear hb b1 B0 K0 HGS
  have x0 : (w1.alloc (.cells #[.int .u32 0, .int .u32 0, .slice AS mS cS, .slice AU mU cU] 52)).cell? ⟨w.heap.size, 0, none⟩ = some (.int .u8 (k.toNat : Int)) := K1.out.cell 0
  have x1 : (w1.alloc (.cells #[.int .u32 0, .int .u32 0, .slice AS mS cS, .slice AU mU cU] 52)).cell? ⟨w.heap.size, 1, none⟩ = some (.int .u8 (f.toNat : Int)) := K1.out.cell 1
  have x2 : (w1.alloc (.cells #[.int .u32 0, .int .u32 0, .slice AS mS cS, .slice AU mU cU] 52)).cell? ⟨w.heap.size, 2, none⟩ = some (.slice A n c) := K1.out.cell 2
  go_wp2_with fail
  generalize w1.alloc (.cells #[.int .u32 0, .int .u32 0, .slice AS mS cS, .slice AU mU cU] 52) = v0 at B1 K1 ⊢
  clear x0 x1 x2
  have B0 := B1
  have K0 := K1
  clear B1 K1
  refine (HGF.out v0 B0.out).mono ?_
  rintro e w1 ⟨AF, mF, cF, rfl, hb⟩
  have b1 := below_then B0.out (Nat.le_refl _) hb
  have B1 := Lib.hid (b1.alloc b1.size (.cells #[.int .u32 0, .slice AF mF cF] 56))
  have K1 := Lib.hid ((K0.out.below hb K0.out.lt).alloc (.cells #[.int .u32 0, .slice AF mF cF] 56))
  clear hb b1 B0 K0 HGF
  have x0 : (w1.alloc (.cells #[.int .u32 0, .slice AF mF cF] 56)).cell? ⟨w.heap.size, 0, none⟩ = some (.int .u8 (k.toNat : Int)) := K1.out.cell 0
  have x1 : (w1.alloc (.cells #[.int .u32 0, .slice AF mF cF] 56)).cell? ⟨w.heap.size, 1, none⟩ = some (.int .u8 (f.toNat : Int)) := K1.out.cell 1
  have x2 : (w1.alloc (.cells #[.int .u32 0, .slice AF mF cF] 56)).cell? ⟨w.heap.size, 2, none⟩ = some (.slice A n c) := K1.out.cell 2
  go_wp2_with fail
  generalize w1.alloc (.cells #[.int .u32 0, .slice AF mF cF] 56) = v0 at B1 K1 ⊢
  clear x0 x1 x2
  have B0 := B1
  have K0 := K1
  clear B1 K1
  refine (HGT.out v0 B0.out).mono ?_
  rintro e w1 ⟨rfl, hb⟩
  have B1 := Lib.hid (below_then B0.out (Nat.le_refl _) hb)
  have K1 := Lib.hid (K0.out.below hb K0.out.lt)
  clear hb B0 K0 HGT
  have x0 : w1.cell? ⟨w.heap.size, 0, none⟩ = some (.int .u8 (k.toNat : Int)) := K1.out.cell 0
  have x1 : w1.cell? ⟨w.heap.size, 1, none⟩ = some (.int .u8 (f.toNat : Int)) := K1.out.cell 1
  have x2 : w1.cell? ⟨w.heap.size, 2, none⟩ = some (.slice A n c) := K1.out.cell 2
  go_wp2_with fail
  clear x0 x1 x2
  generalize w1 = v0 at B1 K1 ⊢
  have B0 := B1
  have K0 := K1
  clear B1 K1
  refine (HGC.out v0 B0.out).mono ?_
  rintro e w1 ⟨rfl, hb⟩
  have B1 := Lib.hid (below_then B0.out (Nat.le_refl _) hb)
  have K1 := Lib.hid (K0.out.below hb K0.out.lt)
  have HPU : Hid (∀ W, Below w1.heap.size w1 W → Puts 45 #[.int .u32 (c0 : Int)] k f xs W) := Lib.hid fun W _ => HPX.out W
  clear hb B0 K0 HGC HPX
  have x0 : w1.cell? ⟨w.heap.size, 0, none⟩ = some (.int .u8 (k.toNat : Int)) := K1.out.cell 0
  have x1 : w1.cell? ⟨w.heap.size, 1, none⟩ = some (.int .u8 (f.toNat : Int)) := K1.out.cell 1
  have x2 : w1.cell? ⟨w.heap.size, 2, none⟩ = some (.slice A n c) := K1.out.cell 2
  go_wp2_with fail
  clear x0 x1 x2
  generalize w1 = v1 at B1 K1 HPU ⊢
  rw [← drawn_eq 26]
  refine wp_region_grow_tailT 7 (by kernel_rfl) [(Is (.bool true)), (Is (.bool true)), (Is (.int .u32 (c0 : Int))), (NewAgg 5 w.heap.size xs.length xs (fun s => .agg #[.int .u8 (k.toNat : Int), .int .u8 (f.toNat : Int), s])), (Is (.agg #[.int .u8 (k.toNat : Int), .int .u8 (f.toNat : Int), .slice A n c])), (Is (.bool true)), (Is (.bool true))] rfl ?_ (by kernel_rfl) (by kernel_rfl) ?_ ?_
  · intro p hp
    simp only [List.mem_cons, List.not_mem_nil, or_false] at hp
    rcases hp with rfl | rfl | rfl | rfl | rfl | rfl | rfl
    · exact Lasts.is _
    · exact Lasts.is _
    · exact Lasts.is _
    · exact Lasts.newAgg _ _ _ _ _
    · exact Lasts.is _
    · exact Lasts.is _
    · exact Lasts.is _
  · refine ⟨?_, ?_, ?_, ?_, ?_, ?_, ?_, trivial⟩
    · intro listed a w1 hfar hl hc
      have h5 : a.tmps[5]?.getD undef = .bool true := (hc.wasT hfar 5 (by kernel_rfl)).trans rfl
      refine does_value rfl rfl (.bool true) w1 ?_ (Below.refl _ _) rfl
      clear hc hl
      go_simp
    · intro listed a w1 hfar hl hc
      have h106 : a.tmps[106]?.getD undef = .bool true := hc.dep hl 0 106 rfl (by kernel_rfl)
      refine does_value rfl rfl (.bool true) w1 ?_ (Below.refl _ _) rfl
      clear hc hl
      go_simp
    · intro listed a w1 hfar hl hc
      have h12 : a.tmps[12]?.getD undef = .int .u32 (c0 : Int) := (hc.was 12 (by kernel_rfl)).trans rfl
      refine does_value rfl (wanted_at rfl rfl (hc.dep hl 1 107 rfl (by kernel_rfl))) (.int .u32 (c0 : Int)) w1 ?_ (Below.refl _ _) rfl
      clear hc hl
      go_simp
    · intro listed a w1 hfar hl hc
      have h108 : a.tmps[108]?.getD undef = .int .u32 (c0 : Int) := hc.dep hl 2 108 rfl (by kernel_rfl)
      refine does_call rfl (wanted_at rfl rfl (hc.dep hl 1 107 rfl (by kernel_rfl))) 45 #[.int .u32 (c0 : Int)] ?_ ((HPU.out w1 hc.g).mono fun e w' ⟨A9, c9, he, ho, hb⟩ => ⟨_, he, hb, A9, c9, rfl, ho.more (Nat.le_trans B1.out.size hc.g.size)⟩)
      clear hc hl
      go_simp
    · intro listed a w1 hfar hl hc
      have h1 : a.tmps[1]?.getD undef = .pointer (some ⟨w.heap.size, 0, none⟩) := (hc.was 1 (by kernel_rfl)).trans rfl
      have kb := K1.out.below hc.g K1.out.lt
      have x0 : w1.cell? ⟨w.heap.size, 0, none⟩ = some (.int .u8 (k.toNat : Int)) := kb.cell 0
      have x1 : w1.cell? ⟨w.heap.size, 1, none⟩ = some (.int .u8 (f.toNat : Int)) := kb.cell 1
      have x2 : w1.cell? ⟨w.heap.size, 2, none⟩ = some (.slice A n c) := kb.cell 2
      clear kb
      refine does_value rfl (wanted_at rfl rfl (hc.dep hl 1 107 rfl (by kernel_rfl))) (.agg #[.int .u8 (k.toNat : Int), .int .u8 (f.toNat : Int), .slice A n c]) w1 ?_ (Below.refl _ _) rfl
      clear hc hl
      go_simp
    · intro listed a w1 hfar hl hc
      obtain ⟨A109, c109, h109, ho109⟩ := hc.dep hl 3 109 rfl (by kernel_rfl)
      have h110 : a.tmps[110]?.getD undef = .agg #[.int .u8 (k.toNat : Int), .int .u8 (f.toNat : Int), .slice A n c] := hc.dep hl 4 110 rfl (by kernel_rfl)
      refine does_call rfl (wanted_at rfl rfl (hc.dep hl 1 107 rfl (by kernel_rfl))) 18 #[.agg #[.int .u8 (k.toNat : Int), .int .u8 (f.toNat : Int), .slice A109 xs.length c109], .agg #[.int .u8 (k.toNat : Int), .int .u8 (f.toNat : Int), .slice A n c]] ?_ ((HSM.out w1 _ _ (B1.out.trans (hc.g.mono B1.out.size)) ho109).mono fun e w' ⟨he, hb⟩ => ⟨_, he, hb, rfl⟩)
      clear hc hl
      go_simp
    · intro listed a w1 hfar hl hc
      have h107 : a.tmps[107]?.getD undef = .bool true := hc.dep hl 1 107 rfl (by kernel_rfl)
      have h111 : a.tmps[111]?.getD undef = .bool true := hc.dep hl 5 111 rfl (by kernel_rfl)
      refine does_value rfl rfl (.bool true) w1 ?_ (Below.refl _ _) rfl
      clear hc hl
      go_simp
  intro w2 hb2
  rintro _ rfl _ rfl _ rfl _ ⟨A109, c109, rfl, ho109⟩ _ rfl _ rfl _ rfl
  simp only [Thus, List.reverse_cons, List.reverse_nil, List.nil_append, List.cons_append, List.drop, List.take, lay]
  go_frame
  have B0 := Lib.hid (below_then B1.out (Nat.le_refl _) hb2)
  have K0 := Lib.hid (K1.out.below hb2 K1.out.lt)
  clear hb2 B1 K1 HPU
  have x0 : w2.cell? ⟨w.heap.size, 0, none⟩ = some (.int .u8 (k.toNat : Int)) := K0.out.cell 0
  have x1 : w2.cell? ⟨w.heap.size, 1, none⟩ = some (.int .u8 (f.toNat : Int)) := K0.out.cell 1
  have x2 : w2.cell? ⟨w.heap.size, 2, none⟩ = some (.slice A n c) := K0.out.cell 2
  go_wp2_with fail
  clear x0 x1 x2
  go_ret2
  exact ⟨rfl, B0.out⟩
end Go.Proofs.Ytalgkokgaibloaa
