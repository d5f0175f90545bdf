/-
  Package cookie: fields, addWords, Write; the reference's body and Write.
-/
import Derived.Test.YtnnkgdkjmmljiaaDoorQ5
import Derived.Test.YtnnkgdkjmmljiaaDoorQ13
import Derived.Test.YtnnkgdkjmmljiaaDoorQ15
import Derived.Test.YtnnkgdkjmmljiaaDoorQ17
namespace Go.Proofs.YtnnkgdkjmmljiaaDoor
open Go.RowKit
set_option linter.unusedVariables false

theorem zero_cookie (w : World) : (zeroValue 26).run Tryd.prog w = .ok (.agg #[.int .i64 0, .int .u32 0, .int .u32 0, .int .u32 0, .int .u32 0, .int .u32 0, .int .u16 0, .int .u16 0]) w := by kernel_rfl
theorem wrap_i64_toI {x : Nat} (h : x < 18446744073709551616) : wrap64 (x : Int) = toI x := by
  unfold wrap64 toI
  split <;> omega
theorem wrap_u64_toU (b : Int) : IntKind.u64.wrap b = (toU b : Int) := by
  simp only [IntKind.wrap, IntKind.signed, IntKind.bits, toU]
  simp
  omega
set_option maxRecDepth 100000 in
set_option maxHeartbeats 4000000 in
theorem fields_any (A : Option Addr) (n c : Nat) (xs : List UInt8) (w : World) (hn : n ≤ maxLen) (hx : xs.length = n) (hr : Rd w w.heap.size A xs) (h32 : 32 ≤ n) :
    Calls Tryd.prog 26 #[.slice A n c] w fun e w' => e = .returned (.agg #[.int .i64 (decC xs).b, .int .u32 ((decC xs).ot : Int), .int .u32 ((decC xs).pt : Int), .int .u32 ((decC xs).os : Int), .int .u32 ((decC xs).ps : Int), .int .u32 ((decC xs).rw : Int), .int .u16 ((decC xs).ou : Int), .int .u16 ((decC xs).inn : Int)]) ∧ Below w.heap.size w w' := by
  have hz := zero_cookie
  have K := Lib.hid (Blk.new w 26 #[.int .i64 0, .int .u32 0, .int .u32 0, .int .u32 0, .int .u32 0, .int .u32 0, .int .u16 0, .int .u16 0])
  have B0 := Lib.hid (below_new w (.cells #[.int .i64 0, .int .u32 0, .int .u32 0, .int .u32 0, .int .u32 0, .int .u32 0, .int .u16 0, .int .u16 0] 26))
  obtain ⟨x0, hx0⟩ : ∃ x, x = num xs 0 8 := ⟨_, rfl⟩
  have l0 : x0 < 18446744073709551616 := by rw [hx0]; exact num_lt xs 0 8
  have C0 : Hid (∀ W, Below w.heap.size w W → Calls Tryd.prog 39 #[.slice A n c, .int .i64 0, .int .i64 8] W fun e w' => e = .returned (.tuple #[.int .u64 (x0 : Int), .int .i64 0]) ∧ W = w') := Lib.hid fun W hW => hx0 ▸ get_yes w.heap.size A n c 0 8 xs W hn hx (hr.below hW) (by unfold IsSize; omega) (by omega)
  obtain ⟨x1, hx1⟩ : ∃ x, x = num xs 8 4 := ⟨_, rfl⟩
  have l1 : x1 < 4294967296 := by rw [hx1]; exact num_lt xs 8 4
  have C1 : Hid (∀ W, Below w.heap.size w W → Calls Tryd.prog 30 #[.slice A n c, .int .i64 8] W fun e w' => e = .returned (.int .u32 (x1 : Int)) ∧ W = w') := Lib.hid fun W hW => hx1 ▸ ck_word_any w.heap.size A n c 8 xs W hn hx (hr.below hW) (by omega)
  obtain ⟨x2, hx2⟩ : ∃ x, x = num xs 12 4 := ⟨_, rfl⟩
  have l2 : x2 < 4294967296 := by rw [hx2]; exact num_lt xs 12 4
  have C2 : Hid (∀ W, Below w.heap.size w W → Calls Tryd.prog 30 #[.slice A n c, .int .i64 12] W fun e w' => e = .returned (.int .u32 (x2 : Int)) ∧ W = w') := Lib.hid fun W hW => hx2 ▸ ck_word_any w.heap.size A n c 12 xs W hn hx (hr.below hW) (by omega)
  obtain ⟨x3, hx3⟩ : ∃ x, x = num xs 16 4 := ⟨_, rfl⟩
  have l3 : x3 < 4294967296 := by rw [hx3]; exact num_lt xs 16 4
  have C3 : Hid (∀ W, Below w.heap.size w W → Calls Tryd.prog 30 #[.slice A n c, .int .i64 16] W fun e w' => e = .returned (.int .u32 (x3 : Int)) ∧ W = w') := Lib.hid fun W hW => hx3 ▸ ck_word_any w.heap.size A n c 16 xs W hn hx (hr.below hW) (by omega)
  obtain ⟨x4, hx4⟩ : ∃ x, x = num xs 20 4 := ⟨_, rfl⟩
  have l4 : x4 < 4294967296 := by rw [hx4]; exact num_lt xs 20 4
  have C4 : Hid (∀ W, Below w.heap.size w W → Calls Tryd.prog 30 #[.slice A n c, .int .i64 20] W fun e w' => e = .returned (.int .u32 (x4 : Int)) ∧ W = w') := Lib.hid fun W hW => hx4 ▸ ck_word_any w.heap.size A n c 20 xs W hn hx (hr.below hW) (by omega)
  obtain ⟨x5, hx5⟩ : ∃ x, x = num xs 24 4 := ⟨_, rfl⟩
  have l5 : x5 < 4294967296 := by rw [hx5]; exact num_lt xs 24 4
  have C5 : Hid (∀ W, Below w.heap.size w W → Calls Tryd.prog 30 #[.slice A n c, .int .i64 24] W fun e w' => e = .returned (.int .u32 (x5 : Int)) ∧ W = w') := Lib.hid fun W hW => hx5 ▸ ck_word_any w.heap.size A n c 24 xs W hn hx (hr.below hW) (by omega)
  obtain ⟨x6, hx6⟩ : ∃ x, x = num xs 28 2 := ⟨_, rfl⟩
  have l6 : x6 < 65536 := by rw [hx6]; exact num_lt xs 28 2
  have C6 : Hid (∀ W, Below w.heap.size w W → Calls Tryd.prog 40 #[.slice A n c, .int .i64 28] W fun e w' => e = .returned (.int .u16 (x6 : Int)) ∧ W = w') := Lib.hid fun W hW => hx6 ▸ ck_half_any w.heap.size A n c 28 xs W hn hx (hr.below hW) (by omega)
  obtain ⟨x7, hx7⟩ : ∃ x, x = num xs 30 2 := ⟨_, rfl⟩
  have l7 : x7 < 65536 := by rw [hx7]; exact num_lt xs 30 2
  have C7 : Hid (∀ W, Below w.heap.size w W → Calls Tryd.prog 40 #[.slice A n c, .int .i64 30] W fun e w' => e = .returned (.int .u16 (x7 : Int)) ∧ W = w') := Lib.hid fun W hW => hx7 ▸ ck_half_any w.heap.size A n c 30 xs W hn hx (hr.below hW) (by omega)
  have HI := Lib.hid (wrap_i64_toI l0)
  have HE : Hid (Value.agg #[.int .i64 (decC xs).b, .int .u32 ((decC xs).ot : Int), .int .u32 ((decC xs).pt : Int), .int .u32 ((decC xs).os : Int), .int .u32 ((decC xs).ps : Int), .int .u32 ((decC xs).rw : Int), .int .u16 ((decC xs).ou : Int), .int .u16 ((decC xs).inn : Int)] = Value.agg #[.int .i64 (toI x0), .int .u32 (x1 : Int), .int .u32 (x2 : Int), .int .u32 (x3 : Int), .int .u32 (x4 : Int), .int .u32 (x5 : Int), .int .u16 (x6 : Int), .int .u16 (x7 : Int)]) := Lib.hid (by simp [decC, hx0, hx1, hx2, hx3, hx4, hx5, hx6, hx7])
  rw [HE.out]
  clear hx0 hx1 hx2 hx3 hx4 hx5 hx6 hx7 hx hr
  go_enter Tryd.func26, Tryd.ntmps26
  go_wp2_with fail
  generalize w.alloc (.cells #[.int .i64 0, .int .u32 0, .int .u32 0, .int .u32 0, .int .u32 0, .int .u32 0, .int .u16 0, .int .u16 0] 26) = w1 at K B0 ⊢
  refine (C0.out _ B0.out).mono ?_
  rintro e v0 ⟨rfl, rfl⟩
  go_wp2_with fail
  refine (C1.out _ B0.out).mono ?_
  rintro e v1 ⟨rfl, rfl⟩
  go_wp2_with fail
  refine (C2.out _ B0.out).mono ?_
  rintro e v2 ⟨rfl, rfl⟩
  go_wp2_with fail
  refine (C3.out _ B0.out).mono ?_
  rintro e v3 ⟨rfl, rfl⟩
  go_wp2_with fail
  refine (C4.out _ B0.out).mono ?_
  rintro e v4 ⟨rfl, rfl⟩
  go_wp2_with fail
  refine (C5.out _ B0.out).mono ?_
  rintro e v5 ⟨rfl, rfl⟩
  go_wp2_with fail
  refine (C6.out _ B0.out).mono ?_
  rintro e v6 ⟨rfl, rfl⟩
  go_wp2_with fail
  refine (C7.out _ B0.out).mono ?_
  rintro e v7 ⟨rfl, rfl⟩
  rw [HI.out]
  have j0 : w1.cell? ⟨w.heap.size, 0, none⟩ = some (.int .i64 0) := K.out.cell 0
  have jz0 := K.out.frozen 0
  have j1 : w1.cell? ⟨w.heap.size, 1, none⟩ = some (.int .u32 0) := K.out.cell 1
  have jz1 := K.out.frozen 1
  have j2 : w1.cell? ⟨w.heap.size, 2, none⟩ = some (.int .u32 0) := K.out.cell 2
  have jz2 := K.out.frozen 2
  have j3 : w1.cell? ⟨w.heap.size, 3, none⟩ = some (.int .u32 0) := K.out.cell 3
  have jz3 := K.out.frozen 3
  have j4 : w1.cell? ⟨w.heap.size, 4, none⟩ = some (.int .u32 0) := K.out.cell 4
  have jz4 := K.out.frozen 4
  have j5 : w1.cell? ⟨w.heap.size, 5, none⟩ = some (.int .u32 0) := K.out.cell 5
  have jz5 := K.out.frozen 5
  have j6 : w1.cell? ⟨w.heap.size, 6, none⟩ = some (.int .u16 0) := K.out.cell 6
  have jz6 := K.out.frozen 6
  have j7 : w1.cell? ⟨w.heap.size, 7, none⟩ = some (.int .u16 0) := K.out.cell 7
  have jz7 := K.out.frozen 7
  go_wp2_with fail
  exact bodyPost_ret (v := .agg #[.int .i64 (toI x0), .int .u32 (x1 : Int), .int .u32 (x2 : Int), .int .u32 (x3 : Int), .int .u32 (x4 : Int), .int .u32 (x5 : Int), .int .u16 (x6 : Int), .int .u16 (x7 : Int)]) (by simp [results, Tryd.results26, go_sem, j0, j1, j2, j3, j4, j5, j6, j7]) rfl ⟨rfl, ((((((((B0.out.setCell (p := ⟨w.heap.size, 0, none⟩) (Nat.le_refl _) _).setCell (p := ⟨w.heap.size, 1, none⟩) (Nat.le_refl _) _).setCell (p := ⟨w.heap.size, 2, none⟩) (Nat.le_refl _) _).setCell (p := ⟨w.heap.size, 3, none⟩) (Nat.le_refl _) _).setCell (p := ⟨w.heap.size, 4, none⟩) (Nat.le_refl _) _).setCell (p := ⟨w.heap.size, 5, none⟩) (Nat.le_refl _) _).setCell (p := ⟨w.heap.size, 6, none⟩) (Nat.le_refl _) _).setCell (p := ⟨w.heap.size, 7, none⟩) (Nat.le_refl _) _)⟩

set_option maxRecDepth 100000 in
set_option maxHeartbeats 8000000 in
theorem addWords_any (A : Option Addr) (c g : Nat) (xs : List UInt8) (x0 x1 x2 x3 x4 : Nat) (w : World) (hx : xs.length = 8) (hr : Rd w w.heap.size A xs) (hk : Blk w g 23 #[.int .u32 (x0 : Int), .int .u32 (x1 : Int), .int .u32 (x2 : Int), .int .u32 (x3 : Int), .int .u32 (x4 : Int)])
    (h0 : x0 < 4294967296) (h1 : x1 < 4294967296) (h2 : x2 < 4294967296) (h3 : x3 < 4294967296) (h4 : x4 < 4294967296) :
    Calls Tryd.prog 21 #[.slice A 8 c, .slice (some ⟨g, 0, none⟩) 5 5] w fun e w' => ∃ g2, e = .returned (.slice (some ⟨g2, 0, none⟩) 28 28) ∧ w.heap.size ≤ g2 ∧ RowAt w' 5 g2 (((((xs ++ enc x0 4) ++ enc x1 4) ++ enc x2 4) ++ enc x3 4) ++ enc x4 4) ∧ Below w.heap.size w w' := by
  have R0 := Lib.hid hr
  have K0 := Lib.hid hk
  have HX := Lib.hid hx
  have hz := hk.lt
  clear hr hx hk
  go_enter Tryd.func21, Tryd.ntmps21
  go_wp2_with fail
  refine wp_loop_rounds 6 ?_
  rw [rounds_succ]
  have f : w.cell? ⟨g, 0, none⟩ = some (.int .u32 (x0 : Int)) := K0.out.cell 0
  go_wp2_with fail
  refine (put_yes A 8 c x0 4 xs w (by omega) (by omega) (by simp [HX.out]) R0.out (by unfold IsSize; omega)).mono ?_
  rintro e w1 ⟨g1, rfl, hg1, hrow1, hb1⟩
  have B1 : Hid (Below w.heap.size w w1) := Lib.hid hb1
  have K1 := Lib.hid (K0.out.below B1.out hz)
  have R1 : Hid (Rd w1 w1.heap.size (some ⟨g1, 0, none⟩) (xs ++ enc x0 4)) := Lib.hid (hrow1.rd 0 _ (fun j hj => by rw [Nat.zero_add]))
  have L1 : Hid (w.heap.size ≤ g1) := Lib.hid (Nat.le_trans (Nat.le_refl _) hg1)
  clear f hg1 hb1 hrow1
  go_wp2_with fail
  rw [rounds_succ]
  have f : w1.cell? ⟨g, 1, none⟩ = some (.int .u32 (x1 : Int)) := K1.out.cell 1
  go_wp2_with fail
  refine (put_yes (some ⟨g1, 0, none⟩) 12 12 x1 4 (xs ++ enc x0 4) w1 (by omega) (by omega) (by simp [length_enc, HX.out]) R1.out (by unfold IsSize; omega)).mono ?_
  rintro e w2 ⟨g2, rfl, hg2, hrow2, hb2⟩
  have B2 : Hid (Below w.heap.size w w2) := Lib.hid (below_then B1.out (Nat.le_refl _) hb2)
  have K2 := Lib.hid (K0.out.below B2.out hz)
  have R2 : Hid (Rd w2 w2.heap.size (some ⟨g2, 0, none⟩) ((xs ++ enc x0 4) ++ enc x1 4)) := Lib.hid (hrow2.rd 0 _ (fun j hj => by rw [Nat.zero_add]))
  have L2 : Hid (w.heap.size ≤ g2) := Lib.hid (Nat.le_trans B1.out.size hg2)
  clear f hg2 hb2 hrow2
  go_wp2_with fail
  rw [rounds_succ]
  have f : w2.cell? ⟨g, 2, none⟩ = some (.int .u32 (x2 : Int)) := K2.out.cell 2
  go_wp2_with fail
  refine (put_yes (some ⟨g2, 0, none⟩) 16 16 x2 4 ((xs ++ enc x0 4) ++ enc x1 4) w2 (by omega) (by omega) (by simp [length_enc, HX.out]) R2.out (by unfold IsSize; omega)).mono ?_
  rintro e w3 ⟨g3, rfl, hg3, hrow3, hb3⟩
  have B3 : Hid (Below w.heap.size w w3) := Lib.hid (below_then B2.out (Nat.le_refl _) hb3)
  have K3 := Lib.hid (K0.out.below B3.out hz)
  have R3 : Hid (Rd w3 w3.heap.size (some ⟨g3, 0, none⟩) (((xs ++ enc x0 4) ++ enc x1 4) ++ enc x2 4)) := Lib.hid (hrow3.rd 0 _ (fun j hj => by rw [Nat.zero_add]))
  have L3 : Hid (w.heap.size ≤ g3) := Lib.hid (Nat.le_trans B2.out.size hg3)
  clear f hg3 hb3 hrow3
  go_wp2_with fail
  rw [rounds_succ]
  have f : w3.cell? ⟨g, 3, none⟩ = some (.int .u32 (x3 : Int)) := K3.out.cell 3
  go_wp2_with fail
  refine (put_yes (some ⟨g3, 0, none⟩) 20 20 x3 4 (((xs ++ enc x0 4) ++ enc x1 4) ++ enc x2 4) w3 (by omega) (by omega) (by simp [length_enc, HX.out]) R3.out (by unfold IsSize; omega)).mono ?_
  rintro e w4 ⟨g4, rfl, hg4, hrow4, hb4⟩
  have B4 : Hid (Below w.heap.size w w4) := Lib.hid (below_then B3.out (Nat.le_refl _) hb4)
  have K4 := Lib.hid (K0.out.below B4.out hz)
  have R4 : Hid (Rd w4 w4.heap.size (some ⟨g4, 0, none⟩) ((((xs ++ enc x0 4) ++ enc x1 4) ++ enc x2 4) ++ enc x3 4)) := Lib.hid (hrow4.rd 0 _ (fun j hj => by rw [Nat.zero_add]))
  have L4 : Hid (w.heap.size ≤ g4) := Lib.hid (Nat.le_trans B3.out.size hg4)
  clear f hg4 hb4 hrow4
  go_wp2_with fail
  rw [rounds_succ]
  have f : w4.cell? ⟨g, 4, none⟩ = some (.int .u32 (x4 : Int)) := K4.out.cell 4
  go_wp2_with fail
  refine (put_yes (some ⟨g4, 0, none⟩) 24 24 x4 4 ((((xs ++ enc x0 4) ++ enc x1 4) ++ enc x2 4) ++ enc x3 4) w4 (by omega) (by omega) (by simp [length_enc, HX.out]) R4.out (by unfold IsSize; omega)).mono ?_
  rintro e w5 ⟨g5, rfl, hg5, hrow5, hb5⟩
  have B5 : Hid (Below w.heap.size w w5) := Lib.hid (below_then B4.out (Nat.le_refl _) hb5)
  have K5 := Lib.hid (K0.out.below B5.out hz)
  have R5 : Hid (Rd w5 w5.heap.size (some ⟨g5, 0, none⟩) (((((xs ++ enc x0 4) ++ enc x1 4) ++ enc x2 4) ++ enc x3 4) ++ enc x4 4)) := Lib.hid (hrow5.rd 0 _ (fun j hj => by rw [Nat.zero_add]))
  have L5 : Hid (w.heap.size ≤ g5) := Lib.hid (Nat.le_trans B4.out.size hg5)
  have HR5 := Lib.hid hrow5
  clear f hg5 hb5 hrow5
  go_wp2_with fail
  rw [rounds_succ]
  go_wp2_with fail
  go_ret
  exact ⟨g5, rfl, L5.out, HR5.out, B5.out⟩

set_option maxRecDepth 100000 in
set_option maxHeartbeats 4000000 in
theorem ckWrite_any (A : Option Addr) (n c : Nat) (ks : List UInt8) (x : Ck) (w : World) (hT : Tabs w) (hn : n ≤ c) (hc : c ≤ maxLen) (hx : ks.length = n) (hr : Rd w w.heap.size A ks) (hl : n ≤ 1048576) (hw : x.Wf) :
    Calls Tryd.prog 12 #[.slice A n c, .agg #[.int .i64 x.b, .int .u32 (x.ot : Int), .int .u32 (x.pt : Int), .int .u32 (x.os : Int), .int .u32 (x.ps : Int), .int .u32 (x.rw : Int), .int .u16 (x.ou : Int), .int .u16 (x.inn : Int)]] w fun e w' => ∃ A2 c2, e = .returned (.slice A2 64 c2) ∧ Own8 w' 5 w.heap.size A2 64 c2 (wrC ks x) ∧ Below w.heap.size w w' := by
  obtain ⟨i8, h8⟩ := Tryd.ty8
  have h2 := hT.2.2
  have HT := Lib.hid hT
  have HR := Lib.hid hr
  have HX := Lib.hid hx
  have HC := Lib.hid hc
  have HW := Lib.hid hw
  have HU : Hid (IntKind.u64.wrap x.b = (toU x.b : Int)) := Lib.hid (wrap_u64_toU x.b)
  have l1 := hw.ot
  have l2 := hw.pt
  have l3 := hw.os
  have l4 := hw.ps
  have l5 := hw.rw
  have l6 := hw.ou
  have l7 := hw.inn
  obtain ⟨E, hE⟩ : ∃ E, E = encC x := ⟨_, rfl⟩
  obtain ⟨D, hD⟩ : ∃ D, D = mac ks E := ⟨_, rfl⟩
  have HD := Lib.hid hD
  have HDl := Lib.hid (show D.length = 32 by rw [hD, length_mac])
  have HEl := Lib.hid (show E.length = 32 by rw [hE, length_encC])
  have HWR : Hid (E ++ D = wrC ks x) := Lib.hid (by rw [hD, hE]; rfl)
  have hszD : (row8 D).size = 32 := by rw [size_row8, HDl.out]
  have hst := (fun W : World => run_storeCells_new (P := Tryd.prog) W 46 #[.int .u8 0, .int .u8 0, .int .u8 0, .int .u8 0, .int .u8 0, .int .u8 0, .int .u8 0, .int .u8 0, .int .u8 0, .int .u8 0, .int .u8 0, .int .u8 0, .int .u8 0, .int .u8 0, .int .u8 0, .int .u8 0, .int .u8 0, .int .u8 0, .int .u8 0, .int .u8 0, .int .u8 0, .int .u8 0, .int .u8 0, .int .u8 0, .int .u8 0, .int .u8 0, .int .u8 0, .int .u8 0, .int .u8 0, .int .u8 0, .int .u8 0, .int .u8 0] (row8 D) ((show (Tryd.prog.info? 46).map (·.size) = some 32 by kernel_rfl).trans (by rw [size_row8, HDl.out])) (by rw [size_row8, HDl.out]; rfl) (row8_one _))
  have HE := Lib.hid hE
  have HEE : Hid ((((((((([] ++ enc (toU x.b) 8) ++ enc x.ot 4) ++ enc x.pt 4) ++ enc x.os 4) ++ enc x.ps 4) ++ enc x.rw 4) ++ enc x.ou 2) ++ enc x.inn 2) = E) := Lib.hid (by rw [hE]; simp [encC])
  have hsl : ∀ (W : World) (r : Nat), (Instr.sliceAt 46 (.pointer (some ⟨r, 0, none⟩)) none none none).run Tryd.prog W = .ok (.slice (some ⟨r, 0, none⟩) 32 32) W := fun W r => slice_whole Tryd.underlying46 (by kernel_rfl) _ _ W
  have K := Lib.hid (Blk.new w 26 #[.int .i64 x.b, .int .u32 (x.ot : Int), .int .u32 (x.pt : Int), .int .u32 (x.os : Int), .int .u32 (x.ps : Int), .int .u32 (x.rw : Int), .int .u16 (x.ou : Int), .int .u16 (x.inn : Int)])
  have B0 := Lib.hid (below_new w (.cells #[.int .i64 x.b, .int .u32 (x.ot : Int), .int .u32 (x.pt : Int), .int .u32 (x.os : Int), .int .u32 (x.ps : Int), .int .u32 (x.rw : Int), .int .u16 (x.ou : Int), .int .u16 (x.inn : Int)] 26))
  clear hT hx hr hc hw hE hD
  go_enter Tryd.func12, Tryd.ntmps12
  go_wp2_with fail
  generalize w.alloc (.cells #[.int .i64 x.b, .int .u32 (x.ot : Int), .int .u32 (x.pt : Int), .int .u32 (x.os : Int), .int .u32 (x.ps : Int), .int .u32 (x.rw : Int), .int .u16 (x.ou : Int), .int .u16 (x.inn : Int)] 26) = w0 at K B0 ⊢
  have hz := K.out.lt
  have j0 : w0.cell? ⟨w.heap.size, 0, none⟩ = some (.int .i64 x.b) := K.out.cell 0
  go_wp2_with fail
  rw [HU.out]
  refine (put_yes none 0 0 (toU x.b) 8 [] w0 (by omega) (toU_lt _) rfl (Rd.nil _ _ _) (by unfold IsSize; omega)).mono ?_
  rintro e w1 ⟨g1, rfl, hg1, hrow1, hb1⟩
  have B1 := Lib.hid (below_then B0.out (Nat.le_refl _) hb1)
  have K1 := Lib.hid (K.out.below hb1 hz)
  have hz1 := K1.out.lt
  have HQ : Hid (Rd (w1.alloc (.cells #[.int .u32 (x.ot : Int), .int .u32 (x.pt : Int), .int .u32 (x.os : Int), .int .u32 (x.ps : Int), .int .u32 (x.rw : Int)] 23)) (w1.alloc (.cells #[.int .u32 (x.ot : Int), .int .u32 (x.pt : Int), .int .u32 (x.os : Int), .int .u32 (x.ps : Int), .int .u32 (x.rw : Int)] 23)).heap.size (some ⟨g1, 0, none⟩) ([] ++ enc (toU x.b) 8)) := Lib.hid ((hrow1.alloc _).rd 0 _ (fun j hj => by rw [Nat.zero_add]))
  have HQB : Hid (Blk (w1.alloc (.cells #[.int .u32 (x.ot : Int), .int .u32 (x.pt : Int), .int .u32 (x.os : Int), .int .u32 (x.ps : Int), .int .u32 (x.rw : Int)] 23)) w1.heap.size 23 #[.int .u32 (x.ot : Int), .int .u32 (x.pt : Int), .int .u32 (x.os : Int), .int .u32 (x.ps : Int), .int .u32 (x.rw : Int)]) := Lib.hid (Blk.new _ _ _)
  have B1b : Hid (Below w.heap.size w (w1.alloc (.cells #[.int .u32 (x.ot : Int), .int .u32 (x.pt : Int), .int .u32 (x.os : Int), .int .u32 (x.ps : Int), .int .u32 (x.rw : Int)] 23))) := Lib.hid (B1.out.alloc B1.out.size _)
  have K1b : Hid (Blk (w1.alloc (.cells #[.int .u32 (x.ot : Int), .int .u32 (x.pt : Int), .int .u32 (x.os : Int), .int .u32 (x.ps : Int), .int .u32 (x.rw : Int)] 23)) w.heap.size 26 #[.int .i64 x.b, .int .u32 (x.ot : Int), .int .u32 (x.pt : Int), .int .u32 (x.os : Int), .int .u32 (x.ps : Int), .int .u32 (x.rw : Int), .int .u16 (x.ou : Int), .int .u16 (x.inn : Int)]) := Lib.hid (K1.out.alloc _)
  clear j0 hb1 hrow1 hg1
  have j0 : w1.cell? ⟨w.heap.size, 0, none⟩ = some (.int .i64 x.b) := K1.out.cell 0
  have j1 : w1.cell? ⟨w.heap.size, 1, none⟩ = some (.int .u32 (x.ot : Int)) := K1.out.cell 1
  have j2 : w1.cell? ⟨w.heap.size, 2, none⟩ = some (.int .u32 (x.pt : Int)) := K1.out.cell 2
  have j3 : w1.cell? ⟨w.heap.size, 3, none⟩ = some (.int .u32 (x.os : Int)) := K1.out.cell 3
  have j4 : w1.cell? ⟨w.heap.size, 4, none⟩ = some (.int .u32 (x.ps : Int)) := K1.out.cell 4
  have j5 : w1.cell? ⟨w.heap.size, 5, none⟩ = some (.int .u32 (x.rw : Int)) := K1.out.cell 5
  go_wp2_with fail
  generalize w1.alloc (.cells #[.int .u32 (x.ot : Int), .int .u32 (x.pt : Int), .int .u32 (x.os : Int), .int .u32 (x.ps : Int), .int .u32 (x.rw : Int)] 23) = w2 at HQ HQB B1b K1b ⊢
  refine (addWords_any (some ⟨g1, 0, none⟩) _ _ _ x.ot x.pt x.os x.ps x.rw w2 (by simp [length_enc]) HQ.out HQB.out l1 l2 l3 l4 l5).mono ?_
  rintro e w3 ⟨g3, rfl, hg3, hrow3, hb3⟩
  have hz2 := K1b.out.lt
  have B3 := Lib.hid (below_then B1b.out (Nat.le_refl _) hb3)
  have K3 := Lib.hid (K1b.out.below hb3 hz2)
  have R3 : Hid (Rd w3 w3.heap.size (some ⟨g3, 0, none⟩) _) := Lib.hid (hrow3.rd 0 _ (fun j hj => by rw [Nat.zero_add]))
  clear j0 j1 j2 j3 j4 j5 hb3 hrow3 hg3
  have q0 : w3.cell? ⟨w.heap.size, 6, none⟩ = some (.int .u16 (x.ou : Int)) := K3.out.cell 6
  go_wp2_with fail
  refine (put_yes _ 28 _ x.ou 2 _ w3 (by omega) (by omega) (by simp [length_enc]) R3.out (by unfold IsSize; omega)).mono ?_
  rintro e w4 ⟨g4, rfl, hg4, hrow4, hb4⟩
  have B4 := Lib.hid (below_then B3.out (Nat.le_refl _) hb4)
  have K4 := Lib.hid (K3.out.below hb4 K3.out.lt)
  have R4 : Hid (Rd w4 w4.heap.size (some ⟨g4, 0, none⟩) _) := Lib.hid (hrow4.rd 0 _ (fun j hj => by rw [Nat.zero_add]))
  clear q0 hb4 hrow4 hg4
  have q0 : w4.cell? ⟨w.heap.size, 7, none⟩ = some (.int .u16 (x.inn : Int)) := K4.out.cell 7
  go_wp2_with fail
  refine (put_yes _ 30 _ x.inn 2 _ w4 (by omega) (by omega) (by simp [length_enc]) R4.out (by unfold IsSize; omega)).mono ?_
  rintro e w5 ⟨g5, rfl, hg5, hrow5, hb5⟩
  have B5 := Lib.hid (below_then B4.out (Nat.le_refl _) hb5)
  rw [HEE.out] at hrow5
  have L5 : Hid (w.heap.size ≤ g5) := Lib.hid (Nat.le_trans B4.out.size hg5)
  have HR5 := Lib.hid hrow5
  have lt5 := hrow5.lt
  have R5 : Hid (Rd w5 w5.heap.size (some ⟨g5, 0, none⟩) E) := Lib.hid (hrow5.rd 0 _ (fun j hj => by rw [Nat.zero_add]))
  clear q0 hb5 hrow5 hg5
  go_wp2_with fail
  refine (macSum_any A n c ks (some ⟨g5, 0, none⟩) 32 32 E w5 (HT.out.below B5.out h2) hn HC.out HX.out ((HR.out.below B5.out).more B5.out.size) (by omega) (by omega) (by unfold maxLen; omega) HEl.out R5.out (by omega)).mono ?_
  rintro e w6 ⟨rfl, hb6⟩
  rw [← HD.out]
  have B6 := Lib.hid (below_then B5.out (Nat.le_refl _) hb6)
  have HR6 := Lib.hid (HR5.out.below hb6 lt5)
  clear hb6
  have HR7 := Lib.hid (HR6.out.alloc (.cells (row8 D) 46))
  have B7 := Lib.hid (B6.out.alloc B6.out.size (.cells (row8 D) 46))
  have D7 : Hid (Blk (w6.alloc (.cells (row8 D) 46)) w6.heap.size 46 (row8 D)) := Lib.hid (Blk.new _ _ _)
  have O7 : Own8 (w6.alloc (.cells (row8 D) 46)) 5 w.heap.size (some ⟨g5, 0, none⟩) 32 32 E := Own8.of_row HR7.out L5.out HEl.out (by unfold maxLen; omega)
  have DR7 : Rd (w6.alloc (.cells (row8 D) 46)) (w6.alloc (.cells (row8 D) 46)).heap.size (some ⟨w6.heap.size, 0, none⟩) D := RowAt.rd D7.out 0 D (fun j hj => by rw [Nat.zero_add])
  have s7 : w.heap.size ≤ (w6.alloc (.cells (row8 D) 46)).heap.size := B7.out.size
  go_wp2_with (at_builtin; refine wpList_append8 h8 _ rfl _ _ rfl w.heap.size _ _ _ _ rfl O7 _ _ _ _ _ rfl HDl.out DR7 (by omega) s7 ?_; intro A9 c9 w9 h9 hg9 ho9)
  go_ret
  exact ⟨A9, c9, rfl, HWR.out ▸ h9, B7.out.grown hg9 s7 O7.blk⟩

set_option maxRecDepth 100000 in
set_option maxHeartbeats 8000000 in
theorem refBody_any (x : Ck) (w : World) (hw : x.Wf) :
    Calls Tryd.prog 23 #[.agg #[.int .i64 x.b, .int .u32 (x.ot : Int), .int .u32 (x.pt : Int), .int .u32 (x.os : Int), .int .u32 (x.ps : Int), .int .u32 (x.rw : Int), .int .u16 (x.ou : Int), .int .u16 (x.inn : Int)]] w fun e w' => ∃ A2 c2, e = .returned (.slice A2 32 c2) ∧ Own8 w' 5 w.heap.size A2 32 c2 (encC x) ∧ Below w.heap.size w w' := by
  have HU : Hid (IntKind.u64.wrap x.b = (toU x.b : Int)) := Lib.hid (wrap_u64_toU x.b)
  have l1 := hw.ot
  have l2 := hw.pt
  have l3 := hw.os
  have l4 := hw.ps
  have l5 := hw.rw
  have l6 := hw.ou
  have l7 := hw.inn
  have HEE : Hid ((((((((([] ++ enc (toU x.b) 8) ++ enc x.ot 4) ++ enc x.pt 4) ++ enc x.os 4) ++ enc x.ps 4) ++ enc x.rw 4) ++ enc x.ou 2) ++ enc x.inn 2) = encC x) := Lib.hid (by simp [encC])
  have K := Lib.hid (Blk.new w 26 #[.int .i64 x.b, .int .u32 (x.ot : Int), .int .u32 (x.pt : Int), .int .u32 (x.os : Int), .int .u32 (x.ps : Int), .int .u32 (x.rw : Int), .int .u16 (x.ou : Int), .int .u16 (x.inn : Int)])
  have B0 := Lib.hid (below_new w (.cells #[.int .i64 x.b, .int .u32 (x.ot : Int), .int .u32 (x.pt : Int), .int .u32 (x.os : Int), .int .u32 (x.ps : Int), .int .u32 (x.rw : Int), .int .u16 (x.ou : Int), .int .u16 (x.inn : Int)] 26))
  clear hw
  go_enter Tryd.func23, Tryd.ntmps23
  go_wp2_with fail
  generalize w.alloc (.cells #[.int .i64 x.b, .int .u32 (x.ot : Int), .int .u32 (x.pt : Int), .int .u32 (x.os : Int), .int .u32 (x.ps : Int), .int .u32 (x.rw : Int), .int .u16 (x.ou : Int), .int .u16 (x.inn : Int)] 26) = w0 at K B0 ⊢
  have hz := K.out.lt
  have j0 : w0.cell? ⟨w.heap.size, 0, none⟩ = some (.int .i64 x.b) := K.out.cell 0
  go_wp2_with fail
  rw [HU.out]
  refine (refPut_yes none 0 0 (toU x.b) 8 [] w0 (by omega) (toU_lt _) rfl (Rd.nil _ _ _) (by unfold IsSize; omega)).mono ?_
  rintro e w1 ⟨A1, c1, rfl, ho1, hb1⟩
  have B1 := Lib.hid (below_then B0.out (Nat.le_refl _) hb1)
  have K1 := Lib.hid (K.out.below hb1 hz)
  have hz1 := K1.out.lt
  have HO0 : Hid (Own8 (w1.alloc (.cells #[.int .u32 (x.ot : Int), .int .u32 (x.pt : Int), .int .u32 (x.os : Int), .int .u32 (x.ps : Int), .int .u32 (x.rw : Int)] 23)) 5 w.heap.size A1 8 c1 ([] ++ enc (toU x.b) 8)) := Lib.hid ((ho1.more B0.out.size).alloc _)
  have HQB : Hid (Blk (w1.alloc (.cells #[.int .u32 (x.ot : Int), .int .u32 (x.pt : Int), .int .u32 (x.os : Int), .int .u32 (x.ps : Int), .int .u32 (x.rw : Int)] 23)) w1.heap.size 23 #[.int .u32 (x.ot : Int), .int .u32 (x.pt : Int), .int .u32 (x.os : Int), .int .u32 (x.ps : Int), .int .u32 (x.rw : Int)]) := Lib.hid (Blk.new _ _ _)
  have B1b : Hid (Below w.heap.size w (w1.alloc (.cells #[.int .u32 (x.ot : Int), .int .u32 (x.pt : Int), .int .u32 (x.os : Int), .int .u32 (x.ps : Int), .int .u32 (x.rw : Int)] 23))) := Lib.hid (B1.out.alloc B1.out.size _)
  have K1b : Hid (Blk (w1.alloc (.cells #[.int .u32 (x.ot : Int), .int .u32 (x.pt : Int), .int .u32 (x.os : Int), .int .u32 (x.ps : Int), .int .u32 (x.rw : Int)] 23)) w.heap.size 26 #[.int .i64 x.b, .int .u32 (x.ot : Int), .int .u32 (x.pt : Int), .int .u32 (x.os : Int), .int .u32 (x.ps : Int), .int .u32 (x.rw : Int), .int .u16 (x.ou : Int), .int .u16 (x.inn : Int)]) := Lib.hid (K1.out.alloc _)
  clear j0 hb1 ho1
  have j0 : w1.cell? ⟨w.heap.size, 0, none⟩ = some (.int .i64 x.b) := K1.out.cell 0
  have j1 : w1.cell? ⟨w.heap.size, 1, none⟩ = some (.int .u32 (x.ot : Int)) := K1.out.cell 1
  have j2 : w1.cell? ⟨w.heap.size, 2, none⟩ = some (.int .u32 (x.pt : Int)) := K1.out.cell 2
  have j3 : w1.cell? ⟨w.heap.size, 3, none⟩ = some (.int .u32 (x.os : Int)) := K1.out.cell 3
  have j4 : w1.cell? ⟨w.heap.size, 4, none⟩ = some (.int .u32 (x.ps : Int)) := K1.out.cell 4
  have j5 : w1.cell? ⟨w.heap.size, 5, none⟩ = some (.int .u32 (x.rw : Int)) := K1.out.cell 5
  go_wp2_with fail
  generalize w1.alloc (.cells #[.int .u32 (x.ot : Int), .int .u32 (x.pt : Int), .int .u32 (x.os : Int), .int .u32 (x.ps : Int), .int .u32 (x.rw : Int)] 23) = v0 at HO0 HQB B1b K1b ⊢
  clear j0 j1 j2 j3 j4 j5
  generalize w1.heap.size = q1 at HQB ⊢
  have hq := HQB.out.lt
  have hk := K1b.out.lt
  refine wp_loop_rounds 6 ?_
  rw [rounds_succ]
  have f : v0.cell? ⟨q1, 0, none⟩ = some (.int .u32 (x.ot : Int)) := HQB.out.cell 0
  go_wp2_with fail
  refine (refPut_yes A1 8 c1 x.ot 4 ([] ++ enc (toU x.b) 8) v0 (by omega) (by omega) (by simp [length_enc]) HO0.out.rd (by unfold IsSize; omega)).mono ?_
  rintro e v1 ⟨Av1, cv1, rfl, ho, hb⟩
  have Bv1 := Lib.hid (below_then B1b.out (Nat.le_refl _) hb)
  have Kv1 := Lib.hid (K1b.out.below hb K1b.out.lt)
  have Qv1 := Lib.hid (HQB.out.below hb HQB.out.lt)
  have HO1 : Hid (Own8 v1 5 w.heap.size Av1 12 cv1 (([] ++ enc (toU x.b) 8) ++ enc x.ot 4)) := Lib.hid (ho.more B1b.out.size)
  clear f ho hb
  go_wp2_with fail
  rw [rounds_succ]
  have f : v1.cell? ⟨q1, 1, none⟩ = some (.int .u32 (x.pt : Int)) := Qv1.out.cell 1
  go_wp2_with fail
  refine (refPut_yes Av1 12 cv1 x.pt 4 (([] ++ enc (toU x.b) 8) ++ enc x.ot 4) v1 (by omega) (by omega) (by simp [length_enc]) HO1.out.rd (by unfold IsSize; omega)).mono ?_
  rintro e v2 ⟨Av2, cv2, rfl, ho, hb⟩
  have Bv2 := Lib.hid (below_then Bv1.out (Nat.le_refl _) hb)
  have Kv2 := Lib.hid (Kv1.out.below hb Kv1.out.lt)
  have Qv2 := Lib.hid (Qv1.out.below hb Qv1.out.lt)
  have HO2 : Hid (Own8 v2 5 w.heap.size Av2 16 cv2 ((([] ++ enc (toU x.b) 8) ++ enc x.ot 4) ++ enc x.pt 4)) := Lib.hid (ho.more Bv1.out.size)
  clear f ho hb
  go_wp2_with fail
  rw [rounds_succ]
  have f : v2.cell? ⟨q1, 2, none⟩ = some (.int .u32 (x.os : Int)) := Qv2.out.cell 2
  go_wp2_with fail
  refine (refPut_yes Av2 16 cv2 x.os 4 ((([] ++ enc (toU x.b) 8) ++ enc x.ot 4) ++ enc x.pt 4) v2 (by omega) (by omega) (by simp [length_enc]) HO2.out.rd (by unfold IsSize; omega)).mono ?_
  rintro e v3 ⟨Av3, cv3, rfl, ho, hb⟩
  have Bv3 := Lib.hid (below_then Bv2.out (Nat.le_refl _) hb)
  have Kv3 := Lib.hid (Kv2.out.below hb Kv2.out.lt)
  have Qv3 := Lib.hid (Qv2.out.below hb Qv2.out.lt)
  have HO3 : Hid (Own8 v3 5 w.heap.size Av3 20 cv3 (((([] ++ enc (toU x.b) 8) ++ enc x.ot 4) ++ enc x.pt 4) ++ enc x.os 4)) := Lib.hid (ho.more Bv2.out.size)
  clear f ho hb
  go_wp2_with fail
  rw [rounds_succ]
  have f : v3.cell? ⟨q1, 3, none⟩ = some (.int .u32 (x.ps : Int)) := Qv3.out.cell 3
  go_wp2_with fail
  refine (refPut_yes Av3 20 cv3 x.ps 4 (((([] ++ enc (toU x.b) 8) ++ enc x.ot 4) ++ enc x.pt 4) ++ enc x.os 4) v3 (by omega) (by omega) (by simp [length_enc]) HO3.out.rd (by unfold IsSize; omega)).mono ?_
  rintro e v4 ⟨Av4, cv4, rfl, ho, hb⟩
  have Bv4 := Lib.hid (below_then Bv3.out (Nat.le_refl _) hb)
  have Kv4 := Lib.hid (Kv3.out.below hb Kv3.out.lt)
  have Qv4 := Lib.hid (Qv3.out.below hb Qv3.out.lt)
  have HO4 : Hid (Own8 v4 5 w.heap.size Av4 24 cv4 ((((([] ++ enc (toU x.b) 8) ++ enc x.ot 4) ++ enc x.pt 4) ++ enc x.os 4) ++ enc x.ps 4)) := Lib.hid (ho.more Bv3.out.size)
  clear f ho hb
  go_wp2_with fail
  rw [rounds_succ]
  have f : v4.cell? ⟨q1, 4, none⟩ = some (.int .u32 (x.rw : Int)) := Qv4.out.cell 4
  go_wp2_with fail
  refine (refPut_yes Av4 24 cv4 x.rw 4 ((((([] ++ enc (toU x.b) 8) ++ enc x.ot 4) ++ enc x.pt 4) ++ enc x.os 4) ++ enc x.ps 4) v4 (by omega) (by omega) (by simp [length_enc]) HO4.out.rd (by unfold IsSize; omega)).mono ?_
  rintro e v5 ⟨Av5, cv5, rfl, ho, hb⟩
  have Bv5 := Lib.hid (below_then Bv4.out (Nat.le_refl _) hb)
  have Kv5 := Lib.hid (Kv4.out.below hb Kv4.out.lt)
  have Qv5 := Lib.hid (Qv4.out.below hb Qv4.out.lt)
  have HO5 : Hid (Own8 v5 5 w.heap.size Av5 28 cv5 (((((([] ++ enc (toU x.b) 8) ++ enc x.ot 4) ++ enc x.pt 4) ++ enc x.os 4) ++ enc x.ps 4) ++ enc x.rw 4)) := Lib.hid (ho.more Bv4.out.size)
  clear f ho hb
  go_wp2_with fail
  rw [rounds_succ]
  have q0 : v5.cell? ⟨w.heap.size, 6, none⟩ = some (.int .u16 (x.ou : Int)) := Kv5.out.cell 6
  go_wp2_with fail
  refine (refPut_yes _ 28 _ x.ou 2 _ v5 (by omega) (by omega) (by simp [length_enc]) HO5.out.rd (by unfold IsSize; omega)).mono ?_
  rintro e v6 ⟨Av6, cv6, rfl, ho, hb⟩
  have Bv6 := Lib.hid (below_then Bv5.out (Nat.le_refl _) hb)
  have Kv6 := Lib.hid (Kv5.out.below hb Kv5.out.lt)
  have HO6 := Lib.hid (ho.more Bv5.out.size)
  clear q0 ho hb
  have q0 : v6.cell? ⟨w.heap.size, 7, none⟩ = some (.int .u16 (x.inn : Int)) := Kv6.out.cell 7
  go_wp2_with fail
  refine (refPut_yes _ 30 _ x.inn 2 _ v6 (by omega) (by omega) (by simp [length_enc]) HO6.out.rd (by unfold IsSize; omega)).mono ?_
  rintro e v7 ⟨Av7, cv7, rfl, ho, hb⟩
  have Bv7 := Lib.hid (below_then Bv6.out (Nat.le_refl _) hb)
  have HO7 := Lib.hid (ho.more Bv6.out.size)
  clear q0 ho hb
  go_wp2_with fail
  go_ret
  exact ⟨Av7, cv7, rfl, HEE.out ▸ HO7.out, Bv7.out⟩

set_option maxRecDepth 100000 in
set_option maxHeartbeats 4000000 in
theorem refCkWrite_any (A : Option Addr) (n c : Nat) (ks : List UInt8) (x : Ck) (w : World) (hn : n ≤ 1048576) (hx : ks.length = n) (hr : Rd w w.heap.size A ks) (hw : x.Wf) :
    Calls Tryd.prog 13 #[.slice A n c, .agg #[.int .i64 x.b, .int .u32 (x.ot : Int), .int .u32 (x.pt : Int), .int .u32 (x.os : Int), .int .u32 (x.ps : Int), .int .u32 (x.rw : Int), .int .u16 (x.ou : Int), .int .u16 (x.inn : Int)]] w fun e w' => ∃ A2 c2, e = .returned (.slice A2 64 c2) ∧ Own8 w' 5 w.heap.size A2 64 c2 (wrC ks x) ∧ Below w.heap.size w w' := by
  obtain ⟨i8, h8⟩ := Tryd.ty8
  have HR := Lib.hid hr
  have HX := Lib.hid hx
  obtain ⟨E, hE⟩ : ∃ E, E = encC x := ⟨_, rfl⟩
  obtain ⟨D, hD⟩ : ∃ D, D = mac ks E := ⟨_, rfl⟩
  have HD := Lib.hid hD
  have HDl := Lib.hid (show D.length = 32 by rw [hD, length_mac])
  have HEl := Lib.hid (show E.length = 32 by rw [hE, length_encC])
  have HWR : Hid (E ++ D = wrC ks x) := Lib.hid (by rw [hD, hE]; rfl)
  have hszD : (row8 D).size = 32 := by rw [size_row8, HDl.out]
  have hst := (fun W : World => run_storeCells_new (P := Tryd.prog) W 46 #[.int .u8 0, .int .u8 0, .int .u8 0, .int .u8 0, .int .u8 0, .int .u8 0, .int .u8 0, .int .u8 0, .int .u8 0, .int .u8 0, .int .u8 0, .int .u8 0, .int .u8 0, .int .u8 0, .int .u8 0, .int .u8 0, .int .u8 0, .int .u8 0, .int .u8 0, .int .u8 0, .int .u8 0, .int .u8 0, .int .u8 0, .int .u8 0, .int .u8 0, .int .u8 0, .int .u8 0, .int .u8 0, .int .u8 0, .int .u8 0, .int .u8 0, .int .u8 0] (row8 D) ((show (Tryd.prog.info? 46).map (·.size) = some 32 by kernel_rfl).trans (by rw [size_row8, HDl.out])) (by rw [size_row8, HDl.out]; rfl) (row8_one _))
  have HE := Lib.hid hE
  have HBO : Hid (∀ W : World, Calls Tryd.prog 23 #[.agg #[.int .i64 x.b, .int .u32 (x.ot : Int), .int .u32 (x.pt : Int), .int .u32 (x.os : Int), .int .u32 (x.ps : Int), .int .u32 (x.rw : Int), .int .u16 (x.ou : Int), .int .u16 (x.inn : Int)]] W fun e w' => ∃ A2 c2, e = .returned (.slice A2 32 c2) ∧ Own8 w' 5 W.heap.size A2 32 c2 E ∧ Below W.heap.size W w') := Lib.hid fun W => hE ▸ refBody_any x W hw
  have hsl : ∀ (W : World) (r : Nat), (Instr.sliceAt 46 (.pointer (some ⟨r, 0, none⟩)) none none none).run Tryd.prog W = .ok (.slice (some ⟨r, 0, none⟩) 32 32) W := fun W r => slice_whole Tryd.underlying46 (by kernel_rfl) _ _ W
  have K := Lib.hid (Blk.new w 26 #[.int .i64 x.b, .int .u32 (x.ot : Int), .int .u32 (x.pt : Int), .int .u32 (x.os : Int), .int .u32 (x.ps : Int), .int .u32 (x.rw : Int), .int .u16 (x.ou : Int), .int .u16 (x.inn : Int)])
  have B0 := Lib.hid (below_new w (.cells #[.int .i64 x.b, .int .u32 (x.ot : Int), .int .u32 (x.pt : Int), .int .u32 (x.os : Int), .int .u32 (x.ps : Int), .int .u32 (x.rw : Int), .int .u16 (x.ou : Int), .int .u16 (x.inn : Int)] 26))
  clear hx hr hw hE hD
  go_enter Tryd.func13, Tryd.ntmps13
  go_wp2_with fail
  generalize w.alloc (.cells #[.int .i64 x.b, .int .u32 (x.ot : Int), .int .u32 (x.pt : Int), .int .u32 (x.os : Int), .int .u32 (x.ps : Int), .int .u32 (x.rw : Int), .int .u16 (x.ou : Int), .int .u16 (x.inn : Int)] 26) = w0 at K B0 ⊢
  have j0 : w0.cell? ⟨w.heap.size, 0, none⟩ = some (.int .i64 x.b) := K.out.cell 0
  have j1 : w0.cell? ⟨w.heap.size, 1, none⟩ = some (.int .u32 (x.ot : Int)) := K.out.cell 1
  have j2 : w0.cell? ⟨w.heap.size, 2, none⟩ = some (.int .u32 (x.pt : Int)) := K.out.cell 2
  have j3 : w0.cell? ⟨w.heap.size, 3, none⟩ = some (.int .u32 (x.os : Int)) := K.out.cell 3
  have j4 : w0.cell? ⟨w.heap.size, 4, none⟩ = some (.int .u32 (x.ps : Int)) := K.out.cell 4
  have j5 : w0.cell? ⟨w.heap.size, 5, none⟩ = some (.int .u32 (x.rw : Int)) := K.out.cell 5
  have j6 : w0.cell? ⟨w.heap.size, 6, none⟩ = some (.int .u16 (x.ou : Int)) := K.out.cell 6
  have j7 : w0.cell? ⟨w.heap.size, 7, none⟩ = some (.int .u16 (x.inn : Int)) := K.out.cell 7
  go_wp2_with fail
  refine (HBO.out w0).mono ?_
  rintro e w5 ⟨A5, c5, rfl, ho5, hb5⟩
  have B5 := Lib.hid (below_then B0.out (Nat.le_refl _) hb5)
  have HO5 := Lib.hid (ho5.more B0.out.size)
  have R5 := Lib.hid ho5.rd
  clear j0 j1 j2 j3 j4 j5 j6 j7 hb5 ho5
  go_wp2_with fail
  refine (refMac_any A n c ks A5 32 c5 E w5 hn HX.out ((HR.out.below B5.out).more B5.out.size) (by omega) HEl.out R5.out).mono ?_
  rintro e w6 ⟨rfl, hb6⟩
  rw [← HD.out]
  have B6 := Lib.hid (below_then B5.out (Nat.le_refl _) hb6)
  have HO6 := Lib.hid (HO5.out.below hb6 (Nat.le_refl _))
  clear hb6
  have O7 : Own8 (w6.alloc (.cells (row8 D) 46)) 5 w.heap.size A5 32 c5 E := HO6.out.alloc (.cells (row8 D) 46)
  have B7 := Lib.hid (B6.out.alloc B6.out.size (.cells (row8 D) 46))
  have D7 : Hid (Blk (w6.alloc (.cells (row8 D) 46)) w6.heap.size 46 (row8 D)) := Lib.hid (Blk.new _ _ _)
  have DR7 : Rd (w6.alloc (.cells (row8 D) 46)) (w6.alloc (.cells (row8 D) 46)).heap.size (some ⟨w6.heap.size, 0, none⟩) D := RowAt.rd D7.out 0 D (fun j hj => by rw [Nat.zero_add])
  have s7 : w.heap.size ≤ (w6.alloc (.cells (row8 D) 46)).heap.size := B7.out.size
  go_wp2_with (at_builtin; refine wpList_append8 h8 _ rfl _ _ rfl w.heap.size _ _ _ _ rfl O7 _ _ _ _ _ rfl HDl.out DR7 (by omega) s7 ?_; intro A9 c9 w9 h9 hg9 ho9)
  go_ret
  exact ⟨A9, c9, rfl, HWR.out ▸ h9, B7.out.grown hg9 s7 O7.blk⟩

end Go.Proofs.YtnnkgdkjmmljiaaDoor
