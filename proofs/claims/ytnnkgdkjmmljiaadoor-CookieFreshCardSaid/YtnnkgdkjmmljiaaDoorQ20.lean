/-
  Package cookie: Read, and the reference's.
-/
import Derived.Test.YtnnkgdkjmmljiaaDoorQ18
import Derived.Test.YtnnkgdkjmmljiaaDoorQ19
namespace Go.Proofs.YtnnkgdkjmmljiaaDoor
open Go.RowKit
set_option linter.unusedVariables false

theorem Rd.heap_ {w W : World} {B : Nat} {A : Option Addr} {xs : List UInt8} (h : Rd w B A xs) (hW : W.heap = w.heap) : Rd W B A xs := h.keep fun p _ => by simp only [World.cell?, hW]
def ansC : RdC → Ck
  | .err _ => Ck.zero
  | .ok c => c
def errC : RdC → Int
  | .err e => e
  | .ok _ => 0
set_option maxRecDepth 100000 in
set_option maxHeartbeats 4000000 in
theorem ckRead_len (A A' : Option Addr) (n c n' c' : Nat) (w : World) (hn' : n' ≤ maxLen) (h64 : n' ≠ 64) :
    Calls Tryd.prog 14 #[.slice A n c, .slice A' n' c'] w fun e w' => e = .returned (.tuple #[.agg #[.int .i64 0, .int .u32 0, .int .u32 0, .int .u32 0, .int .u32 0, .int .u32 0, .int .u16 0, .int .u16 0], .int .i64 7]) ∧ Below w.heap.size w w' := by
  have hz := zero_cookie
  have hne : ((n' : Int) != 64) = true := by rw [bne_iff_ne]; omega
  have K := Lib.hid (Blk.new w 26 #[.int .i64 0, .int .u32 0, .int .u32 0, .int .u32 0, .int .u32 0, .int .u32 0, .int .u16 0, .int .u16 0])
  have B0 := Lib.hid (below_new w (.cells #[.int .i64 0, .int .u32 0, .int .u32 0, .int .u32 0, .int .u32 0, .int .u32 0, .int .u16 0, .int .u16 0] 26))
  clear h64
  unfold maxLen at hn'
  go_enter Tryd.func14, Tryd.ntmps14
  rw [whole_eq 2]
  go_wp2_with fail
  generalize w.alloc (.cells #[.int .i64 0, .int .u32 0, .int .u32 0, .int .u32 0, .int .u32 0, .int .u32 0, .int .u16 0, .int .u16 0] 26) = w0 at K B0 ⊢
  have j0 : w0.cell? ⟨w.heap.size, 0, none⟩ = some (.int .i64 0) := K.out.cell 0
  have jz0 := K.out.frozen 0
  have j1 : w0.cell? ⟨w.heap.size, 1, none⟩ = some (.int .u32 0) := K.out.cell 1
  have jz1 := K.out.frozen 1
  have j2 : w0.cell? ⟨w.heap.size, 2, none⟩ = some (.int .u32 0) := K.out.cell 2
  have jz2 := K.out.frozen 2
  have j3 : w0.cell? ⟨w.heap.size, 3, none⟩ = some (.int .u32 0) := K.out.cell 3
  have jz3 := K.out.frozen 3
  have j4 : w0.cell? ⟨w.heap.size, 4, none⟩ = some (.int .u32 0) := K.out.cell 4
  have jz4 := K.out.frozen 4
  have j5 : w0.cell? ⟨w.heap.size, 5, none⟩ = some (.int .u32 0) := K.out.cell 5
  have jz5 := K.out.frozen 5
  have j6 : w0.cell? ⟨w.heap.size, 6, none⟩ = some (.int .u16 0) := K.out.cell 6
  have jz6 := K.out.frozen 6
  have j7 : w0.cell? ⟨w.heap.size, 7, none⟩ = some (.int .u16 0) := K.out.cell 7
  have jz7 := K.out.frozen 7
  rw [← whole_eq 2]
  go_wp2_with fail
  exact bodyPost_ret (v := .tuple #[.agg #[.int .i64 0, .int .u32 0, .int .u32 0, .int .u32 0, .int .u32 0, .int .u32 0, .int .u16 0, .int .u16 0], .int .i64 7]) (by simp [results, Tryd.results14, go_sem, j0, j1, j2, j3, j4, j5, j6, j7]) rfl ⟨rfl, ((((((((B0.out.setCell (p := ⟨w.heap.size, 0, none⟩) (Nat.le_refl _) _).setCell (p := ⟨w.heap.size, 1, none⟩) (Nat.le_refl _) _).setCell (p := ⟨w.heap.size, 2, none⟩) (Nat.le_refl _) _).setCell (p := ⟨w.heap.size, 3, none⟩) (Nat.le_refl _) _).setCell (p := ⟨w.heap.size, 4, none⟩) (Nat.le_refl _) _).setCell (p := ⟨w.heap.size, 5, none⟩) (Nat.le_refl _) _).setCell (p := ⟨w.heap.size, 6, none⟩) (Nat.le_refl _) _).setCell (p := ⟨w.heap.size, 7, none⟩) (Nat.le_refl _) _)⟩

set_option maxRecDepth 100000 in
set_option maxHeartbeats 4000000 in
theorem ckRead_mac (A A' : Option Addr) (n c c' : Nat) (ks xs : List UInt8) (w : World) (hT : Tabs w) (hn : n ≤ c) (hc : c ≤ maxLen) (hx : ks.length = n) (hr : Rd w w.heap.size A ks) (hl : n ≤ 1048576) (hc1 : 64 ≤ c') (hc2 : c' ≤ maxLen) (hx' : xs.length = 64) (hr' : Rd w w.heap.size A' xs) (hno : mac ks (xs.take 32) ≠ xs.drop 32) :
    Calls Tryd.prog 14 #[.slice A n c, .slice A' 64 c'] w fun e w' => e = .returned (.tuple #[.agg #[.int .i64 0, .int .u32 0, .int .u32 0, .int .u32 0, .int .u32 0, .int .u32 0, .int .u16 0, .int .u16 0], .int .i64 10]) ∧ Below w.heap.size w w' := by
  obtain ⟨i8, h8⟩ := Tryd.ty8
  have hz := zero_cookie
  have h2 := hT.2.2
  have HT := Lib.hid hT
  have HR := Lib.hid hr
  have HX := Lib.hid hx
  have HC := Lib.hid hc
  obtain ⟨b, q, rfl, hbl, _⟩ := hr'.at_ (by rintro rfl; simp at hx')
  have HR32 := Lib.hid (hr'.take_ 32)
  have hc32 : ¬ c' = 32 := by omega
  have hc32' : 32 ≤ c' := by omega
  have HRT : Hid (Rd w w.heap.size (some ⟨b, q + 32, none⟩) (xs.drop 32)) := Lib.hid (by
    have h := hr'.cut 32 32
    rw [List.take_of_length_le (by rw [List.length_drop]; omega), Option.map_some, Addr.add_lit] at h
    exact h)
  have HL32 : Hid ((xs.take 32).length = 32) := Lib.hid (by rw [List.length_take]; omega)
  have HLT : Hid ((xs.drop 32).length = 32) := Lib.hid (by rw [List.length_drop]; omega)
  obtain ⟨X, hX⟩ : ∃ X, X = xs.take 32 := ⟨_, rfl⟩
  obtain ⟨Y, hY⟩ : ∃ Y, Y = xs.drop 32 := ⟨_, rfl⟩
  rw [← hX] at HR32 HL32
  rw [← hY] at HRT HLT
  obtain ⟨D, hD⟩ : ∃ D, D = mac ks X := ⟨_, rfl⟩
  have HD := Lib.hid hD
  have HDl := Lib.hid (show D.length = 32 by rw [hD, length_mac])
  have hszD : (row8 D).size = 32 := by rw [size_row8, HDl.out]
  have hst := (fun W : World => run_storeCells_new (P := Tryd.prog) W 46 #[.int .u8 0, .int .u8 0, .int .u8 0, .int .u8 0, .int .u8 0, .int .u8 0, .int .u8 0, .int .u8 0, .int .u8 0, .int .u8 0, .int .u8 0, .int .u8 0, .int .u8 0, .int .u8 0, .int .u8 0, .int .u8 0, .int .u8 0, .int .u8 0, .int .u8 0, .int .u8 0, .int .u8 0, .int .u8 0, .int .u8 0, .int .u8 0, .int .u8 0, .int .u8 0, .int .u8 0, .int .u8 0, .int .u8 0, .int .u8 0, .int .u8 0, .int .u8 0] (row8 D) ((show (Tryd.prog.info? 46).map (·.size) = some 32 by kernel_rfl).trans (by rw [size_row8, HDl.out])) (by rw [size_row8, HDl.out]; rfl) (row8_one _))
  have hsl : ∀ (W : World) (r : Nat), (Instr.sliceAt 46 (.pointer (some ⟨r, 0, none⟩)) none none none).run Tryd.prog W = .ok (.slice (some ⟨r, 0, none⟩) 32 32) W := fun W r => slice_whole Tryd.underlying46 (by kernel_rfl) _ _ W
  have HNO : Hid (decide (D = Y) = false) := Lib.hid (decide_eq_false (by rw [hD, hX, hY]; exact hno))
  have K := Lib.hid (Blk.new w 26 #[.int .i64 0, .int .u32 0, .int .u32 0, .int .u32 0, .int .u32 0, .int .u32 0, .int .u16 0, .int .u16 0])
  have B0 := Lib.hid (below_new w (.cells #[.int .i64 0, .int .u32 0, .int .u32 0, .int .u32 0, .int .u32 0, .int .u32 0, .int .u16 0, .int .u16 0] 26))
  clear hT hx hr hc hx' hr' hX hY hD hbl hno
  go_enter Tryd.func14, Tryd.ntmps14
  rw [drawn_eq 4, whole_eq 3, whole_eq 7]
  go_wp2_with fail
  generalize w.alloc (.cells #[.int .i64 0, .int .u32 0, .int .u32 0, .int .u32 0, .int .u32 0, .int .u32 0, .int .u16 0, .int .u16 0] 26) = w0 at K B0 ⊢
  rw [← whole_eq 3]
  go_wp2_with fail
  refine (macSum_any A n c ks (some ⟨b, q, none⟩) 32 c' X w0 (HT.out.below B0.out h2) hn HC.out HX.out ((HR.out.below B0.out).more B0.out.size) (by omega) hc32' hc2 HL32.out ((HR32.out.below B0.out).more B0.out.size) (by omega)).mono ?_
  rintro e w1 ⟨rfl, hb1⟩
  rw [← HD.out]
  have B1 := Lib.hid (below_then B0.out (Nat.le_refl _) hb1)
  have K1 := Lib.hid (K.out.below hb1 K.out.lt)
  clear hb1
  have B2 := Lib.hid (B1.out.alloc B1.out.size (.cells (row8 D) 46))
  have K2 := Lib.hid (K1.out.alloc (.cells (row8 D) 46))
  have D2 : Hid (Blk (w1.alloc (.cells (row8 D) 46)) w1.heap.size 46 (row8 D)) := Lib.hid (Blk.new _ _ _)
  go_wp2_with fail
  generalize w1.alloc (.cells (row8 D) 46) = w2 at B2 K2 D2 ⊢
  generalize w1.heap.size = g at D2 ⊢
  rw [← drawn_eq 4]
  have HS : Hid (∀ W : World, W.heap = w2.heap → Calls Tryd.prog 25 #[.slice (some ⟨g, 0, none⟩) 32 32, .slice (some ⟨b, q + 32, none⟩) 32 (c' - 32 : Nat)] W fun e w' => e = .returned (.bool false) ∧ w' = W) := Lib.hid fun W hW => by
    have h := same_any w2.heap.size w.heap.size (some ⟨g, 0, none⟩) (some ⟨b, q + 32, none⟩) 32 32 32 (c' - 32) D Y W HDl.out HLT.out (by unfold maxLen; omega) (by unfold maxLen; omega) ((RowAt.rd D2.out 0 D (fun j hj => by rw [Nat.zero_add])).heap_ hW) ((HRT.out.below B2.out).heap_ hW)
    rw [HNO.out] at h
    exact h.mono fun _ _ ⟨a, b⟩ => ⟨a, b.symm⟩
  go_quiet ((go_at_call 25; exact Calls.quiet_of_same (HS.out _ rfl)))
  have B4 : Hid (Below w.heap.size w (w2.drewN nq)) := Lib.hid (below_drewN B2.out nq)
  have K4 := Lib.hid (K2.out.drewN nq)
  clear HS D2 B2 K2
  generalize w2.drewN nq = w4 at B4 K4 ⊢
  have j0 : w4.cell? ⟨w.heap.size, 0, none⟩ = some (.int .i64 0) := K4.out.cell 0
  have jz0 := K4.out.frozen 0
  have j1 : w4.cell? ⟨w.heap.size, 1, none⟩ = some (.int .u32 0) := K4.out.cell 1
  have jz1 := K4.out.frozen 1
  have j2 : w4.cell? ⟨w.heap.size, 2, none⟩ = some (.int .u32 0) := K4.out.cell 2
  have jz2 := K4.out.frozen 2
  have j3 : w4.cell? ⟨w.heap.size, 3, none⟩ = some (.int .u32 0) := K4.out.cell 3
  have jz3 := K4.out.frozen 3
  have j4 : w4.cell? ⟨w.heap.size, 4, none⟩ = some (.int .u32 0) := K4.out.cell 4
  have jz4 := K4.out.frozen 4
  have j5 : w4.cell? ⟨w.heap.size, 5, none⟩ = some (.int .u32 0) := K4.out.cell 5
  have jz5 := K4.out.frozen 5
  have j6 : w4.cell? ⟨w.heap.size, 6, none⟩ = some (.int .u16 0) := K4.out.cell 6
  have jz6 := K4.out.frozen 6
  have j7 : w4.cell? ⟨w.heap.size, 7, none⟩ = some (.int .u16 0) := K4.out.cell 7
  have jz7 := K4.out.frozen 7
  go_wp2_with fail
  exact bodyPost_ret (v := .tuple #[.agg #[.int .i64 0, .int .u32 0, .int .u32 0, .int .u32 0, .int .u32 0, .int .u32 0, .int .u16 0, .int .u16 0], .int .i64 10]) (by simp [results, Tryd.results14, go_sem, j0, j1, j2, j3, j4, j5, j6, j7]) rfl ⟨rfl, ((((((((B4.out.setCell (p := ⟨w.heap.size, 0, none⟩) (Nat.le_refl _) _).setCell (p := ⟨w.heap.size, 1, none⟩) (Nat.le_refl _) _).setCell (p := ⟨w.heap.size, 2, none⟩) (Nat.le_refl _) _).setCell (p := ⟨w.heap.size, 3, none⟩) (Nat.le_refl _) _).setCell (p := ⟨w.heap.size, 4, none⟩) (Nat.le_refl _) _).setCell (p := ⟨w.heap.size, 5, none⟩) (Nat.le_refl _) _).setCell (p := ⟨w.heap.size, 6, none⟩) (Nat.le_refl _) _).setCell (p := ⟨w.heap.size, 7, none⟩) (Nat.le_refl _) _)⟩

set_option maxRecDepth 100000 in
set_option maxHeartbeats 4000000 in
theorem ckRead_ok (A A' : Option Addr) (n c c' : Nat) (ks xs : List UInt8) (w : World) (hT : Tabs w) (hn : n ≤ c) (hc : c ≤ maxLen) (hx : ks.length = n) (hr : Rd w w.heap.size A ks) (hl : n ≤ 1048576) (hc1 : 64 ≤ c') (hc2 : c' ≤ maxLen) (hx' : xs.length = 64) (hr' : Rd w w.heap.size A' xs) (hyes : mac ks (xs.take 32) = xs.drop 32) (hmay : (decC xs).may = true) :
    Calls Tryd.prog 14 #[.slice A n c, .slice A' 64 c'] w fun e w' => e = .returned (.tuple #[.agg #[.int .i64 (decC xs).b, .int .u32 ((decC xs).ot : Int), .int .u32 ((decC xs).pt : Int), .int .u32 ((decC xs).os : Int), .int .u32 ((decC xs).ps : Int), .int .u32 ((decC xs).rw : Int), .int .u16 ((decC xs).ou : Int), .int .u16 ((decC xs).inn : Int)], .int .i64 0]) ∧ Below w.heap.size w w' := by
  obtain ⟨i8, h8⟩ := Tryd.ty8
  have hz := zero_cookie
  have h2 := hT.2.2
  have HT := Lib.hid hT
  have HR := Lib.hid hr
  have HX := Lib.hid hx
  have HC := Lib.hid hc
  obtain ⟨b, q, rfl, hbl, _⟩ := hr'.at_ (by rintro rfl; simp at hx')
  have HR32 := Lib.hid (hr'.take_ 32)
  have hc32 : ¬ c' = 32 := by omega
  have hc32' : 32 ≤ c' := by omega
  have HRT : Hid (Rd w w.heap.size (some ⟨b, q + 32, none⟩) (xs.drop 32)) := Lib.hid (by
    have h := hr'.cut 32 32
    rw [List.take_of_length_le (by rw [List.length_drop]; omega), Option.map_some, Addr.add_lit] at h
    exact h)
  have HL32 : Hid ((xs.take 32).length = 32) := Lib.hid (by rw [List.length_take]; omega)
  have HLT : Hid ((xs.drop 32).length = 32) := Lib.hid (by rw [List.length_drop]; omega)
  obtain ⟨X, hX⟩ : ∃ X, X = xs.take 32 := ⟨_, rfl⟩
  obtain ⟨Y, hY⟩ : ∃ Y, Y = xs.drop 32 := ⟨_, rfl⟩
  rw [← hX] at HR32 HL32
  rw [← hY] at HRT HLT
  obtain ⟨D, hD⟩ : ∃ D, D = mac ks X := ⟨_, rfl⟩
  have HD := Lib.hid hD
  have HDl := Lib.hid (show D.length = 32 by rw [hD, length_mac])
  have hszD : (row8 D).size = 32 := by rw [size_row8, HDl.out]
  have hst := (fun W : World => run_storeCells_new (P := Tryd.prog) W 46 #[.int .u8 0, .int .u8 0, .int .u8 0, .int .u8 0, .int .u8 0, .int .u8 0, .int .u8 0, .int .u8 0, .int .u8 0, .int .u8 0, .int .u8 0, .int .u8 0, .int .u8 0, .int .u8 0, .int .u8 0, .int .u8 0, .int .u8 0, .int .u8 0, .int .u8 0, .int .u8 0, .int .u8 0, .int .u8 0, .int .u8 0, .int .u8 0, .int .u8 0, .int .u8 0, .int .u8 0, .int .u8 0, .int .u8 0, .int .u8 0, .int .u8 0, .int .u8 0] (row8 D) ((show (Tryd.prog.info? 46).map (·.size) = some 32 by kernel_rfl).trans (by rw [size_row8, HDl.out])) (by rw [size_row8, HDl.out]; rfl) (row8_one _))
  have hsl : ∀ (W : World) (r : Nat), (Instr.sliceAt 46 (.pointer (some ⟨r, 0, none⟩)) none none none).run Tryd.prog W = .ok (.slice (some ⟨r, 0, none⟩) 32 32) W := fun W r => slice_whole Tryd.underlying46 (by kernel_rfl) _ _ W
  have HNO : Hid (decide (D = Y) = true) := Lib.hid (decide_eq_true (by rw [hD, hX, hY]; exact hyes))
  obtain ⟨G, hG⟩ : ∃ G, G = decC xs := ⟨_, rfl⟩
  have HG := Lib.hid hG
  have HM : Hid (G.may = true) := Lib.hid (by rw [hG]; exact hmay)
  have HF : Hid (∀ W, Below w.heap.size w W → Calls Tryd.prog 26 #[.slice (some ⟨b, q, none⟩) 64 c'] W fun e w' => e = .returned (.agg #[.int .i64 G.b, .int .u32 (G.ot : Int), .int .u32 (G.pt : Int), .int .u32 (G.os : Int), .int .u32 (G.ps : Int), .int .u32 (G.rw : Int), .int .u16 (G.ou : Int), .int .u16 (G.inn : Int)]) ∧ Below W.heap.size W w') := Lib.hid fun W hW => hG ▸ fields_any _ 64 c' xs W (by unfold maxLen; omega) hx' ((hr'.below hW).more hW.size) (by omega)
  have K := Lib.hid (Blk.new w 26 #[.int .i64 0, .int .u32 0, .int .u32 0, .int .u32 0, .int .u32 0, .int .u32 0, .int .u16 0, .int .u16 0])
  have B0 := Lib.hid (below_new w (.cells #[.int .i64 0, .int .u32 0, .int .u32 0, .int .u32 0, .int .u32 0, .int .u32 0, .int .u16 0, .int .u16 0] 26))
  clear hT hx hr hc hx' hr' hX hY hD hbl hyes hG hmay
  rw [← HG.out]
  go_enter Tryd.func14, Tryd.ntmps14
  rw [drawn_eq 4, whole_eq 3, whole_eq 7]
  go_wp2_with fail
  generalize w.alloc (.cells #[.int .i64 0, .int .u32 0, .int .u32 0, .int .u32 0, .int .u32 0, .int .u32 0, .int .u16 0, .int .u16 0] 26) = w0 at K B0 ⊢
  rw [← whole_eq 3]
  go_wp2_with fail
  refine (macSum_any A n c ks (some ⟨b, q, none⟩) 32 c' X w0 (HT.out.below B0.out h2) hn HC.out HX.out ((HR.out.below B0.out).more B0.out.size) (by omega) hc32' hc2 HL32.out ((HR32.out.below B0.out).more B0.out.size) (by omega)).mono ?_
  rintro e w1 ⟨rfl, hb1⟩
  rw [← HD.out]
  have B1 := Lib.hid (below_then B0.out (Nat.le_refl _) hb1)
  have K1 := Lib.hid (K.out.below hb1 K.out.lt)
  clear hb1
  have B2 := Lib.hid (B1.out.alloc B1.out.size (.cells (row8 D) 46))
  have K2 := Lib.hid (K1.out.alloc (.cells (row8 D) 46))
  have D2 : Hid (Blk (w1.alloc (.cells (row8 D) 46)) w1.heap.size 46 (row8 D)) := Lib.hid (Blk.new _ _ _)
  go_wp2_with fail
  generalize w1.alloc (.cells (row8 D) 46) = w2 at B2 K2 D2 ⊢
  generalize w1.heap.size = g at D2 ⊢
  rw [← drawn_eq 4]
  have HS : Hid (∀ W : World, W.heap = w2.heap → Calls Tryd.prog 25 #[.slice (some ⟨g, 0, none⟩) 32 32, .slice (some ⟨b, q + 32, none⟩) 32 (c' - 32 : Nat)] W fun e w' => e = .returned (.bool true) ∧ w' = W) := Lib.hid fun W hW => by
    have h := same_any w2.heap.size w.heap.size (some ⟨g, 0, none⟩) (some ⟨b, q + 32, none⟩) 32 32 32 (c' - 32) D Y W HDl.out HLT.out (by unfold maxLen; omega) (by unfold maxLen; omega) ((RowAt.rd D2.out 0 D (fun j hj => by rw [Nat.zero_add])).heap_ hW) ((HRT.out.below B2.out).heap_ hW)
    rw [HNO.out] at h
    exact h.mono fun _ _ ⟨a, b⟩ => ⟨a, b.symm⟩
  go_quiet ((go_at_call 25; exact Calls.quiet_of_same (HS.out _ rfl)))
  have B4 : Hid (Below w.heap.size w (w2.drewN nq)) := Lib.hid (below_drewN B2.out nq)
  have K4 := Lib.hid (K2.out.drewN nq)
  clear HS D2 B2 K2
  generalize w2.drewN nq = w4 at B4 K4 ⊢
  go_wp2_with fail
  refine (HF.out _ B4.out).mono ?_
  rintro e w5 ⟨rfl, hb5⟩
  have B5 := Lib.hid (below_then B4.out (Nat.le_refl _) hb5)
  have K5 := Lib.hid (K4.out.below hb5 K4.out.lt)
  clear hb5
  have B6 := Lib.hid (B5.out.alloc B5.out.size (.cells #[.int .i64 G.b, .int .u32 (G.ot : Int), .int .u32 (G.pt : Int), .int .u32 (G.os : Int), .int .u32 (G.ps : Int), .int .u32 (G.rw : Int), .int .u16 (G.ou : Int), .int .u16 (G.inn : Int)] 26))
  have K6 := Lib.hid (K5.out.alloc (.cells #[.int .i64 G.b, .int .u32 (G.ot : Int), .int .u32 (G.pt : Int), .int .u32 (G.os : Int), .int .u32 (G.ps : Int), .int .u32 (G.rw : Int), .int .u16 (G.ou : Int), .int .u16 (G.inn : Int)] 26))
  have G6 : Hid (Blk (w5.alloc (.cells #[.int .i64 G.b, .int .u32 (G.ot : Int), .int .u32 (G.pt : Int), .int .u32 (G.os : Int), .int .u32 (G.ps : Int), .int .u32 (G.rw : Int), .int .u16 (G.ou : Int), .int .u16 (G.inn : Int)] 26)) w5.heap.size 26 #[.int .i64 G.b, .int .u32 (G.ot : Int), .int .u32 (G.pt : Int), .int .u32 (G.os : Int), .int .u32 (G.ps : Int), .int .u32 (G.rw : Int), .int .u16 (G.ou : Int), .int .u16 (G.inn : Int)]) := Lib.hid (Blk.new _ _ _)
  go_wp2_with fail
  generalize w5.alloc (.cells #[.int .i64 G.b, .int .u32 (G.ot : Int), .int .u32 (G.pt : Int), .int .u32 (G.os : Int), .int .u32 (G.ps : Int), .int .u32 (G.rw : Int), .int .u16 (G.ou : Int), .int .u16 (G.inn : Int)] 26) = w6 at B6 K6 G6 ⊢
  generalize w5.heap.size = p6 at G6 ⊢
  have g0 : w6.cell? ⟨p6, 0, none⟩ = some (.int .i64 G.b) := G6.out.cell 0
  have g1 : w6.cell? ⟨p6, 1, none⟩ = some (.int .u32 (G.ot : Int)) := G6.out.cell 1
  have g2 : w6.cell? ⟨p6, 2, none⟩ = some (.int .u32 (G.pt : Int)) := G6.out.cell 2
  have g3 : w6.cell? ⟨p6, 3, none⟩ = some (.int .u32 (G.os : Int)) := G6.out.cell 3
  have g4 : w6.cell? ⟨p6, 4, none⟩ = some (.int .u32 (G.ps : Int)) := G6.out.cell 4
  have g5 : w6.cell? ⟨p6, 5, none⟩ = some (.int .u32 (G.rw : Int)) := G6.out.cell 5
  have g6 : w6.cell? ⟨p6, 6, none⟩ = some (.int .u16 (G.ou : Int)) := G6.out.cell 6
  have g7 : w6.cell? ⟨p6, 7, none⟩ = some (.int .u16 (G.inn : Int)) := G6.out.cell 7
  rw [← whole_eq 7]
  go_wp2_with fail
  refine (isValid_any G w6).mono ?_
  rintro e w7 ⟨rfl, hb7⟩
  rw [HM.out]
  have B7 := Lib.hid (below_then B6.out (Nat.le_refl _) hb7)
  have K7 := Lib.hid (K6.out.below hb7 K6.out.lt)
  have G7 := Lib.hid (G6.out.below hb7 G6.out.lt)
  clear hb7 g0 g1 g2 g3 g4 g5 g6 g7
  have j0 : w7.cell? ⟨w.heap.size, 0, none⟩ = some (.int .i64 0) := K7.out.cell 0
  have jz0 := K7.out.frozen 0
  have j1 : w7.cell? ⟨w.heap.size, 1, none⟩ = some (.int .u32 0) := K7.out.cell 1
  have jz1 := K7.out.frozen 1
  have j2 : w7.cell? ⟨w.heap.size, 2, none⟩ = some (.int .u32 0) := K7.out.cell 2
  have jz2 := K7.out.frozen 2
  have j3 : w7.cell? ⟨w.heap.size, 3, none⟩ = some (.int .u32 0) := K7.out.cell 3
  have jz3 := K7.out.frozen 3
  have j4 : w7.cell? ⟨w.heap.size, 4, none⟩ = some (.int .u32 0) := K7.out.cell 4
  have jz4 := K7.out.frozen 4
  have j5 : w7.cell? ⟨w.heap.size, 5, none⟩ = some (.int .u32 0) := K7.out.cell 5
  have jz5 := K7.out.frozen 5
  have j6 : w7.cell? ⟨w.heap.size, 6, none⟩ = some (.int .u16 0) := K7.out.cell 6
  have jz6 := K7.out.frozen 6
  have j7 : w7.cell? ⟨w.heap.size, 7, none⟩ = some (.int .u16 0) := K7.out.cell 7
  have jz7 := K7.out.frozen 7
  have y0 : w7.cell? ⟨p6, 0, none⟩ = some (.int .i64 G.b) := G7.out.cell 0
  have y1 : w7.cell? ⟨p6, 1, none⟩ = some (.int .u32 (G.ot : Int)) := G7.out.cell 1
  have y2 : w7.cell? ⟨p6, 2, none⟩ = some (.int .u32 (G.pt : Int)) := G7.out.cell 2
  have y3 : w7.cell? ⟨p6, 3, none⟩ = some (.int .u32 (G.os : Int)) := G7.out.cell 3
  have y4 : w7.cell? ⟨p6, 4, none⟩ = some (.int .u32 (G.ps : Int)) := G7.out.cell 4
  have y5 : w7.cell? ⟨p6, 5, none⟩ = some (.int .u32 (G.rw : Int)) := G7.out.cell 5
  have y6 : w7.cell? ⟨p6, 6, none⟩ = some (.int .u16 (G.ou : Int)) := G7.out.cell 6
  have y7 : w7.cell? ⟨p6, 7, none⟩ = some (.int .u16 (G.inn : Int)) := G7.out.cell 7
  go_wp2_with fail
  exact bodyPost_ret (v := .tuple #[.agg #[.int .i64 G.b, .int .u32 (G.ot : Int), .int .u32 (G.pt : Int), .int .u32 (G.os : Int), .int .u32 (G.ps : Int), .int .u32 (G.rw : Int), .int .u16 (G.ou : Int), .int .u16 (G.inn : Int)], .int .i64 0]) (by simp [results, Tryd.results14, go_sem, j0, j1, j2, j3, j4, j5, j6, j7]) rfl ⟨rfl, ((((((((B7.out.setCell (p := ⟨w.heap.size, 0, none⟩) (Nat.le_refl _) _).setCell (p := ⟨w.heap.size, 1, none⟩) (Nat.le_refl _) _).setCell (p := ⟨w.heap.size, 2, none⟩) (Nat.le_refl _) _).setCell (p := ⟨w.heap.size, 3, none⟩) (Nat.le_refl _) _).setCell (p := ⟨w.heap.size, 4, none⟩) (Nat.le_refl _) _).setCell (p := ⟨w.heap.size, 5, none⟩) (Nat.le_refl _) _).setCell (p := ⟨w.heap.size, 6, none⟩) (Nat.le_refl _) _).setCell (p := ⟨w.heap.size, 7, none⟩) (Nat.le_refl _) _)⟩

set_option maxRecDepth 100000 in
set_option maxHeartbeats 4000000 in
theorem ckRead_bad (A A' : Option Addr) (n c c' : Nat) (ks xs : List UInt8) (w : World) (hT : Tabs w) (hn : n ≤ c) (hc : c ≤ maxLen) (hx : ks.length = n) (hr : Rd w w.heap.size A ks) (hl : n ≤ 1048576) (hc1 : 64 ≤ c') (hc2 : c' ≤ maxLen) (hx' : xs.length = 64) (hr' : Rd w w.heap.size A' xs) (hyes : mac ks (xs.take 32) = xs.drop 32) (hmay : (decC xs).may = false) :
    Calls Tryd.prog 14 #[.slice A n c, .slice A' 64 c'] w fun e w' => e = .returned (.tuple #[.agg #[.int .i64 0, .int .u32 0, .int .u32 0, .int .u32 0, .int .u32 0, .int .u32 0, .int .u16 0, .int .u16 0], .int .i64 7]) ∧ Below w.heap.size w w' := by
  obtain ⟨i8, h8⟩ := Tryd.ty8
  have hz := zero_cookie
  have h2 := hT.2.2
  have HT := Lib.hid hT
  have HR := Lib.hid hr
  have HX := Lib.hid hx
  have HC := Lib.hid hc
  obtain ⟨b, q, rfl, hbl, _⟩ := hr'.at_ (by rintro rfl; simp at hx')
  have HR32 := Lib.hid (hr'.take_ 32)
  have hc32 : ¬ c' = 32 := by omega
  have hc32' : 32 ≤ c' := by omega
  have HRT : Hid (Rd w w.heap.size (some ⟨b, q + 32, none⟩) (xs.drop 32)) := Lib.hid (by
    have h := hr'.cut 32 32
    rw [List.take_of_length_le (by rw [List.length_drop]; omega), Option.map_some, Addr.add_lit] at h
    exact h)
  have HL32 : Hid ((xs.take 32).length = 32) := Lib.hid (by rw [List.length_take]; omega)
  have HLT : Hid ((xs.drop 32).length = 32) := Lib.hid (by rw [List.length_drop]; omega)
  obtain ⟨X, hX⟩ : ∃ X, X = xs.take 32 := ⟨_, rfl⟩
  obtain ⟨Y, hY⟩ : ∃ Y, Y = xs.drop 32 := ⟨_, rfl⟩
  rw [← hX] at HR32 HL32
  rw [← hY] at HRT HLT
  obtain ⟨D, hD⟩ : ∃ D, D = mac ks X := ⟨_, rfl⟩
  have HD := Lib.hid hD
  have HDl := Lib.hid (show D.length = 32 by rw [hD, length_mac])
  have hszD : (row8 D).size = 32 := by rw [size_row8, HDl.out]
  have hst := (fun W : World => run_storeCells_new (P := Tryd.prog) W 46 #[.int .u8 0, .int .u8 0, .int .u8 0, .int .u8 0, .int .u8 0, .int .u8 0, .int .u8 0, .int .u8 0, .int .u8 0, .int .u8 0, .int .u8 0, .int .u8 0, .int .u8 0, .int .u8 0, .int .u8 0, .int .u8 0, .int .u8 0, .int .u8 0, .int .u8 0, .int .u8 0, .int .u8 0, .int .u8 0, .int .u8 0, .int .u8 0, .int .u8 0, .int .u8 0, .int .u8 0, .int .u8 0, .int .u8 0, .int .u8 0, .int .u8 0, .int .u8 0] (row8 D) ((show (Tryd.prog.info? 46).map (·.size) = some 32 by kernel_rfl).trans (by rw [size_row8, HDl.out])) (by rw [size_row8, HDl.out]; rfl) (row8_one _))
  have hsl : ∀ (W : World) (r : Nat), (Instr.sliceAt 46 (.pointer (some ⟨r, 0, none⟩)) none none none).run Tryd.prog W = .ok (.slice (some ⟨r, 0, none⟩) 32 32) W := fun W r => slice_whole Tryd.underlying46 (by kernel_rfl) _ _ W
  have HNO : Hid (decide (D = Y) = true) := Lib.hid (decide_eq_true (by rw [hD, hX, hY]; exact hyes))
  obtain ⟨G, hG⟩ : ∃ G, G = decC xs := ⟨_, rfl⟩
  have HG := Lib.hid hG
  have HM : Hid (G.may = false) := Lib.hid (by rw [hG]; exact hmay)
  have HF : Hid (∀ W, Below w.heap.size w W → Calls Tryd.prog 26 #[.slice (some ⟨b, q, none⟩) 64 c'] W fun e w' => e = .returned (.agg #[.int .i64 G.b, .int .u32 (G.ot : Int), .int .u32 (G.pt : Int), .int .u32 (G.os : Int), .int .u32 (G.ps : Int), .int .u32 (G.rw : Int), .int .u16 (G.ou : Int), .int .u16 (G.inn : Int)]) ∧ Below W.heap.size W w') := Lib.hid fun W hW => hG ▸ fields_any _ 64 c' xs W (by unfold maxLen; omega) hx' ((hr'.below hW).more hW.size) (by omega)
  have K := Lib.hid (Blk.new w 26 #[.int .i64 0, .int .u32 0, .int .u32 0, .int .u32 0, .int .u32 0, .int .u32 0, .int .u16 0, .int .u16 0])
  have B0 := Lib.hid (below_new w (.cells #[.int .i64 0, .int .u32 0, .int .u32 0, .int .u32 0, .int .u32 0, .int .u32 0, .int .u16 0, .int .u16 0] 26))
  clear hT hx hr hc hx' hr' hX hY hD hbl hyes hG hmay
  go_enter Tryd.func14, Tryd.ntmps14
  rw [drawn_eq 4, whole_eq 3, whole_eq 7]
  go_wp2_with fail
  generalize w.alloc (.cells #[.int .i64 0, .int .u32 0, .int .u32 0, .int .u32 0, .int .u32 0, .int .u32 0, .int .u16 0, .int .u16 0] 26) = w0 at K B0 ⊢
  rw [← whole_eq 3]
  go_wp2_with fail
  refine (macSum_any A n c ks (some ⟨b, q, none⟩) 32 c' X w0 (HT.out.below B0.out h2) hn HC.out HX.out ((HR.out.below B0.out).more B0.out.size) (by omega) hc32' hc2 HL32.out ((HR32.out.below B0.out).more B0.out.size) (by omega)).mono ?_
  rintro e w1 ⟨rfl, hb1⟩
  rw [← HD.out]
  have B1 := Lib.hid (below_then B0.out (Nat.le_refl _) hb1)
  have K1 := Lib.hid (K.out.below hb1 K.out.lt)
  clear hb1
  have B2 := Lib.hid (B1.out.alloc B1.out.size (.cells (row8 D) 46))
  have K2 := Lib.hid (K1.out.alloc (.cells (row8 D) 46))
  have D2 : Hid (Blk (w1.alloc (.cells (row8 D) 46)) w1.heap.size 46 (row8 D)) := Lib.hid (Blk.new _ _ _)
  go_wp2_with fail
  generalize w1.alloc (.cells (row8 D) 46) = w2 at B2 K2 D2 ⊢
  generalize w1.heap.size = g at D2 ⊢
  rw [← drawn_eq 4]
  have HS : Hid (∀ W : World, W.heap = w2.heap → Calls Tryd.prog 25 #[.slice (some ⟨g, 0, none⟩) 32 32, .slice (some ⟨b, q + 32, none⟩) 32 (c' - 32 : Nat)] W fun e w' => e = .returned (.bool true) ∧ w' = W) := Lib.hid fun W hW => by
    have h := same_any w2.heap.size w.heap.size (some ⟨g, 0, none⟩) (some ⟨b, q + 32, none⟩) 32 32 32 (c' - 32) D Y W HDl.out HLT.out (by unfold maxLen; omega) (by unfold maxLen; omega) ((RowAt.rd D2.out 0 D (fun j hj => by rw [Nat.zero_add])).heap_ hW) ((HRT.out.below B2.out).heap_ hW)
    rw [HNO.out] at h
    exact h.mono fun _ _ ⟨a, b⟩ => ⟨a, b.symm⟩
  go_quiet ((go_at_call 25; exact Calls.quiet_of_same (HS.out _ rfl)))
  have B4 : Hid (Below w.heap.size w (w2.drewN nq)) := Lib.hid (below_drewN B2.out nq)
  have K4 := Lib.hid (K2.out.drewN nq)
  clear HS D2 B2 K2
  generalize w2.drewN nq = w4 at B4 K4 ⊢
  go_wp2_with fail
  refine (HF.out _ B4.out).mono ?_
  rintro e w5 ⟨rfl, hb5⟩
  have B5 := Lib.hid (below_then B4.out (Nat.le_refl _) hb5)
  have K5 := Lib.hid (K4.out.below hb5 K4.out.lt)
  clear hb5
  have B6 := Lib.hid (B5.out.alloc B5.out.size (.cells #[.int .i64 G.b, .int .u32 (G.ot : Int), .int .u32 (G.pt : Int), .int .u32 (G.os : Int), .int .u32 (G.ps : Int), .int .u32 (G.rw : Int), .int .u16 (G.ou : Int), .int .u16 (G.inn : Int)] 26))
  have K6 := Lib.hid (K5.out.alloc (.cells #[.int .i64 G.b, .int .u32 (G.ot : Int), .int .u32 (G.pt : Int), .int .u32 (G.os : Int), .int .u32 (G.ps : Int), .int .u32 (G.rw : Int), .int .u16 (G.ou : Int), .int .u16 (G.inn : Int)] 26))
  have G6 : Hid (Blk (w5.alloc (.cells #[.int .i64 G.b, .int .u32 (G.ot : Int), .int .u32 (G.pt : Int), .int .u32 (G.os : Int), .int .u32 (G.ps : Int), .int .u32 (G.rw : Int), .int .u16 (G.ou : Int), .int .u16 (G.inn : Int)] 26)) w5.heap.size 26 #[.int .i64 G.b, .int .u32 (G.ot : Int), .int .u32 (G.pt : Int), .int .u32 (G.os : Int), .int .u32 (G.ps : Int), .int .u32 (G.rw : Int), .int .u16 (G.ou : Int), .int .u16 (G.inn : Int)]) := Lib.hid (Blk.new _ _ _)
  go_wp2_with fail
  generalize w5.alloc (.cells #[.int .i64 G.b, .int .u32 (G.ot : Int), .int .u32 (G.pt : Int), .int .u32 (G.os : Int), .int .u32 (G.ps : Int), .int .u32 (G.rw : Int), .int .u16 (G.ou : Int), .int .u16 (G.inn : Int)] 26) = w6 at B6 K6 G6 ⊢
  generalize w5.heap.size = p6 at G6 ⊢
  have g0 : w6.cell? ⟨p6, 0, none⟩ = some (.int .i64 G.b) := G6.out.cell 0
  have g1 : w6.cell? ⟨p6, 1, none⟩ = some (.int .u32 (G.ot : Int)) := G6.out.cell 1
  have g2 : w6.cell? ⟨p6, 2, none⟩ = some (.int .u32 (G.pt : Int)) := G6.out.cell 2
  have g3 : w6.cell? ⟨p6, 3, none⟩ = some (.int .u32 (G.os : Int)) := G6.out.cell 3
  have g4 : w6.cell? ⟨p6, 4, none⟩ = some (.int .u32 (G.ps : Int)) := G6.out.cell 4
  have g5 : w6.cell? ⟨p6, 5, none⟩ = some (.int .u32 (G.rw : Int)) := G6.out.cell 5
  have g6 : w6.cell? ⟨p6, 6, none⟩ = some (.int .u16 (G.ou : Int)) := G6.out.cell 6
  have g7 : w6.cell? ⟨p6, 7, none⟩ = some (.int .u16 (G.inn : Int)) := G6.out.cell 7
  rw [← whole_eq 7]
  go_wp2_with fail
  refine (isValid_any G w6).mono ?_
  rintro e w7 ⟨rfl, hb7⟩
  rw [HM.out]
  have B7 := Lib.hid (below_then B6.out (Nat.le_refl _) hb7)
  have K7 := Lib.hid (K6.out.below hb7 K6.out.lt)
  have G7 := Lib.hid (G6.out.below hb7 G6.out.lt)
  clear hb7 g0 g1 g2 g3 g4 g5 g6 g7
  have j0 : w7.cell? ⟨w.heap.size, 0, none⟩ = some (.int .i64 0) := K7.out.cell 0
  have jz0 := K7.out.frozen 0
  have j1 : w7.cell? ⟨w.heap.size, 1, none⟩ = some (.int .u32 0) := K7.out.cell 1
  have jz1 := K7.out.frozen 1
  have j2 : w7.cell? ⟨w.heap.size, 2, none⟩ = some (.int .u32 0) := K7.out.cell 2
  have jz2 := K7.out.frozen 2
  have j3 : w7.cell? ⟨w.heap.size, 3, none⟩ = some (.int .u32 0) := K7.out.cell 3
  have jz3 := K7.out.frozen 3
  have j4 : w7.cell? ⟨w.heap.size, 4, none⟩ = some (.int .u32 0) := K7.out.cell 4
  have jz4 := K7.out.frozen 4
  have j5 : w7.cell? ⟨w.heap.size, 5, none⟩ = some (.int .u32 0) := K7.out.cell 5
  have jz5 := K7.out.frozen 5
  have j6 : w7.cell? ⟨w.heap.size, 6, none⟩ = some (.int .u16 0) := K7.out.cell 6
  have jz6 := K7.out.frozen 6
  have j7 : w7.cell? ⟨w.heap.size, 7, none⟩ = some (.int .u16 0) := K7.out.cell 7
  have jz7 := K7.out.frozen 7
  go_wp2_with fail
  exact bodyPost_ret (v := .tuple #[.agg #[.int .i64 0, .int .u32 0, .int .u32 0, .int .u32 0, .int .u32 0, .int .u32 0, .int .u16 0, .int .u16 0], .int .i64 7]) (by simp [results, Tryd.results14, go_sem, j0, j1, j2, j3, j4, j5, j6, j7]) rfl ⟨rfl, ((((((((B7.out.setCell (p := ⟨w.heap.size, 0, none⟩) (Nat.le_refl _) _).setCell (p := ⟨w.heap.size, 1, none⟩) (Nat.le_refl _) _).setCell (p := ⟨w.heap.size, 2, none⟩) (Nat.le_refl _) _).setCell (p := ⟨w.heap.size, 3, none⟩) (Nat.le_refl _) _).setCell (p := ⟨w.heap.size, 4, none⟩) (Nat.le_refl _) _).setCell (p := ⟨w.heap.size, 5, none⟩) (Nat.le_refl _) _).setCell (p := ⟨w.heap.size, 6, none⟩) (Nat.le_refl _) _).setCell (p := ⟨w.heap.size, 7, none⟩) (Nat.le_refl _) _)⟩

theorem ckRead_any (A A' : Option Addr) (n c n' c' : Nat) (ks xs : List UInt8) (w : World) (hT : Tabs w) (hn : n ≤ c) (hc : c ≤ maxLen) (hx : ks.length = n) (hr : Rd w w.heap.size A ks) (hl : n ≤ 1048576) (hn' : n' ≤ c') (hc' : c' ≤ maxLen) (hx' : xs.length = n') (hr' : Rd w w.heap.size A' xs) :
    Calls Tryd.prog 14 #[.slice A n c, .slice A' n' c'] w fun e w' => e = .returned (.tuple #[.agg #[.int .i64 (ansC (rdC ks xs)).b, .int .u32 ((ansC (rdC ks xs)).ot : Int), .int .u32 ((ansC (rdC ks xs)).pt : Int), .int .u32 ((ansC (rdC ks xs)).os : Int), .int .u32 ((ansC (rdC ks xs)).ps : Int), .int .u32 ((ansC (rdC ks xs)).rw : Int), .int .u16 ((ansC (rdC ks xs)).ou : Int), .int .u16 ((ansC (rdC ks xs)).inn : Int)], .int .i64 (errC (rdC ks xs))]) ∧ Below w.heap.size w w' := by
  unfold rdC
  by_cases h64 : n' = 64
  · subst h64
    rw [if_neg (by rw [hx']; decide)]
    by_cases hm : mac ks (xs.take 32) = xs.drop 32
    · rw [if_neg (fun h => h hm)]
      cases hmay : (decC xs).may with
      | true => exact ckRead_ok A A' n c c' ks xs w hT hn hc hx hr hl hn' hc' hx' hr' hm hmay
      | false => exact ckRead_bad A A' n c c' ks xs w hT hn hc hx hr hl hn' hc' hx' hr' hm hmay
    · rw [if_pos hm]
      exact ckRead_mac A A' n c c' ks xs w hT hn hc hx hr hl hn' hc' hx' hr' hm
  · rw [if_pos (by rw [hx']; exact h64)]
    exact ckRead_len A A' n c n' c' w (Nat.le_trans hn' hc') h64

end Go.Proofs.YtnnkgdkjmmljiaaDoor
