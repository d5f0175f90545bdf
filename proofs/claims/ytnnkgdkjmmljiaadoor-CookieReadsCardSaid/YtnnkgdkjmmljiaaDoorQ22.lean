/-
  Package cookie: the reference's Read.
-/
import Derived.Test.YtnnkgdkjmmljiaaDoorQ20
import Derived.Test.YtnnkgdkjmmljiaaDoorQ21
namespace Go.Proofs.YtnnkgdkjmmljiaaDoor
open Go.RowKit
set_option linter.unusedVariables false

set_option maxRecDepth 100000 in
set_option maxHeartbeats 4000000 in
theorem refCkRead_len (A A' : Option Addr) (n c n' c' : Nat) (w : World) (hn' : n' ≤ maxLen) (h64 : n' ≠ 64) :
    Calls Tryd.prog 15 #[.slice A n c, .slice A' n' c'] w fun e w' => e = .returned (.tuple #[.agg #[.int .i64 0, .int .u32 0, .int .u32 0, .int .u32 0, .int .u32 0, .int .u32 0, .int .u16 0, .int .u16 0], .int .i64 7]) ∧ Below w.heap.size w w' := by
  have hne : ((n' : Int) != 64) = true := by rw [bne_iff_ne]; omega
  have hz := zero_cookie
  have K := Lib.hid ((Blk.new w 26 #[.int .i64 0, .int .u32 0, .int .u32 0, .int .u32 0, .int .u32 0, .int .u32 0, .int .u16 0, .int .u16 0]).alloc (.cells #[.int .i64 0, .int .u32 0, .int .u32 0, .int .u32 0, .int .u32 0, .int .u32 0, .int .u16 0, .int .u16 0] 26))
  have N := Lib.hid (show Blk ((w.alloc (.cells #[.int .i64 0, .int .u32 0, .int .u32 0, .int .u32 0, .int .u32 0, .int .u32 0, .int .u16 0, .int .u16 0] 26)).alloc (.cells #[.int .i64 0, .int .u32 0, .int .u32 0, .int .u32 0, .int .u32 0, .int .u32 0, .int .u16 0, .int .u16 0] 26)) (w.heap.size + 1) 26 #[.int .i64 0, .int .u32 0, .int .u32 0, .int .u32 0, .int .u32 0, .int .u32 0, .int .u16 0, .int .u16 0] by simpa using Blk.new (w.alloc (.cells #[.int .i64 0, .int .u32 0, .int .u32 0, .int .u32 0, .int .u32 0, .int .u32 0, .int .u16 0, .int .u16 0] 26)) 26 #[.int .i64 0, .int .u32 0, .int .u32 0, .int .u32 0, .int .u32 0, .int .u32 0, .int .u16 0, .int .u16 0])
  have B0 := Lib.hid ((below_new w (.cells #[.int .i64 0, .int .u32 0, .int .u32 0, .int .u32 0, .int .u32 0, .int .u32 0, .int .u16 0, .int .u16 0] 26)).alloc (below_new w (.cells #[.int .i64 0, .int .u32 0, .int .u32 0, .int .u32 0, .int .u32 0, .int .u32 0, .int .u16 0, .int .u16 0] 26)).size (.cells #[.int .i64 0, .int .u32 0, .int .u32 0, .int .u32 0, .int .u32 0, .int .u32 0, .int .u16 0, .int .u16 0] 26))
  clear h64
  unfold maxLen at hn'
  go_enter Tryd.func15, Tryd.ntmps15
  rw [whole_eq 3]
  go_wp2_with fail
  generalize (w.alloc (.cells #[.int .i64 0, .int .u32 0, .int .u32 0, .int .u32 0, .int .u32 0, .int .u32 0, .int .u16 0, .int .u16 0] 26)).alloc (.cells #[.int .i64 0, .int .u32 0, .int .u32 0, .int .u32 0, .int .u32 0, .int .u32 0, .int .u16 0, .int .u16 0] 26) = w0 at K N B0 ⊢
  obtain ⟨z, hz1⟩ : ∃ z, z = w.heap.size + 1 := ⟨_, rfl⟩
  rw [← hz1] at N
  rw [← hz1]
  have hzz : w.heap.size ≠ z := by omega
  clear hz1
  have j0 : w0.cell? ⟨w.heap.size, 0, none⟩ = some (.int .i64 0) := K.out.cell 0
  have jz0 := K.out.frozen 0
  have j1 : w0.cell? ⟨w.heap.size, 1, none⟩ = some (.int .u32 0) := K.out.cell 1
  have jz1 := K.out.frozen 1
  have j2 : w0.cell? ⟨w.heap.size, 2, none⟩ = some (.int .u32 0) := K.out.cell 2
  have jz2 := K.out.frozen 2
  have j3 : w0.cell? ⟨w.heap.size, 3, none⟩ = some (.int .u32 0) := K.out.cell 3
  have jz3 := K.out.frozen 3
  have j4 : w0.cell? ⟨w.heap.size, 4, none⟩ = some (.int .u32 0) := K.out.cell 4
  have jz4 := K.out.frozen 4
  have j5 : w0.cell? ⟨w.heap.size, 5, none⟩ = some (.int .u32 0) := K.out.cell 5
  have jz5 := K.out.frozen 5
  have j6 : w0.cell? ⟨w.heap.size, 6, none⟩ = some (.int .u16 0) := K.out.cell 6
  have jz6 := K.out.frozen 6
  have j7 : w0.cell? ⟨w.heap.size, 7, none⟩ = some (.int .u16 0) := K.out.cell 7
  have jz7 := K.out.frozen 7
  have n0 : w0.cell? ⟨z, 0, none⟩ = some (.int .i64 0) := N.out.cell 0
  have n1 : w0.cell? ⟨z, 1, none⟩ = some (.int .u32 0) := N.out.cell 1
  have n2 : w0.cell? ⟨z, 2, none⟩ = some (.int .u32 0) := N.out.cell 2
  have n3 : w0.cell? ⟨z, 3, none⟩ = some (.int .u32 0) := N.out.cell 3
  have n4 : w0.cell? ⟨z, 4, none⟩ = some (.int .u32 0) := N.out.cell 4
  have n5 : w0.cell? ⟨z, 5, none⟩ = some (.int .u32 0) := N.out.cell 5
  have n6 : w0.cell? ⟨z, 6, none⟩ = some (.int .u16 0) := N.out.cell 6
  have n7 : w0.cell? ⟨z, 7, none⟩ = some (.int .u16 0) := N.out.cell 7
  rw [← whole_eq 3]
  go_wp2_with fail
  exact bodyPost_ret (v := .tuple #[.agg #[.int .i64 0, .int .u32 0, .int .u32 0, .int .u32 0, .int .u32 0, .int .u32 0, .int .u16 0, .int .u16 0], .int .i64 7]) (by simp [results, Tryd.results15, go_sem, j0, j1, j2, j3, j4, j5, j6, j7]) rfl ⟨rfl, ((((((((B0.out.setCell (p := ⟨w.heap.size, 0, none⟩) (Nat.le_refl _) _).setCell (p := ⟨w.heap.size, 1, none⟩) (Nat.le_refl _) _).setCell (p := ⟨w.heap.size, 2, none⟩) (Nat.le_refl _) _).setCell (p := ⟨w.heap.size, 3, none⟩) (Nat.le_refl _) _).setCell (p := ⟨w.heap.size, 4, none⟩) (Nat.le_refl _) _).setCell (p := ⟨w.heap.size, 5, none⟩) (Nat.le_refl _) _).setCell (p := ⟨w.heap.size, 6, none⟩) (Nat.le_refl _) _).setCell (p := ⟨w.heap.size, 7, none⟩) (Nat.le_refl _) _)⟩

set_option maxRecDepth 100000 in
set_option maxHeartbeats 4000000 in
theorem refCkRead_mac (A A' : Option Addr) (n c c' : Nat) (ks xs : List UInt8) (w : World) (hn : n ≤ 1048576) (hx : ks.length = n) (hr : Rd w w.heap.size A ks) (hc1 : 64 ≤ c') (hc2 : c' ≤ maxLen) (hx' : xs.length = 64) (hr' : Rd w w.heap.size A' xs) (hno : mac ks (xs.take 32) ≠ xs.drop 32) :
    Calls Tryd.prog 15 #[.slice A n c, .slice A' 64 c'] w fun e w' => e = .returned (.tuple #[.agg #[.int .i64 0, .int .u32 0, .int .u32 0, .int .u32 0, .int .u32 0, .int .u32 0, .int .u16 0, .int .u16 0], .int .i64 10]) ∧ Below w.heap.size w w' := by
  have HR := Lib.hid hr
  have HX := Lib.hid hx
  have HR' := Lib.hid hr'
  have HX' := Lib.hid hx'
  obtain ⟨b, q, rfl, hbl, _⟩ := hr'.at_ (by rintro rfl; simp at hx')
  have HR32 := Lib.hid (hr'.take_ 32)
  have hc32 : ¬ c' = 32 := by omega
  have hc32' : 32 ≤ c' := by omega
  have HRT : Hid (Rd w w.heap.size (some ⟨b, q + 32, none⟩) (xs.drop 32)) := Lib.hid (by
    have h := hr'.cut 32 32
    rw [List.take_of_length_le (by rw [List.length_drop]; omega), Option.map_some, Addr.add_lit] at h
    exact h)
  have HL32 : Hid ((xs.take 32).length = 32) := Lib.hid (by rw [List.length_take]; omega)
  have HLT : Hid ((xs.drop 32).length = 32) := Lib.hid (by rw [List.length_drop]; omega)
  obtain ⟨X, hX⟩ : ∃ X, X = xs.take 32 := ⟨_, rfl⟩
  obtain ⟨Y, hY⟩ : ∃ Y, Y = xs.drop 32 := ⟨_, rfl⟩
  rw [← hX] at HR32 HL32
  rw [← hY] at HRT HLT
  obtain ⟨D, hD⟩ : ∃ D, D = mac ks X := ⟨_, rfl⟩
  have HD := Lib.hid hD
  have HDl := Lib.hid (show D.length = 32 by rw [hD, length_mac])
  have hszD : (row8 D).size = 32 := by rw [size_row8, HDl.out]
  have hst := (fun W : World => run_storeCells_new (P := Tryd.prog) W 46 #[.int .u8 0, .int .u8 0, .int .u8 0, .int .u8 0, .int .u8 0, .int .u8 0, .int .u8 0, .int .u8 0, .int .u8 0, .int .u8 0, .int .u8 0, .int .u8 0, .int .u8 0, .int .u8 0, .int .u8 0, .int .u8 0, .int .u8 0, .int .u8 0, .int .u8 0, .int .u8 0, .int .u8 0, .int .u8 0, .int .u8 0, .int .u8 0, .int .u8 0, .int .u8 0, .int .u8 0, .int .u8 0, .int .u8 0, .int .u8 0, .int .u8 0, .int .u8 0] (row8 D) ((show (Tryd.prog.info? 46).map (·.size) = some 32 by kernel_rfl).trans (by rw [size_row8, HDl.out])) (by rw [size_row8, HDl.out]; rfl) (row8_one _))
  have hsl : ∀ (W : World) (r : Nat), (Instr.sliceAt 46 (.pointer (some ⟨r, 0, none⟩)) none none none).run Tryd.prog W = .ok (.slice (some ⟨r, 0, none⟩) 32 32) W := fun W r => slice_whole Tryd.underlying46 (by kernel_rfl) _ _ W
  have hz := zero_cookie
  have K := Lib.hid ((Blk.new w 26 #[.int .i64 0, .int .u32 0, .int .u32 0, .int .u32 0, .int .u32 0, .int .u32 0, .int .u16 0, .int .u16 0]).alloc (.cells #[.int .i64 0, .int .u32 0, .int .u32 0, .int .u32 0, .int .u32 0, .int .u32 0, .int .u16 0, .int .u16 0] 26))
  have N := Lib.hid (show Blk ((w.alloc (.cells #[.int .i64 0, .int .u32 0, .int .u32 0, .int .u32 0, .int .u32 0, .int .u32 0, .int .u16 0, .int .u16 0] 26)).alloc (.cells #[.int .i64 0, .int .u32 0, .int .u32 0, .int .u32 0, .int .u32 0, .int .u32 0, .int .u16 0, .int .u16 0] 26)) (w.heap.size + 1) 26 #[.int .i64 0, .int .u32 0, .int .u32 0, .int .u32 0, .int .u32 0, .int .u32 0, .int .u16 0, .int .u16 0] by simpa using Blk.new (w.alloc (.cells #[.int .i64 0, .int .u32 0, .int .u32 0, .int .u32 0, .int .u32 0, .int .u32 0, .int .u16 0, .int .u16 0] 26)) 26 #[.int .i64 0, .int .u32 0, .int .u32 0, .int .u32 0, .int .u32 0, .int .u32 0, .int .u16 0, .int .u16 0])
  have B0 := Lib.hid ((below_new w (.cells #[.int .i64 0, .int .u32 0, .int .u32 0, .int .u32 0, .int .u32 0, .int .u32 0, .int .u16 0, .int .u16 0] 26)).alloc (below_new w (.cells #[.int .i64 0, .int .u32 0, .int .u32 0, .int .u32 0, .int .u32 0, .int .u32 0, .int .u16 0, .int .u16 0] 26)).size (.cells #[.int .i64 0, .int .u32 0, .int .u32 0, .int .u32 0, .int .u32 0, .int .u32 0, .int .u16 0, .int .u16 0] 26))
  have HQ : (D == Y) = false := by rw [beq_eq_false_iff_ne, hD, hX, hY]; exact hno
  clear hx hr hx' hr' hX hY hD hbl hno
  go_enter Tryd.func15, Tryd.ntmps15
  rw [drawn_eq 5, whole_eq 4, whole_eq 7, whole_eq 8]
  go_wp2_with fail
  generalize (w.alloc (.cells #[.int .i64 0, .int .u32 0, .int .u32 0, .int .u32 0, .int .u32 0, .int .u32 0, .int .u16 0, .int .u16 0] 26)).alloc (.cells #[.int .i64 0, .int .u32 0, .int .u32 0, .int .u32 0, .int .u32 0, .int .u32 0, .int .u16 0, .int .u16 0] 26) = w0 at K N B0 ⊢
  obtain ⟨z, hz1⟩ : ∃ z, z = w.heap.size + 1 := ⟨_, rfl⟩
  rw [← hz1] at N
  rw [← hz1]
  have hzz : w.heap.size ≠ z := by omega
  clear hz1
  rw [← whole_eq 4]
  go_wp2_with fail
  refine (refMac_any A n c ks (some ⟨b, q, none⟩) 32 c' X w0 hn HX.out ((HR.out.below B0.out).more B0.out.size) (by omega) HL32.out ((HR32.out.below B0.out).more B0.out.size)).mono ?_
  rintro e w1 ⟨rfl, hb1⟩
  rw [← HD.out]
  have B1 := Lib.hid (below_then B0.out (Nat.le_refl _) hb1)
  have K1 := Lib.hid (K.out.below hb1 K.out.lt)
  have N1 := Lib.hid (N.out.below hb1 N.out.lt)
  clear hb1
  have B2 := Lib.hid (B1.out.alloc B1.out.size (.cells (row8 D) 46))
  have K2 := Lib.hid (K1.out.alloc (.cells (row8 D) 46))
  have N2 := Lib.hid (N1.out.alloc (.cells (row8 D) 46))
  have D2 : Hid (Blk (w1.alloc (.cells (row8 D) 46)) w1.heap.size 46 (row8 D)) := Lib.hid (Blk.new _ _ _)
  go_wp2_with fail
  generalize w1.alloc (.cells (row8 D) 46) = w2 at B2 K2 N2 D2 ⊢
  generalize w1.heap.size = g at D2 ⊢
  rw [← drawn_eq 5]
  have hs1 : ∀ k : Nat, (convert 22 9 (.slice (some ⟨g, 0, none⟩) 32 32)).run Tryd.prog (w2.drewN k) = .ok (.string ⟨D.toArray⟩) (w2.drewN k) := fun k => conv_str (w2.drewN k) w2.heap.size (some ⟨g, 0, none⟩) 32 32 D HDl.out ((RowAt.rd D2.out 0 D (fun j hj => by rw [Nat.zero_add])).drewN k)
  have hs2 : ∀ k : Nat, (convert 22 9 (.slice (some ⟨b, q + 32, none⟩) 32 (c' - 32 : Nat))).run Tryd.prog (w2.drewN k) = .ok (.string ⟨Y.toArray⟩) (w2.drewN k) := fun k => conv_str (w2.drewN k) w.heap.size (some ⟨b, q + 32, none⟩) 32 (c' - 32) Y HLT.out ((HRT.out.below B2.out).drewN k)
  go_quiet (fail)
  have B4 : Hid (Below w.heap.size w (w2.drewN nq)) := Lib.hid (below_drewN B2.out nq)
  have K4 := Lib.hid (K2.out.drewN nq)
  have N4 := Lib.hid (N2.out.drewN nq)
  clear D2 B2 K2 N2 hs1 hs2
  generalize w2.drewN nq = w4 at B4 K4 N4 ⊢
  have j0 : w4.cell? ⟨w.heap.size, 0, none⟩ = some (.int .i64 0) := K4.out.cell 0
  have jz0 := K4.out.frozen 0
  have j1 : w4.cell? ⟨w.heap.size, 1, none⟩ = some (.int .u32 0) := K4.out.cell 1
  have jz1 := K4.out.frozen 1
  have j2 : w4.cell? ⟨w.heap.size, 2, none⟩ = some (.int .u32 0) := K4.out.cell 2
  have jz2 := K4.out.frozen 2
  have j3 : w4.cell? ⟨w.heap.size, 3, none⟩ = some (.int .u32 0) := K4.out.cell 3
  have jz3 := K4.out.frozen 3
  have j4 : w4.cell? ⟨w.heap.size, 4, none⟩ = some (.int .u32 0) := K4.out.cell 4
  have jz4 := K4.out.frozen 4
  have j5 : w4.cell? ⟨w.heap.size, 5, none⟩ = some (.int .u32 0) := K4.out.cell 5
  have jz5 := K4.out.frozen 5
  have j6 : w4.cell? ⟨w.heap.size, 6, none⟩ = some (.int .u16 0) := K4.out.cell 6
  have jz6 := K4.out.frozen 6
  have j7 : w4.cell? ⟨w.heap.size, 7, none⟩ = some (.int .u16 0) := K4.out.cell 7
  have jz7 := K4.out.frozen 7
  have n0 : w4.cell? ⟨z, 0, none⟩ = some (.int .i64 0) := N4.out.cell 0
  have n1 : w4.cell? ⟨z, 1, none⟩ = some (.int .u32 0) := N4.out.cell 1
  have n2 : w4.cell? ⟨z, 2, none⟩ = some (.int .u32 0) := N4.out.cell 2
  have n3 : w4.cell? ⟨z, 3, none⟩ = some (.int .u32 0) := N4.out.cell 3
  have n4 : w4.cell? ⟨z, 4, none⟩ = some (.int .u32 0) := N4.out.cell 4
  have n5 : w4.cell? ⟨z, 5, none⟩ = some (.int .u32 0) := N4.out.cell 5
  have n6 : w4.cell? ⟨z, 6, none⟩ = some (.int .u16 0) := N4.out.cell 6
  have n7 : w4.cell? ⟨z, 7, none⟩ = some (.int .u16 0) := N4.out.cell 7
  go_wp2_with fail
  exact bodyPost_ret (v := .tuple #[.agg #[.int .i64 0, .int .u32 0, .int .u32 0, .int .u32 0, .int .u32 0, .int .u32 0, .int .u16 0, .int .u16 0], .int .i64 10]) (by simp [results, Tryd.results15, go_sem, j0, j1, j2, j3, j4, j5, j6, j7]) rfl ⟨rfl, ((((((((B4.out.setCell (p := ⟨w.heap.size, 0, none⟩) (Nat.le_refl _) _).setCell (p := ⟨w.heap.size, 1, none⟩) (Nat.le_refl _) _).setCell (p := ⟨w.heap.size, 2, none⟩) (Nat.le_refl _) _).setCell (p := ⟨w.heap.size, 3, none⟩) (Nat.le_refl _) _).setCell (p := ⟨w.heap.size, 4, none⟩) (Nat.le_refl _) _).setCell (p := ⟨w.heap.size, 5, none⟩) (Nat.le_refl _) _).setCell (p := ⟨w.heap.size, 6, none⟩) (Nat.le_refl _) _).setCell (p := ⟨w.heap.size, 7, none⟩) (Nat.le_refl _) _)⟩

set_option maxRecDepth 100000 in
set_option maxHeartbeats 4000000 in
theorem refCkRead_ok (A A' : Option Addr) (n c c' : Nat) (ks xs : List UInt8) (w : World) (hn : n ≤ 1048576) (hx : ks.length = n) (hr : Rd w w.heap.size A ks) (hc1 : 64 ≤ c') (hc2 : c' ≤ maxLen) (hx' : xs.length = 64) (hr' : Rd w w.heap.size A' xs) (hyes : mac ks (xs.take 32) = xs.drop 32) (hmay : (decC xs).may = true) :
    Calls Tryd.prog 15 #[.slice A n c, .slice A' 64 c'] w fun e w' => e = .returned (.tuple #[.agg #[.int .i64 (decC xs).b, .int .u32 ((decC xs).ot : Int), .int .u32 ((decC xs).pt : Int), .int .u32 ((decC xs).os : Int), .int .u32 ((decC xs).ps : Int), .int .u32 ((decC xs).rw : Int), .int .u16 ((decC xs).ou : Int), .int .u16 ((decC xs).inn : Int)], .int .i64 0]) ∧ Below w.heap.size w w' := by
  have HR := Lib.hid hr
  have HX := Lib.hid hx
  have HR' := Lib.hid hr'
  have HX' := Lib.hid hx'
  obtain ⟨b, q, rfl, hbl, _⟩ := hr'.at_ (by rintro rfl; simp at hx')
  have HR32 := Lib.hid (hr'.take_ 32)
  have hc32 : ¬ c' = 32 := by omega
  have hc32' : 32 ≤ c' := by omega
  have HRT : Hid (Rd w w.heap.size (some ⟨b, q + 32, none⟩) (xs.drop 32)) := Lib.hid (by
    have h := hr'.cut 32 32
    rw [List.take_of_length_le (by rw [List.length_drop]; omega), Option.map_some, Addr.add_lit] at h
    exact h)
  have HL32 : Hid ((xs.take 32).length = 32) := Lib.hid (by rw [List.length_take]; omega)
  have HLT : Hid ((xs.drop 32).length = 32) := Lib.hid (by rw [List.length_drop]; omega)
  obtain ⟨X, hX⟩ : ∃ X, X = xs.take 32 := ⟨_, rfl⟩
  obtain ⟨Y, hY⟩ : ∃ Y, Y = xs.drop 32 := ⟨_, rfl⟩
  rw [← hX] at HR32 HL32
  rw [← hY] at HRT HLT
  obtain ⟨D, hD⟩ : ∃ D, D = mac ks X := ⟨_, rfl⟩
  have HD := Lib.hid hD
  have HDl := Lib.hid (show D.length = 32 by rw [hD, length_mac])
  have hszD : (row8 D).size = 32 := by rw [size_row8, HDl.out]
  have hst := (fun W : World => run_storeCells_new (P := Tryd.prog) W 46 #[.int .u8 0, .int .u8 0, .int .u8 0, .int .u8 0, .int .u8 0, .int .u8 0, .int .u8 0, .int .u8 0, .int .u8 0, .int .u8 0, .int .u8 0, .int .u8 0, .int .u8 0, .int .u8 0, .int .u8 0, .int .u8 0, .int .u8 0, .int .u8 0, .int .u8 0, .int .u8 0, .int .u8 0, .int .u8 0, .int .u8 0, .int .u8 0, .int .u8 0, .int .u8 0, .int .u8 0, .int .u8 0, .int .u8 0, .int .u8 0, .int .u8 0, .int .u8 0] (row8 D) ((show (Tryd.prog.info? 46).map (·.size) = some 32 by kernel_rfl).trans (by rw [size_row8, HDl.out])) (by rw [size_row8, HDl.out]; rfl) (row8_one _))
  have hsl : ∀ (W : World) (r : Nat), (Instr.sliceAt 46 (.pointer (some ⟨r, 0, none⟩)) none none none).run Tryd.prog W = .ok (.slice (some ⟨r, 0, none⟩) 32 32) W := fun W r => slice_whole Tryd.underlying46 (by kernel_rfl) _ _ W
  have hz := zero_cookie
  have K := Lib.hid ((Blk.new w 26 #[.int .i64 0, .int .u32 0, .int .u32 0, .int .u32 0, .int .u32 0, .int .u32 0, .int .u16 0, .int .u16 0]).alloc (.cells #[.int .i64 0, .int .u32 0, .int .u32 0, .int .u32 0, .int .u32 0, .int .u32 0, .int .u16 0, .int .u16 0] 26))
  have N := Lib.hid (show Blk ((w.alloc (.cells #[.int .i64 0, .int .u32 0, .int .u32 0, .int .u32 0, .int .u32 0, .int .u32 0, .int .u16 0, .int .u16 0] 26)).alloc (.cells #[.int .i64 0, .int .u32 0, .int .u32 0, .int .u32 0, .int .u32 0, .int .u32 0, .int .u16 0, .int .u16 0] 26)) (w.heap.size + 1) 26 #[.int .i64 0, .int .u32 0, .int .u32 0, .int .u32 0, .int .u32 0, .int .u32 0, .int .u16 0, .int .u16 0] by simpa using Blk.new (w.alloc (.cells #[.int .i64 0, .int .u32 0, .int .u32 0, .int .u32 0, .int .u32 0, .int .u32 0, .int .u16 0, .int .u16 0] 26)) 26 #[.int .i64 0, .int .u32 0, .int .u32 0, .int .u32 0, .int .u32 0, .int .u32 0, .int .u16 0, .int .u16 0])
  have B0 := Lib.hid ((below_new w (.cells #[.int .i64 0, .int .u32 0, .int .u32 0, .int .u32 0, .int .u32 0, .int .u32 0, .int .u16 0, .int .u16 0] 26)).alloc (below_new w (.cells #[.int .i64 0, .int .u32 0, .int .u32 0, .int .u32 0, .int .u32 0, .int .u32 0, .int .u16 0, .int .u16 0] 26)).size (.cells #[.int .i64 0, .int .u32 0, .int .u32 0, .int .u32 0, .int .u32 0, .int .u32 0, .int .u16 0, .int .u16 0] 26))
  have HQ : (D == Y) = true := by rw [beq_iff_eq, hD, hX, hY]; exact hyes
  have HXS := Lib.hid hx'
  obtain ⟨x0, hx0⟩ : ∃ x, x = num xs 0 8 := ⟨_, rfl⟩
  have l0 : x0 < 18446744073709551616 := by rw [hx0]; exact num_lt xs 0 8
  have C0 : Hid (∀ W, Below w.heap.size w W → Calls Tryd.prog 28 #[.slice (some ⟨b, q, none⟩) 64 c', .int .i64 0, .int .i64 8] W fun e w' => e = .returned (.int .u64 (x0 : Int)) ∧ Below W.heap.size W w') := Lib.hid fun W hW => hx0 ▸ ck_number_any _ 64 c' 0 8 xs W (by omega) (by omega) hc2 hx' ((hr'.below hW).more hW.size) (by unfold IsSize; omega) (by omega)
  obtain ⟨x1, hx1⟩ : ∃ x, x = num xs 8 4 := ⟨_, rfl⟩
  have l1 : x1 < 4294967296 := by rw [hx1]; exact num_lt xs 8 4
  have C1 : Hid (∀ W, Below w.heap.size w W → Calls Tryd.prog 28 #[.slice (some ⟨b, q, none⟩) 64 c', .int .i64 8, .int .i64 4] W fun e w' => e = .returned (.int .u64 (x1 : Int)) ∧ Below W.heap.size W w') := Lib.hid fun W hW => hx1 ▸ ck_number_any _ 64 c' 8 4 xs W (by omega) (by omega) hc2 hx' ((hr'.below hW).more hW.size) (by unfold IsSize; omega) (by omega)
  obtain ⟨x2, hx2⟩ : ∃ x, x = num xs 12 4 := ⟨_, rfl⟩
  have l2 : x2 < 4294967296 := by rw [hx2]; exact num_lt xs 12 4
  have C2 : Hid (∀ W, Below w.heap.size w W → Calls Tryd.prog 28 #[.slice (some ⟨b, q, none⟩) 64 c', .int .i64 12, .int .i64 4] W fun e w' => e = .returned (.int .u64 (x2 : Int)) ∧ Below W.heap.size W w') := Lib.hid fun W hW => hx2 ▸ ck_number_any _ 64 c' 12 4 xs W (by omega) (by omega) hc2 hx' ((hr'.below hW).more hW.size) (by unfold IsSize; omega) (by omega)
  obtain ⟨x3, hx3⟩ : ∃ x, x = num xs 16 4 := ⟨_, rfl⟩
  have l3 : x3 < 4294967296 := by rw [hx3]; exact num_lt xs 16 4
  have C3 : Hid (∀ W, Below w.heap.size w W → Calls Tryd.prog 28 #[.slice (some ⟨b, q, none⟩) 64 c', .int .i64 16, .int .i64 4] W fun e w' => e = .returned (.int .u64 (x3 : Int)) ∧ Below W.heap.size W w') := Lib.hid fun W hW => hx3 ▸ ck_number_any _ 64 c' 16 4 xs W (by omega) (by omega) hc2 hx' ((hr'.below hW).more hW.size) (by unfold IsSize; omega) (by omega)
  obtain ⟨x4, hx4⟩ : ∃ x, x = num xs 20 4 := ⟨_, rfl⟩
  have l4 : x4 < 4294967296 := by rw [hx4]; exact num_lt xs 20 4
  have C4 : Hid (∀ W, Below w.heap.size w W → Calls Tryd.prog 28 #[.slice (some ⟨b, q, none⟩) 64 c', .int .i64 20, .int .i64 4] W fun e w' => e = .returned (.int .u64 (x4 : Int)) ∧ Below W.heap.size W w') := Lib.hid fun W hW => hx4 ▸ ck_number_any _ 64 c' 20 4 xs W (by omega) (by omega) hc2 hx' ((hr'.below hW).more hW.size) (by unfold IsSize; omega) (by omega)
  obtain ⟨x5, hx5⟩ : ∃ x, x = num xs 24 4 := ⟨_, rfl⟩
  have l5 : x5 < 4294967296 := by rw [hx5]; exact num_lt xs 24 4
  have C5 : Hid (∀ W, Below w.heap.size w W → Calls Tryd.prog 28 #[.slice (some ⟨b, q, none⟩) 64 c', .int .i64 24, .int .i64 4] W fun e w' => e = .returned (.int .u64 (x5 : Int)) ∧ Below W.heap.size W w') := Lib.hid fun W hW => hx5 ▸ ck_number_any _ 64 c' 24 4 xs W (by omega) (by omega) hc2 hx' ((hr'.below hW).more hW.size) (by unfold IsSize; omega) (by omega)
  obtain ⟨x6, hx6⟩ : ∃ x, x = num xs 28 2 := ⟨_, rfl⟩
  have l6 : x6 < 65536 := by rw [hx6]; exact num_lt xs 28 2
  have C6 : Hid (∀ W, Below w.heap.size w W → Calls Tryd.prog 28 #[.slice (some ⟨b, q, none⟩) 64 c', .int .i64 28, .int .i64 2] W fun e w' => e = .returned (.int .u64 (x6 : Int)) ∧ Below W.heap.size W w') := Lib.hid fun W hW => hx6 ▸ ck_number_any _ 64 c' 28 2 xs W (by omega) (by omega) hc2 hx' ((hr'.below hW).more hW.size) (by unfold IsSize; omega) (by omega)
  obtain ⟨x7, hx7⟩ : ∃ x, x = num xs 30 2 := ⟨_, rfl⟩
  have l7 : x7 < 65536 := by rw [hx7]; exact num_lt xs 30 2
  have C7 : Hid (∀ W, Below w.heap.size w W → Calls Tryd.prog 28 #[.slice (some ⟨b, q, none⟩) 64 c', .int .i64 30, .int .i64 2] W fun e w' => e = .returned (.int .u64 (x7 : Int)) ∧ Below W.heap.size W w') := Lib.hid fun W hW => hx7 ▸ ck_number_any _ 64 c' 30 2 xs W (by omega) (by omega) hc2 hx' ((hr'.below hW).more hW.size) (by unfold IsSize; omega) (by omega)
  have HI := Lib.hid (wrap_i64_toI l0)
  have HM : Hid ((⟨toI x0, x1, x2, x3, x4, x5, x6, x7⟩ : Ck).may = true) := Lib.hid (by rw [hx0, hx1, hx2, hx3, hx4, hx5, hx6, hx7]; exact hmay)
  have HE : Hid (Value.agg #[.int .i64 (decC xs).b, .int .u32 ((decC xs).ot : Int), .int .u32 ((decC xs).pt : Int), .int .u32 ((decC xs).os : Int), .int .u32 ((decC xs).ps : Int), .int .u32 ((decC xs).rw : Int), .int .u16 ((decC xs).ou : Int), .int .u16 ((decC xs).inn : Int)] = Value.agg #[.int .i64 (toI x0), .int .u32 (x1 : Int), .int .u32 (x2 : Int), .int .u32 (x3 : Int), .int .u32 (x4 : Int), .int .u32 (x5 : Int), .int .u16 (x6 : Int), .int .u16 (x7 : Int)]) := Lib.hid (by rw [hx0, hx1, hx2, hx3, hx4, hx5, hx6, hx7]; rfl)
  clear hx hr hx' hr' hX hY hD hbl hyes hmay hx0 hx1 hx2 hx3 hx4 hx5 hx6 hx7
  rw [HE.out]
  go_enter Tryd.func15, Tryd.ntmps15
  rw [drawn_eq 5, whole_eq 4, whole_eq 7, whole_eq 8]
  go_wp2_with fail
  generalize (w.alloc (.cells #[.int .i64 0, .int .u32 0, .int .u32 0, .int .u32 0, .int .u32 0, .int .u32 0, .int .u16 0, .int .u16 0] 26)).alloc (.cells #[.int .i64 0, .int .u32 0, .int .u32 0, .int .u32 0, .int .u32 0, .int .u32 0, .int .u16 0, .int .u16 0] 26) = w0 at K N B0 ⊢
  obtain ⟨z, hz1⟩ : ∃ z, z = w.heap.size + 1 := ⟨_, rfl⟩
  rw [← hz1] at N
  rw [← hz1]
  have hzz : w.heap.size ≠ z := by omega
  clear hz1
  rw [← whole_eq 4]
  go_wp2_with fail
  refine (refMac_any A n c ks (some ⟨b, q, none⟩) 32 c' X w0 hn HX.out ((HR.out.below B0.out).more B0.out.size) (by omega) HL32.out ((HR32.out.below B0.out).more B0.out.size)).mono ?_
  rintro e w1 ⟨rfl, hb1⟩
  rw [← HD.out]
  have B1 := Lib.hid (below_then B0.out (Nat.le_refl _) hb1)
  have K1 := Lib.hid (K.out.below hb1 K.out.lt)
  have N1 := Lib.hid (N.out.below hb1 N.out.lt)
  clear hb1
  have B2 := Lib.hid (B1.out.alloc B1.out.size (.cells (row8 D) 46))
  have K2 := Lib.hid (K1.out.alloc (.cells (row8 D) 46))
  have N2 := Lib.hid (N1.out.alloc (.cells (row8 D) 46))
  have D2 : Hid (Blk (w1.alloc (.cells (row8 D) 46)) w1.heap.size 46 (row8 D)) := Lib.hid (Blk.new _ _ _)
  go_wp2_with fail
  generalize w1.alloc (.cells (row8 D) 46) = w2 at B2 K2 N2 D2 ⊢
  generalize w1.heap.size = g at D2 ⊢
  rw [← drawn_eq 5]
  have hs1 : ∀ k : Nat, (convert 22 9 (.slice (some ⟨g, 0, none⟩) 32 32)).run Tryd.prog (w2.drewN k) = .ok (.string ⟨D.toArray⟩) (w2.drewN k) := fun k => conv_str (w2.drewN k) w2.heap.size (some ⟨g, 0, none⟩) 32 32 D HDl.out ((RowAt.rd D2.out 0 D (fun j hj => by rw [Nat.zero_add])).drewN k)
  have hs2 : ∀ k : Nat, (convert 22 9 (.slice (some ⟨b, q + 32, none⟩) 32 (c' - 32 : Nat))).run Tryd.prog (w2.drewN k) = .ok (.string ⟨Y.toArray⟩) (w2.drewN k) := fun k => conv_str (w2.drewN k) w.heap.size (some ⟨b, q + 32, none⟩) 32 (c' - 32) Y HLT.out ((HRT.out.below B2.out).drewN k)
  go_quiet (fail)
  have B4 : Hid (Below w.heap.size w (w2.drewN nq)) := Lib.hid (below_drewN B2.out nq)
  have K4 := Lib.hid (K2.out.drewN nq)
  have N4 := Lib.hid (N2.out.drewN nq)
  clear D2 B2 K2 N2 hs1 hs2
  generalize w2.drewN nq = w4 at B4 K4 N4 ⊢
  go_wp2_with fail
  rw [← whole_eq 7]
  go_wp2_with fail
  refine (C0.out _ B4.out).mono ?_
  rintro e v0 ⟨rfl, hb⟩
  have Bv0 := Lib.hid (below_then B4.out (Nat.le_refl _) hb)
  have Kv0 := Lib.hid (K4.out.below hb K4.out.lt)
  have Nv0 := Lib.hid (N4.out.below hb N4.out.lt)
  clear hb
  go_wp2_with fail
  refine (C1.out _ Bv0.out).mono ?_
  rintro e v1 ⟨rfl, hb⟩
  have Bv1 := Lib.hid (below_then Bv0.out (Nat.le_refl _) hb)
  have Kv1 := Lib.hid (Kv0.out.below hb Kv0.out.lt)
  have Nv1 := Lib.hid (Nv0.out.below hb Nv0.out.lt)
  clear hb
  go_wp2_with fail
  refine (C2.out _ Bv1.out).mono ?_
  rintro e v2 ⟨rfl, hb⟩
  have Bv2 := Lib.hid (below_then Bv1.out (Nat.le_refl _) hb)
  have Kv2 := Lib.hid (Kv1.out.below hb Kv1.out.lt)
  have Nv2 := Lib.hid (Nv1.out.below hb Nv1.out.lt)
  clear hb
  go_wp2_with fail
  refine (C3.out _ Bv2.out).mono ?_
  rintro e v3 ⟨rfl, hb⟩
  have Bv3 := Lib.hid (below_then Bv2.out (Nat.le_refl _) hb)
  have Kv3 := Lib.hid (Kv2.out.below hb Kv2.out.lt)
  have Nv3 := Lib.hid (Nv2.out.below hb Nv2.out.lt)
  clear hb
  go_wp2_with fail
  refine (C4.out _ Bv3.out).mono ?_
  rintro e v4 ⟨rfl, hb⟩
  have Bv4 := Lib.hid (below_then Bv3.out (Nat.le_refl _) hb)
  have Kv4 := Lib.hid (Kv3.out.below hb Kv3.out.lt)
  have Nv4 := Lib.hid (Nv3.out.below hb Nv3.out.lt)
  clear hb
  go_wp2_with fail
  refine (C5.out _ Bv4.out).mono ?_
  rintro e v5 ⟨rfl, hb⟩
  have Bv5 := Lib.hid (below_then Bv4.out (Nat.le_refl _) hb)
  have Kv5 := Lib.hid (Kv4.out.below hb Kv4.out.lt)
  have Nv5 := Lib.hid (Nv4.out.below hb Nv4.out.lt)
  clear hb
  go_wp2_with fail
  refine (C6.out _ Bv5.out).mono ?_
  rintro e v6 ⟨rfl, hb⟩
  have Bv6 := Lib.hid (below_then Bv5.out (Nat.le_refl _) hb)
  have Kv6 := Lib.hid (Kv5.out.below hb Kv5.out.lt)
  have Nv6 := Lib.hid (Nv5.out.below hb Nv5.out.lt)
  clear hb
  go_wp2_with fail
  refine (C7.out _ Bv6.out).mono ?_
  rintro e v7 ⟨rfl, hb⟩
  have Bv7 := Lib.hid (below_then Bv6.out (Nat.le_refl _) hb)
  have Kv7 := Lib.hid (Kv6.out.below hb Kv6.out.lt)
  have Nv7 := Lib.hid (Nv6.out.below hb Nv6.out.lt)
  clear hb
  have B6 := Lib.hid (Bv7.out.alloc Bv7.out.size (.cells #[.int .i64 (toI x0), .int .u32 (x1 : Int), .int .u32 (x2 : Int), .int .u32 (x3 : Int), .int .u32 (x4 : Int), .int .u32 (x5 : Int), .int .u16 (x6 : Int), .int .u16 (x7 : Int)] 26))
  have K6 := Lib.hid (Kv7.out.alloc (.cells #[.int .i64 (toI x0), .int .u32 (x1 : Int), .int .u32 (x2 : Int), .int .u32 (x3 : Int), .int .u32 (x4 : Int), .int .u32 (x5 : Int), .int .u16 (x6 : Int), .int .u16 (x7 : Int)] 26))
  have N6 := Lib.hid (Nv7.out.alloc (.cells #[.int .i64 (toI x0), .int .u32 (x1 : Int), .int .u32 (x2 : Int), .int .u32 (x3 : Int), .int .u32 (x4 : Int), .int .u32 (x5 : Int), .int .u16 (x6 : Int), .int .u16 (x7 : Int)] 26))
  have G6 : Hid (Blk (v7.alloc (.cells #[.int .i64 (toI x0), .int .u32 (x1 : Int), .int .u32 (x2 : Int), .int .u32 (x3 : Int), .int .u32 (x4 : Int), .int .u32 (x5 : Int), .int .u16 (x6 : Int), .int .u16 (x7 : Int)] 26)) v7.heap.size 26 #[.int .i64 (toI x0), .int .u32 (x1 : Int), .int .u32 (x2 : Int), .int .u32 (x3 : Int), .int .u32 (x4 : Int), .int .u32 (x5 : Int), .int .u16 (x6 : Int), .int .u16 (x7 : Int)]) := Lib.hid (Blk.new _ _ _)
  rw [HI.out]
  go_wp2_with fail
  generalize v7.alloc (.cells #[.int .i64 (toI x0), .int .u32 (x1 : Int), .int .u32 (x2 : Int), .int .u32 (x3 : Int), .int .u32 (x4 : Int), .int .u32 (x5 : Int), .int .u16 (x6 : Int), .int .u16 (x7 : Int)] 26) = w6 at B6 K6 N6 G6 ⊢
  generalize v7.heap.size = p6 at G6 ⊢
  have g0 : w6.cell? ⟨p6, 0, none⟩ = some (.int .i64 (toI x0)) := G6.out.cell 0
  have g1 : w6.cell? ⟨p6, 1, none⟩ = some (.int .u32 (x1 : Int)) := G6.out.cell 1
  have g2 : w6.cell? ⟨p6, 2, none⟩ = some (.int .u32 (x2 : Int)) := G6.out.cell 2
  have g3 : w6.cell? ⟨p6, 3, none⟩ = some (.int .u32 (x3 : Int)) := G6.out.cell 3
  have g4 : w6.cell? ⟨p6, 4, none⟩ = some (.int .u32 (x4 : Int)) := G6.out.cell 4
  have g5 : w6.cell? ⟨p6, 5, none⟩ = some (.int .u32 (x5 : Int)) := G6.out.cell 5
  have g6 : w6.cell? ⟨p6, 6, none⟩ = some (.int .u16 (x6 : Int)) := G6.out.cell 6
  have g7 : w6.cell? ⟨p6, 7, none⟩ = some (.int .u16 (x7 : Int)) := G6.out.cell 7
  rw [← whole_eq 8]
  go_wp2_with fail
  refine (refMay_any ⟨toI x0, x1, x2, x3, x4, x5, x6, x7⟩ w6).mono ?_
  rintro e w7 ⟨rfl, hb7⟩
  rw [HM.out]
  have B7 := Lib.hid (below_then B6.out (Nat.le_refl _) hb7)
  have K7 := Lib.hid (K6.out.below hb7 K6.out.lt)
  have N7 := Lib.hid (N6.out.below hb7 N6.out.lt)
  have G7 := Lib.hid (G6.out.below hb7 G6.out.lt)
  clear hb7 g0 g1 g2 g3 g4 g5 g6 g7
  have j0 : w7.cell? ⟨w.heap.size, 0, none⟩ = some (.int .i64 0) := K7.out.cell 0
  have jz0 := K7.out.frozen 0
  have j1 : w7.cell? ⟨w.heap.size, 1, none⟩ = some (.int .u32 0) := K7.out.cell 1
  have jz1 := K7.out.frozen 1
  have j2 : w7.cell? ⟨w.heap.size, 2, none⟩ = some (.int .u32 0) := K7.out.cell 2
  have jz2 := K7.out.frozen 2
  have j3 : w7.cell? ⟨w.heap.size, 3, none⟩ = some (.int .u32 0) := K7.out.cell 3
  have jz3 := K7.out.frozen 3
  have j4 : w7.cell? ⟨w.heap.size, 4, none⟩ = some (.int .u32 0) := K7.out.cell 4
  have jz4 := K7.out.frozen 4
  have j5 : w7.cell? ⟨w.heap.size, 5, none⟩ = some (.int .u32 0) := K7.out.cell 5
  have jz5 := K7.out.frozen 5
  have j6 : w7.cell? ⟨w.heap.size, 6, none⟩ = some (.int .u16 0) := K7.out.cell 6
  have jz6 := K7.out.frozen 6
  have j7 : w7.cell? ⟨w.heap.size, 7, none⟩ = some (.int .u16 0) := K7.out.cell 7
  have jz7 := K7.out.frozen 7
  have y0 : w7.cell? ⟨p6, 0, none⟩ = some (.int .i64 (toI x0)) := G7.out.cell 0
  have y1 : w7.cell? ⟨p6, 1, none⟩ = some (.int .u32 (x1 : Int)) := G7.out.cell 1
  have y2 : w7.cell? ⟨p6, 2, none⟩ = some (.int .u32 (x2 : Int)) := G7.out.cell 2
  have y3 : w7.cell? ⟨p6, 3, none⟩ = some (.int .u32 (x3 : Int)) := G7.out.cell 3
  have y4 : w7.cell? ⟨p6, 4, none⟩ = some (.int .u32 (x4 : Int)) := G7.out.cell 4
  have y5 : w7.cell? ⟨p6, 5, none⟩ = some (.int .u32 (x5 : Int)) := G7.out.cell 5
  have y6 : w7.cell? ⟨p6, 6, none⟩ = some (.int .u16 (x6 : Int)) := G7.out.cell 6
  have y7 : w7.cell? ⟨p6, 7, none⟩ = some (.int .u16 (x7 : Int)) := G7.out.cell 7
  go_wp2_with fail
  exact bodyPost_ret (v := .tuple #[.agg #[.int .i64 (toI x0), .int .u32 (x1 : Int), .int .u32 (x2 : Int), .int .u32 (x3 : Int), .int .u32 (x4 : Int), .int .u32 (x5 : Int), .int .u16 (x6 : Int), .int .u16 (x7 : Int)], .int .i64 0]) (by simp [results, Tryd.results15, go_sem, j0, j1, j2, j3, j4, j5, j6, j7]) rfl ⟨rfl, ((((((((B7.out.setCell (p := ⟨w.heap.size, 0, none⟩) (Nat.le_refl _) _).setCell (p := ⟨w.heap.size, 1, none⟩) (Nat.le_refl _) _).setCell (p := ⟨w.heap.size, 2, none⟩) (Nat.le_refl _) _).setCell (p := ⟨w.heap.size, 3, none⟩) (Nat.le_refl _) _).setCell (p := ⟨w.heap.size, 4, none⟩) (Nat.le_refl _) _).setCell (p := ⟨w.heap.size, 5, none⟩) (Nat.le_refl _) _).setCell (p := ⟨w.heap.size, 6, none⟩) (Nat.le_refl _) _).setCell (p := ⟨w.heap.size, 7, none⟩) (Nat.le_refl _) _)⟩

set_option maxRecDepth 100000 in
set_option maxHeartbeats 4000000 in
theorem refCkRead_bad (A A' : Option Addr) (n c c' : Nat) (ks xs : List UInt8) (w : World) (hn : n ≤ 1048576) (hx : ks.length = n) (hr : Rd w w.heap.size A ks) (hc1 : 64 ≤ c') (hc2 : c' ≤ maxLen) (hx' : xs.length = 64) (hr' : Rd w w.heap.size A' xs) (hyes : mac ks (xs.take 32) = xs.drop 32) (hmay : (decC xs).may = false) :
    Calls Tryd.prog 15 #[.slice A n c, .slice A' 64 c'] w fun e w' => e = .returned (.tuple #[.agg #[.int .i64 0, .int .u32 0, .int .u32 0, .int .u32 0, .int .u32 0, .int .u32 0, .int .u16 0, .int .u16 0], .int .i64 7]) ∧ Below w.heap.size w w' := by
  have HR := Lib.hid hr
  have HX := Lib.hid hx
  have HR' := Lib.hid hr'
  have HX' := Lib.hid hx'
  obtain ⟨b, q, rfl, hbl, _⟩ := hr'.at_ (by rintro rfl; simp at hx')
  have HR32 := Lib.hid (hr'.take_ 32)
  have hc32 : ¬ c' = 32 := by omega
  have hc32' : 32 ≤ c' := by omega
  have HRT : Hid (Rd w w.heap.size (some ⟨b, q + 32, none⟩) (xs.drop 32)) := Lib.hid (by
    have h := hr'.cut 32 32
    rw [List.take_of_length_le (by rw [List.length_drop]; omega), Option.map_some, Addr.add_lit] at h
    exact h)
  have HL32 : Hid ((xs.take 32).length = 32) := Lib.hid (by rw [List.length_take]; omega)
  have HLT : Hid ((xs.drop 32).length = 32) := Lib.hid (by rw [List.length_drop]; omega)
  obtain ⟨X, hX⟩ : ∃ X, X = xs.take 32 := ⟨_, rfl⟩
  obtain ⟨Y, hY⟩ : ∃ Y, Y = xs.drop 32 := ⟨_, rfl⟩
  rw [← hX] at HR32 HL32
  rw [← hY] at HRT HLT
  obtain ⟨D, hD⟩ : ∃ D, D = mac ks X := ⟨_, rfl⟩
  have HD := Lib.hid hD
  have HDl := Lib.hid (show D.length = 32 by rw [hD, length_mac])
  have hszD : (row8 D).size = 32 := by rw [size_row8, HDl.out]
  have hst := (fun W : World => run_storeCells_new (P := Tryd.prog) W 46 #[.int .u8 0, .int .u8 0, .int .u8 0, .int .u8 0, .int .u8 0, .int .u8 0, .int .u8 0, .int .u8 0, .int .u8 0, .int .u8 0, .int .u8 0, .int .u8 0, .int .u8 0, .int .u8 0, .int .u8 0, .int .u8 0, .int .u8 0, .int .u8 0, .int .u8 0, .int .u8 0, .int .u8 0, .int .u8 0, .int .u8 0, .int .u8 0, .int .u8 0, .int .u8 0, .int .u8 0, .int .u8 0, .int .u8 0, .int .u8 0, .int .u8 0, .int .u8 0] (row8 D) ((show (Tryd.prog.info? 46).map (·.size) = some 32 by kernel_rfl).trans (by rw [size_row8, HDl.out])) (by rw [size_row8, HDl.out]; rfl) (row8_one _))
  have hsl : ∀ (W : World) (r : Nat), (Instr.sliceAt 46 (.pointer (some ⟨r, 0, none⟩)) none none none).run Tryd.prog W = .ok (.slice (some ⟨r, 0, none⟩) 32 32) W := fun W r => slice_whole Tryd.underlying46 (by kernel_rfl) _ _ W
  have hz := zero_cookie
  have K := Lib.hid ((Blk.new w 26 #[.int .i64 0, .int .u32 0, .int .u32 0, .int .u32 0, .int .u32 0, .int .u32 0, .int .u16 0, .int .u16 0]).alloc (.cells #[.int .i64 0, .int .u32 0, .int .u32 0, .int .u32 0, .int .u32 0, .int .u32 0, .int .u16 0, .int .u16 0] 26))
  have N := Lib.hid (show Blk ((w.alloc (.cells #[.int .i64 0, .int .u32 0, .int .u32 0, .int .u32 0, .int .u32 0, .int .u32 0, .int .u16 0, .int .u16 0] 26)).alloc (.cells #[.int .i64 0, .int .u32 0, .int .u32 0, .int .u32 0, .int .u32 0, .int .u32 0, .int .u16 0, .int .u16 0] 26)) (w.heap.size + 1) 26 #[.int .i64 0, .int .u32 0, .int .u32 0, .int .u32 0, .int .u32 0, .int .u32 0, .int .u16 0, .int .u16 0] by simpa using Blk.new (w.alloc (.cells #[.int .i64 0, .int .u32 0, .int .u32 0, .int .u32 0, .int .u32 0, .int .u32 0, .int .u16 0, .int .u16 0] 26)) 26 #[.int .i64 0, .int .u32 0, .int .u32 0, .int .u32 0, .int .u32 0, .int .u32 0, .int .u16 0, .int .u16 0])
  have B0 := Lib.hid ((below_new w (.cells #[.int .i64 0, .int .u32 0, .int .u32 0, .int .u32 0, .int .u32 0, .int .u32 0, .int .u16 0, .int .u16 0] 26)).alloc (below_new w (.cells #[.int .i64 0, .int .u32 0, .int .u32 0, .int .u32 0, .int .u32 0, .int .u32 0, .int .u16 0, .int .u16 0] 26)).size (.cells #[.int .i64 0, .int .u32 0, .int .u32 0, .int .u32 0, .int .u32 0, .int .u32 0, .int .u16 0, .int .u16 0] 26))
  have HQ : (D == Y) = true := by rw [beq_iff_eq, hD, hX, hY]; exact hyes
  have HXS := Lib.hid hx'
  obtain ⟨x0, hx0⟩ : ∃ x, x = num xs 0 8 := ⟨_, rfl⟩
  have l0 : x0 < 18446744073709551616 := by rw [hx0]; exact num_lt xs 0 8
  have C0 : Hid (∀ W, Below w.heap.size w W → Calls Tryd.prog 28 #[.slice (some ⟨b, q, none⟩) 64 c', .int .i64 0, .int .i64 8] W fun e w' => e = .returned (.int .u64 (x0 : Int)) ∧ Below W.heap.size W w') := Lib.hid fun W hW => hx0 ▸ ck_number_any _ 64 c' 0 8 xs W (by omega) (by omega) hc2 hx' ((hr'.below hW).more hW.size) (by unfold IsSize; omega) (by omega)
  obtain ⟨x1, hx1⟩ : ∃ x, x = num xs 8 4 := ⟨_, rfl⟩
  have l1 : x1 < 4294967296 := by rw [hx1]; exact num_lt xs 8 4
  have C1 : Hid (∀ W, Below w.heap.size w W → Calls Tryd.prog 28 #[.slice (some ⟨b, q, none⟩) 64 c', .int .i64 8, .int .i64 4] W fun e w' => e = .returned (.int .u64 (x1 : Int)) ∧ Below W.heap.size W w') := Lib.hid fun W hW => hx1 ▸ ck_number_any _ 64 c' 8 4 xs W (by omega) (by omega) hc2 hx' ((hr'.below hW).more hW.size) (by unfold IsSize; omega) (by omega)
  obtain ⟨x2, hx2⟩ : ∃ x, x = num xs 12 4 := ⟨_, rfl⟩
  have l2 : x2 < 4294967296 := by rw [hx2]; exact num_lt xs 12 4
  have C2 : Hid (∀ W, Below w.heap.size w W → Calls Tryd.prog 28 #[.slice (some ⟨b, q, none⟩) 64 c', .int .i64 12, .int .i64 4] W fun e w' => e = .returned (.int .u64 (x2 : Int)) ∧ Below W.heap.size W w') := Lib.hid fun W hW => hx2 ▸ ck_number_any _ 64 c' 12 4 xs W (by omega) (by omega) hc2 hx' ((hr'.below hW).more hW.size) (by unfold IsSize; omega) (by omega)
  obtain ⟨x3, hx3⟩ : ∃ x, x = num xs 16 4 := ⟨_, rfl⟩
  have l3 : x3 < 4294967296 := by rw [hx3]; exact num_lt xs 16 4
  have C3 : Hid (∀ W, Below w.heap.size w W → Calls Tryd.prog 28 #[.slice (some ⟨b, q, none⟩) 64 c', .int .i64 16, .int .i64 4] W fun e w' => e = .returned (.int .u64 (x3 : Int)) ∧ Below W.heap.size W w') := Lib.hid fun W hW => hx3 ▸ ck_number_any _ 64 c' 16 4 xs W (by omega) (by omega) hc2 hx' ((hr'.below hW).more hW.size) (by unfold IsSize; omega) (by omega)
  obtain ⟨x4, hx4⟩ : ∃ x, x = num xs 20 4 := ⟨_, rfl⟩
  have l4 : x4 < 4294967296 := by rw [hx4]; exact num_lt xs 20 4
  have C4 : Hid (∀ W, Below w.heap.size w W → Calls Tryd.prog 28 #[.slice (some ⟨b, q, none⟩) 64 c', .int .i64 20, .int .i64 4] W fun e w' => e = .returned (.int .u64 (x4 : Int)) ∧ Below W.heap.size W w') := Lib.hid fun W hW => hx4 ▸ ck_number_any _ 64 c' 20 4 xs W (by omega) (by omega) hc2 hx' ((hr'.below hW).more hW.size) (by unfold IsSize; omega) (by omega)
  obtain ⟨x5, hx5⟩ : ∃ x, x = num xs 24 4 := ⟨_, rfl⟩
  have l5 : x5 < 4294967296 := by rw [hx5]; exact num_lt xs 24 4
  have C5 : Hid (∀ W, Below w.heap.size w W → Calls Tryd.prog 28 #[.slice (some ⟨b, q, none⟩) 64 c', .int .i64 24, .int .i64 4] W fun e w' => e = .returned (.int .u64 (x5 : Int)) ∧ Below W.heap.size W w') := Lib.hid fun W hW => hx5 ▸ ck_number_any _ 64 c' 24 4 xs W (by omega) (by omega) hc2 hx' ((hr'.below hW).more hW.size) (by unfold IsSize; omega) (by omega)
  obtain ⟨x6, hx6⟩ : ∃ x, x = num xs 28 2 := ⟨_, rfl⟩
  have l6 : x6 < 65536 := by rw [hx6]; exact num_lt xs 28 2
  have C6 : Hid (∀ W, Below w.heap.size w W → Calls Tryd.prog 28 #[.slice (some ⟨b, q, none⟩) 64 c', .int .i64 28, .int .i64 2] W fun e w' => e = .returned (.int .u64 (x6 : Int)) ∧ Below W.heap.size W w') := Lib.hid fun W hW => hx6 ▸ ck_number_any _ 64 c' 28 2 xs W (by omega) (by omega) hc2 hx' ((hr'.below hW).more hW.size) (by unfold IsSize; omega) (by omega)
  obtain ⟨x7, hx7⟩ : ∃ x, x = num xs 30 2 := ⟨_, rfl⟩
  have l7 : x7 < 65536 := by rw [hx7]; exact num_lt xs 30 2
  have C7 : Hid (∀ W, Below w.heap.size w W → Calls Tryd.prog 28 #[.slice (some ⟨b, q, none⟩) 64 c', .int .i64 30, .int .i64 2] W fun e w' => e = .returned (.int .u64 (x7 : Int)) ∧ Below W.heap.size W w') := Lib.hid fun W hW => hx7 ▸ ck_number_any _ 64 c' 30 2 xs W (by omega) (by omega) hc2 hx' ((hr'.below hW).more hW.size) (by unfold IsSize; omega) (by omega)
  have HI := Lib.hid (wrap_i64_toI l0)
  have HM : Hid ((⟨toI x0, x1, x2, x3, x4, x5, x6, x7⟩ : Ck).may = false) := Lib.hid (by rw [hx0, hx1, hx2, hx3, hx4, hx5, hx6, hx7]; exact hmay)
  have HE : Hid (Value.agg #[.int .i64 (decC xs).b, .int .u32 ((decC xs).ot : Int), .int .u32 ((decC xs).pt : Int), .int .u32 ((decC xs).os : Int), .int .u32 ((decC xs).ps : Int), .int .u32 ((decC xs).rw : Int), .int .u16 ((decC xs).ou : Int), .int .u16 ((decC xs).inn : Int)] = Value.agg #[.int .i64 (toI x0), .int .u32 (x1 : Int), .int .u32 (x2 : Int), .int .u32 (x3 : Int), .int .u32 (x4 : Int), .int .u32 (x5 : Int), .int .u16 (x6 : Int), .int .u16 (x7 : Int)]) := Lib.hid (by rw [hx0, hx1, hx2, hx3, hx4, hx5, hx6, hx7]; rfl)
  clear hx hr hx' hr' hX hY hD hbl hyes hmay hx0 hx1 hx2 hx3 hx4 hx5 hx6 hx7
  go_enter Tryd.func15, Tryd.ntmps15
  rw [drawn_eq 5, whole_eq 4, whole_eq 7, whole_eq 8]
  go_wp2_with fail
  generalize (w.alloc (.cells #[.int .i64 0, .int .u32 0, .int .u32 0, .int .u32 0, .int .u32 0, .int .u32 0, .int .u16 0, .int .u16 0] 26)).alloc (.cells #[.int .i64 0, .int .u32 0, .int .u32 0, .int .u32 0, .int .u32 0, .int .u32 0, .int .u16 0, .int .u16 0] 26) = w0 at K N B0 ⊢
  obtain ⟨z, hz1⟩ : ∃ z, z = w.heap.size + 1 := ⟨_, rfl⟩
  rw [← hz1] at N
  rw [← hz1]
  have hzz : w.heap.size ≠ z := by omega
  clear hz1
  rw [← whole_eq 4]
  go_wp2_with fail
  refine (refMac_any A n c ks (some ⟨b, q, none⟩) 32 c' X w0 hn HX.out ((HR.out.below B0.out).more B0.out.size) (by omega) HL32.out ((HR32.out.below B0.out).more B0.out.size)).mono ?_
  rintro e w1 ⟨rfl, hb1⟩
  rw [← HD.out]
  have B1 := Lib.hid (below_then B0.out (Nat.le_refl _) hb1)
  have K1 := Lib.hid (K.out.below hb1 K.out.lt)
  have N1 := Lib.hid (N.out.below hb1 N.out.lt)
  clear hb1
  have B2 := Lib.hid (B1.out.alloc B1.out.size (.cells (row8 D) 46))
  have K2 := Lib.hid (K1.out.alloc (.cells (row8 D) 46))
  have N2 := Lib.hid (N1.out.alloc (.cells (row8 D) 46))
  have D2 : Hid (Blk (w1.alloc (.cells (row8 D) 46)) w1.heap.size 46 (row8 D)) := Lib.hid (Blk.new _ _ _)
  go_wp2_with fail
  generalize w1.alloc (.cells (row8 D) 46) = w2 at B2 K2 N2 D2 ⊢
  generalize w1.heap.size = g at D2 ⊢
  rw [← drawn_eq 5]
  have hs1 : ∀ k : Nat, (convert 22 9 (.slice (some ⟨g, 0, none⟩) 32 32)).run Tryd.prog (w2.drewN k) = .ok (.string ⟨D.toArray⟩) (w2.drewN k) := fun k => conv_str (w2.drewN k) w2.heap.size (some ⟨g, 0, none⟩) 32 32 D HDl.out ((RowAt.rd D2.out 0 D (fun j hj => by rw [Nat.zero_add])).drewN k)
  have hs2 : ∀ k : Nat, (convert 22 9 (.slice (some ⟨b, q + 32, none⟩) 32 (c' - 32 : Nat))).run Tryd.prog (w2.drewN k) = .ok (.string ⟨Y.toArray⟩) (w2.drewN k) := fun k => conv_str (w2.drewN k) w.heap.size (some ⟨b, q + 32, none⟩) 32 (c' - 32) Y HLT.out ((HRT.out.below B2.out).drewN k)
  go_quiet (fail)
  have B4 : Hid (Below w.heap.size w (w2.drewN nq)) := Lib.hid (below_drewN B2.out nq)
  have K4 := Lib.hid (K2.out.drewN nq)
  have N4 := Lib.hid (N2.out.drewN nq)
  clear D2 B2 K2 N2 hs1 hs2
  generalize w2.drewN nq = w4 at B4 K4 N4 ⊢
  go_wp2_with fail
  rw [← whole_eq 7]
  go_wp2_with fail
  refine (C0.out _ B4.out).mono ?_
  rintro e v0 ⟨rfl, hb⟩
  have Bv0 := Lib.hid (below_then B4.out (Nat.le_refl _) hb)
  have Kv0 := Lib.hid (K4.out.below hb K4.out.lt)
  have Nv0 := Lib.hid (N4.out.below hb N4.out.lt)
  clear hb
  go_wp2_with fail
  refine (C1.out _ Bv0.out).mono ?_
  rintro e v1 ⟨rfl, hb⟩
  have Bv1 := Lib.hid (below_then Bv0.out (Nat.le_refl _) hb)
  have Kv1 := Lib.hid (Kv0.out.below hb Kv0.out.lt)
  have Nv1 := Lib.hid (Nv0.out.below hb Nv0.out.lt)
  clear hb
  go_wp2_with fail
  refine (C2.out _ Bv1.out).mono ?_
  rintro e v2 ⟨rfl, hb⟩
  have Bv2 := Lib.hid (below_then Bv1.out (Nat.le_refl _) hb)
  have Kv2 := Lib.hid (Kv1.out.below hb Kv1.out.lt)
  have Nv2 := Lib.hid (Nv1.out.below hb Nv1.out.lt)
  clear hb
  go_wp2_with fail
  refine (C3.out _ Bv2.out).mono ?_
  rintro e v3 ⟨rfl, hb⟩
  have Bv3 := Lib.hid (below_then Bv2.out (Nat.le_refl _) hb)
  have Kv3 := Lib.hid (Kv2.out.below hb Kv2.out.lt)
  have Nv3 := Lib.hid (Nv2.out.below hb Nv2.out.lt)
  clear hb
  go_wp2_with fail
  refine (C4.out _ Bv3.out).mono ?_
  rintro e v4 ⟨rfl, hb⟩
  have Bv4 := Lib.hid (below_then Bv3.out (Nat.le_refl _) hb)
  have Kv4 := Lib.hid (Kv3.out.below hb Kv3.out.lt)
  have Nv4 := Lib.hid (Nv3.out.below hb Nv3.out.lt)
  clear hb
  go_wp2_with fail
  refine (C5.out _ Bv4.out).mono ?_
  rintro e v5 ⟨rfl, hb⟩
  have Bv5 := Lib.hid (below_then Bv4.out (Nat.le_refl _) hb)
  have Kv5 := Lib.hid (Kv4.out.below hb Kv4.out.lt)
  have Nv5 := Lib.hid (Nv4.out.below hb Nv4.out.lt)
  clear hb
  go_wp2_with fail
  refine (C6.out _ Bv5.out).mono ?_
  rintro e v6 ⟨rfl, hb⟩
  have Bv6 := Lib.hid (below_then Bv5.out (Nat.le_refl _) hb)
  have Kv6 := Lib.hid (Kv5.out.below hb Kv5.out.lt)
  have Nv6 := Lib.hid (Nv5.out.below hb Nv5.out.lt)
  clear hb
  go_wp2_with fail
  refine (C7.out _ Bv6.out).mono ?_
  rintro e v7 ⟨rfl, hb⟩
  have Bv7 := Lib.hid (below_then Bv6.out (Nat.le_refl _) hb)
  have Kv7 := Lib.hid (Kv6.out.below hb Kv6.out.lt)
  have Nv7 := Lib.hid (Nv6.out.below hb Nv6.out.lt)
  clear hb
  have B6 := Lib.hid (Bv7.out.alloc Bv7.out.size (.cells #[.int .i64 (toI x0), .int .u32 (x1 : Int), .int .u32 (x2 : Int), .int .u32 (x3 : Int), .int .u32 (x4 : Int), .int .u32 (x5 : Int), .int .u16 (x6 : Int), .int .u16 (x7 : Int)] 26))
  have K6 := Lib.hid (Kv7.out.alloc (.cells #[.int .i64 (toI x0), .int .u32 (x1 : Int), .int .u32 (x2 : Int), .int .u32 (x3 : Int), .int .u32 (x4 : Int), .int .u32 (x5 : Int), .int .u16 (x6 : Int), .int .u16 (x7 : Int)] 26))
  have N6 := Lib.hid (Nv7.out.alloc (.cells #[.int .i64 (toI x0), .int .u32 (x1 : Int), .int .u32 (x2 : Int), .int .u32 (x3 : Int), .int .u32 (x4 : Int), .int .u32 (x5 : Int), .int .u16 (x6 : Int), .int .u16 (x7 : Int)] 26))
  have G6 : Hid (Blk (v7.alloc (.cells #[.int .i64 (toI x0), .int .u32 (x1 : Int), .int .u32 (x2 : Int), .int .u32 (x3 : Int), .int .u32 (x4 : Int), .int .u32 (x5 : Int), .int .u16 (x6 : Int), .int .u16 (x7 : Int)] 26)) v7.heap.size 26 #[.int .i64 (toI x0), .int .u32 (x1 : Int), .int .u32 (x2 : Int), .int .u32 (x3 : Int), .int .u32 (x4 : Int), .int .u32 (x5 : Int), .int .u16 (x6 : Int), .int .u16 (x7 : Int)]) := Lib.hid (Blk.new _ _ _)
  rw [HI.out]
  go_wp2_with fail
  generalize v7.alloc (.cells #[.int .i64 (toI x0), .int .u32 (x1 : Int), .int .u32 (x2 : Int), .int .u32 (x3 : Int), .int .u32 (x4 : Int), .int .u32 (x5 : Int), .int .u16 (x6 : Int), .int .u16 (x7 : Int)] 26) = w6 at B6 K6 N6 G6 ⊢
  generalize v7.heap.size = p6 at G6 ⊢
  have g0 : w6.cell? ⟨p6, 0, none⟩ = some (.int .i64 (toI x0)) := G6.out.cell 0
  have g1 : w6.cell? ⟨p6, 1, none⟩ = some (.int .u32 (x1 : Int)) := G6.out.cell 1
  have g2 : w6.cell? ⟨p6, 2, none⟩ = some (.int .u32 (x2 : Int)) := G6.out.cell 2
  have g3 : w6.cell? ⟨p6, 3, none⟩ = some (.int .u32 (x3 : Int)) := G6.out.cell 3
  have g4 : w6.cell? ⟨p6, 4, none⟩ = some (.int .u32 (x4 : Int)) := G6.out.cell 4
  have g5 : w6.cell? ⟨p6, 5, none⟩ = some (.int .u32 (x5 : Int)) := G6.out.cell 5
  have g6 : w6.cell? ⟨p6, 6, none⟩ = some (.int .u16 (x6 : Int)) := G6.out.cell 6
  have g7 : w6.cell? ⟨p6, 7, none⟩ = some (.int .u16 (x7 : Int)) := G6.out.cell 7
  rw [← whole_eq 8]
  go_wp2_with fail
  refine (refMay_any ⟨toI x0, x1, x2, x3, x4, x5, x6, x7⟩ w6).mono ?_
  rintro e w7 ⟨rfl, hb7⟩
  rw [HM.out]
  have B7 := Lib.hid (below_then B6.out (Nat.le_refl _) hb7)
  have K7 := Lib.hid (K6.out.below hb7 K6.out.lt)
  have N7 := Lib.hid (N6.out.below hb7 N6.out.lt)
  have G7 := Lib.hid (G6.out.below hb7 G6.out.lt)
  clear hb7 g0 g1 g2 g3 g4 g5 g6 g7
  have j0 : w7.cell? ⟨w.heap.size, 0, none⟩ = some (.int .i64 0) := K7.out.cell 0
  have jz0 := K7.out.frozen 0
  have j1 : w7.cell? ⟨w.heap.size, 1, none⟩ = some (.int .u32 0) := K7.out.cell 1
  have jz1 := K7.out.frozen 1
  have j2 : w7.cell? ⟨w.heap.size, 2, none⟩ = some (.int .u32 0) := K7.out.cell 2
  have jz2 := K7.out.frozen 2
  have j3 : w7.cell? ⟨w.heap.size, 3, none⟩ = some (.int .u32 0) := K7.out.cell 3
  have jz3 := K7.out.frozen 3
  have j4 : w7.cell? ⟨w.heap.size, 4, none⟩ = some (.int .u32 0) := K7.out.cell 4
  have jz4 := K7.out.frozen 4
  have j5 : w7.cell? ⟨w.heap.size, 5, none⟩ = some (.int .u32 0) := K7.out.cell 5
  have jz5 := K7.out.frozen 5
  have j6 : w7.cell? ⟨w.heap.size, 6, none⟩ = some (.int .u16 0) := K7.out.cell 6
  have jz6 := K7.out.frozen 6
  have j7 : w7.cell? ⟨w.heap.size, 7, none⟩ = some (.int .u16 0) := K7.out.cell 7
  have jz7 := K7.out.frozen 7
  have n0 : w7.cell? ⟨z, 0, none⟩ = some (.int .i64 0) := N7.out.cell 0
  have n1 : w7.cell? ⟨z, 1, none⟩ = some (.int .u32 0) := N7.out.cell 1
  have n2 : w7.cell? ⟨z, 2, none⟩ = some (.int .u32 0) := N7.out.cell 2
  have n3 : w7.cell? ⟨z, 3, none⟩ = some (.int .u32 0) := N7.out.cell 3
  have n4 : w7.cell? ⟨z, 4, none⟩ = some (.int .u32 0) := N7.out.cell 4
  have n5 : w7.cell? ⟨z, 5, none⟩ = some (.int .u32 0) := N7.out.cell 5
  have n6 : w7.cell? ⟨z, 6, none⟩ = some (.int .u16 0) := N7.out.cell 6
  have n7 : w7.cell? ⟨z, 7, none⟩ = some (.int .u16 0) := N7.out.cell 7
  go_wp2_with fail
  exact bodyPost_ret (v := .tuple #[.agg #[.int .i64 0, .int .u32 0, .int .u32 0, .int .u32 0, .int .u32 0, .int .u32 0, .int .u16 0, .int .u16 0], .int .i64 7]) (by simp [results, Tryd.results15, go_sem, j0, j1, j2, j3, j4, j5, j6, j7]) rfl ⟨rfl, ((((((((B7.out.setCell (p := ⟨w.heap.size, 0, none⟩) (Nat.le_refl _) _).setCell (p := ⟨w.heap.size, 1, none⟩) (Nat.le_refl _) _).setCell (p := ⟨w.heap.size, 2, none⟩) (Nat.le_refl _) _).setCell (p := ⟨w.heap.size, 3, none⟩) (Nat.le_refl _) _).setCell (p := ⟨w.heap.size, 4, none⟩) (Nat.le_refl _) _).setCell (p := ⟨w.heap.size, 5, none⟩) (Nat.le_refl _) _).setCell (p := ⟨w.heap.size, 6, none⟩) (Nat.le_refl _) _).setCell (p := ⟨w.heap.size, 7, none⟩) (Nat.le_refl _) _)⟩

theorem refCkRead_any (A A' : Option Addr) (n c n' c' : Nat) (ks xs : List UInt8) (w : World) (hx : ks.length = n) (hr : Rd w w.heap.size A ks) (hl : n ≤ 1048576) (hn' : n' ≤ c') (hc' : c' ≤ maxLen) (hx' : xs.length = n') (hr' : Rd w w.heap.size A' xs) :
    Calls Tryd.prog 15 #[.slice A n c, .slice A' n' c'] w fun e w' => e = .returned (.tuple #[.agg #[.int .i64 (ansC (rdC ks xs)).b, .int .u32 ((ansC (rdC ks xs)).ot : Int), .int .u32 ((ansC (rdC ks xs)).pt : Int), .int .u32 ((ansC (rdC ks xs)).os : Int), .int .u32 ((ansC (rdC ks xs)).ps : Int), .int .u32 ((ansC (rdC ks xs)).rw : Int), .int .u16 ((ansC (rdC ks xs)).ou : Int), .int .u16 ((ansC (rdC ks xs)).inn : Int)], .int .i64 (errC (rdC ks xs))]) ∧ Below w.heap.size w w' := by
  unfold rdC
  by_cases h64 : n' = 64
  · subst h64
    rw [if_neg (by rw [hx']; decide)]
    by_cases hm : mac ks (xs.take 32) = xs.drop 32
    · rw [if_neg (fun h => h hm)]
      cases hmay : (decC xs).may with
      | true => exact refCkRead_ok A A' n c c' ks xs w hl hx hr hn' hc' hx' hr' hm hmay
      | false => exact refCkRead_bad A A' n c c' ks xs w hl hx hr hn' hc' hx' hr' hm hmay
    · rw [if_pos hm]
      exact refCkRead_mac A A' n c c' ks xs w hl hx hr hn' hc' hx' hr' hm
  · rw [if_pos (by rw [hx']; exact h64)]
    exact refCkRead_len A A' n c n' c' w (Nat.le_trans hn' hc') h64

end Go.Proofs.YtnnkgdkjmmljiaaDoor
