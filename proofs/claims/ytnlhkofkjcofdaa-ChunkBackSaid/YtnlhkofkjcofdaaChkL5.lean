/-
  ChunkBack, walked.
-/
import Derived.Test.YtnlhkofkjcofdaaChkF
import Derived.Test.YtnlhkofkjcofdaaGrowT
import Derived.Test.YtnlhkofkjcofdaaNums
namespace Go.Proofs.Ytnlhkofkjcofdaa
open Go.RowKit
set_option linter.unusedVariables false

set_option maxHeartbeats 2000000 in
/-- A chunk of many bytes, or many bytes behind it. -/
theorem chunkBack_big (k f : UInt8) (A : Option Addr) (n c : Nat) (A' : Option Addr) (n' c' : Nat) (w : World) (h : 131072 < n ∨ (n ≤ 131072 ∧ 4096 < n')) :
    Calls Try.prog 5 #[.agg #[.int .u8 (k.toNat : Int), .int .u8 (f.toNat : Int), .slice A n c], .slice A' n' c'] w fun e w' => e = .returned (.bool true) ∧ Below w.heap.size w w' := by
  have B0 := Lib.hid (below_new w (.cells #[.int .u8 (k.toNat : Int), .int .u8 (f.toNat : Int), .slice A n c] 24))
  rcases h with h | ⟨h, h2⟩
  · go_enter Try.func5, Try.ntmps5
    go_wp2_with fail
    refine (large_yes _ _ A n c _ h).mono ?_
    rintro e w1 ⟨rfl, hb1⟩
    have B1 := Lib.hid (below_then B0.out (Nat.le_refl _) hb1)
    clear hb1
    go_wp2_with fail
    refine (works_any _).mono ?_
    rintro e w2 ⟨rfl, hb⟩
    go_wp2_with fail
    go_ret
    exact ⟨rfl, below_then B1.out (Nat.le_refl _) hb⟩
  · go_enter Try.func5, Try.ntmps5
    go_wp2_with fail
    refine (large_no _ _ A n c _ h).mono ?_
    rintro e w1 ⟨rfl, hb1⟩
    have B1 := Lib.hid (below_then B0.out (Nat.le_refl _) hb1)
    clear hb1
    go_wp2_with fail
    refine (works_any _).mono ?_
    rintro e w2 ⟨rfl, hb⟩
    go_wp2_with fail
    go_ret
    exact ⟨rfl, below_then B1.out (Nat.le_refl _) hb⟩

set_option maxHeartbeats 2000000 in
/-- A chunk that may not be. -/
theorem chunkBack_mid (k f : UInt8) (A : Option Addr) (n c : Nat) (xs : List UInt8) (A' : Option Addr) (n' c' : Nat) (w : World) (h : n ≤ 131072) (h2 : n' ≤ 4096) (h3 : 65531 < n) (hx : xs.length = n) (hr : Rd w w.heap.size A xs) :
    Calls Try.prog 5 #[.agg #[.int .u8 (k.toNat : Int), .int .u8 (f.toNat : Int), .slice A n c], .slice A' n' c'] w fun e w' => e = .returned (.bool true) ∧ Below w.heap.size w w' := by
  have B0 := Lib.hid (below_new w (.cells #[.int .u8 (k.toNat : Int), .int .u8 (f.toNat : Int), .slice A n c] 24))
  have K0 := Lib.hid (Blk.new w 24 #[.int .u8 (k.toNat : Int), .int .u8 (f.toNat : Int), .slice A n c])
  clear hx hr
  go_enter Try.func5, Try.ntmps5
  go_wp2_with fail
  refine (large_no _ _ A n c _ h).mono ?_
  rintro e w1 ⟨rfl, hb1⟩
  have B1 := Lib.hid (below_then B0.out (Nat.le_refl _) hb1)
  have K1 := Lib.hid (K0.out.below hb1 K0.out.lt)
  have k0 : w1.cell? ⟨w.heap.size, 0, none⟩ = some (.int .u8 (k.toNat : Int)) := K1.out.cell 0
  have k1 : w1.cell? ⟨w.heap.size, 1, none⟩ = some (.int .u8 (f.toNat : Int)) := K1.out.cell 1
  have k2 : w1.cell? ⟨w.heap.size, 2, none⟩ = some (.slice A n c) := K1.out.cell 2
  clear hb1
  go_wp2_with fail
  refine (write_big k f A n c w1 h3).mono ?_
  rintro e w2 ⟨rfl, hb2⟩
  have B2 := Lib.hid (below_then B1.out (Nat.le_refl _) hb2)
  have g2 : w2.cell? ⟨w.heap.size, 2, none⟩ = some (.slice A n c) := (K1.out.below hb2 K1.out.lt).cell 2
  clear hb2 k0 k1 k2
  go_wp2_with fail
  refine (works_any _).mono ?_
  rintro e w3 ⟨rfl, hb⟩
  go_wp2_with fail
  go_ret
  exact ⟨rfl, below_then B2.out (Nat.le_refl _) hb⟩

set_option maxRecDepth 100000 in
set_option maxHeartbeats 2000000 in
theorem chunkBack_small (k f : UInt8) (A : Option Addr) (n c : Nat) (xs : List UInt8) (A' : Option Addr) (n' c' : Nat) (ys : List UInt8) (w : World) (h : n ≤ 65531) (h2 : n' ≤ 4096) (hx : xs.length = n) (hr : Rd w w.heap.size A xs)
    (hc' : n' ≤ c') (hcm' : c' ≤ maxLen) (hx' : ys.length = n') (hr' : Rd w w.heap.size A' ys) :
    Calls Try.prog 5 #[.agg #[.int .u8 (k.toNat : Int), .int .u8 (f.toNat : Int), .slice A n c], .slice A' n' c'] w fun e w' => e = .returned (.bool true) ∧ Below w.heap.size w w' := by
  obtain ⟨i8, h8⟩ := Try.ty8
  obtain ⟨M, hM⟩ : ∃ M, M = (wrt k f xs).length := ⟨_, rfl⟩
  have hMU : M = up4 (4 + n) := by rw [hM, length_wrt (by omega), hx]
  have hMb := up4_bd (4 + n)
  rw [← hMU] at hMb
  have hM4 : ((M : Int) % 4 != 0) = false := by rw [bne_eq_false_iff_eq]; rw [hMU]; unfold up4; omega
  have HM := Lib.hid hM
  have HMU := Lib.hid hMU
  have B0 := Lib.hid (below_new w (.cells #[.int .u8 (k.toNat : Int), .int .u8 (f.toNat : Int), .slice A n c] 24))
  have K0 := Lib.hid (Blk.new w 24 #[.int .u8 (k.toNat : Int), .int .u8 (f.toNat : Int), .slice A n c])
  have HX := Lib.hid hx
  have HR := Lib.hid hr
  have HX' := Lib.hid hx'
  have HR' := Lib.hid hr'
  have HCM' := Lib.hid hcm'
  have hz := zero_chunk
  clear hx hr hM hMU hx' hr' hcm'
  go_enter Try.func5, Try.ntmps5
  go_wp2_with fail
  refine (large_no _ _ A n c _ (by omega)).mono ?_
  rintro e w1 ⟨rfl, hb1⟩
  have B1 := Lib.hid (below_then B0.out (Nat.le_refl _) hb1)
  have K1 := Lib.hid (K0.out.below hb1 K0.out.lt)
  have k0 : w1.cell? ⟨w.heap.size, 0, none⟩ = some (.int .u8 (k.toNat : Int)) := K1.out.cell 0
  have k1 : w1.cell? ⟨w.heap.size, 1, none⟩ = some (.int .u8 (f.toNat : Int)) := K1.out.cell 1
  have k2 : w1.cell? ⟨w.heap.size, 2, none⟩ = some (.slice A n c) := K1.out.cell 2
  clear hb1
  go_wp2_with fail
  refine (write_any k f A n c xs w1 HX.out ((HR.out.below B1.out).more B1.out.size)).mono ?_
  rintro e w2 ⟨A2, m2, c2, rfl, ho2, hb2⟩
  have hm2 : m2 = M := by rw [HM.out, ho2.len]
  subst hm2
  have O2 := Lib.hid ho2
  have K2 := Lib.hid (K1.out.below hb2 K1.out.lt)
  have B2 := Lib.hid (below_then B1.out (Nat.le_refl _) hb2)
  have R2 : Hid (Calls Try.prog 18 #[.slice A2 m2 c2] w2 fun e w' => ∃ A3 c3, e = .returned (.tuple #[.agg #[.int .u8 (k.toNat : Int), .int .u8 (f.toNat : Int), .slice A3 n c3], .int .i64 m2, .int .i64 0]) ∧ Own8 w' 5 w2.heap.size A3 n c3 xs ∧ Below w2.heap.size w2 w') := Lib.hid (by
    have h := read_back k f xs [] (wrt k f xs) (by simp) (by have := HX.out; omega) A2 m2 c2 w2 (by omega) ho2.cap.1 ho2.cap.2 ho2.len ho2.rd
    rw [HX.out, ← HMU.out] at h
    exact h)
  have g2 : w2.cell? ⟨w.heap.size, 2, none⟩ = some (.slice A n c) := K2.out.cell 2
  have hs12 := hb2.size
  clear ho2 hb2 k0 k1 k2
  go_wp2_with fail
  refine R2.out.mono ?_
  rintro e w3 ⟨A3, c3, rfl, ho3, hb3⟩
  have O3 := Lib.hid ((O2.out.below hb3 (Nat.le_refl _)).alloc (.cells #[.int .u8 (k.toNat : Int), .int .u8 (f.toNat : Int), .slice A3 n c3] 24))
  have P3 := Lib.hid (ho3.alloc (.cells #[.int .u8 (k.toNat : Int), .int .u8 (f.toNat : Int), .slice A3 n c3] 24))
  have D3 := Lib.hid (Blk.new w3 24 #[.int .u8 (k.toNat : Int), .int .u8 (f.toNat : Int), .slice A3 n c3])
  have K3 := Lib.hid ((K2.out.below hb3 K2.out.lt).alloc (.cells #[.int .u8 (k.toNat : Int), .int .u8 (f.toNat : Int), .slice A3 n c3] 24))
  have B3 := Lib.hid ((below_then B2.out (Nat.le_refl _) hb3).alloc (Nat.le_trans B2.out.size hb3.size) (.cells #[.int .u8 (k.toNat : Int), .int .u8 (f.toNat : Int), .slice A3 n c3] 24))
  have FAR := Lib.hid (far_of O2.out ho3 (Nat.le_refl _))
  have oa := O3.out
  have ob := (HR'.out.below B3.out)
  have hzz : w1.heap.size ≤ (w3.alloc (.cells #[.int .u8 (k.toNat : Int), .int .u8 (f.toNat : Int), .slice A3 n c3] 24)).heap.size := by
    have h1 := hb3.size
    simp; omega
  clear ho3 hb3 R2 g2
  go_wp2_with (at_builtin; refine wpList_append8 h8 _ rfl _ _ rfl w1.heap.size _ _ _ _ rfl oa _ _ _ _ _ rfl HX'.out ob (by omega) hzz ?_; intro A4 c4 w4 ho4 hg4 hh4)
  have O4 := Lib.hid ho4
  have K4 := Lib.hid (K3.out.grown hg4 (O3.out.blk_ne K3.out (by decide)))
  have D4 := Lib.hid (D3.out.grown hg4 (O3.out.blk_ne D3.out (by decide)))
  have P4 := Lib.hid (P3.out.beside O3.out hg4 FAR.out)
  have B4 := Lib.hid (B3.out.grown hg4 B3.out.size (O3.out.more B1.out.size).blk)
  have R4 : Hid (Calls Try.prog 18 #[.slice A4 (m2 + n' : Nat) c4] w4 fun e w' => ∃ A5 c5, e = .returned (.tuple #[.agg #[.int .u8 (k.toNat : Int), .int .u8 (f.toNat : Int), .slice A5 n c5], .int .i64 m2, .int .i64 0]) ∧ Own8 w' 5 w4.heap.size A5 n c5 xs ∧ Below w4.heap.size w4 w') := Lib.hid (by
    have h := read_back k f xs ys (wrt k f xs ++ ys) rfl (by have := HX.out; omega) A4 (m2 + n') c4 w4 (by omega) ho4.cap.1 ho4.cap.2 ho4.len ho4.rd
    rw [HX.out, ← HMU.out] at h
    exact h)
  clear ho4 hg4 hh4 oa ob hzz O3 K3 D3 P3
  refine R4.out.mono ?_
  rintro e w5 ⟨A5, c5, rfl, ho5, hb5⟩
  have K5 := Lib.hid ((K4.out.below hb5 K4.out.lt).alloc (.cells #[.int .u8 (k.toNat : Int), .int .u8 (f.toNat : Int), .slice A5 n c5] 24))
  have D5 := Lib.hid ((D4.out.below hb5 D4.out.lt).alloc (.cells #[.int .u8 (k.toNat : Int), .int .u8 (f.toNat : Int), .slice A5 n c5] 24))
  have F5 := Lib.hid (Blk.new w5 24 #[.int .u8 (k.toNat : Int), .int .u8 (f.toNat : Int), .slice A5 n c5])
  have P5 := Lib.hid ((P4.out.below hb5 (Nat.le_refl _)).alloc (.cells #[.int .u8 (k.toNat : Int), .int .u8 (f.toNat : Int), .slice A5 n c5] 24))
  have Q5 := Lib.hid (ho5.alloc (.cells #[.int .u8 (k.toNat : Int), .int .u8 (f.toNat : Int), .slice A5 n c5] 24))
  have B5 := Lib.hid ((below_then B4.out (Nat.le_refl _) hb5).alloc (Nat.le_trans B4.out.size hb5.size) (.cells #[.int .u8 (k.toNat : Int), .int .u8 (f.toNat : Int), .slice A5 n c5] 24))
  have k0 : (w5.alloc (.cells #[.int .u8 (k.toNat : Int), .int .u8 (f.toNat : Int), .slice A5 n c5] 24)).cell? ⟨w.heap.size, 0, none⟩ = some (.int .u8 (k.toNat : Int)) := K5.out.cell 0
  have k1 : (w5.alloc (.cells #[.int .u8 (k.toNat : Int), .int .u8 (f.toNat : Int), .slice A5 n c5] 24)).cell? ⟨w.heap.size, 1, none⟩ = some (.int .u8 (f.toNat : Int)) := K5.out.cell 1
  have k2 : (w5.alloc (.cells #[.int .u8 (k.toNat : Int), .int .u8 (f.toNat : Int), .slice A5 n c5] 24)).cell? ⟨w.heap.size, 2, none⟩ = some (.slice A n c) := K5.out.cell 2
  have d0 : (w5.alloc (.cells #[.int .u8 (k.toNat : Int), .int .u8 (f.toNat : Int), .slice A5 n c5] 24)).cell? ⟨w3.heap.size, 0, none⟩ = some (.int .u8 (k.toNat : Int)) := D5.out.cell 0
  have d1 : (w5.alloc (.cells #[.int .u8 (k.toNat : Int), .int .u8 (f.toNat : Int), .slice A5 n c5] 24)).cell? ⟨w3.heap.size, 1, none⟩ = some (.int .u8 (f.toNat : Int)) := D5.out.cell 1
  have d2 : (w5.alloc (.cells #[.int .u8 (k.toNat : Int), .int .u8 (f.toNat : Int), .slice A5 n c5] 24)).cell? ⟨w3.heap.size, 2, none⟩ = some (.slice A3 n c3) := D5.out.cell 2
  clear ho5 hb5 K4 D4 P4
  go_wp2_with fail
  generalize w5.alloc (.cells #[.int .u8 (k.toNat : Int), .int .u8 (f.toNat : Int), .slice A5 n c5] 24) = w6 at K5 D5 F5 P5 Q5 B5 k0 k1 k2 d0 d1 d2 ⊢
  refine (same_yes _ _ A A3 n c c3 xs w6 HX.out (by omega) ((HR.out.below B5.out).more B5.out.size) P5.out.rd).mono ?_
  rintro e w7 ⟨rfl, hb7⟩
  have K7 := Lib.hid (K5.out.below hb7 K5.out.lt)
  have F7 := Lib.hid (F5.out.below hb7 F5.out.lt)
  have Q7 := Lib.hid (Q5.out.below hb7 (Nat.le_refl _))
  have B7 := Lib.hid (below_then B5.out (Nat.le_refl _) hb7)
  clear hb7 k0 k1 k2 d0 d1 d2 K5 D5 F5 P5 Q5
  have k0 : w7.cell? ⟨w.heap.size, 0, none⟩ = some (.int .u8 (k.toNat : Int)) := K7.out.cell 0
  have k1 : w7.cell? ⟨w.heap.size, 1, none⟩ = some (.int .u8 (f.toNat : Int)) := K7.out.cell 1
  have k2 : w7.cell? ⟨w.heap.size, 2, none⟩ = some (.slice A n c) := K7.out.cell 2
  have d0 : w7.cell? ⟨w5.heap.size, 0, none⟩ = some (.int .u8 (k.toNat : Int)) := F7.out.cell 0
  have d1 : w7.cell? ⟨w5.heap.size, 1, none⟩ = some (.int .u8 (f.toNat : Int)) := F7.out.cell 1
  have d2 : w7.cell? ⟨w5.heap.size, 2, none⟩ = some (.slice A5 n c5) := F7.out.cell 2
  go_wp2_with fail
  refine (same_yes _ _ A A5 n c c5 xs w7 HX.out (by omega) ((HR.out.below B7.out).more B7.out.size) Q7.out.rd).mono ?_
  rintro e w8 ⟨rfl, hb8⟩
  have B8 := Lib.hid (below_then B7.out (Nat.le_refl _) hb8)
  clear hb8 k0 k1 k2 d0 d1 d2 K7 F7 Q7
  go_wp2_with fail
  have HRY := Lib.hid ((HR'.out.below B8.out).more B8.out.size)
  by_cases hf : Fits ys
  · have HF := Lib.hid hf
    obtain ⟨U, hU⟩ : ∃ U, U = up4 (clen ys) := ⟨_, rfl⟩
    have hUn : U ≤ n' := by rw [hU, ← HX'.out]; exact hf.hi
    have hUc : U ≤ c' := Nat.le_trans hUn hc'
    have hd : decide ((U : Int) ≤ (n' : Int)) = true := decide_eq_true (by omega)
    have hd2 : decide (U ≤ n') = true := decide_eq_true hUn
    have HUU := Lib.hid hU
    obtain ⟨L, hL⟩ : ∃ L, L = clen ys := ⟨_, rfl⟩
    have HLL := Lib.hid hL
    obtain ⟨kk, hkk⟩ : ∃ kk, kk = kind ys := ⟨_, rfl⟩
    obtain ⟨ff, hff⟩ : ∃ ff, ff = flag ys := ⟨_, rfl⟩
    have HW : Hid (wrt kk ff (body ys) = ys.take U) := Lib.hid (by rw [hkk, hff, hU]; exact fits_wrt hf)
    have R9 : Hid (Calls Try.prog 18 #[.slice A' n' c'] w8 fun e w' => ∃ A2 c2, e = .returned (.tuple #[.agg #[.int .u8 (kk.toNat : Int), .int .u8 (ff.toNat : Int), .slice A2 (L - 4 : Nat) c2], .int .i64 U, .int .i64 0]) ∧ Own8 w' 5 w8.heap.size A2 (L - 4) c2 (body ys) ∧ Below w8.heap.size w8 w') := Lib.hid (by
      have h := read_yes A' n' c' ys w8 (by omega) hc' HCM'.out HX'.out HRY.out hf
      rw [← hU, ← hL, ← hkk, ← hff] at h
      exact h)
    clear hU hL hkk hff hf
    refine R9.out.mono ?_
    rintro e w9 ⟨A9, c9, rfl, ho9, hb9⟩
    have X9 := Lib.hid (Blk.new w9 24 #[.int .u8 (kk.toNat : Int), .int .u8 (ff.toNat : Int), .slice A9 (L - 4 : Nat) c9])
    have O9 := Lib.hid (ho9.alloc (.cells #[.int .u8 (kk.toNat : Int), .int .u8 (ff.toNat : Int), .slice A9 (L - 4 : Nat) c9] 24))
    have B9 := Lib.hid ((below_then B8.out (Nat.le_refl _) hb9).alloc (Nat.le_trans B8.out.size hb9.size) (.cells #[.int .u8 (kk.toNat : Int), .int .u8 (ff.toNat : Int), .slice A9 (L - 4 : Nat) c9] 24))
    clear ho9 hb9 R9
    go_wp2_with fail
    obtain ⟨q, hq⟩ : ∃ q, q = w9.heap.size := ⟨_, rfl⟩
    rw [← hq] at X9 ⊢
    clear hq
    generalize w9.alloc (.cells #[.int .u8 (kk.toNat : Int), .int .u8 (ff.toNat : Int), .slice A9 (L - 4 : Nat) c9] 24) = wx at X9 O9 B9 ⊢
    have HWR : Hid (∀ W : World, Below wx.heap.size wx W → Calls Try.prog 13 #[.agg #[.int .u8 (kk.toNat : Int), .int .u8 (ff.toNat : Int), .slice A9 (L - 4 : Nat) c9]] W fun e w' => ∃ Aa ca, e = .returned (.slice Aa U ca) ∧ Own8 w' 5 wx.heap.size Aa U ca (ys.take U) ∧ Below W.heap.size W w') := Lib.hid fun W hW => (write_any kk ff A9 (L - 4) c9 (body ys) W O9.out.len (O9.out.below hW (Nat.le_refl _)).rd).mono (by
      rintro e wa ⟨Aa, ma, ca, rfl, hoa, hba⟩
      have hma : ma = U := by rw [← hoa.len, HW.out, List.length_take, HX'.out]; omega
      subst hma
      rw [HW.out] at hoa
      exact ⟨Aa, ca, rfl, hoa.more hW.size, hba⟩)
    have HEQ : Hid (∀ (W : World) (Aa : Option Addr) (ca : Nat), Own8 W 5 wx.heap.size Aa U ca (ys.take U) → Below w.heap.size w W → Calls Try.prog 14 #[.slice Aa U ca, .slice A' U c'] W fun e w' => e = .returned (.bool true) ∧ ∃ q, W.drewN q = w') := Lib.hid fun W Aa ca ho hb =>
      eqBytes_same _ w.heap.size _ _ _ _ _ (ys.take U) _ ho.len (by unfold maxLen; omega) ho.rd ((HR'.out.below hb).take_ U)
    clear hMb hM4 h h2 h8
    -- REGION 15
    refine wp_region_grow_tail 15 (by kernel_rfl) [(Is (.int .i64 U)), (Is (.slice A' n' c')), (Is (.int .i64 n')), (Is (.bool true)), (Is (.bool true)), (Is (.agg #[.int .u8 (kk.toNat : Int), .int .u8 (ff.toNat : Int), .slice A9 (L - 4 : Nat) c9])), (NewOwn 5 wx.heap.size U (ys.take U)), (Is (.slice A' n' c')), (Is (.int .i64 U)), (Is (.slice A' U c')), (Is (.bool true)), (Is (.bool true)), (Is (.bool true)), (Is (.bool true)), (Is (.bool true))] rfl ?_ (by kernel_rfl) (by kernel_rfl) ?_ ?_
    · intro p hp
      simp only [List.mem_cons, List.not_mem_nil, or_false] at hp
      rcases hp with rfl | rfl | rfl | rfl | rfl | rfl | rfl | rfl | rfl | rfl | rfl | rfl | rfl | rfl | rfl
      · exact Lasts.is _
      · exact Lasts.is _
      · exact Lasts.is _
      · exact Lasts.is _
      · exact Lasts.is _
      · exact Lasts.is _
      · exact Lasts.newOwn _ _ _ _
      · exact Lasts.is _
      · exact Lasts.is _
      · exact Lasts.is _
      · exact Lasts.is _
      · exact Lasts.is _
      · exact Lasts.is _
      · exact Lasts.is _
      · exact Lasts.is _
    · refine ⟨?_, ?_, ?_, ?_, ?_, ?_, ?_, ?_, ?_, ?_, ?_, ?_, ?_, ?_, ?_, trivial⟩
      · intro listed a w1 hl hc
        have h14 : a.tmps[14]?.getD undef = .int .i64 U := (hc.was 14 (by kernel_rfl)).trans rfl
        refine does_value rfl rfl (.int .i64 U) w1 ?_ (Below.refl _ _) rfl
        clear hc hl
        go_simp
      · intro listed a w1 hl hc
        have h1 : a.tmps[1]?.getD undef = .slice A' n' c' := (hc.was 1 (by kernel_rfl)).trans rfl
        refine does_value rfl rfl (.slice A' n' c') w1 ?_ (Below.refl _ _) rfl
        clear hc hl
        go_simp
      · intro listed a w1 hl hc
        have h112 : a.tmps[112]?.getD undef = .slice A' n' c' := hc.dep hl 1 112 rfl (by kernel_rfl)
        refine does_value rfl rfl (.int .i64 n') w1 ?_ (Below.refl _ _) rfl
        clear hc hl
        go_simp
      · intro listed a w1 hl hc
        have h111 : a.tmps[111]?.getD undef = .int .i64 U := hc.dep hl 0 111 rfl (by kernel_rfl)
        have h113 : a.tmps[113]?.getD undef = .int .i64 n' := hc.dep hl 2 113 rfl (by kernel_rfl)
        refine does_value rfl rfl (.bool true) w1 ?_ (Below.refl _ _) rfl
        clear hc hl
        go_simp
      · intro listed a w1 hl hc
        have h114 : a.tmps[114]?.getD undef = .bool true := hc.dep hl 3 114 rfl (by kernel_rfl)
        refine does_value rfl rfl (.bool true) w1 ?_ (Below.refl _ _) rfl
        clear hc hl
        go_simp
      · intro listed a w1 hl hc
        have h13 : a.tmps[13]?.getD undef = .pointer (some ⟨q, 0, none⟩) := (hc.was 13 (by kernel_rfl)).trans rfl
        have x0 := (X9.out.below hc.g X9.out.lt).cell 0
        have x1 := (X9.out.below hc.g X9.out.lt).cell 1
        have x2 := (X9.out.below hc.g X9.out.lt).cell 2
        have x0 : w1.cell? ⟨q, 0, none⟩ = some (.int .u8 (kk.toNat : Int)) := x0
        have x1 : w1.cell? ⟨q, 1, none⟩ = some (.int .u8 (ff.toNat : Int)) := x1
        have x2 : w1.cell? ⟨q, 2, none⟩ = some (.slice A9 (L - 4 : Nat) c9) := x2
        refine does_value rfl (wanted_at rfl rfl (hc.dep hl 4 115 rfl (by kernel_rfl))) (.agg #[.int .u8 (kk.toNat : Int), .int .u8 (ff.toNat : Int), .slice A9 (L - 4 : Nat) c9]) w1 ?_ (Below.refl _ _) rfl
        clear hc hl
        go_simp
      · intro listed a w1 hl hc
        have h116 : a.tmps[116]?.getD undef = .agg #[.int .u8 (kk.toNat : Int), .int .u8 (ff.toNat : Int), .slice A9 (L - 4 : Nat) c9] := hc.dep hl 5 116 rfl (by kernel_rfl)
        refine does_call rfl (wanted_at rfl rfl (hc.dep hl 4 115 rfl (by kernel_rfl))) 13 #[.agg #[.int .u8 (kk.toNat : Int), .int .u8 (ff.toNat : Int), .slice A9 (L - 4 : Nat) c9]] ?_ ((HWR.out w1 hc.g).mono fun e w' ⟨Aa, ca, he, ho, hb⟩ => ⟨_, he, hb, Aa, ca, rfl, ho⟩)
        clear hc hl
        go_simp
      · intro listed a w1 hl hc
        have h1 : a.tmps[1]?.getD undef = .slice A' n' c' := (hc.was 1 (by kernel_rfl)).trans rfl
        refine does_value rfl (wanted_at rfl rfl (hc.dep hl 4 115 rfl (by kernel_rfl))) (.slice A' n' c') w1 ?_ (Below.refl _ _) rfl
        clear hc hl
        go_simp
      · intro listed a w1 hl hc
        have h14 : a.tmps[14]?.getD undef = .int .i64 U := (hc.was 14 (by kernel_rfl)).trans rfl
        refine does_value rfl (wanted_at rfl rfl (hc.dep hl 4 115 rfl (by kernel_rfl))) (.int .i64 U) w1 ?_ (Below.refl _ _) rfl
        clear hc hl
        go_simp
      · intro listed a w1 hl hc
        have h118 : a.tmps[118]?.getD undef = .slice A' n' c' := hc.dep hl 7 118 rfl (by kernel_rfl)
        have h119 : a.tmps[119]?.getD undef = .int .i64 U := hc.dep hl 8 119 rfl (by kernel_rfl)
        refine does_value rfl (wanted_at rfl rfl (hc.dep hl 4 115 rfl (by kernel_rfl))) (.slice A' U c') w1 ?_ (Below.refl _ _) rfl
        clear hc hl
        go_simp
      · intro listed a w1 hl hc
        obtain ⟨Aa, ca, h117, hoa⟩ := hc.dep hl 6 117 rfl (by kernel_rfl)
        have h120 : a.tmps[120]?.getD undef = .slice A' U c' := hc.dep hl 9 120 rfl (by kernel_rfl)
        refine does_call rfl (wanted_at rfl rfl (hc.dep hl 4 115 rfl (by kernel_rfl))) 14 #[.slice Aa U ca, .slice A' U c'] ?_ ((HEQ.out w1 Aa ca hoa (B9.out.trans (hc.g.mono B9.out.size))).mono fun e w' ⟨he, q, hw⟩ => ⟨_, he, hw ▸ below_drewN (Below.refl _ _) q, rfl⟩)
        clear hc hl
        go_simp
      · intro listed a w1 hl hc
        have h115 : a.tmps[115]?.getD undef = .bool true := hc.dep hl 4 115 rfl (by kernel_rfl)
        have h121 : a.tmps[121]?.getD undef = .bool true := hc.dep hl 10 121 rfl (by kernel_rfl)
        refine does_value rfl rfl (.bool true) w1 ?_ (Below.refl _ _) rfl
        clear hc hl
        go_simp
      · intro listed a w1 hl hc
        have h122 : a.tmps[122]?.getD undef = .bool true := hc.dep hl 11 122 rfl (by kernel_rfl)
        refine does_value rfl rfl (.bool true) w1 ?_ (Below.refl _ _) rfl
        clear hc hl
        go_simp
      · intro listed a w1 hl hc
        refine does_call rfl (wanted_at rfl rfl (hc.dep hl 12 123 rfl (by kernel_rfl))) 11 #[] ?_ ((works_any w1).mono fun e w' ⟨he, hb⟩ => ⟨_, he, hb, rfl⟩)
        clear hc hl
        go_simp
      · intro listed a w1 hl hc
        have h123 : a.tmps[123]?.getD undef = .bool true := hc.dep hl 12 123 rfl (by kernel_rfl)
        have h124 : a.tmps[124]?.getD undef = .bool true := hc.dep hl 13 124 rfl (by kernel_rfl)
        refine does_value rfl rfl (.bool true) w1 ?_ (Below.refl _ _) rfl
        clear hc hl
        go_simp
    -- END 15
    intro w2 hb2
    rintro _ rfl _ rfl _ rfl _ rfl _ rfl _ rfl _ ⟨Aa, ca, rfl, hoa⟩ _ rfl _ rfl _ rfl _ rfl _ rfl _ rfl _ rfl _ rfl
    simp only [Thus, List.reverse_cons, List.reverse_nil, List.nil_append, List.cons_append, List.drop, List.take, lay]
    go_frame
    go_wp2_with fail
    go_ret
    exact ⟨rfl, below_then B9.out (Nat.le_refl _) hb2⟩
  · have R9 := Lib.hid (read_no A' n' c' ys w8 (by omega) hc' HCM'.out HX'.out HRY.out hf)
    clear hf
    refine R9.out.mono ?_
    rintro e w9 ⟨rfl, hb9⟩
    have B9 := Lib.hid ((below_then B8.out (Nat.le_refl _) hb9).alloc (Nat.le_trans B8.out.size hb9.size) (.cells #[.int .u8 0, .int .u8 0, .slice none 0 0] 24))
    clear hb9 R9
    rw [noChunk]
    go_wp2_with fail
    refine (works_any _).mono ?_
    rintro e w10 ⟨rfl, hb10⟩
    go_wp2_with fail
    go_ret
    exact ⟨rfl, below_then B9.out (Nat.le_refl _) hb10⟩

theorem chunkBack_walk (a b : Int) (A : Option Addr) (n c : Nat) (xs : List UInt8) (A' : Option Addr) (n' c' : Nat) (ys : List UInt8) (w : World) (ha : (Lit.int .u8 a).wf = true) (hb : (Lit.int .u8 b).wf = true) (hc : n ≤ c) (hcm : c ≤ maxLen) (hx : xs.length = n) (hr : Rd w w.heap.size A xs)
    (hc' : n' ≤ c') (hcm' : c' ≤ maxLen) (hx' : ys.length = n') (hr' : Rd w w.heap.size A' ys) :
    Calls Try.prog 5 #[.agg #[.int .u8 a, .int .u8 b, .slice A n c], .slice A' n' c'] w fun e w' => e = .returned (.bool true) ∧ Below w.heap.size w w' := by
  obtain ⟨k, rfl⟩ := byte_of ha
  obtain ⟨f, rfl⟩ := byte_of hb
  by_cases h : 131072 < n
  · exact chunkBack_big k f A n c A' n' c' w (.inl h)
  · by_cases h2 : 4096 < n'
    · exact chunkBack_big k f A n c A' n' c' w (.inr ⟨by omega, h2⟩)
    · by_cases h3 : 65531 < n
      · exact chunkBack_mid k f A n c xs A' n' c' w (by omega) (by omega) h3 hx hr
      · exact chunkBack_small k f A n c xs A' n' c' ys w (by omega) (by omega) hx hr hc' hcm' hx' hr'
end Go.Proofs.Ytnlhkofkjcofdaa
