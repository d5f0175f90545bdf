/-
  The reference of layer 7.
  The reference of layer 7: Sum.
-/
import Derived.Test.YtnnkgdkjmmljiaaDoorQ13
import Derived.Test.YtnnkgdkjmmljiaaDoorQ16
namespace Go.Proofs.YtnnkgdkjmmljiaaDoor
open Go.RowKit
set_option linter.unusedVariables false
set_option maxRecDepth 100000

theorem Own8.some_ {w : World} {t : TypeId} {base n c : Nat} {A : Option Addr} {xs : List UInt8} (h : Own8 w t base A n c xs) (hn : 0 < n) : ∃ g zs, A = some ⟨g, 0, none⟩ ∧ base ≤ g ∧ RowAt w t g (xs ++ zs) ∧ n + zs.length = c ∧ c ≤ maxLen := by
  rcases h.2 with ⟨_, h0, _⟩ | ⟨g, zs, h⟩
  · omega
  · exact ⟨g, zs, h⟩

set_option maxHeartbeats 2000000 in
theorem under_any (A : Option Addr) (n c : Nat) (xs : List UInt8) (m : UInt8) (w : World) (hn : n ≤ 1048576) (hx : xs.length = n) (hr : Rd w w.heap.size A xs) :
    Calls Tryd.prog 37 #[.slice A n c, .int .u8 (m.toNat : Int)] w fun e w' => ∃ A2 c2, e = .returned (.slice A2 64 c2) ∧ Own8 w' 5 w.heap.size A2 64 c2 (msk m (blk xs)) ∧ Below w.heap.size w w' := by
  obtain ⟨i8, h8⟩ := Tryd.ty8
  obtain ⟨L, hL⟩ : ∃ L, L = blk xs := ⟨_, rfl⟩
  have HL := Lib.hid hL
  have HX := Lib.hid hx
  rw [← hL]
  clear hL
  by_cases h64 : 64 < n
  · have hb : decide ((n : Int) > 64) = true := by simp; omega
    obtain ⟨D, hD⟩ : ∃ D, D = dig xs := ⟨_, rfl⟩
    have HD := Lib.hid hD
    have hDl : D.length = 32 := by rw [hD, length_dig]
    have HDL := Lib.hid hDl
    have HSH : Hid (blk xs = D ++ List.replicate (64 - 32) 0) := Lib.hid (by rw [blk, shr_long (by omega), ← hD, hDl])
    have hszd : (row8 D).size = 32 := by rw [size_row8, hDl]
    have hst := fun W : World => run_storeCells_new (P := Tryd.prog) W 46 #[.int .u8 0, .int .u8 0, .int .u8 0, .int .u8 0, .int .u8 0, .int .u8 0, .int .u8 0, .int .u8 0, .int .u8 0, .int .u8 0, .int .u8 0, .int .u8 0, .int .u8 0, .int .u8 0, .int .u8 0, .int .u8 0, .int .u8 0, .int .u8 0, .int .u8 0, .int .u8 0, .int .u8 0, .int .u8 0, .int .u8 0, .int .u8 0, .int .u8 0, .int .u8 0, .int .u8 0, .int .u8 0, .int .u8 0, .int .u8 0, .int .u8 0, .int .u8 0] (row8 D) ((show (Tryd.prog.info? 46).map (·.size) = some 32 by kernel_rfl).trans (by rw [hszd])) (by rw [hszd]; rfl) (row8_one _)
    clear hD hDl hx
    go_enter Tryd.func37, Tryd.ntmps37
    go_wp2_with fail
    refine (copyBytes_any _ _ _ _ _ (by omega) HX.out hr).mono ?_
    rintro e w1 ⟨A1, c1, rfl, -, hb1⟩
    have hr1 := (hr.below hb1).more hb1.size
    clear hr
    go_wp2_with fail
    refine (refSum_any _ _ _ _ w1 (by omega) HX.out hr1).mono ?_
    rintro e w2 ⟨rfl, hb2⟩
    rw [← HD.out]
    have B2 := (hb1.trans (hb2.mono hb1.size)).alloc (Nat.le_trans hb1.size hb2.size) (.cells (row8 D) 46)
    have eD : Blk (w2.alloc (.cells (row8 D) 46)) w2.heap.size 46 (row8 D) := Blk.new _ _ _
    have eR : Rd (w2.alloc (.cells (row8 D) 46)) (w2.alloc (.cells (row8 D) 46)).heap.size (some ⟨w2.heap.size, 0, none⟩) D := RowAt.rd eD 0 D (fun j hj => by simp)
    have hsl : ∀ W : World, (Instr.sliceAt 46 (.pointer (some ⟨w2.heap.size, 0, none⟩)) none none none).run Tryd.prog W = .ok (.slice (some ⟨w2.heap.size, 0, none⟩) 32 32) W := fun W => slice_whole Tryd.underlying46 (by kernel_rfl) _ _ W
    clear hb1 hb2 hr1 eD
    go_wp2_with fail
    generalize w2.alloc (.cells (row8 D) 46) = w3 at B2 eR ⊢
    refine (copyBytes_any _ 32 32 D w3 (by omega) HDL.out eR).mono ?_
    rintro e w4 ⟨A2, c2, rfl, ho4, hb4⟩
    have ho5 := ho4.more B2.size
    have hB5 := B2.trans (hb4.mono B2.size)
    clear ho4 hb4 B2 eR hst hsl
    go_wp2_with fail
    go_loopw [5] (fun v wr => ∃ (k N : Nat) (A3 : Option Addr) (c3 : Nat), k ≤ 64 - 32 ∧ N = 32 + k ∧ v = .slice A3 N c3 ∧ Own8 wr 5 w.heap.size A3 N c3 (D ++ List.replicate k 0) ∧ Below w.heap.size w wr) (fun v _ => 64 - lenOf_ v)
    case atStart => exact ⟨0, 32, _, _, by omega, rfl, rfl, by simpa using ho5, hB5⟩
    case round =>
      clear ho5 hB5
      obtain ⟨k, N, A3, c3, hk, hN, rfl, ho, hB⟩ := hrel
      by_cases hlt : N < 64
      · have h1 := rd_oneS wr 5 0 0 rfl
        have h2' := ho.alloc (.cells #[.int .u8 0] 5)
        have hz2 := hB.size
        have hb1 := hB.alloc hz2 (.cells #[.int .u8 0] 5)
        have HN := Lib.hid hN
        clear ho hN
        go_wp2_with (at_builtin; refine wpList_append8 h8 _ rfl _ _ rfl w.heap.size _ _ _ _ rfl h2' _ _ _ _ _ rfl rfl h1 (by omega) (by simp; omega) ?_; intro A4 c4 w4 h4 hg4 ho4)
        go_roundw
        case rel =>
          refine ⟨k + 1, N + 1, A4, c4, by have := HN.out; omega, by have := HN.out; omega, rfl, ?_, hb1.grown hg4 (by simp; omega) h2'.blk⟩
          rw [List.append_assoc, ← List.replicate_succ'] at h4
          exact h4
        case measure => simp [lenOf_]; omega
      · have hN64 : N = 64 := by omega
        have hkz : k = 64 - 32 := by omega
        subst hN64
        have hlb : (D ++ List.replicate k 0).length = 64 := ho.len
        obtain ⟨g, zs, rfl, hbg, hrow, hcz, hcm⟩ := ho.some_ (by omega)
        have HBK := Lib.hid (show D ++ List.replicate k 0 = L by rw [HL.out, hkz]; exact HSH.out.symm)
        rw [HBK.out] at hrow hlb
        have HLB := Lib.hid hlb
        have HC := Lib.hid hcz
        clear hN hkz ho hlb hcz
        go_wp2_with fail
        go_loopw [7] (fun i wr' => ∃ j : Nat, j ≤ 64 ∧ i = .int .i64 j ∧ RowAt wr' 5 g (mskTo m L j ++ zs) ∧ Below w.heap.size w wr') (fun i _ => 64 - (intOf i).toNat)
        case atStart => exact ⟨0, by omega, rfl, by rw [mskTo_zero]; exact hrow, hB⟩
        case round =>
          clear hrow hB
          obtain ⟨j, hj, rfl, hrow, hB⟩ := hrel
          by_cases hlt' : j < 64
          · have hjl : j < L.length := by rw [HLB.out]; exact hlt'
            obtain ⟨x, hx⟩ : ∃ x, x = L[j] := ⟨_, rfl⟩
            have hjm : j < (mskTo m L j ++ zs).length := by rw [List.length_append, length_mskTo]; omega
            have ck : wr.cell? ⟨g, j, none⟩ = some (.int .u8 (x.toNat : Int)) := (Blk.cell hrow j).trans (by rw [get_row8, List.getElem?_append_left (by rw [length_mskTo]; exact hjl), mskTo_at hjl, hx]; rfl)
            have fk := Blk.frozen hrow j
            have HST := Lib.hid (show (mskTo m L j ++ zs).set j (x ^^^ m) = mskTo m L (j + 1) ++ zs by rw [List.set_append_left _ _ (by rw [length_mskTo]; exact hjl), hx, mskTo_step hjl])
            clear hjl hx hjm
            go_wp2_with fail
            go_roundw
            case rel =>
              refine ⟨j + 1, by omega, by go_num, ?_, hB.setCell hbg _⟩
              have := Blk.set_ hrow j (.int .u8 (bits .xor .u8 (x.toNat : Int) (m.toNat : Int)))
              rw [row8_bits, HST.out] at this
              exact this
            case measure => simp [intOf]; omega
          · have hj9 : decide ((j : Int) < 64) = false := by simp; omega
            rw [mskTo_end (show L.length ≤ j by rw [HLB.out]; omega)] at hrow
            go_wp2_with fail
            go_ret
            exact ⟨_, _, rfl, ⟨by rw [length_msk, HLB.out], .inr ⟨g, zs, rfl, hbg, hrow, HC.out, hcm⟩⟩, hB⟩
  · have hb : decide ((n : Int) > 64) = false := by simp; omega
    have HSH : Hid (blk xs = xs ++ List.replicate (64 - n) 0) := Lib.hid (by rw [blk, shr_short (by omega), hx])
    clear hx
    go_enter Tryd.func37, Tryd.ntmps37
    go_wp2_with fail
    refine (copyBytes_any _ _ _ _ _ (by omega) HX.out hr).mono ?_
    rintro e w1 ⟨A1, c1, rfl, ho5, hB5⟩
    clear hr
    go_wp2_with fail
    go_loopw [5] (fun v wr => ∃ (k N : Nat) (A3 : Option Addr) (c3 : Nat), k ≤ 64 - n ∧ N = n + k ∧ v = .slice A3 N c3 ∧ Own8 wr 5 w.heap.size A3 N c3 (xs ++ List.replicate k 0) ∧ Below w.heap.size w wr) (fun v _ => 64 - lenOf_ v)
    case atStart => exact ⟨0, n, _, _, by omega, rfl, rfl, by simpa using ho5, hB5⟩
    case round =>
      clear ho5 hB5
      obtain ⟨k, N, A3, c3, hk, hN, rfl, ho, hB⟩ := hrel
      by_cases hlt : N < 64
      · have h1 := rd_oneS wr 5 0 0 rfl
        have h2' := ho.alloc (.cells #[.int .u8 0] 5)
        have hz2 := hB.size
        have hb1 := hB.alloc hz2 (.cells #[.int .u8 0] 5)
        have HN := Lib.hid hN
        clear ho hN
        go_wp2_with (at_builtin; refine wpList_append8 h8 _ rfl _ _ rfl w.heap.size _ _ _ _ rfl h2' _ _ _ _ _ rfl rfl h1 (by omega) (by simp; omega) ?_; intro A4 c4 w4 h4 hg4 ho4)
        go_roundw
        case rel =>
          refine ⟨k + 1, N + 1, A4, c4, by have := HN.out; omega, by have := HN.out; omega, rfl, ?_, hb1.grown hg4 (by simp; omega) h2'.blk⟩
          rw [List.append_assoc, ← List.replicate_succ'] at h4
          exact h4
        case measure => simp [lenOf_]; omega
      · have hN64 : N = 64 := by omega
        have hkz : k = 64 - n := by omega
        subst hN64
        have hlb : (xs ++ List.replicate k 0).length = 64 := ho.len
        obtain ⟨g, zs, rfl, hbg, hrow, hcz, hcm⟩ := ho.some_ (by omega)
        have HBK := Lib.hid (show xs ++ List.replicate k 0 = L by rw [HL.out, hkz]; exact HSH.out.symm)
        rw [HBK.out] at hrow hlb
        have HLB := Lib.hid hlb
        have HC := Lib.hid hcz
        clear hN hkz ho hlb hcz
        go_wp2_with fail
        go_loopw [7] (fun i wr' => ∃ j : Nat, j ≤ 64 ∧ i = .int .i64 j ∧ RowAt wr' 5 g (mskTo m L j ++ zs) ∧ Below w.heap.size w wr') (fun i _ => 64 - (intOf i).toNat)
        case atStart => exact ⟨0, by omega, rfl, by rw [mskTo_zero]; exact hrow, hB⟩
        case round =>
          clear hrow hB
          obtain ⟨j, hj, rfl, hrow, hB⟩ := hrel
          by_cases hlt' : j < 64
          · have hjl : j < L.length := by rw [HLB.out]; exact hlt'
            obtain ⟨x, hx⟩ : ∃ x, x = L[j] := ⟨_, rfl⟩
            have hjm : j < (mskTo m L j ++ zs).length := by rw [List.length_append, length_mskTo]; omega
            have ck : wr.cell? ⟨g, j, none⟩ = some (.int .u8 (x.toNat : Int)) := (Blk.cell hrow j).trans (by rw [get_row8, List.getElem?_append_left (by rw [length_mskTo]; exact hjl), mskTo_at hjl, hx]; rfl)
            have fk := Blk.frozen hrow j
            have HST := Lib.hid (show (mskTo m L j ++ zs).set j (x ^^^ m) = mskTo m L (j + 1) ++ zs by rw [List.set_append_left _ _ (by rw [length_mskTo]; exact hjl), hx, mskTo_step hjl])
            clear hjl hx hjm
            go_wp2_with fail
            go_roundw
            case rel =>
              refine ⟨j + 1, by omega, by go_num, ?_, hB.setCell hbg _⟩
              have := Blk.set_ hrow j (.int .u8 (bits .xor .u8 (x.toNat : Int) (m.toNat : Int)))
              rw [row8_bits, HST.out] at this
              exact this
            case measure => simp [intOf]; omega
          · have hj9 : decide ((j : Int) < 64) = false := by simp; omega
            rw [mskTo_end (show L.length ≤ j by rw [HLB.out]; omega)] at hrow
            go_wp2_with fail
            go_ret
            exact ⟨_, _, rfl, ⟨by rw [length_msk, HLB.out], .inr ⟨g, zs, rfl, hbg, hrow, HC.out, hcm⟩⟩, hB⟩
end Go.Proofs.YtnnkgdkjmmljiaaDoor

namespace Go.Proofs.YtnnkgdkjmmljiaaDoor
open Go.RowKit
set_option linter.unusedVariables false
set_option maxRecDepth 100000

theorem under_54 (A : Option Addr) (n c : Nat) (xs : List UInt8) (w : World) (hn : n ≤ 1048576) (hx : xs.length = n) (hr : Rd w w.heap.size A xs) :
    Calls Tryd.prog 37 #[.slice A n c, .int .u8 54] w fun e w' => ∃ A2 c2, e = .returned (.slice A2 64 c2) ∧ Own8 w' 5 w.heap.size A2 64 c2 (msk 54 (blk xs)) ∧ Below w.heap.size w w' := under_any A n c xs 54 w hn hx hr
theorem under_92 (A : Option Addr) (n c : Nat) (xs : List UInt8) (w : World) (hn : n ≤ 1048576) (hx : xs.length = n) (hr : Rd w w.heap.size A xs) :
    Calls Tryd.prog 37 #[.slice A n c, .int .u8 92] w fun e w' => ∃ A2 c2, e = .returned (.slice A2 64 c2) ∧ Own8 w' 5 w.heap.size A2 64 c2 (msk 92 (blk xs)) ∧ Below w.heap.size w w' := under_any A n c xs 92 w hn hx hr

set_option maxHeartbeats 2000000 in
theorem refMac_any (A : Option Addr) (n c : Nat) (ks : List UInt8) (A' : Option Addr) (n' c' : Nat) (ts : List UInt8) (w : World) (hn : n ≤ 1048576) (hx : ks.length = n) (hr : Rd w w.heap.size A ks) (hn' : n' ≤ 100000) (hx' : ts.length = n') (hr' : Rd w w.heap.size A' ts) :
    Calls Tryd.prog 24 #[.slice A n c, .slice A' n' c'] w fun e w' => e = .returned (.agg (row8 (mac ks ts))) ∧ Below w.heap.size w w' := by
  obtain ⟨i8, h8⟩ := Tryd.ty8
  obtain ⟨S, hS⟩ : ∃ S, S = mac ks ts := ⟨_, rfl⟩
  have hsz : (row8 S).size = 32 := by rw [size_row8, hS, length_mac]
  obtain ⟨M1, hM1⟩ : ∃ M1, M1 = msk 54 (blk ks) := ⟨_, rfl⟩
  have hM1l : M1.length = 64 := by rw [hM1, length_msk, length_blk]
  obtain ⟨M2, hM2⟩ : ∃ M2, M2 = msk 92 (blk ks) := ⟨_, rfl⟩
  have hM2l : M2.length = 64 := by rw [hM2, length_msk, length_blk]
  obtain ⟨D, hD⟩ : ∃ D, D = dig (M1 ++ ts) := ⟨_, rfl⟩
  have hDl : D.length = 32 := by rw [hD, length_dig]
  have hszD : (row8 D).size = 32 := by rw [size_row8, hDl]
  have HS := Lib.hid (show S = dig (M2 ++ D) by rw [hS, hM2, hD, hM1]; rfl)
  rw [← hS]
  have HM1 := Lib.hid hM1
  have HM2 := Lib.hid hM2
  have HD := Lib.hid hD
  have HX := Lib.hid hx
  have HX' := Lib.hid hx'
  have HL1 := Lib.hid (show (M1 ++ ts).length = 64 + n' by rw [List.length_append, hM1l, hx'])
  have HL2 := Lib.hid (show (M2 ++ D).length = 64 + 32 by rw [List.length_append, hM2l, hDl])
  have HDL := Lib.hid hDl
  have hst := fun W : World => run_storeCells_new (P := Tryd.prog) W 46 #[.int .u8 0, .int .u8 0, .int .u8 0, .int .u8 0, .int .u8 0, .int .u8 0, .int .u8 0, .int .u8 0, .int .u8 0, .int .u8 0, .int .u8 0, .int .u8 0, .int .u8 0, .int .u8 0, .int .u8 0, .int .u8 0, .int .u8 0, .int .u8 0, .int .u8 0, .int .u8 0, .int .u8 0, .int .u8 0, .int .u8 0, .int .u8 0, .int .u8 0, .int .u8 0, .int .u8 0, .int .u8 0, .int .u8 0, .int .u8 0, .int .u8 0, .int .u8 0] (row8 D) ((show (Tryd.prog.info? 46).map (·.size) = some 32 by kernel_rfl).trans (by rw [hszD])) (by rw [hszD]; rfl) (row8_one _)
  have k1 : Blk (w.alloc (.cells #[.int .u8 0, .int .u8 0, .int .u8 0, .int .u8 0, .int .u8 0, .int .u8 0, .int .u8 0, .int .u8 0, .int .u8 0, .int .u8 0, .int .u8 0, .int .u8 0, .int .u8 0, .int .u8 0, .int .u8 0, .int .u8 0, .int .u8 0, .int .u8 0, .int .u8 0, .int .u8 0, .int .u8 0, .int .u8 0, .int .u8 0, .int .u8 0, .int .u8 0, .int .u8 0, .int .u8 0, .int .u8 0, .int .u8 0, .int .u8 0, .int .u8 0, .int .u8 0] 46)) w.heap.size 46 (row8 (List.replicate 32 0)) := Blk.new _ _ _
  have B1 : Below w.heap.size w (w.alloc (.cells #[.int .u8 0, .int .u8 0, .int .u8 0, .int .u8 0, .int .u8 0, .int .u8 0, .int .u8 0, .int .u8 0, .int .u8 0, .int .u8 0, .int .u8 0, .int .u8 0, .int .u8 0, .int .u8 0, .int .u8 0, .int .u8 0, .int .u8 0, .int .u8 0, .int .u8 0, .int .u8 0, .int .u8 0, .int .u8 0, .int .u8 0, .int .u8 0, .int .u8 0, .int .u8 0, .int .u8 0, .int .u8 0, .int .u8 0, .int .u8 0, .int .u8 0, .int .u8 0] 46)) := below_new _ _
  have z1 : (w.alloc (.cells #[.int .u8 0, .int .u8 0, .int .u8 0, .int .u8 0, .int .u8 0, .int .u8 0, .int .u8 0, .int .u8 0, .int .u8 0, .int .u8 0, .int .u8 0, .int .u8 0, .int .u8 0, .int .u8 0, .int .u8 0, .int .u8 0, .int .u8 0, .int .u8 0, .int .u8 0, .int .u8 0, .int .u8 0, .int .u8 0, .int .u8 0, .int .u8 0, .int .u8 0, .int .u8 0, .int .u8 0, .int .u8 0, .int .u8 0, .int .u8 0, .int .u8 0, .int .u8 0] 46)).heap.size = w.heap.size + 1 := by simp
  clear hS hM1 hM2 hD hM1l hM2l hDl hx hx'
  go_enter Tryd.func24, Tryd.ntmps24
  go_wp2_with fail
  generalize w.alloc (.cells #[.int .u8 0, .int .u8 0, .int .u8 0, .int .u8 0, .int .u8 0, .int .u8 0, .int .u8 0, .int .u8 0, .int .u8 0, .int .u8 0, .int .u8 0, .int .u8 0, .int .u8 0, .int .u8 0, .int .u8 0, .int .u8 0, .int .u8 0, .int .u8 0, .int .u8 0, .int .u8 0, .int .u8 0, .int .u8 0, .int .u8 0, .int .u8 0, .int .u8 0, .int .u8 0, .int .u8 0, .int .u8 0, .int .u8 0, .int .u8 0, .int .u8 0, .int .u8 0] 46) = w1 at k1 B1 z1 ⊢
  refine (under_54 A n c ks w1 hn HX.out ((hr.below B1).more B1.size)).mono ?_
  rintro e w2 ⟨A2, c2, rfl, ho2, hb2⟩
  rw [← HM1.out] at ho2
  have k2 := k1.below hb2 k1.lt
  have B2 := B1.trans (hb2.mono B1.size)
  have r2 := hr'.below B2
  have s2 : w1.heap.size ≤ w2.heap.size := hb2.size
  clear k1 B1 hb2
  go_wp2_with (at_builtin; refine wpList_append8 h8 _ rfl _ _ rfl w1.heap.size _ _ _ _ rfl ho2 _ _ _ _ _ rfl HX'.out r2 (by omega) (by omega) ?_; intro A3 c3 w3 ho3 hg3 hh3)
  have k3 : Blk w3 w.heap.size 46 (row8 (List.replicate 32 0)) := k2.grown hg3 (fun e => by have := ho2.blk w.heap.size e.symm; omega)
  have B3 : Below w.heap.size w w3 := B2.grown hg3 B2.size (fun q hq => Nat.le_trans (by omega) (ho2.blk q hq))
  have R3 := ho3.rd
  clear k2 B2 r2 ho2 hg3 hh3 ho3 s2
  go_wp2_with fail
  refine (refSum_any _ (64 + n') _ _ w3 (by omega) HL1.out R3).mono ?_
  rintro e w4 ⟨rfl, hb4⟩
  rw [← HD.out]
  have k4 := (k3.below hb4 k3.lt).alloc (.cells (row8 D) 46)
  have B4 := (B3.trans (hb4.mono B3.size)).alloc (Nat.le_trans B3.size hb4.size) (.cells (row8 D) 46)
  have d4 : Blk (w4.alloc (.cells (row8 D) 46)) w4.heap.size 46 (row8 D) := Blk.new _ _ _
  obtain ⟨r, hr5⟩ : ∃ r, r = w4.heap.size := ⟨_, rfl⟩
  rw [← hr5] at d4
  have hr0 : w3.heap.size ≤ r := by rw [hr5]; exact hb4.size
  clear k3 B3 hb4 R3
  go_wp2_with fail
  rw [← hr5]
  generalize w4.alloc (.cells (row8 D) 46) = w5 at k4 B4 d4 ⊢
  clear hr5 hst
  refine (under_92 A n c ks w5 hn HX.out ((hr.below B4).more B4.size)).mono ?_
  rintro e w6 ⟨A6, c6, rfl, ho6, hb6⟩
  rw [← HM2.out] at ho6
  have k6 := k4.below hb6 k4.lt
  have d6 := d4.below hb6 d4.lt
  have B6 := B4.trans (hb6.mono B4.size)
  have lt5 := k4.lt
  have s6 : w5.heap.size ≤ w6.heap.size := hb6.size
  have hsl : ∀ W : World, (Instr.sliceAt 46 (.pointer (some ⟨r, 0, none⟩)) none none none).run Tryd.prog W = .ok (.slice (some ⟨r, 0, none⟩) 32 32) W := fun W => slice_whole Tryd.underlying46 (by kernel_rfl) _ _ W
  have R6 : Rd w6 w6.heap.size (some ⟨r, 0, none⟩) D := RowAt.rd d6 0 D (fun j hj => by simp)
  clear k4 B4 hb6 d4
  go_wp2_with (at_builtin; refine wpList_append8 h8 _ rfl _ _ rfl w5.heap.size _ _ _ _ rfl ho6 _ _ _ _ _ rfl HDL.out R6 (by omega) (by omega) ?_; intro A7 c7 w7 ho7 hg7 hh7)
  have k7 : Blk w7 w.heap.size 46 (row8 (List.replicate 32 0)) := k6.grown hg7 (fun e => by have := ho6.blk w.heap.size e.symm; omega)
  have B7 : Below w.heap.size w w7 := B6.grown hg7 B6.size (fun q hq => Nat.le_trans (by omega) (ho6.blk q hq))
  have R7 := ho7.rd
  clear k6 B6 R6 ho6 hg7 hh7 ho7 d6 hsl s6
  go_wp2_with fail
  refine (refSum_any _ (64 + 32) _ _ w7 (by omega) HL2.out R7).mono ?_
  rintro e w8 ⟨rfl, hb8⟩
  rw [← HS.out]
  have k8 := k7.below hb8 k7.lt
  have B8 := B7.trans (hb8.mono B7.size)
  have hstr := run_storeCells_blk (P := Tryd.prog) k8 (cs := row8 S) (by rw [hsz]; rfl) (row8_one _)
  clear k7 B7 hb8 R7
  go_wp2_with fail
  exact bodyPost_ret (v := .agg (row8 S)) (results_cell_row rfl _ _ _ _ _ _ _ rfl (k8.setRow (row8 S)) Tryd.underlying46 rfl ((show (Tryd.prog.info? 46).map (·.size) = some 32 by kernel_rfl).trans (by rw [hsz]))) rfl ⟨rfl, Below.setRow_ B8 _ _ (Nat.le_refl _)⟩
end Go.Proofs.YtnnkgdkjmmljiaaDoor
