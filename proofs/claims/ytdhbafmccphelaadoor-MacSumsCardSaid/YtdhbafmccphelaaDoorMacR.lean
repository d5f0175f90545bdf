/-
  The reference of layer 7.
-/
import Derived.Test.YtdhbafmccphelaaDoorMacC
import Derived.Test.YtdhbafmccphelaaDoorShaR3
namespace Go.Proofs.YtdhbafmccphelaaDoor
open Go.RowKit
set_option linter.unusedVariables false
set_option maxRecDepth 100000

theorem Own8.some_ {w : World} {t : TypeId} {base n c : Nat} {A : Option Addr} {xs : List UInt8} (h : Own8 w t base A n c xs) (hn : 0 < n) : ∃ g zs, A = some ⟨g, 0, none⟩ ∧ base ≤ g ∧ RowAt w t g (xs ++ zs) ∧ n + zs.length = c ∧ c ≤ maxLen := by
  rcases h.2 with ⟨_, h0, _⟩ | ⟨g, zs, h⟩
  · omega
  · exact ⟨g, zs, h⟩

set_option maxHeartbeats 2000000 in
theorem under_any (A : Option Addr) (n c : Nat) (xs : List UInt8) (m : UInt8) (w : World) (hn : n ≤ 1048576) (hx : xs.length = n) (hr : Rd w w.heap.size A xs) :
    Calls Tryd.prog 19 #[.slice A n c, .int .u8 (m.toNat : Int)] w fun e w' => ∃ A2 c2, e = .returned (.slice A2 64 c2) ∧ Own8 w' 5 w.heap.size A2 64 c2 (msk m (blk xs)) ∧ Below w.heap.size w w' := by
  obtain ⟨i8, h8⟩ := Tryd.ty8
  obtain ⟨L, hL⟩ : ∃ L, L = blk xs := ⟨_, rfl⟩
  have HL := Lib.hid hL
  have HX := Lib.hid hx
  rw [← hL]
  clear hL
  by_cases h64 : 64 < n
  · have hb : decide ((n : Int) > 64) = true := by simp; omega
    obtain ⟨D, hD⟩ : ∃ D, D = dig xs := ⟨_, rfl⟩
    have HD := Lib.hid hD
    have hDl : D.length = 32 := by rw [hD, length_dig]
    have HDL := Lib.hid hDl
    have HSH : Hid (blk xs = D ++ List.replicate (64 - 32) 0) := Lib.hid (by rw [blk, shr_long (by omega), ← hD, hDl])
    have hszd : (row8 D).size = 32 := by rw [size_row8, hDl]
    have hst := fun W : World => run_storeCells_new (P := Tryd.prog) W 25 #[.int .u8 0, .int .u8 0, .int .u8 0, .int .u8 0, .int .u8 0, .int .u8 0, .int .u8 0, .int .u8 0, .int .u8 0, .int .u8 0, .int .u8 0, .int .u8 0, .int .u8 0, .int .u8 0, .int .u8 0, .int .u8 0, .int .u8 0, .int .u8 0, .int .u8 0, .int .u8 0, .int .u8 0, .int .u8 0, .int .u8 0, .int .u8 0, .int .u8 0, .int .u8 0, .int .u8 0, .int .u8 0, .int .u8 0, .int .u8 0, .int .u8 0, .int .u8 0] (row8 D) ((show (Tryd.prog.info? 25).map (·.size) = some 32 by kernel_rfl).trans (by rw [hszd])) (by rw [hszd]; rfl) (row8_one _)
    clear hD hDl hx
    go_enter Tryd.func19, Tryd.ntmps19
    go_wp2_with fail
    refine (copyBytes_any _ _ _ _ _ (by omega) HX.out hr).mono ?_
    rintro e w1 ⟨A1, c1, rfl, -, hb1⟩
    have hr1 := (hr.below hb1).more hb1.size
    clear hr
    go_wp2_with fail
    refine (refSum_any _ _ _ _ w1 (by omega) HX.out hr1).mono ?_
    rintro e w2 ⟨rfl, hb2⟩
    rw [← HD.out]
    have B2 := (hb1.trans (hb2.mono hb1.size)).alloc (Nat.le_trans hb1.size hb2.size) (.cells (row8 D) 25)
    have eD : Blk (w2.alloc (.cells (row8 D) 25)) w2.heap.size 25 (row8 D) := Blk.new _ _ _
    have eR : Rd (w2.alloc (.cells (row8 D) 25)) (w2.alloc (.cells (row8 D) 25)).heap.size (some ⟨w2.heap.size, 0, none⟩) D := RowAt.rd eD 0 D (fun j hj => by simp)
    have hsl : ∀ W : World, (Instr.sliceAt 25 (.pointer (some ⟨w2.heap.size, 0, none⟩)) none none none).run Tryd.prog W = .ok (.slice (some ⟨w2.heap.size, 0, none⟩) 32 32) W := fun W => slice_whole Tryd.underlying25 (by kernel_rfl) _ _ W
    clear hb1 hb2 hr1 eD
    go_wp2_with fail
    generalize w2.alloc (.cells (row8 D) 25) = w3 at B2 eR ⊢
    refine (copyBytes_any _ 32 32 D w3 (by omega) HDL.out eR).mono ?_
    rintro e w4 ⟨A2, c2, rfl, ho4, hb4⟩
    have ho5 := ho4.more B2.size
    have hB5 := B2.trans (hb4.mono B2.size)
    clear ho4 hb4 B2 eR hst hsl
    go_wp2_with fail
    go_loopw [5] (fun v wr => ∃ (k N : Nat) (A3 : Option Addr) (c3 : Nat), k ≤ 64 - 32 ∧ N = 32 + k ∧ v = .slice A3 N c3 ∧ Own8 wr 5 w.heap.size A3 N c3 (D ++ List.replicate k 0) ∧ Below w.heap.size w wr) (fun v _ => 64 - lenOf_ v)
    case atStart => exact ⟨0, 32, _, _, by omega, rfl, rfl, by simpa using ho5, hB5⟩
    case round =>
      clear ho5 hB5
      obtain ⟨k, N, A3, c3, hk, hN, rfl, ho, hB⟩ := hrel
      by_cases hlt : N < 64
      · have h1 := rd_one wr 5 0 0 rfl
        have h2' := ho.alloc (.cells #[.int .u8 0] 5)
        have hz2 := hB.size
        have hb1 := hB.alloc hz2 (.cells #[.int .u8 0] 5)
        have HN := Lib.hid hN
        clear ho hN
        go_wp2_with (at_builtin; refine wpList_append8 h8 _ rfl _ _ rfl w.heap.size _ _ _ _ rfl h2' _ _ _ _ _ rfl rfl h1 (by omega) (by simp; omega) ?_; intro A4 c4 w4 h4 hg4 ho4)
        go_roundw
        case rel =>
          refine ⟨k + 1, N + 1, A4, c4, by have := HN.out; omega, by have := HN.out; omega, rfl, ?_, hb1.grown hg4 (by simp; omega) h2'.blk⟩
          rw [List.append_assoc, ← List.replicate_succ'] at h4
          exact h4
        case measure => simp [lenOf_]; omega
      · have hN64 : N = 64 := by omega
        have hkz : k = 64 - 32 := by omega
        subst hN64
        have hlb : (D ++ List.replicate k 0).length = 64 := ho.len
        obtain ⟨g, zs, rfl, hbg, hrow, hcz, hcm⟩ := ho.some_ (by omega)
        have HBK := Lib.hid (show D ++ List.replicate k 0 = L by rw [HL.out, hkz]; exact HSH.out.symm)
        rw [HBK.out] at hrow hlb
        have HLB := Lib.hid hlb
        have HC := Lib.hid hcz
        clear hN hkz ho hlb hcz
        go_wp2_with fail
        go_loopw [7] (fun i wr' => ∃ j : Nat, j ≤ 64 ∧ i = .int .i64 j ∧ RowAt wr' 5 g (mskTo m L j ++ zs) ∧ Below w.heap.size w wr') (fun i _ => 64 - (intOf i).toNat)
        case atStart => exact ⟨0, by omega, rfl, by rw [mskTo_zero]; exact hrow, hB⟩
        case round =>
          clear hrow hB
          obtain ⟨j, hj, rfl, hrow, hB⟩ := hrel
          by_cases hlt' : j < 64
          · have hjl : j < L.length := by rw [HLB.out]; exact hlt'
            obtain ⟨x, hx⟩ : ∃ x, x = L[j] := ⟨_, rfl⟩
            have hjm : j < (mskTo m L j ++ zs).length := by rw [List.length_append, length_mskTo]; omega
            have ck : wr.cell? ⟨g, j, none⟩ = some (.int .u8 (x.toNat : Int)) := (Blk.cell hrow j).trans (by rw [get_row8, List.getElem?_append_left (by rw [length_mskTo]; exact hjl), mskTo_at hjl, hx]; rfl)
            have fk := Blk.frozen hrow j
            have HST := Lib.hid (show (mskTo m L j ++ zs).set j (x ^^^ m) = mskTo m L (j + 1) ++ zs by rw [List.set_append_left _ _ (by rw [length_mskTo]; exact hjl), hx, mskTo_step hjl])
            clear hjl hx hjm
            go_wp2_with fail
            go_roundw
            case rel =>
              refine ⟨j + 1, by omega, by go_num, ?_, hB.setCell hbg _⟩
              have := Blk.set_ hrow j (.int .u8 (bits .xor .u8 (x.toNat : Int) (m.toNat : Int)))
              rw [row8_bits, HST.out] at this
              exact this
            case measure => simp [intOf]; omega
          · have hj9 : decide ((j : Int) < 64) = false := by simp; omega
            rw [mskTo_end (show L.length ≤ j by rw [HLB.out]; omega)] at hrow
            go_wp2_with fail
            go_ret
            exact ⟨_, _, rfl, ⟨by rw [length_msk, HLB.out], .inr ⟨g, zs, rfl, hbg, hrow, HC.out, hcm⟩⟩, hB⟩
  · have hb : decide ((n : Int) > 64) = false := by simp; omega
    have HSH : Hid (blk xs = xs ++ List.replicate (64 - n) 0) := Lib.hid (by rw [blk, shr_short (by omega), hx])
    clear hx
    go_enter Tryd.func19, Tryd.ntmps19
    go_wp2_with fail
    refine (copyBytes_any _ _ _ _ _ (by omega) HX.out hr).mono ?_
    rintro e w1 ⟨A1, c1, rfl, ho5, hB5⟩
    clear hr
    go_wp2_with fail
    go_loopw [5] (fun v wr => ∃ (k N : Nat) (A3 : Option Addr) (c3 : Nat), k ≤ 64 - n ∧ N = n + k ∧ v = .slice A3 N c3 ∧ Own8 wr 5 w.heap.size A3 N c3 (xs ++ List.replicate k 0) ∧ Below w.heap.size w wr) (fun v _ => 64 - lenOf_ v)
    case atStart => exact ⟨0, n, _, _, by omega, rfl, rfl, by simpa using ho5, hB5⟩
    case round =>
      clear ho5 hB5
      obtain ⟨k, N, A3, c3, hk, hN, rfl, ho, hB⟩ := hrel
      by_cases hlt : N < 64
      · have h1 := rd_one wr 5 0 0 rfl
        have h2' := ho.alloc (.cells #[.int .u8 0] 5)
        have hz2 := hB.size
        have hb1 := hB.alloc hz2 (.cells #[.int .u8 0] 5)
        have HN := Lib.hid hN
        clear ho hN
        go_wp2_with (at_builtin; refine wpList_append8 h8 _ rfl _ _ rfl w.heap.size _ _ _ _ rfl h2' _ _ _ _ _ rfl rfl h1 (by omega) (by simp; omega) ?_; intro A4 c4 w4 h4 hg4 ho4)
        go_roundw
        case rel =>
          refine ⟨k + 1, N + 1, A4, c4, by have := HN.out; omega, by have := HN.out; omega, rfl, ?_, hb1.grown hg4 (by simp; omega) h2'.blk⟩
          rw [List.append_assoc, ← List.replicate_succ'] at h4
          exact h4
        case measure => simp [lenOf_]; omega
      · have hN64 : N = 64 := by omega
        have hkz : k = 64 - n := by omega
        subst hN64
        have hlb : (xs ++ List.replicate k 0).length = 64 := ho.len
        obtain ⟨g, zs, rfl, hbg, hrow, hcz, hcm⟩ := ho.some_ (by omega)
        have HBK := Lib.hid (show xs ++ List.replicate k 0 = L by rw [HL.out, hkz]; exact HSH.out.symm)
        rw [HBK.out] at hrow hlb
        have HLB := Lib.hid hlb
        have HC := Lib.hid hcz
        clear hN hkz ho hlb hcz
        go_wp2_with fail
        go_loopw [7] (fun i wr' => ∃ j : Nat, j ≤ 64 ∧ i = .int .i64 j ∧ RowAt wr' 5 g (mskTo m L j ++ zs) ∧ Below w.heap.size w wr') (fun i _ => 64 - (intOf i).toNat)
        case atStart => exact ⟨0, by omega, rfl, by rw [mskTo_zero]; exact hrow, hB⟩
        case round =>
          clear hrow hB
          obtain ⟨j, hj, rfl, hrow, hB⟩ := hrel
          by_cases hlt' : j < 64
          · have hjl : j < L.length := by rw [HLB.out]; exact hlt'
            obtain ⟨x, hx⟩ : ∃ x, x = L[j] := ⟨_, rfl⟩
            have hjm : j < (mskTo m L j ++ zs).length := by rw [List.length_append, length_mskTo]; omega
            have ck : wr.cell? ⟨g, j, none⟩ = some (.int .u8 (x.toNat : Int)) := (Blk.cell hrow j).trans (by rw [get_row8, List.getElem?_append_left (by rw [length_mskTo]; exact hjl), mskTo_at hjl, hx]; rfl)
            have fk := Blk.frozen hrow j
            have HST := Lib.hid (show (mskTo m L j ++ zs).set j (x ^^^ m) = mskTo m L (j + 1) ++ zs by rw [List.set_append_left _ _ (by rw [length_mskTo]; exact hjl), hx, mskTo_step hjl])
            clear hjl hx hjm
            go_wp2_with fail
            go_roundw
            case rel =>
              refine ⟨j + 1, by omega, by go_num, ?_, hB.setCell hbg _⟩
              have := Blk.set_ hrow j (.int .u8 (bits .xor .u8 (x.toNat : Int) (m.toNat : Int)))
              rw [row8_bits, HST.out] at this
              exact this
            case measure => simp [intOf]; omega
          · have hj9 : decide ((j : Int) < 64) = false := by simp; omega
            rw [mskTo_end (show L.length ≤ j by rw [HLB.out]; omega)] at hrow
            go_wp2_with fail
            go_ret
            exact ⟨_, _, rfl, ⟨by rw [length_msk, HLB.out], .inr ⟨g, zs, rfl, hbg, hrow, HC.out, hcm⟩⟩, hB⟩
end Go.Proofs.YtdhbafmccphelaaDoor
