/-
  Layer 6: the law ShaStates.
-/
import Derived.Test.YtakbppgcfhdkeaaDoorShaL5
import Derived.Test.YtakbppgcfhdkeaaDoorShaR3
namespace Go.Proofs.YtakbppgcfhdkeaaDoor
open Go.RowKit
set_option linter.unusedVariables false
set_option maxRecDepth 100000

set_option maxHeartbeats 4000000 in
theorem shaStates_walk (A : Option Addr) (n c : Nat) (ls : List (List UInt8)) (w : World) (hT : Tabs w) (hn : n ≤ c) (hc : c ≤ maxLen) (hl : ls.length = n) (hm : Mat w w.heap.size A ls) :
    Calls Tryd.prog 4 #[.slice A n c] w fun e w' => e = .returned (.bool true) ∧ Below w.heap.size w w' := by
  have h2 := hT.2.2
  obtain ⟨i8, h8⟩ := Tryd.ty8
  have hlong' := (long_any A n c ls w hn hc hl hm)
  cases hlong : isLong ls
  · rw [hlong] at hlong'
    have HLONG := Lib.hid hlong'
    obtain ⟨hl50, hls⟩ := isLong_no hlong
    have HL := Lib.hid hl
    have HM := Lib.hid hm
    have HLS := Lib.hid hls
    obtain ⟨q, hq⟩ : ∃ q, q = w.heap.size := ⟨_, rfl⟩
    have hqq : 2 ≤ q := by omega
    have HQE := Lib.hid hq
    clear hl hm hls hlong hlong' hc
    go_enter Tryd.func4, Tryd.ntmps4
    go_wp2_with (go_at_call 15; refine HLONG.out.mono ?_; rintro ev w1 ⟨rfl, rfl⟩)
    refine (new_any w).mono ?_
    rintro ev w1 ⟨rfl, hst1, hB1⟩
    rw [← hq] at hst1 ⊢
    clear hq
    go_wp2_with fail
    go_loopw [4, 5] (fun av i wr => ∃ (k : Nat) (xs : List UInt8) (A1 : Option Addr) (n1 c1 : Nat), k ≤ n ∧ i = .int .i64 k ∧ av = .slice A1 n1 c1 ∧ St wr q xs ∧
      Own8 wr 5 (q + 1) A1 n1 c1 xs ∧ Hid (xs.length ≤ 1024 * k) ∧ Below w.heap.size w wr) (fun _ i _ => n - (intOf i).toNat)
    case atStart => exact ⟨0, [], none, 0, 0, by omega, rfl, rfl, hst1, Own8.nil _ _ _, Lib.hid (by simp), hB1⟩
    case round =>
      clear hst1 hB1
      obtain ⟨k, xs, A1, n1, c1, hk, rfl, rfl, hs, ho1, HTOT, hB⟩ := hrel
      by_cases hlt : k < n
      · have hkl : k < ls.length := by rw [HL.out]; exact hlt
        obtain ⟨b, o, hA, hbl, A', n', c', hcell, hn', hc', hl', hrd'⟩ := HM.out.at_ hkl
        subst hA
        have hfl' := HLS.out k hkl
        have cm := (hB.cell hbl).trans hcell
        obtain ⟨l, hll⟩ : ∃ l, l = ls[k] := ⟨_, rfl⟩
        rw [← hll] at hl' hrd' hfl'
        clear hll
        have hw0 : w.heap.size ≤ q := Nat.le_of_eq HQE.out.symm
        have HRD := Lib.hid hrd'
        have HLN := Lib.hid hl'
        have HCN := Lib.hid hc'
        have hn1024 : n' ≤ 1024 := by omega
        have HCE := Lib.hid hcell
        have hk50 : k < 50 := by have := HL.out; omega
        clear hrd' hl' hc' hfl' hcell
        go_wp2_with fail
        refine (write_any q A' n' c' xs l wr hs (hT.below hB h2) (by omega) hn' HCN.out HLN.out (HRD.out.src hB (by omega)) (by have := HTOT.out; omega)).mono ?_
        rintro ev w7 ⟨rfl, hs7, ht7⟩
        have hB7 : Below w.heap.size w w7 := tw_below hB ht7 (by simp; omega) (Nat.le_refl _)
        have cm7 := (hB7.cell hbl).trans HCE.out
        have HMY := Lib.hid (show Own8 w7 5 (q + 1) A1 n1 c1 xs from ho1.keep fun g hg => ht7.block g (ho1.lt g hg).2 (by have := (ho1.lt g hg).1; simp; omega))
        have hcut7 : q + 1 ≤ w7.heap.size := by have := hs7.lt; omega
        have HS7 := Lib.hid hs7
        have HB7 := Lib.hid hB7
        have hnx : n1 ≤ 51200 := by have := HMY.out.len; have := HTOT.out; omega
        have hrl : Rd w7 w.heap.size A' l := HRD.out.below hB7
        clear cm hs ht7 hB ho1 hs7 hB7
        go_wp2_with (at_builtin; refine wpList_append8 h8 _ rfl _ _ rfl (q + 1) _ _ _ _ rfl HMY.out _ _ _ _ _ rfl HLN.out hrl (by omega) (by omega) ?_; intro A4 c4 w4 h4 hg4 ho4)
        have hne : ∀ g, g < q + 1 → some g ≠ (A1.map (·.block)) := fun g hg e => by have := HMY.out.blk g e.symm; omega
        have hs8 : St w4 q (xs ++ l) := HS7.out.grown hg4 (hne _ (by omega))
        have hB8 : Below w.heap.size w w4 := HB7.out.grown hg4 (by omega) fun g hg => by have := HMY.out.blk g hg; omega
        have HYL := Lib.hid (show (xs ++ l).length ≤ 1024 * (k + 1) by have := HTOT.out; have := HLN.out; simp only [List.length_append]; omega)
        obtain ⟨ys, hys⟩ : ∃ ys, ys = xs ++ l := ⟨_, rfl⟩
        rw [← hys] at h4 hs8 HYL
        obtain ⟨n4, hn4⟩ : ∃ n4, n4 = n1 + n' := ⟨_, rfl⟩
        rw [← hn4] at h4 ⊢
        clear hys hn4 hg4 ho4 hne hrl cm7 HMY HS7 HB7 hnx hcut7 HTOT
        have hyl : ys.length ≤ 51200 := by have := HYL.out; omega
        have H4 := Lib.hid h4
        have hn4l : n4 ≤ 51200 := by have := h4.len; omega
        clear h4
        obtain ⟨D, hD⟩ : ∃ D, D = dig ys := ⟨_, rfl⟩
        have HD := Lib.hid hD
        have heqD := equal_same D (by rw [hD, length_dig])
        clear hD
        refine (sumState_any q ys w4 hs8 (hT.below hB8 h2) (by omega)).mono ?_
        rintro ev w3 ⟨rfl, hB3⟩
        rw [← HD.out]
        have hs3 := hs8.below hB3 hs8.lt
        have hB3' : Below w.heap.size w w3 := hB8.trans (hB3.mono hB8.size)
        have ho3 := H4.out.below hB3 (Nat.le_refl _)
        clear hB3 hs8 hB8
        go_wp2_with fail
        refine (refSum_any A4 n4 c4 ys w3 (by omega) ho3.len ho3.rd).mono ?_
        rintro ev w5 ⟨rfl, hB5⟩
        rw [← HD.out]
        have hs5 := hs3.below hB5 hs3.lt
        have hB5' : Below w.heap.size w w5 := hB3'.trans (hB5.mono hB3'.size)
        have HO5 := Lib.hid (ho3.below hB5 (Nat.le_refl _))
        clear hB5 hs3 hB3' ho3
        go_wp2_with fail
        go_roundw
        case rel => exact ⟨k + 1, ys, A4, n4, c4, by omega, by go_num, rfl, hs5, HO5.out, HYL, hB5'⟩
        case measure => simp [intOf]; omega
      · have hk9 : decide ((k : Int) < (n : Int)) = false := by simp; omega
        have hn50 : k ≤ 50 := by have := HL.out; omega
        have hxl : xs.length ≤ 51200 := by have := HTOT.out; omega
        have HO1 := Lib.hid ho1
        have hn1l : n1 ≤ 51200 := by have := ho1.len; omega
        clear ho1
        obtain ⟨D, hD⟩ : ∃ D, D = dig xs := ⟨_, rfl⟩
        have HD := Lib.hid hD
        have heqD := equal_same D (by rw [hD, length_dig])
        clear hD
        go_wp2_with fail
        refine (sumState_any q xs wr hs (hT.below hB h2) (by omega)).mono ?_
        rintro ev w3 ⟨rfl, hB3⟩
        rw [← HD.out]
        have hB3' : Below w.heap.size w w3 := hB.trans (hB3.mono hB.size)
        have ho3 := HO1.out.below hB3 (Nat.le_refl _)
        clear hB3 hB hs
        go_wp2_with fail
        refine (refSum_any A1 n1 c1 xs w3 (by omega) ho3.len ho3.rd).mono ?_
        rintro ev w5 ⟨rfl, hB5⟩
        rw [← HD.out]
        have hB5' : Below w.heap.size w w5 := hB3'.trans (hB5.mono hB3'.size)
        clear hB5 hB3' ho3
        go_wp2_with fail
        refine (works_any _ (hT.below hB5' h2)).mono ?_
        rintro ev w7 ⟨rfl, hB7⟩
        go_wp2_with fail
        go_ret
        exact ⟨rfl, hB5'.trans (hB7.mono hB5'.size)⟩
  · rw [hlong] at hlong'
    have HLONG := Lib.hid hlong'
    clear hlong' hlong
    go_enter Tryd.func4, Tryd.ntmps4
    go_wp2_with (go_at_call 15; refine HLONG.out.mono ?_; rintro ev w1 ⟨rfl, rfl⟩)
    refine (works_any _ hT).mono ?_
    rintro e w1 ⟨rfl, hB⟩
    go_wp2_with fail
    go_ret
    exact ⟨rfl, hB⟩
end Go.Proofs.YtakbppgcfhdkeaaDoor
