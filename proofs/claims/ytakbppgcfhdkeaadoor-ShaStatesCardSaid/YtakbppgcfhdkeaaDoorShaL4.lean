/-
  Layer 6: long; the law ShaZero.
-/
import Derived.Test.YtakbppgcfhdkeaaDoorShaL2
import Derived.Test.YtakbppgcfhdkeaaDoorShaMat
namespace Go.Proofs.YtakbppgcfhdkeaaDoor
open Go.RowKit
set_option linter.unusedVariables false
set_option maxRecDepth 100000

/-- More than a statement writes? -/
def isLong (ls : List (List UInt8)) : Bool := decide (50 < ls.length) || ls.any fun l => decide (1024 < l.length)
theorem isLong_no {ls : List (List UInt8)} (h : isLong ls = false) : ls.length ≤ 50 ∧ ∀ i (hi : i < ls.length), (ls[i]).length ≤ 1024 := by
  simp only [isLong, Bool.or_eq_false_iff, decide_eq_false_iff_not, List.any_eq_false, decide_eq_true_eq] at h
  exact ⟨by omega, fun i hi => by have := h.2 ls[i] (List.getElem_mem hi); omega⟩

set_option maxHeartbeats 1000000 in
theorem long_any (A : Option Addr) (n c : Nat) (ls : List (List UInt8)) (w : World) (hn : n ≤ c) (hc : c ≤ maxLen) (hl : ls.length = n) (hm : Mat w w.heap.size A ls) :
    Calls Tryd.prog 15 #[.slice A n c] w fun e w' => e = .returned (.bool (isLong ls)) ∧ w = w' := by
  by_cases hbig : 50 < n
  · have hb : decide ((n : Int) > 50) = true := by simp; omega
    have hr : isLong ls = true := by simp [isLong]; left; omega
    rw [hr]
    go_enter Tryd.func15, Tryd.ntmps15
    go_wp2_with fail
    go_ret
    exact ⟨rfl, rfl⟩
  · have hb : decide ((n : Int) > 50) = false := by simp; omega
    have HL := Lib.hid hl
    have HM := Lib.hid hm
    obtain ⟨r, hr⟩ : ∃ r, r = isLong ls := ⟨_, rfl⟩
    have HR := Lib.hid hr
    rw [← hr]
    clear hl hm hr hc
    go_enter Tryd.func15, Tryd.ntmps15
    go_wp2_with fail
    go_loopw [3] (fun i wr => ∃ k : Nat, k ≤ n ∧ i = .int .i64 k ∧ wr = w ∧ Hid (∀ j, j < k → ∀ hj : j < ls.length, (ls[j]).length ≤ 1024)) (fun i _ => n - (intOf i).toNat)
    case atStart => exact ⟨0, by omega, rfl, rfl, Lib.hid fun j hj => by omega⟩
    case round =>
      obtain ⟨k, hk, rfl, rfl, HK⟩ := hrel
      by_cases hlt : k < n
      · have hkl : k < ls.length := by rw [HL.out]; exact hlt
        obtain ⟨b, o, hA, hbl, A', n', c', hcell, hn', hc', hl', hrd'⟩ := HM.out.at_ hkl
        subst hA
        have hm47 : n' ≤ 9223372036854775807 := by have := hc'; unfold maxLen at this; omega
        by_cases hbig' : 1024 < n'
        · have hb' : decide ((n' : Int) > 1024) = true := by simp; omega
          have hrt : r = true := by
            rw [HR.out]
            simp only [isLong, Bool.or_eq_true, List.any_eq_true, decide_eq_true_eq]
            exact .inr ⟨ls[k], List.getElem_mem hkl, by omega⟩
          have HRT := Lib.hid hrt
          clear hl' hrd' hrt
          go_wp2_with fail
          go_ret
          exact ⟨by rw [HRT.out]; rfl, rfl⟩
        · have hb' : decide ((n' : Int) > 1024) = false := by simp; omega
          have HK2 : Hid (∀ j, j < k + 1 → ∀ hj : j < ls.length, (ls[j]).length ≤ 1024) := Lib.hid fun j hj hj' => by
            rcases Nat.lt_or_ge j k with h | h
            · exact HK.out j h hj'
            · obtain rfl : j = k := by omega
              omega
          clear hl' hrd'
          go_wp2_with fail
          go_roundw
          case rel => exact ⟨k + 1, by omega, by go_num, trivial, HK2⟩
          case measure => simp [intOf]; omega
      · have hk9 : decide ((k : Int) < (n : Int)) = false := by simp; omega
        have hrf : r = false := by
          rw [HR.out]
          simp only [isLong, Bool.or_eq_false_iff, decide_eq_false_iff_not, List.any_eq_false, decide_eq_true_eq]
          refine ⟨by rw [HL.out]; exact hbig, fun l hl => ?_⟩
          obtain ⟨i, hi, rfl⟩ := List.mem_iff_getElem.1 hl
          have := HK.out i (by have := HL.out; omega) hi
          omega
        have HRF := Lib.hid hrf
        clear hrf
        go_wp2_with fail
        go_ret
        exact ⟨by rw [HRF.out]; rfl, rfl⟩

/-- The pieces ahead of k, one behind the other. -/
def flt (ls : List (List UInt8)) (k : Nat) : List UInt8 := (ls.take k).flatten
theorem flt_succ {ls : List (List UInt8)} {k : Nat} (h : k < ls.length) : flt ls (k + 1) = flt ls k ++ ls[k] := by
  unfold flt
  rw [List.take_add_one, List.getElem?_eq_getElem h, List.flatten_append]
  simp
theorem flt_len {ls : List (List UInt8)} (h : ∀ i (hi : i < ls.length), (ls[i]).length ≤ 1024) (k : Nat) : (flt ls k).length ≤ 1024 * k := by
  induction k with
  | zero => simp [flt]
  | succ k ih =>
    rcases Nat.lt_or_ge k ls.length with hk | hk
    · rw [flt_succ hk, List.length_append]
      have := h k hk
      omega
    · have e : flt ls (k + 1) = flt ls k := by unfold flt; rw [List.take_of_length_le (by omega), List.take_of_length_le hk]
      rw [e]
      omega

set_option maxHeartbeats 4000000 in
theorem shaZero_walk (A : Option Addr) (n c : Nat) (ls : List (List UInt8)) (w : World) (hT : Tabs w) (hn : n ≤ c) (hc : c ≤ maxLen) (hl : ls.length = n) (hm : Mat w w.heap.size A ls) :
    Calls Tryd.prog 8 #[.slice A n c] w fun e w' => e = .returned (.bool true) ∧ Below w.heap.size w w' := by
  have h2 := hT.2.2
  cases hlong : isLong ls
  · obtain ⟨hl50, hls⟩ := isLong_no hlong
    have HL := Lib.hid hl
    have HM := Lib.hid hm
    have HLS := Lib.hid hls
    obtain ⟨s0, hs0⟩ : ∃ s0, s0 = stRow (List.replicate 8 0) (List.replicate 64 0) 0 := ⟨_, rfl⟩
    have hz : ∀ w : World, (zeroValue 42).run Tryd.prog w = .ok (.agg s0) w := by rw [hs0]; exact zero_state
    have hst0 := St.new w
    rw [← hs0] at hst0
    have hB0 := below_new w (.cells s0 42)
    have hz0 : (w.alloc (.cells s0 42)).heap.size = w.heap.size + 1 := by simp
    clear hs0
    obtain ⟨q, hq⟩ : ∃ q, q = w.heap.size := ⟨_, rfl⟩
    have hqq : 2 ≤ q := by omega
    have HQE := Lib.hid hq
    rw [← hq] at hst0 hz0
    have hlong' := (long_any A n c ls w hn hc hl hm)
    rw [hlong] at hlong'
    have HLONG := Lib.hid hlong'
    clear hl hm hls hlong hlong'
    obtain ⟨D, hD⟩ : ∃ D, D = dig [] := ⟨_, rfl⟩
    have HD := Lib.hid hD
    have heq := equal_same D (by rw [hD, length_dig])
    clear hD
    go_enter Tryd.func8, Tryd.ntmps8
    go_wp2_with (go_at_call 15; refine HLONG.out.mono ?_; rintro ev w1 ⟨rfl, rfl⟩)
    generalize w.alloc (.cells s0 42) = w1 at hst0 hB0 hz0 ⊢
    rw [← hq]
    clear hq
    refine (new_any w1).mono ?_
    rintro ev w2 ⟨rfl, hst2, hB2⟩
    rw [hz0] at hst2 ⊢
    have hs02 : St w2 q [] := hst0.below hB2 hst0.lt
    have hBw2 : Below w.heap.size w w2 := hB0.trans (hB2.mono hB0.size)
    have hlt2 := hst2.lt
    clear hst0 hB0 hB2 hz0
    go_wp2_with fail
    refine (sumState_any q [] w2 hs02 (hT.below hBw2 h2) (by simp)).mono ?_
    rintro ev w3 ⟨rfl, hB3⟩
    rw [← HD.out]
    have hBw3 : Below w.heap.size w w3 := hBw2.trans (hB3.mono hBw2.size)
    have hs3 := hs02.below hB3 hs02.lt
    have ht3 := hst2.below hB3 hlt2
    clear hs02 hst2 hB3 hBw2
    go_wp2_with fail
    refine (sum_any none 0 0 [] w3 (hT.below hBw3 h2) (Nat.le_refl _) (Nat.zero_le _) rfl (.inl rfl) (by omega)).mono ?_
    rintro ev w4 ⟨rfl, hB4⟩
    rw [← HD.out]
    have hBw4 : Below w.heap.size w w4 := hBw3.trans (hB4.mono hBw3.size)
    have hs4 := hs3.below hB4 hs3.lt
    have ht4 := ht3.below hB4 ht3.lt
    clear hs3 ht3 hB4 hBw3
    go_wp2_with fail
    refine (sumState_any (q + 1) [] w4 ht4 (hT.below hBw4 h2) (by simp)).mono ?_
    rintro ev w5 ⟨rfl, hB5⟩
    rw [← HD.out]
    have hBw5 : Below w.heap.size w w5 := hBw4.trans (hB5.mono hBw4.size)
    have hs5 := hs4.below hB5 hs4.lt
    have ht5 := ht4.below hB5 ht4.lt
    clear hs4 ht4 hB5 hBw4
    go_wp2_with fail
    refine (sum_any none 0 0 [] w5 (hT.below hBw5 h2) (Nat.le_refl _) (Nat.zero_le _) rfl (.inl rfl) (by omega)).mono ?_
    rintro ev w6 ⟨rfl, hB6⟩
    rw [← HD.out]
    have hBw6 : Below w.heap.size w w6 := hBw5.trans (hB6.mono hBw5.size)
    have hs6 := hs5.below hB6 hs5.lt
    have ht6 := ht5.below hB6 ht5.lt
    clear hs5 ht5 hB6 hBw5
    go_wp2_with fail
    clear heq
    go_loopw [5] (fun i wr => ∃ k : Nat, k ≤ n ∧ i = .int .i64 k ∧ St wr q (flt ls k) ∧ St wr (q + 1) (flt ls k) ∧ Below w.heap.size w wr) (fun i _ => n - (intOf i).toNat)
    case atStart => exact ⟨0, by omega, rfl, hs6, ht6, hBw6⟩
    case round =>
      clear hs6 ht6 hBw6
      obtain ⟨k, hk, rfl, hs, ht, hB⟩ := hrel
      by_cases hlt : k < n
      · have hkl : k < ls.length := by rw [HL.out]; exact hlt
        obtain ⟨b, o, hA, hbl, A', n', c', hcell, hn', hc', hl', hrd'⟩ := HM.out.at_ hkl
        subst hA
        have hfl := flt_len HLS.out k
        have hfl' := HLS.out k hkl
        have cm := (hB.cell hbl).trans hcell
        have HFS := Lib.hid (flt_succ hkl)
        obtain ⟨l, hll⟩ : ∃ l, l = ls[k] := ⟨_, rfl⟩
        rw [← hll] at HFS hl' hrd' hfl'
        clear hll
        have hw0 := Nat.le_of_eq HQE.out.symm
        have HRD := Lib.hid hrd'
        have HLN := Lib.hid hl'
        have HCN := Lib.hid hc'
        have hn1024 : n' ≤ 1024 := by omega
        have HCE := Lib.hid hcell
        clear hrd' hl' hc' hfl' hcell
        have hk50 : k < 50 := by omega
        go_wp2_with fail
        refine (write_any q A' n' c' (flt ls k) l wr hs (hT.below hB h2) hqq hn' HCN.out HLN.out (HRD.out.src hB hw0) (by omega)).mono ?_
        rintro ev w7 ⟨rfl, hs7, ht7⟩
        rw [← HFS.out] at hs7
        have hB7 : Below w.heap.size w w7 := tw_below hB ht7 (by rw [HQE.out]; simp) (Nat.le_refl _)
        have htt7 := ht.tw ht7 (by simp)
        have cm7 := (hB7.cell hbl).trans HCE.out
        clear cm hs ht ht7 hB
        go_wp2_with fail
        refine (write_any (q + 1) A' n' c' (flt ls k) l w7 htt7 (hT.below hB7 h2) (by omega) hn' HCN.out HLN.out (HRD.out.src hB7 (by omega)) (by omega)).mono ?_
        rintro ev w8 ⟨rfl, ht8, hx8⟩
        rw [← HFS.out] at ht8
        have hB8 : Below w.heap.size w w8 := tw_below hB7 hx8 (by rw [HQE.out]; simp) (Nat.le_refl _)
        have hs8 := hs7.tw hx8 (by simp)
        clear cm7 hs7 htt7 hx8 hB7
        have hfl1 : (flt ls (k + 1)).length ≤ 1152921504606846000 := by have := flt_len HLS.out (k + 1); omega
        obtain ⟨E, hE⟩ : ∃ E, E = dig (flt ls (k + 1)) := ⟨_, rfl⟩
        have HE := Lib.hid hE
        have heq := equal_same E (by rw [hE, length_dig])
        clear hE
        go_wp2_with fail
        refine (sumState_any q (flt ls (k + 1)) w8 hs8 (hT.below hB8 h2) hfl1).mono ?_
        rintro ev w9 ⟨rfl, hB9⟩
        rw [← HE.out]
        have hBw9 : Below w.heap.size w w9 := hB8.trans (hB9.mono hB8.size)
        have hs9 := hs8.below hB9 hs8.lt
        have ht9 := ht8.below hB9 ht8.lt
        clear hs8 ht8 hB9 hB8
        go_wp2_with fail
        refine (sumState_any (q + 1) (flt ls (k + 1)) w9 ht9 (hT.below hBw9 h2) hfl1).mono ?_
        rintro ev w10 ⟨rfl, hB10⟩
        rw [← HE.out]
        have hBw10 : Below w.heap.size w w10 := hBw9.trans (hB10.mono hBw9.size)
        have hs10 := hs9.below hB10 hs9.lt
        have ht10 := ht9.below hB10 ht9.lt
        clear hs9 ht9 hB10 hBw9
        go_wp2_with fail
        go_roundw
        case rel => exact ⟨k + 1, by omega, by go_num, hs10, ht10, hBw10⟩
        case measure => simp [intOf]; omega
      · have hk9 : decide ((k : Int) < (n : Int)) = false := by simp; omega
        go_wp2_with fail
        refine (works_any _ (hT.below hB h2)).mono ?_
        rintro ev w7 ⟨rfl, hB7⟩
        go_wp2_with fail
        go_ret
        exact ⟨rfl, hB.trans (hB7.mono hB.size)⟩
  · have hlong' := (long_any A n c ls w hn hc hl hm)
    rw [hlong] at hlong'
    have HLONG := Lib.hid hlong'
    clear hlong' hlong
    go_enter Tryd.func8, Tryd.ntmps8
    go_wp2_with (go_at_call 15; refine HLONG.out.mono ?_; rintro ev w1 ⟨rfl, rfl⟩)
    refine (works_any _ hT).mono ?_
    rintro e w1 ⟨rfl, hB⟩
    go_wp2_with fail
    go_ret
    exact ⟨rfl, hB⟩
end Go.Proofs.YtakbppgcfhdkeaaDoor
