/-
  Layer 6: the law ShaTwo.
-/
import Derived.Test.YtakbppgcfhdkeaaDoorShaL4
import Derived.Test.YtakbppgcfhdkeaaDoorTy
namespace Go.Proofs.YtakbppgcfhdkeaaDoor
open Go.RowKit
set_option linter.unusedVariables false
set_option maxRecDepth 100000

/-- Two rows of the call's own, in two blocks. -/
def Ap (A B : Option Addr) : Prop := ∀ g, A = some ⟨g, 0, none⟩ → B ≠ some ⟨g, 0, none⟩
theorem Ap.symm {A B : Option Addr} (h : Ap A B) : Ap B A := fun g hb ha => h g ha hb
theorem own_pair {w w4 : World} {t : TypeId} {base n c on oc : Nat} {A A4 oA : Option Addr} {xs oxs : List UInt8} (hm : Own8 w t base A n c xs) (ho : Own8 w t base oA on oc oxs) (hap : Ap A oA) (hg : w.grownBy w4 (A.map (·.block)))
    (h4 : A4 = A ∨ A4 = some ⟨w.heap.size, 0, none⟩) : Own8 w4 t base oA on oc oxs ∧ Ap A4 oA := by
  refine ⟨ho.keep fun g hg' => hg.block g (ho.lt g hg').2 fun e => ?_, fun g ha hb => ?_⟩
  · rcases hm.2 with ⟨rfl, _⟩ | ⟨g', zs, rfl, _⟩
    · cases e
    · injection e with e
      have : g = g' := e
      subst this
      exact hap g rfl hg'
  · rcases h4 with rfl | rfl
    · exact hap g ha hb
    · injection ha with ha
      injection ha with ha
      have := (ho.lt g hb).2
      omega
theorem St.grown {w w' : World} {q : Nat} {xs : List UInt8} {row : Option Nat} (h : St w q xs) (hg : w.grownBy w' row) (hne : some q ≠ row) : St w' q xs := let ⟨G, bs, hb, hi⟩ := h; ⟨G, bs, hb.grown hg hne, hi⟩

set_option maxHeartbeats 4000000 in
theorem shaTwo_walk (A : Option Addr) (n c : Nat) (ls : List (List UInt8)) (AT : Option Addr) (nt ct : Nat) (ts : List Bool) (w : World) (hT : Tabs w) (hn : n ≤ c) (hc : c ≤ maxLen) (hl : ls.length = n) (hm : Mat w w.heap.size A ls)
    (hnt : nt ≤ ct) (hct : ct ≤ maxLen) (hlt' : ts.length = nt) (hbt : Bools w w.heap.size AT ts) :
    Calls Tryd.prog 7 #[.slice A n c, .slice AT nt ct] w fun e w' => e = .returned (.bool true) ∧ Below w.heap.size w w' := by
  have h2 := hT.2.2
  obtain ⟨i8, h8⟩ := Tryd.ty8
  have hlong' := (long_any A n c ls w hn hc hl hm)
  cases hlong : isLong ls
  · rw [hlong] at hlong'
    have HLONG := Lib.hid hlong'
    by_cases hbig : 50 < nt
    · have hb : decide ((nt : Int) > 50) = true := by simp; omega
      clear hlong' hlong hl hlt'
      go_enter Tryd.func7, Tryd.ntmps7
      go_wp2_with (go_at_call 15; refine HLONG.out.mono ?_; rintro ev w1 ⟨rfl, rfl⟩)
      refine (works_any _ hT).mono ?_
      rintro e w1 ⟨rfl, hB⟩
      go_wp2_with fail
      go_ret
      exact ⟨rfl, hB⟩
    · have hb : decide ((nt : Int) > 50) = false := by simp; omega
      obtain ⟨hl50, hls⟩ := isLong_no hlong
      have HL := Lib.hid hl
      have HM := Lib.hid hm
      have HLS := Lib.hid hls
      have HBT := Lib.hid hbt
      have HLT := Lib.hid hlt'
      obtain ⟨q, hq⟩ : ∃ q, q = w.heap.size := ⟨_, rfl⟩
      have hqq : 2 ≤ q := by omega
      have HQE := Lib.hid hq
      clear hl hm hls hlong hlong' hbt hlt' hct hc
      go_enter Tryd.func7, Tryd.ntmps7
      go_wp2_with (go_at_call 15; refine HLONG.out.mono ?_; rintro ev w1 ⟨rfl, rfl⟩)
      refine (new_any w).mono ?_
      rintro ev w1 ⟨rfl, hst1, hB1⟩
      have hlt1 := hst1.lt
      rw [← hq] at hst1 hlt1 ⊢
      clear hq
      go_wp2_with fail
      refine (new_any w1).mono ?_
      rintro ev w2 ⟨rfl, hst2, hB2⟩
      obtain ⟨q2, hq2⟩ : ∃ q2, q2 = w1.heap.size := ⟨_, rfl⟩
      rw [← hq2] at hst2 hB2 ⊢
      have hs2 : St w2 q [] := hst1.below hB2 (by omega)
      have hBw2 : Below w.heap.size w w2 := hB1.trans (hB2.mono (by rw [hq2]; exact hB1.size))
      have hqq2 : q < q2 := by omega
      clear hst1 hB1 hB2 hlt1
      have HQ2 := Lib.hid hq2
      clear hq2
      go_wp2_with fail
      go_loopw [7, 8, 9] (fun av bv i wr => ∃ (k : Nat) (xs ys : List UInt8) (A1 A2 : Option Addr) (n1 c1 n2 c2 : Nat), k ≤ n ∧ i = .int .i64 k ∧ av = .slice A1 n1 c1 ∧ bv = .slice A2 n2 c2 ∧ St wr q xs ∧ St wr q2 ys ∧
        Own8 wr 5 (q2 + 1) A1 n1 c1 xs ∧ Own8 wr 5 (q2 + 1) A2 n2 c2 ys ∧ Hid (Ap A1 A2) ∧ Hid (xs.length + ys.length ≤ 1024 * k) ∧ Below w.heap.size w wr) (fun _ _ i _ => n - (intOf i).toNat)
      case atStart => exact ⟨0, [], [], none, none, 0, 0, 0, 0, by omega, rfl, rfl, rfl, hs2, hst2, Own8.nil _ _ _, Own8.nil _ _ _, Lib.hid (fun g h => by cases h), Lib.hid (by simp), hBw2⟩
      case round =>
        clear hs2 hst2 hBw2
        obtain ⟨k, xs, ys, A1, A2, n1, c1, n2, c2, hk, rfl, rfl, rfl, hs, ht, ho1, ho2, HAP, HTOT, hB⟩ := hrel
        by_cases hlt : k < n
        · have hkl : k < ls.length := by rw [HL.out]; exact hlt
          obtain ⟨b, o, hA, hbl, A', n', c', hcell, hn', hc', hl', hrd'⟩ := HM.out.at_ hkl
          subst hA
          have hfl' := HLS.out k hkl
          have cm := (hB.cell hbl).trans hcell
          obtain ⟨l, hll⟩ : ∃ l, l = ls[k] := ⟨_, rfl⟩
          rw [← hll] at hl' hrd' hfl'
          clear hll
          have hw0 : w.heap.size ≤ q := Nat.le_of_eq HQE.out.symm
          have HRD := Lib.hid hrd'
          have HLN := Lib.hid hl'
          have HCN := Lib.hid hc'
          have hn1024 : n' ≤ 1024 := by omega
          have HCE := Lib.hid hcell
          have hk50 : k < 50 := by have := HL.out; omega
          clear hrd' hl' hc' hfl' hcell
          by_cases hkt : k < nt
          · have hktl : k < ts.length := by rw [HLT.out]; exact hkt
            obtain ⟨bt, ot, hAT, hbtl, hcb⟩ := HBT.out.at_ hktl
            subst hAT
            have cb := (hB.cell hbtl).trans hcb
            obtain ⟨x, hx⟩ : ∃ x, x = ts[k] := ⟨_, rfl⟩
            rw [← hx] at cb
            clear hx hcb
            have hktb : decide ((k : Int) < (nt : Int)) = true := by simp; omega
            cases x
            · clear hlt
              have hlt : k < n := by have := HL.out; omega
              go_wp2_with fail
              refine (write_any (q2) A' n' c' ys l wr ht (hT.below hB h2) (by omega) hn' HCN.out HLN.out (HRD.out.src hB (by omega)) (by have := HTOT.out; omega)).mono ?_
              rintro ev w7 ⟨rfl, hs7, ht7⟩
              have hB7 : Below w.heap.size w w7 := tw_below hB ht7 (by simp; omega) (Nat.le_refl _)
              have ho7 := hs.tw ht7 (by simp; omega)
              have cm7 := (hB7.cell hbl).trans HCE.out
              have HMY := Lib.hid (show Own8 w7 5 (q2 + 1) A2 n2 c2 ys from ho2.keep fun g hg => ht7.block g (ho2.lt g hg).2 (by have := (ho2.lt g hg).1; simp; omega))
              have HOTH := Lib.hid (show Own8 w7 5 (q2 + 1) A1 n1 c1 xs from ho1.keep fun g hg => ht7.block g (ho1.lt g hg).2 (by have := (ho1.lt g hg).1; simp; omega))
              have hcut7 : q2 + 1 ≤ w7.heap.size := by have := hs7.lt; have := ho7.lt; omega
              have HS7 := Lib.hid hs7
              have HO7 := Lib.hid ho7
              have HB7 := Lib.hid hB7
              have hnx : n2 ≤ 51200 := by have := HMY.out.len; have := HTOT.out; omega
              have hrl : Rd w7 w.heap.size A' l := HRD.out.below hB7
              clear cm hs ht ht7 hB ho1 ho2 hs7 ho7 hB7
              go_wp2_with (at_builtin; refine wpList_append8 h8 _ rfl _ _ rfl (q2 + 1) _ _ _ _ rfl HMY.out _ _ _ _ _ rfl HLN.out hrl (by omega) (by omega) ?_; intro A4 c4 w4 h4 hg4 ho4)
              go_roundw
              case rel =>
                obtain ⟨hoth, hapn⟩ := own_pair HMY.out HOTH.out (Ap.symm HAP.out) hg4 ho4.out
                have hne : ∀ g, g < q2 + 1 → some g ≠ (A2.map (·.block)) := fun g hg e => by have := HMY.out.blk g e.symm; omega
                have hst2 := And.intro (HS7.out.grown hg4 (hne _ (by omega))) (HO7.out.grown hg4 (hne _ (by omega)))
                exact ⟨k + 1, xs, ys ++ l, A1, A4, n1, c1, n2 + n', c4, by omega, by go_num, rfl, rfl, hst2.2, hst2.1, hoth, h4, Lib.hid (Ap.symm hapn), Lib.hid (by have := HTOT.out; have := HLN.out; simp only [List.length_append]; omega), HB7.out.grown hg4 (by omega) fun g hg => by have := HMY.out.blk g hg; omega⟩
              case measure => simp [intOf]; omega
            · clear hlt
              have hlt : k < n := by have := HL.out; omega
              go_wp2_with fail
              refine (write_any (q) A' n' c' xs l wr hs (hT.below hB h2) (by omega) hn' HCN.out HLN.out (HRD.out.src hB (by omega)) (by have := HTOT.out; omega)).mono ?_
              rintro ev w7 ⟨rfl, hs7, ht7⟩
              have hB7 : Below w.heap.size w w7 := tw_below hB ht7 (by simp; omega) (Nat.le_refl _)
              have ho7 := ht.tw ht7 (by simp; omega)
              have cm7 := (hB7.cell hbl).trans HCE.out
              have HMY := Lib.hid (show Own8 w7 5 (q2 + 1) A1 n1 c1 xs from ho1.keep fun g hg => ht7.block g (ho1.lt g hg).2 (by have := (ho1.lt g hg).1; simp; omega))
              have HOTH := Lib.hid (show Own8 w7 5 (q2 + 1) A2 n2 c2 ys from ho2.keep fun g hg => ht7.block g (ho2.lt g hg).2 (by have := (ho2.lt g hg).1; simp; omega))
              have hcut7 : q2 + 1 ≤ w7.heap.size := by have := hs7.lt; have := ho7.lt; omega
              have HS7 := Lib.hid hs7
              have HO7 := Lib.hid ho7
              have HB7 := Lib.hid hB7
              have hnx : n1 ≤ 51200 := by have := HMY.out.len; have := HTOT.out; omega
              have hrl : Rd w7 w.heap.size A' l := HRD.out.below hB7
              clear cm hs ht ht7 hB ho1 ho2 hs7 ho7 hB7
              go_wp2_with (at_builtin; refine wpList_append8 h8 _ rfl _ _ rfl (q2 + 1) _ _ _ _ rfl HMY.out _ _ _ _ _ rfl HLN.out hrl (by omega) (by omega) ?_; intro A4 c4 w4 h4 hg4 ho4)
              go_roundw
              case rel =>
                obtain ⟨hoth, hapn⟩ := own_pair HMY.out HOTH.out HAP.out hg4 ho4.out
                have hne : ∀ g, g < q2 + 1 → some g ≠ (A1.map (·.block)) := fun g hg e => by have := HMY.out.blk g e.symm; omega
                have hst2 := And.intro (HS7.out.grown hg4 (hne _ (by omega))) (HO7.out.grown hg4 (hne _ (by omega)))
                exact ⟨k + 1, xs ++ l, ys, A4, A2, n1 + n', c4, n2, c2, by omega, by go_num, rfl, rfl, hst2.1, hst2.2, h4, hoth, Lib.hid (hapn), Lib.hid (by have := HTOT.out; have := HLN.out; simp only [List.length_append]; omega), HB7.out.grown hg4 (by omega) fun g hg => by have := HMY.out.blk g hg; omega⟩
              case measure => simp [intOf]; omega
          · have hkt9 : decide ((k : Int) < (nt : Int)) = false := by simp; omega
            go_wp2_with fail
            refine (write_any (q2) A' n' c' ys l wr ht (hT.below hB h2) (by omega) hn' HCN.out HLN.out (HRD.out.src hB (by omega)) (by have := HTOT.out; omega)).mono ?_
            rintro ev w7 ⟨rfl, hs7, ht7⟩
            have hB7 : Below w.heap.size w w7 := tw_below hB ht7 (by simp; omega) (Nat.le_refl _)
            have ho7 := hs.tw ht7 (by simp; omega)
            have cm7 := (hB7.cell hbl).trans HCE.out
            have HMY := Lib.hid (show Own8 w7 5 (q2 + 1) A2 n2 c2 ys from ho2.keep fun g hg => ht7.block g (ho2.lt g hg).2 (by have := (ho2.lt g hg).1; simp; omega))
            have HOTH := Lib.hid (show Own8 w7 5 (q2 + 1) A1 n1 c1 xs from ho1.keep fun g hg => ht7.block g (ho1.lt g hg).2 (by have := (ho1.lt g hg).1; simp; omega))
            have hcut7 : q2 + 1 ≤ w7.heap.size := by have := hs7.lt; have := ho7.lt; omega
            have HS7 := Lib.hid hs7
            have HO7 := Lib.hid ho7
            have HB7 := Lib.hid hB7
            have hnx : n2 ≤ 51200 := by have := HMY.out.len; have := HTOT.out; omega
            have hrl : Rd w7 w.heap.size A' l := HRD.out.below hB7
            clear cm hs ht ht7 hB ho1 ho2 hs7 ho7 hB7
            go_wp2_with (at_builtin; refine wpList_append8 h8 _ rfl _ _ rfl (q2 + 1) _ _ _ _ rfl HMY.out _ _ _ _ _ rfl HLN.out hrl (by omega) (by omega) ?_; intro A4 c4 w4 h4 hg4 ho4)
            go_roundw
            case rel =>
              obtain ⟨hoth, hapn⟩ := own_pair HMY.out HOTH.out (Ap.symm HAP.out) hg4 ho4.out
              have hne : ∀ g, g < q2 + 1 → some g ≠ (A2.map (·.block)) := fun g hg e => by have := HMY.out.blk g e.symm; omega
              have hst2 := And.intro (HS7.out.grown hg4 (hne _ (by omega))) (HO7.out.grown hg4 (hne _ (by omega)))
              exact ⟨k + 1, xs, ys ++ l, A1, A4, n1, c1, n2 + n', c4, by omega, by go_num, rfl, rfl, hst2.2, hst2.1, hoth, h4, Lib.hid (Ap.symm hapn), Lib.hid (by have := HTOT.out; have := HLN.out; simp only [List.length_append]; omega), HB7.out.grown hg4 (by omega) fun g hg => by have := HMY.out.blk g hg; omega⟩
            case measure => simp [intOf]; omega
        · have hk9 : decide ((k : Int) < (n : Int)) = false := by simp; omega
          have hn50 : k ≤ 50 := by have := HL.out; omega
          have hxl : xs.length ≤ 51200 := by have := HTOT.out; omega
          have hyl : ys.length ≤ 51200 := by have := HTOT.out; omega
          have HO1 := Lib.hid ho1
          have HO2 := Lib.hid ho2
          have hn1l : n1 ≤ 51200 := by have := ho1.len; omega
          have hn2l : n2 ≤ 51200 := by have := ho2.len; omega
          clear ho1 ho2
          obtain ⟨D, hD⟩ : ∃ D, D = dig xs := ⟨_, rfl⟩
          have HD := Lib.hid hD
          have heqD := equal_same D (by rw [hD, length_dig])
          obtain ⟨E, hE⟩ : ∃ E, E = dig ys := ⟨_, rfl⟩
          have HE := Lib.hid hE
          have heqE := equal_same E (by rw [hE, length_dig])
          clear hD hE
          go_wp2_with fail
          refine (sumState_any q xs wr hs (hT.below hB h2) (by omega)).mono ?_
          rintro ev w3 ⟨rfl, hB3⟩
          rw [← HD.out]
          have ht3 := ht.below hB3 ht.lt
          have hB3' : Below w.heap.size w w3 := hB.trans (hB3.mono hB.size)
          have hr1 := (HO1.out.below hB3 (Nat.le_refl _)).rd
          have ho23 := HO2.out.below hB3 (Nat.le_refl _)
          clear hB3 ht hB
          go_wp2_with fail
          refine (sum_any A1 n1 c1 xs w3 (hT.below hB3' h2) HO1.out.cap.1 HO1.out.cap.2 HO1.out.len hr1 (by omega)).mono ?_
          rintro ev w4 ⟨rfl, hB4⟩
          rw [← HD.out]
          have ht4 := ht3.below hB4 ht3.lt
          have ho24 := ho23.below hB4 (Nat.le_refl _)
          have hB4' : Below w.heap.size w w4 := hB3'.trans (hB4.mono hB3'.size)
          clear hB4 ht3 ho23 hr1
          go_wp2_with fail
          refine (sumState_any (q2) ys w4 ht4 (hT.below hB4' h2) (by omega)).mono ?_
          rintro ev w5 ⟨rfl, hB5⟩
          rw [← HE.out]
          have ho25 := ho24.below hB5 (Nat.le_refl _)
          have hB5' : Below w.heap.size w w5 := hB4'.trans (hB5.mono hB4'.size)
          clear hB5 ht4 ho24
          go_wp2_with fail
          refine (sum_any A2 n2 c2 ys w5 (hT.below hB5' h2) ho25.cap.1 ho25.cap.2 ho25.len ho25.rd (by omega)).mono ?_
          rintro ev w6 ⟨rfl, hB6⟩
          rw [← HE.out]
          have hB6' : Below w.heap.size w w6 := hB5'.trans (hB6.mono hB5'.size)
          go_wp2_with (go_at_call 10; refine (works_any _ (hT.below hB6' h2)).mono ?_; rintro ev w7 ⟨rfl, hB7⟩)
          go_ret
          exact ⟨rfl, hB6'.trans (hB7.mono hB6'.size)⟩
  · rw [hlong] at hlong'
    have HLONG := Lib.hid hlong'
    clear hlong' hlong
    go_enter Tryd.func7, Tryd.ntmps7
    go_wp2_with (go_at_call 15; refine HLONG.out.mono ?_; rintro ev w1 ⟨rfl, rfl⟩)
    refine (works_any _ hT).mono ?_
    rintro e w1 ⟨rfl, hB⟩
    go_wp2_with fail
    go_ret
    exact ⟨rfl, hB⟩
end Go.Proofs.YtakbppgcfhdkeaaDoor
