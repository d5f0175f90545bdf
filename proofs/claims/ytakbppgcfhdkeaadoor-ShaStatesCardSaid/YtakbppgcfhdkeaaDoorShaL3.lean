/-
  Layer 6: the law ShaPieces.
-/
import Derived.Test.YtakbppgcfhdkeaaDoorShaL2
import Derived.Test.YtakbppgcfhdkeaaDoorCopyAny
namespace Go.Proofs.YtakbppgcfhdkeaaDoor
open Go.RowKit
set_option linter.unusedVariables false
set_option maxRecDepth 100000

theorem Src.of_own {w : World} {t : TypeId} {base q n c : Nat} {A : Option Addr} {xs : List UInt8} (h : Own8 w t base A n c xs) (hq : q < base) : Src w q A xs := by
  rcases h.2 with ⟨rfl, rfl, _⟩ | ⟨g, zs, rfl, hb, hr, _⟩
  · exact .inl (List.eq_nil_of_length_eq_zero h.1)
  · refine .inr ⟨g, 0, rfl, by omega, hr.lt, fun j x hx => ?_⟩
    obtain ⟨hj, rfl⟩ := List.getElem?_eq_some_iff.1 hx
    rw [Nat.zero_add]
    have := hr.cell j (by simp; omega)
    rw [List.getElem_append_left hj] at this
    exact this

set_option maxHeartbeats 4000000 in
theorem shaPieces_walk (A : Option Addr) (n c : Nat) (xs : List UInt8) (A' : Option Addr) (n' c' : Nat) (ys : List UInt8) (w : World) (hT : Tabs w) (hn : n ≤ c) (hc : c ≤ maxLen) (hx : xs.length = n) (hr : Rd w w.heap.size A xs)
    (hn' : n' ≤ c') (hc' : c' ≤ maxLen) (hy : ys.length = n') (hr' : Rd w w.heap.size A' ys) :
    Calls Tryd.prog 5 #[.slice A n c, .slice A' n' c'] w fun e w' => e = .returned (.bool true) ∧ Below w.heap.size w w' := by
  have h2 := hT.2.2
  by_cases hbig : 4096 < n
  · have hb : decide ((n : Int) > 4096) = true := by simp; omega
    go_enter Tryd.func5, Tryd.ntmps5
    go_wp2_with (go_at_call 10; refine (works_any _ hT).mono ?_; rintro e w1 ⟨rfl, hB⟩)
    go_ret
    exact ⟨rfl, hB⟩
  · have hb : decide ((n : Int) > 4096) = false := by simp; omega
    by_cases hbig' : 200 < n'
    · have hb' : decide ((n' : Int) > 200) = true := by simp; omega
      go_enter Tryd.func5, Tryd.ntmps5
      go_wp2_with (go_at_call 10; refine (works_any _ hT).mono ?_; rintro e w1 ⟨rfl, hB⟩)
      go_ret
      exact ⟨rfl, hB⟩
    · have hb' : decide ((n' : Int) > 200) = false := by simp; omega
      have HX := Lib.hid hx
      have HR := Lib.hid hr
      have HC := Lib.hid hc
      have HY := Lib.hid hy
      have HR' := Lib.hid hr'
      obtain ⟨q, hq⟩ : ∃ q, q = w.heap.size := ⟨_, rfl⟩
      have HQE := Lib.hid hq
      clear hx hr hc hy hr' hc'
      go_enter Tryd.func5, Tryd.ntmps5
      go_wp2_with (go_at_call 16; refine (new_any w).mono ?_; rintro e w1 ⟨rfl, hst1, hB1⟩)
      rw [← hq] at hst1 ⊢
      clear hq
      go_loopw [6, 7] (fun at' i wr => ∃ k a : Nat, k ≤ n' ∧ a ≤ n ∧ i = .int .i64 k ∧ at' = .int .i64 a ∧ St wr q (xs.take a) ∧ Below w.heap.size w wr) (fun _ i _ => n' - (intOf i).toNat)
      case atStart => exact ⟨0, 0, by omega, by omega, rfl, rfl, hst1, hB1⟩
      case round =>
        clear hst1 hB1
        obtain ⟨k, a, hk, ha, rfl, rfl, hst, hB⟩ := hrel
        by_cases hlt : k < n'
        · have hyk : k < ys.length := by rw [HY.out]; exact hlt
          obtain ⟨b', o', hA', hb'l, hcell'⟩ := HR'.out.at_ (by intro h; rw [h] at hyk; simp at hyk)
          subst hA'
          obtain ⟨y, hyy⟩ : ∃ y, y = ys[k] := ⟨_, rfl⟩
          have cy : wr.cell? ⟨b', o' + k, none⟩ = some (.int .u8 (y.toNat : Int)) := by rw [hyy]; exact (hB.cell hb'l).trans (hcell' k hyk)
          have hy8 := y.toNat_lt
          clear hyy hcell'
          by_cases han : a < n
          · have hne : ¬ c = a := by omega
            have hxa : a < xs.length := by rw [HX.out]; exact han
            obtain ⟨b, o, hA, _, _⟩ := HR.out.at_ (by intro h; rw [h] at hxa; simp at hxa)
            subst hA
            rcases (show (∃ e : Nat, (a : Int) + (y.toNat : Int) = (e : Int) ∧ e ≤ n ∧ a ≤ e) ∨ (n : Int) < (a : Int) + (y.toNat : Int) from by
              by_cases h : a + y.toNat ≤ n
              · exact .inl ⟨a + y.toNat, by omega, h, by omega⟩
              · exact .inr (by omega)) with ⟨e, he, hen, hae⟩ | hge
            · go_wp2_with fail
              have hTr := hT.below hB h2
              obtain ⟨m, hm⟩ : ∃ m, m = e - a := ⟨_, rfl⟩
              have hmn : a + m ≤ n := by omega
              obtain ⟨zs, hz⟩ : ∃ zs, zs = (xs.drop a).take m := ⟨_, rfl⟩
              have hzl : zs.length = m := by rw [hz, List.length_take, List.length_drop, HX.out]; omega
              have hrz : Rd wr wr.heap.size (some ⟨b, o + a, none⟩) zs := by
                rw [hz]
                exact (((HR.out.drop_k a).take_k m).below hB).more hB.size
              have htk : xs.take (a + m) = xs.take a ++ zs := by rw [List.take_add, hz]
              have HZL := Lib.hid hzl
              have HTK := Lib.hid htk
              have HST := Lib.hid hst
              have HB := Lib.hid hB
              have hq2 : q < wr.heap.size := hst.lt
              have hqq : 2 ≤ q := by rw [HQE.out]; exact h2
              rw [← hm]
              clear hz hzl htk hst hB hm
              refine (copyBytes_any _ m (c - a) zs wr (by omega) HZL.out hrz).mono ?_
              rintro ev w2 ⟨A2, c2, rfl, hown, hB2⟩
              have hst2 : St w2 q (xs.take a) := HST.out.below hB2 hq2
              have hsrc : Src w2 q A2 zs := Src.of_own hown hq2
              have hcap := hown.cap
              clear hrz
              go_wp2_with (go_at_call 17; refine (write_any q A2 m c2 (xs.take a) zs w2 hst2 (hTr.below hB2 (by omega)) hqq hcap.1 hcap.2 HZL.out hsrc (by rw [List.length_take, HX.out]; omega)).mono ?_; rintro ev w3 ⟨rfl, hst3, ht3⟩)
              have hown3 : Own8 w3 5 wr.heap.size A2 m c2 zs := hown.keep fun g hg => ht3.block g (hown.lt g hg).2 (by have := (hown.lt g hg).1; simp; omega)
              have hB3 : Below w.heap.size w w3 := tw_below (HB.out.trans (hB2.mono HB.out.size)) ht3 (by rw [HQE.out]; simp) (Nat.le_refl _)
              have hs3 : wr.heap.size ≤ w3.heap.size := Nat.le_trans hB2.size ht3.size
              rw [← HTK.out] at hst3
              clear hst2 hsrc hown hB2 ht3 hcap
              go_loopw [9] (fun i wr' => ∃ (j : Nat) (zs' : List UInt8), j ≤ m ∧ i = .int .i64 j ∧ Own8 wr' 5 wr.heap.size A2 m c2 zs' ∧ Below wr.heap.size w3 wr') (fun i _ => m - (intOf i).toNat)
              case atStart => exact ⟨0, zs, by omega, rfl, hown3, Below.refl _ _⟩
              case round =>
                clear hown3
                obtain ⟨j, zs', hj, rfl, hown, hBi⟩ := hrel
                by_cases hjm : j < m
                · have hjl : j < zs'.length := by rw [hown.len]; exact hjm
                  obtain ⟨hlen, hown'⟩ := hown
                  rcases hown' with ⟨_, h0, _⟩ | ⟨g, vs, rfl, hbg, hrow, hcv, hcm⟩
                  · omega
                  · have cj := hrow.cell j (by simp; omega)
                    have fj := hrow.frozen j
                    rw [List.getElem_append_left hjl] at cj
                    obtain ⟨x, hx⟩ : ∃ x, x = zs'[j] := ⟨_, rfl⟩
                    rw [← hx] at cj
                    have hx8 := x.toNat_lt
                    have HPL : Hid (((x.toNat : Int) + 1) % 256 = ((x + 1).toNat : Int)) := Lib.hid (by rw [UInt8.toNat_add]; simp)
                    have HLEN := Lib.hid hlen
                    have HJL := Lib.hid hjl
                    clear hlen hjl hx
                    go_wp2_with fail
                    go_roundw
                    case rel =>
                      refine ⟨j + 1, zs'.set j (x + 1), by omega, by go_num, ⟨by rw [List.length_set]; exact HLEN.out, .inr ⟨g, vs, rfl, hbg, ?_, hcv, hcm⟩⟩, hBi.setCell hbg _⟩
                      rw [HPL.out, ← List.set_append_left _ _ HJL.out]
                      exact hrow.set_ j (x + 1)
                    case measure => simp [intOf]; omega
                · have hjm9 : decide ((j : Int) < (m : Int)) = false := by simp; omega
                  go_wp2_with fail
                  go_roundw
                  case rel => exact ⟨k + 1, a + m, by omega, by omega, by go_num, by go_num, hst3.below hBi hq2, hB3.trans (hBi.mono HB.out.size)⟩
                  case measure => simp [intOf]; omega
            · go_wp2_with fail
              have hTr := hT.below hB h2
              obtain ⟨m, hm⟩ : ∃ m, m = n - a := ⟨_, rfl⟩
              have hmn : a + m ≤ n := by omega
              obtain ⟨zs, hz⟩ : ∃ zs, zs = (xs.drop a).take m := ⟨_, rfl⟩
              have hzl : zs.length = m := by rw [hz, List.length_take, List.length_drop, HX.out]; omega
              have hrz : Rd wr wr.heap.size (some ⟨b, o + a, none⟩) zs := by
                rw [hz]
                exact (((HR.out.drop_k a).take_k m).below hB).more hB.size
              have htk : xs.take (a + m) = xs.take a ++ zs := by rw [List.take_add, hz]
              have HZL := Lib.hid hzl
              have HTK := Lib.hid htk
              have HST := Lib.hid hst
              have HB := Lib.hid hB
              have hq2 : q < wr.heap.size := hst.lt
              have hqq : 2 ≤ q := by rw [HQE.out]; exact h2
              rw [← hm]
              clear hz hzl htk hst hB hm
              refine (copyBytes_any _ m (c - a) zs wr (by omega) HZL.out hrz).mono ?_
              rintro ev w2 ⟨A2, c2, rfl, hown, hB2⟩
              have hst2 : St w2 q (xs.take a) := HST.out.below hB2 hq2
              have hsrc : Src w2 q A2 zs := Src.of_own hown hq2
              have hcap := hown.cap
              clear hrz
              go_wp2_with (go_at_call 17; refine (write_any q A2 m c2 (xs.take a) zs w2 hst2 (hTr.below hB2 (by omega)) hqq hcap.1 hcap.2 HZL.out hsrc (by rw [List.length_take, HX.out]; omega)).mono ?_; rintro ev w3 ⟨rfl, hst3, ht3⟩)
              have hown3 : Own8 w3 5 wr.heap.size A2 m c2 zs := hown.keep fun g hg => ht3.block g (hown.lt g hg).2 (by have := (hown.lt g hg).1; simp; omega)
              have hB3 : Below w.heap.size w w3 := tw_below (HB.out.trans (hB2.mono HB.out.size)) ht3 (by rw [HQE.out]; simp) (Nat.le_refl _)
              have hs3 : wr.heap.size ≤ w3.heap.size := Nat.le_trans hB2.size ht3.size
              rw [← HTK.out] at hst3
              clear hst2 hsrc hown hB2 ht3 hcap
              go_loopw [9] (fun i wr' => ∃ (j : Nat) (zs' : List UInt8), j ≤ m ∧ i = .int .i64 j ∧ Own8 wr' 5 wr.heap.size A2 m c2 zs' ∧ Below wr.heap.size w3 wr') (fun i _ => m - (intOf i).toNat)
              case atStart => exact ⟨0, zs, by omega, rfl, hown3, Below.refl _ _⟩
              case round =>
                clear hown3
                obtain ⟨j, zs', hj, rfl, hown, hBi⟩ := hrel
                by_cases hjm : j < m
                · have hjl : j < zs'.length := by rw [hown.len]; exact hjm
                  obtain ⟨hlen, hown'⟩ := hown
                  rcases hown' with ⟨_, h0, _⟩ | ⟨g, vs, rfl, hbg, hrow, hcv, hcm⟩
                  · omega
                  · have cj := hrow.cell j (by simp; omega)
                    have fj := hrow.frozen j
                    rw [List.getElem_append_left hjl] at cj
                    obtain ⟨x, hx⟩ : ∃ x, x = zs'[j] := ⟨_, rfl⟩
                    rw [← hx] at cj
                    have hx8 := x.toNat_lt
                    have HPL : Hid (((x.toNat : Int) + 1) % 256 = ((x + 1).toNat : Int)) := Lib.hid (by rw [UInt8.toNat_add]; simp)
                    have HLEN := Lib.hid hlen
                    have HJL := Lib.hid hjl
                    clear hlen hjl hx
                    go_wp2_with fail
                    go_roundw
                    case rel =>
                      refine ⟨j + 1, zs'.set j (x + 1), by omega, by go_num, ⟨by rw [List.length_set]; exact HLEN.out, .inr ⟨g, vs, rfl, hbg, ?_, hcv, hcm⟩⟩, hBi.setCell hbg _⟩
                      rw [HPL.out, ← List.set_append_left _ _ HJL.out]
                      exact hrow.set_ j (x + 1)
                    case measure => simp [intOf]; omega
                · have hjm9 : decide ((j : Int) < (m : Int)) = false := by simp; omega
                  go_wp2_with fail
                  go_roundw
                  case rel => exact ⟨k + 1, a + m, by omega, by omega, by go_num, by go_num, hst3.below hBi hq2, hB3.trans (hBi.mono HB.out.size)⟩
                  case measure => simp [intOf]; omega
          · have hTr := hT.below hB h2
            have hqq : 2 ≤ q := by rw [HQE.out]; exact h2
            have HLX := Lib.hid (show (xs.take a).length ≤ n by rw [List.length_take, HX.out]; omega)
            obtain rfl : n = a := by omega
            by_cases hca : c = n
            · obtain rfl : n = c := hca.symm
              go_wp2_with fail
              all_goals
                refine (copyBytes_none _ _ wr).mono ?_
                rintro ev w2 ⟨rfl, rfl⟩
              all_goals
                go_wp2_with (go_at_call 17; refine (write_any q none 0 0 (xs.take n) [] wr hst hTr hqq (Nat.le_refl _) (Nat.zero_le _) rfl (Src.nil _ _ _) (by have := HLX.out; omega)).mono ?_; rintro ev w3 ⟨rfl, hst3, ht3⟩)
                rw [List.append_nil] at hst3
                have hB3 : Below w.heap.size w w3 := tw_below hB ht3 (by rw [HQE.out]; simp) (Nat.le_refl _)
                refine wp_loop_rounds 1 ?_
                rw [rounds_succ]
                go_wp2_with fail
                go_roundw
                · exact ⟨k + 1, n, by omega, by omega, by go_num, by go_num, hst3, hB3⟩
                · simp [intOf]; omega
            · clear han ha
              go_wp2_with fail
              all_goals
                refine (copyBytes_none _ _ wr).mono ?_
                rintro ev w2 ⟨rfl, rfl⟩
              all_goals
                go_wp2_with (go_at_call 17; refine (write_any q none 0 0 (xs.take n) [] wr hst hTr hqq (Nat.le_refl _) (Nat.zero_le _) rfl (Src.nil _ _ _) (by have := HLX.out; omega)).mono ?_; rintro ev w3 ⟨rfl, hst3, ht3⟩)
                rw [List.append_nil] at hst3
                have hB3 : Below w.heap.size w w3 := tw_below hB ht3 (by rw [HQE.out]; simp) (Nat.le_refl _)
                refine wp_loop_rounds 1 ?_
                rw [rounds_succ]
                go_wp2_with fail
                go_roundw
                · exact ⟨k + 1, n, by omega, by omega, by go_num, by go_num, hst3, hB3⟩
                · simp [intOf]; omega
        · have hk9 : decide ((k : Int) < (n' : Int)) = false := by simp; omega
          have hTr := hT.below hB h2
          have hqq : 2 ≤ q := by rw [HQE.out]; exact h2
          have HST := Lib.hid hst
          have HB := Lib.hid hB
          obtain ⟨D, hD⟩ : ∃ D, D = dig xs := ⟨_, rfl⟩
          have HD := Lib.hid hD
          have HDL := Lib.hid (show D.length = 32 by rw [hD, length_dig])
          have heq := equal_same D HDL.out
          have HFIN : Hid (xs.take a ++ xs.drop a = xs) := Lib.hid (List.take_append_drop a xs)
          have hdl : (xs.drop a).length = n - a := by rw [List.length_drop, HX.out]
          have HDR := Lib.hid hdl
          have htl : (xs.take a).length + (n - a) ≤ 1152921504606846976 := by rw [List.length_take, HX.out]; omega
          -- what is written last, wherever it lies
          have HW : Hid (∀ (A1 : Option Addr) (c1 : Nat), (n - a = 0 ∨ ∃ b o, A = some ⟨b, o, none⟩ ∧ A1 = some ⟨b, o + a, none⟩) → n - a ≤ c1 → c1 ≤ maxLen →
              Calls Tryd.prog 17 #[.pointer (some ⟨q, 0, none⟩), .slice A1 (n - a) c1] wr fun e w' => e = .returned (.tuple #[]) ∧ St w' q xs ∧ Tw [q] wr w') := Lib.hid fun A1 c1 hA1 h1 h3 => by
            have hsrc : Src wr q A1 (xs.drop a) := by
              rcases hA1 with h0 | ⟨b, o, hA, rfl⟩
              · exact .inl (List.eq_nil_of_length_eq_zero (by rw [hdl]; exact h0))
              · have hr1 : Rd w w.heap.size (some ⟨b, o, none⟩) xs := by rw [← hA]; exact HR.out
                exact Src.of_rd ((hr1.drop_k a).below HB.out) HB.out.size (Nat.le_of_eq HQE.out.symm)
            have h := write_any q A1 (n - a) c1 (xs.take a) (xs.drop a) wr HST.out hTr hqq h1 h3 hdl hsrc htl
            rw [List.take_append_drop] at h
            exact h
          clear hst hB hD hdl htl
          by_cases han : a < n
          · have hne : ¬ c = a := by omega
            have hxa : a < xs.length := by rw [HX.out]; exact han
            obtain ⟨b, o, hA, _, _⟩ := HR.out.at_ (by intro h; rw [h] at hxa; simp at hxa)
            subst hA
            go_wp2_with fail
            refine (HW.out _ _ (.inr ⟨b, o, rfl, rfl⟩) (by omega) (by have := HC.out; omega)).mono ?_
            rintro ev w2 ⟨rfl, hst2, ht2⟩
            have hB2 : Below w.heap.size w w2 := tw_below HB.out ht2 (by rw [HQE.out]; simp) (Nat.le_refl _)
            have hq2 := hst2.lt
            clear ht2
            go_wp2_with fail
            refine (sumState_any q xs w2 hst2 (hT.below hB2 h2) (by rw [HX.out]; omega)).mono ?_
            rintro ev w3 ⟨rfl, hB3⟩
            rw [← HD.out]
            have hst3 := hst2.below hB3 hq2
            have hB3' : Below w.heap.size w w3 := hB2.trans (hB3.mono hB2.size)
            clear hB3 hst2 hq2
            go_wp2_with fail
            refine (sum_any (some ⟨b, o, none⟩) n c xs w3 (hT.below hB3' h2) hn HC.out HX.out ((HR.out.below hB3').more hB3'.size) (by omega)).mono ?_
            rintro ev w4 ⟨rfl, hB4⟩
            rw [← HD.out]
            have hst4 := hst3.below hB4 hst3.lt
            have hB4' : Below w.heap.size w w4 := hB3'.trans (hB4.mono hB3'.size)
            clear hB4 hst3
            go_wp2_with fail
            refine (sumState_any q xs w4 hst4 (hT.below hB4' h2) (by rw [HX.out]; omega)).mono ?_
            rintro ev w5 ⟨rfl, hB5⟩
            rw [← HD.out]
            have hB5' : Below w.heap.size w w5 := hB4'.trans (hB5.mono hB4'.size)
            clear hB5 hst4
            go_wp2_with fail
            refine (sum_any (some ⟨b, o, none⟩) n c xs w5 (hT.below hB5' h2) hn HC.out HX.out ((HR.out.below hB5').more hB5'.size) (by omega)).mono ?_
            rintro ev w6 ⟨rfl, hB6⟩
            rw [← HD.out]
            have hB6' : Below w.heap.size w w6 := hB5'.trans (hB6.mono hB5'.size)
            go_wp2_with (go_at_call 10; refine (works_any _ (hT.below hB6' h2)).mono ?_; rintro ev w7 ⟨rfl, hB7⟩)
            go_ret
            exact ⟨rfl, hB6'.trans (hB7.mono hB6'.size)⟩
          · obtain rfl : n = a := by omega
            by_cases hca : c = n
            · obtain rfl : n = c := hca.symm
              go_wp2_with fail
              rw [Nat.sub_self] at HW
              refine (HW.out _ _ (.inl rfl) (Nat.le_refl _) (Nat.zero_le _)).mono ?_
              rintro ev w2 ⟨rfl, hst2, ht2⟩
              have hB2 : Below w.heap.size w w2 := tw_below HB.out ht2 (by rw [HQE.out]; simp) (Nat.le_refl _)
              have hq2 := hst2.lt
              clear ht2
              go_wp2_with fail
              refine (sumState_any q xs w2 hst2 (hT.below hB2 h2) (by rw [HX.out]; omega)).mono ?_
              rintro ev w3 ⟨rfl, hB3⟩
              rw [← HD.out]
              have hst3 := hst2.below hB3 hq2
              have hB3' : Below w.heap.size w w3 := hB2.trans (hB3.mono hB2.size)
              clear hB3 hst2 hq2
              go_wp2_with fail
              refine (sum_any A n n xs w3 (hT.below hB3' h2) hn HC.out HX.out ((HR.out.below hB3').more hB3'.size) (by omega)).mono ?_
              rintro ev w4 ⟨rfl, hB4⟩
              rw [← HD.out]
              have hst4 := hst3.below hB4 hst3.lt
              have hB4' : Below w.heap.size w w4 := hB3'.trans (hB4.mono hB3'.size)
              clear hB4 hst3
              go_wp2_with fail
              refine (sumState_any q xs w4 hst4 (hT.below hB4' h2) (by rw [HX.out]; omega)).mono ?_
              rintro ev w5 ⟨rfl, hB5⟩
              rw [← HD.out]
              have hB5' : Below w.heap.size w w5 := hB4'.trans (hB5.mono hB4'.size)
              clear hB5 hst4
              go_wp2_with fail
              refine (sum_any A n n xs w5 (hT.below hB5' h2) hn HC.out HX.out ((HR.out.below hB5').more hB5'.size) (by omega)).mono ?_
              rintro ev w6 ⟨rfl, hB6⟩
              rw [← HD.out]
              have hB6' : Below w.heap.size w w6 := hB5'.trans (hB6.mono hB5'.size)
              go_wp2_with (go_at_call 10; refine (works_any _ (hT.below hB6' h2)).mono ?_; rintro ev w7 ⟨rfl, hB7⟩)
              go_ret
              exact ⟨rfl, hB6'.trans (hB7.mono hB6'.size)⟩
            · go_wp2_with fail
              rw [Nat.sub_self] at HW
              refine (HW.out _ _ (.inl rfl) (Nat.zero_le _) (by have := HC.out; omega)).mono ?_
              rintro ev w2 ⟨rfl, hst2, ht2⟩
              have hB2 : Below w.heap.size w w2 := tw_below HB.out ht2 (by rw [HQE.out]; simp) (Nat.le_refl _)
              have hq2 := hst2.lt
              clear ht2
              go_wp2_with fail
              refine (sumState_any q xs w2 hst2 (hT.below hB2 h2) (by rw [HX.out]; omega)).mono ?_
              rintro ev w3 ⟨rfl, hB3⟩
              rw [← HD.out]
              have hst3 := hst2.below hB3 hq2
              have hB3' : Below w.heap.size w w3 := hB2.trans (hB3.mono hB2.size)
              clear hB3 hst2 hq2
              go_wp2_with fail
              refine (sum_any A n c xs w3 (hT.below hB3' h2) hn HC.out HX.out ((HR.out.below hB3').more hB3'.size) (by omega)).mono ?_
              rintro ev w4 ⟨rfl, hB4⟩
              rw [← HD.out]
              have hst4 := hst3.below hB4 hst3.lt
              have hB4' : Below w.heap.size w w4 := hB3'.trans (hB4.mono hB3'.size)
              clear hB4 hst3
              go_wp2_with fail
              refine (sumState_any q xs w4 hst4 (hT.below hB4' h2) (by rw [HX.out]; omega)).mono ?_
              rintro ev w5 ⟨rfl, hB5⟩
              rw [← HD.out]
              have hB5' : Below w.heap.size w w5 := hB4'.trans (hB5.mono hB4'.size)
              clear hB5 hst4
              go_wp2_with fail
              refine (sum_any A n c xs w5 (hT.below hB5' h2) hn HC.out HX.out ((HR.out.below hB5').more hB5'.size) (by omega)).mono ?_
              rintro ev w6 ⟨rfl, hB6⟩
              rw [← HD.out]
              have hB6' : Below w.heap.size w w6 := hB5'.trans (hB6.mono hB5'.size)
              go_wp2_with (go_at_call 10; refine (works_any _ (hT.below hB6' h2)).mono ?_; rintro ev w7 ⟨rfl, hB7⟩)
              go_ret
              exact ⟨rfl, hB6'.trans (hB7.mono hB6'.size)⟩
end Go.Proofs.YtakbppgcfhdkeaaDoor
