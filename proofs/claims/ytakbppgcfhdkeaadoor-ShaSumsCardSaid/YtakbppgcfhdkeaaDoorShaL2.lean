/-
  Layer 6: the law ShaBytes.
-/
import Derived.Test.YtakbppgcfhdkeaaDoorShaL1
namespace Go.Proofs.YtakbppgcfhdkeaaDoor
open Go.RowKit
set_option linter.unusedVariables false
set_option maxRecDepth 100000

theorem Rd.take_k {w : World} {B : Nat} {A : Option Addr} {xs : List UInt8} (h : Rd w B A xs) (k : Nat) : Rd w B A (xs.take k) := by
  rcases h with rfl | ⟨b, o, ha, hb, hc⟩
  · exact .inl (by simp)
  · refine .inr ⟨b, o, ha, hb, fun j x hx => hc j x ?_⟩
    rw [List.getElem?_take] at hx
    split at hx
    · exact hx
    · cases hx
/-- A piece of what is read. -/
theorem Rd.drop_k {w : World} {B b o : Nat} {xs : List UInt8} (h : Rd w B (some ⟨b, o, none⟩) xs) (k : Nat) : Rd w B (some ⟨b, o + k, none⟩) (xs.drop k) := by
  rcases h with rfl | ⟨b', o', ha, hb, hc⟩
  · exact .inl (by simp)
  · injection ha with ha
    injection ha with h1 h2
    subst h1 h2
    refine .inr ⟨b, o + k, rfl, hb, fun j x hx => ?_⟩
    rw [List.getElem?_drop] at hx
    rw [Nat.add_assoc]
    exact hc _ x hx
theorem Rd.src {w w' : World} {q : Nat} {A : Option Addr} {xs : List UInt8} (h : Rd w w.heap.size A xs) (hb : Below w.heap.size w w') (hq : w.heap.size ≤ q) : Src w' q A xs := Src.of_rd (h.below hb) hb.size hq

set_option maxHeartbeats 2000000 in
theorem shaBytes_walk (A : Option Addr) (n c : Nat) (xs : List UInt8) (w : World) (hT : Tabs w) (hn : n ≤ c) (hc : c ≤ maxLen) (hx : xs.length = n) (hr : Rd w w.heap.size A xs) :
    Calls Tryd.prog 6 #[.slice A n c] w fun e w' => e = .returned (.bool true) ∧ Below w.heap.size w w' := by
  have h2 := hT.2.2
  by_cases hbig : 300 < n
  · have hb : decide ((n : Int) > 300) = true := by simp; omega
    go_enter Tryd.func6, Tryd.ntmps6
    go_wp2_with (go_at_call 10; refine (works_any _ hT).mono ?_; rintro e w1 ⟨rfl, hB⟩)
    go_ret
    exact ⟨rfl, hB⟩
  · have hb : decide ((n : Int) > 300) = false := by simp; omega
    have HX := Lib.hid hx
    have HR := Lib.hid hr
    have HC := Lib.hid hc
    obtain ⟨q, hq⟩ : ∃ q, q = w.heap.size := ⟨_, rfl⟩
    have HQE := Lib.hid hq
    clear hx hr hc
    go_enter Tryd.func6, Tryd.ntmps6
    go_wp2_with (go_at_call 16; refine (new_any w).mono ?_; rintro e w1 ⟨rfl, hst1, hB1⟩)
    rw [← hq] at hst1 ⊢
    clear hq
    go_loopw [4] (fun i wr => ∃ k : Nat, k ≤ n ∧ i = .int .i64 k ∧ St wr q (xs.take k) ∧ Below w.heap.size w wr) (fun i _ => n - (intOf i).toNat)
    case atStart => exact ⟨0, by omega, rfl, hst1, hB1⟩
    case round =>
      clear hst1 hB1
      obtain ⟨k, hk, rfl, hst, hB⟩ := hrel
      by_cases hlt : k < n
      · have hne : ¬ c = k := by omega
        have hxk : k < xs.length := by rw [HX.out]; exact hlt
        obtain ⟨b, o, hA, _, _⟩ := HR.out.at_ (by intro h; rw [h] at hxk; simp at hxk)
        subst hA
        have e1 : xs.take (k + 1) = xs.take k ++ [xs[k]] := by rw [List.take_add_one, List.getElem?_eq_getElem hxk]; rfl
        have HTL := Lib.hid (show (xs.take (k + 1)).length = k + 1 by rw [List.length_take, HX.out]; omega)
        have hsrc : Src wr q (some ⟨b, o + k, none⟩) [xs[k]] := by
          have h1 := (HR.out.drop_k k).take_k 1
          rw [List.drop_eq_getElem_cons hxk] at h1
          exact (h1.src hB (Nat.le_of_eq HQE.out.symm))
        go_wp2_with (go_at_call 17; refine (write_any q _ 1 (c - k) (xs.take k) [xs[k]] wr hst (hT.below hB h2) (by rw [HQE.out]; exact h2) (by omega) (by have := HC.out; omega) rfl hsrc (by rw [List.length_take, HX.out]; omega)).mono ?_; rintro e w2 ⟨rfl, hst2, ht2⟩)
        rw [← e1] at hst2
        have hB2 : Below w.heap.size w w2 := tw_below hB ht2 (by rw [HQE.out]; simp) (Nat.le_refl _)
        obtain ⟨D, hD⟩ : ∃ D, D = dig (xs.take (k + 1)) := ⟨_, rfl⟩
        have HD := Lib.hid hD
        have HDL := Lib.hid (show D.length = 32 by rw [hD, length_dig])
        have HST := Lib.hid hst2
        have HQ2 := Lib.hid hst2.lt
        have HB2 := Lib.hid (show 2 ≤ w2.heap.size by have := hB2.size; omega)
        have HT2 := Lib.hid (hT.below hB2 h2)
        have HR2 := Lib.hid (((HR.out.below hB2).more hB2.size).take_k (k + 1))
        have HBE := Lib.hid hB2
        clear hst hB hst2 ht2 hB2 hD e1 hsrc
        go_wp2_with fail
        refine wp_region_vals (by kernel_rfl) w2.heap.size [.pointer (some ⟨q, 0, none⟩), .agg (row8 D), .slice (some ⟨b, o, none⟩) n c, .int .i64 (k : Int), .int .i64 ((k : Int) + 1), .slice (some ⟨b, o, none⟩) (k + 1) c, .agg (row8 D), .bool false] rfl (by kernel_rfl) ?_ ?_
        · refine ⟨?_, ?_, ?_, ?_, ?_, ?_, ?_, ?_, trivial⟩
          · intro listed a w1 hl hc
            have h3 : a.tmps[3]?.getD undef = .pointer (some ⟨q, 0, none⟩) := (hc.was 3 (by kernel_rfl)).trans rfl
            refine does_value rfl rfl (.pointer (some ⟨q, 0, none⟩)) w1 ?_ (Grew.refl _ _) rfl
            clear hc hl
            go_simp
          · intro listed a w1 hl hc
            have h25 : a.tmps[25]?.getD undef = .pointer (some ⟨q, 0, none⟩) := hc.dep hl 0 25 rfl (by kernel_rfl)
            refine does_call rfl rfl 18 #[.pointer (some ⟨q, 0, none⟩)] ?_ ((sumState_any q (xs.take (k + 1)) w1 (HST.out.below hc.g.below HQ2.out) (HT2.out.below hc.g.below HB2.out) (by rw [HTL.out]; omega)).mono fun e w' ⟨he, hw⟩ => ⟨_, by rw [he, HD.out]; rfl, Grew.of_below hw hc.g.below.size, rfl⟩)
            clear hc hl
            go_simp
          · intro listed a w1 hl hc
            have h0 : a.tmps[0]?.getD undef = .slice (some ⟨b, o, none⟩) n c := (hc.was 0 (by kernel_rfl)).trans rfl
            refine does_value rfl rfl (.slice (some ⟨b, o, none⟩) n c) w1 ?_ (Grew.refl _ _) rfl
            clear hc hl
            go_simp
          · intro listed a w1 hl hc
            have h4 : a.tmps[4]?.getD undef = .int .i64 (k : Int) := (hc.was 4 (by kernel_rfl)).trans rfl
            refine does_value rfl rfl (.int .i64 (k : Int)) w1 ?_ (Grew.refl _ _) rfl
            clear hc hl
            go_simp
          · intro listed a w1 hl hc
            have h28 : a.tmps[28]?.getD undef = .int .i64 (k : Int) := hc.dep hl 3 28 rfl (by kernel_rfl)
            refine does_value rfl rfl (.int .i64 ((k : Int) + 1)) w1 ?_ (Grew.refl _ _) rfl
            clear hc hl
            go_simp
            exact IntWalk.i64_in _ (by omega)
          · intro listed a w1 hl hc
            have h27 : a.tmps[27]?.getD undef = .slice (some ⟨b, o, none⟩) n c := hc.dep hl 2 27 rfl (by kernel_rfl)
            have h29 : a.tmps[29]?.getD undef = .int .i64 ((k : Int) + 1) := hc.dep hl 4 29 rfl (by kernel_rfl)
            refine does_value rfl rfl (.slice (some ⟨b, o, none⟩) (k + 1) c) w1 ?_ (Grew.refl _ _) rfl
            clear hc hl
            go_simp
            intro h
            exact absurd (h (by omega)) (by omega)
          · intro listed a w1 hl hc
            have h30 : a.tmps[30]?.getD undef = .slice (some ⟨b, o, none⟩) (k + 1) c := hc.dep hl 5 30 rfl (by kernel_rfl)
            refine does_call rfl rfl 12 #[.slice (some ⟨b, o, none⟩) (k + 1) c] ?_ ((sum_any (some ⟨b, o, none⟩) (k + 1) c (xs.take (k + 1)) w1 (HT2.out.below hc.g.below HB2.out) (by omega) HC.out HTL.out ((HR2.out.below hc.g.below).more hc.g.below.size) (by omega)).mono fun e w' ⟨he, hw⟩ => ⟨_, by rw [he, HD.out]; rfl, Grew.of_below hw hc.g.below.size, rfl⟩)
            clear hc hl
            go_simp
          · intro listed a w1 hl hc
            have h26 : a.tmps[26]?.getD undef = .agg (row8 D) := hc.dep hl 1 26 rfl (by kernel_rfl)
            have h31 : a.tmps[31]?.getD undef = .agg (row8 D) := hc.dep hl 6 31 rfl (by kernel_rfl)
            have heq := equal_same D HDL.out w1
            refine does_value rfl rfl (.bool false) w1 ?_ (Grew.refl _ _) rfl
            clear hc hl
            go_simp
        · intro w3 hg
          simp only [lay]
          go_frame
          go_wp2_with fail
          go_roundw
          case rel => exact ⟨k + 1, by omega, by go_num, HST.out.below hg.below HQ2.out, HBE.out.trans (hg.below.mono HBE.out.size)⟩
          case measure => simp [intOf]; omega
      · have hkn : k = n := by omega
        have hk9 : decide ((k : Int) < (n : Int)) = false := by simp; omega
        obtain ⟨D, hD⟩ : ∃ D, D = dig xs := ⟨_, rfl⟩
        have HD := Lib.hid hD
        have HDL := Lib.hid (show D.length = 32 by rw [hD, length_dig])
        have heq := equal_same D HDL.out
        rw [hkn, List.take_of_length_le (by rw [HX.out]; exact Nat.le_refl _)] at hst
        have hTr := hT.below hB h2
        clear hD hkn
        go_wp2_with fail
        refine (sumState_any q xs wr hst hTr (by rw [HX.out]; omega)).mono ?_
        rintro e w2 ⟨rfl, hB2⟩
        rw [← HD.out]
        have hB2' : Below w.heap.size w w2 := hB.trans (hB2.mono hB.size)
        go_wp2_with fail
        refine (sum_any A n c xs w2 (hT.below hB2' h2) hn HC.out HX.out ((HR.out.below hB2').more hB2'.size) (by omega)).mono ?_
        rintro e w3 ⟨rfl, hB3⟩
        rw [← HD.out]
        have hB3' : Below w.heap.size w w3 := hB2'.trans (hB3.mono hB2'.size)
        go_wp2_with (go_at_call 10; refine (works_any _ (hT.below hB3' h2)).mono ?_; rintro e w4 ⟨rfl, hB4⟩)
        go_ret
        exact ⟨rfl, hB3'.trans (hB4.mono hB3'.size)⟩
end Go.Proofs.YtakbppgcfhdkeaaDoor
