/-
  Package rto: RtoPlays, walked.
-/
import Derived.Test.YthmilceapnaepaaRtL5
namespace Go.Proofs.Ythmilceapnaepaa
open Go.RowKit
set_option linter.unusedVariables false

set_option maxRecDepth 100000 in
set_option maxHeartbeats 4000000 in
theorem rtoPlays_big (f l m : Int) (A : Option Addr) (n c : Nat) (w : World) (hb : 500 < n) (hm : n ≤ maxLen) : Calls Try.prog 3 #[.int .i64 f, .int .i64 l, .int .i64 m, .slice A n c] w fun e w' => e = .returned (.bool true) ∧ Below w.heap.size w w' := by
  unfold maxLen at hm
  go_enter Try.func3, Try.ntmps3
  go_wp2_with fail
  refine (works_any w).mono ?_
  rintro e w8 ⟨rfl, hb8⟩
  go_wp2_with fail
  go_ret
  exact ⟨rfl, hb8⟩
set_option maxRecDepth 100000 in
set_option maxHeartbeats 4000000 in
theorem rtoPlays_no (f l m : Int) (A : Option Addr) (n c : Nat) (L : List (Bool × Int)) (w : World) (h : ¬ newOk f l m) (hb : n ≤ 500) (hn : L.length = n) (hr : Rop w w.heap.size A L) : Calls Try.prog 3 #[.int .i64 f, .int .i64 l, .int .i64 m, .slice A n c] w fun e w' => e = .returned (.bool true) ∧ Below w.heap.size w w' := by
  have HN := Lib.hid h
  have HL := Lib.hid hn
  clear h hn
  go_enter Try.func3, Try.ntmps3
  go_wp2_with fail
  refine (codeNew_no f l m w HN.out).mono ?_
  rintro e w1 ⟨rfl, rfl⟩
  go_wp2_with fail
  refine (refNew_no f l m w1 HN.out).mono ?_
  rintro e w2 ⟨rfl, rfl⟩
  have HB : Hid (Below w2.heap.size w2 w2) := Lib.hid (Below.refl _ _)
  go_wp2_with fail
  go_loopw [13, 14, 15, 16, 17] (fun i _ _ _ _ wr => ∃ (k : Nat), k ≤ n ∧ i = .int .i64 k ∧ Hid (Below w2.heap.size w2 wr)) (fun i _ _ _ _ _ => n - (intOf i).toNat)
  case atStart => exact ⟨0, by omega, by go_num, HB⟩
  case round =>
    clear HB
    obtain ⟨k, hk, rfl, HB⟩ := hrel
    by_cases hkn : k < n
    · skip
      obtain ⟨b, q, rfl, hbl, c0, c1⟩ := hr.at_ k (by rw [HL.out]; exact hkn)
      obtain ⟨p, hp⟩ : ∃ x, x = (L[k]'(by rw [HL.out]; exact hkn)).1 := ⟨_, rfl⟩
      obtain ⟨t, ht⟩ : ∃ x, x = (L[k]'(by rw [HL.out]; exact hkn)).2 := ⟨_, rfl⟩
      rw [← hp] at c0
      rw [← ht] at c1
      have c0 : wr.cell? ⟨b, q + k * 2, none⟩ = some (.bool p) := (HB.out.cell hbl).trans c0
      have c1 : wr.cell? ⟨b, q + k * 2 + 1, none⟩ = some (.int .i64 t) := (HB.out.cell hbl).trans c1
      clear hp ht hr
      cases p
      · have HC : Hid (Calls Try.prog 14 #[.pointer none, .int .i64 t] wr.drew fun e w' => e = .returned (.int .i64 2) ∧ w' = wr.drew) := Lib.hid (codeSample_nil t wr.drew)
        have HD : Hid (Calls Try.prog 15 #[.pointer none, .int .i64 t] wr.drew fun e w' => e = .returned (.int .i64 2) ∧ w' = wr.drew) := Lib.hid (refSample_nil t wr.drew)
        have B1 : Hid (Below w2.heap.size w2 wr.drew) := Lib.hid (below_drewN HB.out 1)
        go_wp2_with fail
        go_region_with (first
          | (go_at_call 14; refine HC.out.mono ?_; rintro e w3 ⟨rfl, rfl⟩)
          | (go_at_call 15; refine HD.out.mono ?_; rintro e w4 ⟨rfl, rfl⟩))
        all_goals
          clear HC HD c0 c1
          generalize wr.drew = v at B1 ⊢
          go_wp2_with fail
          refine (codeSmooth_nil v).mono ?_
          rintro e u1 ⟨rfl, rfl⟩
          go_wp2_with fail
          refine (refSmooth_nil u1).mono ?_
          rintro e u2 ⟨rfl, rfl⟩
          go_wp2_with fail
          refine (codeValue_nil u2).mono ?_
          rintro e u3 ⟨rfl, rfl⟩
          go_wp2_with fail
          refine (refValue_nil u3).mono ?_
          rintro e u4 ⟨rfl, rfl⟩
          go_wp2_with fail
          go_roundw
          case rel => exact ⟨k + 1, by omega, by go_num, B1⟩
          case measure => simp [intOf]; omega
      · skip
        go_wp2_with fail
        refine (codeBack_nil wr).mono ?_
        rintro e v1 ⟨rfl, rfl⟩
        go_wp2_with fail
        refine (refBack_nil v1).mono ?_
        rintro e v2 ⟨rfl, rfl⟩
        go_wp2_with fail
        refine (codeSmooth_nil v2).mono ?_
        rintro e u1 ⟨rfl, rfl⟩
        go_wp2_with fail
        refine (refSmooth_nil u1).mono ?_
        rintro e u2 ⟨rfl, rfl⟩
        go_wp2_with fail
        refine (codeValue_nil u2).mono ?_
        rintro e u3 ⟨rfl, rfl⟩
        go_wp2_with fail
        refine (refValue_nil u3).mono ?_
        rintro e u4 ⟨rfl, rfl⟩
        go_wp2_with fail
        go_roundw
        case rel => exact ⟨k + 1, by omega, by go_num, HB⟩
        case measure => simp [intOf]; omega
    · obtain rfl : k = n := by omega
      clear hkn
      go_wp2_with fail
      refine (works_any wr).mono ?_
      rintro e w8 ⟨rfl, hb8⟩
      go_wp2_with fail
      go_ret
      exact ⟨rfl, below_then HB.out (Nat.le_refl _) hb8⟩
set_option maxRecDepth 100000 in
set_option maxHeartbeats 4000000 in
theorem rtoPlays_yes (f l m : Int) (A : Option Addr) (n c : Nat) (L : List (Bool × Int)) (w : World) (h : newOk f l m) (hb : n ≤ 500) (hn : L.length = n) (hr : Rop w w.heap.size A L) : Calls Try.prog 3 #[.int .i64 f, .int .i64 l, .int .i64 m, .slice A n c] w fun e w' => e = .returned (.bool true) ∧ Below w.heap.size w w' := by
  have HN := Lib.hid h
  have HE0 := Lib.hid (Est.new h)
  have HL := Lib.hid hn
  clear h hn
  go_enter Try.func3, Try.ntmps3
  go_wp2_with fail
  refine (codeNew f l m w HN.out).mono ?_
  rintro e w1 ⟨rfl, K1, B1⟩
  obtain ⟨g, hg⟩ : ∃ g, g = w.heap.size := ⟨_, rfl⟩
  rw [← hg] at K1 ⊢
  have HG : Hid (∀ k ∈ [g], w.heap.size ≤ k) := Lib.hid (by simp; omega)
  have HB := Lib.hid B1
  have K0 := Lib.hid K1
  clear hg K1 B1
  go_wp2_with fail
  refine (refNew f l m w1 HN.out).mono ?_
  rintro e w2 ⟨rfl, K1, B1⟩
  have gz : g ≠ w1.heap.size := by have := K0.out.lt; omega
  have hz : w.heap.size ≤ w1.heap.size := HB.out.size
  obtain ⟨z, hg⟩ : ∃ g, g = w1.heap.size := ⟨_, rfl⟩
  rw [← hg] at K1 gz hz ⊢
  have HZ : Hid (∀ k ∈ [z], w.heap.size ≤ k) := Lib.hid (by simp; omega)
  have N1 : Hid (g ∉ [z]) := Lib.hid (by simp; omega)
  have N2 : Hid (z ∉ [g]) := Lib.hid (by simp; omega)
  have K0 := Lib.hid (K0.out.below B1 K0.out.lt)
  have HB := Lib.hid (below_then HB.out (Nat.le_refl _) B1)
  have KZ := Lib.hid K1
  clear hg K1 B1 gz hz
  go_wp2_with fail
  go_loopw [13, 14, 15, 16, 17] (fun i _ _ _ _ wr => ∃ (k : Nat) (r : Re), k ≤ n ∧ i = .int .i64 k ∧ Hid (Est r l m) ∧ Hid (Blk wr g 44 #[.int .i64 r.x, .int .i64 r.l, .int .i64 r.m, .bool r.any, .int .i64 r.s, .int .i64 r.v]) ∧ Hid (Blk wr z 46 #[.int .i64 r.x, .int .i64 r.l, .int .i64 r.m, .bool r.any, .int .i64 r.s, .int .i64 r.v]) ∧ Hid (Below w.heap.size w wr)) (fun i _ _ _ _ _ => n - (intOf i).toNat)
  case atStart => exact ⟨0, _, by omega, by go_num, HE0, K0, KZ, HB⟩
  case round =>
    clear K0 HB HE0 KZ
    obtain ⟨k, r, hk, rfl, HE, K0, KZ, HB⟩ := hrel
    by_cases hkn : k < n
    · skip
      obtain ⟨b, q, rfl, hbl, c0, c1⟩ := hr.at_ k (by rw [HL.out]; exact hkn)
      obtain ⟨p, hp⟩ : ∃ x, x = (L[k]'(by rw [HL.out]; exact hkn)).1 := ⟨_, rfl⟩
      obtain ⟨t, ht⟩ : ∃ x, x = (L[k]'(by rw [HL.out]; exact hkn)).2 := ⟨_, rfl⟩
      rw [← hp] at c0
      rw [← ht] at c1
      have c0 : wr.cell? ⟨b, q + k * 2, none⟩ = some (.bool p) := (HB.out.cell hbl).trans c0
      have c1 : wr.cell? ⟨b, q + k * 2 + 1, none⟩ = some (.int .i64 t) := (HB.out.cell hbl).trans c1
      clear hp ht hr
      cases p
      · by_cases t0 : t < 0
        · have HC : Hid (Calls Try.prog 14 #[.pointer (some ⟨g, 0, none⟩), .int .i64 t] wr.drew fun e w' => e = .returned (.int .i64 1) ∧ w' = wr.drew) := Lib.hid (codeSample_neg t g wr.drew t0)
          have HD : Hid (Calls Try.prog 15 #[.pointer (some ⟨z, 0, none⟩), .int .i64 t] wr.drew fun e w' => e = .returned (.int .i64 1) ∧ w' = wr.drew) := Lib.hid (refSample_neg t z wr.drew t0)
          have HB : Hid (Below w.heap.size w wr.drew) := Lib.hid (below_drewN HB.out 1)
          have K0 : Hid (Blk wr.drew g 44 #[.int .i64 r.x, .int .i64 r.l, .int .i64 r.m, .bool r.any, .int .i64 r.s, .int .i64 r.v]) := Lib.hid (K0.out.drewN 1)
          have KZ : Hid (Blk wr.drew z 46 #[.int .i64 r.x, .int .i64 r.l, .int .i64 r.m, .bool r.any, .int .i64 r.s, .int .i64 r.v]) := Lib.hid (KZ.out.drewN 1)
          go_wp2_with fail
          go_region_with (first
            | (go_at_call 14; refine HC.out.mono ?_; rintro e w3 ⟨rfl, rfl⟩)
            | (go_at_call 15; refine HD.out.mono ?_; rintro e w4 ⟨rfl, rfl⟩))
          all_goals
            clear HC HD c0 c1
            generalize wr.drew = v at HB K0 KZ ⊢
            have HS1 : Hid (∀ W, Blk W g 44 #[.int .i64 r.x, .int .i64 r.l, .int .i64 r.m, .bool r.any, .int .i64 r.s, .int .i64 r.v] → Calls Try.prog 16 #[.pointer (some ⟨g, 0, none⟩)] W fun e w' => e = .returned (.tuple #[.int .i64 (if r.any then r.s / 8 else 0), .bool r.any]) ∧ w' = W) := Lib.hid fun W h => codeSmooth r g W HE.out.ok.s0 HE.out.ok.s1 h
            have HS2 : Hid (∀ W, Blk W z 46 #[.int .i64 r.x, .int .i64 r.l, .int .i64 r.m, .bool r.any, .int .i64 r.s, .int .i64 r.v] → Calls Try.prog 17 #[.pointer (some ⟨z, 0, none⟩)] W fun e w' => e = .returned (.tuple #[.int .i64 (if r.any then r.s / 8 else 0), .bool r.any]) ∧ w' = W) := Lib.hid fun W h => refSmooth r z W HE.out.ok.s0 HE.out.ok.s1 h
            obtain ⟨sv, hsv⟩ : ∃ sv, sv = (if r.any then r.s / 8 else 0) := ⟨_, rfl⟩
            obtain ⟨av, hav⟩ : ∃ av, av = r.any := ⟨_, rfl⟩
            obtain ⟨y, hy⟩ : ∃ y, r.x = y := ⟨_, rfl⟩
            have HY := Lib.hid hy
            have K3 := Lib.hid (HS1.out _ K0.out)
            have K4 := Lib.hid (HS2.out _ KZ.out)
            rw [← hsv, ← hav] at K3 K4
            clear hsv hav hy HS1 HS2
            go_wp2_with fail
            refine (K3.out).mono ?_
            rintro e u1 ⟨rfl, rfl⟩
            go_wp2_with fail
            refine (K4.out).mono ?_
            rintro e u2 ⟨rfl, rfl⟩
            go_wp2_with fail
            refine (codeValueN r y HY.out g _ K0.out).mono ?_
            rintro e u3 ⟨rfl, rfl⟩
            go_wp2_with fail
            refine (refValueN r y HY.out z _ KZ.out).mono ?_
            rintro e u4 ⟨rfl, rfl⟩
            go_wp2_with fail
            go_roundw
            case rel => exact ⟨k + 1, _, by omega, by go_num, HE, K0, KZ, HB⟩
            case measure => simp [intOf]; omega
        · have t0' : 0 ≤ t := by omega
          have HC : Hid (Calls Try.prog 14 #[.pointer (some ⟨g, 0, none⟩), .int .i64 t] wr.drew fun e w' => e = .returned (.int .i64 0) ∧ Blk w' g 44 #[.int .i64 (r.smp t).x, .int .i64 (r.smp t).l, .int .i64 (r.smp t).m, .bool (r.smp t).any, .int .i64 (r.smp t).s, .int .i64 (r.smp t).v] ∧ Blk w' z 46 #[.int .i64 r.x, .int .i64 r.l, .int .i64 r.m, .bool r.any, .int .i64 r.s, .int .i64 r.v] ∧ w'.cell? ⟨b, q + k * 2 + 1, none⟩ = some (.int .i64 t) ∧ Below w.heap.size w w') := Lib.hid ((codeSample r t g wr.drew HE.out.ok t0' (K0.out.drewN 1)).mono fun e w' h => by
            obtain ⟨he, h1, h2⟩ := h
            have hb2 := tw_below (below_drewN HB.out 1) h2 HG.out (Nat.le_refl _)
            exact ⟨he, h1, (KZ.out.drewN 1).tw h2 N2.out, (hb2.cell hbl).trans ((HB.out.cell hbl).symm.trans c1), hb2⟩)
          have HD : Hid (∀ W, Blk W z 46 #[.int .i64 r.x, .int .i64 r.l, .int .i64 r.m, .bool r.any, .int .i64 r.s, .int .i64 r.v] → Calls Try.prog 15 #[.pointer (some ⟨z, 0, none⟩), .int .i64 t] W fun e w' => e = .returned (.int .i64 0) ∧ Blk w' z 46 #[.int .i64 (r.smp t).x, .int .i64 (r.smp t).l, .int .i64 (r.smp t).m, .bool (r.smp t).any, .int .i64 (r.smp t).s, .int .i64 (r.smp t).v] ∧ Tw [z] W w') := Lib.hid fun W h => refSample r t z W HE.out.ok t0' h
          have HE2 := Lib.hid (HE.out.smp t0')
          clear HB K0 KZ HE
          go_wp2_with fail
          go_region_with (first
            | (go_at_call 14; refine HC.out.mono ?_; rintro e w3 ⟨rfl, k3, z3, c3, b3⟩)
            | (go_at_call 15; refine (HD.out w3 z3).mono ?_; rintro e w4 ⟨rfl, z4, t4⟩))
          all_goals
            have HB := Lib.hid (tw_below b3 t4 HZ.out (Nat.le_refl _))
            have K0 : Hid (Blk w4 g 44 #[.int .i64 (r.smp t).x, .int .i64 (r.smp t).l, .int .i64 (r.smp t).m, .bool (r.smp t).any, .int .i64 (r.smp t).s, .int .i64 (r.smp t).v]) := Lib.hid (k3.tw t4 N1.out)
            have KZ : Hid (Blk w4 z 46 #[.int .i64 (r.smp t).x, .int .i64 (r.smp t).l, .int .i64 (r.smp t).m, .bool (r.smp t).any, .int .i64 (r.smp t).s, .int .i64 (r.smp t).v]) := Lib.hid z4
            clear HC HD c0 c1 k3 z3 c3 b3 z4 t4
            have HS1 : Hid (∀ W, Blk W g 44 #[.int .i64 (r.smp t).x, .int .i64 (r.smp t).l, .int .i64 (r.smp t).m, .bool (r.smp t).any, .int .i64 (r.smp t).s, .int .i64 (r.smp t).v] → Calls Try.prog 16 #[.pointer (some ⟨g, 0, none⟩)] W fun e w' => e = .returned (.tuple #[.int .i64 (if (r.smp t).any then (r.smp t).s / 8 else 0), .bool (r.smp t).any]) ∧ w' = W) := Lib.hid fun W h => codeSmooth (r.smp t) g W HE2.out.ok.s0 HE2.out.ok.s1 h
            have HS2 : Hid (∀ W, Blk W z 46 #[.int .i64 (r.smp t).x, .int .i64 (r.smp t).l, .int .i64 (r.smp t).m, .bool (r.smp t).any, .int .i64 (r.smp t).s, .int .i64 (r.smp t).v] → Calls Try.prog 17 #[.pointer (some ⟨z, 0, none⟩)] W fun e w' => e = .returned (.tuple #[.int .i64 (if (r.smp t).any then (r.smp t).s / 8 else 0), .bool (r.smp t).any]) ∧ w' = W) := Lib.hid fun W h => refSmooth (r.smp t) z W HE2.out.ok.s0 HE2.out.ok.s1 h
            obtain ⟨sv, hsv⟩ : ∃ sv, sv = (if (r.smp t).any then (r.smp t).s / 8 else 0) := ⟨_, rfl⟩
            obtain ⟨av, hav⟩ : ∃ av, av = (r.smp t).any := ⟨_, rfl⟩
            obtain ⟨y, hy⟩ : ∃ y, (r.smp t).x = y := ⟨_, rfl⟩
            have HY := Lib.hid hy
            have K3 := Lib.hid (HS1.out _ K0.out)
            have K4 := Lib.hid (HS2.out _ KZ.out)
            rw [← hsv, ← hav] at K3 K4
            clear hsv hav hy HS1 HS2
            go_wp2_with fail
            refine (K3.out).mono ?_
            rintro e u1 ⟨rfl, rfl⟩
            go_wp2_with fail
            refine (K4.out).mono ?_
            rintro e u2 ⟨rfl, rfl⟩
            go_wp2_with fail
            refine (codeValueN (r.smp t) y HY.out g _ K0.out).mono ?_
            rintro e u3 ⟨rfl, rfl⟩
            go_wp2_with fail
            refine (refValueN (r.smp t) y HY.out z _ KZ.out).mono ?_
            rintro e u4 ⟨rfl, rfl⟩
            go_wp2_with fail
            go_roundw
            case rel => exact ⟨k + 1, _, by omega, by go_num, HE2, K0, KZ, HB⟩
            case measure => simp [intOf]; omega
      · skip
        go_wp2_with fail
        refine (codeBack r g wr HE.out.ok K0.out).mono ?_
        rintro e w3 ⟨rfl, k2, t2⟩
        have HB := Lib.hid (tw_below HB.out t2 HG.out (Nat.le_refl _))
        have HE2 := Lib.hid HE.out.back
        have K0 : Hid (Blk w3 g 44 #[.int .i64 r.back.x, .int .i64 r.back.l, .int .i64 r.back.m, .bool r.back.any, .int .i64 r.back.s, .int .i64 r.back.v]) := Lib.hid k2
        have KZ := Lib.hid (KZ.out.tw t2 N2.out)
        clear k2 t2 c0 c1
        go_wp2_with fail
        refine (refBack r z w3 HE.out.ok KZ.out).mono ?_
        rintro e w4 ⟨rfl, k2, t2⟩
        have HB := Lib.hid (tw_below HB.out t2 HZ.out (Nat.le_refl _))
        have K0 := Lib.hid (K0.out.tw t2 N1.out)
        have KZ : Hid (Blk w4 z 46 #[.int .i64 r.back.x, .int .i64 r.back.l, .int .i64 r.back.m, .bool r.back.any, .int .i64 r.back.s, .int .i64 r.back.v]) := Lib.hid k2
        clear k2 t2 HE
        have HS1 : Hid (∀ W, Blk W g 44 #[.int .i64 r.back.x, .int .i64 r.back.l, .int .i64 r.back.m, .bool r.back.any, .int .i64 r.back.s, .int .i64 r.back.v] → Calls Try.prog 16 #[.pointer (some ⟨g, 0, none⟩)] W fun e w' => e = .returned (.tuple #[.int .i64 (if r.back.any then r.back.s / 8 else 0), .bool r.back.any]) ∧ w' = W) := Lib.hid fun W h => codeSmooth r.back g W HE2.out.ok.s0 HE2.out.ok.s1 h
        have HS2 : Hid (∀ W, Blk W z 46 #[.int .i64 r.back.x, .int .i64 r.back.l, .int .i64 r.back.m, .bool r.back.any, .int .i64 r.back.s, .int .i64 r.back.v] → Calls Try.prog 17 #[.pointer (some ⟨z, 0, none⟩)] W fun e w' => e = .returned (.tuple #[.int .i64 (if r.back.any then r.back.s / 8 else 0), .bool r.back.any]) ∧ w' = W) := Lib.hid fun W h => refSmooth r.back z W HE2.out.ok.s0 HE2.out.ok.s1 h
        obtain ⟨sv, hsv⟩ : ∃ sv, sv = (if r.back.any then r.back.s / 8 else 0) := ⟨_, rfl⟩
        obtain ⟨av, hav⟩ : ∃ av, av = r.back.any := ⟨_, rfl⟩
        obtain ⟨y, hy⟩ : ∃ y, r.back.x = y := ⟨_, rfl⟩
        have HY := Lib.hid hy
        have K3 := Lib.hid (HS1.out _ K0.out)
        have K4 := Lib.hid (HS2.out _ KZ.out)
        rw [← hsv, ← hav] at K3 K4
        clear hsv hav hy HS1 HS2
        go_wp2_with fail
        refine (K3.out).mono ?_
        rintro e u1 ⟨rfl, rfl⟩
        go_wp2_with fail
        refine (K4.out).mono ?_
        rintro e u2 ⟨rfl, rfl⟩
        go_wp2_with fail
        refine (codeValueN r.back y HY.out g _ K0.out).mono ?_
        rintro e u3 ⟨rfl, rfl⟩
        go_wp2_with fail
        refine (refValueN r.back y HY.out z _ KZ.out).mono ?_
        rintro e u4 ⟨rfl, rfl⟩
        go_wp2_with fail
        go_roundw
        case rel => exact ⟨k + 1, _, by omega, by go_num, HE2, K0, KZ, HB⟩
        case measure => simp [intOf]; omega
    · obtain rfl : k = n := by omega
      clear hkn
      go_wp2_with fail
      refine (works_any wr).mono ?_
      rintro e w8 ⟨rfl, hb8⟩
      go_wp2_with fail
      go_ret
      exact ⟨rfl, below_then HB.out (Nat.le_refl _) hb8⟩
theorem rtoPlays_walk (f l m : Int) (A : Option Addr) (n c : Nat) (rows : List (List Value)) (w : World) (h1 : (Lit.int .i64 f).wf = true) (h2 : (Lit.int .i64 l).wf = true) (h3 : (Lit.int .i64 m).wf = true) (h4 : n ≤ c) (h5 : c ≤ maxLen) (h6 : rows.length = n) (h7 : Rows_ w w.heap.size A 2 rows) (h8 : ∀ row ∈ rows, OpRow row) : Calls Try.prog 3 #[.int .i64 f, .int .i64 l, .int .i64 m, .slice A n c] w fun e w' => e = .returned (.bool true) ∧ Below w.heap.size w w' := by
  by_cases hb : 500 < n
  · exact rtoPlays_big f l m A n c w hb (Nat.le_trans h4 h5)
  · obtain ⟨L, hl, hL⟩ := rop_of h7 h8
    by_cases h : newOk f l m
    · exact rtoPlays_yes f l m A n c L w h (by omega) (by omega) hL
    · exact rtoPlays_no f l m A n c L w h (by omega) (by omega) hL
end Go.Proofs.Ythmilceapnaepaa
