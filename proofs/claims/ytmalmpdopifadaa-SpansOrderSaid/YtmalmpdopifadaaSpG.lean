/-
  Layer 4 (spans): contracts of the code: Gaps.
-/
import Derived.Test.YtmalmpdopifadaaSpC
import Derived.OwnWalk
namespace Go.Proofs.Ytmalmpdopifadaa
open Go.RowKit
set_option linter.unusedVariables false

theorem Try.infoGap : (Try.prog.info? 45).map (fun i => (i.zero, i.size, i.bytes)) = some (some (.agg #[.int .u16 0, .int .u16 0]), 2, 4) := by kernel_rfl

section
variable {w w' : World} {t : TypeId} {base n c : Nat} {A : Option Addr} {L : List (Nat × Nat)}
theorem Og.head (h : Og w t base (.slice A n c) L) (hn : 0 < n) : ∃ g, A = some ⟨g, 0, none⟩ ∧ base ≤ g ∧ g < w.heap.size ∧
    (∀ (j : Nat) (p : Nat × Nat), L[j]? = some p → w.cell? ⟨g, j * 2, none⟩ = some (.int .u16 (p.1 : Nat)) ∧ w.cell? ⟨g, j * 2 + 1, none⟩ = some (.int .u16 (p.2 : Nat))) ∧ ∀ i, w.frozen? ⟨g, i, none⟩ = false := by
  rcases h.2 with ⟨h1, h2⟩ | ⟨g, cap, cur, hv, hb, hg, hnc, hcm, hcs, htake⟩
  · injection h1 with _ h1; omega
  · have hv' := hv
    injection hv with h1 h2 h3
    have hlt : g < w.heap.size := (Array.getElem?_eq_some_iff.1 hg).1
    have hcell : ∀ (j : Nat) u, (flat L)[j]? = some u → w.cell? ⟨g, j, none⟩ = some u := fun j u hu => by
      have := h.cells (g := g) (by rw [hv']; rfl) j u hu
      rwa [Addr.add_lit, Nat.zero_add] at this
    refine ⟨g, h1, hb, hlt, fun j p hp => ⟨hcell _ _ (get_flat L j p hp).1, hcell _ _ (get_flat L j p hp).2⟩, fun i => ?_⟩
    simp [World.frozen?, hg]
theorem set_take {α : Type} (l : List α) (i n : Nat) (x : α) (h : i < n) : (l.set i x).take n = (l.take n).set i x := by
  apply List.ext_getElem?
  intro j
  rw [List.getElem?_take, List.getElem?_set, List.getElem?_set, List.getElem?_take, List.length_take]
  by_cases hj : j < n
  · simp only [hj, if_true]
    by_cases e : i = j
    · subst e
      simp only [if_true]
      by_cases hl : i < l.length
      · rw [if_pos hl, if_pos (by omega)]
      · rw [if_neg hl, if_neg (by omega)]
    · simp [e]
  · simp only [hj, if_false]
    rw [if_neg (by omega)]
theorem flat_set (M : List (Nat × Nat)) (p : Nat × Nat) (d : Nat) : (flat (M ++ [p])).set (M.length * 2 + 1) (.int .u16 (d : Nat)) = flat (M ++ [(p.1, d)]) := by
  rw [flat_snoc, flat_snoc]
  apply List.ext_getElem?
  intro j
  have hl := length_flat M
  rw [List.getElem?_set]
  by_cases e : M.length * 2 + 1 = j
  · subst e
    rw [if_pos rfl, if_pos (by simp; omega), List.getElem?_append_right (by omega), hl, show M.length * 2 + 1 - M.length * 2 = 1 by omega]
    rfl
  · rw [if_neg e]
    rcases Nat.lt_or_ge j (M.length * 2) with hj | hj
    · rw [List.getElem?_append_left (by omega), List.getElem?_append_left (by omega)]
    · rw [List.getElem?_append_right (by omega), List.getElem?_append_right (by omega)]
      rcases Nat.lt_or_ge j (M.length * 2 + 1) with hj1 | hj1
      · rw [hl, show j - M.length * 2 = 0 by omega]; rfl
      · rw [List.getElem?_eq_none (by simp; omega), List.getElem?_eq_none (by simp; omega)]
theorem Og.set_ {g : Nat} {M : List (Nat × Nat)} {p : Nat × Nat} (h : Og w t base (.slice (some ⟨g, 0, none⟩) n c) (M ++ [p])) (d : Nat) : Og (w.setCell ⟨g, M.length * 2 + 1, none⟩ (.int .u16 (d : Nat))) t base (.slice (some ⟨g, 0, none⟩) n c) (M ++ [(p.1, d)]) := by
  have hlen : (M ++ [(p.1, d)]).length = (M ++ [p]).length := by simp
  unfold Og at h ⊢
  rw [hlen]
  refine ⟨by rw [length_flat, hlen], ?_⟩
  rcases h.2 with ⟨h1, h2⟩ | ⟨g', cap, cur, hv, hb, hg, hnc, hcm, hcs, htake⟩
  · simp at h2
  · injection hv with h1 h2 h3
    injection h1 with h1
    injection h1 with h1
    subst h1 h2 h3
    have hml : (M ++ [p]).length = M.length + 1 := by simp
    refine .inr ⟨g, c, cur.setIfInBounds (M.length * 2 + 1) (.int .u16 (d : Nat)), rfl, hb, ?_, hnc, hcm, by simp [hcs], ?_⟩
    · simp [World.setCell, Array.getElem?_modify, hg]
    · rw [Array.toList_setIfInBounds, set_take _ _ _ _ (by omega), htake, flat_set]
end

theorem cnt_zero (f : Nat → Bool) : cnt f 0 = 0 := rfl

section
variable {g m : Nat} {B : Int} {f : Nat → Bool} {w : World}

/-- The last run behind a member ends there; behind none it ends ahead. -/
theorem runs_last (hw : Win f) (e : Nat) : (f e = true → ∃ M p, runsTo f e = M ++ [p] ∧ p.2 = e) ∧ (f e = false → ∀ M p, runsTo f e = M ++ [p] → p.2 < e) := by
  have ha := apt (win_zero hw) e
  refine ⟨fun he => ?_, fun he M p hp => ?_⟩
  · obtain ⟨M, p, hp⟩ := snoc_of (runs_ne (win_zero hw) e he)
    refine ⟨M, p, hp, ?_⟩
    have h3 := ha.2.2.1
    rw [hp] at h3
    have hs := lst_spec (win_zero hw) e
    have := hs.2 e (Nat.le_refl _) he
    have := lst_le (f := f) e
    simp at h3
    omega
  · have := ha.1 M.length p (by rw [hp]; simp)
    rcases Nat.lt_or_ge p.2 e with hl | hl
    · exact hl
    · have h2 := this.2.2.2 p.2 this.2.1 (Nat.le_refl _)
      rw [show p.2 = e by omega, he] at h2
      cases h2

theorem cell_two_new (W : World) (a b : Value) (t : TypeId) : ∀ (j : Nat) u, [a, b][j]? = some u → (W.alloc (.cells #[a, b] t)).cell? ((⟨W.heap.size, 0, none⟩ : Addr).add j) = some u := by
  intro j u hu
  rw [Addr.add_lit, Nat.zero_add, (Blk.new W t #[a, b]).cell j]
  simpa using hu
theorem app_end {w wr w1 : World} {t : TypeId} {v v' : Value} {L M : List (Nat × Nat)} {e q : Nat} {u : Obj} (hbel : Below w.heap.size w wr) (hM : M = L ++ [(e + 1, e + 1)]) (ho : Og ((wr.drewN q).alloc u) t w.heap.size v L)
    (h1 : w1.ownsRow w.heap.size t 2 v' (L.length + 1) (flat L ++ [.int .u16 ((e : Int) + 1), .int .u16 ((e : Int) + 1)])) (h2 : ((wr.drewN q).alloc u).grownBy w1 v.ownBlock) :
    ∃ A' c' n', v' = .slice A' n' c' ∧ Hid (M.length = n') ∧ Og w1 t w.heap.size (.slice A' n' c') M ∧ Below w.heap.size w w1 := by
  have hl : M.length = L.length + 1 := by rw [hM]; simp
  have hog : Og w1 t w.heap.size v' M := by
    unfold Og
    rw [hl, hM, flat_snoc]
    exact h1
  obtain ⟨A', c', rfl, _⟩ := hog.form
  refine ⟨A', c', _, rfl, Lib.hid rfl, hog, ?_⟩
  have hsz := hbel.size
  exact ((below_drewN hbel q).alloc (by simpa using hsz) u).grown h2 (by simp; omega) fun j hj => (World.ownsRow.lt ho j hj).1

set_option maxHeartbeats 3200000 in
theorem gaps_any (most : Int) (h : SpSet w g m B f) (hm : -9223372036854775808 ≤ most ∧ most ≤ 9223372036854775807) :
    Calls Try.prog 21 #[.pointer (some ⟨g, 0, none⟩), .int .i64 most] w fun e w' => ∃ v, e = .returned v ∧ Og w' 45 w.heap.size v (gapsF f most) ∧ Below w.heap.size w w' := by
  obtain ⟨i0, hi, hz0, hz1, hz2⟩ := info_parts Try.infoGap
  have HI := Lib.hid hi
  have HZ0 := Lib.hid hz0
  have HZ1 := Lib.hid hz1
  have HZ2 := Lib.hid hz2
  clear hi hz0 hz1 hz2
  have hB := h.base
  have hc4 := cnt_le (f := f) 4096
  go_enter Try.func21, Try.ntmps21
  go_wp2_with fail
  refine (count_any h).mono ?_
  rintro e w2 ⟨rfl, rfl⟩
  go_wp2_with fail
  go_loopw [5, 6, 7] (fun r l d wr => ∃ (e lf n c : Nat) (A : Option Addr), e ≤ 4096 ∧ d = .int .u16 ((e : Int) + 1) ∧ l = .int .i64 lf ∧ Hid (lf + cnt f e = cnt f 4096) ∧ r = .slice A n c ∧ Hid ((runsTo f e).length = n) ∧ Hid (n ≤ most.toNat) ∧ n ≤ e ∧
      Og wr 45 w.heap.size (.slice A n c) (runsTo f e) ∧ Below w.heap.size w wr) (fun _ _ d _ => 4097 - (intOf d).toNat)
  case atStart => exact ⟨0, cnt f 4096, 0, 0, none, by omega, by simp, rfl, Lib.hid (by rw [cnt_zero, Nat.add_zero]), rfl, Lib.hid rfl, Lib.hid (Nat.zero_le _), Nat.le_refl _, World.ownsRow_nil _ _ _ _, Below.refl _ _⟩
  case round =>
    obtain ⟨e, lf, n, c, A, he, rfl, rfl, HL, rfl, HN, HM, hne, hog, hbel⟩ := hrel
    have hset := h.below hbel
    by_cases hlt : 0 < lf
    · have he4 : e < 4096 := by
        have := HL.out
        rcases Nat.lt_or_ge e 4096 with hl | hl
        · exact hl
        · rw [show e = 4096 by omega] at this; omega
      have c0 := hset.c0
      have c1 := hset.c1
      obtain ⟨x, hx, hux⟩ : ∃ x, dst B x = e + 1 ∧ (0 ≤ x ∧ x < 4294967296) ∧ IntKind.u32.wrap (B + ((e : Int) + 1)) = x := ⟨(B + ((e + 1 : Nat) : Int)) % 4294967296, dst_add hB (e + 1) (by omega), by omega, by rw [wrap_u32]; rfl⟩
      obtain ⟨hx32, hu⟩ := hux
      have hl := fun q => (hset.drewN q).look hx32
      rw [hx] at hl
      clear hx
      have hu1 : IntKind.u32.wrap ((e : Int) + 1) = (e : Int) + 1 := by rw [wrap_u32]; omega
      by_cases hin : f (e + 1) = true
      · rw [hin] at hl
        go_wp2_with fail
        go_quiet (fail)
        clear hl hu hu1
        have hlf : lf ≤ 4096 := by have := HL.out; omega
        have HIN := Lib.hid hin
        clear hin c0 c1
        by_cases hf : f e = true
        · obtain ⟨M, p, hM, hp2⟩ := (runs_last h.win e).1 hf
          obtain ⟨k, hk⟩ : ∃ k, k = M.length := ⟨_, rfl⟩
          have hn : n = k + 1 := by have := HN.out; rw [hM] at this; simp at this; omega
          subst hn
          obtain ⟨g', rfl, hg1, hg2, hcell, hfz⟩ := hog.head (by omega)
          have e1 := (hcell k p (by rw [hM, hk]; simp)).2
          rw [hp2] at e1
          have f1 := hfz (k * 2 + 1)
          have hruns : runsTo f (e + 1) = M ++ [(p.1, e + 1)] := by rw [runs_succ, if_pos HIN.out, if_pos hf, hM, ext_snoc]
          have hog2 : Og ((wr.drewN nq).setCell ⟨g', k * 2 + 1, none⟩ (.int .u16 ((e : Int) + 1))) 45 w.heap.size (.slice (some ⟨g', 0, none⟩) (k + 1) c) (runsTo f (e + 1)) := by
            rw [hM] at hog
            have := (Og.tw hog ((Tw.refl [] wr).drewN nq) (by simp)).set_ (e + 1)
            rw [← hk] at this
            rw [hruns]
            exact this
          have hlen : (runsTo f (e + 1)).length = k + 1 := by rw [hruns]; simp [hk]
          have hcn : cnt f (e + 1) = cnt f e + 1 := by rw [cnt_succ, if_pos HIN.out]
          have HOG := Lib.hid hog2
          have HLEN := Lib.hid hlen
          have HCN := Lib.hid hcn
          clear hcell hfz hM hp2 hk hruns hog2 hlen hcn hf
          go_wp2_with fail
          go_roundw
          case rel => exact ⟨e + 1, lf - 1, k + 1, c, _, by omega, by go_num, by go_num, Lib.hid (by have := HL.out; have := HCN.out; omega), rfl, HLEN, HM, by omega, HOG.out, (below_drewN hbel nq).setCell hg1 _⟩
          case measure => simp [intOf]; omega
        · have hf : f e = false := by simpa using hf
          have hcn : cnt f (e + 1) = cnt f e + 1 := by rw [cnt_succ, if_pos HIN.out]
          have hruns : runsTo f (e + 1) = runsTo f e ++ [(e + 1, e + 1)] := by rw [runs_succ, if_pos HIN.out, if_neg (by rw [hf]; decide)]
          have hlen : (runsTo f (e + 1)).length = n + 1 := by rw [hruns, List.length_append, HN.out]; rfl
          have HCN := Lib.hid hcn
          have HRUNS := Lib.hid hruns
          have HLEN := Lib.hid hlen
          have HF := Lib.hid hf
          have htest : (n = 0 ∨ ∃ k g' p2, n = k + 1 ∧ A = some ⟨g', 0, none⟩ ∧ wr.cell? ⟨g', k * 2 + 1, none⟩ = some (.int .u16 ((p2 : Nat) : Int)) ∧ p2 < e) := by
            by_cases h0 : n = 0
            · exact .inl h0
            · obtain ⟨g', rfl, hg1, hg2, hcell, hfz⟩ := hog.head (by omega)
              obtain ⟨M, p, hM⟩ := snoc_of (L := runsTo f e) (by intro e'; have := HN.out; rw [e'] at this; simp at this; omega)
              have hk : n = M.length + 1 := by have := HN.out; rw [hM] at this; simp at this; omega
              refine .inr ⟨M.length, g', p.2, hk, rfl, (hcell M.length p (by rw [hM]; simp)).2, (runs_last h.win e).2 hf M p hM⟩
          have HE := Lib.hid (fun (hge : most.toNat ≤ n) => runs_take (f := f) e 4096 he hf most.toNat (by have := HN.out; have := HM.out; omega))
          clear hcn hruns hlen hf
          by_cases hmost : (n : Int) < most
          · have hmi : (n : Int) + 1 ≤ most := by omega
            have HM' : Hid (n + 1 ≤ most.toNat) := Lib.hid (by omega)
            have HO := Lib.hid ((Og.tw hog ((Tw.refl [] wr).drewN nq) (by simp)).alloc (.cells #[.int .u16 ((e : Int) + 1), .int .u16 ((e : Int) + 1)] 45))
            clear hmost HE
            rcases htest with rfl | ⟨k, g', p2, rfl, rfl, hc2, hp2⟩
            · have hmd : decide (0 < most) = true := decide_eq_true (by omega)
              clear hmi
              go_wp2_with (at_builtin; refine wpList_append_own _ rfl _ _ 37 rfl w.heap.size 45 i0 _ 2 4 Try.underlying37 HI.out HZ0.out HZ1.out HZ2.out rfl (by decide) _ (runsTo f e).length (flat (runsTo f e)) rfl (HO.out) ⟨wr.heap.size, 0, none⟩ 1 1 [.int .u16 ((e : Int) + 1), .int .u16 ((e : Int) + 1)] rfl rfl (cell_two_new (wr.drewN nq) _ _ _) (by intro u hu; simp at hu; rw [hu]; rfl) (by rw [HN.out]; unfold maxLen; omega) (by rw [HN.out]; omega) (by have := hbel.size; simp; omega) (fun v' w1 hown' hgrow hnil => ?_); obtain ⟨A', c', n', rfl, HN', hog', hbel'⟩ := app_end hbel (HRUNS.out) HO.out hown' hgrow; clear hown' hgrow hnil)
              go_roundw
              case rel => exact ⟨e + 1, lf - 1, n', c', A', by omega, by go_num, by go_num, Lib.hid (by have := HL.out; have := HCN.out; omega), rfl, HN', Lib.hid (by have := HN'.out; have := HLEN.out; have := HM'.out; omega), by have := HN'.out; have := HLEN.out; omega, hog', hbel'⟩
              case measure => simp [intOf]; omega
            · have hne2 : ((p2 : Int) == (e : Int)) = false := by simp; omega
              have hmd : decide ((k : Int) + 1 < most) = true := decide_eq_true (by omega)
              clear hmi
              go_wp2_with (at_builtin; refine wpList_append_own _ rfl _ _ 37 rfl w.heap.size 45 i0 _ 2 4 Try.underlying37 HI.out HZ0.out HZ1.out HZ2.out rfl (by decide) _ (runsTo f e).length (flat (runsTo f e)) rfl (HO.out) ⟨wr.heap.size, 0, none⟩ 1 1 [.int .u16 ((e : Int) + 1), .int .u16 ((e : Int) + 1)] rfl rfl (cell_two_new (wr.drewN nq) _ _ _) (by intro u hu; simp at hu; rw [hu]; rfl) (by rw [HN.out]; unfold maxLen; omega) (by rw [HN.out]; omega) (by have := hbel.size; simp; omega) (fun v' w1 hown' hgrow hnil => ?_); obtain ⟨A', c', n', rfl, HN', hog', hbel'⟩ := app_end hbel (HRUNS.out) HO.out hown' hgrow; clear hown' hgrow hnil)
              go_roundw
              case rel => exact ⟨e + 1, lf - 1, n', c', A', by omega, by go_num, by go_num, Lib.hid (by have := HL.out; have := HCN.out; omega), rfl, HN', Lib.hid (by have := HN'.out; have := HLEN.out; have := HM'.out; omega), by have := HN'.out; have := HLEN.out; omega, hog', hbel'⟩
              case measure => simp [intOf]; omega
          · have hge : most.toNat ≤ n := by omega
            have HR : Hid (Og (wr.drewN nq) 45 w.heap.size (.slice A n c) (gapsF f most)) := by
              show Hid (Og _ _ _ _ ((runsTo f 4096).take most.toNat))
              rw [HE.out hge]
              exact Lib.hid (Og.tw hog ((Tw.refl [] wr).drewN nq) (by simp))
            have hml : most ≤ (n : Int) := by omega
            clear hge hmost HE
            rcases htest with rfl | ⟨k, g', p2, rfl, rfl, hc2, hp2⟩
            · have hmd : decide (0 < most) = false := decide_eq_false (by omega)
              clear hml
              go_wp2_with fail
              go_ret
              exact ⟨_, rfl, HR.out, below_drewN hbel _⟩
            · have hne2 : ((p2 : Int) == (e : Int)) = false := by simp; omega
              have hmd : decide ((k : Int) + 1 < most) = false := decide_eq_false (by omega)
              clear hml
              go_wp2_with fail
              go_ret
              exact ⟨_, rfl, HR.out, below_drewN hbel _⟩
      · have hin : f (e + 1) = false := by simpa using hin
        rw [hin] at hl
        go_wp2_with fail
        go_quiet (fail)
        clear hl hu hu1
        have hcn : cnt f (e + 1) = cnt f e := by rw [cnt_succ, hin]; simp
        have hruns : runsTo f (e + 1) = runsTo f e := by rw [runs_succ, hin]; simp
        have HCN := Lib.hid hcn
        have HRUNS := Lib.hid hruns
        clear hcn hruns hin c0 c1
        go_wp2_with fail
        go_roundw
        case rel => exact ⟨e + 1, lf, n, c, A, by omega, by go_num, rfl, Lib.hid (by have := HL.out; have := HCN.out; omega), rfl, by rw [HRUNS.out]; exact HN, HM, by omega, by rw [HRUNS.out]; exact Og.tw hog ((Tw.refl [] wr).drewN nq) (by simp), below_drewN hbel _⟩
        case measure => simp [intOf]; omega
    · obtain rfl : lf = 0 := by omega
      have hr := runs_same (f := f) e (4096 - e) (by rw [show e + (4096 - e) = 4096 by omega]; have := HL.out; omega)
      rw [show e + (4096 - e) = 4096 by omega] at hr
      have HR : Hid (Og wr 45 w.heap.size (.slice A n c) (gapsF f most)) := by
        show Hid (Og _ _ _ _ ((runsTo f 4096).take most.toNat))
        rw [hr, List.take_of_length_le (by rw [HN.out]; exact HM.out)]
        exact Lib.hid hog
      clear hr
      go_wp2_with fail
      go_ret
      exact ⟨_, rfl, HR.out, hbel⟩
theorem gaps_nil (most : Int) (w : World) :
    Calls Try.prog 21 #[.pointer none, .int .i64 most] w fun e w' => e = .returned (.slice none 0 0) ∧ w = w' := by
  go_enter Try.func21, Try.ntmps21
  go_wp2_with fail
  refine (count_nil _).mono ?_
  rintro e w2 ⟨rfl, rfl⟩
  go_wp2_with fail
  refine wp_loop_rounds 1 ?_
  rw [rounds_succ]
  go_wp2
  go_ret
  exact ⟨rfl, rfl⟩
end
end Go.Proofs.Ytmalmpdopifadaa
