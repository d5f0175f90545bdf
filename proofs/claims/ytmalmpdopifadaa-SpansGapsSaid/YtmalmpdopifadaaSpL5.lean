/-
  Layer 4 (spans): SpansOrder, walked.
-/
import Derived.Test.YtmalmpdopifadaaSpL4
import Derived.Deep.RegionLaw
namespace Go.Proofs.Ytmalmpdopifadaa
open Go.RowKit
set_option linter.unusedVariables false

theorem Try.infoU32 : (Try.prog.info? 22).map (fun i => (i.zero, i.size, i.bytes)) = some (some (.int .u32 0), 1, 4) := by kernel_rfl

/-- A slice of numbers of the call's own. -/
def Oi (w : World) (t : TypeId) (base : Nat) (v : Value) (zs : List Int) : Prop := w.ownsRow base t 1 v zs.length (zs.map (Value.int .u32))
section
variable {w w' : World} {t : TypeId} {base : Nat} {v : Value} {zs : List Int} {S : List Nat}
theorem Oi.form (h : Oi w t base v zs) : ∃ A c, v = .slice A zs.length c ∧ zs.length ≤ c ∧ c ≤ maxLen ∧ Ri .u32 w w.heap.size A zs := by
  rcases h.2 with ⟨rfl, hn⟩ | ⟨g, cap, cur, rfl, hb, hg, hnc, hcm, hcs, htake⟩
  · have : zs = [] := List.eq_nil_of_length_eq_zero hn
    subst this
    exact ⟨none, 0, rfl, Nat.le_refl _, Nat.zero_le _, .inl rfl⟩
  · have hlt : g < w.heap.size := (Array.getElem?_eq_some_iff.1 hg).1
    refine ⟨_, _, rfl, hnc, hcm, .inr ⟨g, 0, rfl, hlt, fun j x hx => ?_⟩⟩
    have := h.cells (g := g) rfl j (.int .u32 x) (by simp [hx])
    rwa [Addr.add_lit] at this
end
theorem oi_end {w wr W w1 : World} {t : TypeId} {v v' : Value} {zs : List Int} {y : Int} {u : Obj} {B : Nat} (hbel : Below B w wr) (hB : B ≤ w.heap.size) (hW : Below wr.heap.size wr W) (ho : Oi (W.alloc u) t B v zs)
    (h1 : w1.ownsRow B t 1 v' (zs.length + 2) (zs.map (Value.int .u32) ++ [.int .u32 y, .int .u32 y])) (h2 : (W.alloc u).grownBy w1 v.ownBlock) :
    ∃ A' c' n', v' = .slice A' n' c' ∧ Hid (zs.length + 2 = n') ∧ Oi w1 t B (.slice A' n' c') (zs ++ [y, y]) ∧ Below B w w1 := by
  have hl : (zs ++ [y, y]).length = zs.length + 2 := by simp
  have ho1 : Oi w1 t B v' (zs ++ [y, y]) := by
    unfold Oi
    rw [hl, List.map_append]
    exact h1
  obtain ⟨A', c', rfl, _⟩ := ho1.form
  refine ⟨A', c', _, rfl, Lib.hid hl.symm, ho1, ?_⟩
  have hsz := hbel.size
  have hsw := hW.size
  exact ((below_then hbel (Nat.le_trans hB (Nat.le_refl _)) hW).alloc (by omega) u).grown h2 (by simp; omega) fun j hj => (World.ownsRow.lt ho j hj).1

/-- append in a region that draws, its run known. -/
theorem step_append_run {P : Program} {ops : Array Oper} {o : Oper} {a : Act} {w w' : World} {K : Act → World → Prop} {Q : Exit → Act → World → Prop} {E : Prop} (hg : o.guard = none) (s x : Operand) (t : TypeId)
    (hop : o.op = Op.call { callee := Callee.builtin Builtin.append, args := #[s, x], argTypes := #[t, t] }) (v u v' : Value) (hs : a.eval s = v) (hx : a.eval x = u) (ty : TypeId) (hty : o.type = ty)
    (hrun : (Builtin.append_ #[t, t] ty #[v, u]).run P w = .ok v' w') (hK : K (a.put o.dst v') w') : if Region.wanted o (yielded ops a.tmps) = true then Oper.wp P o a w K Q else E := by
  have hw : Region.wanted o (yielded ops a.tmps) = true := by simp [Region.wanted, hg]
  rw [if_pos hw]
  subst hty
  unfold Oper.wp
  simp only [execOp, hop, resolve, invoke, builtin, Sem.run_bind, Sem.run_pure, Result.andThen_ok, List.map_toArray, List.map_cons, List.map_nil, hs, hx, hrun]
  exact hK

set_option maxHeartbeats 1600000 in
theorem spansOrder_big (base other : Int) (A : Option Addr) (n c : Nat) (w : World) (h : 200 < n) (hm : n ≤ maxLen) :
    Calls Try.prog 6 #[.int .u32 base, .int .u32 other, .slice A n c] w fun e w' => e = .returned (.bool true) ∧ Below w.heap.size w w' := by
  unfold maxLen at hm
  go_enter Try.func6, Try.ntmps6
  go_wp2_with fail
  refine (works_any w).mono ?_
  rintro e w1 ⟨rfl, hb1⟩
  go_wp2_with fail
  go_ret
  exact ⟨rfl, hb1⟩

set_option maxHeartbeats 3200000 in
theorem spansOrder_small (base other : Int) (A : Option Addr) (n c : Nat) (xs : List Int) (w : World) (hn : xs.length = n) (h : n ≤ 200) (hr : Ri .u32 w w.heap.size A xs) (hxs : ∀ x ∈ xs, 0 ≤ x ∧ x < 4294967296) (hB : 0 ≤ base ∧ base < 4294967296) (hO : 0 ≤ other ∧ other < 4294967296) :
    Calls Try.prog 6 #[.int .u32 base, .int .u32 other, .slice A n c] w fun e w' => e = .returned (.bool true) ∧ Below w.heap.size w w' := by
  obtain ⟨i0, hi, hz0, hz1, hz2⟩ := info_parts Try.infoU32
  have HI := Lib.hid hi
  have HZ0 := Lib.hid hz0
  have HZ1 := Lib.hid hz1
  have HZ2 := Lib.hid hz2
  have HN := Lib.hid hn
  have HX := Lib.hid hxs
  clear hi hz0 hz1 hz2 hn hxs
  go_enter Try.func6, Try.ntmps6
  go_wp2_with fail
  go_loopw [7, 8] (fun r i wr => ∃ (k m c : Nat) (z : Int) (A : Option Addr) (zs : List Int), k ≤ n ∧ i = .int .i64 z ∧ Hid (z = (k : Int) - 1) ∧ r = .slice A m c ∧ Hid (zs.length = m) ∧ Hid (m + 2 * k = 2 * n) ∧ Hid (∀ x, x ∈ zs ↔ x ∈ xs.drop k) ∧
      Oi wr 22 w.heap.size (.slice A m c) zs ∧ Below w.heap.size w wr) (fun _ i _ => ((intOf i) + 1).toNat)
  case atStart => exact ⟨n, 0, 0, _, none, [], Nat.le_refl _, rfl, Lib.hid rfl, rfl, Lib.hid rfl, Lib.hid (by omega), Lib.hid (fun x => by rw [List.drop_of_length_le (by rw [HN.out]; exact Nat.le_refl _)]), World.ownsRow_nil _ _ _ _, Below.refl _ _⟩
  case round =>
    obtain ⟨k, m, c', z, A', zs, hk, rfl, HZ, rfl, HL, HM, HMEM, hoi, hbel⟩ := hrel
    by_cases hlt : 0 < k
    · obtain ⟨j, rfl⟩ : ∃ j, k = j + 1 := ⟨k - 1, by omega⟩
      have hz : z = (j : Int) := by have := HZ.out; omega
      subst hz
      have hl : xs ≠ [] := by intro e; have := HN.out; rw [e] at this; simp at this; omega
      obtain ⟨b, o, rfl, hb, hc⟩ := (hr.below hbel).at_ hl
      have hjl : j < xs.length := by rw [HN.out]; omega
      have a1 := hc j hjl
      obtain ⟨y, hy⟩ : ∃ y, y = xs[j] := ⟨_, rfl⟩
      rw [← hy] at a1
      have HY := Lib.hid hy
      clear hc hy hl
      have hm4 : m ≤ 400 := by have := HM.out; omega
      obtain ⟨v', w1, hrun, hown', hgrow, hnil⟩ := run_append_own (P := Try.prog) ((wr.alloc (.cells #[.int .u32 y, .int .u32 y] 22)).drew) w.heap.size 41 41 22 i0 _ 1 4 Try.underlying41 HI.out HZ0.out HZ1.out HZ2.out rfl (by decide)
        (.slice A' m c') zs.length (zs.map (Value.int .u32)) (World.ownsRow.drew (hoi.alloc _)) ⟨wr.heap.size, 0, none⟩ 2 2 [.int .u32 y, .int .u32 y] rfl (cell_two_new wr _ _ _) (by intro u hu; simp at hu; rw [hu]; rfl) (by rw [HL.out]; unfold maxLen; omega) (by rw [HL.out]; omega) (by have := hbel.size; simp; omega)
      obtain ⟨A2, c2, n2, rfl, HN2, hoi2, hbel2⟩ := oi_end hbel (Nat.le_refl _) (W := wr.drew) (u := .cells #[.int .u32 y, .int .u32 y] 22) ⟨rfl, rfl, rfl, Nat.le_refl _, fun _ _ => rfl⟩ (World.ownsRow.drew (hoi.alloc _)) hown' hgrow
      have HMEM2 : Hid (∀ x, x ∈ zs ++ [y, y] ↔ x ∈ xs.drop j) := Lib.hid (fun x => by
        rw [List.drop_eq_getElem_cons hjl, ← HY.out, List.mem_append, HMEM.out x]
        simp only [List.mem_cons, List.not_mem_nil, or_false, or_self]
        exact ⟨fun h => h.symm, fun h => h.symm⟩)
      have HRUN := Lib.hid hrun
      have hjn : j < n := by omega
      clear hown' hgrow hnil hrun
      go_wp2_with fail
      go_region_law (refine step_append_run rfl _ _ 41 rfl (.slice A' m c') (.slice (some ⟨wr.heap.size, 0, none⟩) 2 2) (.slice A2 n2 c2) (by simp [Act.eval]) (by simp [Act.eval]) _ rfl HRUN.out ?_)
      all_goals
        go_wp2_with fail
        go_roundw
        case rel => exact ⟨j, n2, c2, _, A2, zs ++ [y, y], by omega, rfl, Lib.hid rfl, rfl, Lib.hid (by rw [List.length_append, ← HN2.out]; rfl), Lib.hid (by have := HN2.out; have := HL.out; have := HM.out; omega), HMEM2, hoi2, hbel2⟩
        case measure => simp [intOf]
    · obtain rfl : k = 0 := by omega
      have hz : z = -1 := by have := HZ.out; omega
      subst hz
      have HZX : Hid (inB zs = inB xs) := Lib.hid (inB_ext (fun x => by rw [HMEM.out x, List.drop_zero]))
      have HZB : Hid (∀ x ∈ zs, 0 ≤ x ∧ x < 4294967296) := Lib.hid (fun x hx => HX.out x (by have := (HMEM.out x).1 hx; rwa [List.drop_zero] at this))
      have hm4 : m ≤ 400 := by have := HM.out; omega
      obtain ⟨A1, c1, hv, hlc, hcm, hri⟩ := hoi.form
      injection hv with e1 e2 e3
      subst e1 e3
      have hr1 := (hr.below hbel).more (B' := wr.heap.size) hbel.size
      have HC : Hid (c' ≤ maxLen) := Lib.hid hcm
      clear e2 hlc hcm hoi
      go_wp2_with fail
      refine (filled_any base A n c xs wr HN.out (by omega) hr1 HX.out hB).mono ?_
      rintro e w1 ⟨rfl, hset1, hb1⟩
      have hri1 : Ri .u32 w1 w1.heap.size A' zs := (hri.below hb1).more hb1.size
      have hbel1 := below_then hbel (Nat.le_refl _) hb1
      have hsz1 : wr.heap.size + 1 < w1.heap.size := hset1.blk.lt
      go_wp2_with fail
      refine (filled_any other A' m c' zs w1 HL.out (by omega) hri1 HZB.out hO).mono ?_
      rintro e w2 ⟨rfl, hset2, hb2⟩
      rw [HZX.out] at hset2
      have hset1 := hset1.below hb2
      have hbel2 := below_then hbel1 (Nat.le_refl _) hb2
      obtain ⟨f, hf⟩ : ∃ f, f = inB xs := ⟨_, rfl⟩
      rw [← hf] at hset1 hset2
      have hw : Win f := hset1.win
      obtain ⟨N1, hN1⟩ : ∃ N1, N1 = wr.heap.size := ⟨_, rfl⟩
      obtain ⟨N2, hN2⟩ : ∃ N2, N2 = w1.heap.size := ⟨_, rfl⟩
      have hN1w : w.heap.size ≤ N1 := by rw [hN1]; exact hbel.size
      rw [← hN1] at hset1 hsz1 ⊢
      rw [← hN2] at hset2 hsz1 ⊢
      clear hf hN1 hN2 hb1 hb2 hri hri1 hbel1 hr1 hbel hr
      have hl4 := runs_len f (win_zero hw) 4096
      obtain ⟨l, hl⟩ : ∃ l, l = (runsTo f 4096).length := ⟨_, rfl⟩
      rw [← hl] at hl4
      have HL4 := Lib.hid hl
      clear hl
      go_wp2_with fail
      refine (gaps_any 4096 hset1 (by omega)).mono ?_
      rintro e w3 ⟨v, rfl, hog, hb⟩
      rw [gaps_all hw] at hog
      obtain ⟨A3, c3, rfl, _, _, hrg3⟩ := hog.form
      rw [← HL4.out]
      have hset1 := hset1.below hb
      have hset2 := hset2.below hb
      have hbel3 := below_then hbel2 (Nat.le_refl _) hb
      clear hog hb hbel2
      go_wp2_with fail
      refine (gaps_any 4096 hset2 (by omega)).mono ?_
      rintro e w4 ⟨v, rfl, hog, hb⟩
      rw [gaps_all hw] at hog
      obtain ⟨A4, c4, rfl, _, _, hrg4⟩ := hog.form
      rw [← HL4.out]
      have hset1 := hset1.below hb
      have hset2 := hset2.below hb
      have hbel4 := below_then hbel3 (Nat.le_refl _) hb
      have hrg3 := hrg3.tw (Tw.of_below hb []) (by simp) (Nat.le_refl _)
      clear hog hb hbel3
      go_wp2_with fail
      refine (same_any A3 A4 l c3 c4 _ _ _ _ _ w4 HL4.out.symm hl4 hrg3 hrg4).mono ?_
      rintro e w5 ⟨rfl, q, rfl⟩
      have hset1 := hset1.drewN q
      have hset2 := hset2.drewN q
      have hbel5 := below_drewN hbel4 q
      obtain ⟨w5, hw5⟩ : ∃ w5, w5 = w4.drewN q := ⟨_, rfl⟩
      rw [← hw5] at hset1 hset2 hbel5 ⊢
      clear hw5 hrg3 hrg4 hbel4
      go_wp2_with fail
      refine (count_any hset1).mono ?_
      rintro e w6 ⟨rfl, rfl⟩
      go_wp2_with fail
      refine (count_any hset2).mono ?_
      rintro e w6 ⟨rfl, rfl⟩
      go_wp2_with fail
      refine (last_any hset1).mono ?_
      rintro e w6 ⟨rfl, hb⟩
      have hset1 := hset1.below hb
      have hset2 := hset2.below hb
      have hbel6 := below_then hbel5 (Nat.le_refl _) hb
      have hll := lst_le (f := f) 4096
      obtain ⟨p1, hp1, hp1'⟩ : ∃ p : Int, (base + (lst f 4096 : Nat)) % 4294967296 = p ∧ (p - base) % 4294967296 = (lst f 4096 : Nat) := ⟨_, rfl, by omega⟩
      rw [hp1]
      clear hp1 hb hbel5
      go_wp2_with fail
      refine (last_any hset2).mono ?_
      rintro e w7 ⟨rfl, hb⟩
      have hset1 := hset1.below hb
      have hset2 := hset2.below hb
      have hbel7 := below_then hbel6 (Nat.le_refl _) hb
      obtain ⟨p2, hp2, hp2'⟩ : ∃ p : Int, (other + (lst f 4096 : Nat)) % 4294967296 = p ∧ (p - other) % 4294967296 = (lst f 4096 : Nat) := ⟨_, rfl, by omega⟩
      rw [hp2]
      clear hp2 hb hbel6
      go_wp2_with fail
      clear hp1' hp2'
      refine (settle_any hset1).mono ?_
      rintro e w8 ⟨rfl, hset1, htw⟩
      have hset2 := hset2.tw htw (by simp; omega) (by simp; omega)
      have hbel8 := hbel7.trans (htw.below (B := w.heap.size) (by simp; omega) hbel7.size)
      clear htw hbel7
      go_wp2_with fail
      refine (settle_any hset2).mono ?_
      rintro e w9 ⟨rfl, hset2, htw⟩
      have hset1 := hset1.tw htw (by simp; omega) (by simp; omega)
      have hbel9 := hbel8.trans (htw.below (B := w.heap.size) (by simp; omega) hbel8.size)
      obtain ⟨f', hf'⟩ : ∃ f', f' = shF f (rnl f) := ⟨_, rfl⟩
      rw [← hf'] at hset1 hset2
      have hw' : Win f' := hset1.win
      have hl4' := runs_len f' (win_zero hw') 4096
      obtain ⟨l', hl'⟩ : ∃ l, l = (runsTo f' 4096).length := ⟨_, rfl⟩
      rw [← hl'] at hl4'
      have HL5 := Lib.hid hl'
      clear htw hbel8 hf' hl'
      go_wp2_with fail
      refine (gaps_any 4096 hset1 (by omega)).mono ?_
      rintro e w10 ⟨v, rfl, hog, hb⟩
      rw [gaps_all hw'] at hog
      obtain ⟨A5, c5, rfl, _, _, hrg5⟩ := hog.form
      rw [← HL5.out]
      have hset2 := hset2.below hb
      have hbel10 := below_then hbel9 (Nat.le_refl _) hb
      clear hog hb hbel9
      go_wp2_with fail
      refine (gaps_any 4096 hset2 (by omega)).mono ?_
      rintro e w11 ⟨v, rfl, hog, hb⟩
      rw [gaps_all hw'] at hog
      obtain ⟨A6, c6, rfl, _, _, hrg6⟩ := hog.form
      rw [← HL5.out]
      have hbel11 := below_then hbel10 (Nat.le_refl _) hb
      have hrg5 := hrg5.tw (Tw.of_below hb []) (by simp) (Nat.le_refl _)
      clear hog hb hbel10
      go_wp2_with fail
      refine (same_any A5 A6 l' c5 c6 _ _ _ _ _ w11 HL5.out.symm hl4' hrg5 hrg6).mono ?_
      rintro e w12 ⟨rfl, q', rfl⟩
      go_wp2_with fail
      refine (works_any _).mono ?_
      rintro e w13 ⟨rfl, hb⟩
      go_wp2_with fail
      go_ret
      exact ⟨rfl, below_then (below_drewN hbel11 q') (Nat.le_refl _) hb⟩
end Go.Proofs.Ytmalmpdopifadaa
