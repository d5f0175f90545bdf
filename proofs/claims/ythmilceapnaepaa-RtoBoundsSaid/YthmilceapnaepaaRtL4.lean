/-
  Package rto: RtoLater, walked.
-/
import Derived.Test.YthmilceapnaepaaRtL1
namespace Go.Proofs.Ythmilceapnaepaa
open Go.RowKit
set_option linter.unusedVariables false

/-- All samples were 0: nothing is smoothed. -/
structure Zer (r : Re) (l m : Int) : Prop where
  ok : r.Ok
  l_ : r.l = l
  m_ : r.m = m
  s_ : r.s = 0
  v_ : r.v = 0
theorem Zer.new {f l m : Int} (h : newOk f l m) : Zer (new f l m) l m := ⟨h.ok, rfl, rfl, rfl, rfl⟩
theorem Zer.take {r : Re} {l m : Int} (h : Zer r l m) : (r.take 0).s = 0 ∧ (r.take 0).v = 0 := by
  unfold Re.take
  by_cases ha : r.any = true
  · rw [if_pos ha]
    show r.s - r.s / 8 + 0 = 0 ∧ r.v - r.v / 4 + off r.s 0 = 0
    rw [h.s_, h.v_]
    exact ⟨by decide, by decide⟩
  · rw [if_neg ha]
    exact ⟨rfl, rfl⟩
theorem Zer.smp {r : Re} {l m : Int} (h : Zer r l m) : Zer (r.smp 0) l m :=
  ⟨h.ok.smp (Int.le_refl _), smp_l.trans h.l_, smp_m.trans h.m_, h.take.1, h.take.2⟩
theorem Zer.smp_x {r : Re} {l m : Int} (h : Zer r l m) : (r.smp 0).x = l := by
  have h1 := h.ok.l1
  have h2 := h.ok.lm
  show cl ((r.take 0).s / 8 + max 1 (r.take 0).v) (r.take 0).l (r.take 0).m = l
  rw [h.take.1, h.take.2, take_l, take_m, h.l_, h.m_]
  rw [h.l_] at h1 h2
  rw [h.m_] at h2
  unfold cl
  omega
/-- An estimator and its bounds. -/
structure Est (r : Re) (l m : Int) : Prop where
  ok : r.Ok
  l_ : r.l = l
  m_ : r.m = m
theorem Est.new {f l m : Int} (h : newOk f l m) : Est (new f l m) l m := ⟨h.ok, rfl, rfl⟩
theorem Est.smp {r : Re} {l m t : Int} (h : Est r l m) (t0 : 0 ≤ t) : Est (r.smp t) l m := ⟨h.ok.smp t0, smp_l.trans h.l_, smp_m.trans h.m_⟩
theorem Est.back {r : Re} {l m : Int} (h : Est r l m) : Est r.back l m := ⟨h.ok.back, h.l_, h.m_⟩
theorem Est.ge {r : Re} {l m : Int} (h : Est r l m) : l ≤ r.x := by rw [← h.l_]; exact h.ok.lx
theorem Est.le {r : Re} {l m : Int} (h : Est r l m) : r.x ≤ m := by rw [← h.m_]; exact h.ok.xm

set_option maxRecDepth 100000 in
set_option maxHeartbeats 4000000 in
theorem rtoLater_no (f l m : Int) (A : Option Addr) (n c : Nat) (w : World) (hn : ¬ newOk f l m) : Calls Try.prog 6 #[.int .i64 f, .int .i64 l, .int .i64 m, .slice A n c] w fun e w' => e = .returned (.bool true) ∧ Below w.heap.size w w' := by
  go_enter Try.func6, Try.ntmps6
  go_wp2_with fail
  refine (codeNew_no f l m w hn).mono ?_
  rintro e w1 ⟨rfl, rfl⟩
  go_wp2_with fail
  refine (codeNew_no f l m w1 hn).mono ?_
  rintro e w2 ⟨rfl, rfl⟩
  go_wp2_with fail
  refine (works_any w2).mono ?_
  rintro e w8 ⟨rfl, hb8⟩
  go_wp2_with fail
  go_ret
  exact ⟨rfl, hb8⟩
set_option maxRecDepth 100000 in
set_option maxHeartbeats 4000000 in
theorem rtoLater_big (f l m : Int) (A : Option Addr) (n c : Nat) (w : World) (h : newOk f l m) (hb : 500 < n) (hm : n ≤ maxLen) : Calls Try.prog 6 #[.int .i64 f, .int .i64 l, .int .i64 m, .slice A n c] w fun e w' => e = .returned (.bool true) ∧ Below w.heap.size w w' := by
  have HN := Lib.hid h
  unfold maxLen at hm
  clear h
  go_enter Try.func6, Try.ntmps6
  go_wp2_with fail
  refine (codeNew f l m w HN.out).mono ?_
  rintro e w1 ⟨rfl, K1, B1⟩
  obtain ⟨g, hg⟩ : ∃ g, g = w.heap.size := ⟨_, rfl⟩
  rw [← hg] at K1 ⊢
  have HG : Hid (∀ k ∈ [g], w.heap.size ≤ k) := Lib.hid (by simp; omega)
  have HB := Lib.hid B1
  have K0 := Lib.hid K1
  clear hg K1 B1
  go_wp2_with fail
  refine (codeNew f l m w1 HN.out).mono ?_
  rintro e w2 ⟨rfl, K1, B1⟩
  have gz : g ≠ w1.heap.size := by have := K0.out.lt; omega
  have hz : w.heap.size ≤ w1.heap.size := HB.out.size
  obtain ⟨z, hg⟩ : ∃ g, g = w1.heap.size := ⟨_, rfl⟩
  rw [← hg] at K1 gz hz ⊢
  have HZ : Hid (∀ k ∈ [z], w.heap.size ≤ k) := Lib.hid (by simp; omega)
  have N1 : Hid (g ∉ [z]) := Lib.hid (by simp; omega)
  have N2 : Hid (z ∉ [g]) := Lib.hid (by simp; omega)
  have K0 := Lib.hid (K0.out.below B1 K0.out.lt)
  have HB := Lib.hid (below_then HB.out (Nat.le_refl _) B1)
  have KZ := Lib.hid K1
  clear hg K1 B1 gz hz
  go_wp2_with fail
  refine (works_any w2).mono ?_
  rintro e w8 ⟨rfl, hb8⟩
  go_wp2_with fail
  go_ret
  exact ⟨rfl, below_then HB.out (Nat.le_refl _) hb8⟩
set_option maxRecDepth 100000 in
set_option maxHeartbeats 4000000 in
theorem rtoLater_yes (f l m : Int) (A : Option Addr) (n c : Nat) (xs : List Int) (w : World) (h : newOk f l m) (hb : n ≤ 500) (hn : xs.length = n) (hx : Ri .i64 w w.heap.size A xs) : Calls Try.prog 6 #[.int .i64 f, .int .i64 l, .int .i64 m, .slice A n c] w fun e w' => e = .returned (.bool true) ∧ Below w.heap.size w w' := by
  have HN := Lib.hid h
  have HE0 := Lib.hid (Est.new h)
  have HZ0 := Lib.hid (Zer.new h)
  have l1 : 1 ≤ l := h.1
  have lm : l ≤ m := by have := h.2.1; have := h.2.2.1; omega
  have HL := Lib.hid hn
  clear h hn
  go_enter Try.func6, Try.ntmps6
  go_wp2_with fail
  refine (codeNew f l m w HN.out).mono ?_
  rintro e w1 ⟨rfl, K1, B1⟩
  obtain ⟨g, hg⟩ : ∃ g, g = w.heap.size := ⟨_, rfl⟩
  rw [← hg] at K1 ⊢
  have HG : Hid (∀ k ∈ [g], w.heap.size ≤ k) := Lib.hid (by simp; omega)
  have HB := Lib.hid B1
  have K0 := Lib.hid K1
  clear hg K1 B1
  go_wp2_with fail
  refine (codeNew f l m w1 HN.out).mono ?_
  rintro e w2 ⟨rfl, K1, B1⟩
  have gz : g ≠ w1.heap.size := by have := K0.out.lt; omega
  have hz : w.heap.size ≤ w1.heap.size := HB.out.size
  obtain ⟨z, hg⟩ : ∃ g, g = w1.heap.size := ⟨_, rfl⟩
  rw [← hg] at K1 gz hz ⊢
  have HZ : Hid (∀ k ∈ [z], w.heap.size ≤ k) := Lib.hid (by simp; omega)
  have N1 : Hid (g ∉ [z]) := Lib.hid (by simp; omega)
  have N2 : Hid (z ∉ [g]) := Lib.hid (by simp; omega)
  have K0 := Lib.hid (K0.out.below B1 K0.out.lt)
  have HB := Lib.hid (below_then HB.out (Nat.le_refl _) B1)
  have KZ := Lib.hid K1
  clear hg K1 B1 gz hz
  go_wp2_with fail
  go_loopw [13] (fun i wr => ∃ (k : Nat) (r zz : Re), k ≤ n ∧ i = .int .i64 k ∧ Hid (Est r l m) ∧ Hid (Zer zz l m) ∧ Hid (Blk wr g 44 #[.int .i64 r.x, .int .i64 r.l, .int .i64 r.m, .bool r.any, .int .i64 r.s, .int .i64 r.v]) ∧ Hid (Blk wr z 44 #[.int .i64 zz.x, .int .i64 zz.l, .int .i64 zz.m, .bool zz.any, .int .i64 zz.s, .int .i64 zz.v]) ∧ Hid (Below w.heap.size w wr)) (fun i _ => n - (intOf i).toNat)
  case atStart => exact ⟨0, _, _, by omega, by go_num, HE0, HZ0, K0, KZ, HB⟩
  case round =>
    clear K0 HB HE0 HZ0 KZ
    obtain ⟨k, r, zz, hk, rfl, HE, HZE, K0, KZ, HB⟩ := hrel
    by_cases hkn : k < n
    · obtain ⟨b, q, rfl, hbl, hcx⟩ := hx.at_ (by intro h; have := HL.out; rw [h] at this; simp at this; omega)
      obtain ⟨x, hxx⟩ : ∃ x, x = xs[k]'(by rw [HL.out]; exact hkn) := ⟨_, rfl⟩
      have cx : wr.cell? ⟨b, q + k, none⟩ = some (.int .i64 x) := by rw [hxx]; exact (HB.out.cell hbl).trans (hcx k _)
      clear hcx hxx hx
      by_cases x0 : x < 0
      · go_wp2_with fail
        go_roundw
        case rel => exact ⟨k + 1, _, _, by omega, by go_num, HE, HZE, K0, KZ, HB⟩
        case measure => simp [intOf]; omega
      have x0' : 0 ≤ x := by omega
      go_wp2_with fail
      refine (codeSample r x g wr HE.out.ok x0' K0.out).mono ?_
      rintro e w3 ⟨rfl, k2, t2⟩
      have HB := Lib.hid (tw_below HB.out t2 HG.out (Nat.le_refl _))
      have HE2 := Lib.hid (HE.out.smp x0')
      have K0 : Hid (Blk w3 g 44 #[.int .i64 (r.smp x).x, .int .i64 (r.smp x).l, .int .i64 (r.smp x).m, .bool (r.smp x).any, .int .i64 (r.smp x).s, .int .i64 (r.smp x).v]) := Lib.hid k2
      have KZ := Lib.hid (KZ.out.tw t2 N2.out)
      clear k2 t2 HE cx x0 x0'
      go_wp2_with fail
      refine (codeSample zz 0 z w3 HZE.out.ok (Int.le_refl _) KZ.out).mono ?_
      rintro e w4 ⟨rfl, k2, t2⟩
      have HB := Lib.hid (tw_below HB.out t2 HZ.out (Nat.le_refl _))
      have HZ2 := Lib.hid HZE.out.smp
      have HZX := Lib.hid HZE.out.smp_x
      have K0 := Lib.hid (K0.out.tw t2 N1.out)
      have KZ : Hid (Blk w4 z 44 #[.int .i64 (zz.smp 0).x, .int .i64 (zz.smp 0).l, .int .i64 (zz.smp 0).m, .bool (zz.smp 0).any, .int .i64 (zz.smp 0).s, .int .i64 (zz.smp 0).v]) := Lib.hid k2
      clear k2 t2 HZE
      obtain ⟨y, hy⟩ : ∃ y, (r.smp x).x = y := ⟨_, rfl⟩
      have HY := Lib.hid hy
      have yl : l ≤ y := by rw [← hy]; exact HE2.out.ge
      clear hy
      by_cases hl : 1 < l
      · skip
        have hzx : ((zz.smp 0).x) = l := by rw [HZX.out]
        go_wp2_with fail
        refine (codeValueN _ _ hzx z w4 KZ.out).mono ?_
        rintro e w5 ⟨rfl, rfl⟩
        go_wp2_with fail
        refine (codeValueN _ y HY.out g w5 K0.out).mono ?_
        rintro e w6 ⟨rfl, rfl⟩
        go_wp2_with fail
        refine (codeValueN _ _ hzx z w6 KZ.out).mono ?_
        rintro e w7 ⟨rfl, rfl⟩
        clear hzx
        go_wp2_with fail
        go_roundw
        case rel => exact ⟨k + 1, _, _, by omega, by go_num, HE2, HZ2, K0, KZ, HB⟩
        case measure => simp [intOf]; omega
      · skip
        have hzx : ((zz.smp 0).x) = 1 := by rw [HZX.out]; omega
        go_wp2_with fail
        refine (codeValueN _ _ hzx z w4 KZ.out).mono ?_
        rintro e w5 ⟨rfl, rfl⟩
        go_wp2_with fail
        refine (codeValueN _ y HY.out g w5 K0.out).mono ?_
        rintro e w6 ⟨rfl, rfl⟩
        go_wp2_with fail
        refine (codeValueN _ _ hzx z w6 KZ.out).mono ?_
        rintro e w7 ⟨rfl, rfl⟩
        clear hzx
        go_wp2_with fail
        go_roundw
        case rel => exact ⟨k + 1, _, _, by omega, by go_num, HE2, HZ2, K0, KZ, HB⟩
        case measure => simp [intOf]; omega
    · obtain rfl : k = n := by omega
      clear hkn
      go_wp2_with fail
      refine (works_any wr).mono ?_
      rintro e w8 ⟨rfl, hb8⟩
      go_wp2_with fail
      go_ret
      exact ⟨rfl, below_then HB.out (Nat.le_refl _) hb8⟩
theorem rtoLater_walk (f l m : Int) (A : Option Addr) (n c : Nat) (xs : List Int) (w : World) (h1 : (Lit.int .i64 f).wf = true) (h2 : (Lit.int .i64 l).wf = true) (h3 : (Lit.int .i64 m).wf = true) (h4 : n ≤ c) (h5 : c ≤ maxLen) (h6 : xs.length = n) (h7 : Ri .i64 w w.heap.size A xs) (h8 : ∀ x ∈ xs, (Lit.int .i64 x).wf = true) : Calls Try.prog 6 #[.int .i64 f, .int .i64 l, .int .i64 m, .slice A n c] w fun e w' => e = .returned (.bool true) ∧ Below w.heap.size w w' := by
  by_cases h : newOk f l m
  · by_cases hb : 500 < n
    · exact rtoLater_big f l m A n c w h hb (Nat.le_trans h4 h5)
    · exact rtoLater_yes f l m A n c xs w h (by omega) h6 h7
  · exact rtoLater_no f l m A n c w h
end Go.Proofs.Ythmilceapnaepaa
