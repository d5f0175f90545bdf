/-
  Package rto: RtoBounds, walked; a slice of things done.
-/
import Derived.Test.YthmilceapnaepaaRtL4
import Derived.Test.YthmilceapnaepaaFrameR
namespace Go.Proofs.Ythmilceapnaepaa
open Go.RowKit
set_option linter.unusedVariables false

/-- A slice of things done that came in. -/
def Rop (w : World) (B : Nat) (A : Option Addr) (L : List (Bool × Int)) : Prop :=
  L = [] ∨ ∃ b o, A = some ⟨b, o, none⟩ ∧ b < B ∧ ∀ k (hk : k < L.length), w.cell? ⟨b, o + k * 2, none⟩ = some (.bool L[k].1) ∧ w.cell? ⟨b, o + k * 2 + 1, none⟩ = some (.int .i64 L[k].2)
def OpRow (row : List Value) : Prop := (∃ b, row[0]? = some (.bool b)) ∧ (∃ x, row[1]? = some (.int .i64 x) ∧ (Lit.int .i64 x).wf = true)
def boolOf : Value → Bool
  | .bool b => b
  | _ => false
theorem rop_of {w : World} {A : Option Addr} {rows : List (List Value)} (hr : Rows_ w w.heap.size A 2 rows) (hf : ∀ row ∈ rows, OpRow row) : ∃ L : List (Bool × Int), L.length = rows.length ∧ Rop w w.heap.size A L := by
  refine ⟨rows.map fun r => (boolOf (r.getD 0 undef), intOf (r.getD 1 undef)), by simp, ?_⟩
  rcases hr with h | ⟨b, o, ha, hl, hc⟩
  · subst h; exact .inl rfl
  · refine .inr ⟨b, o, ha, hl, fun k hk => ?_⟩
    have hk' : k < rows.length := by simpa using hk
    obtain ⟨⟨x, e0⟩, ⟨y, e1, _⟩⟩ := hf _ (List.getElem_mem hk')
    have hcc := hc k _ (List.getElem?_eq_getElem hk')
    have h0 := hcc 0 (by omega)
    have h1 := hcc 1 (by omega)
    rw [e0] at h0
    rw [e1] at h1
    rw [List.getElem_map]
    have g0 : (rows[k].getD 0 undef) = .bool x := by rw [List.getD_eq_getElem?_getD, e0]; rfl
    have g1 : (rows[k].getD 1 undef) = .int .i64 y := by rw [List.getD_eq_getElem?_getD, e1]; rfl
    rw [g0, g1]
    exact ⟨h0, h1⟩
theorem Rop.at_ {w : World} {B : Nat} {A : Option Addr} {L : List (Bool × Int)} (h : Rop w B A L) (k : Nat) (hk : k < L.length) : ∃ b o, A = some ⟨b, o, none⟩ ∧ b < B ∧ w.cell? ⟨b, o + k * 2, none⟩ = some (.bool L[k].1) ∧ w.cell? ⟨b, o + k * 2 + 1, none⟩ = some (.int .i64 L[k].2) := by
  rcases h with h | ⟨b, o, ha, hl, hc⟩
  · subst h; cases hk
  · exact ⟨b, o, ha, hl, hc k hk⟩

set_option maxRecDepth 100000 in
set_option maxHeartbeats 4000000 in
theorem rtoBounds_no (f l m : Int) (A : Option Addr) (n c : Nat) (w : World) (hn : ¬ newOk f l m) : Calls Try.prog 4 #[.int .i64 f, .int .i64 l, .int .i64 m, .slice A n c] w fun e w' => e = .returned (.bool true) ∧ Below w.heap.size w w' := by
  go_enter Try.func4, Try.ntmps4
  go_wp2_with fail
  refine (codeNew_no f l m w hn).mono ?_
  rintro e w1 ⟨rfl, rfl⟩
  go_wp2_with fail
  refine (works_any w1).mono ?_
  rintro e w8 ⟨rfl, hb8⟩
  go_wp2_with fail
  go_ret
  exact ⟨rfl, hb8⟩
set_option maxRecDepth 100000 in
set_option maxHeartbeats 4000000 in
theorem rtoBounds_big (f l m : Int) (A : Option Addr) (n c : Nat) (w : World) (h : newOk f l m) (hb : 500 < n) (hm : n ≤ maxLen) : Calls Try.prog 4 #[.int .i64 f, .int .i64 l, .int .i64 m, .slice A n c] w fun e w' => e = .returned (.bool true) ∧ Below w.heap.size w w' := by
  have HN := Lib.hid h
  unfold maxLen at hm
  clear h
  go_enter Try.func4, Try.ntmps4
  go_wp2_with fail
  refine (codeNew f l m w HN.out).mono ?_
  rintro e w1 ⟨rfl, K1, B1⟩
  obtain ⟨g, hg⟩ : ∃ g, g = w.heap.size := ⟨_, rfl⟩
  rw [← hg] at K1 ⊢
  have HG : Hid (∀ k ∈ [g], w.heap.size ≤ k) := Lib.hid (by simp; omega)
  have HB := Lib.hid B1
  have K0 := Lib.hid K1
  clear hg K1 B1
  go_wp2_with fail
  refine (works_any w1).mono ?_
  rintro e w8 ⟨rfl, hb8⟩
  go_wp2_with fail
  go_ret
  exact ⟨rfl, below_then HB.out (Nat.le_refl _) hb8⟩
set_option maxRecDepth 100000 in
set_option maxHeartbeats 4000000 in
theorem rtoBounds_yes (f l m : Int) (A : Option Addr) (n c : Nat) (L : List (Bool × Int)) (w : World) (h : newOk f l m) (hb : n ≤ 500) (hn : L.length = n) (hr : Rop w w.heap.size A L) : Calls Try.prog 4 #[.int .i64 f, .int .i64 l, .int .i64 m, .slice A n c] w fun e w' => e = .returned (.bool true) ∧ Below w.heap.size w w' := by
  have HN := Lib.hid h
  have HE0 := Lib.hid (Est.new h)
  have l1 : 1 ≤ l := h.1
  have lm : l ≤ m := by have := h.2.1; have := h.2.2.1; omega
  have mm : m ≤ 1048576 := h.2.2.2
  have HL := Lib.hid hn
  clear h hn
  go_enter Try.func4, Try.ntmps4
  go_wp2_with fail
  refine (codeNew f l m w HN.out).mono ?_
  rintro e w1 ⟨rfl, K1, B1⟩
  obtain ⟨g, hg⟩ : ∃ g, g = w.heap.size := ⟨_, rfl⟩
  rw [← hg] at K1 ⊢
  have HG : Hid (∀ k ∈ [g], w.heap.size ≤ k) := Lib.hid (by simp; omega)
  have HB := Lib.hid B1
  have K0 := Lib.hid K1
  clear hg K1 B1
  go_wp2_with fail
  go_loopw [11, 12, 13, 14] (fun i _ _ _ wr => ∃ (k : Nat) (r : Re), k ≤ n ∧ i = .int .i64 k ∧ Hid (Est r l m) ∧ Hid (Blk wr g 44 #[.int .i64 r.x, .int .i64 r.l, .int .i64 r.m, .bool r.any, .int .i64 r.s, .int .i64 r.v]) ∧ Hid (Below w.heap.size w wr)) (fun i _ _ _ _ => n - (intOf i).toNat)
  case atStart => exact ⟨0, _, by omega, by go_num, HE0, K0, HB⟩
  case round =>
    clear K0 HB HE0
    obtain ⟨k, r, hk, rfl, HE, K0, HB⟩ := hrel
    by_cases hkn : k < n
    · obtain ⟨b, q, rfl, hbl, c0, c1⟩ := hr.at_ k (by rw [HL.out]; exact hkn)
      obtain ⟨p, hp⟩ : ∃ x, x = (L[k]'(by rw [HL.out]; exact hkn)).1 := ⟨_, rfl⟩
      obtain ⟨t, ht⟩ : ∃ x, x = (L[k]'(by rw [HL.out]; exact hkn)).2 := ⟨_, rfl⟩
      rw [← hp] at c0
      rw [← ht] at c1
      have c0 : wr.cell? ⟨b, q + k * 2, none⟩ = some (.bool p) := (HB.out.cell hbl).trans c0
      have c1 : wr.cell? ⟨b, q + k * 2 + 1, none⟩ = some (.int .i64 t) := (HB.out.cell hbl).trans c1
      clear hp ht hr
      obtain ⟨x, hx⟩ : ∃ x, r.x = x := ⟨_, rfl⟩
      have HX := Lib.hid hx
      have xl : l ≤ x := by rw [← hx]; exact HE.out.ge
      have xm : x ≤ m := by rw [← hx]; exact HE.out.le
      clear hx
      cases p
      · skip
        go_wp2_with fail
        refine (codeValueN r x HX.out g wr K0.out).mono ?_
        rintro e w2 ⟨rfl, rfl⟩
        by_cases t0 : t < 0
        · go_wp2_with fail
          refine (codeSample_neg t g w2 t0).mono ?_
          rintro e w3 ⟨rfl, rfl⟩
          have HS := Lib.hid (codeSmooth r g w3 HE.out.ok.s0 HE.out.ok.s1 K0.out)
          obtain ⟨sv, hsv⟩ : ∃ sv, sv = (if r.any then r.s / 8 else 0) := ⟨_, rfl⟩
          rw [← hsv] at HS
          obtain ⟨av, hav⟩ : ∃ av, av = r.any := ⟨_, rfl⟩
          rw [← hav] at HS
          clear hsv hav
          go_wp2_with fail
          refine HS.out.mono ?_
          rintro e w4 ⟨rfl, rfl⟩
          clear HS
          go_wp2_with fail
          refine (codeValueN r x HX.out g w4 K0.out).mono ?_
          rintro e w5 ⟨rfl, rfl⟩
          go_wp2_with fail
          refine (codeValueN r x HX.out g w5 K0.out).mono ?_
          rintro e w6 ⟨rfl, rfl⟩
          go_wp2_with fail
          go_roundw
          case rel => exact ⟨k + 1, _, by omega, by go_num, HE, K0, HB⟩
          case measure => simp [intOf]; omega
        · have t0' : 0 ≤ t := by omega
          go_wp2_with fail
          refine (codeSample r t g w2 HE.out.ok t0' K0.out).mono ?_
          rintro e w3 ⟨rfl, k2, t2⟩
          have c1 : w3.cell? ⟨b, q + k * 2 + 1, none⟩ = some (.int .i64 t) := ((tw_below HB.out t2 HG.out (Nat.le_refl _)).cell hbl).trans ((HB.out.cell hbl).symm.trans c1)
          have HB := Lib.hid (tw_below HB.out t2 HG.out (Nat.le_refl _))
          have HE2 := Lib.hid (HE.out.smp t0')
          have hmx := smp_x HE.out.ok t0'
          have K0 : Hid (Blk w3 g 44 #[.int .i64 (r.smp t).x, .int .i64 (r.smp t).l, .int .i64 (r.smp t).m, .bool (r.smp t).any, .int .i64 (r.smp t).s, .int .i64 (r.smp t).v]) := Lib.hid k2
          obtain ⟨y, hy⟩ : ∃ y, (r.smp t).x = y := ⟨_, rfl⟩
          obtain ⟨s, hs⟩ : ∃ s, (r.smp t).s / 8 = s := ⟨_, rfl⟩
          rw [hy, hs, HE.out.m_] at hmx
          have HY := Lib.hid hy
          have HS := Lib.hid hs
          have yl : l ≤ y := by rw [← hy]; exact HE2.out.ge
          have ym : y ≤ m := by rw [← hy]; exact HE2.out.le
          have s0 : 0 ≤ s := by rw [← hs]; have := HE2.out.ok.s0; omega
          have s1 : s ≤ 1048576 := by rw [← hs]; have := HE2.out.ok.s1; omega
          clear k2 t2 HE hy hs c0
          go_wp2_with fail
          refine (codeSmoothN _ s HE2.out.ok.s0 HE2.out.ok.s1 smp_any HS.out g w3 K0.out).mono ?_
          rintro e w4 ⟨rfl, rfl⟩
          by_cases hsm : s ≤ m
          · have hys : s ≤ y := by omega
            clear hmx
            go_wp2_with fail
            refine (codeValueN (r.smp t) y HY.out g w4 K0.out).mono ?_
            rintro e w5 ⟨rfl, rfl⟩
            go_wp2_with fail
            refine (codeValueN (r.smp t) y HY.out g w5 K0.out).mono ?_
            rintro e w6 ⟨rfl, rfl⟩
            go_wp2_with fail
            refine (codeValueN (r.smp t) y HY.out g w6 K0.out).mono ?_
            rintro e w7 ⟨rfl, rfl⟩
            go_wp2_with fail
            go_roundw
            case rel => exact ⟨k + 1, _, by omega, by go_num, HE2, K0, HB⟩
            case measure => simp [intOf]; omega
          · have hys : m ≤ y := by omega
            clear hmx
            go_wp2_with fail
            refine (codeValueN (r.smp t) y HY.out g w4 K0.out).mono ?_
            rintro e w5 ⟨rfl, rfl⟩
            go_wp2_with fail
            refine (codeValueN (r.smp t) y HY.out g w5 K0.out).mono ?_
            rintro e w6 ⟨rfl, rfl⟩
            go_wp2_with fail
            refine (codeValueN (r.smp t) y HY.out g w6 K0.out).mono ?_
            rintro e w7 ⟨rfl, rfl⟩
            go_wp2_with fail
            go_roundw
            case rel => exact ⟨k + 1, _, by omega, by go_num, HE2, K0, HB⟩
            case measure => simp [intOf]; omega
      · skip
        go_wp2_with fail
        refine (codeValueN r x HX.out g wr K0.out).mono ?_
        rintro e w2 ⟨rfl, rfl⟩
        go_wp2_with fail
        refine (codeBack r g w2 HE.out.ok K0.out).mono ?_
        rintro e w3 ⟨rfl, k2, t2⟩
        have HB := Lib.hid (tw_below HB.out t2 HG.out (Nat.le_refl _))
        have HE2 := Lib.hid HE.out.back
        have K0 : Hid (Blk w3 g 44 #[.int .i64 r.back.x, .int .i64 r.back.l, .int .i64 r.back.m, .bool r.back.any, .int .i64 r.back.s, .int .i64 r.back.v]) := Lib.hid k2
        obtain ⟨yx, y2, yd⟩ := back_x HE.out.ok
        rw [HX.out] at yx y2 yd
        rw [HE.out.m_] at yd
        obtain ⟨y, hy⟩ : ∃ y, r.back.x = y := ⟨_, rfl⟩
        rw [hy] at yx y2 yd
        have HY := Lib.hid hy
        have yl : l ≤ y := by rw [← hy]; exact HE2.out.ge
        have ym : y ≤ m := by rw [← hy]; exact HE2.out.le
        clear k2 t2 HE hy c0 c1
        by_cases hy : y = 2 * x
        · obtain ⟨hv, h2⟩ : r.back.x = 2 * x ∧ (2 * x ≤ m ∧ l ≤ 2 * x) := ⟨by rw [HY.out, hy], by omega⟩
          have HV := Lib.hid hv
          clear hv hy yx y2 yd yl ym
          go_wp2_with fail
          refine (codeValueN r.back (2 * x) HV.out g w3 K0.out).mono ?_
          rintro e w4 ⟨rfl, rfl⟩
          go_wp2_with fail
          refine (codeValueN r.back (2 * x) HV.out g w4 K0.out).mono ?_
          rintro e w5 ⟨rfl, rfl⟩
          go_wp2_with fail
          refine (codeValueN r.back (2 * x) HV.out g w5 K0.out).mono ?_
          rintro e w6 ⟨rfl, rfl⟩
          go_wp2_with fail
          refine (codeValueN r.back (2 * x) HV.out g w6 K0.out).mono ?_
          rintro e w7 ⟨rfl, rfl⟩
          go_wp2_with fail
          refine (codeValueN r.back (2 * x) HV.out g w7 K0.out).mono ?_
          rintro e w9 ⟨rfl, rfl⟩
          go_wp2_with fail
          go_roundw
          case rel => exact ⟨k + 1, _, by omega, by go_num, HE2, K0, HB⟩
          case measure => simp [intOf]; omega
        · obtain ⟨hv, h2⟩ : r.back.x = m ∧ x ≤ m ∧ m < 2 * x := ⟨by rw [HY.out]; omega, by omega, by omega⟩
          obtain ⟨h3, h4⟩ := h2
          have HV := Lib.hid hv
          clear hv hy yx y2 yd yl ym
          go_wp2_with fail
          refine (codeValueN r.back m HV.out g w3 K0.out).mono ?_
          rintro e w4 ⟨rfl, rfl⟩
          go_wp2_with fail
          refine (codeValueN r.back m HV.out g w4 K0.out).mono ?_
          rintro e w5 ⟨rfl, rfl⟩
          go_wp2_with fail
          refine (codeValueN r.back m HV.out g w5 K0.out).mono ?_
          rintro e w6 ⟨rfl, rfl⟩
          go_wp2_with fail
          refine (codeValueN r.back m HV.out g w6 K0.out).mono ?_
          rintro e w7 ⟨rfl, rfl⟩
          go_wp2_with fail
          refine (codeValueN r.back m HV.out g w7 K0.out).mono ?_
          rintro e w9 ⟨rfl, rfl⟩
          go_wp2_with fail
          refine (codeValueN r.back m HV.out g w9 K0.out).mono ?_
          rintro e w10 ⟨rfl, rfl⟩
          go_wp2_with fail
          go_roundw
          case rel => exact ⟨k + 1, _, by omega, by go_num, HE2, K0, HB⟩
          case measure => simp [intOf]; omega
    · obtain rfl : k = n := by omega
      clear hkn
      go_wp2_with fail
      refine (works_any wr).mono ?_
      rintro e w8 ⟨rfl, hb8⟩
      go_wp2_with fail
      go_ret
      exact ⟨rfl, below_then HB.out (Nat.le_refl _) hb8⟩
theorem rtoBounds_walk (f l m : Int) (A : Option Addr) (n c : Nat) (rows : List (List Value)) (w : World) (h1 : (Lit.int .i64 f).wf = true) (h2 : (Lit.int .i64 l).wf = true) (h3 : (Lit.int .i64 m).wf = true) (h4 : n ≤ c) (h5 : c ≤ maxLen) (h6 : rows.length = n) (h7 : Rows_ w w.heap.size A 2 rows) (h8 : ∀ row ∈ rows, OpRow row) : Calls Try.prog 4 #[.int .i64 f, .int .i64 l, .int .i64 m, .slice A n c] w fun e w' => e = .returned (.bool true) ∧ Below w.heap.size w w' := by
  by_cases h : newOk f l m
  · by_cases hb : 500 < n
    · exact rtoBounds_big f l m A n c w h hb (Nat.le_trans h4 h5)
    · obtain ⟨L, hl, hL⟩ := rop_of h7 h8
      exact rtoBounds_yes f l m A n c L w h (by omega) (by omega) hL
  · exact rtoBounds_no f l m A n c w h
end Go.Proofs.Ythmilceapnaepaa
