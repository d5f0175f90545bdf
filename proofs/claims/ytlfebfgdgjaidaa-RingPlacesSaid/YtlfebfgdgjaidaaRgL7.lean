/-
  Layer 5 (ring): RingPlaces, walked.
-/
import Derived.Test.YtlfebfgdgjaidaaRgPA
import Derived.Test.YtlfebfgdgjaidaaRgW
import Derived.Test.YtlfebfgdgjaidaaFrameR
namespace Go.Proofs.Ytlfebfgdgjaidaa
open Go.RowKit
set_option linter.unusedVariables false

/-- A ring of skips all of whose blocks are the call's own (B and above), in a world that has come from w0. -/
structure RgP (w0 w : World) (B g most : Nat) (q : List (Int × Int)) : Prop where
  ring : ∃ c A m n f ys, RingP w g c A m most n f ys q q.length ∧ B ≤ c ∧ B ≤ m
  base : B ≤ g
  below : Below B w0 w
  size : B ≤ w0.heap.size
section
variable {w0 w w' : World} {B g most : Nat} {q : List (Int × Int)}
theorem RgP.bel (h : RgP w0 w B g most q) (hb : Below w.heap.size w w') : RgP w0 w' B g most q := by
  obtain ⟨⟨c, A, m, n, f, ys, hr, hc, hm⟩, h1, h2, h3⟩ := h
  exact ⟨⟨c, A, m, n, f, ys, hr.below hb, hc, hm⟩, h1, below_then h2 h3 hb, h3⟩
theorem rgP_new (most : Nat) (hb : Below B w0 w) (hB : B ≤ w0.heap.size) (hm : 1 ≤ most ∧ most ≤ 1048576) :
    Calls Try.prog 27 #[.int .i64 (most : Nat)] w fun e w' => ∃ g, e = .returned (.tuple #[.pointer (some ⟨g, 0, none⟩), .int .i64 0]) ∧ RgP w0 w' B g most [] := by
  refine (newP_any most w hm).mono ?_
  rintro e w' ⟨rfl, h, hb'⟩
  have hs := hb.size
  exact ⟨_, rfl, ⟨_, _, _, _, _, _, h, by omega, by omega⟩, by omega, below_then hb hB hb', hB⟩
theorem RgP.len (h : RgP w0 w B g most q) : Calls Try.prog 30 #[.pointer (some ⟨g, 0, none⟩)] w fun e w' => e = .returned (.int .i64 (q.length : Nat)) ∧ w = w' := by
  obtain ⟨c, A, m, n, f, ys, hr, hc, hm⟩ := h.ring
  exact lenP_any hr
theorem RgP.push (x : Int × Int) (h : RgP w0 w B g most q) (hq : q.length < most) :
    Calls Try.prog 28 #[.pointer (some ⟨g, 0, none⟩), .agg #[.int .u16 x.1, .int .u16 x.2]] w fun e w' => e = .returned (.bool true) ∧ RgP w0 w' B g most (q ++ [x]) := by
  obtain ⟨⟨c, A, m, n, f, ys, hr, hc, hm⟩, h1, h2, h3⟩ := h
  refine (pushP_room x hr hq).mono ?_
  rintro e w' ⟨rfl, A', m', n', f', ys', hr', hm', ht⟩
  have hs := h2.size
  exact ⟨rfl, ⟨c, A', m', n', f', ys', hr', hc, by omega⟩, h1, tw_below h2 ht (by simp; omega) h3, h3⟩
theorem RgP.full (x : Int × Int) (h : RgP w0 w B g most q) (hq : q.length = most) :
    Calls Try.prog 28 #[.pointer (some ⟨g, 0, none⟩), .agg #[.int .u16 x.1, .int .u16 x.2]] w fun e w' => e = .returned (.bool false) ∧ RgP w0 w' B g most q := by
  obtain ⟨c, A, m, n, f, ys, hr, hc, hm⟩ := h.ring
  refine (pushP_full x hr hq).mono ?_
  rintro e w' ⟨rfl, hb⟩
  exact ⟨rfl, h.bel hb⟩
theorem RgP.at_ (i : Nat) (h : RgP w0 w B g most q) (hi : i < q.length) :
    Calls Try.prog 29 #[.pointer (some ⟨g, 0, none⟩), .int .i64 (i : Nat)] w fun e w' => e = .returned (.tuple #[.agg #[.int .u16 q[i].1, .int .u16 q[i].2], .bool true]) ∧ RgP w0 w' B g most q := by
  obtain ⟨c, A, m, n, f, ys, hr, hc, hm⟩ := h.ring
  refine (atP_any i hr hi).mono ?_
  rintro e w' ⟨rfl, hb⟩
  exact ⟨rfl, h.bel hb⟩
theorem RgP.no (i : Int) (h : RgP w0 w B g most q) (hi : i < 0 ∨ ((q.length : Nat) : Int) ≤ i) :
    Calls Try.prog 29 #[.pointer (some ⟨g, 0, none⟩), .int .i64 i] w fun e w' => e = .returned (.tuple #[.agg #[.int .u16 0, .int .u16 0], .bool false]) ∧ RgP w0 w' B g most q := by
  obtain ⟨c, A, m, n, f, ys, hr, hc, hm⟩ := h.ring
  refine (atP_no i hr hi).mono ?_
  rintro e w' ⟨rfl, hb⟩
  exact ⟨rfl, h.bel hb⟩
end

/-- A slice of skips that came in. -/
def Rsk (w : World) (B : Nat) (A : Option Addr) (L : List (Int × Int)) : Prop :=
  L = [] ∨ ∃ b o, A = some ⟨b, o, none⟩ ∧ b < B ∧ ∀ k (hk : k < L.length), w.cell? ⟨b, o + k * 2, none⟩ = some (.int .u16 L[k].1) ∧ w.cell? ⟨b, o + k * 2 + 1, none⟩ = some (.int .u16 L[k].2)
def SkipRow (row : List Value) : Prop := (∃ x, row[0]? = some (.int .u16 x) ∧ (Lit.int .u16 x).wf = true) ∧ (∃ x, row[1]? = some (.int .u16 x) ∧ (Lit.int .u16 x).wf = true)
theorem rsk_of {w : World} {A : Option Addr} {rows : List (List Value)} (hr : Rows_ w w.heap.size A 2 rows) (hf : ∀ row ∈ rows, SkipRow row) : ∃ L : List (Int × Int), L.length = rows.length ∧ Rsk w w.heap.size A L := by
  refine ⟨rows.map fun r => (intOf (r.getD 0 undef), intOf (r.getD 1 undef)), by simp, ?_⟩
  rcases hr with h | ⟨b, o, ha, hl, hc⟩
  · subst h; exact .inl rfl
  · refine .inr ⟨b, o, ha, hl, fun k hk => ?_⟩
    have hk' : k < rows.length := by simpa using hk
    obtain ⟨⟨x, e0, _⟩, ⟨y, e1, _⟩⟩ := hf _ (List.getElem_mem hk')
    have hcc := hc k _ (List.getElem?_eq_getElem hk')
    have h0 := hcc 0 (by omega)
    have h1 := hcc 1 (by omega)
    rw [e0] at h0
    rw [e1] at h1
    rw [List.getElem_map]
    have g0 : (rows[k].getD 0 undef) = .int .u16 x := by rw [List.getD_eq_getElem?_getD, e0]; rfl
    have g1 : (rows[k].getD 1 undef) = .int .u16 y := by rw [List.getD_eq_getElem?_getD, e1]; rfl
    rw [g0, g1]
    exact ⟨h0, h1⟩
theorem Rsk.below {w w' : World} {B : Nat} {A : Option Addr} {L : List (Int × Int)} (h : Rsk w B A L) (hb : Below B w w') : Rsk w' B A L := by
  rcases h with h | ⟨b, o, ha, hl, hc⟩
  · exact .inl h
  · have e : ∀ i, w'.cell? ⟨b, i, none⟩ = w.cell? ⟨b, i, none⟩ := fun i => hb.cell (p := ⟨b, i, none⟩) hl
    exact .inr ⟨b, o, ha, hl, fun k hk => ⟨(e _).trans (hc k hk).1, (e _).trans (hc k hk).2⟩⟩
theorem Rsk.at_ {w : World} {B : Nat} {A : Option Addr} {L : List (Int × Int)} (h : Rsk w B A L) (k : Nat) (hk : k < L.length) : ∃ b o, A = some ⟨b, o, none⟩ ∧ b < B ∧ w.cell? ⟨b, o + k * 2, none⟩ = some (.int .u16 L[k].1) ∧ w.cell? ⟨b, o + k * 2 + 1, none⟩ = some (.int .u16 L[k].2) := by
  rcases h with h | ⟨b, o, ha, hl, hc⟩
  · subst h; simp at hk
  · exact ⟨b, o, ha, hl, hc k hk⟩

set_option maxRecDepth 100000 in
set_option maxHeartbeats 1600000 in
theorem ringPlaces_big (a : Int) (A : Option Addr) (n c : Nat) (i : Int) (w : World) (ha : 0 ≤ a ∧ a ≤ 255) (h : 300 < n) (hm : n ≤ maxLen) :
    Calls Try.prog 5 #[.int .u8 a, .slice A n c, .int .i64 i] w fun e w' => e = .returned (.bool true) ∧ Below w.heap.size w w' := by
  unfold maxLen at hm
  obtain ⟨M, hM⟩ : ∃ M : Nat, (M : Int) = 1 + a := ⟨(1 + a).toNat, by omega⟩
  have d1 : decide ((300 : Int) < (n : Int)) = true := decide_eq_true (by omega)
  have hM1 : 1 ≤ M ∧ M ≤ 1048576 := by omega
  have HM := Lib.hid hM
  clear hM
  go_enter Try.func5, Try.ntmps5
  go_wp2_with fail
  rw [← HM.out]
  refine (rgP_new M (Below.refl w.heap.size w) (Nat.le_refl _) hM1).mono ?_
  rintro e w1 ⟨g, rfl, h1⟩
  go_wp2_with fail
  refine (works_any w1).mono ?_
  rintro e w2 ⟨rfl, hb2⟩
  go_wp2_with fail
  go_ret
  exact ⟨rfl, below_then h1.below (Nat.le_refl _) hb2⟩

set_option maxRecDepth 100000 in
set_option maxHeartbeats 6400000 in
theorem ringPlaces_small (a : Int) (A : Option Addr) (n c : Nat) (i : Int) (L : List (Int × Int)) (w : World) (ha : 0 ≤ a ∧ a ≤ 255) (hn : L.length = n) (h : n ≤ 300) (hr : Rsk w w.heap.size A L) (lo : -9223372036854775808 ≤ i) (hi : i ≤ 9223372036854775807) :
    Calls Try.prog 5 #[.int .u8 a, .slice A n c, .int .i64 i] w fun e w' => e = .returned (.bool true) ∧ Below w.heap.size w w' := by
  have hz := zero_skip
  obtain ⟨M, hM⟩ : ∃ M : Nat, (M : Int) = 1 + a := ⟨(1 + a).toNat, by omega⟩
  have d1 : decide ((300 : Int) < (n : Int)) = false := decide_eq_false (by omega)
  have hM1 : 1 ≤ M := by omega
  have hM2 : M ≤ 256 := by omega
  have HM := Lib.hid hM
  have HN := Lib.hid hn
  clear hM hn
  go_enter Try.func5, Try.ntmps5
  go_wp2_with fail
  rw [← HM.out]
  refine (rgP_new M (Below.refl w.heap.size w) (Nat.le_refl _) (by omega)).mono ?_
  rintro e w1 ⟨g, rfl, h1⟩
  go_wp2_with fail
  go_loopw [10] (fun z wr => ∃ (k : Nat) (q : List (Int × Int)), k ≤ n ∧ z = .int .i64 k ∧ Hid (q = L.take (min k M)) ∧ RgP w wr w.heap.size g M q) (fun z _ => n - (intOf z).toNat)
  case atStart => exact ⟨0, [], Nat.zero_le _, rfl, Lib.hid (by simp), h1⟩
  case round =>
    obtain ⟨k, q, hk, rfl, HQ, hrg⟩ := hrel
    by_cases hlt : k < n
    · have dk : decide ((k : Int) < (n : Int)) = true := decide_eq_true (by omega)
      have hkl : k < L.length := by rw [HN.out]; exact hlt
      obtain ⟨b, o, rfl, hbl, e0, e1⟩ := (hr.below hrg.below).at_ k hkl
      by_cases hkM : k < M
      · have hq : q = L.take k := by rw [HQ.out, Nat.min_eq_left (by omega)]
        have hql : q.length = k := by rw [hq, List.length_take]; omega
        have HP := Lib.hid (hrg.push L[k] (by omega))
        have HQ2 : Hid (q ++ [L[k]] = L.take (min (k + 1) M)) := Lib.hid (by rw [hq, Nat.min_eq_left (by omega), List.take_succ_eq_append_getElem hkl])
        obtain ⟨x, hx⟩ : ∃ x, x = L[k] := ⟨_, rfl⟩
        rw [← hx] at e0 e1 HP HQ2
        clear hq hql hx hrg
        go_wp2_with fail
        refine HP.out.mono ?_
        rintro e w3 ⟨rfl, hrg3⟩
        clear e0 e1 HP
        go_wp2_with fail
        go_roundw
        case rel => exact ⟨k + 1, _, by omega, by go_num, HQ2, hrg3⟩
        case measure => simp [intOf]; omega
      · have hql : q.length = M := by rw [HQ.out, List.length_take, HN.out]; omega
        have HP := Lib.hid (hrg.full L[k] hql)
        have HQ2 : Hid (q = L.take (min (k + 1) M)) := Lib.hid (by rw [HQ.out, Nat.min_eq_right (by omega), Nat.min_eq_right (by omega)])
        obtain ⟨x, hx⟩ : ∃ x, x = L[k] := ⟨_, rfl⟩
        rw [← hx] at e0 e1 HP
        clear hql hx hrg
        go_wp2_with fail
        refine HP.out.mono ?_
        rintro e w3 ⟨rfl, hrg3⟩
        clear e0 e1 HP
        go_wp2_with fail
        go_roundw
        case rel => exact ⟨k + 1, _, by omega, by go_num, HQ2, hrg3⟩
        case measure => simp [intOf]; omega
    · obtain rfl : n = k := by omega
      have dk : decide ((n : Int) < (n : Int)) = false := decide_eq_false (by omega)
      rcases (show (n : Int) < (M : Int) ∨ ¬ (n : Int) < (M : Int) by omega) with hc | hc
      · have HQL : Hid (q.length = n) := Lib.hid (by rw [HQ.out, List.length_take, HN.out]; omega)
        have HEL : Hid (∀ k (hk : k < q.length) (hk' : k < L.length), q[k] = L[k]) := Lib.hid (fun k hk hk' => by
          have hkm : k < min n M := by rw [HQ.out, List.length_take] at hk; omega
          have e := HQ.out
          subst e
          rw [List.getElem_take])
        clear HQ
        go_wp2_with fail
        go_loopw [12] (fun z wr => ∃ k : Nat, k ≤ n ∧ z = .int .i64 k ∧ RgP w wr w.heap.size g M q) (fun z _ => n - (intOf z).toNat)
        case atStart => exact ⟨0, Nat.zero_le _, rfl, hrg⟩
        case round =>
          obtain ⟨k, hk, rfl, hrg⟩ := hrel
          by_cases hlt : k < n
          · have dk : decide ((k : Int) < (n : Int)) = true := decide_eq_true (by omega)
            have hkq : k < q.length := by rw [HQL.out]; exact hlt
            have hkl : k < L.length := by rw [HN.out]; omega
            obtain ⟨b, o, rfl, hbl, e0, e1⟩ := (hr.below hrg.below).at_ k hkl
            have hat := hrg.at_ k hkq
            rw [HEL.out k hkq hkl] at hat
            obtain ⟨x, hx⟩ : ∃ x, x = L[k].1 := ⟨_, rfl⟩
            obtain ⟨y, hy⟩ : ∃ x, x = L[k].2 := ⟨_, rfl⟩
            rw [← hx] at e0 hat
            rw [← hy] at e1 hat
            have HAT := Lib.hid hat
            have hknI : (k : Int) < (n : Int) := by omega
            have hbw := hrg.below
            clear hat hx hy hrg
            go_wp2_with fail
            refine HAT.out.mono ?_
            rintro e w3 ⟨rfl, hrg3⟩
            have f0 : w3.cell? ⟨b, o + k * 2, none⟩ = some (.int .u16 x) := ((hrg3.below.cell hbl).trans (hbw.cell hbl).symm).trans e0
            have f1 : w3.cell? ⟨b, o + k * 2 + 1, none⟩ = some (.int .u16 y) := ((hrg3.below.cell hbl).trans (hbw.cell hbl).symm).trans e1
            have hsz3 : b < w3.heap.size := Nat.lt_of_lt_of_le hbl (Nat.le_trans (Nat.le_refl _) hrg3.below.size)
            clear e0 e1 HAT hbw
            go_wp2_with fail
            have hrg4 := hrg3.bel (below_new w3 (.cells #[.int .u16 x, .int .u16 y] 58))
            have hbx := Blk.new w3 58 #[.int .u16 x, .int .u16 y]
            have g0 := (World.cell?_alloc_lt w3 (.cells #[.int .u16 x, .int .u16 y] 58) ⟨b, o + k * 2, none⟩ hsz3).trans f0
            have g1 := (World.cell?_alloc_lt w3 (.cells #[.int .u16 x, .int .u16 y] 58) ⟨b, o + k * 2 + 1, none⟩ hsz3).trans f1
            obtain ⟨X, hX⟩ : ∃ X, X = w3.heap.size := ⟨_, rfl⟩
            rw [← hX] at hbx ⊢
            clear hX f0 f1 hrg3 hsz3
            generalize w3.alloc (.cells #[.int .u16 x, .int .u16 y] 58) = w4 at hrg4 hbx g0 g1 ⊢
            have x0 : w4.cell? ⟨X, 0, none⟩ = some (.int .u16 x) := (hbx.cell 0).trans rfl
            have x1 : w4.cell? ⟨X, 1, none⟩ = some (.int .u16 y) := (hbx.cell 1).trans rfl
            clear hbx
            go_quiet (fail)
            have hrg5 := hrg4.bel (below_drewN (Below.refl _ _) nq)
            clear hrg4 x0 x1 g0 g1
            go_wp2_with fail
            go_roundw
            case rel => exact ⟨k + 1, by omega, by go_num, hrg5⟩
            case measure => simp [intOf]; omega
          · obtain rfl : n = k := by omega
            have dk : decide ((n : Int) < (n : Int)) = false := decide_eq_false (by omega)
            rcases (show (0 ≤ i ∧ i < (n : Int)) ∨ i < 0 ∨ (0 ≤ i ∧ (n : Int) ≤ i) by omega) with ⟨i0, i1⟩ | i0 | ⟨i0, i1⟩
            · obtain ⟨j, rfl⟩ : ∃ j : Nat, i = j := ⟨i.toNat, by omega⟩
              have hjq : j < q.length := by rw [HQL.out]; omega
              have HAT := Lib.hid (hrg.at_ j hjq)
              have p1 : decide ((0 : Int) ≤ (j : Int)) = true := decide_eq_true (by omega)
              have p2 : decide ((j : Int) < (n : Int)) = true := decide_eq_true (by omega)
              obtain ⟨x, hx⟩ : ∃ x, x = q[j].1 := ⟨_, rfl⟩
              obtain ⟨y, hy⟩ : ∃ x, x = q[j].2 := ⟨_, rfl⟩
              rw [← hx, ← hy] at HAT
              clear hx hy hrg
              go_wp2_with fail
              refine HAT.out.mono ?_
              rintro e w3 ⟨rfl, hrg3⟩
              clear HAT
              go_wp2_with fail
              have hrg4 := hrg3.bel (below_new w3 (.cells #[.int .u16 x, .int .u16 y] 58))
              have hlen := hrg4.len
              rw [HQL.out] at hlen
              generalize w3.alloc (.cells #[.int .u16 x, .int .u16 y] 58) = w4 at hrg4 hlen ⊢
              refine hlen.mono ?_
              rintro e w5 ⟨rfl, rfl⟩
              go_wp2_with fail
              refine (works_any _).mono ?_
              rintro e w6 ⟨rfl, hb6⟩
              go_wp2_with fail
              go_ret
              exact ⟨rfl, below_then hrg4.below (Nat.le_refl _) hb6⟩
            · have HAT := Lib.hid (hrg.no i (.inl i0))
              have p1 : decide ((0 : Int) ≤ i) = false := decide_eq_false (by omega)
              obtain ⟨x, hx⟩ : ∃ x : Int, x = 0 := ⟨_, rfl⟩
              clear hx hrg
              go_wp2_with fail
              refine HAT.out.mono ?_
              rintro e w3 ⟨rfl, hrg3⟩
              clear HAT
              go_wp2_with fail
              have hrg4 := hrg3.bel (below_new w3 (.cells #[.int .u16 0, .int .u16 0] 58))
              have hlen := hrg4.len
              rw [HQL.out] at hlen
              generalize w3.alloc (.cells #[.int .u16 0, .int .u16 0] 58) = w4 at hrg4 hlen ⊢
              refine hlen.mono ?_
              rintro e w5 ⟨rfl, rfl⟩
              go_wp2_with fail
              refine (works_any _).mono ?_
              rintro e w6 ⟨rfl, hb6⟩
              go_wp2_with fail
              go_ret
              exact ⟨rfl, below_then hrg4.below (Nat.le_refl _) hb6⟩
            · have HAT := Lib.hid (hrg.no i (.inr (by rw [HQL.out]; exact i1)))
              have p1 : decide ((0 : Int) ≤ i) = true := decide_eq_true (by omega)
              have p2 : decide (i < (n : Int)) = false := decide_eq_false (by omega)
              clear hrg
              go_wp2_with fail
              refine HAT.out.mono ?_
              rintro e w3 ⟨rfl, hrg3⟩
              clear HAT
              go_wp2_with fail
              have hrg4 := hrg3.bel (below_new w3 (.cells #[.int .u16 0, .int .u16 0] 58))
              have hlen := hrg4.len
              rw [HQL.out] at hlen
              generalize w3.alloc (.cells #[.int .u16 0, .int .u16 0] 58) = w4 at hrg4 hlen ⊢
              refine hlen.mono ?_
              rintro e w5 ⟨rfl, rfl⟩
              go_wp2_with fail
              refine (works_any _).mono ?_
              rintro e w6 ⟨rfl, hb6⟩
              go_wp2_with fail
              go_ret
              exact ⟨rfl, below_then hrg4.below (Nat.le_refl _) hb6⟩
      · have HQL : Hid (q.length = M) := Lib.hid (by rw [HQ.out, List.length_take, HN.out]; omega)
        have HEL : Hid (∀ k (hk : k < q.length) (hk' : k < L.length), q[k] = L[k]) := Lib.hid (fun k hk hk' => by
          have hkm : k < min n M := by rw [HQ.out, List.length_take] at hk; omega
          have e := HQ.out
          subst e
          rw [List.getElem_take])
        clear HQ
        go_wp2_with fail
        go_loopw [12] (fun z wr => ∃ k : Nat, k ≤ M ∧ z = .int .i64 k ∧ RgP w wr w.heap.size g M q) (fun z _ => M - (intOf z).toNat)
        case atStart => exact ⟨0, Nat.zero_le _, rfl, hrg⟩
        case round =>
          obtain ⟨k, hk, rfl, hrg⟩ := hrel
          by_cases hlt : k < M
          · have dk : decide ((k : Int) < (M : Int)) = true := decide_eq_true (by omega)
            have hkq : k < q.length := by rw [HQL.out]; exact hlt
            have hkl : k < L.length := by rw [HN.out]; omega
            obtain ⟨b, o, rfl, hbl, e0, e1⟩ := (hr.below hrg.below).at_ k hkl
            have hat := hrg.at_ k hkq
            rw [HEL.out k hkq hkl] at hat
            obtain ⟨x, hx⟩ : ∃ x, x = L[k].1 := ⟨_, rfl⟩
            obtain ⟨y, hy⟩ : ∃ x, x = L[k].2 := ⟨_, rfl⟩
            rw [← hx] at e0 hat
            rw [← hy] at e1 hat
            have HAT := Lib.hid hat
            have hknI : (k : Int) < (n : Int) := by omega
            have hbw := hrg.below
            clear hat hx hy hrg
            go_wp2_with fail
            refine HAT.out.mono ?_
            rintro e w3 ⟨rfl, hrg3⟩
            have f0 : w3.cell? ⟨b, o + k * 2, none⟩ = some (.int .u16 x) := ((hrg3.below.cell hbl).trans (hbw.cell hbl).symm).trans e0
            have f1 : w3.cell? ⟨b, o + k * 2 + 1, none⟩ = some (.int .u16 y) := ((hrg3.below.cell hbl).trans (hbw.cell hbl).symm).trans e1
            have hsz3 : b < w3.heap.size := Nat.lt_of_lt_of_le hbl (Nat.le_trans (Nat.le_refl _) hrg3.below.size)
            clear e0 e1 HAT hbw
            go_wp2_with fail
            have hrg4 := hrg3.bel (below_new w3 (.cells #[.int .u16 x, .int .u16 y] 58))
            have hbx := Blk.new w3 58 #[.int .u16 x, .int .u16 y]
            have g0 := (World.cell?_alloc_lt w3 (.cells #[.int .u16 x, .int .u16 y] 58) ⟨b, o + k * 2, none⟩ hsz3).trans f0
            have g1 := (World.cell?_alloc_lt w3 (.cells #[.int .u16 x, .int .u16 y] 58) ⟨b, o + k * 2 + 1, none⟩ hsz3).trans f1
            obtain ⟨X, hX⟩ : ∃ X, X = w3.heap.size := ⟨_, rfl⟩
            rw [← hX] at hbx ⊢
            clear hX f0 f1 hrg3 hsz3
            generalize w3.alloc (.cells #[.int .u16 x, .int .u16 y] 58) = w4 at hrg4 hbx g0 g1 ⊢
            have x0 : w4.cell? ⟨X, 0, none⟩ = some (.int .u16 x) := (hbx.cell 0).trans rfl
            have x1 : w4.cell? ⟨X, 1, none⟩ = some (.int .u16 y) := (hbx.cell 1).trans rfl
            clear hbx
            go_quiet (fail)
            have hrg5 := hrg4.bel (below_drewN (Below.refl _ _) nq)
            clear hrg4 x0 x1 g0 g1
            go_wp2_with fail
            go_roundw
            case rel => exact ⟨k + 1, by omega, by go_num, hrg5⟩
            case measure => simp [intOf]; omega
          · obtain rfl : M = k := by omega
            have dk : decide ((M : Int) < (M : Int)) = false := decide_eq_false (by omega)
            rcases (show (0 ≤ i ∧ i < (M : Int)) ∨ i < 0 ∨ (0 ≤ i ∧ (M : Int) ≤ i) by omega) with ⟨i0, i1⟩ | i0 | ⟨i0, i1⟩
            · obtain ⟨j, rfl⟩ : ∃ j : Nat, i = j := ⟨i.toNat, by omega⟩
              have hjq : j < q.length := by rw [HQL.out]; omega
              have HAT := Lib.hid (hrg.at_ j hjq)
              have p1 : decide ((0 : Int) ≤ (j : Int)) = true := decide_eq_true (by omega)
              have p2 : decide ((j : Int) < (M : Int)) = true := decide_eq_true (by omega)
              obtain ⟨x, hx⟩ : ∃ x, x = q[j].1 := ⟨_, rfl⟩
              obtain ⟨y, hy⟩ : ∃ x, x = q[j].2 := ⟨_, rfl⟩
              rw [← hx, ← hy] at HAT
              clear hx hy hrg
              go_wp2_with fail
              refine HAT.out.mono ?_
              rintro e w3 ⟨rfl, hrg3⟩
              clear HAT
              go_wp2_with fail
              have hrg4 := hrg3.bel (below_new w3 (.cells #[.int .u16 x, .int .u16 y] 58))
              have hlen := hrg4.len
              rw [HQL.out] at hlen
              generalize w3.alloc (.cells #[.int .u16 x, .int .u16 y] 58) = w4 at hrg4 hlen ⊢
              refine hlen.mono ?_
              rintro e w5 ⟨rfl, rfl⟩
              go_wp2_with fail
              refine (works_any _).mono ?_
              rintro e w6 ⟨rfl, hb6⟩
              go_wp2_with fail
              go_ret
              exact ⟨rfl, below_then hrg4.below (Nat.le_refl _) hb6⟩
            · have HAT := Lib.hid (hrg.no i (.inl i0))
              have p1 : decide ((0 : Int) ≤ i) = false := decide_eq_false (by omega)
              obtain ⟨x, hx⟩ : ∃ x : Int, x = 0 := ⟨_, rfl⟩
              clear hx hrg
              go_wp2_with fail
              refine HAT.out.mono ?_
              rintro e w3 ⟨rfl, hrg3⟩
              clear HAT
              go_wp2_with fail
              have hrg4 := hrg3.bel (below_new w3 (.cells #[.int .u16 0, .int .u16 0] 58))
              have hlen := hrg4.len
              rw [HQL.out] at hlen
              generalize w3.alloc (.cells #[.int .u16 0, .int .u16 0] 58) = w4 at hrg4 hlen ⊢
              refine hlen.mono ?_
              rintro e w5 ⟨rfl, rfl⟩
              go_wp2_with fail
              refine (works_any _).mono ?_
              rintro e w6 ⟨rfl, hb6⟩
              go_wp2_with fail
              go_ret
              exact ⟨rfl, below_then hrg4.below (Nat.le_refl _) hb6⟩
            · have HAT := Lib.hid (hrg.no i (.inr (by rw [HQL.out]; exact i1)))
              have p1 : decide ((0 : Int) ≤ i) = true := decide_eq_true (by omega)
              have p2 : decide (i < (M : Int)) = false := decide_eq_false (by omega)
              clear hrg
              go_wp2_with fail
              refine HAT.out.mono ?_
              rintro e w3 ⟨rfl, hrg3⟩
              clear HAT
              go_wp2_with fail
              have hrg4 := hrg3.bel (below_new w3 (.cells #[.int .u16 0, .int .u16 0] 58))
              have hlen := hrg4.len
              rw [HQL.out] at hlen
              generalize w3.alloc (.cells #[.int .u16 0, .int .u16 0] 58) = w4 at hrg4 hlen ⊢
              refine hlen.mono ?_
              rintro e w5 ⟨rfl, rfl⟩
              go_wp2_with fail
              refine (works_any _).mono ?_
              rintro e w6 ⟨rfl, hb6⟩
              go_wp2_with fail
              go_ret
              exact ⟨rfl, below_then hrg4.below (Nat.le_refl _) hb6⟩
theorem wf_i64b {a : Int} (h : (Lit.int .i64 a).wf = true) : -9223372036854775808 ≤ a ∧ a ≤ 9223372036854775807 := by
  simp [Lit.wf, IntKind.min, IntKind.max, IntKind.signed, IntKind.bits] at h
  omega
theorem wf_u8b {a : Int} (h : (Lit.int .u8 a).wf = true) : 0 ≤ a ∧ a ≤ 255 := by
  simp [Lit.wf, IntKind.min, IntKind.max, IntKind.signed, IntKind.bits] at h
  omega
theorem ringPlaces_walk (a : Int) (A : Option Addr) (n c : Nat) (rows : List (List Value)) (i : Int) (w : World) (ha : (Lit.int .u8 a).wf = true) (h1 : n ≤ c) (h2 : c ≤ maxLen) (h3 : rows.length = n) (h4 : Rows_ w w.heap.size A 2 rows) (h5 : ∀ row ∈ rows, SkipRow row) (hi : (Lit.int .i64 i).wf = true) :
    Calls Try.prog 5 #[.int .u8 a, .slice A n c, .int .i64 i] w fun e w' => e = .returned (.bool true) ∧ Below w.heap.size w w' := by
  by_cases hb : 300 < n
  · exact ringPlaces_big a A n c i w (wf_u8b ha) hb (Nat.le_trans h1 h2)
  · obtain ⟨L, hl, hL⟩ := rsk_of h4 h5
    exact ringPlaces_small a A n c i L w (wf_u8b ha) (by omega) (by omega) hL (wf_i64b hi).1 (wf_i64b hi).2
end Go.Proofs.Ytlfebfgdgjaidaa
