/-
  Layer 5 (ring): two rings beside each other; RingApart, walked.
-/
import Derived.Test.YtlfebfgdgjaidaaRgU
import Derived.Test.YtlfebfgdgjaidaaRgW
namespace Go.Proofs.Ytlfebfgdgjaidaa
open Go.RowKit
set_option linter.unusedVariables false

/-- How many tokens a channel holds. -/
def tokens (w : World) (c : Nat) : Nat := match w.heap[c]? with
  | some (.chan _ buf _ _ _ _) => buf.size
  | _ => 0
theorem Chn.tokens {w : World} {c cap n : Nat} (h : Chn w c cap n) : tokens w c = n := by
  obtain ⟨s, r, buf, hc, hb⟩ := h
  unfold Go.Proofs.Ytlfebfgdgjaidaa.tokens
  rw [hc]
  exact hb

/-- Two rings, each with blocks of its own, all the call's own. -/
structure Two (w0 w : World) (B g c g' c' most : Nat) (q q' : List Int) : Prop where
  rings : ∃ A m n f ys A' m' n' f' ys', RingU w g c A m most n f ys q q.length ∧ RingU w g' c' A' m' most n' f' ys' q' q'.length ∧ m ≠ m' ∧ B ≤ m ∧ B ≤ m'
  ng : g ≠ g'
  nc : c ≠ c'
  base : B ≤ g ∧ B ≤ c ∧ B ≤ g' ∧ B ≤ c'
  below : Below B w0 w
  size : B ≤ w0.heap.size
section
variable {w0 w w' : World} {B g c g' c' most : Nat} {q q' : List Int} {x : Int}
theorem Two.swap (h : Two w0 w B g c g' c' most q q') : Two w0 w B g' c' g c most q' q := by
  obtain ⟨⟨A, m, n, f, ys, A', m', n', f', ys', h1, h2, hm, b1, b2⟩, hg, hc, ⟨c1, c2, c3, c4⟩, hb, hs⟩ := h
  exact ⟨⟨A', m', n', f', ys', A, m, n, f, ys, h2, h1, hm.symm, b2, b1⟩, hg.symm, hc.symm, ⟨c3, c4, c1, c2⟩, hb, hs⟩
/-- What a ring's blocks are not. -/
theorem rings_apart {A A' : Option Addr} {m n f l m' n' f' l' most most' : Nat} {ys ys' : List Int} (h1 : RingU w g c A m most n f ys q l) (h2 : RingU w g' c' A' m' most' n' f' ys' q' l') (hg : g ≠ g') (hc : c ≠ c') (hm : m ≠ m') :
    g' ∉ [g, c, m] ∧ c' ∉ [g, c, m] ∧ m' ∉ [g, c, m] := by
  have a1 := h1.chn.ne h2.blk
  have a2 := h2.chn.ne h1.blk
  have a3 : g' ≠ m := by
    rcases h1.mem with ⟨_, _, rfl⟩ | ⟨_, _, hb⟩
    · exact hg.symm
    · exact h2.blk.ne_ hb (by decide)
  have a4 : m ≠ c' := by
    rcases h1.mem with ⟨_, _, rfl⟩ | ⟨_, _, hb⟩
    · exact a2
    · exact h2.chn.ne hb
  have a5 : g ≠ m' := by
    rcases h2.mem with ⟨_, _, rfl⟩ | ⟨_, _, hb⟩
    · exact hg
    · exact h1.blk.ne_ hb (by decide)
  have a6 : m' ≠ c := by
    rcases h2.mem with ⟨_, _, rfl⟩ | ⟨_, _, hb⟩
    · exact a1
    · exact h1.chn.ne hb
  simp
  omega
theorem Two.tokens' (h : Two w0 w B g c g' c' most q q') : tokens w c' = q'.length := by
  obtain ⟨⟨A, m, n, f, ys, A', m', n', f', ys', h1, h2, hm, b1, b2⟩, hg, hc, ⟨c1, c2, c3, c4⟩, hb, hs⟩ := h
  exact h2.chn.tokens
theorem Two.push (x : Int) (h : Two w0 w B g c g' c' most q q') (hq : q.length < most) :
    Calls Try.prog 23 #[.pointer (some ⟨g, 0, none⟩), .int .u32 x] w fun e w' => e = .returned (.bool true) ∧ Two w0 w' B g c g' c' most (q ++ [x]) q' := by
  obtain ⟨⟨A, m, n, f, ys, A', m', n', f', ys', h1, h2, hm, b1, b2⟩, hg, hc, ⟨c1, c2, c3, c4⟩, hb, hs⟩ := h
  refine (pushU_room x h1 hq).mono ?_
  rintro e w2 ⟨rfl, A2, m2, n2, f2, ys2, h3, hm2, ht⟩
  obtain ⟨d1, d2, d3⟩ := rings_apart h1 h2 hg hc hm
  have hbs := hb.size
  have hl := h2.lt
  exact ⟨rfl, ⟨A2, m2, n2, f2, ys2, A', m', n', f', ys', h3, h2.tw ht d1 d2 d3, by omega, by omega, b2⟩, hg, hc, ⟨c1, c2, c3, c4⟩, tw_below hb ht (by simp; omega) hs, hs⟩
theorem Two.pop (h : Two w0 w B g c g' c' most (x :: q) q') :
    Calls Try.prog 24 #[.pointer (some ⟨g, 0, none⟩)] w fun e w' => e = .returned (.tuple #[.int .u32 x, .bool true]) ∧ Two w0 w' B g c g' c' most q q' := by
  obtain ⟨⟨A, m, n, f, ys, A', m', n', f', ys', h1, h2, hm, b1, b2⟩, hg, hc, ⟨c1, c2, c3, c4⟩, hb, hs⟩ := h
  refine (popU_some h1).mono ?_
  rintro e w2 ⟨rfl, f2, ys2, h3, ht⟩
  obtain ⟨d1, d2, d3⟩ := rings_apart h1 h2 hg hc hm
  exact ⟨rfl, ⟨A, m, n, f2, ys2, A', m', n', f', ys', h3, h2.tw ht d1 d2 d3, hm, b1, b2⟩, hg, hc, ⟨c1, c2, c3, c4⟩, tw_below hb ht (by simp; omega) hs, hs⟩
theorem Two.len (h : Two w0 w B g c g' c' most q q') :
    Calls Try.prog 25 #[.pointer (some ⟨g, 0, none⟩)] w fun e w' => e = .returned (.int .i64 (q.length : Nat)) ∧ w = w' := by
  obtain ⟨⟨A, m, n, f, ys, A', m', n', f', ys', h1, h2, hm, b1, b2⟩, hg, hc, ⟨c1, c2, c3, c4⟩, hb, hs⟩ := h
  exact lenU_any h1
end
theorem below_cells {B : Nat} {w w1 w2 : World} {p : Addr} (h1 : Below B w w1) (h2 : Below B w w2) (hp : p.block < B) : w2.cell? p = w1.cell? p := (h2.cell hp).trans (h1.cell hp).symm
theorem two_new {w0 w1 w2 : World} {g c g' c' most n n' f f' : Nat} {A A' : Option Addr} {ys ys' : List Int} (hg : w0.heap.size ≤ g) (hc : w0.heap.size ≤ c) (hb : Below w0.heap.size w0 w1) (h1 : RingU w1 g c A g most n f ys [] 0)
    (h2 : RingU w2 g' c' A' g' most n' f' ys' [] 0) (hb2 : Below w1.heap.size w1 w2) (hg' : w1.heap.size ≤ g') (hc' : w1.heap.size ≤ c') : Two w0 w2 w0.heap.size g c g' c' most [] [] := by
  have hl := h1.lt
  have hs := hb.size
  exact ⟨⟨A, g, n, f, ys, A', g', n', f', ys', h1.below hb2, h2, by omega, hg, by omega⟩, by omega, by omega, ⟨hg, hc, by omega, by omega⟩, below_then hb (Nat.le_refl _) hb2, Nat.le_refl _⟩

set_option maxRecDepth 100000 in
set_option maxHeartbeats 1600000 in
theorem ringApart_big (A : Option Addr) (n c : Nat) (A' : Option Addr) (n' c' : Nat) (w : World) (h : 300 < n ∨ 300 < n') (hm : n ≤ maxLen) (hm' : n' ≤ maxLen) :
    Calls Try.prog 7 #[.slice A n c, .slice A' n' c'] w fun e w' => e = .returned (.bool true) ∧ Below w.heap.size w w' := by
  unfold maxLen at hm hm'
  have hd : (decide ((300 : Int) < (n : Int)) || decide ((300 : Int) < (n' : Int))) = true := by
    rw [Bool.or_eq_true, decide_eq_true_eq, decide_eq_true_eq]
    omega
  rcases (show 300 < n ∨ (n ≤ 300 ∧ 300 < n') by omega) with h | ⟨h, h'⟩
  · have d1 : decide ((300 : Int) < (n : Int)) = true := decide_eq_true (by omega)
    go_enter Try.func7, Try.ntmps7
    go_wp2_with fail
    refine (works_any w).mono ?_
    rintro e w1 ⟨rfl, hb1⟩
    go_wp2_with fail
    go_ret
    exact ⟨rfl, hb1⟩
  · have d1 : decide ((300 : Int) < (n : Int)) = false := decide_eq_false (by omega)
    have d2 : decide ((300 : Int) < (n' : Int)) = true := decide_eq_true (by omega)
    go_enter Try.func7, Try.ntmps7
    go_wp2_with fail
    refine (works_any w).mono ?_
    rintro e w1 ⟨rfl, hb1⟩
    go_wp2_with fail
    go_ret
    exact ⟨rfl, hb1⟩

set_option maxRecDepth 100000 in
set_option maxHeartbeats 3200000 in
theorem ringApart_lt (A : Option Addr) (n c : Nat) (A' : Option Addr) (n' c' : Nat) (xs ys : List Int) (w : World) (hn : xs.length = n) (hn' : ys.length = n') (h : n ≤ 300) (h' : n' ≤ 300) (hl : n < n') (hr : Ri .u32 w w.heap.size A xs) (hr' : Ri .u32 w w.heap.size A' ys) :
    Calls Try.prog 7 #[.slice A n c, .slice A' n' c'] w fun e w' => e = .returned (.bool true) ∧ Below w.heap.size w w' := by
  have HN := Lib.hid hn
  have HN' := Lib.hid hn'
  have hl' : (n : Int) < (n' : Int) := by omega
  have d1 : decide ((300 : Int) < (n : Int)) = false := decide_eq_false (by omega)
  have d2 : decide ((300 : Int) < (n' : Int)) = false := decide_eq_false (by omega)
  clear hn hn'
  go_enter Try.func7, Try.ntmps7
  go_wp2_with fail
  refine (newU_any 301 w (by omega)).mono ?_
  rintro e w1 ⟨rfl, h1, hb1⟩
  have hs1 := hb1.size
  go_wp2_with fail
  refine (newU_any 301 w1 (by omega)).mono ?_
  rintro e w2 ⟨rfl, h2, hb2⟩
  have H2 := two_new (w0 := w) (by omega) (Nat.le_refl _) hb1 h1 h2 hb2 (by omega) (Nat.le_refl _)
  obtain ⟨G, hG⟩ : ∃ G, G = w.heap.size + 1 := ⟨_, rfl⟩
  obtain ⟨C, hC⟩ : ∃ C, C = w.heap.size := ⟨_, rfl⟩
  obtain ⟨G', hG'⟩ : ∃ G, G = w1.heap.size + 1 := ⟨_, rfl⟩
  obtain ⟨C', hC'⟩ : ∃ C, C = w1.heap.size := ⟨_, rfl⟩
  rw [← hG, ← hG', ← hC'] at H2
  rw [← hG, ← hG']
  replace H2 : Two w w2 w.heap.size G C G' C' 301 [] [] := by rw [hC]; exact H2
  clear h1 h2 hb1 hb2 hs1 hG hC hG' hC'
  go_wp2_with fail
  go_loopw [9] (fun i wr => ∃ k : Nat, k ≤ n' ∧ i = .int .i64 k ∧ Two w wr w.heap.size G C G' C' 301 (xs.take k) (ys.take k)) (fun i _ => n' - (intOf i).toNat)
  case atStart => exact ⟨0, by omega, rfl, by simpa using H2⟩
  case round =>
    obtain ⟨k, hk, rfl, ht⟩ := hrel
    by_cases hlt : k < n'
    · have hmx : decide ((k : Int) < (n' : Int)) = true := decide_eq_true (by omega)
      have stay : ∀ (zs : List Int), zs.length ≤ k → zs.take (k + 1) = zs.take k := fun zs hz => by rw [List.take_of_length_le (by omega), List.take_of_length_le hz]
      have HSTAY := Lib.hid stay
      clear stay
      by_cases ha : k < n
      · obtain ⟨b, o, rfl, hbl, hcx⟩ := (hr.below ht.below).at_ (by intro e; have := HN.out; rw [e] at this; simp at this; omega)
        have hkx : k < xs.length := by rw [HN.out]; exact ha
        have ca := hcx k hkx
        have hpa := ht.push xs[k] (by rw [List.length_take]; omega)
        rw [← List.take_succ_eq_append_getElem hkx] at hpa
        obtain ⟨x, hx⟩ : ∃ x, x = xs[k] := ⟨_, rfl⟩
        rw [← hx] at hpa ca
        have HPA := Lib.hid hpa
        have da : decide ((k : Int) < (n : Int)) = true := decide_eq_true (by omega)
        clear hcx hpa hx ht
        go_wp2_with fail
        refine HPA.out.mono ?_
        rintro e w3 ⟨rfl, ht⟩
        clear ca HPA
        by_cases hb : k < n'
        · obtain ⟨b', o', rfl, hbl', hcy⟩ := (hr'.below ht.below).at_ (by intro e; have := HN'.out; rw [e] at this; simp at this; omega)
          have hky : k < ys.length := by rw [HN'.out]; exact hb
          have cb := hcy k hky
          have hpb := ht.swap.push ys[k] (by rw [List.length_take]; omega)
          rw [← List.take_succ_eq_append_getElem hky] at hpb
          obtain ⟨y, hy⟩ : ∃ y, y = ys[k] := ⟨_, rfl⟩
          rw [← hy] at hpb cb
          have HPB := Lib.hid hpb
          have db : decide ((k : Int) < (n' : Int)) = true := decide_eq_true (by omega)
          clear hcy hpb hy ht
          go_wp2_with fail
          refine HPB.out.mono ?_
          rintro e w4 ⟨rfl, ht⟩
          clear cb HPB
          go_wp2_with fail
          go_roundw
          case rel => exact ⟨k + 1, by omega, by go_num, ht.swap⟩
          case measure => simp [intOf]; omega
        · exfalso; omega
      · have da : decide ((k : Int) < (n : Int)) = false := decide_eq_false (by omega)
        replace ht : Two w wr w.heap.size G C G' C' 301 (xs.take (k + 1)) (ys.take k) := by rw [HSTAY.out xs (by rw [HN.out]; omega)]; exact ht
        have hb : k < n' := by
          rcases Nat.lt_or_ge k n' with hb | hb
          · exact hb
          · exfalso
            omega
        obtain ⟨b', o', rfl, hbl', hcy⟩ := (hr'.below ht.below).at_ (by intro e; have := HN'.out; rw [e] at this; simp at this; omega)
        have hky : k < ys.length := by rw [HN'.out]; exact hb
        have cb := hcy k hky
        have hpb := ht.swap.push ys[k] (by rw [List.length_take]; omega)
        rw [← List.take_succ_eq_append_getElem hky] at hpb
        obtain ⟨y, hy⟩ : ∃ y, y = ys[k] := ⟨_, rfl⟩
        rw [← hy] at hpb cb
        have HPB := Lib.hid hpb
        have db : decide ((k : Int) < (n' : Int)) = true := decide_eq_true (by omega)
        clear hcy hpb hy ht
        go_wp2_with fail
        refine HPB.out.mono ?_
        rintro e w4 ⟨rfl, ht⟩
        clear cb HPB
        go_wp2_with fail
        go_roundw
        case rel => exact ⟨k + 1, by omega, by go_num, ht.swap⟩
        case measure => simp [intOf]; omega
    · obtain rfl : n' = k := by omega
      have hmx := 0
      rw [List.take_of_length_le (by rw [HN.out]; exact (by omega)), List.take_of_length_le (by rw [HN'.out]; exact (by omega))] at ht
      go_wp2_with fail
      go_loopw [10] (fun z wr => ∃ k : Nat, k ≤ n' ∧ Two w wr w.heap.size G C G' C' 301 xs (ys.drop k)) (fun _ wr => tokens wr C')
      case atStart => exact ⟨0, Nat.zero_le _, by simpa using ht⟩
      case round =>
        obtain ⟨j, hj, ht⟩ := hrel
        have hmea := ht.tokens'
        by_cases hjn : j < n'
        · have hjy : j < ys.length := by rw [HN'.out]; exact hjn
          rw [List.drop_eq_getElem_cons hjy] at ht hmea
          have hl1 := ht.swap.len
          simp only [List.length_cons] at hl1 hmea
          obtain ⟨L, hL⟩ : ∃ L, L = (ys.drop (j + 1)).length := ⟨_, rfl⟩
          have HPOP := Lib.hid ht.swap.pop
          have hL3 : L ≤ 300 := by rw [hL, List.length_drop, HN'.out]; omega
          rw [← hL] at hl1 hmea
          have HL1 := Lib.hid hl1
          have HL := Lib.hid hL
          have HMEA := Lib.hid hmea
          clear hl1 hmea hL ht
          go_wp2_with fail
          refine HL1.out.mono ?_
          rintro e w5 ⟨rfl, rfl⟩
          go_wp2_with fail
          refine HL1.out.mono ?_
          rintro e w5 ⟨rfl, rfl⟩
          go_wp2_with fail
          refine HPOP.out.mono ?_
          rintro e w6 ⟨rfl, ht6⟩
          have hl6 := ht6.len
          rw [← HL.out] at hl6
          have HL6 := Lib.hid hl6
          have ht6 := ht6.swap
          have hmea6 := ht6.tokens'
          rw [← HL.out] at hmea6
          have HM6 := Lib.hid hmea6
          clear hl6 hmea6
          go_wp2_with fail
          refine HL6.out.mono ?_
          rintro e w7 ⟨rfl, rfl⟩
          go_wp2_with fail
          go_roundw
          case rel => exact ⟨j + 1, by omega, ht6⟩
          case measure => rw [HM6.out, HMEA.out]; omega
        · obtain rfl : n' = j := by omega
          rw [List.drop_of_length_le (by rw [HN'.out]; exact Nat.le_refl _)] at ht
          clear hmea
          go_wp2_with fail
          refine ht.swap.len.mono ?_
          rintro e w5 ⟨rfl, rfl⟩
          go_wp2_with fail
          go_loopw [11, 12, 13] (fun i y z wr => ∃ k : Nat, k ≤ n ∧ i = .int .i64 k ∧ Two w wr w.heap.size G C G' C' 301 (xs.drop k) []) (fun i _ _ _ => n - (intOf i).toNat)
          case atStart => exact ⟨0, Nat.zero_le _, rfl, by simpa using ht⟩
          case round =>
            obtain ⟨j2, hj2, rfl, ht⟩ := hrel
            by_cases hjn2 : j2 < n
            · obtain ⟨b, o, rfl, hbl, hcx⟩ := (hr.below ht.below).at_ (by intro e; have := HN.out; rw [e] at this; simp at this; omega)
              have hjx : j2 < xs.length := by rw [HN.out]; exact hjn2
              have ca := hcx j2 hjx
              rw [List.drop_eq_getElem_cons hjx] at ht
              have hpop := ht.pop
              obtain ⟨x, hx⟩ : ∃ x, x = xs[j2] := ⟨_, rfl⟩
              rw [← hx] at ca hpop
              have HPOP := Lib.hid hpop
              have da : decide ((j2 : Int) < (n : Int)) = true := decide_eq_true (by omega)
              clear hpop hx hcx
              go_wp2_with fail
              refine HPOP.out.mono ?_
              rintro e w6 ⟨rfl, ht6⟩
              have ca6 : w6.cell? ⟨b, o + j2, none⟩ = some (.int .u32 x) := (below_cells ht.below ht6.below hbl).trans ca
              clear ca HPOP ht
              go_wp2_with fail
              go_roundw
              case rel => exact ⟨j2 + 1, by omega, by go_num, ht6⟩
              case measure => simp [intOf]; omega
            · obtain rfl : n = j2 := by omega
              rw [List.drop_of_length_le (by rw [HN.out]; exact Nat.le_refl _)] at ht
              go_wp2_with fail
              refine ht.len.mono ?_
              rintro e w6 ⟨rfl, rfl⟩
              go_wp2_with fail
              refine (works_any _).mono ?_
              rintro e w7 ⟨rfl, hb7⟩
              go_wp2_with fail
              go_ret
              exact ⟨rfl, below_then ht.below (Nat.le_refl _) hb7⟩
set_option maxRecDepth 100000 in
set_option maxHeartbeats 3200000 in
theorem ringApart_ge (A : Option Addr) (n c : Nat) (A' : Option Addr) (n' c' : Nat) (xs ys : List Int) (w : World) (hn : xs.length = n) (hn' : ys.length = n') (h : n ≤ 300) (h' : n' ≤ 300) (hl : n' ≤ n) (hr : Ri .u32 w w.heap.size A xs) (hr' : Ri .u32 w w.heap.size A' ys) :
    Calls Try.prog 7 #[.slice A n c, .slice A' n' c'] w fun e w' => e = .returned (.bool true) ∧ Below w.heap.size w w' := by
  have HN := Lib.hid hn
  have HN' := Lib.hid hn'
  have hl' : ¬ (n : Int) < (n' : Int) := by omega
  have d1 : decide ((300 : Int) < (n : Int)) = false := decide_eq_false (by omega)
  have d2 : decide ((300 : Int) < (n' : Int)) = false := decide_eq_false (by omega)
  clear hn hn'
  go_enter Try.func7, Try.ntmps7
  go_wp2_with fail
  refine (newU_any 301 w (by omega)).mono ?_
  rintro e w1 ⟨rfl, h1, hb1⟩
  have hs1 := hb1.size
  go_wp2_with fail
  refine (newU_any 301 w1 (by omega)).mono ?_
  rintro e w2 ⟨rfl, h2, hb2⟩
  have H2 := two_new (w0 := w) (by omega) (Nat.le_refl _) hb1 h1 h2 hb2 (by omega) (Nat.le_refl _)
  obtain ⟨G, hG⟩ : ∃ G, G = w.heap.size + 1 := ⟨_, rfl⟩
  obtain ⟨C, hC⟩ : ∃ C, C = w.heap.size := ⟨_, rfl⟩
  obtain ⟨G', hG'⟩ : ∃ G, G = w1.heap.size + 1 := ⟨_, rfl⟩
  obtain ⟨C', hC'⟩ : ∃ C, C = w1.heap.size := ⟨_, rfl⟩
  rw [← hG, ← hG', ← hC'] at H2
  rw [← hG, ← hG']
  replace H2 : Two w w2 w.heap.size G C G' C' 301 [] [] := by rw [hC]; exact H2
  clear h1 h2 hb1 hb2 hs1 hG hC hG' hC'
  go_wp2_with fail
  go_loopw [9] (fun i wr => ∃ k : Nat, k ≤ n ∧ i = .int .i64 k ∧ Two w wr w.heap.size G C G' C' 301 (xs.take k) (ys.take k)) (fun i _ => n - (intOf i).toNat)
  case atStart => exact ⟨0, by omega, rfl, by simpa using H2⟩
  case round =>
    obtain ⟨k, hk, rfl, ht⟩ := hrel
    by_cases hlt : k < n
    · have hmx : decide ((k : Int) < (n : Int)) = true := decide_eq_true (by omega)
      have stay : ∀ (zs : List Int), zs.length ≤ k → zs.take (k + 1) = zs.take k := fun zs hz => by rw [List.take_of_length_le (by omega), List.take_of_length_le hz]
      have HSTAY := Lib.hid stay
      clear stay
      by_cases ha : k < n
      · obtain ⟨b, o, rfl, hbl, hcx⟩ := (hr.below ht.below).at_ (by intro e; have := HN.out; rw [e] at this; simp at this; omega)
        have hkx : k < xs.length := by rw [HN.out]; exact ha
        have ca := hcx k hkx
        have hpa := ht.push xs[k] (by rw [List.length_take]; omega)
        rw [← List.take_succ_eq_append_getElem hkx] at hpa
        obtain ⟨x, hx⟩ : ∃ x, x = xs[k] := ⟨_, rfl⟩
        rw [← hx] at hpa ca
        have HPA := Lib.hid hpa
        have da : decide ((k : Int) < (n : Int)) = true := decide_eq_true (by omega)
        clear hcx hpa hx ht
        go_wp2_with fail
        refine HPA.out.mono ?_
        rintro e w3 ⟨rfl, ht⟩
        clear ca HPA
        by_cases hb : k < n'
        · obtain ⟨b', o', rfl, hbl', hcy⟩ := (hr'.below ht.below).at_ (by intro e; have := HN'.out; rw [e] at this; simp at this; omega)
          have hky : k < ys.length := by rw [HN'.out]; exact hb
          have cb := hcy k hky
          have hpb := ht.swap.push ys[k] (by rw [List.length_take]; omega)
          rw [← List.take_succ_eq_append_getElem hky] at hpb
          obtain ⟨y, hy⟩ : ∃ y, y = ys[k] := ⟨_, rfl⟩
          rw [← hy] at hpb cb
          have HPB := Lib.hid hpb
          have db : decide ((k : Int) < (n' : Int)) = true := decide_eq_true (by omega)
          clear hcy hpb hy ht
          go_wp2_with fail
          refine HPB.out.mono ?_
          rintro e w4 ⟨rfl, ht⟩
          clear cb HPB
          go_wp2_with fail
          go_roundw
          case rel => exact ⟨k + 1, by omega, by go_num, ht.swap⟩
          case measure => simp [intOf]; omega
        · replace ht : Two w w3 w.heap.size G C G' C' 301 (xs.take (k + 1)) (ys.take (k + 1)) := by rw [HSTAY.out ys (by rw [HN'.out]; omega)]; exact ht
          have db : decide ((k : Int) < (n' : Int)) = false := decide_eq_false (by omega)
          go_wp2_with fail
          go_roundw
          case rel => exact ⟨k + 1, by omega, by go_num, ht⟩
          case measure => simp [intOf]; omega
      · exfalso; omega
    · obtain rfl : n = k := by omega
      have hmx := 0
      rw [List.take_of_length_le (by rw [HN.out]; exact (by omega)), List.take_of_length_le (by rw [HN'.out]; exact (by omega))] at ht
      go_wp2_with fail
      go_loopw [10] (fun z wr => ∃ k : Nat, k ≤ n' ∧ Two w wr w.heap.size G C G' C' 301 xs (ys.drop k)) (fun _ wr => tokens wr C')
      case atStart => exact ⟨0, Nat.zero_le _, by simpa using ht⟩
      case round =>
        obtain ⟨j, hj, ht⟩ := hrel
        have hmea := ht.tokens'
        by_cases hjn : j < n'
        · have hjy : j < ys.length := by rw [HN'.out]; exact hjn
          rw [List.drop_eq_getElem_cons hjy] at ht hmea
          have hl1 := ht.swap.len
          simp only [List.length_cons] at hl1 hmea
          obtain ⟨L, hL⟩ : ∃ L, L = (ys.drop (j + 1)).length := ⟨_, rfl⟩
          have HPOP := Lib.hid ht.swap.pop
          have hL3 : L ≤ 300 := by rw [hL, List.length_drop, HN'.out]; omega
          rw [← hL] at hl1 hmea
          have HL1 := Lib.hid hl1
          have HL := Lib.hid hL
          have HMEA := Lib.hid hmea
          clear hl1 hmea hL ht
          go_wp2_with fail
          refine HL1.out.mono ?_
          rintro e w5 ⟨rfl, rfl⟩
          go_wp2_with fail
          refine HL1.out.mono ?_
          rintro e w5 ⟨rfl, rfl⟩
          go_wp2_with fail
          refine HPOP.out.mono ?_
          rintro e w6 ⟨rfl, ht6⟩
          have hl6 := ht6.len
          rw [← HL.out] at hl6
          have HL6 := Lib.hid hl6
          have ht6 := ht6.swap
          have hmea6 := ht6.tokens'
          rw [← HL.out] at hmea6
          have HM6 := Lib.hid hmea6
          clear hl6 hmea6
          go_wp2_with fail
          refine HL6.out.mono ?_
          rintro e w7 ⟨rfl, rfl⟩
          go_wp2_with fail
          go_roundw
          case rel => exact ⟨j + 1, by omega, ht6⟩
          case measure => rw [HM6.out, HMEA.out]; omega
        · obtain rfl : n' = j := by omega
          rw [List.drop_of_length_le (by rw [HN'.out]; exact Nat.le_refl _)] at ht
          clear hmea
          go_wp2_with fail
          refine ht.swap.len.mono ?_
          rintro e w5 ⟨rfl, rfl⟩
          go_wp2_with fail
          go_loopw [11, 12, 13] (fun i y z wr => ∃ k : Nat, k ≤ n ∧ i = .int .i64 k ∧ Two w wr w.heap.size G C G' C' 301 (xs.drop k) []) (fun i _ _ _ => n - (intOf i).toNat)
          case atStart => exact ⟨0, Nat.zero_le _, rfl, by simpa using ht⟩
          case round =>
            obtain ⟨j2, hj2, rfl, ht⟩ := hrel
            by_cases hjn2 : j2 < n
            · obtain ⟨b, o, rfl, hbl, hcx⟩ := (hr.below ht.below).at_ (by intro e; have := HN.out; rw [e] at this; simp at this; omega)
              have hjx : j2 < xs.length := by rw [HN.out]; exact hjn2
              have ca := hcx j2 hjx
              rw [List.drop_eq_getElem_cons hjx] at ht
              have hpop := ht.pop
              obtain ⟨x, hx⟩ : ∃ x, x = xs[j2] := ⟨_, rfl⟩
              rw [← hx] at ca hpop
              have HPOP := Lib.hid hpop
              have da : decide ((j2 : Int) < (n : Int)) = true := decide_eq_true (by omega)
              clear hpop hx hcx
              go_wp2_with fail
              refine HPOP.out.mono ?_
              rintro e w6 ⟨rfl, ht6⟩
              have ca6 : w6.cell? ⟨b, o + j2, none⟩ = some (.int .u32 x) := (below_cells ht.below ht6.below hbl).trans ca
              clear ca HPOP ht
              go_wp2_with fail
              go_roundw
              case rel => exact ⟨j2 + 1, by omega, by go_num, ht6⟩
              case measure => simp [intOf]; omega
            · obtain rfl : n = j2 := by omega
              rw [List.drop_of_length_le (by rw [HN.out]; exact Nat.le_refl _)] at ht
              go_wp2_with fail
              refine ht.len.mono ?_
              rintro e w6 ⟨rfl, rfl⟩
              go_wp2_with fail
              refine (works_any _).mono ?_
              rintro e w7 ⟨rfl, hb7⟩
              go_wp2_with fail
              go_ret
              exact ⟨rfl, below_then ht.below (Nat.le_refl _) hb7⟩
theorem ringApart_walk (A : Option Addr) (n c : Nat) (xs : List Int) (A' : Option Addr) (n' c' : Nat) (ys : List Int) (w : World) (h1 : n ≤ c) (h2 : c ≤ maxLen) (h3 : xs.length = n) (h4 : Ri .u32 w w.heap.size A xs) (h5 : ∀ x ∈ xs, (Lit.int .u32 x).wf = true)
    (k1 : n' ≤ c') (k2 : c' ≤ maxLen) (k3 : ys.length = n') (k4 : Ri .u32 w w.heap.size A' ys) (k5 : ∀ x ∈ ys, (Lit.int .u32 x).wf = true) :
    Calls Try.prog 7 #[.slice A n c, .slice A' n' c'] w fun e w' => e = .returned (.bool true) ∧ Below w.heap.size w w' := by
  by_cases hb : 300 < n ∨ 300 < n'
  · exact ringApart_big A n c A' n' c' w hb (Nat.le_trans h1 h2) (Nat.le_trans k1 k2)
  · rcases Nat.lt_or_ge n n' with hl | hl
    · exact ringApart_lt A n c A' n' c' xs ys w h3 k3 (by omega) (by omega) hl h4 k4
    · exact ringApart_ge A n c A' n' c' xs ys w h3 k3 (by omega) (by omega) hl h4 k4
end Go.Proofs.Ytlfebfgdgjaidaa
