/-
  Layer 5 (ring): RingPlays, walked.
-/
import Derived.Test.YtlfebfgdgjaidaaRgL5
import Derived.Test.YtlfebfgdgjaidaaRgL1
namespace Go.Proofs.Ytlfebfgdgjaidaa
open Go.RowKit
set_option linter.unusedVariables false

/-- What is known of a row: a kind, a text, a number. -/
def StepRow (row : List Value) : Prop := (∃ x, row[0]? = some (.int .i64 x) ∧ (Lit.int .i64 x).wf = true) ∧ (∃ s, row[1]? = some (.string s) ∧ s.size ≤ maxLen) ∧ (∃ x, row[2]? = some (.int .i64 x) ∧ (Lit.int .i64 x).wf = true)
theorem steps_at {w wr : World} {A : Option Addr} {rows : List (List Value)} (hr : Rows_ w w.heap.size A 3 rows) (hf : ∀ row ∈ rows, StepRow row) (hb : Below w.heap.size w wr) (k : Nat) (hk : k < rows.length) :
    ∃ b o kd s i, A = some ⟨b, o, none⟩ ∧ b < w.heap.size ∧ wr.cell? ⟨b, o + k * 3, none⟩ = some (.int .i64 kd) ∧ wr.cell? ⟨b, o + k * 3 + 1, none⟩ = some (.string s) ∧ wr.cell? ⟨b, o + k * 3 + 2, none⟩ = some (.int .i64 i) ∧ -9223372036854775808 ≤ i ∧ i ≤ 9223372036854775807 := by
  rcases hr with h | ⟨b, o, ha, hl, hc⟩
  · subst h; simp at hk
  · obtain ⟨⟨x, e0, w0⟩, ⟨s, e1, w1⟩, ⟨i, e2, w2⟩⟩ := hf _ (List.getElem_mem hk)
    have hcc := hc k _ (List.getElem?_eq_getElem hk)
    have c : ∀ j, wr.cell? ⟨b, j, none⟩ = w.cell? ⟨b, j, none⟩ := fun j => hb.cell (p := ⟨b, j, none⟩) hl
    exact ⟨b, o, x, s, i, ha, hl, (c _).trans ((hcc 0 (by omega)).trans e0), (c _).trans ((hcc 1 (by omega)).trans e1), (c _).trans ((hcc 2 (by omega)).trans e2), (wf_i64 w2).1, (wf_i64 w2).2⟩
theorem wrap_i64 {x : Int} (h1 : -9223372036854775808 ≤ x) (h2 : x ≤ 9223372036854775807) : IntKind.i64.wrap x = x := by
  simp [IntKind.wrap, IntKind.bits, IntKind.signed]
  omega
theorem still_left {P : Program} {f : FuncId} {args : Array Value} {w : World} {n : Nat} {v : Value}
    (h : Calls P f args (w.drewN n) fun e w' => e = .returned v ∧ w.drewN n = w') : Calls P f args (w.drewN n) fun e w'' => e = .returned v ∧ ∃ m, w'' = w.drewN m :=
  h.mono fun _ _ ⟨he, hm⟩ => ⟨he, n, hm.symm⟩
theorem below_cell2 {B : Nat} {w w1 w2 : World} {p : Addr} {v : Value} (h1 : Below B w w1) (h2 : Below B w w2) (hp : p.block < B) (h : w1.cell? p = some v) : w2.cell? p = some v := ((h2.cell hp).trans (h1.cell hp).symm).trans h

set_option maxRecDepth 100000 in
set_option maxHeartbeats 1600000 in
theorem ringPlays_big (a : Int) (A : Option Addr) (n c : Nat) (w : World) (h : 300 < n ∨ (2000 < a ∧ a ≤ 1048576)) (hm : n ≤ maxLen) :
    Calls Try.prog 3 #[.int .i64 a, .slice A n c] w fun e w' => e = .returned (.bool true) ∧ Below w.heap.size w w' := by
  unfold maxLen at hm
  rcases (show 300 < n ∨ (n ≤ 300 ∧ 2000 < a ∧ a ≤ 1048576) by omega) with h | ⟨h, h1, h2⟩
  · have d1 : decide ((300 : Int) < (n : Int)) = true := decide_eq_true (by omega)
    go_enter Try.func3, Try.ntmps3
    go_wp2_with fail
    refine (works_any w).mono ?_
    rintro e w1 ⟨rfl, hb1⟩
    go_wp2_with fail
    go_ret
    exact ⟨rfl, hb1⟩
  · have d1 : decide ((300 : Int) < (n : Int)) = false := decide_eq_false (by omega)
    have d2 : decide ((2000 : Int) < a) = true := decide_eq_true (by omega)
    have d3 : decide (a ≤ (1048576 : Int)) = true := decide_eq_true (by omega)
    go_enter Try.func3, Try.ntmps3
    go_wp2_with fail
    refine (works_any w).mono ?_
    rintro e w1 ⟨rfl, hb1⟩
    go_wp2_with fail
    go_ret
    exact ⟨rfl, hb1⟩

set_option maxRecDepth 100000 in
set_option maxHeartbeats 1600000 in
theorem ringPlays_none (a : Int) (A : Option Addr) (n c : Nat) (w : World) (h : n ≤ 300) (ha : a < 1 ∨ 1048576 < a) (lo : -9223372036854775808 ≤ a) (hi : a ≤ 9223372036854775807) :
    Calls Try.prog 3 #[.int .i64 a, .slice A n c] w fun e w' => e = .returned (.bool true) ∧ Below w.heap.size w w' := by
  have d1 : decide ((300 : Int) < (n : Int)) = false := decide_eq_false (by omega)
  have H1 := Lib.hid (newS_err a w ha)
  have H2 := Lib.hid (refNew_err a w ha)
  have d23 : (decide ((2000 : Int) < a) && decide (a ≤ (1048576 : Int))) = false := by
    rw [Bool.and_eq_false_iff, decide_eq_false_iff_not, decide_eq_false_iff_not]
    omega
  rcases (show a ≤ 2000 ∨ (2000 < a ∧ 1048576 < a) by omega) with hs | ⟨hs, hs2⟩
  all_goals
    go_enter Try.func3, Try.ntmps3
    go_wp2_with fail
    refine H1.out.mono ?_
    rintro e w1 ⟨rfl, rfl⟩
    go_wp2_with fail
    refine H2.out.mono ?_
    rintro e w1 ⟨rfl, rfl⟩
    go_wp2_with fail
    go_loopw [9] (fun i wr => i = .int .i64 0 ∧ w = wr) (fun _ _ => 0)
    case atStart => exact ⟨rfl, rfl⟩
    case round =>
      obtain ⟨rfl, rfl⟩ := hrel
      rcases Nat.eq_zero_or_pos n with h0 | h0
      · subst h0
        go_wp2_with fail
        refine (works_any w).mono ?_
        rintro e w1 ⟨rfl, hb1⟩
        go_wp2_with fail
        go_ret
        exact ⟨rfl, hb1⟩
      · have dn : decide ((0 : Int) < (n : Int)) = true := decide_eq_true (by omega)
        go_wp2_with fail
        refine (works_any w).mono ?_
        rintro e w1 ⟨rfl, hb1⟩
        go_wp2_with fail
        go_ret
        exact ⟨rfl, hb1⟩

set_option maxRecDepth 100000 in
set_option maxHeartbeats 12800000 in
theorem ringPlays_small (M : Nat) (A : Option Addr) (n c : Nat) (rows : List (List Value)) (w : World) (hn : rows.length = n) (h : n ≤ 300) (hM : 1 ≤ M ∧ M ≤ 2000) (hr : Rows_ w w.heap.size A 3 rows) (hf : ∀ row ∈ rows, StepRow row) :
    Calls Try.prog 3 #[.int .i64 (M : Nat), .slice A n c] w fun e w' => e = .returned (.bool true) ∧ Below w.heap.size w w' := by
  obtain ⟨hM1, hM2⟩ := hM
  have HN := Lib.hid hn
  have d1 : decide ((300 : Int) < (n : Int)) = false := decide_eq_false (by omega)
  have d2 : decide ((2000 : Int) < (M : Int)) = false := decide_eq_false (by omega)
  clear hn
  go_enter Try.func3, Try.ntmps3
  go_wp2_with fail
  refine (newS_any M w (by omega)).mono ?_
  rintro e w1 ⟨rfl, h1, hb1⟩
  go_wp2_with fail
  refine (refNew_any M w1 (by omega)).mono ?_
  rintro e w2 ⟨rfl, h2, hb2⟩
  have hs1 := hb1.size
  have hl1 := h1.lt
  have P0 : PQ w w2 w.heap.size (w.heap.size + 1) w1.heap.size M [] := ⟨⟨_, _, _, _, _, _, _, _, _, _, h1.below hb2, h2, by omega, Nat.le_refl _, by omega, by omega⟩, by omega, below_then hb1 (Nat.le_refl _) hb2, Nat.le_refl _⟩
  obtain ⟨G, hG⟩ : ∃ G, G = w.heap.size + 1 := ⟨_, rfl⟩
  obtain ⟨H, hH⟩ : ∃ H, H = w1.heap.size := ⟨_, rfl⟩
  rw [← hG, ← hH] at P0
  rw [← hG, ← hH]
  clear h1 hb1 h2 hb2 hs1 hl1 hG hH
  go_wp2_with fail
  go_loopw [9] (fun i wr => ∃ (k : Nat) (q : List ByteArray), k ≤ n ∧ i = .int .i64 k ∧ PQ w wr w.heap.size G H M q) (fun i _ => n - (intOf i).toNat)
  case atStart => exact ⟨0, [], Nat.zero_le _, rfl, P0⟩
  case round =>
    obtain ⟨k, q, hk, rfl, p⟩ := hrel
    by_cases hlt : k < n
    · have dk : decide ((k : Int) < (n : Int)) = true := decide_eq_true (by omega)
      obtain ⟨b, o, kd, s, i, rfl, hbl, a1, a2, a3, lo, hi⟩ := steps_at hr hf p.below k (by rw [HN.out]; exact hlt)
      rcases (show kd = 0 ∨ kd = 1 ∨ kd = 2 ∨ kd = 3 ∨ (kd ≠ 0 ∧ kd ≠ 1 ∧ kd ≠ 2 ∧ kd ≠ 3) by omega) with rfl | rfl | rfl | rfl | ⟨n0, n1, n2, n3⟩
      · -- Push
        have p1 : PH w wr.drew w.heap.size G H M q q := p.half.drewN 1
        have b2 : wr.drew.cell? ⟨b, o + k * 3 + 1, none⟩ = some (.string s) := a2
        rcases (show q.length < M ∨ q.length = M by have := p.le; omega) with hl | hl
        · have HP := Lib.hid (p1.push s hl)
          have HL := Lib.hid hl
          clear hl a2 a3 p
          go_wp2_with fail
          go_region_with (first
            | (go_at_call 13; refine HP.out.mono ?_; rintro e4 w4 ⟨rfl, ph⟩; have a24 := below_cell2 p1.below ph.below hbl b2)
            | (go_at_call 14; refine (ph.rpush s HL.out).mono ?_; rintro e5 w5 ⟨rfl, pf0⟩; have pf := pf0.full))
          all_goals
            clear HP p1 b2 a24 ph a1
            have hle := pf.le
            obtain ⟨k0, A2, c2, k1⟩ := pf.cells
            have hlen := fun d => (pf.drewN d).len
            have hroom := fun d => (pf.drewN d).room
            generalize hL : List.length _ = L at hle k1 hlen hroom
            clear hL
            have hwr := wrap_i64 (x := (M : Int) - (L : Int)) (by omega) (by omega)
            have HLEN := Lib.hid hlen
            have HROOM := Lib.hid hroom
            clear hlen hroom
            go_wp2_with fail
            go_quiet ((first | (go_at_call 20; exact still_left (HLEN.out _)) | (go_at_call 21; exact still_any (HROOM.out _))))
            go_wp2_with fail
            go_roundw
            case rel => exact ⟨k + 1, _, by omega, by go_num, pf.drewN _⟩
            case measure => simp [intOf]; omega
        · have HP := Lib.hid (p1.full_ s hl)
          have HL := Lib.hid hl
          clear hl a2 a3 p
          go_wp2_with fail
          go_region_with (first
            | (go_at_call 13; refine HP.out.mono ?_; rintro e4 w4 ⟨rfl, rfl⟩)
            | (go_at_call 14; refine (p1.rfull s HL.out).mono ?_; rintro e5 w5 ⟨rfl, pf0⟩; have pf := pf0.full))
          all_goals
            clear HP p1 b2 a1
            have hle := pf.le
            obtain ⟨k0, A2, c2, k1⟩ := pf.cells
            have hlen := fun d => (pf.drewN d).len
            have hroom := fun d => (pf.drewN d).room
            generalize hL : List.length _ = L at hle k1 hlen hroom
            clear hL
            have hwr := wrap_i64 (x := (M : Int) - (L : Int)) (by omega) (by omega)
            have HLEN := Lib.hid hlen
            have HROOM := Lib.hid hroom
            clear hlen hroom
            go_wp2_with fail
            go_quiet ((first | (go_at_call 20; exact still_left (HLEN.out _)) | (go_at_call 21; exact still_any (HROOM.out _))))
            go_wp2_with fail
            go_roundw
            case rel => exact ⟨k + 1, _, by omega, by go_num, pf.drewN _⟩
            case measure => simp [intOf]; omega
      · -- Pop
        rcases q with _ | ⟨x, q⟩
        · have HP := Lib.hid p.gone
          have HR := Lib.hid p.rgone
          clear a2 a3
          go_wp2_with fail
          refine HP.out.mono ?_
          rintro e4 w4 ⟨rfl, rfl⟩
          go_wp2_with fail
          refine HR.out.mono ?_
          rintro e5 w5 ⟨rfl, rfl⟩
          clear HP HR
          have hle := p.le
          obtain ⟨k0, A2, c2, k1⟩ := p.cells
          have hlen := fun d => (p.drewN d).len
          have hroom := fun d => (p.drewN d).room
          generalize hL : List.length _ = L at hle k1 hlen hroom
          clear hL
          have hwr := wrap_i64 (x := (M : Int) - (L : Int)) (by omega) (by omega)
          have HLEN := Lib.hid hlen
          have HROOM := Lib.hid hroom
          clear hlen hroom
          go_wp2_with fail
          go_quiet ((first | (go_at_call 20; exact still_left (HLEN.out _)) | (go_at_call 21; exact still_any (HROOM.out _))))
          go_wp2_with fail
          go_roundw
          case rel => exact ⟨k + 1, _, by omega, by go_num, p.drewN _⟩
          case measure => simp [intOf]; omega
        · have HP := Lib.hid p.half.pop
          clear a2 a3 p
          go_wp2_with fail
          refine HP.out.mono ?_
          rintro e4 w4 ⟨rfl, ph⟩
          go_wp2_with fail
          refine ph.rpop.mono ?_
          rintro e5 w5 ⟨rfl, pf0⟩
          have pf := pf0.full
          clear HP ph pf0
          have hle := pf.le
          obtain ⟨k0, A2, c2, k1⟩ := pf.cells
          have hlen := fun d => (pf.drewN d).len
          have hroom := fun d => (pf.drewN d).room
          generalize hL : List.length _ = L at hle k1 hlen hroom
          clear hL
          have hwr := wrap_i64 (x := (M : Int) - (L : Int)) (by omega) (by omega)
          have HLEN := Lib.hid hlen
          have HROOM := Lib.hid hroom
          clear hlen hroom
          go_wp2_with fail
          go_quiet ((first | (go_at_call 20; exact still_left (HLEN.out _)) | (go_at_call 21; exact still_any (HROOM.out _))))
          go_wp2_with fail
          go_roundw
          case rel => exact ⟨k + 1, _, by omega, by go_num, pf.drewN _⟩
          case measure => simp [intOf]; omega
      · -- At
        rcases (show (i < 0 ∨ ((q.length : Nat) : Int) ≤ i) ∨ (0 ≤ i ∧ i < ((q.length : Nat) : Int)) by omega) with hi' | ⟨hi0, hi1⟩
        · have HP := Lib.hid (p.no i hi')
          have HR := Lib.hid (p.rno i hi')
          clear a2 hi'
          go_wp2_with fail
          refine HP.out.mono ?_
          rintro e4 w4 ⟨rfl, rfl⟩
          go_wp2_with fail
          refine HR.out.mono ?_
          rintro e5 w5 ⟨rfl, rfl⟩
          clear HP HR a3
          have hle := p.le
          obtain ⟨k0, A2, c2, k1⟩ := p.cells
          have hlen := fun d => (p.drewN d).len
          have hroom := fun d => (p.drewN d).room
          generalize hL : List.length _ = L at hle k1 hlen hroom
          clear hL
          have hwr := wrap_i64 (x := (M : Int) - (L : Int)) (by omega) (by omega)
          have HLEN := Lib.hid hlen
          have HROOM := Lib.hid hroom
          clear hlen hroom
          go_wp2_with fail
          go_quiet ((first | (go_at_call 20; exact still_left (HLEN.out _)) | (go_at_call 21; exact still_any (HROOM.out _))))
          go_wp2_with fail
          go_roundw
          case rel => exact ⟨k + 1, _, by omega, by go_num, p.drewN _⟩
          case measure => simp [intOf]; omega
        · obtain ⟨j, rfl⟩ : ∃ j : Nat, i = j := ⟨i.toNat, by omega⟩
          have hj : j < q.length := by omega
          have HP := Lib.hid (p.at_ j hj)
          have pb := p.below
          clear a2 hi0 hi1
          go_wp2_with fail
          refine HP.out.mono ?_
          rintro e4 w4 ⟨rfl, p4⟩
          have HR := Lib.hid (p4.rat j hj)
          have a34 := below_cell2 pb p4.below hbl a3
          obtain ⟨x, hx⟩ : ∃ x, x = q[j] := ⟨_, rfl⟩
          rw [← hx] at HR ⊢
          clear hx a3 p pb HP
          go_wp2_with fail
          refine HR.out.mono ?_
          rintro e5 w5 ⟨rfl, rfl⟩
          clear HR a34
          have hle := p4.le
          obtain ⟨k0, A2, c2, k1⟩ := p4.cells
          have hlen := fun d => (p4.drewN d).len
          have hroom := fun d => (p4.drewN d).room
          generalize hL : List.length _ = L at hle k1 hlen hroom
          clear hL
          have hwr := wrap_i64 (x := (M : Int) - (L : Int)) (by omega) (by omega)
          have HLEN := Lib.hid hlen
          have HROOM := Lib.hid hroom
          clear hlen hroom
          go_wp2_with fail
          go_quiet ((first | (go_at_call 20; exact still_left (HLEN.out _)) | (go_at_call 21; exact still_any (HROOM.out _))))
          go_wp2_with fail
          go_roundw
          case rel => exact ⟨k + 1, _, by omega, by go_num, p4.drewN _⟩
          case measure => simp [intOf]; omega
      · -- Clear
        have HP := Lib.hid p.clear
        clear a2 a3 p
        go_wp2_with fail
        refine HP.out.mono ?_
        rintro e4 w4 ⟨rfl, ⟨u, hu⟩, hfz, p4⟩
        clear HP
        go_wp2_with fail
        generalize w4.setCell ⟨H, 1, none⟩ (.slice none 0 0) = w5 at p4 ⊢
        clear hu hfz
        have hle := p4.le
        obtain ⟨k0, A2, c2, k1⟩ := p4.cells
        have hlen := fun d => (p4.drewN d).len
        have hroom := fun d => (p4.drewN d).room
        generalize hL : List.length _ = L at hle k1 hlen hroom
        clear hL
        have hwr := wrap_i64 (x := (M : Int) - (L : Int)) (by omega) (by omega)
        have HLEN := Lib.hid hlen
        have HROOM := Lib.hid hroom
        clear hlen hroom
        go_wp2_with fail
        go_quiet ((first | (go_at_call 20; exact still_left (HLEN.out _)) | (go_at_call 21; exact still_any (HROOM.out _))))
        go_wp2_with fail
        go_roundw
        case rel => exact ⟨k + 1, _, by omega, by go_num, p4.drewN _⟩
        case measure => simp [intOf]; omega
      · -- nothing
        have m0 : (kd == 0) = false := by simpa using n0
        have m1 : (kd == 1) = false := by simpa using n1
        have m2 : (kd == 2) = false := by simpa using n2
        have m3 : (kd == 3) = false := by simpa using n3
        clear n0 n1 n2 n3 a2 a3
        have hle := p.le
        obtain ⟨k0, A2, c2, k1⟩ := p.cells
        have hlen := fun d => (p.drewN d).len
        have hroom := fun d => (p.drewN d).room
        generalize hL : List.length _ = L at hle k1 hlen hroom
        clear hL
        have hwr := wrap_i64 (x := (M : Int) - (L : Int)) (by omega) (by omega)
        have HLEN := Lib.hid hlen
        have HROOM := Lib.hid hroom
        clear hlen hroom
        go_wp2_with fail
        go_quiet ((first | (go_at_call 20; exact still_left (HLEN.out _)) | (go_at_call 21; exact still_any (HROOM.out _))))
        go_wp2_with fail
        go_roundw
        case rel => exact ⟨k + 1, _, by omega, by go_num, p.drewN _⟩
        case measure => simp [intOf]; omega
    · obtain rfl : n = k := by omega
      have dk : decide ((n : Int) < (n : Int)) = false := decide_eq_false (by omega)
      go_wp2_with fail
      refine (works_any wr).mono ?_
      rintro e7 w7 ⟨rfl, hb7⟩
      go_wp2_with fail
      go_ret
      exact ⟨rfl, below_then p.below (Nat.le_refl _) hb7⟩

theorem ringPlays_walk (a : Int) (A : Option Addr) (n c : Nat) (rows : List (List Value)) (w : World) (ha : (Lit.int .i64 a).wf = true) (h1 : n ≤ c) (h2 : c ≤ maxLen) (h3 : rows.length = n) (h4 : Rows_ w w.heap.size A 3 rows) (h5 : ∀ row ∈ rows, StepRow row) :
    Calls Try.prog 3 #[.int .i64 a, .slice A n c] w fun e w' => e = .returned (.bool true) ∧ Below w.heap.size w w' := by
  obtain ⟨lo, hi⟩ := wf_i64 ha
  by_cases hb : 300 < n ∨ (2000 < a ∧ a ≤ 1048576)
  · exact ringPlays_big a A n c w hb (Nat.le_trans h1 h2)
  · by_cases hz : a < 1 ∨ 1048576 < a
    · exact ringPlays_none a A n c w (by omega) hz lo hi
    · obtain ⟨M, rfl⟩ : ∃ M : Nat, a = M := ⟨a.toNat, by omega⟩
      exact ringPlays_small M A n c rows w h3 (by omega) (by omega) h4 h5
end Go.Proofs.Ytlfebfgdgjaidaa
