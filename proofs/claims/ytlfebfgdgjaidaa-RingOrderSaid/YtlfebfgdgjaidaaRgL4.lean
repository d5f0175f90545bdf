/-
  Layer 5 (ring): RingOrder, walked.
-/
import Derived.Test.YtlfebfgdgjaidaaRgRW
import Derived.Test.YtlfebfgdgjaidaaRgW
import Derived.Maps.AppendAt
namespace Go.Proofs.Ytlfebfgdgjaidaa
open Go.RowKit
set_option linter.unusedVariables false

set_option maxRecDepth 100000 in
set_option maxHeartbeats 1600000 in
theorem ringOrder_big (a : Int) (A : Option Addr) (n c : Nat) (A' : Option Addr) (n' c' : Nat) (w : World) (h : 300 < n ∨ 300 < n') (hm : n ≤ maxLen) (hm' : n' ≤ maxLen) :
    Calls Try.prog 4 #[.int .u8 a, .slice A n c, .slice A' n' c'] w fun e w' => e = .returned (.bool true) ∧ Below w.heap.size w w' := by
  unfold maxLen at hm hm'
  rcases (show 300 < n ∨ (n ≤ 300 ∧ 300 < n') by omega) with h | ⟨h, h'⟩
  · have d1 : decide ((300 : Int) < (n : Int)) = true := decide_eq_true (by omega)
    go_enter Try.func4, Try.ntmps4
    go_wp2_with fail
    refine (works_any w).mono ?_
    rintro e w1 ⟨rfl, hb1⟩
    go_wp2_with fail
    go_ret
    exact ⟨rfl, hb1⟩
  · have d1 : decide ((300 : Int) < (n : Int)) = false := decide_eq_false (by omega)
    have d2 : decide ((300 : Int) < (n' : Int)) = true := decide_eq_true (by omega)
    go_enter Try.func4, Try.ntmps4
    go_wp2_with fail
    refine (works_any w).mono ?_
    rintro e w1 ⟨rfl, hb1⟩
    go_wp2_with fail
    go_ret
    exact ⟨rfl, hb1⟩

set_option maxRecDepth 100000 in
set_option maxHeartbeats 6400000 in
theorem ringOrder_small (a : Int) (A : Option Addr) (n c : Nat) (A' : Option Addr) (n' c' : Nat) (xs : List Int) (ps : List UInt8) (w : World) (ha : 0 ≤ a ∧ a ≤ 255) (hn : xs.length = n) (hn' : ps.length = n') (h : n ≤ 300) (h' : n' ≤ 300)
    (hr : Ri .u32 w w.heap.size A xs) (hr' : Rd w w.heap.size A' ps) :
    Calls Try.prog 4 #[.int .u8 a, .slice A n c, .slice A' n' c'] w fun e w' => e = .returned (.bool true) ∧ Below w.heap.size w w' := by
  obtain ⟨i0, hi, hz0, hz1, hz2⟩ := info_parts Try.infoU
  have HI := Lib.hid hi
  have HZ0 := Lib.hid hz0
  have HZ1 := Lib.hid hz1
  have HZ2 := Lib.hid hz2
  have HN := Lib.hid hn
  have HN' := Lib.hid hn'
  have d1 : decide ((300 : Int) < (n : Int)) = false := decide_eq_false (by omega)
  have d2 : decide ((300 : Int) < (n' : Int)) = false := decide_eq_false (by omega)
  obtain ⟨M, hM⟩ : ∃ M : Nat, (M : Int) = 1 + a := ⟨(1 + a).toNat, by omega⟩
  have hM1 : 1 ≤ M := by omega
  have hM2 : M ≤ 256 := by omega
  have HM := Lib.hid hM
  clear hi hz0 hz1 hz2 hn hn' hM
  go_enter Try.func4, Try.ntmps4
  go_wp2_with fail
  rw [← HM.out]
  refine (newU_any M w (by omega)).mono ?_
  rintro e w1 ⟨rfl, h1, hb1⟩
  have H1 : RW w w1 w.heap.size (w.heap.size + 1) M [] (.slice none 0 0) [] := RW.start h1 (Nat.le_refl _) (by omega) (by omega) hb1 (Nat.le_refl _)
  obtain ⟨G, hG⟩ : ∃ G, G = w.heap.size + 1 := ⟨_, rfl⟩
  rw [← hG] at H1 ⊢
  clear h1 hb1 hG
  go_wp2_with fail
  go_loopw [10, 11, 12] (fun v z i wr => ∃ (k f m c : Nat) (A : Option Addr) (Z : List Int), k ≤ n ∧ i = .int .i64 k ∧ z = .int .i64 f ∧ v = .slice A m c ∧ Hid (Z.length = m) ∧ f ≤ m ∧ m ≤ k ∧ RW w wr w.heap.size G M (Z.drop f) (.slice A m c) Z) (fun _ _ i _ => n - (intOf i).toNat)
  case atStart => exact ⟨0, 0, 0, 0, none, [], Nat.zero_le _, rfl, rfl, rfl, Lib.hid rfl, Nat.le_refl _, Nat.le_refl _, H1⟩
  case round =>
    obtain ⟨k, f, m, c2, A2, Z, hk, rfl, rfl, rfl, HZ, hfm, hmk, hrw⟩ := hrel
    by_cases hlt : k < n
    · obtain ⟨b, o, rfl, hbl, hcx⟩ := (hr.below hrw.below).at_ (by intro e; have := HN.out; rw [e] at this; simp at this; omega)
      have hkx : k < xs.length := by rw [HN.out]; exact hlt
      have ca := hcx k hkx
      obtain ⟨x, hx⟩ : ∃ x, x = xs[k] := ⟨_, rfl⟩
      rw [← hx] at ca
      have dk : decide ((k : Int) < (n : Int)) = true := decide_eq_true (by omega)
      have hql : (Z.drop f).length = m - f := by rw [List.length_drop, HZ.out]
      have HQL := Lib.hid hql
      clear hcx hx hql
      have hle := hrw.le
      rw [HQL.out] at hle
      by_cases hfits : m - f < M
      · have df : decide ((m : Int) - (f : Int) < (M : Int)) = true := decide_eq_true (by omega)
        have HP := Lib.hid (hrw.push x (by rw [HQL.out]; exact hfits))
        go_wp2_with fail
        refine HP.out.mono ?_
        rintro e w3 ⟨rfl, hrw3⟩
        have ca3 : w3.cell? ⟨b, o + k, none⟩ = some (.int .u32 x) := ((hrw3.below.cell hbl).trans (hrw.below.cell hbl).symm).trans ca
        have HO := Lib.hid (hrw3.want.alloc (.cells #[.int .u32 x] 47))
        clear ca hrw HP
        go_wp2_with (at_builtin; refine wpList_append_own_at _ rfl _ _ 42 rfl w.heap.size 47 i0 _ 1 4 Try.underlying42 HI.out HZ0.out HZ1.out HZ2.out rfl (by decide) _ Z.length (Z.map (Value.int .u32)) rfl (HO.out) ⟨w3.heap.size, 0, none⟩ 1 1 [.int .u32 x] rfl rfl (cell_one_new w3 _ _) (by intro u hu; simp at hu; rw [hu]; rfl) (by rw [HZ.out]; unfold maxLen; omega) (by rw [HZ.out]; omega) (by have := hrw3.below.size; simp; omega) (fun v' w4 hown' hgrow hnil hat => ?_); obtain ⟨A4, c4, m4, rfl, HZ4, hrw4⟩ := RW.append hrw3 hown' hgrow (fun h hh => by rcases hat with e | e; exact .inl (e.symm.trans hh); rw [e] at hh; injection hh with hh; right; rw [← hh]; simp); clear hown' hgrow hnil hat)
        have hm4 : m4 = m + 1 := by have := HZ4.out; rw [List.length_append, HZ.out] at this; simpa using this.symm
        rw [← List.drop_append_of_le_length (by rw [HZ.out]; exact hfm)] at hrw4
        obtain ⟨Z4, hZ4⟩ : ∃ Z4, Z4 = Z ++ [x] := ⟨_, rfl⟩
        rw [← hZ4] at hrw4 HZ4
        have hm4a : f ≤ m4 := by omega
        have hm4b : m4 ≤ k + 1 := by omega
        clear hZ4 ca3 HO hrw3 hm4
        have dfm : f ≤ m4 := by omega
        clear HQL
        go_wp2_with fail
        go_loopw [11, 14] (fun z j wr => ∃ (e f : Nat), e ≤ 5 ∧ j = .int .i64 e ∧ z = .int .i64 f ∧ f ≤ m4 ∧ RW w wr w.heap.size G M (Z4.drop f) (.slice A4 m4 c4) Z4) (fun _ j _ => 5 - (intOf j).toNat)
        case atStart => exact ⟨0, f, by omega, rfl, rfl, dfm, hrw4⟩
        case round =>
          obtain ⟨e, f2, he, rfl, rfl, hf2, hrw5⟩ := hrel
          by_cases hkp : k < n'
          · obtain ⟨b', o', rfl, hbl', hcy⟩ := (hr'.below hrw5.below).at_ (by intro e; have := HN'.out; rw [e] at this; simp at this; omega)
            have hkp' : k < ps.length := by rw [HN'.out]; exact hkp
            have cb := hcy k hkp'
            obtain ⟨p, hp⟩ : ∃ p : Nat, p = (ps[k]).toNat := ⟨_, rfl⟩
            have hp2 : p ≤ 255 := by rw [hp]; have := (ps[k]).toNat_lt; omega
            rw [← hp] at cb
            have dkp : decide ((k : Int) < (n' : Int)) = true := decide_eq_true (by omega)
            clear hcy hp
            by_cases hep : e < p % 5
            · have dep : decide ((e : Int) < (p : Int) % 5) = true := decide_eq_true (by omega)
              by_cases hne : f2 < m4
              · have hfz : f2 < Z4.length := by rw [HZ4.out]; exact hne
                rw [List.drop_eq_getElem_cons hfz] at hrw5
                have HP := Lib.hid hrw5.pop
                have dfl : decide ((f2 : Int) < (m4 : Int)) = true := decide_eq_true (by omega)
                clear hrw5
                go_wp2_with fail
                refine HP.out.mono ?_
                rintro e6 w6 ⟨rfl, hrw6⟩
                obtain ⟨gw, hA, _, _, cw⟩ := hrw6.want.cell f2 hfz
                obtain ⟨y, hy⟩ : ∃ y, y = Z4[f2] := ⟨_, rfl⟩
                rw [← hy] at cw ⊢
                subst hA
                clear hy cb HP
                go_wp2_with fail
                go_roundw
                case rel => exact ⟨e + 1, f2 + 1, by omega, by go_num, by go_num, by omega, hrw6⟩
                case measure => simp [intOf]; omega
              · obtain rfl : m4 = f2 := by omega
                rw [List.drop_of_length_le (by rw [HZ4.out]; exact Nat.le_refl _)] at hrw5
                have HP := Lib.hid hrw5.gone
                go_wp2_with fail
                refine HP.out.mono ?_
                rintro e6 w6 ⟨rfl, rfl⟩
                clear cb HP
                go_wp2_with fail
                go_roundw
                case rel => exact ⟨e + 1, m4, by omega, by go_num, rfl, Nat.le_refl _, by rw [List.drop_of_length_le (by rw [HZ4.out]; exact Nat.le_refl _)]; exact hrw5⟩
                case measure => simp [intOf]; omega
            · have dep : decide ((e : Int) < (p : Int) % 5) = false := decide_eq_false (by omega)
              go_wp2_with fail
              go_roundw
              case rel => exact ⟨k + 1, f2, m4, c4, A4, Z4, by omega, by go_num, rfl, rfl, HZ4, hf2, by omega, hrw5⟩
              case measure => simp [intOf]; omega
          · have dkp : decide ((k : Int) < (n' : Int)) = false := decide_eq_false (by omega)
            go_wp2_with fail
            go_roundw
            case rel => exact ⟨k + 1, f2, m4, c4, A4, Z4, by omega, by go_num, rfl, rfl, HZ4, hf2, by omega, hrw5⟩
            case measure => simp [intOf]; omega
      · have df : decide ((m : Int) - (f : Int) < (M : Int)) = false := decide_eq_false (by omega)
        have HP := Lib.hid (hrw.full x (by rw [HQL.out]; omega))
        go_wp2_with fail
        refine HP.out.mono ?_
        rintro e w3 ⟨rfl, rfl⟩
        clear HP
        have dfm : f ≤ m := by omega
        clear HQL
        go_wp2_with fail
        go_loopw [11, 14] (fun z j wr => ∃ (e f : Nat), e ≤ 5 ∧ j = .int .i64 e ∧ z = .int .i64 f ∧ f ≤ m ∧ RW w wr w.heap.size G M (Z.drop f) (.slice A2 m c2) Z) (fun _ j _ => 5 - (intOf j).toNat)
        case atStart => exact ⟨0, f, by omega, rfl, rfl, dfm, hrw⟩
        case round =>
          obtain ⟨e, f2, he, rfl, rfl, hf2, hrw5⟩ := hrel
          by_cases hkp : k < n'
          · obtain ⟨b', o', rfl, hbl', hcy⟩ := (hr'.below hrw5.below).at_ (by intro e; have := HN'.out; rw [e] at this; simp at this; omega)
            have hkp' : k < ps.length := by rw [HN'.out]; exact hkp
            have cb := hcy k hkp'
            obtain ⟨p, hp⟩ : ∃ p : Nat, p = (ps[k]).toNat := ⟨_, rfl⟩
            have hp2 : p ≤ 255 := by rw [hp]; have := (ps[k]).toNat_lt; omega
            rw [← hp] at cb
            have dkp : decide ((k : Int) < (n' : Int)) = true := decide_eq_true (by omega)
            clear hcy hp
            by_cases hep : e < p % 5
            · have dep : decide ((e : Int) < (p : Int) % 5) = true := decide_eq_true (by omega)
              by_cases hne : f2 < m
              · have hfz : f2 < Z.length := by rw [HZ.out]; exact hne
                rw [List.drop_eq_getElem_cons hfz] at hrw5
                have HP := Lib.hid hrw5.pop
                have dfl : decide ((f2 : Int) < (m : Int)) = true := decide_eq_true (by omega)
                clear hrw5
                go_wp2_with fail
                refine HP.out.mono ?_
                rintro e6 w6 ⟨rfl, hrw6⟩
                obtain ⟨gw, hA, _, _, cw⟩ := hrw6.want.cell f2 hfz
                obtain ⟨y, hy⟩ : ∃ y, y = Z[f2] := ⟨_, rfl⟩
                rw [← hy] at cw ⊢
                subst hA
                clear hy cb HP
                go_wp2_with fail
                go_roundw
                case rel => exact ⟨e + 1, f2 + 1, by omega, by go_num, by go_num, by omega, hrw6⟩
                case measure => simp [intOf]; omega
              · obtain rfl : m = f2 := by omega
                rw [List.drop_of_length_le (by rw [HZ.out]; exact Nat.le_refl _)] at hrw5
                have HP := Lib.hid hrw5.gone
                go_wp2_with fail
                refine HP.out.mono ?_
                rintro e6 w6 ⟨rfl, rfl⟩
                clear cb HP
                go_wp2_with fail
                go_roundw
                case rel => exact ⟨e + 1, m, by omega, by go_num, rfl, Nat.le_refl _, by rw [List.drop_of_length_le (by rw [HZ.out]; exact Nat.le_refl _)]; exact hrw5⟩
                case measure => simp [intOf]; omega
            · have dep : decide ((e : Int) < (p : Int) % 5) = false := decide_eq_false (by omega)
              go_wp2_with fail
              go_roundw
              case rel => exact ⟨k + 1, f2, m, c2, A2, Z, by omega, by go_num, rfl, rfl, HZ, hf2, by omega, hrw5⟩
              case measure => simp [intOf]; omega
          · have dkp : decide ((k : Int) < (n' : Int)) = false := decide_eq_false (by omega)
            go_wp2_with fail
            go_roundw
            case rel => exact ⟨k + 1, f2, m, c2, A2, Z, by omega, by go_num, rfl, rfl, HZ, hf2, by omega, hrw5⟩
            case measure => simp [intOf]; omega
    · obtain rfl : n = k := by omega
      go_wp2_with fail
      go_loopw [11] (fun z wr => ∃ f : Nat, z = .int .i64 f ∧ f ≤ m ∧ RW w wr w.heap.size G M (Z.drop f) (.slice A2 m c2) Z) (fun z _ => m - (intOf z).toNat)
      case atStart => exact ⟨f, rfl, hfm, hrw⟩
      case round =>
        obtain ⟨f2, rfl, hf2, hrw5⟩ := hrel
        by_cases hne : f2 < m
        · have hfz : f2 < Z.length := by rw [HZ.out]; exact hne
          rw [List.drop_eq_getElem_cons hfz] at hrw5
          have HP := Lib.hid hrw5.pop
          have dfl : decide ((f2 : Int) < (m : Int)) = true := decide_eq_true (by omega)
          clear hrw5
          go_wp2_with fail
          refine HP.out.mono ?_
          rintro e6 w6 ⟨rfl, hrw6⟩
          obtain ⟨gw, hA, _, _, cw⟩ := hrw6.want.cell f2 hfz
          obtain ⟨y, hy⟩ : ∃ y, y = Z[f2] := ⟨_, rfl⟩
          rw [← hy] at cw ⊢
          subst hA
          clear hy HP
          go_wp2_with fail
          go_roundw
          case rel => exact ⟨f2 + 1, by go_num, by omega, hrw6⟩
          case measure => simp [intOf]; omega
        · obtain rfl : m = f2 := by omega
          rw [List.drop_of_length_le (by rw [HZ.out]; exact Nat.le_refl _)] at hrw5
          go_wp2_with fail
          refine hrw5.len.mono ?_
          rintro e6 w6 ⟨rfl, rfl⟩
          go_wp2_with fail
          refine hrw5.room.mono ?_
          rintro e6 w6 ⟨rfl, hrw6⟩
          go_wp2_with fail
          refine (works_any _).mono ?_
          rintro e7 w7 ⟨rfl, hb7⟩
          go_wp2_with fail
          go_ret
          exact ⟨rfl, below_then hrw6.below (Nat.le_refl _) hb7⟩
theorem wf_u8' {a : Int} (h : (Lit.int .u8 a).wf = true) : 0 ≤ a ∧ a ≤ 255 := by
  simp [Lit.wf, IntKind.min, IntKind.max, IntKind.signed, IntKind.bits] at h
  omega
theorem ringOrder_walk (a : Int) (A : Option Addr) (n c : Nat) (xs : List Int) (A' : Option Addr) (n' c' : Nat) (ps : List UInt8) (w : World) (ha : (Lit.int .u8 a).wf = true) (h1 : n ≤ c) (h2 : c ≤ maxLen) (h3 : xs.length = n) (h4 : Ri .u32 w w.heap.size A xs) (h5 : ∀ x ∈ xs, (Lit.int .u32 x).wf = true)
    (k1 : n' ≤ c') (k2 : c' ≤ maxLen) (k3 : ps.length = n') (k4 : Rd w w.heap.size A' ps) :
    Calls Try.prog 4 #[.int .u8 a, .slice A n c, .slice A' n' c'] w fun e w' => e = .returned (.bool true) ∧ Below w.heap.size w w' := by
  by_cases hb : 300 < n ∨ 300 < n'
  · exact ringOrder_big a A n c A' n' c' w hb (Nat.le_trans h1 h2) (Nat.le_trans k1 k2)
  · exact ringOrder_small a A n c A' n' c' xs ps w (wf_u8' ha) h3 k3 (by omega) (by omega) h4 k4
end Go.Proofs.Ytlfebfgdgjaidaa
