/-
  Package bodies: two chunks alike (the code's), gaps that lie apart (the code's and the reference's), numbers of the reference.
-/
import Derived.Test.YtalgkokgaibloaaBodR
import Derived.Test.YtalgkokgaibloaaPut
import Derived.Test.YtalgkokgaibloaaGet
namespace Go.Proofs.Ytalgkokgaibloaa
open Go.RowKit
set_option linter.unusedVariables false

set_option maxHeartbeats 1000000 in
theorem sameC_any (k f k' f' : UInt8) (A A' : Option Addr) (n n' c c' : Nat) (xs ys : List UInt8) (w : World) (hx : xs.length = n) (hy : ys.length = n') (hr : Rd w w.heap.size A xs) (hr' : Rd w w.heap.size A' ys) :
    Calls Try.prog 79 #[.agg #[.int .u8 (k.toNat : Int), .int .u8 (f.toNat : Int), .slice A n c], .agg #[.int .u8 (k'.toNat : Int), .int .u8 (f'.toNat : Int), .slice A' n' c']] w fun e w' => e = .returned (.bool (decide (k = k' ∧ f = f' ∧ xs = ys))) ∧ Below w.heap.size w w' := by
  have HC : Hid (∀ W : World, Below w.heap.size w W → Calls Try.prog 85 #[.slice A n c, .slice A' n' c'] W fun e w' => e = .returned (.bool (decide (xs = ys))) ∧ W = w') := Lib.hid fun W hW => bytesEqual_any A A' n n' c c' xs ys W hx hy _ _ (hr.below hW) (hr'.below hW)
  have HB := Lib.hid ((below_new w (.cells #[.int .u8 (k.toNat : Int), .int .u8 (f.toNat : Int), .slice A n c] 28)).alloc (by simp) (.cells #[.int .u8 (k'.toNat : Int), .int .u8 (f'.toNat : Int), .slice A' n' c'] 28))
  clear hx hy hr hr'
  by_cases hk : k = k'
  · subst hk
    by_cases hf : f = f'
    · subst hf
      obtain ⟨d, hd⟩ : ∃ d, d = decide (xs = ys) := ⟨_, rfl⟩
      have hdd : decide (k = k ∧ f = f ∧ xs = ys) = d := by rw [hd]; simp
      rw [hdd]
      rw [← hd] at HC
      clear hd hdd
      go_enter Try.func79, Try.ntmps79
      go_wp2_with fail
      refine (HC.out _ HB.out).mono ?_
      rintro e w1 ⟨rfl, rfl⟩
      go_wp2_with fail
      go_ret
      exact ⟨rfl, HB.out⟩
    · have hb := byte_ne hf
      have hdd : decide (k = k ∧ f = f' ∧ xs = ys) = false := by simp [hf]
      rw [hdd]
      clear hdd hf
      go_enter Try.func79, Try.ntmps79
      go_wp2_with fail
      go_ret
      exact ⟨rfl, HB.out⟩
  · have hb := byte_ne hk
    have hdd : decide (k = k' ∧ f = f' ∧ xs = ys) = false := by simp [hk]
    rw [hdd]
    clear hdd hk
    go_enter Try.func79, Try.ntmps79
    go_wp2_with fail
    go_ret
    exact ⟨rfl, HB.out⟩

theorem number_any (A : Option Addr) (n c a s : Nat) (xs : List UInt8) (w : World) (hs : IsSize s) (hn : n ≤ 140737488355328) (ha : a ≤ 140737488355330) (hc : n ≤ c) (hcm : c ≤ maxLen) (hx : xs.length = n) (hr : Rd w w.heap.size A xs) :
    Calls Try.prog 56 #[.slice A n c, .int .i64 a, .int .i64 s] w fun e w' => e = .returned (.int .u64 (numO xs a s)) ∧ Below w.heap.size w w' := by
  have HC : Hid (Calls Try.prog 80 #[.slice A n c, .int .i64 a, .int .i64 s] w fun e w' => ∃ x : Int, e = .returned (.tuple #[.int .u64 (numO xs a s), .int .i64 x]) ∧ Below w.heap.size w w') := Lib.hid (by
    by_cases h : a + s ≤ n
    · rw [numO_in (by omega)]
      exact (refGet_yes A n c a s xs w hn hc hcm hx hr hs h).mono fun e w' ⟨he, hw⟩ => ⟨_, he, hw⟩
    · rw [numO_out (by omega)]
      exact (refGet_out A n c a s w (by unfold maxLen; omega) (fun ⟨h1, h2, h3, h4⟩ => by omega)).mono fun e w' ⟨he, hw⟩ => ⟨_, he, hw⟩)
  obtain ⟨q, hq⟩ : ∃ q, q = numO xs a s := ⟨_, rfl⟩
  rw [← hq] at HC ⊢
  clear hq hx hr hs
  go_enter Try.func56, Try.ntmps56
  go_wp2_with fail
  refine HC.out.mono ?_
  rintro e w' ⟨x, rfl, hb⟩
  go_wp2_with fail
  go_ret
  exact ⟨rfl, hb⟩

/-- How far the gaps ahead of number k lie apart; where the last of them ends. -/
def lastG : Nat → List (Nat × Nat) → Nat
  | a, [] => a
  | _, g :: l => lastG g.2 l
theorem apartG_snoc (g : Nat × Nat) : ∀ (l : List (Nat × Nat)) (a : Nat), apartG a (l ++ [g]) = (apartG a l && (decide (lastG a l + 2 ≤ g.1) && decide (g.1 ≤ g.2)))
  | [], a => by rw [List.nil_append, apartG, apartG, apartG, lastG, Bool.and_true, Bool.true_and]
  | x :: l, a => by
    rw [List.cons_append, apartG, apartG_snoc g l x.2, apartG, lastG]
    simp only [Bool.and_assoc]
theorem lastG_snoc (g : Nat × Nat) : ∀ (l : List (Nat × Nat)) (a : Nat), lastG a (l ++ [g]) = g.2
  | [], a => rfl
  | x :: l, a => by rw [List.cons_append, lastG, lastG_snoc g l x.2]
theorem take_snoc {α : Type} (l : List α) (k : Nat) (h : k < l.length) : l.take (k + 1) = l.take k ++ [l[k]] := by
  rw [List.take_add_one, List.getElem?_eq_getElem h]; rfl
theorem apartG_cut {l : List (Nat × Nat)} {k : Nat} (hk : k ≤ l.length) (h : apartG 0 (l.take k) = false) : apartG 0 l = false := by
  have key : ∀ (m r : List (Nat × Nat)) (a : Nat), apartG a m = false → apartG a (m ++ r) = false := by
    intro m
    induction m with
    | nil => intro r a h; cases h
    | cons x m ih =>
      intro r a h
      rw [apartG] at h
      rw [List.cons_append, apartG]
      simp only [Bool.and_eq_false_iff] at h ⊢
      rcases h with h | h
      · exact .inl h
      · exact .inr (ih r _ h)
  rw [← List.take_append_drop k l]
  exact key _ _ _ h

/-! ### The walks -/
set_option maxHeartbeats 2000000 in
theorem areApart_any (A : Option Addr) (m c : Nat) (L : List (Nat × Nat)) (w : World) (hm : m ≤ 1099511627776) (hx : L.length = m) (hr : Rg w 0 w.heap.size A L) (hbd : ∀ g ∈ L, g.1 < 65536 ∧ g.2 < 65536) :
    Calls Try.prog 68 #[.slice A m c] w fun e w' => e = .returned (.bool (apartG 0 L)) ∧ Below w.heap.size w w' := by
  have HX := Lib.hid hx
  have HR := Lib.hid hr
  have HBD := Lib.hid hbd
  have hz := zero_gap
  clear hx hr hbd
  go_enter Try.func68, Try.ntmps68
  go_wp2_with fail
  go_loopw [3, 8] (fun l i wr => ∃ k e : Nat, k ≤ m ∧ i = .int .i64 k ∧ l = .int .i64 e ∧ e < 65536 ∧ Hid (lastG 0 (L.take k) = e) ∧ Hid (apartG 0 (L.take k) = true) ∧ Below w.heap.size w wr) (fun _ i _ => m - (intOf i).toNat)
  case atStart => exact ⟨0, 0, Nat.zero_le _, rfl, rfl, by omega, Lib.hid rfl, Lib.hid rfl, Below.refl _ _⟩
  case round =>
    obtain ⟨k, e, hkm, rfl, rfl, he, HL, HA, hbel⟩ := hrel
    by_cases hlt : k < m
    · have hrg := HR.out.below_ hbel
      obtain ⟨gb, go, hAe, _, hgl, hcx⟩ := hrg.at_ (by intro e; have := HX.out; rw [e] at this; simp at this; omega)
      subst hAe
      have hkl : k < L.length := by rw [HX.out]; exact hlt
      obtain ⟨pa, hpa⟩ : ∃ pa, pa = L[k].1 := ⟨_, rfl⟩
      obtain ⟨pb, hpb⟩ : ∃ pb, pb = L[k].2 := ⟨_, rfl⟩
      have hc0 := (hcx k hkl).1
      have hc1 := (hcx k hkl).2
      rw [← hpa] at hc0
      rw [← hpb] at hc1
      have hpab := HBD.out _ (List.getElem_mem hkl)
      rw [← hpa, ← hpb] at hpab
      have hpa1 := hpab.1
      have hpb1 := hpab.2
      have HT : Hid (apartG 0 (L.take (k + 1)) = (decide (e + 2 ≤ pa) && decide (pa ≤ pb))) := Lib.hid (by rw [take_snoc L k hkl, apartG_snoc, HA.out, HL.out, ← hpa, ← hpb, Bool.true_and])
      have HT2 : Hid (lastG 0 (L.take (k + 1)) = pb) := Lib.hid (by rw [take_snoc L k hkl, lastG_snoc, ← hpb])
      have HB := Lib.hid hbel
      clear hpa hpb hcx hrg hpab hbel
      have HB2 := Lib.hid (HB.out.alloc HB.out.size (.cells #[.int .u16 (pa : Int), .int .u16 (pb : Int)] 79))
      by_cases h1 : pb < pa
      · have HF : Hid (apartG 0 L = false) := Lib.hid (apartG_cut (k := k + 1) (by have := HX.out; omega) (by rw [HT.out]; simp; omega))
        have hd : decide ((pb : Int) < (pa : Int)) = true := decide_eq_true (by omega)
        go_wp2_with fail
        go_ret
        exact ⟨ret_bool HF.out.symm, HB2.out⟩
      · have hd : decide ((pb : Int) < (pa : Int)) = false := decide_eq_false (by omega)
        by_cases h2 : pa < e + 2
        · have HF : Hid (apartG 0 L = false) := Lib.hid (apartG_cut (k := k + 1) (by have := HX.out; omega) (by rw [HT.out]; simp; omega))
          have hd2 : decide ((pa : Int) < (e : Int) + 2) = true := decide_eq_true (by omega)
          go_wp2_with fail
          go_ret
          exact ⟨ret_bool HF.out.symm, HB2.out⟩
        · have hd2 : decide ((pa : Int) < (e : Int) + 2) = false := decide_eq_false (by omega)
          have HTT : Hid (apartG 0 (L.take (k + 1)) = true) := Lib.hid (by rw [HT.out]; simp; omega)
          go_wp2_with fail
          go_roundw
          case rel => exact ⟨k + 1, pb, by omega, by go_num, rfl, hpb1, HT2, HTT, HB2.out⟩
          case measure => simp [intOf]; omega
    · obtain rfl : k = m := by omega
      have ht : L.take k = L := List.take_of_length_le (by rw [HX.out]; exact Nat.le_refl _)
      rw [ht] at HA
      clear ht
      go_wp2_with fail
      go_ret
      exact ⟨ret_bool HA.out.symm, hbel⟩
set_option maxHeartbeats 2000000 in
theorem refApart_any (A : Option Addr) (m c : Nat) (L : List (Nat × Nat)) (w : World) (hm : m ≤ 1099511627776) (hx : L.length = m) (hr : Rg w 0 w.heap.size A L) (hbd : ∀ g ∈ L, g.1 < 65536 ∧ g.2 < 65536) :
    Calls Try.prog 69 #[.slice A m c] w fun e w' => e = .returned (.bool (apartG 0 L)) ∧ Below w.heap.size w w' := by
  have HX := Lib.hid hx
  have HR := Lib.hid hr
  have HBD := Lib.hid hbd
  have hz := zero_gap
  clear hx hr hbd
  go_enter Try.func69, Try.ntmps69
  go_wp2_with fail
  go_loopw [3, 4] (fun l i wr => ∃ k e : Nat, k ≤ m ∧ i = .int .i64 k ∧ l = .int .i64 e ∧ e < 65536 ∧ Hid (lastG 0 (L.take k) = e) ∧ Hid (apartG 0 (L.take k) = true) ∧ Below w.heap.size w wr) (fun _ i _ => m - (intOf i).toNat)
  case atStart => exact ⟨0, 0, Nat.zero_le _, rfl, rfl, by omega, Lib.hid rfl, Lib.hid rfl, Below.refl _ _⟩
  case round =>
    obtain ⟨k, e, hkm, rfl, rfl, he, HL, HA, hbel⟩ := hrel
    by_cases hlt : k < m
    · have hrg := HR.out.below_ hbel
      obtain ⟨gb, go, hAe, _, hgl, hcx⟩ := hrg.at_ (by intro e; have := HX.out; rw [e] at this; simp at this; omega)
      subst hAe
      have hkl : k < L.length := by rw [HX.out]; exact hlt
      obtain ⟨pa, hpa⟩ : ∃ pa, pa = L[k].1 := ⟨_, rfl⟩
      obtain ⟨pb, hpb⟩ : ∃ pb, pb = L[k].2 := ⟨_, rfl⟩
      have hc0 := (hcx k hkl).1
      have hc1 := (hcx k hkl).2
      rw [← hpa] at hc0
      rw [← hpb] at hc1
      have hpab := HBD.out _ (List.getElem_mem hkl)
      rw [← hpa, ← hpb] at hpab
      have hpa1 := hpab.1
      have hpb1 := hpab.2
      have HT : Hid (apartG 0 (L.take (k + 1)) = (decide (e + 2 ≤ pa) && decide (pa ≤ pb))) := Lib.hid (by rw [take_snoc L k hkl, apartG_snoc, HA.out, HL.out, ← hpa, ← hpb, Bool.true_and])
      have HT2 : Hid (lastG 0 (L.take (k + 1)) = pb) := Lib.hid (by rw [take_snoc L k hkl, lastG_snoc, ← hpb])
      have HB := Lib.hid hbel
      clear hpa hpb hcx hrg hpab hbel
      by_cases h2 : pa < e + 2
      · have HF : Hid (apartG 0 L = false) := Lib.hid (apartG_cut (k := k + 1) (by have := HX.out; omega) (by rw [HT.out]; simp; omega))
        have hd2 : decide ((pa : Int) < (e : Int) + 2) = true := decide_eq_true (by omega)
        go_wp2_with fail
        go_quiet (fail)
        go_wp2_with fail
        go_ret
        exact ⟨ret_bool HF.out.symm, below_drewN HB.out _⟩
      · have hd2 : decide ((pa : Int) < (e : Int) + 2) = false := decide_eq_false (by omega)
        by_cases h1 : pb < pa
        · have HF : Hid (apartG 0 L = false) := Lib.hid (apartG_cut (k := k + 1) (by have := HX.out; omega) (by rw [HT.out]; simp; omega))
          have hd : decide ((pb : Int) < (pa : Int)) = true := decide_eq_true (by omega)
          go_wp2_with fail
          go_quiet (fail)
          go_wp2_with fail
          go_ret
          exact ⟨ret_bool HF.out.symm, below_drewN HB.out _⟩
        · have hd : decide ((pb : Int) < (pa : Int)) = false := decide_eq_false (by omega)
          have HTT : Hid (apartG 0 (L.take (k + 1)) = true) := Lib.hid (by rw [HT.out]; simp; omega)
          go_wp2_with fail
          go_quiet (fail)
          go_wp2_with fail
          go_roundw
          case rel => exact ⟨k + 1, pb, by omega, by go_num, rfl, hpb1, HT2, HTT, below_drewN HB.out _⟩
          case measure => simp [intOf]; omega
    · obtain rfl : k = m := by omega
      have ht : L.take k = L := List.take_of_length_le (by rw [HX.out]; exact Nat.le_refl _)
      rw [ht] at HA
      clear ht
      go_wp2_with fail
      go_ret
      exact ⟨ret_bool HA.out.symm, hbel⟩
end Go.Proofs.Ytalgkokgaibloaa
