/-
  Layer 4 (spans): the law's own helpers: within, filled, works.
-/
import Derived.Test.YtmalmpdopifadaaSpL1
namespace Go.Proofs.Ytmalmpdopifadaa
open Go.RowKit
set_option linter.unusedVariables false

theorem inB_true {xs : List Int} {x : Int} {k : Nat} (hx : 0 ≤ x) (hw : inW x.toNat = true) (hk : k < xs.length) (he : xs[k] = x) : inB xs x.toNat = true := by
  unfold inB
  rw [hw, Bool.true_and, List.any_eq_true]
  exact ⟨xs[k], List.getElem_mem hk, by rw [he]; simp; omega⟩
theorem inB_false {xs : List Int} {x : Int} (hx : 0 ≤ x) (he : ∀ j (hj : j < xs.length), xs[j] ≠ x) : inB xs x.toNat = false := by
  unfold inB
  rw [Bool.and_eq_false_iff, List.any_eq_false]
  refine .inr fun y hy => ?_
  obtain ⟨j, hj, rfl⟩ := List.mem_iff_getElem.1 hy
  have := he j hj
  simp; omega
theorem inB_out {xs : List Int} {d : Nat} (hw : inW d = false) : inB xs d = false := by unfold inB; rw [hw]; rfl

set_option maxHeartbeats 800000 in
theorem within_law (A : Option Addr) (n c B : Nat) (xs : List Int) (x : Int) (w : World) (hn : xs.length = n) (hm : n ≤ 4096) (hr : Ri .u32 w B A xs) (hx : 0 ≤ x ∧ x < 4294967296) :
    Calls Try.prog 29 #[.slice A n c, .int .u32 x] w fun e w' => e = .returned (.bool (inB xs x.toNat)) ∧ w = w' := by
  have HN := Lib.hid hn
  clear hn
  by_cases hw : inW x.toNat = true
  · have hx1 : 1 ≤ x ∧ x ≤ 4096 := by unfold inW at hw; simp at hw; omega
    have HW := Lib.hid hw
    clear hw
    go_enter Try.func29, Try.ntmps29
    go_wp2_with fail
    go_loop [5] (fun i => ∃ k : Nat, k ≤ n ∧ i = .int .i64 k ∧ Hid (∀ j (hj : j < xs.length), j < k → xs[j] ≠ x)) (fun i => n - (intOf i).toNat)
    case atStart => exact ⟨0, Nat.zero_le _, rfl, Lib.hid (fun j hj hk => by omega)⟩
    case round =>
      obtain ⟨k, hk, rfl, HK⟩ := hrel
      by_cases hlt : k < n
      · have hl : xs ≠ [] := by intro e; have := HN.out; rw [e] at this; simp at this; omega
        obtain ⟨b, o, rfl, hb, hc⟩ := hr.at_ hl
        have hkl : k < xs.length := by rw [HN.out]; exact hlt
        have a1 := hc k hkl
        obtain ⟨y, hy⟩ : ∃ y, y = xs[k] := ⟨_, rfl⟩
        rw [← hy] at a1
        by_cases he : y = x
        · have HT := Lib.hid (inB_true hx.1 HW.out hkl (by rw [← hy]; exact he))
          have HY : Hid (y = xs[k]) := Lib.hid hy
          clear hc hy hl
          subst he
          go_wp2_with fail
          go_ret
          exact ⟨ret_bool HT.out.symm, rfl⟩
        · have HE := Lib.hid he
          have he' : (y == x) = false := by simpa using he
          have HY : Hid (y = xs[k]) := Lib.hid hy
          clear hc hy hl he
          go_wp2_with fail
          go_round
          case rel =>
            refine ⟨k + 1, by omega, by go_num, Lib.hid (fun j hj hjk => ?_)⟩
            rcases Nat.lt_or_ge j k with h | h
            · exact HK.out j hj h
            · obtain rfl : j = k := by omega
              rw [← HY.out]; exact HE.out
          case measure => simp [intOf]; omega
      · obtain rfl : k = n := by omega
        have HF := Lib.hid (inB_false hx.1 (fun j hj => HK.out j hj (by have := HN.out; omega)))
        go_wp2_with fail
        go_ret
        exact ⟨ret_bool HF.out.symm, rfl⟩
  · have hw : inW x.toNat = false := by simpa using hw
    have HF := Lib.hid (inB_out (xs := xs) hw)
    have hx1 : x < 1 ∨ (1 ≤ x ∧ 4096 < x) := by unfold inW at hw; simp at hw; omega
    clear hw
    rcases hx1 with hx1 | ⟨hx1, hx2⟩
    all_goals
      go_enter Try.func29, Try.ntmps29
      go_wp2_with fail
      go_loop [5] (fun i => ∃ k : Nat, k ≤ n ∧ i = .int .i64 k) (fun i => n - (intOf i).toNat)
      case atStart => exact ⟨0, Nat.zero_le _, rfl⟩
      case round =>
        obtain ⟨k, hk, rfl⟩ := hrel
        by_cases hlt : k < n
        · have hl : xs ≠ [] := by intro e; have := HN.out; rw [e] at this; simp at this; omega
          obtain ⟨b, o, rfl, hb, hc⟩ := hr.at_ hl
          have hkl : k < xs.length := by rw [HN.out]; exact hlt
          have a1 := hc k hkl
          obtain ⟨y, hy⟩ : ∃ y, y = xs[k] := ⟨_, rfl⟩
          rw [← hy] at a1
          clear hc hy hl
          rcases Bool.eq_false_or_eq_true (y == x) with he | he
          all_goals
            go_wp2_with fail
            go_round
            case rel => exact ⟨k + 1, by omega, by go_num⟩
            case measure => simp [intOf]; omega
        · obtain rfl : k = n := by omega
          go_wp2_with fail
          go_ret
          exact ⟨ret_bool HF.out.symm, rfl⟩

theorem take_succ_of {xs : List Int} {k : Nat} (hk : k < xs.length) : xs.take (k + 1) = xs.take k ++ [xs[k]] := by rw [List.take_succ_eq_append_getElem hk]

set_option maxHeartbeats 800000 in
theorem filled_any (B : Int) (A : Option Addr) (n c : Nat) (xs : List Int) (w : World) (hn : xs.length = n) (hm : n ≤ 4096) (hr : Ri .u32 w w.heap.size A xs) (hxs : ∀ x ∈ xs, 0 ≤ x ∧ x < 4294967296) (hB : 0 ≤ B ∧ B < 4294967296) :
    Calls Try.prog 28 #[.int .u32 B, .slice A n c] w fun e w' => e = .returned (.pointer (some ⟨w.heap.size + 1, 0, none⟩)) ∧ SpSet w' (w.heap.size + 1) w.heap.size B (inB xs) ∧ Below w.heap.size w w' := by
  have HN := Lib.hid hn
  have HX := Lib.hid hxs
  clear hn hxs
  go_enter Try.func28, Try.ntmps28
  go_wp2_with fail
  refine (new_any B w hB).mono ?_
  rintro e w1 ⟨rfl, hset1, hb1, hs1⟩
  have HS1 := Lib.hid hs1
  clear hs1
  go_wp2_with fail
  go_loopw [6] (fun i wr => ∃ k : Nat, k ≤ n ∧ i = .int .i64 k ∧ SpSet wr (w.heap.size + 1) w.heap.size B (inB (xs.take k)) ∧ Below w.heap.size w wr) (fun i _ => n - (intOf i).toNat)
  case atStart => exact ⟨0, Nat.zero_le _, rfl, by rw [List.take_zero, inB_nil]; exact hset1, hb1⟩
  case round =>
    obtain ⟨k, hk, rfl, hset, hbel⟩ := hrel
    by_cases hlt : k < n
    · have hl : xs ≠ [] := by intro e; have := HN.out; rw [e] at this; simp at this; omega
      obtain ⟨b, o, rfl, hb, hc⟩ := (hr.below hbel).at_ hl
      have hkl : k < xs.length := by rw [HN.out]; exact hlt
      have a1 := hc k hkl
      have HT := Lib.hid (take_succ_of hkl)
      have hy0 := HX.out _ (List.getElem_mem hkl)
      obtain ⟨y, hy⟩ : ∃ y, y = xs[k] := ⟨_, rfl⟩
      rw [← hy] at a1 hy0
      have HY := Lib.hid hy
      clear hc hy hl
      go_wp2_with fail
      refine (add_any ((B + y) % 4294967296) hset (by omega)).mono ?_
      rintro e w2 ⟨rfl, hset2, htw2⟩
      have hd : dst B ((B + y) % 4294967296) = y.toNat := by unfold dst; omega
      rw [hd, ← inB_snoc _ _ hy0.1] at hset2
      clear hd
      go_wp2_with fail
      go_roundw
      case rel =>
        refine ⟨k + 1, by omega, by go_num, by rw [HT.out, ← HY.out]; exact hset2, hbel.trans (htw2.below (by simp) ?_)⟩
        exact hbel.size
      case measure => simp [intOf]; omega
    · obtain rfl : k = n := by omega
      have ht : xs.take k = xs := List.take_of_length_le (by rw [HN.out]; exact Nat.le_refl _)
      rw [ht] at hset
      clear ht
      go_wp2_with fail
      go_ret
      exact ⟨rfl, hset, hbel⟩
end Go.Proofs.Ytmalmpdopifadaa
