/-
  Package bodies: the numbers of a body, numbers appended, the flags, two chunks alike.
-/
import Derived.Test.YtalgkokgaibloaaBodW
import Derived.Test.YtalgkokgaibloaaCut
namespace Go.Proofs.Ytalgkokgaibloaa
open Go.RowKit
set_option linter.unusedVariables false

theorem word_any (A : Option Addr) (n c a : Nat) (xs : List UInt8) (w : World) (hn : n ≤ 140737488355328) (ha : a ≤ 140737488355328) (hx : xs.length = n) (hr : Rd w w.heap.size A xs) :
    Calls Try.prog 52 #[.slice A n c, .int .i64 a] w fun e w' => e = .returned (.int .u32 (numO xs a 4)) ∧ w = w' := by
  have hb : numO xs a 4 < 4294967296 := numO_lt xs a 4
  have HC : Hid (Calls Try.prog 71 #[.slice A n c, .int .i64 a, .int .i64 4] w fun e w' => ∃ x : Int, e = .returned (.tuple #[.int .u64 (numO xs a 4), .int .i64 x]) ∧ w = w') := Lib.hid (by
    by_cases h : a + 4 ≤ n
    · rw [numO_in (by omega)]
      exact (get_yes _ A n c a 4 xs w (by unfold maxLen; omega) hx hr (.inr (.inr (.inl rfl))) h).mono fun e w' ⟨he, hw⟩ => ⟨_, he, hw⟩
    · rw [numO_out (by omega)]
      exact (get_no A n c a 4 w (by unfold maxLen; omega) (fun ⟨_, h1, h2, h3, h4⟩ => by omega)).mono fun e w' ⟨he, hw⟩ => ⟨_, he, hw⟩)
  obtain ⟨q, hq⟩ : ∃ q, q = numO xs a 4 := ⟨_, rfl⟩
  rw [← hq] at HC hb ⊢
  clear hq hx hr
  go_enter Try.func52, Try.ntmps52
  go_wp2_with fail
  refine HC.out.mono ?_
  rintro e w' ⟨x, rfl, rfl⟩
  go_wp2_with fail
  go_ret
  exact ⟨rfl, rfl⟩
theorem half_any (A : Option Addr) (n c a : Nat) (xs : List UInt8) (w : World) (hn : n ≤ 140737488355328) (ha : a ≤ 140737488355330) (hx : xs.length = n) (hr : Rd w w.heap.size A xs) :
    Calls Try.prog 53 #[.slice A n c, .int .i64 a] w fun e w' => e = .returned (.int .u16 (numO xs a 2)) ∧ w = w' := by
  have hb : numO xs a 2 < 65536 := numO_lt xs a 2
  have HC : Hid (Calls Try.prog 71 #[.slice A n c, .int .i64 a, .int .i64 2] w fun e w' => ∃ x : Int, e = .returned (.tuple #[.int .u64 (numO xs a 2), .int .i64 x]) ∧ w = w') := Lib.hid (by
    by_cases h : a + 2 ≤ n
    · rw [numO_in (by omega)]
      exact (get_yes _ A n c a 2 xs w (by unfold maxLen; omega) hx hr (.inr (.inl rfl)) h).mono fun e w' ⟨he, hw⟩ => ⟨_, he, hw⟩
    · rw [numO_out (by omega)]
      exact (get_no A n c a 2 w (by unfold maxLen; omega) (fun ⟨_, h1, h2, h3, h4⟩ => by omega)).mono fun e w' ⟨he, hw⟩ => ⟨_, he, hw⟩)
  obtain ⟨q, hq⟩ : ∃ q, q = numO xs a 2 := ⟨_, rfl⟩
  rw [← hq] at HC hb ⊢
  clear hq hx hr
  go_enter Try.func53, Try.ntmps53
  go_wp2_with fail
  refine HC.out.mono ?_
  rintro e w' ⟨x, rfl, rfl⟩
  go_wp2_with fail
  go_ret
  exact ⟨rfl, rfl⟩

set_option maxHeartbeats 1000000 in
/-- Numbers appended; FN, KK, the conversion's spelling. -/
theorem add_u32 (s base : Nat) (hs : IsSize s) (A : Option Addr) (n c : Nat) (xs : List UInt8) (A' : Option Addr) (m c' : Nat) (vs : List Int) (w : World) (ho : Own8 w 5 base A n c xs) (hbase : base ≤ w.heap.size)
    (hv : vs.length = m) (hk : ∀ W, Wr 5 base w W → Ri .u32 W W.heap.size A' vs) (hw : ∀ x ∈ vs, 0 ≤ x ∧ x < 4294967296) (hbig : n + 8 * m ≤ 140737488355300) :
    Calls Try.prog 48 #[.slice A n c, .int .i64 s, .slice A' m c'] w fun e w' => ∃ A2 c2, e = .returned (.slice A2 (n + s * m : Nat) c2) ∧ Own8 w' 5 base A2 (n + s * m) c2 (xs ++ numsB s vs) ∧ Wr 5 base w w' := by
  have hs8 : 1 ≤ s ∧ s ≤ 8 := by unfold IsSize at hs; omega
  obtain ⟨i8, h8⟩ := Try.ty8
  have HS := Lib.hid hs
  have HV := Lib.hid hv
  have HK := Lib.hid hk
  have HW := Lib.hid hw
  have HN := Lib.hid ho.len
  have hm : m ≤ 140737488355300 := by omega
  clear hs hv hk hw
  go_enter Try.func48, Try.ntmps48
  go_wp2_with fail
  go_loopw [0, 11] (fun b i wr => ∃ (k n1 c1 : Nat) (A1 : Option Addr), k ≤ m ∧ i = .int .i64 k ∧ b = .slice A1 n1 c1 ∧ Hid (n1 = n + s * k) ∧ Own8 wr 5 base A1 n1 c1 (xs ++ numsB s (vs.take k)) ∧ Wr 5 base w wr) (fun _ i _ => m - (intOf i).toNat)
  case atStart => exact ⟨0, n, c, A, Nat.zero_le _, rfl, rfl, Lib.hid (by omega), by simpa [numsB] using ho, Wr.refl _ _ _⟩
  case round =>
    clear ho
    obtain ⟨k, n1, c1, A1, hkm, rfl, rfl, HN1, ho, hwr⟩ := hrel
    by_cases hlt : k < m
    · have hri := HK.out _ hwr
      obtain ⟨gb, go, hAe, hgl, hcx⟩ := hri.at_ (by intro e; have := HV.out; rw [e] at this; simp at this; omega)
      subst hAe
      have hkl : k < vs.length := by rw [HV.out]; exact hlt
      obtain ⟨x, hx⟩ : ∃ x, x = vs[k] := ⟨_, rfl⟩
      have hc := hcx k hkl
      rw [← hx] at hc
      have hxb := HW.out x (by rw [hx]; exact List.getElem_mem hkl)
      have HT : Hid (numsB s (vs.take (k + 1)) = numsB s (vs.take k) ++ enc x.toNat s) := Lib.hid (by
        rw [numsB_take s vs k hkl, ← hx]
        congr 2
        omega)
      have hxe : (x : Int) = ((x.toNat : Nat) : Int) := by omega
      obtain ⟨q, hq⟩ : ∃ q, q = x.toNat := ⟨_, rfl⟩
      rw [← hq] at HT hxe
      have hqb : q < 4294967296 := by omega
      subst hxe
      clear hx hcx hri hxb hq
      have HP := Lib.hid (put_yes none 0 0 q s [] wr (by omega) (by omega) rfl (Rd.nil _ _ _) HS.out)
      have HO := Lib.hid ho
      have HWR := Lib.hid hwr
      have HSZ := Lib.hid (Nat.le_trans hbase hwr.size)
      clear ho hwr
      go_wp2_with fail
      refine HP.out.mono ?_
      rintro e w1 ⟨g, rfl, hg, hrow, hb1⟩
      have HO1 := HO.out.below hb1 (Nat.le_refl _)
      have hsz1 : base ≤ w1.heap.size := Nat.le_trans HSZ.out hb1.size
      have HR1 := hrow.rd 0 _ (fun j hj => by rw [Nat.zero_add])
      have HWR1 := HWR.out.then_ hb1
      have hn1 : n1 ≤ 140737488355300 - 8 := by
        have h1 := HN1.out
        have h2 : s * k ≤ 8 * k := Nat.mul_le_mul_right k hs8.2
        omega
      clear hb1 hrow hg
      go_wp2_with (at_builtin; refine wpList_append8 h8 _ rfl _ _ rfl base _ _ _ _ rfl HO1 _ _ _ _ _ rfl (by simp [length_enc]) HR1 (by omega) hsz1 ?_; intro A2 c2 w2 ho2 hg2 hh2)
      go_roundw
      case rel => exact ⟨k + 1, n1 + s, c2, A2, by omega, by go_num, rfl, Lib.hid (by have := HN1.out; rw [Nat.mul_succ]; omega), by rw [HT.out, ← List.append_assoc]; simpa only [Nat.zero_add, List.nil_append] using ho2, HWR1.trans (Wr.of_grown HO1 hg2)⟩
      case measure => simp [intOf]; omega
    · obtain rfl : k = m := by omega
      have ht : vs.take k = vs := List.take_of_length_le (by rw [HV.out]; exact Nat.le_refl _)
      rw [ht] at ho
      have HNN := HN1.out
      clear ht HK HV
      go_wp2_with fail
      go_ret
      subst HNN
      exact ⟨A1, c1, rfl, ho, hwr⟩
end Go.Proofs.Ytalgkokgaibloaa
