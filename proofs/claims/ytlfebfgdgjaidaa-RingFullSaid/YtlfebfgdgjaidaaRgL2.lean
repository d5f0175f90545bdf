/-
  Layer 5 (ring): RingFull, walked.
-/
import Derived.Test.YtlfebfgdgjaidaaRgOU
import Derived.Test.YtlfebfgdgjaidaaRgW
import Derived.Test.YtlfebfgdgjaidaaRgL1
namespace Go.Proofs.Ytlfebfgdgjaidaa
open Go.RowKit
set_option linter.unusedVariables false

theorem wf_u16' {a : Int} (h : (Lit.int .u16 a).wf = true) : 0 ≤ a ∧ a ≤ 65535 := by
  simp [Lit.wf, IntKind.min, IntKind.max, IntKind.signed, IntKind.bits] at h
  omega
theorem wf_u32' {a : Int} (h : (Lit.int .u32 a).wf = true) : 0 ≤ a ∧ a < 4294967296 := by
  simp [Lit.wf, IntKind.min, IntKind.max, IntKind.signed, IntKind.bits] at h
  omega

set_option maxHeartbeats 3200000 in
set_option maxRecDepth 100000 in
theorem ringFull_walk (a x : Int) (w : World) (hwa : (Lit.int .u16 a).wf = true) (hwx : (Lit.int .u32 x).wf = true) : Calls Try.prog 6 #[.int .u16 a, .int .u32 x] w fun e w' => e = .returned (.bool true) ∧ Below w.heap.size w w' := by
  obtain ⟨a0, a1⟩ := wf_u16' hwa
  obtain ⟨x0, x1⟩ := wf_u32' hwx
  clear hwa hwx
  obtain ⟨n, hn⟩ : ∃ n : Nat, (n : Int) = 1 + a % 3000 := ⟨(1 + a % 3000).toNat, by omega⟩
  have n1 : 1 ≤ n := by omega
  have n2 : n ≤ 3000 := by omega
  have HN := Lib.hid hn
  clear hn
  go_enter Try.func6, Try.ntmps6
  go_wp2_with fail
  rw [← HN.out]
  refine (rgU_new n (Below.refl w.heap.size w) (Nat.le_refl _) (by omega)).mono ?_
  rintro e w1 ⟨g, rfl, h⟩
  go_wp2_with fail
  go_loopw [8] (fun t wr => ∃ k : Nat, k ≤ 2 ∧ t = .int .i64 k ∧ RgU w wr w.heap.size g n []) (fun t _ => 2 - (intOf t).toNat)
  case atStart => exact ⟨0, by omega, rfl, h⟩
  case round =>
    obtain ⟨k, hk, rfl, hr⟩ := hrel
    by_cases hlt : k < 2
    · have hd2 : decide ((k : Int) < 2) = true := decide_eq_true (by omega)
      go_wp2_with fail
      go_loopw [9] (fun i wr => ∃ (j : Nat) (q : List Int), j ≤ n ∧ i = .int .i64 j ∧ Hid (q.length = j) ∧ Hid (0 < j → ∃ q', q = x :: q') ∧ RgU w wr w.heap.size g n q) (fun i _ => n - (intOf i).toNat)
      case atStart => exact ⟨0, [], by omega, rfl, Lib.hid rfl, Lib.hid (fun h => absurd h (by omega)), hr⟩
      case round =>
        obtain ⟨j, q, hj, rfl, HL, HX, hr⟩ := hrel
        by_cases hjn : j < n
        · have hroom := hr.room
          rw [HL.out] at hroom
          have HR := Lib.hid hroom
          clear hroom
          go_wp2_with fail
          refine HR.out.mono ?_
          rintro e w2 ⟨rfl, hr2⟩
          go_wp2_with fail
          refine (hr2.push ((x + (j : Int)) % 4294967296) (by have := HL.out; omega)).mono ?_
          rintro e w3 ⟨rfl, hr3⟩
          have HL3 : Hid ((q ++ [(x + (j : Int)) % 4294967296]).length = j + 1) := Lib.hid (by have := HL.out; simp; omega)
          have HX3 : Hid (0 < j + 1 → ∃ q', q ++ [(x + (j : Int)) % 4294967296] = x :: q') := Lib.hid (fun _ => by
            rcases Nat.eq_zero_or_pos j with h0 | h0
            · subst h0
              have hq : q = [] := List.eq_nil_of_length_eq_zero HL.out
              subst hq
              exact ⟨[], by simp; omega⟩
            · obtain ⟨q', hq⟩ := HX.out h0
              exact ⟨_, by rw [hq]; rfl⟩)
          clear hr hr2 HR
          go_wp2_with fail
          go_roundw
          case rel => exact ⟨j + 1, _, by omega, by go_num, HL3, HX3, hr3⟩
          case measure => simp [intOf]; omega
        · obtain rfl : j = n := by omega
          obtain ⟨q', rfl⟩ := HX.out (by omega)
          go_wp2_with fail
          refine hr.pop.mono ?_
          rintro e w2 ⟨rfl, hr2⟩
          go_wp2_with fail
          refine (hr2.push x (by have := HL.out; simp at this; omega)).mono ?_
          rintro e w3 ⟨rfl, hr3⟩
          go_wp2_with fail
          refine (hr3.full x (by have := HL.out; simp at this ⊢; omega)).mono ?_
          rintro e w4 ⟨rfl, rfl⟩
          have HL3 : Hid ((q' ++ [x]).length = j) := Lib.hid (by have := HL.out; simp at this ⊢; omega)
          have hlen := hr3.len
          have hroom := hr3.room
          rw [HL3.out] at hlen hroom
          have HLEN := Lib.hid hlen
          have HROOM := Lib.hid hroom
          clear hlen hroom
          go_wp2_with fail
          refine HLEN.out.mono ?_
          rintro e w4 ⟨rfl, rfl⟩
          go_wp2_with fail
          refine HROOM.out.mono ?_
          rintro e w4 ⟨rfl, hr4⟩
          go_wp2_with fail
          refine hr4.clear.mono ?_
          rintro e w5 ⟨rfl, hr5⟩
          go_wp2_with fail
          refine hr5.gone.mono ?_
          rintro e w6 ⟨rfl, rfl⟩
          go_wp2_with fail
          refine hr5.len.mono ?_
          rintro e w6 ⟨rfl, rfl⟩
          go_wp2_with fail
          refine hr5.room.mono ?_
          rintro e w6 ⟨rfl, hr6⟩
          go_wp2_with fail
          go_roundw
          case rel => exact ⟨k + 1, by omega, by go_num, hr6⟩
          case measure => simp [intOf]; omega
    · obtain rfl : k = 2 := by omega
      go_wp2_with fail
      refine (works_any wr).mono ?_
      rintro e w2 ⟨rfl, hb⟩
      go_wp2_with fail
      go_ret
      exact ⟨rfl, below_then hr.below (Nat.le_refl _) hb⟩
end Go.Proofs.Ytlfebfgdgjaidaa
