/-
  OctetOrder, walked.
-/
import Derived.Test.YthhmdbgmokdadaaLaw1b
import Derived.Test.YthhmdbgmokdadaaOrder
import Derived.Deep.RegionWith
import Derived.Deep.RegionHeld3
import Derived.Deep.DrawnRows
namespace Go.Proofs.Ythhmdbgmokdadaa
open Go.RowKit
set_option linter.unusedVariables false
attribute [local go_sem ↓] Go.wp_at_zero Go.wp_at_succ

def sizeAt (k : Nat) : Nat := match k with | 0 => 1 | 1 => 2 | 2 => 4 | _ => 8
theorem sizeAt_is (k : Nat) : IsSize (sizeAt k) := by
  match k with
  | 0 => exact .inl rfl
  | 1 => exact .inr (.inl rfl)
  | 2 => exact .inr (.inr (.inl rfl))
  | _ + 3 => exact .inr (.inr (.inr rfl))
theorem sizes_cell (w : World) (t : TypeId) (k : Nat) (h : k < 4) : (w.alloc (.cells #[.int .i64 1, .int .i64 2, .int .i64 4, .int .i64 8] t)).cell? ⟨w.heap.size, k, none⟩ = some (.int .i64 (sizeAt k)) := by
  rw [World.cell?_alloc_at _ _ _ _ rfl]
  match k, h with
  | 0, _ => rfl
  | 1, _ => rfl
  | 2, _ => rfl
  | 3, _ => rfl

/-- Put onto nothing, and what its bytes read as in whatever comes behind. -/
theorem put_nil (x s : Nat) (w : World) (hxb : x < 18446744073709551616) (hs : IsSize s) :
    Calls Try.prog 16 #[.slice none 0 0, .int .u64 x, .int .i64 s] w fun e w' => ∃ g, e = .returned (.slice (some ⟨g, 0, none⟩) s s) ∧ Below w.heap.size w w' ∧
      ∀ W, Below w'.heap.size w' W → (convert 22 9 (.slice (some ⟨g, 0, none⟩) s s)).run Try.prog W = .ok (.string (strOf (enc x s))) W := by
  refine (put_yes none 0 0 x s [] w (by omega) hxb rfl (Rd.nil _ _ _) hs).mono fun e w' ⟨g, he, hg, hrow, hb⟩ => ⟨g, by simpa using he, hb, fun W hW => ?_⟩
  exact run_str8 ((hrow.below hW hrow.lt).rd 0 _ (fun j hj => by rw [Nat.zero_add]; rfl)) (length_enc x s) s Try.underlying22 Try.underlying5 Try.underlying9

theorem toList_strOf (xs : List UInt8) : (strOf xs).toList = xs := by rw [ByteArray.toList_eq]; rfl
theorem less_enc (x y s : Nat) (hx : x < 256 ^ s) (hy : y < 256 ^ s) : Op.bytesLess (strOf (enc x s)).toList (strOf (enc y s)).toList = decide (x < y) := by
  rw [toList_strOf, toList_strOf, bytesLess_enc, Nat.mod_eq_of_lt hx, Nat.mod_eq_of_lt hy]

theorem shr_nat (x k : Nat) : ((x : Int) / 2 ^ k) = ((x / 2 ^ k : Nat) : Int) := by
  rw [Int.natCast_ediv, Int.natCast_pow]; rfl
theorem shr_zero (x k : Nat) (h : x / 2 ^ k = 0) : (((x : Int) / 2 ^ k) != 0) = false := by
  rw [shr_nat, h]; rfl
theorem shr_some (x k : Nat) (h : ¬ x / 2 ^ k = 0) : (((x : Int) / 2 ^ k) != 0) = true := by
  rw [shr_nat, bne_iff_ne]; omega

set_option maxHeartbeats 1000000 in
theorem octetOrder_nat (x y : Nat) (w : World) (hx : x < 18446744073709551616) (hy : y < 18446744073709551616) :
    Calls Try.prog 9 #[.int .u64 x, .int .u64 y] w fun e w' => e = .returned (.bool true) ∧ Below w.heap.size w w' := by
  have hsz := sizes_cell w 3
  have HX := Lib.hid hx
  have HY := Lib.hid hy
  have HSZ := Lib.hid hsz
  clear hsz hx hy
  go_enter Try.func9, Try.ntmps9
  go_wp2
  go_loopw [6] (fun i wr => ∃ k : Nat, k ≤ 4 ∧ i = .int .i64 k ∧ Below (w.heap.size + 1) (w.alloc (.cells #[.int .i64 1, .int .i64 2, .int .i64 4, .int .i64 8] 3)) wr) (fun i _ => 4 - (intOf i).toNat)
  case atStart => exact ⟨0, by omega, rfl, Below.refl _ _⟩
  case round =>
    obtain ⟨k, hk, rfl, hb⟩ := hrel
    by_cases hlt : k < 4
    · have hc := (hb.cell (p := ⟨w.heap.size, k, none⟩) (Nat.lt_succ_self _)).trans (HSZ.out k hlt)
      have hsis := sizeAt_is k
      obtain ⟨s, hs⟩ : ∃ s : Nat, s = sizeAt k := ⟨_, rfl⟩
      rw [← hs] at hc hsis
      have hs8 : 1 ≤ s ∧ s ≤ 8 := by unfold IsSize at hsis; omega
      have HS := Lib.hid hsis
      clear hs hsis
      have hpow : (256 : Nat) ^ s = 2 ^ (8 * s) := by rw [Nat.pow_mul]
      by_cases h8 : s < 8
      · by_cases hxz : x / 2 ^ (8 * s) = 0
        · have hx0 := shr_zero x (8 * s) hxz
          by_cases hyz : y / 2 ^ (8 * s) = 0
          · have hy0 := shr_zero y (8 * s) hyz
            have hcmp := less_enc x y s (by rw [hpow]; exact (Nat.div_eq_zero_iff_lt (Nat.pow_pos (by decide))).1 hxz) (by rw [hpow]; exact (Nat.div_eq_zero_iff_lt (Nat.pow_pos (by decide))).1 hyz)
            clear hpow hxz hyz
            go_wp2
            go_region_with (first | (go_at_call_of 16 (x : Int); refine (put_nil x s _ HX.out HS.out).mono ?_; rintro e w1 ⟨g1, rfl, hb1, hst1⟩; have hst1a := hst1 _ (Below.refl _ _)) | (go_at_call_of 16 (y : Int); refine (put_nil y s _ HY.out HS.out).mono ?_; rintro e w2 ⟨g2, rfl, hb2, hst2⟩; have hst1b := hst1 _ hb2; have hst2a := hst2 _ (Below.refl _ _)))
            all_goals
              go_wp2
              go_roundw
              case rel => exact ⟨k + 1, by omega, by go_num, below_then (below_then hb.drew (by simp) hb1) (by simp) hb2⟩
              case measure => simp [intOf]; omega
          · have hy0 := shr_some y (8 * s) hyz
            clear hpow hxz hyz
            go_wp2
            go_roundw
            case rel => exact ⟨k + 1, by omega, by go_num, hb⟩
            case measure => simp [intOf]; omega
        · have hx0 := shr_some x (8 * s) hxz
          clear hpow hxz
          go_wp2
          go_roundw
          case rel => exact ⟨k + 1, by omega, by go_num, hb⟩
          case measure => simp [intOf]; omega
      · obtain rfl : s = 8 := by omega
        have hcmp := less_enc x y 8 HX.out HY.out
        clear hpow
        go_wp2
        go_region_with (first | (go_at_call_of 16 (x : Int); refine (put_nil x 8 _ HX.out HS.out).mono ?_; rintro e w1 ⟨g1, rfl, hb1, hst1⟩; have hst1a := hst1 _ (Below.refl _ _)) | (go_at_call_of 16 (y : Int); refine (put_nil y 8 _ HY.out HS.out).mono ?_; rintro e w2 ⟨g2, rfl, hb2, hst2⟩; have hst1b := hst1 _ hb2; have hst2a := hst2 _ (Below.refl _ _)))
        all_goals
          go_wp2
          go_roundw
          case rel => exact ⟨k + 1, by omega, by go_num, below_then (below_then hb.drew (by simp) hb1) (by simp) hb2⟩
          case measure => simp [intOf]; omega
    · obtain rfl : k = 4 := by omega
      go_wp2_with (go_at_call 11; refine (works_any _).mono ?_; rintro e w' ⟨rfl, hb9⟩)
      go_ret
      exact ⟨rfl, ((below_new w _).trans (hb.mono (by omega))).trans (hb9.mono (Nat.le_trans (by simp) hb.size))⟩

theorem octetOrder_walk (x y : Int) (w : World) (hx : (Lit.int .u64 x).wf = true) (hy : (Lit.int .u64 y).wf = true) :
    Calls Try.prog 9 #[.int .u64 x, .int .u64 y] w fun e w' => e = .returned (.bool true) ∧ Below w.heap.size w w' := by
  have hb : 0 ≤ x ∧ x ≤ 18446744073709551615 := by simpa [Lit.wf, IntKind.min, IntKind.max, IntKind.signed, IntKind.bits] using hx
  have hc : 0 ≤ y ∧ y ≤ 18446744073709551615 := by simpa [Lit.wf, IntKind.min, IntKind.max, IntKind.signed, IntKind.bits] using hy
  obtain ⟨a, rfl⟩ := Int.eq_ofNat_of_zero_le hb.1
  obtain ⟨b, rfl⟩ := Int.eq_ofNat_of_zero_le hc.1
  exact octetOrder_nat a b w (by omega) (by omega)
end Go.Proofs.Ythhmdbgmokdadaa
