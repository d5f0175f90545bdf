/-
  Layer 3: SerialShift, SerialThrough, walked.
-/
import Derived.Test.YteodjppligelnaaSerL2
namespace Go.Proofs.Yteodjppligelnaa
open Go.RowKit
set_option linter.unusedVariables false

theorem ahd_shift32 (a b y : Int) : ahd 4294967296 ((a + y) % 4294967296) ((b + y) % 4294967296) = ahd 4294967296 a b := by unfold ahd; omega
theorem lss_shift32 (a b y : Int) : lss 4294967296 ((a + y) % 4294967296) ((b + y) % 4294967296) = lss 4294967296 a b := by unfold lss; rw [ahd_shift32]
theorem inn_shift32 (a b y v : Int) : inn 4294967296 ((a + y) % 4294967296) ((b + y) % 4294967296) v = inn 4294967296 a b v := by unfold inn; rw [ahd_shift32]
theorem mxx_shift32 (a b y : Int) : mxx 4294967296 ((a + y) % 4294967296) ((b + y) % 4294967296) = (mxx 4294967296 a b + y) % 4294967296 := by unfold mxx; rw [lss_shift32]; split <;> rfl
theorem ahd_shift16 (a b y : Int) : ahd 65536 (IntKind.u16.wrap (a + y)) (IntKind.u16.wrap (b + y)) = ahd 65536 a b := by rw [wrap_u16, wrap_u16]; unfold ahd; omega
theorem lss_shift16 (a b y : Int) : lss 65536 (IntKind.u16.wrap (a + y)) (IntKind.u16.wrap (b + y)) = lss 65536 a b := by unfold lss; rw [ahd_shift16]
theorem inn_shift16 (a b y v : Int) : inn 65536 (IntKind.u16.wrap (a + y)) (IntKind.u16.wrap (b + y)) v = inn 65536 a b v := by unfold inn; rw [ahd_shift16]
theorem mod32_in (a : Int) : 0 ≤ a % 4294967296 ∧ a % 4294967296 < 4294967296 := by omega
theorem wrap16_in (a : Int) : 0 ≤ IntKind.u16.wrap a ∧ IntKind.u16.wrap a < 65536 := by rw [wrap_u16]; omega

set_option maxHeartbeats 1000000 in
theorem serialShift_walk (a b y v : Int) (w : World) (ha : (Lit.int .u32 a).wf = true) (hb : (Lit.int .u32 b).wf = true) (hy : (Lit.int .u32 y).wf = true) (hv : (Lit.int .i64 v).wf = true) :
    Calls Try.prog 8 #[.agg #[.int .u32 a, .int .u32 b, .int .u32 y, .int .i64 v]] w fun e w' => e = .returned (.bool true) ∧ Below w.heap.size w w' := by
  have ha := u32_in ha
  have hb := u32_in hb
  have hy := u32_in hy
  have hv := i64_in hv
  have hc := mod16_in a
  have hd := mod16_in b
  have hm := mxx_in 4294967296 a b ha hb
  go_enter Try.func8, Try.ntmps8
  go_wp2_with fail
  refine (less_32 _ _ _ (mod32_in _) (mod32_in _)).mono ?_
  rintro e w2 ⟨rfl, rfl⟩
  rw [lss_shift32]
  go_wp2_with fail
  refine (less_32 _ _ _ ha hb).mono ?_
  rintro e w2 ⟨rfl, rfl⟩
  go_wp2_with fail
  refine (ahead_32 _ _ _ (mod32_in _) (mod32_in _)).mono ?_
  rintro e w2 ⟨rfl, rfl⟩
  rw [ahd_shift32]
  go_wp2_with fail
  refine (ahead_32 _ _ _ ha hb).mono ?_
  rintro e w2 ⟨rfl, rfl⟩
  go_wp2_with fail
  refine (in_32 _ _ _ _ (mod32_in _) (mod32_in _) hv).mono ?_
  rintro e w2 ⟨rfl, rfl⟩
  rw [inn_shift32]
  go_wp2_with fail
  refine (in_32 _ _ _ _ ha hb hv).mono ?_
  rintro e w2 ⟨rfl, rfl⟩
  go_wp2_with fail
  refine (max_32 _ _ _ (mod32_in _) (mod32_in _)).mono ?_
  rintro e w2 ⟨rfl, rfl⟩
  rw [mxx_shift32]
  go_wp2_with fail
  refine (max_32 _ _ _ ha hb).mono ?_
  rintro e w2 ⟨rfl, rfl⟩
  go_wp2_with fail
  refine (less_16 _ _ _ (wrap16_in _) (wrap16_in _)).mono ?_
  rintro e w2 ⟨rfl, rfl⟩
  rw [lss_shift16]
  go_wp2_with fail
  refine (less_16 _ _ _ hc hd).mono ?_
  rintro e w2 ⟨rfl, rfl⟩
  go_wp2_with fail
  refine (ahead_16 _ _ _ (wrap16_in _) (wrap16_in _)).mono ?_
  rintro e w2 ⟨rfl, rfl⟩
  rw [ahd_shift16]
  go_wp2_with fail
  refine (ahead_16 _ _ _ hc hd).mono ?_
  rintro e w2 ⟨rfl, rfl⟩
  go_wp2_with fail
  refine (in_16 _ _ _ _ (wrap16_in _) (wrap16_in _) hv).mono ?_
  rintro e w2 ⟨rfl, rfl⟩
  rw [inn_shift16]
  go_wp2_with fail
  refine (in_16 _ _ _ _ hc hd hv).mono ?_
  rintro e w2 ⟨rfl, rfl⟩
  go_wp2_with fail
  refine (works_any _).mono ?_
  rintro e w2 ⟨rfl, rfl⟩
  go_wp2
  go_ret
  exact ⟨rfl, below_new w _⟩

/-! ### SerialThrough -/
theorem ahd_step (a x : Int) (hx : 0 ≤ x ∧ x < 4294967296) : ahd 4294967296 a ((a + x) % 4294967296) = x := by unfold ahd; omega
theorem ahd_two (a x y : Int) : ahd 4294967296 a ((a + x + y) % 4294967296) = (x + y) % 4294967296 := by unfold ahd; omega
theorem ahd_second (a x y : Int) (hy : 0 ≤ y ∧ y < 4294967296) : ahd 4294967296 ((a + x) % 4294967296) ((a + x + y) % 4294967296) = y := by unfold ahd; omega
theorem lss_of {a b d : Int} (h : ahd 4294967296 a b = d) (h1 : 1 ≤ d) (h2 : d < 2147483648) : lss 4294967296 a b = true := by
  unfold lss
  rw [h, Bool.and_eq_true, decide_eq_true_eq, decide_eq_true_eq]
  exact ⟨h1, h2⟩

set_option maxHeartbeats 1000000 in
theorem serialThrough_far (a x y : Int) (w : World) (ha : 0 ≤ a ∧ a < 4294967296) (hx : 0 ≤ x ∧ x < 4294967296) (hy : 0 ≤ y ∧ y < 4294967296) (h : (x == 0) = true ∨ ((x == 0) = false ∧ (y == 0) = true) ∨ (0 < x ∧ 0 < y ∧ 2147483648 ≤ x + y)) :
    Calls Try.prog 9 #[.int .u32 a, .int .u32 x, .int .u32 y] w fun e w' => e = .returned (.bool true) ∧ Below w.heap.size w w' := by
  rcases h with h | ⟨h1, h⟩ | ⟨h1, h2, h⟩
  all_goals
    go_enter Try.func9, Try.ntmps9
    go_wp2_with fail
    refine (ahead_32 _ _ _ ha (mod32_in _)).mono ?_
    rintro e w2 ⟨rfl, rfl⟩
    rw [ahd_step a x hx]
    go_wp2_with fail
    refine (ahead_32 _ _ _ (mod32_in _) (mod32_in _)).mono ?_
    rintro e w2 ⟨rfl, rfl⟩
    rw [ahd_second a x y hy]
    go_wp2_with fail
    refine (ahead_32 _ _ _ ha (mod32_in _)).mono ?_
    rintro e w2 ⟨rfl, rfl⟩
    rw [ahd_two]
    go_wp2_with fail
    refine (works_any _).mono ?_
    rintro e w2 ⟨rfl, rfl⟩
    go_wp2
    go_ret
    exact ⟨rfl, Below.refl _ _⟩

set_option maxHeartbeats 1000000 in
theorem serialThrough_near (a x y : Int) (w : World) (ha : 0 ≤ a ∧ a < 4294967296) (hx : 0 < x) (hy : 0 < y) (h : x + y < 2147483648) :
    Calls Try.prog 9 #[.int .u32 a, .int .u32 x, .int .u32 y] w fun e w' => e = .returned (.bool true) ∧ Below w.heap.size w w' := by
  have bx : (x == 0) = false := by rw [beq_eq_false_iff_ne]; omega
  have b_y : (y == 0) = false := by rw [beq_eq_false_iff_ne]; omega
  have hx : 0 ≤ x ∧ x < 4294967296 := by omega
  have hy : 0 ≤ y ∧ y < 4294967296 := by omega
  have l1 : lss 4294967296 a ((a + x) % 4294967296) = true := lss_of (ahd_step a x hx) (by omega) (by omega)
  have l2 : lss 4294967296 ((a + x) % 4294967296) ((a + x + y) % 4294967296) = true := lss_of (ahd_second a x y hy) (by omega) (by omega)
  have l3 : lss 4294967296 a ((a + x + y) % 4294967296) = true := lss_of (ahd_two a x y) (by omega) (by omega)
  have L1 := Lib.hid l1
  have L2 := Lib.hid l2
  have L3 := Lib.hid l3
  clear l1 l2 l3
  go_enter Try.func9, Try.ntmps9
  go_wp2_with fail
  refine (ahead_32 _ _ _ ha (mod32_in _)).mono ?_
  rintro e w2 ⟨rfl, rfl⟩
  rw [ahd_step a x hx]
  go_wp2_with fail
  refine (ahead_32 _ _ _ (mod32_in _) (mod32_in _)).mono ?_
  rintro e w2 ⟨rfl, rfl⟩
  rw [ahd_second a x y hy]
  go_wp2_with fail
  refine (ahead_32 _ _ _ ha (mod32_in _)).mono ?_
  rintro e w2 ⟨rfl, rfl⟩
  rw [ahd_two, Int.emod_eq_of_lt (by omega) (by omega)]
  go_wp2_with fail
  refine (less_32 _ _ _ ha (mod32_in _)).mono ?_
  rintro e w2 ⟨rfl, rfl⟩
  rw [L1.out]
  go_wp2_with fail
  refine (less_32 _ _ _ (mod32_in _) (mod32_in _)).mono ?_
  rintro e w2 ⟨rfl, rfl⟩
  rw [L2.out]
  go_wp2_with fail
  refine (less_32 _ _ _ ha (mod32_in _)).mono ?_
  rintro e w2 ⟨rfl, rfl⟩
  rw [L3.out]
  go_wp2_with fail
  refine (max_32 _ _ _ ha (mod32_in _)).mono ?_
  rintro e w2 ⟨rfl, rfl⟩
  rw [mxx_after L1.out]
  go_wp2_with fail
  refine (max_32 _ _ _ (mod32_in _) (mod32_in _)).mono ?_
  rintro e w2 ⟨rfl, rfl⟩
  rw [mxx_after L2.out]
  go_wp2_with fail
  refine (works_any _).mono ?_
  rintro e w2 ⟨rfl, rfl⟩
  go_wp2
  go_ret
  exact ⟨rfl, Below.refl _ _⟩

theorem serialThrough_walk (a x y : Int) (w : World) (ha : (Lit.int .u32 a).wf = true) (hx : (Lit.int .u32 x).wf = true) (hy : (Lit.int .u32 y).wf = true) :
    Calls Try.prog 9 #[.int .u32 a, .int .u32 x, .int .u32 y] w fun e w' => e = .returned (.bool true) ∧ Below w.heap.size w w' := by
  have ha := u32_in ha
  have hx := u32_in hx
  have hy := u32_in hy
  by_cases h : x = 0 ∨ (0 < x ∧ y = 0) ∨ (0 < x ∧ 0 < y ∧ 2147483648 ≤ x + y)
  · exact serialThrough_far a x y w ha hx hy (by rw [beq_iff_eq, beq_eq_false_iff_ne, beq_iff_eq]; omega)
  · exact serialThrough_near a x y w ha (by omega) (by omega) (by omega)
end Go.Proofs.Yteodjppligelnaa
