/-
  Layer 3 (serial): contracts, over plain numbers.
-/
import Derived.Test.YteodjppligelnaaRows
import Derived.Test.YteodjppligelnaaMem
namespace Go.Proofs.Yteodjppligelnaa
open Go.RowKit
set_option linter.unusedVariables false

/-- How far b is ahead of a, of numbers that begin again at m. -/
def ahd (m a b : Int) : Int := (b - a) % m
def lss (m a b : Int) : Bool := decide (1 ≤ ahd m a b) && decide (ahd m a b < m / 2)
def mxx (m a b : Int) : Int := if lss m a b = true then b else a
def inn (m x base width : Int) : Bool := decide (1 ≤ ahd m base x) && decide (ahd m base x ≤ width)
theorem ahd_32 (a b : Int) : 0 ≤ ahd 4294967296 a b ∧ ahd 4294967296 a b < 4294967296 := by unfold ahd; omega
theorem ahd_16 (a b : Int) : 0 ≤ ahd 65536 a b ∧ ahd 65536 a b < 65536 := by unfold ahd; omega
theorem wrap_u16 (a : Int) : IntKind.u16.wrap a = a % 65536 := by simp [IntKind.wrap, IntKind.bits, IntKind.signed]
theorem wrap_u64 (a : Int) : IntKind.u64.wrap a = a % 18446744073709551616 := by simp [IntKind.wrap, IntKind.bits, IntKind.signed]
theorem lss_iff {p : Bool} {m a b : Int} : p = lss m a b ↔ (p = true ↔ 1 ≤ ahd m a b ∧ ahd m a b < m / 2) := by
  unfold lss
  rw [Bool.eq_iff_iff, Bool.and_eq_true, decide_eq_true_eq, decide_eq_true_eq]
theorem inn_iff {p : Bool} {m x base width : Int} : p = inn m x base width ↔ (p = true ↔ 1 ≤ ahd m base x ∧ ahd m base x ≤ width) := by
  unfold inn
  rw [Bool.eq_iff_iff, Bool.and_eq_true, decide_eq_true_eq, decide_eq_true_eq]
theorem mxx_in (m a b : Int) (ha : 0 ≤ a ∧ a < m) (hb : 0 ≤ b ∧ b < m) : 0 ≤ mxx m a b ∧ mxx m a b < m := by unfold mxx; split <;> assumption

/-! ### uint32 -/
theorem half_32 (w : World) : Calls Try.prog 35 #[] w fun e w' => e = .returned (.int .u32 2147483648) ∧ w = w' := by
  go_enter Try.func35, Try.ntmps35
  go_wp2
  go_ret
  exact ⟨rfl, rfl⟩
theorem ahead_32 (a b : Int) (w : World) (ha : 0 ≤ a ∧ a < 4294967296) (hb : 0 ≤ b ∧ b < 4294967296) :
    Calls Try.prog 10 #[.int .u32 a, .int .u32 b] w fun e w' => e = .returned (.int .u32 (ahd 4294967296 a b)) ∧ w = w' := by
  go_enter Try.func10, Try.ntmps10
  go_wp2
  go_ret
  exact ⟨rfl, rfl⟩
theorem less_32 (a b : Int) (w : World) (ha : 0 ≤ a ∧ a < 4294967296) (hb : 0 ≤ b ∧ b < 4294967296) :
    Calls Try.prog 17 #[.int .u32 a, .int .u32 b] w fun e w' => e = .returned (.bool (lss 4294967296 a b)) ∧ w = w' := by
  have h := ahd_32 a b
  go_enter Try.func17, Try.ntmps17
  go_wp2_with fail
  refine (ahead_32 _ _ _ ha hb).mono ?_
  rintro e w2 ⟨rfl, rfl⟩
  by_cases h1 : 1 ≤ ahd 4294967296 a b
  · go_wp2_with fail
    refine (half_32 _).mono ?_
    rintro e w2 ⟨rfl, rfl⟩
    go_wp2
    go_ret
    exact ⟨ret_bool (by simp [lss, h1]), rfl⟩
  · go_wp2
    go_ret
    exact ⟨ret_bool (by simp [lss]; omega), rfl⟩
theorem max_32 (a b : Int) (w : World) (ha : 0 ≤ a ∧ a < 4294967296) (hb : 0 ≤ b ∧ b < 4294967296) :
    Calls Try.prog 23 #[.int .u32 a, .int .u32 b] w fun e w' => e = .returned (.int .u32 (mxx 4294967296 a b)) ∧ w = w' := by
  go_enter Try.func23, Try.ntmps23
  go_wp2_with fail
  refine (less_32 _ _ _ ha hb).mono ?_
  rintro e w2 ⟨rfl, rfl⟩
  by_cases h1 : lss 4294967296 a b = true
  · go_wp2
    go_ret
    exact ⟨ret_int (show b = mxx 4294967296 a b from (if_pos h1).symm), rfl⟩
  · go_wp2
    go_ret
    exact ⟨ret_int (show a = mxx 4294967296 a b from (if_neg h1).symm), rfl⟩
theorem in_32 (x base width : Int) (w : World) (ha : 0 ≤ x ∧ x < 4294967296) (hb : 0 ≤ base ∧ base < 4294967296) (hw : -9223372036854775808 ≤ width ∧ width ≤ 9223372036854775807) :
    Calls Try.prog 29 #[.int .u32 x, .int .u32 base, .int .i64 width] w fun e w' => e = .returned (.bool (inn 4294967296 x base width)) ∧ w = w' := by
  have h := ahd_32 base x
  go_enter Try.func29, Try.ntmps29
  by_cases h0 : width < 1
  · go_wp2
    go_ret
    exact ⟨ret_bool (by simp [inn]; omega), rfl⟩
  go_wp2_with fail
  refine (ahead_32 _ _ _ hb ha).mono ?_
  rintro e w2 ⟨rfl, rfl⟩
  by_cases h1 : 1 ≤ ahd 4294967296 base x
  · go_wp2
    go_ret
    exact ⟨ret_bool (by simp [inn, h1]), rfl⟩
  · go_wp2
    go_ret
    exact ⟨ret_bool (by simp [inn]; omega), rfl⟩

/-! ### fairlead/fairleadlaw03.Tsn -/
theorem half_T (w : World) : Calls Try.prog 36 #[] w fun e w' => e = .returned (.int .u32 2147483648) ∧ w = w' := by
  go_enter Try.func36, Try.ntmps36
  go_wp2
  go_ret
  exact ⟨rfl, rfl⟩
theorem ahead_T (a b : Int) (w : World) (ha : 0 ≤ a ∧ a < 4294967296) (hb : 0 ≤ b ∧ b < 4294967296) :
    Calls Try.prog 12 #[.int .u32 a, .int .u32 b] w fun e w' => e = .returned (.int .u32 (ahd 4294967296 a b)) ∧ w = w' := by
  go_enter Try.func12, Try.ntmps12
  go_wp2
  go_ret
  exact ⟨rfl, rfl⟩
theorem less_T (a b : Int) (w : World) (ha : 0 ≤ a ∧ a < 4294967296) (hb : 0 ≤ b ∧ b < 4294967296) :
    Calls Try.prog 19 #[.int .u32 a, .int .u32 b] w fun e w' => e = .returned (.bool (lss 4294967296 a b)) ∧ w = w' := by
  have h := ahd_32 a b
  go_enter Try.func19, Try.ntmps19
  go_wp2_with fail
  refine (ahead_T _ _ _ ha hb).mono ?_
  rintro e w2 ⟨rfl, rfl⟩
  by_cases h1 : 1 ≤ ahd 4294967296 a b
  · go_wp2_with fail
    refine (half_T _).mono ?_
    rintro e w2 ⟨rfl, rfl⟩
    go_wp2
    go_ret
    exact ⟨ret_bool (by simp [lss, h1]), rfl⟩
  · go_wp2
    go_ret
    exact ⟨ret_bool (by simp [lss]; omega), rfl⟩
theorem max_T (a b : Int) (w : World) (ha : 0 ≤ a ∧ a < 4294967296) (hb : 0 ≤ b ∧ b < 4294967296) :
    Calls Try.prog 25 #[.int .u32 a, .int .u32 b] w fun e w' => e = .returned (.int .u32 (mxx 4294967296 a b)) ∧ w = w' := by
  go_enter Try.func25, Try.ntmps25
  go_wp2_with fail
  refine (less_T _ _ _ ha hb).mono ?_
  rintro e w2 ⟨rfl, rfl⟩
  by_cases h1 : lss 4294967296 a b = true
  · go_wp2
    go_ret
    exact ⟨ret_int (show b = mxx 4294967296 a b from (if_pos h1).symm), rfl⟩
  · go_wp2
    go_ret
    exact ⟨ret_int (show a = mxx 4294967296 a b from (if_neg h1).symm), rfl⟩
theorem in_T (x base width : Int) (w : World) (ha : 0 ≤ x ∧ x < 4294967296) (hb : 0 ≤ base ∧ base < 4294967296) (hw : -9223372036854775808 ≤ width ∧ width ≤ 9223372036854775807) :
    Calls Try.prog 31 #[.int .u32 x, .int .u32 base, .int .i64 width] w fun e w' => e = .returned (.bool (inn 4294967296 x base width)) ∧ w = w' := by
  have h := ahd_32 base x
  go_enter Try.func31, Try.ntmps31
  by_cases h0 : width < 1
  · go_wp2
    go_ret
    exact ⟨ret_bool (by simp [inn]; omega), rfl⟩
  go_wp2_with fail
  refine (ahead_T _ _ _ hb ha).mono ?_
  rintro e w2 ⟨rfl, rfl⟩
  by_cases h1 : 1 ≤ ahd 4294967296 base x
  · go_wp2
    go_ret
    exact ⟨ret_bool (by simp [inn, h1]), rfl⟩
  · go_wp2
    go_ret
    exact ⟨ret_bool (by simp [inn]; omega), rfl⟩

/-! ### uint16 -/
theorem half_16 (w : World) : Calls Try.prog 37 #[] w fun e w' => e = .returned (.int .u16 32768) ∧ w = w' := by
  go_enter Try.func37, Try.ntmps37
  go_wp2
  go_ret
  exact ⟨rfl, rfl⟩
theorem ahead_16 (a b : Int) (w : World) (ha : 0 ≤ a ∧ a < 65536) (hb : 0 ≤ b ∧ b < 65536) :
    Calls Try.prog 13 #[.int .u16 a, .int .u16 b] w fun e w' => e = .returned (.int .u16 (ahd 65536 a b)) ∧ w = w' := by
  go_enter Try.func13, Try.ntmps13
  go_wp2
  go_ret
  exact ⟨rfl, rfl⟩
theorem less_16 (a b : Int) (w : World) (ha : 0 ≤ a ∧ a < 65536) (hb : 0 ≤ b ∧ b < 65536) :
    Calls Try.prog 20 #[.int .u16 a, .int .u16 b] w fun e w' => e = .returned (.bool (lss 65536 a b)) ∧ w = w' := by
  have h := ahd_16 a b
  go_enter Try.func20, Try.ntmps20
  go_wp2_with fail
  refine (ahead_16 _ _ _ ha hb).mono ?_
  rintro e w2 ⟨rfl, rfl⟩
  by_cases h1 : 1 ≤ ahd 65536 a b
  · go_wp2_with fail
    refine (half_16 _).mono ?_
    rintro e w2 ⟨rfl, rfl⟩
    go_wp2
    go_ret
    exact ⟨ret_bool (by simp [lss, h1]), rfl⟩
  · go_wp2
    go_ret
    exact ⟨ret_bool (by simp [lss]; omega), rfl⟩
theorem max_16 (a b : Int) (w : World) (ha : 0 ≤ a ∧ a < 65536) (hb : 0 ≤ b ∧ b < 65536) :
    Calls Try.prog 26 #[.int .u16 a, .int .u16 b] w fun e w' => e = .returned (.int .u16 (mxx 65536 a b)) ∧ w = w' := by
  go_enter Try.func26, Try.ntmps26
  go_wp2_with fail
  refine (less_16 _ _ _ ha hb).mono ?_
  rintro e w2 ⟨rfl, rfl⟩
  by_cases h1 : lss 65536 a b = true
  · go_wp2
    go_ret
    exact ⟨ret_int (show b = mxx 65536 a b from (if_pos h1).symm), rfl⟩
  · go_wp2
    go_ret
    exact ⟨ret_int (show a = mxx 65536 a b from (if_neg h1).symm), rfl⟩
theorem in_16 (x base width : Int) (w : World) (ha : 0 ≤ x ∧ x < 65536) (hb : 0 ≤ base ∧ base < 65536) (hw : -9223372036854775808 ≤ width ∧ width ≤ 9223372036854775807) :
    Calls Try.prog 32 #[.int .u16 x, .int .u16 base, .int .i64 width] w fun e w' => e = .returned (.bool (inn 65536 x base width)) ∧ w = w' := by
  have h := ahd_16 base x
  go_enter Try.func32, Try.ntmps32
  by_cases h0 : width < 1
  · go_wp2
    go_ret
    exact ⟨ret_bool (by simp [inn]; omega), rfl⟩
  go_wp2_with fail
  refine (ahead_16 _ _ _ hb ha).mono ?_
  rintro e w2 ⟨rfl, rfl⟩
  by_cases h1 : 1 ≤ ahd 65536 base x
  · go_wp2
    go_ret
    exact ⟨ret_bool (by simp [inn, h1]), rfl⟩
  · go_wp2
    go_ret
    exact ⟨ret_bool (by simp [inn]; omega), rfl⟩

/-! ### fairlead/fairleadlaw03.Ssn -/
theorem half_S (w : World) : Calls Try.prog 38 #[] w fun e w' => e = .returned (.int .u16 32768) ∧ w = w' := by
  go_enter Try.func38, Try.ntmps38
  go_wp2
  go_ret
  exact ⟨rfl, rfl⟩
theorem ahead_S (a b : Int) (w : World) (ha : 0 ≤ a ∧ a < 65536) (hb : 0 ≤ b ∧ b < 65536) :
    Calls Try.prog 15 #[.int .u16 a, .int .u16 b] w fun e w' => e = .returned (.int .u16 (ahd 65536 a b)) ∧ w = w' := by
  go_enter Try.func15, Try.ntmps15
  go_wp2
  go_ret
  exact ⟨rfl, rfl⟩
theorem less_S (a b : Int) (w : World) (ha : 0 ≤ a ∧ a < 65536) (hb : 0 ≤ b ∧ b < 65536) :
    Calls Try.prog 22 #[.int .u16 a, .int .u16 b] w fun e w' => e = .returned (.bool (lss 65536 a b)) ∧ w = w' := by
  have h := ahd_16 a b
  go_enter Try.func22, Try.ntmps22
  go_wp2_with fail
  refine (ahead_S _ _ _ ha hb).mono ?_
  rintro e w2 ⟨rfl, rfl⟩
  by_cases h1 : 1 ≤ ahd 65536 a b
  · go_wp2_with fail
    refine (half_S _).mono ?_
    rintro e w2 ⟨rfl, rfl⟩
    go_wp2
    go_ret
    exact ⟨ret_bool (by simp [lss, h1]), rfl⟩
  · go_wp2
    go_ret
    exact ⟨ret_bool (by simp [lss]; omega), rfl⟩
theorem max_S (a b : Int) (w : World) (ha : 0 ≤ a ∧ a < 65536) (hb : 0 ≤ b ∧ b < 65536) :
    Calls Try.prog 28 #[.int .u16 a, .int .u16 b] w fun e w' => e = .returned (.int .u16 (mxx 65536 a b)) ∧ w = w' := by
  go_enter Try.func28, Try.ntmps28
  go_wp2_with fail
  refine (less_S _ _ _ ha hb).mono ?_
  rintro e w2 ⟨rfl, rfl⟩
  by_cases h1 : lss 65536 a b = true
  · go_wp2
    go_ret
    exact ⟨ret_int (show b = mxx 65536 a b from (if_pos h1).symm), rfl⟩
  · go_wp2
    go_ret
    exact ⟨ret_int (show a = mxx 65536 a b from (if_neg h1).symm), rfl⟩
theorem in_S (x base width : Int) (w : World) (ha : 0 ≤ x ∧ x < 65536) (hb : 0 ≤ base ∧ base < 65536) (hw : -9223372036854775808 ≤ width ∧ width ≤ 9223372036854775807) :
    Calls Try.prog 34 #[.int .u16 x, .int .u16 base, .int .i64 width] w fun e w' => e = .returned (.bool (inn 65536 x base width)) ∧ w = w' := by
  have h := ahd_16 base x
  go_enter Try.func34, Try.ntmps34
  by_cases h0 : width < 1
  · go_wp2
    go_ret
    exact ⟨ret_bool (by simp [inn]; omega), rfl⟩
  go_wp2_with fail
  refine (ahead_S _ _ _ hb ha).mono ?_
  rintro e w2 ⟨rfl, rfl⟩
  by_cases h1 : 1 ≤ ahd 65536 base x
  · go_wp2
    go_ret
    exact ⟨ret_bool (by simp [inn, h1]), rfl⟩
  · go_wp2
    go_ret
    exact ⟨ret_bool (by simp [inn]; omega), rfl⟩

/-! ### the document's answers, 32 bits -/
theorem refAhead32 (a b : Int) (w : World) (ha : 0 ≤ a ∧ a < 4294967296) (hb : 0 ≤ b ∧ b < 4294967296) :
    Calls Try.prog 11 #[.int .u32 a, .int .u32 b] w fun e w' => e = .returned (.int .u32 (ahd 4294967296 a b)) ∧ w = w' := by
  go_enter Try.func11, Try.ntmps11
  go_wp2
  go_ret
  exact ⟨rfl, rfl⟩
theorem refLess32 (a b : Int) (w : World) (ha : 0 ≤ a ∧ a < 4294967296) (hb : 0 ≤ b ∧ b < 4294967296) :
    Calls Try.prog 18 #[.int .u32 a, .int .u32 b] w fun e w' => e = .returned (.bool (lss 4294967296 a b)) ∧ w = w' := by
  have h := ahd_32 a b
  go_enter Try.func18, Try.ntmps18
  by_cases h1 : 1 ≤ ahd 4294967296 a b
  · have h2 := h1
    unfold ahd at h2
    go_wp2
    go_ret
    exact ⟨ret_bool (by rw [lss_iff]; unfold ahd; simp only [decide_eq_true_eq]; omega), rfl⟩
  · have h2 := h1
    unfold ahd at h2
    go_wp2
    go_ret
    exact ⟨ret_bool (by simp [lss]; omega), rfl⟩
theorem refMax32 (a b : Int) (w : World) (ha : 0 ≤ a ∧ a < 4294967296) (hb : 0 ≤ b ∧ b < 4294967296) :
    Calls Try.prog 24 #[.int .u32 a, .int .u32 b] w fun e w' => e = .returned (.int .u32 (mxx 4294967296 a b)) ∧ w = w' := by
  go_enter Try.func24, Try.ntmps24
  go_wp2_with fail
  refine (refLess32 _ _ _ ha hb).mono ?_
  rintro e w2 ⟨rfl, rfl⟩
  by_cases h1 : lss 4294967296 a b = true
  · go_wp2
    go_ret
    exact ⟨ret_int (show b = mxx 4294967296 a b from (if_pos h1).symm), rfl⟩
  · go_wp2
    go_ret
    exact ⟨ret_int (show a = mxx 4294967296 a b from (if_neg h1).symm), rfl⟩
theorem refIn32 (x base width : Int) (w : World) (ha : 0 ≤ x ∧ x < 4294967296) (hb : 0 ≤ base ∧ base < 4294967296) (hw : -9223372036854775808 ≤ width ∧ width ≤ 9223372036854775807) :
    Calls Try.prog 30 #[.int .u32 x, .int .u32 base, .int .i64 width] w fun e w' => e = .returned (.bool (inn 4294967296 x base width)) ∧ w = w' := by
  have h := ahd_32 base x
  go_enter Try.func30, Try.ntmps30
  by_cases h1 : x = base
  · go_wp2
    go_ret
    exact ⟨ret_bool (by simp [inn, ahd, h1]), rfl⟩
  by_cases h0 : width > 0
  · go_wp2
    go_ret
    exact ⟨ret_bool (by rw [inn_iff]; unfold ahd; simp; omega), rfl⟩
  · go_wp2
    go_ret
    exact ⟨ret_bool (by rw [inn_iff]; unfold ahd; simp; omega), rfl⟩

/-! ### the document's answers, 16 bits -/
theorem refAhead16 (a b : Int) (w : World) (ha : 0 ≤ a ∧ a < 65536) (hb : 0 ≤ b ∧ b < 65536) :
    Calls Try.prog 14 #[.int .u16 a, .int .u16 b] w fun e w' => e = .returned (.int .u16 (ahd 65536 a b)) ∧ w = w' := by
  go_enter Try.func14, Try.ntmps14
  go_wp2
  go_ret
  exact ⟨rfl, rfl⟩
theorem refLess16 (a b : Int) (w : World) (ha : 0 ≤ a ∧ a < 65536) (hb : 0 ≤ b ∧ b < 65536) :
    Calls Try.prog 21 #[.int .u16 a, .int .u16 b] w fun e w' => e = .returned (.bool (lss 65536 a b)) ∧ w = w' := by
  have h := ahd_16 a b
  go_enter Try.func21, Try.ntmps21
  by_cases h1 : 1 ≤ ahd 65536 a b
  · have h2 := h1
    unfold ahd at h2
    go_wp2
    go_ret
    exact ⟨ret_bool (by rw [lss_iff]; unfold ahd; simp only [wrap_u16, decide_eq_true_eq]; omega), rfl⟩
  · have h2 := h1
    unfold ahd at h2
    go_wp2
    go_ret
    exact ⟨ret_bool (by simp [lss]; omega), rfl⟩
theorem refMax16 (a b : Int) (w : World) (ha : 0 ≤ a ∧ a < 65536) (hb : 0 ≤ b ∧ b < 65536) :
    Calls Try.prog 27 #[.int .u16 a, .int .u16 b] w fun e w' => e = .returned (.int .u16 (mxx 65536 a b)) ∧ w = w' := by
  go_enter Try.func27, Try.ntmps27
  go_wp2_with fail
  refine (refLess16 _ _ _ ha hb).mono ?_
  rintro e w2 ⟨rfl, rfl⟩
  by_cases h1 : lss 65536 a b = true
  · go_wp2
    go_ret
    exact ⟨ret_int (show b = mxx 65536 a b from (if_pos h1).symm), rfl⟩
  · go_wp2
    go_ret
    exact ⟨ret_int (show a = mxx 65536 a b from (if_neg h1).symm), rfl⟩
theorem refIn16 (x base width : Int) (w : World) (ha : 0 ≤ x ∧ x < 65536) (hb : 0 ≤ base ∧ base < 65536) (hw : -9223372036854775808 ≤ width ∧ width ≤ 9223372036854775807) :
    Calls Try.prog 33 #[.int .u16 x, .int .u16 base, .int .i64 width] w fun e w' => e = .returned (.bool (inn 65536 x base width)) ∧ w = w' := by
  have h := ahd_16 base x
  go_enter Try.func33, Try.ntmps33
  by_cases h1 : x = base
  · go_wp2
    go_ret
    exact ⟨ret_bool (by simp [inn, ahd, h1]), rfl⟩
  by_cases h0 : width > 0
  · go_wp2
    go_ret
    exact ⟨ret_bool (by rw [inn_iff]; unfold ahd; simp [wrap_u16, wrap_u64]; omega), rfl⟩
  · go_wp2
    go_ret
    exact ⟨ret_bool (by rw [inn_iff]; unfold ahd; simp; omega), rfl⟩
end Go.Proofs.Yteodjppligelnaa
