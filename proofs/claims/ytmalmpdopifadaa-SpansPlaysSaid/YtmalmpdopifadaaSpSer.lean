/-
  Layer 4 (spans): what it needs of serial at uint32, and of the reference's In32.
-/
import Derived.Test.YtmalmpdopifadaaRows
import Derived.Test.YtmalmpdopifadaaMem
namespace Go.Proofs.Ytmalmpdopifadaa
open Go.RowKit
set_option linter.unusedVariables false

def ahd (m a b : Int) : Int := (b - a) % m
def inn (m x base width : Int) : Bool := decide (1 ≤ ahd m base x) && decide (ahd m base x ≤ width)
theorem ahd_32 (a b : Int) : 0 ≤ ahd 4294967296 a b ∧ ahd 4294967296 a b < 4294967296 := by unfold ahd; omega
theorem u32_in {a : Int} (h : (Lit.int .u32 a).wf = true) : 0 ≤ a ∧ a < 4294967296 := by
  have hb : 0 ≤ a ∧ a ≤ 4294967295 := by simpa [Lit.wf, IntKind.min, IntKind.max, IntKind.signed, IntKind.bits] using h
  omega
theorem i64_in {a : Int} (h : (Lit.int .i64 a).wf = true) : -9223372036854775808 ≤ a ∧ a ≤ 9223372036854775807 := by
  simpa [Lit.wf, IntKind.min, IntKind.max, IntKind.signed, IntKind.bits] using h
theorem ahead_32 (a b : Int) (w : World) (ha : 0 ≤ a ∧ a < 4294967296) (hb : 0 ≤ b ∧ b < 4294967296) :
    Calls Try.prog 34 #[.int .u32 a, .int .u32 b] w fun e w' => e = .returned (.int .u32 (ahd 4294967296 a b)) ∧ w = w' := by
  go_enter Try.func34, Try.ntmps34
  go_wp2
  go_ret
  exact ⟨rfl, rfl⟩
theorem in_32 (x base width : Int) (w : World) (ha : 0 ≤ x ∧ x < 4294967296) (hb : 0 ≤ base ∧ base < 4294967296) (hw : -9223372036854775808 ≤ width ∧ width ≤ 9223372036854775807) :
    Calls Try.prog 35 #[.int .u32 x, .int .u32 base, .int .i64 width] w fun e w' => e = .returned (.bool (inn 4294967296 x base width)) ∧ w = w' := by
  have h := ahd_32 base x
  go_enter Try.func35, Try.ntmps35
  by_cases h0 : width < 1
  · go_wp2
    go_ret
    exact ⟨ret_bool (by simp [inn]; omega), rfl⟩
  go_wp2_with fail
  refine (ahead_32 _ _ _ hb ha).mono ?_
  rintro e w2 ⟨rfl, rfl⟩
  by_cases h1 : 1 ≤ ahd 4294967296 base x
  · go_wp2
    go_ret
    exact ⟨ret_bool (by simp [inn, h1]), rfl⟩
  · go_wp2
    go_ret
    exact ⟨ret_bool (by simp [inn]; omega), rfl⟩
theorem refIn32 (x base : Int) (w : World) (ha : 0 ≤ x ∧ x < 4294967296) (hb : 0 ≤ base ∧ base < 4294967296) :
    Calls Try.prog 31 #[.int .u32 x, .int .u32 base, .int .i64 4096] w fun e w' => e = .returned (.bool (inn 4294967296 x base 4096)) ∧ w = w' := by
  by_cases h : x = base
  · subst h
    go_enter Try.func31, Try.ntmps31
    go_wp2
    go_ret
    exact ⟨ret_bool (by simp [inn, ahd]), rfl⟩
  · have h1 : (x != base) = true := by simpa using h
    have h2 : inn 4294967296 x base 4096 = decide ((x - base) % 4294967296 ≤ 4096) := by
      unfold inn ahd
      have : decide (1 ≤ (x - base) % 4294967296) = true := by simp; omega
      rw [this]; rfl
    have H2 := Lib.hid h2
    clear h h2
    go_enter Try.func31, Try.ntmps31
    go_wp2
    go_ret
    exact ⟨ret_bool (by rw [H2.out]), rfl⟩
end Go.Proofs.Ytmalmpdopifadaa
