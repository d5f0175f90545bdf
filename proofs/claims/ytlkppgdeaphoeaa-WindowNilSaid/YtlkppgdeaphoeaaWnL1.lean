/-
  Package window: WindowNil, walked; words for the laws.
-/
import Derived.Test.YtlkppgdeaphoeaaWnW
import Derived.Test.YtlkppgdeaphoeaaFrameR
namespace Go.Proofs.Ytlkppgdeaphoeaa
open Go.RowKit
set_option linter.unusedVariables false

theorem wf_i64b {a : Int} (h : (Lit.int .i64 a).wf = true) : -9223372036854775808 ≤ a ∧ a ≤ 9223372036854775807 := by
  simp [Lit.wf, IntKind.min, IntKind.max, IntKind.signed, IntKind.bits] at h
  omega
theorem wf_u16b {a : Int} (h : (Lit.int .u16 a).wf = true) : 0 ≤ a ∧ a ≤ 65535 := by
  simp [Lit.wf, IntKind.min, IntKind.max, IntKind.signed, IntKind.bits] at h
  omega
/-- A slice of things done that came in. -/
def Wop (w : World) (B : Nat) (A : Option Addr) (L : List (Int × Int × Bool)) : Prop :=
  L = [] ∨ ∃ b o, A = some ⟨b, o, none⟩ ∧ b < B ∧ ∀ k (hk : k < L.length), w.cell? ⟨b, o + k * 3, none⟩ = some (.int .i64 L[k].1) ∧ w.cell? ⟨b, o + k * 3 + 1, none⟩ = some (.int .i64 L[k].2.1) ∧ w.cell? ⟨b, o + k * 3 + 2, none⟩ = some (.bool L[k].2.2)
def OpRow (row : List Value) : Prop := (∃ x, row[0]? = some (.int .i64 x) ∧ (Lit.int .i64 x).wf = true) ∧ (∃ x, row[1]? = some (.int .i64 x) ∧ (Lit.int .i64 x).wf = true) ∧ (∃ b, row[2]? = some (.bool b))
def boolOf : Value → Bool
  | .bool b => b
  | _ => false
theorem wop_of {w : World} {A : Option Addr} {rows : List (List Value)} (hr : Rows_ w w.heap.size A 3 rows) (hf : ∀ row ∈ rows, OpRow row) : ∃ L : List (Int × Int × Bool), L.length = rows.length ∧ Wop w w.heap.size A L := by
  refine ⟨rows.map fun r => (intOf (r.getD 0 undef), intOf (r.getD 1 undef), boolOf (r.getD 2 undef)), by simp, ?_⟩
  rcases hr with h | ⟨b, o, ha, hl, hc⟩
  · subst h; exact .inl rfl
  · refine .inr ⟨b, o, ha, hl, fun k hk => ?_⟩
    have hk' : k < rows.length := by simpa using hk
    obtain ⟨⟨x, e0, _⟩, ⟨y, e1, _⟩, ⟨z, e2⟩⟩ := hf _ (List.getElem_mem hk')
    have hcc := hc k _ (List.getElem?_eq_getElem hk')
    have h0 := hcc 0 (by omega)
    have h1 := hcc 1 (by omega)
    have h2 := hcc 2 (by omega)
    rw [e0] at h0
    rw [e1] at h1
    rw [e2] at h2
    rw [List.getElem_map]
    have g0 : (rows[k].getD 0 undef) = .int .i64 x := by rw [List.getD_eq_getElem?_getD, e0]; rfl
    have g1 : (rows[k].getD 1 undef) = .int .i64 y := by rw [List.getD_eq_getElem?_getD, e1]; rfl
    have g2 : (rows[k].getD 2 undef) = .bool z := by rw [List.getD_eq_getElem?_getD, e2]; rfl
    rw [g0, g1, g2]
    exact ⟨h0, h1, h2⟩
theorem Wop.at_ {w : World} {B : Nat} {A : Option Addr} {L : List (Int × Int × Bool)} (h : Wop w B A L) (k : Nat) (hk : k < L.length) : ∃ b o, A = some ⟨b, o, none⟩ ∧ b < B ∧ w.cell? ⟨b, o + k * 3, none⟩ = some (.int .i64 L[k].1) ∧ w.cell? ⟨b, o + k * 3 + 1, none⟩ = some (.int .i64 L[k].2.1) ∧ w.cell? ⟨b, o + k * 3 + 2, none⟩ = some (.bool L[k].2.2) := by
  rcases h with h | ⟨b, o, ha, hl, hc⟩
  · subst h; cases hk
  · exact ⟨b, o, ha, hl, hc k hk⟩

set_option maxRecDepth 100000 in
set_option maxHeartbeats 4000000 in
theorem windowNil_walk (k n : Int) (full : Bool) (w : World) (h : (Lit.int .i64 k).wf = true) (h2 : (Lit.int .i64 n).wf = true) : Calls Try.prog 8 #[.agg #[.int .i64 k, .int .i64 n, .bool full]] w fun e w' => e = .returned (.bool true) ∧ Below w.heap.size w w' := by
  go_enter Try.func8, Try.ntmps8
  go_wp2_with fail
  refine (does_nil k n full _).mono ?_
  rintro e w1 ⟨rfl, B1⟩
  have HB := Lib.hid (below_then (below_new w _) (Nat.le_refl _) B1)
  clear B1
  go_wp2_with fail
  refine (codeSize_nil w1).mono ?_
  rintro e w2 ⟨rfl, rfl⟩
  go_wp2_with fail
  refine (codeThreshold_nil w2).mono ?_
  rintro e w3 ⟨rfl, rfl⟩
  go_wp2_with fail
  refine (works_any w3).mono ?_
  rintro e w8 ⟨rfl, hb8⟩
  go_wp2_with fail
  go_ret
  exact ⟨rfl, below_then HB.out (Nat.le_refl _) hb8⟩
end Go.Proofs.Ytlkppgdeaphoeaa
