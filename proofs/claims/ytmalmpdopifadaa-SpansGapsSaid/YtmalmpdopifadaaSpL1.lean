/-
  Layer 4 (spans): the law's own helpers: same, filled, within, works.
-/
import Derived.Test.YtmalmpdopifadaaSpG
import Derived.Laws.StructEq
namespace Go.Proofs.Ytmalmpdopifadaa
open Go.RowKit
set_option linter.unusedVariables false

theorem gap_neq (a b : Int) (w : World) : (binOp .neq 45 (.agg #[.int .u16 a, .int .u16 b]) (.agg #[.int .u16 a, .int .u16 b])).run Try.prog w = .ok (.bool false) w := by
  have h0 : Try.prog.stoodInHeld 45 = false := by kernel_rfl
  have h1 : Try.prog.underlying 45 = some (.struct (Try.prog.fieldsOf 45)) := by kernel_rfl
  have h2 : (Try.prog.fieldsOf 45).toList.map (fun f => (f.name, f.type, f.offset)) = [("From", 43, 0), ("To", 43, 1)] := by kernel_rfl
  have h3 : Try.prog.underlying 43 = some (.int .u16) := by kernel_rfl
  have h4 : (part 43 #[Value.int .u16 a, .int .u16 b] 0).run Try.prog w = .ok (.int .u16 a) w := by kernel_rfl
  have h5 : (part 43 #[Value.int .u16 a, .int .u16 b] 1).run Try.prog w = .ok (.int .u16 b) w := by kernel_rfl
  have e : (Op.equal 45 (.agg #[.int .u16 a, .int .u16 b]) (.agg #[.int .u16 a, .int .u16 b])).run Try.prog w = .ok true w := by
    show (Op.equalIn (9999 + 1) _ _ _).run _ _ = _
    rw [run_equalIn_struct w 9999 45 _ _ h1 h0]
    revert h2
    generalize (Try.prog.fieldsOf 45).toList = fs
    intro h2
    rcases fs with _ | ⟨f1, _ | ⟨f2, _ | ⟨f3, fs⟩⟩⟩
    · cases h2
    · simp at h2
    · simp only [List.map_cons, List.map_nil, List.cons.injEq, Prod.mk.injEq, and_true] at h2
      obtain ⟨⟨n1, t1, o1⟩, n2, t2, o2⟩ := h2
      have e1 : ∀ x : Int, (Op.equalIn 9999 43 (.int .u16 x) (.int .u16 x)).run Try.prog w = .ok true w := fun x => by
        have := run_equalIn_int (P := Try.prog) w 9998 43 .u16 .u16 x x h3
        rw [beq_self_eq_true] at this
        exact this
      simp [Op.eqFields, n1, t1, o1, n2, t2, o2, h4, h5, e1, Result.andThen]
    · simp at h2
  simp [binOp, e, Result.andThen]

set_option maxHeartbeats 800000 in
theorem same_any (A1 A2 : Option Addr) (n c1 c2 lo1 hi1 lo2 hi2 : Nat) (L : List (Nat × Nat)) (w : World) (hn : L.length = n) (hm : n ≤ 4096) (h1 : Rg w lo1 hi1 A1 L) (h2 : Rg w lo2 hi2 A2 L) :
    Calls Try.prog 20 #[.slice A1 n c1, .slice A2 n c2] w fun e w' => e = .returned (.bool true) ∧ ∃ q, w.drewN q = w' := by
  have HN := Lib.hid hn
  clear hn
  go_enter Try.func20, Try.ntmps20
  go_wp2_with fail
  go_loopw [5] (fun i wr => ∃ k q : Nat, k ≤ n ∧ i = .int .i64 k ∧ wr = w.drewN q) (fun i _ => n - (intOf i).toNat)
  case atStart => exact ⟨0, 0, Nat.zero_le _, rfl, rfl⟩
  case round =>
    obtain ⟨k, q, hk, rfl, rfl⟩ := hrel
    by_cases hlt : k < n
    · have hl : L ≠ [] := by intro e; have := HN.out; rw [e] at this; simp at this; omega
      obtain ⟨b1, o1, rfl, hb1, hb1', hc1⟩ := h1.at_ hl
      obtain ⟨b2, o2, rfl, hb2, hb2', hc2⟩ := h2.at_ hl
      have hkl : k < L.length := by rw [HN.out]; exact hlt
      obtain ⟨a1, a2⟩ := hc1 k hkl
      obtain ⟨d1, d2⟩ := hc2 k hkl
      clear hc1 hc2
      have hneq := gap_neq
      go_wp2_with fail
      go_quiet (fail)
      clear hneq
      go_wp2_with fail
      go_roundw
      case rel => exact ⟨k + 1, _, by omega, by go_num, rfl⟩
      case measure => simp [intOf]; omega
    · obtain rfl : k = n := by omega
      go_wp2_with fail
      go_ret
      exact ⟨rfl, q, rfl⟩
end Go.Proofs.Ytmalmpdopifadaa
