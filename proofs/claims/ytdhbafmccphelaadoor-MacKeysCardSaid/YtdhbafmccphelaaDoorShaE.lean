/-
  Two arrays of bytes, compared.
-/
import Derived.Test.YtdhbafmccphelaaDoorShaT
import Derived.Laws.StructEq
namespace Go.Proofs.YtdhbafmccphelaaDoor
open Go.RowKit
set_option linter.unusedVariables false
set_option maxRecDepth 100000

theorem part_row8 {xs : List UInt8} {k : Nat} (hk : k < xs.length) (w : World) : (part 5 (row8 xs) (k * 1)).run Tryd.prog w = .ok (.int .u8 ((xs[k]).toNat : Int)) w := by
  have hagg : ∀ w : World, (isAgg 5).run Tryd.prog w = .ok false w := fun w => by kernel_rfl
  have hc : (row8 xs)[k]? = some (.int .u8 ((xs[k]).toNat : Int)) := by rw [get_row8, List.getElem?_eq_getElem hk]; rfl
  simp [part, hagg, hc]

theorem equal_loop (d : Nat) (xs ys : List UInt8) (hx : xs.length = 32) (hy : ys.length = 32) (w : World) : ∀ n k : Nat, k + n = 32 →
    (forIn (List.range' k n) ((none, ()) : Option Bool × Unit) fun i __s => (do
            let __do_lift ← part 5 (row8 xs) (i * 1)
            let __do_lift_1 ← part 5 (row8 ys) (i * 1)
            let __do_lift ← Op.equalIn (d + 1) 5 __do_lift __do_lift_1
            if (!__do_lift) = true then pure (ForInStep.done (some false, ())) else pure (ForInStep.yield (none, ())) : Sem (ForInStep (Option Bool × Unit)))).run Tryd.prog w =
      .ok (if xs.drop k = ys.drop k then (none, ()) else (some false, ())) w := by
  intro n
  induction n with
  | zero =>
    intro k hk
    rw [List.drop_of_length_le (by omega), List.drop_of_length_le (by omega)]
    simp
  | succ n ih =>
    intro k hk
    rw [List.range'_succ, List.forIn_cons]
    have hkx : k < xs.length := by omega
    have hky : k < ys.length := by omega
    simp only [Sem.run_bind, part_row8 hkx, part_row8 hky, Result.andThen_ok, run_equalIn_int _ _ _ _ _ _ _ Tryd.underlying5]
    have hdx := List.drop_eq_getElem_cons hkx
    have hdy := List.drop_eq_getElem_cons hky
    by_cases he : xs[k] = ys[k]
    · rw [he]
      have h := ih (k + 1) (by omega)
      simp only [beq_self_eq_true, Bool.not_true, Bool.false_eq_true, if_false, Sem.run_pure, Result.andThen_ok]
      rw [h]
      have hiff : (xs.drop k = ys.drop k) = (xs.drop (k + 1) = ys.drop (k + 1)) := propext ⟨fun e => by rw [hdx, hdy] at e; exact (List.cons.inj e).2, fun e => by rw [hdx, hdy, he, e]⟩
      simp only [hiff]
    · have hne : (((xs[k]).toNat : Int) == ((ys[k]).toNat : Int)) = false := by
        rw [beq_eq_false_iff_ne]
        intro h
        exact he (UInt8.toNat_inj.1 (by omega))
      simp only [hne, Bool.not_false, if_true, Sem.run_pure, Result.andThen_ok]
      rw [if_neg]
      intro e
      rw [hdx, hdy] at e
      exact he (List.cons.inj e).1

theorem equal_row8 (d : Nat) (xs ys : List UInt8) (hx : xs.length = 32) (hy : ys.length = 32) (w : World) :
    (Op.equalIn (d + 2) 25 (.agg (row8 xs)) (.agg (row8 ys))).run Tryd.prog w = .ok (decide (xs = ys)) w := by
  have hsz : ∀ w : World, (sizeOf 5).run Tryd.prog w = .ok 1 w := fun w => by kernel_rfl
  have hl := equal_loop d xs ys hx hy w 32 0 rfl
  rw [Op.equalIn]
  simp only [Sem.run_bind, run_underlying Tryd.underlying25, Result.andThen_ok, hsz]
  rw [Std.Legacy.Range.forIn_eq_forIn_range']
  simp only [List.drop_zero] at hl
  refine (congrArg (fun r => Result.andThen r _) hl).trans ?_
  by_cases h : xs = ys
  · simp [h]
  · simp [h]
theorem equal_same (D : List UInt8) (h : D.length = 32) (w : World) : (Op.equalIn 10000 25 (.agg (row8 D)) (.agg (row8 D))).run Tryd.prog w = .ok true w := by
  have := equal_row8 9998 D D h h w
  simpa using this
theorem eql_row8 (xs ys : List UInt8) (hx : xs.length = 32) (hy : ys.length = 32) (w : World) :
    (binOp .eql 25 (.agg (row8 xs)) (.agg (row8 ys))).run Tryd.prog w = .ok (.bool (decide (xs = ys))) w := by
  rw [run_eql_struct, equal_row8 9998 xs ys hx hy]
  rfl
theorem neq_row8 (xs ys : List UInt8) (hx : xs.length = 32) (hy : ys.length = 32) (w : World) :
    (binOp .neq 25 (.agg (row8 xs)) (.agg (row8 ys))).run Tryd.prog w = .ok (.bool (!decide (xs = ys))) w := by
  rw [run_neq_struct, equal_row8 9998 xs ys hx hy]
  rfl
end Go.Proofs.YtdhbafmccphelaaDoor
