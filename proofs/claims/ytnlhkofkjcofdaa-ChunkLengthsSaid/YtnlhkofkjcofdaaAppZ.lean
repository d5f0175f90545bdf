/-
  append(b, make([]byte, m)...): noughts behind a slice of the call's own.
-/
import Derived.Test.YtnlhkofkjcofdaaOwn
namespace Go.Proofs.Ytnlhkofkjcofdaa
open Go.RowKit
set_option linter.unusedVariables false

section
variable {P : Program} {T TI e : TypeId} {i : TypeInfo}
theorem run_appendZ8 (h8 : Ty8 P T e i) {q : IntKind} (hI : P.underlying TI = some (.int q)) (w : World) (ty : TypeId) (base : Nat) (A : Option Addr) (n c : Nat) (xs : List UInt8) (hown : Own8 w e base A n c xs)
    (kl : IntKind) (m : Nat) (hb : n + m ≤ 140737488355328) (hbase : base ≤ w.heap.size) :
    ∃ A2 c2 w', (Builtin.append_ #[T, TI] ty #[.slice A n c, .int kl m]).run P w = .ok (.slice A2 (n + m) c2) w' ∧ Own8 w' e base A2 (n + m) c2 (xs ++ List.replicate m 0) ∧
      w.grownBy w' (A.map (·.block)) ∧ (A2 = A ∨ A2 = some ⟨w.heap.size, 0, none⟩) := by
  obtain ⟨ht, hi, hz, h1, hbt⟩ := h8
  have hx : xs.length = n := hown.1
  have hwr : IntKind.i64.wrap (m : Int) = m := by simp [IntKind.wrap, IntKind.signed, IntKind.bits]; omega
  have hmem : ∀ k, n + m ≤ grownCap w (n + m) k e ∧ grownCap w (n + m) k e ≤ maxLen := fun k => ⟨grownCap_ge _ _ _ _, grownCap_le_maxLen _ _ _ _ (by unfold maxLen; omega)⟩
  have hgrown : ∀ k, Own8 (w.drew.alloc (.cells (row8 (xs ++ List.replicate m 0 ++ List.replicate (grownCap w (n + m) k e - (n + m)) 0)) e)) e base (some ⟨w.heap.size, 0, none⟩) (n + m) (grownCap w (n + m) k e) (xs ++ List.replicate m 0) := fun k =>
    ⟨by simp [hx], .inr ⟨w.heap.size, List.replicate (grownCap w (n + m) k e - (n + m)) 0, rfl, hbase, RowAt.new w.drew e _, by have := hmem k; simp; omega, (hmem k).2⟩⟩
  have hgr : ∀ k row, w.grownBy (w.drew.alloc (.cells (row8 (xs ++ List.replicate m 0 ++ List.replicate (grownCap w (n + m) k e - (n + m)) 0)) e)) row := fun k row =>
    ⟨rfl, rfl, rfl, by simp, fun k hk _ => Below.heap_alloc w.drew _ k hk⟩
  have hw0 : IntKind.i64.wrap 0 = 0 := rfl
  have hm1 : ¬ ((m : Int) < 0) := by omega
  have hm2 : ¬ (281474976710656 < (m : Int)) := by omega
  have hcap := hown.cap
  by_cases hroom : n + m ≤ c
  · by_cases hm0 : m = 0
    · subst hm0
      refine ⟨A, c, w, ?_, by simpa using hown, World.grownBy.refl w _, .inl rfl⟩
      rcases A with _ | a <;> simp [Builtin.append_, run_underlying ht, run_underlying hI, sizeOf, typeInfo, hi, hbt, hw0, asInt, asIntOf, hcap.1, storeCells]
    · rcases hown.2 with ⟨_, _, rfl⟩ | ⟨g, zs, rfl, hbg, hrow, hnc, hcm⟩
      · omega
      · have hzc : Builtin.zeroCells (Value.cells (.int .u8 0)) m = row8 (List.replicate m 0) := zero_row8 m
        have hst := run_storeCells_at P g n e (row8 (List.replicate m 0)).toList 0 (row8 (xs ++ zs)) w hrow (by simp [row8]; omega) (by rw [toList_row8]; exact one_row8 _)
        simp only [Nat.add_zero] at hst
        refine ⟨some ⟨g, 0, none⟩, c, w.setRow g ((row8 (xs ++ zs)).toList.take n ++ (row8 (List.replicate m 0)).toList ++ (row8 (xs ++ zs)).toList.drop (n + (row8 (List.replicate m 0)).toList.length)).toArray, ?_, ?_, ?_, .inl rfl⟩
        · simp [Builtin.append_, run_underlying ht, run_underlying hI, sizeOf, typeInfo, zeroValue, hi, hz, hbt, h1, hwr, asInt, asIntOf, hm1, hm2, hroom, hm0, hzc, Addr.add_lit, hst]
        · refine ⟨by simp [hx], .inr ⟨g, zs.drop m, rfl, hbg, ?_, by simp; omega, hcm⟩⟩
          have := setRow_heap w g _ ((row8 (xs ++ zs)).toList.take n ++ (row8 (List.replicate m 0)).toList ++ (row8 (xs ++ zs)).toList.drop (n + (row8 (List.replicate m 0)).toList.length)).toArray e _ hrow
          unfold RowAt
          rw [this]
          congr 2
          rw [toList_row8, toList_row8, List.length_map, List.length_replicate, List.map_append, List.take_append_of_le_length (by simp; omega), List.take_of_length_le (by simp; omega), List.drop_append, List.drop_of_length_le (by simp; omega), List.length_map, hx, Nat.add_sub_cancel_left]
          simp [row8]
        · exact ⟨rfl, rfl, rfl, by simp, fun k hk hne => setRow_other w g k _ (fun e => hne (by simp [e]))⟩
  · have h63 : ¬ (9223372036854775807 < ((n : Int) + (m : Int))) := by omega
    have h48 : ¬ (281474976710656 < Builtin.nextslicecap (n + m) c) := by have := growslice_fits (need := n + m) (old := c) (bytes := 1) (by omega) (by omega); omega
    have hm0 : m ≠ 0 := by omega
    have h63' : ¬ (9223372036854775807 < (m : Int)) := by omega
    have hzc : ∀ k, Builtin.zeroCells (Value.cells (.int .u8 0)) k = row8 (List.replicate k 0) := zero_row8
    refine ⟨some ⟨w.heap.size, 0, none⟩, grownCap w (n + m) c e, _, ?_, hgrown c, hgr c _, .inr rfl⟩
    rcases hown.2 with ⟨rfl, rfl, rfl⟩ | ⟨g, zs, rfl, hbg, hrow, hnc, hcm⟩
    · obtain rfl := List.eq_nil_of_length_eq_zero hx
      simp only [Nat.zero_add] at h48 h63 hroom ⊢
      simp [Builtin.append_, run_underlying ht, run_underlying hI, sizeOf, typeInfo, zeroValue, hi, hz, hbt, h1, hwr, asInt, asIntOf, hm1, hm2, hm0, h48, h63', hzc, run_firstCells_none, Question.forced, newRow, grownCap]
      simp [row8]
    · have hfo := run_firstCells_some (P := P) w.drew 1 n ⟨g, 0, none⟩ n c (xs.map fun x => Value.int .u8 (x.toNat : Int)) (by simp [hx]) (by have hrd : Rd w w.heap.size (some ⟨g, 0, none⟩) xs := hown.rd; simpa using hrd.cells)
      simp [Builtin.append_, run_underlying ht, run_underlying hI, sizeOf, typeInfo, zeroValue, hi, hz, hbt, h1, hwr, asInt, asIntOf, hm1, hm2, hm0, hroom, h48, h63, hzc, hfo, Question.forced, newRow, grownCap]
      congr 2
      apply Array.ext'
      simp [row8]

theorem wpList_appendZ8 {ops : Array Oper} {rest : List Oper} {o : Oper} {a : Act} {Q : Exit → Act → World → Prop} (h8 : Ty8 P T e i) {q : IntKind} (hI : P.underlying TI = some (.int q)) (w : World) (hgd : o.guard = none) (s x : Operand)
    (ho : o.op = .call { callee := .builtin .append, args := #[s, x], argTypes := #[T, TI] })
    (base : Nat) (A : Option Addr) (n c : Nat) (xs : List UInt8) (hs : a.eval s = .slice A n c) (hown : Own8 w e base A n c xs)
    (kl : IntKind) (m : Nat) (hx : a.eval x = .int kl m) (hb : n + m ≤ 140737488355328) (hbase : base ≤ w.heap.size)
    (h : ∀ A2 c2 w', Own8 w' e base A2 (n + m) c2 (xs ++ List.replicate m 0) → w.grownBy w' (A.map (·.block)) → Hid (A2 = A ∨ A2 = some ⟨w.heap.size, 0, none⟩) → wpList P ops Q rest (a.put o.dst (.slice A2 (n + m) c2)) w') :
    wpList P ops Q (o :: rest) a w := by
  refine wpList_plain hgd fun K hK => ?_
  obtain ⟨A2, c2, w', hrun, h2, h3, h4⟩ := run_appendZ8 h8 hI w o.type base A n c xs hown kl m hb hbase
  unfold Oper.wp execOp
  simp only [ho, resolve, invoke, builtin, Sem.run_bind, Sem.run_pure, Result.andThen_ok, List.map_toArray, List.map_cons, List.map_nil, hs, hx, hrun]
  exact hK _ _ (h A2 c2 w' h2 h3 h4)
end
end Go.Proofs.Ytnlhkofkjcofdaa
