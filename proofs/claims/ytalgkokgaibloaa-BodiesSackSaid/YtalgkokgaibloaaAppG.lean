/-
  append onto nothing of a slice that came in: of pairs, of numbers; in the walk. Regions that do not draw, hidden from the walk.
-/
import Derived.Test.YtalgkokgaibloaaBodJ
namespace Go.Proofs.Ytalgkokgaibloaa
open Go.RowKit
set_option linter.unusedVariables false

/-- A region that keeps its order, hidden from the walk. -/
def SeqR (id : Nat) (ops : Array Oper) : Code := .region id ops false
theorem seq_eq (id : Nat) (ops : Array Oper) : Code.region id ops false = SeqR id ops := rfl

theorem below_grown_none {w w' : World} (h : w.grownBy w' none) : Below w.heap.size w w' := ⟨h.os, h.tape, h.output, h.size, fun i hi => h.block i hi (by simp)⟩

theorem flat_get (L : List (Nat × Nat)) (j : Nat) (u : Value) (h : (flat L)[j]? = some u) : ∃ p, L[j / 2]? = some p ∧ u = if j % 2 = 0 then .int .u16 (p.1 : Nat) else .int .u16 (p.2 : Nat) := by
  have hj : j < L.length * 2 := by
    have := (List.getElem?_eq_some_iff.1 h).1
    rwa [length_flat] at this
  have hp : L[j / 2]? = some (L[j / 2]'(by omega)) := List.getElem?_eq_getElem _
  obtain ⟨h0, h1⟩ := get_flat L (j / 2) _ hp
  refine ⟨_, hp, ?_⟩
  rcases Nat.mod_two_eq_zero_or_one j with hm | hm
  · rw [if_pos hm]
    rw [show j / 2 * 2 = j by omega, h] at h0
    exact Option.some.inj h0
  · rw [if_neg (by omega)]
    rw [show j / 2 * 2 + 1 = j by omega, h] at h1
    exact Option.some.inj h1
theorem Rg.flat_cells {w : World} {lo hi : Nat} {b o : Nat} {L : List (Nat × Nat)} (h : Rg w lo hi (some ⟨b, o, none⟩) L) : ∀ j u, (flat L)[j]? = some u → w.cell? ((⟨b, o, none⟩ : Addr).add j) = some u := by
  intro j u hu
  obtain ⟨p, hp, rfl⟩ := flat_get L j u hu
  rcases h with rfl | ⟨b', o', ha, _, _, hc⟩
  · simp at hp
  · injection ha with ha
    injection ha with e1 e2
    subst e1 e2
    obtain ⟨c0, c1⟩ := hc (j / 2) p hp
    rw [Addr.add_lit]
    rcases Nat.mod_two_eq_zero_or_one j with hm | hm
    · rw [if_pos hm]
      rwa [show o + j / 2 * 2 = o + j by omega] at c0
    · rw [if_neg (by omega)]
      rwa [show o + j / 2 * 2 + 1 = o + j by omega] at c1

theorem run_append_empty {P : Program} {T e : TypeId} {i : TypeInfo} {z : Value} {size bytes : Nat} (ht : P.underlying T = some (.slice e)) (hi : P.info? e = some i) (hz : i.zero = some z) (h1 : i.size = size) (hb : i.bytes = bytes) (hzs : z.cells.size = size) (hsz : 0 < size)
    (w : World) (ty : TypeId) (A : Option Addr) (c : Nat) :
    ∃ w', (Builtin.append_ #[T, T] ty #[.slice none 0 0, .slice A 0 c]).run P w = .ok (.slice none 0 0) w' ∧ Below w.heap.size w w' := by
  cases A with
  | none => exact ⟨w, by simp [Builtin.append_, run_underlying ht, sizeOf, typeInfo, hi, Builtin.lenOf, Builtin.firstCells], Below.refl _ _⟩
  | some a =>
    obtain ⟨v', w', hrun, hown, hgr, hn⟩ := run_append_own w w.heap.size T ty e i z size bytes ht hi hz h1 hb hzs hsz (.slice none 0 0) 0 [] (World.ownsRow_nil _ _ _ _) a 0 c [] (by simp) (fun j u hu => by simp at hu) (fun u hu => by cases hu) (by unfold maxLen; omega) (by omega) (Nat.le_refl _)
    obtain rfl := hn.2 ⟨rfl, rfl⟩
    exact ⟨w', hrun, below_grown_none hgr⟩

/-- A whole slice of pairs, appended to nothing. -/
theorem run_appendG0 {P : Program} {T e : TypeId} {i : TypeInfo} (ht : P.underlying T = some (.slice e)) (hi : P.info? e = some i) (hz : i.zero = some (.agg #[.int .u16 0, .int .u16 0])) (h1 : i.size = 2) (hb : i.bytes = 4)
    (w : World) (ty : TypeId) (A : Option Addr) (n c : Nat) (L : List (Nat × Nat)) (hl : L.length = n) (hr : Rg w 0 w.heap.size A L) (hn : n ≤ 1099511627776) :
    ∃ A2 c2 w', (Builtin.append_ #[T, T] ty #[.slice none 0 0, .slice A n c]).run P w = .ok (.slice A2 n c2) w' ∧ Og w' e w.heap.size (.slice A2 n c2) L ∧ Below w.heap.size w w' := by
  subst hl
  rcases L with _ | ⟨p, L⟩
  · obtain ⟨w', hrun, hb'⟩ := run_append_empty ht hi hz h1 hb rfl (by decide) w ty A c
    exact ⟨none, 0, w', hrun, World.ownsRow_nil _ _ _ _, hb'⟩
  · obtain ⟨b, o, rfl⟩ : ∃ b o, A = some ⟨b, o, none⟩ := by
      rcases hr with h | ⟨b, o, h, _⟩
      · cases h
      · exact ⟨b, o, h⟩
    obtain ⟨v', w', hrun, hown, hgr, _⟩ := run_append_own w w.heap.size T ty e i _ 2 4 ht hi hz h1 hb rfl (by decide) (.slice none 0 0) 0 [] (World.ownsRow_nil _ _ _ _) ⟨b, o, none⟩ (p :: L).length c (flat (p :: L)) (length_flat _)
      hr.flat_cells (fun u hu => flat_one u hu) (by unfold maxLen; omega) (by omega) (Nat.le_refl _)
    rw [Nat.zero_add, List.nil_append] at hown
    have hog : Og w' e w.heap.size v' (p :: L) := hown
    obtain ⟨A2, c2, rfl, _⟩ := hog.form
    exact ⟨A2, c2, w', hrun, hog, below_grown_none hgr⟩
/-- .. of numbers. -/
theorem run_appendW0 {P : Program} {T e : TypeId} {i : TypeInfo} (ht : P.underlying T = some (.slice e)) (hi : P.info? e = some i) (hz : i.zero = some (.int .u32 0)) (h1 : i.size = 1) (hb : i.bytes = 4)
    (w : World) (ty : TypeId) (A : Option Addr) (n c : Nat) (L : List Int) (hl : L.length = n) (hr : Ri .u32 w w.heap.size A L) (hn : n ≤ 1099511627776) :
    ∃ A2 c2 w', (Builtin.append_ #[T, T] ty #[.slice none 0 0, .slice A n c]).run P w = .ok (.slice A2 n c2) w' ∧ Ow w' e w.heap.size (.slice A2 n c2) L ∧ Below w.heap.size w w' := by
  subst hl
  rcases L with _ | ⟨p, L⟩
  · obtain ⟨w', hrun, hb'⟩ := run_append_empty ht hi hz h1 hb rfl (by decide) w ty A c
    exact ⟨none, 0, w', hrun, Ow.nil _ _ _, hb'⟩
  · obtain ⟨b, o, rfl, hcs⟩ : ∃ b o, A = some ⟨b, o, none⟩ ∧ ∀ (j : Nat) x, (p :: L)[j]? = some x → w.cell? ⟨b, o + j, none⟩ = some (.int .u32 x) := by
      rcases hr with h | ⟨b, o, h, _, h2⟩
      · cases h
      · exact ⟨b, o, h, h2⟩
    obtain ⟨v', w', hrun, hown, hgr, _⟩ := run_append_own w w.heap.size T ty e i _ 1 4 ht hi hz h1 hb rfl (by decide) (.slice none 0 0) 0 [] (World.ownsRow_nil _ _ _ _) ⟨b, o, none⟩ (p :: L).length c ((p :: L).map (Value.int .u32)) (by simp)
      (fun j u hu => by
        rw [List.getElem?_map, Option.map_eq_some_iff] at hu
        obtain ⟨x, hx, rfl⟩ := hu
        rw [Addr.add_lit]
        exact hcs j x hx)
      (fun u hu => by
        obtain ⟨x, _, rfl⟩ := List.mem_map.1 hu
        rfl) (by unfold maxLen; omega) (by omega) (Nat.le_refl _)
    rw [Nat.zero_add, List.nil_append] at hown
    have how : Ow w' e w.heap.size v' (p :: L) := hown
    obtain ⟨A2, c2, rfl, _⟩ := how.form
    exact ⟨A2, c2, w', hrun, how, below_grown_none hgr⟩
section
variable {P : Program} {T e : TypeId} {i : TypeInfo} {ops : Array Oper} {rest : List Oper} {o : Oper} {a : Act} {Q : Exit → Act → World → Prop}
theorem wpList_appendG0 (ht : P.underlying T = some (.slice e)) (hi : P.info? e = some i) (hz : i.zero = some (.agg #[.int .u16 0, .int .u16 0])) (h1 : i.size = 2) (hb : i.bytes = 4) (w : World) (hgd : o.guard = none) (s x : Operand)
    (ho : o.op = .call { callee := .builtin .append, args := #[s, x], argTypes := #[T, T] }) (hs : a.eval s = .slice none 0 0) (A : Option Addr) (n c : Nat) (L : List (Nat × Nat)) (hx : a.eval x = .slice A n c) (hl : L.length = n) (hr : Rg w 0 w.heap.size A L) (hn : n ≤ 1099511627776)
    (h : ∀ A2 c2 w', Og w' e w.heap.size (.slice A2 n c2) L → Below w.heap.size w w' → wpList P ops Q rest (a.put o.dst (.slice A2 n c2)) w') : wpList P ops Q (o :: rest) a w := by
  refine wpList_plain hgd fun K hK => ?_
  obtain ⟨A2, c2, w', hrun, h2, h3⟩ := run_appendG0 ht hi hz h1 hb w o.type A n c L hl hr hn
  unfold Oper.wp execOp
  simp only [ho, resolve, invoke, builtin, Sem.run_bind, Sem.run_pure, Result.andThen_ok, List.map_toArray, List.map_cons, List.map_nil, hs, hx, hrun]
  exact hK _ _ (h A2 c2 w' h2 h3)
theorem wpList_appendW0 (ht : P.underlying T = some (.slice e)) (hi : P.info? e = some i) (hz : i.zero = some (.int .u32 0)) (h1 : i.size = 1) (hb : i.bytes = 4) (w : World) (hgd : o.guard = none) (s x : Operand)
    (ho : o.op = .call { callee := .builtin .append, args := #[s, x], argTypes := #[T, T] }) (hs : a.eval s = .slice none 0 0) (A : Option Addr) (n c : Nat) (L : List Int) (hx : a.eval x = .slice A n c) (hl : L.length = n) (hr : Ri .u32 w w.heap.size A L) (hn : n ≤ 1099511627776)
    (h : ∀ A2 c2 w', Ow w' e w.heap.size (.slice A2 n c2) L → Below w.heap.size w w' → wpList P ops Q rest (a.put o.dst (.slice A2 n c2)) w') : wpList P ops Q (o :: rest) a w := by
  refine wpList_plain hgd fun K hK => ?_
  obtain ⟨A2, c2, w', hrun, h2, h3⟩ := run_appendW0 ht hi hz h1 hb w o.type A n c L hl hr hn
  unfold Oper.wp execOp
  simp only [ho, resolve, invoke, builtin, Sem.run_bind, Sem.run_pure, Result.andThen_ok, List.map_toArray, List.map_cons, List.map_nil, hs, hx, hrun]
  exact hK _ _ (h A2 c2 w' h2 h3)
end
end Go.Proofs.Ytalgkokgaibloaa
