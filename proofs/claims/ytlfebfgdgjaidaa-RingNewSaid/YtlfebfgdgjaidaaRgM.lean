/-
  Layer 5 (ring): plain mathematics of a row that goes round; words on a channel's block.
-/
import Derived.Test.YtlfebfgdgjaidaaRows
import Derived.Test.YtlfebfgdgjaidaaSpM
import Derived.Test.YtlfebfgdgjaidaaChan
import Derived.Conc.LoneSelectN
import Derived.Laws.CopyRow
import Derived.Deep.RegionLaw
import Derived.KernelRfl
import Derived.Laws.Rows
namespace Go.Proofs.Ytlfebfgdgjaidaa
open Go.RowKit
set_option linter.unusedVariables false

theorem mod_near {a n : Nat} (h : a < 2 * n) : a % n = if a < n then a else a - n := by
  split
  · exact Nat.mod_eq_of_lt (by assumption)
  · rw [Nat.mod_eq_sub_mod (by omega), Nat.mod_eq_of_lt (by omega)]

/-- The elements q lie in ys from f on, and then from its beginning. -/
def Lay {α : Type} (ys : List α) (f : Nat) (q : List α) : Prop := q.length ≤ ys.length ∧ (f < ys.length ∨ (ys = [] ∧ f = 0)) ∧ ∀ j, j < q.length → ys[(f + j) % ys.length]? = q[j]?

section
variable {α : Type} {ys q : List α} {f n : Nat} {x z : α}
theorem Lay.nil : Lay ([] : List α) 0 [] := ⟨Nat.le_refl _, .inr ⟨rfl, rfl⟩, fun j h => absurd h (by simp)⟩
theorem Lay.le (h : Lay ys f q) : q.length ≤ ys.length := h.1
theorem Lay.lt (h : Lay ys f q) (hq : 0 < q.length) : f < ys.length := by
  rcases h.2.1 with hf | ⟨rfl, _⟩
  · exact hf
  · have := h.1; rw [List.length_nil] at this; omega
theorem Lay.at_ (h : Lay ys f q) {j : Nat} (hj : j < q.length) : ys[(f + j) % ys.length]? = some q[j] := by rw [h.2.2 j hj, List.getElem?_eq_getElem hj]
theorem Lay.push (h : Lay ys f q) (hl : q.length < ys.length) (x : α) : Lay (ys.set ((f + q.length) % ys.length) x) f (q ++ [x]) := by
  have hf : f < ys.length := by
    rcases h.2.1 with hf | ⟨rfl, _⟩
    · exact hf
    · simp at hl
  refine ⟨by simp; omega, .inl (by simpa using hf), fun j hj => ?_⟩
  simp only [List.length_append, List.length_cons, List.length_nil, List.length_set] at hj ⊢
  rw [List.getElem?_set, mod_near (show f + q.length < 2 * ys.length by omega), mod_near (show f + j < 2 * ys.length by omega)]
  rcases Nat.lt_or_ge j q.length with hlt | hge
  · have h1 := h.2.2 j hlt
    rw [mod_near (show f + j < 2 * ys.length by omega)] at h1
    rw [List.getElem?_append_left hlt, if_neg (by split <;> split <;> omega)]
    exact h1
  · obtain rfl : j = q.length := by omega
    rw [if_pos rfl, List.getElem?_append_right (Nat.le_refl _), Nat.sub_self, if_pos (by split <;> omega)]
    rfl
theorem Lay.pop (h : Lay ys f (x :: q)) (z : α) : ys[f]? = some x ∧ Lay (ys.set f z) ((f + 1) % ys.length) q := by
  have hf : f < ys.length := h.lt (by simp)
  have hle := h.1
  simp only [List.length_cons] at hle
  refine ⟨?_, by simp; omega, .inl (by simp only [List.length_set]; exact Nat.mod_lt _ (by omega)), fun j hj => ?_⟩
  · have := h.2.2 0 (by simp)
    rw [Nat.add_zero, Nat.mod_eq_of_lt hf] at this
    simpa using this
  · have h1 := h.2.2 (j + 1) (by simp; omega)
    simp only [List.getElem?_cons_succ] at h1
    rw [List.length_set, List.getElem?_set, Nat.mod_add_mod, show f + 1 + j = f + (j + 1) by omega, ← h1]
    rw [if_neg]
    rw [mod_near (show f + (j + 1) < 2 * ys.length by omega)]
    split <;> omega
theorem Lay.head (h : Lay ys f (x :: q)) (z : α) : Lay (ys.set f z) f (z :: q) := by
  have hf : f < ys.length := h.lt (by simp)
  have hle := h.1
  simp only [List.length_cons] at hle
  refine ⟨by simp; omega, .inl (by simpa using hf), fun j hj => ?_⟩
  simp only [List.length_cons] at hj
  rw [List.length_set, List.getElem?_set]
  rcases j with _ | j
  · rw [Nat.add_zero, Nat.mod_eq_of_lt hf, if_pos rfl, if_pos hf]
    rfl
  · have h1 := h.2.2 (j + 1) (by simp; omega)
    rw [if_neg (by rw [mod_near (show f + (j + 1) < 2 * ys.length by omega)]; split <;> omega), h1]
    simp
/-- A full ring, turned to its beginning, with room behind it. -/
theorem Lay.grow (h : Lay ys f q) (hl : q.length = ys.length) (zs : List α) (hz : 0 < zs.length) : Lay (ys.drop f ++ ys.take f ++ zs) 0 q := by
  have hf : f ≤ ys.length := by
    rcases h.2.1 with hf | ⟨rfl, rfl⟩
    · omega
    · simp
  refine ⟨by simp; omega, .inl (by simp; omega), fun j hj => ?_⟩
  have h1 := h.2.2 j hj
  rcases h.2.1 with hf' | ⟨rfl, rfl⟩
  · rw [mod_near (show f + j < 2 * ys.length by omega)] at h1
    rw [← h1, Nat.zero_add, Nat.mod_eq_of_lt (by simp; omega), List.append_assoc]
    split
    · rw [List.getElem?_append_left (by simp; omega), List.getElem?_drop]
    · rw [List.getElem?_append_right (by simp; omega), List.getElem?_append_left (by simp; omega), List.getElem?_take_of_lt (by simp; omega)]
      congr 1
      simp
      omega
  · rw [List.length_nil] at hl
    omega
end

section
variable {w w' : World} {g c cap s r : Nat} {buf : Array Value} {tm closed : Bool} {t : TypeId} {cs : Array Value} {S : List Nat} {o : Obj}
theorem heap_setChan_ne (h : g ≠ c) : (w.setChan c cap buf closed s r tm).heap[g]? = w.heap[g]? := by simp [World.setChan, Array.getElem?_setIfInBounds_ne (Ne.symm h)]
theorem heap_setChan_eq (h : w.heap[c]? = some o) : (w.setChan c cap buf closed s r tm).heap[c]? = some (.chan cap buf closed s r tm) := by
  have hlt : c < w.heap.size := (Array.getElem?_eq_some_iff.1 h).1
  simp [World.setChan, hlt]
theorem Blk.setChan (h : Blk w g t cs) (hg : g ≠ c) : Blk (w.setChan c cap buf closed s r tm) g t cs := (heap_setChan_ne hg).trans h
theorem Tw.setChan (h : Tw S w w') (hc : c ∈ S) : Tw S w (w'.setChan c cap buf closed s r tm) :=
  ⟨h.os, h.tape, h.output, by have := h.size; simpa [World.setChan] using this, fun k hk hn => by
    rw [heap_setChan_ne (by rintro rfl; exact hn hc)]
    exact h.block k hk hn⟩

/-- A channel of tokens: n of them, room for cap. -/
def Chn (w : World) (c cap n : Nat) : Prop := ∃ (s r : Nat) (buf : Array Value), w.heap[c]? = some (.chan cap buf false s r false) ∧ buf.size = n
theorem Chn.tw {n : Nat} (h : Chn w c cap n) (ht : Tw S w w') (hc : c ∉ S) : Chn w' c cap n := by
  obtain ⟨s, r, buf, h1, h2⟩ := h
  exact ⟨s, r, buf, (ht.block c (Array.getElem?_eq_some_iff.1 h1).1 hc).trans h1, h2⟩
theorem Chn.ne {n : Nat} (h : Chn w c cap n) (hb : Blk w g t cs) : g ≠ c := by
  rintro rfl
  obtain ⟨s, r, buf, h1, h2⟩ := h
  unfold Blk at hb
  rw [h1] at hb
  cases hb
theorem Chn.lt {n : Nat} (h : Chn w c cap n) : c < w.heap.size := by
  obtain ⟨s, r, buf, h1, h2⟩ := h
  exact (Array.getElem?_eq_some_iff.1 h1).1
theorem Blk.ne_ {t' : TypeId} {cs' : Array Value} {g' : Nat} (h : Blk w g t cs) (h' : Blk w g' t' cs') (ht : t ≠ t') : g ≠ g' := by
  rintro rfl
  unfold Blk at h h'
  rw [h] at h'
  injection h' with e
  injection e with _ e
  exact ht e
end

/-- copy, its run known. -/
theorem wpList_copy_run {P : Program} {ops : Array Oper} {rest : List Oper} {o : Oper} {a : Act} {w w' : World} {Q : Exit → Act → World → Prop} (hg : o.guard = none) (s x : Operand) (t : TypeId)
    (hop : o.op = Op.call { callee := Callee.builtin Builtin.copy, args := #[s, x], argTypes := #[t, t] }) (v u v' : Value) (hs : a.eval s = v) (hx : a.eval x = u) (ty : TypeId) (hty : o.type = ty)
    (hrun : (Builtin.copy_ #[t, t] ty #[v, u]).run P w = .ok v' w') (hK : wpList P ops Q rest (a.put o.dst v') w') : wpList P ops Q (o :: rest) a w := by
  have hw : Region.wanted o (yielded ops a.tmps) = true := by simp [Region.wanted, hg]
  unfold wpList
  rw [if_pos hw]
  left
  subst hty
  unfold Oper.wp
  simp only [execOp, hop, resolve, invoke, builtin, Sem.run_bind, Sem.run_pure, Result.andThen_ok, List.map_toArray, List.map_cons, List.map_nil, hs, hx, hrun]
  exact hK
/-- append, its run known. -/
theorem wpList_append_run {P : Program} {ops : Array Oper} {rest : List Oper} {o : Oper} {a : Act} {w w' : World} {Q : Exit → Act → World → Prop} (hg : o.guard = none) (s x : Operand) (t : TypeId)
    (hop : o.op = Op.call { callee := Callee.builtin Builtin.append, args := #[s, x], argTypes := #[t, t] }) (v u v' : Value) (hs : a.eval s = v) (hx : a.eval x = u) (ty : TypeId) (hty : o.type = ty)
    (hrun : (Builtin.append_ #[t, t] ty #[v, u]).run P w = .ok v' w') (hK : wpList P ops Q rest (a.put o.dst v') w') : wpList P ops Q (o :: rest) a w := by
  have hw : Region.wanted o (yielded ops a.tmps) = true := by simp [Region.wanted, hg]
  unfold wpList
  rw [if_pos hw]
  left
  subst hty
  unfold Oper.wp
  simp only [execOp, hop, resolve, invoke, builtin, Sem.run_bind, Sem.run_pure, Result.andThen_ok, List.map_toArray, List.map_cons, List.map_nil, hs, hx, hrun]
  exact hK

theorem Tw.setCell_new {S : List Nat} {w w' : World} (h : Tw S w w') (p : Addr) (u : Value) (hp : w.heap.size ≤ p.block) : Tw S w (w'.setCell p u) :=
  ⟨h.os, h.tape, h.output, by simpa [World.setCell] using h.size, fun i hi hn => (Below.heap_setCell w' p u i (by omega)).trans (h.block i hi hn)⟩
theorem drop_row {α : Type} {ys : List α} {f k n N : Nat} (z : α) (hl : ys.length = n) (hk : k = n - f) (hf : f ≤ n) : (ys.drop f ++ List.replicate (N - k) z).drop (k + f) = List.replicate (N - n) z := by
  rw [List.drop_append, List.drop_of_length_le (by simp; omega), List.nil_append, List.drop_replicate]
  congr 1
  simp
  omega

section
variable {w w' : World} {g k : Nat} {cs ds : Array Value} {t t' : TypeId} {S : List Nat}
theorem Blk.setRow (h : Blk w g t cs) (ds : Array Value) : Blk (w.setRow g ds) g t ds := setRow_heap w g cs ds t (0, 0) h
theorem Tw.setRow (h : Tw S w w') (g : Nat) (ds : Array Value) (hg : g ∈ S) : Tw S w (w'.setRow g ds) :=
  ⟨h.os, h.tape, h.output, by simpa using h.size, fun i hi hn => (setRow_other w' g i ds (by rintro rfl; exact hn hg)).trans (h.block i hi hn)⟩
theorem Tw.setRow_new (h : Tw S w w') (g : Nat) (ds : Array Value) (hg : w.heap.size ≤ g) : Tw S w (w'.setRow g ds) :=
  ⟨h.os, h.tape, h.output, by simpa using h.size, fun i hi hn => (setRow_other w' g i ds (by omega)).trans (h.block i hi hn)⟩
end

theorem still_any {P : Program} {f : FuncId} {args : Array Value} {w : World} {n : Nat} {v : Value}
    (h : Calls P f args (w.drewN n) fun e w' => e = .returned v ∧ ∃ k, w' = (w.drewN n).drewN k) : Calls P f args (w.drewN n) fun e w'' => e = .returned v ∧ ∃ m, w'' = w.drewN m :=
  h.mono fun _ _ ⟨he, k, hm⟩ => ⟨he, n + k, by rw [hm, World.drewN_drewN]⟩
theorem tw_below {B : Nat} {w0 w w' : World} {S : List Nat} (h : Below B w0 w) (ht : Tw S w w') (hS : ∀ k ∈ S, B ≤ k) (hB : B ≤ w0.heap.size) : Below B w0 w' :=
  h.trans (ht.below hS (Nat.le_trans hB h.size))

theorem bytesUnit : ∃ i, Try.prog.info? 79 = some i ∧ i.bytes = 0 := by
  have h : (Try.prog.info? 79).map (·.bytes) = some 0 := by kernel_rfl
  obtain ⟨i, hi, hb⟩ := Option.map_eq_some_iff.1 h
  exact ⟨i, hi, hb⟩
/-- make(chan struct{}, most). -/
theorem mkChan_any (most : Nat) (w : World) (h : most ≤ 1048576) : (Instr.makeChan 76 (.int .i64 (most : Nat))).run Try.prog w = .ok (.chan (some w.heap.size)) (w.alloc (.chan most #[] false 0 0 false)) := by
  obtain ⟨i, hi, hb⟩ := bytesUnit
  exact Conc.run_makeChan (P := Try.prog) Try.underlying76 hi .i64 most (by omega) (by rw [hb]; omega)
theorem zero_unit (w : World) : (zeroValue 79).run Try.prog w = .ok (.agg #[]) w := by kernel_rfl
end Go.Proofs.Ytlfebfgdgjaidaa
