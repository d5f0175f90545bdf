/-
  Over any program: the walk's 'Code.wp' through a region that communicates (one goroutine, nothing waits): a select of one send with a default; a receive from a buffer.
-/
import Derived.Test.YtlfebfgdgjaidaaMem
import Derived.Conc.LoneSelect
namespace Go.Proofs.Ytlfebfgdgjaidaa
open Go.RowKit Go.Conc
set_option linter.unusedVariables false

/-- A region whose walk stops ahead of it. -/
def Comm (id : Nat) (ops : Array Oper) : Code := .region id ops false
theorem comm_eq (id : Nat) (ops : Array Oper) : Code.region id ops false = Comm id ops := rfl

/-- What is left of a region, by its meaning. -/
def RestGo (P : Program) (ops : Array Oper) (Q : Exit → Act → World → Prop) (l : List Nat) (a : Act) (w : World) : Prop :=
  ∀ (b : Frame) (k : List Item) (cs : List Frame), ∃ e a' w', Q e a' w' ∧ Arrives P (lone (b.at a (.inRegion ops l :: k)) cs w) b k cs e a' w'

section
variable {P : Program} {ops : Array Oper} {Q : Exit → Act → World → Prop} {l rest : List Nat} {a : Act} {w w' : World} {i id : Nat} {o : Oper} {v : Value}
theorem RestGo.of (h : wpOps P ops Q l a w) : RestGo P ops Q l a w := wp_ops l a w h
theorem RestGo.region (h : RestGo P ops Q (List.range ops.size) a w) : (Comm id ops).wp P Q a w :=
  fun b k cs => let ⟨e, a', w', q, r⟩ := h b k cs; ⟨e, a', w', q, .of_steps (.one step_region) r⟩
/-- From here on the walk goes as ever. -/
theorem RestGo.list (n : Nat) (l : List Oper) (hl : ∀ j, l[j]? = ops[n + j]?) (h : wpList P ops Q l a w) : RestGo P ops Q (List.range' n l.length) a w := by
  refine RestGo.of ?_
  rw [wpOps_eq_wpList l n hl]
  exact h

theorem RestGo.value (ho : ops[i]? = some o) (hw : Region.wanted o (yielded ops a.tmps) = true) (hr : (execOp a.eval o).run P w = .ok (.value v) w') (h : RestGo P ops Q rest (a.put o.dst v) w') :
    RestGo P ops Q (i :: rest) a w := by
  intro b k cs
  obtain ⟨e, a', w'', hq, harr⟩ := h b k cs
  have hg := stepG_op (P := P) (b := b) (k := k) (cs := cs) (w := w) (rest := rest) ho hw
  have hfin : (b.at a (.inRegion ops (i :: rest) :: k)).finish v = b.at (a.put o.dst v) (.inRegion ops rest :: k) := by rw [Frame.finish_at, ho]; rfl
  refine ⟨e, a', w'', hq, .of_steps (.one (step_lone_go ?_)) harr⟩
  rw [hg, ← hfin]
  simp [stepG.apply, hr]

theorem comm_step {b : Frame} {k : List Item} {cs : List Frame} {cases : Array CommCase} {blocking : Bool} {shape : CommShape} (ho : ops[i]? = some o) (hw : Region.wanted o (yielded ops a.tmps) = true)
    (hr : (execOp a.eval o).run P w = .ok (.comm cases blocking shape) w') :
    ∃ es, stepG P true (G (b.at a (.inRegion ops (i :: rest) :: k)) cs) w = .comm (G (b.at a (.inRegion ops (i :: rest) :: k)) cs) cases blocking shape w' es := by
  rw [stepG_oper ho hw]
  by_cases hk : (b.kind == CallKind.early) = true
  · refine ⟨seen P b.fn #[] ++ #[], ?_⟩
    simp only [stepG.apply, hr, G, Frame.at, hk, GStep.after, Sem.runT_eq, if_true]
  · have hk : (b.kind == CallKind.early) = false := by simpa using hk
    refine ⟨seen P b.fn (Sem.events P (execOp a.eval o) w #[]) ++ #[], ?_⟩
    simp only [stepG.apply, hr, G, Frame.at, hk, GStep.after, Sem.runT_eq, if_true, Bool.false_eq_true, if_false]

theorem RestGo.comm {b0 : Unit} {u : Value} {cases : Array CommCase} {blocking : Bool} {shape : CommShape} {w1 w2 : World} (ho : ops[i]? = some o) (hw : Region.wanted o (yielded ops a.tmps) = true)
    (hr : (execOp a.eval o).run P w = .ok (.comm cases blocking shape) w1)
    (hs : ∀ (fr : Frame) (cs : List Frame) (es : Array Event), stepG P true (G fr cs) w = .comm (G fr cs) cases blocking shape w1 es → step P (solo (G fr cs) w) = .next (solo (G (fr.finish u) cs) w2))
    (h : RestGo P ops Q rest (a.put o.dst u) w2) : RestGo P ops Q (i :: rest) a w := by
  intro b k cs
  obtain ⟨e, a', w'', hq, harr⟩ := h b k cs
  obtain ⟨es, hc⟩ := comm_step (b := b) (k := k) (cs := cs) (rest := rest) ho hw hr
  have h1 := hs _ _ _ hc
  have hfin : (b.at a (.inRegion ops (i :: rest) :: k)).finish u = b.at (a.put o.dst u) (.inRegion ops rest :: k) := by rw [Frame.finish_at, ho]; rfl
  rw [hfin] at h1
  exact ⟨e, a', w'', hq, .of_steps (.one h1) harr⟩

variable {x y : Operand} {t d : Tmp} {ty : TypeId} {c cap s r : Nat} {buf : Array Value} {tm closed : Bool} {z : Value} {e : TypeId} {dir : ChanDir}

/-- 'select { case c <- v: .. default: .. }': there is room. -/
theorem RestGo.select_room (ho : ops[i]? = some o) (hg : o.guard = none) (hop : o.op = .select #[{ chan := x, send := some y, elem := ty }] false) (hx : a.eval x = .chan (some c)) (hy : a.eval y = v) (hz : (zeroValue ty).run P w = .ok z w)
    (hc : w.heap[c]? = some (.chan cap buf false s r tm)) (hroom : buf.size < cap)
    (h : RestGo P ops Q rest (a.put o.dst (.tuple #[goInt 0, .bool false])) (w.setChan c cap (buf.push v) false (s + 1) r tm)) : RestGo P ops Q (i :: rest) a w := by
  refine RestGo.comm (b0 := ()) (cases := #[scase c v z]) (blocking := false) (shape := .select) ho (by simp [Region.wanted, hg]) (by simp [execOp, hop, hx, hy, hz, scase]) (fun fr cs es hst => step_lone_select_send_room hst hc hroom) h
/-- There is none. -/
theorem RestGo.select_full (ho : ops[i]? = some o) (hg : o.guard = none) (hop : o.op = .select #[{ chan := x, send := some y, elem := ty }] false) (hx : a.eval x = .chan (some c)) (hy : a.eval y = v) (hz : (zeroValue ty).run P w = .ok z w)
    (hc : w.heap[c]? = some (.chan cap buf false s r tm)) (hfull : cap ≤ buf.size)
    (h : RestGo P ops Q rest (a.put o.dst (.tuple #[goInt (-1), .bool false])) w) : RestGo P ops Q (i :: rest) a w := by
  refine RestGo.comm (b0 := ()) (cases := #[scase c v z]) (blocking := false) (shape := .select) ho (by simp [Region.wanted, hg]) (by simp [execOp, hop, hx, hy, hz, scase]) (fun fr cs es hst => step_lone_select_send_full hst hc hfull) h
/-- '<-c': the buffer holds something. -/
theorem RestGo.recv_buf (ho : ops[i]? = some o) (hg : o.guard = none) (hop : o.op = .recv ty x false) (hx : a.eval x = .chan (some c)) (hu : P.underlying ty = some (.chan dir e)) (hz : (zeroValue e).run P w = .ok z w)
    (hc : w.heap[c]? = some (.chan cap buf closed s r tm)) (hsome : 0 < buf.size)
    (h : RestGo P ops Q rest (a.put o.dst (buf.getD 0 undef)) (w.setChan c cap (buf.extract 1 buf.size) closed s (r + 1) tm)) : RestGo P ops Q (i :: rest) a w := by
  refine RestGo.comm (b0 := ()) (cases := #[rcase c z]) (blocking := true) (shape := .recv false) ho (by simp [Region.wanted, hg]) (by simp [execOp, hop, hx, run_underlying hu, hz, rcase]) (fun fr cs es hst => step_lone_recv_buf false hst hc hsome) h

theorem RestGo.two {o0 o1 o2 : Oper} (h : wpList P #[o0, o1, o2] Q [o1, o2] a w) : RestGo P #[o0, o1, o2] Q [1, 2] a w :=
  RestGo.list 1 [o1, o2] (by intro j; rcases j with _ | _ | _ | j <;> simp; omega) h

/-- A region that is a select of one send with a default, what it tells, and the test: there is room. -/
theorem comm_room {o0 o1 o2 : Oper} (hg : o0.guard = none) (hop : o0.op = .select #[{ chan := x, send := some y, elem := ty }] false) (hx : a.eval x = .chan (some c)) (hy : a.eval y = v) (hz : (zeroValue ty).run P w = .ok z w)
    (hc : w.heap[c]? = some (.chan cap buf false s r tm)) (hroom : buf.size < cap)
    (h : wpList P #[o0, o1, o2] Q [o1, o2] (a.put o0.dst (.tuple #[goInt 0, .bool false])) (w.setChan c cap (buf.push v) false (s + 1) r tm)) : (Comm id #[o0, o1, o2]).wp P Q a w :=
  RestGo.region (show RestGo P #[o0, o1, o2] Q [0, 1, 2] a w from RestGo.select_room (o := o0) rfl hg hop hx hy hz hc hroom (RestGo.two h))
/-- There is none. -/
theorem comm_full {o0 o1 o2 : Oper} (hg : o0.guard = none) (hop : o0.op = .select #[{ chan := x, send := some y, elem := ty }] false) (hx : a.eval x = .chan (some c)) (hy : a.eval y = v) (hz : (zeroValue ty).run P w = .ok z w)
    (hc : w.heap[c]? = some (.chan cap buf false s r tm)) (hfull : cap ≤ buf.size)
    (h : wpList P #[o0, o1, o2] Q [o1, o2] (a.put o0.dst (.tuple #[goInt (-1), .bool false])) w) : (Comm id #[o0, o1, o2]).wp P Q a w :=
  RestGo.region (show RestGo P #[o0, o1, o2] Q [0, 1, 2] a w from RestGo.select_full (o := o0) rfl hg hop hx hy hz hc hfull (RestGo.two h))
/-- A region of four operations that look and a receive. -/
theorem comm_recv {o0 o1 o2 o3 o4 : Oper} {v0 v1 v2 : Value} (g0 : o0.guard = none) (g1 : o1.guard = none) (g2 : o2.guard = none) (g3 : o3.guard = none) (g4 : o4.guard = none)
    (h0 : (execOp a.eval o0).run P w = .ok (.value v0) w) (h1 : (execOp (a.put o0.dst v0).eval o1).run P w = .ok (.value v1) w) (h2 : (execOp ((a.put o0.dst v0).put o1.dst v1).eval o2).run P w = .ok (.value v2) w)
    (h3 : (execOp (((a.put o0.dst v0).put o1.dst v1).put o2.dst v2).eval o3).run P w = .ok (.value (.chan (some c))) w) (hop : o4.op = .recv ty x false)
    (hx : ((((a.put o0.dst v0).put o1.dst v1).put o2.dst v2).put o3.dst (.chan (some c))).eval x = .chan (some c)) (hu : P.underlying ty = some (.chan dir e)) (hz : (zeroValue e).run P w = .ok z w)
    (hc : w.heap[c]? = some (.chan cap buf closed s r tm)) (hsome : 0 < buf.size)
    (h : Q .normal (((((a.put o0.dst v0).put o1.dst v1).put o2.dst v2).put o3.dst (.chan (some c))).put o4.dst (buf.getD 0 undef)) (w.setChan c cap (buf.extract 1 buf.size) closed s (r + 1) tm)) : (Comm id #[o0, o1, o2, o3, o4]).wp P Q a w :=
  RestGo.region (show RestGo P #[o0, o1, o2, o3, o4] Q [0, 1, 2, 3, 4] a w from
    RestGo.value (o := o0) rfl (by simp [Region.wanted, g0]) h0 (RestGo.value (o := o1) rfl (by simp [Region.wanted, g1]) h1 (RestGo.value (o := o2) rfl (by simp [Region.wanted, g2]) h2
      (RestGo.value (o := o3) rfl (by simp [Region.wanted, g3]) h3 (RestGo.recv_buf (o := o4) rfl g4 hop hx hu hz hc hsome (RestGo.of h))))))
end
end Go.Proofs.Ytlfebfgdgjaidaa
