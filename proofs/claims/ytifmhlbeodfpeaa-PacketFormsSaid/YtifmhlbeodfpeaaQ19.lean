/-
  Over any program: a range over a function in the ordinary walk: a region that calls yield; a region within a round; the statement over an iterator of chunks.
-/
import Derived.Test.YtifmhlbeodfpeaaQ18
import Derived.RangeFuncOwn
import Derived.RangeFuncCalls
namespace Go.Proofs.Ytifmhlbeodfpeaa
open Go.RowKit
set_option linter.unusedVariables false

/-- A region, a range over a function whose walk stops ahead of it. -/
def Held (id : Nat) (ops : Array Oper) : Code := .region id ops false
theorem held_eq (id : Nat) (ops : Array Oper) : Code.region id ops false = Held id ops := rfl
def HeldR (g : Operand) (ps : Array Tmp) (assign body : Code) : Code := .rangeFunc g ps assign body
theorem heldR_eq (g : Operand) (ps : Array Tmp) (assign body : Code) : Code.rangeFunc g ps assign body = HeldR g ps assign body := rfl

/-- What is left of a region, by its meaning. -/
def RestGo (P : Program) (ops : Array Oper) (Q : Exit → Act → World → Prop) (l : List Nat) (a : Act) (w : World) : Prop :=
  ∀ (b : Frame) (k : List Item) (cs : List Frame), ∃ e a' w', Q e a' w' ∧ Arrives P (lone (b.at a (.inRegion ops l :: k)) cs w) b k cs e a' w'

section
variable {P : Program} {ops : Array Oper} {Q : Exit → Act → World → Prop} {l rest : List Nat} {a : Act} {w w' : World} {i id : Nat} {o : Oper} {v : Value}
theorem RestGo.of (h : wpOps P ops Q l a w) : RestGo P ops Q l a w := wp_ops l a w h
theorem RestGo.region (h : RestGo P ops Q (List.range ops.size) a w) : (Held id ops).wp P Q a w :=
  fun b k cs => let ⟨e, a', w', q, r⟩ := h b k cs; ⟨e, a', w', q, .of_steps (.one step_region) r⟩
/-- From here on the walk goes as ever. -/
theorem RestGo.list (n : Nat) (l : List Oper) (hl : ∀ j, l[j]? = ops[n + j]?) (h : wpList P ops Q l a w) : RestGo P ops Q (List.range' n l.length) a w := by
  refine RestGo.of ?_
  rw [wpOps_eq_wpList l n hl]
  exact h
theorem RestGo.drop (n : Nat) (L : List Nat) (hL : L = List.range' n (ops.toList.drop n).length) (h : wpList P ops Q (ops.toList.drop n) a w) : RestGo P ops Q L a w := by
  rw [hL]
  exact RestGo.list n _ (fun j => by rw [List.getElem?_drop, Array.getElem?_toList]) h
theorem RestGo.value (ho : ops[i]? = some o) (hw : Region.wanted o (yielded ops a.tmps) = true) (hr : (execOp a.eval o).run P w = .ok (.value v) w') (h : RestGo P ops Q rest (a.put o.dst v) w') :
    RestGo P ops Q (i :: rest) a w := by
  intro b k cs
  obtain ⟨e, a', w'', hq, harr⟩ := h b k cs
  have hg := stepG_op (P := P) (b := b) (k := k) (cs := cs) (w := w) (rest := rest) ho hw
  have hfin : (b.at a (.inRegion ops (i :: rest) :: k)).finish v = b.at (a.put o.dst v) (.inRegion ops rest :: k) := by rw [Frame.finish_at, ho]; rfl
  refine ⟨e, a', w'', hq, .of_steps (.one (step_lone_go ?_)) harr⟩
  rw [hg, ← hfin]
  simp [stepG.apply, hr]
/-- A call of yield. -/
theorem RestGo.yield {lp : Nat} {f : FuncId} {tmps : Array Value} {assign body : Code} (ho : ops[i]? = some o) (hw : Region.wanted o (yielded ops a.tmps) = true) (hr : (execOp a.eval o).run P w = .ok (.round lp f tmps assign body) w')
    (h : RoundIn Fence.wide 0 P lp f tmps assign body w' fun e w'' => ∃ v, e = .returned v ∧ RestGo P ops Q rest (a.put o.dst v) w'') : RestGo P ops Q (i :: rest) a w := by
  intro b k cs
  obtain ⟨e, w'', ⟨v, rfl, hR⟩, hsteps⟩ := h.2 (b.at a (.inRegion ops (i :: rest) :: k)) cs (room_wide _)
  obtain ⟨e, a', w3, hq, harr⟩ := hR b k cs
  have hg := stepG_op (P := P) (b := b) (k := k) (cs := cs) (w := w) (rest := rest) ho hw
  have hfin : (b.at a (.inRegion ops (i :: rest) :: k)).finish v = b.at (a.put o.dst v) (.inRegion ops rest :: k) := by rw [Frame.finish_at, ho]; rfl
  have henter : step P (lone (b.at a (.inRegion ops (i :: rest) :: k)) cs w) = .next (lone (Frame.round lp f tmps assign body .normal) (b.at a (.inRegion ops (i :: rest) :: k) :: cs) w') :=
    step_lone_go (by rw [hg]; simp [stepG.apply, hr, Frame.at])
  refine ⟨e, a', w3, hq, .of_steps (.head henter ?_) harr⟩
  rw [← hfin]
  exact StepsIn.steps hsteps
end

/-! ### Within a round -/
def noDefer (ops : Array Oper) : Bool := ops.all fun o => match o.op with
  | .defer _ => false
  | _ => true
theorem noDefer_at {ops : Array Oper} (h : noDefer ops = true) {i : Nat} {o : Oper} (ho : ops[i]? = some o) : ∀ c, o.op ≠ .defer c := by
  intro c he
  unfold noDefer at h
  rw [Array.all_eq_true] at h
  obtain ⟨hi, e⟩ := Array.getElem?_eq_some_iff.1 ho
  have := h i hi
  rw [e, he] at this
  cases this
theorem opsIn_of {P : Program} {ops : Array Oper} {Q : Exit → Act → World → Prop} {l n : Nat} (hnd : noDefer ops = true) (hQ : ¬ LetsOut Q) : ∀ (L : List Nat) (a : Act) (w : World), wpOps P ops Q L a w → wpOpsIn (Fence.wide.inRound l) n P ops Q L a w
  | [], a, w, h => h
  | i :: rest, a, w, h => by
    have ih := opsIn_of (P := P) (l := l) (n := n) hnd hQ rest
    simp only [wpOps, wpOpsIn] at h ⊢
    cases ho : ops[i]? with
    | none => simp only [ho] at h ⊢; exact ih _ _ h
    | some o =>
      simp only [ho] at h ⊢
      by_cases hw : Region.wanted o (yielded ops a.tmps) = true
      · simp only [hw, if_true] at h ⊢
        rcases h with h | ⟨_, h⟩
        · refine ⟨fun f _ => trivial, ?_⟩
          have hs : o.semAt (Fence.wide.inRound l).round a.eval = execOp a.eval o := Oper.semAt_eq _ _ _ (noDefer_at hnd ho)
          rw [hs]
          unfold Oper.wp Oper.upon at h
          unfold Oper.uponIn
          have hd : (Fence.wide.inRound l).depth.isSome = true → 1 ≤ n := fun hd => by simp [Fence.wide] at hd
          split at h
          · rename_i hr; rw [hr]; exact ih _ _ h
          · rename_i hr; rw [hr]; exact ih _ _ h
          · rename_i hr; rw [hr]; exact ih _ _ h
          · rename_i f args w1 hr
            rw [hr]
            refine ⟨hd, CallsIn.inRound l (callsIn_wide.2 (h.mono ?_))⟩
            intro e w2 he
            cases e with
            | returned v => exact ih _ _ he
            | panicked ch => exact he
            | outgrown => exact he
          · rename_i row args w1 hr
            rw [hr]
            refine ⟨hd, fun c cs _ => ?_⟩
            obtain ⟨v, w2, hR, hst⟩ := h c cs
            exact ⟨v, w2, ih _ _ hR, stepsIn_wide.2 hst⟩
          · rename_i hr; rw [hr]; exact h
          · exact h.elim
        · exact absurd h hQ
      · simp only [hw, if_false, Bool.false_eq_true] at h ⊢
        exact ⟨fun f _ => trivial, ih _ _ h⟩
theorem regionIn {P : Program} {id : Nat} {ops : Array Oper} {Q : Exit → Act → World → Prop} {l n : Nat} {a : Act} {w : World} (hnd : noDefer ops = true) (hQ : ¬ LetsOut Q) (h : wpList P ops Q ops.toList a w) :
    (Code.region id ops false).wpIn (Fence.wide.inRound l) n P Q a w := by
  refine wpIn_region (opsIn_of hnd hQ _ _ _ ?_)
  have e : List.range ops.size = List.range' 0 ops.toList.length := by rw [List.range_eq_range', Array.length_toList]
  rw [e, wpOps_eq_wpList ops.toList 0 (fun j => by rw [Nat.zero_add, Array.getElem?_toList])]
  exact h

/-! ### The statement -/
theorem blk_putObj {W : World} {g l : Nat} {t : TypeId} {cs : Array Value} {o o' : Obj} (h : Blk W g t cs) (hl : W.heap[l]? = some o) (hc : o.isCells = false) : Blk (W.putObj l o') g t cs := by
  have hne : g ≠ l := by
    rintro rfl
    have h2 : W.heap[g]? = _ := h
    rw [hl] at h2
    injection h2 with h2
    rw [h2] at hc
    cases hc
  exact (World.putObj_heap_other hne).trans h
theorem own8_putObj {W : World} {t : TypeId} {base n c l : Nat} {A : Option Addr} {xs : List UInt8} {o o' : Obj} (h : Own8 W t base A n c xs) (hl : W.heap[l]? = some o) (hc : o.isCells = false) : Own8 (W.putObj l o') t base A n c xs := by
  refine ⟨h.1, ?_⟩
  rcases h.2 with h | ⟨g, zs, ha, hb, hr, hcz, hm⟩
  · exact .inl h
  · exact .inr ⟨g, zs, ha, hb, blk_putObj (t := t) hr hl hc, hcz, hm⟩
theorem oc_putObj {W : World} {base l : Nat} {v : Value} {es : List CE} {o o' : Obj} (h : OC W base v es) (hl : W.heap[l]? = some o) (hc : o.isCells = false) : OC (W.putObj l o') base v es := by
  refine ⟨⟨h.row.1, ?_⟩, fun e he => own8_putObj (h.bod e he) hl hc, h.far⟩
  rcases h.row.2 with hn | ⟨g, cap, cur, hv, hb, hg, rest⟩
  · exact .inl hn
  · exact .inr ⟨g, cap, cur, hv, hb, blk_putObj (t := 41) hg hl hc, rest⟩
theorem below_putObj {B l : Nat} {w W : World} {o' : Obj} (h : Below B w W) (hl : B ≤ l) : Below B w (W.putObj l o') :=
  ⟨h.os, h.tape, h.output, by simpa using h.size, fun i hi => (World.putObj_heap_other (by omega)).trans (h.block i hi)⟩

/-- What bytes parse to, whatever bound is given. -/
def Parsed (bs : List UInt8) (r : Option (List Chk)) : Prop := ∀ M, bs.length ≤ M → parseN M bs = r
def noCE : CE := ⟨0, 0, none, 0, 0, []⟩
/-- What yield is handed. -/
def encE (e : CE) (err : Int) : Array Value := #[.agg #[.int .u8 (e.k.toNat : Int), .int .u8 (e.f.toNat : Int), .slice e.A e.n e.c], .int .i64 err]
/-- The iterator over the chunks of bs, for whatever rounds. -/
def SeqC (P : Program) (gf : Nat) (lb : Array Value) (bs : List UInt8) (Rr : World → Prop) : Prop :=
  ∀ (l : Nat) (J : List CE → World → Prop) (Jx : World → Prop) (W : World),
    (∀ es W W', J es W → Below W.heap.size W W' → J es W') → (∀ es W, J es W → Rr W) →
    (∀ es (e : CE) W0 W1, J es W0 → Below W0.heap.size W0 W1 → Own8 W1 5 W0.heap.size e.A e.n e.c e.xs → 4 * es.length < bs.length → YieldAt Fence.wide 0 P l (encE e 0) W1 fun r W' => r = .returned (.bool true) ∧ J (es ++ [e]) W') →
    (∀ es W, J es W → YieldAt Fence.wide 0 P l (encE noCE 7) W fun r W' => r = .returned (.bool false) ∧ Jx W') → J [] W →
    CallsIn Fence.wide 0 P gf (#[.func (.yield l) #[] #[]] ++ lb) W fun r W' => (∃ v, r = .returned v) ∧ ((∃ es : List CE, Parsed bs (some (es.map CE.chk)) ∧ J es W') ∨ (Parsed bs none ∧ Jx W'))

/-- What a round's walk begins with; with the loop variables laid. -/
def rnd0 (a : Act) (p1 p2 : Tmp) (e : CE) (err : Int) : Act := { tmps := (a.tmps.setIfInBounds p1 (.agg #[.int .u8 (e.k.toNat : Int), .int .u8 (e.f.toNat : Int), .slice e.A e.n e.c])).setIfInBounds p2 (.int .i64 err), defers := [] }
def rnd1 (a : Act) (p1 p2 sc se : Tmp) (e : CE) (err : Int) (gc : Nat) : Act := { tmps := ((rnd0 a p1 p2 e err).tmps.setIfInBounds sc (.pointer (some ⟨gc, 0, none⟩))).setIfInBounds se (.int .i64 err), defers := [] }
theorem rnd0_eq (a : Act) (p1 p2 : Tmp) (e : CE) (err : Int) : ({ tmps := ((#[p1, p2] : Array Tmp).zip (encE e err)).foldl (fun t (p, v) => t.setIfInBounds p v) a.tmps, defers := [] } : Act) = rnd0 a p1 p2 e err := by
  simp [rnd0, encE]

theorem wp_rangeC {P : Program} {g : Operand} {p1 p2 sc se : Tmp} {assign body : Code} {Q : Exit → Act → World → Prop} {a : Act} {w : World} {gf : Nat} {lb : Array Value} {bs : List UInt8} {Rr : World → Prop}
    (hg : a.eval g = .func (.func gf) #[] lb) (eg : ∀ args w, (callFunc gf args).run P w = .ok (.enter gf args) w) (hseq : SeqC P gf lb bs Rr)
    (I : List CE → World → Prop) (Ix : World → Prop) (hIb : ∀ es W W', I es W → Below W.heap.size W W' → I es W')
    (hIo : ∀ es W (l : Nat) (o o' : Obj), I es W → w.heap.size ≤ l → W.heap[l]? = some o → o.isCells = false → I es (W.putObj l o'))
    (hIxo : ∀ W (l : Nat) (o o' : Obj), Ix W → w.heap.size ≤ l → W.heap[l]? = some o → o.isCells = false → Ix (W.putObj l o'))
    (hIs : ∀ es W, I es W → w.heap.size ≤ W.heap.size)
    (hR : ∀ es W, I es W → Rr W) (h0 : I [] w) (hfar : ∀ es W0 W1 (e : CE), I es W0 → Own8 W1 5 W0.heap.size e.A e.n e.c e.xs → ∀ x ∈ es, Far x.A e.A)
    (hassign : ∀ (l : Nat) (e : CE) (err : Int) (W : World) (K : Act → World → Prop), K (rnd1 a p1 p2 sc se e err W.heap.size) (W.alloc (.cells #[.int .u8 (e.k.toNat : Int), .int .u8 (e.f.toNat : Int), .slice e.A e.n e.c] 41)) →
      assign.wpIn (Fence.wide.inRound l) 0 P (Exit.then K (fun _ _ _ => False)) (rnd0 a p1 p2 e err) W)
    (hyes : ∀ (l : Nat) (es : List CE) (e : CE) (W : World) (gc : Nat), I es W → Own8 W 5 w.heap.size e.A e.n e.c e.xs → (∀ x ∈ es, Far x.A e.A) → 4 * es.length < bs.length → Blk W gc 41 #[.int .u8 (e.k.toNat : Int), .int .u8 (e.f.toNat : Int), .slice e.A e.n e.c] → w.heap.size ≤ gc →
      body.wpIn (Fence.wide.inRound l) 0 P (fun ex _ W' => ex = .normal ∧ KeepsOthers W W' ∧ I (es ++ [e]) W') (rnd1 a p1 p2 sc se e 0 gc) W)
    (hno : ∀ (l : Nat) (es : List CE) (W : World) (gc : Nat), I es W → Blk W gc 41 #[.int .u8 0, .int .u8 0, .slice none 0 0] → w.heap.size ≤ gc →
      body.wpIn (Fence.wide.inRound l) 0 P (fun ex _ W' => ex = .ret ∧ KeepsOthers W W' ∧ Ix W') (rnd1 a p1 p2 sc se noCE 7 gc) W)
    (hdone : ∀ (D : Nat) (es : List CE) (W : World), w.heap.size ≤ D → Parsed bs (some (es.map CE.chk)) → I es W → W.heap[D]? = some (.deferred (some [])) → Q .normal { a with defers := { target := .collected D, args := #[] } :: a.defers } W)
    (hstop : ∀ (D : Nat) (W : World), w.heap.size ≤ D → Parsed bs none → Ix W → W.heap[D]? = some (.deferred (some [])) → Q .ret { a with defers := { target := .collected D, args := #[] } :: a.defers } W) :
    (HeldR g #[p1, p2] assign body).wp P Q a w := by
  refine wpIn_wide (n := 0).1 (wpIn_rangeFunc ?_)
  intro fn hfn
  obtain ⟨rec, hrec⟩ : ∃ rec : LoopState → Option Code → Loop, rec = fun st pe => { state := st, pending := pe, fn, tmps := a.tmps, params := #[p1, p2], assign, body, defers := w.heap.size } := ⟨_, rfl⟩
  obtain ⟨W1, hW1⟩ : ∃ W1, (w.alloc (.deferred (some []))).alloc (.loop (rec .ready none)) = W1 := ⟨_, rfl⟩
  have hL1 : W1.heap[w.heap.size + 1]? = some (.loop (rec .ready none)) := by
    rw [← hW1]; have := World.alloc_heap_new (w.alloc (.deferred (some []))) (.loop (rec .ready none)); rwa [World.size_alloc] at this
  have hK1 : W1.heap[w.heap.size]? = some (.deferred (some [])) := by
    rw [← hW1]; exact (Below.heap_alloc _ _ _ (by simp)).trans (World.alloc_heap_new w _)
  have hI1 : I [] W1 := by rw [← hW1]; exact hIb _ _ _ (hIb _ _ _ h0 (below_new _ _)) (below_new _ _)
  refine ⟨w.heap.size + 1, [{ target := .collected w.heap.size, args := #[] }], W1, { target := .fn (.func gf) lb, args := #[.func (.yield (w.heap.size + 1)) #[] #[]] }, W1, gf,
    #[.func (.yield (w.heap.size + 1)) #[] #[]] ++ lb, W1, ?_, ?_, fun f' _ => trivial, ?_, fun hd => by simp [Fence.wide] at hd, ?_⟩
  · rw [← hW1, hrec]; exact run_enterLoop_outer _ _ _ _ _
  · simp only [resolve, hg]
    simp [go_sem]
  · simp [invoke, go_sem, eg]
  · have hrdy : ∀ st pe, (rec st pe).state = st := fun st pe => by rw [hrec]
    have hpar : ∀ st pe, (rec st pe).params = #[p1, p2] := fun st pe => by rw [hrec]
    have hpe : ∀ st pe, (rec st pe).pending = pe := fun st pe => by rw [hrec]
    have hset : ∀ st pe st', ({ rec st pe with state := st' } : Loop) = rec st' pe := fun st pe st' => by rw [hrec]
    have hset2 : ∀ st pe st' pe', ({ rec st pe with state := st', pending := pe' } : Loop) = rec st' pe' := fun st pe st' pe' => by rw [hrec]
    -- a round: the assignments, the record busy
    have hrnd : ∀ (es : List CE) (e : CE) (err : Int) (W : World) (R : Ending → World → Prop), I es W → W.heap[w.heap.size + 1]? = some (.loop (rec .ready none)) →
        (∀ W3 : World, W3 = (W.alloc (.cells #[.int .u8 (e.k.toNat : Int), .int .u8 (e.f.toNat : Int), .slice e.A e.n e.c] 41)).putObj (w.heap.size + 1) (.loop (rec .busy none)) →
          W3.heap[w.heap.size + 1]? = some (.loop (rec .busy none)) → I es W3 → Blk W3 W.heap.size 41 #[.int .u8 (e.k.toNat : Int), .int .u8 (e.f.toNat : Int), .slice e.A e.n e.c] →
          body.wpIn (Fence.wide.inRound (w.heap.size + 1)) 0 P (roundPost P (w.heap.size + 1) R) (rnd1 a p1 p2 sc se e err W.heap.size) W3) →
        YieldAt Fence.wide 0 P (w.heap.size + 1) (encE e err) W R := by
      intro es e err W R hi hl hbody
      have hy := run_yield (P := P) (args := encE e err) hl (by rw [hpar]; rfl)
      have hlt : w.heap.size + 1 < W.heap.size := (Array.getElem?_eq_some_iff.1 hl).1
      have hl2 : (W.alloc (.cells #[.int .u8 (e.k.toNat : Int), .int .u8 (e.f.toNat : Int), .slice e.A e.n e.c] 41)).heap[w.heap.size + 1]? = some (.loop (rec .ready none)) := (Below.heap_alloc W _ _ hlt).trans hl
      have hbg := run_beginRound (P := P) hl2 (hrdy _ _)
      rw [hset] at hbg
      have hl3 : ((W.alloc (.cells #[.int .u8 (e.k.toNat : Int), .int .u8 (e.f.toNat : Int), .slice e.A e.n e.c] 41)).putObj (w.heap.size + 1) (.loop (rec .busy none))).heap[w.heap.size + 1]? = some (.loop (rec .busy none)) := World.putObj_heap_same (by simp; omega)
      have hfin := hbody _ rfl hl3 (hIo _ _ _ _ _ (hIb _ _ _ hi (below_new _ _)) (by omega) hl2 rfl) (blk_putObj (Blk.new _ _ _) hl2 rfl)
      rw [hrec] at hy hbg hfin
      refine ⟨fn, _, assign, body, hy, roundIn_of_wpIn hfn ?_⟩
      rw [rnd0_eq]
      exact hassign _ e err W _ ⟨_, hbg, hfin⟩
    refine (hseq (w.heap.size + 1)
      (fun es W => I es W ∧ W.heap[w.heap.size + 1]? = some (.loop (rec .ready none)) ∧ W.heap[w.heap.size]? = some (.deferred (some [])))
      (fun W => Ix W ∧ W.heap[w.heap.size + 1]? = some (.loop (rec .done (some .ret))) ∧ W.heap[w.heap.size]? = some (.deferred (some [])))
      W1 ?_ (fun es W h => hR es W h.1) ?_ ?_ ⟨hI1, hL1, hK1⟩).mono ?_
    · rintro es W W' ⟨hi, hl, hk⟩ hb
      exact ⟨hIb _ _ _ hi hb, (hb.block _ (Array.getElem?_eq_some_iff.1 hl).1).trans hl, (hb.block _ (Array.getElem?_eq_some_iff.1 hk).1).trans hk⟩
    · rintro es e W0 W2 ⟨hi, hl, hk⟩ hb ho hlen
      have hl0 := (hb.block _ (Array.getElem?_eq_some_iff.1 hl).1).trans hl
      have hk0 := (hb.block _ (Array.getElem?_eq_some_iff.1 hk).1).trans hk
      have hlt : w.heap.size + 1 < W2.heap.size := (Array.getElem?_eq_some_iff.1 hl0).1
      refine hrnd es e 0 W2 _ (hIb _ _ _ hi hb) hl0 ?_
      intro W3 hW3 hl3 hi3 hbk
      have hl2 : (W2.alloc (.cells #[.int .u8 (e.k.toNat : Int), .int .u8 (e.f.toNat : Int), .slice e.A e.n e.c] 41)).heap[w.heap.size + 1]? = some (.loop (rec .ready none)) := (Below.heap_alloc W2 _ _ hlt).trans hl0
      have ho3 : Own8 W3 5 W0.heap.size e.A e.n e.c e.xs := by rw [hW3]; exact own8_putObj (ho.alloc _) hl2 rfl
      have hk3 : W3.heap[w.heap.size]? = some (.deferred (some [])) := by
        rw [hW3]
        exact (World.putObj_heap_other (by omega)).trans ((Below.heap_alloc W2 _ _ (by omega)).trans hk0)
      refine wpIn_mono (hyes _ es e W3 _ hi3 (ho3.more (hIs _ _ hi)) (hfar es W0 _ e hi ho) hlen hbk (by omega)) ?_
      rintro ex a3 W4 ⟨rfl, hkp, hi4⟩
      have hl4 := hkp.same _ _ hl3 rfl
      have hk4 := hkp.same _ _ hk3 rfl
      have hend := run_endRound (P := P) none hl4
      rw [hset2] at hend
      exact ⟨_, _, hend, rfl, hIo _ _ _ _ _ hi4 (by omega) hl4 rfl, World.putObj_heap_same (Array.getElem?_eq_some_iff.1 hl4).1, (World.putObj_heap_other (by omega)).trans hk4⟩
    · rintro es W2 ⟨hi, hl0, hk0⟩
      have hlt : w.heap.size + 1 < W2.heap.size := (Array.getElem?_eq_some_iff.1 hl0).1
      refine hrnd es noCE 7 W2 _ hi hl0 ?_
      intro W3 hW3 hl3 hi3 hbk
      have hk3 : W3.heap[w.heap.size]? = some (.deferred (some [])) := by
        rw [hW3]
        exact (World.putObj_heap_other (by omega)).trans ((Below.heap_alloc W2 _ _ (by omega)).trans hk0)
      refine wpIn_mono (hno _ es W3 _ hi3 hbk (by omega)) ?_
      rintro ex a3 W4 ⟨rfl, hkp, hi4⟩
      have hl4 := hkp.same _ _ hl3 rfl
      have hk4 := hkp.same _ _ hk3 rfl
      have hend := run_endRound (P := P) (some .ret) hl4
      rw [hset2] at hend
      exact ⟨_, _, hend, rfl, hIxo _ _ _ _ hi4 (by omega) hl4 rfl, World.putObj_heap_same (Array.getElem?_eq_some_iff.1 hl4).1, (World.putObj_heap_other (by omega)).trans hk4⟩
    · rintro e W2 ⟨⟨v, rfl⟩, (⟨es, hP, hi, hl, hk⟩ | ⟨hP, hi, hl, hk⟩)⟩
      · have hend := run_endLoop (P := P) hl (by rw [hrdy]; simp)
        rw [hset, hpe] at hend
        exact ⟨none, _, hend, hdone _ es _ (Nat.le_refl _) hP (hIo _ _ _ _ _ hi (by omega) hl rfl) ((World.putObj_heap_other (by omega)).trans hk)⟩
      · have hend := run_endLoop (P := P) hl (by rw [hrdy]; simp)
        rw [hset, hpe] at hend
        exact ⟨some .ret, _, hend, wpIn_ret (hstop _ _ (Nat.le_refl _) hP (hIxo _ _ _ _ hi (by omega) hl rfl) ((World.putObj_heap_other (by omega)).trans hk))⟩
end Go.Proofs.Ytifmhlbeodfpeaa
