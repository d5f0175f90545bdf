/-
  A region that draws its order and whose operations make memory: what each operation leaves is told by a predicate that lasts while memory grows; then one look at each operation serves every order.
-/
import Derived.Test.YtlkppgdeaphoeaaMark
import Derived.RegionTactic
namespace Go.Proofs.Ytlkppgdeaphoeaa
open Go.RowKit
set_option linter.unusedVariables false

section
variable {P : Program} {ops : Array Oper} {Q : Exit → Act → World → Prop} {md : Region.Mode}

/-- Where a region has come: what has been listed has left its value, all else is as it was. -/
structure Come (ops : Array Oper) (V : Nat → Value → World → Prop) (G : World → World → Prop) (a0 : Act) (w0 : World) (listed : Array Bool) (a : Act) (w : World) : Prop where
  g : G w0 w
  defers : a.defers = a0.defers
  size : a.tmps.size = a0.tmps.size
  old : ∀ k, (∀ (i : Nat) o, ops[i]? = some o → listed.getD i false = true → o.dst ≠ some k) → a.tmps[k]? = a0.tmps[k]?
  new : ∀ (i : Nat) o d, ops[i]? = some o → listed.getD i false = true → o.dst = some d → V i (a.tmps.getD d undef) w

/-- What operation number i must do wherever it comes up. -/
def Does (P : Program) (md : Region.Mode) (ops : Array Oper) (Q : Exit → Act → World → Prop) (V : Nat → Value → World → Prop) (G : World → World → Prop) (a0 : Act) (w0 : World) (i : Nat) (o : Oper) : Prop :=
  ∀ (listed : Array Bool) (a : Act) (w : World), (o.after.all fun e => !Region.binds md e || listed.getD e.on false) = true → Come ops V G a0 w0 listed a w →
    wpOp P ops Q i (fun a' w' => ∃ v, a' = a.put o.dst v ∧ G w w' ∧ V i v w') a w

/-- No edge leads on; each operation has a slot of its own, which the frame has. -/
def growsB (md : Region.Mode) (ops : Array Oper) (size : Nat) : Bool :=
  (List.range ops.size).all fun i => match ops[i]? with
    | none => true
    | some o => (o.after.all fun e => !Region.binds md e || decide (e.on < i)) && (match o.dst with
      | none => true
      | some d => decide (d < size) && (List.range ops.size).all fun j => j == i || ((ops[j]?).bind (·.dst) != some d))

theorem growsB_edge {size : Nat} (h : growsB md ops size = true) {i : Nat} {o : Oper} (ho : ops[i]? = some o) : ∀ e ∈ o.after, Region.binds md e = true → e.on < i := by
  have hi : i < ops.size := (Array.getElem?_eq_some_iff.1 ho).1
  have := List.all_eq_true.1 h i (List.mem_range.2 hi)
  rw [ho] at this
  simp only [Bool.and_eq_true] at this
  intro e he hb
  have h1 := Array.all_eq_true'.1 this.1 e he
  rw [hb] at h1
  simpa using h1
theorem growsB_size {size : Nat} (h : growsB md ops size = true) {i : Nat} {o : Oper} (ho : ops[i]? = some o) {d : Nat} (hd : o.dst = some d) : d < size := by
  have hi : i < ops.size := (Array.getElem?_eq_some_iff.1 ho).1
  have := List.all_eq_true.1 h i (List.mem_range.2 hi)
  rw [ho] at this
  simp only [Bool.and_eq_true, hd] at this
  simpa using this.2.1
theorem growsB_apart {size : Nat} (h : growsB md ops size = true) {i j : Nat} {o o' : Oper} (ho : ops[i]? = some o) (ho' : ops[j]? = some o') (hij : j ≠ i) {d : Nat} (hd : o.dst = some d) : o'.dst ≠ some d := by
  have hi : i < ops.size := (Array.getElem?_eq_some_iff.1 ho).1
  have hj : j < ops.size := (Array.getElem?_eq_some_iff.1 ho').1
  have := List.all_eq_true.1 h i (List.mem_range.2 hi)
  rw [ho] at this
  simp only [Bool.and_eq_true, hd] at this
  have h2 := List.all_eq_true.1 this.2.2 j (List.mem_range.2 hj)
  rw [ho'] at h2
  simp only [Bool.or_eq_true, beq_iff_eq, hij, false_or, Option.bind_some, bne_iff_ne, ne_eq] at h2
  exact h2

theorem ready_mem {listed : Array Bool} {i : Nat} (h : i ∈ Region.ready md ops listed) : ∃ o, ops[i]? = some o ∧ i < listed.size ∧ listed.getD i false = false ∧ (o.after.all fun e => !Region.binds md e || listed.getD e.on false) = true := by
  unfold Region.ready at h
  rw [List.mem_filter, List.mem_range, Bool.and_eq_true] at h
  obtain ⟨hi, h1, h2⟩ := h
  obtain ⟨o, ho⟩ : ∃ o, ops[i]? = some o := ⟨ops[i], Array.getElem?_eq_getElem hi⟩
  rw [ho] at h2
  rcases Nat.lt_or_ge i listed.size with hl | hl
  · refine ⟨o, ho, hl, ?_, by simpa using h2⟩
    simpa [Array.getD, hl] using h1
  · simp [Array.getD, Nat.not_lt.2 hl] at h1
theorem ready_none {size : Nat} (hb : growsB md ops size = true) {listed : Array Bool} (hs : listed.size = ops.size) (h : Region.ready md ops listed = []) : ∀ i, i < ops.size → listed.getD i false = true := by
  intro i
  induction i using Nat.strongRecOn with
  | ind i ih =>
    intro hi
    cases hl : listed.getD i false with
    | true => rfl
    | false =>
      exfalso
      have hm : i ∈ Region.ready md ops listed := by
        unfold Region.ready
        rw [List.mem_filter, List.mem_range, Bool.and_eq_true]
        refine ⟨hi, ?_, ?_⟩
        · have : i < listed.size := by omega
          simpa [Array.getD, this] using hl
        · rw [Array.getElem?_eq_getElem hi]
          simp only [Option.map_some, Option.getD_some]
          rw [Array.all_eq_true']
          intro e he
          cases hbe : Region.binds md e with
          | false => simp
          | true =>
            have hlt := growsB_edge hb (Array.getElem?_eq_getElem hi) e he hbe
            simp [ih e.on hlt (by omega)]
      rw [h] at hm
      cases hm

theorem getD_set (l : Array Bool) (i j : Nat) (hi : i < l.size) : (l.setIfInBounds i true).getD j false = (decide (i = j) || l.getD j false) := by
  rw [Array.getD_eq_getD_getElem?, Array.getD_eq_getD_getElem?, Array.getElem?_setIfInBounds]
  by_cases h : i = j
  · subst h; simp [hi]
  · simp [h]

theorem come_wpAny {V : Nat → Value → World → Prop} {G : World → World → Prop} (hG : ∀ x y z, G x y → G y z → G x z) (hV : ∀ i v x y, G x y → V i v x → V i v y) {a0 : Act} {w0 : World}
    (hb : growsB md ops a0.tmps.size = true) (hdo : ∀ (i : Nat) o, ops[i]? = some o → Does P md ops Q V G a0 w0 i o)
    (hQ : ∀ a w, Come ops V G a0 w0 (Array.replicate ops.size true) a w → Q .normal a w) :
    ∀ (fuel : Nat) (listed : Array Bool) (a : Act) (w : World), listed.size = ops.size → listed.toList.countP (fun b => !b) = fuel → Come ops V G a0 w0 listed a w → wpAny P md ops Q fuel listed a w := by
  have hend : ∀ (listed : Array Bool) (a : Act) (w : World), listed.size = ops.size → Come ops V G a0 w0 listed a w → Region.ready md ops listed = [] → Q .normal a w := by
    intro listed a w hs hc hr
    have hall := ready_none hb hs hr
    have : listed = Array.replicate ops.size true := by
      apply Array.ext
      · simp [hs]
      · intro i h1 h2
        have := hall i (by omega)
        simp [Array.getD, h1] at this
        simp [this]
    subst this
    exact hQ a w hc
  intro fuel
  induction fuel with
  | zero =>
    intro listed a w hs hf hc
    have hr : Region.ready md ops listed = [] := by
      cases hr : Region.ready md ops listed with
      | nil => rfl
      | cons i rs =>
        exfalso
        obtain ⟨o, ho, hi, hl, _⟩ := ready_mem (md := md) (ops := ops) (listed := listed) (i := i) (by rw [hr]; exact List.mem_cons_self)
        rw [List.countP_eq_zero] at hf
        have hm : listed[i] ∈ listed.toList := by simp
        have := hf _ hm
        simp [Array.getD, hi] at hl
        simp [hl] at this
    exact ⟨hr, hend listed a w hs hc hr⟩
  | succ fuel ih =>
    intro listed a w hs hf hc
    refine ⟨hend listed a w hs hc, fun i hi => ?_⟩
    obtain ⟨o, ho, hil, hl, hd⟩ := ready_mem hi
    refine wpOp_mono ?_ (hdo i o ho listed a w hd hc)
    rintro a' w' ⟨v, rfl, hg, hv⟩
    refine ih _ _ _ (by simp [hs]) ?_ ?_
    · have hx : listed[i] = false := by simpa [Array.getD, hil] using hl
      rw [Array.toList_setIfInBounds, List.countP_set (by simpa using hil)]
      simp [hx, hf]
    · refine ⟨hG _ _ _ hc.g hg, ?_, ?_, ?_, ?_⟩
      · rw [← hc.defers]; cases o.dst <;> rfl
      · rw [← hc.size]; cases o.dst <;> simp [Act.put]
      · intro k hk
        have hne : o.dst ≠ some k := hk i o ho (by rw [getD_set _ _ _ hil]; simp)
        have : (a.put o.dst v).tmps[k]? = a.tmps[k]? := by
          cases hdst : o.dst with
          | none => rfl
          | some d =>
            have : d ≠ k := fun e => hne (by rw [hdst, e])
            simp [Act.put, this]
        rw [this]
        exact hc.old k (fun j o' ho' hj => hk j o' ho' (by rw [getD_set _ _ _ hil, hj]; simp))
      · intro j o' d ho' hj hdst
        rw [getD_set _ _ _ hil] at hj
        by_cases hij : i = j
        · subst hij
          rw [ho] at ho'
          injection ho' with ho'
          subst ho'
          have hsz := growsB_size hb ho hdst
          have : (a.put o.dst v).tmps.getD d undef = v := by
            rw [hdst, Array.getD_eq_getD_getElem?]
            simp [Act.put, hc.size, hsz]
          rw [this]
          exact hv
        · have hne := fun e => growsB_apart hb ho' ho hij hdst e
          have : (a.put o.dst v).tmps.getD d undef = a.tmps.getD d undef := by
            cases hd' : o.dst with
            | none => rfl
            | some d' =>
              have : d' ≠ d := fun e => hne (by rw [hd', e])
              rw [Array.getD_eq_getD_getElem?, Array.getD_eq_getD_getElem?]
              simp [Act.put, this]
          rw [this]
          rw [decide_eq_false hij, Bool.false_or] at hj
          exact hV _ _ _ _ hg (hc.new j o' d ho' hj hdst)

/-- What operations from number k on must do. -/
def DoAll (P : Program) (md : Region.Mode) (ops : Array Oper) (Q : Exit → Act → World → Prop) (V : Nat → Value → World → Prop) (G : World → World → Prop) (a0 : Act) (w0 : World) : Nat → List Oper → Prop
  | _, [] => True
  | k, o :: rest => Does P md ops Q V G a0 w0 k o ∧ DoAll P md ops Q V G a0 w0 (k + 1) rest
theorem doAll_at {V : Nat → Value → World → Prop} {G : World → World → Prop} {a0 : Act} {w0 : World} : ∀ (l : List Oper) (k : Nat), DoAll P md ops Q V G a0 w0 k l → ∀ (i : Nat) o, l[i]? = some o → Does P md ops Q V G a0 w0 (k + i) o
  | [], _, _, i, o, h => by simp at h
  | x :: l, k, hd, 0, o, h => by simp at h; subst h; exact hd.1
  | x :: l, k, hd, i + 1, o, h => by
    have := doAll_at l (k + 1) hd.2 i o (by simpa using h)
    rwa [Nat.add_assoc, Nat.add_comm 1 i] at this

/-- A region whose operations make memory, in whatever order. -/
theorem wp_region_grow {id : Nat} {a0 : Act} {w0 : World} (hm : P.follows .mixedOrders = true) (V : Nat → Value → World → Prop) (G : World → World → Prop)
    (hGr : ∀ x, G x x) (hd : G w0 w0.drew) (hG : ∀ x y z, G x y → G y z → G x z) (hV : ∀ i v x y, G x y → V i v x → V i v y) (hb : growsB .any ops a0.tmps.size = true)
    (hdo : DoAll P .any ops Q V G a0 w0 0 ops.toList) (hQ : ∀ a w, Come ops V G a0 w0 (Array.replicate ops.size true) a w → Q .normal a w) : (Code.region id ops true).wp P Q a0 w0 := by
  refine wp_region_any hm ?_
  refine come_wpAny hG hV hb (fun i o ho => ?_) hQ _ _ _ _ (by simp) (by simp [List.countP_replicate]) ⟨hd, rfl, rfl, fun k _ => rfl, fun i o d ho hl => ?_⟩
  · have := doAll_at ops.toList 0 hdo i o (by simpa using ho)
    rwa [Nat.zero_add] at this
  · exfalso
    have hi : i < ops.size := (Array.getElem?_eq_some_iff.1 ho).1
    simp [Array.getD, hi] at hl

/-- An operation that yields a value. -/
theorem does_value {V : Nat → Value → World → Prop} {G : World → World → Prop} {i : Nat} {o : Oper} {a : Act} {w : World} (hi : ops[i]? = some o) (hw : Region.wanted o (yielded ops a.tmps) = true) (v : Value) (w' : World)
    (hrun : (execOp a.eval o).run P w = .ok (.value v) w') (hg : G w w') (hv : V i v w') : wpOp P ops Q i (fun a' w' => ∃ v, a' = a.put o.dst v ∧ G w w' ∧ V i v w') a w := by
  unfold wpOp
  simp only [hi, hw, if_true]
  refine .inl ?_
  unfold Oper.wp
  rw [hrun]
  exact ⟨v, rfl, hg, hv⟩
/-- A call. -/
theorem does_call {V : Nat → Value → World → Prop} {G : World → World → Prop} {i : Nat} {o : Oper} {a : Act} {w : World} (hi : ops[i]? = some o) (hw : Region.wanted o (yielded ops a.tmps) = true) (f : FuncId) (args : Array Value)
    (hrun : (execOp a.eval o).run P w = .ok (.enter f args) w) (hc : Calls P f args w fun e w' => ∃ v, e = .returned v ∧ G w w' ∧ V i v w') : wpOp P ops Q i (fun a' w' => ∃ v, a' = a.put o.dst v ∧ G w w' ∧ V i v w') a w := by
  unfold wpOp
  simp only [hi, hw, if_true]
  refine .inl ?_
  unfold Oper.wp
  rw [hrun]
  refine hc.mono ?_
  rintro e w' ⟨v, rfl, hg, hv⟩
  exact ⟨v, rfl, hg, hv⟩
/-- An operation that its guard leaves out. -/
theorem does_skip {V : Nat → Value → World → Prop} {G : World → World → Prop} (hGr : ∀ x, G x x) {i : Nat} {o : Oper} {a : Act} {w : World} (hi : ops[i]? = some o) (hw : Region.wanted o (yielded ops a.tmps) = false)
    (hv : V i undef w) : wpOp P ops Q i (fun a' w' => ∃ v, a' = a.put o.dst v ∧ G w w' ∧ V i v w') a w := by
  unfold wpOp
  simp only [hi, hw]
  exact ⟨undef, rfl, hGr w, hv⟩
end

section
variable {P : Program} {ops : Array Oper} {md : Region.Mode}
/-- What an operation that was listed ahead of this one has left. -/
theorem Come.dep {V : Nat → Value → World → Prop} {G : World → World → Prop} {a0 : Act} {w0 : World} {listed : Array Bool} {a : Act} {w : World} {o : Oper} (hc : Come ops V G a0 w0 listed a w)
    (hl : (o.after.all fun e => !Region.binds md e || listed.getD e.on false) = true) (j d : Nat) (hj : ((ops[j]?).bind (·.dst)) = some d) (he : (o.after.any fun e => Region.binds md e && e.on == j) = true) : V j (a.tmps[d]?.getD undef) w := by
  rw [← Array.getD_eq_getD_getElem?]
  obtain ⟨e, hm, h2⟩ := Array.any_eq_true'.1 he
  simp only [Bool.and_eq_true, beq_iff_eq] at h2
  have h1 := Array.all_eq_true'.1 hl e hm
  rw [h2.1, h2.2] at h1
  cases ho : ops[j]? with
  | none => rw [ho] at hj; cases hj
  | some o' =>
    rw [ho] at hj
    exact hc.new j o' d ho (by simpa using h1) hj
/-- What any operation has left in the end. -/
theorem Come.end_ {V : Nat → Value → World → Prop} {G : World → World → Prop} {a0 : Act} {w0 : World} {a : Act} {w : World} (hc : Come ops V G a0 w0 (Array.replicate ops.size true) a w)
    (j d : Nat) (hj : ((ops[j]?).bind (·.dst)) = some d) : V j (a.tmps[d]?.getD undef) w := by
  rw [← Array.getD_eq_getD_getElem?]
  cases ho : ops[j]? with
  | none => rw [ho] at hj; cases hj
  | some o' =>
    rw [ho] at hj
    have hi : j < ops.size := (Array.getElem?_eq_some_iff.1 ho).1
    exact hc.new j o' d ho (by simp [Array.getD, hi]) hj
theorem wanted_at {o : Oper} {a : Act} {j d : Nat} {b : Bool} (hg : o.guard = some (j, b)) (hj : ((ops[j]?).bind (·.dst)) = some d) (hv : a.tmps[d]?.getD undef = .bool b) : Region.wanted o (yielded ops a.tmps) = true := by
  have h : a.tmps[d]? = some (.bool b) := by
    cases h : a.tmps[d]? with
    | none => rw [h] at hv; cases hv
    | some x => rw [h] at hv; exact congrArg some hv
  have hy : yielded ops a.tmps j = some b := by unfold yielded; rw [hj]; simp [h]
  unfold Region.wanted
  rw [hg]
  simp [hy]
theorem unwanted_at {o : Oper} {a : Act} {j d : Nat} {b : Bool} (hg : o.guard = some (j, b)) (hj : ((ops[j]?).bind (·.dst)) = some d) (hv : a.tmps[d]?.getD undef = .bool (!b)) : Region.wanted o (yielded ops a.tmps) = false := by
  have h : a.tmps[d]? = some (.bool (!b)) := by
    cases h : a.tmps[d]? with
    | none => rw [h] at hv; cases hv
    | some x => rw [h] at hv; exact congrArg some hv
  have hy : yielded ops a.tmps j = some (!b) := by unfold yielded; rw [hj]; simp [h]
  unfold Region.wanted
  rw [hg]
  simp [hy]
end

/-- Memory has grown: below base nothing is other; what a cell held it holds. -/
structure Grew (base : Nat) (w w' : World) : Prop where
  below : Below base w w'
  cell : ∀ p v, w.cell? p = some v → w'.cell? p = some v
theorem Grew.refl (base : Nat) (w : World) : Grew base w w := ⟨Below.refl _ _, fun _ _ h => h⟩
theorem Grew.trans {base : Nat} {x y z : World} (h : Grew base x y) (k : Grew base y z) : Grew base x z := ⟨h.below.trans k.below, fun p v hp => k.cell p v (h.cell p v hp)⟩
theorem Grew.drew (base : Nat) (w : World) : Grew base w w.drew := ⟨(Below.refl _ _).drew, fun _ _ h => h⟩
theorem Grew.alloc {base : Nat} {w : World} (hb : base ≤ w.heap.size) (o : Obj) : Grew base w (w.alloc o) :=
  ⟨(Below.refl _ _).alloc hb o, fun p v h => by rw [World.cell?_alloc_lt w o _ (World.block_lt_of_cell? w _ h)]; exact h⟩
theorem Grew.marked {base : Nat} {w : World} {g : Nat} (hb : base ≤ g) : Grew base w (marked w g) :=
  ⟨below_marked (Below.refl _ _) g hb, fun p v h => by
    obtain ⟨b, o, s⟩ := p
    have hs := World.cell?_spot h
    simp only at hs
    subst hs
    rw [cell_marked]; exact h⟩
theorem Grew.of_below {base : Nat} {w w' : World} (h : Below w.heap.size w w') (hb : base ≤ w.heap.size) : Grew base w w' :=
  ⟨h.mono hb, fun p v hp => (h.cell (World.block_lt_of_cell? w _ hp)).trans hp⟩
theorem Has.grew {base : Nat} {w w' : World} {g : Nat} {ys : List UInt8} (h : Has w g ys) (hg : Grew base w w') : Has w' g ys := fun j x hx => hg.cell _ _ (h j x hx)
end Go.Proofs.Ytlkppgdeaphoeaa
