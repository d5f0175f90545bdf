/-
  Over any program: a slice of 32-bit numbers of the call's own (nil, or at the head of a row), and append of one onto it.
  A region that draws its order, whose head makes memory and holds ONE append onto a row of the call's own (which may turn that row), and whose tail is forced: each operation but that one leaves all as it was; so one look at each serves every order.
-/
import Derived.Test.YtifmhlbeodfpeaaQ17
import Derived.Laws.AppendOwn
import Derived.Laws.OwnMore
import Derived.OwnWalk
import Derived.Test.YtifmhlbeodfpeaaQ11
namespace Go.Proofs.Ytifmhlbeodfpeaa
open Go.RowKit
set_option linter.unusedVariables false

/-- A slice of numbers of the call's own. -/
def Ow (w : World) (t : TypeId) (base : Nat) (v : Value) (zs : List Int) : Prop := w.ownsRow base t 1 v zs.length (zs.map (Value.int .u32))
section
variable {w w' : World} {t : TypeId} {base : Nat} {v : Value} {zs : List Int} {S : List Nat}
theorem Ow.nil (w : World) (t : TypeId) (base : Nat) : Ow w t base (.slice none 0 0) [] := World.ownsRow_nil _ _ _ _
theorem Ow.form (h : Ow w t base v zs) : ∃ A c, v = .slice A zs.length c ∧ zs.length ≤ c ∧ c ≤ maxLen := by
  rcases h.2 with ⟨rfl, hn⟩ | ⟨g, cap, cur, rfl, hb, hg, hnc, hcm, hcs, htake⟩
  · exact ⟨none, 0, by rw [hn], by omega, Nat.zero_le _⟩
  · exact ⟨_, _, rfl, hnc, hcm⟩
/-- What its numbers are. -/
theorem Ow.cell {A : Option Addr} {m c : Nat} (h : Ow w t base (.slice A m c) zs) (k : Nat) (hk : k < zs.length) : ∃ g, A = some ⟨g, 0, none⟩ ∧ base ≤ g ∧ g < w.heap.size ∧ w.cell? ⟨g, k, none⟩ = some (.int .u32 zs[k]) := by
  have hz : zs[k]? = some zs[k] := List.getElem?_eq_getElem hk
  rcases h.2 with ⟨_, hn⟩ | ⟨g, cap, cur, hv, hb, hg, hnc, hcm, hcs, htake⟩
  · omega
  · injection hv with e1 e2 e3
    subst e1
    have hlt : g < w.heap.size := (Array.getElem?_eq_some_iff.1 hg).1
    have := h.cells (g := g) rfl k (.int .u32 zs[k]) (by simp [hz])
    rw [Addr.add_lit, Nat.zero_add] at this
    exact ⟨g, rfl, hb, hlt, this⟩
theorem Ow.keep (h : Ow w t base v zs) (hk : ∀ g, v.ownBlock = some g → w'.heap[g]? = w.heap[g]?) : Ow w' t base v zs := by
  refine ⟨h.1, ?_⟩
  rcases h.2 with hn | ⟨g, cap, cur, rfl, hb, hg, rest⟩
  · exact .inl hn
  · exact .inr ⟨g, cap, cur, rfl, hb, (hk g rfl).trans hg, rest⟩
theorem Ow.tw (h : Ow w t base v zs) (ht : Tw S w w') (hS : ∀ g, v.ownBlock = some g → g ∉ S) : Ow w' t base v zs := h.keep fun g hg => ht.block g (World.ownsRow.lt h g hg).2 (hS g hg)
theorem Ow.alloc (h : Ow w t base v zs) (o : Obj) : Ow (w.alloc o) t base v zs := World.ownsRow.alloc h o
theorem Ow.block {g : Nat} (h : Ow w t base v zs) (hg : v.ownBlock = some g) : ∃ cur, Blk w g t cur := by
  rcases h.2 with ⟨rfl, _⟩ | ⟨g', cap, cur, rfl, hb, hgg, _⟩
  · simp [Value.ownBlock] at hg
  · simp [Value.ownBlock] at hg
    subst hg
    exact ⟨cur, hgg⟩
end
theorem cell_one_new (W : World) (a : Value) (t : TypeId) : ∀ (j : Nat) u, [a][j]? = some u → (W.alloc (.cells #[a] t)).cell? ((⟨W.heap.size, 0, none⟩ : Addr).add j) = some u := by
  intro j u hu
  rw [Addr.add_lit, Nat.zero_add, (Blk.new W t #[a]).cell j]
  simpa using hu
end Go.Proofs.Ytifmhlbeodfpeaa

namespace Go.Proofs.Ytifmhlbeodfpeaa
open Go.RowKit
set_option linter.unusedVariables false

theorem grown_trans {a b c : World} {row : Option Nat} (h : a.grownBy b row) (k : b.grownBy c row) : a.grownBy c row :=
  ⟨k.os.trans h.os, k.tape.trans h.tape, k.output.trans h.output, Nat.le_trans h.size k.size, fun i hi hn => (k.block i (Nat.lt_of_lt_of_le hi h.size) hn).trans (h.block i hi hn)⟩
theorem grown_of_below {a b : World} (row : Option Nat) (h : Below a.heap.size a b) : a.grownBy b row := ⟨h.os, h.tape, h.output, h.size, fun i hi _ => h.block i hi⟩

section
variable {P : Program} {Q : Exit → Act → World → Prop} {md : Region.Mode} {l : List Oper} {n : Nat}

theorem Come.step2 {ops : Array Oper} {V : Nat → Value → World → Prop} {G : World → World → Prop} (hG : ∀ x y z, G x y → G y z → G x z) {a0 : Act} {w0 : World}
    (hb : growsB md ops a0.tmps.size = true) {listed : Array Bool} {a : Act} {w : World} (hc : Come ops V G a0 w0 listed a w) {i : Nat} {o : Oper} (ho : ops[i]? = some o) (hil : i < listed.size) {v : Value} {w' : World} (hg : G w w') (hv : V i v w')
    (hlast : ∀ j u, j ≠ i → V j u w → V j u w') :
    Come ops V G a0 w0 (listed.setIfInBounds i true) (a.put o.dst v) w' := by
  refine ⟨hG _ _ _ hc.g hg, ?_, ?_, ?_, ?_⟩
  · rw [← hc.defers]; cases o.dst <;> rfl
  · rw [← hc.size]; cases o.dst <;> simp [Act.put]
  · intro k hk
    have hne : o.dst ≠ some k := hk i o ho (by rw [getD_set _ _ _ hil]; simp)
    rw [put_other _ _ _ _ hne]
    exact hc.old k (fun j o' ho' hj => hk j o' ho' (by rw [getD_set _ _ _ hil, hj]; simp))
  · intro j o' d ho' hj hdst
    rw [getD_set _ _ _ hil] at hj
    by_cases hij : i = j
    · subst hij
      rw [ho] at ho'
      injection ho' with ho'
      subst ho'
      have hsz := growsB_size hb ho hdst
      have : (a.put o.dst v).tmps.getD d undef = v := by
        rw [hdst, Array.getD_eq_getD_getElem?, put_same _ _ _ (by rw [hc.size]; exact hsz)]
        rfl
      rw [this]
      exact hv
    · have hne := fun e => growsB_apart hb ho' ho hij hdst e
      have : (a.put o.dst v).tmps.getD d undef = a.tmps.getD d undef := by
        rw [Array.getD_eq_getD_getElem?, Array.getD_eq_getD_getElem?, put_other _ _ _ _ hne]
      rw [this]
      rw [decide_eq_false hij, Bool.false_or] at hj
      exact hlast j _ (fun e => hij e.symm) (hc.new j o' d ho' hj hdst)

theorem come_tail2 (p : Nat) {V : Nat → Value → World → Prop} {G : World → World → Prop} (hG : ∀ x y z, G x y → G y z → G x z) {a0 : Act} {w0 : World}
    (hb : growsB md l.toArray a0.tmps.size = true) (hT : tailB md l n = true)
    (hdo : ∀ (i : Nat) o, i < n → l.toArray[i]? = some o → ∀ (listed : Array Bool) (a : Act) (w : World), (o.after.all fun e => !Region.binds md e || listed.getD e.on false) = true → Come l.toArray V G a0 w0 listed a w → (i = p → Below w0.heap.size w0 w) →
      wpOp P l.toArray Q i (fun a' w' => ∃ v, a' = a.put o.dst v ∧ G w w' ∧ V i v w' ∧ (∀ j u, j ≠ i → V j u w → V j u w') ∧ (i ≠ p → Below w.heap.size w w')) a w)
    (hQ : ∀ a w, Come l.toArray V G a0 w0 (headAll n l.length) a w → wpList P l.toArray Q (l.drop n) a w) :
    ∀ (fuel : Nat) (listed H : Array Bool) (a : Act) (w : World), HeadInv md l.toArray n listed → H.size = n → (∀ i, i < n → H[i]? = listed[i]?) → H.toList.countP (fun b => !b) = fuel → Come l.toArray V G a0 w0 listed a w → (listed.getD p false = false → Below w0.heap.size w0 w) →
      wpAny P md l.toArray Q (fuel + (l.length - n)) listed a w := by
  simp only [tailB, Bool.and_eq_true, decide_eq_true_eq] at hT
  obtain ⟨⟨⟨⟨hn, _⟩, hs⟩, hc⟩, hseq⟩ := hT
  intro fuel
  induction fuel with
  | zero =>
    intro listed H a w inv hz hrel hf hcm hbel
    rw [List.countP_eq_zero] at hf
    have hall : listed = headAll n l.length := by
      have hsz := inv.size
      simp only [List.size_toArray] at hsz
      apply Array.ext_getElem?
      intro i
      unfold headAll
      simp only [List.getElem?_toArray]
      rcases Nat.lt_or_ge i n with hi | hi
      · rw [← hrel i hi, List.getElem?_append_left (by simpa using hi), List.getElem?_replicate, if_pos hi]
        have hiH : i < H.size := by omega
        rw [Array.getElem?_eq_getElem hiH]
        have := hf H[i] (by simp)
        simpa using this
      · rw [List.getElem?_append_right (by simpa using hi), List.getElem?_replicate, List.length_replicate]
        rcases Nat.lt_or_ge i l.length with hi' | hi'
        · rw [if_pos (by omega)]
          have := inv.tail i hi (by simpa using hi')
          have hil : i < listed.size := by omega
          simp [Array.getD, hil] at this
          rw [Array.getElem?_eq_getElem hil, this]
        · rw [if_neg (by omega), Array.getElem?_eq_none (by omega)]
    subst hall
    have := wpAny_of_seq (md := md) (P := P) (Q' := Q) (l.drop n) n (headAll n l.length) a w (fun j => by simp [List.getElem?_drop]) (by rw [List.length_drop]; exact hseq) (hQ a w hcm)
    rw [List.length_drop] at this
    rw [Nat.zero_add]
    exact this
  | succ fuel ih =>
    intro listed H a w inv hz hrel hf hcm hbel
    obtain ⟨i, hi, hun⟩ : ∃ i, i < n ∧ listed.getD i true = false := by
      have hpos : 0 < H.toList.countP (fun b => !b) := by omega
      rw [List.countP_pos_iff] at hpos
      obtain ⟨b, hb, hb2⟩ := hpos
      obtain ⟨i, hi⟩ := List.mem_iff_getElem?.1 hb
      have hlt := (List.getElem?_eq_some_iff.1 hi).1
      refine ⟨i, by simp at hlt; omega, ?_⟩
      rw [Array.getD_eq_getD_getElem?, ← hrel i (by simp at hlt; omega)]
      rw [Array.getElem?_toList] at hi
      rw [hi]
      simpa using hb2
    have hsz := inv.size
    simp only [List.size_toArray] at hsz
    have hnone := tail_waits hs hc (by simpa using hn) inv (n - i) i rfl hi hun
    rw [show fuel + 1 + (l.length - n) = (fuel + (l.length - n)) + 1 by omega]
    refine ⟨fun h0 => ?_, fun j hj => ?_⟩
    · have := ready_none hb (by simpa using inv.size) h0 i (by simp; omega)
      have hil : i < listed.size := by omega
      simp [Array.getD, hil] at this hun
      rw [this] at hun
      cases hun
    · have hjn : j < n := by
        rcases Nat.lt_or_ge j n with h' | h'
        · exact h'
        · exact absurd hj (hnone j h')
      obtain ⟨o, ho, hil, hl, hd⟩ := ready_mem hj
      have hjH : j < H.size := by omega
      have hfalse : H[j] = false := by
        have h1 := hrel j hjn
        rw [Array.getElem?_eq_getElem hjH, Array.getElem?_eq_getElem hil] at h1
        simp [Array.getD, hil] at hl
        rw [Option.some.inj h1, hl]
      have hcount : (H.setIfInBounds j true).toList.countP (fun b => !b) = fuel := by
        rw [Array.toList_setIfInBounds, List.countP_set (by simpa using hjH)]
        simp [hfalse, hf]
      refine wpOp_mono ?_ (hdo j o hjn ho listed a w hd hcm (fun e => hbel (by rw [← e]; exact hl)))
      rintro a' w' ⟨v, rfl, hg, hv, hlast, hstep⟩
      refine ih (listed.setIfInBounds j true) (H.setIfInBounds j true) _ _ (inv.set hj hjn) (by simp [hz]) (fun k hk => ?_) hcount (hcm.step2 hG hb ho hil hg hv hlast) (fun hp => ?_)
      rotate_left
      · rw [getD_set _ _ _ hil] at hp
        simp only [Bool.or_eq_false_iff, decide_eq_false_iff_not] at hp
        exact below_then (hbel hp.2) (Nat.le_refl _) (hstep hp.1)
      rw [Array.getElem?_setIfInBounds, Array.getElem?_setIfInBounds, hrel k hk]
      simp [hjH, hil]

/-- The step of operation k: number p may turn the own row, all others leave all as it was. -/
def StepR (p : Nat) (ob : Option Nat) (k : Nat) (x y : World) : Prop := if k = p then x.grownBy y ob else Below x.heap.size x y
theorem stepB {p k : Nat} {ob : Option Nat} {x y : World} (hk : k ≠ p) (h : Below x.heap.size x y) : StepR p ob k x y := by unfold StepR; rw [if_neg hk]; exact h
theorem stepO {p : Nat} {ob : Option Nat} {x y : World} (h : x.grownBy y ob) : StepR p ob p x y := by unfold StepR; rw [if_pos rfl]; exact h
/-- What is told lasts while the own row turns. -/
def LastsO (ob : Option Nat) (q : Tell) : Prop := ∀ v x y, x.grownBy y ob → q v x → q v y
theorem LastsO.is (ob : Option Nat) (x : Value) : LastsO ob (Is x) := fun _ _ _ _ h => h

/-- What each operation must do. -/
def DoO (P : Program) (ops : Array Oper) (Q : Exit → Act → World → Prop) (V : Nat → Value → World → Prop) (p : Nat) (ob : Option Nat) (a0 : Act) (w0 : World) : Nat → List Oper → Prop
  | _, [] => True
  | k, o :: rest => (∀ (listed : Array Bool) (a : Act) (w : World), (o.after.all fun e => !Region.binds .any e || listed.getD e.on false) = true → Come ops V (fun x y => x.grownBy y ob) a0 w0 listed a w → (k = p → Below w0.heap.size w0 w) →
      wpOp P ops Q k (fun a' w' => ∃ v, a' = a.put o.dst v ∧ StepR p ob k w w' ∧ V k v w') a w) ∧ DoO P ops Q V p ob a0 w0 (k + 1) rest
theorem doO_at {ops : Array Oper} {V : Nat → Value → World → Prop} {p : Nat} {ob : Option Nat} {a0 : Act} {w0 : World} : ∀ (l : List Oper) (k : Nat), DoO P ops Q V p ob a0 w0 k l → ∀ (i : Nat) o, l[i]? = some o →
    ∀ (listed : Array Bool) (a : Act) (w : World), (o.after.all fun e => !Region.binds .any e || listed.getD e.on false) = true → Come ops V (fun x y => x.grownBy y ob) a0 w0 listed a w → (k + i = p → Below w0.heap.size w0 w) →
      wpOp P ops Q (k + i) (fun a' w' => ∃ v, a' = a.put o.dst v ∧ StepR p ob (k + i) w w' ∧ V (k + i) v w') a w
  | [], _, _, i, o, h => by simp at h
  | x :: l, k, hd, 0, o, h => by simp at h; subst h; exact hd.1
  | x :: l, k, hd, i + 1, o, h => by
    have := doO_at l (k + 1) hd.2 i o (by simpa using h)
    rwa [Nat.add_assoc, Nat.add_comm 1 i] at this

theorem wp_region_own_tail {id : Nat} {a0 : Act} {w0 : World} (n p : Nat) (ob : Option Nat) (hm : P.follows .mixedOrders = true) (V1 : List Tell) (Vp : Tell) (V2 : List Tell) (hp : V1.length = p) (hlen : V1.length + 1 + V2.length = n)
    (hlast : Lasts Vp) (hlasts : ∀ q ∈ V1 ++ V2, Lasts q ∧ LastsO ob q) (hb : growsB .any l.toArray a0.tmps.size = true) (hT : tailB .any l n = true)
    (hdo : DoO P l.toArray Q (tellAt (V1 ++ Vp :: V2)) p ob a0 w0 0 (l.take n))
    (hQ : ∀ w, w0.grownBy w ob → Thus w (fun vs => wpList P l.toArray Q (l.drop n) (lay (l.take n) vs a0) w) (V1 ++ Vp :: V2) []) : (Code.region id l.toArray true).wp P Q a0 w0 := by
  have hn : n < l.length ∧ ((l.take n).all fun o => o.dst.isSome) = true := by
    simp only [tailB, Bool.and_eq_true, decide_eq_true_eq] at hT
    exact hT.1.1.1
  obtain ⟨hn, hsome⟩ := hn
  refine wp_region_any hm ?_
  have hother : ∀ i, i ≠ p → (tellAt (V1 ++ Vp :: V2) i ∈ V1 ++ V2) ∨ tellAt (V1 ++ Vp :: V2) i = Any_ := by
    intro i hi
    unfold tellAt
    rw [List.getD_eq_getElem?_getD]
    rcases Nat.lt_or_ge i V1.length with h | h
    · rw [List.getElem?_append_left h, List.getElem?_eq_getElem h]
      exact .inl (List.mem_append_left _ (List.getElem_mem h))
    · rw [List.getElem?_append_right h]
      obtain ⟨j, hj⟩ : ∃ j, i - V1.length = j + 1 := ⟨i - V1.length - 1, by omega⟩
      rw [hj, List.getElem?_cons_succ]
      rcases Nat.lt_or_ge j V2.length with h2 | h2
      · rw [List.getElem?_eq_getElem h2]
        exact .inl (List.mem_append_right _ (List.getElem_mem h2))
      · rw [List.getElem?_eq_none h2]
        exact .inr rfl
  have hVp : tellAt (V1 ++ Vp :: V2) p = Vp := by
    unfold tellAt
    rw [List.getD_eq_getElem?_getD, List.getElem?_append_right (by omega), ← hp, Nat.sub_self]
    rfl
  have hB : ∀ i v x y, Below x.heap.size x y → tellAt (V1 ++ Vp :: V2) i v x → tellAt (V1 ++ Vp :: V2) i v y := fun i v x y hg h => by
    by_cases hi : i = p
    · subst hi
      rw [hVp] at h ⊢
      exact hlast v x y hg h
    · rcases hother i hi with h2 | h2
      · exact (hlasts _ h2).1 v x y hg h
      · rw [h2]; trivial
  have hO : ∀ i v x y, i ≠ p → x.grownBy y ob → tellAt (V1 ++ Vp :: V2) i v x → tellAt (V1 ++ Vp :: V2) i v y := fun i v x y hi hg h => by
    rcases hother i hi with h2 | h2
    · exact (hlasts _ h2).2 v x y hg h
    · rw [h2]; trivial
  have hfin := come_tail2 p (P := P) (Q := Q) (md := .any) (l := l) (n := n) (V := tellAt (V1 ++ Vp :: V2)) (G := fun x y => x.grownBy y ob) (fun x y z h k => grown_trans h k) (a0 := a0) (w0 := w0) hb hT
    (fun i o hi ho listed a w hd hcm hpre => by
      have := doO_at (l.take n) 0 hdo i o (by rw [List.getElem?_take, if_pos hi]; simpa using ho) listed a w hd hcm (by rw [Nat.zero_add]; exact hpre)
      rw [Nat.zero_add] at this
      refine wpOp_mono ?_ this
      rintro a' w' ⟨v, rfl, hs, hv⟩
      by_cases hip : i = p
      · subst hip
        unfold StepR at hs
        rw [if_pos rfl] at hs
        exact ⟨v, rfl, hs, hv, fun j u hj h => hO j u w w' hj hs h, fun h => absurd rfl h⟩
      · unfold StepR at hs
        rw [if_neg hip] at hs
        exact ⟨v, rfl, grown_of_below ob hs, hv, fun j u hj h => hB j u w w' hs h, fun _ => hs⟩)
    (fun a w hc => by
      have hval : ∀ i, i < n → ∃ o d, l[i]? = some o ∧ o.dst = some d := fun i hi => by
        have h1 : (l.take n)[i]? = some l[i] := by rw [List.getElem?_take, if_pos hi, List.getElem?_eq_getElem (by omega)]
        have h2 := List.all_eq_true.1 hsome l[i] (List.mem_of_getElem? h1)
        obtain ⟨d, hd⟩ := Option.isSome_iff_exists.1 h2
        exact ⟨_, d, List.getElem?_eq_getElem (by omega), hd⟩
      let vs : List Value := (List.range n).map fun i => match (l[i]?).bind (·.dst) with | some d => a.tmps.getD d undef | none => undef
      have hvl : vs.length = n := by simp [vs]
      have hvi : ∀ (i : Nat) o d, i < n → l[i]? = some o → o.dst = some d → vs.getD i undef = a.tmps.getD d undef := fun i o d hi ho hd => by
        have : vs[i]? = some (a.tmps.getD d undef) := by
          simp only [vs]
          rw [List.getElem?_map, List.getElem?_range hi]
          simp [ho, hd]
        simp [List.getD, this]
      have key := thus_at (w := w) (K := fun vs => wpList P l.toArray Q (l.drop n) (lay (l.take n) vs a0) w) (V1 ++ Vp :: V2) [] vs (hQ w hc.g) (by rw [hvl]; simp; omega) (fun i hi => by
        obtain ⟨o, d, ho, hd⟩ := hval i (by simp at hi; omega)
        rw [hvi i o d (by simp at hi; omega) ho hd]
        exact hc.new i o d (by simpa using ho) (headAll_lt (by simp at hi; omega)) hd)
      rw [List.reverse_nil, List.nil_append] at key
      rw [lay_head (by omega) hb hc vs hvl hvi]
      exact key)
  have := hfin n (Array.replicate l.toArray.size false) (Array.replicate n false) a0 { w0 with drawn := w0.drawn + 1 }
    ⟨by simp, fun j oj _ hl => (by rw [getD_replicate_false] at hl; cases hl), fun t _ ht => getD_in (by simpa using ht) (getD_replicate_false _ _)⟩ (by simp)
    (fun i hi => by rw [Array.getElem?_replicate, Array.getElem?_replicate, if_pos hi, if_pos (by simp; omega)]) (by simp [List.countP_replicate])
    ⟨grown_of_below ob (below_drewN (Below.refl _ _) 1), rfl, rfl, fun k _ => rfl, fun i o d ho hl => by
      exfalso
      have hi : i < l.toArray.size := (Array.getElem?_eq_some_iff.1 ho).1
      simp at hi
      simp [Array.getD, hi] at hl⟩ (fun _ => below_drewN (Below.refl _ _) 1)
  rw [show n + (l.length - n) = l.toArray.size by simp; omega] at this
  exact this
end

/-- A slice over a new block. -/
def NewSl (base : Nat) (t : TypeId) (m : Nat) (cs : Array Value) : Tell := fun v w => ∃ g, v = .slice (some ⟨g, 0, none⟩) m m ∧ base ≤ g ∧ Blk w g t cs
theorem Lasts.newSl (base : Nat) (t : TypeId) (m : Nat) (cs : Array Value) : Lasts (NewSl base t m cs) := fun v x y hg ⟨g, h1, h2, h3⟩ => ⟨g, h1, h2, h3.below hg h3.lt⟩
theorem LastsO.newSl (ob : Option Nat) (base : Nat) (t : TypeId) (m : Nat) (cs : Array Value) (hob : ∀ b, ob = some b → b < base) : LastsO ob (NewSl base t m cs) := fun v x y hg ⟨g, h1, h2, h3⟩ =>
  ⟨g, h1, h2, h3.grown hg (fun e => by have := hob g e.symm; omega)⟩
/-- A slice of pairs, of numbers, of the call's own. -/
def NewOg (t : TypeId) (base m : Nat) (L : List (Nat × Nat)) : Tell := fun v w => ∃ A c, v = .slice A m c ∧ Og w t base (.slice A m c) L
def NewOw (t : TypeId) (base m : Nat) (L : List Int) : Tell := fun v w => ∃ A c, v = .slice A m c ∧ Ow w t base (.slice A m c) L
theorem Lasts.newOg (t : TypeId) (base m : Nat) (L : List (Nat × Nat)) : Lasts (NewOg t base m L) := fun v x y hg ⟨A, c, h1, h2⟩ => ⟨A, c, h1, h2.tw (Tw.of_below hg []) (by simp)⟩
theorem Lasts.newOw (t : TypeId) (base m : Nat) (L : List Int) : Lasts (NewOw t base m L) := fun v x y hg ⟨A, c, h1, h2⟩ => ⟨A, c, h1, h2.tw (Tw.of_below hg []) (by simp)⟩

/-- append, as an operation comes to it. -/
theorem exec_append {P : Program} {o : Oper} {a : Act} {w w' : World} {s x : Nat} {T : TypeId} {v1 v2 v : Value} (ho : o.op = .call { callee := .builtin .append, args := #[.tmp s, .tmp x], argTypes := #[T, T] })
    (hs : a.tmps[s]?.getD undef = v1) (hx : a.tmps[x]?.getD undef = v2) (hrun : (Builtin.append_ #[T, T] o.type #[v1, v2]).run P w = .ok v w') : (execOp a.eval o).run P w = .ok (.value v) w' := by
  have e1 : a.eval (.tmp s) = v1 := by show a.tmps.getD s undef = _; rw [Array.getD_eq_getD_getElem?]; exact hs
  have e2 : a.eval (.tmp x) = v2 := by show a.tmps.getD x undef = _; rw [Array.getD_eq_getD_getElem?]; exact hx
  unfold execOp
  simp only [ho, resolve, invoke, builtin, Sem.run_bind, Sem.run_pure, Result.andThen_ok, List.map_toArray, List.map_cons, List.map_nil, e1, e2, hrun]

/-- append of one pair onto a slice of pairs of the call's own. -/
theorem run_appendG {P : Program} {T e : TypeId} {i : TypeInfo} (ht : P.underlying T = some (.slice e)) (hi : P.info? e = some i) (hz : i.zero = some (.agg #[.int .u16 0, .int .u16 0])) (h1 : i.size = 2) (hb : i.bytes = 4)
    (w : World) (ty : TypeId) (base : Nat) (A : Option Addr) (m c g : Nat) (L : List (Nat × Nat)) (p : Nat × Nat) (ho : Og w e base (.slice A m c) L) (hm : L.length = m) (hg : Blk w g e #[.int .u16 (p.1 : Nat), .int .u16 (p.2 : Nat)]) (hbd : m ≤ 1099511627776) (hbase : base ≤ w.heap.size) :
    ∃ A2 c2 w', (Builtin.append_ #[T, T] ty #[.slice A m c, .slice (some ⟨g, 0, none⟩) 1 1]).run P w = .ok (.slice A2 (m + 1 : Nat) c2) w' ∧ Og w' e base (.slice A2 (m + 1) c2) (L ++ [p]) ∧ w.grownBy w' (Value.slice A m c).ownBlock := by
  obtain ⟨v', w', hrun, hown, hgr, _⟩ := run_append_own w base T ty e i _ 2 4 ht hi hz h1 hb rfl (by decide) (.slice A m c) L.length (flat L) ho ⟨g, 0, none⟩ 1 1 [.int .u16 (p.1 : Nat), .int .u16 (p.2 : Nat)] rfl
    (fun j u hu => by rw [Addr.add_lit, Nat.zero_add, hg.cell j]; simpa using hu) (by intro u hu; simp at hu; rcases hu with rfl | rfl <;> rfl) (by unfold maxLen; omega) (by omega) hbase
  have hl : (L ++ [p]).length = L.length + 1 := by simp
  have hog : Og w' e base v' (L ++ [p]) := by
    unfold Og
    rw [hl, flat_snoc]
    exact hown
  obtain ⟨A2, c2, rfl, _⟩ := hog.form
  rw [hl, hm] at hrun hog
  exact ⟨A2, c2, w', hrun, hog, hgr⟩
/-- .. of one number. -/
theorem run_appendW {P : Program} {T e : TypeId} {i : TypeInfo} (ht : P.underlying T = some (.slice e)) (hi : P.info? e = some i) (hz : i.zero = some (.int .u32 0)) (h1 : i.size = 1) (hb : i.bytes = 4)
    (w : World) (ty : TypeId) (base : Nat) (A : Option Addr) (m c g : Nat) (L : List Int) (x : Int) (ho : Ow w e base (.slice A m c) L) (hm : L.length = m) (hg : Blk w g e #[.int .u32 x]) (hbd : m ≤ 1099511627776) (hbase : base ≤ w.heap.size) :
    ∃ A2 c2 w', (Builtin.append_ #[T, T] ty #[.slice A m c, .slice (some ⟨g, 0, none⟩) 1 1]).run P w = .ok (.slice A2 (m + 1 : Nat) c2) w' ∧ Ow w' e base (.slice A2 (m + 1) c2) (L ++ [x]) ∧ w.grownBy w' (Value.slice A m c).ownBlock := by
  obtain ⟨v', w', hrun, hown, hgr, _⟩ := run_append_own w base T ty e i _ 1 4 ht hi hz h1 hb rfl (by decide) (.slice A m c) L.length (L.map (Value.int .u32)) ho ⟨g, 0, none⟩ 1 1 [.int .u32 x] rfl
    (fun j u hu => by rw [Addr.add_lit, Nat.zero_add, hg.cell j]; simpa using hu) (by intro u hu; simp at hu; rw [hu]; rfl) (by unfold maxLen; omega) (by omega) hbase
  have hl : (L ++ [x]).length = L.length + 1 := by simp
  have how : Ow w' e base v' (L ++ [x]) := by
    unfold Ow
    rw [hl, List.map_append]
    exact hown
  obtain ⟨A2, c2, rfl, _⟩ := how.form
  rw [hl, hm] at hrun how
  exact ⟨A2, c2, w', hrun, how, hgr⟩
end Go.Proofs.Ytifmhlbeodfpeaa
