/-
  A region that draws its order, whose head makes memory (allocations, calls, values, in whatever order) and whose tail is forced (a store): one look at each operation of the head serves every order; behind it the frame is written out, and the tail is walked in its order.
  What the frames of the statements share: an argument's bytes.
-/
import Derived.Test.YtnnkgdkjmmljiaaDoorQ10
import Derived.Test.YtnnkgdkjmmljiaaDoorQ9
import Derived.Test.YtnnkgdkjmmljiaaDoorQ2
import Derived.Test.YtnnkgdkjmmljiaaDoorQ1
import Derived.ProofKit
import Derived.OpenShut
import Derived.ShutString
import Derived.ChangeOld
import Derived.Lib.SmallJoins
namespace Go.Proofs.YtnnkgdkjmmljiaaDoor
open Go.RowKit
set_option linter.unusedVariables false

section
variable {P : Program} {Q : Exit → Act → World → Prop} {md : Region.Mode} {l : List Oper} {n : Nat}

/-- One more operation has been listed. -/
theorem Come.step {ops : Array Oper} {V : Nat → Value → World → Prop} {G : World → World → Prop} (hG : ∀ x y z, G x y → G y z → G x z) (hV : ∀ i v x y, G x y → V i v x → V i v y) {a0 : Act} {w0 : World}
    (hb : growsB md ops a0.tmps.size = true) {listed : Array Bool} {a : Act} {w : World} (hc : Come ops V G a0 w0 listed a w) {i : Nat} {o : Oper} (ho : ops[i]? = some o) (hil : i < listed.size) {v : Value} {w' : World} (hg : G w w') (hv : V i v w') :
    Come ops V G a0 w0 (listed.setIfInBounds i true) (a.put o.dst v) w' := by
  refine ⟨hG _ _ _ hc.g hg, ?_, ?_, ?_, ?_⟩
  · rw [← hc.defers]; cases o.dst <;> rfl
  · rw [← hc.size]; cases o.dst <;> simp [Act.put]
  · intro k hk
    have hne : o.dst ≠ some k := hk i o ho (by rw [getD_set _ _ _ hil]; simp)
    rw [put_other _ _ _ _ hne]
    exact hc.old k (fun j o' ho' hj => hk j o' ho' (by rw [getD_set _ _ _ hil, hj]; simp))
  · intro j o' d ho' hj hdst
    rw [getD_set _ _ _ hil] at hj
    by_cases hij : i = j
    · subst hij
      rw [ho] at ho'
      injection ho' with ho'
      subst ho'
      have hsz := growsB_size hb ho hdst
      have : (a.put o.dst v).tmps.getD d undef = v := by
        rw [hdst, Array.getD_eq_getD_getElem?, put_same _ _ _ (by rw [hc.size]; exact hsz)]
        rfl
      rw [this]
      exact hv
    · have hne := fun e => growsB_apart hb ho' ho hij hdst e
      have : (a.put o.dst v).tmps.getD d undef = a.tmps.getD d undef := by
        rw [Array.getD_eq_getD_getElem?, Array.getD_eq_getD_getElem?, put_other _ _ _ _ hne]
      rw [this]
      rw [decide_eq_false hij, Bool.false_or] at hj
      exact hV _ _ _ _ hg (hc.new j o' d ho' hj hdst)

/-- The tail comes up when the head is through, and in its order. -/
def tailB (md : Region.Mode) (l : List Oper) (n : Nat) : Bool :=
  decide (n < l.length) && ((l.take n).all fun o => o.dst.isSome) && Region.sinkB md l.toArray n && Region.chainB md l.toArray n && Region.seqB md l.toArray (l.length - n) n (headAll n l.length)

theorem come_tail {V : Nat → Value → World → Prop} {G : World → World → Prop} (hG : ∀ x y z, G x y → G y z → G x z) (hV : ∀ i v x y, G x y → V i v x → V i v y) {a0 : Act} {w0 : World}
    (hb : growsB md l.toArray a0.tmps.size = true) (hT : tailB md l n = true) (hdo : ∀ (i : Nat) o, i < n → l.toArray[i]? = some o → Does P md l.toArray Q V G a0 w0 i o)
    (hQ : ∀ a w, Come l.toArray V G a0 w0 (headAll n l.length) a w → wpList P l.toArray Q (l.drop n) a w) :
    ∀ (fuel : Nat) (listed H : Array Bool) (a : Act) (w : World), HeadInv md l.toArray n listed → H.size = n → (∀ i, i < n → H[i]? = listed[i]?) → H.toList.countP (fun b => !b) = fuel → Come l.toArray V G a0 w0 listed a w →
      wpAny P md l.toArray Q (fuel + (l.length - n)) listed a w := by
  simp only [tailB, Bool.and_eq_true, decide_eq_true_eq] at hT
  obtain ⟨⟨⟨⟨hn, _⟩, hs⟩, hc⟩, hseq⟩ := hT
  intro fuel
  induction fuel with
  | zero =>
    intro listed H a w inv hz hrel hf hcm
    rw [List.countP_eq_zero] at hf
    have hall : listed = headAll n l.length := by
      have hsz := inv.size
      simp only [List.size_toArray] at hsz
      apply Array.ext_getElem?
      intro i
      unfold headAll
      simp only [List.getElem?_toArray]
      rcases Nat.lt_or_ge i n with hi | hi
      · rw [← hrel i hi, List.getElem?_append_left (by simpa using hi), List.getElem?_replicate, if_pos hi]
        have hiH : i < H.size := by omega
        rw [Array.getElem?_eq_getElem hiH]
        have := hf H[i] (by simp)
        simpa using this
      · rw [List.getElem?_append_right (by simpa using hi), List.getElem?_replicate, List.length_replicate]
        rcases Nat.lt_or_ge i l.length with hi' | hi'
        · rw [if_pos (by omega)]
          have := inv.tail i hi (by simpa using hi')
          have hil : i < listed.size := by omega
          simp [Array.getD, hil] at this
          rw [Array.getElem?_eq_getElem hil, this]
        · rw [if_neg (by omega), Array.getElem?_eq_none (by omega)]
    subst hall
    have := wpAny_of_seq (md := md) (P := P) (Q' := Q) (l.drop n) n (headAll n l.length) a w (fun j => by simp [List.getElem?_drop]) (by rw [List.length_drop]; exact hseq) (hQ a w hcm)
    rw [List.length_drop] at this
    rw [Nat.zero_add]
    exact this
  | succ fuel ih =>
    intro listed H a w inv hz hrel hf hcm
    obtain ⟨i, hi, hun⟩ : ∃ i, i < n ∧ listed.getD i true = false := by
      have hpos : 0 < H.toList.countP (fun b => !b) := by omega
      rw [List.countP_pos_iff] at hpos
      obtain ⟨b, hb, hb2⟩ := hpos
      obtain ⟨i, hi⟩ := List.mem_iff_getElem?.1 hb
      have hlt := (List.getElem?_eq_some_iff.1 hi).1
      refine ⟨i, by simp at hlt; omega, ?_⟩
      rw [Array.getD_eq_getD_getElem?, ← hrel i (by simp at hlt; omega)]
      rw [Array.getElem?_toList] at hi
      rw [hi]
      simpa using hb2
    have hsz := inv.size
    simp only [List.size_toArray] at hsz
    have hnone := tail_waits hs hc (by simpa using hn) inv (n - i) i rfl hi hun
    rw [show fuel + 1 + (l.length - n) = (fuel + (l.length - n)) + 1 by omega]
    refine ⟨fun h0 => ?_, fun j hj => ?_⟩
    · have := ready_none hb (by simpa using inv.size) h0 i (by simp; omega)
      have hil : i < listed.size := by omega
      simp [Array.getD, hil] at this hun
      rw [this] at hun
      cases hun
    · have hjn : j < n := by
        rcases Nat.lt_or_ge j n with h' | h'
        · exact h'
        · exact absurd hj (hnone j h')
      obtain ⟨o, ho, hil, hl, hd⟩ := ready_mem hj
      have hjH : j < H.size := by omega
      have hfalse : H[j] = false := by
        have h1 := hrel j hjn
        rw [Array.getElem?_eq_getElem hjH, Array.getElem?_eq_getElem hil] at h1
        simp [Array.getD, hil] at hl
        rw [Option.some.inj h1, hl]
      have hcount : (H.setIfInBounds j true).toList.countP (fun b => !b) = fuel := by
        rw [Array.toList_setIfInBounds, List.countP_set (by simpa using hjH)]
        simp [hfalse, hf]
      refine wpOp_mono ?_ (hdo j o hjn ho listed a w hd hcm)
      rintro a' w' ⟨v, rfl, hg, hv⟩
      refine ih (listed.setIfInBounds j true) (H.setIfInBounds j true) _ _ (inv.set hj hjn) (by simp [hz]) (fun k hk => ?_) hcount (hcm.step hG hV hb ho hil hg hv)
      rw [Array.getElem?_setIfInBounds, Array.getElem?_setIfInBounds, hrel k hk]
      simp [hjH, hil]

/-- Each operation of the head tells what it leaves. -/
abbrev Tell := Value → World → Prop
/-- It leaves x. -/
def Is (x : Value) : Tell := fun v _ => v = x
/-- Whatever it leaves. -/
def Any_ : Tell := fun _ _ => True
def tellAt (Vs : List Tell) (i : Nat) : Tell := Vs.getD i Any_
/-- What is told lasts while nothing that was is turned. -/
def Lasts (p : Tell) : Prop := ∀ v x y, Below x.heap.size x y → p v x → p v y
theorem Lasts.is (x : Value) : Lasts (Is x) := fun _ _ _ _ h => h
theorem Lasts.any : Lasts Any_ := fun _ _ _ _ h => h
/-- For all that the operations may have left. -/
def Thus (w : World) (K : List Value → Prop) : List Tell → List Value → Prop
  | [], acc => K acc.reverse
  | p :: ps, acc => ∀ v, p v w → Thus w K ps (v :: acc)

theorem thus_at {w : World} {K : List Value → Prop} : ∀ (ps : List Tell) (acc vs : List Value), Thus w K ps acc → vs.length = ps.length → (∀ i, i < ps.length → tellAt ps i (vs.getD i undef) w) → K (acc.reverse ++ vs)
  | [], acc, vs, h, hl, _ => by
    obtain rfl := List.eq_nil_of_length_eq_zero hl
    simpa [Thus] using h
  | p :: ps, acc, [], _, hl, _ => by simp at hl
  | p :: ps, acc, v :: vs, h, hl, ht => by
    have h1 := thus_at ps (v :: acc) vs (h v (ht 0 (by simp))) (by simpa using hl) (fun i hi => ht (i + 1) (by simpa using hi))
    simpa using h1

theorem headAll_lt {n m i : Nat} (h : i < n) : (headAll n m).getD i false = true := by
  have h2 : ((List.replicate n true ++ List.replicate (m - n) false).toArray)[i]? = some true := by
    rw [List.getElem?_toArray, List.getElem?_append_left (by simpa using h), List.getElem?_replicate, if_pos h]
  rw [Array.getD_eq_getD_getElem?]
  unfold headAll
  rw [h2]; rfl
theorem headAll_ge {n m i : Nat} (h : n ≤ i) : (headAll n m).getD i false = false := by
  have h2 : ((List.replicate n true ++ List.replicate (m - n) false).toArray)[i]?.getD false = false := by
    rw [List.getElem?_toArray, List.getElem?_append_right (by simpa using h), List.getElem?_replicate]
    split <;> rfl
  rw [Array.getD_eq_getD_getElem?]
  unfold headAll
  rw [h2]

/-- The frame behind the head. -/
theorem lay_head {V : Nat → Value → World → Prop} {G : World → World → Prop} {a0 : Act} {w0 : World} {a : Act} {w : World} (hn : n ≤ l.length) (hb : growsB md l.toArray a0.tmps.size = true)
    (hc : Come l.toArray V G a0 w0 (headAll n l.length) a w) (vs : List Value) (hl : vs.length = n) (hv : ∀ (i : Nat) o d, i < n → l[i]? = some o → o.dst = some d → vs.getD i undef = a.tmps.getD d undef) : a = lay (l.take n) vs a0 := by
  have hlt : (l.take n).length = vs.length := by simp; omega
  have ht : a.tmps = (lay (l.take n) vs a0).tmps := by
    apply Array.ext_getElem?
    intro k
    by_cases hk : ∃ (i : Nat) (o : Oper), i < n ∧ l[i]? = some o ∧ o.dst = some k
    · obtain ⟨i, o, hi, ho, hd⟩ := hk
      have ho' : l.toArray[i]? = some o := by simpa using ho
      have hks := growsB_size hb ho' hd
      rw [lay_same k (l.take n) vs a0 i o (by rw [List.getElem?_take, if_pos hi]; exact ho) hd (fun j o' hj hne => by
        rw [List.getElem?_take] at hj
        split at hj
        · exact growsB_apart hb ho' (by simpa using hj) hne hd
        · cases hj) hks hlt, hv i o k hi ho hd]
      have h2 : k < a.tmps.size := by rw [hc.size]; exact hks
      simp [Array.getD, h2]
    · have hno : ∀ (j : Nat) o, (l.take n)[j]? = some o → o.dst ≠ some k := fun j o hj hd => by
        rw [List.getElem?_take] at hj
        split at hj
        · exact hk ⟨j, o, ‹_›, hj, hd⟩
        · cases hj
      rw [lay_other k (l.take n) vs a0 hno]
      refine hc.old k fun i o ho hi => ?_
      rcases Nat.lt_or_ge i n with h | h
      · exact hno i o (by rw [List.getElem?_take, if_pos h]; simpa using ho)
      · rw [headAll_ge h] at hi; cases hi
  have hd : a.defers = (lay (l.take n) vs a0).defers := by rw [lay_defers]; exact hc.defers
  cases a
  cases hx : lay (l.take n) vs a0
  rw [hx] at ht hd
  simp_all

/-- A region whose head makes memory, in whatever order, and whose tail is forced. -/
theorem wp_region_grow_tail {id : Nat} {a0 : Act} {w0 : World} (n : Nat) (hm : P.follows .mixedOrders = true) (Vs : List Tell) (hlen : Vs.length = n) (hlast : ∀ p ∈ Vs, Lasts p) (hb : growsB .any l.toArray a0.tmps.size = true) (hT : tailB .any l n = true)
    (hdo : DoAll P .any l.toArray Q (tellAt Vs) (fun x y => Below x.heap.size x y) a0 w0 0 (l.take n))
    (hQ : ∀ w, Below w0.heap.size w0 w → Thus w (fun vs => wpList P l.toArray Q (l.drop n) (lay (l.take n) vs a0) w) Vs []) : (Code.region id l.toArray true).wp P Q a0 w0 := by
  have hn : n < l.length ∧ ((l.take n).all fun o => o.dst.isSome) = true := by
    simp only [tailB, Bool.and_eq_true, decide_eq_true_eq] at hT
    exact hT.1.1.1
  obtain ⟨hn, hsome⟩ := hn
  have hT' := hT
  simp only [tailB, Bool.and_eq_true, decide_eq_true_eq] at hT'
  refine wp_region_any hm ?_
  have hV : ∀ i v x y, Below x.heap.size x y → tellAt Vs i v x → tellAt Vs i v y := fun i v x y hg h => by
    unfold tellAt at h ⊢
    rcases Nat.lt_or_ge i Vs.length with hi | hi
    · have e : Vs.getD i Any_ = Vs[i] := by simp [List.getD, hi]
      rw [e] at h ⊢
      exact hlast _ (List.getElem_mem hi) v x y hg h
    · have e : Vs.getD i Any_ = Any_ := by simp [List.getD, hi]
      rw [e] at h ⊢
      exact h
  have hfin := come_tail (P := P) (Q := Q) (md := .any) (l := l) (n := n) (V := tellAt Vs) (G := fun x y => Below x.heap.size x y) (fun x y z h k => below_then h (Nat.le_refl _) k) hV (a0 := a0) (w0 := w0) hb hT
    (fun i o hi ho => by
      have := doAll_at (l.take n) 0 hdo i o (by rw [List.getElem?_take, if_pos hi]; simpa using ho)
      rwa [Nat.zero_add] at this)
    (fun a w hc => by
      have hval : ∀ i, i < n → ∃ o d, l[i]? = some o ∧ o.dst = some d := fun i hi => by
        have h1 : (l.take n)[i]? = some l[i] := by rw [List.getElem?_take, if_pos hi, List.getElem?_eq_getElem (by omega)]
        have h2 := List.all_eq_true.1 hsome l[i] (List.mem_of_getElem? h1)
        obtain ⟨d, hd⟩ := Option.isSome_iff_exists.1 h2
        exact ⟨_, d, List.getElem?_eq_getElem (by omega), hd⟩
      let vs : List Value := (List.range n).map fun i => match (l[i]?).bind (·.dst) with | some d => a.tmps.getD d undef | none => undef
      have hvl : vs.length = n := by simp [vs]
      have hvi : ∀ (i : Nat) o d, i < n → l[i]? = some o → o.dst = some d → vs.getD i undef = a.tmps.getD d undef := fun i o d hi ho hd => by
        have : vs[i]? = some (a.tmps.getD d undef) := by
          simp only [vs]
          rw [List.getElem?_map, List.getElem?_range hi]
          simp [ho, hd]
        simp [List.getD, this]
      have key := thus_at (w := w) (K := fun vs => wpList P l.toArray Q (l.drop n) (lay (l.take n) vs a0) w) Vs [] vs (hQ w hc.g) (by rw [hvl, hlen]) (fun i hi => by
        obtain ⟨o, d, ho, hd⟩ := hval i (by omega)
        rw [hvi i o d (by omega) ho hd]
        exact hc.new i o d (by simpa using ho) (headAll_lt (by omega)) hd)
      rw [List.reverse_nil, List.nil_append] at key
      rw [lay_head (by omega) hb hc vs hvl hvi]
      exact key)
  have := hfin n (Array.replicate l.toArray.size false) (Array.replicate n false) a0 { w0 with drawn := w0.drawn + 1 }
    ⟨by simp, fun j oj _ hl => (by rw [getD_replicate_false] at hl; cases hl), fun t _ ht => getD_in (by simpa using ht) (getD_replicate_false _ _)⟩ (by simp)
    (fun i hi => by rw [Array.getElem?_replicate, Array.getElem?_replicate, if_pos hi, if_pos (by simp; omega)]) (by simp [List.countP_replicate])
    ⟨below_drewN (Below.refl _ _) 1, rfl, rfl, fun k _ => rfl, fun i o d ho hl => by
      exfalso
      have hi : i < l.toArray.size := (Array.getElem?_eq_some_iff.1 ho).1
      simp at hi
      simp [Array.getD, hi] at hl⟩
  rw [show n + (l.length - n) = l.toArray.size by simp; omega] at this
  exact this
end

/-- A new block. -/
def NewBlk (base : Nat) (t : TypeId) (cs : Array Value) : Tell := fun v w => ∃ g, v = .pointer (some ⟨g, 0, none⟩) ∧ base ≤ g ∧ Blk w g t cs
theorem Lasts.newBlk (base : Nat) (t : TypeId) (cs : Array Value) : Lasts (NewBlk base t cs) := fun v x y hg ⟨g, h1, h2, h3⟩ => ⟨g, h1, h2, h3.below hg h3.lt⟩
/-- A slice of bytes of the call's own. -/
def NewOwn (t : TypeId) (base n : Nat) (xs : List UInt8) : Tell := fun v w => ∃ A c, v = .slice A n c ∧ Own8 w t base A n c xs
theorem Lasts.newOwn (t : TypeId) (base n : Nat) (xs : List UInt8) : Lasts (NewOwn t base n xs) := fun v x y hg ⟨A, c, h1, h2⟩ => ⟨A, c, h1, h2.below hg (Nat.le_refl _)⟩
/-- A struct one of whose fields is such a slice. -/
def NewAgg (t : TypeId) (base n : Nat) (xs : List UInt8) (F : Value → Value) : Tell := fun v w => ∃ A c, v = F (.slice A n c) ∧ Own8 w t base A n c xs
theorem Lasts.newAgg (t : TypeId) (base n : Nat) (xs : List UInt8) (F : Value → Value) : Lasts (NewAgg t base n xs F) := fun v x y hg ⟨A, c, h1, h2⟩ => ⟨A, c, h1, h2.below hg (Nat.le_refl _)⟩
/-- A row of its own, known whole. -/
def NewRow (t : TypeId) (base n c : Nat) (ys : List UInt8) (F : Value → Value) : Tell := fun v w => ∃ g, v = F (.slice (some ⟨g, 0, none⟩) n c) ∧ base ≤ g ∧ RowAt w t g ys
theorem Lasts.newRow (t : TypeId) (base n c : Nat) (ys : List UInt8) (F : Value → Value) : Lasts (NewRow t base n c ys F) := fun v x y hg ⟨g, h1, h2, h3⟩ => ⟨g, h1, h2, h3.below hg h3.lt⟩
theorem RowAt.ne_blk {w : World} {t t' g q : Nat} {ys : List UInt8} {cs : Array Value} (h : RowAt w t g ys) (hb : Blk w q t' cs) (ht : t ≠ t') : g ≠ q := by
  intro he
  subst he
  have h1 : w.heap[g]? = _ := h
  have h2 : w.heap[g]? = _ := hb
  rw [h1] at h2
  injection h2 with h2
  injection h2 with _ h2
  exact ht h2
/-- A block of another type is not the slice's own. -/
theorem Own8.ne_blk {w : World} {t t' base : Nat} {A : Option Addr} {n c g : Nat} {xs : List UInt8} {cs : Array Value} (h : Own8 w t base A n c xs) (hb : Blk w g t' cs) (ht : t ≠ t') : ∀ q, A = some ⟨q, 0, none⟩ → q ≠ g := by
  intro q hq he
  subst he
  rcases h.2 with ⟨ha, _⟩ | ⟨g', zs, ha, _, hr, _⟩
  · rw [ha] at hq; cases hq
  · rw [ha] at hq
    injection hq with hq
    injection hq with hq
    subst hq
    have h1 : w.heap[g']? = _ := hr
    have h2 : w.heap[g']? = _ := hb
    rw [h1] at h2
    injection h2 with h2
    injection h2 with _ h2
    exact ht h2
theorem Own8.blk_ne {w : World} {t t' base : Nat} {A : Option Addr} {n c g : Nat} {xs : List UInt8} {cs : Array Value} (h : Own8 w t base A n c xs) (hb : Blk w g t' cs) (ht : t ≠ t') : some g ≠ A.map (·.block) := by
  rcases h.2 with ⟨ha, _⟩ | ⟨g', zs, ha, _⟩
  · rw [ha]; simp
  · have := h.ne_blk hb ht g' ha
    rw [ha]
    intro he
    injection he with he
    exact this he.symm
/-- What another slice's growing leaves. -/
theorem Own8.beside {w w' : World} {t b b2 : Nat} {A A2 : Option Addr} {n c n2 c2 : Nat} {xs xs2 : List UInt8} (h : Own8 w t b A n c xs) (h2 : Own8 w t b2 A2 n2 c2 xs2) (hg : w.grownBy w' (A2.map (·.block))) (far : ∀ g, A2 = some ⟨g, 0, none⟩ → A ≠ some ⟨g, 0, none⟩) : Own8 w' t b A n c xs := by
  refine h.keep fun g hA => hg.block g (h.lt g hA).2 ?_
  rcases h2.2 with ⟨ha, _⟩ | ⟨g', zs, ha, _⟩
  · rw [ha]; simp
  · rw [ha]
    intro he
    injection he with he
    have he : g = g' := he
    subst he
    exact far g ha hA
end Go.Proofs.YtnnkgdkjmmljiaaDoor

namespace Go.Proofs.YtnnkgdkjmmljiaaDoor
open Go.ChangeShapes Go.WideShapes Go.ChangeAt Go.RowKit
set_option linter.unusedVariables false

/-- A slice of bytes that came in: its bytes, and how it reads. -/
theorem arg_bytes {H : Type} {enc : TypeId × Value → H} {P : Program} {W : World} {t e : TypeId} {A : Option Addr} {n c : Nat} {d : DataW H} {p : List MemPlace}
    (ht : P.underlying t = some (.slice e)) (he : P.underlying e = some (.int .u8)) (hc : P.cellsOf e = 1) (h : DataW.Trod enc P W 0 (fun _ => true) true t (.slice A n c) d p) :
    ∃ xs : List UInt8, n ≤ c ∧ c ≤ maxLen ∧ xs.length = n ∧ Rd W W.heap.size A xs := by
  obtain ⟨fuel, hf⟩ := h
  rcases open_ints ht he hc hf with ⟨hcs, _⟩ | ⟨x, l, c', zs, hcs, _, hl, hm, hz, _, hcell, hwz⟩
  · simp [Value.cells] at hcs
    obtain ⟨rfl, rfl, rfl⟩ := hcs
    exact ⟨[], Nat.le_refl _, Nat.zero_le _, rfl, Rd.nil _ _ _⟩
  · simp [Value.cells] at hcs
    obtain ⟨rfl, rfl, rfl⟩ := hcs
    have hz : zs.length = c := by simpa using hz
    refine ⟨(zs.take n).map fun z => UInt8.ofNat z.toNat, hl, hm, by simp; omega, ?_⟩
    by_cases h0 : n = 0
    · subst h0; exact .inl (by simp)
    · obtain ⟨b, off, spot⟩ := x
      have h00 := hcell 0 (by omega)
      have hspot : spot = none := by simpa [Addr.add] using World.cell?_spot h00
      subst hspot
      have hb := World.block_lt_of_cell? W _ h00
      refine .inr ⟨b, off, rfl, by simpa [Addr.add] using hb, fun j x hx => ?_⟩
      rw [List.getElem?_map, Option.map_eq_some_iff] at hx
      obtain ⟨z, hz', rfl⟩ := hx
      rw [List.getElem?_take] at hz'
      split at hz'
      · have hjl : j < zs.length := by omega
        have hcj := hcell j hjl
        rw [Addr.add_lit] at hcj
        rw [hcj]
        have hzj : zs.getD j 0 = z := by simp [List.getD, hz']
        rw [hzj]
        have hw := hwz z (List.mem_of_getElem? hz')
        have hbd : 0 ≤ z ∧ z ≤ 255 := by simpa [Lit.wf, IntKind.min, IntKind.max, IntKind.signed, IntKind.bits] using hw
        congr 2
        rw [UInt8.toNat_ofNat']
        omega
      · cases hz'

/-- A slice of bytes in a field. -/
theorem field_bytes {H : Type} {enc : TypeId × Value → H} {P : Program} {W : World} {t e : TypeId} {m : Nat} {v : Value} {y : DataW H × List MemPlace}
    (ht : P.underlying t = some (.slice e)) (he : P.underlying e = some (.int .u8)) (hc : P.cellsOf e = 1) (h : DataW.trod enc P W 0 (fun _ => true) true m t [v] = some y) :
    ∃ (A : Option Addr) (n c : Nat) (xs : List UInt8), v = .slice A n c ∧ n ≤ c ∧ c ≤ maxLen ∧ xs.length = n ∧ Rd W W.heap.size A xs := by
  have hv : ∃ (A : Option Addr) (n c : Nat), v = .slice A n c := by
    rcases open_ints ht he hc h with ⟨hcs, _⟩ | ⟨x, l, c', zs, hcs, _⟩
    · injection hcs with hcs; exact ⟨_, _, _, hcs⟩
    · injection hcs with hcs; exact ⟨_, _, _, hcs⟩
  obtain ⟨A, n, c, rfl⟩ := hv
  obtain ⟨xs, h1, h2, h3, h4⟩ := arg_bytes (d := y.1) (p := y.2) ht he hc ⟨m, by simpa [Value.cells] using h⟩
  exact ⟨A, n, c, xs, rfl, h1, h2, h3, h4⟩
/-- An integer in a field. -/
theorem field_int {H : Type} {enc : TypeId × Value → H} {P : Program} {W : World} {t : TypeId} {k : IntKind} {m : Nat} {v : Value} {y : DataW H × List MemPlace}
    (ht : P.underlying t = some (.int k)) (h : DataW.trod enc P W 0 (fun _ => true) true m t [v] = some y) : ∃ a : Int, v = .int k a ∧ (Lit.int k a).wf = true := by
  obtain ⟨a, e0, _, wa⟩ := DataW.trod_int ht h
  injection e0 with e0
  exact ⟨a, e0, wa⟩
end Go.Proofs.YtnnkgdkjmmljiaaDoor
