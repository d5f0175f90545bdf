/-
  As XGrowT: each look knows besides that nothing of the tail has come up (a slot that only the tail writes is as it was).
-/
import Derived.Test.YtifmhlbeodfpeaaQ11
namespace Go.Proofs.Ytifmhlbeodfpeaa
open Go.RowKit
set_option linter.unusedVariables false

section
variable {P : Program} {Q : Exit → Act → World → Prop} {md : Region.Mode} {l : List Oper} {n : Nat}
theorem far_of_inv {ops : Array Oper} {listed : Array Bool} (inv : HeadInv md ops n listed) (t : Nat) (ht : n ≤ t) : listed.getD t false = false := by
  rcases Nat.lt_or_ge t ops.size with h | h
  · exact getD_both (inv.tail t ht h)
  · have hs := inv.size
    rw [Array.getD_eq_getD_getElem?, Array.getElem?_eq_none (by omega)]
    rfl
def DoesT (P : Program) (md : Region.Mode) (ops : Array Oper) (Q : Exit → Act → World → Prop) (V : Nat → Value → World → Prop) (G : World → World → Prop) (a0 : Act) (w0 : World) (n i : Nat) (o : Oper) : Prop :=
  ∀ (listed : Array Bool) (a : Act) (w : World), (∀ t, n ≤ t → listed.getD t false = false) → (o.after.all fun e => !Region.binds md e || listed.getD e.on false) = true → Come ops V G a0 w0 listed a w →
    wpOp P ops Q i (fun a' w' => ∃ v, a' = a.put o.dst v ∧ G w w' ∧ V i v w') a w
def DoAllT (n : Nat) (P : Program) (md : Region.Mode) (ops : Array Oper) (Q : Exit → Act → World → Prop) (V : Nat → Value → World → Prop) (G : World → World → Prop) (a0 : Act) (w0 : World) : Nat → List Oper → Prop
  | _, [] => True
  | k, o :: rest => DoesT P md ops Q V G a0 w0 n k o ∧ DoAllT n P md ops Q V G a0 w0 (k + 1) rest
theorem doAllT_at {ops : Array Oper} {V : Nat → Value → World → Prop} {G : World → World → Prop} {a0 : Act} {w0 : World} : ∀ (l : List Oper) (k : Nat), DoAllT n P md ops Q V G a0 w0 k l → ∀ (i : Nat) o, l[i]? = some o → DoesT P md ops Q V G a0 w0 n (k + i) o
  | [], _, _, i, o, h => by simp at h
  | x :: l, k, hd, 0, o, h => by simp at h; subst h; exact hd.1
  | x :: l, k, hd, i + 1, o, h => by
    have := doAllT_at l (k + 1) hd.2 i o (by simpa using h)
    rwa [Nat.add_assoc, Nat.add_comm 1 i] at this
/-- A slot that the tail alone writes. -/
theorem Come.wasT {ops : Array Oper} {V : Nat → Value → World → Prop} {G : World → World → Prop} {a0 : Act} {w0 : World} {listed : Array Bool} {a : Act} {w : World} (hc : Come ops V G a0 w0 listed a w)
    (hfar : ∀ t, n ≤ t → listed.getD t false = false) (k : Nat) (h : ((ops.toList.take n).all fun o => o.dst != some k) = true) : a.tmps[k]?.getD undef = a0.tmps[k]?.getD undef := by
  rw [hc.old k fun i o ho hl => by
    have hi : i < n := by
      rcases Nat.lt_or_ge i n with h1 | h1
      · exact h1
      · rw [hfar i h1] at hl; cases hl
    have hm : o ∈ ops.toList.take n := List.mem_of_getElem? (i := i) (by rw [List.getElem?_take, if_pos hi, Array.getElem?_toList]; exact ho)
    have := List.all_eq_true.1 h o hm
    simpa using this]

theorem come_tailT {V : Nat → Value → World → Prop} {G : World → World → Prop} (hG : ∀ x y z, G x y → G y z → G x z) (hV : ∀ i v x y, G x y → V i v x → V i v y) {a0 : Act} {w0 : World}
    (hb : growsB md l.toArray a0.tmps.size = true) (hT : tailB md l n = true) (hdo : ∀ (i : Nat) o, i < n → l.toArray[i]? = some o → DoesT P md l.toArray Q V G a0 w0 n i o)
    (hQ : ∀ a w, Come l.toArray V G a0 w0 (headAll n l.length) a w → wpList P l.toArray Q (l.drop n) a w) :
    ∀ (fuel : Nat) (listed H : Array Bool) (a : Act) (w : World), HeadInv md l.toArray n listed → H.size = n → (∀ i, i < n → H[i]? = listed[i]?) → H.toList.countP (fun b => !b) = fuel → Come l.toArray V G a0 w0 listed a w →
      wpAny P md l.toArray Q (fuel + (l.length - n)) listed a w := by
  simp only [tailB, Bool.and_eq_true, decide_eq_true_eq] at hT
  obtain ⟨⟨⟨⟨hn, _⟩, hs⟩, hc⟩, hseq⟩ := hT
  intro fuel
  induction fuel with
  | zero =>
    intro listed H a w inv hz hrel hf hcm
    rw [List.countP_eq_zero] at hf
    have hall : listed = headAll n l.length := by
      have hsz := inv.size
      simp only [List.size_toArray] at hsz
      apply Array.ext_getElem?
      intro i
      unfold headAll
      simp only [List.getElem?_toArray]
      rcases Nat.lt_or_ge i n with hi | hi
      · rw [← hrel i hi, List.getElem?_append_left (by simpa using hi), List.getElem?_replicate, if_pos hi]
        have hiH : i < H.size := by omega
        rw [Array.getElem?_eq_getElem hiH]
        have := hf H[i] (by simp)
        simpa using this
      · rw [List.getElem?_append_right (by simpa using hi), List.getElem?_replicate, List.length_replicate]
        rcases Nat.lt_or_ge i l.length with hi' | hi'
        · rw [if_pos (by omega)]
          have := inv.tail i hi (by simpa using hi')
          have hil : i < listed.size := by omega
          simp [Array.getD, hil] at this
          rw [Array.getElem?_eq_getElem hil, this]
        · rw [if_neg (by omega), Array.getElem?_eq_none (by omega)]
    subst hall
    have := wpAny_of_seq (md := md) (P := P) (Q' := Q) (l.drop n) n (headAll n l.length) a w (fun j => by simp [List.getElem?_drop]) (by rw [List.length_drop]; exact hseq) (hQ a w hcm)
    rw [List.length_drop] at this
    rw [Nat.zero_add]
    exact this
  | succ fuel ih =>
    intro listed H a w inv hz hrel hf hcm
    obtain ⟨i, hi, hun⟩ : ∃ i, i < n ∧ listed.getD i true = false := by
      have hpos : 0 < H.toList.countP (fun b => !b) := by omega
      rw [List.countP_pos_iff] at hpos
      obtain ⟨b, hb, hb2⟩ := hpos
      obtain ⟨i, hi⟩ := List.mem_iff_getElem?.1 hb
      have hlt := (List.getElem?_eq_some_iff.1 hi).1
      refine ⟨i, by simp at hlt; omega, ?_⟩
      rw [Array.getD_eq_getD_getElem?, ← hrel i (by simp at hlt; omega)]
      rw [Array.getElem?_toList] at hi
      rw [hi]
      simpa using hb2
    have hsz := inv.size
    simp only [List.size_toArray] at hsz
    have hnone := tail_waits hs hc (by simpa using hn) inv (n - i) i rfl hi hun
    rw [show fuel + 1 + (l.length - n) = (fuel + (l.length - n)) + 1 by omega]
    refine ⟨fun h0 => ?_, fun j hj => ?_⟩
    · have := ready_none hb (by simpa using inv.size) h0 i (by simp; omega)
      have hil : i < listed.size := by omega
      simp [Array.getD, hil] at this hun
      rw [this] at hun
      cases hun
    · have hjn : j < n := by
        rcases Nat.lt_or_ge j n with h' | h'
        · exact h'
        · exact absurd hj (hnone j h')
      obtain ⟨o, ho, hil, hl, hd⟩ := ready_mem hj
      have hjH : j < H.size := by omega
      have hfalse : H[j] = false := by
        have h1 := hrel j hjn
        rw [Array.getElem?_eq_getElem hjH, Array.getElem?_eq_getElem hil] at h1
        simp [Array.getD, hil] at hl
        rw [Option.some.inj h1, hl]
      have hcount : (H.setIfInBounds j true).toList.countP (fun b => !b) = fuel := by
        rw [Array.toList_setIfInBounds, List.countP_set (by simpa using hjH)]
        simp [hfalse, hf]
      refine wpOp_mono ?_ (hdo j o hjn ho listed a w (fun t ht => far_of_inv inv t ht) hd hcm)
      rintro a' w' ⟨v, rfl, hg, hv⟩
      refine ih (listed.setIfInBounds j true) (H.setIfInBounds j true) _ _ (inv.set hj hjn) (by simp [hz]) (fun k hk => ?_) hcount (hcm.step hG hV hb ho hil hg hv)
      rw [Array.getElem?_setIfInBounds, Array.getElem?_setIfInBounds, hrel k hk]
      simp [hjH, hil]


/-- A region whose head makes memory, in whatever order, and whose tail is forced. -/
theorem wp_region_grow_tailT {id : Nat} {a0 : Act} {w0 : World} (n : Nat) (hm : P.follows .mixedOrders = true) (Vs : List Tell) (hlen : Vs.length = n) (hlast : ∀ p ∈ Vs, Lasts p) (hb : growsB .any l.toArray a0.tmps.size = true) (hT : tailB .any l n = true)
    (hdo : DoAllT n P .any l.toArray Q (tellAt Vs) (fun x y => Below x.heap.size x y) a0 w0 0 (l.take n))
    (hQ : ∀ w, Below w0.heap.size w0 w → Thus w (fun vs => wpList P l.toArray Q (l.drop n) (lay (l.take n) vs a0) w) Vs []) : (Code.region id l.toArray true).wp P Q a0 w0 := by
  have hn : n < l.length ∧ ((l.take n).all fun o => o.dst.isSome) = true := by
    simp only [tailB, Bool.and_eq_true, decide_eq_true_eq] at hT
    exact hT.1.1.1
  obtain ⟨hn, hsome⟩ := hn
  have hT' := hT
  simp only [tailB, Bool.and_eq_true, decide_eq_true_eq] at hT'
  refine wp_region_any hm ?_
  have hV : ∀ i v x y, Below x.heap.size x y → tellAt Vs i v x → tellAt Vs i v y := fun i v x y hg h => by
    unfold tellAt at h ⊢
    rcases Nat.lt_or_ge i Vs.length with hi | hi
    · have e : Vs.getD i Any_ = Vs[i] := by simp [List.getD, hi]
      rw [e] at h ⊢
      exact hlast _ (List.getElem_mem hi) v x y hg h
    · have e : Vs.getD i Any_ = Any_ := by simp [List.getD, hi]
      rw [e] at h ⊢
      exact h
  have hfin := come_tailT (P := P) (Q := Q) (md := .any) (l := l) (n := n) (V := tellAt Vs) (G := fun x y => Below x.heap.size x y) (fun x y z h k => below_then h (Nat.le_refl _) k) hV (a0 := a0) (w0 := w0) hb hT
    (fun i o hi ho => by
      have := doAllT_at (l.take n) 0 hdo i o (by rw [List.getElem?_take, if_pos hi]; simpa using ho)
      rwa [Nat.zero_add] at this)
    (fun a w hc => by
      have hval : ∀ i, i < n → ∃ o d, l[i]? = some o ∧ o.dst = some d := fun i hi => by
        have h1 : (l.take n)[i]? = some l[i] := by rw [List.getElem?_take, if_pos hi, List.getElem?_eq_getElem (by omega)]
        have h2 := List.all_eq_true.1 hsome l[i] (List.mem_of_getElem? h1)
        obtain ⟨d, hd⟩ := Option.isSome_iff_exists.1 h2
        exact ⟨_, d, List.getElem?_eq_getElem (by omega), hd⟩
      let vs : List Value := (List.range n).map fun i => match (l[i]?).bind (·.dst) with | some d => a.tmps.getD d undef | none => undef
      have hvl : vs.length = n := by simp [vs]
      have hvi : ∀ (i : Nat) o d, i < n → l[i]? = some o → o.dst = some d → vs.getD i undef = a.tmps.getD d undef := fun i o d hi ho hd => by
        have : vs[i]? = some (a.tmps.getD d undef) := by
          simp only [vs]
          rw [List.getElem?_map, List.getElem?_range hi]
          simp [ho, hd]
        simp [List.getD, this]
      have key := thus_at (w := w) (K := fun vs => wpList P l.toArray Q (l.drop n) (lay (l.take n) vs a0) w) Vs [] vs (hQ w hc.g) (by rw [hvl, hlen]) (fun i hi => by
        obtain ⟨o, d, ho, hd⟩ := hval i (by omega)
        rw [hvi i o d (by omega) ho hd]
        exact hc.new i o d (by simpa using ho) (headAll_lt (by omega)) hd)
      rw [List.reverse_nil, List.nil_append] at key
      rw [lay_head (by omega) hb hc vs hvl hvi]
      exact key)
  have := hfin n (Array.replicate l.toArray.size false) (Array.replicate n false) a0 { w0 with drawn := w0.drawn + 1 }
    ⟨by simp, fun j oj _ hl => (by rw [getD_replicate_false] at hl; cases hl), fun t _ ht => getD_in (by simpa using ht) (getD_replicate_false _ _)⟩ (by simp)
    (fun i hi => by rw [Array.getElem?_replicate, Array.getElem?_replicate, if_pos hi, if_pos (by simp; omega)]) (by simp [List.countP_replicate])
    ⟨below_drewN (Below.refl _ _) 1, rfl, rfl, fun k _ => rfl, fun i o d ho hl => by
      exfalso
      have hi : i < l.toArray.size := (Array.getElem?_eq_some_iff.1 ho).1
      simp at hi
      simp [Array.getD, hi] at hl⟩
  rw [show n + (l.length - n) = l.toArray.size by simp; omega] at this
  exact this
end

end Go.Proofs.Ytifmhlbeodfpeaa
