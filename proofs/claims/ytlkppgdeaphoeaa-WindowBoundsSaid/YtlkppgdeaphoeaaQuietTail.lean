/-
  A region that draws its order, all of whose operations but a forced tail read or call quietly: one walk of the head, in the text's order, then the tail (a store, a copy).
-/
import Derived.Test.YtlkppgdeaphoeaaGrow
import Derived.StillTail
import Derived.Deep.Quiet
import Derived.BigQuiet
namespace Go.Proofs.Ytlkppgdeaphoeaa
open Go.RowKit
set_option linter.unusedVariables false

section
variable {P : Program} {md : Region.Mode} {l : List Oper} {n : Nat}

/-- What is true below n alone. -/
def headAll (n m : Nat) : Array Bool := (List.replicate n true ++ List.replicate (m - n) false).toArray
/-- Edges lead back, the head bears no guard. -/
def plainB (md : Region.Mode) (l : List Oper) (n : Nat) : Bool :=
  (List.range l.length).all fun i => match l[i]? with
    | none => true
    | some o => (o.after.all fun e => !Region.binds md e || decide (e.on < i)) && (decide (n ≤ i) || o.guard.isNone)
def quietTailB (md : Region.Mode) (l : List Oper) (n : Nat) : Bool :=
  plainB md l n && decide (n < l.length) && Region.sinkB md l.toArray n && Region.chainB md l.toArray n && Region.seqB md l.toArray (l.length - n) n (headAll n l.length) && Region.lexB md (l.take n).toArray

theorem plainB_at (h : plainB md l n = true) {i : Nat} {o : Oper} (ho : l[i]? = some o) : (∀ e ∈ o.after, Region.binds md e = true → e.on < i) ∧ (i < n → o.guard = none) := by
  have hi : i < l.length := (List.getElem?_eq_some_iff.1 ho).1
  have := List.all_eq_true.1 h i (List.mem_range.2 hi)
  rw [ho] at this
  simp only [Bool.and_eq_true, Bool.or_eq_true, decide_eq_true_eq] at this
  refine ⟨fun e he hb => ?_, fun hin => ?_⟩
  · have h1 := Array.all_eq_true'.1 this.1 e he
    rw [hb] at h1
    simpa using h1
  · rcases this.2 with h2 | h2
    · omega
    · simpa using h2

theorem head_get (i : Nat) (hi : i < n) : (l.take n).toArray[i]? = l.toArray[i]? := by simp [hi]
theorem ready_head {listed H : Array Bool} (hp : plainB md l n = true) (hrel : ∀ i, i < n → H[i]? = listed[i]?) {i : Nat} (hi : i < n) (h : i ∈ Region.ready md l.toArray listed) : i ∈ Region.ready md (l.take n).toArray H := by
  obtain ⟨h1, o, ho, h2⟩ := mem_ready.1 h
  refine mem_ready.2 ⟨?_, o, by rw [head_get i hi]; exact ho, fun e he hb => ?_⟩
  · rw [Array.getD_eq_getD_getElem?] at h1 ⊢
    rw [hrel i hi]
    exact h1
  · have hlt := (plainB_at hp (by simpa using ho)).1 e he hb
    have := h2 e he hb
    rw [Array.getD_eq_getD_getElem?] at this ⊢
    rw [hrel _ (by omega)]
    exact this
theorem ready_some {listed : Array Bool} (hp : plainB md l n = true) (hs : listed.size = l.length) (h : Region.ready md l.toArray listed = []) : ∀ i, i < l.length → listed.getD i true = true := by
  intro i
  induction i using Nat.strongRecOn with
  | ind i ih =>
    intro hi
    cases hl : listed.getD i true with
    | true => rfl
    | false =>
      exfalso
      have hm : i ∈ Region.ready md l.toArray listed := by
        refine mem_ready.2 ⟨hl, l[i], by simp [hi], fun e he hb => ?_⟩
        have hlt := (plainB_at hp (List.getElem?_eq_getElem hi)).1 e he hb
        have := ih e.on hlt (by omega)
        have hz : e.on < listed.size := by omega
        simp [Array.getD, hz] at this ⊢
        exact this
      rw [h] at hm
      cases hm

theorem transfer {C : World → Prop} {Q' : Exit → Act → World → Prop} {Qh : Act → Prop} (hB : quietTailB md l n = true)
    (hQ : ∀ a w, C w → Qh a → wpList P l.toArray Q' (l.drop n) a w) :
    ∀ (fuel : Nat) (listed H : Array Bool) (a : Act) (w : World), HeadInv md l.toArray n listed → H.size = n → (∀ i, i < n → H[i]? = listed[i]?) → H.toList.countP (fun b => !b) = fuel → C w →
      wpAnyQ P md (l.take n).toArray C Qh fuel H a → wpAny P md l.toArray Q' (fuel + (l.length - n)) listed a w := by
  simp only [quietTailB, Bool.and_eq_true, decide_eq_true_eq] at hB
  obtain ⟨⟨⟨⟨⟨hp, hn⟩, hs⟩, hc⟩, hseq⟩, _⟩ := hB
  intro fuel
  induction fuel with
  | zero =>
    intro listed H a w inv hz hrel hf hC h
    rw [List.countP_eq_zero] at hf
    have hall : listed = headAll n l.length := by
      have hsz := inv.size
      simp only [List.size_toArray] at hsz
      apply Array.ext_getElem?
      intro i
      unfold headAll
      simp only [List.getElem?_toArray]
      rcases Nat.lt_or_ge i n with hi | hi
      · rw [← hrel i hi, List.getElem?_append_left (by simpa using hi), List.getElem?_replicate, if_pos hi]
        have hiH : i < H.size := by omega
        rw [Array.getElem?_eq_getElem hiH]
        have := hf H[i] (by simp)
        simpa using this
      · rw [List.getElem?_append_right (by simpa using hi), List.getElem?_replicate, List.length_replicate]
        rcases Nat.lt_or_ge i l.length with hi' | hi'
        · rw [if_pos (by omega)]
          have := inv.tail i hi (by simpa using hi')
          have hil : i < listed.size := by omega
          simp [Array.getD, hil] at this
          rw [Array.getElem?_eq_getElem hil, this]
        · rw [if_neg (by omega), Array.getElem?_eq_none (by omega)]
    subst hall
    have := wpAny_of_seq (md := md) (P := P) (Q' := Q') (l.drop n) n (headAll n l.length) a w (fun j => by simp [List.getElem?_drop]) (by rw [List.length_drop]; exact hseq) (hQ a w hC h.2)
    rw [List.length_drop] at this
    rw [Nat.zero_add]
    exact this
  | succ fuel ih =>
    intro listed H a w inv hz hrel hf hC h
    -- something of the head is not listed yet
    obtain ⟨i, hi, hun⟩ : ∃ i, i < n ∧ listed.getD i true = false := by
      have hpos : 0 < H.toList.countP (fun b => !b) := by omega
      rw [List.countP_pos_iff] at hpos
      obtain ⟨b, hb, hb2⟩ := hpos
      obtain ⟨i, hi⟩ := List.mem_iff_getElem?.1 hb
      have hlt := (List.getElem?_eq_some_iff.1 hi).1
      refine ⟨i, by simp at hlt; omega, ?_⟩
      rw [Array.getD_eq_getD_getElem?, ← hrel i (by simp at hlt; omega)]
      rw [Array.getElem?_toList] at hi
      rw [hi]
      simpa using hb2
    have hnone := tail_waits hs hc (by simpa using hn) inv (n - i) i rfl hi hun
    rw [show fuel + 1 + (l.length - n) = (fuel + (l.length - n)) + 1 by omega]
    refine ⟨fun h0 => ?_, fun j hj => ?_⟩
    · have := ready_some hp (by simpa using inv.size) h0 i (by omega)
      rw [this] at hun
      cases hun
    · have hjn : j < n := by
        rcases Nat.lt_or_ge j n with h' | h'
        · exact h'
        · exact absurd hj (hnone j h')
      have hj' := ready_head hp hrel hjn hj
      have hq := h.2 j hj'
      have hjH : j < H.size := by omega
      have hfalse : H[j] = false := by
        have := (mem_ready.1 hj').1
        simpa [Array.getD, hjH] using this
      obtain ⟨_, o, ho, _⟩ := mem_ready.1 hj
      have hgd := (plainB_at hp (i := j) (o := o) (by simpa using ho)).2 hjn
      have hcount : (H.setIfInBounds j true).toList.countP (fun b => !b) = fuel := by
        rw [Array.toList_setIfInBounds, List.countP_set (by simpa using hjH)]
        simp [hfalse, hf]
      have hop : wpOp P (l.take n).toArray Q' j (fun a' w' => wpAny P md l.toArray Q' (fuel + (l.length - n)) (listed.setIfInBounds j true) a' w') a w := by
        refine wpOp_of_qOp hC (fun a' w' hw' hh => ?_) hq
        refine ih (listed.setIfInBounds j true) (H.setIfInBounds j true) a' w' (inv.set hj hjn) (by simp [hz]) (fun k hk => ?_) hcount hw' hh
        have hjl : j < listed.size := by rw [inv.size]; simp; omega
        rw [Array.getElem?_setIfInBounds, Array.getElem?_setIfInBounds, hrel k hk]
        simp [hjH, hjl]
      unfold wpOp at hop ⊢
      rw [head_get j hjn] at hop
      simp only [ho] at hop ⊢
      have hw1 : ∀ y, Region.wanted o y = true := fun y => by simp [Region.wanted, hgd]
      simp only [hw1, if_true] at hop ⊢
      exact hop

/-- A region with a forced tail. -/
theorem wp_region_quiet_tail {id : Nat} {Q : Exit → Act → World → Prop} {a : Act} {w : World} (n : Nat) (hm : P.follows .mixedOrders = true) (hB : quietTailB .any l n = true)
    (h : wpQuiet P (l.take n).toArray (fun w' => ∃ k, w' = w.drewN k) (fun a' => ∀ w', (∃ k, w' = w.drewN k) → wpList P l.toArray Q (l.drop n) a' w') (l.take n) a) : (Code.region id l.toArray true).wp P Q a w := by
  have hB' := hB
  simp only [quietTailB, Bool.and_eq_true, decide_eq_true_eq, Region.lexB] at hB'
  obtain ⟨⟨⟨⟨⟨hp, hn⟩, hs⟩, hc⟩, hseq⟩, hsel, hlex⟩ := hB'
  have hlen : (l.take n).length = n := by simp; omega
  refine wp_region_any hm ?_
  have hA := wpAnyQ_lex (C := fun w' => ∃ k, w' = w.drewN k) (md := .any) hsel (l.take n) 0 (Array.replicate (l.take n).toArray.size false) a (by simp) (by simpa using hlex) h
  have := transfer (P := P) (Q' := Q) (C := fun w' => ∃ k, w' = w.drewN k) hB (fun a w' hw' hh => hh w' hw') _ (Array.replicate l.toArray.size false) (Array.replicate (l.take n).toArray.size false) a { w with drawn := w.drawn + 1 }
    ⟨by simp, fun j oj _ hl => (by rw [getD_replicate_false] at hl; cases hl), fun t _ ht => getD_in (by simpa using ht) (getD_replicate_false _ _)⟩ (by simp; omega)
    (fun i hi => by rw [Array.getElem?_replicate, Array.getElem?_replicate, if_pos (by simp; omega), if_pos (by simp; omega)]) (by simp [List.countP_replicate]) ⟨1, rfl⟩ hA
  rw [hlen, show n + (l.length - n) = l.toArray.size by simp; omega] at this
  exact this
end
end Go.Proofs.Ytlkppgdeaphoeaa
