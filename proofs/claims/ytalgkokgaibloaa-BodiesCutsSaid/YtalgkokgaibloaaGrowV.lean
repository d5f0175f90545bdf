/-
  A region that draws its order and whose operations make memory, each of which leaves a value that is known: behind it the frame is written out.
-/
import Derived.Test.YtalgkokgaibloaaGrow
namespace Go.Proofs.Ytalgkokgaibloaa
open Go.RowKit
set_option linter.unusedVariables false

/-- The frame when each operation has left its value. -/
def lay : List Oper → List Value → Act → Act
  | o :: l, v :: vs, a => lay l vs (a.put o.dst v)
  | _, _, a => a

theorem put_defers (a : Act) (d : Option Tmp) (v : Value) : (a.put d v).defers = a.defers := by cases d <;> rfl
theorem put_size (a : Act) (d : Option Tmp) (v : Value) : (a.put d v).tmps.size = a.tmps.size := by cases d <;> simp [Act.put]
theorem put_other (a : Act) (d : Option Tmp) (v : Value) (k : Nat) (h : d ≠ some k) : (a.put d v).tmps[k]? = a.tmps[k]? := by
  cases d with
  | none => rfl
  | some d =>
    have hd : d ≠ k := fun e => h (by rw [e])
    simp only [Act.put]
    rw [Array.getElem?_setIfInBounds, if_neg hd]
theorem put_same (a : Act) (v : Value) (k : Nat) (h : k < a.tmps.size) : (a.put (some k) v).tmps[k]? = some v := by
  simp only [Act.put]
  rw [Array.getElem?_setIfInBounds, if_pos rfl, if_pos h]
theorem lay_defers : ∀ (l : List Oper) (vs : List Value) (a : Act), (lay l vs a).defers = a.defers
  | [], _, _ => rfl
  | _ :: _, [], _ => rfl
  | o :: l, v :: vs, a => by rw [lay, lay_defers l vs, put_defers]
theorem lay_size : ∀ (l : List Oper) (vs : List Value) (a : Act), (lay l vs a).tmps.size = a.tmps.size
  | [], _, _ => rfl
  | _ :: _, [], _ => rfl
  | o :: l, v :: vs, a => by rw [lay, lay_size l vs, put_size]
theorem lay_other (k : Nat) : ∀ (l : List Oper) (vs : List Value) (a : Act), (∀ (j : Nat) o, l[j]? = some o → o.dst ≠ some k) → (lay l vs a).tmps[k]? = a.tmps[k]?
  | [], _, _, _ => rfl
  | _ :: _, [], _, _ => rfl
  | o :: l, v :: vs, a, h => by
    rw [lay, lay_other k l vs _ (fun j o' ho => h (j + 1) o' (by simpa using ho)), put_other _ _ _ _ (h 0 o rfl)]
theorem lay_same (k : Nat) : ∀ (l : List Oper) (vs : List Value) (a : Act) (i : Nat) (o : Oper), l[i]? = some o → o.dst = some k → (∀ (j : Nat) o', l[j]? = some o' → j ≠ i → o'.dst ≠ some k) → k < a.tmps.size → l.length = vs.length →
    (lay l vs a).tmps[k]? = some (vs.getD i undef)
  | [], _, _, i, o, h, _, _, _, _ => by simp at h
  | _ :: _, [], _, _, _, _, _, _, _, hl => by simp at hl
  | x :: l, v :: vs, a, 0, o, h, hd, hn, hk, hl => by
    simp at h; subst h
    rw [lay, lay_other k l vs _ (fun j o' ho => hn (j + 1) o' (by simpa using ho) (by omega)), hd, put_same _ _ _ hk]
    rfl
  | x :: l, v :: vs, a, i + 1, o, h, hd, hn, hk, hl => by
    rw [lay, lay_same k l vs _ i o (by simpa using h) hd (fun j o' ho hj => hn (j + 1) o' (by simpa using ho) (by omega)) (by rw [put_size]; exact hk) (by simpa using hl)]
    rfl

/-- Operation i leaves the value number i. -/
def ValV (vs : List Value) (i : Nat) (v : Value) (w : World) : Prop := v = vs.getD i undef

theorem lay_come {l : List Oper} {vs : List Value} {G : World → World → Prop} {a0 : Act} {w0 : World} {a : Act} {w : World} (hl : l.length = vs.length) (hb : growsB .any l.toArray a0.tmps.size = true)
    (hc : Come l.toArray (ValV vs) G a0 w0 (Array.replicate l.toArray.size true) a w) : a = lay l vs a0 := by
  have ht : a.tmps = (lay l vs a0).tmps := by
    apply Array.ext_getElem?
    intro k
    by_cases hk : ∃ (i : Nat) (o : Oper), l[i]? = some o ∧ o.dst = some k
    · obtain ⟨i, o, ho, hd⟩ := hk
      have ho' : l.toArray[i]? = some o := by simpa using ho
      have hks := growsB_size hb ho' hd
      have hi : i < l.length := (List.getElem?_eq_some_iff.1 ho).1
      have h1 := hc.new i o k ho' (by simp [Array.getD, hi]) hd
      rw [lay_same k l vs a0 i o ho hd (fun j o' hj hne => growsB_apart hb ho' (by simpa using hj) hne hd) hks hl]
      have h2 : k < a.tmps.size := by rw [hc.size]; exact hks
      rw [Array.getElem?_eq_getElem h2]
      have h3 : a.tmps.getD k undef = a.tmps[k] := by simp [Array.getD, h2]
      rw [← h3]
      exact congrArg some h1
    · have hno : ∀ (j : Nat) o, l[j]? = some o → o.dst ≠ some k := fun j o hj hd => hk ⟨j, o, hj, hd⟩
      rw [lay_other k l vs a0 hno]
      exact hc.old k fun i o ho _ => hno i o (by simpa using ho)
  have hd : a.defers = (lay l vs a0).defers := by rw [lay_defers]; exact hc.defers
  cases a
  cases hx : lay l vs a0
  rw [hx] at ht hd
  simp_all

/-- Such a region, in whatever order: the frame behind it, and what is said of the world. -/
theorem wp_region_vals {P : Program} {Q : Exit → Act → World → Prop} {id : Nat} {l : List Oper} {a0 : Act} {w0 : World} (hm : P.follows .mixedOrders = true) (base : Nat) (vs : List Value) (hl : l.length = vs.length)
    (hb : growsB .any l.toArray a0.tmps.size = true) (hdo : DoAll P .any l.toArray Q (ValV vs) (Grew base) a0 w0 0 l) (hQ : ∀ w, Grew base w0 w → Q .normal (lay l vs a0) w) :
    (Code.region id l.toArray true).wp P Q a0 w0 :=
  wp_region_grow hm (ValV vs) (Grew base) (Grew.refl _) (Grew.drew _ _) (fun _ _ _ => Grew.trans) (fun i v x y _ h => h) hb hdo fun a w hc => by
    rw [lay_come hl hb hc]
    exact hQ w hc.g

/-- A slot that no operation writes. -/
theorem Come.was {ops : Array Oper} {V : Nat → Value → World → Prop} {G : World → World → Prop} {a0 : Act} {w0 : World} {listed : Array Bool} {a : Act} {w : World} (hc : Come ops V G a0 w0 listed a w)
    (k : Nat) (h : (ops.all fun o => o.dst != some k) = true) : a.tmps[k]?.getD undef = a0.tmps[k]?.getD undef := by
  rw [hc.old k fun i o ho _ => by
    have := Array.all_eq_true'.1 h o (Array.mem_of_getElem? ho)
    simpa using this]
end Go.Proofs.Ytalgkokgaibloaa
