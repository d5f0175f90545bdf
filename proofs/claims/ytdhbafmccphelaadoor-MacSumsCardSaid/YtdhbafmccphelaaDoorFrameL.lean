/-
  The frame of a law whose row lists what start-up lays: the door's own heap meets the condition; what the condition gives.
-/
import Derived.Test.YtdhbafmccphelaaDoorFrame
import Derived.Test.YtdhbafmccphelaaDoorTie
import Derived.Test.YtdhbafmccphelaaDoorCards
import Derived.Test.YtdhbafmccphelaaDoorShaB
import Derived.LaidMore
import Derived.SevenTiedAt
import Derived.Stop.Joined
namespace Go.Proofs.YtdhbafmccphelaaDoor
open Go.ChangeShapes Go.WideShapes Go.WideMaps Go.WideElems Go.ChangeAt Go.RowKit
set_option linter.unusedVariables false
set_option maxRecDepth 100000

/-- What the rows list. -/
def laidAll : List (String × DataW Unit) := [("fairlead/sha.constants", Rows.laid_fairlead_sha_constants), ("fairlead/sha.initial", Rows.laid_fairlead_sha_initial)]
theorem door_met (os : Os) (args : Array Value) : laidMetH Tryd.prog laidAll ((World.doorLaid Tryd.prog 19 os).forCall (fun _ _ => 0) ⟨#[], args, []⟩).memory :=
  laidMetH_of_parts3 (fuel := 8) (laidMet_of_run' 8 (by kernel_rfl) (by kernel_rfl)) (by kernel_rfl) (by kernel_rfl)

/-- An array that reads as these numbers holds them. -/
theorem laid_ints {H : Type} {enc : TypeId × Value → H} {P : Program} {W : World} {b : Nat} {sp : Nat → Bool} {held : Bool} {f : Nat} {t e : TypeId} {n : Nat} {k : IntKind} {cs : List Value} {zs : List Int} {p : List MemPlace}
    (ht : P.underlying t = some (.array n e)) (he : P.underlying e = some (.int k)) (hc : P.cellsOf e = 1) (h : DataW.trod enc P W b sp held f t cs = some (.agg (zs.map fun z => DataW.lit (.int k z)), p)) :
    ∀ (i : Nat) (z : Int), zs[i]? = some z → cs[i]? = some (Value.int k z) := by
  obtain ⟨xs, m, rfl, hx, hlen, hn, hel⟩ := DataW.trod_array ht h
  simp only [Prod.mk.injEq, DataW.agg.injEq] at hx
  have hl : zs.length = n := by
    have := congrArg List.length hx.1
    simp at this
    omega
  intro i z hz
  have hi : i < n := by have := (List.getElem?_eq_some_iff.1 hz).1; omega
  have h0 := hel i hi
  rw [hc] at h0
  obtain ⟨x, hxi⟩ : ∃ x, xs[i]? = some x := ⟨xs[i], List.getElem?_eq_getElem (by omega)⟩
  rw [hxi] at h0
  obtain ⟨z', e1, e2, _⟩ := DataW.trod_int he h0
  have h1 : (xs.map (·.1))[i]? = some x.1 := by simp [hxi]
  rw [← hx.1] at h1
  simp only [List.getElem?_map, hz, Option.map_some, Option.some.injEq] at h1
  have hzz : z' = z := by
    rw [e2] at h1
    simpa using h1.symm
  subst hzz
  have := congrArg (·[0]?) e1
  simpa [List.getElem?_take, List.getElem?_drop] using this

theorem gConst : Tryd.prog.globalNamed "fairlead/sha.constants" = some 1 := by kernel_rfl
theorem gInit : Tryd.prog.globalNamed "fairlead/sha.initial" = some 0 := by kernel_rfl
theorem tConst : (Tryd.prog.globals[1]?).map (·.type) = some 57 := by kernel_rfl
theorem tInit : (Tryd.prog.globals[0]?).map (·.type) = some 41 := by kernel_rfl
theorem dConst {H : Type} : (Rows.laid_fairlead_sha_constants : DataW H) = .agg ((K.map fun x => (x.toNat : Int)).map fun z => .lit (.int .u32 z)) := by rfl
theorem dInit {H : Type} : (Rows.laid_fairlead_sha_initial : DataW H) = .agg ((H0.map fun x => (x.toNat : Int)).map fun z => .lit (.int .u32 z)) := by rfl

/-- WHAT THE CONDITION GIVES THE WALKS. -/
theorem tabs_of {W : World} (h : laidMetH Tryd.prog laidAll W) : Tabs W := by
  rw [MakeChecks.laidMetH_plain _ _ _ (by kernel_rfl)] at h
  obtain ⟨ps, ⟨g0, t0, cs0, f0, p0, q0, hg0, ht0, hv0, hd0, ⟨g1, t1, cs1, f1, p1, q1, hg1, ht1, hv1, hd1, _, _⟩, _⟩, _, _⟩ := h
  obtain rfl := Option.some.inj (gConst.symm.trans hg0)
  obtain rfl := Option.some.inj (gInit.symm.trans hg1)
  obtain rfl := Option.some.inj (tConst.symm.trans ht0)
  obtain rfl := Option.some.inj (tInit.symm.trans ht1)
  rw [dConst] at hd0
  rw [dInit] at hd1
  have k0 := laid_ints Tryd.underlying57 Tryd.underlying40 (by kernel_rfl) hd0
  have k1 := laid_ints Tryd.underlying41 Tryd.underlying40 (by kernel_rfl) hd1
  have hc0 : ∀ i x, K[i]? = some x → W.cell? ⟨1, i, none⟩ = some (rv x) := fun i x hx => by
    rw [World.var?_cell hg0 hv0 i]
    have := k0 i (x.toNat : Int) (by rw [List.getElem?_map, hx]; rfl)
    simpa using this
  refine ⟨hc0, fun i x hx => ?_, ?_⟩
  · rw [World.var?_cell hg1 hv1 i]
    have := k1 i (x.toNat : Int) (by rw [List.getElem?_map, hx]; rfl)
    simpa using this
  · have := World.block_lt_of_cell? W _ (hc0 0 _ rfl)
    exact this
end Go.Proofs.YtdhbafmccphelaaDoor
