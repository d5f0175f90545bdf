/-
  What the frames of the statements share: an argument's bytes.
-/
import Derived.Test.YtlkppgdeaphoeaaMem
import Derived.ProofKit
import Derived.OpenShut
import Derived.ShutString
import Derived.ChangeOld
import Derived.Lib.SmallJoins
namespace Go.Proofs.Ytlkppgdeaphoeaa
open Go.ChangeShapes Go.WideShapes Go.ChangeAt Go.RowKit
set_option linter.unusedVariables false

/-- A slice of bytes that came in: its bytes, and how it reads. -/
theorem arg_bytes {H : Type} {enc : TypeId × Value → H} {P : Program} {W : World} {t e : TypeId} {A : Option Addr} {n c : Nat} {d : DataW H} {p : List MemPlace}
    (ht : P.underlying t = some (.slice e)) (he : P.underlying e = some (.int .u8)) (hc : P.cellsOf e = 1) (h : DataW.Trod enc P W 0 (fun _ => true) true t (.slice A n c) d p) :
    ∃ xs : List UInt8, n ≤ c ∧ c ≤ maxLen ∧ xs.length = n ∧ Rd W W.heap.size A xs := by
  obtain ⟨fuel, hf⟩ := h
  rcases open_ints ht he hc hf with ⟨hcs, _⟩ | ⟨x, l, c', zs, hcs, _, hl, hm, hz, _, hcell, hwz⟩
  · simp [Value.cells] at hcs
    obtain ⟨rfl, rfl, rfl⟩ := hcs
    exact ⟨[], Nat.le_refl _, Nat.zero_le _, rfl, Rd.nil _ _ _⟩
  · simp [Value.cells] at hcs
    obtain ⟨rfl, rfl, rfl⟩ := hcs
    have hz : zs.length = c := by simpa using hz
    refine ⟨(zs.take n).map fun z => UInt8.ofNat z.toNat, hl, hm, by simp; omega, ?_⟩
    by_cases h0 : n = 0
    · subst h0; exact .inl (by simp)
    · obtain ⟨b, off, spot⟩ := x
      have h00 := hcell 0 (by omega)
      have hspot : spot = none := by simpa [Addr.add] using World.cell?_spot h00
      subst hspot
      have hb := World.block_lt_of_cell? W _ h00
      refine .inr ⟨b, off, rfl, by simpa [Addr.add] using hb, fun j x hx => ?_⟩
      rw [List.getElem?_map, Option.map_eq_some_iff] at hx
      obtain ⟨z, hz', rfl⟩ := hx
      rw [List.getElem?_take] at hz'
      split at hz'
      · have hjl : j < zs.length := by omega
        have hcj := hcell j hjl
        rw [Addr.add_lit] at hcj
        rw [hcj]
        have hzj : zs.getD j 0 = z := by simp [List.getD, hz']
        rw [hzj]
        have hw := hwz z (List.mem_of_getElem? hz')
        have hbd : 0 ≤ z ∧ z ≤ 255 := by simpa [Lit.wf, IntKind.min, IntKind.max, IntKind.signed, IntKind.bits] using hw
        congr 2
        rw [UInt8.toNat_ofNat']
        omega
      · cases hz'

/-- A slice of bytes in a field. -/
theorem field_bytes {H : Type} {enc : TypeId × Value → H} {P : Program} {W : World} {t e : TypeId} {m : Nat} {v : Value} {y : DataW H × List MemPlace}
    (ht : P.underlying t = some (.slice e)) (he : P.underlying e = some (.int .u8)) (hc : P.cellsOf e = 1) (h : DataW.trod enc P W 0 (fun _ => true) true m t [v] = some y) :
    ∃ (A : Option Addr) (n c : Nat) (xs : List UInt8), v = .slice A n c ∧ n ≤ c ∧ c ≤ maxLen ∧ xs.length = n ∧ Rd W W.heap.size A xs := by
  have hv : ∃ (A : Option Addr) (n c : Nat), v = .slice A n c := by
    rcases open_ints ht he hc h with ⟨hcs, _⟩ | ⟨x, l, c', zs, hcs, _⟩
    · injection hcs with hcs; exact ⟨_, _, _, hcs⟩
    · injection hcs with hcs; exact ⟨_, _, _, hcs⟩
  obtain ⟨A, n, c, rfl⟩ := hv
  obtain ⟨xs, h1, h2, h3, h4⟩ := arg_bytes (d := y.1) (p := y.2) ht he hc ⟨m, by simpa [Value.cells] using h⟩
  exact ⟨A, n, c, xs, rfl, h1, h2, h3, h4⟩
/-- An integer in a field. -/
theorem field_int {H : Type} {enc : TypeId × Value → H} {P : Program} {W : World} {t : TypeId} {k : IntKind} {m : Nat} {v : Value} {y : DataW H × List MemPlace}
    (ht : P.underlying t = some (.int k)) (h : DataW.trod enc P W 0 (fun _ => true) true m t [v] = some y) : ∃ a : Int, v = .int k a ∧ (Lit.int k a).wf = true := by
  obtain ⟨a, e0, _, wa⟩ := DataW.trod_int ht h
  injection e0 with e0
  exact ⟨a, e0, wa⟩
theorem field_bool {H : Type} {enc : TypeId × Value → H} {P : Program} {W : World} {t : TypeId} {m : Nat} {v : Value} {y : DataW H × List MemPlace}
    (ht : P.underlying t = some .bool) (h : DataW.trod enc P W 0 (fun _ => true) true m t [v] = some y) : ∃ a : Bool, v = .bool a := by
  obtain ⟨a, e0, _⟩ := DataW.trod_bool ht h
  injection e0 with e0
  exact ⟨a, e0⟩
end Go.Proofs.Ytlkppgdeaphoeaa
