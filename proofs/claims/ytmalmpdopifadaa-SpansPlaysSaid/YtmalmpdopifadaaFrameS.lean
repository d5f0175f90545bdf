/-
  What the frame of SpansPlays needs: an argument's steps.
-/
import Derived.Test.YtmalmpdopifadaaFrameI
import Derived.Test.YtmalmpdopifadaaSpP
import Derived.Deep.Slices
import Derived.Deep.Fields
namespace Go.Proofs.Ytmalmpdopifadaa
open Go.ChangeShapes Go.WideShapes Go.ChangeAt Go.RowKit Go.Deep
set_option linter.unusedVariables false

/-- The number that a cell holds. -/
def numAt (w : World) (a : Addr) : Int := match w.cell? a with
  | some (.int _ x) => x
  | _ => 0
theorem numAt_is {w : World} {a : Addr} {k : IntKind} {x : Int} (h : w.cell? a = some (.int k x)) : numAt w a = x := by unfold numAt; rw [h]

theorem field_of {H : Type} {enc : TypeId × Value → H} {P : Program} {W : World} {fs : Array Field} {e : TypeId} {cs' : List Value} {y : DataW H × List MemPlace} {m : Nat} {a : Addr}
    (hs : P.underlying e = some (.struct fs)) (hone : oneCellFields P fs = true) (hcl : cs'.length = fs.size) (hat : ∀ i, i < fs.size → W.cell? (a.add i) = cs'[i]?) (h : DataW.trod enc P W 0 (fun _ => true) true m e cs' = some y)
    (j : Nat) (f : Field) (hj : fs[j]? = some f) (q : IntKind) (hq : P.underlying f.type = some (.int q)) : ∃ x : Int, W.cell? (a.add j) = some (.int q x) ∧ (Lit.int q x).wf = true := by
  obtain ⟨ys, n', _, _, _, hyl, hf⟩ := DataW.trod_struct hs h
  obtain ⟨ho, hk⟩ := hone_of hone j f hj
  have hjl : j < fs.size := (Array.getElem?_eq_some_iff.1 hj).1
  have h1 := hf j f hj
  rw [ho, hk] at h1
  have hone' : (cs'.drop j).take 1 = [cs'[j]'(by omega)] := by
    rw [List.drop_eq_getElem_cons (by omega)]
    rfl
  have hys : ys[j]? = some (ys[j]'(by omega)) := List.getElem?_eq_getElem (by omega)
  rw [hone', hys] at h1
  obtain ⟨x, hx, _, hw⟩ := DataW.trod_int hq h1
  injection hx with hx
  refine ⟨x, ?_, hw⟩
  rw [hat j hjl, List.getElem?_eq_getElem (by omega), hx]

/-- A slice of steps that came in. -/
theorem arg_steps {H : Type} {enc : TypeId × Value → H} {P : Program} {W : World} {t e : TypeId} {f0 f1 f2 : Field} {A : Option Addr} {n c : Nat} {d : DataW H} {p : List MemPlace}
    (ht : P.underlying t = some (.slice e)) (hs : P.underlying e = some (.struct #[f0, f1, f2])) (hone : oneCellFields P #[f0, f1, f2] = true) (hC : P.cellsOf e = 3)
    (h0 : P.underlying f0.type = some (.int .i64)) (h1 : P.underlying f1.type = some (.int .u32)) (h2 : P.underlying f2.type = some (.int .i64)) (h : DataW.Trod enc P W 0 (fun _ => true) true t (.slice A n c) d p) :
    ∃ L : List (Int × Int × Int), n ≤ c ∧ c ≤ maxLen ∧ L.length = n ∧ Rst W W.heap.size A L ∧ ∀ s ∈ L, (Lit.int .i64 s.1).wf = true ∧ (Lit.int .u32 s.2.1).wf = true ∧ (Lit.int .i64 s.2.2).wf = true := by
  obtain ⟨fuel, hf⟩ := h
  rcases open_slice ht hf with ⟨hcs, _⟩ | ⟨a, len, cap, m, n', D, Pl, hcs, hb, hl, hm, hmm, hx, hi⟩
  · simp [Value.cells] at hcs
    obtain ⟨rfl, rfl, rfl⟩ := hcs
    exact ⟨[], Nat.le_refl _, Nat.zero_le _, rfl, .inl rfl, fun s hs => by cases hs⟩
  · simp [Value.cells] at hcs
    obtain ⟨rfl, rfl, rfl⟩ := hcs
    have hmm' : m = c := by simpa using hmm
    have key : ∀ i, i < n → ∀ (j : Nat) (f : Field), (#[f0, f1, f2] : Array Field)[j]? = some f → ∀ q, P.underlying f.type = some (.int q) → ∃ x : Int, W.cell? (a.add (i * 3 + j)) = some (.int q x) ∧ (Lit.int q x).wf = true := by
      intro i hin j f hj q hq
      obtain ⟨cs', hc, ht'⟩ := hi i (by omega)
      rw [hC] at hc
      obtain ⟨_, hcl, hat⟩ := World.cells?_some hc
      obtain ⟨x, hx, hw⟩ := field_of hs hone (by rw [hcl]; rfl) (fun i' hi' => hat i' hi') ht' j f hj q hq
      exact ⟨x, by rw [← add_add]; exact hx, hw⟩
    refine ⟨(List.range n).map fun i => (numAt W (a.add (i * 3 + 0)), numAt W (a.add (i * 3 + 1)), numAt W (a.add (i * 3 + 2))), hl, hm, by simp, ?_, fun s hs => ?_⟩
    · by_cases hn0 : n = 0
      · subst hn0; exact .inl (by simp)
      · obtain ⟨b, off, spot⟩ := a
        obtain ⟨x00, h00, _⟩ := key 0 (by omega) 0 f0 rfl .i64 h0
        have hspot : spot = none := by simpa [Addr.add] using World.cell?_spot h00
        subst hspot
        have hblt := World.block_lt_of_cell? W _ h00
        refine .inr ⟨b, off, rfl, by simpa [Addr.add] using hblt, fun j s hs => ?_⟩
        rw [List.getElem?_map, Option.map_eq_some_iff] at hs
        obtain ⟨i, hi', rfl⟩ := hs
        have hjn : j < n := by
          rcases Nat.lt_or_ge j n with hlt | hge
          · exact hlt
          · rw [List.getElem?_eq_none (by simpa using hge)] at hi'; cases hi'
        rw [List.getElem?_range hjn] at hi'
        injection hi' with hi'
        subst hi'
        obtain ⟨x0, e0, _⟩ := key j hjn 0 f0 rfl .i64 h0
        obtain ⟨x1, e1, _⟩ := key j hjn 1 f1 rfl .u32 h1
        obtain ⟨x2, e2, _⟩ := key j hjn 2 f2 rfl .i64 h2
        rw [numAt_is e0, numAt_is e1, numAt_is e2]
        rw [Addr.add_lit] at e0 e1 e2
        exact ⟨e0, e1, e2⟩
    · obtain ⟨i, hi', rfl⟩ := List.mem_map.1 hs
      have hin := List.mem_range.1 hi'
      obtain ⟨x0, e0, w0⟩ := key i hin 0 f0 rfl .i64 h0
      obtain ⟨x1, e1, w1⟩ := key i hin 1 f1 rfl .u32 h1
      obtain ⟨x2, e2, w2⟩ := key i hin 2 f2 rfl .i64 h2
      rw [numAt_is e0, numAt_is e1, numAt_is e2]
      exact ⟨w0, w1, w2⟩

theorem spansPlays_walk (base : Int) (A : Option Addr) (n c : Nat) (L : List (Int × Int × Int)) (w : World) (w0 : (Lit.int .u32 base).wf = true) (h1 : n ≤ c) (h2 : c ≤ maxLen) (hn : L.length = n) (hr : Rst w w.heap.size A L)
    (hx : ∀ s ∈ L, (Lit.int .i64 s.1).wf = true ∧ (Lit.int .u32 s.2.1).wf = true ∧ (Lit.int .i64 s.2.2).wf = true) :
    Calls Try.prog 3 #[.int .u32 base, .slice A n c] w fun e w' => e = .returned (.bool true) ∧ Below w.heap.size w w' := by
  by_cases h : 200 < n
  · exact spansPlays_big base A n c w h (Nat.le_trans h1 h2)
  · exact spansPlays_small base A n c L w hn (by omega) hr (fun s hs => ⟨u32_in (hx s hs).2.1, i64_in (hx s hs).2.2⟩) (u32_in w0)
end Go.Proofs.Ytmalmpdopifadaa
