/-
  Layer 5 (ring): contracts of the code, at bool.
-/
import Derived.Test.YtlfebfgdgjaidaaRows
import Derived.Test.YtlfebfgdgjaidaaRgM
import Derived.StillTailTactics
import Derived.RegionTactic
import Derived.Deep.QuietTactic
import Derived.BigQuiet
namespace Go.Proofs.Ytlfebfgdgjaidaa
open Go.RowKit
set_option linter.unusedVariables false

/-- Elements as cells. -/
def rowB (ys : List Bool) : Array Value := (ys.map fun x => Value.bool x).toArray
theorem get_rowB (ys : List Bool) (k : Nat) : (rowB ys)[k]? = (ys[k]?).map fun x => Value.bool x := by simp [rowB]
theorem set_rowB (ys : List Bool) (k : Nat) (x : Bool) : (rowB ys).setIfInBounds k (.bool x) = rowB (ys.set k x) := by
  apply Array.ext_getElem?
  intro i
  rw [Array.getElem?_setIfInBounds, get_rowB, get_rowB, List.getElem?_set]
  by_cases h : k = i
  · subst h
    by_cases h' : k < ys.length <;> simp [h', rowB]
  · simp [h]
theorem made_rowB (n : Nat) : madeCells (Value.bool false).cells n = rowB (List.replicate n false) := by
  apply Array.toList_inj.1
  show (madeCells #[Value.bool false] n).toList = _
  rw [toList_madeCells_one]
  simp [rowB]

theorem Try.infoB : (Try.prog.info? 4).map (fun i => (i.zero, i.size, i.bytes)) = some (some (.bool false), 1, 1) := by kernel_rfl

/-- A ring: its struct at block g, its tokens at c, its elements at m (none so far: A is nil). -/
structure RingB (w : World) (g c : Nat) (A : Option Addr) (m most n f : Nat) (ys q : List Bool) (l : Nat) : Prop where
  blk : Blk w g 88 #[.chan (some c), .slice A n n, .int .i64 (f : Nat)]
  chn : Chn w c most l
  mem : (n = 0 ∧ A = none ∧ m = g) ∨ (0 < n ∧ A = some ⟨m, 0, none⟩ ∧ Blk w m 4 (rowB ys))
  len : ys.length = n
  lay : Lay ys f q
  fit : n ≤ most
  most : 1 ≤ most ∧ most ≤ 1048576
section
variable {w w' : World} {g c : Nat} {A : Option Addr} {m most n f l : Nat} {ys q : List Bool} {S : List Nat}
theorem RingB.tw (h : RingB w g c A m most n f ys q l) (ht : Tw S w w') (hg : g ∉ S) (hc : c ∉ S) (hm : m ∉ S) : RingB w' g c A m most n f ys q l :=
  ⟨h.blk.tw ht hg, h.chn.tw ht hc, h.mem.imp id fun ⟨p, a, b⟩ => ⟨p, a, b.tw ht hm⟩, h.len, h.lay, h.fit, h.most⟩
theorem RingB.below (h : RingB w g c A m most n f ys q l) (hb : Below w.heap.size w w') : RingB w' g c A m most n f ys q l := h.tw (Tw.of_below hb []) (by simp) (by simp) (by simp)
theorem RingB.drewN (h : RingB w g c A m most n f ys q l) (k : Nat) : RingB (w.drewN k) g c A m most n f ys q l := h.tw ((Tw.refl [] w).drewN k) (by simp) (by simp) (by simp)
theorem RingB.dr (h : RingB w g c A m most n f ys q l) : RingB w.drew g c A m most n f ys q l := h.drewN 1
theorem RingB.c0 (h : RingB w g c A m most n f ys q l) : w.cell? ⟨g, 0, none⟩ = some (.chan (some c)) := (h.blk.cell 0).trans rfl
theorem RingB.c1 (h : RingB w g c A m most n f ys q l) : w.cell? ⟨g, 1, none⟩ = some (.slice A n n) := (h.blk.cell 1).trans rfl
theorem RingB.c2 (h : RingB w g c A m most n f ys q l) : w.cell? ⟨g, 2, none⟩ = some (.int .i64 (f : Nat)) := (h.blk.cell 2).trans rfl
theorem RingB.fz (h : RingB w g c A m most n f ys q l) (i : Nat) : w.frozen? ⟨g, i, none⟩ = false := h.blk.frozen i
theorem RingB.ql (h : RingB w g c A m most n f ys q l) : q.length ≤ n := by rw [← h.len]; exact h.lay.le
theorem RingB.some_ (h : RingB w g c A m most n f ys q l) (hn : 0 < n) : A = some ⟨m, 0, none⟩ ∧ Blk w m 4 (rowB ys) := by
  rcases h.mem with ⟨e, _⟩ | h
  · omega
  · exact h.2
theorem RingB.lt (h : RingB w g c A m most n f ys q l) : g < w.heap.size ∧ c < w.heap.size ∧ m < w.heap.size := by
  refine ⟨h.blk.lt, h.chn.lt, ?_⟩
  rcases h.mem with ⟨_, _, rfl⟩ | ⟨_, _, hb⟩
  · exact h.blk.lt
  · exact hb.lt
theorem RingB.ne (h : RingB w g c A m most n f ys q l) : g ≠ c ∧ m ≠ c ∧ (0 < n → g ≠ m) := by
  refine ⟨h.chn.ne h.blk, ?_, fun hn => h.blk.ne_ (h.some_ hn).2 (by decide)⟩
  rcases h.mem with ⟨_, _, rfl⟩ | ⟨_, _, hb⟩
  · exact h.chn.ne h.blk
  · exact h.chn.ne hb
theorem RingB.len_ (h : RingB w g c A m most n f ys q l) (ty : TypeId) : (Builtin.len_ #[76] ty #[.chan (some c)]).run Try.prog w = .ok (.int .i64 (l : Nat)) w := by
  obtain ⟨s, r, buf, hc, hb⟩ := h.chn
  rw [← hb]
  exact Conc.run_len_chan (P := Try.prog) 76 ty Try.underlying76 hc
theorem RingB.cap_ (h : RingB w g c A m most n f ys q l) (ty : TypeId) : (Builtin.cap_ #[76] ty #[.chan (some c)]).run Try.prog w = .ok (.int .i64 (most : Nat)) w := by
  obtain ⟨s, r, buf, hc, hb⟩ := h.chn
  exact Conc.run_cap_chan (P := Try.prog) 76 ty Try.underlying76 hc
end

theorem newB_any (most : Nat) (w : World) (hm : 1 ≤ most ∧ most ≤ 1048576) :
    Calls Try.prog 32 #[.int .i64 (most : Nat)] w fun e w' => e = .returned (.tuple #[.pointer (some ⟨w.heap.size + 1, 0, none⟩), .int .i64 0]) ∧ RingB w' (w.heap.size + 1) w.heap.size none (w.heap.size + 1) most 0 0 [] [] 0 ∧ Below w.heap.size w w' := by
  have hm' := hm
  obtain ⟨h1, h2⟩ := hm
  have hmc := mkChan_any most w h2
  have H2 := Lib.hid hm'
  clear hm'
  go_enter Try.func32, Try.ntmps32
  go_wp2
  go_ret2
  refine ⟨by simp, ⟨?_, ⟨0, 0, #[], ?_, rfl⟩, .inl ⟨rfl, rfl, rfl⟩, rfl, Lay.nil, Nat.zero_le _, H2.out⟩, (below_new w _).trans ((below_new _ _).mono (by simp))⟩
  · have := Blk.new (w.alloc (.chan most #[] false 0 0 false)) 88 #[.chan (some w.heap.size), .slice none 0 0, .int .i64 0]
    simpa using this
  · rw [Below.heap_alloc _ _ _ (by simp)]
    exact heap_alloc_new w _
theorem newB_err (most : Int) (w : World) (hm : most < 1 ∨ 1048576 < most) :
    Calls Try.prog 32 #[.int .i64 most] w fun e w' => e = .returned (.tuple #[.pointer none, .int .i64 1]) ∧ w = w' := by
  have hb : (decide (most < 1) || decide (1048576 < most)) = true := by simpa using hm
  rcases hm with hm | hm
  all_goals
    go_enter Try.func32, Try.ntmps32
    go_wp2
    go_ret2
    exact ⟨rfl, rfl⟩

section
variable {w w' : World} {g c : Nat} {A : Option Addr} {m most n f l p : Nat} {ys q : List Bool}
theorem lenB_any (h : RingB w g c A m most n f ys q l) :
    Calls Try.prog 33 #[.pointer (some ⟨g, 0, none⟩)] w fun e w' => e = .returned (.int .i64 (l : Nat)) ∧ w = w' := by
  have c0 := h.c0
  have hl := h.len_
  go_enter Try.func33, Try.ntmps33
  go_wp2
  go_ret
  exact ⟨rfl, rfl⟩
theorem lenB_nil (w : World) :
    Calls Try.prog 33 #[.pointer none] w fun e w' => e = .returned (.int .i64 0) ∧ w = w' := by
  go_enter Try.func33, Try.ntmps33
  go_wp2
  go_ret
  exact ⟨rfl, rfl⟩
theorem roomB_any (h : RingB w g c A m most n f ys q l) (hl : l ≤ most) :
    Calls Try.prog 34 #[.pointer (some ⟨g, 0, none⟩)] w fun e w' => e = .returned (.int .i64 ((most : Int) - l)) ∧ ∃ k, w' = w.drewN k := by
  have c0 := h.c0
  have hlen := fun ty k => (h.drewN k).len_ ty
  have hcap := fun ty k => (h.drewN k).cap_ ty
  have hmost := h.most.2
  go_enter Try.func34, Try.ntmps34
  go_wp2
  go_quiet (fail)
  go_wp2
  go_ret
  exact ⟨rfl, _, rfl⟩
theorem roomB_nil (w : World) :
    Calls Try.prog 34 #[.pointer none] w fun e w' => e = .returned (.int .i64 0) ∧ w = w' := by
  go_enter Try.func34, Try.ntmps34
  go_wp2
  go_ret
  exact ⟨rfl, rfl⟩
end

end Go.Proofs.Ytlfebfgdgjaidaa
