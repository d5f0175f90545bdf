/-
  Layer 5 (ring): contracts of the reference: New, Push, Pop, At.
-/
import Derived.Test.YtlfebfgdgjaidaaRgS
import Derived.Test.YtlfebfgdgjaidaaOi
import Derived.ArgAppend
import Derived.Maps.AppendAt
namespace Go.Proofs.Ytlfebfgdgjaidaa
open Go.RowKit
set_option linter.unusedVariables false

/-- The reference's ring: its struct at block h, its list somewhere in block b (none so far: b is h). -/
structure RefQ (w : World) (h : Nat) (A : Option Addr) (b n c most : Nat) (l : List ByteArray) : Prop where
  blk : Blk w h 39 #[.int .i64 (most : Nat), .slice A n c]
  len : l.length = n
  cap : n ≤ c ∧ c ≤ maxLen
  mem : (A = none ∧ n = 0 ∧ c = 0 ∧ b = h) ∨ ∃ o cs, A = some ⟨b, o, none⟩ ∧ Blk w b 9 cs ∧ o + c ≤ cs.size ∧ ∀ j, j < n → cs[o + j]? = (l[j]?).map Value.string
  le : n ≤ most
  most : most ≤ 1048576
section
variable {w w' : World} {h : Nat} {A : Option Addr} {b n c most : Nat} {l : List ByteArray} {S : List Nat} {x : ByteArray}
theorem RefQ.tw (q : RefQ w h A b n c most l) (ht : Tw S w w') (hh : h ∉ S) (hb : b ∉ S) : RefQ w' h A b n c most l :=
  ⟨q.blk.tw ht hh, q.len, q.cap, q.mem.imp id fun ⟨o, cs, e1, e2, e3⟩ => ⟨o, cs, e1, e2.tw ht hb, e3⟩, q.le, q.most⟩
theorem RefQ.below (q : RefQ w h A b n c most l) (hb : Below w.heap.size w w') : RefQ w' h A b n c most l := q.tw (Tw.of_below hb []) (by simp) (by simp)
theorem RefQ.drewN (q : RefQ w h A b n c most l) (k : Nat) : RefQ (w.drewN k) h A b n c most l := q.tw ((Tw.refl [] w).drewN k) (by simp) (by simp)
theorem RefQ.c0 (q : RefQ w h A b n c most l) : w.cell? ⟨h, 0, none⟩ = some (.int .i64 (most : Nat)) := (q.blk.cell 0).trans rfl
theorem RefQ.c1 (q : RefQ w h A b n c most l) : w.cell? ⟨h, 1, none⟩ = some (.slice A n c) := (q.blk.cell 1).trans rfl
theorem RefQ.fz (q : RefQ w h A b n c most l) (i : Nat) : w.frozen? ⟨h, i, none⟩ = false := q.blk.frozen i
theorem RefQ.lt (q : RefQ w h A b n c most l) : h < w.heap.size ∧ b < w.heap.size := by
  refine ⟨q.blk.lt, ?_⟩
  rcases q.mem with ⟨_, _, _, rfl⟩ | ⟨o, cs, _, e, _⟩
  · exact q.blk.lt
  · exact e.lt
theorem RefQ.some_ (q : RefQ w h A b n c most l) (hn : 0 < n) : ∃ o cs, A = some ⟨b, o, none⟩ ∧ Blk w b 9 cs ∧ o + c ≤ cs.size ∧ ∀ j, j < n → cs[o + j]? = (l[j]?).map Value.string := by
  rcases q.mem with ⟨_, e, _⟩ | h
  · omega
  · exact h
theorem RefQ.cell (q : RefQ w h A b n c most l) (j : Nat) (hj : j < l.length) : ∃ o, A = some ⟨b, o, none⟩ ∧ w.cell? ⟨b, o + j, none⟩ = some (.string l[j]) := by
  have hn := q.len
  obtain ⟨o, cs, e1, e2, e3, e4⟩ := q.some_ (by omega)
  exact ⟨o, e1, by rw [e2.cell, e4 j (by omega), List.getElem?_eq_getElem hj]; rfl⟩

theorem refNew_any (most : Nat) (w : World) (hm : 1 ≤ most ∧ most ≤ 1048576) :
    Calls Try.prog 12 #[.int .i64 (most : Nat)] w fun e w' => e = .returned (.tuple #[.pointer (some ⟨w.heap.size, 0, none⟩), .int .i64 0]) ∧ RefQ w' w.heap.size none w.heap.size 0 0 most [] ∧ Below w.heap.size w w' := by
  obtain ⟨h1, h2⟩ := hm
  go_enter Try.func12, Try.ntmps12
  go_wp2
  go_ret2
  refine ⟨rfl, ⟨?_, rfl, ⟨Nat.le_refl _, Nat.zero_le _⟩, .inl ⟨rfl, rfl, rfl, rfl⟩, Nat.zero_le _, by omega⟩, below_new w _⟩
  have := Blk.new w 39 #[.int .i64 (most : Nat), .slice none 0 0]
  simpa using this
theorem refNew_err (most : Int) (w : World) (hm : most < 1 ∨ 1048576 < most) :
    Calls Try.prog 12 #[.int .i64 most] w fun e w' => e = .returned (.tuple #[.pointer none, .int .i64 1]) ∧ w = w' := by
  have hb : (decide (most < 1) || decide (1048576 < most)) = true := by simpa using hm
  rcases hm with hm | hm
  all_goals
    go_enter Try.func12, Try.ntmps12
    go_wp2
    go_ret2
    exact ⟨rfl, rfl⟩

theorem refPop_none (q : RefQ w h A b n c most []) :
    Calls Try.prog 16 #[.pointer (some ⟨h, 0, none⟩)] w fun e w' => e = .returned (.tuple #[.string { data := #[] }, .bool false]) ∧ w = w' := by
  have hn := q.len
  simp only [List.length_nil] at hn
  subst hn
  have c1 := q.c1
  go_enter Try.func16, Try.ntmps16
  go_wp2
  go_ret2
  exact ⟨rfl, rfl⟩
/-- What is left behind the first. -/
theorem refPop_end {o : Nat} (q : RefQ w h (some ⟨b, o, none⟩) b n c most (x :: l)) (A' : Option Addr) (hA : A' = if c = 1 then some ⟨b, o, none⟩ else some ⟨b, o + 1, none⟩) (hbh : b ≠ h) :
    RefQ (w.setCell ⟨h, 1, none⟩ (.slice A' (n - 1) (c - 1))) h A' b (n - 1) (c - 1) most l := by
  have hl := q.len
  simp only [List.length_cons] at hl
  have hc := q.cap
  obtain ⟨o', cs, e1, e2, e3, e4⟩ := q.some_ (by omega)
  injection e1 with e1
  injection e1 with _ e1
  subst e1
  have ht : Tw [h] w (w.setCell ⟨h, 1, none⟩ (.slice A' (n - 1) (c - 1))) := Tw.setCell w _ _ (by simp)
  have hle := q.le
  refine ⟨?_, by omega, by omega, .inr ⟨if c = 1 then o else o + 1, cs, by rw [hA]; split <;> rfl, e2.tw ht (by simpa using hbh), by split <;> omega, fun j hj => ?_⟩, by omega, q.most⟩
  · have := q.blk.set_ 1 (.slice A' (n - 1) (c - 1))
    simpa using this
  · rw [if_neg (by omega), show o + 1 + j = o + (j + 1) by omega, e4 (j + 1) (by omega)]
    rfl
theorem RefQ.bh (q : RefQ w h A b n c most l) (hA : A ≠ none) : b ≠ h := by
  rcases q.mem with ⟨e, _⟩ | ⟨o, cs, _, e, _⟩
  · exact absurd e hA
  · exact e.ne_ q.blk (by decide)
set_option maxHeartbeats 800000 in
theorem refPop_some (q : RefQ w h A b n c most (x :: l)) :
    Calls Try.prog 16 #[.pointer (some ⟨h, 0, none⟩)] w fun e w' => e = .returned (.tuple #[.string x, .bool true]) ∧ ∃ A' n' c', RefQ w' h A' b n' c' most l ∧ Tw [h] w w' := by
  have hl := q.len
  simp only [List.length_cons] at hl
  have hcap := q.cap
  have hle := q.le
  have hm := q.most
  obtain ⟨o, hA, hx⟩ := q.cell 0 (by simp)
  subst hA
  have hbh := q.bh (by simp)
  have c1 := q.c1
  have f1 := q.fz 1
  simp only [List.getElem_cons_zero, Nat.add_zero] at hx
  have hn0 : ((n : Int) == 0) = false := by rw [beq_eq_false_iff_ne]; omega
  have hn1 : (0 : Int) < (n : Int) := by omega
  have h1n : 1 ≤ n := by omega
  have h1c : 1 ≤ c := by omega
  unfold maxLen at hcap
  rcases (show c = 1 ∨ c ≠ 1 by omega) with hc1 | hc1
  · have HR := Lib.hid (refPop_end q (some ⟨b, o, none⟩) (by rw [if_pos hc1]) hbh)
    have HT := Lib.hid (Tw.setCell w ⟨h, 1, none⟩ (.slice (some ⟨b, o, none⟩) (n - 1) (c - 1)) (S := [h]) (by simp))
    obtain rfl : n = 1 := by omega
    subst hc1
    clear q hl
    go_enter Try.func16, Try.ntmps16
    go_wp2_with fail
    go_ret2
    exact ⟨rfl, _, _, _, HR.out, HT.out⟩
  · have HR := Lib.hid (refPop_end q (some ⟨b, o + 1, none⟩) (by rw [if_neg hc1]) hbh)
    have HT := Lib.hid (Tw.setCell w ⟨h, 1, none⟩ (.slice (some ⟨b, o + 1, none⟩) (n - 1) (c - 1)) (S := [h]) (by simp))
    have hc1' : ¬ c = 1 := hc1
    clear q hl
    go_enter Try.func16, Try.ntmps16
    go_wp2_with fail
    go_ret2
    exact ⟨rfl, _, _, _, HR.out, HT.out⟩

theorem refAt_no (i : Int) (q : RefQ w h A b n c most l) (hi : i < 0 ∨ ((l.length : Nat) : Int) ≤ i) :
    Calls Try.prog 18 #[.pointer (some ⟨h, 0, none⟩), .int .i64 i] w fun e w' => e = .returned (.tuple #[.string { data := #[] }, .bool false]) ∧ w = w' := by
  have c1 := q.c1
  rw [q.len] at hi
  rcases (show i < 0 ∨ (0 ≤ i ∧ (n : Int) ≤ i) by omega) with hi | ⟨hi0, hi⟩
  · go_enter Try.func18, Try.ntmps18
    go_wp2_with fail
    go_ret2
    exact ⟨rfl, rfl⟩
  · have hd0 : decide (i < 0) = false := decide_eq_false (by omega)
    have hd1 : decide ((n : Int) ≤ i) = true := decide_eq_true (by omega)
    go_enter Try.func18, Try.ntmps18
    go_wp2_with fail
    go_ret2
    exact ⟨rfl, rfl⟩
theorem refAt_any (i : Nat) (q : RefQ w h A b n c most l) (hi : i < l.length) :
    Calls Try.prog 18 #[.pointer (some ⟨h, 0, none⟩), .int .i64 (i : Nat)] w fun e w' => e = .returned (.tuple #[.string l[i], .bool true]) ∧ w = w' := by
  obtain ⟨o, hA, hx⟩ := q.cell i hi
  subst hA
  have c1 := q.c1
  have hn := q.len
  have hin : i < n := by omega
  have hd0 : decide ((i : Int) < 0) = false := decide_eq_false (by omega)
  have hd1 : decide ((n : Int) ≤ (i : Int)) = false := decide_eq_false (by omega)
  obtain ⟨x, hxe⟩ : ∃ x, x = l[i] := ⟨_, rfl⟩
  rw [← hxe] at hx ⊢
  clear hxe hn
  go_enter Try.func18, Try.ntmps18
  go_wp2_with fail
  go_ret2
  exact ⟨rfl, rfl⟩
end
end Go.Proofs.Ytlfebfgdgjaidaa
