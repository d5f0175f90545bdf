/-
  Layer 5 (ring): the code's ring and the reference's beside each other; RingPlays, walked.
-/
import Derived.Test.YtlfebfgdgjaidaaRgS
import Derived.Test.YtlfebfgdgjaidaaRgW
import Derived.Test.YtlfebfgdgjaidaaRfB
import Derived.Test.YtlfebfgdgjaidaaFrameR
import Derived.Deep.RegionWith
namespace Go.Proofs.Ytlfebfgdgjaidaa
open Go.RowKit
set_option linter.unusedVariables false

/-- The two rings hold the same: what the code has and what the reference has. -/
structure PQ (w0 w : World) (B g h most : Nat) (q : List ByteArray) : Prop where
  rings : ∃ c A m n f ys A' b n' c', RingS w g c A m most n f ys q q.length ∧ RefQ w h A' b n' c' most q ∧ m ≠ b ∧ B ≤ c ∧ B ≤ m ∧ B ≤ b
  base : B ≤ g ∧ B ≤ h
  below : Below B w0 w
  size : B ≤ w0.heap.size
section
variable {w0 w w' : World} {B g h most : Nat} {q : List ByteArray} {x : ByteArray}
theorem ref_apart {c m n f l b n' c' : Nat} {A A' : Option Addr} {ys : List ByteArray} {q' : List ByteArray} (hr : RingS w g c A m most n f ys q l) (hq : RefQ w h A' b n' c' most q') (hm : m ≠ b) : h ∉ [g, c, m] ∧ b ∉ [g, c, m] ∧ g ∉ [h, b] ∧ c ∉ [h, b] ∧ m ∉ [h, b] := by
  have e1 : g ≠ h := hr.blk.ne_ hq.blk (by decide)
  have e2 := hr.chn.ne hq.blk
  have e3 : h ≠ m := by
    rcases hr.mem with ⟨_, _, rfl⟩ | ⟨_, _, hb⟩
    · exact e1.symm
    · exact hq.blk.ne_ hb (by decide)
  have e4 : g ≠ b := by
    rcases hq.mem with ⟨_, _, _, rfl⟩ | ⟨o, cs, _, hb, _⟩
    · exact e1
    · exact hr.blk.ne_ hb (by decide)
  have e5 : b ≠ c := by
    rcases hq.mem with ⟨_, _, _, rfl⟩ | ⟨o, cs, _, hb, _⟩
    · exact e2
    · exact hr.chn.ne hb
  simp
  omega
/-- Both have turned: first the code's, then the reference's. -/
theorem PQ.drewN (p : PQ w0 w B g h most q) (k : Nat) : PQ w0 (w.drewN k) B g h most q := by
  obtain ⟨⟨c, A, m, n, f, ys, A', b, n', c', hr, hq, hm, b1, b2, b3⟩, h1, h2, h3⟩ := p
  exact ⟨⟨c, A, m, n, f, ys, A', b, n', c', hr.drewN k, hq.drewN k, hm, b1, b2, b3⟩, h1, below_drewN h2 k, h3⟩
theorem PQ.le (p : PQ w0 w B g h most q) : q.length ≤ most := by
  obtain ⟨⟨c, A, m, n, f, ys, A', b, n', c', hr, hq, hm, b1, b2, b3⟩, h1, h2, h3⟩ := p
  exact Nat.le_trans hr.ql hr.fit

/-- Half way: the code's ring has turned to q', the reference's has not. -/
structure PH (w0 w : World) (B g h most : Nat) (q' q : List ByteArray) : Prop where
  rings : ∃ c A m n f ys A' b n' c', RingS w g c A m most n f ys q' q'.length ∧ RefQ w h A' b n' c' most q ∧ m ≠ b ∧ B ≤ c ∧ B ≤ m ∧ B ≤ b
  base : B ≤ g ∧ B ≤ h
  below : Below B w0 w
  size : B ≤ w0.heap.size
theorem PH.full (p : PH w0 w B g h most q q) : PQ w0 w B g h most q := ⟨p.rings, p.base, p.below, p.size⟩
theorem PQ.half (p : PQ w0 w B g h most q) : PH w0 w B g h most q q := ⟨p.rings, p.base, p.below, p.size⟩
theorem PH.drewN {q' : List ByteArray} (p : PH w0 w B g h most q' q) (k : Nat) : PH w0 (w.drewN k) B g h most q' q := by
  obtain ⟨⟨c, A, m, n, f, ys, A', b, n', c', hr, hq, hm, b1, b2, b3⟩, h1, h2, h3⟩ := p
  exact ⟨⟨c, A, m, n, f, ys, A', b, n', c', hr.drewN k, hq.drewN k, hm, b1, b2, b3⟩, h1, below_drewN h2 k, h3⟩

theorem PH.push (x : ByteArray) (p : PH w0 w B g h most q q) (hl : q.length < most) :
    Calls Try.prog 13 #[.pointer (some ⟨g, 0, none⟩), .string x] w fun e w' => e = .returned (.bool true) ∧ PH w0 w' B g h most (q ++ [x]) q := by
  obtain ⟨⟨c, A, m, n, f, ys, A', b, n', c', hr, hq, hm, b1, b2, b3⟩, h1, h2, h3⟩ := p
  refine (pushS_room x hr hl).mono ?_
  rintro e w2 ⟨rfl, A2, m2, n2, f2, ys2, hr2, hm2, ht⟩
  obtain ⟨d1, d2, d3, d4, d5⟩ := ref_apart hr hq hm
  have hs := h2.size
  have hlt := hq.lt
  exact ⟨rfl, ⟨c, A2, m2, n2, f2, ys2, A', b, n', c', hr2, hq.tw ht d1 d2, by omega, b1, by omega, b3⟩, h1, tw_below h2 ht (by simp; omega) h3, h3⟩
theorem PH.full_ (x : ByteArray) (p : PH w0 w B g h most q q) (hl : q.length = most) :
    Calls Try.prog 13 #[.pointer (some ⟨g, 0, none⟩), .string x] w fun e w' => e = .returned (.bool false) ∧ w = w' := by
  obtain ⟨⟨c, A, m, n, f, ys, A', b, n', c', hr, hq, hm, b1, b2, b3⟩, h1, h2, h3⟩ := p
  exact pushS_full x hr hl
theorem PH.rpush (x : ByteArray) {q' : List ByteArray} (p : PH w0 w B g h most q' q) (hl : q.length < most) :
    Calls Try.prog 14 #[.pointer (some ⟨h, 0, none⟩), .string x] w fun e w' => e = .returned (.bool true) ∧ PH w0 w' B g h most q' (q ++ [x]) := by
  obtain ⟨⟨c, A, m, n, f, ys, A', b, n', c', hr, hq, hm, b1, b2, b3⟩, h1, h2, h3⟩ := p
  refine (refPush_room x hq hl).mono ?_
  rintro e w2 ⟨rfl, A2, b', n2, c2, hq2, hb2, ht⟩
  obtain ⟨d1, d2, d3, d4, d5⟩ := ref_apart hr hq hm
  have hs := h2.size
  have hlt := hr.lt
  exact ⟨rfl, ⟨c, A, m, n, f, ys, A2, b', n2, c2, hr.tw ht d3 d4 d5, hq2, by omega, b1, b2, by omega⟩, h1, tw_below h2 ht (by simp; omega) h3, h3⟩
theorem PH.rfull (x : ByteArray) {q' : List ByteArray} (p : PH w0 w B g h most q' q) (hl : q.length = most) :
    Calls Try.prog 14 #[.pointer (some ⟨h, 0, none⟩), .string x] w fun e w' => e = .returned (.bool false) ∧ PH w0 w' B g h most q' q := by
  have p' := p
  obtain ⟨⟨c, A, m, n, f, ys, A', b, n', c', hr, hq, hm, b1, b2, b3⟩, h1, h2, h3⟩ := p
  refine (refPush_full x hq hl).mono ?_
  rintro e w2 ⟨rfl, k, rfl⟩
  exact ⟨rfl, p'.drewN k⟩
theorem PH.pop (p : PH w0 w B g h most (x :: q) (x :: q)) :
    Calls Try.prog 15 #[.pointer (some ⟨g, 0, none⟩)] w fun e w' => e = .returned (.tuple #[.string x, .bool true]) ∧ PH w0 w' B g h most q (x :: q) := by
  obtain ⟨⟨c, A, m, n, f, ys, A', b, n', c', hr, hq, hm, b1, b2, b3⟩, h1, h2, h3⟩ := p
  refine (popS_some hr).mono ?_
  rintro e w2 ⟨rfl, f2, ys2, hr2, ht⟩
  obtain ⟨d1, d2, d3, d4, d5⟩ := ref_apart hr hq hm
  exact ⟨rfl, ⟨c, A, m, n, f2, ys2, A', b, n', c', hr2, hq.tw ht d1 d2, hm, b1, b2, b3⟩, h1, tw_below h2 ht (by simp; omega) h3, h3⟩
theorem PH.rpop {q' : List ByteArray} (p : PH w0 w B g h most q' (x :: q)) :
    Calls Try.prog 16 #[.pointer (some ⟨h, 0, none⟩)] w fun e w' => e = .returned (.tuple #[.string x, .bool true]) ∧ PH w0 w' B g h most q' q := by
  obtain ⟨⟨c, A, m, n, f, ys, A', b, n', c', hr, hq, hm, b1, b2, b3⟩, h1, h2, h3⟩ := p
  refine (refPop_some hq).mono ?_
  rintro e w2 ⟨rfl, A2, n2, c2, hq2, ht⟩
  obtain ⟨d1, d2, d3, d4, d5⟩ := ref_apart hr hq hm
  have ht' := ht.sub (T := [h, b]) (by simp)
  exact ⟨rfl, ⟨c, A, m, n, f, ys, A2, b, n2, c2, hr.tw ht' d3 d4 d5, hq2, hm, b1, b2, b3⟩, h1, tw_below h2 ht' (by simp; omega) h3, h3⟩
theorem PQ.gone (p : PQ w0 w B g h most []) :
    Calls Try.prog 15 #[.pointer (some ⟨g, 0, none⟩)] w fun e w' => e = .returned (.tuple #[.string { data := #[] }, .bool false]) ∧ w = w' := by
  obtain ⟨⟨c, A, m, n, f, ys, A', b, n', c', hr, hq, hm, b1, b2, b3⟩, h1, h2, h3⟩ := p
  exact popS_none hr
theorem PQ.rgone (p : PQ w0 w B g h most []) :
    Calls Try.prog 16 #[.pointer (some ⟨h, 0, none⟩)] w fun e w' => e = .returned (.tuple #[.string { data := #[] }, .bool false]) ∧ w = w' := by
  obtain ⟨⟨c, A, m, n, f, ys, A', b, n', c', hr, hq, hm, b1, b2, b3⟩, h1, h2, h3⟩ := p
  exact refPop_none hq
theorem PQ.at_ (i : Nat) (p : PQ w0 w B g h most q) (hi : i < q.length) :
    Calls Try.prog 17 #[.pointer (some ⟨g, 0, none⟩), .int .i64 (i : Nat)] w fun e w' => e = .returned (.tuple #[.string q[i], .bool true]) ∧ PQ w0 w' B g h most q := by
  have p' := p
  obtain ⟨⟨c, A, m, n, f, ys, A', b, n', c', hr, hq, hm, b1, b2, b3⟩, h1, h2, h3⟩ := p
  refine (atS_any i hr hi).mono ?_
  rintro e w2 ⟨rfl, k, rfl⟩
  exact ⟨rfl, p'.drewN k⟩
theorem PQ.rat (i : Nat) (p : PQ w0 w B g h most q) (hi : i < q.length) :
    Calls Try.prog 18 #[.pointer (some ⟨h, 0, none⟩), .int .i64 (i : Nat)] w fun e w' => e = .returned (.tuple #[.string q[i], .bool true]) ∧ w = w' := by
  obtain ⟨⟨c, A, m, n, f, ys, A', b, n', c', hr, hq, hm, b1, b2, b3⟩, h1, h2, h3⟩ := p
  exact refAt_any i hq hi
theorem PQ.no (i : Int) (p : PQ w0 w B g h most q) (hi : i < 0 ∨ ((q.length : Nat) : Int) ≤ i) :
    Calls Try.prog 17 #[.pointer (some ⟨g, 0, none⟩), .int .i64 i] w fun e w' => e = .returned (.tuple #[.string { data := #[] }, .bool false]) ∧ w = w' := by
  obtain ⟨⟨c, A, m, n, f, ys, A', b, n', c', hr, hq, hm, b1, b2, b3⟩, h1, h2, h3⟩ := p
  exact atS_no i hr hi
theorem PQ.rno (i : Int) (p : PQ w0 w B g h most q) (hi : i < 0 ∨ ((q.length : Nat) : Int) ≤ i) :
    Calls Try.prog 18 #[.pointer (some ⟨h, 0, none⟩), .int .i64 i] w fun e w' => e = .returned (.tuple #[.string { data := #[] }, .bool false]) ∧ w = w' := by
  obtain ⟨⟨c, A, m, n, f, ys, A', b, n', c', hr, hq, hm, b1, b2, b3⟩, h1, h2, h3⟩ := p
  exact refAt_no i hq hi
/-- Clear, and the reference's list made nil. -/
theorem PQ.clear (p : PQ w0 w B g h most q) :
    Calls Try.prog 19 #[.pointer (some ⟨g, 0, none⟩)] w fun e w' => e = .returned (.tuple #[]) ∧ (∃ u, w'.cell? ⟨h, 1, none⟩ = some u) ∧ w'.frozen? ⟨h, 1, none⟩ = false ∧ PQ w0 (w'.setCell ⟨h, 1, none⟩ (.slice none 0 0)) B g h most [] := by
  obtain ⟨⟨c, A, m, n, f, ys, A', b, n', c', hr, hq, hm, b1, b2, b3⟩, h1, h2, h3⟩ := p
  refine (clearS_any hr).mono ?_
  rintro e w2 ⟨rfl, f2, ys2, hr2, ht⟩
  obtain ⟨d1, d2, d3, d4, d5⟩ := ref_apart hr hq hm
  have hq2 := hq.tw ht d1 d2
  have ht2 : Tw [h, b] w2 (w2.setCell ⟨h, 1, none⟩ (.slice none 0 0)) := Tw.setCell w2 _ _ (by simp)
  have hr3 := hr2.tw ht2 d3 d4 d5
  have hbl := tw_below (tw_below h2 ht (by simp; omega) h3) ht2 (by simp; omega) h3
  refine ⟨rfl, ⟨_, hq2.c1⟩, hq2.fz 1, ⟨c, A, m, n, f2, ys2, none, h, 0, 0, hr3, ⟨?_, rfl, ⟨Nat.le_refl _, Nat.zero_le _⟩, .inl ⟨rfl, rfl, rfl, rfl⟩, Nat.zero_le _, hq2.most⟩, by simp at d5; omega, b1, b2, by omega⟩, h1, hbl, h3⟩
  have := hq2.blk.set_ 1 (.slice none 0 0)
  simpa using this
theorem PQ.cells (p : PQ w0 w B g h most q) : w.cell? ⟨h, 0, none⟩ = some (.int .i64 (most : Nat)) ∧ ∃ A c, w.cell? ⟨h, 1, none⟩ = some (.slice A q.length c) := by
  obtain ⟨⟨c, A, m, n, f, ys, A', b, n', c', hr, hq, hm, b1, b2, b3⟩, h1, h2, h3⟩ := p
  exact ⟨hq.c0, A', c', by rw [hq.len]; exact hq.c1⟩
theorem PQ.len (p : PQ w0 w B g h most q) : Calls Try.prog 20 #[.pointer (some ⟨g, 0, none⟩)] w fun e w' => e = .returned (.int .i64 (q.length : Nat)) ∧ w = w' := by
  obtain ⟨⟨c, A, m, n, f, ys, A', b, n', c', hr, hq, hm, b1, b2, b3⟩, h1, h2, h3⟩ := p
  exact lenS_any hr
theorem PQ.room (p : PQ w0 w B g h most q) : Calls Try.prog 21 #[.pointer (some ⟨g, 0, none⟩)] w fun e w' => e = .returned (.int .i64 ((most : Int) - (q.length : Nat))) ∧ ∃ k, w' = w.drewN k := by
  have hl := p.le
  obtain ⟨⟨c, A, m, n, f, ys, A', b, n', c', hr, hq, hm, b1, b2, b3⟩, h1, h2, h3⟩ := p
  exact roomS_any hr hl
end
end Go.Proofs.Ytlfebfgdgjaidaa
