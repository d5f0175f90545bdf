/-
  Layer 5 (ring): a ring of the call's own, at uint32.
-/
import Derived.Test.YtlfebfgdgjaidaaRgU
namespace Go.Proofs.Ytlfebfgdgjaidaa
open Go.RowKit
set_option linter.unusedVariables false

/-- A ring all of whose blocks are the call's own (B and above), in a world that has come from w0. -/
structure RgU (w0 w : World) (B g most : Nat) (q : List Int) : Prop where
  ring : ∃ c A m n f ys, RingU w g c A m most n f ys q q.length ∧ B ≤ c ∧ B ≤ m
  base : B ≤ g
  below : Below B w0 w
  size : B ≤ w0.heap.size
section
variable {w0 w w' : World} {B g most : Nat} {q : List Int}
theorem RgU.bel (h : RgU w0 w B g most q) (hb : Below w.heap.size w w') : RgU w0 w' B g most q := by
  obtain ⟨⟨c, A, m, n, f, ys, hr, hc, hm⟩, h1, h2, h3⟩ := h
  exact ⟨⟨c, A, m, n, f, ys, hr.below hb, hc, hm⟩, h1, below_then h2 h3 hb, h3⟩
theorem RgU.drewN (h : RgU w0 w B g most q) (k : Nat) : RgU w0 (w.drewN k) B g most q := h.bel (below_drewN (Below.refl _ _) k)
theorem RgU.most_ (h : RgU w0 w B g most q) : 1 ≤ most ∧ most ≤ 1048576 := by
  obtain ⟨c, A, m, n, f, ys, hr, hc, hm⟩ := h.ring
  exact hr.most
theorem RgU.le (h : RgU w0 w B g most q) : q.length ≤ most := by
  obtain ⟨c, A, m, n, f, ys, hr, hc, hm⟩ := h.ring
  exact Nat.le_trans hr.ql hr.fit
theorem rgU_new (most : Nat) (hb : Below B w0 w) (hB : B ≤ w0.heap.size) (hm : 1 ≤ most ∧ most ≤ 1048576) :
    Calls Try.prog 22 #[.int .i64 (most : Nat)] w fun e w' => ∃ g, e = .returned (.tuple #[.pointer (some ⟨g, 0, none⟩), .int .i64 0]) ∧ RgU w0 w' B g most [] := by
  refine (newU_any most w hm).mono ?_
  rintro e w' ⟨rfl, h, hb'⟩
  have hs := hb.size
  exact ⟨_, rfl, ⟨_, _, _, _, _, _, h, by omega, by omega⟩, by omega, below_then hb hB hb', hB⟩
theorem RgU.len (h : RgU w0 w B g most q) : Calls Try.prog 25 #[.pointer (some ⟨g, 0, none⟩)] w fun e w' => e = .returned (.int .i64 (q.length : Nat)) ∧ w = w' := by
  obtain ⟨c, A, m, n, f, ys, hr, hc, hm⟩ := h.ring
  exact lenU_any hr
theorem RgU.room (h : RgU w0 w B g most q) : Calls Try.prog 26 #[.pointer (some ⟨g, 0, none⟩)] w fun e w' => e = .returned (.int .i64 ((most : Int) - (q.length : Nat))) ∧ RgU w0 w' B g most q := by
  obtain ⟨c, A, m, n, f, ys, hr, hc, hm⟩ := h.ring
  refine (roomU_any hr h.le).mono ?_
  rintro e w' ⟨rfl, k, rfl⟩
  exact ⟨rfl, h.drewN k⟩
theorem RgU.push (x : Int) (h : RgU w0 w B g most q) (hq : q.length < most) :
    Calls Try.prog 23 #[.pointer (some ⟨g, 0, none⟩), .int .u32 x] w fun e w' => e = .returned (.bool true) ∧ RgU w0 w' B g most (q ++ [x]) := by
  obtain ⟨⟨c, A, m, n, f, ys, hr, hc, hm⟩, h1, h2, h3⟩ := h
  refine (pushU_room x hr hq).mono ?_
  rintro e w' ⟨rfl, A', m', n', f', ys', hr', hm', ht⟩
  have hs := h2.size
  exact ⟨rfl, ⟨c, A', m', n', f', ys', hr', hc, by omega⟩, h1, tw_below h2 ht (by simp; omega) h3, h3⟩
theorem RgU.full (x : Int) (h : RgU w0 w B g most q) (hq : q.length = most) :
    Calls Try.prog 23 #[.pointer (some ⟨g, 0, none⟩), .int .u32 x] w fun e w' => e = .returned (.bool false) ∧ w = w' := by
  obtain ⟨c, A, m, n, f, ys, hr, hc, hm⟩ := h.ring
  exact pushU_full x hr hq
theorem RgU.pop {x : Int} (h : RgU w0 w B g most (x :: q)) :
    Calls Try.prog 24 #[.pointer (some ⟨g, 0, none⟩)] w fun e w' => e = .returned (.tuple #[.int .u32 x, .bool true]) ∧ RgU w0 w' B g most q := by
  obtain ⟨⟨c, A, m, n, f, ys, hr, hc, hm⟩, h1, h2, h3⟩ := h
  refine (popU_some hr).mono ?_
  rintro e w' ⟨rfl, f', ys', hr', ht⟩
  exact ⟨rfl, ⟨c, A, m, n, f', ys', hr', hc, hm⟩, h1, tw_below h2 ht (by simp; omega) h3, h3⟩
theorem RgU.gone (h : RgU w0 w B g most []) :
    Calls Try.prog 24 #[.pointer (some ⟨g, 0, none⟩)] w fun e w' => e = .returned (.tuple #[.int .u32 0, .bool false]) ∧ w = w' := by
  obtain ⟨c, A, m, n, f, ys, hr, hc, hm⟩ := h.ring
  exact popU_none hr
theorem RgU.at_ (i : Nat) (h : RgU w0 w B g most q) (hi : i < q.length) :
    Calls Try.prog 45 #[.pointer (some ⟨g, 0, none⟩), .int .i64 (i : Nat)] w fun e w' => e = .returned (.tuple #[.int .u32 q[i], .bool true]) ∧ RgU w0 w' B g most q := by
  obtain ⟨c, A, m, n, f, ys, hr, hc, hm⟩ := h.ring
  refine (atU_any i hr hi).mono ?_
  rintro e w' ⟨rfl, k, rfl⟩
  exact ⟨rfl, h.drewN k⟩
theorem RgU.no (i : Int) (h : RgU w0 w B g most q) (hi : i < 0 ∨ ((q.length : Nat) : Int) ≤ i) :
    Calls Try.prog 45 #[.pointer (some ⟨g, 0, none⟩), .int .i64 i] w fun e w' => e = .returned (.tuple #[.int .u32 0, .bool false]) ∧ w = w' := by
  obtain ⟨c, A, m, n, f, ys, hr, hc, hm⟩ := h.ring
  exact atU_no i hr hi
theorem RgU.clear (h : RgU w0 w B g most q) :
    Calls Try.prog 31 #[.pointer (some ⟨g, 0, none⟩)] w fun e w' => e = .returned (.tuple #[]) ∧ RgU w0 w' B g most [] := by
  obtain ⟨⟨c, A, m, n, f, ys, hr, hc, hm⟩, h1, h2, h3⟩ := h
  refine (clearU_any hr).mono ?_
  rintro e w' ⟨rfl, f', ys', hr', ht⟩
  exact ⟨rfl, ⟨c, A, m, n, f', ys', hr', hc, hm⟩, h1, tw_below h2 ht (by simp; omega) h3, h3⟩
end

end Go.Proofs.Ytlfebfgdgjaidaa
