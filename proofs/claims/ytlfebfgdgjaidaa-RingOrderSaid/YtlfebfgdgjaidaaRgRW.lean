/-
  Layer 5 (ring): a ring and a list beside it, both the call's own.
-/
import Derived.Test.YtlfebfgdgjaidaaRgU
import Derived.Test.YtlfebfgdgjaidaaOi
namespace Go.Proofs.Ytlfebfgdgjaidaa
open Go.RowKit
set_option linter.unusedVariables false

structure RW (w0 w : World) (B g most : Nat) (q : List Int) (v : Value) (zs : List Int) : Prop where
  ring : ∃ c A m n f ys, RingU w g c A m most n f ys q q.length ∧ B ≤ c ∧ B ≤ m ∧ ∀ h, v.ownBlock = some h → h ≠ m
  want : Ow w 47 B v zs
  base : B ≤ g
  below : Below B w0 w
  size : B ≤ w0.heap.size
section
variable {w0 w w' : World} {B g most : Nat} {q zs : List Int} {v : Value} {x : Int}
theorem ow_apart {c m n f l : Nat} {A : Option Addr} {ys : List Int} (hr : RingU w g c A m most n f ys q l) (hw : Ow w 47 B v zs) (hm : ∀ h, v.ownBlock = some h → h ≠ m) : ∀ h, v.ownBlock = some h → h ∉ [g, c, m] := by
  intro h hh
  obtain ⟨cur, hb⟩ := hw.block hh
  have h1 := hb.ne_ hr.blk (by decide)
  have h2 := hr.chn.ne hb
  have h3 := hm h hh
  simp
  omega
theorem RW.bel (h : RW w0 w B g most q v zs) (hb : Below w.heap.size w w') : RW w0 w' B g most q v zs := by
  obtain ⟨⟨c, A, m, n, f, ys, hr, hc, hm, hn⟩, hw, h1, h2, h3⟩ := h
  exact ⟨⟨c, A, m, n, f, ys, hr.below hb, hc, hm, hn⟩, hw.tw (Tw.of_below hb []) (by simp), h1, below_then h2 h3 hb, h3⟩
theorem RW.drewN (h : RW w0 w B g most q v zs) (k : Nat) : RW w0 (w.drewN k) B g most q v zs := h.bel (below_drewN (Below.refl _ _) k)
theorem RW.start {c : Nat} {A : Option Addr} {m n f : Nat} {ys : List Int} (hr : RingU w g c A m most n f ys [] 0) (hc : B ≤ c) (hm : B ≤ m) (hg : B ≤ g) (hb : Below B w0 w) (hB : B ≤ w0.heap.size) : RW w0 w B g most [] (.slice none 0 0) [] :=
  ⟨⟨c, A, m, n, f, ys, hr, hc, hm, fun h hh => by simp [Value.ownBlock] at hh⟩, Ow.nil _ _ _, hg, hb, hB⟩
theorem RW.le (h : RW w0 w B g most q v zs) : q.length ≤ most := by
  obtain ⟨c, A, m, n, f, ys, hr, hc, hm⟩ := h.ring
  exact Nat.le_trans hr.ql hr.fit
theorem RW.len (h : RW w0 w B g most q v zs) : Calls Try.prog 25 #[.pointer (some ⟨g, 0, none⟩)] w fun e w' => e = .returned (.int .i64 (q.length : Nat)) ∧ w = w' := by
  obtain ⟨c, A, m, n, f, ys, hr, hc, hm⟩ := h.ring
  exact lenU_any hr
theorem RW.room (h : RW w0 w B g most q v zs) : Calls Try.prog 26 #[.pointer (some ⟨g, 0, none⟩)] w fun e w' => e = .returned (.int .i64 ((most : Int) - (q.length : Nat))) ∧ RW w0 w' B g most q v zs := by
  obtain ⟨c, A, m, n, f, ys, hr, hc, hm⟩ := h.ring
  refine (roomU_any hr h.le).mono ?_
  rintro e w' ⟨rfl, k, rfl⟩
  exact ⟨rfl, h.drewN k⟩
theorem RW.push (x : Int) (h : RW w0 w B g most q v zs) (hq : q.length < most) :
    Calls Try.prog 23 #[.pointer (some ⟨g, 0, none⟩), .int .u32 x] w fun e w' => e = .returned (.bool true) ∧ RW w0 w' B g most (q ++ [x]) v zs := by
  obtain ⟨⟨c, A, m, n, f, ys, hr, hc, hm, hn⟩, hw, h1, h2, h3⟩ := h
  refine (pushU_room x hr hq).mono ?_
  rintro e w' ⟨rfl, A', m', n', f', ys', hr', hm', ht⟩
  have hs := h2.size
  refine ⟨rfl, ⟨c, A', m', n', f', ys', hr', hc, by omega, fun h hh => ?_⟩, hw.tw ht (ow_apart hr hw hn), h1, tw_below h2 ht (by simp; omega) h3, h3⟩
  have e1 := hn h hh
  have e2 := (World.ownsRow.lt hw h hh).2
  omega
theorem RW.full (x : Int) (h : RW w0 w B g most q v zs) (hq : q.length = most) :
    Calls Try.prog 23 #[.pointer (some ⟨g, 0, none⟩), .int .u32 x] w fun e w' => e = .returned (.bool false) ∧ w = w' := by
  obtain ⟨c, A, m, n, f, ys, hr, hc, hm⟩ := h.ring
  exact pushU_full x hr hq
theorem RW.pop (h : RW w0 w B g most (x :: q) v zs) :
    Calls Try.prog 24 #[.pointer (some ⟨g, 0, none⟩)] w fun e w' => e = .returned (.tuple #[.int .u32 x, .bool true]) ∧ RW w0 w' B g most q v zs := by
  obtain ⟨⟨c, A, m, n, f, ys, hr, hc, hm, hn⟩, hw, h1, h2, h3⟩ := h
  refine (popU_some hr).mono ?_
  rintro e w' ⟨rfl, f', ys', hr', ht⟩
  exact ⟨rfl, ⟨c, A, m, n, f', ys', hr', hc, hm, hn⟩, hw.tw ht (ow_apart hr hw hn), h1, tw_below h2 ht (by simp; omega) h3, h3⟩
theorem RW.gone (h : RW w0 w B g most [] v zs) :
    Calls Try.prog 24 #[.pointer (some ⟨g, 0, none⟩)] w fun e w' => e = .returned (.tuple #[.int .u32 0, .bool false]) ∧ w = w' := by
  obtain ⟨c, A, m, n, f, ys, hr, hc, hm⟩ := h.ring
  exact popU_none hr
/-- What append leaves. -/
theorem RW.append {w1 : World} {u : Obj} {v' : Value} (h : RW w0 w B g most q v zs) (h1 : w1.ownsRow B 47 1 v' (zs.length + 1) (zs.map (Value.int .u32) ++ [.int .u32 x])) (h2 : (w.alloc u).grownBy w1 v.ownBlock)
    (h4 : ∀ h, v'.ownBlock = some h → v.ownBlock = some h ∨ w.heap.size ≤ h) :
    ∃ A' c' n', v' = .slice A' n' c' ∧ Hid ((zs ++ [x]).length = n') ∧ RW w0 w1 B g most q (.slice A' n' c') (zs ++ [x]) := by
  have hl : (zs ++ [x]).length = zs.length + 1 := by simp
  have ho1 : Ow w1 47 B v' (zs ++ [x]) := by
    unfold Ow
    rw [hl, List.map_append]
    exact h1
  obtain ⟨A', c', rfl, _⟩ := ho1.form
  obtain ⟨⟨c, A, m, n, f, ys, hr, hc, hm, hn⟩, hw, b1, b2, b3⟩ := h
  have hs := b2.size
  have hra := hr.below (below_new w u)
  have hra1 : RingU w1 g c A m most n f ys q q.length := by
    have key : ∀ k, k < w.heap.size → (∀ h, v.ownBlock = some h → h ≠ k) → w1.heap[k]? = w.heap[k]? := fun k hk hne => by
      rw [h2.block k (by simp; omega) (by intro e; exact hne k e.symm rfl), Below.heap_alloc w u k hk]
    have hl := hr.lt
    have hap := ow_apart hr hw hn
    have k1 := key g hl.1 (fun h hh => by have := hap h hh; simp at this; omega)
    have k2 := key c hl.2.1 (fun h hh => by have := hap h hh; simp at this; omega)
    have k3 := key m hl.2.2 (fun h hh => by have := hap h hh; simp at this; omega)
    refine ⟨k1.trans hr.blk, ?_, ?_, hr.len, hr.lay, hr.fit, hr.most⟩
    · obtain ⟨s, r, buf, e1, e2⟩ := hr.chn
      exact ⟨s, r, buf, k2.trans e1, e2⟩
    · exact hr.mem.imp id fun ⟨p, a, b⟩ => ⟨p, a, k3.trans b⟩
  refine ⟨A', c', _, rfl, Lib.hid rfl, ⟨⟨c, A, m, n, f, ys, hra1, hc, hm, fun h hh => ?_⟩, ho1, b1, ?_, b3⟩⟩
  · rcases h4 h hh with e | e
    · exact hn h e
    · have := hr.lt.2.2; omega
  · exact (b2.alloc (by omega) u).grown h2 (by simp; omega) fun j hj => (World.ownsRow.lt hw j hj).1
end
end Go.Proofs.Ytlfebfgdgjaidaa
