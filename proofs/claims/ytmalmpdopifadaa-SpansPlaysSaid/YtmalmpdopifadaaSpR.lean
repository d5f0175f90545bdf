/-
  Layer 4 (spans): contracts of the reference: its set in memory; Add, Has.
-/
import Derived.Test.YtmalmpdopifadaaSpL3
namespace Go.Proofs.Ytmalmpdopifadaa
open Go.RowKit
set_option linter.unusedVariables false

/-- The reference's cells: the base, and which of 0 to 4096 beyond it are in. -/
def refCells (B : Int) (f : Nat → Bool) : Array Value := (Value.int .u32 B :: (List.range 4097).map fun i => Value.bool (f i)).toArray

theorem ref_build (B : Int) (w : World) : (Instr.build 30 #[(0, .int .u32 B)]).run Try.prog w = .ok (.agg (refCells B noF)) w := by kernel_rfl
theorem ref_base (B : Int) (f : Nat → Bool) : (refCells B f)[0]? = some (.int .u32 B) := by simp [refCells]
theorem ref_at (B : Int) (f : Nat → Bool) (i : Nat) (hi : i ≤ 4096) : (refCells B f)[1 + i]? = some (.bool (f i)) := by
  simp only [refCells, List.getElem?_toArray]
  rw [Nat.add_comm, List.getElem?_cons_succ, List.getElem?_map, List.getElem?_range (by omega)]
  rfl
theorem ref_size (B : Int) (f : Nat → Bool) : (refCells B f).size = 4098 := by simp [refCells]
theorem ref_ext {B : Int} {f : Nat → Bool} {cs : Array Value} (hs : cs.size = 4098) (h0 : cs[0]? = some (.int .u32 B)) (h : ∀ i, i ≤ 4096 → cs[1 + i]? = some (.bool (f i))) : cs = refCells B f := by
  apply Array.ext_getElem?
  intro k
  rcases (show k = 0 ∨ (∃ i, i ≤ 4096 ∧ k = 1 + i) ∨ 4098 ≤ k by
    rcases Nat.lt_or_ge k 4098 with h | h
    · rcases Nat.eq_zero_or_pos k with h0 | h0
      · exact .inl h0
      · exact .inr (.inl ⟨k - 1, by omega, by omega⟩)
    · exact .inr (.inr h)) with rfl | ⟨i, hi, rfl⟩ | hk
  · rw [h0, ref_base]
  · rw [h i hi, ref_at _ _ _ hi]
  · rw [Array.getElem?_eq_none (by omega), Array.getElem?_eq_none (by rw [ref_size]; omega)]

structure RefS (w : World) (q : Nat) (B : Int) (f : Nat → Bool) : Prop where
  blk : Blk w q 30 (refCells B f)
  win : Win f
  base : 0 ≤ B ∧ B < 4294967296
section
variable {w w' : World} {q : Nat} {B : Int} {f : Nat → Bool} {S : List Nat}
theorem RefS.tw (h : RefS w q B f) (ht : Tw S w w') (hq : q ∉ S) : RefS w' q B f := ⟨h.blk.tw ht hq, h.win, h.base⟩
theorem RefS.below (h : RefS w q B f) (hb : Below w.heap.size w w') : RefS w' q B f := h.tw (Tw.of_below hb []) (by simp)
theorem RefS.drewN (h : RefS w q B f) (n : Nat) : RefS (w.drewN n) q B f := ⟨h.blk, h.win, h.base⟩
theorem RefS.c0 (h : RefS w q B f) : w.cell? ⟨q, 0, none⟩ = some (.int .u32 B) := (h.blk.cell 0).trans (ref_base B f)
theorem RefS.ci (h : RefS w q B f) (i : Nat) (hi : i ≤ 4096) : w.cell? ⟨q, 1 + i, none⟩ = some (.bool (f i)) := (h.blk.cell (1 + i)).trans (ref_at B f i hi)
theorem RefS.fz (h : RefS w q B f) (i : Nat) : w.frozen? ⟨q, i, none⟩ = false := h.blk.frozen i
theorem ref_set (h : Blk w q 30 (refCells B f)) (i : Nat) (v : Bool) {f' : Nat → Bool} (h1 : f' i = v) (h2 : ∀ j, j ≤ 4096 → j ≠ i → f' j = f j) (hi : i ≤ 4096) :
    Blk (w.setCell ⟨q, 1 + i, none⟩ (.bool v)) q 30 (refCells B f') := by
  have hb := h.set_ (1 + i) (.bool v)
  have e : (refCells B f).setIfInBounds (1 + i) (.bool v) = refCells B f' := ref_ext (by simp [ref_size]) (by rw [Array.getElem?_setIfInBounds, if_neg (by omega), ref_base]) fun j hj => by
    rw [Array.getElem?_setIfInBounds]
    by_cases e : i = j
    · subst e
      rw [if_pos rfl, if_pos (by rw [ref_size]; omega), h1]
    · rw [if_neg (by omega), ref_at _ _ _ hj, h2 j hj (Ne.symm e)]
  rwa [e] at hb
theorem ref_rebase (h : Blk w q 30 (refCells B f)) (B' : Int) : Blk (w.setCell ⟨q, 0, none⟩ (.int .u32 B')) q 30 (refCells B' f) := by
  have hb := h.set_ 0 (.int .u32 B')
  have e : (refCells B f).setIfInBounds 0 (.int .u32 B') = refCells B' f := ref_ext (by simp [ref_size]) (by rw [Array.getElem?_setIfInBounds, if_pos rfl, if_pos (by rw [ref_size]; omega)]) fun j hj => by
    rw [Array.getElem?_setIfInBounds, if_neg (by omega), ref_at _ _ _ hj]
  rwa [e] at hb
theorem win_inW (h : Win f) {d : Nat} (hd : inW d = false) : f d = false := by
  cases e : f d
  · rfl
  · have := h d e
    unfold inW at hd
    simp at hd
    omega

set_option maxHeartbeats 800000 in
theorem refHas_any (x : Int) (h : RefS w q B f) (hx : 0 ≤ x ∧ x < 4294967296) :
    Calls Try.prog 15 #[.pointer (some ⟨q, 0, none⟩), .int .u32 x] w fun e w' => e = .returned (.bool (f (dst B x))) ∧ ∃ n, w.drewN n = w' := by
  have c0 := h.c0
  have hB := h.base
  have hu : IntKind.u32.wrap (x - B) = (dst B x : Nat) := by rw [wrap_u32]; unfold dst; omega
  by_cases h1 : inW (dst B x) = true
  · have hd : dst B x ≤ 4096 := by unfold inW at h1; simp at h1; omega
    have ci := h.ci (dst B x) hd
    have hdl : ((dst B x : Nat) : Int) < 4097 := by omega
    have hi := inW_of hx hB
    rw [h1] at hi
    have HI : Hid (∀ n, Calls Try.prog 31 #[.int .u32 x, .int .u32 B, .int .i64 4096] (w.drewN n) fun e w' => e = .returned (.bool true) ∧ w.drewN n = w') :=
      Lib.hid (fun n => by have := refIn32 x B (w.drewN n) hx hB; rw [hi] at this; exact this)
    obtain ⟨d, hdd⟩ : ∃ d, d = dst B x := ⟨_, rfl⟩
    rw [← hdd] at hu hd ci hdl ⊢
    clear hi h1 hdd
    go_enter Try.func15, Try.ntmps15
    go_wp2_with fail
    go_quiet ((go_at_call 31; exact still_left (HI.out _)))
    clear hu c0 ci
    go_wp2_with fail
    go_ret
    exact ⟨rfl, _, rfl⟩
  · have h1 : inW (dst B x) = false := by simpa using h1
    have HF := Lib.hid (win_inW h.win h1)
    have hi := inW_of hx hB
    rw [h1] at hi
    have HI : Hid (∀ n, Calls Try.prog 31 #[.int .u32 x, .int .u32 B, .int .i64 4096] (w.drewN n) fun e w' => e = .returned (.bool false) ∧ w.drewN n = w') :=
      Lib.hid (fun n => by have := refIn32 x B (w.drewN n) hx hB; rw [hi] at this; exact this)
    clear hi h1 hu
    go_enter Try.func15, Try.ntmps15
    go_wp2_with fail
    go_quiet ((go_at_call 31; exact still_left (HI.out _)))
    clear c0
    go_wp2_with fail
    go_ret
    exact ⟨ret_bool HF.out.symm, _, rfl⟩

set_option maxRecDepth 100000 in
set_option maxHeartbeats 1600000 in
theorem refAdd_any (x : Int) (h : RefS w q B f) (hx : 0 ≤ x ∧ x < 4294967296) :
    Calls Try.prog 13 #[.pointer (some ⟨q, 0, none⟩), .int .u32 x] w fun e w' => e = .returned (.bool (addOk f (dst B x))) ∧ RefS w' q B (addF f (dst B x)) ∧ Tw [q] w w' := by
  have c0 := h.c0
  have hB := h.base
  have hu : IntKind.u32.wrap (x - B) = (dst B x : Nat) := by rw [wrap_u32]; unfold dst; omega
  by_cases h1 : inW (dst B x) = true
  · have hd : dst B x ≤ 4096 := by unfold inW at h1; simp at h1; omega
    have ci := h.ci (dst B x) hd
    have hdl : ((dst B x : Nat) : Int) < 4097 := by omega
    have hi := inW_of hx hB
    rw [h1] at hi
    have HI : Hid (∀ n, Calls Try.prog 31 #[.int .u32 x, .int .u32 B, .int .i64 4096] (w.drewN n) fun e w' => e = .returned (.bool true) ∧ w.drewN n = w') :=
      Lib.hid (fun n => by have := refIn32 x B (w.drewN n) hx hB; rw [hi] at this; exact this)
    by_cases h2 : f (dst B x) = true
    · have HOK : Hid (addOk f (dst B x) = false) := Lib.hid (by simp [addOk, h2])
      have HS := Lib.hid (add_same (f := f) (.inl h2))
      rw [h2] at ci
      obtain ⟨d, hdd⟩ : ∃ d, d = dst B x := ⟨_, rfl⟩
      rw [← hdd] at hu hd ci hdl HOK HS ⊢
      clear hi h1 h2 hdd
      go_enter Try.func13, Try.ntmps13
      go_wp2_with fail
      go_quiet ((go_at_call 31; exact still_left (HI.out _)))
      clear hu c0 ci
      go_wp2_with fail
      go_ret
      exact ⟨ret_bool HOK.out.symm, by rw [HS.out]; exact h.drewN _, (Tw.refl _ _).drewN _⟩
    · have h2 : f (dst B x) = false := by simpa using h2
      have HOK : Hid (addOk f (dst B x) = true) := Lib.hid (by simp [addOk, h1, h2])
      have HSET : Hid (∀ w2, RefS w2 q B f → Tw [q] w w2 → RefS (w2.drew.setCell ⟨q, 1 + dst B x, none⟩ (.bool true)) q B (addF f (dst B x)) ∧ Tw [q] w (w2.drew.setCell ⟨q, 1 + dst B x, none⟩ (.bool true))) := Lib.hid (fun w2 hr ht =>
        ⟨⟨ref_set (w := w2.drew) hr.blk (dst B x) true (by unfold addF; simp [h1]) (fun j hj hne => by unfold addF; simp [hne]) hd, win_add h.win _, hB⟩, (ht.drewN 1).trans (Tw.setCell _ _ _ (by simp))⟩)
      rw [h2] at ci
      have H2 := Lib.hid h2
      obtain ⟨d, hdd⟩ : ∃ d, d = dst B x := ⟨_, rfl⟩
      rw [← hdd] at hu hd ci hdl HOK HSET H2 ⊢
      have hu2 : (x - B) % 4294967296 = (d : Int) := by rw [← hu, wrap_u32]
      clear hi h1 h2 hdd
      go_enter Try.func13, Try.ntmps13
      go_wp2_with fail
      go_quiet ((go_at_call 31; exact still_left (HI.out _)))
      have hr2 : RefS (w.drewN nq) q B f := h.drewN nq
      have ht2 : Tw [q] w (w.drewN nq) := (Tw.refl [q] w).drewN nq
      clear c0 ci
      generalize w.drewN nq = w2 at hr2 ht2 ⊢
      have c0 := hr2.c0
      have ci := hr2.ci d hd
      have f1 := hr2.fz (1 + d)
      go_wp2_with fail
      go_still_tail 10, (by kernel_rfl)
      clear hu hu2 c0
      go_wp2
      go_ret
      trace_state
      exact ⟨ret_bool HOK.out.symm, HSET.out w2 hr2 ht2⟩
  · have h1 : inW (dst B x) = false := by simpa using h1
    have HOK : Hid (addOk f (dst B x) = false) := Lib.hid (by simp [addOk, h1])
    have HS := Lib.hid (add_same (f := f) (.inr h1))
    have hi := inW_of hx hB
    rw [h1] at hi
    have HI : Hid (∀ n, Calls Try.prog 31 #[.int .u32 x, .int .u32 B, .int .i64 4096] (w.drewN n) fun e w' => e = .returned (.bool false) ∧ w.drewN n = w') :=
      Lib.hid (fun n => by have := refIn32 x B (w.drewN n) hx hB; rw [hi] at this; exact this)
    clear hi h1 hu
    go_enter Try.func13, Try.ntmps13
    go_wp2_with fail
    go_quiet ((go_at_call 31; exact still_left (HI.out _)))
    clear c0
    go_wp2_with fail
    go_ret
    exact ⟨ret_bool HOK.out.symm, by rw [HS.out]; exact h.drewN _, (Tw.refl _ _).drewN _⟩
end
end Go.Proofs.Ytmalmpdopifadaa
