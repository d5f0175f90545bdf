/-
  Layer 4 (spans): contracts of the code: step, Settle, Move.
-/
import Derived.Test.YtmalmpdopifadaaSpA
import Derived.StillTailTactics
import Derived.RegionTactic
import Derived.Deep.QuietTactic
import Derived.BigQuiet
namespace Go.Proofs.Ytmalmpdopifadaa
open Go.RowKit
set_option linter.unusedVariables false

section
variable {g m : Nat} {B : Int} {f : Nat → Bool} {w : World}

set_option maxHeartbeats 800000 in
theorem step_any (h : SpSet w g m B f) :
    Calls Try.prog 32 #[.pointer (some ⟨g, 0, none⟩)] w fun e w' => e = .returned (.tuple #[]) ∧ SpSet w' g m ((B + 1) % 4294967296) (shF f 1) ∧ Tw [g, m] w w' := by
  have c0 := h.c0
  have f0 := h.fz 0
  have hB := h.base
  have hb1 := h.blk.set_ 0 (.int .u32 ((B + 1) % 4294967296))
  obtain ⟨w1, hw1⟩ : ∃ w1, w1 = w.setCell ⟨g, 0, none⟩ (.int .u32 ((B + 1) % 4294967296)) := ⟨_, rfl⟩
  have ht1 : Tw [g, m] w w1 := by rw [hw1]; exact Tw.setCell w _ _ (by simp)
  have hm1 : SetM Try.prog 22 4 w1 m B f := h.map.tw (S := [g]) (by rw [hw1]; exact Tw.setCell w _ _ (by simp)) (by simp [h.ne.symm])
  rw [← hw1] at hb1
  have d0 : w1.cell? ⟨g, 0, none⟩ = some (.int .u32 ((B + 1) % 4294967296)) := (hb1.cell 0).trans rfl
  have d1 : w1.cell? ⟨g, 1, none⟩ = some (.map (some m)) := (hb1.cell 1).trans rfl
  obtain ⟨w', hrun, hset, hturn⟩ := SetM.drop (w := w1.drew) (hm1.at_ rfl) Try.underlying22 Try.underlying52 hB h.win 0
  have ht2 : Tw [g, m] w1 w' := (((Tw.refl [g, m] w1).drewN 1).trans (Tw.of_grown (a := w1.drew) hturn.grown (by simp)))
  have hbf : Blk w' g 54 #[.int .u32 ((B + 1) % 4294967296), .map (some m)] := Blk.tw (S := [m]) (w := w1) (by simpa using hb1) ((Tw.refl [m] w1).drewN 1 |>.trans (Tw.of_grown (a := w1.drew) hturn.grown (by simp))) (by simp [h.ne])
  have hres : SpSet w' g m ((B + 1) % 4294967296) (shF f 1) ∧ Tw [g, m] w w' := ⟨⟨hbf, hset, win_sh h.win 1, by omega, h.ne⟩, ht1.trans ht2⟩
  have HR := Lib.hid hres
  have hw1' := hw1.symm
  clear hw1 hb1 hm1 hset hturn ht1 ht2 hbf hres h
  go_enter Try.func32, Try.ntmps32
  go_wp2
  go_still_tail 8, (by kernel_rfl)
  go_wp2
  go_end0
  exact ⟨rfl, HR.out.1, HR.out.2⟩

theorem wrap_u32 (a : Int) : IntKind.u32.wrap a = a % 4294967296 := by simp [IntKind.wrap, IntKind.bits, IntKind.signed]
theorem mod_add (a b : Int) : (a % 4294967296 + b) % 4294967296 = (a + b) % 4294967296 := by omega
theorem dst_next {C : Int} (hC : 0 ≤ C ∧ C < 4294967296) : dst C ((C + 1) % 4294967296) = 1 := by unfold dst; omega

set_option maxHeartbeats 800000 in
theorem settle_any (h : SpSet w g m B f) :
    Calls Try.prog 16 #[.pointer (some ⟨g, 0, none⟩)] w fun e w' => e = .returned (.int .i64 (rnl f : Nat)) ∧ SpSet w' g m ((B + (rnl f : Nat)) % 4294967296) (shF f (rnl f)) ∧ Tw [g, m] w w' := by
  have hB := h.base
  have hs := rnl_spec h.win
  have hle := hs.1
  have HS := Lib.hid hs
  have H0 : SpSet w g m ((B + (0 : Nat)) % 4294967296) (shF f 0) := by
    rw [sh_zero h.win, show (B + (0 : Nat)) % 4294967296 = B by omega]
    exact h
  clear hs h
  go_enter Try.func16, Try.ntmps16
  go_wp2
  go_loopw [3] (fun i wr => ∃ k : Nat, k ≤ rnl f ∧ i = .int .i64 k ∧ SpSet wr g m ((B + k) % 4294967296) (shF f k) ∧ Tw [g, m] w wr) (fun i _ => 4096 - (intOf i).toNat)
  case atStart => exact ⟨0, Nat.zero_le _, rfl, H0, Tw.refl _ _⟩
  case round =>
    obtain ⟨k, hk, rfl, hset, htw⟩ := hrel
    have c0 := hset.c0
    have c1 := hset.c1
    have hl := fun n => (hset.drewN n).look (x := ((B + k) % 4294967296 + 1) % 4294967296) (by omega)
    rw [dst_next (by omega), mod_add] at hl
    have hu : IntKind.u32.wrap ((B + (k : Int)) % 4294967296 + 1) = (B + k + 1) % 4294967296 := by rw [wrap_u32, mod_add]
    by_cases hlt : k < rnl f
    · have e1 : shF f k 1 = true := by show (decide (1 ≤ 1) && f (1 + k)) = true; simp; exact HS.out.2.1 (1 + k) (by omega) (by omega)
      rw [e1] at hl
      clear e1
      go_wp2_with fail
      go_quiet (fail)
      clear hu hl
      go_wp2_with fail
      refine (step_any (hset.drewN _)).mono ?_
      rintro e w2 ⟨rfl, hset2, htw2⟩
      rw [mod_add, sh_sh, show 1 + k = k + 1 by omega] at hset2
      go_wp2_with fail
      go_roundw
      case rel => exact ⟨k + 1, by omega, by go_num, by rw [show B + ((k + 1 : Nat) : Int) = B + k + 1 by omega]; exact hset2, (htw.drewN _).trans htw2⟩
      case measure => simp [intOf]; omega
    · obtain rfl : k = rnl f := by omega
      have e1 : shF f (rnl f) 1 = false := by show (decide (1 ≤ 1) && f (1 + rnl f)) = false; simp; rw [Nat.add_comm]; exact HS.out.2.2
      rw [e1] at hl
      clear e1
      go_wp2_with fail
      go_quiet (fail)
      clear hu hl
      go_wp2_with fail
      go_ret
      exact ⟨rfl, hset.drewN _, htw.drewN _⟩
theorem settle_nil (w : World) :
    Calls Try.prog 16 #[.pointer none] w fun e w' => e = .returned (.int .i64 0) ∧ w = w' := by
  go_enter Try.func16, Try.ntmps16
  go_wp2
  go_ret
  exact ⟨rfl, rfl⟩

/-- How far a base goes that is moved d on. -/
def mvN (f : Nat → Bool) (d : Nat) : Nat := if inW d = true then d + rnl (shF f d) else 0
theorem mv_in {d : Nat} (h : inW d = true) : mvN f d = d + rnl (shF f d) := if_pos h
theorem mv_out {d : Nat} (h : inW d = false) : mvN f d = 0 := if_neg (by rw [h]; decide)

set_option maxHeartbeats 800000 in
theorem move_any (x : Int) (h : SpSet w g m B f) (hx : 0 ≤ x ∧ x < 4294967296) :
    Calls Try.prog 18 #[.pointer (some ⟨g, 0, none⟩), .int .u32 x] w fun e w' => e = .returned (.int .i64 (mvN f (dst B x) : Nat)) ∧ SpSet w' g m ((B + (mvN f (dst B x) : Nat)) % 4294967296) (shF f (mvN f (dst B x))) ∧ Tw [g, m] w w' := by
  have hB := h.base
  have c0 := h.c0
  by_cases h1 : inW (dst B x) = true
  · have hm := mv_in (f := f) h1
    have hd : dst B x ≤ 4096 := by unfold inW at h1; simp at h1; omega
    have ha : ahd 4294967296 B x = ((dst B x : Nat) : Int) := by unfold ahd dst; omega
    obtain ⟨d, hdd⟩ : ∃ d, d = dst B x := ⟨_, rfl⟩
    rw [← hdd] at h1 hm hd ha ⊢
    have H0 : SpSet w g m ((B + (0 : Nat)) % 4294967296) (shF f 0) := by
      rw [sh_zero h.win, show (B + (0 : Nat)) % 4294967296 = B by omega]
      exact h
    have hr := (rnl_spec (win_sh h.win d)).1
    have H1 := Lib.hid h1
    have HM := Lib.hid hm
    have HA := Lib.hid ha
    have HD := Lib.hid hdd
    clear h1 hm ha hdd
    go_enter Try.func18, Try.ntmps18
    go_wp2_with fail
    refine (within_any _ h hx).mono ?_
    rintro e w2 ⟨rfl, rfl⟩
    rw [← HD.out, H1.out]
    go_wp2_with fail
    refine (ahead_32 _ _ _ hB hx).mono ?_
    rintro e w2 ⟨rfl, rfl⟩
    rw [HA.out]
    go_wp2_with fail
    go_loopw [18] (fun i wr => ∃ k : Nat, k ≤ d ∧ i = .int .i64 k ∧ SpSet wr g m ((B + k) % 4294967296) (shF f k) ∧ Tw [g, m] w wr) (fun i _ => d - (intOf i).toNat)
    case atStart => exact ⟨0, Nat.zero_le _, rfl, H0, Tw.refl _ _⟩
    case round =>
      obtain ⟨k, hk, rfl, hset, htw⟩ := hrel
      by_cases hlt : k < d
      · go_wp2_with fail
        refine (step_any hset).mono ?_
        rintro e w2 ⟨rfl, hset2, htw2⟩
        rw [mod_add, sh_sh, show 1 + k = k + 1 by omega] at hset2
        go_wp2_with fail
        go_roundw
        case rel => exact ⟨k + 1, by omega, by go_num, by rw [show B + ((k + 1 : Nat) : Int) = B + k + 1 by omega]; exact hset2, htw.trans htw2⟩
        case measure => simp [intOf]; omega
      · obtain rfl : k = d := by omega
        go_wp2_with fail
        refine (settle_any hset).mono ?_
        rintro e w2 ⟨rfl, hset2, htw2⟩
        rw [mod_add, sh_sh, Nat.add_comm] at hset2
        go_wp2_with fail
        go_ret
        refine ⟨ret_int (by rw [HM.out]; omega), ?_, htw.trans htw2⟩
        rw [HM.out]
        rw [show B + ((k + rnl (shF f k) : Nat) : Int) = B + k + (rnl (shF f k) : Nat) by omega]
        exact hset2
  · have h1 : inW (dst B x) = false := by simpa using h1
    have H1 := Lib.hid h1
    have H2 := Lib.hid (mv_out (f := f) h1)
    clear h1
    go_enter Try.func18, Try.ntmps18
    go_wp2_with fail
    refine (within_any _ h hx).mono ?_
    rintro e w2 ⟨rfl, rfl⟩
    rw [H1.out]
    go_wp2_with fail
    go_ret
    rw [H2.out]
    refine ⟨rfl, ?_, Tw.refl _ _⟩
    rw [sh_zero h.win, show (B + (0 : Nat)) % 4294967296 = B by omega]
    exact h
theorem move_nil (x : Int) (w : World) :
    Calls Try.prog 18 #[.pointer none, .int .u32 x] w fun e w' => e = .returned (.int .i64 0) ∧ w = w' := by
  go_enter Try.func18, Try.ntmps18
  go_wp2_with fail
  refine (within_nil _ _).mono ?_
  rintro e w2 ⟨rfl, rfl⟩
  go_wp2
  go_ret
  exact ⟨rfl, rfl⟩
end
end Go.Proofs.Ytmalmpdopifadaa
