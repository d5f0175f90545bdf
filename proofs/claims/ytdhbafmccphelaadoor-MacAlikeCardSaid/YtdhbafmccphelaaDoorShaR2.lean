/-
  The reference of layer 6: the words of a block.
-/
import Derived.Test.YtdhbafmccphelaaDoorShaR
namespace Go.Proofs.YtdhbafmccphelaaDoor
open Go.RowKit
set_option linter.unusedVariables false
set_option maxRecDepth 100000

theorem info32 : (Tryd.prog.info? 40).map (fun i => (i.zero, i.size, i.bytes)) = some (some (.int .u32 0), 1, 4) := by kernel_rfl
/-- make([]uint32, n). -/
theorem run_make32 (n : Nat) (hn : n ≤ 1000) (w : World) :
    (Instr.makeSlice 49 (.int .i64 n) (.int .i64 n)).run Tryd.prog w = .ok (.slice (some ⟨w.heap.size, 0, none⟩) n n) (w.alloc (.cells (wrow (List.replicate n 0)) 40)) := by
  have hi := info32
  cases hq : Tryd.prog.info? 40 with
  | none => rw [hq] at hi; cases hi
  | some i =>
    rw [hq] at hi
    simp only [Option.map_some, Option.some.injEq, Prod.mk.injEq] at hi
    obtain ⟨h1, h2, h3⟩ := hi
    have h := run_make (P := Tryd.prog) w 49 40 i _ Tryd.underlying49 hq h1 .i64 .i64 n n (by omega) (by omega) (by rw [h3]; omega) (by omega)
    simp only [Int.toNat_natCast, h2, Nat.mul_one] at h
    rw [h]
    congr 3
    apply Array.toList_inj.1
    show (madeCells #[Value.int .u32 0] n).toList = _
    rw [toList_madeCells_one]
    simp [wrow]
theorem shr_lit (x : R) (n : Nat) (d : Int) (hd : d = 2 ^ n) : (x.toNat : Int) / d = ((dwn x n).toNat : Int) := by
  subst hd
  exact shr_int x n
theorem refRight_quiet (x : R) (L : Int) (w : World) (h : (decide (1 ≤ L) && decide (L < 32)) = true) :
    Calls Tryd.prog 28 #[rv x, .int .i64 L] w fun e w' => e = .returned (rv (ror x L.toNat)) ∧ ∃ k, w' = w.drewN k := refRight_lit x L w h

set_option maxHeartbeats 2000000 in
theorem words_any (b o c : Nat) (bs : List UInt8) (w : World) (hb : bs.length = 64) (hbl : b < w.heap.size) (hcell : ∀ i, i < 64 → w.cell? ⟨b, o + i, none⟩ = some (.int .u8 ((bs.getD i 0).toNat : Int))) :
    Calls Tryd.prog 27 #[.slice (some ⟨b, o, none⟩) 64 c] w fun e w' => e = .returned (.slice (some ⟨w.heap.size, 0, none⟩) 64 64) ∧ Blk w' w.heap.size 40 (wrow (sch bs 64)) ∧ Below w.heap.size w w' := by
  have hmk : ∀ W : World, (Instr.makeSlice 49 (.int .i64 64) (.int .i64 64)).run Tryd.prog W = .ok (.slice (some ⟨W.heap.size, 0, none⟩) 64 64) (W.alloc (.cells (wrow (List.replicate 64 0)) 40)) := fun W => run_make32 64 (by omega) W
  have HC := Lib.hid hcell
  obtain ⟨S, hS⟩ : ∃ S, S = sch bs 64 := ⟨_, rfl⟩
  have HS := Lib.hid hS
  rw [← hS]
  clear hS hcell
  obtain ⟨Z, hZ⟩ : ∃ Z, Z = wrow (List.replicate 64 0) := ⟨_, rfl⟩
  rw [← hZ] at hmk
  have hg0 : Blk (w.alloc (.cells Z 40)) w.heap.size 40 (wrow (sch bs 0)) := by rw [hZ]; exact Blk.new _ _ _
  clear hZ
  go_enter Tryd.func27, Tryd.ntmps27
  go_wp2_with fail
  go_loopw [4] (fun i wr => ∃ k : Nat, k ≤ 64 ∧ i = .int .i64 k ∧ Blk wr w.heap.size 40 (wrow (sch bs k)) ∧ Below w.heap.size w wr) (fun i _ => 64 - (intOf i).toNat)
  case atStart => exact ⟨0, by omega, rfl, hg0, below_new _ _⟩
  case round =>
    clear hg0
    obtain ⟨k, hk, rfl, hg, hB⟩ := hrel
    by_cases hlt : k < 16
    · obtain ⟨m0, e0⟩ : ∃ m, m = 4 * k := ⟨_, rfl⟩
      obtain ⟨m1, e1⟩ : ∃ m, m = 4 * k + 1 := ⟨_, rfl⟩
      obtain ⟨m2, e2⟩ : ∃ m, m = 4 * k + 2 := ⟨_, rfl⟩
      obtain ⟨m3, e3⟩ : ∃ m, m = 4 * k + 3 := ⟨_, rfl⟩
      have c0 := (hB.cell (p := ⟨b, o + m0, none⟩) hbl).trans (HC.out m0 (by omega))
      have c1 := (hB.cell (p := ⟨b, o + m1, none⟩) hbl).trans (HC.out m1 (by omega))
      have c2 := (hB.cell (p := ⟨b, o + m2, none⟩) hbl).trans (HC.out m2 (by omega))
      have c3 := (hB.cell (p := ⟨b, o + m3, none⟩) hbl).trans (HC.out m3 (by omega))
      obtain ⟨x0, hx0⟩ : ∃ x, x = bs.getD m0 0 := ⟨_, rfl⟩
      obtain ⟨x1, hx1⟩ : ∃ x, x = bs.getD m1 0 := ⟨_, rfl⟩
      obtain ⟨x2, hx2⟩ : ∃ x, x = bs.getD m2 0 := ⟨_, rfl⟩
      obtain ⟨x3, hx3⟩ : ∃ x, x = bs.getD m3 0 := ⟨_, rfl⟩
      rw [← hx0] at c0
      rw [← hx1] at c1
      rw [← hx2] at c2
      rw [← hx3] at c3
      have HW : Hid (wd bs k = be4 x0 x1 x2 x3) := Lib.hid (by unfold wd; rw [hx0, hx1, hx2, hx3, e0, e1, e2, e3])
      have l0 := x0.toNat_lt
      have l1 := x1.toNat_lt
      have l2 := x2.toNat_lt
      have l3 := x3.toNat_lt
      have w0 : IntKind.i64.wrap (4 * (k : Int)) = (m0 : Int) := by rw [IntWalk.i64_in _ (by omega)]; omega
      have w1 : IntKind.i64.wrap ((m0 : Int) + 1) = (m1 : Int) := by rw [IntWalk.i64_in _ (by omega)]; omega
      have w2 : IntKind.i64.wrap ((m0 : Int) + 2) = (m2 : Int) := by rw [IntWalk.i64_in _ (by omega)]; omega
      have w3 : IntKind.i64.wrap ((m0 : Int) + 3) = (m3 : Int) := by rw [IntWalk.i64_in _ (by omega)]; omega
      have i0 : m0 < 64 := by omega
      have i1 : m1 < 64 := by omega
      have i2 : m2 < 64 := by omega
      have i3 : m3 < 64 := by omega
      have ck := (hg.cell k).trans (wrow_at (by rw [length_sch]; omega))
      have fk := hg.frozen k
      have ik : k < 64 := by omega
      have hb16 : decide ((k : Int) < 16) = true := by simp; omega
      clear hx0 hx1 hx2 hx3 e0 e1 e2 e3
      go_wp2_with fail
      refine wp_region_quiet_tail 36 (by kernel_rfl) (by kernel_rfl) ?_
      simp only [List.take_succ_cons, List.take_zero, List.drop_succ_cons, List.drop_zero]
      repeat (go_big_quiet_step (fail))
      refine wpQuiet_nil ?_
      rintro _ ⟨m, rfl⟩
      go_wp2_with fail
      go_roundw
      case rel =>
        refine ⟨k + 1, by omega, by go_num, ?_, (below_drewN hB m).setCell (Nat.le_refl _) _⟩
        rw [sch_low hlt]
        refine (hg.drewN m).putv k _ _ ?_
        rw [HW.out, be4_toNat, show (2 : Nat) ^ 24 = 16777216 from rfl, show (2 : Nat) ^ 16 = 65536 from rfl, show (2 : Nat) ^ 8 = 256 from rfl]
        omega
      case measure => simp [intOf]; omega
    · have hb16 : decide ((k : Int) < 16) = false := by simp; omega
      by_cases hlt6 : k < 64
      · obtain ⟨p, hp⟩ : ∃ p, p = k - 15 := ⟨_, rfl⟩
        obtain ⟨q, hq⟩ : ∃ q, q = k - 2 := ⟨_, rfl⟩
        obtain ⟨r, hr⟩ : ∃ r, r = k - 16 := ⟨_, rfl⟩
        obtain ⟨s, hs⟩ : ∃ s, s = k - 7 := ⟨_, rfl⟩
        have cp := (hg.cell p).trans (wrow_at (by rw [length_sch]; omega))
        have cq := (hg.cell q).trans (wrow_at (by rw [length_sch]; omega))
        have cr := (hg.cell r).trans (wrow_at (by rw [length_sch]; omega))
        have cs := (hg.cell s).trans (wrow_at (by rw [length_sch]; omega))
        have ck := (hg.cell k).trans (wrow_at (by rw [length_sch]; omega))
        have fk := hg.frozen k
        have wp' : (k : Int) - 15 = (p : Int) := by omega
        have wq' : (k : Int) - 2 = (q : Int) := by omega
        have wp : IntKind.i64.wrap ((k : Int) - 15) = (p : Int) := by rw [IntWalk.i64_in _ (by omega)]; omega
        have wq : IntKind.i64.wrap ((k : Int) - 2) = (q : Int) := by rw [IntWalk.i64_in _ (by omega)]; omega
        have wr' : IntKind.i64.wrap ((k : Int) - 16) = (r : Int) := by rw [IntWalk.i64_in _ (by omega)]; omega
        have ws : IntKind.i64.wrap ((k : Int) - 7) = (s : Int) := by rw [IntWalk.i64_in _ (by omega)]; omega
        have lp : p < 64 := by omega
        have lq : q < 64 := by omega
        have lr : r < 64 := by omega
        have ls : s < 64 := by omega
        have lk : k < 64 := hlt6
        have HP := Lib.hid hp
        have HQ := Lib.hid hq
        have HR := Lib.hid hr
        have HSS := Lib.hid hs
        clear hp hq hr hs
        go_wp2_with fail
        refine wp_region_quiet_tail 32 (by kernel_rfl) (by kernel_rfl) ?_
        simp only [List.take_succ_cons, List.take_zero, List.drop_succ_cons, List.drop_zero]
        repeat (go_big_quiet_step ((go_at_call 28; exact still_any (refRight_lit _ _ _ rfl))))
        refine wpQuiet_nil ?_
        rintro _ ⟨m, rfl⟩
        go_wp2_with fail
        go_roundw
        case rel =>
          refine ⟨k + 1, by omega, by go_num, ?_, (below_drewN hB m).setCell (Nat.le_refl _) _⟩
          rw [sch_high hlt]
          refine (hg.drewN m).putv k _ _ ?_
          rw [shr_lit _ 3 8 rfl, shr_lit _ 10 1024 rfl, xor_u32, xor_u32, xor_u32, xor_u32]
          unfold nxt low0 low1
          rw [← HP.out, ← HQ.out, ← HR.out, ← HSS.out]
          simp only [BitVec.toNat_add, show (2 : Nat) ^ 32 = 4294967296 from rfl]
          omega
        case measure => simp [intOf]; omega
      · have hk64 : k = 64 := by omega
        have hb64 : decide ((k : Int) < 64) = false := by simp; omega
        rw [show sch bs k = S by rw [HS.out, hk64]] at hg
        clear hk64
        go_wp2_with fail
        go_ret
        exact ⟨rfl, hg, hB⟩
end Go.Proofs.YtdhbafmccphelaaDoor
