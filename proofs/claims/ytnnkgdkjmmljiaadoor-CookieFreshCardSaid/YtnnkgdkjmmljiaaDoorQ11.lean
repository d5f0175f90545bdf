/-
  Package sha: a state; its eight; a block that is full.
  Package sha: what a state says of its bytes: plain facts.
-/
import Derived.Test.YtnnkgdkjmmljiaaDoorQ10
import Derived.Deep.MidRow
namespace Go.Proofs.YtnnkgdkjmmljiaaDoor
open Go.RowKit
set_option linter.unusedVariables false
set_option maxRecDepth 100000

/-- A state's cells. -/
def stRow (G : List R) (bs : List UInt8) (n : Nat) : Array Value := wrow G ++ row8 bs ++ #[.int .u64 (n : Int)]
theorem size_stRow {G : List R} {bs : List UInt8} {n : Nat} (hG : G.length = 8) (hb : bs.length = 64) : (stRow G bs n).size = 73 := by simp [stRow, size_wrow, size_row8, hG, hb]
theorem stRow_g {G : List R} {bs : List UInt8} {n i : Nat} (hG : G.length = 8) (hi : i < 8) : (stRow G bs n)[i]? = some (rv (at_ G i)) := by
  unfold stRow
  rw [Array.append_assoc, Array.getElem?_append_left (by rw [size_wrow, hG]; exact hi)]
  exact wrow_at (by omega)
theorem stRow_b {G : List R} {bs : List UInt8} {n i : Nat} (hG : G.length = 8) (hb : bs.length = 64) (hi : i < 64) : (stRow G bs n)[8 + i]? = some (.int .u8 ((bs.getD i 0).toNat : Int)) := by
  unfold stRow
  rw [Array.getElem?_append_left (by simp [size_wrow, size_row8, hG, hb]; omega), Array.getElem?_append_right (by rw [size_wrow]; omega), size_wrow, hG, Nat.add_sub_cancel_left]
  exact row8_at (by omega)
theorem stRow_n {G : List R} {bs : List UInt8} {n : Nat} (hG : G.length = 8) (hb : bs.length = 64) : (stRow G bs n)[72]? = some (.int .u64 (n : Int)) := by
  unfold stRow
  rw [Array.getElem?_append_right (by simp [size_wrow, size_row8, hG, hb])]
  simp [size_wrow, size_row8, hG, hb]
theorem set_g {G : List R} {bs : List UInt8} {n i : Nat} (hG : G.length = 8) (hi : i < 8) (x : R) : (stRow G bs n).setIfInBounds i (rv x) = stRow (G.set i x) bs n := by
  unfold stRow
  rw [← set_wrow, Array.append_assoc, Array.append_assoc]
  rw [Array.setIfInBounds_append, if_pos (by rw [size_wrow, hG]; exact hi)]
theorem set_n {G : List R} {bs : List UInt8} {n : Nat} (hG : G.length = 8) (hb : bs.length = 64) (m : Nat) : (stRow G bs n).setIfInBounds 72 (.int .u64 (m : Int)) = stRow G bs m := by
  unfold stRow
  rw [Array.setIfInBounds_append, if_neg (by simp [size_wrow, size_row8, hG, hb])]
  simp [size_wrow, size_row8, hG, hb]

set_option maxHeartbeats 1000000 in
theorem hashes_any (q n : Nat) (G : List R) (bs : List UInt8) (w : World) (hG : G.length = 8) (hs : Blk w q 77 (stRow G bs n)) (hT : Tabs w) :
    Calls Tryd.prog 56 #[.pointer (some ⟨q, 0, none⟩)] w fun e w' => e = .returned (.agg (wrow (add H0 G))) ∧ Below w.heap.size w w' := by
  have h2 := hT.2.2
  obtain ⟨S, hS⟩ : ∃ S, S = add H0 G := ⟨_, rfl⟩
  have HE := Lib.hid hS
  rw [← hS]
  clear hS
  go_enter Tryd.func56, Tryd.ntmps56
  rw [whole_eq 1]
  go_wp2_with fail
  have hb2 : Blk (w.alloc (.cells #[.int .u32 0, .int .u32 0, .int .u32 0, .int .u32 0, .int .u32 0, .int .u32 0, .int .u32 0, .int .u32 0] 75)) w.heap.size 75 #[.int .u32 0, .int .u32 0, .int .u32 0, .int .u32 0, .int .u32 0, .int .u32 0, .int .u32 0, .int .u32 0] := Blk.new _ _ _
  have hs1 := hs.alloc (.cells #[.int .u32 0, .int .u32 0, .int .u32 0, .int .u32 0, .int .u32 0, .int .u32 0, .int .u32 0, .int .u32 0] 75)
  have hB1 : Below w.heap.size w (w.alloc (.cells #[.int .u32 0, .int .u32 0, .int .u32 0, .int .u32 0, .int .u32 0, .int .u32 0, .int .u32 0, .int .u32 0] 75)) := below_new _ _
  have hT1 := hT.below hB1 h2
  have hz1 : (w.alloc (.cells #[.int .u32 0, .int .u32 0, .int .u32 0, .int .u32 0, .int .u32 0, .int .u32 0, .int .u32 0, .int .u32 0] 75)).heap.size = w.heap.size + 1 := by simp
  generalize w.alloc (.cells #[.int .u32 0, .int .u32 0, .int .u32 0, .int .u32 0, .int .u32 0, .int .u32 0, .int .u32 0, .int .u32 0] 75) = w1 at hb2 hs1 hB1 hT1 hz1 ⊢
  have c0 := hT1.init (i := 0) (by decide)
  have c1 := hT1.init (i := 1) (by decide)
  have c2 := hT1.init (i := 2) (by decide)
  have c3 := hT1.init (i := 3) (by decide)
  have c4 := hT1.init (i := 4) (by decide)
  have c5 := hT1.init (i := 5) (by decide)
  have c6 := hT1.init (i := 6) (by decide)
  have c7 := hT1.init (i := 7) (by decide)
  refine whole_list ?_
  go_wp2_with fail
  have hq := hs.lt
  go_loopw [6] (fun i wr => ∃ k : Nat, k ≤ 8 ∧ i = .int .i64 k ∧ Blk wr q 77 (stRow G bs n) ∧ Blk wr w.heap.size 75 #[.int .u32 0, .int .u32 0, .int .u32 0, .int .u32 0, .int .u32 0, .int .u32 0, .int .u32 0, .int .u32 0] ∧ Blk wr (w.heap.size + 1) 75 (wrow (adl H0 G k)) ∧ Below w.heap.size w wr) (fun i _ => 8 - (intOf i).toNat)
  case atStart =>
    refine ⟨0, by omega, rfl, hs1.alloc _, hb2.alloc _, ?_, hB1.alloc (by omega) _⟩
    rw [← hz1]
    exact Blk.new _ _ _
  case round =>
    clear hs1 hb2 hB1 hT1 hz1 c0 c1 c2 c3 c4 c5 c6 c7
    obtain ⟨k, hk, rfl, hs1, hb2, hb3, hB1⟩ := hrel
    by_cases hlt : k < 8
    · have cg := (hs1.cell k).trans (stRow_g hG hlt)
      have cl := (hb3.cell k).trans (wrow_at (by rw [length_adl]; exact hlt))
      have fl := hb3.frozen k
      have lk : (k : Int) < 8 := by omega
      go_wp2_with fail
      refine wp_region_quiet_tail 11 (by kernel_rfl) (by kernel_rfl) ?_
      simp only [List.take_succ_cons, List.take_zero, List.drop_succ_cons, List.drop_zero]
      repeat (go_big_quiet_step (fail))
      refine wpQuiet_nil ?_
      rintro _ ⟨m, rfl⟩
      go_wp2_with fail
      go_roundw
      case rel =>
        refine ⟨k + 1, by omega, by go_num, (hs1.drewN m).far (by simp; omega) _, (hb2.drewN m).far (by simp) _, ?_, (below_drewN hB1 m).setCell (by simp) _⟩
        rw [adl]
        exact (hb3.drewN m).putv k _ _ (add_u32 _ _)
      case measure => simp [intOf]; omega
    · have hk8 : k = 8 := by omega
      have hk9 : decide ((k : Int) < 8) = false := by simp; omega
      rw [show adl H0 G k = S by rw [HE.out, hk8]; exact adl_end rfl hG] at hb3
      have HL : S.length = 8 := by rw [HE.out]; exact length_add rfl hG
      clear hk8
      have c0 := (hb3.cell 0).trans (wrow_at (by omega))
      have f0 := hb2.frozen 0
      have d0 := hb2.cell 0
      have c1 := (hb3.cell 1).trans (wrow_at (by omega))
      have f1 := hb2.frozen 1
      have d1 := hb2.cell 1
      have c2 := (hb3.cell 2).trans (wrow_at (by omega))
      have f2 := hb2.frozen 2
      have d2 := hb2.cell 2
      have c3 := (hb3.cell 3).trans (wrow_at (by omega))
      have f3 := hb2.frozen 3
      have d3 := hb2.cell 3
      have c4 := (hb3.cell 4).trans (wrow_at (by omega))
      have f4 := hb2.frozen 4
      have d4 := hb2.cell 4
      have c5 := (hb3.cell 5).trans (wrow_at (by omega))
      have f5 := hb2.frozen 5
      have d5 := hb2.cell 5
      have c6 := (hb3.cell 6).trans (wrow_at (by omega))
      have f6 := hb2.frozen 6
      have d6 := hb2.cell 6
      have c7 := (hb3.cell 7).trans (wrow_at (by omega))
      have f7 := hb2.frozen 7
      have d7 := hb2.cell 7
      have hsz : (wrow S).size = 8 := by rw [size_wrow, HL]
      go_wp2_with fail
      have hfin : Blk _ w.heap.size 75 (wrow [at_ S 0, at_ S 1, at_ S 2, at_ S 3, at_ S 4, at_ S 5, at_ S 6, at_ S 7]) := ((((((((show Blk wr w.heap.size 75 (wrow (List.replicate 8 0)) from hb2).putw 0 (at_ S 0)).putw 1 (at_ S 1)).putw 2 (at_ S 2)).putw 3 (at_ S 3)).putw 4 (at_ S 4)).putw 5 (at_ S 5)).putw 6 (at_ S 6)).putw 7 (at_ S 7)
      rw [show [at_ S 0, at_ S 1, at_ S 2, at_ S 3, at_ S 4, at_ S 5, at_ S 6, at_ S 7] = S by obtain ⟨a, b, c, d, e, f, g, hh, rfl⟩ := eight HL; rfl] at hfin
      refine bodyPost_ret (v := .agg (wrow S)) (results_cell_row rfl _ _ _ _ _ _ _ rfl hfin Tryd.underlying75 rfl ((show (Tryd.prog.info? 75).map (·.size) = some 8 by kernel_rfl).trans (by rw [hsz]))) rfl ⟨rfl, ?_⟩
      have l3 : w.heap.size ≤ w.heap.size := Nat.le_refl _
      exact (((((((hB1.setCell l3 _).setCell l3 _).setCell l3 _).setCell l3 _).setCell l3 _).setCell l3 _).setCell l3 _).setCell l3 _

/-- An element of an array by value. -/
theorem index_arr {P : Program} {t e : TypeId} {n : Nat} {d : TypeDesc} (ht : P.underlying t = some (.array n e)) (he : P.underlying e = some d) (hd : (match d with | .struct _ | .array _ _ => true | _ => false) = false) (hi : (P.info? e).map (·.size) = some 1)
    (cs : Array Value) (k : IntKind) (i : Nat) (hin : i < n) (v : Value) (hv : cs[i]? = some v) (w : World) : (Instr.index t (.agg cs) (.int k (i : Int))).run P w = .ok v w := by
  have hagg : ∀ w : World, (isAgg e).run P w = .ok false w := fun w => by
    unfold isAgg
    rw [Sem.run_bind, run_underlying he w]
    cases d <;> simp_all
  cases hq : P.info? e with
  | none => simp [hq] at hi
  | some i' =>
    have h1 : i'.size = 1 := by simpa [hq] using hi
    have h0 : (0 : Int) ≤ i := by omega
    simp [Instr.index, run_underlying ht, asIntOf, h0, sizeOf, typeInfo, hq, h1, part, hagg, hv]
    intro h
    omega

theorem range_b {w : World} {q n : Nat} {t : TypeId} {G : List R} {bs : List UInt8} (h : Blk w q t (stRow G bs n)) (hG : G.length = 8) (hb : bs.length = 64) : w.rangeAt q 8 (row8 bs).toList := by
  intro j v hv
  have hj : j < 64 := by
    have := (List.getElem?_eq_some_iff.1 hv).1
    simp [size_row8, hb] at this
    exact this
  rw [h.cell, stRow_b hG hb hj]
  rw [Array.getElem?_toList, row8_at (by omega)] at hv
  exact hv
theorem run_load_b {w : World} {q n : Nat} {t : TypeId} {G : List R} {bs : List UInt8} (h : Blk w q t (stRow G bs n)) (hG : G.length = 8) (hb : bs.length = 64) :
    (Instr.loadAt 55 (.pointer (some ⟨q, 8, none⟩))).run Tryd.prog w = .ok (.agg (row8 bs)) w := by
  have := run_loadAt_mid (P := Tryd.prog) w q 8 55 (row8 bs).toList _ (range_b h hG hb) Tryd.underlying55 rfl ((show (Tryd.prog.info? 55).map (·.size) = some 64 by kernel_rfl).trans (by simp [size_row8, hb]))
  rwa [Array.toArray_toList] at this

set_option maxHeartbeats 1000000 in
theorem absorb_any (q n : Nat) (G : List R) (bs : List UInt8) (w : World) (hG : G.length = 8) (hb : bs.length = 64) (hs : Blk w q 77 (stRow G bs n)) (hT : Tabs w) :
    Calls Tryd.prog 54 #[.pointer (some ⟨q, 0, none⟩)] w fun e w' => e = .returned (.tuple #[]) ∧ Blk w' q 77 (stRow (add G (cmp (add H0 G) bs)) bs n) ∧ Tw [q] w w' := by
  have h2 := hT.2.2
  have hq := hs.lt
  obtain ⟨S, hS⟩ : ∃ S, S = cmp (add H0 G) bs := ⟨_, rfl⟩
  have HE := Lib.hid hS
  have HL : S.length = 8 := by rw [hS]; exact length_cmp _ _ (length_add rfl hG)
  rw [← hS]
  clear hS
  have hl8 : (add H0 G).length = 8 := length_add rfl hG
  have HG := Lib.hid hG
  have HB := Lib.hid hb
  have HL8 := Lib.hid hl8
  have HL' := Lib.hid HL
  clear hG hb hl8 HL
  go_enter Tryd.func54, Tryd.ntmps54
  go_wp2_with fail
  refine wp_region_vals (by kernel_rfl) w.heap.size [.pointer (some ⟨q, 0, none⟩), .agg (wrow (add H0 G)), .pointer (some ⟨q, 0, none⟩), .pointer (some ⟨q, 0, none⟩), .pointer (some ⟨q, 8, none⟩), .agg (row8 bs), .agg (wrow (sch bs 64)), .agg (wrow S), .int .i64 0] rfl (by kernel_rfl) ?_ ?_
  · refine ⟨?_, ?_, ?_, ?_, ?_, ?_, ?_, ?_, ?_, trivial⟩
    · intro listed a w1 hl hc
      have h0 : a.tmps[0]?.getD undef = .pointer (some ⟨q, 0, none⟩) := (hc.was 0 (by kernel_rfl)).trans rfl
      refine does_value rfl rfl (.pointer (some ⟨q, 0, none⟩)) w1 ?_ (Grew.refl _ _) rfl
      clear hc hl
      go_simp
    · intro listed a w1 hl hc
      have h4 : a.tmps[4]?.getD undef = .pointer (some ⟨q, 0, none⟩) := hc.dep hl 0 4 rfl (by kernel_rfl)
      refine does_call rfl rfl 56 #[.pointer (some ⟨q, 0, none⟩)] ?_ ((hashes_any q n G bs w1 HG.out (hs.below hc.g.below hq) (hT.below hc.g.below h2)).mono fun e w' ⟨he, hw⟩ => ⟨_, he, Grew.of_below hw hc.g.below.size, rfl⟩)
      clear hc hl
      go_simp
    · intro listed a w1 hl hc
      have h0 : a.tmps[0]?.getD undef = .pointer (some ⟨q, 0, none⟩) := (hc.was 0 (by kernel_rfl)).trans rfl
      refine does_value rfl rfl (.pointer (some ⟨q, 0, none⟩)) w1 ?_ (Grew.refl _ _) rfl
      clear hc hl
      go_simp
    · intro listed a w1 hl hc
      have h6 : a.tmps[6]?.getD undef = .pointer (some ⟨q, 0, none⟩) := hc.dep hl 2 6 rfl (by kernel_rfl)
      refine does_value rfl rfl (.pointer (some ⟨q, 0, none⟩)) w1 ?_ (Grew.refl _ _) rfl
      clear hc hl
      go_simp
    · intro listed a w1 hl hc
      have h7 : a.tmps[7]?.getD undef = .pointer (some ⟨q, 0, none⟩) := hc.dep hl 3 7 rfl (by kernel_rfl)
      refine does_value rfl rfl (.pointer (some ⟨q, 8, none⟩)) w1 ?_ (Grew.refl _ _) rfl
      clear hc hl
      go_simp
    · intro listed a w1 hl hc
      have h8 : a.tmps[8]?.getD undef = .pointer (some ⟨q, 8, none⟩) := hc.dep hl 4 8 rfl (by kernel_rfl)
      refine does_value rfl rfl (.agg (row8 bs)) w1 ?_ (Grew.refl _ _) rfl
      unfold execOp
      have hx : a.eval (.tmp 8) = .pointer (some ⟨q, 8, none⟩) := by show a.tmps.getD 8 undef = _; rw [Array.getD_eq_getD_getElem?]; exact h8
      simp only [hx, run_load_b (hs.below hc.g.below hq) HG.out HB.out, Sem.run_bind, Sem.run_pure, Result.andThen_ok]
    · intro listed a w1 hl hc
      have h9 : a.tmps[9]?.getD undef = .agg (row8 bs) := hc.dep hl 5 9 rfl (by kernel_rfl)
      refine does_call rfl rfl 59 #[.agg (row8 bs)] ?_ ((schedule_any bs w1 HB.out).mono fun e w' ⟨he, hw⟩ => ⟨_, he, Grew.of_below hw hc.g.below.size, rfl⟩)
      clear hc hl
      go_simp
    · intro listed a w1 hl hc
      have h5 : a.tmps[5]?.getD undef = .agg (wrow (add H0 G)) := hc.dep hl 1 5 rfl (by kernel_rfl)
      have h10 : a.tmps[10]?.getD undef = .agg (wrow (sch bs 64)) := hc.dep hl 6 10 rfl (by kernel_rfl)
      refine does_call rfl rfl 58 #[.agg (wrow (add H0 G)), .agg (wrow (sch bs 64))] ?_ ((rounds_any _ _ w1 HL8.out (length_sch _ _) (hT.below hc.g.below h2)).mono fun e w' ⟨he, hw⟩ => ⟨_, by rw [he, HE.out]; rfl, Grew.of_below hw hc.g.below.size, rfl⟩)
      clear hc hl
      go_simp
    · intro listed a w1 hl hc
      refine does_value rfl rfl (.int .i64 0) w1 ?_ (Grew.refl _ _) rfl
      clear hc hl
      go_simp
  · intro w1 hg
    simp only [lay]
    go_frame
    have hs1 := hs.below hg.below hq
    have hB1 := Tw.of_below hg.below [q]
    clear hs hg hT
    go_wp2_with fail
    go_loopw [12] (fun i wr => ∃ k : Nat, k ≤ 8 ∧ i = .int .i64 k ∧ Blk wr q 77 (stRow (adl G S k) bs n) ∧ Tw [q] w wr) (fun i _ => 8 - (intOf i).toNat)
    case atStart => exact ⟨0, by omega, rfl, hs1, hB1⟩
    case round =>
      clear hs1 hB1
      obtain ⟨k, hk, rfl, hs1, hB1⟩ := hrel
      by_cases hlt : k < 8
      · have cg := (hs1.cell k).trans (stRow_g (by rw [length_adl, HG.out]) hlt)
        have fg := hs1.frozen k
        have lk : (k : Int) < 8 := by omega
        have hix := fun w : World => index_arr (P := Tryd.prog) Tryd.underlying75 Tryd.underlying23 rfl (by kernel_rfl) (wrow S) .i64 k hlt _ (wrow_at (by rw [HL'.out]; exact hlt)) w
        go_wp2_with fail
        refine wp_region_quiet_tail 11 (by kernel_rfl) (by kernel_rfl) ?_
        simp only [List.take_succ_cons, List.take_zero, List.drop_succ_cons, List.drop_zero]
        repeat (go_big_quiet_step (fail))
        refine wpQuiet_nil ?_
        rintro _ ⟨m, rfl⟩
        go_wp2_with fail
        go_roundw
        case rel =>
          refine ⟨k + 1, by omega, by go_num, ?_, (hB1.drewN m).trans (Tw.setCell _ _ _ (by simp))⟩
          rw [adl, ← set_g (by rw [length_adl, HG.out]) hlt]
          rw [add_u32]
          exact (hs1.drewN m).set_ k _
        case measure => simp [intOf]; omega
      · have hk8 : k = 8 := by omega
        have hk9 : decide ((k : Int) < 8) = false := by simp; omega
        have HX := Lib.hid (show adl G S k = add G S by rw [hk8]; exact adl_end HG.out HL'.out)
        clear hk8
        go_wp2_with fail
        go_end0
        rw [HX.out] at hs1
        exact ⟨rfl, hs1, hB1⟩
end Go.Proofs.YtnnkgdkjmmljiaaDoor

namespace Go.Proofs.YtnnkgdkjmmljiaaDoor
open Go.RowKit
set_option linter.unusedVariables false
set_option maxRecDepth 100000

/-- A block, filled from r on. -/
def fill (bs : List UInt8) (r : Nat) (zs : List UInt8) : List UInt8 := bs.take r ++ zs ++ bs.drop (r + zs.length)
theorem length_fill {bs : List UInt8} {r : Nat} {zs : List UInt8} (hb : bs.length = 64) (h : r + zs.length ≤ 64) : (fill bs r zs).length = 64 := by
  simp [fill, hb]; omega
theorem fill_full {bs : List UInt8} {r : Nat} {zs : List UInt8} (hb : bs.length = 64) (h : r + zs.length = 64) : fill bs r zs = bs.take r ++ zs := by
  unfold fill
  rw [List.drop_of_length_le (by omega), List.append_nil]
/-- What the fields say of the bytes. -/
structure Inv (G : List R) (bs xs : List UInt8) : Prop where
  g : G.length = 8
  b : bs.length = 64
  h : add H0 G = hsn xs (xs.length / 64)
  r : bs.take (xs.length % 64) = xs.drop (64 * (xs.length / 64))
theorem Inv.zero : Inv (List.replicate 8 0) (List.replicate 64 0) [] := ⟨rfl, rfl, by decide, rfl⟩
theorem Inv.part {G : List R} {bs xs zs : List UInt8} (i : Inv G bs xs) (h : xs.length % 64 + zs.length < 64) : Inv G (fill bs (xs.length % 64) zs) (xs ++ zs) := by
  have hd : (xs ++ zs).length / 64 = xs.length / 64 := by rw [List.length_append]; omega
  have hm : (xs ++ zs).length % 64 = xs.length % 64 + zs.length := by rw [List.length_append]; omega
  have hle : 64 * (xs.length / 64) ≤ xs.length := by omega
  have hb := i.b
  refine ⟨i.g, length_fill i.b (by omega), by rw [hd, hsn_append _ _ _ hle]; exact i.h, ?_⟩
  rw [hd, hm, List.drop_append_of_le_length hle, ← i.r]
  unfold fill
  rw [List.take_append_of_le_length (by simp [hb]; omega), List.take_of_length_le (by simp [hb]; omega)]
theorem Inv.full {G : List R} {bs xs zs : List UInt8} (i : Inv G bs xs) (h : xs.length % 64 + zs.length = 64) :
    Inv (add G (cmp (add H0 G) (fill bs (xs.length % 64) zs))) (fill bs (xs.length % 64) zs) (xs ++ zs) := by
  have hd : (xs ++ zs).length / 64 = xs.length / 64 + 1 := by rw [List.length_append]; omega
  have hm : (xs ++ zs).length % 64 = 0 := by rw [List.length_append]; omega
  have hle : 64 * (xs.length / 64) ≤ xs.length := by omega
  have hb := i.b
  have hl := length_fill hb (Nat.le_of_eq h)
  refine ⟨length_add i.g (length_cmp _ _ (length_add rfl i.g)), hl, ?_, ?_⟩
  · rw [hd, hsn, hsn_append _ _ _ hle, ← add_assoc, i.h]
    congr 2
    rw [fill_full hb h, List.drop_append_of_le_length hle, ← i.r]
    exact (List.take_of_length_le (by simp [hb]; omega)).symm
  · rw [hd, hm, List.take_zero, List.drop_of_length_le (by rw [List.length_append]; omega)]

theorem stRow_copy {G : List R} {bs : List UInt8} {n r : Nat} {zs : List UInt8} (hG : G.length = 8) (hb : bs.length = 64) (h : r + zs.length ≤ 64) :
    ((stRow G bs n).toList.take (8 + r) ++ (zs.map fun x => Value.int .u8 (x.toNat : Int)) ++ (stRow G bs n).toList.drop (8 + r + (zs.map fun x => Value.int .u8 (x.toNat : Int)).length)).toArray = stRow G (fill bs r zs) n := by
  apply Array.toList_inj.1
  have e : (stRow G bs n).toList = (G.map fun x => rv x) ++ ((bs.map fun x => Value.int .u8 (x.toNat : Int)) ++ [.int .u64 (n : Int)]) := by simp [stRow, wrow, row8]
  have e2 : (stRow G (fill bs r zs) n).toList = (G.map fun x => rv x) ++ (((fill bs r zs).map fun x => Value.int .u8 (x.toNat : Int)) ++ [.int .u64 (n : Int)]) := by simp [stRow, wrow, row8]
  rw [e2, e]
  simp only [List.length_map]
  have hg : (G.map fun x => rv x).length = 8 := by simp [hG]
  have hbl : (bs.map fun x => Value.int .u8 (x.toNat : Int)).length = 64 := by simp [hb]
  rw [List.take_append, List.take_of_length_le (by omega), hg, Nat.add_sub_cancel_left, List.take_append_of_le_length (by omega)]
  rw [List.drop_append, List.drop_of_length_le (by omega), hg, show 8 + r + zs.length - 8 = r + zs.length by omega, List.drop_append_of_le_length (by omega)]
  simp [fill, List.append_assoc]

/-- A state in memory. -/
def St (w : World) (q : Nat) (xs : List UInt8) : Prop := ∃ G bs, Blk w q 77 (stRow G bs xs.length) ∧ Inv G bs xs
theorem St.lt {w : World} {q : Nat} {xs : List UInt8} (h : St w q xs) : q < w.heap.size := let ⟨_, _, hb, _⟩ := h; hb.lt
theorem St.tw {w w' : World} {q : Nat} {xs : List UInt8} {S : List Nat} (h : St w q xs) (ht : Tw S w w') (hn : q ∉ S) : St w' q xs := let ⟨G, bs, hb, hi⟩ := h; ⟨G, bs, hb.tw ht hn, hi⟩
theorem St.below {w w' : World} {q B : Nat} {xs : List UInt8} (h : St w q xs) (ht : Below B w w') (hn : q < B) : St w' q xs := let ⟨G, bs, hb, hi⟩ := h; ⟨G, bs, hb.below ht hn, hi⟩
theorem St.drewN {w : World} {q : Nat} {xs : List UInt8} (h : St w q xs) (n : Nat) : St (w.drewN n) q xs := h

/-- What is read lies apart from block q. -/
def Src (w : World) (q : Nat) (A : Option Addr) (ys : List UInt8) : Prop :=
  ys = [] ∨ ∃ b o, A = some ⟨b, o, none⟩ ∧ b ≠ q ∧ b < w.heap.size ∧ ∀ j x, ys[j]? = some x → w.cell? ⟨b, o + j, none⟩ = some (.int .u8 (x.toNat : Int))
theorem Src.nil (w : World) (q : Nat) (A : Option Addr) : Src w q A [] := .inl rfl
theorem Src.of_rd {w : World} {q B : Nat} {A : Option Addr} {ys : List UInt8} (h : Rd w B A ys) (hB : B ≤ w.heap.size) (hq : B ≤ q) : Src w q A ys := by
  rcases h with h | ⟨b, o, ha, hb, hc⟩
  · exact .inl h
  · exact .inr ⟨b, o, ha, by omega, by omega, hc⟩
theorem Src.tw {w w' : World} {q : Nat} {A : Option Addr} {ys : List UInt8} {S : List Nat} (h : Src w q A ys) (ht : Tw S w w') (hS : ∀ k ∈ S, k = q) : Src w' q A ys := by
  rcases h with h | ⟨b, o, ha, hb, hlt, hc⟩
  · exact .inl h
  · exact .inr ⟨b, o, ha, hb, Nat.lt_of_lt_of_le hlt ht.size, fun j x hx => (ht.cell hlt (fun hm => hb (hS _ hm))).trans (hc j x hx)⟩
end Go.Proofs.YtnnkgdkjmmljiaaDoor
