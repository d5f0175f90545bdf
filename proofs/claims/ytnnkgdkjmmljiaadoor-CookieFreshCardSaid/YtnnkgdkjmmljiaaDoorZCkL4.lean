/-
  Package cookie: CookieFresh, walked.
-/
import Derived.Test.YtnnkgdkjmmljiaaDoorZCkL1
namespace Go.Proofs.YtnnkgdkjmmljiaaDoor
open Go.RowKit
set_option linter.unusedVariables false

theorem freshB_any (born now life : Int) (W : World) (hb : -9223372036854775808 ≤ born ∧ born ≤ 9223372036854775807) (hn : -9223372036854775808 ≤ now ∧ now ≤ 9223372036854775807) (hl : -9223372036854775808 ≤ life ∧ life ≤ 9223372036854775807) : Calls Tryd.prog 16 #[.agg #[.int .i64 born, .int .u32 0, .int .u32 0, .int .u32 0, .int .u32 0, .int .u32 0, .int .u16 0, .int .u16 0], .int .i64 now, .int .i64 life] W fun e w' => e = .returned (.bool (freshC born now life)) ∧ Below W.heap.size W w' :=
  fresh_any ⟨born, 0, 0, 0, 0, 0, 0, 0⟩ now life W hb hn hl
theorem refFreshB_any (born now life : Int) (W : World) (hb : -9223372036854775808 ≤ born ∧ born ≤ 9223372036854775807) (hn : -9223372036854775808 ≤ now ∧ now ≤ 9223372036854775807) (hl : -9223372036854775808 ≤ life ∧ life ≤ 9223372036854775807) : Calls Tryd.prog 17 #[.agg #[.int .i64 born, .int .u32 0, .int .u32 0, .int .u32 0, .int .u32 0, .int .u32 0, .int .u16 0, .int .u16 0], .int .i64 now, .int .i64 life] W fun e w' => e = .returned (.bool (freshC born now life)) ∧ Below W.heap.size W w' :=
  refFresh_any ⟨born, 0, 0, 0, 0, 0, 0, 0⟩ now life W hb hn hl
def freshR (born now life : Int) (F : Bool) : Prop := (∀ W : World, Calls Tryd.prog 16 #[.agg #[.int .i64 born, .int .u32 0, .int .u32 0, .int .u32 0, .int .u32 0, .int .u32 0, .int .u16 0, .int .u16 0], .int .i64 now, .int .i64 life] W fun e w' => e = .returned (.bool F) ∧ Below W.heap.size W w') ∧ ∀ W : World, Calls Tryd.prog 17 #[.agg #[.int .i64 born, .int .u32 0, .int .u32 0, .int .u32 0, .int .u32 0, .int .u32 0, .int .u16 0, .int .u16 0], .int .i64 now, .int .i64 life] W fun e w' => e = .returned (.bool F) ∧ Below W.heap.size W w'
set_option maxRecDepth 100000 in
set_option maxHeartbeats 4000000 in
theorem cookieFresh_old (born now life : Int) (w : World) (hT : Tabs w) (hb : (Lit.int .i64 born).wf = true) (hn : (Lit.int .i64 now).wf = true) (hl : (Lit.int .i64 life).wf = true) (h : life < 0 ∨ now < born) :
    Calls Tryd.prog 7 #[.int .i64 born, .int .i64 now, .int .i64 life] w fun e w' => e = .returned (.bool true) ∧ Below w.heap.size w w' := by
  have h2 := hT.2.2
  have HT := Lib.hid hT
  have hbb : -9223372036854775808 ≤ born ∧ born ≤ 9223372036854775807 := by simpa [Lit.wf, IntKind.min, IntKind.max, IntKind.signed, IntKind.bits] using hb
  have hnn : -9223372036854775808 ≤ now ∧ now ≤ 9223372036854775807 := by simpa [Lit.wf, IntKind.min, IntKind.max, IntKind.signed, IntKind.bits] using hn
  have hll : -9223372036854775808 ≤ life ∧ life ≤ 9223372036854775807 := by simpa [Lit.wf, IntKind.min, IntKind.max, IntKind.signed, IntKind.bits] using hl
  have K0 := Lib.hid (Blk.new w 26 #[.int .i64 born, .int .u32 0, .int .u32 0, .int .u32 0, .int .u32 0, .int .u32 0, .int .u16 0, .int .u16 0])
  have B0 := Lib.hid (below_new w (.cells #[.int .i64 born, .int .u32 0, .int .u32 0, .int .u32 0, .int .u32 0, .int .u32 0, .int .u16 0, .int .u16 0] 26))
  have HF : Hid (freshR born now life false) := Lib.hid (by
    have e : freshC born now life = false := by simp [freshC]; omega
    exact ⟨fun W => e ▸ freshB_any born now life W hbb hnn hll, fun W => e ▸ refFreshB_any born now life W hbb hnn hll⟩)
  have HA : Hid (∀ W : World, Calls Tryd.prog 16 #[.agg #[.int .i64 born, .int .u32 0, .int .u32 0, .int .u32 0, .int .u32 0, .int .u32 0, .int .u16 0, .int .u16 0], .int .i64 now, .int .i64 life] W fun e w' => e = .returned (.bool false) ∧ Below W.heap.size W w') := Lib.hid HF.out.1
  clear hT hb hn hl
  have hz := zero_cookie
  by_cases h0 : life < 0
  · skip
    have t0 : decide (life < 0) = true := by simp; omega
    clear h h0 hbb hnn hll
    go_enter Tryd.func7, Tryd.ntmps7
    rw [drawn_eq 2]
    go_wp2_with fail
    generalize w.alloc (.cells #[.int .i64 born, .int .u32 0, .int .u32 0, .int .u32 0, .int .u32 0, .int .u32 0, .int .u16 0, .int .u16 0] 26) = v at K0 B0 ⊢
    rw [← drawn_eq 2]
    refine wp_region_grow_tail 8 (by kernel_rfl) [(Is (.agg #[.int .i64 born, .int .u32 0, .int .u32 0, .int .u32 0, .int .u32 0, .int .u32 0, .int .u16 0, .int .u16 0])), (Is (.int .i64 now)), (Is (.int .i64 life)), (Is (.bool false)), (Is (.agg #[.int .i64 born, .int .u32 0, .int .u32 0, .int .u32 0, .int .u32 0, .int .u32 0, .int .u16 0, .int .u16 0])), (Is (.int .i64 now)), (Is (.int .i64 life)), (Is (.bool false))] rfl ?_ (by kernel_rfl) (by kernel_rfl) ?_ ?_
    · intro p hp
      simp only [List.mem_cons, List.not_mem_nil, or_false] at hp
      rcases hp with rfl | rfl | rfl | rfl | rfl | rfl | rfl | rfl
      · exact Lasts.is _
      · exact Lasts.is _
      · exact Lasts.is _
      · exact Lasts.is _
      · exact Lasts.is _
      · exact Lasts.is _
      · exact Lasts.is _
      · exact Lasts.is _
    · refine ⟨?_, ?_, ?_, ?_, ?_, ?_, ?_, ?_, trivial⟩
      · intro listed a w1 hl hc
        have h7 : a.tmps[7]?.getD undef = .pointer (some ⟨w.heap.size, 0, none⟩) := (hc.was 7 (by kernel_rfl)).trans rfl
        have kb := K0.out.below hc.g K0.out.lt
        have x0 : w1.cell? ⟨w.heap.size, 0, none⟩ = some (.int .i64 born) := kb.cell 0
        have x1 : w1.cell? ⟨w.heap.size, 1, none⟩ = some (.int .u32 0) := kb.cell 1
        have x2 : w1.cell? ⟨w.heap.size, 2, none⟩ = some (.int .u32 0) := kb.cell 2
        have x3 : w1.cell? ⟨w.heap.size, 3, none⟩ = some (.int .u32 0) := kb.cell 3
        have x4 : w1.cell? ⟨w.heap.size, 4, none⟩ = some (.int .u32 0) := kb.cell 4
        have x5 : w1.cell? ⟨w.heap.size, 5, none⟩ = some (.int .u32 0) := kb.cell 5
        have x6 : w1.cell? ⟨w.heap.size, 6, none⟩ = some (.int .u16 0) := kb.cell 6
        have x7 : w1.cell? ⟨w.heap.size, 7, none⟩ = some (.int .u16 0) := kb.cell 7
        clear kb
        refine does_value rfl rfl (.agg #[.int .i64 born, .int .u32 0, .int .u32 0, .int .u32 0, .int .u32 0, .int .u32 0, .int .u16 0, .int .u16 0]) w1 ?_ (Below.refl _ _) rfl
        clear hc hl
        go_simp
      · intro listed a w1 hl hc
        have h1 : a.tmps[1]?.getD undef = .int .i64 now := (hc.was 1 (by kernel_rfl)).trans rfl
        refine does_value rfl rfl (.int .i64 now) w1 ?_ (Below.refl _ _) rfl
        clear hc hl
        go_simp
      · intro listed a w1 hl hc
        have h2 : a.tmps[2]?.getD undef = .int .i64 life := (hc.was 2 (by kernel_rfl)).trans rfl
        refine does_value rfl rfl (.int .i64 life) w1 ?_ (Below.refl _ _) rfl
        clear hc hl
        go_simp
      · intro listed a w1 hl hc
        have h10 : a.tmps[10]?.getD undef = .agg #[.int .i64 born, .int .u32 0, .int .u32 0, .int .u32 0, .int .u32 0, .int .u32 0, .int .u16 0, .int .u16 0] := hc.dep hl 0 10 rfl (by kernel_rfl)
        have h11 : a.tmps[11]?.getD undef = .int .i64 now := hc.dep hl 1 11 rfl (by kernel_rfl)
        have h12 : a.tmps[12]?.getD undef = .int .i64 life := hc.dep hl 2 12 rfl (by kernel_rfl)
        refine does_call rfl rfl 16 #[.agg #[.int .i64 born, .int .u32 0, .int .u32 0, .int .u32 0, .int .u32 0, .int .u32 0, .int .u16 0, .int .u16 0], .int .i64 now, .int .i64 life] ?_ ((HF.out.1 w1).mono fun e w' ⟨he, hb⟩ => ⟨_, he, hb, rfl⟩)
        clear hc hl
        go_simp
      · intro listed a w1 hl hc
        have h7 : a.tmps[7]?.getD undef = .pointer (some ⟨w.heap.size, 0, none⟩) := (hc.was 7 (by kernel_rfl)).trans rfl
        have kb := K0.out.below hc.g K0.out.lt
        have x0 : w1.cell? ⟨w.heap.size, 0, none⟩ = some (.int .i64 born) := kb.cell 0
        have x1 : w1.cell? ⟨w.heap.size, 1, none⟩ = some (.int .u32 0) := kb.cell 1
        have x2 : w1.cell? ⟨w.heap.size, 2, none⟩ = some (.int .u32 0) := kb.cell 2
        have x3 : w1.cell? ⟨w.heap.size, 3, none⟩ = some (.int .u32 0) := kb.cell 3
        have x4 : w1.cell? ⟨w.heap.size, 4, none⟩ = some (.int .u32 0) := kb.cell 4
        have x5 : w1.cell? ⟨w.heap.size, 5, none⟩ = some (.int .u32 0) := kb.cell 5
        have x6 : w1.cell? ⟨w.heap.size, 6, none⟩ = some (.int .u16 0) := kb.cell 6
        have x7 : w1.cell? ⟨w.heap.size, 7, none⟩ = some (.int .u16 0) := kb.cell 7
        clear kb
        refine does_value rfl rfl (.agg #[.int .i64 born, .int .u32 0, .int .u32 0, .int .u32 0, .int .u32 0, .int .u32 0, .int .u16 0, .int .u16 0]) w1 ?_ (Below.refl _ _) rfl
        clear hc hl
        go_simp
      · intro listed a w1 hl hc
        have h1 : a.tmps[1]?.getD undef = .int .i64 now := (hc.was 1 (by kernel_rfl)).trans rfl
        refine does_value rfl rfl (.int .i64 now) w1 ?_ (Below.refl _ _) rfl
        clear hc hl
        go_simp
      · intro listed a w1 hl hc
        have h2 : a.tmps[2]?.getD undef = .int .i64 life := (hc.was 2 (by kernel_rfl)).trans rfl
        refine does_value rfl rfl (.int .i64 life) w1 ?_ (Below.refl _ _) rfl
        clear hc hl
        go_simp
      · intro listed a w1 hl hc
        have h14 : a.tmps[14]?.getD undef = .agg #[.int .i64 born, .int .u32 0, .int .u32 0, .int .u32 0, .int .u32 0, .int .u32 0, .int .u16 0, .int .u16 0] := hc.dep hl 4 14 rfl (by kernel_rfl)
        have h15 : a.tmps[15]?.getD undef = .int .i64 now := hc.dep hl 5 15 rfl (by kernel_rfl)
        have h16 : a.tmps[16]?.getD undef = .int .i64 life := hc.dep hl 6 16 rfl (by kernel_rfl)
        refine does_call rfl rfl 17 #[.agg #[.int .i64 born, .int .u32 0, .int .u32 0, .int .u32 0, .int .u32 0, .int .u32 0, .int .u16 0, .int .u16 0], .int .i64 now, .int .i64 life] ?_ ((HF.out.2 w1).mono fun e w' ⟨he, hb⟩ => ⟨_, he, hb, rfl⟩)
        clear hc hl
        go_simp
    intro w2 hb2
    rintro _ rfl _ rfl _ rfl _ rfl _ rfl _ rfl _ rfl _ rfl
    simp only [Thus, List.reverse_cons, List.reverse_nil, List.nil_append, List.cons_append, List.drop, List.take, lay]
    go_frame
    have B2 := Lib.hid (below_then B0.out (Nat.le_refl _) hb2)
    have K2 := Lib.hid (K0.out.below hb2 K0.out.lt)
    clear hb2 K0 B0
    have j0 : w2.cell? ⟨w.heap.size, 0, none⟩ = some (.int .i64 born) := K2.out.cell 0
    have j1 : w2.cell? ⟨w.heap.size, 1, none⟩ = some (.int .u32 0) := K2.out.cell 1
    have j2 : w2.cell? ⟨w.heap.size, 2, none⟩ = some (.int .u32 0) := K2.out.cell 2
    have j3 : w2.cell? ⟨w.heap.size, 3, none⟩ = some (.int .u32 0) := K2.out.cell 3
    have j4 : w2.cell? ⟨w.heap.size, 4, none⟩ = some (.int .u32 0) := K2.out.cell 4
    have j5 : w2.cell? ⟨w.heap.size, 5, none⟩ = some (.int .u32 0) := K2.out.cell 5
    have j6 : w2.cell? ⟨w.heap.size, 6, none⟩ = some (.int .u16 0) := K2.out.cell 6
    have j7 : w2.cell? ⟨w.heap.size, 7, none⟩ = some (.int .u16 0) := K2.out.cell 7
    go_wp2_with fail
    clear j0 j1 j2 j3 j4 j5 j6 j7
    refine (HA.out w2).mono ?_
    rintro e u0 ⟨rfl, hb_⟩
    have Bu0 := Lib.hid (below_then B2.out (Nat.le_refl _) hb_)
    have Ku0 := Lib.hid (K2.out.below hb_ K2.out.lt)
    clear hb_
    go_wp2_with fail
    refine (ckWorks_any u0 (HT.out.below Bu0.out h2)).mono ?_
    rintro e w9 ⟨rfl, hb9⟩
    go_wp2_with fail
    go_ret
    exact ⟨rfl, below_then Bu0.out (Nat.le_refl _) hb9⟩
  · skip
    have t0 : decide (life < 0) = false := by simp; omega
    have t1 : decide (now < born) = true := by simp; omega
    clear h h0 hbb hnn hll
    go_enter Tryd.func7, Tryd.ntmps7
    rw [drawn_eq 2]
    go_wp2_with fail
    generalize w.alloc (.cells #[.int .i64 born, .int .u32 0, .int .u32 0, .int .u32 0, .int .u32 0, .int .u32 0, .int .u16 0, .int .u16 0] 26) = v at K0 B0 ⊢
    rw [← drawn_eq 2]
    refine wp_region_grow_tail 8 (by kernel_rfl) [(Is (.agg #[.int .i64 born, .int .u32 0, .int .u32 0, .int .u32 0, .int .u32 0, .int .u32 0, .int .u16 0, .int .u16 0])), (Is (.int .i64 now)), (Is (.int .i64 life)), (Is (.bool false)), (Is (.agg #[.int .i64 born, .int .u32 0, .int .u32 0, .int .u32 0, .int .u32 0, .int .u32 0, .int .u16 0, .int .u16 0])), (Is (.int .i64 now)), (Is (.int .i64 life)), (Is (.bool false))] rfl ?_ (by kernel_rfl) (by kernel_rfl) ?_ ?_
    · intro p hp
      simp only [List.mem_cons, List.not_mem_nil, or_false] at hp
      rcases hp with rfl | rfl | rfl | rfl | rfl | rfl | rfl | rfl
      · exact Lasts.is _
      · exact Lasts.is _
      · exact Lasts.is _
      · exact Lasts.is _
      · exact Lasts.is _
      · exact Lasts.is _
      · exact Lasts.is _
      · exact Lasts.is _
    · refine ⟨?_, ?_, ?_, ?_, ?_, ?_, ?_, ?_, trivial⟩
      · intro listed a w1 hl hc
        have h7 : a.tmps[7]?.getD undef = .pointer (some ⟨w.heap.size, 0, none⟩) := (hc.was 7 (by kernel_rfl)).trans rfl
        have kb := K0.out.below hc.g K0.out.lt
        have x0 : w1.cell? ⟨w.heap.size, 0, none⟩ = some (.int .i64 born) := kb.cell 0
        have x1 : w1.cell? ⟨w.heap.size, 1, none⟩ = some (.int .u32 0) := kb.cell 1
        have x2 : w1.cell? ⟨w.heap.size, 2, none⟩ = some (.int .u32 0) := kb.cell 2
        have x3 : w1.cell? ⟨w.heap.size, 3, none⟩ = some (.int .u32 0) := kb.cell 3
        have x4 : w1.cell? ⟨w.heap.size, 4, none⟩ = some (.int .u32 0) := kb.cell 4
        have x5 : w1.cell? ⟨w.heap.size, 5, none⟩ = some (.int .u32 0) := kb.cell 5
        have x6 : w1.cell? ⟨w.heap.size, 6, none⟩ = some (.int .u16 0) := kb.cell 6
        have x7 : w1.cell? ⟨w.heap.size, 7, none⟩ = some (.int .u16 0) := kb.cell 7
        clear kb
        refine does_value rfl rfl (.agg #[.int .i64 born, .int .u32 0, .int .u32 0, .int .u32 0, .int .u32 0, .int .u32 0, .int .u16 0, .int .u16 0]) w1 ?_ (Below.refl _ _) rfl
        clear hc hl
        go_simp
      · intro listed a w1 hl hc
        have h1 : a.tmps[1]?.getD undef = .int .i64 now := (hc.was 1 (by kernel_rfl)).trans rfl
        refine does_value rfl rfl (.int .i64 now) w1 ?_ (Below.refl _ _) rfl
        clear hc hl
        go_simp
      · intro listed a w1 hl hc
        have h2 : a.tmps[2]?.getD undef = .int .i64 life := (hc.was 2 (by kernel_rfl)).trans rfl
        refine does_value rfl rfl (.int .i64 life) w1 ?_ (Below.refl _ _) rfl
        clear hc hl
        go_simp
      · intro listed a w1 hl hc
        have h10 : a.tmps[10]?.getD undef = .agg #[.int .i64 born, .int .u32 0, .int .u32 0, .int .u32 0, .int .u32 0, .int .u32 0, .int .u16 0, .int .u16 0] := hc.dep hl 0 10 rfl (by kernel_rfl)
        have h11 : a.tmps[11]?.getD undef = .int .i64 now := hc.dep hl 1 11 rfl (by kernel_rfl)
        have h12 : a.tmps[12]?.getD undef = .int .i64 life := hc.dep hl 2 12 rfl (by kernel_rfl)
        refine does_call rfl rfl 16 #[.agg #[.int .i64 born, .int .u32 0, .int .u32 0, .int .u32 0, .int .u32 0, .int .u32 0, .int .u16 0, .int .u16 0], .int .i64 now, .int .i64 life] ?_ ((HF.out.1 w1).mono fun e w' ⟨he, hb⟩ => ⟨_, he, hb, rfl⟩)
        clear hc hl
        go_simp
      · intro listed a w1 hl hc
        have h7 : a.tmps[7]?.getD undef = .pointer (some ⟨w.heap.size, 0, none⟩) := (hc.was 7 (by kernel_rfl)).trans rfl
        have kb := K0.out.below hc.g K0.out.lt
        have x0 : w1.cell? ⟨w.heap.size, 0, none⟩ = some (.int .i64 born) := kb.cell 0
        have x1 : w1.cell? ⟨w.heap.size, 1, none⟩ = some (.int .u32 0) := kb.cell 1
        have x2 : w1.cell? ⟨w.heap.size, 2, none⟩ = some (.int .u32 0) := kb.cell 2
        have x3 : w1.cell? ⟨w.heap.size, 3, none⟩ = some (.int .u32 0) := kb.cell 3
        have x4 : w1.cell? ⟨w.heap.size, 4, none⟩ = some (.int .u32 0) := kb.cell 4
        have x5 : w1.cell? ⟨w.heap.size, 5, none⟩ = some (.int .u32 0) := kb.cell 5
        have x6 : w1.cell? ⟨w.heap.size, 6, none⟩ = some (.int .u16 0) := kb.cell 6
        have x7 : w1.cell? ⟨w.heap.size, 7, none⟩ = some (.int .u16 0) := kb.cell 7
        clear kb
        refine does_value rfl rfl (.agg #[.int .i64 born, .int .u32 0, .int .u32 0, .int .u32 0, .int .u32 0, .int .u32 0, .int .u16 0, .int .u16 0]) w1 ?_ (Below.refl _ _) rfl
        clear hc hl
        go_simp
      · intro listed a w1 hl hc
        have h1 : a.tmps[1]?.getD undef = .int .i64 now := (hc.was 1 (by kernel_rfl)).trans rfl
        refine does_value rfl rfl (.int .i64 now) w1 ?_ (Below.refl _ _) rfl
        clear hc hl
        go_simp
      · intro listed a w1 hl hc
        have h2 : a.tmps[2]?.getD undef = .int .i64 life := (hc.was 2 (by kernel_rfl)).trans rfl
        refine does_value rfl rfl (.int .i64 life) w1 ?_ (Below.refl _ _) rfl
        clear hc hl
        go_simp
      · intro listed a w1 hl hc
        have h14 : a.tmps[14]?.getD undef = .agg #[.int .i64 born, .int .u32 0, .int .u32 0, .int .u32 0, .int .u32 0, .int .u32 0, .int .u16 0, .int .u16 0] := hc.dep hl 4 14 rfl (by kernel_rfl)
        have h15 : a.tmps[15]?.getD undef = .int .i64 now := hc.dep hl 5 15 rfl (by kernel_rfl)
        have h16 : a.tmps[16]?.getD undef = .int .i64 life := hc.dep hl 6 16 rfl (by kernel_rfl)
        refine does_call rfl rfl 17 #[.agg #[.int .i64 born, .int .u32 0, .int .u32 0, .int .u32 0, .int .u32 0, .int .u32 0, .int .u16 0, .int .u16 0], .int .i64 now, .int .i64 life] ?_ ((HF.out.2 w1).mono fun e w' ⟨he, hb⟩ => ⟨_, he, hb, rfl⟩)
        clear hc hl
        go_simp
    intro w2 hb2
    rintro _ rfl _ rfl _ rfl _ rfl _ rfl _ rfl _ rfl _ rfl
    simp only [Thus, List.reverse_cons, List.reverse_nil, List.nil_append, List.cons_append, List.drop, List.take, lay]
    go_frame
    have B2 := Lib.hid (below_then B0.out (Nat.le_refl _) hb2)
    have K2 := Lib.hid (K0.out.below hb2 K0.out.lt)
    clear hb2 K0 B0
    have j0 : w2.cell? ⟨w.heap.size, 0, none⟩ = some (.int .i64 born) := K2.out.cell 0
    have j1 : w2.cell? ⟨w.heap.size, 1, none⟩ = some (.int .u32 0) := K2.out.cell 1
    have j2 : w2.cell? ⟨w.heap.size, 2, none⟩ = some (.int .u32 0) := K2.out.cell 2
    have j3 : w2.cell? ⟨w.heap.size, 3, none⟩ = some (.int .u32 0) := K2.out.cell 3
    have j4 : w2.cell? ⟨w.heap.size, 4, none⟩ = some (.int .u32 0) := K2.out.cell 4
    have j5 : w2.cell? ⟨w.heap.size, 5, none⟩ = some (.int .u32 0) := K2.out.cell 5
    have j6 : w2.cell? ⟨w.heap.size, 6, none⟩ = some (.int .u16 0) := K2.out.cell 6
    have j7 : w2.cell? ⟨w.heap.size, 7, none⟩ = some (.int .u16 0) := K2.out.cell 7
    go_wp2_with fail
    clear j0 j1 j2 j3 j4 j5 j6 j7
    refine (HA.out w2).mono ?_
    rintro e u0 ⟨rfl, hb_⟩
    have Bu0 := Lib.hid (below_then B2.out (Nat.le_refl _) hb_)
    have Ku0 := Lib.hid (K2.out.below hb_ K2.out.lt)
    clear hb_
    go_wp2_with fail
    refine (ckWorks_any u0 (HT.out.below Bu0.out h2)).mono ?_
    rintro e w9 ⟨rfl, hb9⟩
    go_wp2_with fail
    go_ret
    exact ⟨rfl, below_then Bu0.out (Nat.le_refl _) hb9⟩

set_option maxRecDepth 100000 in
set_option maxHeartbeats 4000000 in
theorem cookieFresh_min (born now life : Int) (w : World) (hT : Tabs w) (hb : (Lit.int .i64 born).wf = true) (hn : (Lit.int .i64 now).wf = true) (hl : (Lit.int .i64 life).wf = true) (h : 0 ≤ life) (h1 : born ≤ now) (h3 : born = -9223372036854775808) :
    Calls Tryd.prog 7 #[.int .i64 born, .int .i64 now, .int .i64 life] w fun e w' => e = .returned (.bool true) ∧ Below w.heap.size w w' := by
  have h2 := hT.2.2
  have HT := Lib.hid hT
  have hbb : -9223372036854775808 ≤ born ∧ born ≤ 9223372036854775807 := by simpa [Lit.wf, IntKind.min, IntKind.max, IntKind.signed, IntKind.bits] using hb
  have hnn : -9223372036854775808 ≤ now ∧ now ≤ 9223372036854775807 := by simpa [Lit.wf, IntKind.min, IntKind.max, IntKind.signed, IntKind.bits] using hn
  have hll : -9223372036854775808 ≤ life ∧ life ≤ 9223372036854775807 := by simpa [Lit.wf, IntKind.min, IntKind.max, IntKind.signed, IntKind.bits] using hl
  have K0 := Lib.hid (Blk.new w 26 #[.int .i64 born, .int .u32 0, .int .u32 0, .int .u32 0, .int .u32 0, .int .u32 0, .int .u16 0, .int .u16 0])
  have B0 := Lib.hid (below_new w (.cells #[.int .i64 born, .int .u32 0, .int .u32 0, .int .u32 0, .int .u32 0, .int .u32 0, .int .u16 0, .int .u16 0] 26))
  have HF : Hid (freshR born now life (freshC born now life)) := Lib.hid ⟨fun W => freshB_any born now life W hbb hnn hll, fun W => refFreshB_any born now life W hbb hnn hll⟩
  generalize freshC born now life = Q at HF
  have HB : Hid (∀ W : World, Calls Tryd.prog 16 #[.agg #[.int .i64 born, .int .u32 0, .int .u32 0, .int .u32 0, .int .u32 0, .int .u32 0, .int .u16 0, .int .u16 0], .int .i64 born, .int .i64 life] W fun e w' => e = .returned (.bool true) ∧ Below W.heap.size W w') := Lib.hid fun W => by
    have e : freshC born born life = true := by simp [freshC]; omega
    exact e ▸ freshB_any born born life W hbb ⟨by omega, by omega⟩ hll
  clear hT hb hn hl
  have hz := zero_cookie
  have t0 : decide (life < 0) = false := by simp; omega
  have t1 : decide (now < born) = false := by simp; omega
  have t2 : decide (born > -9223372036854775808) = false := by simp; omega
  have t3 : decide (born ≥ 0) = false := by simp; omega
  clear h h1 h3 hbb hnn hll
  go_enter Tryd.func7, Tryd.ntmps7
  rw [drawn_eq 2]
  go_wp2_with fail
  generalize w.alloc (.cells #[.int .i64 born, .int .u32 0, .int .u32 0, .int .u32 0, .int .u32 0, .int .u32 0, .int .u16 0, .int .u16 0] 26) = v at K0 B0 ⊢
  rw [← drawn_eq 2]
  refine wp_region_grow_tail 8 (by kernel_rfl) [(Is (.agg #[.int .i64 born, .int .u32 0, .int .u32 0, .int .u32 0, .int .u32 0, .int .u32 0, .int .u16 0, .int .u16 0])), (Is (.int .i64 now)), (Is (.int .i64 life)), (Is (.bool Q)), (Is (.agg #[.int .i64 born, .int .u32 0, .int .u32 0, .int .u32 0, .int .u32 0, .int .u32 0, .int .u16 0, .int .u16 0])), (Is (.int .i64 now)), (Is (.int .i64 life)), (Is (.bool Q))] rfl ?_ (by kernel_rfl) (by kernel_rfl) ?_ ?_
  · intro p hp
    simp only [List.mem_cons, List.not_mem_nil, or_false] at hp
    rcases hp with rfl | rfl | rfl | rfl | rfl | rfl | rfl | rfl
    · exact Lasts.is _
    · exact Lasts.is _
    · exact Lasts.is _
    · exact Lasts.is _
    · exact Lasts.is _
    · exact Lasts.is _
    · exact Lasts.is _
    · exact Lasts.is _
  · refine ⟨?_, ?_, ?_, ?_, ?_, ?_, ?_, ?_, trivial⟩
    · intro listed a w1 hl hc
      have h7 : a.tmps[7]?.getD undef = .pointer (some ⟨w.heap.size, 0, none⟩) := (hc.was 7 (by kernel_rfl)).trans rfl
      have kb := K0.out.below hc.g K0.out.lt
      have x0 : w1.cell? ⟨w.heap.size, 0, none⟩ = some (.int .i64 born) := kb.cell 0
      have x1 : w1.cell? ⟨w.heap.size, 1, none⟩ = some (.int .u32 0) := kb.cell 1
      have x2 : w1.cell? ⟨w.heap.size, 2, none⟩ = some (.int .u32 0) := kb.cell 2
      have x3 : w1.cell? ⟨w.heap.size, 3, none⟩ = some (.int .u32 0) := kb.cell 3
      have x4 : w1.cell? ⟨w.heap.size, 4, none⟩ = some (.int .u32 0) := kb.cell 4
      have x5 : w1.cell? ⟨w.heap.size, 5, none⟩ = some (.int .u32 0) := kb.cell 5
      have x6 : w1.cell? ⟨w.heap.size, 6, none⟩ = some (.int .u16 0) := kb.cell 6
      have x7 : w1.cell? ⟨w.heap.size, 7, none⟩ = some (.int .u16 0) := kb.cell 7
      clear kb
      refine does_value rfl rfl (.agg #[.int .i64 born, .int .u32 0, .int .u32 0, .int .u32 0, .int .u32 0, .int .u32 0, .int .u16 0, .int .u16 0]) w1 ?_ (Below.refl _ _) rfl
      clear hc hl
      go_simp
    · intro listed a w1 hl hc
      have h1 : a.tmps[1]?.getD undef = .int .i64 now := (hc.was 1 (by kernel_rfl)).trans rfl
      refine does_value rfl rfl (.int .i64 now) w1 ?_ (Below.refl _ _) rfl
      clear hc hl
      go_simp
    · intro listed a w1 hl hc
      have h2 : a.tmps[2]?.getD undef = .int .i64 life := (hc.was 2 (by kernel_rfl)).trans rfl
      refine does_value rfl rfl (.int .i64 life) w1 ?_ (Below.refl _ _) rfl
      clear hc hl
      go_simp
    · intro listed a w1 hl hc
      have h10 : a.tmps[10]?.getD undef = .agg #[.int .i64 born, .int .u32 0, .int .u32 0, .int .u32 0, .int .u32 0, .int .u32 0, .int .u16 0, .int .u16 0] := hc.dep hl 0 10 rfl (by kernel_rfl)
      have h11 : a.tmps[11]?.getD undef = .int .i64 now := hc.dep hl 1 11 rfl (by kernel_rfl)
      have h12 : a.tmps[12]?.getD undef = .int .i64 life := hc.dep hl 2 12 rfl (by kernel_rfl)
      refine does_call rfl rfl 16 #[.agg #[.int .i64 born, .int .u32 0, .int .u32 0, .int .u32 0, .int .u32 0, .int .u32 0, .int .u16 0, .int .u16 0], .int .i64 now, .int .i64 life] ?_ ((HF.out.1 w1).mono fun e w' ⟨he, hb⟩ => ⟨_, he, hb, rfl⟩)
      clear hc hl
      go_simp
    · intro listed a w1 hl hc
      have h7 : a.tmps[7]?.getD undef = .pointer (some ⟨w.heap.size, 0, none⟩) := (hc.was 7 (by kernel_rfl)).trans rfl
      have kb := K0.out.below hc.g K0.out.lt
      have x0 : w1.cell? ⟨w.heap.size, 0, none⟩ = some (.int .i64 born) := kb.cell 0
      have x1 : w1.cell? ⟨w.heap.size, 1, none⟩ = some (.int .u32 0) := kb.cell 1
      have x2 : w1.cell? ⟨w.heap.size, 2, none⟩ = some (.int .u32 0) := kb.cell 2
      have x3 : w1.cell? ⟨w.heap.size, 3, none⟩ = some (.int .u32 0) := kb.cell 3
      have x4 : w1.cell? ⟨w.heap.size, 4, none⟩ = some (.int .u32 0) := kb.cell 4
      have x5 : w1.cell? ⟨w.heap.size, 5, none⟩ = some (.int .u32 0) := kb.cell 5
      have x6 : w1.cell? ⟨w.heap.size, 6, none⟩ = some (.int .u16 0) := kb.cell 6
      have x7 : w1.cell? ⟨w.heap.size, 7, none⟩ = some (.int .u16 0) := kb.cell 7
      clear kb
      refine does_value rfl rfl (.agg #[.int .i64 born, .int .u32 0, .int .u32 0, .int .u32 0, .int .u32 0, .int .u32 0, .int .u16 0, .int .u16 0]) w1 ?_ (Below.refl _ _) rfl
      clear hc hl
      go_simp
    · intro listed a w1 hl hc
      have h1 : a.tmps[1]?.getD undef = .int .i64 now := (hc.was 1 (by kernel_rfl)).trans rfl
      refine does_value rfl rfl (.int .i64 now) w1 ?_ (Below.refl _ _) rfl
      clear hc hl
      go_simp
    · intro listed a w1 hl hc
      have h2 : a.tmps[2]?.getD undef = .int .i64 life := (hc.was 2 (by kernel_rfl)).trans rfl
      refine does_value rfl rfl (.int .i64 life) w1 ?_ (Below.refl _ _) rfl
      clear hc hl
      go_simp
    · intro listed a w1 hl hc
      have h14 : a.tmps[14]?.getD undef = .agg #[.int .i64 born, .int .u32 0, .int .u32 0, .int .u32 0, .int .u32 0, .int .u32 0, .int .u16 0, .int .u16 0] := hc.dep hl 4 14 rfl (by kernel_rfl)
      have h15 : a.tmps[15]?.getD undef = .int .i64 now := hc.dep hl 5 15 rfl (by kernel_rfl)
      have h16 : a.tmps[16]?.getD undef = .int .i64 life := hc.dep hl 6 16 rfl (by kernel_rfl)
      refine does_call rfl rfl 17 #[.agg #[.int .i64 born, .int .u32 0, .int .u32 0, .int .u32 0, .int .u32 0, .int .u32 0, .int .u16 0, .int .u16 0], .int .i64 now, .int .i64 life] ?_ ((HF.out.2 w1).mono fun e w' ⟨he, hb⟩ => ⟨_, he, hb, rfl⟩)
      clear hc hl
      go_simp
  intro w2 hb2
  rintro _ rfl _ rfl _ rfl _ rfl _ rfl _ rfl _ rfl _ rfl
  simp only [Thus, List.reverse_cons, List.reverse_nil, List.nil_append, List.cons_append, List.drop, List.take, lay]
  go_frame
  have B2 := Lib.hid (below_then B0.out (Nat.le_refl _) hb2)
  have K2 := Lib.hid (K0.out.below hb2 K0.out.lt)
  clear hb2 K0 B0
  have j0 : w2.cell? ⟨w.heap.size, 0, none⟩ = some (.int .i64 born) := K2.out.cell 0
  have j1 : w2.cell? ⟨w.heap.size, 1, none⟩ = some (.int .u32 0) := K2.out.cell 1
  have j2 : w2.cell? ⟨w.heap.size, 2, none⟩ = some (.int .u32 0) := K2.out.cell 2
  have j3 : w2.cell? ⟨w.heap.size, 3, none⟩ = some (.int .u32 0) := K2.out.cell 3
  have j4 : w2.cell? ⟨w.heap.size, 4, none⟩ = some (.int .u32 0) := K2.out.cell 4
  have j5 : w2.cell? ⟨w.heap.size, 5, none⟩ = some (.int .u32 0) := K2.out.cell 5
  have j6 : w2.cell? ⟨w.heap.size, 6, none⟩ = some (.int .u16 0) := K2.out.cell 6
  have j7 : w2.cell? ⟨w.heap.size, 7, none⟩ = some (.int .u16 0) := K2.out.cell 7
  go_wp2_with fail
  clear j0 j1 j2 j3 j4 j5 j6 j7
  refine (HB.out w2).mono ?_
  rintro e u0 ⟨rfl, hb_⟩
  have Bu0 := Lib.hid (below_then B2.out (Nat.le_refl _) hb_)
  have Ku0 := Lib.hid (K2.out.below hb_ K2.out.lt)
  clear hb_
  go_wp2_with fail
  refine (ckWorks_any u0 (HT.out.below Bu0.out h2)).mono ?_
  rintro e w9 ⟨rfl, hb9⟩
  go_wp2_with fail
  go_ret
  exact ⟨rfl, below_then Bu0.out (Nat.le_refl _) hb9⟩

set_option maxRecDepth 100000 in
set_option maxHeartbeats 4000000 in
theorem cookieFresh_neg (born now life : Int) (w : World) (hT : Tabs w) (hb : (Lit.int .i64 born).wf = true) (hn : (Lit.int .i64 now).wf = true) (hl : (Lit.int .i64 life).wf = true) (h : 0 ≤ life) (h1 : born ≤ now) (h3 : -9223372036854775808 < born) (h4 : born < 0) :
    Calls Tryd.prog 7 #[.int .i64 born, .int .i64 now, .int .i64 life] w fun e w' => e = .returned (.bool true) ∧ Below w.heap.size w w' := by
  have h2 := hT.2.2
  have HT := Lib.hid hT
  have hbb : -9223372036854775808 ≤ born ∧ born ≤ 9223372036854775807 := by simpa [Lit.wf, IntKind.min, IntKind.max, IntKind.signed, IntKind.bits] using hb
  have hnn : -9223372036854775808 ≤ now ∧ now ≤ 9223372036854775807 := by simpa [Lit.wf, IntKind.min, IntKind.max, IntKind.signed, IntKind.bits] using hn
  have hll : -9223372036854775808 ≤ life ∧ life ≤ 9223372036854775807 := by simpa [Lit.wf, IntKind.min, IntKind.max, IntKind.signed, IntKind.bits] using hl
  have K0 := Lib.hid (Blk.new w 26 #[.int .i64 born, .int .u32 0, .int .u32 0, .int .u32 0, .int .u32 0, .int .u32 0, .int .u16 0, .int .u16 0])
  have B0 := Lib.hid (below_new w (.cells #[.int .i64 born, .int .u32 0, .int .u32 0, .int .u32 0, .int .u32 0, .int .u32 0, .int .u16 0, .int .u16 0] 26))
  have HF : Hid (freshR born now life (freshC born now life)) := Lib.hid ⟨fun W => freshB_any born now life W hbb hnn hll, fun W => refFreshB_any born now life W hbb hnn hll⟩
  generalize freshC born now life = Q at HF
  have HB : Hid (∀ W : World, Calls Tryd.prog 16 #[.agg #[.int .i64 born, .int .u32 0, .int .u32 0, .int .u32 0, .int .u32 0, .int .u32 0, .int .u16 0, .int .u16 0], .int .i64 born, .int .i64 life] W fun e w' => e = .returned (.bool true) ∧ Below W.heap.size W w') := Lib.hid fun W => by
    have e : freshC born born life = true := by simp [freshC]; omega
    exact e ▸ freshB_any born born life W hbb ⟨by omega, by omega⟩ hll
  have HM : Hid (∀ W : World, Calls Tryd.prog 16 #[.agg #[.int .i64 born, .int .u32 0, .int .u32 0, .int .u32 0, .int .u32 0, .int .u32 0, .int .u16 0, .int .u16 0], .int .i64 (born - 1), .int .i64 life] W fun e w' => e = .returned (.bool false) ∧ Below W.heap.size W w') := Lib.hid fun W => by
    have e : freshC born (born - 1) life = false := by simp [freshC]; omega
    exact e ▸ freshB_any born (born - 1) life W hbb ⟨by omega, by omega⟩ hll
  clear hT hb hn hl
  have hz := zero_cookie
  have t0 : decide (life < 0) = false := by simp; omega
  have t1 : decide (now < born) = false := by simp; omega
  have t2 : decide (born > -9223372036854775808) = true := by simp; omega
  have t3 : decide (born ≥ 0) = false := by simp; omega
  clear h1 hnn
  go_enter Tryd.func7, Tryd.ntmps7
  rw [drawn_eq 2]
  go_wp2_with fail
  generalize w.alloc (.cells #[.int .i64 born, .int .u32 0, .int .u32 0, .int .u32 0, .int .u32 0, .int .u32 0, .int .u16 0, .int .u16 0] 26) = v at K0 B0 ⊢
  rw [← drawn_eq 2]
  refine wp_region_grow_tail 8 (by kernel_rfl) [(Is (.agg #[.int .i64 born, .int .u32 0, .int .u32 0, .int .u32 0, .int .u32 0, .int .u32 0, .int .u16 0, .int .u16 0])), (Is (.int .i64 now)), (Is (.int .i64 life)), (Is (.bool Q)), (Is (.agg #[.int .i64 born, .int .u32 0, .int .u32 0, .int .u32 0, .int .u32 0, .int .u32 0, .int .u16 0, .int .u16 0])), (Is (.int .i64 now)), (Is (.int .i64 life)), (Is (.bool Q))] rfl ?_ (by kernel_rfl) (by kernel_rfl) ?_ ?_
  · intro p hp
    simp only [List.mem_cons, List.not_mem_nil, or_false] at hp
    rcases hp with rfl | rfl | rfl | rfl | rfl | rfl | rfl | rfl
    · exact Lasts.is _
    · exact Lasts.is _
    · exact Lasts.is _
    · exact Lasts.is _
    · exact Lasts.is _
    · exact Lasts.is _
    · exact Lasts.is _
    · exact Lasts.is _
  · refine ⟨?_, ?_, ?_, ?_, ?_, ?_, ?_, ?_, trivial⟩
    · intro listed a w1 hl hc
      have h7 : a.tmps[7]?.getD undef = .pointer (some ⟨w.heap.size, 0, none⟩) := (hc.was 7 (by kernel_rfl)).trans rfl
      have kb := K0.out.below hc.g K0.out.lt
      have x0 : w1.cell? ⟨w.heap.size, 0, none⟩ = some (.int .i64 born) := kb.cell 0
      have x1 : w1.cell? ⟨w.heap.size, 1, none⟩ = some (.int .u32 0) := kb.cell 1
      have x2 : w1.cell? ⟨w.heap.size, 2, none⟩ = some (.int .u32 0) := kb.cell 2
      have x3 : w1.cell? ⟨w.heap.size, 3, none⟩ = some (.int .u32 0) := kb.cell 3
      have x4 : w1.cell? ⟨w.heap.size, 4, none⟩ = some (.int .u32 0) := kb.cell 4
      have x5 : w1.cell? ⟨w.heap.size, 5, none⟩ = some (.int .u32 0) := kb.cell 5
      have x6 : w1.cell? ⟨w.heap.size, 6, none⟩ = some (.int .u16 0) := kb.cell 6
      have x7 : w1.cell? ⟨w.heap.size, 7, none⟩ = some (.int .u16 0) := kb.cell 7
      clear kb
      refine does_value rfl rfl (.agg #[.int .i64 born, .int .u32 0, .int .u32 0, .int .u32 0, .int .u32 0, .int .u32 0, .int .u16 0, .int .u16 0]) w1 ?_ (Below.refl _ _) rfl
      clear hc hl
      go_simp
    · intro listed a w1 hl hc
      have h1 : a.tmps[1]?.getD undef = .int .i64 now := (hc.was 1 (by kernel_rfl)).trans rfl
      refine does_value rfl rfl (.int .i64 now) w1 ?_ (Below.refl _ _) rfl
      clear hc hl
      go_simp
    · intro listed a w1 hl hc
      have h2 : a.tmps[2]?.getD undef = .int .i64 life := (hc.was 2 (by kernel_rfl)).trans rfl
      refine does_value rfl rfl (.int .i64 life) w1 ?_ (Below.refl _ _) rfl
      clear hc hl
      go_simp
    · intro listed a w1 hl hc
      have h10 : a.tmps[10]?.getD undef = .agg #[.int .i64 born, .int .u32 0, .int .u32 0, .int .u32 0, .int .u32 0, .int .u32 0, .int .u16 0, .int .u16 0] := hc.dep hl 0 10 rfl (by kernel_rfl)
      have h11 : a.tmps[11]?.getD undef = .int .i64 now := hc.dep hl 1 11 rfl (by kernel_rfl)
      have h12 : a.tmps[12]?.getD undef = .int .i64 life := hc.dep hl 2 12 rfl (by kernel_rfl)
      refine does_call rfl rfl 16 #[.agg #[.int .i64 born, .int .u32 0, .int .u32 0, .int .u32 0, .int .u32 0, .int .u32 0, .int .u16 0, .int .u16 0], .int .i64 now, .int .i64 life] ?_ ((HF.out.1 w1).mono fun e w' ⟨he, hb⟩ => ⟨_, he, hb, rfl⟩)
      clear hc hl
      go_simp
    · intro listed a w1 hl hc
      have h7 : a.tmps[7]?.getD undef = .pointer (some ⟨w.heap.size, 0, none⟩) := (hc.was 7 (by kernel_rfl)).trans rfl
      have kb := K0.out.below hc.g K0.out.lt
      have x0 : w1.cell? ⟨w.heap.size, 0, none⟩ = some (.int .i64 born) := kb.cell 0
      have x1 : w1.cell? ⟨w.heap.size, 1, none⟩ = some (.int .u32 0) := kb.cell 1
      have x2 : w1.cell? ⟨w.heap.size, 2, none⟩ = some (.int .u32 0) := kb.cell 2
      have x3 : w1.cell? ⟨w.heap.size, 3, none⟩ = some (.int .u32 0) := kb.cell 3
      have x4 : w1.cell? ⟨w.heap.size, 4, none⟩ = some (.int .u32 0) := kb.cell 4
      have x5 : w1.cell? ⟨w.heap.size, 5, none⟩ = some (.int .u32 0) := kb.cell 5
      have x6 : w1.cell? ⟨w.heap.size, 6, none⟩ = some (.int .u16 0) := kb.cell 6
      have x7 : w1.cell? ⟨w.heap.size, 7, none⟩ = some (.int .u16 0) := kb.cell 7
      clear kb
      refine does_value rfl rfl (.agg #[.int .i64 born, .int .u32 0, .int .u32 0, .int .u32 0, .int .u32 0, .int .u32 0, .int .u16 0, .int .u16 0]) w1 ?_ (Below.refl _ _) rfl
      clear hc hl
      go_simp
    · intro listed a w1 hl hc
      have h1 : a.tmps[1]?.getD undef = .int .i64 now := (hc.was 1 (by kernel_rfl)).trans rfl
      refine does_value rfl rfl (.int .i64 now) w1 ?_ (Below.refl _ _) rfl
      clear hc hl
      go_simp
    · intro listed a w1 hl hc
      have h2 : a.tmps[2]?.getD undef = .int .i64 life := (hc.was 2 (by kernel_rfl)).trans rfl
      refine does_value rfl rfl (.int .i64 life) w1 ?_ (Below.refl _ _) rfl
      clear hc hl
      go_simp
    · intro listed a w1 hl hc
      have h14 : a.tmps[14]?.getD undef = .agg #[.int .i64 born, .int .u32 0, .int .u32 0, .int .u32 0, .int .u32 0, .int .u32 0, .int .u16 0, .int .u16 0] := hc.dep hl 4 14 rfl (by kernel_rfl)
      have h15 : a.tmps[15]?.getD undef = .int .i64 now := hc.dep hl 5 15 rfl (by kernel_rfl)
      have h16 : a.tmps[16]?.getD undef = .int .i64 life := hc.dep hl 6 16 rfl (by kernel_rfl)
      refine does_call rfl rfl 17 #[.agg #[.int .i64 born, .int .u32 0, .int .u32 0, .int .u32 0, .int .u32 0, .int .u32 0, .int .u16 0, .int .u16 0], .int .i64 now, .int .i64 life] ?_ ((HF.out.2 w1).mono fun e w' ⟨he, hb⟩ => ⟨_, he, hb, rfl⟩)
      clear hc hl
      go_simp
  intro w2 hb2
  rintro _ rfl _ rfl _ rfl _ rfl _ rfl _ rfl _ rfl _ rfl
  simp only [Thus, List.reverse_cons, List.reverse_nil, List.nil_append, List.cons_append, List.drop, List.take, lay]
  go_frame
  have B2 := Lib.hid (below_then B0.out (Nat.le_refl _) hb2)
  have K2 := Lib.hid (K0.out.below hb2 K0.out.lt)
  clear hb2 K0 B0
  have j0 : w2.cell? ⟨w.heap.size, 0, none⟩ = some (.int .i64 born) := K2.out.cell 0
  have j1 : w2.cell? ⟨w.heap.size, 1, none⟩ = some (.int .u32 0) := K2.out.cell 1
  have j2 : w2.cell? ⟨w.heap.size, 2, none⟩ = some (.int .u32 0) := K2.out.cell 2
  have j3 : w2.cell? ⟨w.heap.size, 3, none⟩ = some (.int .u32 0) := K2.out.cell 3
  have j4 : w2.cell? ⟨w.heap.size, 4, none⟩ = some (.int .u32 0) := K2.out.cell 4
  have j5 : w2.cell? ⟨w.heap.size, 5, none⟩ = some (.int .u32 0) := K2.out.cell 5
  have j6 : w2.cell? ⟨w.heap.size, 6, none⟩ = some (.int .u16 0) := K2.out.cell 6
  have j7 : w2.cell? ⟨w.heap.size, 7, none⟩ = some (.int .u16 0) := K2.out.cell 7
  go_wp2_with fail
  clear j0 j1 j2 j3 j4 j5 j6 j7
  refine (HB.out w2).mono ?_
  rintro e u0 ⟨rfl, hb_⟩
  have Bu0 := Lib.hid (below_then B2.out (Nat.le_refl _) hb_)
  have Ku0 := Lib.hid (K2.out.below hb_ K2.out.lt)
  clear hb_
  have j0 : u0.cell? ⟨w.heap.size, 0, none⟩ = some (.int .i64 born) := Ku0.out.cell 0
  have j1 : u0.cell? ⟨w.heap.size, 1, none⟩ = some (.int .u32 0) := Ku0.out.cell 1
  have j2 : u0.cell? ⟨w.heap.size, 2, none⟩ = some (.int .u32 0) := Ku0.out.cell 2
  have j3 : u0.cell? ⟨w.heap.size, 3, none⟩ = some (.int .u32 0) := Ku0.out.cell 3
  have j4 : u0.cell? ⟨w.heap.size, 4, none⟩ = some (.int .u32 0) := Ku0.out.cell 4
  have j5 : u0.cell? ⟨w.heap.size, 5, none⟩ = some (.int .u32 0) := Ku0.out.cell 5
  have j6 : u0.cell? ⟨w.heap.size, 6, none⟩ = some (.int .u16 0) := Ku0.out.cell 6
  have j7 : u0.cell? ⟨w.heap.size, 7, none⟩ = some (.int .u16 0) := Ku0.out.cell 7
  go_wp2_with fail
  clear j0 j1 j2 j3 j4 j5 j6 j7
  refine (HM.out u0).mono ?_
  rintro e u1 ⟨rfl, hb_⟩
  have Bu1 := Lib.hid (below_then Bu0.out (Nat.le_refl _) hb_)
  have Ku1 := Lib.hid (Ku0.out.below hb_ Ku0.out.lt)
  clear hb_
  go_wp2_with fail
  refine (ckWorks_any u1 (HT.out.below Bu1.out h2)).mono ?_
  rintro e w9 ⟨rfl, hb9⟩
  go_wp2_with fail
  go_ret
  exact ⟨rfl, below_then Bu1.out (Nat.le_refl _) hb9⟩

set_option maxRecDepth 100000 in
set_option maxHeartbeats 4000000 in
theorem cookieFresh_far (born now life : Int) (w : World) (hT : Tabs w) (hb : (Lit.int .i64 born).wf = true) (hn : (Lit.int .i64 now).wf = true) (hl : (Lit.int .i64 life).wf = true) (h : 0 ≤ life) (h1 : born ≤ now) (h3 : 4611686018427387904 < born) :
    Calls Tryd.prog 7 #[.int .i64 born, .int .i64 now, .int .i64 life] w fun e w' => e = .returned (.bool true) ∧ Below w.heap.size w w' := by
  have h2 := hT.2.2
  have HT := Lib.hid hT
  have hbb : -9223372036854775808 ≤ born ∧ born ≤ 9223372036854775807 := by simpa [Lit.wf, IntKind.min, IntKind.max, IntKind.signed, IntKind.bits] using hb
  have hnn : -9223372036854775808 ≤ now ∧ now ≤ 9223372036854775807 := by simpa [Lit.wf, IntKind.min, IntKind.max, IntKind.signed, IntKind.bits] using hn
  have hll : -9223372036854775808 ≤ life ∧ life ≤ 9223372036854775807 := by simpa [Lit.wf, IntKind.min, IntKind.max, IntKind.signed, IntKind.bits] using hl
  have K0 := Lib.hid (Blk.new w 26 #[.int .i64 born, .int .u32 0, .int .u32 0, .int .u32 0, .int .u32 0, .int .u32 0, .int .u16 0, .int .u16 0])
  have B0 := Lib.hid (below_new w (.cells #[.int .i64 born, .int .u32 0, .int .u32 0, .int .u32 0, .int .u32 0, .int .u32 0, .int .u16 0, .int .u16 0] 26))
  have HF : Hid (freshR born now life (freshC born now life)) := Lib.hid ⟨fun W => freshB_any born now life W hbb hnn hll, fun W => refFreshB_any born now life W hbb hnn hll⟩
  generalize freshC born now life = Q at HF
  have HB : Hid (∀ W : World, Calls Tryd.prog 16 #[.agg #[.int .i64 born, .int .u32 0, .int .u32 0, .int .u32 0, .int .u32 0, .int .u32 0, .int .u16 0, .int .u16 0], .int .i64 born, .int .i64 life] W fun e w' => e = .returned (.bool true) ∧ Below W.heap.size W w') := Lib.hid fun W => by
    have e : freshC born born life = true := by simp [freshC]; omega
    exact e ▸ freshB_any born born life W hbb ⟨by omega, by omega⟩ hll
  have HM : Hid (∀ W : World, Calls Tryd.prog 16 #[.agg #[.int .i64 born, .int .u32 0, .int .u32 0, .int .u32 0, .int .u32 0, .int .u32 0, .int .u16 0, .int .u16 0], .int .i64 (born - 1), .int .i64 life] W fun e w' => e = .returned (.bool false) ∧ Below W.heap.size W w') := Lib.hid fun W => by
    have e : freshC born (born - 1) life = false := by simp [freshC]; omega
    exact e ▸ freshB_any born (born - 1) life W hbb ⟨by omega, by omega⟩ hll
  clear hT hb hn hl
  have hz := zero_cookie
  have t0 : decide (life < 0) = false := by simp; omega
  have t1 : decide (now < born) = false := by simp; omega
  have t2 : decide (born > -9223372036854775808) = true := by simp; omega
  have t3 : decide (born ≥ 0) = true := by simp; omega
  have t4 : decide (born ≤ 4611686018427387904) = false := by simp; omega
  clear h1 hnn
  go_enter Tryd.func7, Tryd.ntmps7
  rw [drawn_eq 2]
  go_wp2_with fail
  generalize w.alloc (.cells #[.int .i64 born, .int .u32 0, .int .u32 0, .int .u32 0, .int .u32 0, .int .u32 0, .int .u16 0, .int .u16 0] 26) = v at K0 B0 ⊢
  rw [← drawn_eq 2]
  refine wp_region_grow_tail 8 (by kernel_rfl) [(Is (.agg #[.int .i64 born, .int .u32 0, .int .u32 0, .int .u32 0, .int .u32 0, .int .u32 0, .int .u16 0, .int .u16 0])), (Is (.int .i64 now)), (Is (.int .i64 life)), (Is (.bool Q)), (Is (.agg #[.int .i64 born, .int .u32 0, .int .u32 0, .int .u32 0, .int .u32 0, .int .u32 0, .int .u16 0, .int .u16 0])), (Is (.int .i64 now)), (Is (.int .i64 life)), (Is (.bool Q))] rfl ?_ (by kernel_rfl) (by kernel_rfl) ?_ ?_
  · intro p hp
    simp only [List.mem_cons, List.not_mem_nil, or_false] at hp
    rcases hp with rfl | rfl | rfl | rfl | rfl | rfl | rfl | rfl
    · exact Lasts.is _
    · exact Lasts.is _
    · exact Lasts.is _
    · exact Lasts.is _
    · exact Lasts.is _
    · exact Lasts.is _
    · exact Lasts.is _
    · exact Lasts.is _
  · refine ⟨?_, ?_, ?_, ?_, ?_, ?_, ?_, ?_, trivial⟩
    · intro listed a w1 hl hc
      have h7 : a.tmps[7]?.getD undef = .pointer (some ⟨w.heap.size, 0, none⟩) := (hc.was 7 (by kernel_rfl)).trans rfl
      have kb := K0.out.below hc.g K0.out.lt
      have x0 : w1.cell? ⟨w.heap.size, 0, none⟩ = some (.int .i64 born) := kb.cell 0
      have x1 : w1.cell? ⟨w.heap.size, 1, none⟩ = some (.int .u32 0) := kb.cell 1
      have x2 : w1.cell? ⟨w.heap.size, 2, none⟩ = some (.int .u32 0) := kb.cell 2
      have x3 : w1.cell? ⟨w.heap.size, 3, none⟩ = some (.int .u32 0) := kb.cell 3
      have x4 : w1.cell? ⟨w.heap.size, 4, none⟩ = some (.int .u32 0) := kb.cell 4
      have x5 : w1.cell? ⟨w.heap.size, 5, none⟩ = some (.int .u32 0) := kb.cell 5
      have x6 : w1.cell? ⟨w.heap.size, 6, none⟩ = some (.int .u16 0) := kb.cell 6
      have x7 : w1.cell? ⟨w.heap.size, 7, none⟩ = some (.int .u16 0) := kb.cell 7
      clear kb
      refine does_value rfl rfl (.agg #[.int .i64 born, .int .u32 0, .int .u32 0, .int .u32 0, .int .u32 0, .int .u32 0, .int .u16 0, .int .u16 0]) w1 ?_ (Below.refl _ _) rfl
      clear hc hl
      go_simp
    · intro listed a w1 hl hc
      have h1 : a.tmps[1]?.getD undef = .int .i64 now := (hc.was 1 (by kernel_rfl)).trans rfl
      refine does_value rfl rfl (.int .i64 now) w1 ?_ (Below.refl _ _) rfl
      clear hc hl
      go_simp
    · intro listed a w1 hl hc
      have h2 : a.tmps[2]?.getD undef = .int .i64 life := (hc.was 2 (by kernel_rfl)).trans rfl
      refine does_value rfl rfl (.int .i64 life) w1 ?_ (Below.refl _ _) rfl
      clear hc hl
      go_simp
    · intro listed a w1 hl hc
      have h10 : a.tmps[10]?.getD undef = .agg #[.int .i64 born, .int .u32 0, .int .u32 0, .int .u32 0, .int .u32 0, .int .u32 0, .int .u16 0, .int .u16 0] := hc.dep hl 0 10 rfl (by kernel_rfl)
      have h11 : a.tmps[11]?.getD undef = .int .i64 now := hc.dep hl 1 11 rfl (by kernel_rfl)
      have h12 : a.tmps[12]?.getD undef = .int .i64 life := hc.dep hl 2 12 rfl (by kernel_rfl)
      refine does_call rfl rfl 16 #[.agg #[.int .i64 born, .int .u32 0, .int .u32 0, .int .u32 0, .int .u32 0, .int .u32 0, .int .u16 0, .int .u16 0], .int .i64 now, .int .i64 life] ?_ ((HF.out.1 w1).mono fun e w' ⟨he, hb⟩ => ⟨_, he, hb, rfl⟩)
      clear hc hl
      go_simp
    · intro listed a w1 hl hc
      have h7 : a.tmps[7]?.getD undef = .pointer (some ⟨w.heap.size, 0, none⟩) := (hc.was 7 (by kernel_rfl)).trans rfl
      have kb := K0.out.below hc.g K0.out.lt
      have x0 : w1.cell? ⟨w.heap.size, 0, none⟩ = some (.int .i64 born) := kb.cell 0
      have x1 : w1.cell? ⟨w.heap.size, 1, none⟩ = some (.int .u32 0) := kb.cell 1
      have x2 : w1.cell? ⟨w.heap.size, 2, none⟩ = some (.int .u32 0) := kb.cell 2
      have x3 : w1.cell? ⟨w.heap.size, 3, none⟩ = some (.int .u32 0) := kb.cell 3
      have x4 : w1.cell? ⟨w.heap.size, 4, none⟩ = some (.int .u32 0) := kb.cell 4
      have x5 : w1.cell? ⟨w.heap.size, 5, none⟩ = some (.int .u32 0) := kb.cell 5
      have x6 : w1.cell? ⟨w.heap.size, 6, none⟩ = some (.int .u16 0) := kb.cell 6
      have x7 : w1.cell? ⟨w.heap.size, 7, none⟩ = some (.int .u16 0) := kb.cell 7
      clear kb
      refine does_value rfl rfl (.agg #[.int .i64 born, .int .u32 0, .int .u32 0, .int .u32 0, .int .u32 0, .int .u32 0, .int .u16 0, .int .u16 0]) w1 ?_ (Below.refl _ _) rfl
      clear hc hl
      go_simp
    · intro listed a w1 hl hc
      have h1 : a.tmps[1]?.getD undef = .int .i64 now := (hc.was 1 (by kernel_rfl)).trans rfl
      refine does_value rfl rfl (.int .i64 now) w1 ?_ (Below.refl _ _) rfl
      clear hc hl
      go_simp
    · intro listed a w1 hl hc
      have h2 : a.tmps[2]?.getD undef = .int .i64 life := (hc.was 2 (by kernel_rfl)).trans rfl
      refine does_value rfl rfl (.int .i64 life) w1 ?_ (Below.refl _ _) rfl
      clear hc hl
      go_simp
    · intro listed a w1 hl hc
      have h14 : a.tmps[14]?.getD undef = .agg #[.int .i64 born, .int .u32 0, .int .u32 0, .int .u32 0, .int .u32 0, .int .u32 0, .int .u16 0, .int .u16 0] := hc.dep hl 4 14 rfl (by kernel_rfl)
      have h15 : a.tmps[15]?.getD undef = .int .i64 now := hc.dep hl 5 15 rfl (by kernel_rfl)
      have h16 : a.tmps[16]?.getD undef = .int .i64 life := hc.dep hl 6 16 rfl (by kernel_rfl)
      refine does_call rfl rfl 17 #[.agg #[.int .i64 born, .int .u32 0, .int .u32 0, .int .u32 0, .int .u32 0, .int .u32 0, .int .u16 0, .int .u16 0], .int .i64 now, .int .i64 life] ?_ ((HF.out.2 w1).mono fun e w' ⟨he, hb⟩ => ⟨_, he, hb, rfl⟩)
      clear hc hl
      go_simp
  intro w2 hb2
  rintro _ rfl _ rfl _ rfl _ rfl _ rfl _ rfl _ rfl _ rfl
  simp only [Thus, List.reverse_cons, List.reverse_nil, List.nil_append, List.cons_append, List.drop, List.take, lay]
  go_frame
  have B2 := Lib.hid (below_then B0.out (Nat.le_refl _) hb2)
  have K2 := Lib.hid (K0.out.below hb2 K0.out.lt)
  clear hb2 K0 B0
  have j0 : w2.cell? ⟨w.heap.size, 0, none⟩ = some (.int .i64 born) := K2.out.cell 0
  have j1 : w2.cell? ⟨w.heap.size, 1, none⟩ = some (.int .u32 0) := K2.out.cell 1
  have j2 : w2.cell? ⟨w.heap.size, 2, none⟩ = some (.int .u32 0) := K2.out.cell 2
  have j3 : w2.cell? ⟨w.heap.size, 3, none⟩ = some (.int .u32 0) := K2.out.cell 3
  have j4 : w2.cell? ⟨w.heap.size, 4, none⟩ = some (.int .u32 0) := K2.out.cell 4
  have j5 : w2.cell? ⟨w.heap.size, 5, none⟩ = some (.int .u32 0) := K2.out.cell 5
  have j6 : w2.cell? ⟨w.heap.size, 6, none⟩ = some (.int .u16 0) := K2.out.cell 6
  have j7 : w2.cell? ⟨w.heap.size, 7, none⟩ = some (.int .u16 0) := K2.out.cell 7
  go_wp2_with fail
  clear j0 j1 j2 j3 j4 j5 j6 j7
  refine (HB.out w2).mono ?_
  rintro e u0 ⟨rfl, hb_⟩
  have Bu0 := Lib.hid (below_then B2.out (Nat.le_refl _) hb_)
  have Ku0 := Lib.hid (K2.out.below hb_ K2.out.lt)
  clear hb_
  have j0 : u0.cell? ⟨w.heap.size, 0, none⟩ = some (.int .i64 born) := Ku0.out.cell 0
  have j1 : u0.cell? ⟨w.heap.size, 1, none⟩ = some (.int .u32 0) := Ku0.out.cell 1
  have j2 : u0.cell? ⟨w.heap.size, 2, none⟩ = some (.int .u32 0) := Ku0.out.cell 2
  have j3 : u0.cell? ⟨w.heap.size, 3, none⟩ = some (.int .u32 0) := Ku0.out.cell 3
  have j4 : u0.cell? ⟨w.heap.size, 4, none⟩ = some (.int .u32 0) := Ku0.out.cell 4
  have j5 : u0.cell? ⟨w.heap.size, 5, none⟩ = some (.int .u32 0) := Ku0.out.cell 5
  have j6 : u0.cell? ⟨w.heap.size, 6, none⟩ = some (.int .u16 0) := Ku0.out.cell 6
  have j7 : u0.cell? ⟨w.heap.size, 7, none⟩ = some (.int .u16 0) := Ku0.out.cell 7
  go_wp2_with fail
  clear j0 j1 j2 j3 j4 j5 j6 j7
  refine (HM.out u0).mono ?_
  rintro e u1 ⟨rfl, hb_⟩
  have Bu1 := Lib.hid (below_then Bu0.out (Nat.le_refl _) hb_)
  have Ku1 := Lib.hid (Ku0.out.below hb_ Ku0.out.lt)
  clear hb_
  go_wp2_with fail
  refine (ckWorks_any u1 (HT.out.below Bu1.out h2)).mono ?_
  rintro e w9 ⟨rfl, hb9⟩
  go_wp2_with fail
  go_ret
  exact ⟨rfl, below_then Bu1.out (Nat.le_refl _) hb9⟩

set_option maxRecDepth 100000 in
set_option maxHeartbeats 4000000 in
theorem cookieFresh_long (born now life : Int) (w : World) (hT : Tabs w) (hb : (Lit.int .i64 born).wf = true) (hn : (Lit.int .i64 now).wf = true) (hl : (Lit.int .i64 life).wf = true) (h : 0 ≤ life) (h1 : born ≤ now) (h3 : 0 ≤ born) (h4 : born ≤ 4611686018427387904) (h5 : 4611686018427387904 ≤ life) :
    Calls Tryd.prog 7 #[.int .i64 born, .int .i64 now, .int .i64 life] w fun e w' => e = .returned (.bool true) ∧ Below w.heap.size w w' := by
  have h2 := hT.2.2
  have HT := Lib.hid hT
  have hbb : -9223372036854775808 ≤ born ∧ born ≤ 9223372036854775807 := by simpa [Lit.wf, IntKind.min, IntKind.max, IntKind.signed, IntKind.bits] using hb
  have hnn : -9223372036854775808 ≤ now ∧ now ≤ 9223372036854775807 := by simpa [Lit.wf, IntKind.min, IntKind.max, IntKind.signed, IntKind.bits] using hn
  have hll : -9223372036854775808 ≤ life ∧ life ≤ 9223372036854775807 := by simpa [Lit.wf, IntKind.min, IntKind.max, IntKind.signed, IntKind.bits] using hl
  have K0 := Lib.hid (Blk.new w 26 #[.int .i64 born, .int .u32 0, .int .u32 0, .int .u32 0, .int .u32 0, .int .u32 0, .int .u16 0, .int .u16 0])
  have B0 := Lib.hid (below_new w (.cells #[.int .i64 born, .int .u32 0, .int .u32 0, .int .u32 0, .int .u32 0, .int .u32 0, .int .u16 0, .int .u16 0] 26))
  have HF : Hid (freshR born now life (freshC born now life)) := Lib.hid ⟨fun W => freshB_any born now life W hbb hnn hll, fun W => refFreshB_any born now life W hbb hnn hll⟩
  generalize freshC born now life = Q at HF
  have HB : Hid (∀ W : World, Calls Tryd.prog 16 #[.agg #[.int .i64 born, .int .u32 0, .int .u32 0, .int .u32 0, .int .u32 0, .int .u32 0, .int .u16 0, .int .u16 0], .int .i64 born, .int .i64 life] W fun e w' => e = .returned (.bool true) ∧ Below W.heap.size W w') := Lib.hid fun W => by
    have e : freshC born born life = true := by simp [freshC]; omega
    exact e ▸ freshB_any born born life W hbb ⟨by omega, by omega⟩ hll
  have HM : Hid (∀ W : World, Calls Tryd.prog 16 #[.agg #[.int .i64 born, .int .u32 0, .int .u32 0, .int .u32 0, .int .u32 0, .int .u32 0, .int .u16 0, .int .u16 0], .int .i64 (born - 1), .int .i64 life] W fun e w' => e = .returned (.bool false) ∧ Below W.heap.size W w') := Lib.hid fun W => by
    have e : freshC born (born - 1) life = false := by simp [freshC]; omega
    exact e ▸ freshB_any born (born - 1) life W hbb ⟨by omega, by omega⟩ hll
  clear hT hb hn hl
  have hz := zero_cookie
  have t0 : decide (life < 0) = false := by simp; omega
  have t1 : decide (now < born) = false := by simp; omega
  have t2 : decide (born > -9223372036854775808) = true := by simp; omega
  have t3 : decide (born ≥ 0) = true := by simp; omega
  have t4 : decide (born ≤ 4611686018427387904) = true := by simp; omega
  have t5 : decide (life < 4611686018427387904) = false := by simp; omega
  clear h1 hnn
  go_enter Tryd.func7, Tryd.ntmps7
  rw [drawn_eq 2]
  go_wp2_with fail
  generalize w.alloc (.cells #[.int .i64 born, .int .u32 0, .int .u32 0, .int .u32 0, .int .u32 0, .int .u32 0, .int .u16 0, .int .u16 0] 26) = v at K0 B0 ⊢
  rw [← drawn_eq 2]
  refine wp_region_grow_tail 8 (by kernel_rfl) [(Is (.agg #[.int .i64 born, .int .u32 0, .int .u32 0, .int .u32 0, .int .u32 0, .int .u32 0, .int .u16 0, .int .u16 0])), (Is (.int .i64 now)), (Is (.int .i64 life)), (Is (.bool Q)), (Is (.agg #[.int .i64 born, .int .u32 0, .int .u32 0, .int .u32 0, .int .u32 0, .int .u32 0, .int .u16 0, .int .u16 0])), (Is (.int .i64 now)), (Is (.int .i64 life)), (Is (.bool Q))] rfl ?_ (by kernel_rfl) (by kernel_rfl) ?_ ?_
  · intro p hp
    simp only [List.mem_cons, List.not_mem_nil, or_false] at hp
    rcases hp with rfl | rfl | rfl | rfl | rfl | rfl | rfl | rfl
    · exact Lasts.is _
    · exact Lasts.is _
    · exact Lasts.is _
    · exact Lasts.is _
    · exact Lasts.is _
    · exact Lasts.is _
    · exact Lasts.is _
    · exact Lasts.is _
  · refine ⟨?_, ?_, ?_, ?_, ?_, ?_, ?_, ?_, trivial⟩
    · intro listed a w1 hl hc
      have h7 : a.tmps[7]?.getD undef = .pointer (some ⟨w.heap.size, 0, none⟩) := (hc.was 7 (by kernel_rfl)).trans rfl
      have kb := K0.out.below hc.g K0.out.lt
      have x0 : w1.cell? ⟨w.heap.size, 0, none⟩ = some (.int .i64 born) := kb.cell 0
      have x1 : w1.cell? ⟨w.heap.size, 1, none⟩ = some (.int .u32 0) := kb.cell 1
      have x2 : w1.cell? ⟨w.heap.size, 2, none⟩ = some (.int .u32 0) := kb.cell 2
      have x3 : w1.cell? ⟨w.heap.size, 3, none⟩ = some (.int .u32 0) := kb.cell 3
      have x4 : w1.cell? ⟨w.heap.size, 4, none⟩ = some (.int .u32 0) := kb.cell 4
      have x5 : w1.cell? ⟨w.heap.size, 5, none⟩ = some (.int .u32 0) := kb.cell 5
      have x6 : w1.cell? ⟨w.heap.size, 6, none⟩ = some (.int .u16 0) := kb.cell 6
      have x7 : w1.cell? ⟨w.heap.size, 7, none⟩ = some (.int .u16 0) := kb.cell 7
      clear kb
      refine does_value rfl rfl (.agg #[.int .i64 born, .int .u32 0, .int .u32 0, .int .u32 0, .int .u32 0, .int .u32 0, .int .u16 0, .int .u16 0]) w1 ?_ (Below.refl _ _) rfl
      clear hc hl
      go_simp
    · intro listed a w1 hl hc
      have h1 : a.tmps[1]?.getD undef = .int .i64 now := (hc.was 1 (by kernel_rfl)).trans rfl
      refine does_value rfl rfl (.int .i64 now) w1 ?_ (Below.refl _ _) rfl
      clear hc hl
      go_simp
    · intro listed a w1 hl hc
      have h2 : a.tmps[2]?.getD undef = .int .i64 life := (hc.was 2 (by kernel_rfl)).trans rfl
      refine does_value rfl rfl (.int .i64 life) w1 ?_ (Below.refl _ _) rfl
      clear hc hl
      go_simp
    · intro listed a w1 hl hc
      have h10 : a.tmps[10]?.getD undef = .agg #[.int .i64 born, .int .u32 0, .int .u32 0, .int .u32 0, .int .u32 0, .int .u32 0, .int .u16 0, .int .u16 0] := hc.dep hl 0 10 rfl (by kernel_rfl)
      have h11 : a.tmps[11]?.getD undef = .int .i64 now := hc.dep hl 1 11 rfl (by kernel_rfl)
      have h12 : a.tmps[12]?.getD undef = .int .i64 life := hc.dep hl 2 12 rfl (by kernel_rfl)
      refine does_call rfl rfl 16 #[.agg #[.int .i64 born, .int .u32 0, .int .u32 0, .int .u32 0, .int .u32 0, .int .u32 0, .int .u16 0, .int .u16 0], .int .i64 now, .int .i64 life] ?_ ((HF.out.1 w1).mono fun e w' ⟨he, hb⟩ => ⟨_, he, hb, rfl⟩)
      clear hc hl
      go_simp
    · intro listed a w1 hl hc
      have h7 : a.tmps[7]?.getD undef = .pointer (some ⟨w.heap.size, 0, none⟩) := (hc.was 7 (by kernel_rfl)).trans rfl
      have kb := K0.out.below hc.g K0.out.lt
      have x0 : w1.cell? ⟨w.heap.size, 0, none⟩ = some (.int .i64 born) := kb.cell 0
      have x1 : w1.cell? ⟨w.heap.size, 1, none⟩ = some (.int .u32 0) := kb.cell 1
      have x2 : w1.cell? ⟨w.heap.size, 2, none⟩ = some (.int .u32 0) := kb.cell 2
      have x3 : w1.cell? ⟨w.heap.size, 3, none⟩ = some (.int .u32 0) := kb.cell 3
      have x4 : w1.cell? ⟨w.heap.size, 4, none⟩ = some (.int .u32 0) := kb.cell 4
      have x5 : w1.cell? ⟨w.heap.size, 5, none⟩ = some (.int .u32 0) := kb.cell 5
      have x6 : w1.cell? ⟨w.heap.size, 6, none⟩ = some (.int .u16 0) := kb.cell 6
      have x7 : w1.cell? ⟨w.heap.size, 7, none⟩ = some (.int .u16 0) := kb.cell 7
      clear kb
      refine does_value rfl rfl (.agg #[.int .i64 born, .int .u32 0, .int .u32 0, .int .u32 0, .int .u32 0, .int .u32 0, .int .u16 0, .int .u16 0]) w1 ?_ (Below.refl _ _) rfl
      clear hc hl
      go_simp
    · intro listed a w1 hl hc
      have h1 : a.tmps[1]?.getD undef = .int .i64 now := (hc.was 1 (by kernel_rfl)).trans rfl
      refine does_value rfl rfl (.int .i64 now) w1 ?_ (Below.refl _ _) rfl
      clear hc hl
      go_simp
    · intro listed a w1 hl hc
      have h2 : a.tmps[2]?.getD undef = .int .i64 life := (hc.was 2 (by kernel_rfl)).trans rfl
      refine does_value rfl rfl (.int .i64 life) w1 ?_ (Below.refl _ _) rfl
      clear hc hl
      go_simp
    · intro listed a w1 hl hc
      have h14 : a.tmps[14]?.getD undef = .agg #[.int .i64 born, .int .u32 0, .int .u32 0, .int .u32 0, .int .u32 0, .int .u32 0, .int .u16 0, .int .u16 0] := hc.dep hl 4 14 rfl (by kernel_rfl)
      have h15 : a.tmps[15]?.getD undef = .int .i64 now := hc.dep hl 5 15 rfl (by kernel_rfl)
      have h16 : a.tmps[16]?.getD undef = .int .i64 life := hc.dep hl 6 16 rfl (by kernel_rfl)
      refine does_call rfl rfl 17 #[.agg #[.int .i64 born, .int .u32 0, .int .u32 0, .int .u32 0, .int .u32 0, .int .u32 0, .int .u16 0, .int .u16 0], .int .i64 now, .int .i64 life] ?_ ((HF.out.2 w1).mono fun e w' ⟨he, hb⟩ => ⟨_, he, hb, rfl⟩)
      clear hc hl
      go_simp
  intro w2 hb2
  rintro _ rfl _ rfl _ rfl _ rfl _ rfl _ rfl _ rfl _ rfl
  simp only [Thus, List.reverse_cons, List.reverse_nil, List.nil_append, List.cons_append, List.drop, List.take, lay]
  go_frame
  have B2 := Lib.hid (below_then B0.out (Nat.le_refl _) hb2)
  have K2 := Lib.hid (K0.out.below hb2 K0.out.lt)
  clear hb2 K0 B0
  have j0 : w2.cell? ⟨w.heap.size, 0, none⟩ = some (.int .i64 born) := K2.out.cell 0
  have j1 : w2.cell? ⟨w.heap.size, 1, none⟩ = some (.int .u32 0) := K2.out.cell 1
  have j2 : w2.cell? ⟨w.heap.size, 2, none⟩ = some (.int .u32 0) := K2.out.cell 2
  have j3 : w2.cell? ⟨w.heap.size, 3, none⟩ = some (.int .u32 0) := K2.out.cell 3
  have j4 : w2.cell? ⟨w.heap.size, 4, none⟩ = some (.int .u32 0) := K2.out.cell 4
  have j5 : w2.cell? ⟨w.heap.size, 5, none⟩ = some (.int .u32 0) := K2.out.cell 5
  have j6 : w2.cell? ⟨w.heap.size, 6, none⟩ = some (.int .u16 0) := K2.out.cell 6
  have j7 : w2.cell? ⟨w.heap.size, 7, none⟩ = some (.int .u16 0) := K2.out.cell 7
  go_wp2_with fail
  clear j0 j1 j2 j3 j4 j5 j6 j7
  refine (HB.out w2).mono ?_
  rintro e u0 ⟨rfl, hb_⟩
  have Bu0 := Lib.hid (below_then B2.out (Nat.le_refl _) hb_)
  have Ku0 := Lib.hid (K2.out.below hb_ K2.out.lt)
  clear hb_
  have j0 : u0.cell? ⟨w.heap.size, 0, none⟩ = some (.int .i64 born) := Ku0.out.cell 0
  have j1 : u0.cell? ⟨w.heap.size, 1, none⟩ = some (.int .u32 0) := Ku0.out.cell 1
  have j2 : u0.cell? ⟨w.heap.size, 2, none⟩ = some (.int .u32 0) := Ku0.out.cell 2
  have j3 : u0.cell? ⟨w.heap.size, 3, none⟩ = some (.int .u32 0) := Ku0.out.cell 3
  have j4 : u0.cell? ⟨w.heap.size, 4, none⟩ = some (.int .u32 0) := Ku0.out.cell 4
  have j5 : u0.cell? ⟨w.heap.size, 5, none⟩ = some (.int .u32 0) := Ku0.out.cell 5
  have j6 : u0.cell? ⟨w.heap.size, 6, none⟩ = some (.int .u16 0) := Ku0.out.cell 6
  have j7 : u0.cell? ⟨w.heap.size, 7, none⟩ = some (.int .u16 0) := Ku0.out.cell 7
  go_wp2_with fail
  clear j0 j1 j2 j3 j4 j5 j6 j7
  refine (HM.out u0).mono ?_
  rintro e u1 ⟨rfl, hb_⟩
  have Bu1 := Lib.hid (below_then Bu0.out (Nat.le_refl _) hb_)
  have Ku1 := Lib.hid (Ku0.out.below hb_ Ku0.out.lt)
  clear hb_
  go_wp2_with fail
  refine (ckWorks_any u1 (HT.out.below Bu1.out h2)).mono ?_
  rintro e w9 ⟨rfl, hb9⟩
  go_wp2_with fail
  go_ret
  exact ⟨rfl, below_then Bu1.out (Nat.le_refl _) hb9⟩

set_option maxRecDepth 100000 in
set_option maxHeartbeats 4000000 in
theorem cookieFresh_all (born now life : Int) (w : World) (hT : Tabs w) (hb : (Lit.int .i64 born).wf = true) (hn : (Lit.int .i64 now).wf = true) (hl : (Lit.int .i64 life).wf = true) (h : 0 ≤ life) (h1 : born ≤ now) (h3 : 0 ≤ born) (h4 : born ≤ 4611686018427387904) (h5 : life < 4611686018427387904) (h6 : born + life < 9223372036854775807) :
    Calls Tryd.prog 7 #[.int .i64 born, .int .i64 now, .int .i64 life] w fun e w' => e = .returned (.bool true) ∧ Below w.heap.size w w' := by
  have h2 := hT.2.2
  have HT := Lib.hid hT
  have hbb : -9223372036854775808 ≤ born ∧ born ≤ 9223372036854775807 := by simpa [Lit.wf, IntKind.min, IntKind.max, IntKind.signed, IntKind.bits] using hb
  have hnn : -9223372036854775808 ≤ now ∧ now ≤ 9223372036854775807 := by simpa [Lit.wf, IntKind.min, IntKind.max, IntKind.signed, IntKind.bits] using hn
  have hll : -9223372036854775808 ≤ life ∧ life ≤ 9223372036854775807 := by simpa [Lit.wf, IntKind.min, IntKind.max, IntKind.signed, IntKind.bits] using hl
  have K0 := Lib.hid (Blk.new w 26 #[.int .i64 born, .int .u32 0, .int .u32 0, .int .u32 0, .int .u32 0, .int .u32 0, .int .u16 0, .int .u16 0])
  have B0 := Lib.hid (below_new w (.cells #[.int .i64 born, .int .u32 0, .int .u32 0, .int .u32 0, .int .u32 0, .int .u32 0, .int .u16 0, .int .u16 0] 26))
  have HF : Hid (freshR born now life (freshC born now life)) := Lib.hid ⟨fun W => freshB_any born now life W hbb hnn hll, fun W => refFreshB_any born now life W hbb hnn hll⟩
  generalize freshC born now life = Q at HF
  have HB : Hid (∀ W : World, Calls Tryd.prog 16 #[.agg #[.int .i64 born, .int .u32 0, .int .u32 0, .int .u32 0, .int .u32 0, .int .u32 0, .int .u16 0, .int .u16 0], .int .i64 born, .int .i64 life] W fun e w' => e = .returned (.bool true) ∧ Below W.heap.size W w') := Lib.hid fun W => by
    have e : freshC born born life = true := by simp [freshC]; omega
    exact e ▸ freshB_any born born life W hbb ⟨by omega, by omega⟩ hll
  have HM : Hid (∀ W : World, Calls Tryd.prog 16 #[.agg #[.int .i64 born, .int .u32 0, .int .u32 0, .int .u32 0, .int .u32 0, .int .u32 0, .int .u16 0, .int .u16 0], .int .i64 (born - 1), .int .i64 life] W fun e w' => e = .returned (.bool false) ∧ Below W.heap.size W w') := Lib.hid fun W => by
    have e : freshC born (born - 1) life = false := by simp [freshC]; omega
    exact e ▸ freshB_any born (born - 1) life W hbb ⟨by omega, by omega⟩ hll
  have HP : Hid (∀ W : World, Calls Tryd.prog 16 #[.agg #[.int .i64 born, .int .u32 0, .int .u32 0, .int .u32 0, .int .u32 0, .int .u32 0, .int .u16 0, .int .u16 0], .int .i64 (born + life), .int .i64 life] W fun e w' => e = .returned (.bool true) ∧ Below W.heap.size W w') := Lib.hid fun W => by
    have e : freshC born (born + life) life = true := by simp [freshC]; omega
    exact e ▸ freshB_any born (born + life) life W hbb ⟨by omega, by omega⟩ hll
  have HQ : Hid (∀ W : World, Calls Tryd.prog 16 #[.agg #[.int .i64 born, .int .u32 0, .int .u32 0, .int .u32 0, .int .u32 0, .int .u32 0, .int .u16 0, .int .u16 0], .int .i64 (born + life + 1), .int .i64 life] W fun e w' => e = .returned (.bool false) ∧ Below W.heap.size W w') := Lib.hid fun W => by
    have e : freshC born (born + life + 1) life = false := by simp [freshC]; omega
    exact e ▸ freshB_any born (born + life + 1) life W hbb ⟨by omega, by omega⟩ hll
  clear hT hb hn hl
  have hz := zero_cookie
  have t0 : decide (life < 0) = false := by simp; omega
  have t1 : decide (now < born) = false := by simp; omega
  have t2 : decide (born > -9223372036854775808) = true := by simp; omega
  have t3 : decide (born ≥ 0) = true := by simp; omega
  have t4 : decide (born ≤ 4611686018427387904) = true := by simp; omega
  have t5 : decide (life < 4611686018427387904) = true := by simp; omega
  clear h1 hnn
  go_enter Tryd.func7, Tryd.ntmps7
  rw [drawn_eq 2]
  go_wp2_with fail
  generalize w.alloc (.cells #[.int .i64 born, .int .u32 0, .int .u32 0, .int .u32 0, .int .u32 0, .int .u32 0, .int .u16 0, .int .u16 0] 26) = v at K0 B0 ⊢
  rw [← drawn_eq 2]
  refine wp_region_grow_tail 8 (by kernel_rfl) [(Is (.agg #[.int .i64 born, .int .u32 0, .int .u32 0, .int .u32 0, .int .u32 0, .int .u32 0, .int .u16 0, .int .u16 0])), (Is (.int .i64 now)), (Is (.int .i64 life)), (Is (.bool Q)), (Is (.agg #[.int .i64 born, .int .u32 0, .int .u32 0, .int .u32 0, .int .u32 0, .int .u32 0, .int .u16 0, .int .u16 0])), (Is (.int .i64 now)), (Is (.int .i64 life)), (Is (.bool Q))] rfl ?_ (by kernel_rfl) (by kernel_rfl) ?_ ?_
  · intro p hp
    simp only [List.mem_cons, List.not_mem_nil, or_false] at hp
    rcases hp with rfl | rfl | rfl | rfl | rfl | rfl | rfl | rfl
    · exact Lasts.is _
    · exact Lasts.is _
    · exact Lasts.is _
    · exact Lasts.is _
    · exact Lasts.is _
    · exact Lasts.is _
    · exact Lasts.is _
    · exact Lasts.is _
  · refine ⟨?_, ?_, ?_, ?_, ?_, ?_, ?_, ?_, trivial⟩
    · intro listed a w1 hl hc
      have h7 : a.tmps[7]?.getD undef = .pointer (some ⟨w.heap.size, 0, none⟩) := (hc.was 7 (by kernel_rfl)).trans rfl
      have kb := K0.out.below hc.g K0.out.lt
      have x0 : w1.cell? ⟨w.heap.size, 0, none⟩ = some (.int .i64 born) := kb.cell 0
      have x1 : w1.cell? ⟨w.heap.size, 1, none⟩ = some (.int .u32 0) := kb.cell 1
      have x2 : w1.cell? ⟨w.heap.size, 2, none⟩ = some (.int .u32 0) := kb.cell 2
      have x3 : w1.cell? ⟨w.heap.size, 3, none⟩ = some (.int .u32 0) := kb.cell 3
      have x4 : w1.cell? ⟨w.heap.size, 4, none⟩ = some (.int .u32 0) := kb.cell 4
      have x5 : w1.cell? ⟨w.heap.size, 5, none⟩ = some (.int .u32 0) := kb.cell 5
      have x6 : w1.cell? ⟨w.heap.size, 6, none⟩ = some (.int .u16 0) := kb.cell 6
      have x7 : w1.cell? ⟨w.heap.size, 7, none⟩ = some (.int .u16 0) := kb.cell 7
      clear kb
      refine does_value rfl rfl (.agg #[.int .i64 born, .int .u32 0, .int .u32 0, .int .u32 0, .int .u32 0, .int .u32 0, .int .u16 0, .int .u16 0]) w1 ?_ (Below.refl _ _) rfl
      clear hc hl
      go_simp
    · intro listed a w1 hl hc
      have h1 : a.tmps[1]?.getD undef = .int .i64 now := (hc.was 1 (by kernel_rfl)).trans rfl
      refine does_value rfl rfl (.int .i64 now) w1 ?_ (Below.refl _ _) rfl
      clear hc hl
      go_simp
    · intro listed a w1 hl hc
      have h2 : a.tmps[2]?.getD undef = .int .i64 life := (hc.was 2 (by kernel_rfl)).trans rfl
      refine does_value rfl rfl (.int .i64 life) w1 ?_ (Below.refl _ _) rfl
      clear hc hl
      go_simp
    · intro listed a w1 hl hc
      have h10 : a.tmps[10]?.getD undef = .agg #[.int .i64 born, .int .u32 0, .int .u32 0, .int .u32 0, .int .u32 0, .int .u32 0, .int .u16 0, .int .u16 0] := hc.dep hl 0 10 rfl (by kernel_rfl)
      have h11 : a.tmps[11]?.getD undef = .int .i64 now := hc.dep hl 1 11 rfl (by kernel_rfl)
      have h12 : a.tmps[12]?.getD undef = .int .i64 life := hc.dep hl 2 12 rfl (by kernel_rfl)
      refine does_call rfl rfl 16 #[.agg #[.int .i64 born, .int .u32 0, .int .u32 0, .int .u32 0, .int .u32 0, .int .u32 0, .int .u16 0, .int .u16 0], .int .i64 now, .int .i64 life] ?_ ((HF.out.1 w1).mono fun e w' ⟨he, hb⟩ => ⟨_, he, hb, rfl⟩)
      clear hc hl
      go_simp
    · intro listed a w1 hl hc
      have h7 : a.tmps[7]?.getD undef = .pointer (some ⟨w.heap.size, 0, none⟩) := (hc.was 7 (by kernel_rfl)).trans rfl
      have kb := K0.out.below hc.g K0.out.lt
      have x0 : w1.cell? ⟨w.heap.size, 0, none⟩ = some (.int .i64 born) := kb.cell 0
      have x1 : w1.cell? ⟨w.heap.size, 1, none⟩ = some (.int .u32 0) := kb.cell 1
      have x2 : w1.cell? ⟨w.heap.size, 2, none⟩ = some (.int .u32 0) := kb.cell 2
      have x3 : w1.cell? ⟨w.heap.size, 3, none⟩ = some (.int .u32 0) := kb.cell 3
      have x4 : w1.cell? ⟨w.heap.size, 4, none⟩ = some (.int .u32 0) := kb.cell 4
      have x5 : w1.cell? ⟨w.heap.size, 5, none⟩ = some (.int .u32 0) := kb.cell 5
      have x6 : w1.cell? ⟨w.heap.size, 6, none⟩ = some (.int .u16 0) := kb.cell 6
      have x7 : w1.cell? ⟨w.heap.size, 7, none⟩ = some (.int .u16 0) := kb.cell 7
      clear kb
      refine does_value rfl rfl (.agg #[.int .i64 born, .int .u32 0, .int .u32 0, .int .u32 0, .int .u32 0, .int .u32 0, .int .u16 0, .int .u16 0]) w1 ?_ (Below.refl _ _) rfl
      clear hc hl
      go_simp
    · intro listed a w1 hl hc
      have h1 : a.tmps[1]?.getD undef = .int .i64 now := (hc.was 1 (by kernel_rfl)).trans rfl
      refine does_value rfl rfl (.int .i64 now) w1 ?_ (Below.refl _ _) rfl
      clear hc hl
      go_simp
    · intro listed a w1 hl hc
      have h2 : a.tmps[2]?.getD undef = .int .i64 life := (hc.was 2 (by kernel_rfl)).trans rfl
      refine does_value rfl rfl (.int .i64 life) w1 ?_ (Below.refl _ _) rfl
      clear hc hl
      go_simp
    · intro listed a w1 hl hc
      have h14 : a.tmps[14]?.getD undef = .agg #[.int .i64 born, .int .u32 0, .int .u32 0, .int .u32 0, .int .u32 0, .int .u32 0, .int .u16 0, .int .u16 0] := hc.dep hl 4 14 rfl (by kernel_rfl)
      have h15 : a.tmps[15]?.getD undef = .int .i64 now := hc.dep hl 5 15 rfl (by kernel_rfl)
      have h16 : a.tmps[16]?.getD undef = .int .i64 life := hc.dep hl 6 16 rfl (by kernel_rfl)
      refine does_call rfl rfl 17 #[.agg #[.int .i64 born, .int .u32 0, .int .u32 0, .int .u32 0, .int .u32 0, .int .u32 0, .int .u16 0, .int .u16 0], .int .i64 now, .int .i64 life] ?_ ((HF.out.2 w1).mono fun e w' ⟨he, hb⟩ => ⟨_, he, hb, rfl⟩)
      clear hc hl
      go_simp
  intro w2 hb2
  rintro _ rfl _ rfl _ rfl _ rfl _ rfl _ rfl _ rfl _ rfl
  simp only [Thus, List.reverse_cons, List.reverse_nil, List.nil_append, List.cons_append, List.drop, List.take, lay]
  go_frame
  have B2 := Lib.hid (below_then B0.out (Nat.le_refl _) hb2)
  have K2 := Lib.hid (K0.out.below hb2 K0.out.lt)
  clear hb2 K0 B0
  have j0 : w2.cell? ⟨w.heap.size, 0, none⟩ = some (.int .i64 born) := K2.out.cell 0
  have j1 : w2.cell? ⟨w.heap.size, 1, none⟩ = some (.int .u32 0) := K2.out.cell 1
  have j2 : w2.cell? ⟨w.heap.size, 2, none⟩ = some (.int .u32 0) := K2.out.cell 2
  have j3 : w2.cell? ⟨w.heap.size, 3, none⟩ = some (.int .u32 0) := K2.out.cell 3
  have j4 : w2.cell? ⟨w.heap.size, 4, none⟩ = some (.int .u32 0) := K2.out.cell 4
  have j5 : w2.cell? ⟨w.heap.size, 5, none⟩ = some (.int .u32 0) := K2.out.cell 5
  have j6 : w2.cell? ⟨w.heap.size, 6, none⟩ = some (.int .u16 0) := K2.out.cell 6
  have j7 : w2.cell? ⟨w.heap.size, 7, none⟩ = some (.int .u16 0) := K2.out.cell 7
  go_wp2_with fail
  clear j0 j1 j2 j3 j4 j5 j6 j7
  refine (HB.out w2).mono ?_
  rintro e u0 ⟨rfl, hb_⟩
  have Bu0 := Lib.hid (below_then B2.out (Nat.le_refl _) hb_)
  have Ku0 := Lib.hid (K2.out.below hb_ K2.out.lt)
  clear hb_
  have j0 : u0.cell? ⟨w.heap.size, 0, none⟩ = some (.int .i64 born) := Ku0.out.cell 0
  have j1 : u0.cell? ⟨w.heap.size, 1, none⟩ = some (.int .u32 0) := Ku0.out.cell 1
  have j2 : u0.cell? ⟨w.heap.size, 2, none⟩ = some (.int .u32 0) := Ku0.out.cell 2
  have j3 : u0.cell? ⟨w.heap.size, 3, none⟩ = some (.int .u32 0) := Ku0.out.cell 3
  have j4 : u0.cell? ⟨w.heap.size, 4, none⟩ = some (.int .u32 0) := Ku0.out.cell 4
  have j5 : u0.cell? ⟨w.heap.size, 5, none⟩ = some (.int .u32 0) := Ku0.out.cell 5
  have j6 : u0.cell? ⟨w.heap.size, 6, none⟩ = some (.int .u16 0) := Ku0.out.cell 6
  have j7 : u0.cell? ⟨w.heap.size, 7, none⟩ = some (.int .u16 0) := Ku0.out.cell 7
  go_wp2_with fail
  clear j0 j1 j2 j3 j4 j5 j6 j7
  refine (HM.out u0).mono ?_
  rintro e u1 ⟨rfl, hb_⟩
  have Bu1 := Lib.hid (below_then Bu0.out (Nat.le_refl _) hb_)
  have Ku1 := Lib.hid (Ku0.out.below hb_ Ku0.out.lt)
  clear hb_
  have j0 : u1.cell? ⟨w.heap.size, 0, none⟩ = some (.int .i64 born) := Ku1.out.cell 0
  have j1 : u1.cell? ⟨w.heap.size, 1, none⟩ = some (.int .u32 0) := Ku1.out.cell 1
  have j2 : u1.cell? ⟨w.heap.size, 2, none⟩ = some (.int .u32 0) := Ku1.out.cell 2
  have j3 : u1.cell? ⟨w.heap.size, 3, none⟩ = some (.int .u32 0) := Ku1.out.cell 3
  have j4 : u1.cell? ⟨w.heap.size, 4, none⟩ = some (.int .u32 0) := Ku1.out.cell 4
  have j5 : u1.cell? ⟨w.heap.size, 5, none⟩ = some (.int .u32 0) := Ku1.out.cell 5
  have j6 : u1.cell? ⟨w.heap.size, 6, none⟩ = some (.int .u16 0) := Ku1.out.cell 6
  have j7 : u1.cell? ⟨w.heap.size, 7, none⟩ = some (.int .u16 0) := Ku1.out.cell 7
  go_wp2_with fail
  clear j0 j1 j2 j3 j4 j5 j6 j7
  refine (HP.out u1).mono ?_
  rintro e u2 ⟨rfl, hb_⟩
  have Bu2 := Lib.hid (below_then Bu1.out (Nat.le_refl _) hb_)
  have Ku2 := Lib.hid (Ku1.out.below hb_ Ku1.out.lt)
  clear hb_
  have j0 : u2.cell? ⟨w.heap.size, 0, none⟩ = some (.int .i64 born) := Ku2.out.cell 0
  have j1 : u2.cell? ⟨w.heap.size, 1, none⟩ = some (.int .u32 0) := Ku2.out.cell 1
  have j2 : u2.cell? ⟨w.heap.size, 2, none⟩ = some (.int .u32 0) := Ku2.out.cell 2
  have j3 : u2.cell? ⟨w.heap.size, 3, none⟩ = some (.int .u32 0) := Ku2.out.cell 3
  have j4 : u2.cell? ⟨w.heap.size, 4, none⟩ = some (.int .u32 0) := Ku2.out.cell 4
  have j5 : u2.cell? ⟨w.heap.size, 5, none⟩ = some (.int .u32 0) := Ku2.out.cell 5
  have j6 : u2.cell? ⟨w.heap.size, 6, none⟩ = some (.int .u16 0) := Ku2.out.cell 6
  have j7 : u2.cell? ⟨w.heap.size, 7, none⟩ = some (.int .u16 0) := Ku2.out.cell 7
  go_wp2_with fail
  clear j0 j1 j2 j3 j4 j5 j6 j7
  refine (HQ.out u2).mono ?_
  rintro e u3 ⟨rfl, hb_⟩
  have Bu3 := Lib.hid (below_then Bu2.out (Nat.le_refl _) hb_)
  have Ku3 := Lib.hid (Ku2.out.below hb_ Ku2.out.lt)
  clear hb_
  go_wp2_with fail
  refine (ckWorks_any u3 (HT.out.below Bu3.out h2)).mono ?_
  rintro e w9 ⟨rfl, hb9⟩
  go_wp2_with fail
  go_ret
  exact ⟨rfl, below_then Bu3.out (Nat.le_refl _) hb9⟩

set_option maxRecDepth 100000 in
set_option maxHeartbeats 4000000 in
theorem cookieFresh_edge (born now life : Int) (w : World) (hT : Tabs w) (hb : (Lit.int .i64 born).wf = true) (hn : (Lit.int .i64 now).wf = true) (hl : (Lit.int .i64 life).wf = true) (h : 0 ≤ life) (h1 : born ≤ now) (h3 : 0 ≤ born) (h4 : born ≤ 4611686018427387904) (h5 : life < 4611686018427387904) (h6 : born + life = 9223372036854775807) :
    Calls Tryd.prog 7 #[.int .i64 born, .int .i64 now, .int .i64 life] w fun e w' => e = .returned (.bool true) ∧ Below w.heap.size w w' := by
  have h2 := hT.2.2
  have HT := Lib.hid hT
  have hbb : -9223372036854775808 ≤ born ∧ born ≤ 9223372036854775807 := by simpa [Lit.wf, IntKind.min, IntKind.max, IntKind.signed, IntKind.bits] using hb
  have hnn : -9223372036854775808 ≤ now ∧ now ≤ 9223372036854775807 := by simpa [Lit.wf, IntKind.min, IntKind.max, IntKind.signed, IntKind.bits] using hn
  have hll : -9223372036854775808 ≤ life ∧ life ≤ 9223372036854775807 := by simpa [Lit.wf, IntKind.min, IntKind.max, IntKind.signed, IntKind.bits] using hl
  have K0 := Lib.hid (Blk.new w 26 #[.int .i64 born, .int .u32 0, .int .u32 0, .int .u32 0, .int .u32 0, .int .u32 0, .int .u16 0, .int .u16 0])
  have B0 := Lib.hid (below_new w (.cells #[.int .i64 born, .int .u32 0, .int .u32 0, .int .u32 0, .int .u32 0, .int .u32 0, .int .u16 0, .int .u16 0] 26))
  have HF : Hid (freshR born now life (freshC born now life)) := Lib.hid ⟨fun W => freshB_any born now life W hbb hnn hll, fun W => refFreshB_any born now life W hbb hnn hll⟩
  generalize freshC born now life = Q at HF
  have HB : Hid (∀ W : World, Calls Tryd.prog 16 #[.agg #[.int .i64 born, .int .u32 0, .int .u32 0, .int .u32 0, .int .u32 0, .int .u32 0, .int .u16 0, .int .u16 0], .int .i64 born, .int .i64 life] W fun e w' => e = .returned (.bool true) ∧ Below W.heap.size W w') := Lib.hid fun W => by
    have e : freshC born born life = true := by simp [freshC]; omega
    exact e ▸ freshB_any born born life W hbb ⟨by omega, by omega⟩ hll
  have HM : Hid (∀ W : World, Calls Tryd.prog 16 #[.agg #[.int .i64 born, .int .u32 0, .int .u32 0, .int .u32 0, .int .u32 0, .int .u32 0, .int .u16 0, .int .u16 0], .int .i64 (born - 1), .int .i64 life] W fun e w' => e = .returned (.bool false) ∧ Below W.heap.size W w') := Lib.hid fun W => by
    have e : freshC born (born - 1) life = false := by simp [freshC]; omega
    exact e ▸ freshB_any born (born - 1) life W hbb ⟨by omega, by omega⟩ hll
  have HP : Hid (∀ W : World, Calls Tryd.prog 16 #[.agg #[.int .i64 born, .int .u32 0, .int .u32 0, .int .u32 0, .int .u32 0, .int .u32 0, .int .u16 0, .int .u16 0], .int .i64 (born + life), .int .i64 life] W fun e w' => e = .returned (.bool true) ∧ Below W.heap.size W w') := Lib.hid fun W => by
    have e : freshC born (born + life) life = true := by simp [freshC]; omega
    exact e ▸ freshB_any born (born + life) life W hbb ⟨by omega, by omega⟩ hll
  have HQ : Hid (∀ W : World, Calls Tryd.prog 16 #[.agg #[.int .i64 born, .int .u32 0, .int .u32 0, .int .u32 0, .int .u32 0, .int .u32 0, .int .u16 0, .int .u16 0], .int .i64 (wrap64 (born + life + 1)), .int .i64 life] W fun e w' => e = .returned (.bool false) ∧ Below W.heap.size W w') := Lib.hid fun W => by
    have e : freshC born (wrap64 (born + life + 1)) life = false := by rw [show wrap64 (born + life + 1) = -9223372036854775808 by unfold wrap64; omega]; simp [freshC]; omega
    exact e ▸ freshB_any born (wrap64 (born + life + 1)) life W hbb ⟨by unfold wrap64; omega, by unfold wrap64; omega⟩ hll
  clear hT hb hn hl
  have hz := zero_cookie
  have t0 : decide (life < 0) = false := by simp; omega
  have t1 : decide (now < born) = false := by simp; omega
  have t2 : decide (born > -9223372036854775808) = true := by simp; omega
  have t3 : decide (born ≥ 0) = true := by simp; omega
  have t4 : decide (born ≤ 4611686018427387904) = true := by simp; omega
  have t5 : decide (life < 4611686018427387904) = true := by simp; omega
  clear h1 h6 hnn
  go_enter Tryd.func7, Tryd.ntmps7
  rw [drawn_eq 2]
  go_wp2_with fail
  generalize w.alloc (.cells #[.int .i64 born, .int .u32 0, .int .u32 0, .int .u32 0, .int .u32 0, .int .u32 0, .int .u16 0, .int .u16 0] 26) = v at K0 B0 ⊢
  rw [← drawn_eq 2]
  refine wp_region_grow_tail 8 (by kernel_rfl) [(Is (.agg #[.int .i64 born, .int .u32 0, .int .u32 0, .int .u32 0, .int .u32 0, .int .u32 0, .int .u16 0, .int .u16 0])), (Is (.int .i64 now)), (Is (.int .i64 life)), (Is (.bool Q)), (Is (.agg #[.int .i64 born, .int .u32 0, .int .u32 0, .int .u32 0, .int .u32 0, .int .u32 0, .int .u16 0, .int .u16 0])), (Is (.int .i64 now)), (Is (.int .i64 life)), (Is (.bool Q))] rfl ?_ (by kernel_rfl) (by kernel_rfl) ?_ ?_
  · intro p hp
    simp only [List.mem_cons, List.not_mem_nil, or_false] at hp
    rcases hp with rfl | rfl | rfl | rfl | rfl | rfl | rfl | rfl
    · exact Lasts.is _
    · exact Lasts.is _
    · exact Lasts.is _
    · exact Lasts.is _
    · exact Lasts.is _
    · exact Lasts.is _
    · exact Lasts.is _
    · exact Lasts.is _
  · refine ⟨?_, ?_, ?_, ?_, ?_, ?_, ?_, ?_, trivial⟩
    · intro listed a w1 hl hc
      have h7 : a.tmps[7]?.getD undef = .pointer (some ⟨w.heap.size, 0, none⟩) := (hc.was 7 (by kernel_rfl)).trans rfl
      have kb := K0.out.below hc.g K0.out.lt
      have x0 : w1.cell? ⟨w.heap.size, 0, none⟩ = some (.int .i64 born) := kb.cell 0
      have x1 : w1.cell? ⟨w.heap.size, 1, none⟩ = some (.int .u32 0) := kb.cell 1
      have x2 : w1.cell? ⟨w.heap.size, 2, none⟩ = some (.int .u32 0) := kb.cell 2
      have x3 : w1.cell? ⟨w.heap.size, 3, none⟩ = some (.int .u32 0) := kb.cell 3
      have x4 : w1.cell? ⟨w.heap.size, 4, none⟩ = some (.int .u32 0) := kb.cell 4
      have x5 : w1.cell? ⟨w.heap.size, 5, none⟩ = some (.int .u32 0) := kb.cell 5
      have x6 : w1.cell? ⟨w.heap.size, 6, none⟩ = some (.int .u16 0) := kb.cell 6
      have x7 : w1.cell? ⟨w.heap.size, 7, none⟩ = some (.int .u16 0) := kb.cell 7
      clear kb
      refine does_value rfl rfl (.agg #[.int .i64 born, .int .u32 0, .int .u32 0, .int .u32 0, .int .u32 0, .int .u32 0, .int .u16 0, .int .u16 0]) w1 ?_ (Below.refl _ _) rfl
      clear hc hl
      go_simp
    · intro listed a w1 hl hc
      have h1 : a.tmps[1]?.getD undef = .int .i64 now := (hc.was 1 (by kernel_rfl)).trans rfl
      refine does_value rfl rfl (.int .i64 now) w1 ?_ (Below.refl _ _) rfl
      clear hc hl
      go_simp
    · intro listed a w1 hl hc
      have h2 : a.tmps[2]?.getD undef = .int .i64 life := (hc.was 2 (by kernel_rfl)).trans rfl
      refine does_value rfl rfl (.int .i64 life) w1 ?_ (Below.refl _ _) rfl
      clear hc hl
      go_simp
    · intro listed a w1 hl hc
      have h10 : a.tmps[10]?.getD undef = .agg #[.int .i64 born, .int .u32 0, .int .u32 0, .int .u32 0, .int .u32 0, .int .u32 0, .int .u16 0, .int .u16 0] := hc.dep hl 0 10 rfl (by kernel_rfl)
      have h11 : a.tmps[11]?.getD undef = .int .i64 now := hc.dep hl 1 11 rfl (by kernel_rfl)
      have h12 : a.tmps[12]?.getD undef = .int .i64 life := hc.dep hl 2 12 rfl (by kernel_rfl)
      refine does_call rfl rfl 16 #[.agg #[.int .i64 born, .int .u32 0, .int .u32 0, .int .u32 0, .int .u32 0, .int .u32 0, .int .u16 0, .int .u16 0], .int .i64 now, .int .i64 life] ?_ ((HF.out.1 w1).mono fun e w' ⟨he, hb⟩ => ⟨_, he, hb, rfl⟩)
      clear hc hl
      go_simp
    · intro listed a w1 hl hc
      have h7 : a.tmps[7]?.getD undef = .pointer (some ⟨w.heap.size, 0, none⟩) := (hc.was 7 (by kernel_rfl)).trans rfl
      have kb := K0.out.below hc.g K0.out.lt
      have x0 : w1.cell? ⟨w.heap.size, 0, none⟩ = some (.int .i64 born) := kb.cell 0
      have x1 : w1.cell? ⟨w.heap.size, 1, none⟩ = some (.int .u32 0) := kb.cell 1
      have x2 : w1.cell? ⟨w.heap.size, 2, none⟩ = some (.int .u32 0) := kb.cell 2
      have x3 : w1.cell? ⟨w.heap.size, 3, none⟩ = some (.int .u32 0) := kb.cell 3
      have x4 : w1.cell? ⟨w.heap.size, 4, none⟩ = some (.int .u32 0) := kb.cell 4
      have x5 : w1.cell? ⟨w.heap.size, 5, none⟩ = some (.int .u32 0) := kb.cell 5
      have x6 : w1.cell? ⟨w.heap.size, 6, none⟩ = some (.int .u16 0) := kb.cell 6
      have x7 : w1.cell? ⟨w.heap.size, 7, none⟩ = some (.int .u16 0) := kb.cell 7
      clear kb
      refine does_value rfl rfl (.agg #[.int .i64 born, .int .u32 0, .int .u32 0, .int .u32 0, .int .u32 0, .int .u32 0, .int .u16 0, .int .u16 0]) w1 ?_ (Below.refl _ _) rfl
      clear hc hl
      go_simp
    · intro listed a w1 hl hc
      have h1 : a.tmps[1]?.getD undef = .int .i64 now := (hc.was 1 (by kernel_rfl)).trans rfl
      refine does_value rfl rfl (.int .i64 now) w1 ?_ (Below.refl _ _) rfl
      clear hc hl
      go_simp
    · intro listed a w1 hl hc
      have h2 : a.tmps[2]?.getD undef = .int .i64 life := (hc.was 2 (by kernel_rfl)).trans rfl
      refine does_value rfl rfl (.int .i64 life) w1 ?_ (Below.refl _ _) rfl
      clear hc hl
      go_simp
    · intro listed a w1 hl hc
      have h14 : a.tmps[14]?.getD undef = .agg #[.int .i64 born, .int .u32 0, .int .u32 0, .int .u32 0, .int .u32 0, .int .u32 0, .int .u16 0, .int .u16 0] := hc.dep hl 4 14 rfl (by kernel_rfl)
      have h15 : a.tmps[15]?.getD undef = .int .i64 now := hc.dep hl 5 15 rfl (by kernel_rfl)
      have h16 : a.tmps[16]?.getD undef = .int .i64 life := hc.dep hl 6 16 rfl (by kernel_rfl)
      refine does_call rfl rfl 17 #[.agg #[.int .i64 born, .int .u32 0, .int .u32 0, .int .u32 0, .int .u32 0, .int .u32 0, .int .u16 0, .int .u16 0], .int .i64 now, .int .i64 life] ?_ ((HF.out.2 w1).mono fun e w' ⟨he, hb⟩ => ⟨_, he, hb, rfl⟩)
      clear hc hl
      go_simp
  intro w2 hb2
  rintro _ rfl _ rfl _ rfl _ rfl _ rfl _ rfl _ rfl _ rfl
  simp only [Thus, List.reverse_cons, List.reverse_nil, List.nil_append, List.cons_append, List.drop, List.take, lay]
  go_frame
  have B2 := Lib.hid (below_then B0.out (Nat.le_refl _) hb2)
  have K2 := Lib.hid (K0.out.below hb2 K0.out.lt)
  clear hb2 K0 B0
  have j0 : w2.cell? ⟨w.heap.size, 0, none⟩ = some (.int .i64 born) := K2.out.cell 0
  have j1 : w2.cell? ⟨w.heap.size, 1, none⟩ = some (.int .u32 0) := K2.out.cell 1
  have j2 : w2.cell? ⟨w.heap.size, 2, none⟩ = some (.int .u32 0) := K2.out.cell 2
  have j3 : w2.cell? ⟨w.heap.size, 3, none⟩ = some (.int .u32 0) := K2.out.cell 3
  have j4 : w2.cell? ⟨w.heap.size, 4, none⟩ = some (.int .u32 0) := K2.out.cell 4
  have j5 : w2.cell? ⟨w.heap.size, 5, none⟩ = some (.int .u32 0) := K2.out.cell 5
  have j6 : w2.cell? ⟨w.heap.size, 6, none⟩ = some (.int .u16 0) := K2.out.cell 6
  have j7 : w2.cell? ⟨w.heap.size, 7, none⟩ = some (.int .u16 0) := K2.out.cell 7
  go_wp2_with fail
  clear j0 j1 j2 j3 j4 j5 j6 j7
  refine (HB.out w2).mono ?_
  rintro e u0 ⟨rfl, hb_⟩
  have Bu0 := Lib.hid (below_then B2.out (Nat.le_refl _) hb_)
  have Ku0 := Lib.hid (K2.out.below hb_ K2.out.lt)
  clear hb_
  have j0 : u0.cell? ⟨w.heap.size, 0, none⟩ = some (.int .i64 born) := Ku0.out.cell 0
  have j1 : u0.cell? ⟨w.heap.size, 1, none⟩ = some (.int .u32 0) := Ku0.out.cell 1
  have j2 : u0.cell? ⟨w.heap.size, 2, none⟩ = some (.int .u32 0) := Ku0.out.cell 2
  have j3 : u0.cell? ⟨w.heap.size, 3, none⟩ = some (.int .u32 0) := Ku0.out.cell 3
  have j4 : u0.cell? ⟨w.heap.size, 4, none⟩ = some (.int .u32 0) := Ku0.out.cell 4
  have j5 : u0.cell? ⟨w.heap.size, 5, none⟩ = some (.int .u32 0) := Ku0.out.cell 5
  have j6 : u0.cell? ⟨w.heap.size, 6, none⟩ = some (.int .u16 0) := Ku0.out.cell 6
  have j7 : u0.cell? ⟨w.heap.size, 7, none⟩ = some (.int .u16 0) := Ku0.out.cell 7
  go_wp2_with fail
  clear j0 j1 j2 j3 j4 j5 j6 j7
  refine (HM.out u0).mono ?_
  rintro e u1 ⟨rfl, hb_⟩
  have Bu1 := Lib.hid (below_then Bu0.out (Nat.le_refl _) hb_)
  have Ku1 := Lib.hid (Ku0.out.below hb_ Ku0.out.lt)
  clear hb_
  have j0 : u1.cell? ⟨w.heap.size, 0, none⟩ = some (.int .i64 born) := Ku1.out.cell 0
  have j1 : u1.cell? ⟨w.heap.size, 1, none⟩ = some (.int .u32 0) := Ku1.out.cell 1
  have j2 : u1.cell? ⟨w.heap.size, 2, none⟩ = some (.int .u32 0) := Ku1.out.cell 2
  have j3 : u1.cell? ⟨w.heap.size, 3, none⟩ = some (.int .u32 0) := Ku1.out.cell 3
  have j4 : u1.cell? ⟨w.heap.size, 4, none⟩ = some (.int .u32 0) := Ku1.out.cell 4
  have j5 : u1.cell? ⟨w.heap.size, 5, none⟩ = some (.int .u32 0) := Ku1.out.cell 5
  have j6 : u1.cell? ⟨w.heap.size, 6, none⟩ = some (.int .u16 0) := Ku1.out.cell 6
  have j7 : u1.cell? ⟨w.heap.size, 7, none⟩ = some (.int .u16 0) := Ku1.out.cell 7
  go_wp2_with fail
  clear j0 j1 j2 j3 j4 j5 j6 j7
  refine (HP.out u1).mono ?_
  rintro e u2 ⟨rfl, hb_⟩
  have Bu2 := Lib.hid (below_then Bu1.out (Nat.le_refl _) hb_)
  have Ku2 := Lib.hid (Ku1.out.below hb_ Ku1.out.lt)
  clear hb_
  have j0 : u2.cell? ⟨w.heap.size, 0, none⟩ = some (.int .i64 born) := Ku2.out.cell 0
  have j1 : u2.cell? ⟨w.heap.size, 1, none⟩ = some (.int .u32 0) := Ku2.out.cell 1
  have j2 : u2.cell? ⟨w.heap.size, 2, none⟩ = some (.int .u32 0) := Ku2.out.cell 2
  have j3 : u2.cell? ⟨w.heap.size, 3, none⟩ = some (.int .u32 0) := Ku2.out.cell 3
  have j4 : u2.cell? ⟨w.heap.size, 4, none⟩ = some (.int .u32 0) := Ku2.out.cell 4
  have j5 : u2.cell? ⟨w.heap.size, 5, none⟩ = some (.int .u32 0) := Ku2.out.cell 5
  have j6 : u2.cell? ⟨w.heap.size, 6, none⟩ = some (.int .u16 0) := Ku2.out.cell 6
  have j7 : u2.cell? ⟨w.heap.size, 7, none⟩ = some (.int .u16 0) := Ku2.out.cell 7
  go_wp2_with fail
  clear j0 j1 j2 j3 j4 j5 j6 j7
  refine (HQ.out u2).mono ?_
  rintro e u3 ⟨rfl, hb_⟩
  have Bu3 := Lib.hid (below_then Bu2.out (Nat.le_refl _) hb_)
  have Ku3 := Lib.hid (Ku2.out.below hb_ Ku2.out.lt)
  clear hb_
  go_wp2_with fail
  refine (ckWorks_any u3 (HT.out.below Bu3.out h2)).mono ?_
  rintro e w9 ⟨rfl, hb9⟩
  go_wp2_with fail
  go_ret
  exact ⟨rfl, below_then Bu3.out (Nat.le_refl _) hb9⟩

theorem cookieFresh_walk (born now life : Int) (w : World) (hT : Tabs w) (hb : (Lit.int .i64 born).wf = true) (hn : (Lit.int .i64 now).wf = true) (hl : (Lit.int .i64 life).wf = true) :
    Calls Tryd.prog 7 #[.int .i64 born, .int .i64 now, .int .i64 life] w fun e w' => e = .returned (.bool true) ∧ Below w.heap.size w w' := by
  have hbb : -9223372036854775808 ≤ born ∧ born ≤ 9223372036854775807 := by simpa [Lit.wf, IntKind.min, IntKind.max, IntKind.signed, IntKind.bits] using hb
  by_cases h : life < 0 ∨ now < born
  · exact cookieFresh_old born now life w hT hb hn hl h
  have h0 : 0 ≤ life := by omega
  have h1 : born ≤ now := by omega
  by_cases h3 : born = -9223372036854775808
  · exact cookieFresh_min born now life w hT hb hn hl h0 h1 h3
  by_cases h4 : born < 0
  · exact cookieFresh_neg born now life w hT hb hn hl h0 h1 (by omega) h4
  by_cases h5 : 4611686018427387904 < born
  · exact cookieFresh_far born now life w hT hb hn hl h0 h1 h5
  by_cases h6 : 4611686018427387904 ≤ life
  · exact cookieFresh_long born now life w hT hb hn hl h0 h1 (by omega) (by omega) h6
  by_cases h7 : born + life = 9223372036854775807
  · exact cookieFresh_edge born now life w hT hb hn hl h0 h1 (by omega) (by omega) (by omega) h7
  · exact cookieFresh_all born now life w hT hb hn hl h0 h1 (by omega) (by omega) (by omega) (by omega)

end Go.Proofs.YtnnkgdkjmmljiaaDoor
