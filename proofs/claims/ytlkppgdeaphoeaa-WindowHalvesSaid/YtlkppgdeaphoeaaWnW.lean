/-
  Package window: the laws' does, meant, works.
-/
import Derived.Test.YtlkppgdeaphoeaaWnD
namespace Go.Proofs.Ytlkppgdeaphoeaa
open Go.RowKit
set_option linter.unusedVariables false

set_option maxRecDepth 100000 in
set_option maxHeartbeats 4000000 in
theorem does_any (s : Wn) (k n : Int) (full : Bool) (Q : Int) (g : Nat) (w : World) (h : s.Ok Q) (hq : Q ≤ 1125899906842624) (K : Blk w g 46 #[.int .i64 s.mtu, .int .i64 s.most, .int .i64 s.size, .int .i64 s.thr, .int .i64 s.part]) : Calls Try.prog 12 #[.pointer (some ⟨g, 0, none⟩), .agg #[.int .i64 k, .int .i64 n, .bool full]] w fun e w' => e = .returned (.tuple #[]) ∧ Blk w' g 46 #[.int .i64 (s.act k n full).mtu, .int .i64 (s.act k n full).most, .int .i64 (s.act k n full).size, .int .i64 (s.act k n full).thr, .int .i64 (s.act k n full).part] ∧ Tw [g] w w' := by
  by_cases h0 : k = 0
  · have HE : Hid (s.act k n full = s.ack n full) := Lib.hid (by unfold Wn.act; rw [if_pos h0])
    have hb : (k == 0) = true := by simp [h0]
    clear h0
    go_enter Try.func12, Try.ntmps12
    go_wp2_with fail
    refine (codeAcked s n full Q g _ h hq (K.alloc _)).mono ?_
    rintro e w2 ⟨rfl, K2, T2⟩
    go_wp2_with fail
    go_end0
    refine ⟨rfl, ?_, (Tw.alloc w _ [g]).trans T2⟩
    rw [HE.out]
    exact K2
  · by_cases h1 : k = 1
    · have HE : Hid (s.act k n full = s.fast) := Lib.hid (by unfold Wn.act; rw [if_neg h0, if_pos h1])
      have hb : (k == 0) = false := by simp [h0]
      have hb1 : (k == 1) = true := by simp [h1]
      clear h0 h1
      go_enter Try.func12, Try.ntmps12
      go_wp2_with fail
      refine (codeFast s Q g _ h (K.alloc _)).mono ?_
      rintro e w2 ⟨rfl, K2, T2⟩
      go_wp2_with fail
      go_end0
      refine ⟨rfl, ?_, (Tw.alloc w _ [g]).trans T2⟩
      rw [HE.out]
      exact K2
    · by_cases h2 : k = 2
      · have HE : Hid (s.act k n full = s.out) := Lib.hid (by unfold Wn.act; rw [if_neg h0, if_neg h1, if_pos h2])
        have hb : (k == 0) = false := by simp [h0]
        have hb1 : (k == 1) = false := by simp [h1]
        have hb2 : (k == 2) = true := by simp [h2]
        clear h0 h1 h2
        go_enter Try.func12, Try.ntmps12
        go_wp2_with fail
        refine (codeTimeout s Q g _ h (K.alloc _)).mono ?_
        rintro e w2 ⟨rfl, K2, T2⟩
        go_wp2_with fail
        go_end0
        refine ⟨rfl, ?_, (Tw.alloc w _ [g]).trans T2⟩
        rw [HE.out]
        exact K2
      · have HE : Hid (s.act k n full = s) := Lib.hid (by unfold Wn.act; rw [if_neg h0, if_neg h1, if_neg h2])
        have hb : (k == 0) = false := by simp [h0]
        have hb1 : (k == 1) = false := by simp [h1]
        have hb2 : (k == 2) = false := by simp [h2]
        clear h0 h1 h2
        go_enter Try.func12, Try.ntmps12
        go_wp2_with fail
        go_end0
        refine ⟨rfl, ?_, Tw.alloc w _ [g]⟩
        rw [HE.out]
        exact K.alloc _
set_option maxRecDepth 100000 in
set_option maxHeartbeats 4000000 in
theorem does_nil (k n : Int) (full : Bool) (w : World) : Calls Try.prog 12 #[.pointer none, .agg #[.int .i64 k, .int .i64 n, .bool full]] w fun e w' => e = .returned (.tuple #[]) ∧ Below w.heap.size w w' := by
  by_cases h0 : k = 0
  · have hb : (k == 0) = true := by simp [h0]
    clear h0
    go_enter Try.func12, Try.ntmps12
    go_wp2_with fail
    refine (codeAcked_nil n full _).mono ?_
    rintro e w2 ⟨rfl, rfl⟩
    go_wp2_with fail
    go_end0
    exact ⟨rfl, below_new w _⟩
  · by_cases h1 : k = 1
    · have hb : (k == 0) = false := by simp [h0]
      have hb1 : (k == 1) = true := by simp [h1]
      clear h0 h1
      go_enter Try.func12, Try.ntmps12
      go_wp2_with fail
      refine (codeFast_nil _).mono ?_
      rintro e w2 ⟨rfl, rfl⟩
      go_wp2_with fail
      go_end0
      exact ⟨rfl, below_new w _⟩
    · by_cases h2 : k = 2
      · have hb : (k == 0) = false := by simp [h0]
        have hb1 : (k == 1) = false := by simp [h1]
        have hb2 : (k == 2) = true := by simp [h2]
        clear h0 h1 h2
        go_enter Try.func12, Try.ntmps12
        go_wp2_with fail
        refine (codeTimeout_nil _).mono ?_
        rintro e w2 ⟨rfl, rfl⟩
        go_wp2_with fail
        go_end0
        exact ⟨rfl, below_new w _⟩
      · have hb : (k == 0) = false := by simp [h0]
        have hb1 : (k == 1) = false := by simp [h1]
        have hb2 : (k == 2) = false := by simp [h2]
        clear h0 h1 h2
        go_enter Try.func12, Try.ntmps12
        go_wp2_with fail
        go_end0
        exact ⟨rfl, below_new w _⟩
set_option maxRecDepth 100000 in
set_option maxHeartbeats 4000000 in
theorem meant_any (s : Wn) (k n : Int) (full : Bool) (Q : Int) (g : Nat) (w : World) (h : s.Ok Q) (hq : Q ≤ 1125899906842624) (K : Blk w g 48 #[.int .i64 s.mtu, .int .i64 s.most, .int .i64 s.size, .int .i64 s.thr, .int .i64 s.part]) : Calls Try.prog 13 #[.pointer (some ⟨g, 0, none⟩), .agg #[.int .i64 k, .int .i64 n, .bool full]] w fun e w' => e = .returned (.tuple #[]) ∧ Blk w' g 48 #[.int .i64 (s.act k n full).mtu, .int .i64 (s.act k n full).most, .int .i64 (s.act k n full).size, .int .i64 (s.act k n full).thr, .int .i64 (s.act k n full).part] ∧ Tw [g] w w' := by
  by_cases h0 : k = 0
  · have HE : Hid (s.act k n full = s.ack n full) := Lib.hid (by unfold Wn.act; rw [if_pos h0])
    have hb : (k == 0) = true := by simp [h0]
    clear h0
    go_enter Try.func13, Try.ntmps13
    go_wp2_with fail
    refine (refAcked s n full Q g _ h hq (K.alloc _)).mono ?_
    rintro e w2 ⟨rfl, K2, T2⟩
    go_wp2_with fail
    go_end0
    refine ⟨rfl, ?_, (Tw.alloc w _ [g]).trans T2⟩
    rw [HE.out]
    exact K2
  · by_cases h1 : k = 1
    · have HE : Hid (s.act k n full = s.fast) := Lib.hid (by unfold Wn.act; rw [if_neg h0, if_pos h1])
      have hb : (k == 0) = false := by simp [h0]
      have hb1 : (k == 1) = true := by simp [h1]
      clear h0 h1
      go_enter Try.func13, Try.ntmps13
      go_wp2_with fail
      refine (refFast s Q g _ h (K.alloc _)).mono ?_
      rintro e w2 ⟨rfl, K2, T2⟩
      go_wp2_with fail
      go_end0
      refine ⟨rfl, ?_, (Tw.alloc w _ [g]).trans T2⟩
      rw [HE.out]
      exact K2
    · by_cases h2 : k = 2
      · have HE : Hid (s.act k n full = s.out) := Lib.hid (by unfold Wn.act; rw [if_neg h0, if_neg h1, if_pos h2])
        have hb : (k == 0) = false := by simp [h0]
        have hb1 : (k == 1) = false := by simp [h1]
        have hb2 : (k == 2) = true := by simp [h2]
        clear h0 h1 h2
        go_enter Try.func13, Try.ntmps13
        go_wp2_with fail
        refine (refTimeout s Q g _ h (K.alloc _)).mono ?_
        rintro e w2 ⟨rfl, K2, T2⟩
        go_wp2_with fail
        go_end0
        refine ⟨rfl, ?_, (Tw.alloc w _ [g]).trans T2⟩
        rw [HE.out]
        exact K2
      · have HE : Hid (s.act k n full = s) := Lib.hid (by unfold Wn.act; rw [if_neg h0, if_neg h1, if_neg h2])
        have hb : (k == 0) = false := by simp [h0]
        have hb1 : (k == 1) = false := by simp [h1]
        have hb2 : (k == 2) = false := by simp [h2]
        clear h0 h1 h2
        go_enter Try.func13, Try.ntmps13
        go_wp2_with fail
        go_end0
        refine ⟨rfl, ?_, Tw.alloc w _ [g]⟩
        rw [HE.out]
        exact K.alloc _
set_option maxRecDepth 100000 in
set_option maxHeartbeats 4000000 in
theorem meant_nil (k n : Int) (full : Bool) (w : World) : Calls Try.prog 13 #[.pointer none, .agg #[.int .i64 k, .int .i64 n, .bool full]] w fun e w' => e = .returned (.tuple #[]) ∧ Below w.heap.size w w' := by
  by_cases h0 : k = 0
  · have hb : (k == 0) = true := by simp [h0]
    clear h0
    go_enter Try.func13, Try.ntmps13
    go_wp2_with fail
    refine (refAcked_nil n full _).mono ?_
    rintro e w2 ⟨rfl, rfl⟩
    go_wp2_with fail
    go_end0
    exact ⟨rfl, below_new w _⟩
  · by_cases h1 : k = 1
    · have hb : (k == 0) = false := by simp [h0]
      have hb1 : (k == 1) = true := by simp [h1]
      clear h0 h1
      go_enter Try.func13, Try.ntmps13
      go_wp2_with fail
      refine (refFast_nil _).mono ?_
      rintro e w2 ⟨rfl, rfl⟩
      go_wp2_with fail
      go_end0
      exact ⟨rfl, below_new w _⟩
    · by_cases h2 : k = 2
      · have hb : (k == 0) = false := by simp [h0]
        have hb1 : (k == 1) = false := by simp [h1]
        have hb2 : (k == 2) = true := by simp [h2]
        clear h0 h1 h2
        go_enter Try.func13, Try.ntmps13
        go_wp2_with fail
        refine (refTimeout_nil _).mono ?_
        rintro e w2 ⟨rfl, rfl⟩
        go_wp2_with fail
        go_end0
        exact ⟨rfl, below_new w _⟩
      · have hb : (k == 0) = false := by simp [h0]
        have hb1 : (k == 1) = false := by simp [h1]
        have hb2 : (k == 2) = false := by simp [h2]
        clear h0 h1 h2
        go_enter Try.func13, Try.ntmps13
        go_wp2_with fail
        go_end0
        exact ⟨rfl, below_new w _⟩
def ww0 : Wn := (newW 128 1000)
def ww1 : Wn := (ww0.ack 100 true)
def ww2 : Wn := (ww1.ack 500 true)
def ww3 : Wn := (ww2.ack 9 false)
def ww4 : Wn := ww3.fast
def ww5 : Wn := ww4.out
theorem ww0_ok : ww0.Ok 0 := newW_ok ⟨by decide, by decide, by decide, by decide⟩
theorem ww1_ok : ww1.Ok 16777216 := ww0_ok.ack
theorem ww2_ok : ww2.Ok 33554432 := ww1_ok.ack
theorem ww3_ok : ww3.Ok 50331648 := ww2_ok.ack
theorem ww4_ok : ww4.Ok 0 := ww3_ok.fast
theorem ww0_size : ww0.size = 256 := by decide +kernel
theorem ww0_thr : ww0.thr = 1000 := by decide +kernel
theorem ww3_size : ww3.size = 484 := by decide +kernel
theorem ww4_size : ww4.size = 484 := by decide +kernel
theorem ww5_size : ww5.size = 128 := by decide +kernel
theorem ww5_thr : ww5.thr = 512 := by decide +kernel
set_option maxRecDepth 100000 in
set_option maxHeartbeats 4000000 in
theorem works_any (w : World) : Calls Try.prog 9 #[] w fun e w' => e = .returned (.bool true) ∧ Below w.heap.size w w' := by
  go_enter Try.func9, Try.ntmps9
  go_wp2_with fail
  refine (codeNew 128 1000 w ⟨by decide, by decide, by decide, by decide⟩).mono ?_
  rintro e w1 ⟨rfl, K1, B1⟩
  obtain ⟨g, hg⟩ : ∃ g, g = w.heap.size := ⟨_, rfl⟩
  rw [← hg] at K1 ⊢
  have HS : Hid (∀ k ∈ [g], w.heap.size ≤ k) := Lib.hid (by simp; omega)
  have HB := Lib.hid B1
  have K0 : Hid (Blk w1 g 46 #[.int .i64 ww0.mtu, .int .i64 ww0.most, .int .i64 ww0.size, .int .i64 ww0.thr, .int .i64 ww0.part]) := Lib.hid K1
  clear hg K1 B1
  go_wp2_with fail
  refine (codeSizeN ww0 256 ww0_size g w1 K0.out).mono ?_
  rintro e v0 ⟨rfl, rfl⟩
  go_wp2_with fail
  refine (codeThresholdN ww0 1000 ww0_thr g v0 K0.out).mono ?_
  rintro e v1 ⟨rfl, rfl⟩
  go_wp2_with fail
  refine (codeAcked ww0 100 true _ g _ ww0_ok (by decide) K0.out).mono ?_
  rintro e u0 ⟨rfl, k2, t2⟩
  have HB := Lib.hid (tw_below HB.out t2 HS.out (Nat.le_refl _))
  have K0 : Hid (Blk u0 g 46 #[.int .i64 ww1.mtu, .int .i64 ww1.most, .int .i64 ww1.size, .int .i64 ww1.thr, .int .i64 ww1.part]) := Lib.hid k2
  clear k2 t2
  go_wp2_with fail
  refine (codeAcked ww1 500 true _ g _ ww1_ok (by decide) K0.out).mono ?_
  rintro e u1 ⟨rfl, k2, t2⟩
  have HB := Lib.hid (tw_below HB.out t2 HS.out (Nat.le_refl _))
  have K0 : Hid (Blk u1 g 46 #[.int .i64 ww2.mtu, .int .i64 ww2.most, .int .i64 ww2.size, .int .i64 ww2.thr, .int .i64 ww2.part]) := Lib.hid k2
  clear k2 t2
  go_wp2_with fail
  refine (codeAcked ww2 9 false _ g _ ww2_ok (by decide) K0.out).mono ?_
  rintro e u2 ⟨rfl, k2, t2⟩
  have HB := Lib.hid (tw_below HB.out t2 HS.out (Nat.le_refl _))
  have K0 : Hid (Blk u2 g 46 #[.int .i64 ww3.mtu, .int .i64 ww3.most, .int .i64 ww3.size, .int .i64 ww3.thr, .int .i64 ww3.part]) := Lib.hid k2
  clear k2 t2
  go_wp2_with fail
  refine (codeSizeN ww3 484 ww3_size g u2 K0.out).mono ?_
  rintro e v3 ⟨rfl, rfl⟩
  go_wp2_with fail
  refine (codeFast ww3 _ g _ ww3_ok K0.out).mono ?_
  rintro e u4 ⟨rfl, k2, t2⟩
  have HB := Lib.hid (tw_below HB.out t2 HS.out (Nat.le_refl _))
  have K0 : Hid (Blk u4 g 46 #[.int .i64 ww4.mtu, .int .i64 ww4.most, .int .i64 ww4.size, .int .i64 ww4.thr, .int .i64 ww4.part]) := Lib.hid k2
  clear k2 t2
  go_wp2_with fail
  refine (codeSizeN ww4 484 ww4_size g u4 K0.out).mono ?_
  rintro e v4 ⟨rfl, rfl⟩
  go_wp2_with fail
  refine (codeTimeout ww4 _ g _ ww4_ok K0.out).mono ?_
  rintro e u5 ⟨rfl, k2, t2⟩
  have HB := Lib.hid (tw_below HB.out t2 HS.out (Nat.le_refl _))
  have K0 : Hid (Blk u5 g 46 #[.int .i64 ww5.mtu, .int .i64 ww5.most, .int .i64 ww5.size, .int .i64 ww5.thr, .int .i64 ww5.part]) := Lib.hid k2
  clear k2 t2
  go_wp2_with fail
  refine (codeSizeN ww5 128 ww5_size g u5 K0.out).mono ?_
  rintro e v5 ⟨rfl, rfl⟩
  go_wp2_with fail
  refine (codeThresholdN ww5 512 ww5_thr g v5 K0.out).mono ?_
  rintro e v6 ⟨rfl, rfl⟩
  go_wp2_with fail
  go_ret
  exact ⟨rfl, HB.out⟩
end Go.Proofs.Ytlkppgdeaphoeaa
