/-
  Package window: sizes, New, of the code and of the reference.
-/
import Derived.Test.YtlkppgdeaphoeaaWnM
import Derived.Test.YtlkppgdeaphoeaaRun
import Derived.Test.YtlkppgdeaphoeaaQuietTail
import Derived.Test.YtlkppgdeaphoeaaHeld
import Derived.Test.YtlkppgdeaphoeaaRows
import Derived.WalkSpells
import Derived.StillTailTactics
import Derived.RegionTactic
namespace Go.Proofs.Ytlkppgdeaphoeaa
open Go.RowKit
set_option linter.unusedVariables false

theorem wrap_i64 {x : Int} (h1 : -9223372036854775808 ≤ x) (h2 : x ≤ 9223372036854775807) : IntKind.i64.wrap x = x := by
  unfold IntKind.wrap
  simp [IntKind.signed, IntKind.bits]
  omega
theorem of_eq {g : Nat} {T : TypeId} {w : World} {a b : Array Value} (h : Blk w g T a) (e : a = b) : Blk w g T b := e ▸ h
theorem floor_any (m : Int) (w : World) (a1 : 128 ≤ m) (a2 : m ≤ 1500) : Calls Try.prog 21 #[.int .i64 m] w fun e w' => e = .returned (.int .i64 (4 * m)) ∧ w' = w := by
  go_enter Try.func21, Try.ntmps21
  go_wp2_with fail
  go_ret
  exact ⟨rfl, rfl⟩
theorem codeSize (s : Wn) (g : Nat) (w : World) (K : Blk w g 46 #[.int .i64 s.mtu, .int .i64 s.most, .int .i64 s.size, .int .i64 s.thr, .int .i64 s.part]) : Calls Try.prog 14 #[.pointer (some ⟨g, 0, none⟩)] w fun e w' => e = .returned (.int .i64 s.size) ∧ w' = w := by
  have j2 : w.cell? ⟨g, 2, none⟩ = some (.int .i64 s.size) := K.cell 2
  go_enter Try.func14, Try.ntmps14
  go_wp2_with fail
  go_ret
  exact ⟨rfl, rfl⟩
theorem codeSize_nil (w : World) : Calls Try.prog 14 #[.pointer none] w fun e w' => e = .returned (.int .i64 0) ∧ w' = w := by
  go_enter Try.func14, Try.ntmps14
  go_wp2_with fail
  go_ret
  exact ⟨rfl, rfl⟩
theorem codeSizeN (s : Wn) (n : Int) (hn : s.size = n) (g : Nat) (w : World) (K : Blk w g 46 #[.int .i64 s.mtu, .int .i64 s.most, .int .i64 s.size, .int .i64 s.thr, .int .i64 s.part]) : Calls Try.prog 14 #[.pointer (some ⟨g, 0, none⟩)] w fun e w' => e = .returned (.int .i64 n) ∧ w' = w := by
  rw [← hn]
  exact codeSize s g w K
theorem codeThreshold (s : Wn) (g : Nat) (w : World) (K : Blk w g 46 #[.int .i64 s.mtu, .int .i64 s.most, .int .i64 s.size, .int .i64 s.thr, .int .i64 s.part]) : Calls Try.prog 16 #[.pointer (some ⟨g, 0, none⟩)] w fun e w' => e = .returned (.int .i64 s.thr) ∧ w' = w := by
  have j3 : w.cell? ⟨g, 3, none⟩ = some (.int .i64 s.thr) := K.cell 3
  go_enter Try.func16, Try.ntmps16
  go_wp2_with fail
  go_ret
  exact ⟨rfl, rfl⟩
theorem codeThreshold_nil (w : World) : Calls Try.prog 16 #[.pointer none] w fun e w' => e = .returned (.int .i64 0) ∧ w' = w := by
  go_enter Try.func16, Try.ntmps16
  go_wp2_with fail
  go_ret
  exact ⟨rfl, rfl⟩
theorem codeThresholdN (s : Wn) (n : Int) (hn : s.thr = n) (g : Nat) (w : World) (K : Blk w g 46 #[.int .i64 s.mtu, .int .i64 s.most, .int .i64 s.size, .int .i64 s.thr, .int .i64 s.part]) : Calls Try.prog 16 #[.pointer (some ⟨g, 0, none⟩)] w fun e w' => e = .returned (.int .i64 n) ∧ w' = w := by
  rw [← hn]
  exact codeThreshold s g w K
theorem refSize (s : Wn) (g : Nat) (w : World) (K : Blk w g 48 #[.int .i64 s.mtu, .int .i64 s.most, .int .i64 s.size, .int .i64 s.thr, .int .i64 s.part]) : Calls Try.prog 15 #[.pointer (some ⟨g, 0, none⟩)] w fun e w' => e = .returned (.int .i64 s.size) ∧ w' = w := by
  have j2 : w.cell? ⟨g, 2, none⟩ = some (.int .i64 s.size) := K.cell 2
  go_enter Try.func15, Try.ntmps15
  go_wp2_with fail
  go_ret
  exact ⟨rfl, rfl⟩
theorem refSize_nil (w : World) : Calls Try.prog 15 #[.pointer none] w fun e w' => e = .returned (.int .i64 0) ∧ w' = w := by
  go_enter Try.func15, Try.ntmps15
  go_wp2_with fail
  go_ret
  exact ⟨rfl, rfl⟩
theorem refSizeN (s : Wn) (n : Int) (hn : s.size = n) (g : Nat) (w : World) (K : Blk w g 48 #[.int .i64 s.mtu, .int .i64 s.most, .int .i64 s.size, .int .i64 s.thr, .int .i64 s.part]) : Calls Try.prog 15 #[.pointer (some ⟨g, 0, none⟩)] w fun e w' => e = .returned (.int .i64 n) ∧ w' = w := by
  rw [← hn]
  exact refSize s g w K
theorem refThreshold (s : Wn) (g : Nat) (w : World) (K : Blk w g 48 #[.int .i64 s.mtu, .int .i64 s.most, .int .i64 s.size, .int .i64 s.thr, .int .i64 s.part]) : Calls Try.prog 17 #[.pointer (some ⟨g, 0, none⟩)] w fun e w' => e = .returned (.int .i64 s.thr) ∧ w' = w := by
  have j3 : w.cell? ⟨g, 3, none⟩ = some (.int .i64 s.thr) := K.cell 3
  go_enter Try.func17, Try.ntmps17
  go_wp2_with fail
  go_ret
  exact ⟨rfl, rfl⟩
theorem refThreshold_nil (w : World) : Calls Try.prog 17 #[.pointer none] w fun e w' => e = .returned (.int .i64 0) ∧ w' = w := by
  go_enter Try.func17, Try.ntmps17
  go_wp2_with fail
  go_ret
  exact ⟨rfl, rfl⟩
theorem refThresholdN (s : Wn) (n : Int) (hn : s.thr = n) (g : Nat) (w : World) (K : Blk w g 48 #[.int .i64 s.mtu, .int .i64 s.most, .int .i64 s.size, .int .i64 s.thr, .int .i64 s.part]) : Calls Try.prog 17 #[.pointer (some ⟨g, 0, none⟩)] w fun e w' => e = .returned (.int .i64 n) ∧ w' = w := by
  rw [← hn]
  exact refThreshold s g w K
set_option maxRecDepth 100000 in
set_option maxHeartbeats 4000000 in
theorem codeNew_no (m x : Int) (w : World) (h : ¬ winOk m x) : Calls Try.prog 10 #[.int .i64 m, .int .i64 x] w fun e w' => e = .returned (.tuple #[.pointer none, .int .i64 1]) ∧ w' = w := by
  unfold winOk at h
  by_cases h1 : m < 128
  · skip
    clear h
    go_enter Try.func10, Try.ntmps10
    go_wp2_with fail
    go_ret2
    exact ⟨rfl, rfl⟩
  · by_cases h2 : 1500 < m
    · skip
      clear h
      go_enter Try.func10, Try.ntmps10
      go_wp2_with fail
      go_ret2
      exact ⟨rfl, rfl⟩
    · by_cases h3 : x < 4 * m
      · skip
        have HF := Lib.hid (floor_any m w (by omega) (by omega))
        clear h
        go_enter Try.func10, Try.ntmps10
        go_wp2_with fail
        refine HF.out.mono ?_
        rintro e w1 ⟨rfl, rfl⟩
        go_wp2_with fail
        go_ret2
        exact ⟨rfl, rfl⟩
      · have h4 : 16777216 < x := by omega
        have HF := Lib.hid (floor_any m w (by omega) (by omega))
        clear h
        go_enter Try.func10, Try.ntmps10
        go_wp2_with fail
        refine HF.out.mono ?_
        rintro e w1 ⟨rfl, rfl⟩
        go_wp2_with fail
        go_ret2
        exact ⟨rfl, rfl⟩
set_option maxRecDepth 100000 in
set_option maxHeartbeats 4000000 in
theorem codeNew (m x : Int) (w : World) (h : winOk m x) : Calls Try.prog 10 #[.int .i64 m, .int .i64 x] w fun e w' => e = .returned (.tuple #[.pointer (some ⟨w.heap.size, 0, none⟩), .int .i64 0]) ∧ Blk w' w.heap.size 46 #[.int .i64 (newW m x).mtu, .int .i64 (newW m x).most, .int .i64 (newW m x).size, .int .i64 (newW m x).thr, .int .i64 (newW m x).part] ∧ Below w.heap.size w w' := by
  obtain ⟨h1, h2, h3, h4⟩ := h
  have HF := Lib.hid (floor_any m w h1 h2)
  have HB := Lib.hid (below_new w (.cells #[.int .i64 m, .int .i64 x, .int .i64 (2 * m), .int .i64 x, .int .i64 0] 46))
  have HK := Lib.hid (Blk.new w 46 #[.int .i64 m, .int .i64 x, .int .i64 (2 * m), .int .i64 x, .int .i64 0])
  have n1 : ¬ m < 128 := by omega
  have n2 : ¬ 1500 < m := by omega
  have n3 : ¬ x < 4 * m := by omega
  have n4 : ¬ 16777216 < x := by omega
  go_enter Try.func10, Try.ntmps10
  go_wp2_with fail
  refine HF.out.mono ?_
  rintro e w1 ⟨rfl, rfl⟩
  go_wp2_with fail
  go_ret2
  exact ⟨rfl, HK.out, HB.out⟩
set_option maxRecDepth 100000 in
set_option maxHeartbeats 4000000 in
theorem refNew_no (m x : Int) (w : World) (h : ¬ winOk m x) : Calls Try.prog 11 #[.int .i64 m, .int .i64 x] w fun e w' => e = .returned (.tuple #[.pointer none, .int .i64 1]) ∧ w' = w := by
  unfold winOk at h
  by_cases h1 : m < 128
  · skip
    clear h
    go_enter Try.func11, Try.ntmps11
    go_wp2_with fail
    go_ret2
    exact ⟨rfl, rfl⟩
  · by_cases h2 : 1500 < m
    · skip
      clear h
      go_enter Try.func11, Try.ntmps11
      go_wp2_with fail
      go_ret2
      exact ⟨rfl, rfl⟩
    · by_cases h3 : x < 4 * m
      · skip
        clear h
        go_enter Try.func11, Try.ntmps11
        go_wp2_with fail
        go_ret2
        exact ⟨rfl, rfl⟩
      · have h4 : 16777216 < x := by omega
        clear h
        go_enter Try.func11, Try.ntmps11
        go_wp2_with fail
        go_ret2
        exact ⟨rfl, rfl⟩
set_option maxRecDepth 100000 in
set_option maxHeartbeats 4000000 in
theorem refNew (m x : Int) (w : World) (h : winOk m x) : Calls Try.prog 11 #[.int .i64 m, .int .i64 x] w fun e w' => e = .returned (.tuple #[.pointer (some ⟨w.heap.size, 0, none⟩), .int .i64 0]) ∧ Blk w' w.heap.size 48 #[.int .i64 (newW m x).mtu, .int .i64 (newW m x).most, .int .i64 (newW m x).size, .int .i64 (newW m x).thr, .int .i64 (newW m x).part] ∧ Below w.heap.size w w' := by
  obtain ⟨h1, h2, h3, h4⟩ := h
  have HB := Lib.hid (below_new w (.cells #[.int .i64 m, .int .i64 x, .int .i64 (2 * m), .int .i64 x, .int .i64 0] 48))
  have HK := Lib.hid (Blk.new w 48 #[.int .i64 m, .int .i64 x, .int .i64 (2 * m), .int .i64 x, .int .i64 0])
  have n1 : ¬ m < 128 := by omega
  have n2 : ¬ 1500 < m := by omega
  have n3 : ¬ x < 4 * m := by omega
  have n4 : ¬ 16777216 < x := by omega
  go_enter Try.func11, Try.ntmps11
  go_wp2_with fail
  go_ret2
  exact ⟨rfl, HK.out, HB.out⟩
end Go.Proofs.Ytlkppgdeaphoeaa
