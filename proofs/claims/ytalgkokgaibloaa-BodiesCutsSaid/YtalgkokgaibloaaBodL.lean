/-
  Layer 9: two that are alike; the statements' bounds; the anchor.
-/
import Derived.Test.YtalgkokgaibloaaBodK
namespace Go.Proofs.Ytalgkokgaibloaa
open Go.RowKit
set_option linter.unusedVariables false

set_option maxHeartbeats 2000000 in
theorem sameD_yes (tsn stream ssn : Int) (un fi la : Bool) (A A' : Option Addr) (n c n' c' : Nat) (xs : List UInt8) (w : World) (hx : xs.length = n) (hx' : xs.length = n') (hn : n ≤ 140737488355328) (hr : Rd w w.heap.size A xs) (hr' : Rd w w.heap.size A' xs) :
    Calls Try.prog 21 #[.agg #[.int .u32 tsn, .int .u16 stream, .int .u16 ssn, .bool un, .bool fi, .bool la, .slice A n c], .agg #[.int .u32 tsn, .int .u16 stream, .int .u16 ssn, .bool un, .bool fi, .bool la, .slice A' n' c']] w fun e w' => e = .returned (.bool true) ∧ Below w.heap.size w w' := by
  obtain rfl : n' = n := by omega
  have HC : Hid (∀ W : World, Below w.heap.size w W → Calls Try.prog 58 #[.slice A n' c, .slice A' n' c'] W fun e w' => e = .returned (.bool true) ∧ ∃ q, W.drewN q = w') := Lib.hid fun W hW => eqBytes_same w.heap.size w.heap.size A A' n' c c' xs W hx (by unfold maxLen; omega) (hr.below hW) (hr'.below hW)
  have HB := Lib.hid ((below_new w (.cells #[.int .u32 tsn, .int .u16 stream, .int .u16 ssn, .bool un, .bool fi, .bool la, .slice A n' c] 26)).alloc (by simp) (.cells #[.int .u32 tsn, .int .u16 stream, .int .u16 ssn, .bool un, .bool fi, .bool la, .slice A' n' c'] 26))
  clear hx hx' hr hr'
  go_enter Try.func21, Try.ntmps21
  go_wp2_with fail
  refine (HC.out _ HB.out).mono ?_
  rintro e w1 ⟨rfl, q, rfl⟩
  go_wp2_with fail
  go_ret
  exact ⟨rfl, below_drewN HB.out q⟩

set_option maxHeartbeats 2000000 in
theorem sameI_yes (tag rwnd out in_ tsn : Int) (A A' : Option Addr) (n c n' c' : Nat) (xs : List UInt8) (w : World) (hx : xs.length = n) (hx' : xs.length = n') (hn : n ≤ 140737488355328) (hr : Rd w w.heap.size A xs) (hr' : Rd w w.heap.size A' xs) :
    Calls Try.prog 27 #[.agg #[.int .u32 tag, .int .u32 rwnd, .int .u16 out, .int .u16 in_, .int .u32 tsn, .slice A n c], .agg #[.int .u32 tag, .int .u32 rwnd, .int .u16 out, .int .u16 in_, .int .u32 tsn, .slice A' n' c']] w fun e w' => e = .returned (.bool true) ∧ Below w.heap.size w w' := by
  obtain rfl : n' = n := by omega
  have HC : Hid (∀ W : World, Below w.heap.size w W → Calls Try.prog 58 #[.slice A n' c, .slice A' n' c'] W fun e w' => e = .returned (.bool true) ∧ ∃ q, W.drewN q = w') := Lib.hid fun W hW => eqBytes_same w.heap.size w.heap.size A A' n' c c' xs W hx (by unfold maxLen; omega) (hr.below hW) (hr'.below hW)
  have HB := Lib.hid ((below_new w (.cells #[.int .u32 tag, .int .u32 rwnd, .int .u16 out, .int .u16 in_, .int .u32 tsn, .slice A n' c] 43)).alloc (by simp) (.cells #[.int .u32 tag, .int .u32 rwnd, .int .u16 out, .int .u16 in_, .int .u32 tsn, .slice A' n' c'] 43))
  clear hx hx' hr hr'
  go_enter Try.func27, Try.ntmps27
  go_wp2_with fail
  refine (HC.out _ HB.out).mono ?_
  rintro e w1 ⟨rfl, q, rfl⟩
  go_wp2_with fail
  go_ret
  exact ⟨rfl, below_drewN HB.out q⟩

set_option maxHeartbeats 4000000 in
theorem sameF_yes (cum : Int) (A A' : Option Addr) (m c m' c' : Nat) (L : List (Nat × Nat)) (w : World) (hm : m ≤ 1099511627776) (hx : L.length = m) (hx' : L.length = m') (hr : Rg w 0 w.heap.size A L) (hr' : Rg w 0 w.heap.size A' L) :
    Calls Try.prog 38 #[.agg #[.int .u32 cum, .slice A m c], .agg #[.int .u32 cum, .slice A' m' c']] w fun e w' => e = .returned (.bool true) ∧ Below w.heap.size w w' := by
  obtain rfl : m' = m := by omega
  have HB := Lib.hid ((below_new w (.cells #[.int .u32 cum, .slice A m' c] 56)).alloc (by simp) (.cells #[.int .u32 cum, .slice A' m' c'] 56))
  have b0 := (Blk.new w 56 #[.int .u32 cum, .slice A m' c]).alloc (.cells #[.int .u32 cum, .slice A' m' c'] 56)
  have b1 : Blk ((w.alloc (.cells #[.int .u32 cum, .slice A m' c] 56)).alloc (.cells #[.int .u32 cum, .slice A' m' c'] 56)) (w.heap.size + 1) 56 #[.int .u32 cum, .slice A' m' c'] := by simpa using Blk.new (w.alloc (.cells #[.int .u32 cum, .slice A m' c] 56)) 56 #[.int .u32 cum, .slice A' m' c']
  have K0 := Lib.hid b0
  have K1 := Lib.hid b1
  have HX := Lib.hid hx
  have HR := Lib.hid hr
  have HR' := Lib.hid hr'
  clear hx hx' hr hr' b0 b1
  go_enter Try.func38, Try.ntmps38
  go_wp2_with fail
  generalize (w.alloc (.cells #[.int .u32 cum, .slice A m' c] 56)).alloc (.cells #[.int .u32 cum, .slice A' m' c'] 56) = v0 at HB K0 K1 ⊢
  go_loopw [5] (fun i wr => ∃ k q : Nat, k ≤ m' ∧ i = .int .i64 k ∧ wr = v0.drewN q) (fun i _ => m' - (intOf i).toNat)
  case atStart => exact ⟨0, 0, Nat.zero_le _, rfl, rfl⟩
  case round =>
    obtain ⟨k, q, hk, rfl, rfl⟩ := hrel
    have x1 : v0.cell? ⟨w.heap.size, 1, none⟩ = some (.slice A m' c) := K0.out.cell 1
    have y1 : v0.cell? ⟨w.heap.size + 1, 1, none⟩ = some (.slice A' m' c') := K1.out.cell 1
    by_cases hlt : k < m'
    · have hkl : k < L.length := by rw [HX.out]; exact hlt
      have hne : L ≠ [] := by intro e; rw [e] at hkl; simp at hkl
      obtain ⟨gb, go, hA, _, hgl, hcx⟩ := (HR.out.below_ HB.out).at_ hne
      obtain ⟨gb', go', hA', _, hgl', hcx'⟩ := (HR'.out.below_ HB.out).at_ hne
      subst hA hA'
      have c0 := (hcx k hkl).1
      have c1 := (hcx k hkl).2
      have d0 := (hcx' k hkl).1
      have d1 := (hcx' k hkl).2
      obtain ⟨pa, hpa⟩ : ∃ pa, pa = L[k].1 := ⟨_, rfl⟩
      obtain ⟨pb, hpb⟩ : ∃ pb, pb = L[k].2 := ⟨_, rfl⟩
      rw [← hpa] at c0 d0
      rw [← hpb] at c1 d1
      clear hpa hpb hcx hcx' hne
      go_wp2_with fail
      go_quiet (fail)
      go_wp2_with fail
      go_roundw
      case rel => exact ⟨k + 1, _, by omega, by go_num, rfl⟩
      case measure => simp [intOf]; omega
    · obtain rfl : k = m' := by omega
      go_wp2_with fail
      go_ret
      exact ⟨rfl, below_drewN HB.out q⟩
end Go.Proofs.Ytalgkokgaibloaa
