/-
  Layer 2's statements, walked: CrcTells, CrcBack, CrcLengths.
-/
import Derived.Test.YthbabncihlclpaaCrcW
import Derived.Test.YthbabncihlclpaaCrcB
import Derived.Test.YthbabncihlclpaaKept
import Derived.Test.YthbabncihlclpaaNums
namespace Go.Proofs.Ythbabncihlclpaa
open Go.RowKit
set_option linter.unusedVariables false

theorem reg_of {a : Int} (h : (Lit.int .u32 a).wf = true) : ∃ r : R, a = (r.toNat : Int) := by
  have hb : 0 ≤ a ∧ a ≤ 4294967295 := by simpa [Lit.wf, IntKind.min, IntKind.max, IntKind.signed, IntKind.bits] using h
  obtain ⟨n, rfl⟩ := Int.eq_ofNat_of_zero_le hb.1
  exact ⟨BitVec.ofNat 32 n, by rw [BitVec.toNat_ofNat]; omega⟩
theorem ext_two (B : Nat) (A : Option Addr) (n c : Nat) (xs : List UInt8) (s : R) (k : Nat) (w : World) (hn : n ≤ maxLen) (hx : (xs.drop k).length = n) (hr : Rd w B A (xs.drop k)) :
    Calls Try.prog 11 #[rv (ext s (xs.take k)), .slice A n c] w fun e w' => e = .returned (rv (ext s xs)) ∧ w = w' := by
  have := ext_any B A n c (xs.drop k) (ext s (xs.take k)) w hn hx hr
  rwa [ext_append, List.take_append_drop] at this
theorem refExt_zero (B : Nat) (A : Option Addr) (n c : Nat) (xs : List UInt8) (w : World) (hn : n ≤ maxLen) (hx : xs.length = n) (hr : Rd w B A xs) :
    Calls Try.prog 12 #[.int .u32 0, .slice A n c] w fun e w' => e = .returned (rv (sum xs)) ∧ w = w' := refExt_any B A n c xs 0#32 w hn hx hr

set_option maxHeartbeats 400000 in
theorem crcTells_big (A : Option Addr) (n c : Nat) (s : R) (k : Int) (w : World) (hc : n ≤ c) (hcm : c ≤ maxLen) (h : 32768 < n) :
    Calls Try.prog 3 #[.slice A n c, rv s, .int .u16 k] w fun e w' => e = .returned (.bool true) ∧ Below w.heap.size w w' := by
  unfold maxLen at hcm
  go_enter Try.func3, Try.ntmps3
  go_wp2_with (go_at_call 9; refine (works_any _).mono ?_; rintro e w4 ⟨rfl, hb4⟩)
  go_ret
  exact ⟨rfl, hb4⟩

set_option maxHeartbeats 1000000 in
theorem crcTells_small (A : Option Addr) (n c : Nat) (xs : List UInt8) (s : R) (cut : Nat) (w : World) (h : n ≤ 32768) (hcut : cut < 65536) (hc : n ≤ c) (hcm : c ≤ maxLen) (hx : xs.length = n) (hr : Rd w w.heap.size A xs) :
    Calls Try.prog 3 #[.slice A n c, rv s, .int .u16 cut] w fun e w' => e = .returned (.bool true) ∧ Below w.heap.size w w' := by
  obtain ⟨k, hk, hkn⟩ : ∃ k : Nat, (cut : Int) % ((n : Int) + 1) = (k : Int) ∧ k ≤ n := ⟨_, mod_nat cut n, Nat.le_of_lt_succ (Nat.mod_lt _ (Nat.succ_pos _))⟩
  unfold maxLen at hcm
  have HX := Lib.hid hx
  have hs : s.toNat < 4294967296 := s.isLt
  clear hx
  go_enter Try.func3, Try.ntmps3
  go_wp2_with fail
  refine (roomy_any _ _ _ _ _ (by omega) HX.out hr).mono ?_
  rintro e w1 ⟨g, rfl, hg, hrow, hb1⟩
  have hz := hb1.size
  have HX' := Lib.hid (show (xs.take k).length = k by have := HX.out; simp; omega)
  have HX2 := Lib.hid (show (xs.drop k).length = n - k by have := HX.out; simp; omega)
  have hin : Rd w1 w1.heap.size (some ⟨g, 0, none⟩) xs := hrow.rd 0 xs (fun j hj => by rw [Nat.zero_add, List.getElem?_append_left hj])
  have hin2 : Rd w1 w1.heap.size (some ⟨g, k, none⟩) (xs.drop k) := hrow.rd k (xs.drop k) (fun j hj => by rw [List.getElem?_drop, List.getElem?_append_left (by simp at hj; omega)])
  have hr1 := (hr.below hb1).more hz
  go_wp2_with fail
  refine (ext_any _ _ _ _ _ s _ (by unfold maxLen; omega) HX'.out (hin.take_ k)).mono ?_
  rintro e w2 ⟨rfl, rfl⟩
  go_wp2_with fail
  refine (refExt_any _ _ _ _ _ s _ (by unfold maxLen; omega) HX'.out (hr1.take_ k)).mono ?_
  rintro e w2 ⟨rfl, rfl⟩
  go_wp2_with fail
  refine (ext_two _ _ _ _ xs s k _ (by unfold maxLen; omega) HX2.out hin2).mono ?_
  rintro e w2 ⟨rfl, rfl⟩
  go_wp2_with fail
  refine (refExt_any _ _ _ _ _ s _ (by unfold maxLen; omega) HX.out hr1).mono ?_
  rintro e w2 ⟨rfl, rfl⟩
  go_wp2_with fail
  refine (sum_any _ _ _ _ _ _ (by unfold maxLen; omega) HX.out hin).mono ?_
  rintro e w2 ⟨rfl, rfl⟩
  go_wp2_with fail
  refine (refExt_zero _ _ _ _ _ _ (by unfold maxLen; omega) HX.out hr1).mono ?_
  rintro e w2 ⟨rfl, rfl⟩
  go_wp2_with fail
  refine (kept_any _ _ _ _ _ _ _ (by omega) HX.out hr1 hrow).mono ?_
  rintro e w2 ⟨rfl, q, rfl⟩
  go_wp2_with fail
  refine (works_any _).mono ?_
  rintro e w3 ⟨rfl, hb3⟩
  go_wp2
  go_ret
  exact ⟨rfl, below_then (below_drewN hb1 q) (Nat.le_refl _) hb3⟩

theorem crcTells_walk (A : Option Addr) (n c : Nat) (xs : List UInt8) (s k : Int) (w : World) (hc : n ≤ c) (hcm : c ≤ maxLen) (hx : xs.length = n) (hr : Rd w w.heap.size A xs) (hs : (Lit.int .u32 s).wf = true) (hk : (Lit.int .u16 k).wf = true) :
    Calls Try.prog 3 #[.slice A n c, .int .u32 s, .int .u16 k] w fun e w' => e = .returned (.bool true) ∧ Below w.heap.size w w' := by
  obtain ⟨r, rfl⟩ := reg_of hs
  obtain ⟨k, rfl, hk'⟩ := nat_of_u16 hk
  by_cases h : 32768 < n
  · exact crcTells_big A n c r k w hc hcm h
  · exact crcTells_small A n c xs r k w (by omega) hk' hc hcm hx hr

/-! ### CrcBack -/
set_option maxHeartbeats 400000 in
theorem crcBack_big (A : Option Addr) (n c : Nat) (s : R) (w : World) (hc : n ≤ c) (hcm : c ≤ maxLen) (h : 4096 < n) :
    Calls Try.prog 7 #[rv s, .slice A n c] w fun e w' => e = .returned (.bool true) ∧ Below w.heap.size w w' := by
  unfold maxLen at hcm
  go_enter Try.func7, Try.ntmps7
  go_wp2_with (go_at_call 9; refine (works_any _).mono ?_; rintro e w4 ⟨rfl, hb4⟩)
  go_ret
  exact ⟨rfl, hb4⟩
theorem ext_of_unext (B : Nat) (A : Option Addr) (n c : Nat) (xs : List UInt8) (s : R) (w : World) (hn : n ≤ maxLen) (hx : xs.length = n) (hr : Rd w B A xs) :
    Calls Try.prog 11 #[rv (unext s xs), .slice A n c] w fun e w' => e = .returned (rv s) ∧ w = w' := by
  have := ext_any B A n c xs (unext s xs) w hn hx hr
  rwa [ext_unext] at this
theorem unext_of_ext (B : Nat) (A : Option Addr) (n c : Nat) (xs : List UInt8) (s : R) (w : World) (hn : n ≤ 1048576) (hx : xs.length = n) (hr : Rd w B A xs) :
    Calls Try.prog 15 #[rv (ext s xs), .slice A n c] w fun e w' => e = .returned (rv s) ∧ w = w' := by
  have := behind_any B A n c xs (ext s xs) w hn hx hr
  rwa [unext_ext] at this
set_option maxHeartbeats 400000 in
theorem crcBack_small (A : Option Addr) (n c : Nat) (xs : List UInt8) (s : R) (w : World) (h : n ≤ 4096) (hx : xs.length = n) (hr : Rd w w.heap.size A xs) :
    Calls Try.prog 7 #[rv s, .slice A n c] w fun e w' => e = .returned (.bool true) ∧ Below w.heap.size w w' := by
  have HX := Lib.hid hx
  have hs : s.toNat < 4294967296 := s.isLt
  clear hx
  go_enter Try.func7, Try.ntmps7
  go_wp2_with fail
  refine (behind_any _ _ _ _ _ s _ (by omega) HX.out hr).mono ?_
  rintro e w2 ⟨rfl, rfl⟩
  go_wp2_with fail
  refine (ext_of_unext _ _ _ _ _ s _ (by unfold maxLen; omega) HX.out hr).mono ?_
  rintro e w2 ⟨rfl, rfl⟩
  go_wp2_with fail
  refine (ext_any _ _ _ _ _ s _ (by unfold maxLen; omega) HX.out hr).mono ?_
  rintro e w2 ⟨rfl, rfl⟩
  go_wp2_with fail
  refine (unext_of_ext _ _ _ _ _ s _ (by omega) HX.out hr).mono ?_
  rintro e w2 ⟨rfl, rfl⟩
  go_wp2_with fail
  refine (works_any _).mono ?_
  rintro e w3 ⟨rfl, hb3⟩
  go_wp2
  go_ret
  exact ⟨rfl, hb3⟩
theorem crcBack_walk (s : Int) (A : Option Addr) (n c : Nat) (xs : List UInt8) (w : World) (hs : (Lit.int .u32 s).wf = true) (hc : n ≤ c) (hcm : c ≤ maxLen) (hx : xs.length = n) (hr : Rd w w.heap.size A xs) :
    Calls Try.prog 7 #[.int .u32 s, .slice A n c] w fun e w' => e = .returned (.bool true) ∧ Below w.heap.size w w' := by
  obtain ⟨r, rfl⟩ := reg_of hs
  by_cases h : 4096 < n
  · exact crcBack_big A n c r w hc hcm h
  · exact crcBack_small A n c xs r w (by omega) hx hr
end Go.Proofs.Ythbabncihlclpaa
