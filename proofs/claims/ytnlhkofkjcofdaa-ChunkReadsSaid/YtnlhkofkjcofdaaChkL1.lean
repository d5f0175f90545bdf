/-
  ChunkReads, walked.
-/
import Derived.Test.YtnlhkofkjcofdaaChkF
import Derived.Test.YtnlhkofkjcofdaaChkE
import Derived.Test.YtnlhkofkjcofdaaRows2
namespace Go.Proofs.Ytnlhkofkjcofdaa
open Go.RowKit
set_option linter.unusedVariables false

/-- What Read answers, whatever the bytes. -/
def ReadIs (base : Nat) (xs : List UInt8) (a b n e : Int) (ys : List UInt8) (en : Ending) (w : World) : Prop :=
  ∃ A m c, en = .returned (.tuple #[.agg #[.int .u8 a, .int .u8 b, .slice A m c], .int .i64 n, .int .i64 e]) ∧ Own8 w 5 base A m c ys

theorem read_both (xs : List UInt8) : ∃ (a b n e : Int) (ys : List UInt8), ys.length ≤ xs.length ∧ (∀ (A : Option Addr) (n' c : Nat) (w : World), n' ≤ 140737488355300 → n' ≤ c → c ≤ maxLen → xs.length = n' → Rd w w.heap.size A xs →
    (Calls Try.prog 18 #[.slice A n' c] w fun en w' => ReadIs w.heap.size xs a b n e ys en w' ∧ Below w.heap.size w w') ∧
    (Calls Try.prog 19 #[.slice A n' c] w fun en w' => ReadIs w.heap.size xs a b n e ys en w' ∧ Below w.heap.size w w')) := by
  by_cases hf : Fits xs
  · refine ⟨(kind xs).toNat, (flag xs).toNat, up4 (clen xs), 0, body xs, by simp [body]; omega, fun A n' c w hn hc hcm hx hr => ⟨?_, ?_⟩⟩
    · exact (read_yes A n' c xs w hn hc hcm hx hr hf).mono fun en w' ⟨A2, c2, he, ho, hb⟩ => ⟨⟨A2, _, c2, he, ho⟩, hb⟩
    · exact (refRead_yes A n' c xs w hn hc hcm hx hr hf).mono fun en w' ⟨A2, c2, he, ho, hb⟩ => ⟨⟨A2, _, c2, he, ho⟩, hb⟩
  · refine ⟨0, 0, 0, 7, [], by simp, fun A n' c w hn hc hcm hx hr => ⟨?_, ?_⟩⟩
    · exact (read_no A n' c xs w hn hc hcm hx hr hf).mono fun en w' ⟨he, hb⟩ => ⟨⟨none, 0, 0, he, Own8.nil _ _ _⟩, hb⟩
    · exact (refRead_no A n' c xs w hn hc hcm hx hr hf).mono fun en w' ⟨he, hb⟩ => ⟨⟨none, 0, 0, he, Own8.nil _ _ _⟩, hb⟩

set_option maxHeartbeats 1000000 in
theorem chunkReads_big (A : Option Addr) (n c : Nat) (w : World) (h : 131072 < n) :
    Calls Try.prog 4 #[.slice A n c] w fun e w' => e = .returned (.bool true) ∧ Below w.heap.size w w' := by
  go_enter Try.func4, Try.ntmps4
  go_wp2_with fail
  refine (works_any _).mono ?_
  rintro e w' ⟨rfl, hb⟩
  go_wp2_with fail
  go_ret
  exact ⟨rfl, hb⟩

set_option maxRecDepth 100000 in
set_option maxHeartbeats 4000000 in
theorem chunkReads_small (A : Option Addr) (n c : Nat) (xs : List UInt8) (w : World) (h : n ≤ 131072) (hc : n ≤ c) (hcm : c ≤ maxLen) (hx : xs.length = n) (hr : Rd w w.heap.size A xs) :
    Calls Try.prog 4 #[.slice A n c] w fun e w' => e = .returned (.bool true) ∧ Below w.heap.size w w' := by
  obtain ⟨ra, rb, rn, re, ys, hys, hread⟩ := read_both xs
  have HX := Lib.hid hx
  have HM := Lib.hid hcm
  have HR := Lib.hid hr
  have HRD := Lib.hid hread
  have HYS : Hid (ys.length ≤ 131072) := Lib.hid (by omega)
  clear hx hcm hr hread hys
  go_enter Try.func4, Try.ntmps4
  go_wp2_with fail
  refine (roomy_any _ _ _ _ _ (by omega) HX.out HR.out).mono ?_
  rintro e w1 ⟨g, rfl, hg, hrow, hb1⟩
  have ROW1 := Lib.hid hrow
  have B1 := Lib.hid hb1
  have C1 := Lib.hid (HRD.out (some ⟨g, 0, none⟩) n (n + 16) w1 (by omega) (by omega) (by unfold maxLen; omega) HX.out (rd_room hrow)).1
  clear hrow hb1
  go_wp2_with fail
  refine C1.out.mono ?_
  rintro e w2 ⟨⟨A2, m2, c2, rfl, ho2⟩, hb2⟩
  have B2 := Lib.hid ((below_then B1.out (Nat.le_refl _) hb2).alloc (Nat.le_trans B1.out.size hb2.size) (.cells #[.int .u8 ra, .int .u8 rb, .slice A2 m2 c2] 24))
  have K2 := Lib.hid (Blk.new w2 24 #[.int .u8 ra, .int .u8 rb, .slice A2 m2 c2])
  have O2 := Lib.hid (ho2.alloc (.cells #[.int .u8 ra, .int .u8 rb, .slice A2 m2 c2] 24))
  have ROW2 := Lib.hid ((ROW1.out.below hb2 ROW1.out.lt).alloc (.cells #[.int .u8 ra, .int .u8 rb, .slice A2 m2 c2] 24))
  have FAR := Lib.hid (far_of (own_in ROW1.out HX.out (Nat.le_refl _) (by omega)) ho2 (Nat.le_refl _))
  clear ho2 hb2 C1
  go_wp2_with fail
  generalize w2.alloc (.cells #[.int .u8 ra, .int .u8 rb, .slice A2 m2 c2] 24) = w3 at B2 K2 O2 ROW2 ⊢
  have C2 := Lib.hid (HRD.out A n c w3 (by omega) hc HM.out HX.out ((HR.out.below B2.out).more B2.out.size)).2
  refine C2.out.mono ?_
  rintro e w4 ⟨⟨A4, m4, c4, rfl, ho4⟩, hb4⟩
  have hm : m4 = m2 := ho4.len.symm.trans O2.out.len
  subst hm
  have B4 := Lib.hid ((below_then B2.out (Nat.le_refl _) hb4).alloc (Nat.le_trans B2.out.size hb4.size) (.cells #[.int .u8 ra, .int .u8 rb, .slice A4 m4 c4] 24))
  have K4 := Lib.hid ((K2.out.below hb4 K2.out.lt).alloc (.cells #[.int .u8 ra, .int .u8 rb, .slice A4 m4 c4] 24))
  have L4 := Lib.hid (Blk.new w4 24 #[.int .u8 ra, .int .u8 rb, .slice A4 m4 c4])
  have O4 := Lib.hid ((O2.out.below hb4 (Nat.le_refl _)).alloc (.cells #[.int .u8 ra, .int .u8 rb, .slice A4 m4 c4] 24))
  have P4 := Lib.hid (ho4.alloc (.cells #[.int .u8 ra, .int .u8 rb, .slice A4 m4 c4] 24))
  have ROW4 := Lib.hid ((ROW2.out.below hb4 ROW2.out.lt).alloc (.cells #[.int .u8 ra, .int .u8 rb, .slice A4 m4 c4] 24))
  clear ho4 hb4 C2 K2 O2 ROW2
  have k0 : (w4.alloc (.cells #[.int .u8 ra, .int .u8 rb, .slice A4 m4 c4] 24)).cell? ⟨w2.heap.size, 0, none⟩ = some (.int .u8 ra) := K4.out.cell 0
  have k1 : (w4.alloc (.cells #[.int .u8 ra, .int .u8 rb, .slice A4 m4 c4] 24)).cell? ⟨w2.heap.size, 1, none⟩ = some (.int .u8 rb) := K4.out.cell 1
  have k2 : (w4.alloc (.cells #[.int .u8 ra, .int .u8 rb, .slice A4 m4 c4] 24)).cell? ⟨w2.heap.size, 2, none⟩ = some (.slice A2 m4 c2) := K4.out.cell 2
  go_wp2_with fail
  generalize w4.alloc (.cells #[.int .u8 ra, .int .u8 rb, .slice A4 m4 c4] 24) = w5 at B4 K4 L4 O4 P4 ROW4 k0 k1 k2 ⊢
  have hm4 : m4 ≤ 140737488355300 := by have := O4.out.len; have := HYS.out; omega
  have HSM := Lib.hid (same_yes ra rb A2 A4 m4 c2 c4 ys w5 O4.out.len hm4 O4.out.rd P4.out.rd)
  refine HSM.out.mono ?_
  rintro e w6 ⟨rfl, hb6⟩
  have B6 := Lib.hid (below_then B4.out (Nat.le_refl _) hb6)
  have K6 := Lib.hid (K4.out.below hb6 K4.out.lt)
  have O6 := Lib.hid (O4.out.below hb6 (Nat.le_refl _))
  have ROW6 := Lib.hid (ROW4.out.below hb6 ROW4.out.lt)
  clear hb6 HSM K4 L4 O4 P4 ROW4 k0 k1 k2
  go_wp2_with fail
  refine (kept_any w.heap.size A n c g xs w6 (by omega) HX.out (HR.out.below B6.out) ROW6.out).mono ?_
  rintro e w7 ⟨rfl, q7, rfl⟩
  have k2 : w6.cell? ⟨w2.heap.size, 2, none⟩ = some (.slice A2 m4 c2) := K6.out.cell 2
  have HAP := Lib.hid (apart2 (O6.out.drewN q7) (own_in (ROW6.out.drewN q7) HX.out (Nat.zero_le _) (by omega)) FAR.out.symm 2)
  go_wp2_with fail
  refine HAP.out.mono ?_
  rintro e w8 ⟨rfl, hb8⟩
  have B8 := Lib.hid (below_then (below_drewN B6.out q7) (Nat.le_refl _) hb8)
  clear hb8 HAP
  go_wp2_with fail
  refine (works_any _).mono ?_
  rintro e w9 ⟨rfl, hb9⟩
  go_wp2_with fail
  go_ret
  exact ⟨rfl, below_then B8.out (Nat.le_refl _) hb9⟩

theorem chunkReads_walk (A : Option Addr) (n c : Nat) (xs : List UInt8) (w : World) (hc : n ≤ c) (hcm : c ≤ maxLen) (hx : xs.length = n) (hr : Rd w w.heap.size A xs) :
    Calls Try.prog 4 #[.slice A n c] w fun e w' => e = .returned (.bool true) ∧ Below w.heap.size w w' := by
  by_cases h : 131072 < n
  · exact chunkReads_big A n c w h
  · exact chunkReads_small A n c xs w (by omega) hc hcm hx hr
end Go.Proofs.Ytnlhkofkjcofdaa
