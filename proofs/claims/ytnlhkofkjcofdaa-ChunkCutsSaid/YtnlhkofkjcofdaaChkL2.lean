/-
  ChunkCuts, walked.
-/
import Derived.Test.YtnlhkofkjcofdaaChkF
import Derived.Test.YtnlhkofkjcofdaaNums
namespace Go.Proofs.Ytnlhkofkjcofdaa
open Go.RowKit
set_option linter.unusedVariables false

/-- A chunk's cells. -/
def chunkCells (k f : UInt8) (A : Option Addr) (n c : Nat) : Array Value := #[.int .u8 (k.toNat : Int), .int .u8 (f.toNat : Int), .slice A n c]

set_option maxHeartbeats 1000000 in
theorem chunkCuts_big (k f : UInt8) (A : Option Addr) (n c : Nat) (cut : Int) (w : World) (h : 131072 < n) :
    Calls Try.prog 7 #[.agg #[.int .u8 (k.toNat : Int), .int .u8 (f.toNat : Int), .slice A n c], .int .i64 cut] w fun e w' => e = .returned (.bool true) ∧ Below w.heap.size w w' := by
  have B0 := Lib.hid (below_new w (.cells #[.int .u8 (k.toNat : Int), .int .u8 (f.toNat : Int), .slice A n c] 24))
  go_enter Try.func7, Try.ntmps7
  go_wp2_with fail
  refine (large_yes _ _ A n c _ h).mono ?_
  rintro e w1 ⟨rfl, hb1⟩
  have B1 := Lib.hid (below_then B0.out (Nat.le_refl _) hb1)
  clear hb1
  go_wp2_with fail
  refine (works_any _).mono ?_
  rintro e w2 ⟨rfl, hb⟩
  go_wp2_with fail
  go_ret
  exact ⟨rfl, below_then B1.out (Nat.le_refl _) hb⟩

set_option maxHeartbeats 2000000 in
theorem chunkCuts_small (k f : UInt8) (A : Option Addr) (n c : Nat) (xs : List UInt8) (cut : Int) (w : World) (h : n ≤ 131072) (hx : xs.length = n) (hr : Rd w w.heap.size A xs) :
    Calls Try.prog 7 #[.agg #[.int .u8 (k.toNat : Int), .int .u8 (f.toNat : Int), .slice A n c], .int .i64 cut] w fun e w' => e = .returned (.bool true) ∧ Below w.heap.size w w' := by
  obtain ⟨M, hM⟩ : ∃ M, M = (wrt k f xs).length := ⟨_, rfl⟩
  have hM2 : M ≤ 65536 := by rw [hM]; exact wrt_le k f xs
  have HM := Lib.hid hM
  have B0 := Lib.hid (below_new w (.cells #[.int .u8 (k.toNat : Int), .int .u8 (f.toNat : Int), .slice A n c] 24))
  have K0 := Lib.hid (Blk.new w 24 #[.int .u8 (k.toNat : Int), .int .u8 (f.toNat : Int), .slice A n c])
  have HX := Lib.hid hx
  have HR := Lib.hid hr
  have hz := zero_chunk
  clear hx hr hM
  rcases (show cut < 0 ∨ (0 ≤ cut ∧ (M : Int) ≤ cut) ∨ (∃ j : Nat, cut = j ∧ j < M) by
    by_cases h0 : cut < 0
    · exact .inl h0
    · by_cases h1 : (M : Int) ≤ cut
      · exact .inr (.inl ⟨by omega, h1⟩)
      · exact .inr (.inr ⟨cut.toNat, by omega, by omega⟩)) with h0 | ⟨h0, h1⟩ | ⟨j, rfl, hj⟩
  all_goals
    go_enter Try.func7, Try.ntmps7
    go_wp2_with fail
    refine (large_no _ _ A n c _ h).mono ?_
    rintro e w1 ⟨rfl, hb1⟩
    have B1 := Lib.hid (below_then B0.out (Nat.le_refl _) hb1)
    have K1 := Lib.hid (K0.out.below hb1 K0.out.lt)
    have k0 : w1.cell? ⟨w.heap.size, 0, none⟩ = some (.int .u8 (k.toNat : Int)) := K1.out.cell 0
    have k1 : w1.cell? ⟨w.heap.size, 1, none⟩ = some (.int .u8 (f.toNat : Int)) := K1.out.cell 1
    have k2 : w1.cell? ⟨w.heap.size, 2, none⟩ = some (.slice A n c) := K1.out.cell 2
    clear hb1
    go_wp2_with fail
    refine (write_any k f A n c xs w1 HX.out ((HR.out.below B1.out).more B1.out.size)).mono ?_
    rintro e w2 ⟨A2, m2, c2, rfl, ho2, hb2⟩
    have hm2 : m2 = M := by rw [HM.out, ho2.len]
    subst hm2
    have O2 := Lib.hid ho2
    have B2 := Lib.hid (below_then B1.out (Nat.le_refl _) hb2)
    have hcap := ho2.cap
    have HCAP := Lib.hid hcap.2
    have hcap1 := hcap.1
    clear ho2 hb2 k0 k1 k2 hcap
  · go_wp2_with fail
    refine (works_any _).mono ?_
    rintro e w3 ⟨rfl, hb⟩
    go_wp2_with fail
    go_ret
    exact ⟨rfl, below_then B2.out (Nat.le_refl _) hb⟩
  · go_wp2_with fail
    refine (works_any _).mono ?_
    rintro e w3 ⟨rfl, hb⟩
    go_wp2_with fail
    go_ret
    exact ⟨rfl, below_then B2.out (Nat.le_refl _) hb⟩
  · have HRD := Lib.hid (read_no A2 j c2 ((wrt k f xs).take j) w2 (by omega) (by omega) HCAP.out (by rw [List.length_take, ← HM.out]; omega) (O2.out.rd.take_ j) (cut_none (by rw [← HM.out]; exact hj)))
    have hcm2 : c2 ≤ 9223372036854775807 := by have := HCAP.out; unfold maxLen at this; omega
    go_wp2_with fail
    refine HRD.out.mono ?_
    rintro e w3 ⟨rfl, hb3⟩
    have B3 := Lib.hid ((below_then B2.out (Nat.le_refl _) hb3).alloc (Nat.le_trans B2.out.size hb3.size) (.cells #[.int .u8 0, .int .u8 0, .slice none 0 0] 24))
    clear hb3 HRD
    rw [noChunk]
    go_wp2_with fail
    refine (same_yes 0 0 none none 0 0 0 [] _ rfl (by omega) (Rd.nil _ _ _) (Rd.nil _ _ _)).mono ?_
    rintro e w4 ⟨rfl, hb4⟩
    have B4 := Lib.hid (below_then B3.out (Nat.le_refl _) hb4)
    clear hb4
    go_wp2_with fail
    refine (works_any _).mono ?_
    rintro e w5 ⟨rfl, hb5⟩
    go_wp2_with fail
    go_ret
    exact ⟨rfl, below_then B4.out (Nat.le_refl _) hb5⟩

theorem chunkCuts_walk (a b : Int) (A : Option Addr) (n c : Nat) (xs : List UInt8) (cut : Int) (w : World) (ha : (Lit.int .u8 a).wf = true) (hb : (Lit.int .u8 b).wf = true) (hc : n ≤ c) (hcm : c ≤ maxLen) (hx : xs.length = n) (hr : Rd w w.heap.size A xs) (_ : (Lit.int .i64 cut).wf = true) :
    Calls Try.prog 7 #[.agg #[.int .u8 a, .int .u8 b, .slice A n c], .int .i64 cut] w fun e w' => e = .returned (.bool true) ∧ Below w.heap.size w w' := by
  obtain ⟨k, rfl⟩ := byte_of ha
  obtain ⟨f, rfl⟩ := byte_of hb
  by_cases h : 131072 < n
  · exact chunkCuts_big k f A n c cut w h
  · exact chunkCuts_small k f A n c xs cut w (by omega) hx hr
end Go.Proofs.Ytnlhkofkjcofdaa
