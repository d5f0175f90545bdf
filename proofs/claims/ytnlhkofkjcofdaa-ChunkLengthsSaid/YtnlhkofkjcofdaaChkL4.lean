/-
  ChunkLengths, walked.
-/
import Derived.Test.YtnlhkofkjcofdaaChkF
import Derived.Test.YtnlhkofkjcofdaaAppZ
import Derived.Test.YtnlhkofkjcofdaaNums
namespace Go.Proofs.Ytnlhkofkjcofdaa
open Go.RowKit
set_option linter.unusedVariables false

/-- A head, and noughts behind it. -/
def nts (k : UInt8) (L Z : Nat) : List UInt8 := hd k 0 L ++ List.replicate Z 0
theorem length_nts (k : UInt8) (L Z : Nat) : (nts k L Z).length = 4 + Z := by simp [nts, hd]; omega
theorem clen_nts {k : UInt8} {L Z : Nat} (h : L < 65536) : clen (nts k L Z) = L := clen_of (by omega) rfl rfl
theorem kind_nts (k : UInt8) (L Z : Nat) : kind (nts k L Z) = k := rfl
theorem fits_nts {k : UInt8} {L Z : Nat} (h : L < 65536) : Fits (nts k L Z) ↔ 4 ≤ L ∧ up4 L ≤ 4 + Z := by
  have hc := clen_nts (k := k) (Z := Z) h
  have hl := length_nts k L Z
  have hu := up4_bd L
  constructor
  · intro hf
    have h1 := hf.lo
    have h2 := hf.hi
    rw [hc] at h1 h2
    omega
  · rintro ⟨h1, h2⟩
    refine ⟨by omega, by omega, by rw [hc]; omega, fun j h3 h4 => ?_⟩
    rw [hc] at h3 h4
    rw [nts, List.getElem?_append_right (by simp [hd]; omega), List.getElem?_replicate, if_pos (by simp [hd]; omega)]

theorem nts_row {k : UInt8} {L : Nat} (hL : L < 65536) : #[Value.int .u8 (k.toNat : Int), .int .u8 0, .int .u8 ((L : Int) / 256), .int .u8 ((L : Int) % 256)] = row8 (hd k 0 L) := by
  have h1 : ((byteOf L 1).toNat : Int) = (L : Int) / 256 := by rw [toNat_byteOf]; omega
  have h0 : ((byteOf L 0).toNat : Int) = (L : Int) % 256 := by rw [toNat_byteOf]; omega
  simp [row8, hd, h1, h0]

set_option maxRecDepth 100000 in
set_option maxHeartbeats 4000000 in
theorem chunkLengths_nat (k : UInt8) (L Z : Nat) (w : World) (hL : L < 65536) (hZ : Z < 65536) :
    Calls Try.prog 9 #[.int .u8 (k.toNat : Int), .int .u16 L, .int .u16 Z] w fun e w' => e = .returned (.bool true) ∧ Below w.heap.size w w' := by
  obtain ⟨i8, h8⟩ := Try.ty8
  have hk := k.toNat_lt
  have hz := zero_chunk
  have hrow : RowAt (w.alloc (.cells #[.int .u8 (k.toNat : Int), .int .u8 0, .int .u8 ((L : Int) / 256), .int .u8 ((L : Int) % 256)] 5)) 5 w.heap.size (hd k 0 L) := by rw [nts_row hL]; exact RowAt.new w _ _
  have hown := Own8.of_row (base := w.heap.size) hrow (Nat.le_refl _) (n := 4) rfl (by unfold maxLen; omega)
  have HB := Lib.hid (below_new w (.cells #[.int .u8 (k.toNat : Int), .int .u8 0, .int .u8 ((L : Int) / 256), .int .u8 ((L : Int) % 256)] 5))
  obtain ⟨U, hU⟩ : ∃ U, U = up4 L := ⟨_, rfl⟩
  have HU := Lib.hid hU
  have HU3 : Hid (((L : Int) + 3) / 4 * 4 = (U : Int)) := Lib.hid (by rw [hU]; exact up4_int L)
  have hUL := up4_bd L
  rw [← hU] at hUL
  clear hU hrow
  have HF : Hid (Fits (nts k L Z) ↔ 4 ≤ L ∧ U ≤ 4 + Z) := Lib.hid (by rw [HU.out]; exact fits_nts hL)
  go_enter Try.func9, Try.ntmps9
  go_wp2_with (at_builtin; refine wpList_appendZ8 h8 Try.underlying3 _ rfl _ _ rfl w.heap.size _ _ _ _ rfl hown _ Z rfl (by omega) (by simp) ?_; intro A2 c2 w2 ho2 hg2 hh2)
  have B2 := Lib.hid (HB.out.grown hg2 (by simp) hown.blk)
  have O2 : Hid (Own8 w2 5 w.heap.size A2 (4 + Z) c2 (nts k L Z)) := Lib.hid ho2
  clear ho2 hg2 hh2
  have hcase : L < 4 ∨ (4 ≤ L ∧ 4 + Z < U) ∨ (4 ≤ L ∧ U ≤ 4 + Z) := by omega
  rcases hcase with h1 | ⟨h1, h2⟩ | ⟨h1, h2⟩
  · have HRD := Lib.hid (read_no A2 (4 + Z) c2 (nts k L Z) w2 (by omega) O2.out.cap.1 O2.out.cap.2 O2.out.len O2.out.rd (fun h => by have := HF.out.1 h; omega))
    go_wp2_with fail
    refine HRD.out.mono ?_
    rintro e w3 ⟨rfl, hb3⟩
    have B3 := Lib.hid ((below_then B2.out (Nat.le_refl _) hb3).alloc (Nat.le_trans B2.out.size hb3.size) (.cells #[.int .u8 0, .int .u8 0, .slice none 0 0] 24))
    clear hb3 HRD
    rw [noChunk]
    go_wp2_with fail
    refine (works_any _).mono ?_
    rintro e w5 ⟨rfl, hb5⟩
    go_wp2_with fail
    go_ret
    exact ⟨rfl, below_then B3.out (Nat.le_refl _) hb5⟩
  · have HRD := Lib.hid (read_no A2 (4 + Z) c2 (nts k L Z) w2 (by omega) O2.out.cap.1 O2.out.cap.2 O2.out.len O2.out.rd (fun h => by have := HF.out.1 h; omega))
    go_wp2_with fail
    refine HRD.out.mono ?_
    rintro e w3 ⟨rfl, hb3⟩
    have B3 := Lib.hid ((below_then B2.out (Nat.le_refl _) hb3).alloc (Nat.le_trans B2.out.size hb3.size) (.cells #[.int .u8 0, .int .u8 0, .slice none 0 0] 24))
    clear hb3 HRD
    rw [noChunk]
    have hu3 := HU3.out
    go_wp2_with fail
    refine (works_any _).mono ?_
    rintro e w5 ⟨rfl, hb5⟩
    go_wp2_with fail
    go_ret
    exact ⟨rfl, below_then B3.out (Nat.le_refl _) hb5⟩
  · have hfit : Fits (nts k L Z) := HF.out.2 ⟨h1, h2⟩
    have HRD : Hid (Calls Try.prog 18 #[.slice A2 (4 + Z : Nat) c2] w2 fun e w' => ∃ A3 c3, e = .returned (.tuple #[.agg #[.int .u8 (k.toNat : Int), .int .u8 ((flag (nts k L Z)).toNat : Int), .slice A3 (L - 4 : Nat) c3], .int .i64 U, .int .i64 0]) ∧ Own8 w' 5 w2.heap.size A3 (L - 4) c3 (body (nts k L Z)) ∧ Below w2.heap.size w2 w') := Lib.hid (by
      have h := read_yes A2 (4 + Z) c2 (nts k L Z) w2 (by omega) O2.out.cap.1 O2.out.cap.2 O2.out.len O2.out.rd hfit
      rw [kind_nts, clen_nts hL, ← HU.out] at h
      exact h)
    obtain ⟨fl, hfl⟩ : ∃ fl, fl = flag (nts k L Z) := ⟨_, rfl⟩
    rw [← hfl] at HRD
    clear hfl hfit
    go_wp2_with fail
    refine HRD.out.mono ?_
    rintro e w3 ⟨A3, c3, rfl, ho3, hb3⟩
    have B3 := Lib.hid ((below_then B2.out (Nat.le_refl _) hb3).alloc (Nat.le_trans B2.out.size hb3.size) (.cells #[.int .u8 (k.toNat : Int), .int .u8 (fl.toNat : Int), .slice A3 (L - 4 : Nat) c3] 24))
    clear hb3 HRD ho3
    have hu3 := HU3.out
    go_wp2_with fail
    refine (works_any _).mono ?_
    rintro e w5 ⟨rfl, hb5⟩
    go_wp2_with fail
    go_ret
    exact ⟨rfl, below_then B3.out (Nat.le_refl _) hb5⟩

theorem chunkLengths_walk (a b c : Int) (w : World) (ha : (Lit.int .u8 a).wf = true) (hb : (Lit.int .u16 b).wf = true) (hc : (Lit.int .u16 c).wf = true) :
    Calls Try.prog 9 #[.int .u8 a, .int .u16 b, .int .u16 c] w fun e w' => e = .returned (.bool true) ∧ Below w.heap.size w w' := by
  obtain ⟨k, rfl⟩ := byte_of ha
  obtain ⟨L, rfl, hL⟩ := nat_of_u16 hb
  obtain ⟨Z, rfl, hZ⟩ := nat_of_u16 hc
  exact chunkLengths_nat k L Z w hL hZ
end Go.Proofs.Ytnlhkofkjcofdaa
