/-
  The statements' own helpers of layer 2: the steps taken back; a number's bytes.
-/
import Derived.Test.YthbabncihlclpaaCrcA
namespace Go.Proofs.Ythbabncihlclpaa
open Go.RowKit
set_option linter.unusedVariables false

theorem or_u32 (a b : R) : bits .or .u32 (a.toNat : Int) (b.toNat : Int) = ((a ||| b).toNat : Int) := by
  rw [u32_or_nat _ _ a.isLt b.isLt, BitVec.toNat_or]
theorem ret_val {k : IntKind} {a b : Int} (h : a = b) : Value.int k a = .int k b := by rw [h]
theorem top_u32 (r : R) : (r.toNat : Int) / (2147483648 : Int) = ((bitv (r.getLsbD 31)).toNat : Int) := by
  have h : r.toNat / 2147483648 = (bitv (r.getLsbD 31)).toNat := by
    have h1 := r.isLt
    rw [← BitVec.testBit_toNat, bitv_toNat, Nat.testBit_eq_decide_div_mod_eq]
    have h2 : r.toNat / 2 ^ 31 = 0 ∨ r.toNat / 2 ^ 31 = 1 := by omega
    rcases h2 with h2 | h2 <;> simp [h2] <;> omega
  rw [← h]
  omega

theorem bit_u8 (x : UInt8) (m : Nat) : bits .and .u8 ((x.toNat : Int) / 2 ^ m) 1 % 4294967296 = ((bitv (x.toNat.testBit m)).toNat : Int) := by
  have hx := x.toNat_lt
  have h1 : x.toNat / 2 ^ m < 256 := Nat.lt_of_le_of_lt (Nat.div_le_self _ _) (by omega)
  have h2 := u8_and_nat (x.toNat / 2 ^ m) 1 h1 (by omega)
  have h3 : ((x.toNat : Int) / 2 ^ m) = ((x.toNat / 2 ^ m : Nat) : Int) := by norm_cast
  rw [h3]
  rw [show ((1 : Nat) : Int) = 1 from rfl] at h2
  rw [h2, Nat.and_one_is_mod, bitv_toNat, Nat.testBit_eq_decide_div_mod_eq]
  have h4 : x.toNat / 2 ^ m % 2 = 0 ∨ x.toNat / 2 ^ m % 2 = 1 := by omega
  rcases h4 with h4 | h4 <;> rw [h4] <;> rfl
theorem shl1_u32 (q : R) : ((q.toNat : Int) * (2 : Int) % (4294967296 : Int)) = ((q <<< 1).toNat : Int) := by
  rw [BitVec.toNat_shiftLeft, Nat.shiftLeft_eq]
  rfl
theorem unstp_no (q : R) (x : UInt8) (m : Nat) (h : q.getLsbD 31 = false) :
    bits .or .u32 ((q.toNat : Int) * 2 % 4294967296) (bits .xor .u32 ((bitv false).toNat : Int) (bits .and .u8 ((x.toNat : Int) / 2 ^ m) 1 % 4294967296)) = ((unstp q (x.toNat.testBit m)).toNat : Int) := by
  rw [bit_u8, xor_u32, shl1_u32, or_u32]
  unfold unstp
  rw [h]
  have h1 : bitv false ^^^ bitv (x.toNat.testBit m) = bitv (false ^^ x.toNat.testBit m) := by cases x.toNat.testBit m <;> rfl
  have h2 : q ^^^ msk false = q := by simp [msk]
  rw [h1, h2]
theorem unstp_yes (q : R) (x : UInt8) (m : Nat) (h : q.getLsbD 31 = true) :
    bits .or .u32 (bits .xor .u32 (q.toNat : Int) 2197175160 * 2 % 4294967296) (bits .xor .u32 ((bitv true).toNat : Int) (bits .and .u8 ((x.toNat : Int) / 2 ^ m) 1 % 4294967296)) = ((unstp q (x.toNat.testBit m)).toNat : Int) := by
  rw [show bits .xor .u32 (q.toNat : Int) 2197175160 = ((q ^^^ fb).toNat : Int) from xor_u32 q fb, bit_u8, xor_u32, shl1_u32, or_u32]
  unfold unstp
  rw [h]
  have h1 : bitv true ^^^ bitv (x.toNat.testBit m) = bitv (true ^^ x.toNat.testBit m) := by cases x.toNat.testBit m <;> rfl
  rw [h1]
  rfl
theorem bitAt_get (xs : List UInt8) (i : Nat) (h : i / 8 < xs.length) : bitAt xs i = (xs[i / 8]).toNat.testBit (i % 8) := by
  unfold bitAt
  rw [List.getElem?_eq_getElem h]
  rfl

set_option maxHeartbeats 1000000 in
theorem behind_cells (b o : Nat) (n c : Nat) (xs : List UInt8) (s : R) (w : World) (hn : n ≤ 1048576) (hx : xs.length = n)
    (hcx : ∀ k (hk : k < xs.length), w.cell? ⟨b, o + k, none⟩ = some (.int .u8 ((xs[k]).toNat : Int))) :
    Calls Try.prog 15 #[rv s, .slice (some ⟨b, o, none⟩) n c] w fun e w' => e = .returned (rv (unext s xs)) ∧ w = w' := by
  have HX := Lib.hid hx
  have HC := Lib.hid hcx
  clear hx hcx
  have hs : s.toNat < 4294967296 := s.isLt
  go_enter Try.func15, Try.ntmps15
  go_wp2
  rw [not_u32]
  go_loop [5, 6] (fun r i => ∃ (k : Nat) (q : R), k ≤ 8 * n ∧ i = .int .i64 ((k : Int) - 1) ∧ r = rv q ∧ Hid (unreg (bitAt xs) q k = unreg (bitAt xs) (inv s) (8 * n))) (fun _ i => (intOf i + 1).toNat)
  case atStart => exact ⟨8 * n, inv s, Nat.le_refl _, by go_num, rfl, rfl⟩
  case round =>
    obtain ⟨k, q, hk, rfl, rfl, hq⟩ := hrel
    by_cases hlt : 0 < k
    · have hjl : (k - 1) / 8 < xs.length := by rw [HX.out]; omega
      have hc := HC.out ((k - 1) / 8) hjl
      have hb := (xs[(k - 1) / 8]).toNat_lt
      have hqb : q.toNat < 4294967296 := q.isLt
      have htop := top_u32 q
      cases ht : q.getLsbD 31
      all_goals
        rw [ht] at htop
        have HT := Lib.hid ht
        clear ht
        go_wp2
        go_round
        case rel =>
          refine ⟨k - 1, unstp q (bitAt xs (k - 1)), by omega, by go_num, ?_, ?_⟩
          · rw [bitAt_get xs (k - 1) hjl]
            first
              | exact ret_val (unstp_no q _ _ HT.out)
              | exact ret_val (unstp_yes q _ _ HT.out)
          · have h := hq.out
            rw [show k = (k - 1) + 1 by omega, unreg] at h
            exact h
        case measure => simp [intOf]; omega
    · obtain rfl : k = 0 := by omega
      have h := hq.out
      rw [unreg] at h
      subst h
      clear hq
      go_wp2
      rw [not_u32]
      go_ret
      exact ⟨ret_int (by rw [← HX.out]; rfl), rfl⟩

set_option maxHeartbeats 400000 in
theorem behind_none (A : Option Addr) (c : Nat) (s : R) (w : World) :
    Calls Try.prog 15 #[rv s, .slice A 0 c] w fun e w' => e = .returned (rv s) ∧ w = w' := by
  have hs : s.toNat < 4294967296 := s.isLt
  go_enter Try.func15, Try.ntmps15
  go_wp2
  rw [not_u32]
  refine wp_loop_rounds 1 ?_
  rw [rounds_succ]
  go_wp2
  rw [not_u32, inv_inv]
  go_ret
  exact ⟨rfl, rfl⟩

/-- The steps, taken back. -/
theorem behind_any (B : Nat) (A : Option Addr) (n c : Nat) (xs : List UInt8) (s : R) (w : World) (hn : n ≤ 1048576) (hx : xs.length = n) (hr : Rd w B A xs) :
    Calls Try.prog 15 #[rv s, .slice A n c] w fun e w' => e = .returned (rv (unext s xs)) ∧ w = w' := by
  by_cases h0 : n = 0
  · subst h0
    obtain rfl := List.eq_nil_of_length_eq_zero hx
    rw [show unext s [] = s by simp [unext, unreg]]
    exact behind_none A c s w
  · obtain ⟨b, o, rfl, _, hcx⟩ := hr.at_ (by rintro rfl; simp at hx; omega)
    exact behind_cells b o n c xs s w hn hx hcx

theorem low_byte (x : R) (k : Nat) : ((x.toNat : Int) / 2 ^ k % 256) = ((UInt8.ofNat (x.toNat / 2 ^ k)).toNat : Int) := by
  rw [UInt8.toNat_ofNat', Int.natCast_emod, Int.natCast_ediv, Int.natCast_pow]
  rfl
theorem row_low4 (x : R) : (#[.int .u8 ((x.toNat : Int) % (256 : Int)), .int .u8 ((x.toNat : Int) / (256 : Int) % (256 : Int)), .int .u8 ((x.toNat : Int) / (65536 : Int) % (256 : Int)), .int .u8 ((x.toNat : Int) / (16777216 : Int))] : Array Value) = row8 (low4 x) := by
  have hx : x.toNat < 4294967296 := x.isLt
  have h0 : ((x.toNat : Int) % (256 : Int)) = ((UInt8.ofNat x.toNat).toNat : Int) := by rw [UInt8.toNat_ofNat']; omega
  have h1 : ((x.toNat : Int) / (256 : Int) % (256 : Int)) = ((UInt8.ofNat (x.toNat / 2 ^ 8)).toNat : Int) := low_byte x 8
  have h2 : ((x.toNat : Int) / (65536 : Int) % (256 : Int)) = ((UInt8.ofNat (x.toNat / 2 ^ 16)).toNat : Int) := low_byte x 16
  have h3 : ((x.toNat : Int) / (16777216 : Int)) = ((UInt8.ofNat (x.toNat / 2 ^ 24)).toNat : Int) := by
    have h : ((x.toNat : Int) / (16777216 : Int) % (256 : Int)) = ((UInt8.ofNat (x.toNat / 2 ^ 24)).toNat : Int) := low_byte x 24
    omega
  rw [h0, h1, h2, h3]
  rfl
set_option maxHeartbeats 400000 in
/-- A number's bytes. -/
theorem four_any (x : R) (w : World) :
    Calls Try.prog 17 #[rv x] w fun e w' => e = .returned (.slice (some ⟨w.heap.size, 0, none⟩) 4 4) ∧ RowAt w' 5 w.heap.size (low4 x) ∧ Below w.heap.size w w' := by
  have hx : x.toNat < 4294967296 := x.isLt
  go_enter Try.func17, Try.ntmps17
  go_wp2
  rw [row_low4]
  go_ret
  exact ⟨rfl, RowAt.new _ _ _, below_new _ _⟩
end Go.Proofs.Ythbabncihlclpaa
