/-
  Layer 2's statements, walked: CrcDivides.
-/
import Derived.Test.YthbabncihlclpaaCrcL1
import Derived.Test.YthbabncihlclpaaEq
import Derived.IntWalk
import Derived.RegionTactic
import Derived.ChangeAlike
namespace Go.Proofs.Ythbabncihlclpaa
open Go.RowKit
set_option linter.unusedVariables false

/-- A bit as a byte. -/
def b8 (b : Bool) : UInt8 := if b then 1 else 0
/-- n bits, a byte each. -/
def bitRow (f : Nat → Bool) (n : Nat) : List UInt8 := (List.range n).map fun j => b8 (f j)
theorem length_bitRow (f : Nat → Bool) (n : Nat) : (bitRow f n).length = n := by simp [bitRow]
theorem get_bitRow (f : Nat → Bool) (n j : Nat) (h : j < (bitRow f n).length) : (bitRow f n)[j] = b8 (f j) := by simp [bitRow]
theorem set_bitRow (f g : Nat → Bool) (n k : Nat) (h : ∀ j, j ≠ k → j < n → g j = f j) : (bitRow f n).set k (b8 (g k)) = bitRow g n := by
  apply List.ext_getElem (by simp [bitRow])
  intro j h1 h2
  rw [List.getElem_set, get_bitRow, get_bitRow]
  split
  · subst_vars; rfl
  · rw [h j (by omega) (by simpa [bitRow] using h2)]
theorem bitRow_congr (f g : Nat → Bool) (n : Nat) (h : ∀ j, j < n → f j = g j) : bitRow f n = bitRow g n := by
  unfold bitRow
  exact List.map_congr_left fun j hj => by rw [h j (List.mem_range.1 hj)]
theorem zero_bitRow (n : Nat) : List.replicate n 0 = bitRow (fun _ => false) n := by
  apply List.ext_getElem (by simp [bitRow])
  intro j h1 h2
  rw [get_bitRow, List.getElem_replicate]; rfl

/-- The divisor's bit. -/
theorem div_bit : ∀ k, k < 33 → 1 ≤ k → (4812730177 / 2 ^ (32 - k)) % 2 = (fb.getLsbD (k - 1)).toNat := by decide +kernel

/-- One round of the division: a bit, and the 32 behind it. -/
theorem div_step (m : Nat → Bool) (r : R) (i : Nat) (f g : Nat → Bool) (hf : ∀ j, i ≤ j → f j = (m j ^^ r.getLsbD (j - i)))
    (hg : ∀ j, i < j → g j = (f j ^^ (f i && fb.getLsbD (j - i - 1)))) : ∀ j, i + 1 ≤ j → g j = (m j ^^ (stp r (m i)).getLsbD (j - (i + 1))) := by
  intro j hj
  rw [hg j (by omega), hf j (by omega), hf i (Nat.le_refl _), Nat.sub_self]
  unfold stp
  rw [BitVec.getLsbD_xor, BitVec.getLsbD_ushiftRight, show 1 + (j - (i + 1)) = j - i by omega, show j - (i + 1) = j - i - 1 by omega]
  have : (msk (r.getLsbD 0 ^^ m i)).getLsbD (j - i - 1) = ((m i ^^ r.getLsbD 0) && fb.getLsbD (j - i - 1)) := by
    unfold msk
    cases r.getLsbD 0 <;> cases m i <;> simp
  rw [this]
  cases m j <;> cases r.getLsbD (j - i) <;> cases ((m i ^^ r.getLsbD 0) && fb.getLsbD (j - i - 1)) <;> rfl

/-- The lowest k bits. -/
def part (r : R) (k : Nat) : Nat := r.toNat % 2 ^ k
theorem part_lt (r : R) (k : Nat) : part r k < 4294967296 := Nat.lt_of_le_of_lt (Nat.mod_le _ _) r.isLt
theorem part_all (r : R) : part r 32 = r.toNat := Nat.mod_eq_of_lt r.isLt
theorem part_succ (r : R) (k : Nat) : part r (k + 1) = part r k ||| ((r.getLsbD k).toNat * 2 ^ k) := by
  unfold part
  rw [Nat.mod_pow_succ, ← BitVec.testBit_toNat, Nat.toNat_testBit, Nat.or_comm, Nat.mul_comm, Nat.mul_comm _ (2 ^ k), ← Nat.two_pow_add_eq_or_of_lt (Nat.mod_lt _ (Nat.two_pow_pos k)), Nat.add_comm, Nat.mul_comm]

set_option maxHeartbeats 400000 in
theorem crcDivides_big (A : Option Addr) (n c : Nat) (w : World) (hn : n ≤ maxLen) (h : 600 < n) :
    Calls Try.prog 4 #[.slice A n c] w fun e w' => e = .returned (.bool true) ∧ Below w.heap.size w w' := by
  unfold maxLen at hn
  go_enter Try.func4, Try.ntmps4
  go_wp2_with (go_at_call 9; refine (works_any _).mono ?_; rintro e w4 ⟨rfl, hb4⟩)
  go_ret
  exact ⟨rfl, hb4⟩

theorem ones_bit (j : Nat) : (inv 0#32).getLsbD j = decide (j < 32) := by
  unfold inv
  rw [BitVec.getLsbD_not]
  simp
theorem b8_xor (a b : Bool) : b8 a ^^^ b8 b = b8 (a ^^ b) := by cases a <;> cases b <;> rfl
/-- The byte of the divisor that is laid over place p. -/
theorem div_b8 (p : Nat) (h1 : 1 ≤ p) (h : p < 33) : bits .and .u64 ((4812730177 : Int) / 2 ^ (32 - p)) 1 = ((b8 (fb.getLsbD (p - 1))).toNat : Int) := by
  have h2 := div_bit p h h1
  have h3 : (4812730177 : Int) / 2 ^ (32 - p) = ((4812730177 / 2 ^ (32 - p) : Nat) : Int) := by rw [Int.natCast_ediv, Int.natCast_pow]; rfl
  have h4 := u64_and_nat (4812730177 / 2 ^ (32 - p)) 1 (Nat.lt_of_le_of_lt (Nat.div_le_self _ _) (by omega)) (by omega)
  rw [show ((1 : Nat) : Int) = 1 from rfl] at h4
  rw [h3, h4, Nat.and_one_is_mod, h2]
  cases fb.getLsbD (p - 1) <;> rfl

theorem b8_mod (b : Bool) : ((b8 b).toNat : Int) % 256 = ((b8 b).toNat : Int) := by cases b <;> rfl

theorem or_part_no (r : R) (k : Nat) (h : part r (k + 1) = part r k ||| (false.toNat * 2 ^ k)) (hl : part r k < 4294967296) : bits .or .u32 (part r k : Int) 0 = (part r (k + 1) : Int) := by
  have h1 := u32_or_nat (part r k) 0 hl (by omega)
  rw [show ((0 : Nat) : Int) = 0 from rfl] at h1
  rw [h1, h]
  simp
theorem or_part_yes (r : R) (k : Nat) (h : part r (k + 1) = part r k ||| (true.toNat * 2 ^ k)) (hl : part r k < 4294967296) (hk : k < 32) : bits .or .u32 (part r k : Int) (2 ^ k % 4294967296) = (part r (k + 1) : Int) := by
  have h2 : 2 ^ k < 4294967296 := Nat.pow_lt_pow_right (by omega) hk
  have h1 := u32_or_nat (part r k) (2 ^ k) hl h2
  have h3 : ((2 : Int) ^ k % 4294967296) = ((2 ^ k : Nat) : Int) := by
    rw [show ((2 : Int) ^ k) = ((2 ^ k : Nat) : Int) by rw [Int.natCast_pow]; rfl]
    generalize 2 ^ k = m at h2
    omega
  rw [h3, h1, h, Bool.toNat_true, Nat.one_mul]

theorem bit_b8 (x : UInt8) (m : Nat) : bits .and .u8 ((x.toNat : Int) / 2 ^ m) 1 = ((b8 (x.toNat.testBit m)).toNat : Int) := by
  have h := bit_u8 x m
  have hx := x.toNat_lt
  have h1 : x.toNat / 2 ^ m < 256 := Nat.lt_of_le_of_lt (Nat.div_le_self _ _) (by omega)
  have h2 := u8_and_nat (x.toNat / 2 ^ m) 1 h1 (by omega)
  have h3 : ((x.toNat : Int) / 2 ^ m) = ((x.toNat / 2 ^ m : Nat) : Int) := by norm_cast
  rw [h3] at h ⊢
  rw [show ((1 : Nat) : Int) = 1 from rfl] at h2
  rw [h2] at h ⊢
  have h4 : x.toNat / 2 ^ m &&& 1 ≤ 1 := Nat.and_le_right
  have h5 : (((x.toNat / 2 ^ m &&& 1 : Nat) : Int)) = ((bitv (x.toNat.testBit m)).toNat : Int) := by omega
  rw [h5]
  cases x.toNat.testBit m <;> rfl

set_option maxRecDepth 100000 in
set_option maxHeartbeats 4000000 in
theorem crcDivides_small (A : Option Addr) (n c : Nat) (xs : List UInt8) (w : World) (h : n ≤ 600) (hx : xs.length = n) (hr : Rd w w.heap.size A xs) :
    Calls Try.prog 4 #[.slice A n c] w fun e w' => e = .returned (.bool true) ∧ Below w.heap.size w w' := by
  obtain ⟨i, h8⟩ := Try.ty8
  have hmk := run_make8 (P := Try.prog) h8.slice h8.info h8.zero h8.size h8.bytes .i64 .i64 (8 * n + 32) (8 * n + 32) (by omega) (by omega) w
  rw [zero_bitRow] at hmk
  have HX := Lib.hid hx
  clear hx
  go_enter Try.func4, Try.ntmps4
  go_wp2
  clear hmk
  go_loopw [5] (fun i wr => ∃ k : Nat, k ≤ 8 * n ∧ i = .int .i64 k ∧ RowAt wr 5 w.heap.size (bitRow (fun j => decide (j < k) && bitAt xs j) (8 * n + 32)) ∧ Below w.heap.size w wr) (fun i _ => 8 * n - (intOf i).toNat)
  case atStart => exact ⟨0, Nat.zero_le _, rfl, by simpa using RowAt.new w 5 (bitRow (fun _ => false) (8 * n + 32)), below_new _ _⟩
  case round =>
    obtain ⟨k, hk, rfl, hrow, hb⟩ := hrel
    by_cases hlt : k < 8 * n
    · obtain ⟨b, o, rfl, hbl, hcx⟩ := hr.at_ (by rintro rfl; have := HX.out; simp at this; omega)
      have hkx : k / 8 < xs.length := by have := HX.out; omega
      have hcb : wr.cell? ⟨b, o + k / 8, none⟩ = some (.int .u8 ((xs[k / 8]).toNat : Int)) := (hb.cell (p := ⟨b, o + k / 8, none⟩) hbl).trans (hcx (k / 8) hkx)
      have hxb := (xs[k / 8]).toNat_lt
      have hc := hrow.cell k (by rw [length_bitRow]; omega)
      have hf := hrow.frozen k
      have HR := Lib.hid (hrow.set_ k (b8 (bitAt xs k)))
      have hb' := hb.setCell (p := ⟨w.heap.size, k, none⟩) (Nat.le_refl _) (.int .u8 ((b8 (bitAt xs k)).toNat : Int))
      have hbit := bit_b8 (xs[k / 8]) (k % 8)
      rw [← bitAt_get xs k hkx] at hbit
      clear hrow hcx
      go_wp2
      go_roundw
      case rel =>
        refine ⟨k + 1, by omega, by go_num, ?_, hb'⟩
        have h1 := HR.out
        rw [show b8 (bitAt xs k) = b8 ((fun j => decide (j < k + 1) && bitAt xs j) k) by simp] at h1
        rw [set_bitRow _ (fun j => decide (j < k + 1) && bitAt xs j) _ _ (fun j hj _ => by
          rcases Nat.lt_or_ge j k with h | h
          · simp [h, show j < k + 1 by omega]
          · simp [show ¬ j < k by omega, show ¬ j < k + 1 by omega])] at h1
        simpa using h1
      case measure => simp [intOf]; omega
    · have HK := Lib.hid (show k = 8 * n by omega)
      rw [bitRow_congr _ (fun j => decide (j < 0) ^^ bitAt xs j) _ (fun j hj => by
        have := HK.out
        rcases Nat.lt_or_ge j (8 * n) with h | h
        · simp [show j < k by omega]
        · simp [bitAt_out xs j (by rw [HX.out]; exact h)])] at hrow
      go_wp2
      go_loopw [6] (fun i wr => ∃ k2 : Nat, k2 ≤ 32 ∧ i = .int .i64 k2 ∧ RowAt wr 5 w.heap.size (bitRow (fun j => decide (j < k2) ^^ bitAt xs j) (8 * n + 32)) ∧ Below w.heap.size w wr) (fun i _ => 32 - (intOf i).toNat)
      case atStart => exact ⟨0, Nat.zero_le _, rfl, hrow, hb⟩
      case round =>
        clear hrow hb
        obtain ⟨k2, hk2, rfl, hrow, hb⟩ := hrel
        by_cases hlt2 : k2 < 32
        · have hc0 := hrow.cell k2 (by rw [length_bitRow]; omega)
          rw [get_bitRow, show (decide (k2 < k2) ^^ bitAt xs k2) = bitAt xs k2 by simp] at hc0
          have hf := hrow.frozen k2
          have HR := Lib.hid (hrow.set_ k2 (b8 (!bitAt xs k2)))
          have hb' := hb.setCell (p := ⟨w.heap.size, k2, none⟩) (Nat.le_refl _) (.int .u8 ((b8 (!bitAt xs k2)).toNat : Int))
          have HS : Hid ((bitRow (fun j => decide (j < k2) ^^ bitAt xs j) (8 * n + 32)).set k2 (b8 (!bitAt xs k2)) = bitRow (fun j => decide (j < k2 + 1) ^^ bitAt xs j) (8 * n + 32)) := by
            have h1 := set_bitRow (fun j => decide (j < k2) ^^ bitAt xs j) (fun j => decide (j < k2 + 1) ^^ bitAt xs j) (8 * n + 32) k2 (fun j hj _ => by
              rcases Nat.lt_or_ge j k2 with h | h
              · simp [h, show j < k2 + 1 by omega]
              · simp [show ¬ j < k2 by omega, show ¬ j < k2 + 1 by omega])
            simp only [show (decide (k2 < k2 + 1) ^^ bitAt xs k2) = !bitAt xs k2 by simp] at h1
            exact h1
          clear hrow
          cases hbk : bitAt xs k2
          · have hv : ((b8 (!bitAt xs k2)).toNat : Int) = 1 := by rw [hbk]; rfl
            have hc : wr.cell? ⟨w.heap.size, k2, none⟩ = some (.int .u8 0) := by rw [hbk] at hc0; exact hc0
            rw [hv, HS.out] at HR
            rw [hv] at hb'
            clear hbk hv hc0
            go_wp2
            go_roundw
            case rel => exact ⟨k2 + 1, by omega, by go_num, HR.out, hb'⟩
            case measure => simp [intOf]; omega
          · have hv : ((b8 (!bitAt xs k2)).toNat : Int) = 0 := by rw [hbk]; rfl
            have hc : wr.cell? ⟨w.heap.size, k2, none⟩ = some (.int .u8 1) := by rw [hbk] at hc0; exact hc0
            rw [hv, HS.out] at HR
            rw [hv] at hb'
            clear hbk hv hc0
            go_wp2
            go_roundw
            case rel => exact ⟨k2 + 1, by omega, by go_num, HR.out, hb'⟩
            case measure => simp [intOf]; omega
        · go_wp2
          go_loopw [8] (fun i wr => ∃ (k3 : Nat) (f : Nat → Bool), k3 ≤ 8 * n ∧ i = .int .i64 k3 ∧ Hid (∀ j, k3 ≤ j → f j = (bitAt xs j ^^ (reg (bitAt xs) (inv 0#32) k3).getLsbD (j - k3))) ∧ RowAt wr 5 w.heap.size (bitRow f (8 * n + 32)) ∧ Below w.heap.size w wr) (fun i _ => 8 * n - (intOf i).toNat)
          case atStart =>
            refine ⟨0, _, Nat.zero_le _, rfl, (fun j _ => ?_ : ∀ _, _), hrow, hb⟩
            rw [show reg (bitAt xs) (inv 0#32) 0 = inv 0#32 from rfl, show k2 = 32 by omega]
            rw [Nat.sub_zero, ones_bit, Bool.xor_comm]
          case round =>
            clear hrow hb
            obtain ⟨k3, f, hk3, rfl, hfj, hrow, hb⟩ := hrel
            by_cases hlt3 : k3 < 8 * n
            · have hc0 := hrow.cell k3 (by rw [length_bitRow]; omega)
              rw [get_bitRow] at hc0
              cases hfk : f k3
              · have hc : wr.cell? ⟨w.heap.size, k3, none⟩ = some (.int .u8 0) := by rw [hfk] at hc0; exact hc0
                have HF := Lib.hid hfk
                clear hfk hc0
                go_wp2
                refine wp_loop_rounds 1 ?_
                rw [rounds_succ]
                go_wp2
                go_roundw
                case rel => exact ⟨k3 + 1, f, by omega, by go_num, (div_step _ _ k3 f f hfj.out (fun j _ => by rw [HF.out]; simp) : ∀ _, _), hrow, hb⟩
                case measure => simp [intOf]; omega
              · have HF := Lib.hid hfk
                have hd3 : decide ((k3 : Int) < 8 * (n : Int)) = true := by rw [decide_eq_true_iff]; omega
                clear hfk hc0
                go_wp2
                go_loopw [9] (fun i wr => ∃ (p : Nat) (g : Nat → Bool), p ≤ 33 ∧ i = .int .i64 p ∧ Hid (g k3 = true) ∧ Hid (∀ j, k3 < j → g j = (f j ^^ (decide (j - k3 < p) && fb.getLsbD (j - k3 - 1)))) ∧ RowAt wr 5 w.heap.size (bitRow g (8 * n + 32)) ∧ Below w.heap.size w wr) (fun i _ => 33 - (intOf i).toNat)
                case atStart => exact ⟨0, f, by omega, rfl, HF.out, (fun j _ => by simp : ∀ _, _), hrow, hb⟩
                case round =>
                  clear hrow hb
                  obtain ⟨p, g, hp, rfl, hgk, hgj, hrow, hb⟩ := hrel
                  by_cases hlt4 : p < 33
                  · have hc : wr.cell? ⟨w.heap.size, k3, none⟩ = some (.int .u8 1) := by
                      have := hrow.cell k3 (by rw [length_bitRow]; omega)
                      rw [get_bitRow, hgk.out] at this
                      exact this
                    by_cases hp0 : p = 0
                    · subst hp0
                      go_wp2
                      go_roundw
                      case rel => exact ⟨1, g, by omega, by go_num, hgk, (fun j hj => by rw [hgj.out j hj]; simp [show ¬ j - k3 < 0 by omega, show ¬ j - k3 < 1 by omega] : ∀ _, _), hrow, hb⟩
                      case measure => simp [intOf]
                    · have hsum : ((k3 : Int) + (p : Int)).toNat = k3 + p := by omega
                      have hw1 : IntKind.i64.wrap ((k3 : Int) + (p : Int)) = (k3 : Int) + (p : Int) := IntWalk.i64_in _ (by omega)
                      have hw2 : IntKind.i64.wrap (32 - (p : Int)) = 32 - (p : Int) := IntWalk.i64_in _ (by omega)
                      have hs2 : (32 - (p : Int)).toNat = 32 - p := by omega
                      have hdv := div_b8 p (by omega) hlt4
                      have hcp : wr.cell? ⟨w.heap.size, k3 + p, none⟩ = some (.int .u8 ((b8 (g (k3 + p))).toNat : Int)) := by
                        have := hrow.cell (k3 + p) (by rw [length_bitRow]; omega)
                        rwa [get_bitRow] at this
                      have hf := hrow.frozen (k3 + p)
                      have hxx := bits_xor_u8 (b8 (g (k3 + p))) (b8 (fb.getLsbD (p - 1)))
                      rw [b8_xor] at hxx
                      have HR := Lib.hid (hrow.set_ (k3 + p) (b8 (g (k3 + p) ^^ fb.getLsbD (p - 1))))
                      have hb' := hb.setCell (p := ⟨w.heap.size, k3 + p, none⟩) (Nat.le_refl _) (.int .u8 ((b8 (g (k3 + p) ^^ fb.getLsbD (p - 1))).toNat : Int))
                      have hHB := Lib.hid hb'
                      clear hrow hb hb'
                      go_wp2
                      go_region
                      rw [b8_mod, hxx]
                      go_wp2
                      go_roundw
                      case rel =>
                        refine ⟨p + 1, fun j => if j = k3 + p then (g (k3 + p) ^^ fb.getLsbD (p - 1)) else g j, by omega, ?_, (show (if k3 = k3 + p then (g (k3 + p) ^^ fb.getLsbD (p - 1)) else g k3) = true by rw [if_neg (by omega)]; exact hgk.out), (fun j hj => ?_ : ∀ _, _), ?_, hHB.out.drew⟩
                        · go_num
                        · show (if j = k3 + p then (g (k3 + p) ^^ fb.getLsbD (p - 1)) else g j) = _
                          by_cases hj2 : j = k3 + p
                          · subst hj2
                            rw [if_pos rfl, hgj.out _ hj, show k3 + p - k3 = p by omega]
                            simp
                          · rw [if_neg hj2, hgj.out j hj]
                            rcases Nat.lt_or_ge (j - k3) p with h | h
                            · simp [h, show j - k3 < p + 1 by omega]
                            · simp [show ¬ j - k3 < p by omega, show ¬ j - k3 < p + 1 by omega]
                        · have h1 := set_bitRow g (fun j => if j = k3 + p then (g (k3 + p) ^^ fb.getLsbD (p - 1)) else g j) (8 * n + 32) (k3 + p) (fun j hj _ => by simp [hj])
                          simp only [if_pos] at h1
                          rw [← h1]
                          exact HR.out
                      case measure => simp [intOf]; omega
                  · go_wp2
                    go_roundw
                    case rel =>
                      refine ⟨k3 + 1, g, by omega, by go_num, (div_step _ _ k3 f g hfj.out (fun j hj => ?_) : ∀ _, _), hrow, hb⟩
                      rw [hgj.out j hj, HF.out]
                      rcases Nat.lt_or_ge (j - k3) p with h | h
                      · simp [h]
                      · simp [show ¬ j - k3 < p by omega, BitVec.getLsbD_of_ge fb (j - k3 - 1) (by omega)]
                    case measure => simp [intOf]; omega
            · have hbits : Hid (∀ j, j < 32 → f (k3 + j) = !(sum xs).getLsbD j) := (fun j hj => by
                have := HX.out
                rw [hfj.out _ (by omega), bitAt_out xs (k3 + j) (by omega), show k3 + j - k3 = j by omega, show k3 = 8 * xs.length by omega]
                unfold sum ext
                rw [BitVec.getLsbD_not]
                simp [hj, inv] : ∀ _, _)
              go_wp2
              go_loopw [10, 11] (fun v i wr => ∃ k4 : Nat, k4 ≤ 32 ∧ i = .int .i64 k4 ∧ v = .int .u32 (part (sum xs) k4) ∧ RowAt wr 5 w.heap.size (bitRow f (8 * n + 32)) ∧ Below w.heap.size w wr) (fun _ i _ => 32 - (intOf i).toNat)
              case atStart => exact ⟨0, Nat.zero_le _, rfl, by simp [part, Nat.mod_one], hrow, hb⟩
              case round =>
                clear hrow hb
                obtain ⟨k4, hk4, rfl, rfl, hrow, hb⟩ := hrel
                have hpl := part_lt (sum xs) k4
                by_cases hlt5 : k4 < 32
                · have hc0 := hrow.cell (8 * n + k4) (by rw [length_bitRow]; omega)
                  rw [get_bitRow, show 8 * n + k4 = k3 + k4 by omega, hbits.out k4 hlt5] at hc0
                  rw [show k3 + k4 = 8 * n + k4 by omega] at hc0
                  have HP := Lib.hid (part_succ (sum xs) k4)
                  cases hbk : (sum xs).getLsbD k4
                  · have hc : wr.cell? ⟨w.heap.size, 8 * n + k4, none⟩ = some (.int .u8 1) := by rw [hbk] at hc0; exact hc0
                    rw [hbk] at HP
                    clear hbk hc0
                    go_wp2
                    go_roundw
                    case rel => exact ⟨k4 + 1, by omega, by go_num, ret_val (or_part_no _ _ HP.out hpl), hrow, hb⟩
                    case measure => simp [intOf]; omega
                  · have hc : wr.cell? ⟨w.heap.size, 8 * n + k4, none⟩ = some (.int .u8 0) := by rw [hbk] at hc0; exact hc0
                    rw [hbk] at HP
                    clear hbk hc0
                    go_wp2
                    go_roundw
                    case rel => exact ⟨k4 + 1, by omega, by go_num, ret_val (or_part_yes _ _ HP.out hpl hlt5), hrow, hb⟩
                    case measure => simp [intOf]; omega
                · have hz := hb.size
                  have hr1 := (hr.below hb).more hz
                  have hpart : part (sum xs) k4 = (sum xs).toNat := by rw [show k4 = 32 by omega, part_all]
                  have hsb : (sum xs).toNat < 4294967296 := (sum xs).isLt
                  go_wp2_with fail
                  refine (sum_any _ _ _ _ _ _ (by unfold maxLen; omega) HX.out hr1).mono ?_
                  rintro e w2 ⟨rfl, rfl⟩
                  go_wp2_with fail
                  refine (works_any _).mono ?_
                  rintro e w3 ⟨rfl, hb3⟩
                  go_wp2
                  go_ret
                  exact ⟨rfl, below_then hb (Nat.le_refl _) hb3⟩

theorem crcDivides_walk (A : Option Addr) (n c : Nat) (xs : List UInt8) (w : World) (hc : n ≤ c) (hcm : c ≤ maxLen) (hx : xs.length = n) (hr : Rd w w.heap.size A xs) :
    Calls Try.prog 4 #[.slice A n c] w fun e w' => e = .returned (.bool true) ∧ Below w.heap.size w w' := by
  by_cases h : 600 < n
  · exact crcDivides_big A n c w (by omega) h
  · exact crcDivides_small A n c xs w (by omega) hx hr
end Go.Proofs.Ythbabncihlclpaa
