/-
  Layer 2's statements, walked: CrcLengths, CrcOwn.
-/
import Derived.Test.YthbabncihlclpaaCrcL1
import Derived.Test.YthbabncihlclpaaCopyAny
import Derived.Test.YthbabncihlclpaaEq
namespace Go.Proofs.Ythbabncihlclpaa
open Go.RowKit
set_option linter.unusedVariables false

theorem rv_zero (a b : R) : (((a ^^^ b).toNat : Int) == 0) = decide (a = b) := by
  have h := rv_inj (a ^^^ b) 0#32
  rw [show (((0#32 : R).toNat : Nat) : Int) = 0 from rfl] at h
  rw [h, decide_eq_decide]
  exact xor_zero_iff a b

set_option maxHeartbeats 400000 in
theorem crcLengths_big (one two : R) (A : Option Addr) (n c : Nat) (t : Int) (w : World) (hc : n ≤ c) (hcm : c ≤ maxLen) (h : 8192 < n) :
    Calls Try.prog 6 #[rv one, rv two, .slice A n c, .int .u8 t] w fun e w' => e = .returned (.bool true) ∧ Below w.heap.size w w' := by
  unfold maxLen at hcm
  go_enter Try.func6, Try.ntmps6
  go_wp2_with (go_at_call 9; refine (works_any _).mono ?_; rintro e w4 ⟨rfl, hb4⟩)
  go_ret
  exact ⟨rfl, hb4⟩

set_option maxHeartbeats 1000000 in
theorem crcLengths_small (one two : R) (A : Option Addr) (n c : Nat) (xs : List UInt8) (t : UInt8) (w : World) (h : n ≤ 8192) (hx : xs.length = n) (hr : Rd w w.heap.size A xs) :
    Calls Try.prog 6 #[rv one, rv two, .slice A n c, .int .u8 (t.toNat : Int)] w fun e w' => e = .returned (.bool true) ∧ Below w.heap.size w w' := by
  obtain ⟨i, h8⟩ := Try.ty8
  have hmk := run_make8 (P := Try.prog) h8.slice h8.info h8.zero h8.size h8.bytes .i64 .i64 n n rfl (by omega) w
  have HX := Lib.hid hx
  have h1 : one.toNat < 4294967296 := one.isLt
  have h2 : two.toNat < 4294967296 := two.isLt
  have ht := t.toNat_lt
  clear hx
  go_enter Try.func6, Try.ntmps6
  go_wp2
  clear hmk
  go_loopw [10] (fun i wr => ∃ (k : Nat) (ys : List UInt8), k ≤ n ∧ i = .int .i64 k ∧ Hid (ys.length = n) ∧ RowAt wr 5 w.heap.size ys ∧ Below w.heap.size w wr) (fun i _ => n - (intOf i).toNat)
  case atStart => exact ⟨0, _, Nat.zero_le _, rfl, (show _ = _ by simp), RowAt.new _ _ _, below_new _ _⟩
  case round =>
    obtain ⟨k, ys, hk, rfl, hlen, hrow, hb⟩ := hrel
    by_cases hlt : k < n
    · obtain ⟨b, o, rfl, hbl, hcx⟩ := hr.at_ (by rintro rfl; have := HX.out; simp at this; omega)
      have hkx : n - 1 - k < xs.length := by have := HX.out; omega
      have hcb : wr.cell? ⟨b, o + (n - 1 - k), none⟩ = some (.int .u8 ((xs[n - 1 - k]).toNat : Int)) := (hb.cell (p := ⟨b, o + (n - 1 - k), none⟩) hbl).trans (hcx (n - 1 - k) hkx)
      have hc := hrow.cell k (by have := hlen.out; omega)
      have hf := hrow.frozen k
      have hidx : ((n : Int) - 1 - (k : Int)).toNat = n - 1 - k := by omega
      have HR := Lib.hid (hrow.set_ k (xs[n - 1 - k] ^^^ t))
      have hb' := hb.setCell (p := ⟨w.heap.size, k, none⟩) (Nat.le_refl _) (.int .u8 ((xs[n - 1 - k] ^^^ t).toNat : Int))
      clear hrow hcx
      go_wp2
      rw [bits_xor_u8]
      go_roundw
      case rel => exact ⟨k + 1, ys.set k (xs[n - 1 - k] ^^^ t), by omega, by go_num, (show _ = _ by simpa using hlen.out), HR.out, hb'⟩
      case measure => simp [intOf]; omega
    · obtain rfl : k = n := by omega
      have hz := hb.size
      have hr1 := (hr.below hb).more hz
      have hin : Rd wr wr.heap.size (some ⟨w.heap.size, 0, none⟩) ys := hrow.rd 0 ys (fun j hj => by rw [Nat.zero_add])
      have hxx := xor_u32 (ext one xs) (ext two xs)
      have hyy := xor_u32 (ext one ys) (ext two ys)
      rw [← ext_length one two xs ys (by rw [HX.out, hlen.out])] at hyy
      have h0 := rv_zero (ext one xs) (ext two xs)
      have h12 := rv_inj one two
      have hsame : (ext one xs = ext two xs) = (one = two) := propext (by rw [← xor_zero_iff]; exact ext_same one two xs)
      simp only [hsame] at h0
      generalize ext one xs ^^^ ext two xs = q at *
      clear hsame
      by_cases h3 : one = two
      all_goals
        (first | rw [decide_eq_true h3] at h0 h12 | rw [decide_eq_false h3] at h0 h12)
        have H3 := Lib.hid h3
        clear h3
        go_wp2_with fail
        refine (ext_any _ _ _ _ _ one _ (by unfold maxLen; omega) HX.out hr1).mono ?_
        rintro e w2 ⟨rfl, rfl⟩
        go_wp2_with fail
        refine (ext_any _ _ _ _ _ two _ (by unfold maxLen; omega) HX.out hr1).mono ?_
        rintro e w2 ⟨rfl, rfl⟩
        go_wp2_with fail
        refine (ext_any _ _ _ _ _ one _ (by unfold maxLen; omega) hlen.out hin).mono ?_
        rintro e w2 ⟨rfl, rfl⟩
        go_wp2_with fail
        refine (ext_any _ _ _ _ _ two _ (by unfold maxLen; omega) hlen.out hin).mono ?_
        rintro e w2 ⟨rfl, rfl⟩
        go_wp2_with fail
        refine (works_any _).mono ?_
        rintro e w3 ⟨rfl, hb3⟩
        go_wp2
        go_ret
        exact ⟨rfl, below_then hb (Nat.le_refl _) hb3⟩

theorem crcLengths_walk (one two : Int) (A : Option Addr) (n c : Nat) (xs : List UInt8) (t : Int) (w : World) (h1 : (Lit.int .u32 one).wf = true) (h2 : (Lit.int .u32 two).wf = true) (hc : n ≤ c) (hcm : c ≤ maxLen) (hx : xs.length = n) (hr : Rd w w.heap.size A xs) (ht : (Lit.int .u8 t).wf = true) :
    Calls Try.prog 6 #[.int .u32 one, .int .u32 two, .slice A n c, .int .u8 t] w fun e w' => e = .returned (.bool true) ∧ Below w.heap.size w w' := by
  obtain ⟨one, rfl⟩ := reg_of h1
  obtain ⟨two, rfl⟩ := reg_of h2
  by_cases h : 8192 < n
  · exact crcLengths_big one two A n c t w hc hcm h
  · obtain ⟨t, rfl⟩ := byte_of ht
    exact crcLengths_small one two A n c xs t w (by omega) hx hr

/-! ### CrcOwn -/
set_option maxHeartbeats 400000 in
theorem crcOwn_big (A : Option Addr) (n c : Nat) (t : R) (w : World) (hc : n ≤ c) (hcm : c ≤ maxLen) (h : 8192 < n) :
    Calls Try.prog 8 #[.slice A n c, rv t] w fun e w' => e = .returned (.bool true) ∧ Below w.heap.size w w' := by
  unfold maxLen at hcm
  go_enter Try.func8, Try.ntmps8
  go_wp2_with (go_at_call 9; refine (works_any _).mono ?_; rintro e w4 ⟨rfl, hb4⟩)
  go_ret
  exact ⟨rfl, hb4⟩

theorem sum_of_own (B : Nat) (A : Option Addr) (n c : Nat) (xs : List UInt8) (t : R) (w : World) (hn : n ≤ maxLen) (hx : (xs ++ low4 (sum xs ^^^ t)).length = n) (hr : Rd w B A (xs ++ low4 (sum xs ^^^ t))) :
    Calls Try.prog 13 #[.slice A n c] w fun e w' => e = .returned (rv (sum (low4 t))) ∧ w = w' := by
  have := sum_any B A n c _ w hn hx hr
  rwa [sum_own] at this
theorem sum_of_own0 (B : Nat) (A : Option Addr) (n c : Nat) (xs : List UInt8) (w : World) (hn : n ≤ maxLen) (hx : (xs ++ low4 (sum xs)).length = n) (hr : Rd w B A (xs ++ low4 (sum xs))) :
    Calls Try.prog 13 #[.slice A n c] w fun e w' => e = .returned (.int .u32 1214729159) ∧ w = w' := by
  have := sum_any B A n c _ w hn hx hr
  rw [sum_own0] at this
  exact this

set_option maxHeartbeats 1000000 in
theorem crcOwn_small (A : Option Addr) (n c : Nat) (xs : List UInt8) (t : R) (w : World) (h : n ≤ 8192) (hx : xs.length = n) (hr : Rd w w.heap.size A xs) :
    Calls Try.prog 8 #[.slice A n c, rv t] w fun e w' => e = .returned (.bool true) ∧ Below w.heap.size w w' := by
  obtain ⟨i, h8⟩ := Try.ty8
  have HX := Lib.hid hx
  have ht : t.toNat < 4294967296 := t.isLt
  obtain ⟨q, hq⟩ : ∃ q : R, q = sum xs ^^^ t := ⟨_, rfl⟩
  have hxx := xor_u32 (sum xs) t
  rw [← hq] at hxx
  have HQ := Lib.hid hq
  clear hx hq
  go_enter Try.func8, Try.ntmps8
  go_wp2_with fail
  refine (copyBytes_any _ _ _ _ _ (by omega) HX.out hr).mono ?_
  rintro e w1 ⟨A1, c1, rfl, ho1, hb1⟩
  have hr1 := (hr.below hb1).more hb1.size
  go_wp2_with fail
  refine (sum_any _ _ _ _ _ _ (by unfold maxLen; omega) HX.out hr1).mono ?_
  rintro e w2 ⟨rfl, rfl⟩
  go_wp2_with fail
  refine (four_any q _).mono ?_
  rintro e w2 ⟨rfl, hrow2, hb2⟩
  rw [HQ.out] at hrow2
  have ho2 := ho1.below hb2 (Nat.le_refl _)
  have hr2 := (hr1.below hb2).more hb2.size
  go_wp2_with (at_builtin; refine wpList_append8 h8 _ rfl _ _ rfl w.heap.size _ _ _ _ rfl ho2 _ _ _ _ _ rfl rfl (hrow2.rd 0 (low4 (sum xs ^^^ t)) (fun j hj => by rw [Nat.zero_add])) (by omega) (by have := hb1.size; have := hb2.size; omega) ?_; intro A3 c3 w3 h3 hg3 ho3)
  have hb3 : Below w.heap.size w w3 := (below_then hb1 (Nat.le_refl _) hb2).grown hg3 (by have := hb1.size; have := hb2.size; omega) ho2.blk
  have hr3 := (hr.below hb3).more hb3.size
  have HL := Lib.hid h3.len
  have hrd3 := h3.rd
  clear ho1 ho2 hr1 hr2 hrow2 hg3 ho3 h3 hb1 hb2
  go_wp2_with fail
  refine (sum_of_own _ _ _ _ xs t _ (by unfold maxLen; omega) HL.out hrd3).mono ?_
  rintro e w4 ⟨rfl, rfl⟩
  clear hrd3 HL
  go_wp2_with fail
  refine (four_any t _).mono ?_
  rintro e w4 ⟨rfl, hrow4, hb4⟩
  have hr4 := (hr3.below hb4).more hb4.size
  go_wp2_with fail
  refine (sum_any _ _ 4 _ (low4 t) _ (by unfold maxLen; omega) rfl (hrow4.rd 0 (low4 t) (fun j hj => by rw [Nat.zero_add]))).mono ?_
  rintro e w5 ⟨rfl, rfl⟩
  have hb4' : Below w.heap.size w w4 := below_then hb3 (Nat.le_refl _) hb4
  clear hrow4 hb4 hr3
  go_wp2_with fail
  refine (copyBytes_any _ _ _ _ _ (by omega) HX.out hr4).mono ?_
  rintro e w5 ⟨A5, c5, rfl, ho5, hb5⟩
  have hr5 := (hr4.below hb5).more hb5.size
  go_wp2_with fail
  refine (sum_any _ _ _ _ _ _ (by unfold maxLen; omega) HX.out hr5).mono ?_
  rintro e w6 ⟨rfl, rfl⟩
  go_wp2_with fail
  refine (four_any (sum xs) _).mono ?_
  rintro e w6 ⟨rfl, hrow6, hb6⟩
  have ho6 := ho5.below hb6 (Nat.le_refl _)
  go_wp2_with (at_builtin; refine wpList_append8g h8 _ rfl _ _ rfl w4.heap.size _ _ _ _ rfl ho6 _ _ _ _ _ rfl rfl (hrow6.rd 0 (low4 (sum xs)) (fun j hj => by rw [Nat.zero_add])) (by omega) (by have := hb5.size; have := hb6.size; omega) ?_; intro A7 c7 w7 h7 hg7 ho7)
  have hb7 : Below w.heap.size w w7 := (below_then (below_then hb4' (Nat.le_refl _) hb5) (Nat.le_refl _) hb6).grown hg7 (by have := hb4'.size; have := hb5.size; have := hb6.size; omega) (fun k hk => Nat.le_trans hb4'.size (ho6.blk k hk))
  have HL := Lib.hid h7.len
  have hrd7 := h7.rd
  clear ho5 ho6 hr4 hr5 hrow6 hg7 ho7 h7 hb5 hb6 hb4' hb3
  go_wp2_with fail
  refine (sum_of_own0 _ _ _ _ xs _ (by unfold maxLen; omega) HL.out hrd7).mono ?_
  rintro e w8 ⟨rfl, rfl⟩
  go_wp2_with fail
  refine (works_any _).mono ?_
  rintro e w8 ⟨rfl, hb8⟩
  go_wp2
  go_ret
  exact ⟨rfl, below_then hb7 (Nat.le_refl _) hb8⟩

theorem crcOwn_walk (A : Option Addr) (n c : Nat) (xs : List UInt8) (t : Int) (w : World) (hc : n ≤ c) (hcm : c ≤ maxLen) (hx : xs.length = n) (hr : Rd w w.heap.size A xs) (ht : (Lit.int .u32 t).wf = true) :
    Calls Try.prog 8 #[.slice A n c, .int .u32 t] w fun e w' => e = .returned (.bool true) ∧ Below w.heap.size w w' := by
  obtain ⟨t, rfl⟩ := reg_of ht
  by_cases h : 8192 < n
  · exact crcOwn_big A n c t w hc hcm h
  · exact crcOwn_small A n c xs t w (by omega) hx hr
end Go.Proofs.Ythbabncihlclpaa
