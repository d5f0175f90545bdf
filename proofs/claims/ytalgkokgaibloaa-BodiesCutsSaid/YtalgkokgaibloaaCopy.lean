/-
  CopyBytes: a row of its own; nil of none.
-/
import Derived.Test.YtalgkokgaibloaaRows
import Derived.Test.YtalgkokgaibloaaRoomy
namespace Go.Proofs.Ytalgkokgaibloaa
open Go.RowKit
set_option linter.unusedVariables false

set_option maxHeartbeats 400000 in
theorem copyBytes_none (A : Option Addr) (c : Nat) (w : World) :
    Calls Try.prog 57 #[.slice A 0 c] w fun e w' => e = .returned (.slice none 0 0) ∧ w = w' := by
  go_enter Try.func57, Try.ntmps57
  go_wp2
  go_ret
  exact ⟨rfl, rfl⟩

set_option maxHeartbeats 400000 in
theorem copyBytes_some (A : Option Addr) (n c : Nat) (xs : List UInt8) (w : World) (h0 : n ≠ 0) (hn : n ≤ 281474976710656) (hx : xs.length = n) (hr : Rd w w.heap.size A xs) :
    Calls Try.prog 57 #[.slice A n c] w fun e w' => e = .returned (.slice (some ⟨w.heap.size, 0, none⟩) n n) ∧ RowAt w' 5 w.heap.size xs ∧ Below w.heap.size w w' := by
  obtain ⟨i0, hi, hz0, hz1, hz2⟩ := info_parts Try.info8
  have hmk := run_make8 (P := Try.prog) Try.underlying24 hi hz0 hz1 hz2 .i64 .i64 n n rfl hn
  clear hi hz0 hz1 hz2
  have HX := Lib.hid hx
  clear hx
  have hne : ((n : Int) == 0) = false := by rw [beq_eq_false_iff_ne]; omega
  go_enter Try.func57, Try.ntmps57
  go_wp2
  go_loopw [4] (fun i wr => ∃ (k : Nat) (ys : List UInt8), k ≤ n ∧ i = .int .i64 (k : Int) ∧ Hid (ys.length = n) ∧ Hid (∀ j, j < k → ys[j]? = xs[j]?) ∧ RowAt wr 5 w.heap.size ys ∧ Below w.heap.size w wr) (fun i _ => n - (intOf i).toNat)
  case atStart => exact ⟨0, List.replicate n 0, by omega, rfl, (by simp : _ = _), (fun j h => by omega : ∀ _, _), RowAt.new _ _ _, (Below.refl _ _).alloc (Nat.le_refl _) _⟩
  case round =>
    obtain ⟨k, zs, hk, rfl, hlen, hj, hrow, hb⟩ := hrel
    by_cases hlt : k < n
    · obtain ⟨b, o, rfl, hbl, hcx⟩ := hr.at_ (by rintro rfl; have := HX.out; simp at this; omega)
      have hkx : k < xs.length := by have := HX.out; omega
      have hcb : wr.cell? ⟨b, o + k, none⟩ = some (.int .u8 ((xs[k]).toNat : Int)) := (hb.cell (p := ⟨b, o + k, none⟩) hbl).trans (hcx k hkx)
      have hc := hrow.cell k (by have := hlen.out; omega)
      have hf := hrow.frozen k
      have HR := Lib.hid (hrow.set_ k xs[k])
      have hb' := hb.setCell (p := ⟨w.heap.size, k, none⟩) (Nat.le_refl _) (.int .u8 ((xs[k]).toNat : Int))
      clear hrow hcx
      go_wp2
      go_roundw
      case rel =>
        refine ⟨k + 1, zs.set k xs[k], by omega, by go_num, (show _ = _ by simpa using hlen.out), (show ∀ _, _ from fun j h1 => ?_), HR.out, hb'⟩
        have := hlen.out
        rw [List.getElem?_set]
        split
        · subst_vars
          rw [if_pos (by omega), List.getElem?_eq_getElem hkx]
        · exact hj.out j (by omega)
      case measure => simp [intOf]; omega
    · obtain rfl : k = n := by omega
      go_wp2
      go_ret
      refine ⟨rfl, ?_, hb⟩
      have hx := HX.out
      have hzx : zs = xs := by
        apply List.ext_getElem?
        intro i
        rcases Nat.lt_or_ge i k with hi | hi
        · exact hj.out i hi
        · rw [List.getElem?_eq_none (by rw [hlen.out]; exact hi), List.getElem?_eq_none (by omega)]
      rw [← hzx]
      exact hrow
end Go.Proofs.Ytalgkokgaibloaa
