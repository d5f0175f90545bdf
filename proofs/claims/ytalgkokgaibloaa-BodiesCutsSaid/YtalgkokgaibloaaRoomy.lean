/-
  Roomy: a row of its own, alike, with 16 marks behind it.
-/
import Derived.Test.YtalgkokgaibloaaRows
import Derived.Test.YtalgkokgaibloaaMem
namespace Go.Proofs.Ytalgkokgaibloaa
open Go.RowKit
set_option linter.unusedVariables false

theorem Try.info8 : (Try.prog.info? 5).map (fun i => (i.zero, i.size, i.bytes)) = some (some (.int .u8 0), 1, 1) := by kernel_rfl

theorem roomy_eq (ys xs : List UInt8) (hl : ys.length = xs.length + 16) (h1 : ∀ j, xs.length ≤ j → j < xs.length + 16 → ys[j]? = some 90) (h2 : ∀ j, j < xs.length → ys[j]? = xs[j]?) : ys = xs ++ marks16 := by
  apply List.ext_getElem?
  intro i
  rw [List.getElem?_append]
  split
  · exact h2 i ‹_›
  · rw [get_marks16]
    split
    · exact h1 i (by omega) (by omega)
    · rw [List.getElem?_eq_none (by omega)]

set_option maxHeartbeats 400000 in
theorem roomy_any (A : Option Addr) (n c : Nat) (xs : List UInt8) (w : World) (hn : n ≤ 1048576) (hx : xs.length = n) (hr : Rd w w.heap.size A xs) :
    Calls Try.prog 14 #[.slice A n c] w fun e w' => ∃ g, e = .returned (.slice (some ⟨g, 0, none⟩) n (n + 16)) ∧ w.heap.size ≤ g ∧ RowAt w' 5 g (xs ++ marks16) ∧ Below w.heap.size w w' := by
  obtain ⟨i0, hi, hz0, hz1, hz2⟩ := info_parts Try.info8
  have hmk := run_make8 (P := Try.prog) Try.underlying24 hi hz0 hz1 hz2 .i64 .i64 (n + 16) (n + 16) (by omega) (by omega)
  clear hi hz0 hz1 hz2
  have HX := Lib.hid hx
  clear hx
  go_enter Try.func14, Try.ntmps14
  go_wp2
  go_loopw [4] (fun i wr => ∃ (k : Nat) (ys : List UInt8), k ≤ 16 ∧ i = .int .i64 ((n + k : Nat) : Int) ∧ Hid (ys.length = n + 16) ∧ Hid (∀ j, n ≤ j → j < n + k → ys[j]? = some 90) ∧ RowAt wr 5 w.heap.size ys ∧ Below w.heap.size w wr) (fun i _ => n + 16 - (intOf i).toNat)
  case atStart => exact ⟨0, List.replicate (n + 16) 0, by omega, rfl, (by simp : _ = _), (fun j h1 h2 => by omega : ∀ _, _), RowAt.new _ _ _, (Below.refl _ _).alloc (Nat.le_refl _) _⟩
  case round =>
    obtain ⟨k, ys, hk, rfl, hlen, h9, hrow, hb⟩ := hrel
    by_cases hlt : k < 16
    · have hc := hrow.cell (n + k) (by have := hlen.out; omega)
      have hf := hrow.frozen (n + k)
      have hrow' := hrow.set_ (n + k) 90
      have hb' := hb.setCell (p := ⟨w.heap.size, n + k, none⟩) (Nat.le_refl _) (.int .u8 90)
      have hz := hb.size
      have HR := Lib.hid hrow'
      clear hrow hrow'
      go_wp2
      go_roundw
      case rel =>
        refine ⟨k + 1, ys.set (n + k) 90, by omega, by go_num, (show _ = _ by simpa using hlen.out), (show ∀ _, _ from fun j h1 h2 => ?_), HR.out, hb'⟩
        have := hlen.out
        rw [List.getElem?_set]
        split
        · simp; omega
        · exact h9.out j h1 (by omega)
      case measure => simp [intOf]; omega
    · obtain rfl : k = 16 := by omega
      go_wp2
      go_loopw [5] (fun i wx => ∃ (k : Nat) (ys : List UInt8), k ≤ n ∧ i = .int .i64 (k : Int) ∧ Hid (ys.length = n + 16) ∧ Hid (∀ j, n ≤ j → j < n + 16 → ys[j]? = some 90) ∧ Hid (∀ j, j < k → ys[j]? = xs[j]?) ∧ RowAt wx 5 w.heap.size ys ∧ Below w.heap.size w wx) (fun i _ => n - (intOf i).toNat)
      case atStart => exact ⟨0, ys, by omega, rfl, hlen, h9, (fun j h => by omega : ∀ _, _), hrow, hb⟩
      case round =>
        clear hrow hb h9 hlen
        obtain ⟨k, zs, hk, rfl, hlen, h9, h0, hrow, hb⟩ := hrel
        by_cases hlt : k < n
        · obtain ⟨b, o, rfl, hbl, hcx⟩ := hr.at_ (by rintro rfl; have := HX.out; simp at this; omega)
          have hkx : k < xs.length := by have := HX.out; omega
          have hcb : wr.cell? ⟨b, o + k, none⟩ = some (.int .u8 ((xs[k]).toNat : Int)) := (hb.cell (p := ⟨b, o + k, none⟩) hbl).trans (hcx k hkx)
          have hc := hrow.cell k (by have := hlen.out; omega)
          have hf := hrow.frozen k
          have HR := Lib.hid (hrow.set_ k xs[k])
          have hb' := hb.setCell (p := ⟨w.heap.size, k, none⟩) (Nat.le_refl _) (.int .u8 ((xs[k]).toNat : Int))
          clear hrow hcx
          go_wp2
          go_roundw
          case rel =>
            refine ⟨k + 1, zs.set k xs[k], by omega, by go_num, (show _ = _ by simpa using hlen.out), (show ∀ _, _ from fun j h1 h2 => ?_), (show ∀ _, _ from fun j h1 => ?_), HR.out, hb'⟩
            · rw [List.getElem?_set, if_neg (by omega)]
              exact h9.out j h1 h2
            · have := hlen.out
              rw [List.getElem?_set]
              split
              · subst_vars
                rw [if_pos (by omega), List.getElem?_eq_getElem hkx]
              · exact h0.out j (by omega)
          case measure => simp [intOf]; omega
        · obtain rfl : k = n := by omega
          go_wp2
          go_ret
          refine ⟨w.heap.size, rfl, Nat.le_refl _, ?_, hb⟩
          have hx := HX.out
          rw [← roomy_eq zs xs (by rw [hlen.out, hx]) (fun j h1 h2 => h9.out j (by omega) (by omega)) (fun j h => h0.out j (by omega))]
          exact hrow
end Go.Proofs.Ytalgkokgaibloaa
