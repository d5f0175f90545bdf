/-
  Package chunk: the test for noughts; the closure that takes bytes.
-/
import Derived.Test.YtnlhkofkjcofdaaChkM
import Derived.Shelf.Bytes.SlCountOne
namespace Go.Proofs.Ytnlhkofkjcofdaa
open Go.RowKit
set_option linter.unusedVariables false

theorem bytes_back (xs : List UInt8) : Lib.bytesOf (xs.map fun x => (x.toNat : Int)) = xs := by
  rw [Lib.bytesOf, List.map_map]
  exact (List.map_congr_left (fun x _ => by simp)).trans (List.map_id xs)
theorem count_all (xs : List UInt8) : (((Lib.countByte (Lib.bytesOf (xs.map fun x => (x.toNat : Int))) (0 : Int).toNat.toUInt8 : Nat) : Int) == (xs.length : Int)) = decide (∀ x ∈ xs, x = 0) := by
  rw [bytes_back]
  have h : Lib.countByte xs (0 : Int).toNat.toUInt8 = xs.count 0 := rfl
  rw [h, Bool.eq_iff_iff, beq_iff_eq, decide_eq_true_iff]
  constructor
  · intro h x hx
    exact (List.count_eq_length.1 (by omega) x hx).symm
  · intro h
    have := List.count_eq_length.2 (fun x hx => (h x hx).symm)
    omega

set_option maxHeartbeats 1000000 in
/-- bytes.Count of a nought. -/
theorem count_any (A : Option Addr) (n c : Nat) (q d : Nat) (xs : List UInt8) (w : World) (hx : xs.length = n) (hr : Rd w w.heap.size A xs) (h0 : w.cell? ⟨q, 0, none⟩ = some (.int .u8 0)) :
    Calls Try.prog 38 #[.slice A n c, .slice (some ⟨q, 0, none⟩) 1 d] w fun e w' => e = .returned (.int .i64 (Lib.countByte (Lib.bytesOf (xs.map fun x => (x.toNat : Int))) (0 : Int).toNat.toUInt8)) ∧ w' = w := by
  have hrun : (Extern.BytealgCount.count #[.slice A n c, .int .u8 0]).run Try.prog w = .ok (.int .i64 (Lib.countByte (Lib.bytesOf (xs.map fun x => (x.toNat : Int))) (0 : Int).toNat.toUInt8)) w := by
    by_cases hn : xs = []
    · subst hn
      rcases A with _ | a
      · exact Lib.run_countNil w n c 0
      · subst hx
        exact Lib.run_countAt w a 0 c [] rfl (fun i hi => absurd hi (by omega)) 0
    · obtain ⟨b, o, rfl, hb, hc⟩ := hr.at_ hn
      refine Lib.run_countAt w ⟨b, o, none⟩ n c _ (by simp [hx]) (fun i hi => ?_) 0
      rw [Addr.add_lit, hc i (by omega)]
      simp [hx, hi]
  go_enter Try.func38, Try.ntmps38
  go_wp2
  rw [run_callFunc_extern Try.func41 (by kernel_rfl) (by kernel_rfl) (by kernel_rfl) (e := Extern.BytealgCount.count) (by kernel_rfl), hrun]
  simp only [Result.andThen]
  rw [Oper.upon_value]
  go_wp2
  go_ret
  exact ⟨rfl, rfl⟩

set_option maxHeartbeats 1000000 in
theorem isZero_any (A : Option Addr) (n c : Nat) (xs : List UInt8) (w : World) (hn : n ≤ 140737488355300) (hx : xs.length = n) (hr : Rd w w.heap.size A xs) :
    Calls Try.prog 30 #[.slice A n c] w fun e w' => e = .returned (.bool (decide (∀ x ∈ xs, x = 0))) ∧ Below w.heap.size w w' := by
  have hr1 := (hr.alloc (Nat.le_refl _) (.cells #[.int .u8 0] 5)).more (B' := (w.alloc (.cells #[.int .u8 0] 5)).heap.size) (by simp)
  have hall := count_all xs
  have HC := Lib.hid (count_any A n c w.heap.size 1 xs (w.alloc (.cells #[.int .u8 0] 5)) hx hr1 (by rw [World.cell?_alloc_at _ _ _ _ rfl]; rfl))
  rw [hx] at hall
  obtain ⟨K, hK⟩ : ∃ K : Nat, K = Lib.countByte (Lib.bytesOf (xs.map fun x => (x.toNat : Int))) (0 : Int).toNat.toUInt8 := ⟨_, rfl⟩
  have HCK := HC.out
  rw [← hK] at hall HCK
  have HCK := Lib.hid HCK
  have HA := Lib.hid hall
  clear hx hr hr1 HC hK hall
  go_enter Try.func30, Try.ntmps30
  go_wp2_with fail
  refine HCK.out.mono ?_
  rintro e w1 ⟨rfl, rfl⟩
  go_wp2_with fail
  go_ret
  exact ⟨ret_bool HA.out, below_new w _⟩

set_option maxHeartbeats 1000000 in
/-- The closure: there are as many bytes. -/
theorem take_yes (A : Option Addr) (n c a k m p q : Nat) (hm : a + k = m) (xs : List UInt8) (w : World) (hn : n ≤ 140737488355300) (hc : n ≤ c) (hcm : c ≤ maxLen) (hx : xs.length = n) (hr : Rd w w.heap.size A xs) (hak : a + k ≤ n)
    (hp : Blk w p 22 #[.slice A n c]) (hq : Blk w q 3 #[.int .i64 a]) :
    Calls Try.prog 27 #[.int .i64 k, .pointer (some ⟨p, 0, none⟩), .pointer (some ⟨q, 0, none⟩)] w fun e w' =>
      ∃ A2 c2 w1, e = .returned (.tuple #[.slice A2 k c2, .bool true]) ∧ w' = w1.setCell ⟨q, 0, none⟩ (.int .i64 m) ∧ Own8 w1 5 w.heap.size A2 k c2 ((xs.drop a).take k) ∧ Below w.heap.size w w1 := by
  have f1 : w.cell? ⟨p, 0, none⟩ = some (.slice A n c) := hp.cell 0
  have f2 : w.cell? ⟨q, 0, none⟩ = some (.int .i64 a) := hq.cell 0
  have HC := Lib.hid (cut_yes A n c a k xs w (by omega) hc hcm hx hr hak)
  have HQ := Lib.hid hq
  have HM : Hid ((a : Int) + k = m) := Lib.hid (by omega)
  clear hp hq hx hr hm
  go_enter Try.func27, Try.ntmps27
  go_wp2_with fail
  refine HC.out.mono ?_
  rintro e w1 ⟨A2, c2, rfl, ho, hb⟩
  have hq1 := HQ.out.below hb HQ.out.lt
  have g2 : w1.cell? ⟨q, 0, none⟩ = some (.int .i64 a) := hq1.cell 0
  have g3 := hq1.frozen 0
  have HB := Lib.hid hb
  have HO := Lib.hid ho
  clear hq1 hb ho
  go_wp2_with fail
  go_ret2
  exact ⟨_, _, _, rfl, by rw [← HM.out], HO.out, HB.out⟩
set_option maxHeartbeats 1000000 in
theorem take_no (A : Option Addr) (n c a k p q : Nat) (w : World) (hn : n ≤ 140737488355300) (ha : a ≤ n) (hak : n < a + k)
    (hp : Blk w p 22 #[.slice A n c]) (hq : Blk w q 3 #[.int .i64 a]) :
    Calls Try.prog 27 #[.int .i64 k, .pointer (some ⟨p, 0, none⟩), .pointer (some ⟨q, 0, none⟩)] w fun e w' =>
      e = .returned (.tuple #[.slice none 0 0, .bool false]) ∧ w' = w.setCell ⟨q, 0, none⟩ (.int .i64 a) := by
  have f1 : w.cell? ⟨p, 0, none⟩ = some (.slice A n c) := hp.cell 0
  have f2 : w.cell? ⟨q, 0, none⟩ = some (.int .i64 a) := hq.cell 0
  have f3 := hq.frozen 0
  have HC := Lib.hid (cutNo A n c a k w (by unfold maxLen; omega) (fun h => by obtain ⟨h1, h2, h3, h4⟩ := h; omega))
  go_enter Try.func27, Try.ntmps27
  go_wp2_with fail
  refine HC.out.mono ?_
  rintro e w1 ⟨rfl, rfl⟩
  go_wp2_with fail
  go_ret2
  exact ⟨rfl, rfl⟩
end Go.Proofs.Ytnlhkofkjcofdaa
