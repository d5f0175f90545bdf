/-
  Package chunk: the test for noughts; the closure that takes bytes.
  Package chunk: Read.
-/
import Derived.Test.YtifmhlbeodfpeaaQ4
import Derived.Shelf.Bytes.SlCountOne
import Derived.Deep.RegionWith
import Derived.StillTail
import Derived.StillTailTactics
namespace Go.Proofs.Ytifmhlbeodfpeaa
open Go.RowKit
set_option linter.unusedVariables false

theorem bytes_back (xs : List UInt8) : Lib.bytesOf (xs.map fun x => (x.toNat : Int)) = xs := by
  rw [Lib.bytesOf, List.map_map]
  exact (List.map_congr_left (fun x _ => by simp)).trans (List.map_id xs)
theorem count_all (xs : List UInt8) : (((Lib.countByte (Lib.bytesOf (xs.map fun x => (x.toNat : Int))) (0 : Int).toNat.toUInt8 : Nat) : Int) == (xs.length : Int)) = decide (∀ x ∈ xs, x = 0) := by
  rw [bytes_back]
  have h : Lib.countByte xs (0 : Int).toNat.toUInt8 = xs.count 0 := rfl
  rw [h, Bool.eq_iff_iff, beq_iff_eq, decide_eq_true_iff]
  constructor
  · intro h x hx
    exact (List.count_eq_length.1 (by omega) x hx).symm
  · intro h
    have := List.count_eq_length.2 (fun x hx => (h x hx).symm)
    omega

set_option maxHeartbeats 1000000 in
/-- bytes.Count of a nought. -/
theorem count_any (A : Option Addr) (n c : Nat) (q d : Nat) (xs : List UInt8) (w : World) (hx : xs.length = n) (hr : Rd w w.heap.size A xs) (h0 : w.cell? ⟨q, 0, none⟩ = some (.int .u8 0)) :
    Calls Try.prog 68 #[.slice A n c, .slice (some ⟨q, 0, none⟩) 1 d] w fun e w' => e = .returned (.int .i64 (Lib.countByte (Lib.bytesOf (xs.map fun x => (x.toNat : Int))) (0 : Int).toNat.toUInt8)) ∧ w' = w := by
  have hrun : (Extern.BytealgCount.count #[.slice A n c, .int .u8 0]).run Try.prog w = .ok (.int .i64 (Lib.countByte (Lib.bytesOf (xs.map fun x => (x.toNat : Int))) (0 : Int).toNat.toUInt8)) w := by
    by_cases hn : xs = []
    · subst hn
      rcases A with _ | a
      · exact Lib.run_countNil w n c 0
      · subst hx
        exact Lib.run_countAt w a 0 c [] rfl (fun i hi => absurd hi (by omega)) 0
    · obtain ⟨b, o, rfl, hb, hc⟩ := hr.at_ hn
      refine Lib.run_countAt w ⟨b, o, none⟩ n c _ (by simp [hx]) (fun i hi => ?_) 0
      rw [Addr.add_lit, hc i (by omega)]
      simp [hx, hi]
  go_enter Try.func68, Try.ntmps68
  go_wp2
  rw [run_callFunc_extern Try.func70 (by kernel_rfl) (by kernel_rfl) (by kernel_rfl) (e := Extern.BytealgCount.count) (by kernel_rfl), hrun]
  simp only [Result.andThen]
  rw [Oper.upon_value]
  go_wp2
  go_ret
  exact ⟨rfl, rfl⟩

set_option maxHeartbeats 1000000 in
theorem isZero_any (A : Option Addr) (n c : Nat) (xs : List UInt8) (w : World) (hn : n ≤ 140737488355300) (hx : xs.length = n) (hr : Rd w w.heap.size A xs) :
    Calls Try.prog 67 #[.slice A n c] w fun e w' => e = .returned (.bool (decide (∀ x ∈ xs, x = 0))) ∧ Below w.heap.size w w' := by
  have hr1 := (hr.alloc (Nat.le_refl _) (.cells #[.int .u8 0] 5)).more (B' := (w.alloc (.cells #[.int .u8 0] 5)).heap.size) (by simp)
  have hall := count_all xs
  have HC := Lib.hid (count_any A n c w.heap.size 1 xs (w.alloc (.cells #[.int .u8 0] 5)) hx hr1 (by rw [World.cell?_alloc_at _ _ _ _ rfl]; rfl))
  rw [hx] at hall
  obtain ⟨K, hK⟩ : ∃ K : Nat, K = Lib.countByte (Lib.bytesOf (xs.map fun x => (x.toNat : Int))) (0 : Int).toNat.toUInt8 := ⟨_, rfl⟩
  have HCK := HC.out
  rw [← hK] at hall HCK
  have HCK := Lib.hid HCK
  have HA := Lib.hid hall
  clear hx hr hr1 HC hK hall
  go_enter Try.func67, Try.ntmps67
  go_wp2_with fail
  refine HCK.out.mono ?_
  rintro e w1 ⟨rfl, rfl⟩
  go_wp2_with fail
  go_ret
  exact ⟨ret_bool HA.out, below_new w _⟩

set_option maxHeartbeats 1000000 in
/-- The closure: there are as many bytes. -/
theorem take_yes (A : Option Addr) (n c a k m p q : Nat) (hm : a + k = m) (xs : List UInt8) (w : World) (hn : n ≤ 140737488355300) (hc : n ≤ c) (hcm : c ≤ maxLen) (hx : xs.length = n) (hr : Rd w w.heap.size A xs) (hak : a + k ≤ n)
    (hp : Blk w p 29 #[.slice A n c]) (hq : Blk w q 3 #[.int .i64 a]) :
    Calls Try.prog 65 #[.int .i64 k, .pointer (some ⟨p, 0, none⟩), .pointer (some ⟨q, 0, none⟩)] w fun e w' =>
      ∃ A2 c2 w1, e = .returned (.tuple #[.slice A2 k c2, .bool true]) ∧ w' = w1.setCell ⟨q, 0, none⟩ (.int .i64 m) ∧ Own8 w1 5 w.heap.size A2 k c2 ((xs.drop a).take k) ∧ Below w.heap.size w w1 := by
  have f1 : w.cell? ⟨p, 0, none⟩ = some (.slice A n c) := hp.cell 0
  have f2 : w.cell? ⟨q, 0, none⟩ = some (.int .i64 a) := hq.cell 0
  have HC := Lib.hid (cut_yes A n c a k xs w (by omega) hc hcm hx hr hak)
  have HQ := Lib.hid hq
  have HM : Hid ((a : Int) + k = m) := Lib.hid (by omega)
  clear hp hq hx hr hm
  go_enter Try.func65, Try.ntmps65
  go_wp2_with fail
  refine HC.out.mono ?_
  rintro e w1 ⟨A2, c2, rfl, ho, hb⟩
  have hq1 := HQ.out.below hb HQ.out.lt
  have g2 : w1.cell? ⟨q, 0, none⟩ = some (.int .i64 a) := hq1.cell 0
  have g3 := hq1.frozen 0
  have HB := Lib.hid hb
  have HO := Lib.hid ho
  clear hq1 hb ho
  go_wp2_with fail
  go_ret2
  exact ⟨_, _, _, rfl, by rw [← HM.out], HO.out, HB.out⟩
set_option maxHeartbeats 1000000 in
theorem take_no (A : Option Addr) (n c a k p q : Nat) (w : World) (hn : n ≤ 140737488355300) (ha : a ≤ n) (hak : n < a + k)
    (hp : Blk w p 29 #[.slice A n c]) (hq : Blk w q 3 #[.int .i64 a]) :
    Calls Try.prog 65 #[.int .i64 k, .pointer (some ⟨p, 0, none⟩), .pointer (some ⟨q, 0, none⟩)] w fun e w' =>
      e = .returned (.tuple #[.slice none 0 0, .bool false]) ∧ w' = w.setCell ⟨q, 0, none⟩ (.int .i64 a) := by
  have f1 : w.cell? ⟨p, 0, none⟩ = some (.slice A n c) := hp.cell 0
  have f2 : w.cell? ⟨q, 0, none⟩ = some (.int .i64 a) := hq.cell 0
  have f3 := hq.frozen 0
  have HC := Lib.hid (cutNo A n c a k w (by unfold maxLen; omega) (fun h => by obtain ⟨h1, h2, h3, h4⟩ := h; omega))
  go_enter Try.func65, Try.ntmps65
  go_wp2_with fail
  refine HC.out.mono ?_
  rintro e w1 ⟨rfl, rfl⟩
  go_wp2_with fail
  go_ret2
  exact ⟨rfl, rfl⟩
end Go.Proofs.Ytifmhlbeodfpeaa

namespace Go.Proofs.Ytifmhlbeodfpeaa
open Go.RowKit
set_option linter.unusedVariables false

theorem zero_chunk (w : World) : (zeroValue 41).run Try.prog w = .ok (.agg #[.int .u8 0, .int .u8 0, .slice none 0 0]) w := by kernel_rfl
theorem wrap_nat64 {n : Nat} (h : n < 9223372036854775808) : IntKind.i64.wrap (n : Int) = n := by
  simp [IntKind.wrap, IntKind.signed, IntKind.bits]
  omega
/-- What Read answers where there is none. -/
def noChunk : Value := .tuple #[.agg #[.int .u8 0, .int .u8 0, .slice none 0 0], .int .i64 0, .int .i64 7]

set_option maxHeartbeats 1000000 in
theorem read_short (A : Option Addr) (n c : Nat) (w : World) (hn : n < 4) :
    Calls Try.prog 60 #[.slice A n c] w fun e w' => e = .returned noChunk ∧ Below w.heap.size w w' := by
  have hz := zero_chunk
  have HC : Hid (∀ W : World, Calls Try.prog 44 #[.slice A n c, .int .i64 2, .int .i64 2] W fun e w' => e = .returned (.tuple #[.int .u64 0, .int .i64 1]) ∧ W = w') := Lib.hid fun W => get_no A n c 2 2 W (by unfold maxLen; omega) (fun h => by obtain ⟨_, h1, h2, h3, h4⟩ := h; omega)
  go_enter Try.func60, Try.ntmps60
  go_wp2_with fail
  refine (HC.out _).mono ?_
  rintro e w1 ⟨rfl, rfl⟩
  go_wp2_with fail
  refine bodyPost_ret (v := noChunk) ?_ rfl ⟨rfl, ?_⟩
  · simp [noChunk, results, Try.results60, go_sem]
  · exact (below_new w _).alloc (by simp) _

set_option maxHeartbeats 1000000 in
theorem read_low (A : Option Addr) (n c : Nat) (xs : List UInt8) (w : World) (hn : n ≤ 140737488355300) (h4 : 4 ≤ n) (hx : xs.length = n) (hr : Rd w w.heap.size A xs) (hl : clen xs < 4) :
    Calls Try.prog 60 #[.slice A n c] w fun e w' => e = .returned noChunk ∧ Below w.heap.size w w' := by
  have hz := zero_chunk
  have HC : Hid (∀ W : World, Below w.heap.size w W → Calls Try.prog 44 #[.slice A n c, .int .i64 2, .int .i64 2] W fun e w' => e = .returned (.tuple #[.int .u64 (clen xs), .int .i64 0]) ∧ W = w') := Lib.hid fun W hW => get_yes w.heap.size A n c 2 2 xs W (by unfold maxLen; omega) hx (hr.below hW) (.inr (.inl rfl)) (by omega)
  obtain ⟨L, hL⟩ : ∃ L, L = clen xs := ⟨_, rfl⟩
  rw [← hL] at hl HC
  clear hL hx hr
  go_enter Try.func60, Try.ntmps60
  go_wp2_with fail
  refine (HC.out _ ((below_new w _).alloc (by simp) _)).mono ?_
  rintro e w1 ⟨rfl, rfl⟩
  go_wp2_with fail
  refine bodyPost_ret (v := noChunk) ?_ rfl ⟨rfl, ?_⟩
  · simp [noChunk, results, Try.results60, go_sem]
  · exact (below_new w _).alloc (by simp) _

set_option maxHeartbeats 10000000 in
theorem read_yes (A : Option Addr) (n c : Nat) (xs : List UInt8) (w : World) (hn : n ≤ 140737488355300) (hc : n ≤ c) (hcm : c ≤ maxLen) (hx : xs.length = n) (hr : Rd w w.heap.size A xs) (hf : Fits xs) :
    Calls Try.prog 60 #[.slice A n c] w fun e w' => ∃ A2 c2, e = .returned (.tuple #[.agg #[.int .u8 ((kind xs).toNat : Int), .int .u8 ((flag xs).toNat : Int), .slice A2 (clen xs - 4) c2], .int .i64 (up4 (clen xs)), .int .i64 0]) ∧ Own8 w' 5 w.heap.size A2 (clen xs - 4) c2 (body xs) ∧ Below w.heap.size w w' := by
  have hz := zero_chunk
  have HC : Hid (∀ W : World, Below w.heap.size w W → Calls Try.prog 44 #[.slice A n c, .int .i64 2, .int .i64 2] W fun e w' => e = .returned (.tuple #[.int .u64 (clen xs), .int .i64 0]) ∧ W = w') := Lib.hid fun W hW => get_yes w.heap.size A n c 2 2 xs W (by unfold maxLen; omega) hx (hr.below hW) (.inr (.inl rfl)) (by have := hf.four; omega)
  obtain ⟨L, hL⟩ : ∃ L, L = clen xs := ⟨_, rfl⟩
  obtain ⟨U, hU⟩ : ∃ U, U = up4 L := ⟨_, rfl⟩
  have hLU := up4_bd L
  have h4 := hf.lo
  have hUn := hf.hi
  have hLM := clen_lt xs
  rw [← hL] at HC h4 hUn hLM ⊢
  rw [← hU] at hUn hLU ⊢
  rw [hx] at hUn
  have HL := Lib.hid hL
  have HU := Lib.hid hU
  have HX := Lib.hid hx
  have HR := Lib.hid hr
  have HZ0 : Hid (∀ x ∈ (xs.drop L).take (U - L), x = 0) := Lib.hid (by rw [hU, hL]; exact hf.zero)
  have hn4 : 4 ≤ n := by have := hf.four; omega
  obtain ⟨b, o, hAe, hbl, hcx⟩ := hr.at_ (by intro h; rw [h] at hx; simp at hx; omega)
  have HA := Lib.hid (show ∀ W : World, Below w.heap.size w W → W.cell? ⟨b, o, none⟩ = some (.int .u8 ((kind xs).toNat : Int)) ∧ W.cell? ⟨b, o + 1, none⟩ = some (.int .u8 ((flag xs).toNat : Int)) from fun W hW => by
    have h0 := hcx 0 (by omega)
    have h1 := hcx 1 (by omega)
    rw [hW.cell hbl, hW.cell hbl, h1, ← Nat.add_zero o, h0, kind, flag, List.getElem?_eq_getElem (by omega), List.getElem?_eq_getElem (by omega)]
    exact ⟨rfl, rfl⟩)
  obtain ⟨k0, hk0⟩ : ∃ k0, k0 = kind xs := ⟨_, rfl⟩
  obtain ⟨f0, hf0⟩ : ∃ f0, f0 = flag xs := ⟨_, rfl⟩
  rw [← hk0, ← hf0] at HA ⊢
  clear hcx hk0 hf0
  subst hAe
  clear hL hU hx hr
  go_enter Try.func60, Try.ntmps60
  go_wp2_with fail
  refine (HC.out _ ((below_new w _).alloc (by simp) _)).mono ?_
  rintro e w1 ⟨rfl, rfl⟩
  go_wp2_with fail
  have P1 : Blk (((w.alloc (.cells #[.slice (some ⟨b, o, none⟩) n c] 29)).alloc (.cells #[.int .u8 0, .int .u8 0, .slice none 0 0] 41)).alloc (.cells #[.int .i64 4] 3)) w.heap.size 29 #[.slice (some ⟨b, o, none⟩) n c] := ((Blk.new _ _ _).alloc _).alloc _
  have R1 : Blk (((w.alloc (.cells #[.slice (some ⟨b, o, none⟩) n c] 29)).alloc (.cells #[.int .u8 0, .int .u8 0, .slice none 0 0] 41)).alloc (.cells #[.int .i64 4] 3)) (w.heap.size + 1) 41 #[.int .u8 0, .int .u8 0, .slice none 0 0] := by
    have := (Blk.new (w.alloc (.cells #[.slice (some ⟨b, o, none⟩) n c] 29)) 41 #[.int .u8 0, .int .u8 0, .slice none 0 0]).alloc (.cells #[.int .i64 4] 3)
    rwa [show (w.alloc (.cells #[.slice (some ⟨b, o, none⟩) n c] 29)).heap.size = w.heap.size + 1 by simp] at this
  have Q1 : Blk (((w.alloc (.cells #[.slice (some ⟨b, o, none⟩) n c] 29)).alloc (.cells #[.int .u8 0, .int .u8 0, .slice none 0 0] 41)).alloc (.cells #[.int .i64 4] 3)) (w.heap.size + 1 + 1) 3 #[.int .i64 4] := by
    have := Blk.new ((w.alloc (.cells #[.slice (some ⟨b, o, none⟩) n c] 29)).alloc (.cells #[.int .u8 0, .int .u8 0, .slice none 0 0] 41)) 3 #[.int .i64 4]
    rwa [show ((w.alloc (.cells #[.slice (some ⟨b, o, none⟩) n c] 29)).alloc (.cells #[.int .u8 0, .int .u8 0, .slice none 0 0] 41)).heap.size = w.heap.size + 1 + 1 by simp] at this
  have B1 : Below w.heap.size w (((w.alloc (.cells #[.slice (some ⟨b, o, none⟩) n c] 29)).alloc (.cells #[.int .u8 0, .int .u8 0, .slice none 0 0] 41)).alloc (.cells #[.int .i64 4] 3)) := ((below_new w _).alloc (by simp) _).alloc (by simp; omega) _
  rw [show (L : Int) - 4 = ((L - 4 : Nat) : Int) from by omega]
  generalize ((w.alloc (.cells #[.slice (some ⟨b, o, none⟩) n c] 29)).alloc (.cells #[.int .u8 0, .int .u8 0, .slice none 0 0] 41)).alloc (.cells #[.int .i64 4] 3) = w1 at P1 R1 Q1 B1 ⊢
  obtain ⟨q, hq⟩ : ∃ q, q = w.heap.size + 1 + 1 := ⟨_, rfl⟩
  obtain ⟨r, hr⟩ : ∃ r, r = w.heap.size + 1 := ⟨_, rfl⟩
  rw [← hr] at R1
  rw [← hr] at hq
  rw [← hr, ← hq]
  rw [← hr, ← hq] at Q1
  have hqr : q ≠ r := by omega
  have hrq : r ≠ q := by omega
  have hpq : w.heap.size ≠ q := by omega
  have hpr : w.heap.size ≤ r := by omega
  have hpq' : w.heap.size ≤ q := by omega
  have HCT := Lib.hid (take_yes (some ⟨b, o, none⟩) n c 4 (L - 4) L w.heap.size q (by omega) xs w1 hn hc hcm HX.out ((HR.out.below B1).more B1.size) (by omega) P1 Q1)
  replace P1 := Lib.hid P1
  replace R1 := Lib.hid R1
  replace Q1 := Lib.hid Q1
  replace B1 := Lib.hid B1
  have HRR := Lib.hid hr
  have HQQ := Lib.hid hq
  clear hr hq
  refine HCT.out.mono ?_
  rintro e w2' ⟨A2, c2, w2, rfl, rfl, ho2, hb2⟩
  clear HCT
  have P2 := Lib.hid ((P1.out.below hb2 P1.out.lt).far (p := ⟨q, 0, none⟩) (by simpa using hpq) (.int .i64 (L : Nat)))
  have R2 := Lib.hid ((R1.out.below hb2 R1.out.lt).far (p := ⟨q, 0, none⟩) (by simpa using hrq) (.int .i64 (L : Nat)))
  have Q2 := Lib.hid ((Q1.out.below hb2 Q1.out.lt).set_ 0 (.int .i64 (L : Nat)))
  have B2 := Lib.hid ((below_then B1.out (Nat.le_refl _) hb2).setCell (p := ⟨q, 0, none⟩) hpq' (.int .i64 (L : Nat)))
  have O2 : Hid (Own8 (w2.setCell ⟨q, 0, none⟩ (.int .i64 (L : Nat))) 5 w1.heap.size A2 (L - 4) c2 ((xs.drop 4).take (L - 4))) := Lib.hid (ho2.keep fun g hg => Below.heap_setCell w2 ⟨q, 0, none⟩ _ g (by have := (ho2.lt g hg).1; have := Q1.out.lt; simp; omega))
  clear ho2 hb2
  generalize w2.setCell ⟨q, 0, none⟩ (.int .i64 (L : Nat)) = w3 at P2 R2 Q2 B2 O2 ⊢
  have g2 : w3.cell? ⟨q, 0, none⟩ = some (.int .i64 L) := Q2.out.cell 0
  go_wp2_with fail
  have HRD := Lib.hid (fun W : World => round_yes (L : Int) (by omega) (by omega) W)
  have HU3 : Hid (((L : Int) + 3) / 4 * 4 = (U : Int)) := Lib.hid (by rw [HU.out]; exact up4_int L)
  have HCT2 := Lib.hid (take_yes (some ⟨b, o, none⟩) n c L (U - L) U w.heap.size q (by omega) xs w3.drew hn hc hcm HX.out ((HR.out.below B2.out).more B2.out.size) (by omega) (P2.out.drewN 1) (Q2.out.drewN 1))
  have HWR : Hid (IntKind.i64.wrap ((U : Int) - L) = ((U - L : Nat) : Int)) := Lib.hid (by rw [show (U : Int) - L = ((U - L : Nat) : Int) from by omega]; exact wrap_nat64 (by omega))
  go_region_with (first
    | (go_at_call 36; refine (HRD.out _).mono ?_; rintro e w4 ⟨rfl, rfl⟩; rw [HU3.out])
    | (go_at_call 65; rw [HWR.out]; refine HCT2.out.mono ?_; rintro e w5 ⟨A3, c3, w4, rfl, rfl, ho4, hb4⟩))
  all_goals
    have P4 := Lib.hid (((P2.out.drewN 1).below hb4 (P2.out.drewN 1).lt).far (p := ⟨q, 0, none⟩) (by simpa using hpq) (.int .i64 (U : Nat)))
    have R4 := Lib.hid (((R2.out.drewN 1).below hb4 (R2.out.drewN 1).lt).far (p := ⟨q, 0, none⟩) (by simpa using hrq) (.int .i64 (U : Nat)))
    have Q4 := Lib.hid (((Q2.out.drewN 1).below hb4 (Q2.out.drewN 1).lt).set_ 0 (.int .i64 (U : Nat)))
    have B4 := Lib.hid ((below_then (below_drewN B2.out 1) (Nat.le_refl _) hb4).setCell (p := ⟨q, 0, none⟩) hpq' (.int .i64 (U : Nat)))
    have hqlt := Q2.out.lt
    have O4 : Hid (Own8 (w4.setCell ⟨q, 0, none⟩ (.int .i64 (U : Nat))) 5 w1.heap.size A2 (L - 4) c2 ((xs.drop 4).take (L - 4))) := Lib.hid (((O2.out.drewN 1).below hb4 (Nat.le_refl _)).keep fun g hg => Below.heap_setCell w4 ⟨q, 0, none⟩ _ g (by have := (O2.out.lt g hg).1; have := Q1.out.lt; simp; omega))
    have O5 : Hid (Own8 (w4.setCell ⟨q, 0, none⟩ (.int .i64 (U : Nat))) 5 w3.drew.heap.size A3 (U - L) c3 ((xs.drop L).take (U - L))) := Lib.hid (ho4.keep fun g hg => Below.heap_setCell w4 ⟨q, 0, none⟩ _ g (by have := (ho4.lt g hg).1; have : w3.drew.heap.size = w3.heap.size := rfl; simp; omega))
    clear ho4 hb4 HCT2
    generalize w4.setCell ⟨q, 0, none⟩ (.int .i64 (U : Nat)) = w5 at P4 R4 Q4 B4 O4 O5 ⊢
    have HZ : Hid (Calls Try.prog 67 #[.slice A3 (U - L : Nat) c3] w5 fun e w' => e = .returned (.bool true) ∧ Below w5.heap.size w5 w') := Lib.hid ((isZero_any A3 (U - L) c3 _ w5 (by omega) O5.out.len O5.out.rd).mono fun e w' ⟨he, hb⟩ => ⟨he.trans (ret_bool (decide_eq_true HZ0.out)), hb⟩)
    go_wp2_with fail
    refine HZ.out.mono ?_
    rintro e w6 ⟨rfl, hb6⟩
    clear HZ
    have P6 := P4.out.below hb6 P4.out.lt
    have R6 := R4.out.below hb6 R4.out.lt
    have Q6 := Q4.out.below hb6 Q4.out.lt
    have B6 := Lib.hid (below_then B4.out (Nat.le_refl _) hb6)
    have O6 := Lib.hid (O4.out.below hb6 (Nat.le_refl _))
    have k1 : w6.cell? ⟨w.heap.size, 0, none⟩ = some (.slice (some ⟨b, o, none⟩) n c) := P6.cell 0
    have k2 : w6.cell? ⟨q, 0, none⟩ = some (.int .i64 U) := Q6.cell 0
    have j3 : w6.cell? ⟨r, 0, none⟩ = some (.int .u8 0) := R6.cell 0
    have j4 : w6.cell? ⟨r, 1, none⟩ = some (.int .u8 0) := R6.cell 1
    have j5 : w6.cell? ⟨r, 2, none⟩ = some (.slice none 0 0) := R6.cell 2
    have k3 := R6.frozen 0
    have k4 := R6.frozen 1
    have k5 := R6.frozen 2
    have R6 := Lib.hid R6
    have k6 := (HA.out w6 B6.out).1
    have k7 := (HA.out w6 B6.out).2
    clear P6 Q6 hb6
    go_wp2_with fail
    go_region
    go_wp2_with fail
    refine bodyPost_ret (v := .tuple #[.agg #[.int .u8 (k0.toNat : Int), .int .u8 (f0.toNat : Int), .slice A2 (L - 4) c2], .int .i64 U, .int .i64 0]) ?_ rfl ⟨_, _, rfl, ?_, ?_⟩
    · simp [results, Try.results60, go_sem, j3, j4, j5]
    · rw [body, ← HL.out]
      have hrl := Q1.out.lt
      have hrq2 := HQQ.out
      refine (((O6.out.drewN 1).keep (w' := (((w6.drewN 1).setCell ⟨r, 0, none⟩ (.int .u8 (k0.toNat : Int))).setCell ⟨r, 1, none⟩ (.int .u8 (f0.toNat : Int))).setCell ⟨r, 2, none⟩ (.slice A2 (L - 4) c2)) fun g hg => ?_)).more B1.out.size
      have hg2 := (O6.out.lt g hg).1
      rw [Below.heap_setCell _ _ _ g (by simp; omega), Below.heap_setCell _ _ _ g (by simp; omega), Below.heap_setCell _ _ _ g (by simp; omega)]
    · exact (((below_drewN B6.out 1).setCell (p := ⟨r, 0, none⟩) hpr _).setCell (p := ⟨r, 1, none⟩) hpr _).setCell (p := ⟨r, 2, none⟩) hpr _
end Go.Proofs.Ytifmhlbeodfpeaa
