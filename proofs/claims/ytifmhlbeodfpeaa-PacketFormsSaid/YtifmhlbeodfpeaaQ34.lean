/-
  summed of layer 10's laws: bytes with their right sum.
-/
import Derived.Test.YtifmhlbeodfpeaaQ28
import Derived.Test.YtifmhlbeodfpeaaQ33
namespace Go.Proofs.Ytifmhlbeodfpeaa
open Go.RowKit
set_option linter.unusedVariables false

/-- Four bytes laid from the place 8 on. -/
def cpy (ys es : List UInt8) : Nat → List UInt8
  | 0 => ys
  | j + 1 => (cpy ys es j).set (8 + j) (es[j]?.getD 0)
theorem length_cpy (ys es : List UInt8) : ∀ j, (cpy ys es j).length = ys.length
  | 0 => rfl
  | j + 1 => by rw [cpy, List.length_set, length_cpy ys es j]
theorem cpy_smd {xs zs es : List UInt8} (h : 12 ≤ xs.length) (he : es.length = 4) : cpy (bareP xs ++ zs) es 4 = (xs.take 8 ++ (es ++ xs.drop 12)) ++ zs := by
  obtain ⟨e0, e1, e2, e3, rfl⟩ : ∃ a b c d, es = [a, b, c, d] := by
    match es, he with
    | [a, b, c, d], _ => exact ⟨a, b, c, d, rfl⟩
  obtain ⟨T, hT⟩ : ∃ T, T = xs.take 8 := ⟨_, rfl⟩
  have hl : T.length = 8 := by rw [hT]; simp; omega
  have e : bareP xs ++ zs = T ++ (0 :: 0 :: 0 :: 0 :: (xs.drop 12 ++ zs)) := by
    rw [hT]
    simp [bareP, List.replicate]
  have s : ∀ (l : List UInt8) (j : Nat) (v : UInt8), (T ++ l).set (8 + j) v = T ++ l.set j v := fun l j v => by
    rw [List.set_append_right _ _ (by omega), hl, Nat.add_sub_cancel_left]
  have e4 : cpy (bareP xs ++ zs) [e0, e1, e2, e3] 4 = ((((bareP xs ++ zs).set (8 + 0) e0).set (8 + 1) e1).set (8 + 2) e2).set (8 + 3) e3 := rfl
  rw [e4, e, s, s, s, s, ← hT]
  simp [List.set]

set_option maxRecDepth 100000 in
set_option maxHeartbeats 4000000 in
theorem summed_any (A : Option Addr) (n c : Nat) (xs : List UInt8) (w : World) (hn : n ≤ 4194304) (h12 : 12 ≤ n) (hx : xs.length = n) (hr : Rd w w.heap.size A xs) :
    Calls Try.prog 29 #[.slice A n c] w fun e w' => ∃ A2 c2, e = .returned (.slice A2 n c2) ∧ Own8 w' 5 w.heap.size A2 n c2 (smd xs) ∧ Below w.heap.size w w' := by
  have HX := Lib.hid hx
  obtain ⟨s, hs⟩ : ∃ s, s = (sum (bareP xs)).toNat := ⟨_, rfl⟩
  have hs4 : s < 4294967296 := by rw [hs]; exact (sum (bareP xs)).isLt
  have HS := Lib.hid hs
  have HCP : Hid (Calls Try.prog 30 #[.slice A n c] w fun e w' => ∃ A2 c2, e = .returned (.slice A2 n c2) ∧ Own8 w' 5 w.heap.size A2 n c2 xs ∧ Below w.heap.size w w') := Lib.hid (copyBytes_any A n c xs w (by omega) hx hr)
  clear hx hr hs
  go_enter Try.func29, Try.ntmps29
  go_wp2_with fail
  refine HCP.out.mono ?_
  rintro e w2 ⟨A2, c2, rfl, ho, hb⟩
  have B2 := Lib.hid hb
  obtain ⟨g, zs, rfl, hg, hrow, hcz, hcm2⟩ : ∃ g zs, A2 = some ⟨g, 0, none⟩ ∧ w.heap.size ≤ g ∧ RowAt w2 5 g (xs ++ zs) ∧ n + zs.length = c2 ∧ c2 ≤ maxLen := by
    rcases ho.2 with ⟨_, h0, _⟩ | h
    · omega
    · exact h
  have R2 := Lib.hid hrow
  have HCZ := Lib.hid hcz
  have HCM2 := Lib.hid hcm2
  have hnc2 : n ≤ c2 := by omega
  clear hb ho hrow hcz hcm2 HCP
  go_wp2_with fail
  go_loopw [4] (fun i wr => ∃ k : Nat, k ≤ 4 ∧ i = .int .i64 (8 + k : Nat) ∧ Hid (RowAt wr 5 g (zr (xs ++ zs) k)) ∧ Hid (Below w.heap.size w wr)) (fun i _ => 12 - (intOf i).toNat)
  case atStart => exact ⟨0, by omega, rfl, R2, B2⟩
  case round =>
    clear R2 B2
    obtain ⟨k, hk, rfl, R, B⟩ := hrel
    by_cases hlt : k < 4
    · have hkl : 8 + k < (zr (xs ++ zs) k).length := by rw [length_zr, List.length_append, HX.out]; omega
      have x0 := R.out.cell (8 + k) hkl
      have f0 := R.out.frozen (8 + k)
      go_wp2_with fail
      go_roundw
      case rel => exact ⟨k + 1, by omega, by go_num, Lib.hid (R.out.set_ (8 + k) 0), Lib.hid (B.out.setCell (p := ⟨g, 8 + k, none⟩) (show w.heap.size ≤ g by omega) _)⟩
      case measure => simp [intOf]; omega
    · obtain rfl : k = 4 := by omega
      have R3 : Hid (RowAt wr 5 g (bareP xs ++ zs)) := Lib.hid (by
        have hR := R.out
        rw [zr_bare (xs := xs) (zs := zs) (by rw [HX.out]; exact h12)] at hR
        exact hR)
      have hbl : (bareP xs).length = n := by have := HX.out; simp [bareP]; omega
      have HSU : Hid (Calls Try.prog 39 #[.slice (some ⟨g, 0, none⟩) n c2] wr fun e w' => e = .returned (.int .u32 (s : Int)) ∧ wr = w') := Lib.hid (by
        have := refSum_any wr.heap.size (some ⟨g, 0, none⟩) n c2 (bareP xs) wr (by unfold maxLen; omega) hbl (R3.out.rd 0 _ (fun j hj => by rw [Nat.zero_add, List.getElem?_append_left hj]))
        rw [HS.out]
        exact this)
      have HPU : Hid (Calls Try.prog 50 #[.slice none 0 0, .int .u64 (s : Int), .int .i64 4] wr fun e w' => ∃ A2 c2, e = .returned (.slice A2 4 c2) ∧ Own8 w' 5 wr.heap.size A2 4 c2 (enc s 4) ∧ Below wr.heap.size wr w') := Lib.hid (by
        have := refPut_yes none 0 0 s 4 [] wr (by omega) (by omega) rfl (Rd.nil _ _ _) (.inr (.inr (.inl rfl)))
        exact this)
      have hbl2 := Lib.hid hbl
      clear R hbl
      go_wp2_with fail
      refine HSU.out.mono ?_
      rintro e w3 ⟨rfl, rfl⟩
      clear HSU
      go_wp2_with fail
      refine HPU.out.mono ?_
      rintro e w4 ⟨A5, c5, rfl, ho5, hb⟩
      obtain ⟨g5, zs5, rfl, hg5, hrow5, hcz5, hcm5⟩ : ∃ g5 zs5, A5 = some ⟨g5, 0, none⟩ ∧ wr.heap.size ≤ g5 ∧ RowAt w4 5 g5 (enc s 4 ++ zs5) ∧ 4 + zs5.length = c5 ∧ c5 ≤ maxLen := by
        rcases ho5.2 with ⟨_, h0, _⟩ | h
        · omega
        · exact h
      have hlt5 : g < g5 := Nat.lt_of_lt_of_le R3.out.lt hg5
      have R4 := Lib.hid (R3.out.below hb R3.out.lt)
      have B4 := Lib.hid (below_then B.out (Nat.le_refl _) hb)
      have Q4 := Lib.hid hrow5
      clear hb ho5 hg5 hrow5 hcz5 hcm5 HPU B R3
      obtain ⟨es, hes⟩ : ∃ es, es = enc s 4 := ⟨_, rfl⟩
      have hel : es.length = 4 := by rw [hes, length_enc]
      rw [← hes] at Q4
      have HES := Lib.hid hes
      clear hes
      go_wp2_with fail
      go_loopw [6] (fun i wr => ∃ k : Nat, k ≤ 4 ∧ i = .int .i64 (k : Nat) ∧ Hid (RowAt wr 5 g (cpy (bareP xs ++ zs) es k)) ∧ Hid (RowAt wr 5 g5 (es ++ zs5)) ∧ Hid (Below w.heap.size w wr)) (fun i _ => 4 - (intOf i).toNat)
      case atStart => exact ⟨0, by omega, rfl, R4, Q4, B4⟩
      case round =>
        clear R4 Q4 B4
        obtain ⟨k, hk, rfl, R, Q, B⟩ := hrel
        by_cases hlt2 : k < 4
        · have hkl : 8 + k < (cpy (bareP xs ++ zs) es k).length := by rw [length_cpy, List.length_append, hbl2.out]; omega
          have x0 := R.out.cell (8 + k) hkl
          have f0 := R.out.frozen (8 + k)
          obtain ⟨v, hv⟩ : ∃ v, v = es[k]?.getD 0 := ⟨_, rfl⟩
          have q0 : wr.cell? ⟨g5, k, none⟩ = some (.int .u8 (v.toNat : Int)) := by
            have h1 := Q.out.cell k (by rw [List.length_append]; omega)
            rw [List.getElem_append_left (by omega)] at h1
            rw [h1, hv, List.getElem?_eq_getElem (by omega), Option.getD_some]
          have HV := Lib.hid hv
          clear hv
          go_wp2_with fail
          go_roundw
          case rel => exact ⟨k + 1, by omega, by go_num, Lib.hid (by rw [cpy, ← HV.out]; exact R.out.set_ (8 + k) v), Lib.hid (Q.out.far (p := ⟨g, 8 + k, none⟩) (show g5 ≠ g by omega) _), Lib.hid (B.out.setCell (p := ⟨g, 8 + k, none⟩) (show w.heap.size ≤ g by omega) _)⟩
          case measure => simp [intOf]; omega
        · obtain rfl : k = 4 := by omega
          go_wp2_with fail
          go_ret
          refine ⟨_, _, rfl, ⟨?_, .inr ⟨g, zs, rfl, hg, ?_, HCZ.out, HCM2.out⟩⟩, B.out⟩
          · rw [length_smd (by rw [HX.out]; exact h12), HX.out]
          · have h1 := R.out
            rw [cpy_smd (by rw [HX.out]; exact h12) hel, HES.out, HS.out] at h1
            exact h1
end Go.Proofs.Ytifmhlbeodfpeaa
