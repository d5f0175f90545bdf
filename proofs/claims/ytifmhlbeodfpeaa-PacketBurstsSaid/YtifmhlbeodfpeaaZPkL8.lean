/-
  PacketBursts, walked.
-/
import Derived.Test.YtifmhlbeodfpeaaQ33
import Derived.Test.YtifmhlbeodfpeaaQ32
import Derived.Test.YtifmhlbeodfpeaaQ30
import Derived.Test.YtifmhlbeodfpeaaQ26
namespace Go.Proofs.Ytifmhlbeodfpeaa
open Go.RowKit
set_option linter.unusedVariables false

theorem tmod_lt (a : Int) (sz : Nat) (h : 0 < sz) : a.tmod (8 * (sz : Int)) < 8 * (sz : Int) ∧ -(8 * (sz : Int)) < a.tmod (8 * (sz : Int)) := by
  have h2 : (0 : Int) < 8 * (sz : Int) := by omega
  rcases Int.le_total 0 a with ha | ha
  · rw [Int.tmod_eq_emod_of_nonneg ha]
    have h3 := Int.emod_nonneg a (show (8 * (sz : Int)) ≠ 0 by omega)
    have h4 := Int.emod_lt_of_pos a h2
    omega
  · obtain ⟨b, rfl⟩ : ∃ b : Int, a = -b := ⟨-a, by omega⟩
    rw [Int.neg_tmod, Int.tmod_eq_emod_of_nonneg (by omega)]
    have h3 := Int.emod_nonneg b (show (8 * (sz : Int)) ≠ 0 by omega)
    have h4 := Int.emod_lt_of_pos b h2
    omega
theorem bit_of8 {r : Nat} (hr : r < 8) : ∃ e : UInt8, e ≠ 0 ∧ (2 : Int) ^ r % 256 = (e.toNat : Int) := by
  refine ⟨UInt8.ofNat (2 ^ r), ?_, ?_⟩
  · have h8 : r = 0 ∨ r = 1 ∨ r = 2 ∨ r = 3 ∨ r = 4 ∨ r = 5 ∨ r = 6 ∨ r = 7 := by omega
    rcases h8 with rfl | rfl | rfl | rfl | rfl | rfl | rfl | rfl <;> decide
  · have h8 : r = 0 ∨ r = 1 ∨ r = 2 ∨ r = 3 ∨ r = 4 ∨ r = 5 ∨ r = 6 ∨ r = 7 := by omega
    rcases h8 with rfl | rfl | rfl | rfl | rfl | rfl | rfl | rfl <;> rfl
set_option maxRecDepth 100000 in
set_option maxHeartbeats 8000000 in
theorem packetBursts_walk (tag : Nat) (A : Option Addr) (n c : Nat) (cs : List Chk) (at_ : Int) (mask : Nat) (w : World) (ht : tag < 4294967296) (hcn : n ≤ c) (hcm : c ≤ maxLen) (hx : cs.length = n) (hr : Chunks w w.heap.size A cs) (hat : -9223372036854775808 ≤ at_ ∧ at_ ≤ 9223372036854775807) (hmk : mask < 4294967296) :
    Calls Try.prog 8 #[.agg #[.int .u32 (tag : Int), .slice A n c, .int .i64 at_, .int .u32 (mask : Int)]] w fun e w' => e = .returned (.bool true) ∧ Below w.heap.size w w' := by
  have hz : ∀ W, (zeroValue 25).run Try.prog W = .ok (.agg #[.int .u32 0, .slice none 0 0]) W := by intro W; kernel_rfl
  have HLG : Hid (∀ W, Below w.heap.size w W → Calls Try.prog 11 #[.agg #[.int .u32 (tag : Int), .slice A n c]] W fun e w' => LargeR cs e ∧ Below W.heap.size W w') := Lib.hid fun W hW => large_any (tag : Int) A n c cs W (Nat.le_trans hcn hcm) hx ((hr.below hW).more hW.size)
  obtain ⟨sz, hsz⟩ : ∃ sz, sz = sizeP cs := ⟨_, rfl⟩
  have HWY : Hid (Meek cs → mayP cs = true → ∀ W, Below w.heap.size w W → Calls Try.prog 14 #[.agg #[.int .u32 (tag : Int), .slice A n c]] W fun e w' => ∃ A2 c2, e = .returned (.slice A2 sz c2) ∧ Own8 w' 5 W.heap.size A2 sz c2 (wrP tag cs) ∧ Below W.heap.size W w') := Lib.hid fun hm hmy W hW => (writeP_yes tag A n c cs W ht (by have := hm.len; omega) hx ((hr.below hW).more hW.size) hmy).mono fun e w' ⟨A2, m, c2, he, ho, hb⟩ => by
    have hm2 : m = sz := by rw [← ho.len, length_wrP hmy, hsz]
    subst hm2
    exact ⟨A2, c2, he, ho, hb⟩
  have HWN : Hid (Meek cs → mayP cs = false → ∀ W, Below w.heap.size w W → Calls Try.prog 14 #[.agg #[.int .u32 (tag : Int), .slice A n c]] W fun e w' => e = .returned (.slice none 0 0) ∧ Below W.heap.size W w') := Lib.hid fun hm hmy W hW => writeP_no tag A n c cs W (by have := hm.len; omega) hx ((hr.below hW).more hW.size) hmy
  have HRD : Hid (mayP cs = true → rdP (wrP tag cs) = .ok tag cs) := Lib.hid fun h => rdP_wrP tag cs ht h
  have hs12 : 12 ≤ sz := by rw [hsz]; unfold sizeP; omega
  have HSB : Hid (Meek cs → sz ≤ 134584) := Lib.hid fun hm => by rw [hsz]; have := hm.size; unfold sizeP; omega
  have K0 := Lib.hid (Blk.new w 48 #[.int .u32 (tag : Int), .slice A n c, .int .i64 at_, .int .u32 (mask : Int)])
  have B0 := Lib.hid (below_new w (.cells #[.int .u32 (tag : Int), .slice A n c, .int .i64 at_, .int .u32 (mask : Int)] 48))
  have HMK := Lib.hid hmk
  clear hr hx hsz hcm hcn ht hmk
  go_enter Try.func8, Try.ntmps8
  rw [held_eq 16, held_eq 18, held_eq 22, held_eq 25]
  go_wp2_with fail
  generalize w.alloc (.cells #[.int .u32 (tag : Int), .slice A n c, .int .i64 at_, .int .u32 (mask : Int)] 48) = v0 at K0 B0 ⊢
  refine (HLG.out v0 B0.out).mono ?_
  rintro e w1 ⟨hL, hb⟩
  have K1 := Lib.hid (K0.out.below hb K0.out.lt)
  have B1 := Lib.hid (below_then B0.out (Nat.le_refl _) hb)
  have x0 : w1.cell? ⟨w.heap.size, 0, none⟩ = some (.int .u32 (tag : Int)) := K1.out.cell 0
  have x1 : w1.cell? ⟨w.heap.size, 1, none⟩ = some (.slice A n c) := K1.out.cell 1
  clear HLG hb K0 B0
  rcases hL with rfl | ⟨rfl, hM⟩
  · go_wp2_with fail
    refine (works_any w1).mono ?_
    rintro e wz ⟨rfl, hb⟩
    go_wp2_with fail
    go_ret
    exact ⟨rfl, below_then B1.out (Nat.le_refl _) hb⟩
  · have HM := Lib.hid hM
    have hsb := HSB.out hM
    clear hM HSB
    cases hmy : mayP cs with
    | false =>
      have HWN2 := Lib.hid (HWN.out HM.out hmy)
      clear hmy HWN HWY HRD hs12 hsb
      go_wp2_with fail
      refine (HWN2.out w1 B1.out).mono ?_
      rintro e w2 ⟨rfl, hb⟩
      have B2 := Lib.hid (below_then B1.out (Nat.le_refl _) hb)
      clear hb K1 B1 x0 x1 HWN2
      go_wp2_with fail
      refine (works_any w2).mono ?_
      rintro e wz ⟨rfl, hb⟩
      go_wp2_with fail
      go_ret
      exact ⟨rfl, below_then B2.out (Nat.le_refl _) hb⟩
    | true =>
      have HWY2 := Lib.hid (HWY.out HM.out hmy)
      have HRD2 := Lib.hid (HRD.out hmy)
      clear hmy HWN HWY HRD HM
      go_wp2_with fail
      refine (HWY2.out w1 B1.out).mono ?_
      rintro e w2 ⟨A2, c2, rfl, ho, hb⟩
      obtain ⟨xs, hxs⟩ : ∃ xs, xs = wrP tag cs := ⟨_, rfl⟩
      rw [← hxs] at ho HRD2
      have HXL : Hid (xs.length = sz) := Lib.hid ho.len
      obtain ⟨g, cz, rfl, hbg, hrow, hcz, hc2m⟩ : ∃ g cz, A2 = some ⟨g, 0, none⟩ ∧ w1.heap.size ≤ g ∧ RowAt w2 5 g (xs ++ cz) ∧ sz + cz.length = c2 ∧ c2 ≤ maxLen := by
        rcases ho with ⟨hxl, ⟨-, h0, -⟩ | ho⟩
        · omega
        · exact ho
      have hs1 := B1.out.size
      have K2 := Lib.hid (K1.out.below hb K1.out.lt)
      have B2 := Lib.hid (below_then B1.out (Nat.le_refl _) hb)
      have hgg : w.heap.size < g := Nat.lt_of_lt_of_le K1.out.lt hbg
      have HCZ := Lib.hid hcz
      have HCM := Lib.hid hc2m
      have R2 := Lib.hid hrow
      have S2 := Lib.hid hb.size
      have y2 : w2.cell? ⟨w.heap.size, 2, none⟩ = some (.int .i64 at_) := K2.out.cell 2
      have hsz0 : ((sz : Int) == 0) = false := beq_false_of_ne (by omega)
      clear hb hxs hrow hcz hc2m ho hbg hs1 HWY2 K1 B1 x0 x1
      by_cases hneg : at_.tmod (8 * (sz : Int)) < 0
      · skip
        obtain ⟨f, hf, hfN⟩ : ∃ f : Nat, at_.tmod (8 * (sz : Int)) + 8 * (sz : Int) = (f : Int) ∧ f < 8 * sz := ⟨(at_.tmod (8 * (sz : Int)) + 8 * (sz : Int)).toNat, by have := tmod_lt at_ sz (by omega); omega, by have := tmod_lt at_ sz (by omega); omega⟩
        have HF := Lib.hid hf
        clear hf
        obtain ⟨t1, t2⟩ := tmod_lt at_ sz (by omega)
        go_wp2_with fail
        clear t1 t2
        rw [HF.out]
        clear HF hneg y2
        go_loopw [6, 7, 8, 9, 10] (fun p t i _ _ wr => ∃ (k pn : Nat) (tb : Bool) (ys : List UInt8), k ≤ 32 ∧ i = .int .i64 k ∧ p = .int .i64 pn ∧ t = .bool tb ∧ pn ≤ 3 ∧ Hid (Bst xs ys f k pn tb) ∧ Hid (RowAt wr 5 g (ys ++ cz)) ∧ Hid (Blk wr w.heap.size 48 #[.int .u32 (tag : Int), .slice A n c, .int .i64 at_, .int .u32 (mask : Int)]) ∧ Hid (Below w.heap.size w wr)) (fun _ _ i _ _ _ => 32 - (intOf i).toNat)
        case atStart => exact ⟨0, 0, false, xs, Nat.zero_le _, rfl, rfl, rfl, Nat.zero_le _, Lib.hid (Bst.start xs f), R2, K2, B2⟩
        case round =>
          clear R2 K2 B2
          obtain ⟨k, pn, tb, ys, hk, rfl, rfl, rfl, hpn, H, R, K, B⟩ := hrel
          by_cases hlt : k < 32
          · skip
            have y3 : wr.cell? ⟨w.heap.size, 3, none⟩ = some (.int .u32 (mask : Int)) := K.out.cell 3
            go_wp2_with fail
            rw [← held_eq 16]
            obtain ⟨q, hq⟩ : ∃ q, q = f + k := ⟨_, rfl⟩
            rw [show ((f : Int) + (k : Int)) = ((q : Nat) : Int) by omega]
            have HQ := Lib.hid hq
            clear hq
            by_cases hb0 : bits .and .u32 ((mask : Int) / 2 ^ k) 1 = 0
            · skip
              have hb1 : (bits .and .u32 ((mask : Int) / 2 ^ k) 1 == 0) = true := beq_iff_eq.2 hb0
              go_wp2_with fail
              go_roundw
              case rel => exact ⟨k + 1, pn, tb, ys, by omega, by go_num, rfl, rfl, hpn, Lib.hid H.out.skip, R, K, B⟩
              case measure => simp [intOf]; omega
            have hb1 : (bits .and .u32 ((mask : Int) / 2 ^ k) 1 == 0) = false := beq_false_of_ne hb0
            by_cases hqn : q < 8 * sz
            · skip
              go_wp2_with fail
              rw [← held_eq 18]
              clear hb0 hb1 y3
              by_cases h64 : 64 ≤ q
              · by_cases h96 : 96 ≤ q
                · skip
                  have HPO : Hid (partOf q = 3) := Lib.hid (by unfold partOf; rw [if_neg (by omega), if_neg (by omega)])
                  go_wp2_with fail
                  rw [← held_eq 22]
                  obtain rfl | rfl | rfl | rfl : pn = 0 ∨ pn = 1 ∨ pn = 2 ∨ pn = 3 := by omega
                  · skip
                    go_wp2_with fail
                    rw [← held_eq 25]
                    have hp8 : q / 8 < sz := by omega
                    have hr8 : q % 8 < 8 := by omega
                    have hpx : q / 8 < ys.length := by rw [H.out.len, HXL.out]; exact hp8
                    have hpl : q / 8 < (ys ++ cz).length := by rw [List.length_append]; omega
                    obtain ⟨v, hv⟩ : ∃ v, v = ys[q / 8] := ⟨_, rfl⟩
                    have cp : wr.cell? ⟨g, q / 8, none⟩ = some (.int .u8 (v.toNat : Int)) := by rw [R.out.cell (q / 8) hpl, List.getElem_append_left hpx, hv]
                    have fp := R.out.frozen (q / 8)
                    obtain ⟨e8, he0, he⟩ := bit_of8 hr8
                    obtain ⟨u, hu⟩ : ∃ u, u = v ^^^ e8 := ⟨_, rfl⟩
                    have HU1 := Lib.hid (show bits .xor .u8 (v.toNat : Int) ((2 : Int) ^ (q % 8) % 256) = (u.toNat : Int) by rw [he, bits_xor_u8, hu])
                    have HT : Hid (Bst xs (ys.set (q / 8) u) f (k + 1) 3 true) := Lib.hid (by
                      have hq := HQ.out
                      have hpo := HPO.out
                      rw [hu, hv]
                      subst hq
                      have h1 := H.out.turn hpx he (by rw [hpo]; omega)
                      rw [hpo] at h1
                      exact h1)
                    have HS1 := Lib.hid (show (ys ++ cz).set (q / 8) u = ys.set (q / 8) u ++ cz from List.set_append_left _ _ hpx)
                    clear hv he hu hpx hpl he0
                    go_wp2_with fail
                    rw [HU1.out]
                    have R3 : Hid (RowAt (wr.setCell ⟨g, q / 8, none⟩ (.int .u8 (u.toNat : Int))) 5 g (ys.set (q / 8) u ++ cz)) := Lib.hid (by rw [← HS1.out]; exact R.out.set_ (q / 8) u)
                    have K3 := Lib.hid (K.out.far (p := ⟨g, q / 8, none⟩) (show w.heap.size ≠ g by omega) (.int .u8 (u.toNat : Int)))
                    have B3 := Lib.hid (B.out.setCell (p := ⟨g, q / 8, none⟩) (show w.heap.size ≤ g by omega) (.int .u8 (u.toNat : Int)))
                    clear cp fp R K B HS1 HU1 H
                    go_roundw
                    case rel => exact ⟨k + 1, 3, true, ys.set (q / 8) u, by omega, by go_num, rfl, rfl, by omega, HT, R3, K3, B3⟩
                    case measure => simp [intOf]; omega
                  · skip
                    go_wp2_with fail
                    go_roundw
                    case rel => exact ⟨k + 1, 1, tb, ys, by omega, by go_num, rfl, rfl, by omega, Lib.hid H.out.skip, R, K, B⟩
                    case measure => simp [intOf]; omega
                  · skip
                    go_wp2_with fail
                    go_roundw
                    case rel => exact ⟨k + 1, 2, tb, ys, by omega, by go_num, rfl, rfl, by omega, Lib.hid H.out.skip, R, K, B⟩
                    case measure => simp [intOf]; omega
                  · skip
                    go_wp2_with fail
                    rw [← held_eq 25]
                    have hp8 : q / 8 < sz := by omega
                    have hr8 : q % 8 < 8 := by omega
                    have hpx : q / 8 < ys.length := by rw [H.out.len, HXL.out]; exact hp8
                    have hpl : q / 8 < (ys ++ cz).length := by rw [List.length_append]; omega
                    obtain ⟨v, hv⟩ : ∃ v, v = ys[q / 8] := ⟨_, rfl⟩
                    have cp : wr.cell? ⟨g, q / 8, none⟩ = some (.int .u8 (v.toNat : Int)) := by rw [R.out.cell (q / 8) hpl, List.getElem_append_left hpx, hv]
                    have fp := R.out.frozen (q / 8)
                    obtain ⟨e8, he0, he⟩ := bit_of8 hr8
                    obtain ⟨u, hu⟩ : ∃ u, u = v ^^^ e8 := ⟨_, rfl⟩
                    have HU1 := Lib.hid (show bits .xor .u8 (v.toNat : Int) ((2 : Int) ^ (q % 8) % 256) = (u.toNat : Int) by rw [he, bits_xor_u8, hu])
                    have HT : Hid (Bst xs (ys.set (q / 8) u) f (k + 1) 3 true) := Lib.hid (by
                      have hq := HQ.out
                      have hpo := HPO.out
                      rw [hu, hv]
                      subst hq
                      have h1 := H.out.turn hpx he (by rw [hpo]; omega)
                      rw [hpo] at h1
                      exact h1)
                    have HS1 := Lib.hid (show (ys ++ cz).set (q / 8) u = ys.set (q / 8) u ++ cz from List.set_append_left _ _ hpx)
                    clear hv he hu hpx hpl he0
                    go_wp2_with fail
                    rw [HU1.out]
                    have R3 : Hid (RowAt (wr.setCell ⟨g, q / 8, none⟩ (.int .u8 (u.toNat : Int))) 5 g (ys.set (q / 8) u ++ cz)) := Lib.hid (by rw [← HS1.out]; exact R.out.set_ (q / 8) u)
                    have K3 := Lib.hid (K.out.far (p := ⟨g, q / 8, none⟩) (show w.heap.size ≠ g by omega) (.int .u8 (u.toNat : Int)))
                    have B3 := Lib.hid (B.out.setCell (p := ⟨g, q / 8, none⟩) (show w.heap.size ≤ g by omega) (.int .u8 (u.toNat : Int)))
                    clear cp fp R K B HS1 HU1 H
                    go_roundw
                    case rel => exact ⟨k + 1, 3, true, ys.set (q / 8) u, by omega, by go_num, rfl, rfl, by omega, HT, R3, K3, B3⟩
                    case measure => simp [intOf]; omega
                · skip
                  skip
                  have HPO : Hid (partOf q = 2) := Lib.hid (by unfold partOf; rw [if_neg (by omega), if_pos (by omega)])
                  go_wp2_with fail
                  rw [← held_eq 22]
                  obtain rfl | rfl | rfl | rfl : pn = 0 ∨ pn = 1 ∨ pn = 2 ∨ pn = 3 := by omega
                  · skip
                    go_wp2_with fail
                    rw [← held_eq 25]
                    have hp8 : q / 8 < sz := by omega
                    have hr8 : q % 8 < 8 := by omega
                    have hpx : q / 8 < ys.length := by rw [H.out.len, HXL.out]; exact hp8
                    have hpl : q / 8 < (ys ++ cz).length := by rw [List.length_append]; omega
                    obtain ⟨v, hv⟩ : ∃ v, v = ys[q / 8] := ⟨_, rfl⟩
                    have cp : wr.cell? ⟨g, q / 8, none⟩ = some (.int .u8 (v.toNat : Int)) := by rw [R.out.cell (q / 8) hpl, List.getElem_append_left hpx, hv]
                    have fp := R.out.frozen (q / 8)
                    obtain ⟨e8, he0, he⟩ := bit_of8 hr8
                    obtain ⟨u, hu⟩ : ∃ u, u = v ^^^ e8 := ⟨_, rfl⟩
                    have HU1 := Lib.hid (show bits .xor .u8 (v.toNat : Int) ((2 : Int) ^ (q % 8) % 256) = (u.toNat : Int) by rw [he, bits_xor_u8, hu])
                    have HT : Hid (Bst xs (ys.set (q / 8) u) f (k + 1) 2 true) := Lib.hid (by
                      have hq := HQ.out
                      have hpo := HPO.out
                      rw [hu, hv]
                      subst hq
                      have h1 := H.out.turn hpx he (by rw [hpo]; omega)
                      rw [hpo] at h1
                      exact h1)
                    have HS1 := Lib.hid (show (ys ++ cz).set (q / 8) u = ys.set (q / 8) u ++ cz from List.set_append_left _ _ hpx)
                    clear hv he hu hpx hpl he0
                    go_wp2_with fail
                    rw [HU1.out]
                    have R3 : Hid (RowAt (wr.setCell ⟨g, q / 8, none⟩ (.int .u8 (u.toNat : Int))) 5 g (ys.set (q / 8) u ++ cz)) := Lib.hid (by rw [← HS1.out]; exact R.out.set_ (q / 8) u)
                    have K3 := Lib.hid (K.out.far (p := ⟨g, q / 8, none⟩) (show w.heap.size ≠ g by omega) (.int .u8 (u.toNat : Int)))
                    have B3 := Lib.hid (B.out.setCell (p := ⟨g, q / 8, none⟩) (show w.heap.size ≤ g by omega) (.int .u8 (u.toNat : Int)))
                    clear cp fp R K B HS1 HU1 H
                    go_roundw
                    case rel => exact ⟨k + 1, 2, true, ys.set (q / 8) u, by omega, by go_num, rfl, rfl, by omega, HT, R3, K3, B3⟩
                    case measure => simp [intOf]; omega
                  · skip
                    go_wp2_with fail
                    go_roundw
                    case rel => exact ⟨k + 1, 1, tb, ys, by omega, by go_num, rfl, rfl, by omega, Lib.hid H.out.skip, R, K, B⟩
                    case measure => simp [intOf]; omega
                  · skip
                    go_wp2_with fail
                    rw [← held_eq 25]
                    have hp8 : q / 8 < sz := by omega
                    have hr8 : q % 8 < 8 := by omega
                    have hpx : q / 8 < ys.length := by rw [H.out.len, HXL.out]; exact hp8
                    have hpl : q / 8 < (ys ++ cz).length := by rw [List.length_append]; omega
                    obtain ⟨v, hv⟩ : ∃ v, v = ys[q / 8] := ⟨_, rfl⟩
                    have cp : wr.cell? ⟨g, q / 8, none⟩ = some (.int .u8 (v.toNat : Int)) := by rw [R.out.cell (q / 8) hpl, List.getElem_append_left hpx, hv]
                    have fp := R.out.frozen (q / 8)
                    obtain ⟨e8, he0, he⟩ := bit_of8 hr8
                    obtain ⟨u, hu⟩ : ∃ u, u = v ^^^ e8 := ⟨_, rfl⟩
                    have HU1 := Lib.hid (show bits .xor .u8 (v.toNat : Int) ((2 : Int) ^ (q % 8) % 256) = (u.toNat : Int) by rw [he, bits_xor_u8, hu])
                    have HT : Hid (Bst xs (ys.set (q / 8) u) f (k + 1) 2 true) := Lib.hid (by
                      have hq := HQ.out
                      have hpo := HPO.out
                      rw [hu, hv]
                      subst hq
                      have h1 := H.out.turn hpx he (by rw [hpo]; omega)
                      rw [hpo] at h1
                      exact h1)
                    have HS1 := Lib.hid (show (ys ++ cz).set (q / 8) u = ys.set (q / 8) u ++ cz from List.set_append_left _ _ hpx)
                    clear hv he hu hpx hpl he0
                    go_wp2_with fail
                    rw [HU1.out]
                    have R3 : Hid (RowAt (wr.setCell ⟨g, q / 8, none⟩ (.int .u8 (u.toNat : Int))) 5 g (ys.set (q / 8) u ++ cz)) := Lib.hid (by rw [← HS1.out]; exact R.out.set_ (q / 8) u)
                    have K3 := Lib.hid (K.out.far (p := ⟨g, q / 8, none⟩) (show w.heap.size ≠ g by omega) (.int .u8 (u.toNat : Int)))
                    have B3 := Lib.hid (B.out.setCell (p := ⟨g, q / 8, none⟩) (show w.heap.size ≤ g by omega) (.int .u8 (u.toNat : Int)))
                    clear cp fp R K B HS1 HU1 H
                    go_roundw
                    case rel => exact ⟨k + 1, 2, true, ys.set (q / 8) u, by omega, by go_num, rfl, rfl, by omega, HT, R3, K3, B3⟩
                    case measure => simp [intOf]; omega
                  · skip
                    go_wp2_with fail
                    go_roundw
                    case rel => exact ⟨k + 1, 3, tb, ys, by omega, by go_num, rfl, rfl, by omega, Lib.hid H.out.skip, R, K, B⟩
                    case measure => simp [intOf]; omega
              · skip
                have h96 : ¬ 96 ≤ q := by omega
                have HPO : Hid (partOf q = 1) := Lib.hid (by unfold partOf; rw [if_pos (by omega)])
                go_wp2_with fail
                rw [← held_eq 22]
                obtain rfl | rfl | rfl | rfl : pn = 0 ∨ pn = 1 ∨ pn = 2 ∨ pn = 3 := by omega
                · skip
                  go_wp2_with fail
                  rw [← held_eq 25]
                  have hp8 : q / 8 < sz := by omega
                  have hr8 : q % 8 < 8 := by omega
                  have hpx : q / 8 < ys.length := by rw [H.out.len, HXL.out]; exact hp8
                  have hpl : q / 8 < (ys ++ cz).length := by rw [List.length_append]; omega
                  obtain ⟨v, hv⟩ : ∃ v, v = ys[q / 8] := ⟨_, rfl⟩
                  have cp : wr.cell? ⟨g, q / 8, none⟩ = some (.int .u8 (v.toNat : Int)) := by rw [R.out.cell (q / 8) hpl, List.getElem_append_left hpx, hv]
                  have fp := R.out.frozen (q / 8)
                  obtain ⟨e8, he0, he⟩ := bit_of8 hr8
                  obtain ⟨u, hu⟩ : ∃ u, u = v ^^^ e8 := ⟨_, rfl⟩
                  have HU1 := Lib.hid (show bits .xor .u8 (v.toNat : Int) ((2 : Int) ^ (q % 8) % 256) = (u.toNat : Int) by rw [he, bits_xor_u8, hu])
                  have HT : Hid (Bst xs (ys.set (q / 8) u) f (k + 1) 1 true) := Lib.hid (by
                    have hq := HQ.out
                    have hpo := HPO.out
                    rw [hu, hv]
                    subst hq
                    have h1 := H.out.turn hpx he (by rw [hpo]; omega)
                    rw [hpo] at h1
                    exact h1)
                  have HS1 := Lib.hid (show (ys ++ cz).set (q / 8) u = ys.set (q / 8) u ++ cz from List.set_append_left _ _ hpx)
                  clear hv he hu hpx hpl he0
                  go_wp2_with fail
                  rw [HU1.out]
                  have R3 : Hid (RowAt (wr.setCell ⟨g, q / 8, none⟩ (.int .u8 (u.toNat : Int))) 5 g (ys.set (q / 8) u ++ cz)) := Lib.hid (by rw [← HS1.out]; exact R.out.set_ (q / 8) u)
                  have K3 := Lib.hid (K.out.far (p := ⟨g, q / 8, none⟩) (show w.heap.size ≠ g by omega) (.int .u8 (u.toNat : Int)))
                  have B3 := Lib.hid (B.out.setCell (p := ⟨g, q / 8, none⟩) (show w.heap.size ≤ g by omega) (.int .u8 (u.toNat : Int)))
                  clear cp fp R K B HS1 HU1 H
                  go_roundw
                  case rel => exact ⟨k + 1, 1, true, ys.set (q / 8) u, by omega, by go_num, rfl, rfl, by omega, HT, R3, K3, B3⟩
                  case measure => simp [intOf]; omega
                · skip
                  go_wp2_with fail
                  rw [← held_eq 25]
                  have hp8 : q / 8 < sz := by omega
                  have hr8 : q % 8 < 8 := by omega
                  have hpx : q / 8 < ys.length := by rw [H.out.len, HXL.out]; exact hp8
                  have hpl : q / 8 < (ys ++ cz).length := by rw [List.length_append]; omega
                  obtain ⟨v, hv⟩ : ∃ v, v = ys[q / 8] := ⟨_, rfl⟩
                  have cp : wr.cell? ⟨g, q / 8, none⟩ = some (.int .u8 (v.toNat : Int)) := by rw [R.out.cell (q / 8) hpl, List.getElem_append_left hpx, hv]
                  have fp := R.out.frozen (q / 8)
                  obtain ⟨e8, he0, he⟩ := bit_of8 hr8
                  obtain ⟨u, hu⟩ : ∃ u, u = v ^^^ e8 := ⟨_, rfl⟩
                  have HU1 := Lib.hid (show bits .xor .u8 (v.toNat : Int) ((2 : Int) ^ (q % 8) % 256) = (u.toNat : Int) by rw [he, bits_xor_u8, hu])
                  have HT : Hid (Bst xs (ys.set (q / 8) u) f (k + 1) 1 true) := Lib.hid (by
                    have hq := HQ.out
                    have hpo := HPO.out
                    rw [hu, hv]
                    subst hq
                    have h1 := H.out.turn hpx he (by rw [hpo]; omega)
                    rw [hpo] at h1
                    exact h1)
                  have HS1 := Lib.hid (show (ys ++ cz).set (q / 8) u = ys.set (q / 8) u ++ cz from List.set_append_left _ _ hpx)
                  clear hv he hu hpx hpl he0
                  go_wp2_with fail
                  rw [HU1.out]
                  have R3 : Hid (RowAt (wr.setCell ⟨g, q / 8, none⟩ (.int .u8 (u.toNat : Int))) 5 g (ys.set (q / 8) u ++ cz)) := Lib.hid (by rw [← HS1.out]; exact R.out.set_ (q / 8) u)
                  have K3 := Lib.hid (K.out.far (p := ⟨g, q / 8, none⟩) (show w.heap.size ≠ g by omega) (.int .u8 (u.toNat : Int)))
                  have B3 := Lib.hid (B.out.setCell (p := ⟨g, q / 8, none⟩) (show w.heap.size ≤ g by omega) (.int .u8 (u.toNat : Int)))
                  clear cp fp R K B HS1 HU1 H
                  go_roundw
                  case rel => exact ⟨k + 1, 1, true, ys.set (q / 8) u, by omega, by go_num, rfl, rfl, by omega, HT, R3, K3, B3⟩
                  case measure => simp [intOf]; omega
                · skip
                  go_wp2_with fail
                  go_roundw
                  case rel => exact ⟨k + 1, 2, tb, ys, by omega, by go_num, rfl, rfl, by omega, Lib.hid H.out.skip, R, K, B⟩
                  case measure => simp [intOf]; omega
                · skip
                  go_wp2_with fail
                  go_roundw
                  case rel => exact ⟨k + 1, 3, tb, ys, by omega, by go_num, rfl, rfl, by omega, Lib.hid H.out.skip, R, K, B⟩
                  case measure => simp [intOf]; omega
            · skip
              go_wp2_with fail
              go_roundw
              case rel => exact ⟨k + 1, pn, tb, ys, by omega, by go_num, rfl, rfl, hpn, Lib.hid H.out.skip, R, K, B⟩
              case measure => simp [intOf]; omega
          · skip
            obtain rfl : k = 32 := by omega
            have HYL : Hid (ys.length = sz) := Lib.hid (by rw [H.out.len, HXL.out])
            have HRE := H.out.end_ HRD2.out
            have hcz := HCZ.out
            have HR : Hid (Calls Try.prog 22 #[.slice (some ⟨g, 0, none⟩) sz c2] wr fun e w' => RdR wr.heap.size (rdP ys) e w' ∧ Below wr.heap.size wr w') := Lib.hid (readP_any (some ⟨g, 0, none⟩) sz c2 ys wr (by omega) (by omega) HCM.out HYL.out (R.out.rd 0 ys (fun j hj => by rw [Nat.zero_add, List.getElem?_append_left hj])))
            clear H R K hcz
            cases tb with
            | true =>
              rw [if_pos rfl] at HRE
              rw [HRE] at HR
              clear HRE
              go_wp2_with fail
              refine HR.out.mono ?_
              rintro e w3 ⟨rfl, hb⟩
              have hbb := below_then B.out (Nat.le_refl _) hb
              have BR := Lib.hid (hbb.alloc hbb.size (.cells #[.int .u32 0, .slice none 0 0] 25))
              clear hb hbb HR
              rw [noPkt]
              go_wp2_with fail
              generalize w3.alloc (.cells #[.int .u32 0, .slice none 0 0] 25) = wq at BR ⊢
              refine (works_any wq).mono ?_
              rintro e wz ⟨rfl, hb⟩
              go_wp2_with fail
              go_ret
              exact ⟨rfl, below_then BR.out (Nat.le_refl _) hb⟩
            | false =>
              rw [if_neg (by decide)] at HRE
              rw [HRE] at HR
              clear HRE
              go_wp2_with fail
              refine HR.out.mono ?_
              rintro e w3 ⟨⟨A3, c3, es, rfl, hoc, hes⟩, hb⟩
              have hbb := below_then B.out (Nat.le_refl _) hb
              have BR := Lib.hid (hbb.alloc hbb.size (.cells #[.int .u32 (tag : Int), .slice A3 es.length c3] 25))
              clear hb hbb HR hoc hes
              go_wp2_with fail
              generalize w3.alloc (.cells #[.int .u32 (tag : Int), .slice A3 es.length c3] 25) = wq at BR ⊢
              refine (works_any wq).mono ?_
              rintro e wz ⟨rfl, hb⟩
              go_wp2_with fail
              go_ret
              exact ⟨rfl, below_then BR.out (Nat.le_refl _) hb⟩
      · skip
        obtain ⟨f, hf, hfN⟩ : ∃ f : Nat, at_.tmod (8 * (sz : Int)) = (f : Int) ∧ f < 8 * sz := ⟨(at_.tmod (8 * (sz : Int))).toNat, by have := tmod_lt at_ sz (by omega); omega, by have := tmod_lt at_ sz (by omega); omega⟩
        have HF := Lib.hid hf
        clear hf
        obtain ⟨t1, t2⟩ := tmod_lt at_ sz (by omega)
        go_wp2_with fail
        clear t1 t2
        rw [HF.out]
        clear HF hneg y2
        go_loopw [6, 7, 8, 9, 10] (fun p t i _ _ wr => ∃ (k pn : Nat) (tb : Bool) (ys : List UInt8), k ≤ 32 ∧ i = .int .i64 k ∧ p = .int .i64 pn ∧ t = .bool tb ∧ pn ≤ 3 ∧ Hid (Bst xs ys f k pn tb) ∧ Hid (RowAt wr 5 g (ys ++ cz)) ∧ Hid (Blk wr w.heap.size 48 #[.int .u32 (tag : Int), .slice A n c, .int .i64 at_, .int .u32 (mask : Int)]) ∧ Hid (Below w.heap.size w wr)) (fun _ _ i _ _ _ => 32 - (intOf i).toNat)
        case atStart => exact ⟨0, 0, false, xs, Nat.zero_le _, rfl, rfl, rfl, Nat.zero_le _, Lib.hid (Bst.start xs f), R2, K2, B2⟩
        case round =>
          clear R2 K2 B2
          obtain ⟨k, pn, tb, ys, hk, rfl, rfl, rfl, hpn, H, R, K, B⟩ := hrel
          by_cases hlt : k < 32
          · skip
            have y3 : wr.cell? ⟨w.heap.size, 3, none⟩ = some (.int .u32 (mask : Int)) := K.out.cell 3
            go_wp2_with fail
            rw [← held_eq 16]
            obtain ⟨q, hq⟩ : ∃ q, q = f + k := ⟨_, rfl⟩
            rw [show ((f : Int) + (k : Int)) = ((q : Nat) : Int) by omega]
            have HQ := Lib.hid hq
            clear hq
            by_cases hb0 : bits .and .u32 ((mask : Int) / 2 ^ k) 1 = 0
            · skip
              have hb1 : (bits .and .u32 ((mask : Int) / 2 ^ k) 1 == 0) = true := beq_iff_eq.2 hb0
              go_wp2_with fail
              go_roundw
              case rel => exact ⟨k + 1, pn, tb, ys, by omega, by go_num, rfl, rfl, hpn, Lib.hid H.out.skip, R, K, B⟩
              case measure => simp [intOf]; omega
            have hb1 : (bits .and .u32 ((mask : Int) / 2 ^ k) 1 == 0) = false := beq_false_of_ne hb0
            by_cases hqn : q < 8 * sz
            · skip
              go_wp2_with fail
              rw [← held_eq 18]
              clear hb0 hb1 y3
              by_cases h64 : 64 ≤ q
              · by_cases h96 : 96 ≤ q
                · skip
                  have HPO : Hid (partOf q = 3) := Lib.hid (by unfold partOf; rw [if_neg (by omega), if_neg (by omega)])
                  go_wp2_with fail
                  rw [← held_eq 22]
                  obtain rfl | rfl | rfl | rfl : pn = 0 ∨ pn = 1 ∨ pn = 2 ∨ pn = 3 := by omega
                  · skip
                    go_wp2_with fail
                    rw [← held_eq 25]
                    have hp8 : q / 8 < sz := by omega
                    have hr8 : q % 8 < 8 := by omega
                    have hpx : q / 8 < ys.length := by rw [H.out.len, HXL.out]; exact hp8
                    have hpl : q / 8 < (ys ++ cz).length := by rw [List.length_append]; omega
                    obtain ⟨v, hv⟩ : ∃ v, v = ys[q / 8] := ⟨_, rfl⟩
                    have cp : wr.cell? ⟨g, q / 8, none⟩ = some (.int .u8 (v.toNat : Int)) := by rw [R.out.cell (q / 8) hpl, List.getElem_append_left hpx, hv]
                    have fp := R.out.frozen (q / 8)
                    obtain ⟨e8, he0, he⟩ := bit_of8 hr8
                    obtain ⟨u, hu⟩ : ∃ u, u = v ^^^ e8 := ⟨_, rfl⟩
                    have HU1 := Lib.hid (show bits .xor .u8 (v.toNat : Int) ((2 : Int) ^ (q % 8) % 256) = (u.toNat : Int) by rw [he, bits_xor_u8, hu])
                    have HT : Hid (Bst xs (ys.set (q / 8) u) f (k + 1) 3 true) := Lib.hid (by
                      have hq := HQ.out
                      have hpo := HPO.out
                      rw [hu, hv]
                      subst hq
                      have h1 := H.out.turn hpx he (by rw [hpo]; omega)
                      rw [hpo] at h1
                      exact h1)
                    have HS1 := Lib.hid (show (ys ++ cz).set (q / 8) u = ys.set (q / 8) u ++ cz from List.set_append_left _ _ hpx)
                    clear hv he hu hpx hpl he0
                    go_wp2_with fail
                    rw [HU1.out]
                    have R3 : Hid (RowAt (wr.setCell ⟨g, q / 8, none⟩ (.int .u8 (u.toNat : Int))) 5 g (ys.set (q / 8) u ++ cz)) := Lib.hid (by rw [← HS1.out]; exact R.out.set_ (q / 8) u)
                    have K3 := Lib.hid (K.out.far (p := ⟨g, q / 8, none⟩) (show w.heap.size ≠ g by omega) (.int .u8 (u.toNat : Int)))
                    have B3 := Lib.hid (B.out.setCell (p := ⟨g, q / 8, none⟩) (show w.heap.size ≤ g by omega) (.int .u8 (u.toNat : Int)))
                    clear cp fp R K B HS1 HU1 H
                    go_roundw
                    case rel => exact ⟨k + 1, 3, true, ys.set (q / 8) u, by omega, by go_num, rfl, rfl, by omega, HT, R3, K3, B3⟩
                    case measure => simp [intOf]; omega
                  · skip
                    go_wp2_with fail
                    go_roundw
                    case rel => exact ⟨k + 1, 1, tb, ys, by omega, by go_num, rfl, rfl, by omega, Lib.hid H.out.skip, R, K, B⟩
                    case measure => simp [intOf]; omega
                  · skip
                    go_wp2_with fail
                    go_roundw
                    case rel => exact ⟨k + 1, 2, tb, ys, by omega, by go_num, rfl, rfl, by omega, Lib.hid H.out.skip, R, K, B⟩
                    case measure => simp [intOf]; omega
                  · skip
                    go_wp2_with fail
                    rw [← held_eq 25]
                    have hp8 : q / 8 < sz := by omega
                    have hr8 : q % 8 < 8 := by omega
                    have hpx : q / 8 < ys.length := by rw [H.out.len, HXL.out]; exact hp8
                    have hpl : q / 8 < (ys ++ cz).length := by rw [List.length_append]; omega
                    obtain ⟨v, hv⟩ : ∃ v, v = ys[q / 8] := ⟨_, rfl⟩
                    have cp : wr.cell? ⟨g, q / 8, none⟩ = some (.int .u8 (v.toNat : Int)) := by rw [R.out.cell (q / 8) hpl, List.getElem_append_left hpx, hv]
                    have fp := R.out.frozen (q / 8)
                    obtain ⟨e8, he0, he⟩ := bit_of8 hr8
                    obtain ⟨u, hu⟩ : ∃ u, u = v ^^^ e8 := ⟨_, rfl⟩
                    have HU1 := Lib.hid (show bits .xor .u8 (v.toNat : Int) ((2 : Int) ^ (q % 8) % 256) = (u.toNat : Int) by rw [he, bits_xor_u8, hu])
                    have HT : Hid (Bst xs (ys.set (q / 8) u) f (k + 1) 3 true) := Lib.hid (by
                      have hq := HQ.out
                      have hpo := HPO.out
                      rw [hu, hv]
                      subst hq
                      have h1 := H.out.turn hpx he (by rw [hpo]; omega)
                      rw [hpo] at h1
                      exact h1)
                    have HS1 := Lib.hid (show (ys ++ cz).set (q / 8) u = ys.set (q / 8) u ++ cz from List.set_append_left _ _ hpx)
                    clear hv he hu hpx hpl he0
                    go_wp2_with fail
                    rw [HU1.out]
                    have R3 : Hid (RowAt (wr.setCell ⟨g, q / 8, none⟩ (.int .u8 (u.toNat : Int))) 5 g (ys.set (q / 8) u ++ cz)) := Lib.hid (by rw [← HS1.out]; exact R.out.set_ (q / 8) u)
                    have K3 := Lib.hid (K.out.far (p := ⟨g, q / 8, none⟩) (show w.heap.size ≠ g by omega) (.int .u8 (u.toNat : Int)))
                    have B3 := Lib.hid (B.out.setCell (p := ⟨g, q / 8, none⟩) (show w.heap.size ≤ g by omega) (.int .u8 (u.toNat : Int)))
                    clear cp fp R K B HS1 HU1 H
                    go_roundw
                    case rel => exact ⟨k + 1, 3, true, ys.set (q / 8) u, by omega, by go_num, rfl, rfl, by omega, HT, R3, K3, B3⟩
                    case measure => simp [intOf]; omega
                · skip
                  skip
                  have HPO : Hid (partOf q = 2) := Lib.hid (by unfold partOf; rw [if_neg (by omega), if_pos (by omega)])
                  go_wp2_with fail
                  rw [← held_eq 22]
                  obtain rfl | rfl | rfl | rfl : pn = 0 ∨ pn = 1 ∨ pn = 2 ∨ pn = 3 := by omega
                  · skip
                    go_wp2_with fail
                    rw [← held_eq 25]
                    have hp8 : q / 8 < sz := by omega
                    have hr8 : q % 8 < 8 := by omega
                    have hpx : q / 8 < ys.length := by rw [H.out.len, HXL.out]; exact hp8
                    have hpl : q / 8 < (ys ++ cz).length := by rw [List.length_append]; omega
                    obtain ⟨v, hv⟩ : ∃ v, v = ys[q / 8] := ⟨_, rfl⟩
                    have cp : wr.cell? ⟨g, q / 8, none⟩ = some (.int .u8 (v.toNat : Int)) := by rw [R.out.cell (q / 8) hpl, List.getElem_append_left hpx, hv]
                    have fp := R.out.frozen (q / 8)
                    obtain ⟨e8, he0, he⟩ := bit_of8 hr8
                    obtain ⟨u, hu⟩ : ∃ u, u = v ^^^ e8 := ⟨_, rfl⟩
                    have HU1 := Lib.hid (show bits .xor .u8 (v.toNat : Int) ((2 : Int) ^ (q % 8) % 256) = (u.toNat : Int) by rw [he, bits_xor_u8, hu])
                    have HT : Hid (Bst xs (ys.set (q / 8) u) f (k + 1) 2 true) := Lib.hid (by
                      have hq := HQ.out
                      have hpo := HPO.out
                      rw [hu, hv]
                      subst hq
                      have h1 := H.out.turn hpx he (by rw [hpo]; omega)
                      rw [hpo] at h1
                      exact h1)
                    have HS1 := Lib.hid (show (ys ++ cz).set (q / 8) u = ys.set (q / 8) u ++ cz from List.set_append_left _ _ hpx)
                    clear hv he hu hpx hpl he0
                    go_wp2_with fail
                    rw [HU1.out]
                    have R3 : Hid (RowAt (wr.setCell ⟨g, q / 8, none⟩ (.int .u8 (u.toNat : Int))) 5 g (ys.set (q / 8) u ++ cz)) := Lib.hid (by rw [← HS1.out]; exact R.out.set_ (q / 8) u)
                    have K3 := Lib.hid (K.out.far (p := ⟨g, q / 8, none⟩) (show w.heap.size ≠ g by omega) (.int .u8 (u.toNat : Int)))
                    have B3 := Lib.hid (B.out.setCell (p := ⟨g, q / 8, none⟩) (show w.heap.size ≤ g by omega) (.int .u8 (u.toNat : Int)))
                    clear cp fp R K B HS1 HU1 H
                    go_roundw
                    case rel => exact ⟨k + 1, 2, true, ys.set (q / 8) u, by omega, by go_num, rfl, rfl, by omega, HT, R3, K3, B3⟩
                    case measure => simp [intOf]; omega
                  · skip
                    go_wp2_with fail
                    go_roundw
                    case rel => exact ⟨k + 1, 1, tb, ys, by omega, by go_num, rfl, rfl, by omega, Lib.hid H.out.skip, R, K, B⟩
                    case measure => simp [intOf]; omega
                  · skip
                    go_wp2_with fail
                    rw [← held_eq 25]
                    have hp8 : q / 8 < sz := by omega
                    have hr8 : q % 8 < 8 := by omega
                    have hpx : q / 8 < ys.length := by rw [H.out.len, HXL.out]; exact hp8
                    have hpl : q / 8 < (ys ++ cz).length := by rw [List.length_append]; omega
                    obtain ⟨v, hv⟩ : ∃ v, v = ys[q / 8] := ⟨_, rfl⟩
                    have cp : wr.cell? ⟨g, q / 8, none⟩ = some (.int .u8 (v.toNat : Int)) := by rw [R.out.cell (q / 8) hpl, List.getElem_append_left hpx, hv]
                    have fp := R.out.frozen (q / 8)
                    obtain ⟨e8, he0, he⟩ := bit_of8 hr8
                    obtain ⟨u, hu⟩ : ∃ u, u = v ^^^ e8 := ⟨_, rfl⟩
                    have HU1 := Lib.hid (show bits .xor .u8 (v.toNat : Int) ((2 : Int) ^ (q % 8) % 256) = (u.toNat : Int) by rw [he, bits_xor_u8, hu])
                    have HT : Hid (Bst xs (ys.set (q / 8) u) f (k + 1) 2 true) := Lib.hid (by
                      have hq := HQ.out
                      have hpo := HPO.out
                      rw [hu, hv]
                      subst hq
                      have h1 := H.out.turn hpx he (by rw [hpo]; omega)
                      rw [hpo] at h1
                      exact h1)
                    have HS1 := Lib.hid (show (ys ++ cz).set (q / 8) u = ys.set (q / 8) u ++ cz from List.set_append_left _ _ hpx)
                    clear hv he hu hpx hpl he0
                    go_wp2_with fail
                    rw [HU1.out]
                    have R3 : Hid (RowAt (wr.setCell ⟨g, q / 8, none⟩ (.int .u8 (u.toNat : Int))) 5 g (ys.set (q / 8) u ++ cz)) := Lib.hid (by rw [← HS1.out]; exact R.out.set_ (q / 8) u)
                    have K3 := Lib.hid (K.out.far (p := ⟨g, q / 8, none⟩) (show w.heap.size ≠ g by omega) (.int .u8 (u.toNat : Int)))
                    have B3 := Lib.hid (B.out.setCell (p := ⟨g, q / 8, none⟩) (show w.heap.size ≤ g by omega) (.int .u8 (u.toNat : Int)))
                    clear cp fp R K B HS1 HU1 H
                    go_roundw
                    case rel => exact ⟨k + 1, 2, true, ys.set (q / 8) u, by omega, by go_num, rfl, rfl, by omega, HT, R3, K3, B3⟩
                    case measure => simp [intOf]; omega
                  · skip
                    go_wp2_with fail
                    go_roundw
                    case rel => exact ⟨k + 1, 3, tb, ys, by omega, by go_num, rfl, rfl, by omega, Lib.hid H.out.skip, R, K, B⟩
                    case measure => simp [intOf]; omega
              · skip
                have h96 : ¬ 96 ≤ q := by omega
                have HPO : Hid (partOf q = 1) := Lib.hid (by unfold partOf; rw [if_pos (by omega)])
                go_wp2_with fail
                rw [← held_eq 22]
                obtain rfl | rfl | rfl | rfl : pn = 0 ∨ pn = 1 ∨ pn = 2 ∨ pn = 3 := by omega
                · skip
                  go_wp2_with fail
                  rw [← held_eq 25]
                  have hp8 : q / 8 < sz := by omega
                  have hr8 : q % 8 < 8 := by omega
                  have hpx : q / 8 < ys.length := by rw [H.out.len, HXL.out]; exact hp8
                  have hpl : q / 8 < (ys ++ cz).length := by rw [List.length_append]; omega
                  obtain ⟨v, hv⟩ : ∃ v, v = ys[q / 8] := ⟨_, rfl⟩
                  have cp : wr.cell? ⟨g, q / 8, none⟩ = some (.int .u8 (v.toNat : Int)) := by rw [R.out.cell (q / 8) hpl, List.getElem_append_left hpx, hv]
                  have fp := R.out.frozen (q / 8)
                  obtain ⟨e8, he0, he⟩ := bit_of8 hr8
                  obtain ⟨u, hu⟩ : ∃ u, u = v ^^^ e8 := ⟨_, rfl⟩
                  have HU1 := Lib.hid (show bits .xor .u8 (v.toNat : Int) ((2 : Int) ^ (q % 8) % 256) = (u.toNat : Int) by rw [he, bits_xor_u8, hu])
                  have HT : Hid (Bst xs (ys.set (q / 8) u) f (k + 1) 1 true) := Lib.hid (by
                    have hq := HQ.out
                    have hpo := HPO.out
                    rw [hu, hv]
                    subst hq
                    have h1 := H.out.turn hpx he (by rw [hpo]; omega)
                    rw [hpo] at h1
                    exact h1)
                  have HS1 := Lib.hid (show (ys ++ cz).set (q / 8) u = ys.set (q / 8) u ++ cz from List.set_append_left _ _ hpx)
                  clear hv he hu hpx hpl he0
                  go_wp2_with fail
                  rw [HU1.out]
                  have R3 : Hid (RowAt (wr.setCell ⟨g, q / 8, none⟩ (.int .u8 (u.toNat : Int))) 5 g (ys.set (q / 8) u ++ cz)) := Lib.hid (by rw [← HS1.out]; exact R.out.set_ (q / 8) u)
                  have K3 := Lib.hid (K.out.far (p := ⟨g, q / 8, none⟩) (show w.heap.size ≠ g by omega) (.int .u8 (u.toNat : Int)))
                  have B3 := Lib.hid (B.out.setCell (p := ⟨g, q / 8, none⟩) (show w.heap.size ≤ g by omega) (.int .u8 (u.toNat : Int)))
                  clear cp fp R K B HS1 HU1 H
                  go_roundw
                  case rel => exact ⟨k + 1, 1, true, ys.set (q / 8) u, by omega, by go_num, rfl, rfl, by omega, HT, R3, K3, B3⟩
                  case measure => simp [intOf]; omega
                · skip
                  go_wp2_with fail
                  rw [← held_eq 25]
                  have hp8 : q / 8 < sz := by omega
                  have hr8 : q % 8 < 8 := by omega
                  have hpx : q / 8 < ys.length := by rw [H.out.len, HXL.out]; exact hp8
                  have hpl : q / 8 < (ys ++ cz).length := by rw [List.length_append]; omega
                  obtain ⟨v, hv⟩ : ∃ v, v = ys[q / 8] := ⟨_, rfl⟩
                  have cp : wr.cell? ⟨g, q / 8, none⟩ = some (.int .u8 (v.toNat : Int)) := by rw [R.out.cell (q / 8) hpl, List.getElem_append_left hpx, hv]
                  have fp := R.out.frozen (q / 8)
                  obtain ⟨e8, he0, he⟩ := bit_of8 hr8
                  obtain ⟨u, hu⟩ : ∃ u, u = v ^^^ e8 := ⟨_, rfl⟩
                  have HU1 := Lib.hid (show bits .xor .u8 (v.toNat : Int) ((2 : Int) ^ (q % 8) % 256) = (u.toNat : Int) by rw [he, bits_xor_u8, hu])
                  have HT : Hid (Bst xs (ys.set (q / 8) u) f (k + 1) 1 true) := Lib.hid (by
                    have hq := HQ.out
                    have hpo := HPO.out
                    rw [hu, hv]
                    subst hq
                    have h1 := H.out.turn hpx he (by rw [hpo]; omega)
                    rw [hpo] at h1
                    exact h1)
                  have HS1 := Lib.hid (show (ys ++ cz).set (q / 8) u = ys.set (q / 8) u ++ cz from List.set_append_left _ _ hpx)
                  clear hv he hu hpx hpl he0
                  go_wp2_with fail
                  rw [HU1.out]
                  have R3 : Hid (RowAt (wr.setCell ⟨g, q / 8, none⟩ (.int .u8 (u.toNat : Int))) 5 g (ys.set (q / 8) u ++ cz)) := Lib.hid (by rw [← HS1.out]; exact R.out.set_ (q / 8) u)
                  have K3 := Lib.hid (K.out.far (p := ⟨g, q / 8, none⟩) (show w.heap.size ≠ g by omega) (.int .u8 (u.toNat : Int)))
                  have B3 := Lib.hid (B.out.setCell (p := ⟨g, q / 8, none⟩) (show w.heap.size ≤ g by omega) (.int .u8 (u.toNat : Int)))
                  clear cp fp R K B HS1 HU1 H
                  go_roundw
                  case rel => exact ⟨k + 1, 1, true, ys.set (q / 8) u, by omega, by go_num, rfl, rfl, by omega, HT, R3, K3, B3⟩
                  case measure => simp [intOf]; omega
                · skip
                  go_wp2_with fail
                  go_roundw
                  case rel => exact ⟨k + 1, 2, tb, ys, by omega, by go_num, rfl, rfl, by omega, Lib.hid H.out.skip, R, K, B⟩
                  case measure => simp [intOf]; omega
                · skip
                  go_wp2_with fail
                  go_roundw
                  case rel => exact ⟨k + 1, 3, tb, ys, by omega, by go_num, rfl, rfl, by omega, Lib.hid H.out.skip, R, K, B⟩
                  case measure => simp [intOf]; omega
            · skip
              go_wp2_with fail
              go_roundw
              case rel => exact ⟨k + 1, pn, tb, ys, by omega, by go_num, rfl, rfl, hpn, Lib.hid H.out.skip, R, K, B⟩
              case measure => simp [intOf]; omega
          · skip
            obtain rfl : k = 32 := by omega
            have HYL : Hid (ys.length = sz) := Lib.hid (by rw [H.out.len, HXL.out])
            have HRE := H.out.end_ HRD2.out
            have hcz := HCZ.out
            have HR : Hid (Calls Try.prog 22 #[.slice (some ⟨g, 0, none⟩) sz c2] wr fun e w' => RdR wr.heap.size (rdP ys) e w' ∧ Below wr.heap.size wr w') := Lib.hid (readP_any (some ⟨g, 0, none⟩) sz c2 ys wr (by omega) (by omega) HCM.out HYL.out (R.out.rd 0 ys (fun j hj => by rw [Nat.zero_add, List.getElem?_append_left hj])))
            clear H R K hcz
            cases tb with
            | true =>
              rw [if_pos rfl] at HRE
              rw [HRE] at HR
              clear HRE
              go_wp2_with fail
              refine HR.out.mono ?_
              rintro e w3 ⟨rfl, hb⟩
              have hbb := below_then B.out (Nat.le_refl _) hb
              have BR := Lib.hid (hbb.alloc hbb.size (.cells #[.int .u32 0, .slice none 0 0] 25))
              clear hb hbb HR
              rw [noPkt]
              go_wp2_with fail
              generalize w3.alloc (.cells #[.int .u32 0, .slice none 0 0] 25) = wq at BR ⊢
              refine (works_any wq).mono ?_
              rintro e wz ⟨rfl, hb⟩
              go_wp2_with fail
              go_ret
              exact ⟨rfl, below_then BR.out (Nat.le_refl _) hb⟩
            | false =>
              rw [if_neg (by decide)] at HRE
              rw [HRE] at HR
              clear HRE
              go_wp2_with fail
              refine HR.out.mono ?_
              rintro e w3 ⟨⟨A3, c3, es, rfl, hoc, hes⟩, hb⟩
              have hbb := below_then B.out (Nat.le_refl _) hb
              have BR := Lib.hid (hbb.alloc hbb.size (.cells #[.int .u32 (tag : Int), .slice A3 es.length c3] 25))
              clear hb hbb HR hoc hes
              go_wp2_with fail
              generalize w3.alloc (.cells #[.int .u32 (tag : Int), .slice A3 es.length c3] 25) = wq at BR ⊢
              refine (works_any wq).mono ?_
              rintro e wz ⟨rfl, hb⟩
              go_wp2_with fail
              go_ret
              exact ⟨rfl, below_then BR.out (Nat.le_refl _) hb⟩
end Go.Proofs.Ytifmhlbeodfpeaa
