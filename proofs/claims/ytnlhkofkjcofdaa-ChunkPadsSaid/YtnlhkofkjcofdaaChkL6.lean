/-
  ChunkPads, walked.
-/
import Derived.Test.YtnlhkofkjcofdaaChkF
import Derived.Test.YtnlhkofkjcofdaaNums
import Derived.Test.YtnlhkofkjcofdaaGrowT
namespace Go.Proofs.Ytnlhkofkjcofdaa
open Go.RowKit
set_option linter.unusedVariables false

section
variable {k f v : UInt8} {xs : List UInt8} {j : Nat}
theorem get_set_wrt (h : xs.length ≤ 65531) (i : Nat) (hj : j < (wrt k f xs).length) : ((wrt k f xs).set j v)[i]? = if j = i then some v else (wrt k f xs)[i]? := by
  rw [List.getElem?_set]
  by_cases h' : j = i
  · rw [if_pos h', if_pos h', if_pos (by omega)]
  · rw [if_neg h', if_neg h']
theorem clen_set (h : xs.length ≤ 65531) (hj : j < (wrt k f xs).length) (h2 : j ≠ 2) (h3 : j ≠ 3) : clen ((wrt k f xs).set j v) = 4 + xs.length := by
  have hg := get_wrt (k := k) (f := f) (more := []) h
  rw [List.append_nil] at hg
  exact clen_of (by omega) (by rw [get_set_wrt h _ hj, if_neg h2]; exact hg.2.2.1) (by rw [get_set_wrt h _ hj, if_neg h3]; exact hg.2.2.2)
theorem pad_wrt (h : xs.length ≤ 65531) {i : Nat} (h1 : 4 + xs.length ≤ i) (h2 : i < up4 (4 + xs.length)) : (wrt k f xs)[i]? = some 0 := by
  obtain ⟨q, rfl⟩ := Nat.exists_eq_add_of_le (show 4 ≤ i by omega)
  rw [get_wrt4 h, if_neg (by omega), if_pos (by omega)]
theorem fits_set (h : xs.length ≤ 65531) (hj : j < (wrt k f xs).length) (h2 : j ≠ 2) (h3 : j ≠ 3) (hv : j < 4 + xs.length ∨ v = 0) : Fits ((wrt k f xs).set j v) := by
  have hc := clen_set (v := v) h hj h2 h3
  have hu := up4_bd (4 + xs.length)
  have hl := length_wrt (k := k) (f := f) h
  refine ⟨by rw [List.length_set]; omega, by omega, by rw [hc, List.length_set]; omega, fun i h4 h5 => ?_⟩
  rw [hc] at h4 h5
  rw [get_set_wrt h _ hj]
  by_cases hi : j = i
  · rw [if_pos hi]
    rcases hv with hv | hv
    · omega
    · rw [hv]
  · rw [if_neg hi]
    exact pad_wrt h h4 h5
theorem fits_set_not (h : xs.length ≤ 65531) (hj : j < (wrt k f xs).length) (h4 : 4 + xs.length ≤ j) (hv : v ≠ 0) : ¬ Fits ((wrt k f xs).set j v) := by
  intro hf
  have hc := clen_set (v := v) h hj (by omega) (by omega)
  have hl := length_wrt (k := k) (f := f) h
  have h1 := hf.pad j (by omega) (by rw [hc]; omega)
  rw [get_set_wrt h _ hj, if_pos rfl] at h1
  exact hv (Option.some.inj h1)
theorem kind_set (h : xs.length ≤ 65531) (hj : 0 < (wrt k f xs).length) : kind ((wrt k f xs).set 0 v) = v := by
  rw [kind, get_set_wrt h _ hj, if_pos rfl]; rfl
theorem flag_set (h : xs.length ≤ 65531) (hj : 1 < (wrt k f xs).length) : flag ((wrt k f xs).set 1 v) = v := by
  rw [flag, get_set_wrt h _ hj, if_pos rfl]; rfl
theorem body_set (h : xs.length ≤ 65531) {i : Nat} (hi : i < xs.length) (hj : 4 + i < (wrt k f xs).length) : (body ((wrt k f xs).set (4 + i) v))[i]? = some v := by
  rw [get_body, clen_set h hj (by omega) (by omega), if_pos (by omega), get_set_wrt h _ hj, if_pos rfl]
end

set_option maxHeartbeats 2000000 in
theorem chunkPads_big (k f v : UInt8) (A : Option Addr) (n c : Nat) (a : Int) (w : World) (h : 65531 < n) :
    Calls Try.prog 8 #[.agg #[.int .u8 (k.toNat : Int), .int .u8 (f.toNat : Int), .slice A n c], .int .u16 a, .int .u8 (v.toNat : Int)] w fun e w' => e = .returned (.bool true) ∧ Below w.heap.size w w' := by
  have B0 := Lib.hid (below_new w (.cells #[.int .u8 (k.toNat : Int), .int .u8 (f.toNat : Int), .slice A n c] 24))
  have K0 := Lib.hid (Blk.new w 24 #[.int .u8 (k.toNat : Int), .int .u8 (f.toNat : Int), .slice A n c])
  go_enter Try.func8, Try.ntmps8
  go_wp2_with fail
  refine (write_big k f A n c _ h).mono ?_
  rintro e w1 ⟨rfl, hb1⟩
  have B1 := Lib.hid (below_then B0.out (Nat.le_refl _) hb1)
  have K1 := Lib.hid (K0.out.below hb1 K0.out.lt)
  have k0 : w1.cell? ⟨w.heap.size, 0, none⟩ = some (.int .u8 (k.toNat : Int)) := K1.out.cell 0
  have k1 : w1.cell? ⟨w.heap.size, 1, none⟩ = some (.int .u8 (f.toNat : Int)) := K1.out.cell 1
  have k2 : w1.cell? ⟨w.heap.size, 2, none⟩ = some (.slice A n c) := K1.out.cell 2
  clear hb1
  by_cases hl : 131072 < n
  · go_wp2_with fail
    refine (large_yes _ _ A n c w1 hl).mono ?_
    rintro e w2 ⟨rfl, hb2⟩
    have B2 := Lib.hid (below_then B1.out (Nat.le_refl _) hb2)
    clear hb2
    go_wp2_with fail
    refine (works_any _).mono ?_
    rintro e w3 ⟨rfl, hb⟩
    go_wp2_with fail
    go_ret
    exact ⟨rfl, below_then B2.out (Nat.le_refl _) hb⟩
  · go_wp2_with fail
    refine (large_no _ _ A n c w1 (by omega)).mono ?_
    rintro e w2 ⟨rfl, hb2⟩
    have B2 := Lib.hid (below_then B1.out (Nat.le_refl _) hb2)
    clear hb2
    go_wp2_with fail
    refine (works_any _).mono ?_
    rintro e w3 ⟨rfl, hb⟩
    go_wp2_with fail
    go_ret
    exact ⟨rfl, below_then B2.out (Nat.le_refl _) hb⟩

set_option maxRecDepth 100000 in
set_option maxHeartbeats 6000000 in
theorem chunkPads_small (k f v : UInt8) (A : Option Addr) (n c : Nat) (xs : List UInt8) (a : Nat) (w : World) (ha : a < 65536) (h : n ≤ 65531) (hx : xs.length = n) (hr : Rd w w.heap.size A xs) :
    Calls Try.prog 8 #[.agg #[.int .u8 (k.toNat : Int), .int .u8 (f.toNat : Int), .slice A n c], .int .u16 a, .int .u8 (v.toNat : Int)] w fun e w' => e = .returned (.bool true) ∧ Below w.heap.size w w' := by
  obtain ⟨M, hM⟩ : ∃ M, M = (wrt k f xs).length := ⟨_, rfl⟩
  have hMU : M = up4 (4 + n) := by rw [hM, length_wrt (by omega), hx]
  have hMb := up4_bd (4 + n)
  rw [← hMU] at hMb
  obtain ⟨j, hj⟩ : ∃ j, j = a % M := ⟨_, rfl⟩
  have hjM : j < M := by rw [hj]; exact Nat.mod_lt _ (by omega)
  have hj1 : (a : Int) % (M : Int) = (j : Int) := by rw [hj]; omega
  have hj2 : (a : Int).tmod (M : Int) = (j : Int) := by rw [Int.tmod_eq_emod_of_nonneg (by omega)]; exact hj1
  have HM := Lib.hid hM
  have HMU := Lib.hid hMU
  have B0 := Lib.hid (below_new w (.cells #[.int .u8 (k.toNat : Int), .int .u8 (f.toNat : Int), .slice A n c] 24))
  have K0 := Lib.hid (Blk.new w 24 #[.int .u8 (k.toNat : Int), .int .u8 (f.toNat : Int), .slice A n c])
  have HX := Lib.hid hx
  have HR := Lib.hid hr
  have hz := zero_chunk
  clear hx hr hM hMU hj
  go_enter Try.func8, Try.ntmps8
  go_wp2_with fail
  refine (write_any k f A n c xs _ HX.out ((HR.out.below B0.out).more B0.out.size)).mono ?_
  rintro e w1 ⟨A1, m1, c1, rfl, ho1, hb1⟩
  have hm1 : m1 = M := by rw [HM.out, ho1.len]
  subst hm1
  have O1 := Lib.hid ho1
  have B1 := Lib.hid (below_then B0.out (Nat.le_refl _) hb1)
  have K1 := Lib.hid (K0.out.below hb1 K0.out.lt)
  have k0 : w1.cell? ⟨w.heap.size, 0, none⟩ = some (.int .u8 (k.toNat : Int)) := K1.out.cell 0
  have k1 : w1.cell? ⟨w.heap.size, 1, none⟩ = some (.int .u8 (f.toNat : Int)) := K1.out.cell 1
  have k2 : w1.cell? ⟨w.heap.size, 2, none⟩ = some (.slice A n c) := K1.out.cell 2
  clear ho1 hb1
  go_wp2_with fail
  refine (large_no _ _ A n c w1 (by omega)).mono ?_
  rintro e w2 ⟨rfl, hb2⟩
  have B2 := Lib.hid (below_then B1.out (Nat.le_refl _) hb2)
  have K2 := Lib.hid (K1.out.below hb2 K1.out.lt)
  have O2 := O1.out.below hb2 (Nat.le_refl _)
  clear hb2 k0 k1 k2 K1 O1
  have hMpos : 0 < m1 := by omega
  obtain ⟨g, zs, rfl, hbg, hrow, hnc, hcm⟩ : ∃ g zs, A1 = some ⟨g, 0, none⟩ ∧ w.heap.size ≤ g ∧ RowAt w2 5 g (wrt k f xs ++ zs) ∧ m1 + zs.length = c1 ∧ c1 ≤ maxLen := by
    rcases O2.2 with ⟨_, h0, _⟩ | ⟨g, zs, h1, h2, h3, h4, h5⟩
    · omega
    · exact ⟨g, zs, h1, by have := B0.out.size; omega, h3, h4, h5⟩
  obtain ⟨x0, hcell⟩ : ∃ x0 : UInt8, w2.cell? ⟨g, j, none⟩ = some (.int .u8 (x0.toNat : Int)) := ⟨_, hrow.cell j (by rw [List.length_append, ← HM.out]; omega)⟩
  have hfr := hrow.frozen j
  have hnek := hrow.ne_blk K2.out (by decide)
  have ROW3 : Hid (RowAt (w2.setCell ⟨g, j, none⟩ (.int .u8 (v.toNat : Int))) 5 g ((wrt k f xs).set j v ++ zs)) := Lib.hid (by
    have := hrow.set_ j v
    rwa [List.set_append_left _ _ (by rw [← HM.out]; exact hjM)] at this)
  have B3 : Hid (Below w.heap.size w (w2.setCell ⟨g, j, none⟩ (.int .u8 (v.toNat : Int)))) := Lib.hid (B2.out.setCell (p := ⟨g, j, none⟩) hbg _)
  have K3 : Hid (Blk (w2.setCell ⟨g, j, none⟩ (.int .u8 (v.toNat : Int))) w.heap.size 24 #[.int .u8 (k.toNat : Int), .int .u8 (f.toNat : Int), .slice A n c]) := Lib.hid (K2.out.far (p := ⟨g, j, none⟩) (by simpa using hnek.symm) _)
  have HCM := Lib.hid hcm
  have RD3 : Hid (Rd (w2.setCell ⟨g, j, none⟩ (.int .u8 (v.toNat : Int))) (w2.setCell ⟨g, j, none⟩ (.int .u8 (v.toNat : Int))).heap.size (some ⟨g, 0, none⟩) ((wrt k f xs).set j v)) := Lib.hid (ROW3.out.rd 0 _ (fun i hi => by rw [Nat.zero_add, List.getElem?_append_left hi]))
  have HNC : m1 ≤ c1 := by omega
  clear O2 hrow hnc hcm hnek
  by_cases h2 : j = 2
  · subst h2
    go_wp2_with fail
    refine (works_any _).mono ?_
    rintro e w3 ⟨rfl, hb⟩
    go_wp2_with fail
    go_ret
    exact ⟨rfl, below_then B2.out (Nat.le_refl _) hb⟩
  by_cases h3 : j = 3
  · subst h3
    go_wp2_with fail
    refine (works_any _).mono ?_
    rintro e w3 ⟨rfl, hb⟩
    go_wp2_with fail
    go_ret
    exact ⟨rfl, below_then B2.out (Nat.le_refl _) hb⟩
  have hb2' : ((j : Int) == 2) = false := by rw [beq_eq_false_iff_ne]; omega
  have hb3' : ((j : Int) == 3) = false := by rw [beq_eq_false_iff_ne]; omega
  have H2 := Lib.hid h2
  have H3 := Lib.hid h3
  clear h2 h3
  have hnn : n ≤ 140737488355300 := by omega
  go_wp2_with fail
  generalize w2.setCell ⟨g, j, none⟩ (.int .u8 (v.toNat : Int)) = w3 at ROW3 B3 K3 RD3 ⊢
  clear hcell hfr
  have HXL : Hid (xs.length ≤ 65531) := Lib.hid (by have := HX.out; omega)
  have HJM : Hid (j < (wrt k f xs).length) := Lib.hid (by rw [← HM.out]; exact hjM)
  have HSL : Hid (((wrt k f xs).set j v).length = m1) := Lib.hid (by rw [List.length_set, ← HM.out])
  have HCL : Hid (clen ((wrt k f xs).set j v) = 4 + n) := Lib.hid (by rw [clen_set HXL.out HJM.out H2.out H3.out, HX.out])
  have b2 : w3.cell? ⟨w.heap.size, 2, none⟩ = some (.slice A n c) := K3.out.cell 2
  by_cases hp : 4 + n ≤ j ∧ v ≠ 0
  · obtain ⟨hp, hv⟩ := hp
    have hvb : ((v.toNat : Int) == 0) = false := by
      rw [beq_eq_false_iff_ne]
      intro h0
      exact hv (UInt8.toNat_inj.1 (by simpa using h0))
    have RN := Lib.hid (read_no (some ⟨g, 0, none⟩) m1 c1 _ w3 (by omega) HNC HCM.out HSL.out RD3.out (fits_set_not HXL.out HJM.out (by rw [HX.out]; exact hp) hv))
    clear hv
    refine RN.out.mono ?_
    rintro e w4 ⟨rfl, hb4⟩
    have B4 := Lib.hid ((below_then B3.out (Nat.le_refl _) hb4).alloc (Nat.le_trans B3.out.size hb4.size) (.cells #[.int .u8 0, .int .u8 0, .slice none 0 0] 24))
    have K4 := Lib.hid ((K3.out.below hb4 K3.out.lt).alloc (.cells #[.int .u8 0, .int .u8 0, .slice none 0 0] 24))
    have k2 : (w4.alloc (.cells #[.int .u8 0, .int .u8 0, .slice none 0 0] 24)).cell? ⟨w.heap.size, 2, none⟩ = some (.slice A n c) := K4.out.cell 2
    clear hb4 RN b2
    rw [noChunk]
    go_wp2_with fail
    refine (works_any _).mono ?_
    rintro e w5 ⟨rfl, hb⟩
    go_wp2_with fail
    go_ret
    exact ⟨rfl, below_then B4.out (Nat.le_refl _) hb⟩
  · have hfit : Fits ((wrt k f xs).set j v) := fits_set HXL.out HJM.out H2.out H3.out (by
      rw [HX.out]
      by_cases h4 : j < 4 + n
      · exact .inl h4
      · exact .inr (Classical.byContradiction fun hv => hp ⟨by omega, hv⟩))
    obtain ⟨kk, hkk⟩ : ∃ kk, kk = kind ((wrt k f xs).set j v) := ⟨_, rfl⟩
    obtain ⟨ff, hff⟩ : ∃ ff, ff = flag ((wrt k f xs).set j v) := ⟨_, rfl⟩
    have RY : Hid (Calls Try.prog 18 #[.slice (some ⟨g, 0, none⟩) m1 c1] w3 fun e w' => ∃ A2 c2, e = .returned (.tuple #[.agg #[.int .u8 (kk.toNat : Int), .int .u8 (ff.toNat : Int), .slice A2 n c2], .int .i64 m1, .int .i64 0]) ∧ Own8 w' 5 w3.heap.size A2 n c2 (body ((wrt k f xs).set j v)) ∧ Below w3.heap.size w3 w') := Lib.hid (by
      have h := read_yes (some ⟨g, 0, none⟩) m1 c1 _ w3 (by omega) HNC HCM.out HSL.out RD3.out hfit
      rw [HCL.out, ← hkk, ← hff, ← HMU.out, Nat.add_sub_cancel_left] at h
      exact h)
    have HKK := Lib.hid hkk
    have HFF := Lib.hid hff
    have HP := Lib.hid hp
    clear hkk hff hfit hp
    refine RY.out.mono ?_
    rintro e w4 ⟨A4, c4, rfl, ho4, hb4⟩
    have B4 := Lib.hid ((below_then B3.out (Nat.le_refl _) hb4).alloc (Nat.le_trans B3.out.size hb4.size) (.cells #[.int .u8 (kk.toNat : Int), .int .u8 (ff.toNat : Int), .slice A4 n c4] 24))
    have K4 := Lib.hid ((K3.out.below hb4 K3.out.lt).alloc (.cells #[.int .u8 (kk.toNat : Int), .int .u8 (ff.toNat : Int), .slice A4 n c4] 24))
    have D4 := Lib.hid (Blk.new w4 24 #[.int .u8 (kk.toNat : Int), .int .u8 (ff.toNat : Int), .slice A4 n c4])
    have O4 := Lib.hid (ho4.alloc (.cells #[.int .u8 (kk.toNat : Int), .int .u8 (ff.toNat : Int), .slice A4 n c4] 24))
    have k2 : (w4.alloc (.cells #[.int .u8 (kk.toNat : Int), .int .u8 (ff.toNat : Int), .slice A4 n c4] 24)).cell? ⟨w.heap.size, 2, none⟩ = some (.slice A n c) := K4.out.cell 2
    clear ho4 hb4 RY b2
    by_cases h4 : 4 + n ≤ j
    · have hv : v = 0 := Classical.byContradiction fun hv => HP.out ⟨h4, hv⟩
      subst hv
      go_wp2_with fail
      refine (works_any _).mono ?_
      rintro e w5 ⟨rfl, hb⟩
      go_wp2_with fail
      go_ret
      exact ⟨rfl, below_then B4.out (Nat.le_refl _) hb⟩
    · rcases (show j = 0 ∨ j = 1 ∨ (∃ i, j = 4 + i ∧ i < n) by
        have := H2.out
        have := H3.out
        by_cases h0 : j = 0
        · exact .inl h0
        · by_cases h1 : j = 1
          · exact .inr (.inl h1)
          · exact .inr (.inr ⟨j - 4, by omega, by omega⟩)) with h0 | h0 | ⟨i, h0, hi⟩
      · have hk : kk = v := by rw [HKK.out, h0]; exact kind_set HXL.out (by rw [← HM.out]; omega)
        subst hk
        subst h0
        go_wp2_with fail
        refine (works_any _).mono ?_
        rintro e w5 ⟨rfl, hb⟩
        go_wp2_with fail
        go_ret
        exact ⟨rfl, below_then B4.out (Nat.le_refl _) hb⟩
      · have hk : ff = v := by rw [HFF.out, h0]; exact flag_set HXL.out (by rw [← HM.out]; omega)
        subst hk
        subst h0
        go_wp2_with fail
        refine (works_any _).mono ?_
        rintro e w5 ⟨rfl, hb⟩
        go_wp2_with fail
        go_ret
        exact ⟨rfl, below_then B4.out (Nat.le_refl _) hb⟩
      · subst h0
        have hbs := body_set (k := k) (f := f) (v := v) HXL.out (i := i) (by rw [HX.out]; exact hi) (by rw [← HM.out]; exact hjM)
        obtain ⟨b, o, rfl, hbl, hcx⟩ := O4.out.rd.at_ (by intro h; rw [h] at hbs; simp at hbs)
        have hbd : (w4.alloc (.cells #[.int .u8 (kk.toNat : Int), .int .u8 (ff.toNat : Int), .slice (some ⟨b, o, none⟩) n c4] 24)).cell? ⟨b, o + i, none⟩ = some (.int .u8 (v.toNat : Int)) := by
          have hlt : i < (body ((wrt k f xs).set (4 + i) v)).length := (List.getElem?_eq_some_iff.1 hbs).1
          rw [hcx i hlt, (List.getElem?_eq_some_iff.1 hbs).2]
        have hn0 : (((4 + i : Nat) : Int) != 0) = true := by rw [bne_iff_ne]; omega
        have hn1 : (((4 + i : Nat) : Int) != 1) = true := by rw [bne_iff_ne]; omega
        clear hcx hbl hbs
        go_wp2_with fail
        refine (works_any _).mono ?_
        rintro e w5 ⟨rfl, hb⟩
        go_wp2_with fail
        go_ret
        exact ⟨rfl, below_then B4.out (Nat.le_refl _) hb⟩

theorem chunkPads_walk (a b : Int) (A : Option Addr) (n c : Nat) (xs : List UInt8) (at_ v : Int) (w : World) (ha : (Lit.int .u8 a).wf = true) (hb : (Lit.int .u8 b).wf = true) (hc : n ≤ c) (hcm : c ≤ maxLen) (hx : xs.length = n) (hr : Rd w w.heap.size A xs) (hat : (Lit.int .u16 at_).wf = true) (hv : (Lit.int .u8 v).wf = true) :
    Calls Try.prog 8 #[.agg #[.int .u8 a, .int .u8 b, .slice A n c], .int .u16 at_, .int .u8 v] w fun e w' => e = .returned (.bool true) ∧ Below w.heap.size w w' := by
  obtain ⟨k, rfl⟩ := byte_of ha
  obtain ⟨f, rfl⟩ := byte_of hb
  obtain ⟨v, rfl⟩ := byte_of hv
  by_cases h : 65531 < n
  · exact chunkPads_big k f v A n c at_ w h
  · obtain ⟨a, rfl, ha⟩ := nat_of_u16 hat
    exact chunkPads_small k f v A n c xs a w ha (by omega) hx hr
end Go.Proofs.Ytnlhkofkjcofdaa
