/-
  The reference of layer 6: Sum.
-/
import Derived.Test.YtnnkgdkjmmljiaaDoorQ15
namespace Go.Proofs.YtnnkgdkjmmljiaaDoor
open Go.RowKit
set_option linter.unusedVariables false
set_option maxRecDepth 100000

/-- A row, copied one by one. -/
def cpl (hs : List R) : Nat → List R
  | 0 => List.replicate 8 0
  | k + 1 => (cpl hs k).set k (at_ hs k)
theorem length_cpl (hs : List R) (k : Nat) : (cpl hs k).length = 8 := by
  induction k with
  | zero => rfl
  | succ k ih => rw [cpl, List.length_set, ih]
theorem cpl_end {hs : List R} (h : hs.length = 8) : cpl hs 8 = hs := by
  obtain ⟨a, b, c, d, e, f, g, i, rfl⟩ := eight h
  rfl
/-- A row, moved on by one, d of its places done. -/
def shf (L : List R) : Nat → List R
  | 0 => L
  | d + 1 => (shf L d).set (7 - d) (at_ (shf L d) (6 - d))
theorem length_shf (L : List R) (d : Nat) : (shf L d).length = L.length := by
  induction d with
  | zero => rfl
  | succ d ih => rw [shf, List.length_set, ih]
theorem shf_end (a b c d e f g h k w : R) : ((shf [a, b, c, d, e, f, g, h] 7).set 4 (at_ (shf [a, b, c, d, e, f, g, h] 7) 4 + (h + up1 e + chs e f g + k + w))).set 0 ((h + up1 e + chs e f g + k + w) + (up0 a + maj a b c)) = rnd k w [a, b, c, d, e, f, g, h] := rfl

theorem add4_u32 (a b c d : R) : ((a.toNat : Int) + (b.toNat : Int) + (c.toNat : Int) + (d.toNat : Int)) % 4294967296 = ((a + b + c + d).toNat : Int) := by
  simp only [BitVec.toNat_add, show (2 : Nat) ^ 32 = 4294967296 from rfl]
  omega

set_option maxHeartbeats 8000000 in
theorem refSum_any (A : Option Addr) (n c : Nat) (xs : List UInt8) (w : World) (hn : n ≤ 1048576) (hx : xs.length = n) (hr : Rd w w.heap.size A xs) :
    Calls Tryd.prog 38 #[.slice A n c] w fun e w' => e = .returned (.agg (row8 (dig xs))) ∧ Below w.heap.size w w' := by
  have HX := Lib.hid hx
  obtain ⟨S, hS⟩ : ∃ S, S = dig xs := ⟨_, rfl⟩
  have HS := Lib.hid hS
  rw [← hS]
  obtain ⟨T, hT⟩ : ∃ T, T = xs ++ pad n := ⟨_, rfl⟩
  have HT := Lib.hid hT
  obtain ⟨J, hJ⟩ : ∃ J, T.length = 64 * J := ⟨T.length / 64, by have := length_padded xs; rw [hx, ← hT] at this; omega⟩
  have HJ := Lib.hid hJ
  have hJ9 : J ≤ 16400 := by
    have h1 : T.length = n + (zer n + 9) := by rw [hT, List.length_append, length_pad, hx]
    have := zer_lt n
    omega
  clear hx hS hT hJ
  have hw0 : Blk (w.alloc (.cells #[.int .u8 0, .int .u8 0, .int .u8 0, .int .u8 0, .int .u8 0, .int .u8 0, .int .u8 0, .int .u8 0, .int .u8 0, .int .u8 0, .int .u8 0, .int .u8 0, .int .u8 0, .int .u8 0, .int .u8 0, .int .u8 0, .int .u8 0, .int .u8 0, .int .u8 0, .int .u8 0, .int .u8 0, .int .u8 0, .int .u8 0, .int .u8 0, .int .u8 0, .int .u8 0, .int .u8 0, .int .u8 0, .int .u8 0, .int .u8 0, .int .u8 0, .int .u8 0] 46)) w.heap.size 46 (row8 (List.replicate 32 0)) := Blk.new _ _ _
  have hB0 : Below w.heap.size w (w.alloc (.cells #[.int .u8 0, .int .u8 0, .int .u8 0, .int .u8 0, .int .u8 0, .int .u8 0, .int .u8 0, .int .u8 0, .int .u8 0, .int .u8 0, .int .u8 0, .int .u8 0, .int .u8 0, .int .u8 0, .int .u8 0, .int .u8 0, .int .u8 0, .int .u8 0, .int .u8 0, .int .u8 0, .int .u8 0, .int .u8 0, .int .u8 0, .int .u8 0, .int .u8 0, .int .u8 0, .int .u8 0, .int .u8 0, .int .u8 0, .int .u8 0, .int .u8 0, .int .u8 0] 46)) := below_new _ _
  have hz0 : (w.alloc (.cells #[.int .u8 0, .int .u8 0, .int .u8 0, .int .u8 0, .int .u8 0, .int .u8 0, .int .u8 0, .int .u8 0, .int .u8 0, .int .u8 0, .int .u8 0, .int .u8 0, .int .u8 0, .int .u8 0, .int .u8 0, .int .u8 0, .int .u8 0, .int .u8 0, .int .u8 0, .int .u8 0, .int .u8 0, .int .u8 0, .int .u8 0, .int .u8 0, .int .u8 0, .int .u8 0, .int .u8 0, .int .u8 0, .int .u8 0, .int .u8 0, .int .u8 0, .int .u8 0] 46)).heap.size = w.heap.size + 1 := by simp
  have hr0 : Rd (w.alloc (.cells #[.int .u8 0, .int .u8 0, .int .u8 0, .int .u8 0, .int .u8 0, .int .u8 0, .int .u8 0, .int .u8 0, .int .u8 0, .int .u8 0, .int .u8 0, .int .u8 0, .int .u8 0, .int .u8 0, .int .u8 0, .int .u8 0, .int .u8 0, .int .u8 0, .int .u8 0, .int .u8 0, .int .u8 0, .int .u8 0, .int .u8 0, .int .u8 0, .int .u8 0, .int .u8 0, .int .u8 0, .int .u8 0, .int .u8 0, .int .u8 0, .int .u8 0, .int .u8 0] 46)) w.heap.size A xs := hr.below hB0
  go_enter Tryd.func38, Tryd.ntmps38
  rw [whole_eq 1, whole_eq 33]
  go_wp2_with fail
  generalize w.alloc (.cells #[.int .u8 0, .int .u8 0, .int .u8 0, .int .u8 0, .int .u8 0, .int .u8 0, .int .u8 0, .int .u8 0, .int .u8 0, .int .u8 0, .int .u8 0, .int .u8 0, .int .u8 0, .int .u8 0, .int .u8 0, .int .u8 0, .int .u8 0, .int .u8 0, .int .u8 0, .int .u8 0, .int .u8 0, .int .u8 0, .int .u8 0, .int .u8 0, .int .u8 0, .int .u8 0, .int .u8 0, .int .u8 0, .int .u8 0, .int .u8 0, .int .u8 0, .int .u8 0] 46) = w1 at hw0 hB0 hz0 hr0 ⊢
  rw [← whole_eq 1]
  have hh : Blk (w1.alloc (.cells #[.int .u32 1779033703, .int .u32 3144134277, .int .u32 1013904242, .int .u32 2773480762, .int .u32 1359893119, .int .u32 2600822924, .int .u32 528734635, .int .u32 1541459225] 23)) (w.heap.size + 1) 23 (wrow H0) := by rw [← hz0]; exact Blk.new _ _ _
  have h32 := hw0.alloc (.cells #[.int .u32 1779033703, .int .u32 3144134277, .int .u32 1013904242, .int .u32 2773480762, .int .u32 1359893119, .int .u32 2600822924, .int .u32 528734635, .int .u32 1541459225] 23)
  have hB1 : Below w.heap.size w (w1.alloc (.cells #[.int .u32 1779033703, .int .u32 3144134277, .int .u32 1013904242, .int .u32 2773480762, .int .u32 1359893119, .int .u32 2600822924, .int .u32 528734635, .int .u32 1541459225] 23)) := hB0.alloc (by omega) _
  have hz1 : (w1.alloc (.cells #[.int .u32 1779033703, .int .u32 3144134277, .int .u32 1013904242, .int .u32 2773480762, .int .u32 1359893119, .int .u32 2600822924, .int .u32 528734635, .int .u32 1541459225] 23)).heap.size = w.heap.size + 2 := by simp [hz0]
  clear hw0 hB0 hr0
  go_wp2_with fail
  generalize w1.alloc (.cells #[.int .u32 1779033703, .int .u32 3144134277, .int .u32 1013904242, .int .u32 2773480762, .int .u32 1359893119, .int .u32 2600822924, .int .u32 528734635, .int .u32 1541459225] 23) = w2 at hh h32 hB1 hz1 ⊢
  clear hz0
  obtain ⟨gh, hgh⟩ : ∃ gh, gh = w.heap.size + 1 := ⟨_, rfl⟩
  rw [← hgh] at hh ⊢
  refine (constants_any w2).mono ?_
  rintro e w3 ⟨rfl, hk, hB3⟩
  rw [hz1] at hk ⊢
  obtain ⟨gk, hgk⟩ : ∃ gk, gk = w.heap.size + 2 := ⟨_, rfl⟩
  rw [← hgk] at hk ⊢
  have hh3 := hh.below hB3 hh.lt
  have h323 := h32.below hB3 h32.lt
  have hB3' : Below w.heap.size w w3 := hB1.trans (hB3.mono hB1.size)
  have HGH := Lib.hid hgh
  have HGK := Lib.hid hgk
  clear hh h32 hB3 hB1 hz1 hgh hgk
  go_wp2_with fail
  refine (whole_any A n c xs w3 hn HX.out ((hr.below hB3').more hB3'.size)).mono ?_
  rintro e w4 ⟨A2, n2, c2, rfl, hown, hB4⟩
  rw [← HT.out] at hown
  have hh4 := hh3.below hB4 hh3.lt
  have h324 := h323.below hB4 h323.lt
  have hk4 := hk.below hB4 hk.lt
  have hB4' : Below w.heap.size w w4 := hB3'.trans (hB4.mono hB3'.size)
  have hn2 : n2 = 64 * J := by rw [← hown.len]; exact HJ.out
  have hs3 : gk < w3.heap.size := hk.lt
  have hown' : Own8 w4 5 (gk + 1) A2 n2 c2 T := hown.more (by omega)
  have HN2 := Lib.hid hn2
  clear hk hh3 h323 hB3' hB4 hown hn2 hs3
  go_wp2_with fail
  go_loopw [6] (fun i wr => ∃ j at' : Nat, j ≤ J ∧ Hid (at' = 64 * j) ∧ at' ≤ 1049600 ∧ i = .int .i64 at' ∧ Blk wr gh 23 (wrow (hsn T j)) ∧ Blk wr gk 23 (wrow K) ∧ Own8 wr 5 (gk + 1) A2 n2 c2 T ∧ Blk wr w.heap.size 46 (row8 (List.replicate 32 0)) ∧ Below w.heap.size w wr) (fun i _ => 64 * J - (intOf i).toNat)
  case atStart => exact ⟨0, 0, by omega, Lib.hid rfl, by omega, rfl, hh4, hk4, hown', h324, hB4'⟩
  case round =>
    clear hh4 hk4 hown' h324 hB4'
    obtain ⟨j, at', hj, HAT, hat, rfl, hh, hk, hown, h32, hB⟩ := hrel
    by_cases hlt : j < J
    · have hat2 : at' + 64 ≤ n2 := by rw [HN2.out, HAT.out]; omega
      have hown3 := hown
      obtain ⟨hlen, hown2⟩ := hown
      rcases hown2 with ⟨_, h0, _⟩ | ⟨ga, vs, rfl, hbg, hrow, hcv, hcm⟩
      · omega
      · have hmx : c2 ≤ 9223372036854775807 := by unfold maxLen at hcm; omega
        have hne : ¬ c2 = at' := by omega
        obtain ⟨bs, hbs⟩ : ∃ bs, bs = (T.drop (64 * j)).take 64 := ⟨_, rfl⟩
        have hbl : bs.length = 64 := by rw [hbs, List.length_take, List.length_drop, HJ.out]; omega
        have hcell : ∀ i, i < 64 → wr.cell? ⟨ga, at' + i, none⟩ = some (.int .u8 ((bs.getD i 0).toNat : Int)) := fun i hi => by
          have hTi : at' + i < T.length := by omega
          have h1 := hrow.cell (at' + i) (by simp; omega)
          rw [List.getElem_append_left hTi] at h1
          rw [h1, hbs, List.getD_eq_getElem?_getD, List.getElem?_take_of_lt hi, List.getElem?_drop, ← HAT.out, List.getElem?_eq_getElem hTi]
          rfl
        have HBS := Lib.hid hbs
        have HBL := Lib.hid hbl
        have HC := Lib.hid hcell
        have HCM := Lib.hid hcm
        have HLEN := Lib.hid hlen
        clear hbs hbl hcell hcm hlen
        go_wp2_with fail
        refine (words_any ga at' (c2 - at') bs wr HBL.out hrow.lt HC.out).mono ?_
        rintro e w5 ⟨rfl, hw5, hB5⟩
        obtain ⟨gw, hgw⟩ : ∃ gw, gw = wr.heap.size := ⟨_, rfl⟩
        rw [← hgw] at hw5 hB5 ⊢
        obtain ⟨W, hW⟩ : ∃ W, W = sch bs 64 := ⟨_, rfl⟩
        rw [← hW] at hw5
        have HW := Lib.hid hW
        have HWL := Lib.hid (show W.length = 64 by rw [hW, length_sch])
        have hhl := hh.lt
        have hkl := hk.lt
        have hgl := hrow.lt
        have h3l := h32.lt
        rw [← hgw] at hhl hkl hgl h3l
        have hh5 := hh.below hB5 hhl
        have hk5 := hk.below hB5 hkl
        have hr5 := hrow.below hB5 hgl
        have h35 := h32.below hB5 h3l
        have hB5' : Below w.heap.size w w5 := hB.trans (hB5.mono (by rw [hgw]; exact hB.size))
        have hgw5 := hw5.lt
        clear hh hk hrow h32 hB hB5 hW hgw hown3
        obtain ⟨Z8, hZ8⟩ : ∃ Z, Z = wrow (List.replicate 8 0) := ⟨_, rfl⟩
        have hmk : ∀ W : World, (Instr.makeSlice 54 (.int .i64 8) (.int .i64 8)).run Tryd.prog W = .ok (.slice (some ⟨W.heap.size, 0, none⟩) 8 8) (W.alloc (.cells Z8 23)) := fun W => by rw [hZ8]; exact run_make32 8 (by omega) W
        obtain ⟨gA, hgA⟩ : ∃ gA, gA = w5.heap.size := ⟨_, rfl⟩
        have hA6 : Blk (w5.alloc (.cells Z8 23)) gA 23 (wrow (cpl [] 0)) := by rw [hgA, hZ8]; exact Blk.new _ _ _
        have hh6 := hh5.alloc (.cells Z8 23)
        have hk6 := hk5.alloc (.cells Z8 23)
        have hr6 := hr5.alloc (.cells Z8 23)
        have h36 := h35.alloc (.cells Z8 23)
        have hw6 := hw5.alloc (.cells Z8 23)
        have hB6 : Below w.heap.size w (w5.alloc (.cells Z8 23)) := hB5'.alloc hB5'.size _
        have hgA6 : gA < (w5.alloc (.cells Z8 23)).heap.size := hA6.lt
        rw [← hgA] at hgw5
        clear hh5 hk5 hr5 h35 hw5 hB5' hZ8
        have HGA := Lib.hid hgA
        clear hgA
        go_wp2_with fail
        rw [← HGA.out]
        generalize w5.alloc (.cells Z8 23) = w6 at hA6 hh6 hk6 hr6 h36 hw6 hB6 hgA6 ⊢
        clear hmk
        obtain ⟨H, hH⟩ : ∃ H, H = hsn T j := ⟨_, rfl⟩
        rw [← hH] at hh6
        have HH := Lib.hid hH
        have HHL := Lib.hid (show H.length = 8 by rw [hH, length_hsn])
        clear hH
        go_loopw [9] (fun i wr => ∃ k : Nat, k ≤ 8 ∧ i = .int .i64 k ∧ Blk wr gA 23 (wrow (cpl H k)) ∧ Tw [gA] w6 wr) (fun i _ => 8 - (intOf i).toNat)
        case atStart => exact ⟨0, by omega, rfl, hA6, Tw.refl _ _⟩
        case round =>
          clear hA6
          obtain ⟨k, hk8, rfl, hA, htw⟩ := hrel
          by_cases hlt8 : k < 8
          · have hh7 := hh6.tw htw (by simp; omega)
            have ch := (hh7.cell k).trans (wrow_at (by rw [HHL.out]; exact hlt8))
            have ca := (hA.cell k).trans (wrow_at (by rw [length_cpl]; exact hlt8))
            have fa := hA.frozen k
            clear hh7
            go_wp2_with fail
            go_roundw
            case rel => exact ⟨k + 1, by omega, by go_num, hA.putw k _, htw.trans (Tw.setCell _ _ _ (by simp))⟩
            case measure => simp [intOf]; omega
          · have hk9 : decide ((k : Int) < 8) = false := by simp; omega
            have hk8' : k = 8 := by omega
            rw [show cpl H k = H by rw [hk8']; exact cpl_end HHL.out] at hA
            clear hk8' hlt8 hk8
            go_wp2_with fail
            clear hk9
            go_loopw [10] (fun i wr => ∃ t : Nat, t ≤ 64 ∧ i = .int .i64 t ∧ Blk wr gA 23 (wrow (rds H W t)) ∧ Tw [gA] w6 wr) (fun i _ => 64 - (intOf i).toNat)
            case atStart => exact ⟨0, by omega, rfl, hA, htw⟩
            case round =>
              clear hA htw
              obtain ⟨t, ht, rfl, hA, htw⟩ := hrel
              obtain ⟨a', b', c', d', e', f', g', h', hL⟩ := eight (length_rds H W t HHL.out)
              have HLr := Lib.hid hL
              rw [hL] at hA
              clear hL
              by_cases hlt : t < 64
              · have hk7 := hk6.tw htw (by simp; omega)
                have hw7 := hw6.tw htw (by simp; omega)
                have hkc := (hk7.cell t).trans (wrow_at (by rw [length_K]; exact hlt))
                have hwc := (hw7.cell t).trans (wrow_at (by rw [HWL.out]; exact hlt))
                have c0 := (hA.cell 0).trans (wrow_at (by simp))
                have c1 := (hA.cell 1).trans (wrow_at (by simp))
                have c2' := (hA.cell 2).trans (wrow_at (by simp))
                have c4 := (hA.cell 4).trans (wrow_at (by simp))
                have c5 := (hA.cell 5).trans (wrow_at (by simp))
                have c6 := (hA.cell 6).trans (wrow_at (by simp))
                have c7 := (hA.cell 7).trans (wrow_at (by simp))
                rw [show at_ [a', b', c', d', e', f', g', h'] 0 = a' from rfl] at c0
                rw [show at_ [a', b', c', d', e', f', g', h'] 1 = b' from rfl] at c1
                rw [show at_ [a', b', c', d', e', f', g', h'] 2 = c' from rfl] at c2'
                rw [show at_ [a', b', c', d', e', f', g', h'] 4 = e' from rfl] at c4
                rw [show at_ [a', b', c', d', e', f', g', h'] 5 = f' from rfl] at c5
                rw [show at_ [a', b', c', d', e', f', g', h'] 6 = g' from rfl] at c6
                rw [show at_ [a', b', c', d', e', f', g', h'] 7 = h' from rfl] at c7
                have ht64 : t < 64 := hlt
                have htb : decide ((t : Int) < 64) = true := by simp; omega
                clear hk7 hw7
                go_wp2_with fail
                go_quiet ((go_at_call 51; exact still_any (refRight_lit _ _ _ rfl)))
                have hA7 := hA.drewN nq
                have htw7 := htw.drewN nq
                have c0' : (wr.drewN nq).cell? ⟨gA, 0, none⟩ = _ := c0
                have c1' : (wr.drewN nq).cell? ⟨gA, 1, none⟩ = _ := c1
                have c2'' : (wr.drewN nq).cell? ⟨gA, 2, none⟩ = _ := c2'
                clear hA htw c0 c1 c2' c4 c5 c6 c7 hkc hwc
                generalize wr.drewN nq = w7 at hA7 htw7 c0' c1' c2'' ⊢
                go_wp2_with fail
                go_quiet ((go_at_call 51; exact still_any (refRight_lit _ _ _ rfl)))
                have hA8 := hA7.drewN nq
                have htw8 := htw7.drewN nq
                clear hA7 htw7 c0' c1' c2''
                generalize w7.drewN nq = w8 at hA8 htw8 ⊢
                go_wp2_with fail
                simp only [xor_u32, and_u32, xor_ones, add4_u32, add_u32]
                obtain ⟨P, hP⟩ : ∃ P, P = h' + (ror e' 6 ^^^ ror e' 11 ^^^ ror e' 25) + (e' &&& f' ^^^ ~~~e' &&& g') + at_ K t + at_ W t := ⟨_, rfl⟩
                obtain ⟨Q, hQ⟩ : ∃ Q, Q = (ror a' 2 ^^^ ror a' 13 ^^^ ror a' 22) + (a' &&& b' ^^^ a' &&& c' ^^^ b' &&& c') := ⟨_, rfl⟩
                rw [← hP, ← hQ]
                have HP : Hid (P = h' + up1 e' + chs e' f' g' + at_ K t + at_ W t) := Lib.hid hP
                have HQ : Hid (Q = up0 a' + maj a' b' c') := Lib.hid (by rw [hQ, maj_xor]; rfl)
                clear hP hQ
                obtain ⟨L, hL⟩ : ∃ L, L = [a', b', c', d', e', f', g', h'] := ⟨_, rfl⟩
                rw [← hL] at hA8
                have HLL := Lib.hid (show L.length = 8 by rw [hL]; rfl)
                have HL := Lib.hid hL
                clear hL
                go_loopw [13] (fun i wr => ∃ d m : Nat, m + d = 7 ∧ i = .int .i64 m ∧ Blk wr gA 23 (wrow (shf L d)) ∧ Tw [gA] w6 wr) (fun i _ => (intOf i).toNat)
                case atStart => exact ⟨0, 7, by omega, rfl, hA8, htw8⟩
                case round =>
                  clear hA8 htw8
                  obtain ⟨d, m, hmd, rfl, hA, htw⟩ := hrel
                  by_cases hm0 : 0 < m
                  · obtain ⟨mm, hmm⟩ : ∃ mm, mm = m - 1 := ⟨_, rfl⟩
                    have wm : (m : Int) - 1 = (mm : Int) := by omega
                    have cm := (hA.cell mm).trans (wrow_at (by rw [length_shf, HLL.out]; omega))
                    have ckm := (hA.cell m).trans (wrow_at (by rw [length_shf, HLL.out]; omega))
                    have fkm := hA.frozen m
                    have HMM := Lib.hid hmm
                    have lmm : mm < 8 := by omega
                    have lm : m < 8 := by omega
                    clear hmm
                    go_wp2_with fail
                    go_roundw
                    case rel =>
                      have e2 := hA.putw m (at_ (shf L d) mm)
                      refine ⟨d + 1, mm, by have := HMM.out; omega, rfl, ?_, htw.trans (Tw.setCell _ _ _ (by simp))⟩
                      rw [shf, show 7 - d = m by omega, show 6 - d = mm by have := HMM.out; omega]
                      exact e2
                    case measure => have := HMM.out; simp [intOf]; omega
                  · have hm9 : m = 0 := by omega
                    have hd7 : d = 7 := by omega
                    have hb0 : decide ((m : Int) > 0) = false := by simp; omega
                    rw [hd7] at hA
                    have c4 := (hA.cell 4).trans (wrow_at (by rw [length_shf, HLL.out]; omega))
                    have f4 := hA.frozen 4
                    have c0 := (hA.cell 0).trans (wrow_at (by rw [length_shf, HLL.out]; omega))
                    have f0 := hA.frozen 0
                    have hfin := Lib.hid ((hA.putv 4 _ _ (add_u32 (at_ (shf L 7) 4) P)).putv 0 _ _ (add_u32 P Q))
                    have HTW := Lib.hid htw
                    clear hA htw hm9 hd7 hmd
                    go_wp2_with fail
                    go_roundw
                    case rel =>
                      refine ⟨t + 1, by omega, by go_num, ?_, HTW.out.trans ((Tw.setCell _ _ _ (by simp)).trans (Tw.setCell _ _ _ (by simp)))⟩
                      have e9 : ((shf L 7).set 4 (at_ (shf L 7) 4 + P)).set 0 (P + Q) = rds H W (t + 1) := by
                        rw [rds, HLr.out, HP.out, HQ.out, HL.out, shf_end]
                      have hf := hfin.out
                      rw [e9] at hf
                      exact hf
                    case measure => simp [intOf]; omega
              · have htb : decide ((t : Int) < 64) = false := by simp; omega
                have ht64 : t = 64 := by omega
                obtain ⟨V, hV⟩ : ∃ V, V = [a', b', c', d', e', f', g', h'] := ⟨_, rfl⟩
                rw [← hV] at hA
                have HVL := Lib.hid (show V.length = 8 by rw [hV]; rfl)
                have HNEXT : Hid (add H V = hsn T (j + 1)) := Lib.hid (by
                  rw [hsn, ← HH.out, hV, ← HLr.out, ht64, HW.out, HBS.out]
                  rfl)
                clear hV ht64 hlt ht
                have hh8 := hh6.tw htw (by simp; omega)
                have htw8 : Tw [gA, gh] w6 wr := htw.sub (by simp)
                clear htw
                go_wp2_with fail
                go_loopw [14] (fun i wr => ∃ k : Nat, k ≤ 8 ∧ i = .int .i64 k ∧ Blk wr gh 23 (wrow (adl H V k)) ∧ Blk wr gA 23 (wrow V) ∧ Tw [gA, gh] w6 wr) (fun i _ => 8 - (intOf i).toNat)
                case atStart => exact ⟨0, by omega, rfl, hh8, hA, htw8⟩
                case round =>
                  clear hh8 hA htw8
                  obtain ⟨k, hk8, rfl, hh, hA, htw⟩ := hrel
                  by_cases hlt8 : k < 8
                  · have ch := (hh.cell k).trans (wrow_at (by rw [length_adl, HHL.out]; exact hlt8))
                    have ca := (hA.cell k).trans (wrow_at (by rw [HVL.out]; exact hlt8))
                    have fh := hh.frozen k
                    go_wp2_with fail
                    refine wp_region_quiet_tail 12 (by kernel_rfl) (by kernel_rfl) ?_
                    simp only [List.take_succ_cons, List.take_zero, List.drop_succ_cons, List.drop_zero]
                    repeat (go_big_quiet_step (fail))
                    refine wpQuiet_nil ?_
                    rintro _ ⟨m, rfl⟩
                    go_wp2_with fail
                    go_roundw
                    case rel =>
                      refine ⟨k + 1, by omega, by go_num, ?_, (hA.drewN m).far (by simp; omega) _, (htw.drewN m).trans (Tw.setCell _ _ _ (by simp))⟩
                      rw [adl]
                      exact (hh.drewN m).putv k _ _ (add_u32 _ _)
                    case measure => simp [intOf]; omega
                  · have hk9 : decide ((k : Int) < 8) = false := by simp; omega
                    have hk8' : k = 8 := by omega
                    rw [show adl H V k = hsn T (j + 1) by rw [hk8', adl_end HHL.out HVL.out, HNEXT.out]] at hh
                    clear hk8' hlt8 hk8
                    have HHH := Lib.hid hh
                    have HTW := Lib.hid htw
                    clear hh hA htw
                    go_wp2_with fail
                    go_roundw
                    case rel =>
                      have h1 := HTW.out
                      have hgk2 := HGK.out
                      have hgh2 := HGH.out
                      refine ⟨j + 1, at' + 64, by omega, Lib.hid (by rw [HAT.out]; omega), by have := HAT.out; omega, by go_num, HHH.out, hk6.tw h1 (by simp; omega), ⟨HLEN.out, .inr ⟨ga, vs, rfl, hbg, Blk.tw (show Blk w6 ga 5 (row8 (T ++ vs)) from hr6) h1 (by simp; omega), hcv, HCM.out⟩⟩, h36.tw h1 (by simp; omega), tw_below hB6 h1 (by simp; omega) (Nat.le_refl _)⟩
                    case measure => have := HAT.out; simp [intOf]; omega
    · have hjJ : j = J := by omega
      have hlen : n2 = at' := by rw [HN2.out, HAT.out, hjJ]
      have hat9 : decide ((at' : Int) < (n2 : Int)) = false := by simp; omega
      have hnat : ¬ at' < n2 := by omega
      have hF : hsn T j = fin xs := by
        rw [hjJ]
        unfold fin
        rw [HX.out, ← HT.out, HJ.out]
        congr 1
        omega
      obtain ⟨F, hFF⟩ : ∃ F, F = fin xs := ⟨_, rfl⟩
      rw [hF, ← hFF] at hh
      have HF := Lib.hid hFF
      have HFL := Lib.hid (show F.length = 8 by rw [hFF]; exact length_fin xs)
      have hd : RowAt (wr.alloc (.cells #[.int .u8 0, .int .u8 0, .int .u8 0, .int .u8 0, .int .u8 0, .int .u8 0, .int .u8 0, .int .u8 0, .int .u8 0, .int .u8 0, .int .u8 0, .int .u8 0, .int .u8 0, .int .u8 0, .int .u8 0, .int .u8 0, .int .u8 0, .int .u8 0, .int .u8 0, .int .u8 0, .int .u8 0, .int .u8 0, .int .u8 0, .int .u8 0, .int .u8 0, .int .u8 0, .int .u8 0, .int .u8 0, .int .u8 0, .int .u8 0, .int .u8 0, .int .u8 0] 46)) 46 wr.heap.size (List.replicate 32 0) := Blk.new _ _ _
      obtain ⟨g, hg⟩ : ∃ g, g = wr.heap.size := ⟨_, rfl⟩
      have hh2 := hh.alloc (.cells #[.int .u8 0, .int .u8 0, .int .u8 0, .int .u8 0, .int .u8 0, .int .u8 0, .int .u8 0, .int .u8 0, .int .u8 0, .int .u8 0, .int .u8 0, .int .u8 0, .int .u8 0, .int .u8 0, .int .u8 0, .int .u8 0, .int .u8 0, .int .u8 0, .int .u8 0, .int .u8 0, .int .u8 0, .int .u8 0, .int .u8 0, .int .u8 0, .int .u8 0, .int .u8 0, .int .u8 0, .int .u8 0, .int .u8 0, .int .u8 0, .int .u8 0, .int .u8 0] 46)
      have h322 := h32.alloc (.cells #[.int .u8 0, .int .u8 0, .int .u8 0, .int .u8 0, .int .u8 0, .int .u8 0, .int .u8 0, .int .u8 0, .int .u8 0, .int .u8 0, .int .u8 0, .int .u8 0, .int .u8 0, .int .u8 0, .int .u8 0, .int .u8 0, .int .u8 0, .int .u8 0, .int .u8 0, .int .u8 0, .int .u8 0, .int .u8 0, .int .u8 0, .int .u8 0, .int .u8 0, .int .u8 0, .int .u8 0, .int .u8 0, .int .u8 0, .int .u8 0, .int .u8 0, .int .u8 0] 46)
      have hB2 : Below w.heap.size w (wr.alloc (.cells #[.int .u8 0, .int .u8 0, .int .u8 0, .int .u8 0, .int .u8 0, .int .u8 0, .int .u8 0, .int .u8 0, .int .u8 0, .int .u8 0, .int .u8 0, .int .u8 0, .int .u8 0, .int .u8 0, .int .u8 0, .int .u8 0, .int .u8 0, .int .u8 0, .int .u8 0, .int .u8 0, .int .u8 0, .int .u8 0, .int .u8 0, .int .u8 0, .int .u8 0, .int .u8 0, .int .u8 0, .int .u8 0, .int .u8 0, .int .u8 0, .int .u8 0, .int .u8 0] 46)) := hB.alloc hB.size _
      have hghg := hh.lt
      have h3g := h32.lt
      rw [← hg] at hd hghg h3g
      have HG := Lib.hid hg
      clear hF hFF hjJ hlen hh h32 hB hown hk hg
      go_wp2_with fail
      rw [← HG.out]
      generalize wr.alloc (.cells #[.int .u8 0, .int .u8 0, .int .u8 0, .int .u8 0, .int .u8 0, .int .u8 0, .int .u8 0, .int .u8 0, .int .u8 0, .int .u8 0, .int .u8 0, .int .u8 0, .int .u8 0, .int .u8 0, .int .u8 0, .int .u8 0, .int .u8 0, .int .u8 0, .int .u8 0, .int .u8 0, .int .u8 0, .int .u8 0, .int .u8 0, .int .u8 0, .int .u8 0, .int .u8 0, .int .u8 0, .int .u8 0, .int .u8 0, .int .u8 0, .int .u8 0, .int .u8 0] 46) = w5 at hd hh2 h322 hB2 ⊢
      go_loopw [16] (fun i wr => ∃ k : Nat, k ≤ 32 ∧ i = .int .i64 k ∧ RowAt wr 46 g (out1 F k) ∧ Tw [g] w5 wr) (fun i _ => 32 - (intOf i).toNat)
      case atStart => exact ⟨0, by omega, rfl, hd, Tw.refl _ _⟩
      case round =>
        clear hd
        obtain ⟨k, hk, rfl, hd, htw⟩ := hrel
        by_cases hlt2 : k < 32
        · have hh3 := hh2.tw htw (by simp; omega)
          obtain ⟨q, hq⟩ : ∃ q, q = k / 4 := ⟨_, rfl⟩
          obtain ⟨r, hr2⟩ : ∃ r, r = 24 - 8 * (k % 4) := ⟨_, rfl⟩
          have cq := (hh3.cell q).trans (wrow_at (by rw [HFL.out]; omega))
          have cg := hd.cell k (by rw [length_out1]; exact hlt2)
          have fg := hd.frozen k
          have wq : (k : Int) / 4 = (q : Int) := by omega
          have wr2 : (24 : Int) - 8 * ((k : Int) % 4) = (r : Int) := by omega
          have lq : q < 8 := by omega
          have lr : r < 32 := by omega
          have HQ := Lib.hid hq
          have HR := Lib.hid hr2
          clear hh3 hq hr2
          go_wp2_with fail
          go_roundw
          case rel =>
            refine ⟨k + 1, by omega, by go_num, ?_, htw.trans (Tw.setCell _ _ _ (by simp))⟩
            have e8 := byt_toNat ((at_ F q).toNat / 2 ^ r)
            rw [Int.natCast_ediv, Int.natCast_pow] at e8
            have e9 : (out1 F k).set k (byt ((at_ F q).toNat / 2 ^ r)) = out1 F (k + 1) := by rw [out1, HQ.out, HR.out]
            have h9 := hd.set_ k (byt ((at_ F q).toNat / 2 ^ r))
            rw [e9, e8] at h9
            exact h9
          case measure => simp [intOf]; omega
        · have hk8 : k = 32 := by omega
          have hk9 : decide ((k : Int) < 32) = false := by simp; omega
          have HOUT := Lib.hid (show out1 F k = S by rw [HS.out, hk8, out_out1 F HFL.out, HF.out]; rfl)
          rw [HOUT.out] at hd
          have hsz : (row8 S).size = 32 := by rw [size_row8, HS.out, length_dig]
          have h32 := h322.tw htw (by simp; omega)
          have hB := tw_below hB2 htw (by simp; omega) (Nat.le_refl _)
          clear hk8
          go_wp2_with fail
          refine whole_list ?_
          refine wpList_load_blk (show Blk wr g 46 (row8 S) from hd) 32 hsz rfl _ _ rfl rfl _ Tryd.underlying46 rfl (by kernel_rfl) ?_
          refine wpList_store_blk h32 32 rfl hsz (row8_one _) rfl _ _ _ rfl rfl rfl (by kernel_rfl) ?_
          go_wp2_with fail
          exact bodyPost_ret (v := .agg (row8 S)) (results_cell_row rfl _ _ _ _ _ _ _ rfl (h32.setRow (row8 S)) Tryd.underlying46 rfl ((show (Tryd.prog.info? 46).map (·.size) = some 32 by kernel_rfl).trans (by rw [hsz]))) rfl ⟨rfl, Below.setRow_ hB _ _ (Nat.le_refl _)⟩
end Go.Proofs.YtnnkgdkjmmljiaaDoor
