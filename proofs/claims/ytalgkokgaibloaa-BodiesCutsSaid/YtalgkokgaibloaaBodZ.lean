/-
  Layer 9: SameSack, the bounds, the anchor.
-/
import Derived.Test.YtalgkokgaibloaaBodL
import Derived.Test.YtalgkokgaibloaaBodY
namespace Go.Proofs.Ytalgkokgaibloaa
open Go.RowKit
set_option linter.unusedVariables false

set_option maxHeartbeats 4000000 in
theorem sameS_yes (cum rwnd : Int) (A A' B B' : Option Addr) (m c m' c' p d p' d' : Nat) (L : List (Nat × Nat)) (Z : List Int) (w : World) (hm : m ≤ 1099511627776) (hp : p ≤ 1099511627776) (hx : L.length = m) (hx' : L.length = m') (hz : Z.length = p) (hz' : Z.length = p') (hr : Rg w 0 w.heap.size A L) (hr' : Rg w 0 w.heap.size A' L) (hi : Ri .u32 w w.heap.size B Z) (hi' : Ri .u32 w w.heap.size B' Z) :
    Calls Try.prog 33 #[.agg #[.int .u32 cum, .int .u32 rwnd, .slice A m c, .slice B p d], .agg #[.int .u32 cum, .int .u32 rwnd, .slice A' m' c', .slice B' p' d']] w fun e w' => e = .returned (.bool true) ∧ Below w.heap.size w w' := by
  obtain rfl : m' = m := by omega
  obtain rfl : p' = p := by omega
  have b0 : Blk (w.alloc (.cells #[.int .u32 cum, .int .u32 rwnd, .slice A m' c, .slice B p' d] 52)) w.heap.size 52 #[.int .u32 cum, .int .u32 rwnd, .slice A m' c, .slice B p' d] := Blk.new w 52 #[.int .u32 cum, .int .u32 rwnd, .slice A m' c, .slice B p' d]
  have b1 : Blk ((w.alloc (.cells #[.int .u32 cum, .int .u32 rwnd, .slice A m' c, .slice B p' d] 52)).alloc (.cells #[.int .u32 cum, .int .u32 rwnd, .slice A' m' c', .slice B' p' d'] 52)) (w.heap.size + 1) 52 #[.int .u32 cum, .int .u32 rwnd, .slice A' m' c', .slice B' p' d'] := by simpa using Blk.new (w.alloc (.cells #[.int .u32 cum, .int .u32 rwnd, .slice A m' c, .slice B p' d] 52)) 52 #[.int .u32 cum, .int .u32 rwnd, .slice A' m' c', .slice B' p' d']
  have K0 := Lib.hid (b0.alloc (.cells #[.int .u32 cum, .int .u32 rwnd, .slice A' m' c', .slice B' p' d'] 52))
  have K1 := Lib.hid b1
  have B0 : Hid (Below w.heap.size w ((w.alloc (.cells #[.int .u32 cum, .int .u32 rwnd, .slice A m' c, .slice B p' d] 52)).alloc (.cells #[.int .u32 cum, .int .u32 rwnd, .slice A' m' c', .slice B' p' d'] 52))) := Lib.hid (Wr.below_ (((Wr.refl 5 w.heap.size w).alloc (.cells #[.int .u32 cum, .int .u32 rwnd, .slice A m' c, .slice B p' d] 52)).alloc (.cells #[.int .u32 cum, .int .u32 rwnd, .slice A' m' c', .slice B' p' d'] 52)) (Nat.le_refl _))
  clear b0 b1
  have HX := Lib.hid hx
  have HZ := Lib.hid hz
  have HR := Lib.hid hr
  have HR' := Lib.hid hr'
  have HI := Lib.hid hi
  have HI' := Lib.hid hi'
  clear hx hx' hz hz' hr hr' hi hi'
  go_enter Try.func33, Try.ntmps33
  go_wp2_with fail
  generalize ((w.alloc (.cells #[.int .u32 cum, .int .u32 rwnd, .slice A m' c, .slice B p' d] 52)).alloc (.cells #[.int .u32 cum, .int .u32 rwnd, .slice A' m' c', .slice B' p' d'] 52)) = v0 at B0 K0 K1 ⊢
  have x2 : v0.cell? ⟨w.heap.size, 2, none⟩ = some (.slice A m' c) := K0.out.cell 2
  have y2 : v0.cell? ⟨w.heap.size + 1, 2, none⟩ = some (.slice A' m' c') := K1.out.cell 2
  have x3 : v0.cell? ⟨w.heap.size, 3, none⟩ = some (.slice B p' d) := K0.out.cell 3
  have y3 : v0.cell? ⟨w.heap.size + 1, 3, none⟩ = some (.slice B' p' d') := K1.out.cell 3
  go_loopw [5] (fun i wr => ∃ k q : Nat, k ≤ m' ∧ i = .int .i64 k ∧ wr = v0.drewN q) (fun i _ => m' - (intOf i).toNat)
  case atStart => exact ⟨0, 0, Nat.zero_le _, rfl, rfl⟩
  case round =>
    obtain ⟨k, q, hk, rfl, rfl⟩ := hrel
    by_cases hlt : k < m'
    · have hkl : k < L.length := by rw [HX.out]; exact hlt
      have hne : L ≠ [] := by intro e; rw [e] at hkl; simp at hkl
      obtain ⟨gb, go, hA, _, hgl, hcx⟩ := (HR.out.below_ B0.out).at_ hne
      obtain ⟨gb', go', hA', _, hgl', hcx'⟩ := (HR'.out.below_ B0.out).at_ hne
      subst hA hA'
      have c0 := (hcx k hkl).1
      have c1 := (hcx k hkl).2
      have d0 := (hcx' k hkl).1
      have d1 := (hcx' k hkl).2
      obtain ⟨pa, hpa⟩ : ∃ pa, pa = L[k].1 := ⟨_, rfl⟩
      obtain ⟨pb, hpb⟩ : ∃ pb, pb = L[k].2 := ⟨_, rfl⟩
      rw [← hpa] at c0 d0
      rw [← hpb] at c1 d1
      clear hpa hpb hcx hcx' hne
      go_wp2_with fail
      go_quiet (fail)
      go_wp2_with fail
      go_roundw
      case rel => exact ⟨k + 1, _, by omega, by go_num, rfl⟩
      case measure => simp [intOf]; omega
    · obtain rfl : k = m' := by omega
      go_wp2_with fail
      go_loopw [6] (fun i wr => ∃ j q : Nat, j ≤ p' ∧ i = .int .i64 j ∧ wr = v0.drewN q) (fun i _ => p' - (intOf i).toNat)
      case atStart => exact ⟨0, q, Nat.zero_le _, rfl, rfl⟩
      case round =>
        obtain ⟨j, q, hj, rfl, rfl⟩ := hrel
        by_cases hlt2 : j < p'
        · have hkl : j < Z.length := by rw [HZ.out]; exact hlt2
          have hne : Z ≠ [] := by intro e; rw [e] at hkl; simp at hkl
          obtain ⟨gb, go, hA, hgl, hcx⟩ := (HI.out.below B0.out).at_ hne
          obtain ⟨gb', go', hA', hgl', hcx'⟩ := (HI'.out.below B0.out).at_ hne
          subst hA hA'
          have c0 := hcx j hkl
          have d0 := hcx' j hkl
          obtain ⟨pa, hpa⟩ : ∃ pa, pa = Z[j] := ⟨_, rfl⟩
          rw [← hpa] at c0 d0
          clear hpa hcx hcx' hne
          go_wp2_with fail
          go_quiet (fail)
          go_wp2_with fail
          go_roundw
          case rel => exact ⟨j + 1, _, by omega, by go_num, rfl⟩
          case measure => simp [intOf]; omega
        · obtain rfl : j = p' := by omega
          go_wp2_with fail
          go_ret
          exact ⟨rfl, below_drewN B0.out q⟩

set_option maxHeartbeats 1000000 in
theorem large_any (a b : Int) (A : Option Addr) (n c : Nat) (w : World) (hn : n ≤ maxLen) :
    Calls Try.prog 12 #[.agg #[.int .u8 a, .int .u8 b, .slice A n c]] w fun e w' => e = .returned (.bool (decide (8192 < n))) ∧ Below w.heap.size w w' := by
  unfold maxLen at hn
  by_cases h : 8192 < n
  all_goals
    go_enter Try.func12, Try.ntmps12
    go_wp2_with fail
    go_ret
    exact ⟨ret_bool (by rw [Bool.eq_iff_iff, decide_eq_true_iff, decide_eq_true_iff]; omega), below_new w _⟩
set_option maxHeartbeats 1000000 in
theorem many_any (cum rwnd fcum : Int) (A B C : Option Addr) (m c p d s t : Nat) (w : World) (hm : m ≤ maxLen) (hp : p ≤ maxLen) (hs : s ≤ maxLen) :
    Calls Try.prog 28 #[.agg #[.int .u32 cum, .int .u32 rwnd, .slice A m c, .slice B p d], .agg #[.int .u32 fcum, .slice C s t]] w fun e w' => e = .returned (.bool (decide (2048 < m ∨ 2048 < p ∨ 2048 < s))) ∧ Below w.heap.size w w' := by
  unfold maxLen at hm hp hs
  have HB := Lib.hid ((below_new w (.cells #[.int .u32 cum, .int .u32 rwnd, .slice A m c, .slice B p d] 52)).alloc (by simp) (.cells #[.int .u32 fcum, .slice C s t] 56))
  by_cases h1 : 2048 < m
  · have e : decide (2048 < m ∨ 2048 < p ∨ 2048 < s) = true := decide_eq_true (.inl h1)
    rw [e]
    clear e
    go_enter Try.func28, Try.ntmps28
    go_wp2_with fail
    go_ret
    exact ⟨rfl, HB.out⟩
  · by_cases h2 : 2048 < p
    · have e : decide (2048 < m ∨ 2048 < p ∨ 2048 < s) = true := decide_eq_true (.inr (.inl h2))
      rw [e]
      clear e
      go_enter Try.func28, Try.ntmps28
      go_wp2_with fail
      go_ret
      exact ⟨rfl, HB.out⟩
    · have e : decide (2048 < m ∨ 2048 < p ∨ 2048 < s) = decide (2048 < s) := by simp [h1, h2]
      rw [e]
      clear e
      go_enter Try.func28, Try.ntmps28
      go_wp2_with fail
      go_ret
      exact ⟨by simp [show ¬ (2048 : Int) < m from by omega, show ¬ (2048 : Int) < p from by omega]; omega, HB.out⟩
theorem Og.alloc {w : World} {t : TypeId} {base : Nat} {v : Value} {L : List (Nat × Nat)} (h : Og w t base v L) (o : Obj) : Og (w.alloc o) t base v L := World.ownsRow.alloc h o
theorem works_okS : okS 3 0 (bodyS ⟨5, 6, [(2, 3)], [7]⟩) = true := by decide +kernel
theorem works_ansS : ansS 3 0 (bodyS ⟨5, 6, [(2, 3)], [7]⟩) = ⟨5, 6, [(2, 3)], [7]⟩ := by
  have h := parse_putS ⟨5, 6, [(2, 3)], [7]⟩ ⟨by decide, by decide, by decide, by decide⟩ (by decide) (by decide)
  unfold ansS
  rw [works_okS, if_pos rfl, h]
theorem works_okD : okD 3 0 (bodyS ⟨5, 6, [(2, 3)], [7]⟩) = false := by decide +kernel
theorem works_len : (bodyS ⟨5, 6, [(2, 3)], [7]⟩).length = 20 := length_bodyS _
set_option maxRecDepth 100000 in
set_option maxHeartbeats 4000000 in
theorem works_any (w : World) : Calls Try.prog 13 #[] w fun e w' => e = .returned (.bool true) ∧ Below w.heap.size w w' := by
  have hz := zero_sack
  have hz2 := zero_chunk
  have hz3 := zero_data
  have hz4 := zero_gap
  have b0 : Blk (w.alloc (.cells #[.int .u16 2, .int .u16 3] 79)) w.heap.size 79 #[.int .u16 2, .int .u16 3] := Blk.new w _ _
  have b1 : Blk ((w.alloc (.cells #[.int .u16 2, .int .u16 3] 79)).alloc (.cells #[.int .u32 7] 22)) (w.heap.size + 1) 22 #[.int .u32 7] := by simpa using Blk.new (w.alloc (.cells #[.int .u16 2, .int .u16 3] 79)) 22 #[.int .u32 7]
  have b2 : Blk (((w.alloc (.cells #[.int .u16 2, .int .u16 3] 79)).alloc (.cells #[.int .u32 7] 22)).alloc (.cells #[.int .u32 5, .int .u32 6, .slice (some ⟨w.heap.size, 0, none⟩) 1 1, .slice (some ⟨w.heap.size + 1, 0, none⟩) 1 1] 52)) (w.heap.size + 1 + 1) 52 #[.int .u32 5, .int .u32 6, .slice (some ⟨w.heap.size, 0, none⟩) 1 1, .slice (some ⟨w.heap.size + 1, 0, none⟩) 1 1] := by simpa using Blk.new ((w.alloc (.cells #[.int .u16 2, .int .u16 3] 79)).alloc (.cells #[.int .u32 7] 22)) 52 #[.int .u32 5, .int .u32 6, .slice (some ⟨w.heap.size, 0, none⟩) 1 1, .slice (some ⟨w.heap.size + 1, 0, none⟩) 1 1]
  have B0 : Hid (Below w.heap.size w (((w.alloc (.cells #[.int .u16 2, .int .u16 3] 79)).alloc (.cells #[.int .u32 7] 22)).alloc (.cells #[.int .u32 5, .int .u32 6, .slice (some ⟨w.heap.size, 0, none⟩) 1 1, .slice (some ⟨w.heap.size + 1, 0, none⟩) 1 1] 52))) := Lib.hid (Wr.below_ (((Wr.refl 5 w.heap.size w).alloc (.cells #[.int .u16 2, .int .u16 3] 79)).alloc (.cells #[.int .u32 7] 22) |>.alloc (.cells #[.int .u32 5, .int .u32 6, .slice (some ⟨w.heap.size, 0, none⟩) 1 1, .slice (some ⟨w.heap.size + 1, 0, none⟩) 1 1] 52)) (Nat.le_refl _))
  have K0 := Lib.hid ((b0.alloc (.cells #[.int .u32 7] 22)).alloc (.cells #[.int .u32 5, .int .u32 6, .slice (some ⟨w.heap.size, 0, none⟩) 1 1, .slice (some ⟨w.heap.size + 1, 0, none⟩) 1 1] 52))
  have K1 := Lib.hid (b1.alloc (.cells #[.int .u32 5, .int .u32 6, .slice (some ⟨w.heap.size, 0, none⟩) 1 1, .slice (some ⟨w.heap.size + 1, 0, none⟩) 1 1] 52))
  have K2 := Lib.hid b2
  clear b0 b1 b2
  go_enter Try.func13, Try.ntmps13
  go_wp2_with fail
  generalize hv0 : (((w.alloc (.cells #[.int .u16 2, .int .u16 3] 79)).alloc (.cells #[.int .u32 7] 22)).alloc (.cells #[.int .u32 5, .int .u32 6, .slice (some ⟨w.heap.size, 0, none⟩) 1 1, .slice (some ⟨w.heap.size + 1, 0, none⟩) 1 1] 52)) = v0 at K0 K1 K2 B0 ⊢
  clear hv0
  have hg : ∀ W, Blk W w.heap.size 79 #[.int .u16 2, .int .u16 3] → Rg W 0 W.heap.size (some ⟨w.heap.size, 0, none⟩) [(2, 3)] := fun W hb => (.inr ⟨w.heap.size, 0, rfl, Nat.zero_le _, hb.lt, fun j p hp => by
      rcases j with _ | j
      · injection hp with hp; subst hp; exact ⟨(hb).cell 0, (hb).cell 1⟩
      · cases hp⟩)
  have hi : ∀ W, Blk W (w.heap.size + 1) 22 #[.int .u32 7] → Ri .u32 W W.heap.size (some ⟨w.heap.size + 1, 0, none⟩) (ints [7]) := fun W hb => (.inr ⟨w.heap.size + 1, 0, rfl, hb.lt, fun j x hx => by
      rcases j with _ | j
      · injection hx with hx; subst hx; exact (hb).cell 0
      · cases hx⟩)
  have HP : Hid (Puts 29 #[.agg #[.int .u32 5, .int .u32 6, .slice (some ⟨w.heap.size, 0, none⟩) 1 1, .slice (some ⟨w.heap.size + 1, 0, none⟩) 1 1]] 3 0 (bodyS ⟨5, 6, [(2, 3)], [7]⟩) v0) := Lib.hid (putSack_any 5 6 [(2, 3)] [7] (by decide) (by decide) (by decide) (by decide) _ _ 1 1 1 1 v0 (by decide) (by decide) rfl rfl (hg v0 K0.out) (hi v0 K1.out))
  have HG := Lib.hid hg
  have HI := Lib.hid hi
  clear hg hi
  refine HP.out.mono ?_
  rintro e w1 ⟨A1, c1, rfl, ho, hb⟩
  rw [works_len] at ho ⊢
  have K0a := Lib.hid (K0.out.below hb K0.out.lt)
  have K1a := Lib.hid (K1.out.below hb K1.out.lt)
  have K2a := Lib.hid (K2.out.below hb K2.out.lt)
  have B1 := Lib.hid (below_then B0.out (Nat.le_refl _) hb)
  have O1 := Lib.hid ho
  clear K0 K1 K2 B0 HP hb ho
  have hgs : ∀ W, Rd W W.heap.size A1 (bodyS ⟨5, 6, [(2, 3)], [7]⟩) → Calls Try.prog 30 #[.agg #[.int .u8 3, .int .u8 0, .slice A1 20 c1]] W fun e w' => ∃ As cs Ad cd, e = .returned (.tuple #[.agg #[.int .u32 5, .int .u32 6, .slice As 1 cs, .slice Ad 1 cd], .int .i64 0]) ∧ Og w' 79 W.heap.size (.slice As 1 cs) [(2, 3)] ∧ Ow w' 22 W.heap.size (.slice Ad 1 cd) (ints [7]) ∧ Below W.heap.size W w' := fun W hr =>
    (getSack_any 3 0 A1 20 c1 _ W (by decide) O1.out.cap.1 O1.out.cap.2 works_len hr).mono fun e w' ⟨A, m, c, A', m', c', he, ho, hm, hp, hm', hb⟩ => by
      rw [works_okS, works_ansS] at he
      rw [works_ansS] at ho hm hp hm'
      subst hm hm'
      exact ⟨A, c, A', c', he, ho, hp, hb⟩
  have hgd : ∀ W, Rd W W.heap.size A1 (bodyS ⟨5, 6, [(2, 3)], [7]⟩) → Calls Try.prog 16 #[.agg #[.int .u8 3, .int .u8 0, .slice A1 20 c1]] W fun e w' => ∃ A m c, e = .returned (.tuple #[.agg #[.int .u32 0, .int .u16 0, .int .u16 0, .bool false, .bool false, .bool false, .slice A m c], .int .i64 7]) ∧ Below W.heap.size W w' := fun W hr =>
    (getData_any 3 0 A1 20 c1 _ W (by decide) O1.out.cap.1 O1.out.cap.2 works_len hr).mono fun e w' ⟨A, m, c, he, ho, hb⟩ => by
      have h2 : ansD 3 0 (bodyS ⟨5, 6, [(2, 3)], [7]⟩) = noD := by unfold ansD; rw [works_okD]; rfl
      rw [works_okD, h2] at he
      exact ⟨A, m, c, he, hb⟩
  have HGS := Lib.hid hgs
  have HGD := Lib.hid hgd
  clear hgs hgd
  have K0b := Lib.hid (K0a.out.alloc (.cells #[.int .u8 3, .int .u8 0, .slice A1 20 c1] 28))
  have K1b := Lib.hid (K1a.out.alloc (.cells #[.int .u8 3, .int .u8 0, .slice A1 20 c1] 28))
  have K2b := Lib.hid (K2a.out.alloc (.cells #[.int .u8 3, .int .u8 0, .slice A1 20 c1] 28))
  have O2 := Lib.hid (O1.out.alloc (.cells #[.int .u8 3, .int .u8 0, .slice A1 20 c1] 28))
  have B2 := Lib.hid (B1.out.alloc B1.out.size (.cells #[.int .u8 3, .int .u8 0, .slice A1 20 c1] 28))
  have C2 := Lib.hid (Blk.new w1 28 #[.int .u8 3, .int .u8 0, .slice A1 20 c1])
  clear K0a K1a K2a B1 O1
  go_wp2_with fail
  obtain ⟨gc, hgc⟩ : ∃ gc, gc = w1.heap.size := ⟨_, rfl⟩
  rw [← hgc] at C2 ⊢
  generalize w1.alloc (.cells #[.int .u8 3, .int .u8 0, .slice A1 20 c1] 28) = w2 at K0b K1b K2b O2 B2 C2 ⊢
  clear hgc
  refine (HGS.out w2 O2.out.rd).mono ?_
  rintro e w3 ⟨As, cs, Ad, cd, rfl, ho, hp, hb⟩
  have K0c := Lib.hid ((K0b.out.below hb K0b.out.lt).alloc (.cells #[.int .u32 5, .int .u32 6, .slice As 1 cs, .slice Ad 1 cd] 52))
  have K1c := Lib.hid ((K1b.out.below hb K1b.out.lt).alloc (.cells #[.int .u32 5, .int .u32 6, .slice As 1 cs, .slice Ad 1 cd] 52))
  have K2c := Lib.hid ((K2b.out.below hb K2b.out.lt).alloc (.cells #[.int .u32 5, .int .u32 6, .slice As 1 cs, .slice Ad 1 cd] 52))
  have C3 := Lib.hid ((C2.out.below hb C2.out.lt).alloc (.cells #[.int .u32 5, .int .u32 6, .slice As 1 cs, .slice Ad 1 cd] 52))
  have O3 := Lib.hid ((O2.out.below hb (Nat.le_refl _)).alloc (.cells #[.int .u32 5, .int .u32 6, .slice As 1 cs, .slice Ad 1 cd] 52))
  have b3 := below_then B2.out (Nat.le_refl _) hb
  have B3 := Lib.hid (b3.alloc b3.size (.cells #[.int .u32 5, .int .u32 6, .slice As 1 cs, .slice Ad 1 cd] 52))
  have T3 := Lib.hid (Blk.new w3 52 #[.int .u32 5, .int .u32 6, .slice As 1 cs, .slice Ad 1 cd])
  have G3 := Lib.hid (ho.alloc (.cells #[.int .u32 5, .int .u32 6, .slice As 1 cs, .slice Ad 1 cd] 52))
  have D3 := Lib.hid (hp.alloc (.cells #[.int .u32 5, .int .u32 6, .slice As 1 cs, .slice Ad 1 cd] 52))
  have c0 : (w3.alloc (.cells #[.int .u32 5, .int .u32 6, .slice As 1 cs, .slice Ad 1 cd] 52)).cell? ⟨gc, 0, none⟩ = some (.int .u8 3) := C3.out.cell 0
  have c1_ : (w3.alloc (.cells #[.int .u32 5, .int .u32 6, .slice As 1 cs, .slice Ad 1 cd] 52)).cell? ⟨gc, 1, none⟩ = some (.int .u8 0) := C3.out.cell 1
  have c2 : (w3.alloc (.cells #[.int .u32 5, .int .u32 6, .slice As 1 cs, .slice Ad 1 cd] 52)).cell? ⟨gc, 2, none⟩ = some (.slice A1 20 c1) := C3.out.cell 2
  clear hb b3 ho hp K0b K1b K2b C2 O2 B2
  go_wp2_with fail
  obtain ⟨gt, hgt⟩ : ∃ gt, gt = w3.heap.size := ⟨_, rfl⟩
  rw [← hgt] at T3 ⊢
  generalize w3.alloc (.cells #[.int .u32 5, .int .u32 6, .slice As 1 cs, .slice Ad 1 cd] 52) = w4 at K0c K1c K2c C3 O3 B3 T3 G3 D3 c0 c1_ c2 ⊢
  clear hgt c0 c1_ c2
  refine (HGD.out w4 O3.out.rd).mono ?_
  rintro e w5 ⟨A9, m9, c9, rfl, hb⟩
  have K0d := Lib.hid ((K0c.out.below hb K0c.out.lt).alloc (.cells #[.int .u32 0, .int .u16 0, .int .u16 0, .bool false, .bool false, .bool false, .slice A9 m9 c9] 26))
  have K1d := Lib.hid ((K1c.out.below hb K1c.out.lt).alloc (.cells #[.int .u32 0, .int .u16 0, .int .u16 0, .bool false, .bool false, .bool false, .slice A9 m9 c9] 26))
  have K2d := Lib.hid ((K2c.out.below hb K2c.out.lt).alloc (.cells #[.int .u32 0, .int .u16 0, .int .u16 0, .bool false, .bool false, .bool false, .slice A9 m9 c9] 26))
  have C4 := Lib.hid ((C3.out.below hb C3.out.lt).alloc (.cells #[.int .u32 0, .int .u16 0, .int .u16 0, .bool false, .bool false, .bool false, .slice A9 m9 c9] 26))
  have T4 := Lib.hid ((T3.out.below hb T3.out.lt).alloc (.cells #[.int .u32 0, .int .u16 0, .int .u16 0, .bool false, .bool false, .bool false, .slice A9 m9 c9] 26))
  have G4 := Lib.hid ((G3.out.below hb).alloc (.cells #[.int .u32 0, .int .u16 0, .int .u16 0, .bool false, .bool false, .bool false, .slice A9 m9 c9] 26))
  have D4 := Lib.hid ((D3.out.below hb).alloc (.cells #[.int .u32 0, .int .u16 0, .int .u16 0, .bool false, .bool false, .bool false, .slice A9 m9 c9] 26))
  have b4 := below_then B3.out (Nat.le_refl _) hb
  have B4 := Lib.hid (b4.alloc b4.size (.cells #[.int .u32 0, .int .u16 0, .int .u16 0, .bool false, .bool false, .bool false, .slice A9 m9 c9] 26))
  clear hb b4 K0c K1c K2c C3 O3 B3 T3 G3 D3 HGS HGD
  have x2 : (w5.alloc (.cells #[.int .u32 0, .int .u16 0, .int .u16 0, .bool false, .bool false, .bool false, .slice A9 m9 c9] 26)).cell? ⟨gc, 2, none⟩ = some (.slice A1 20 c1) := C4.out.cell 2
  have y0 : (w5.alloc (.cells #[.int .u32 0, .int .u16 0, .int .u16 0, .bool false, .bool false, .bool false, .slice A9 m9 c9] 26)).cell? ⟨w.heap.size + 1 + 1, 0, none⟩ = some (.int .u32 5) := K2d.out.cell 0
  have y1 : (w5.alloc (.cells #[.int .u32 0, .int .u16 0, .int .u16 0, .bool false, .bool false, .bool false, .slice A9 m9 c9] 26)).cell? ⟨w.heap.size + 1 + 1, 1, none⟩ = some (.int .u32 6) := K2d.out.cell 1
  have y2 : (w5.alloc (.cells #[.int .u32 0, .int .u16 0, .int .u16 0, .bool false, .bool false, .bool false, .slice A9 m9 c9] 26)).cell? ⟨w.heap.size + 1 + 1, 2, none⟩ = some (.slice (some ⟨w.heap.size, 0, none⟩) 1 1) := K2d.out.cell 2
  have y3 : (w5.alloc (.cells #[.int .u32 0, .int .u16 0, .int .u16 0, .bool false, .bool false, .bool false, .slice A9 m9 c9] 26)).cell? ⟨w.heap.size + 1 + 1, 3, none⟩ = some (.slice (some ⟨w.heap.size + 1, 0, none⟩) 1 1) := K2d.out.cell 3
  have t0 : (w5.alloc (.cells #[.int .u32 0, .int .u16 0, .int .u16 0, .bool false, .bool false, .bool false, .slice A9 m9 c9] 26)).cell? ⟨gt, 0, none⟩ = some (.int .u32 5) := T4.out.cell 0
  have t1 : (w5.alloc (.cells #[.int .u32 0, .int .u16 0, .int .u16 0, .bool false, .bool false, .bool false, .slice A9 m9 c9] 26)).cell? ⟨gt, 1, none⟩ = some (.int .u32 6) := T4.out.cell 1
  have t2 : (w5.alloc (.cells #[.int .u32 0, .int .u16 0, .int .u16 0, .bool false, .bool false, .bool false, .slice A9 m9 c9] 26)).cell? ⟨gt, 2, none⟩ = some (.slice As 1 cs) := T4.out.cell 2
  have t3 : (w5.alloc (.cells #[.int .u32 0, .int .u16 0, .int .u16 0, .bool false, .bool false, .bool false, .slice A9 m9 c9] 26)).cell? ⟨gt, 3, none⟩ = some (.slice Ad 1 cd) := T4.out.cell 3
  go_wp2_with fail
  generalize w5.alloc (.cells #[.int .u32 0, .int .u16 0, .int .u16 0, .bool false, .bool false, .bool false, .slice A9 m9 c9] 26) = w6 at K0d K1d G4 D4 B4 ⊢
  refine (sameS_yes 5 6 (some ⟨w.heap.size, 0, none⟩) As (some ⟨w.heap.size + 1, 0, none⟩) Ad 1 1 1 cs 1 1 1 cd [(2, 3)] (ints [7]) w6 (by decide) (by decide) rfl rfl rfl rfl (HG.out w6 K0d.out) G4.out.rg (HI.out w6 K1d.out) D4.out.ri).mono ?_
  rintro e w7 ⟨rfl, hb⟩
  go_wp2_with fail
  go_ret
  exact ⟨rfl, below_then B4.out (Nat.le_refl _) hb⟩
end Go.Proofs.Ytalgkokgaibloaa
