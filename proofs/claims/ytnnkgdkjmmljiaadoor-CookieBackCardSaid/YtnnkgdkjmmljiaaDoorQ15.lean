/-
  Package mac: Sum.
  The reference of layer 6: its constants, bytes padded, the words of a block.
  The reference of layer 6: the words of a block.
-/
import Derived.Test.YtnnkgdkjmmljiaaDoorQ14
import Derived.Test.YtnnkgdkjmmljiaaDoorQ13
import Derived.Test.YtnnkgdkjmmljiaaDoorQ2
namespace Go.Proofs.YtnnkgdkjmmljiaaDoor
open Go.RowKit
set_option linter.unusedVariables false
set_option maxRecDepth 100000

theorem masked_54 (q : Nat) (bs : List UInt8) (w : World) (hb : bs.length = 64) (hq : Blk w q 55 (row8 bs)) :
    Calls Tryd.prog 34 #[.int .u8 54, .pointer (some ⟨q, 0, none⟩)] w fun e w' => e = .returned (.agg (row8 (msk 54 bs))) ∧ Below w.heap.size w w' := masked_any 54 q bs w hb hq
theorem masked_92 (q : Nat) (bs : List UInt8) (w : World) (hb : bs.length = 64) (hq : Blk w q 55 (row8 bs)) :
    Calls Tryd.prog 34 #[.int .u8 92, .pointer (some ⟨q, 0, none⟩)] w fun e w' => e = .returned (.agg (row8 (msk 92 bs))) ∧ Below w.heap.size w w' := masked_any 92 q bs w hb hq

set_option maxHeartbeats 2000000 in
theorem macSum_any (A : Option Addr) (n c : Nat) (ks : List UInt8) (A' : Option Addr) (n' c' : Nat) (ts : List UInt8) (w : World) (hT : Tabs w) (hn : n ≤ c) (hc : c ≤ maxLen) (hx : ks.length = n) (hr : Rd w w.heap.size A ks) (hl : n ≤ 1152921504606800000)
    (hn' : n' ≤ c') (hc' : c' ≤ maxLen) (hx' : ts.length = n') (hr' : Rd w w.heap.size A' ts) (hl' : n' ≤ 1152921504606800000) :
    Calls Tryd.prog 22 #[.slice A n c, .slice A' n' c'] w fun e w' => e = .returned (.agg (row8 (mac ks ts))) ∧ Below w.heap.size w w' := by
  have h2 := hT.2.2
  obtain ⟨S, hS⟩ : ∃ S, S = mac ks ts := ⟨_, rfl⟩
  have hsz : (row8 S).size = 32 := by rw [size_row8, hS, length_mac]
  obtain ⟨L, hL⟩ : ∃ L, L = blk ks := ⟨_, rfl⟩
  have hLl : L.length = 64 := by rw [hL, length_blk]
  have hszL : (row8 L).size = 64 := by rw [size_row8, hLl]
  obtain ⟨M1, hM1⟩ : ∃ M1, M1 = msk 54 L := ⟨_, rfl⟩
  have hM1l : M1.length = 64 := by rw [hM1, length_msk, hLl]
  obtain ⟨M2, hM2⟩ : ∃ M2, M2 = msk 92 L := ⟨_, rfl⟩
  have hM2l : M2.length = 64 := by rw [hM2, length_msk, hLl]
  obtain ⟨D, hD⟩ : ∃ D, D = dig (M1 ++ ts) := ⟨_, rfl⟩
  have hDl : D.length = 32 := by rw [hD, length_dig]
  have hszD : (row8 D).size = 32 := by rw [size_row8, hDl]
  have HS := Lib.hid (show S = dig (M2 ++ D) by rw [hS, hM2, hD, hM1, hL]; rfl)
  rw [← hS]
  have HL := Lib.hid hL
  have HM1 := Lib.hid hM1
  have HM2 := Lib.hid hM2
  have HD := Lib.hid hD
  have HLl := Lib.hid hLl
  have HM1l := Lib.hid hM1l
  have HM2l := Lib.hid hM2l
  have HDl := Lib.hid hDl
  have HX' := Lib.hid hx'
  have hst64 := fun W : World => run_storeCells_new (P := Tryd.prog) W 55 #[.int .u8 0, .int .u8 0, .int .u8 0, .int .u8 0, .int .u8 0, .int .u8 0, .int .u8 0, .int .u8 0, .int .u8 0, .int .u8 0, .int .u8 0, .int .u8 0, .int .u8 0, .int .u8 0, .int .u8 0, .int .u8 0, .int .u8 0, .int .u8 0, .int .u8 0, .int .u8 0, .int .u8 0, .int .u8 0, .int .u8 0, .int .u8 0, .int .u8 0, .int .u8 0, .int .u8 0, .int .u8 0, .int .u8 0, .int .u8 0, .int .u8 0, .int .u8 0, .int .u8 0, .int .u8 0, .int .u8 0, .int .u8 0, .int .u8 0, .int .u8 0, .int .u8 0, .int .u8 0, .int .u8 0, .int .u8 0, .int .u8 0, .int .u8 0, .int .u8 0, .int .u8 0, .int .u8 0, .int .u8 0, .int .u8 0, .int .u8 0, .int .u8 0, .int .u8 0, .int .u8 0, .int .u8 0, .int .u8 0, .int .u8 0, .int .u8 0, .int .u8 0, .int .u8 0, .int .u8 0, .int .u8 0, .int .u8 0, .int .u8 0, .int .u8 0] (row8 L) ((show (Tryd.prog.info? 55).map (·.size) = some 64 by kernel_rfl).trans (by rw [hszL])) (by rw [hszL]; rfl) (row8_one _)
  have hst32 := fun W : World => run_storeCells_new (P := Tryd.prog) W 46 #[.int .u8 0, .int .u8 0, .int .u8 0, .int .u8 0, .int .u8 0, .int .u8 0, .int .u8 0, .int .u8 0, .int .u8 0, .int .u8 0, .int .u8 0, .int .u8 0, .int .u8 0, .int .u8 0, .int .u8 0, .int .u8 0, .int .u8 0, .int .u8 0, .int .u8 0, .int .u8 0, .int .u8 0, .int .u8 0, .int .u8 0, .int .u8 0, .int .u8 0, .int .u8 0, .int .u8 0, .int .u8 0, .int .u8 0, .int .u8 0, .int .u8 0, .int .u8 0] (row8 D) ((show (Tryd.prog.info? 46).map (·.size) = some 32 by kernel_rfl).trans (by rw [hszD])) (by rw [hszD]; rfl) (row8_one _)
  have hmf : ∀ (fn : Fn) (first cap : Array Value) (w : World), (Instr.makeFunc fn first cap).run Tryd.prog w = .ok (.func fn first cap) w := fun _ _ _ _ => rfl
  have k1 : Blk (w.alloc (.cells #[.int .u8 0, .int .u8 0, .int .u8 0, .int .u8 0, .int .u8 0, .int .u8 0, .int .u8 0, .int .u8 0, .int .u8 0, .int .u8 0, .int .u8 0, .int .u8 0, .int .u8 0, .int .u8 0, .int .u8 0, .int .u8 0, .int .u8 0, .int .u8 0, .int .u8 0, .int .u8 0, .int .u8 0, .int .u8 0, .int .u8 0, .int .u8 0, .int .u8 0, .int .u8 0, .int .u8 0, .int .u8 0, .int .u8 0, .int .u8 0, .int .u8 0, .int .u8 0] 46)) w.heap.size 46 (row8 (List.replicate 32 0)) := Blk.new _ _ _
  have B1 : Below w.heap.size w (w.alloc (.cells #[.int .u8 0, .int .u8 0, .int .u8 0, .int .u8 0, .int .u8 0, .int .u8 0, .int .u8 0, .int .u8 0, .int .u8 0, .int .u8 0, .int .u8 0, .int .u8 0, .int .u8 0, .int .u8 0, .int .u8 0, .int .u8 0, .int .u8 0, .int .u8 0, .int .u8 0, .int .u8 0, .int .u8 0, .int .u8 0, .int .u8 0, .int .u8 0, .int .u8 0, .int .u8 0, .int .u8 0, .int .u8 0, .int .u8 0, .int .u8 0, .int .u8 0, .int .u8 0] 46)) := below_new _ _
  have z1 : (w.alloc (.cells #[.int .u8 0, .int .u8 0, .int .u8 0, .int .u8 0, .int .u8 0, .int .u8 0, .int .u8 0, .int .u8 0, .int .u8 0, .int .u8 0, .int .u8 0, .int .u8 0, .int .u8 0, .int .u8 0, .int .u8 0, .int .u8 0, .int .u8 0, .int .u8 0, .int .u8 0, .int .u8 0, .int .u8 0, .int .u8 0, .int .u8 0, .int .u8 0, .int .u8 0, .int .u8 0, .int .u8 0, .int .u8 0, .int .u8 0, .int .u8 0, .int .u8 0, .int .u8 0] 46)).heap.size = w.heap.size + 1 := by simp
  clear hS hL hM1 hM2 hD hLl hM1l hM2l hDl hx'
  go_enter Tryd.func22, Tryd.ntmps22
  go_wp2_with fail
  generalize w.alloc (.cells #[.int .u8 0, .int .u8 0, .int .u8 0, .int .u8 0, .int .u8 0, .int .u8 0, .int .u8 0, .int .u8 0, .int .u8 0, .int .u8 0, .int .u8 0, .int .u8 0, .int .u8 0, .int .u8 0, .int .u8 0, .int .u8 0, .int .u8 0, .int .u8 0, .int .u8 0, .int .u8 0, .int .u8 0, .int .u8 0, .int .u8 0, .int .u8 0, .int .u8 0, .int .u8 0, .int .u8 0, .int .u8 0, .int .u8 0, .int .u8 0, .int .u8 0, .int .u8 0] 46) = w1 at k1 B1 z1 ⊢
  refine (blockOf_any A n c ks w1 (hT.below B1 h2) hn hc hx ((hr.below B1).more B1.size) (by omega)).mono ?_
  rintro e w2 ⟨rfl, hb2⟩
  rw [← HL.out]
  have k2 := (k1.below hb2 k1.lt).alloc (.cells (row8 L) 55)
  have B2 := (B1.trans (hb2.mono B1.size)).alloc (Nat.le_trans B1.size hb2.size) (.cells (row8 L) 55)
  have l2 : Blk (w2.alloc (.cells (row8 L) 55)) w2.heap.size 55 (row8 L) := Blk.new _ _ _
  have s2 : w1.heap.size ≤ w2.heap.size := hb2.size
  obtain ⟨q, hq⟩ : ∃ q, q = w2.heap.size := ⟨_, rfl⟩
  rw [← hq] at l2 s2
  clear k1 B1 hb2
  go_wp2_with fail
  rw [← hq]
  generalize w2.alloc (.cells (row8 L) 55) = w3 at k2 B2 l2 ⊢
  clear hq
  clear hst64
  refine (masked_54 q L w3 HLl.out l2).mono ?_
  rintro e w4 ⟨rfl, hb4⟩
  rw [← HM1.out]
  have k3 := k2.below hb4 k2.lt
  have l3 := l2.below hb4 l2.lt
  have B3 := B2.trans (hb4.mono B2.size)
  clear k2 B2 l2 hb4
  go_wp2_with fail
  refine (digest_any M1 A' n' c' ts w4 HM1l.out (hT.below B3 h2) hn' hc' HX'.out ((hr'.below B3).more B3.size) hl').mono ?_
  rintro e w5 ⟨rfl, hb5⟩
  rw [← HD.out]
  have k4 := (k3.below hb5 k3.lt).alloc (.cells (row8 D) 46)
  have l4 := (l3.below hb5 l3.lt).alloc (.cells (row8 D) 46)
  have B4 := (B3.trans (hb5.mono B3.size)).alloc (Nat.le_trans B3.size hb5.size) (.cells (row8 D) 46)
  have d4 : Blk (w5.alloc (.cells (row8 D) 46)) w5.heap.size 46 (row8 D) := Blk.new _ _ _
  obtain ⟨r, hr5⟩ : ∃ r, r = w5.heap.size := ⟨_, rfl⟩
  rw [← hr5] at d4
  clear k3 l3
  go_wp2_with fail
  rw [← hr5]
  generalize w5.alloc (.cells (row8 D) 46) = w6 at k4 l4 B4 d4 ⊢
  have hr0 : w.heap.size ≤ r := by have := B3.trans (hb5.mono B3.size); rw [hr5]; exact this.size
  clear hr5 hst32 B3 hb5
  have T4 := hT.below B4 h2
  have s4 := B4.size
  have hsl : ∀ W : World, (Instr.sliceAt 46 (.pointer (some ⟨r, 0, none⟩)) none none none).run Tryd.prog W = .ok (.slice (some ⟨r, 0, none⟩) 32 32) W := fun W => slice_whole Tryd.underlying46 (by kernel_rfl) _ _ W
  have d4R : Rd w6 w6.heap.size (some ⟨r, 0, none⟩) D := RowAt.rd d4 0 D (fun j hj => by simp)
  go_region_with (first
    | (go_at_call 34; refine (masked_92 q L _ HLl.out (l4.drewN 1)).mono ?_; rintro e w7 ⟨rfl, hb7⟩; rw [← HM2.out])
    | (go_at_call 35; have b7 := hb7.size; have k7 := (k4.drewN 1).below hb7 k4.lt; have B7 := (below_drewN B4 1).trans (hb7.mono s4); refine (digest_any M2 _ 32 32 D _ HM2l.out (hT.below B7 h2) (by omega) (by unfold maxLen; omega) HDl.out (((d4R.drewN 1).below hb7).more b7) (by omega)).mono ?_; rintro e w8 ⟨rfl, hb8⟩; rw [← HS.out]; have k8 := k7.below hb8 k7.lt; have B8 := B7.trans (hb8.mono B7.size); have hstr := run_storeCells_blk (P := Tryd.prog) k8 (cs := row8 S) (by rw [hsz]; rfl) (row8_one _)))
  all_goals (go_wp2_with fail; exact bodyPost_ret (v := .agg (row8 S)) (results_cell_row rfl _ _ _ _ _ _ _ rfl (k8.setRow (row8 S)) Tryd.underlying46 rfl ((show (Tryd.prog.info? 46).map (·.size) = some 32 by kernel_rfl).trans (by rw [hsz]))) rfl ⟨rfl, Below.setRow_ B8 _ _ (Nat.le_refl _)⟩)
end Go.Proofs.YtnnkgdkjmmljiaaDoor

namespace Go.Proofs.YtnnkgdkjmmljiaaDoor
open Go.RowKit
set_option linter.unusedVariables false
set_option maxRecDepth 100000

theorem constants_any (w : World) :
    Calls Tryd.prog 48 #[] w fun e w' => e = .returned (.slice (some ⟨w.heap.size, 0, none⟩) 64 64) ∧ Blk w' w.heap.size 23 (wrow K) ∧ Below w.heap.size w w' := by
  have hb : Blk (w.alloc (.cells (wrow K) 23)) w.heap.size 23 (wrow K) := Blk.new _ _ _
  have HB := Lib.hid hb
  clear hb
  go_enter Tryd.func48, Tryd.ntmps48
  go_wp2_with fail
  go_ret
  exact ⟨rfl, HB.out, below_new _ _⟩

theorem be8_snoc (m j : Nat) (h : j < 8) : (be8 m).take (8 - (j + 1)) ++ [byt (m / 2 ^ (8 * j))] = (be8 m).take (8 - j) := by
  have h8 : j = 0 ∨ j = 1 ∨ j = 2 ∨ j = 3 ∨ j = 4 ∨ j = 5 ∨ j = 6 ∨ j = 7 := by omega
  rcases h8 with rfl | rfl | rfl | rfl | rfl | rfl | rfl | rfl <;> simp [be8]
theorem rd_oneS (w : World) (t : TypeId) (v : Int) (b : UInt8) (h : v = (b.toNat : Int)) : Rd (w.alloc (.cells #[.int .u8 v] t)) (w.heap.size + 1) (some ⟨w.heap.size, 0, none⟩) [b] := by
  subst h
  exact ((RowAt.new w t [b]).rd 0 [b] (fun j hj => by simp)).more (by simp)

set_option maxHeartbeats 2000000 in
theorem whole_any (A : Option Addr) (n c : Nat) (xs : List UInt8) (w : World) (hn : n ≤ 1048576) (hx : xs.length = n) (hr : Rd w w.heap.size A xs) :
    Calls Tryd.prog 49 #[.slice A n c] w fun e w' => ∃ A2 n2 c2, e = .returned (.slice A2 n2 c2) ∧ Own8 w' 5 w.heap.size A2 n2 c2 (xs ++ pad n) ∧ Below w.heap.size w w' := by
  obtain ⟨i8, h8⟩ := Tryd.ty8
  have HX := Lib.hid hx
  obtain ⟨z, hz⟩ : ∃ z, z = zer n := ⟨_, rfl⟩
  have hz64 : z < 64 := by rw [hz]; exact zer_lt n
  have hzz : z = (119 - n % 64) % 64 := hz
  have HZ := Lib.hid hz
  have HZZ := Lib.hid hzz
  clear hx hz hzz
  go_enter Tryd.func49, Tryd.ntmps49
  go_wp2_with fail
  refine (copyBytes_any _ _ _ _ _ (by omega) HX.out hr).mono ?_
  rintro e w1 ⟨A1, c1, rfl, ho, hb⟩
  have h1 := rd_oneS w1 5 128 128 rfl
  have h2 := ho.alloc (.cells #[.int .u8 128] 5)
  have hb1 := hb.alloc hb.size (.cells #[.int .u8 128] 5)
  have hz1 := hb.size
  clear ho hb
  go_wp2_with (at_builtin; refine wpList_append8 h8 _ rfl _ _ rfl w.heap.size _ _ _ _ rfl h2 _ _ _ _ _ rfl rfl h1 (by omega) (by simp; omega) ?_; intro A2 c2 w2 hq2 hg2 ho2)
  have hB2 : Below w.heap.size w w2 := hb1.grown hg2 (by simp; omega) h2.blk
  clear h1 h2 hb1 hg2 ho2
  go_loopw [3] (fun v wr => ∃ (k N : Nat) (A3 : Option Addr) (c3 : Nat), k ≤ z ∧ N = n + 1 + k ∧ v = .slice A3 N c3 ∧ Own8 wr 5 w.heap.size A3 N c3 (xs ++ [128] ++ List.replicate k 0) ∧ Below w.heap.size w wr) (fun v _ => n + 1 + z - lenOf_ v)
  case atStart => exact ⟨0, n + 1, A2, c2, by omega, rfl, rfl, by simpa using hq2, hB2⟩
  case round =>
    clear hq2 hB2
    obtain ⟨k, N, A3, c3, hk, hN, rfl, ho, hB⟩ := hrel
    have hzz := HZZ.out
    have hNs : N ≤ 1048700 := by omega
    have HN := Lib.hid hN
    by_cases hlt : k < z
    · have hbool : (((N : Int) % 64) != 56) = true := by simp; omega
      clear hzz hN
      have h1 := rd_oneS wr 5 0 0 rfl
      have h2 := ho.alloc (.cells #[.int .u8 0] 5)
      have hz2 := hB.size
      have hb1 := hB.alloc hz2 (.cells #[.int .u8 0] 5)
      clear ho
      go_wp2_with (at_builtin; refine wpList_append8 h8 _ rfl _ _ rfl w.heap.size _ _ _ _ rfl h2 _ _ _ _ _ rfl rfl h1 (by omega) (by simp; omega) ?_; intro A4 c4 w4 h4 hg4 ho4)
      go_roundw
      case rel =>
        refine ⟨k + 1, N + 1, A4, c4, by omega, by have := HN.out; omega, rfl, ?_, hb1.grown hg4 (by simp; omega) h2.blk⟩
        rw [List.append_assoc, ← List.replicate_succ'] at h4
        exact h4
      case measure => have := HN.out; simp [lenOf_]; omega
    · have hbool : (((N : Int) % 64) != 56) = false := by
        have : k = z := by omega
        simp
        omega
      clear hzz hN
      have hkz : k = z := by omega
      have HKZ := Lib.hid hkz
      clear hkz hlt
      go_wp2_with fail
      have HO := Lib.hid ho
      have HBB := Lib.hid hB
      go_loopw [3, 4] (fun v i wr' => ∃ (j M : Nat) (A4 : Option Addr) (c4 : Nat), j ≤ 8 ∧ M ≤ 1048716 ∧ M + j = N + 8 ∧ i = .int .i64 ((j : Int) - 1) ∧ v = .slice A4 M c4 ∧ Own8 wr' 5 w.heap.size A4 M c4 (xs ++ [128] ++ List.replicate k 0 ++ (be8 (8 * n)).take (8 - j)) ∧ Below w.heap.size w wr') (fun _ i _ => (intOf i + 1).toNat)
      case atStart => exact ⟨8, N, A3, c3, by omega, by omega, rfl, by go_num, rfl, by simpa using ho, hB⟩
      case round =>
        clear ho hB
        obtain ⟨j, M, A4, c4, hj, hM, hMN, rfl, rfl, ho, hB⟩ := hrel
        rcases j with _ | j
        · have h9 : decide (((0 : Nat) : Int) - 1 ≥ 0) = false := by decide
          have HMN := Lib.hid hMN
          clear hMN
          go_wp2_with fail
          go_ret
          refine ⟨A4, M, c4, rfl, ?_, hB⟩
          rw [show xs ++ pad n = xs ++ [128] ++ List.replicate k 0 ++ (be8 (8 * n)).take (8 - 0) from by
            unfold pad
            rw [← HZ.out, ← HKZ.out]
            simp [be8]]
          exact ho
        · rw [show (((j + 1 : Nat) : Int) - 1) = (j : Int) from by omega]
          have hB' := hB.size
          have h1 := rd_oneS wr 5 ((8 * (n : Int)) / 2 ^ (8 * j) % 256) (byt (8 * n / 2 ^ (8 * j))) (by rw [byt_toNat, Int.natCast_ediv, Int.natCast_mul, Int.natCast_pow]; rfl)
          have h2 := ho.alloc (.cells #[.int .u8 ((8 * (n : Int)) / 2 ^ (8 * j) % 256)] 5)
          have hb1 := hB.alloc hB' (.cells #[.int .u8 ((8 * (n : Int)) / 2 ^ (8 * j) % 256)] 5)
          have HMN := Lib.hid hMN
          clear ho hMN
          go_wp2_with (at_builtin; refine wpList_append8 h8 _ rfl _ _ rfl w.heap.size _ _ _ _ rfl h2 _ _ _ _ _ rfl rfl h1 (by omega) (by simp; omega) ?_; intro A5 c5 w5 h5 hg5 ho5)
          go_roundw
          case rel =>
            refine ⟨j, M + 1, A5, c5, by omega, by have := HMN.out; omega, by have := HMN.out; omega, by go_num, rfl, ?_, hb1.grown hg5 (by simp; omega) h2.blk⟩
            rw [List.append_assoc, be8_snoc (8 * n) j (by omega)] at h5
            exact h5
          case measure => simp [intOf]
end Go.Proofs.YtnnkgdkjmmljiaaDoor

namespace Go.Proofs.YtnnkgdkjmmljiaaDoor
open Go.RowKit
set_option linter.unusedVariables false
set_option maxRecDepth 100000

theorem info32 : (Tryd.prog.info? 23).map (fun i => (i.zero, i.size, i.bytes)) = some (some (.int .u32 0), 1, 4) := by kernel_rfl
/-- make([]uint32, n). -/
theorem run_make32 (n : Nat) (hn : n ≤ 1000) (w : World) :
    (Instr.makeSlice 54 (.int .i64 n) (.int .i64 n)).run Tryd.prog w = .ok (.slice (some ⟨w.heap.size, 0, none⟩) n n) (w.alloc (.cells (wrow (List.replicate n 0)) 23)) := by
  have hi := info32
  cases hq : Tryd.prog.info? 23 with
  | none => rw [hq] at hi; cases hi
  | some i =>
    rw [hq] at hi
    simp only [Option.map_some, Option.some.injEq, Prod.mk.injEq] at hi
    obtain ⟨h1, h2, h3⟩ := hi
    have h := run_make (P := Tryd.prog) w 54 23 i _ Tryd.underlying54 hq h1 .i64 .i64 n n (by omega) (by omega) (by rw [h3]; omega) (by omega)
    simp only [Int.toNat_natCast, h2, Nat.mul_one] at h
    rw [h]
    congr 3
    apply Array.toList_inj.1
    show (madeCells #[Value.int .u32 0] n).toList = _
    rw [toList_madeCells_one]
    simp [wrow]
theorem shr_lit (x : R) (n : Nat) (d : Int) (hd : d = 2 ^ n) : (x.toNat : Int) / d = ((dwn x n).toNat : Int) := by
  subst hd
  exact shr_int x n
theorem refRight_quiet (x : R) (L : Int) (w : World) (h : (decide (1 ≤ L) && decide (L < 32)) = true) :
    Calls Tryd.prog 51 #[rv x, .int .i64 L] w fun e w' => e = .returned (rv (ror x L.toNat)) ∧ ∃ k, w' = w.drewN k := refRight_lit x L w h

set_option maxHeartbeats 2000000 in
theorem words_any (b o c : Nat) (bs : List UInt8) (w : World) (hb : bs.length = 64) (hbl : b < w.heap.size) (hcell : ∀ i, i < 64 → w.cell? ⟨b, o + i, none⟩ = some (.int .u8 ((bs.getD i 0).toNat : Int))) :
    Calls Tryd.prog 50 #[.slice (some ⟨b, o, none⟩) 64 c] w fun e w' => e = .returned (.slice (some ⟨w.heap.size, 0, none⟩) 64 64) ∧ Blk w' w.heap.size 23 (wrow (sch bs 64)) ∧ Below w.heap.size w w' := by
  have hmk : ∀ W : World, (Instr.makeSlice 54 (.int .i64 64) (.int .i64 64)).run Tryd.prog W = .ok (.slice (some ⟨W.heap.size, 0, none⟩) 64 64) (W.alloc (.cells (wrow (List.replicate 64 0)) 23)) := fun W => run_make32 64 (by omega) W
  have HC := Lib.hid hcell
  obtain ⟨S, hS⟩ : ∃ S, S = sch bs 64 := ⟨_, rfl⟩
  have HS := Lib.hid hS
  rw [← hS]
  clear hS hcell
  obtain ⟨Z, hZ⟩ : ∃ Z, Z = wrow (List.replicate 64 0) := ⟨_, rfl⟩
  rw [← hZ] at hmk
  have hg0 : Blk (w.alloc (.cells Z 23)) w.heap.size 23 (wrow (sch bs 0)) := by rw [hZ]; exact Blk.new _ _ _
  clear hZ
  go_enter Tryd.func50, Tryd.ntmps50
  go_wp2_with fail
  go_loopw [4] (fun i wr => ∃ k : Nat, k ≤ 64 ∧ i = .int .i64 k ∧ Blk wr w.heap.size 23 (wrow (sch bs k)) ∧ Below w.heap.size w wr) (fun i _ => 64 - (intOf i).toNat)
  case atStart => exact ⟨0, by omega, rfl, hg0, below_new _ _⟩
  case round =>
    clear hg0
    obtain ⟨k, hk, rfl, hg, hB⟩ := hrel
    by_cases hlt : k < 16
    · obtain ⟨m0, e0⟩ : ∃ m, m = 4 * k := ⟨_, rfl⟩
      obtain ⟨m1, e1⟩ : ∃ m, m = 4 * k + 1 := ⟨_, rfl⟩
      obtain ⟨m2, e2⟩ : ∃ m, m = 4 * k + 2 := ⟨_, rfl⟩
      obtain ⟨m3, e3⟩ : ∃ m, m = 4 * k + 3 := ⟨_, rfl⟩
      have c0 := (hB.cell (p := ⟨b, o + m0, none⟩) hbl).trans (HC.out m0 (by omega))
      have c1 := (hB.cell (p := ⟨b, o + m1, none⟩) hbl).trans (HC.out m1 (by omega))
      have c2 := (hB.cell (p := ⟨b, o + m2, none⟩) hbl).trans (HC.out m2 (by omega))
      have c3 := (hB.cell (p := ⟨b, o + m3, none⟩) hbl).trans (HC.out m3 (by omega))
      obtain ⟨x0, hx0⟩ : ∃ x, x = bs.getD m0 0 := ⟨_, rfl⟩
      obtain ⟨x1, hx1⟩ : ∃ x, x = bs.getD m1 0 := ⟨_, rfl⟩
      obtain ⟨x2, hx2⟩ : ∃ x, x = bs.getD m2 0 := ⟨_, rfl⟩
      obtain ⟨x3, hx3⟩ : ∃ x, x = bs.getD m3 0 := ⟨_, rfl⟩
      rw [← hx0] at c0
      rw [← hx1] at c1
      rw [← hx2] at c2
      rw [← hx3] at c3
      have HW : Hid (wd bs k = be4 x0 x1 x2 x3) := Lib.hid (by unfold wd; rw [hx0, hx1, hx2, hx3, e0, e1, e2, e3])
      have l0 := x0.toNat_lt
      have l1 := x1.toNat_lt
      have l2 := x2.toNat_lt
      have l3 := x3.toNat_lt
      have w0 : IntKind.i64.wrap (4 * (k : Int)) = (m0 : Int) := by rw [IntWalk.i64_in _ (by omega)]; omega
      have w1 : IntKind.i64.wrap ((m0 : Int) + 1) = (m1 : Int) := by rw [IntWalk.i64_in _ (by omega)]; omega
      have w2 : IntKind.i64.wrap ((m0 : Int) + 2) = (m2 : Int) := by rw [IntWalk.i64_in _ (by omega)]; omega
      have w3 : IntKind.i64.wrap ((m0 : Int) + 3) = (m3 : Int) := by rw [IntWalk.i64_in _ (by omega)]; omega
      have i0 : m0 < 64 := by omega
      have i1 : m1 < 64 := by omega
      have i2 : m2 < 64 := by omega
      have i3 : m3 < 64 := by omega
      have ck := (hg.cell k).trans (wrow_at (by rw [length_sch]; omega))
      have fk := hg.frozen k
      have ik : k < 64 := by omega
      have hb16 : decide ((k : Int) < 16) = true := by simp; omega
      clear hx0 hx1 hx2 hx3 e0 e1 e2 e3
      go_wp2_with fail
      refine wp_region_quiet_tail 36 (by kernel_rfl) (by kernel_rfl) ?_
      simp only [List.take_succ_cons, List.take_zero, List.drop_succ_cons, List.drop_zero]
      repeat (go_big_quiet_step (fail))
      refine wpQuiet_nil ?_
      rintro _ ⟨m, rfl⟩
      go_wp2_with fail
      go_roundw
      case rel =>
        refine ⟨k + 1, by omega, by go_num, ?_, (below_drewN hB m).setCell (Nat.le_refl _) _⟩
        rw [sch_low hlt]
        refine (hg.drewN m).putv k _ _ ?_
        rw [HW.out, be4_toNat, show (2 : Nat) ^ 24 = 16777216 from rfl, show (2 : Nat) ^ 16 = 65536 from rfl, show (2 : Nat) ^ 8 = 256 from rfl]
        omega
      case measure => simp [intOf]; omega
    · have hb16 : decide ((k : Int) < 16) = false := by simp; omega
      by_cases hlt6 : k < 64
      · obtain ⟨p, hp⟩ : ∃ p, p = k - 15 := ⟨_, rfl⟩
        obtain ⟨q, hq⟩ : ∃ q, q = k - 2 := ⟨_, rfl⟩
        obtain ⟨r, hr⟩ : ∃ r, r = k - 16 := ⟨_, rfl⟩
        obtain ⟨s, hs⟩ : ∃ s, s = k - 7 := ⟨_, rfl⟩
        have cp := (hg.cell p).trans (wrow_at (by rw [length_sch]; omega))
        have cq := (hg.cell q).trans (wrow_at (by rw [length_sch]; omega))
        have cr := (hg.cell r).trans (wrow_at (by rw [length_sch]; omega))
        have cs := (hg.cell s).trans (wrow_at (by rw [length_sch]; omega))
        have ck := (hg.cell k).trans (wrow_at (by rw [length_sch]; omega))
        have fk := hg.frozen k
        have wp' : (k : Int) - 15 = (p : Int) := by omega
        have wq' : (k : Int) - 2 = (q : Int) := by omega
        have wp : IntKind.i64.wrap ((k : Int) - 15) = (p : Int) := by rw [IntWalk.i64_in _ (by omega)]; omega
        have wq : IntKind.i64.wrap ((k : Int) - 2) = (q : Int) := by rw [IntWalk.i64_in _ (by omega)]; omega
        have wr' : IntKind.i64.wrap ((k : Int) - 16) = (r : Int) := by rw [IntWalk.i64_in _ (by omega)]; omega
        have ws : IntKind.i64.wrap ((k : Int) - 7) = (s : Int) := by rw [IntWalk.i64_in _ (by omega)]; omega
        have lp : p < 64 := by omega
        have lq : q < 64 := by omega
        have lr : r < 64 := by omega
        have ls : s < 64 := by omega
        have lk : k < 64 := hlt6
        have HP := Lib.hid hp
        have HQ := Lib.hid hq
        have HR := Lib.hid hr
        have HSS := Lib.hid hs
        clear hp hq hr hs
        go_wp2_with fail
        refine wp_region_quiet_tail 32 (by kernel_rfl) (by kernel_rfl) ?_
        simp only [List.take_succ_cons, List.take_zero, List.drop_succ_cons, List.drop_zero]
        repeat (go_big_quiet_step ((go_at_call 51; exact still_any (refRight_lit _ _ _ rfl))))
        refine wpQuiet_nil ?_
        rintro _ ⟨m, rfl⟩
        go_wp2_with fail
        go_roundw
        case rel =>
          refine ⟨k + 1, by omega, by go_num, ?_, (below_drewN hB m).setCell (Nat.le_refl _) _⟩
          rw [sch_high hlt]
          refine (hg.drewN m).putv k _ _ ?_
          rw [shr_lit _ 3 8 rfl, shr_lit _ 10 1024 rfl, xor_u32, xor_u32, xor_u32, xor_u32]
          unfold nxt low0 low1
          rw [← HP.out, ← HQ.out, ← HR.out, ← HSS.out]
          simp only [BitVec.toNat_add, show (2 : Nat) ^ 32 = 4294967296 from rfl]
          omega
        case measure => simp [intOf]; omega
      · have hk64 : k = 64 := by omega
        have hb64 : decide ((k : Int) < 64) = false := by simp; omega
        rw [show sch bs k = S by rw [HS.out, hk64]] at hg
        clear hk64
        go_wp2_with fail
        go_ret
        exact ⟨rfl, hg, hB⟩
end Go.Proofs.YtnnkgdkjmmljiaaDoor
