/-
  The reference of layer 6: its constants, bytes padded, the words of a block.
-/
import Derived.Test.YtdhbafmccphelaaDoorShaX
import Derived.Test.YtdhbafmccphelaaDoorTy
namespace Go.Proofs.YtdhbafmccphelaaDoor
open Go.RowKit
set_option linter.unusedVariables false
set_option maxRecDepth 100000

theorem constants_any (w : World) :
    Calls Tryd.prog 25 #[] w fun e w' => e = .returned (.slice (some ⟨w.heap.size, 0, none⟩) 64 64) ∧ Blk w' w.heap.size 40 (wrow K) ∧ Below w.heap.size w w' := by
  have hb : Blk (w.alloc (.cells (wrow K) 40)) w.heap.size 40 (wrow K) := Blk.new _ _ _
  have HB := Lib.hid hb
  clear hb
  go_enter Tryd.func25, Tryd.ntmps25
  go_wp2_with fail
  go_ret
  exact ⟨rfl, HB.out, below_new _ _⟩

theorem be8_snoc (m j : Nat) (h : j < 8) : (be8 m).take (8 - (j + 1)) ++ [byt (m / 2 ^ (8 * j))] = (be8 m).take (8 - j) := by
  have h8 : j = 0 ∨ j = 1 ∨ j = 2 ∨ j = 3 ∨ j = 4 ∨ j = 5 ∨ j = 6 ∨ j = 7 := by omega
  rcases h8 with rfl | rfl | rfl | rfl | rfl | rfl | rfl | rfl <;> simp [be8]
theorem rd_one (w : World) (t : TypeId) (v : Int) (b : UInt8) (h : v = (b.toNat : Int)) : Rd (w.alloc (.cells #[.int .u8 v] t)) (w.heap.size + 1) (some ⟨w.heap.size, 0, none⟩) [b] := by
  subst h
  exact ((RowAt.new w t [b]).rd 0 [b] (fun j hj => by simp)).more (by simp)

set_option maxHeartbeats 2000000 in
theorem whole_any (A : Option Addr) (n c : Nat) (xs : List UInt8) (w : World) (hn : n ≤ 1048576) (hx : xs.length = n) (hr : Rd w w.heap.size A xs) :
    Calls Tryd.prog 26 #[.slice A n c] w fun e w' => ∃ A2 n2 c2, e = .returned (.slice A2 n2 c2) ∧ Own8 w' 5 w.heap.size A2 n2 c2 (xs ++ pad n) ∧ Below w.heap.size w w' := by
  obtain ⟨i8, h8⟩ := Tryd.ty8
  have HX := Lib.hid hx
  obtain ⟨z, hz⟩ : ∃ z, z = zer n := ⟨_, rfl⟩
  have hz64 : z < 64 := by rw [hz]; exact zer_lt n
  have hzz : z = (119 - n % 64) % 64 := hz
  have HZ := Lib.hid hz
  have HZZ := Lib.hid hzz
  clear hx hz hzz
  go_enter Tryd.func26, Tryd.ntmps26
  go_wp2_with fail
  refine (copyBytes_any _ _ _ _ _ (by omega) HX.out hr).mono ?_
  rintro e w1 ⟨A1, c1, rfl, ho, hb⟩
  have h1 := rd_one w1 5 128 128 rfl
  have h2 := ho.alloc (.cells #[.int .u8 128] 5)
  have hb1 := hb.alloc hb.size (.cells #[.int .u8 128] 5)
  have hz1 := hb.size
  clear ho hb
  go_wp2_with (at_builtin; refine wpList_append8 h8 _ rfl _ _ rfl w.heap.size _ _ _ _ rfl h2 _ _ _ _ _ rfl rfl h1 (by omega) (by simp; omega) ?_; intro A2 c2 w2 hq2 hg2 ho2)
  have hB2 : Below w.heap.size w w2 := hb1.grown hg2 (by simp; omega) h2.blk
  clear h1 h2 hb1 hg2 ho2
  go_loopw [3] (fun v wr => ∃ (k N : Nat) (A3 : Option Addr) (c3 : Nat), k ≤ z ∧ N = n + 1 + k ∧ v = .slice A3 N c3 ∧ Own8 wr 5 w.heap.size A3 N c3 (xs ++ [128] ++ List.replicate k 0) ∧ Below w.heap.size w wr) (fun v _ => n + 1 + z - lenOf_ v)
  case atStart => exact ⟨0, n + 1, A2, c2, by omega, rfl, rfl, by simpa using hq2, hB2⟩
  case round =>
    clear hq2 hB2
    obtain ⟨k, N, A3, c3, hk, hN, rfl, ho, hB⟩ := hrel
    have hzz := HZZ.out
    have hNs : N ≤ 1048700 := by omega
    have HN := Lib.hid hN
    by_cases hlt : k < z
    · have hbool : (((N : Int) % 64) != 56) = true := by simp; omega
      clear hzz hN
      have h1 := rd_one wr 5 0 0 rfl
      have h2 := ho.alloc (.cells #[.int .u8 0] 5)
      have hz2 := hB.size
      have hb1 := hB.alloc hz2 (.cells #[.int .u8 0] 5)
      clear ho
      go_wp2_with (at_builtin; refine wpList_append8 h8 _ rfl _ _ rfl w.heap.size _ _ _ _ rfl h2 _ _ _ _ _ rfl rfl h1 (by omega) (by simp; omega) ?_; intro A4 c4 w4 h4 hg4 ho4)
      go_roundw
      case rel =>
        refine ⟨k + 1, N + 1, A4, c4, by omega, by have := HN.out; omega, rfl, ?_, hb1.grown hg4 (by simp; omega) h2.blk⟩
        rw [List.append_assoc, ← List.replicate_succ'] at h4
        exact h4
      case measure => have := HN.out; simp [lenOf_]; omega
    · have hbool : (((N : Int) % 64) != 56) = false := by
        have : k = z := by omega
        simp
        omega
      clear hzz hN
      have hkz : k = z := by omega
      have HKZ := Lib.hid hkz
      clear hkz hlt
      go_wp2_with fail
      have HO := Lib.hid ho
      have HBB := Lib.hid hB
      go_loopw [3, 4] (fun v i wr' => ∃ (j M : Nat) (A4 : Option Addr) (c4 : Nat), j ≤ 8 ∧ M ≤ 1048716 ∧ M + j = N + 8 ∧ i = .int .i64 ((j : Int) - 1) ∧ v = .slice A4 M c4 ∧ Own8 wr' 5 w.heap.size A4 M c4 (xs ++ [128] ++ List.replicate k 0 ++ (be8 (8 * n)).take (8 - j)) ∧ Below w.heap.size w wr') (fun _ i _ => (intOf i + 1).toNat)
      case atStart => exact ⟨8, N, A3, c3, by omega, by omega, rfl, by go_num, rfl, by simpa using ho, hB⟩
      case round =>
        clear ho hB
        obtain ⟨j, M, A4, c4, hj, hM, hMN, rfl, rfl, ho, hB⟩ := hrel
        rcases j with _ | j
        · have h9 : decide (((0 : Nat) : Int) - 1 ≥ 0) = false := by decide
          have HMN := Lib.hid hMN
          clear hMN
          go_wp2_with fail
          go_ret
          refine ⟨A4, M, c4, rfl, ?_, hB⟩
          rw [show xs ++ pad n = xs ++ [128] ++ List.replicate k 0 ++ (be8 (8 * n)).take (8 - 0) from by
            unfold pad
            rw [← HZ.out, ← HKZ.out]
            simp [be8]]
          exact ho
        · rw [show (((j + 1 : Nat) : Int) - 1) = (j : Int) from by omega]
          have hB' := hB.size
          have h1 := rd_one wr 5 ((8 * (n : Int)) / 2 ^ (8 * j) % 256) (byt (8 * n / 2 ^ (8 * j))) (by rw [byt_toNat, Int.natCast_ediv, Int.natCast_mul, Int.natCast_pow]; rfl)
          have h2 := ho.alloc (.cells #[.int .u8 ((8 * (n : Int)) / 2 ^ (8 * j) % 256)] 5)
          have hb1 := hB.alloc hB' (.cells #[.int .u8 ((8 * (n : Int)) / 2 ^ (8 * j) % 256)] 5)
          have HMN := Lib.hid hMN
          clear ho hMN
          go_wp2_with (at_builtin; refine wpList_append8 h8 _ rfl _ _ rfl w.heap.size _ _ _ _ rfl h2 _ _ _ _ _ rfl rfl h1 (by omega) (by simp; omega) ?_; intro A5 c5 w5 h5 hg5 ho5)
          go_roundw
          case rel =>
            refine ⟨j, M + 1, A5, c5, by omega, by have := HMN.out; omega, by have := HMN.out; omega, by go_num, rfl, ?_, hb1.grown hg5 (by simp; omega) h2.blk⟩
            rw [List.append_assoc, be8_snoc (8 * n) j (by omega)] at h5
            exact h5
          case measure => simp [intOf]
end Go.Proofs.YtdhbafmccphelaaDoor
