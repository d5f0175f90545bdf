/-
  Package sha: Write.
-/
import Derived.Test.YtdhbafmccphelaaDoorShaN
namespace Go.Proofs.YtdhbafmccphelaaDoor
open Go.RowKit
set_option linter.unusedVariables false
set_option maxRecDepth 100000

theorem write_nil (A : Option Addr) (n c : Nat) (w : World) :
    Calls Tryd.prog 22 #[.pointer none, .slice A n c] w fun e w' => e = .returned (.tuple #[]) ∧ w = w' := by
  go_enter Tryd.func22, Tryd.ntmps22
  go_wp2_with fail
  exact bodyPost_ret (v := .tuple #[]) (results_none rfl _ _ _) rfl ⟨rfl, rfl⟩

/-- A slice's length. -/
def lenOf_ : Value → Nat
  | .slice _ l _ => l
  | _ => 0

theorem copy_b {w : World} {q : Nat} {t : TypeId} {G : List R} {bs zs : List UInt8} {L r b o sl sc : Nat} (hs : Blk w q t (stRow G bs L)) (hG : G.length = 8) (hb : bs.length = 64) (hr : r < 64) (hz : zs.length = Nat.min sl (64 - r))
    (hc : ∀ j x, zs[j]? = some x → w.cell? ⟨b, o + j, none⟩ = some (.int .u8 (x.toNat : Int))) (ty : TypeId) :
    (Builtin.copy_ #[22, 22] ty #[.slice (some ⟨q, 8 + r, none⟩) (64 - r) (64 - r), .slice (some ⟨b, o, none⟩) sl sc]).run Tryd.prog w = .ok (.int .i64 (zs.length : Int)) (w.setRow q (stRow G (fill bs r zs) L)) := by
  have hle : r + zs.length ≤ 64 := by
    have : zs.length ≤ 64 - r := by rw [hz]; exact Nat.min_le_right _ _
    omega
  have h := run_copy_row (P := Tryd.prog) w 22 22 ty 5 q (8 + r) (64 - r) (64 - r) ⟨b, o, none⟩ sl sc (stRow G bs L) t (zs.map fun x => Value.int .u8 (x.toNat : Int)) Tryd.underlying22 (by kernel_rfl) hs (by rw [List.length_map]; exact hz)
    (fun j v hv => by
      rw [List.getElem?_map, Option.map_eq_some_iff] at hv
      obtain ⟨x, hx, rfl⟩ := hv
      rw [Addr.add_mid]
      exact hc j x hx) (by rw [size_stRow hG hb]; simp; omega) (by simp [Value.oneCell'])
  rw [stRow_copy hG hb hle] at h
  rw [h]
  simp [goInt]

set_option maxHeartbeats 2000000 in
theorem write_any (q : Nat) (A : Option Addr) (n c : Nat) (xs ys : List UInt8) (w : World) (hs : St w q xs) (hT : Tabs w) (h2 : 2 ≤ q) (hn : n ≤ c) (hc : c ≤ maxLen) (hy : ys.length = n) (hr : Src w q A ys) (hl : xs.length + n ≤ 1152921504606846976) :
    Calls Tryd.prog 22 #[.pointer (some ⟨q, 0, none⟩), .slice A n c] w fun e w' => e = .returned (.tuple #[]) ∧ St w' q (xs ++ ys) ∧ Tw [q] w w' := by
  unfold maxLen at hc
  obtain ⟨b, o, hA⟩ : ∃ b o, 0 < n → A = some ⟨b, o, none⟩ ∧ b ≠ q ∧ b < w.heap.size ∧ ∀ j x, ys[j]? = some x → w.cell? ⟨b, o + j, none⟩ = some (.int .u8 (x.toNat : Int)) := by
    rcases hr with rfl | ⟨b, o, ha, hb, hlt, hc⟩
    · exact ⟨0, 0, fun h => by simp at hy; omega⟩
    · exact ⟨b, o, fun _ => ⟨ha, hb, hlt, hc⟩⟩
  obtain ⟨G, bs, hs0, i0⟩ := hs
  have hq := hs0.lt
  have HA := Lib.hid hA
  have HY := Lib.hid hy
  have I0 := Lib.hid i0
  clear hA hy hr i0
  go_enter Tryd.func22, Tryd.ntmps22
  go_wp2_with fail
  go_loopw [1] (fun sl wr => ∃ (j : Nat) (A' : Option Addr) (G : List R) (bs : List UInt8), j ≤ n ∧ sl = .slice A' (n - j) (c - j) ∧ Hid (j < n → A' = some ⟨b, o + j, none⟩) ∧ Blk wr q 44 (stRow G bs (xs.length + j)) ∧ Hid (Inv G bs (xs ++ ys.take j)) ∧ Tw [q] w wr) (fun sl _ => lenOf_ sl)
  case atStart => exact ⟨0, A, G, bs, by omega, rfl, Lib.hid (fun h => (HA.out h).1), hs0, Lib.hid (by simpa using I0.out), Tw.refl _ _⟩
  case round =>
    clear hs0 I0
    obtain ⟨j, A', G, bs, hj, rfl, HA', hs, HI, ht⟩ := hrel
    by_cases hlt : j < n
    · obtain rfl := HA'.out hlt
      obtain ⟨-, hbq, hbl, hcell⟩ := HA.out (by omega)
      obtain ⟨L, hL⟩ : ∃ L, L = xs.length + j := ⟨_, rfl⟩
      have hLl : (xs ++ ys.take j).length = L := by rw [List.length_append, List.length_take, HY.out, hL]; omega
      have hLb : L ≤ 1152921504606846976 := by omega
      rw [← hL] at hs
      obtain ⟨r, hr⟩ : ∃ r, r = L % 64 := ⟨_, rfl⟩
      obtain ⟨zs, hz⟩ : ∃ zs, zs = (ys.drop j).take (64 - r) := ⟨_, rfl⟩
      obtain ⟨k, hk⟩ : ∃ k, k = zs.length := ⟨_, rfl⟩
      have hzl : k = Nat.min (n - j) (64 - r) := by rw [hk, hz, List.length_take, List.length_drop, HY.out]; exact Nat.min_comm _ _
      have hk0 : 0 < k := by rw [hzl]; exact Nat.lt_min.2 ⟨by omega, by omega⟩
      have hkn : k ≤ n - j := by rw [hzl]; exact Nat.min_le_left _ _
      have hkr : k ≤ 64 - r := by rw [hzl]; exact Nat.min_le_right _ _
      have hr64 : r < 64 := by omega
      have c72 := (hs.cell 72).trans (stRow_n HI.out.g HI.out.b)
      have hsl : ∀ W : World, (Instr.sliceAt 35 (.pointer (some ⟨q, 8, none⟩)) (some (.int .u64 ((L : Int).tmod 64))) none none).run Tryd.prog W = .ok (.slice (some ⟨q, 8 + r, none⟩) (64 - r) (64 - r)) W :=
        fun W => slice_arr Tryd.underlying35 (by kernel_rfl) _ _ r _ _ _ _ _ hr64 (by rw [Int.tmod_eq_emod_of_nonneg (by omega)]; omega) rfl rfl
      have HCP := Lib.hid (copy_b (w := wr.drewN 1) (zs := zs) (b := b) (o := o + j) (sl := n - j) (sc := c - j) hs HI.out.g HI.out.b hr64 (by rw [← hk]; exact hzl) (fun i x hx => by
        have h1 : ys[j + i]? = some x := by
          have hi : i < 64 - r := by have := (List.getElem?_eq_some_iff.1 hx).1; omega
          rw [hz, List.getElem?_take_of_lt hi, List.getElem?_drop] at hx
          exact hx
        have h2 := hcell (j + i) x h1
        rw [Nat.add_assoc]
        exact (ht.cell hbl (by simpa using hbq)).trans h2))
      have HZ := Lib.hid hz
      have HK := Lib.hid hk
      have HR := Lib.hid hr
      have HL := Lib.hid hL
      have HC := Lib.hid hcell
      have HLl := Lib.hid hLl
      clear hz hk hr hL hcell hzl hLl
      rw [← HK.out] at HCP
      go_wp2_with fail
      go_still_tail 10, (by kernel_rfl)
      refine wpList_copy_run rfl _ _ 22 rfl (.slice (some ⟨q, 8 + r, none⟩) (64 - r) (64 - r)) (.slice (some ⟨b, o + j, none⟩) (n - j) (c - j)) (.int .i64 (k : Int)) rfl rfl _ rfl (HCP.out _) ?_
      have hs1 : Blk ((wr.drewN 1).setRow q (stRow G (fill bs r zs) L)) q 44 (stRow G (fill bs r zs) L) := Blk.setRow (hs.drewN 1) _
      have ht1 : Tw [q] w ((wr.drewN 1).setRow q (stRow G (fill bs r zs) L)) := (ht.drewN 1).setRow q _ (by simp)
      clear hs ht c72 HCP
      generalize (wr.drewN 1).setRow q (stRow G (fill bs r zs) L) = w2 at hs1 ht1 ⊢
      have hb' : (fill bs r zs).length = 64 := length_fill HI.out.b (by rw [← HK.out]; omega)
      have c72 := (hs1.cell 72).trans (stRow_n HI.out.g hb')
      have f72 := hs1.frozen 72
      have hs2 : Blk (w2.setCell ⟨q, 72, none⟩ (.int .u64 ((L : Int) + (k : Int)))) q 44 (stRow G (fill bs r zs) (L + k)) := by
        rw [show (L : Int) + (k : Int) = ((L + k : Nat) : Int) from by omega, ← set_n HI.out.g hb']
        exact hs1.set_ 72 _
      have ht2 : Tw [q] w (w2.setCell ⟨q, 72, none⟩ (.int .u64 ((L : Int) + (k : Int)))) := ht1.trans (Tw.setCell _ _ _ (by simp))
      have HT2 := Lib.hid (hT.tw ht2 (by simp; omega))
      have HS2 := Lib.hid hs2
      have HTW := Lib.hid ht2
      have HX : Hid (xs ++ ys.take (j + k) = (xs ++ ys.take j) ++ zs) := Lib.hid (by
        have e : (ys.drop j).take k = zs := by
          have h1 : zs.take k = zs := by rw [HK.out]; exact List.take_length
          rw [← h1, HZ.out, List.take_take, Nat.min_eq_left hkr]
        rw [List.take_add, e, List.append_assoc])
      have HLK : Hid (xs.length + (j + k) = L + k) := Lib.hid (by rw [HL.out]; omega)
      have HLR : Hid ((xs ++ ys.take j).length % 64 = r) := Lib.hid (by rw [HLl.out]; exact HR.out.symm)
      have HB := Lib.hid hb'
      have hmod : ((L : Int) + (k : Int)) % 64 = ((r + k) % 64 : Nat) := by have := HR.out; omega
      clear hs1 ht1 hs2 ht2 hb'
      by_cases hf : r + k = 64
      · have hbool : (((L : Int) + (k : Int)) % 64 == 0) = true := by rw [hmod, hf]; rfl
        have HF := Lib.hid hf
        clear hmod hf
        by_cases ha : c - j = k
        · go_wp2_with (go_at_call 29; refine (absorb_any q (L + k) G (fill bs r zs) _ HI.out.g HB.out HS2.out HT2.out).mono ?_; rintro e w3 ⟨rfl, hs3, ht3⟩)
          go_roundw
          case rel => exact ⟨j + k, _, _, _, by omega, by rw [Nat.sub_sub, show c - (j + k) = 0 by omega], Lib.hid (fun h => by omega), by rw [HLK.out]; exact hs3, Lib.hid (by have := HI.out.full (zs := zs) (by rw [HLR.out, ← HK.out]; exact HF.out); rw [HLR.out] at this; rw [HX.out]; exact this), HTW.out.trans ht3⟩
          case measure => simp [lenOf_]; omega
        · go_wp2_with (go_at_call 29; refine (absorb_any q (L + k) G (fill bs r zs) _ HI.out.g HB.out HS2.out HT2.out).mono ?_; rintro e w3 ⟨rfl, hs3, ht3⟩)
          go_roundw
          case rel => exact ⟨j + k, _, _, _, by omega, by rw [Nat.sub_sub, Nat.sub_sub], Lib.hid (fun h => by rw [Nat.add_assoc]), by rw [HLK.out]; exact hs3, Lib.hid (by have := HI.out.full (zs := zs) (by rw [HLR.out, ← HK.out]; exact HF.out); rw [HLR.out] at this; rw [HX.out]; exact this), HTW.out.trans ht3⟩
          case measure => simp [lenOf_]; omega
      · have hbool : (((L : Int) + (k : Int)) % 64 == 0) = false := by rw [hmod, beq_eq_false_iff_ne]; omega
        have HF := Lib.hid (show r + k < 64 by omega)
        clear hmod hf
        by_cases ha : c - j = k
        · go_wp2_with fail
          go_roundw
          case rel => exact ⟨j + k, _, _, _, by omega, by rw [Nat.sub_sub, show c - (j + k) = 0 by omega], Lib.hid (fun h => by omega), by rw [HLK.out]; exact HS2.out, Lib.hid (by have := HI.out.part (zs := zs) (by rw [HLR.out, ← HK.out]; exact HF.out); rw [HLR.out] at this; rw [HX.out]; exact this), HTW.out⟩
          case measure => simp [lenOf_]; omega
        · go_wp2_with fail
          go_roundw
          case rel => exact ⟨j + k, _, _, _, by omega, by rw [Nat.sub_sub, Nat.sub_sub], Lib.hid (fun h => by rw [Nat.add_assoc]), by rw [HLK.out]; exact HS2.out, Lib.hid (by have := HI.out.part (zs := zs) (by rw [HLR.out, ← HK.out]; exact HF.out); rw [HLR.out] at this; rw [HX.out]; exact this), HTW.out⟩
          case measure => simp [lenOf_]; omega
    · have hjn : j = n := by omega
      have hn0 : decide ((((n - j : Nat) : Nat) : Int) > 0) = false := by simp; omega
      have HJ := Lib.hid hjn
      clear hjn
      go_wp2_with fail
      go_end0
      refine ⟨rfl, ⟨G, bs, ?_, ?_⟩, ht⟩
      · rw [List.length_append, HY.out, ← HJ.out]
        exact hs
      · have := HI.out
        rwa [HJ.out, List.take_of_length_le (by rw [HY.out]; exact Nat.le_refl _)] at this
end Go.Proofs.YtdhbafmccphelaaDoor
