/-
  Package mac: the closure that masks a block; the block of a key.
-/
import Derived.Test.YtdhbafmccphelaaDoorMacM
import Derived.Test.YtdhbafmccphelaaDoorShaX
import Derived.Test.YtdhbafmccphelaaDoorEq
namespace Go.Proofs.YtdhbafmccphelaaDoor
open Go.RowKit
set_option linter.unusedVariables false
set_option maxRecDepth 100000

/-- A whole array as a slice. -/
theorem slice_whole {P : Program} {t e : TypeId} {n : Nat} (ht : P.underlying t = some (.array n e)) (hs : (P.info? e).map (·.size) = some 1) (b o : Nat) (w : World) :
    (Instr.sliceAt t (.pointer (some ⟨b, o, none⟩)) none none none).run P w = .ok (.slice (some ⟨b, o, none⟩) n n) w := by
  have ha : P.arrayLen t = n := by simp [Program.arrayLen, ht]
  have he : P.elem t = e := by simp [Program.elem, ht]
  have h := run_sliceAt_array_all (P := P) w t ⟨b, o, none⟩ (by rw [ha, he]; exact ht)
  rw [h, ha, he]
  cases hq : P.info? e with
  | none => simp [hq] at hs
  | some i =>
    have h1 : i.size = 1 := by simpa [hq] using hs
    by_cases h0 : n = 0
    · subst h0; simp [sizeOf, typeInfo, hq, h1, slicedAt]
    · simp [sizeOf, typeInfo, hq, h1, slicedAt, Addr.add]
theorem zero64 (w : World) : (zeroValue 35).run Tryd.prog w = .ok (.agg (row8 (List.replicate 64 0))) w :=
  (zero_of_info (P := Tryd.prog) (t := 35) (v := .agg (row8 (List.replicate 64 0))) (n := 64) (by kernel_rfl)).1 w
theorem row8_bits (l : List UInt8) (k : Nat) (a m : UInt8) : (row8 l).setIfInBounds k (.int .u8 (bits .xor .u8 (a.toNat : Int) (m.toNat : Int))) = row8 (l.set k (a ^^^ m)) := by
  rw [bits_xor_u8, set_row8]

set_option maxHeartbeats 1000000 in
theorem masked_any (m : UInt8) (q : Nat) (bs : List UInt8) (w : World) (hb : bs.length = 64) (hq : Blk w q 35 (row8 bs)) :
    Calls Tryd.prog 17 #[.int .u8 (m.toNat : Int), .pointer (some ⟨q, 0, none⟩)] w fun e w' => e = .returned (.agg (row8 (msk m bs))) ∧ Below w.heap.size w w' := by
  have hql := hq.lt
  have h1 : Blk (w.alloc (.cells #[.int .u8 0, .int .u8 0, .int .u8 0, .int .u8 0, .int .u8 0, .int .u8 0, .int .u8 0, .int .u8 0, .int .u8 0, .int .u8 0, .int .u8 0, .int .u8 0, .int .u8 0, .int .u8 0, .int .u8 0, .int .u8 0, .int .u8 0, .int .u8 0, .int .u8 0, .int .u8 0, .int .u8 0, .int .u8 0, .int .u8 0, .int .u8 0, .int .u8 0, .int .u8 0, .int .u8 0, .int .u8 0, .int .u8 0, .int .u8 0, .int .u8 0, .int .u8 0, .int .u8 0, .int .u8 0, .int .u8 0, .int .u8 0, .int .u8 0, .int .u8 0, .int .u8 0, .int .u8 0, .int .u8 0, .int .u8 0, .int .u8 0, .int .u8 0, .int .u8 0, .int .u8 0, .int .u8 0, .int .u8 0, .int .u8 0, .int .u8 0, .int .u8 0, .int .u8 0, .int .u8 0, .int .u8 0, .int .u8 0, .int .u8 0, .int .u8 0, .int .u8 0, .int .u8 0, .int .u8 0, .int .u8 0, .int .u8 0, .int .u8 0, .int .u8 0] 35)) w.heap.size 35 (row8 (List.replicate 64 0)) := Blk.new _ _ _
  have hq1 := hq.alloc (.cells #[.int .u8 0, .int .u8 0, .int .u8 0, .int .u8 0, .int .u8 0, .int .u8 0, .int .u8 0, .int .u8 0, .int .u8 0, .int .u8 0, .int .u8 0, .int .u8 0, .int .u8 0, .int .u8 0, .int .u8 0, .int .u8 0, .int .u8 0, .int .u8 0, .int .u8 0, .int .u8 0, .int .u8 0, .int .u8 0, .int .u8 0, .int .u8 0, .int .u8 0, .int .u8 0, .int .u8 0, .int .u8 0, .int .u8 0, .int .u8 0, .int .u8 0, .int .u8 0, .int .u8 0, .int .u8 0, .int .u8 0, .int .u8 0, .int .u8 0, .int .u8 0, .int .u8 0, .int .u8 0, .int .u8 0, .int .u8 0, .int .u8 0, .int .u8 0, .int .u8 0, .int .u8 0, .int .u8 0, .int .u8 0, .int .u8 0, .int .u8 0, .int .u8 0, .int .u8 0, .int .u8 0, .int .u8 0, .int .u8 0, .int .u8 0, .int .u8 0, .int .u8 0, .int .u8 0, .int .u8 0, .int .u8 0, .int .u8 0, .int .u8 0, .int .u8 0] 35)
  have hB1 : Below w.heap.size w (w.alloc (.cells #[.int .u8 0, .int .u8 0, .int .u8 0, .int .u8 0, .int .u8 0, .int .u8 0, .int .u8 0, .int .u8 0, .int .u8 0, .int .u8 0, .int .u8 0, .int .u8 0, .int .u8 0, .int .u8 0, .int .u8 0, .int .u8 0, .int .u8 0, .int .u8 0, .int .u8 0, .int .u8 0, .int .u8 0, .int .u8 0, .int .u8 0, .int .u8 0, .int .u8 0, .int .u8 0, .int .u8 0, .int .u8 0, .int .u8 0, .int .u8 0, .int .u8 0, .int .u8 0, .int .u8 0, .int .u8 0, .int .u8 0, .int .u8 0, .int .u8 0, .int .u8 0, .int .u8 0, .int .u8 0, .int .u8 0, .int .u8 0, .int .u8 0, .int .u8 0, .int .u8 0, .int .u8 0, .int .u8 0, .int .u8 0, .int .u8 0, .int .u8 0, .int .u8 0, .int .u8 0, .int .u8 0, .int .u8 0, .int .u8 0, .int .u8 0, .int .u8 0, .int .u8 0, .int .u8 0, .int .u8 0, .int .u8 0, .int .u8 0, .int .u8 0, .int .u8 0] 35)) := below_new _ _
  have hz1 : (w.alloc (.cells #[.int .u8 0, .int .u8 0, .int .u8 0, .int .u8 0, .int .u8 0, .int .u8 0, .int .u8 0, .int .u8 0, .int .u8 0, .int .u8 0, .int .u8 0, .int .u8 0, .int .u8 0, .int .u8 0, .int .u8 0, .int .u8 0, .int .u8 0, .int .u8 0, .int .u8 0, .int .u8 0, .int .u8 0, .int .u8 0, .int .u8 0, .int .u8 0, .int .u8 0, .int .u8 0, .int .u8 0, .int .u8 0, .int .u8 0, .int .u8 0, .int .u8 0, .int .u8 0, .int .u8 0, .int .u8 0, .int .u8 0, .int .u8 0, .int .u8 0, .int .u8 0, .int .u8 0, .int .u8 0, .int .u8 0, .int .u8 0, .int .u8 0, .int .u8 0, .int .u8 0, .int .u8 0, .int .u8 0, .int .u8 0, .int .u8 0, .int .u8 0, .int .u8 0, .int .u8 0, .int .u8 0, .int .u8 0, .int .u8 0, .int .u8 0, .int .u8 0, .int .u8 0, .int .u8 0, .int .u8 0, .int .u8 0, .int .u8 0, .int .u8 0, .int .u8 0] 35)).heap.size = w.heap.size + 1 := by simp
  obtain ⟨S, hS⟩ : ∃ S, S = msk m bs := ⟨_, rfl⟩
  have HS := Lib.hid hS
  have HL := Lib.hid (show S.length = 64 by rw [hS, length_msk, hb])
  have HB := Lib.hid hb
  rw [← hS]
  clear hS hb
  go_enter Tryd.func17, Tryd.ntmps17
  rw [whole_eq 1, whole_eq 7]
  go_wp2_with fail
  generalize w.alloc (.cells #[.int .u8 0, .int .u8 0, .int .u8 0, .int .u8 0, .int .u8 0, .int .u8 0, .int .u8 0, .int .u8 0, .int .u8 0, .int .u8 0, .int .u8 0, .int .u8 0, .int .u8 0, .int .u8 0, .int .u8 0, .int .u8 0, .int .u8 0, .int .u8 0, .int .u8 0, .int .u8 0, .int .u8 0, .int .u8 0, .int .u8 0, .int .u8 0, .int .u8 0, .int .u8 0, .int .u8 0, .int .u8 0, .int .u8 0, .int .u8 0, .int .u8 0, .int .u8 0, .int .u8 0, .int .u8 0, .int .u8 0, .int .u8 0, .int .u8 0, .int .u8 0, .int .u8 0, .int .u8 0, .int .u8 0, .int .u8 0, .int .u8 0, .int .u8 0, .int .u8 0, .int .u8 0, .int .u8 0, .int .u8 0, .int .u8 0, .int .u8 0, .int .u8 0, .int .u8 0, .int .u8 0, .int .u8 0, .int .u8 0, .int .u8 0, .int .u8 0, .int .u8 0, .int .u8 0, .int .u8 0, .int .u8 0, .int .u8 0, .int .u8 0, .int .u8 0] 35) = w1 at h1 hq1 hB1 hz1 ⊢
  refine whole_list ?_
  refine wpList_load_blk hq1 64 (by rw [size_row8, HB.out]) rfl _ _ rfl rfl _ Tryd.underlying35 rfl (by kernel_rfl) ?_
  refine wpList_alloc_ rfl _ rfl _ (zero64 w1) ?_
  have h2 : Blk (w1.alloc (.cells (Value.agg (row8 (List.replicate 64 0))).cells 35)) w1.heap.size 35 (row8 (List.replicate 64 0)) := Blk.new _ _ _
  have h12 := h1.alloc (.cells (Value.agg (row8 (List.replicate 64 0))).cells 35)
  have hB2 := hB1.alloc hB1.size (.cells (Value.agg (row8 (List.replicate 64 0))).cells 35)
  rw [hz1] at h2 ⊢
  generalize w1.alloc (.cells (Value.agg (row8 (List.replicate 64 0))).cells 35) = w2 at h2 h12 hB2 ⊢
  refine wpList_store_blk h2 64 rfl (by rw [size_row8, HB.out]) (row8_one bs) rfl _ _ _ rfl rfl rfl (by kernel_rfl) ?_
  have h3 := h2.setRow (row8 bs)
  have h13 : Blk (w2.setRow (w.heap.size + 1) (row8 bs)) w.heap.size 35 (row8 (List.replicate 64 0)) := (setRow_other _ _ _ _ (by omega)).trans h12
  have hB3 := Below.setRow_ hB2 (w.heap.size + 1) (row8 bs) (by omega)
  generalize w2.setRow (w.heap.size + 1) (row8 bs) = w3 at h3 h13 hB3 ⊢
  clear h1 h2 h12 hB1 hB2 hz1 hq1
  go_wp2_with fail
  go_loopw [7] (fun i wr => ∃ k : Nat, k ≤ 64 ∧ i = .int .i64 k ∧ Blk wr w.heap.size 35 (row8 (List.replicate 64 0)) ∧ Blk wr (w.heap.size + 1) 35 (row8 (mskTo m bs k)) ∧ Below w.heap.size w wr) (fun i _ => 64 - (intOf i).toNat)
  case atStart => exact ⟨0, by omega, rfl, h13, by rw [mskTo_zero]; exact h3, hB3⟩
  case round =>
    clear h3 h13 hB3
    obtain ⟨k, hk, rfl, h1, h2, hB⟩ := hrel
    by_cases hlt : k < 64
    · have hkb : k < bs.length := by rw [HB.out]; exact hlt
      obtain ⟨x, hx⟩ : ∃ x, x = bs[k] := ⟨_, rfl⟩
      have ck : wr.cell? ⟨w.heap.size + 1, k, none⟩ = some (.int .u8 (x.toNat : Int)) := (h2.cell k).trans (by rw [get_row8, mskTo_at hkb, hx]; rfl)
      have HST := Lib.hid (show (mskTo m bs k).set k (x ^^^ m) = mskTo m bs (k + 1) by rw [hx]; exact mskTo_step hkb)
      have fk := h2.frozen k
      have lk : (k : Int) < 64 := by omega
      clear hkb hx
      go_wp2_with fail
      go_roundw
      case rel =>
        refine ⟨k + 1, by omega, by go_num, h1.far (by simp) _, ?_, hB.setCell (by simp) _⟩
        rw [← HST.out, ← row8_bits]
        exact h2.set_ k _
      case measure => simp [intOf]; omega
    · have hk9 : decide ((k : Int) < 64) = false := by simp; omega
      have HX := Lib.hid (show mskTo m bs k = S by rw [HS.out]; exact mskTo_end (by rw [HB.out]; omega))
      rw [HX.out] at h2
      have hsz : (row8 S).size = 64 := by rw [size_row8, HL.out]
      go_wp2_with fail
      refine whole_list ?_
      refine wpList_load_blk h2 64 hsz rfl _ _ rfl rfl _ Tryd.underlying35 rfl (by kernel_rfl) ?_
      refine wpList_store_blk h1 64 rfl hsz (row8_one _) rfl _ _ _ rfl rfl rfl (by kernel_rfl) ?_
      go_wp2_with fail
      exact bodyPost_ret (v := .agg (row8 S)) (results_cell_row rfl _ _ _ _ _ _ _ rfl (h1.setRow (row8 S)) Tryd.underlying35 rfl ((show (Tryd.prog.info? 35).map (·.size) = some 64 by kernel_rfl).trans (by rw [hsz]))) rfl ⟨rfl, Below.setRow_ hB _ _ (Nat.le_refl _)⟩
end Go.Proofs.YtdhbafmccphelaaDoor
