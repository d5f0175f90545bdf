/-
  The anchor of layer 1's statements holds.
-/
import Derived.Test.YthhmdbgmokdadaaPad
namespace Go.Proofs.Ythhmdbgmokdadaa
open Go.RowKit
set_option linter.unusedVariables false

theorem works_num : num ([255] ++ enc 258 2) 1 2 = 258 := by decide
theorem works_cut : ((([255] ++ enc 258 2).drop 1).take 1) = [1] := by decide

set_option maxHeartbeats 400000 in
theorem works_any (w : World) :
    Calls Try.prog 11 #[] w fun e w' => e = .returned (.bool true) ∧ Below w.heap.size w w' := by
  have hs : IsSize (2 : Nat) := .inr (.inl rfl)
  have hr0 : Rd (w.alloc (.cells #[.int .u8 255] 5)) (w.alloc (.cells #[.int .u8 255] 5)).heap.size (some ⟨w.heap.size, 0, none⟩) [255] := (rd_one w 5 255 255 rfl).more (by simp)
  have HS := Lib.hid hs
  have HR0 := Lib.hid hr0
  clear hs hr0
  go_enter Try.func11, Try.ntmps11
  go_wp2_with (first
    | (go_at_call 16; refine (put_yes _ 1 1 258 2 [255] _ (by omega) (by omega) rfl HR0.out HS.out).mono ?_; rintro e w1 ⟨g, rfl, hg, hrow, hb1⟩)
    | (go_at_call 13; refine (get_yes w1.heap.size _ 3 3 1 2 ([255] ++ enc 258 2) _ (by unfold maxLen; omega) rfl (hrow.rd 0 _ (fun j hj => by rw [Nat.zero_add])) HS.out (by omega)).mono ?_; rintro e w2 ⟨rfl, rfl⟩; rw [works_num])
    | (go_at_call 20; refine (cut_yes _ 3 3 1 1 ([255] ++ enc 258 2) _ (by omega) (by omega) (by unfold maxLen; omega) rfl (hrow.rd 0 _ (fun j hj => by rw [Nat.zero_add])) (by omega)).mono ?_; rintro e w2 ⟨A2, c2, rfl, ho, hb2⟩; rw [works_cut] at ho; obtain ⟨b, o, rfl, hbl, hcx⟩ := ho.rd.at_ (by decide); have hc0 : w2.cell? ⟨b, o, none⟩ = some (.int .u8 1) := hcx 0 (by decide); clear hcx)
    | (go_at_call 24; refine (round_yes 5 (by omega) (by omega) _).mono ?_; rintro e w3 ⟨rfl, rfl⟩)
    | (go_at_call 22; refine (pad_any _ 3 3 ([255] ++ enc 258 2) _ (by omega) rfl ((hrow.below hb2 hrow.lt).rd 0 _ (fun j hj => by rw [Nat.zero_add]))).mono ?_; rintro e w3 ⟨g3, rfl, hg3, hrow3, hb3⟩))
  go_ret
  exact ⟨rfl, below_then (below_then (below_then (below_new w _) (Nat.le_refl _) hb1) (Nat.le_refl _) hb2) (Nat.le_refl _) hb3⟩
end Go.Proofs.Ythhmdbgmokdadaa
