/-
  Package cookie: Derive of both; the laws' twin and same.
-/
import Derived.Test.YtnnkgdkjmmljiaaDoorQ22
import Derived.Test.YtnnkgdkjmmljiaaDoorQ21
namespace Go.Proofs.YtnnkgdkjmmljiaaDoor
open Go.RowKit
set_option linter.unusedVariables false

set_option maxRecDepth 100000 in
set_option maxHeartbeats 4000000 in
theorem ckDerive_any (A A' : Option Addr) (n c n' c' : Nat) (ks ts : List UInt8) (w : World) (hT : Tabs w) (hn : n ≤ c) (hc : c ≤ maxLen) (hx : ks.length = n) (hr : Rd w w.heap.size A ks) (hl : n ≤ 1048576) (hn' : n' ≤ c') (hc' : c' ≤ maxLen) (hx' : ts.length = n') (hr' : Rd w w.heap.size A' ts) (hl' : n' ≤ 1048576) :
    Calls Tryd.prog 18 #[.slice A n c, .slice A' n' c'] w fun e w' => e = .returned (.tuple #[.int .u32 ((deriveC ks ts).1 : Nat), .int .u32 ((deriveC ks ts).2 : Nat)]) ∧ Below w.heap.size w w' := by
  have h2 := hT.2.2
  have HR := Lib.hid hr
  have HX := Lib.hid hx
  have HR' := Lib.hid hr'
  have HX' := Lib.hid hx'
  obtain ⟨D, hD⟩ : ∃ D, D = mac ks ts := ⟨_, rfl⟩
  have HD := Lib.hid hD
  have HDl := Lib.hid (show D.length = 32 by rw [hD, length_mac])
  have hszD : (row8 D).size = 32 := by rw [size_row8, HDl.out]
  have hst := (fun W : World => run_storeCells_new (P := Tryd.prog) W 46 #[.int .u8 0, .int .u8 0, .int .u8 0, .int .u8 0, .int .u8 0, .int .u8 0, .int .u8 0, .int .u8 0, .int .u8 0, .int .u8 0, .int .u8 0, .int .u8 0, .int .u8 0, .int .u8 0, .int .u8 0, .int .u8 0, .int .u8 0, .int .u8 0, .int .u8 0, .int .u8 0, .int .u8 0, .int .u8 0, .int .u8 0, .int .u8 0, .int .u8 0, .int .u8 0, .int .u8 0, .int .u8 0, .int .u8 0, .int .u8 0, .int .u8 0, .int .u8 0] (row8 D) ((show (Tryd.prog.info? 46).map (·.size) = some 32 by kernel_rfl).trans (by rw [size_row8, HDl.out])) (by rw [size_row8, HDl.out]; rfl) (row8_one _))
  have hsl : ∀ (W : World) (r : Nat), (Instr.sliceAt 46 (.pointer (some ⟨r, 0, none⟩)) none none none).run Tryd.prog W = .ok (.slice (some ⟨r, 0, none⟩) 32 32) W := fun W r => slice_whole Tryd.underlying46 (by kernel_rfl) _ _ W
  have hl0 := num_lt D 0 4
  have hl4 := num_lt D 4 4
  have HT1 : Hid ((deriveC ks ts).1 = if num D 0 4 = 0 then 1 else num D 0 4) := Lib.hid (by unfold deriveC; rw [hD])
  have HT2 : Hid ((deriveC ks ts).2 = num D 4 4) := Lib.hid (by unfold deriveC; rw [hD])
  rw [HT1.out, HT2.out]
  have HW : Hid (∀ (g : Nat) (W W0 : World), W.heap = W0.heap → Blk W0 g 46 (row8 D) → Calls Tryd.prog 30 #[.slice (some ⟨g, 0, none⟩) 32 32, .int .i64 0] W (fun e w' => e = .returned (.int .u32 (num D 0 4 : Nat)) ∧ w' = W) ∧ Calls Tryd.prog 30 #[.slice (some ⟨g, 0, none⟩) 32 32, .int .i64 4] W (fun e w' => e = .returned (.int .u32 (num D 4 4 : Nat)) ∧ w' = W)) := Lib.hid fun g W W0 hW hB => ⟨(ck_word_any _ (some ⟨g, 0, none⟩) 32 32 0 D W (by unfold maxLen; omega) HDl.out ((RowAt.rd hB 0 D (fun j hj => by rw [Nat.zero_add])).heap_ hW) (by omega)).mono fun _ _ ⟨a, b⟩ => ⟨a, b.symm⟩, (ck_word_any _ (some ⟨g, 0, none⟩) 32 32 4 D W (by unfold maxLen; omega) HDl.out ((RowAt.rd hB 0 D (fun j hj => by rw [Nat.zero_add])).heap_ hW) (by omega)).mono fun _ _ ⟨a, b⟩ => ⟨a, b.symm⟩⟩
  have HN : Hid (∀ (g : Nat) (W : World), Blk W g 46 (row8 D) → Calls Tryd.prog 28 #[.slice (some ⟨g, 0, none⟩) 32 32, .int .i64 0, .int .i64 4] W (fun e w' => e = .returned (.int .u64 (num D 0 4 : Nat)) ∧ Below W.heap.size W w') ∧ Calls Tryd.prog 28 #[.slice (some ⟨g, 0, none⟩) 32 32, .int .i64 4, .int .i64 4] W (fun e w' => e = .returned (.int .u64 (num D 4 4 : Nat)) ∧ Below W.heap.size W w')) := Lib.hid fun g W hB => ⟨ck_number_any (some ⟨g, 0, none⟩) 32 32 0 4 D W (by omega) (by omega) (by unfold maxLen; omega) HDl.out (RowAt.rd hB 0 D (fun j hj => by rw [Nat.zero_add])) (by unfold IsSize; omega) (by omega), ck_number_any (some ⟨g, 0, none⟩) 32 32 4 4 D W (by omega) (by omega) (by unfold maxLen; omega) HDl.out (RowAt.rd hB 0 D (fun j hj => by rw [Nat.zero_add])) (by unfold IsSize; omega) (by omega)⟩
  obtain ⟨t, ht⟩ : ∃ t, t = num D 0 4 := ⟨_, rfl⟩
  obtain ⟨s, hs⟩ : ∃ s, s = num D 4 4 := ⟨_, rfl⟩
  rw [← ht] at hl0
  rw [← hs] at hl4
  simp only [← ht, ← hs] at HW HN ⊢
  clear hx hr hx' hr' hD ht hs HT1 HT2
  have hmac := macSum_any A n c ks A' n' c' ts w hT hn hc HX.out HR.out (by omega) hn' hc' HX'.out HR'.out (by omega)
  rw [← HD.out] at hmac
  by_cases h0 : t = 0
  · subst h0
    rw [if_pos rfl]
    go_enter Tryd.func18, Tryd.ntmps18
    rw [drawn_eq 2]
    go_wp2_with fail
    refine hmac.mono ?_
    rintro e w1 ⟨rfl, hb1⟩
    have B2 := Lib.hid (hb1.alloc hb1.size (.cells (row8 D) 46))
    have D2 : Hid (Blk (w1.alloc (.cells (row8 D) 46)) w1.heap.size 46 (row8 D)) := Lib.hid (Blk.new _ _ _)
    clear hb1
    go_wp2_with fail
    generalize w1.alloc (.cells (row8 D) 46) = w2 at B2 D2 ⊢
    generalize w1.heap.size = g at D2 ⊢
    rw [← drawn_eq 2]
    have HWa : Hid (∀ n : Nat, Calls Tryd.prog 30 #[.slice (some ⟨g, 0, none⟩) 32 32, .int .i64 0] (w2.drewN n) (fun e w' => e = .returned (.int .u32 (0 : Nat)) ∧ w' = w2.drewN n)) := Lib.hid fun n => (HW.out g (w2.drewN n) w2 rfl D2.out).1
    have HWb : Hid (∀ n : Nat, Calls Tryd.prog 30 #[.slice (some ⟨g, 0, none⟩) 32 32, .int .i64 4] (w2.drewN n) (fun e w' => e = .returned (.int .u32 (s : Nat)) ∧ w' = w2.drewN n)) := Lib.hid fun n => (HW.out g (w2.drewN n) w2 rfl D2.out).2
    go_quiet ((go_at_call 30; with_reducible (first | exact Calls.quiet_of_same (HWa.out _) | exact Calls.quiet_of_same (HWb.out _))))
    have B4 : Hid (Below w.heap.size w (w2.drewN nq)) := Lib.hid (below_drewN B2.out nq)
    clear D2 B2
    generalize w2.drewN nq = w4 at B4 ⊢
    go_wp2_with fail
    go_ret2
    exact ⟨rfl, B4.out⟩
  · rw [if_neg h0]
    have hne : ((t : Int) == 0) = false := by rw [beq_eq_false_iff_ne]; omega
    clear h0
    go_enter Tryd.func18, Tryd.ntmps18
    rw [drawn_eq 2]
    go_wp2_with fail
    refine hmac.mono ?_
    rintro e w1 ⟨rfl, hb1⟩
    have B2 := Lib.hid (hb1.alloc hb1.size (.cells (row8 D) 46))
    have D2 : Hid (Blk (w1.alloc (.cells (row8 D) 46)) w1.heap.size 46 (row8 D)) := Lib.hid (Blk.new _ _ _)
    clear hb1
    go_wp2_with fail
    generalize w1.alloc (.cells (row8 D) 46) = w2 at B2 D2 ⊢
    generalize w1.heap.size = g at D2 ⊢
    rw [← drawn_eq 2]
    have HWa : Hid (∀ n : Nat, Calls Tryd.prog 30 #[.slice (some ⟨g, 0, none⟩) 32 32, .int .i64 0] (w2.drewN n) (fun e w' => e = .returned (.int .u32 (t : Nat)) ∧ w' = w2.drewN n)) := Lib.hid fun n => (HW.out g (w2.drewN n) w2 rfl D2.out).1
    have HWb : Hid (∀ n : Nat, Calls Tryd.prog 30 #[.slice (some ⟨g, 0, none⟩) 32 32, .int .i64 4] (w2.drewN n) (fun e w' => e = .returned (.int .u32 (s : Nat)) ∧ w' = w2.drewN n)) := Lib.hid fun n => (HW.out g (w2.drewN n) w2 rfl D2.out).2
    go_quiet ((go_at_call 30; with_reducible (first | exact Calls.quiet_of_same (HWa.out _) | exact Calls.quiet_of_same (HWb.out _))))
    have B4 : Hid (Below w.heap.size w (w2.drewN nq)) := Lib.hid (below_drewN B2.out nq)
    clear D2 B2
    generalize w2.drewN nq = w4 at B4 ⊢
    go_wp2_with fail
    go_ret2
    exact ⟨rfl, B4.out⟩

set_option maxRecDepth 100000 in
set_option maxHeartbeats 4000000 in
theorem refCkDerive_any (A A' : Option Addr) (n c n' c' : Nat) (ks ts : List UInt8) (w : World) (hx : ks.length = n) (hr : Rd w w.heap.size A ks) (hl : n ≤ 1048576) (hx' : ts.length = n') (hr' : Rd w w.heap.size A' ts) (hl' : n' ≤ 100000) :
    Calls Tryd.prog 19 #[.slice A n c, .slice A' n' c'] w fun e w' => e = .returned (.tuple #[.int .u32 ((deriveC ks ts).1 : Nat), .int .u32 ((deriveC ks ts).2 : Nat)]) ∧ Below w.heap.size w w' := by
  have HR := Lib.hid hr
  have HX := Lib.hid hx
  have HR' := Lib.hid hr'
  have HX' := Lib.hid hx'
  obtain ⟨D, hD⟩ : ∃ D, D = mac ks ts := ⟨_, rfl⟩
  have HD := Lib.hid hD
  have HDl := Lib.hid (show D.length = 32 by rw [hD, length_mac])
  have hszD : (row8 D).size = 32 := by rw [size_row8, HDl.out]
  have hst := (fun W : World => run_storeCells_new (P := Tryd.prog) W 46 #[.int .u8 0, .int .u8 0, .int .u8 0, .int .u8 0, .int .u8 0, .int .u8 0, .int .u8 0, .int .u8 0, .int .u8 0, .int .u8 0, .int .u8 0, .int .u8 0, .int .u8 0, .int .u8 0, .int .u8 0, .int .u8 0, .int .u8 0, .int .u8 0, .int .u8 0, .int .u8 0, .int .u8 0, .int .u8 0, .int .u8 0, .int .u8 0, .int .u8 0, .int .u8 0, .int .u8 0, .int .u8 0, .int .u8 0, .int .u8 0, .int .u8 0, .int .u8 0] (row8 D) ((show (Tryd.prog.info? 46).map (·.size) = some 32 by kernel_rfl).trans (by rw [size_row8, HDl.out])) (by rw [size_row8, HDl.out]; rfl) (row8_one _))
  have hsl : ∀ (W : World) (r : Nat), (Instr.sliceAt 46 (.pointer (some ⟨r, 0, none⟩)) none none none).run Tryd.prog W = .ok (.slice (some ⟨r, 0, none⟩) 32 32) W := fun W r => slice_whole Tryd.underlying46 (by kernel_rfl) _ _ W
  have hl0 := num_lt D 0 4
  have hl4 := num_lt D 4 4
  have HT1 : Hid ((deriveC ks ts).1 = if num D 0 4 = 0 then 1 else num D 0 4) := Lib.hid (by unfold deriveC; rw [hD])
  have HT2 : Hid ((deriveC ks ts).2 = num D 4 4) := Lib.hid (by unfold deriveC; rw [hD])
  rw [HT1.out, HT2.out]
  have HW : Hid (∀ (g : Nat) (W W0 : World), W.heap = W0.heap → Blk W0 g 46 (row8 D) → Calls Tryd.prog 30 #[.slice (some ⟨g, 0, none⟩) 32 32, .int .i64 0] W (fun e w' => e = .returned (.int .u32 (num D 0 4 : Nat)) ∧ w' = W) ∧ Calls Tryd.prog 30 #[.slice (some ⟨g, 0, none⟩) 32 32, .int .i64 4] W (fun e w' => e = .returned (.int .u32 (num D 4 4 : Nat)) ∧ w' = W)) := Lib.hid fun g W W0 hW hB => ⟨(ck_word_any _ (some ⟨g, 0, none⟩) 32 32 0 D W (by unfold maxLen; omega) HDl.out ((RowAt.rd hB 0 D (fun j hj => by rw [Nat.zero_add])).heap_ hW) (by omega)).mono fun _ _ ⟨a, b⟩ => ⟨a, b.symm⟩, (ck_word_any _ (some ⟨g, 0, none⟩) 32 32 4 D W (by unfold maxLen; omega) HDl.out ((RowAt.rd hB 0 D (fun j hj => by rw [Nat.zero_add])).heap_ hW) (by omega)).mono fun _ _ ⟨a, b⟩ => ⟨a, b.symm⟩⟩
  have HN : Hid (∀ (g : Nat) (W : World), Blk W g 46 (row8 D) → Calls Tryd.prog 28 #[.slice (some ⟨g, 0, none⟩) 32 32, .int .i64 0, .int .i64 4] W (fun e w' => e = .returned (.int .u64 (num D 0 4 : Nat)) ∧ Below W.heap.size W w') ∧ Calls Tryd.prog 28 #[.slice (some ⟨g, 0, none⟩) 32 32, .int .i64 4, .int .i64 4] W (fun e w' => e = .returned (.int .u64 (num D 4 4 : Nat)) ∧ Below W.heap.size W w')) := Lib.hid fun g W hB => ⟨ck_number_any (some ⟨g, 0, none⟩) 32 32 0 4 D W (by omega) (by omega) (by unfold maxLen; omega) HDl.out (RowAt.rd hB 0 D (fun j hj => by rw [Nat.zero_add])) (by unfold IsSize; omega) (by omega), ck_number_any (some ⟨g, 0, none⟩) 32 32 4 4 D W (by omega) (by omega) (by unfold maxLen; omega) HDl.out (RowAt.rd hB 0 D (fun j hj => by rw [Nat.zero_add])) (by unfold IsSize; omega) (by omega)⟩
  obtain ⟨t, ht⟩ : ∃ t, t = num D 0 4 := ⟨_, rfl⟩
  obtain ⟨s, hs⟩ : ∃ s, s = num D 4 4 := ⟨_, rfl⟩
  rw [← ht] at hl0
  rw [← hs] at hl4
  simp only [← ht, ← hs] at HW HN ⊢
  clear hx hr hx' hr' hD ht hs HT1 HT2
  have hmac := refMac_any A n c ks A' n' c' ts w hl HX.out HR.out hl' HX'.out HR'.out
  rw [← HD.out] at hmac
  by_cases h0 : t = 0
  · subst h0
    rw [if_pos rfl]
    go_enter Tryd.func19, Tryd.ntmps19
    go_wp2_with fail
    refine hmac.mono ?_
    rintro e w1 ⟨rfl, hb1⟩
    have B2 := Lib.hid (hb1.alloc hb1.size (.cells (row8 D) 46))
    have D2 : Hid (Blk (w1.alloc (.cells (row8 D) 46)) w1.heap.size 46 (row8 D)) := Lib.hid (Blk.new _ _ _)
    clear hb1
    go_wp2_with fail
    generalize w1.alloc (.cells (row8 D) 46) = w2 at B2 D2 ⊢
    generalize w1.heap.size = g at D2 ⊢
    refine (HN.out g w2 D2.out).1.mono ?_
    rintro e w3 ⟨rfl, hb3⟩
    have B3 := Lib.hid (below_then B2.out (Nat.le_refl _) hb3)
    have D3 := Lib.hid (D2.out.below hb3 D2.out.lt)
    clear hb3
    go_wp2_with fail
    refine (HN.out g w3 D3.out).2.mono ?_
    rintro e w4 ⟨rfl, hb4⟩
    have B4 := Lib.hid (below_then B3.out (Nat.le_refl _) hb4)
    clear hb4
    go_wp2_with fail
    go_ret2
    exact ⟨rfl, B4.out⟩
  · rw [if_neg h0]
    have hne : ((t : Int) == 0) = false := by rw [beq_eq_false_iff_ne]; omega
    clear h0
    go_enter Tryd.func19, Tryd.ntmps19
    go_wp2_with fail
    refine hmac.mono ?_
    rintro e w1 ⟨rfl, hb1⟩
    have B2 := Lib.hid (hb1.alloc hb1.size (.cells (row8 D) 46))
    have D2 : Hid (Blk (w1.alloc (.cells (row8 D) 46)) w1.heap.size 46 (row8 D)) := Lib.hid (Blk.new _ _ _)
    clear hb1
    go_wp2_with fail
    generalize w1.alloc (.cells (row8 D) 46) = w2 at B2 D2 ⊢
    generalize w1.heap.size = g at D2 ⊢
    refine (HN.out g w2 D2.out).1.mono ?_
    rintro e w3 ⟨rfl, hb3⟩
    have B3 := Lib.hid (below_then B2.out (Nat.le_refl _) hb3)
    have D3 := Lib.hid (D2.out.below hb3 D2.out.lt)
    clear hb3
    go_wp2_with fail
    refine (HN.out g w3 D3.out).2.mono ?_
    rintro e w4 ⟨rfl, hb4⟩
    have B4 := Lib.hid (below_then B3.out (Nat.le_refl _) hb4)
    clear hb4
    go_wp2_with fail
    go_ret2
    exact ⟨rfl, B4.out⟩

set_option maxRecDepth 100000 in
set_option maxHeartbeats 4000000 in
theorem twin_any (A : Option Addr) (n c : Nat) (xs : List UInt8) (w : World) (hn : n ≤ 140737488355328) (hx : xs.length = n) (hr : Rd w w.heap.size A xs) :
    Calls Tryd.prog 10 #[.slice A n c] w fun e w' => ∃ A2 c2, e = .returned (.slice A2 n c2) ∧ Own8 w' 5 w.heap.size A2 n c2 xs ∧ Below w.heap.size w w' := by
  obtain ⟨i8, h8⟩ := Tryd.ty8
  have HX := Lib.hid hx
  have HO : Own8 (w.alloc (.cells #[] 5)) 5 w.heap.size (some ⟨w.heap.size, 0, none⟩) 0 0 [] := Own8.of_row (RowAt.new w 5 []) (Nat.le_refl _) rfl (Nat.zero_le _)
  have hr2 : Rd (w.alloc (.cells #[] 5)) w.heap.size A xs := hr.alloc (Nat.le_refl _) _
  have B1 := Lib.hid (below_new w (.cells #[] 5))
  have hs : w.heap.size ≤ (w.alloc (.cells #[] 5)).heap.size := by simp
  clear hx hr
  go_enter Tryd.func10, Tryd.ntmps10
  go_wp2_with (at_builtin; refine wpList_append8 h8 _ rfl _ _ rfl w.heap.size _ _ _ _ rfl HO _ _ _ _ _ rfl HX.out hr2 (by omega) hs ?_; intro A9 c9 w9 h9 hg9 ho9)
  go_ret
  have e0 : (0 + n : Nat) = n := Nat.zero_add n
  rw [e0] at h9
  exact ⟨A9, c9, rfl, by simpa using h9, B1.out.grown hg9 hs HO.blk⟩

set_option maxRecDepth 100000 in
set_option maxHeartbeats 4000000 in
theorem sameL_any (A A' : Option Addr) (n n' c c' : Nat) (xs ys : List UInt8) (w : World) (hx : xs.length = n) (hy : ys.length = n') (B B' : Nat) (hr : Rd w B A xs) (hr' : Rd w B' A' ys) :
    Calls Tryd.prog 11 #[.slice A n c, .slice A' n' c'] w fun e w' => e = .returned (.bool (decide (xs = ys))) ∧ w = w' := by
  have h1 := conv_str w B A n c xs hx hr
  have h2 := conv_str w B' A' n' c' ys hy hr'
  have HE : Hid ((xs == ys) = decide (xs = ys)) := Lib.hid (by rw [Bool.eq_iff_iff, beq_iff_eq, decide_eq_true_iff])
  clear hr hr' hx hy
  go_enter Tryd.func11, Tryd.ntmps11
  go_wp2_with fail
  go_ret
  exact ⟨ret_bool HE.out, rfl⟩

end Go.Proofs.YtnnkgdkjmmljiaaDoor
