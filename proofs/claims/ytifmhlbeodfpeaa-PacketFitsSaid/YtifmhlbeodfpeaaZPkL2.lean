/-
  PacketFits, walked.
-/
import Derived.Test.YtifmhlbeodfpeaaQ31
namespace Go.Proofs.Ytifmhlbeodfpeaa
open Go.RowKit
set_option linter.unusedVariables false

set_option maxRecDepth 100000 in
set_option maxHeartbeats 4000000 in
theorem packetFits_walk (tag : Nat) (A : Option Addr) (n c : Nat) (cs : List Chk) (k f : UInt8) (A' : Option Addr) (n' c' : Nat) (xs : List UInt8) (mtu : Int) (w : World) (ht : tag < 4294967296) (hcn : n ≤ c) (hcm : c ≤ maxLen) (hx : cs.length = n) (hr : Chunks w w.heap.size A cs) (hcn' : n' ≤ c') (hcm' : c' ≤ maxLen) (hx' : xs.length = n') (hr' : Rd w w.heap.size A' xs) (hmtu : (Lit.int .i64 mtu).wf = true) :
    Calls Try.prog 5 #[.agg #[.int .u32 (tag : Int), .slice A n c], .agg #[.int .u8 (k.toNat : Int), .int .u8 (f.toNat : Int), .slice A' n' c'], .int .i64 mtu] w fun e w' => e = .returned (.bool true) ∧ Below w.heap.size w w' := by
  have HLG : Hid (∀ W, Below w.heap.size w W → Calls Try.prog 11 #[.agg #[.int .u32 (tag : Int), .slice A n c]] W fun e w' => LargeR cs e ∧ Below W.heap.size W w') := Lib.hid fun W hW => large_any (tag : Int) A n c cs W (Nat.le_trans hcn hcm) hx ((hr.below hW).more hW.size)
  obtain ⟨q, hq⟩ : ∃ q, q = fitsP cs (k, f, xs) mtu := ⟨_, rfl⟩
  have HFT : Hid (Meek cs → n' ≤ 262144 → ∀ W, Below w.heap.size w W → Calls Try.prog 25 #[.agg #[.int .u32 (tag : Int), .slice A n c], .agg #[.int .u8 (k.toNat : Int), .int .u8 (f.toNat : Int), .slice A' n' c'], .int .i64 mtu] W fun e w' => e = .returned (.bool q) ∧ Below W.heap.size W w') := Lib.hid fun hm hn' W hW => hq ▸ fits_any tag A n c cs k f A' n' c' xs mtu W hm hcn hcm hx ((hr.below hW).more hW.size) hn' hcn' hcm' hx' ((hr'.below hW).more hW.size)
  have HRF : Hid (Meek cs → n' ≤ 262144 → ∀ W, Below w.heap.size w W → Calls Try.prog 26 #[.agg #[.int .u32 (tag : Int), .slice A n c], .agg #[.int .u8 (k.toNat : Int), .int .u8 (f.toNat : Int), .slice A' n' c'], .int .i64 mtu] W fun e w' => e = .returned (.bool q) ∧ Below W.heap.size W w') := Lib.hid fun hm hn' W hW => hq ▸ refFits_any tag A n c cs k f A' n' c' xs mtu W hm hcn hcm hx ((hr.below hW).more hW.size) hn' hcn' hcm' hx' ((hr'.below hW).more hW.size)
  obtain ⟨al, hal⟩ : ∃ al, al = aloneK k := ⟨_, rfl⟩
  have HAL : Hid (∀ W, Calls Try.prog 27 #[.int .u8 (k.toNat : Int)] W fun e w' => e = .returned (.bool al) ∧ Below W.heap.size W w') := Lib.hid fun W => hal ▸ (alone_any k W).mono fun e w' h => ⟨h.1, h.2 ▸ Below.refl _ _⟩
  have HRA : Hid (∀ W, Calls Try.prog 28 #[.int .u8 (k.toNat : Int)] W fun e w' => e = .returned (.bool al) ∧ Below W.heap.size W w') := Lib.hid fun W => hal ▸ (refAlone_any k W).mono fun e w' h => ⟨h.1, h.2 ▸ Below.refl _ _⟩
  have hn'm := Nat.le_trans hcn' hcm'
  unfold maxLen at hn'm
  clear hr hr' hx hx' hq hal hcm hcm' hcn hcn' hmtu
  have K0 : Hid (Blk ((w.alloc (.cells #[.int .u32 (tag : Int), .slice A n c] 25)).alloc (.cells #[.int .u8 (k.toNat : Int), .int .u8 (f.toNat : Int), .slice A' n' c'] 41)) w.heap.size 25 #[.int .u32 (tag : Int), .slice A n c]) := Lib.hid ((Blk.new w _ _).alloc _)
  have K1 : Hid (Blk ((w.alloc (.cells #[.int .u32 (tag : Int), .slice A n c] 25)).alloc (.cells #[.int .u8 (k.toNat : Int), .int .u8 (f.toNat : Int), .slice A' n' c'] 41)) (w.heap.size + 1) 41 #[.int .u8 (k.toNat : Int), .int .u8 (f.toNat : Int), .slice A' n' c']) := Lib.hid (by simpa using Blk.new (w.alloc (.cells #[.int .u32 (tag : Int), .slice A n c] 25)) 41 #[.int .u8 (k.toNat : Int), .int .u8 (f.toNat : Int), .slice A' n' c'])
  have B0 : Hid (Below w.heap.size w ((w.alloc (.cells #[.int .u32 (tag : Int), .slice A n c] 25)).alloc (.cells #[.int .u8 (k.toNat : Int), .int .u8 (f.toNat : Int), .slice A' n' c'] 41))) := Lib.hid (((Below.refl _ w).alloc (Nat.le_refl _) _).alloc (by simp) _)
  go_enter Try.func5, Try.ntmps5
  rw [drawn_eq 3]
  go_wp2_with fail
  generalize ((w.alloc (.cells #[.int .u32 (tag : Int), .slice A n c] 25)).alloc (.cells #[.int .u8 (k.toNat : Int), .int .u8 (f.toNat : Int), .slice A' n' c'] 41)) = v0 at K0 K1 B0 ⊢
  refine (HLG.out v0 B0.out).mono ?_
  rintro e w1 ⟨hL, hb⟩
  have K0a := Lib.hid (K0.out.below hb K0.out.lt)
  have K1a := Lib.hid (K1.out.below hb K1.out.lt)
  have B1 := Lib.hid (below_then B0.out (Nat.le_refl _) hb)
  have x2 : w1.cell? ⟨w.heap.size + 1, 2, none⟩ = some (.slice A' n' c') := K1a.out.cell 2
  clear hb K0 K1 B0 HLG
  rcases hL with rfl | ⟨rfl, hM⟩
  · go_wp2_with fail
    refine (works_any w1).mono ?_
    rintro e w2 ⟨rfl, hb⟩
    go_wp2_with fail
    go_ret
    exact ⟨rfl, below_then B1.out (Nat.le_refl _) hb⟩
  · by_cases hbig : 262144 < n'
    · go_wp2_with fail
      refine (works_any w1).mono ?_
      rintro e w2 ⟨rfl, hb⟩
      go_wp2_with fail
      go_ret
      exact ⟨rfl, below_then B1.out (Nat.le_refl _) hb⟩
    · have HF1 := Lib.hid (HFT.out hM (by omega))
      have HF2 := Lib.hid (HRF.out hM (by omega))
      have hqq : (q == q) = true := by cases q <;> rfl
      have haa : (al == al) = true := by cases al <;> rfl
      clear HFT HRF hM
      go_wp2_with fail
      rw [← drawn_eq 3]
      clear x2
      generalize w1 = v1 at K0a K1a B1 ⊢
      refine wp_region_grow_tail 21 (by kernel_rfl) [(Is (.agg #[.int .u32 (tag : Int), .slice A n c])), (Is (.agg #[.int .u8 (k.toNat : Int), .int .u8 (f.toNat : Int), .slice A' n' c'])), (Is (.int .i64 mtu)), (Is (.bool q)), (Is (.agg #[.int .u32 (tag : Int), .slice A n c])), (Is (.agg #[.int .u8 (k.toNat : Int), .int .u8 (f.toNat : Int), .slice A' n' c'])), (Is (.int .i64 mtu)), (Is (.bool q)), (Is (.bool true)), (Is (.bool true)), (Is (.pointer (some ⟨w.heap.size + 1, 0, none⟩))), (Is (.int .u8 (k.toNat : Int))), (Is (.bool al)), (Is (.pointer (some ⟨w.heap.size + 1, 0, none⟩))), (Is (.int .u8 (k.toNat : Int))), (Is (.bool al)), (Is (.bool true)), (Is (.bool true)), (Is (.bool true)), (Is (.bool true)), (Is (.bool true))] rfl ?_ (by kernel_rfl) (by kernel_rfl) ?_ ?_
      · intro p hp
        simp only [List.mem_cons, List.not_mem_nil, or_false] at hp
        rcases hp with rfl | rfl | rfl | rfl | rfl | rfl | rfl | rfl | rfl | rfl | rfl | rfl | rfl | rfl | rfl | rfl | rfl | rfl | rfl | rfl | rfl
        · exact Lasts.is _
        · exact Lasts.is _
        · exact Lasts.is _
        · exact Lasts.is _
        · exact Lasts.is _
        · exact Lasts.is _
        · exact Lasts.is _
        · exact Lasts.is _
        · exact Lasts.is _
        · exact Lasts.is _
        · exact Lasts.is _
        · exact Lasts.is _
        · exact Lasts.is _
        · exact Lasts.is _
        · exact Lasts.is _
        · exact Lasts.is _
        · exact Lasts.is _
        · exact Lasts.is _
        · exact Lasts.is _
        · exact Lasts.is _
        · exact Lasts.is _
      · refine ⟨?_, ?_, ?_, ?_, ?_, ?_, ?_, ?_, ?_, ?_, ?_, ?_, ?_, ?_, ?_, ?_, ?_, ?_, ?_, ?_, ?_, trivial⟩
        · intro listed a w1 hl hc
          have h3 : a.tmps[3]?.getD undef = .pointer (some ⟨w.heap.size, 0, none⟩) := (hc.was 3 (by kernel_rfl)).trans rfl
          have kb := K0a.out.below hc.g K0a.out.lt
          have x0 : w1.cell? ⟨w.heap.size, 0, none⟩ = some (.int .u32 (tag : Int)) := kb.cell 0
          have x1 : w1.cell? ⟨w.heap.size, 1, none⟩ = some (.slice A n c) := kb.cell 1
          clear kb
          refine does_value rfl rfl (.agg #[.int .u32 (tag : Int), .slice A n c]) w1 ?_ (Below.refl _ _) rfl
          clear hc hl
          go_simp
        · intro listed a w1 hl hc
          have h4 : a.tmps[4]?.getD undef = .pointer (some ⟨w.heap.size + 1, 0, none⟩) := (hc.was 4 (by kernel_rfl)).trans rfl
          have kb := K1a.out.below hc.g K1a.out.lt
          have x0 : w1.cell? ⟨w.heap.size + 1, 0, none⟩ = some (.int .u8 (k.toNat : Int)) := kb.cell 0
          have x1 : w1.cell? ⟨w.heap.size + 1, 1, none⟩ = some (.int .u8 (f.toNat : Int)) := kb.cell 1
          have x2 : w1.cell? ⟨w.heap.size + 1, 2, none⟩ = some (.slice A' n' c') := kb.cell 2
          clear kb
          refine does_value rfl rfl (.agg #[.int .u8 (k.toNat : Int), .int .u8 (f.toNat : Int), .slice A' n' c']) w1 ?_ (Below.refl _ _) rfl
          clear hc hl
          go_simp
        · intro listed a w1 hl hc
          have h2 : a.tmps[2]?.getD undef = .int .i64 mtu := (hc.was 2 (by kernel_rfl)).trans rfl
          refine does_value rfl rfl (.int .i64 mtu) w1 ?_ (Below.refl _ _) rfl
          clear hc hl
          go_simp
        · intro listed a w1 hl hc
          have h16 : a.tmps[16]?.getD undef = .agg #[.int .u32 (tag : Int), .slice A n c] := hc.dep hl 0 16 rfl (by kernel_rfl)
          have h17 : a.tmps[17]?.getD undef = .agg #[.int .u8 (k.toNat : Int), .int .u8 (f.toNat : Int), .slice A' n' c'] := hc.dep hl 1 17 rfl (by kernel_rfl)
          have h18 : a.tmps[18]?.getD undef = .int .i64 mtu := hc.dep hl 2 18 rfl (by kernel_rfl)
          refine does_call rfl rfl 25 #[.agg #[.int .u32 (tag : Int), .slice A n c], .agg #[.int .u8 (k.toNat : Int), .int .u8 (f.toNat : Int), .slice A' n' c'], .int .i64 mtu] ?_ ((HF1.out w1 (B1.out.trans (hc.g.mono B1.out.size))).mono fun e w' ⟨he, hb⟩ => ⟨_, he, hb, rfl⟩)
          clear hc hl
          go_simp
        · intro listed a w1 hl hc
          have h3 : a.tmps[3]?.getD undef = .pointer (some ⟨w.heap.size, 0, none⟩) := (hc.was 3 (by kernel_rfl)).trans rfl
          have kb := K0a.out.below hc.g K0a.out.lt
          have x0 : w1.cell? ⟨w.heap.size, 0, none⟩ = some (.int .u32 (tag : Int)) := kb.cell 0
          have x1 : w1.cell? ⟨w.heap.size, 1, none⟩ = some (.slice A n c) := kb.cell 1
          clear kb
          refine does_value rfl rfl (.agg #[.int .u32 (tag : Int), .slice A n c]) w1 ?_ (Below.refl _ _) rfl
          clear hc hl
          go_simp
        · intro listed a w1 hl hc
          have h4 : a.tmps[4]?.getD undef = .pointer (some ⟨w.heap.size + 1, 0, none⟩) := (hc.was 4 (by kernel_rfl)).trans rfl
          have kb := K1a.out.below hc.g K1a.out.lt
          have x0 : w1.cell? ⟨w.heap.size + 1, 0, none⟩ = some (.int .u8 (k.toNat : Int)) := kb.cell 0
          have x1 : w1.cell? ⟨w.heap.size + 1, 1, none⟩ = some (.int .u8 (f.toNat : Int)) := kb.cell 1
          have x2 : w1.cell? ⟨w.heap.size + 1, 2, none⟩ = some (.slice A' n' c') := kb.cell 2
          clear kb
          refine does_value rfl rfl (.agg #[.int .u8 (k.toNat : Int), .int .u8 (f.toNat : Int), .slice A' n' c']) w1 ?_ (Below.refl _ _) rfl
          clear hc hl
          go_simp
        · intro listed a w1 hl hc
          have h2 : a.tmps[2]?.getD undef = .int .i64 mtu := (hc.was 2 (by kernel_rfl)).trans rfl
          refine does_value rfl rfl (.int .i64 mtu) w1 ?_ (Below.refl _ _) rfl
          clear hc hl
          go_simp
        · intro listed a w1 hl hc
          have h20 : a.tmps[20]?.getD undef = .agg #[.int .u32 (tag : Int), .slice A n c] := hc.dep hl 4 20 rfl (by kernel_rfl)
          have h21 : a.tmps[21]?.getD undef = .agg #[.int .u8 (k.toNat : Int), .int .u8 (f.toNat : Int), .slice A' n' c'] := hc.dep hl 5 21 rfl (by kernel_rfl)
          have h22 : a.tmps[22]?.getD undef = .int .i64 mtu := hc.dep hl 6 22 rfl (by kernel_rfl)
          refine does_call rfl rfl 26 #[.agg #[.int .u32 (tag : Int), .slice A n c], .agg #[.int .u8 (k.toNat : Int), .int .u8 (f.toNat : Int), .slice A' n' c'], .int .i64 mtu] ?_ ((HF2.out w1 (B1.out.trans (hc.g.mono B1.out.size))).mono fun e w' ⟨he, hb⟩ => ⟨_, he, hb, rfl⟩)
          clear hc hl
          go_simp
        · intro listed a w1 hl hc
          have h19 : a.tmps[19]?.getD undef = .bool q := hc.dep hl 3 19 rfl (by kernel_rfl)
          have h23 : a.tmps[23]?.getD undef = .bool q := hc.dep hl 7 23 rfl (by kernel_rfl)
          refine does_value rfl rfl (.bool true) w1 ?_ (Below.refl _ _) rfl
          clear hc hl
          go_simp
        · intro listed a w1 hl hc
          have h24 : a.tmps[24]?.getD undef = .bool true := hc.dep hl 8 24 rfl (by kernel_rfl)
          refine does_value rfl rfl (.bool true) w1 ?_ (Below.refl _ _) rfl
          clear hc hl
          go_simp
        · intro listed a w1 hl hc
          have h4 : a.tmps[4]?.getD undef = .pointer (some ⟨w.heap.size + 1, 0, none⟩) := (hc.was 4 (by kernel_rfl)).trans rfl
          refine does_value rfl (wanted_at rfl rfl (hc.dep hl 9 25 rfl (by kernel_rfl))) (.pointer (some ⟨w.heap.size + 1, 0, none⟩)) w1 ?_ (Below.refl _ _) rfl
          clear hc hl
          go_simp
        · intro listed a w1 hl hc
          have h26 : a.tmps[26]?.getD undef = .pointer (some ⟨w.heap.size + 1, 0, none⟩) := hc.dep hl 10 26 rfl (by kernel_rfl)
          have kb := K1a.out.below hc.g K1a.out.lt
          have x0 : w1.cell? ⟨w.heap.size + 1, 0, none⟩ = some (.int .u8 (k.toNat : Int)) := kb.cell 0
          clear kb
          refine does_value rfl (wanted_at rfl rfl (hc.dep hl 9 25 rfl (by kernel_rfl))) (.int .u8 (k.toNat : Int)) w1 ?_ (Below.refl _ _) rfl
          clear hc hl
          go_simp
        · intro listed a w1 hl hc
          have h27 : a.tmps[27]?.getD undef = .int .u8 (k.toNat : Int) := hc.dep hl 11 27 rfl (by kernel_rfl)
          refine does_call rfl (wanted_at rfl rfl (hc.dep hl 9 25 rfl (by kernel_rfl))) 27 #[.int .u8 (k.toNat : Int)] ?_ ((HAL.out w1).mono fun e w' ⟨he, hb⟩ => ⟨_, he, hb, rfl⟩)
          clear hc hl
          go_simp
        · intro listed a w1 hl hc
          have h4 : a.tmps[4]?.getD undef = .pointer (some ⟨w.heap.size + 1, 0, none⟩) := (hc.was 4 (by kernel_rfl)).trans rfl
          refine does_value rfl (wanted_at rfl rfl (hc.dep hl 9 25 rfl (by kernel_rfl))) (.pointer (some ⟨w.heap.size + 1, 0, none⟩)) w1 ?_ (Below.refl _ _) rfl
          clear hc hl
          go_simp
        · intro listed a w1 hl hc
          have h29 : a.tmps[29]?.getD undef = .pointer (some ⟨w.heap.size + 1, 0, none⟩) := hc.dep hl 13 29 rfl (by kernel_rfl)
          have kb := K1a.out.below hc.g K1a.out.lt
          have x0 : w1.cell? ⟨w.heap.size + 1, 0, none⟩ = some (.int .u8 (k.toNat : Int)) := kb.cell 0
          clear kb
          refine does_value rfl (wanted_at rfl rfl (hc.dep hl 9 25 rfl (by kernel_rfl))) (.int .u8 (k.toNat : Int)) w1 ?_ (Below.refl _ _) rfl
          clear hc hl
          go_simp
        · intro listed a w1 hl hc
          have h30 : a.tmps[30]?.getD undef = .int .u8 (k.toNat : Int) := hc.dep hl 14 30 rfl (by kernel_rfl)
          refine does_call rfl (wanted_at rfl rfl (hc.dep hl 9 25 rfl (by kernel_rfl))) 28 #[.int .u8 (k.toNat : Int)] ?_ ((HRA.out w1).mono fun e w' ⟨he, hb⟩ => ⟨_, he, hb, rfl⟩)
          clear hc hl
          go_simp
        · intro listed a w1 hl hc
          have h28 : a.tmps[28]?.getD undef = .bool al := hc.dep hl 12 28 rfl (by kernel_rfl)
          have h31 : a.tmps[31]?.getD undef = .bool al := hc.dep hl 15 31 rfl (by kernel_rfl)
          refine does_value rfl (wanted_at rfl rfl (hc.dep hl 9 25 rfl (by kernel_rfl))) (.bool true) w1 ?_ (Below.refl _ _) rfl
          clear hc hl
          go_simp
        · intro listed a w1 hl hc
          have h25 : a.tmps[25]?.getD undef = .bool true := hc.dep hl 9 25 rfl (by kernel_rfl)
          have h32 : a.tmps[32]?.getD undef = .bool true := hc.dep hl 16 32 rfl (by kernel_rfl)
          refine does_value rfl rfl (.bool true) w1 ?_ (Below.refl _ _) rfl
          clear hc hl
          go_simp
        · intro listed a w1 hl hc
          have h33 : a.tmps[33]?.getD undef = .bool true := hc.dep hl 17 33 rfl (by kernel_rfl)
          refine does_value rfl rfl (.bool true) w1 ?_ (Below.refl _ _) rfl
          clear hc hl
          go_simp
        · intro listed a w1 hl hc
          refine does_call rfl (wanted_at rfl rfl (hc.dep hl 18 34 rfl (by kernel_rfl))) 12 #[] ?_ ((works_any w1).mono fun e w' ⟨he, hb⟩ => ⟨_, he, hb, rfl⟩)
          clear hc hl
          go_simp
        · intro listed a w1 hl hc
          have h34 : a.tmps[34]?.getD undef = .bool true := hc.dep hl 18 34 rfl (by kernel_rfl)
          have h35 : a.tmps[35]?.getD undef = .bool true := hc.dep hl 19 35 rfl (by kernel_rfl)
          refine does_value rfl rfl (.bool true) w1 ?_ (Below.refl _ _) rfl
          clear hc hl
          go_simp
      intro w2 hb2
      rintro _ rfl _ rfl _ rfl _ rfl _ rfl _ rfl _ rfl _ rfl _ rfl _ rfl _ rfl _ rfl _ rfl _ rfl _ rfl _ rfl _ rfl _ rfl _ rfl _ rfl _ rfl
      simp only [Thus, List.reverse_cons, List.reverse_nil, List.nil_append, List.cons_append, List.drop, List.take, lay]
      go_frame
      go_wp2_with fail
      go_ret
      exact ⟨rfl, below_then B1.out (Nat.le_refl _) hb2⟩
end Go.Proofs.Ytifmhlbeodfpeaa
