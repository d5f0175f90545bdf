/-
  Package packet: Read.
-/
import Derived.Test.YtifmhlbeodfpeaaQ24
import Derived.Test.YtifmhlbeodfpeaaQ11
namespace Go.Proofs.Ytifmhlbeodfpeaa
open Go.RowKit
set_option linter.unusedVariables false

theorem calls_of_marks {P : Program} {f : FuncId} {fn : Func} {c : Code} {args : Array Value} {w : World} {R : Ending → World → Prop} (hf : P.funcs[f]? = some fn) (hb : fn.body = some c)
    (h : c.wp P (bodyPostM Fence.wide 0 P fn R) { tmps := args ++ Array.replicate (fn.ntmps - args.size) undef, defers := [] } w) : Calls P f args w R :=
  callsIn_wide.1 (callsIn_of_wp_marks hf hb trivial (wpIn_wide.2 h))
theorem marks_ret0 {P : Program} {fn : Func} {R : Ending → World → Prop} {tmps : Array Value} {w : World} {v : Value} (hr : (results fn tmps).run P w = .ok v w) (h : R (.returned v) w) :
    bodyPostM Fence.wide 0 P fn R .ret { tmps := tmps, defers := [] } w := ⟨v, hr, h⟩
theorem marks_ret1 {P : Program} {fn : Func} {R : Ending → World → Prop} {tmps : Array Value} {w : World} {v : Value} {D : Nat} (hD : w.heap[D]? = some (.deferred (some []))) (hr : (results fn tmps).run P (w.putObj D (.deferred none)) = .ok v (w.putObj D (.deferred none))) (h : R (.returned v) (w.putObj D (.deferred none))) :
    bodyPostM Fence.wide 0 P fn R .ret { tmps := tmps, defers := [{ target := .collected D, args := #[] }] } w :=
  ⟨by simp, .inl ⟨_, _, rfl, run_takeDeferred hD, v, hr, h⟩⟩

/-- Between two rounds of Read's loop. -/
structure RdI (w : World) (S gp gb tag : Nat) (AA : Option Addr) (m k : Nat) (es : List CE) (A1 : Option Addr) (c1 : Nat) (W : World) : Prop where
  oc : OC W w.heap.size (.slice A1 es.length c1) es
  kp : Blk W gp 25 #[.int .u32 (tag : Int), .slice A1 es.length c1]
  k2 : Blk W w.heap.size 25 #[.int .u32 0, .slice none 0 0]
  k3 : Blk W (w.heap.size + 1) 37 #[.int .i64 0]
  kb : Blk W gb 29 #[.slice AA m k]
  bl : Below w.heap.size w W
  sz : S ≤ W.heap.size
structure RdX (w W : World) : Prop where
  k2 : Blk W w.heap.size 25 #[.int .u32 0, .slice none 0 0]
  k3 : Blk W (w.heap.size + 1) 37 #[.int .i64 7]
  bl : Below w.heap.size w W
section
variable {w W W' : World} {S gp gb tag m k c1 l : Nat} {AA A1 : Option Addr} {es : List CE} {o o' : Obj}
theorem RdI.below (h : RdI w S gp gb tag AA m k es A1 c1 W) (hb : Below W.heap.size W W') : RdI w S gp gb tag AA m k es A1 c1 W' :=
  ⟨h.oc.below hb, h.kp.below hb h.kp.lt, h.k2.below hb h.k2.lt, h.k3.below hb h.k3.lt, h.kb.below hb h.kb.lt, below_then h.bl (Nat.le_refl _) hb, Nat.le_trans h.sz hb.size⟩
theorem RdI.putObj (h : RdI w S gp gb tag AA m k es A1 c1 W) (hl : W.heap[l]? = some o) (hc : o.isCells = false) (hs : w.heap.size ≤ l) : RdI w S gp gb tag AA m k es A1 c1 (W.putObj l o') :=
  ⟨oc_putObj h.oc hl hc, blk_putObj h.kp hl hc, blk_putObj h.k2 hl hc, blk_putObj h.k3 hl hc, blk_putObj h.kb hl hc, below_putObj h.bl hs, by simpa using h.sz⟩
theorem RdX.putObj (h : RdX w W) (hl : W.heap[l]? = some o) (hc : o.isCells = false) (hs : w.heap.size ≤ l) : RdX w (W.putObj l o') :=
  ⟨blk_putObj h.k2 hl hc, blk_putObj h.k3 hl hc, below_putObj h.bl hs⟩
end
theorem row_cells {W W' : World} {base : Nat} {v : Value} {es : List CE} (h : OC W base v es) (hg : W.grownBy W' v.ownBlock) : KeepsOthers W W' :=
  KeepsOthers.of_grownBy hg fun j o hj ho => by
    rcases h.row.2 with ⟨rfl, _⟩ | ⟨g, cap, cur, rfl, hb, hgg, _⟩
    · cases hj
    · injection hj with hj
      subst hj
      have h2 : W.heap[g]? = some o := ho
      rw [hgg] at h2
      injection h2 with h2
      rw [← h2]
      rfl

set_option maxRecDepth 100000 in
set_option maxHeartbeats 4000000 in
theorem readP_short (A : Option Addr) (n c : Nat) (xs : List UInt8) (w : World) (h12 : n < 12) (hx : xs.length = n) :
    Calls Try.prog 22 #[.slice A n c] w fun e w' => RdR w.heap.size (rdP xs) e w' ∧ Below w.heap.size w w' := by
  have HE : Hid (rdP xs = .err 7) := Lib.hid (rd_short (by omega))
  have hz : ∀ W, (zeroValue 25).run Try.prog W = .ok (.agg #[.int .u32 0, .slice none 0 0]) W := by intro W; kernel_rfl
  refine calls_of_marks Try.func22 rfl ?_
  simp only [Try.ntmps22, List.size_toArray, List.length_cons, List.length_nil, Nat.reduceAdd, Nat.reduceSub, Array.replicate_succ, Array.replicate_zero, List.push_toArray, List.append_toArray, List.nil_append, List.cons_append]
  rw [drawn_eq 3, heldR_eq]
  go_wp2_with fail
  refine marks_ret0 (v := noPkt 7) ?_ ⟨by rw [HE.out]; rfl, ?_⟩
  · simp [noPkt, results, Try.results22, go_sem]
  · exact ((Below.refl _ w).alloc (Nat.le_refl _) _).alloc (by simp) _

set_option maxRecDepth 100000 in
set_option maxHeartbeats 4000000 in
theorem readP_long (A : Option Addr) (n c : Nat) (xs : List UInt8) (w : World) (hn : n ≤ 4194304) (hcn : n ≤ c) (hcm : c ≤ maxLen) (hx : xs.length = n) (hr : Rd w w.heap.size A xs) (h12 : 12 ≤ n) :
    Calls Try.prog 22 #[.slice A n c] w fun e w' => RdR w.heap.size (rdP xs) e w' ∧ Below w.heap.size w w' := by
  have hz : ∀ W, (zeroValue 25).run Try.prog W = .ok (.agg #[.int .u32 0, .slice none 0 0]) W := by intro W; kernel_rfl
  obtain ⟨b, o, rfl, hbl, _⟩ := hr.at_ (by rintro rfl; simp at hx; omega)
  have HX := Lib.hid hx
  have HR := Lib.hid hr
  have HCM := Lib.hid hcm
  obtain ⟨AA, hAA⟩ : ∃ AA, (if c = 12 then some (⟨b, o, none⟩ : Addr) else some ⟨b, o + 12, none⟩) = AA := ⟨_, rfl⟩
  have HR12 := Lib.hid (hr.from_ (by omega) hAA)
  have HL12 : Hid ((xs.drop 12).length = n - 12) := Lib.hid (by simp; omega)
  obtain ⟨s, hs⟩ : ∃ s, s = (sum (bareP xs)).toNat := ⟨_, rfl⟩
  have HS := Lib.hid hs
  have hs4 : s < 4294967296 := by rw [hs]; exact (sum (bareP xs)).isLt
  obtain ⟨tag, htag⟩ : ∃ tag, tag = num xs 4 4 := ⟨_, rfl⟩
  have ht4 : tag < 4294967296 := by rw [htag]; exact num_lt xs 4 4
  have htw := wrap_u32k ht4
  have HTAG := Lib.hid htag
  obtain ⟨q, hq⟩ : ∃ q, q = decide (s = num xs 8 4) := ⟨_, rfl⟩
  have HQ := Lib.hid hq
  have HCK : Hid (∀ W, Below w.heap.size w W → Calls Try.prog 35 #[.slice (some ⟨b, o, none⟩) n c] W fun e w' => ∃ g2, e = .returned (.slice (some ⟨g2, 0, none⟩) 4 4) ∧ W.heap.size ≤ g2 ∧ RowAt w' 5 g2 (enc s 4) ∧ Below W.heap.size W w') := Lib.hid fun W hW => hs ▸ checksum_any (some ⟨b, o, none⟩) n c xs W h12 (by omega) hcn hcm hx ((hr.below hW).more hW.size)
  have HEQ : Hid (∀ W g, Below w.heap.size w W → RowAt W 5 g (enc s 4) → Calls Try.prog 43 #[.slice (some ⟨b, o + 8, none⟩) 4 (c - 8 : Nat), .slice (some ⟨g, 0, none⟩) 4 4] W fun e w' => e = .returned (.bool q) ∧ Below W.heap.size W w') := Lib.hid fun W g hW hg => by
    have h1 := (hr.below hW).cut 8 4
    rw [Option.map_some, Addr.add_lit] at h1
    have h2 := bytesEqual_any (some ⟨b, o + 8, none⟩) (some ⟨g, 0, none⟩) 4 4 (c - 8) 4 ((xs.drop 8).take 4) (enc s 4) W (by simp; omega) (length_enc _ _) _ _ h1 (hg.rd 0 _ (fun j hj => by rw [Nat.zero_add]))
    rw [sum_bytes (by omega) s hs4, ← hq] at h2
    exact h2.mono fun e w' h => ⟨h.1, h.2 ▸ Below.refl _ _⟩
  have HGT : Hid (∀ W, Below w.heap.size w W → Calls Try.prog 44 #[.slice (some ⟨b, o, none⟩) n c, .int .i64 4, .int .i64 4] W fun e w' => e = .returned (.tuple #[.int .u64 (tag : Int), .int .i64 0]) ∧ W = w') := Lib.hid fun W hW => htag ▸ get_yes _ _ n c 4 4 xs W (by unfold maxLen; omega) hx (hr.below hW) (.inr (.inr (.inl rfl))) (by omega)
  have HHP : Hid (∀ W g, Below w.heap.size w W → RowAt W 5 g (enc 5000 2 ++ enc 5000 2) → Calls Try.prog 46 #[.slice (some ⟨b, o, none⟩) n c, .slice (some ⟨g, 0, none⟩) 4 4] W fun e w' => e = .returned (.bool (decide (xs.take 4 = enc 5000 2 ++ enc 5000 2))) ∧ W = w') := Lib.hid fun W g hW hg => hasPrefix_any _ _ n 4 c 4 xs _ W (by omega) (by omega) hcn hcm hx (by simp [length_enc]) _ _ (hr.below hW) (hg.rd 0 _ (fun j hj => by rw [Nat.zero_add])) (by omega)
  have hc12 : 12 ≤ c := by omega
  unfold maxLen at hcm
  clear hx hr hs htag hq
  have K2 : Hid (Blk ((w.alloc (.cells #[.int .u32 0, .slice none 0 0] 25)).alloc (.cells #[.int .i64 0] 37)) w.heap.size 25 #[.int .u32 0, .slice none 0 0]) := Lib.hid ((Blk.new w _ _).alloc _)
  have K3 : Hid (Blk ((w.alloc (.cells #[.int .u32 0, .slice none 0 0] 25)).alloc (.cells #[.int .i64 0] 37)) (w.heap.size + 1) 37 #[.int .i64 0]) := Lib.hid (by simpa using Blk.new (w.alloc (.cells #[.int .u32 0, .slice none 0 0] 25)) 37 #[.int .i64 0])
  have B0 : Hid (Below w.heap.size w ((w.alloc (.cells #[.int .u32 0, .slice none 0 0] 25)).alloc (.cells #[.int .i64 0] 37))) := Lib.hid (((Below.refl _ w).alloc (Nat.le_refl _) _).alloc (by simp) _)
  refine calls_of_marks Try.func22 rfl ?_
  simp only [Try.ntmps22, List.size_toArray, List.length_cons, List.length_nil, Nat.reduceAdd, Nat.reduceSub, Array.replicate_succ, Array.replicate_zero, List.push_toArray, List.append_toArray, List.nil_append, List.cons_append]
  rw [drawn_eq 3, heldR_eq]
  go_wp2_with fail
  rw [← drawn_eq 3]
  generalize ((w.alloc (.cells #[.int .u32 0, .slice none 0 0] 25)).alloc (.cells #[.int .i64 0] 37)) = v1 at K2 K3 B0 ⊢
  refine wp_region_grow_tail 5 (by kernel_rfl) [(Is (.slice (some ⟨b, o, none⟩) n c)), (Is (.slice (some ⟨b, o + 8, none⟩) 4 (c - 8 : Nat))), (Is (.slice (some ⟨b, o, none⟩) n c)), (NewRow 5 v1.heap.size 4 4 (enc s 4) (fun s => s)), (Is (.bool q))] rfl ?_ (by kernel_rfl) (by kernel_rfl) ?_ ?_
  · intro p hp
    simp only [List.mem_cons, List.not_mem_nil, or_false] at hp
    rcases hp with rfl | rfl | rfl | rfl | rfl
    · exact Lasts.is _
    · exact Lasts.is _
    · exact Lasts.is _
    · exact Lasts.newRow _ _ _ _ _ _
    · exact Lasts.is _
  · refine ⟨?_, ?_, ?_, ?_, ?_, trivial⟩
    · intro listed a w1 hl hc
      have h0 : a.tmps[0]?.getD undef = .slice (some ⟨b, o, none⟩) n c := (hc.was 0 (by kernel_rfl)).trans rfl
      refine does_value rfl rfl (.slice (some ⟨b, o, none⟩) n c) w1 ?_ (Below.refl _ _) rfl
      clear hc hl
      go_simp
    · intro listed a w1 hl hc
      have h13 : a.tmps[13]?.getD undef = .slice (some ⟨b, o, none⟩) n c := hc.dep hl 0 13 rfl (by kernel_rfl)
      refine does_value rfl rfl (.slice (some ⟨b, o + 8, none⟩) 4 (c - 8 : Nat)) w1 ?_ (Below.refl _ _) rfl
      clear hc hl
      go_simp
      rw [if_pos (by omega), if_neg (by omega)]
    · intro listed a w1 hl hc
      have h0 : a.tmps[0]?.getD undef = .slice (some ⟨b, o, none⟩) n c := (hc.was 0 (by kernel_rfl)).trans rfl
      refine does_value rfl rfl (.slice (some ⟨b, o, none⟩) n c) w1 ?_ (Below.refl _ _) rfl
      clear hc hl
      go_simp
    · intro listed a w1 hl hc
      have h15 : a.tmps[15]?.getD undef = .slice (some ⟨b, o, none⟩) n c := hc.dep hl 2 15 rfl (by kernel_rfl)
      refine does_call rfl rfl 35 #[.slice (some ⟨b, o, none⟩) n c] ?_ ((HCK.out w1 (B0.out.trans (hc.g.mono B0.out.size))).mono fun e w' ⟨g9, he, hg, hr, hb⟩ => ⟨_, he, hb, g9, rfl, Nat.le_trans hc.g.size hg, hr⟩)
      clear hc hl
      go_simp
    · intro listed a w1 hl hc
      have h14 : a.tmps[14]?.getD undef = .slice (some ⟨b, o + 8, none⟩) 4 (c - 8 : Nat) := hc.dep hl 1 14 rfl (by kernel_rfl)
      obtain ⟨G16, h16, hg16, hr16⟩ := hc.dep hl 3 16 rfl (by kernel_rfl)
      refine does_call rfl rfl 43 #[.slice (some ⟨b, o + 8, none⟩) 4 (c - 8 : Nat), .slice (some ⟨G16, 0, none⟩) 4 4] ?_ ((HEQ.out w1 G16 (B0.out.trans (hc.g.mono B0.out.size)) hr16).mono fun e w' ⟨he, hb⟩ => ⟨_, he, hb, rfl⟩)
      clear hc hl
      go_simp
  intro w2 hb2
  rintro _ rfl _ rfl _ rfl _ ⟨G16, rfl, hg16, hr16⟩ _ rfl
  simp only [Thus, List.reverse_cons, List.reverse_nil, List.nil_append, List.cons_append, List.drop, List.take, lay]
  go_frame
  have K2a := Lib.hid (K2.out.below hb2 K2.out.lt)
  have K3a := Lib.hid (K3.out.below hb2 K3.out.lt)
  have B1 := Lib.hid (below_then B0.out (Nat.le_refl _) hb2)
  clear hb2 hg16 hr16 K2 K3 B0 HCK HEQ
  have d20 : w2.cell? ⟨w.heap.size, 0, none⟩ = some (.int .u32 0) := K2a.out.cell 0
  have d21 : w2.cell? ⟨w.heap.size, 1, none⟩ = some (.slice none 0 0) := K2a.out.cell 1
  have d30 : w2.cell? ⟨w.heap.size + 1, 0, none⟩ = some (.int .i64 0) := K3a.out.cell 0
  have e20 := K2a.out.frozen 0
  have e21 := K2a.out.frozen 1
  have e30 := K3a.out.frozen 0
  cases q with
  | false =>
    have HE : Hid (rdP xs = .err 8) := Lib.hid (rd_sum (by rw [HX.out]; omega) (by rw [← HS.out]; exact of_decide_eq_false HQ.out.symm))
    go_wp2_with fail
    refine marks_ret0 (v := noPkt 8) ?_ ⟨by rw [HE.out]; rfl, ?_⟩
    · simp [noPkt, results, Try.results22, go_sem, d20, d21, d30]
    · exact ((B1.out.setCell (p := ⟨w.heap.size, 0, none⟩) (Nat.le_refl _) _).setCell (p := ⟨w.heap.size, 1, none⟩) (Nat.le_refl _) _).setCell (p := ⟨w.heap.size + 1, 0, none⟩) (by simp) _
  | true =>
    have HSE : Hid ((sum (bareP xs)).toNat = num xs 8 4) := Lib.hid (by rw [← HS.out]; exact of_decide_eq_true HQ.out.symm)
    clear d20 d21 d30 e20 e21 e30
    go_wp2_with fail
    refine (HGT.out _ B1.out).mono ?_
    rintro e w3 ⟨rfl, rfl⟩
    have HK3 := Lib.hid K3a.out.lt
    have K2b := Lib.hid (K2a.out.alloc (.cells #[.int .u32 (tag : Int), .slice none 0 0] 25))
    have K3b := Lib.hid (K3a.out.alloc (.cells #[.int .u32 (tag : Int), .slice none 0 0] 25))
    have KPb := Lib.hid (Blk.new w2 25 #[.int .u32 (tag : Int), .slice none 0 0])
    have B2 := Lib.hid (B1.out.alloc B1.out.size (.cells #[.int .u32 (tag : Int), .slice none 0 0] 25))
    clear K2a K3a B1
    obtain ⟨gp, hgp⟩ : ∃ gp, gp = w2.heap.size := ⟨_, rfl⟩
    rw [← hgp] at KPb
    have HGP := Lib.hid hgp
    have hgp3 : w.heap.size + 1 < gp := by have := K3b.out.lt; simp at this; have h2 := HK3.out; omega
    clear hgp HK3
    go_wp2_with fail
    refine (chunksOf_any AA (n - 12) (c - 12) _).mono ?_
    rintro e w3 ⟨rfl, rfl⟩
    rw [← HGP.out]
    have KBc := Lib.hid (Blk.new (w2.alloc (.cells #[.int .u32 (tag : Int), .slice none 0 0] 25)) 29 #[.slice AA (n - 12) (c - 12)])
    have K2c := Lib.hid (K2b.out.alloc (.cells #[.slice AA (n - 12) (c - 12)] 29))
    have K3c := Lib.hid (K3b.out.alloc (.cells #[.slice AA (n - 12) (c - 12)] 29))
    have KPc := Lib.hid (KPb.out.alloc (.cells #[.slice AA (n - 12) (c - 12)] 29))
    have B3 := Lib.hid (B2.out.alloc B2.out.size (.cells #[.slice AA (n - 12) (c - 12)] 29))
    obtain ⟨gb, hgb⟩ : ∃ gb, gb = (w2.alloc (.cells #[.int .u32 (tag : Int), .slice none 0 0] 25)).heap.size := ⟨_, rfl⟩
    rw [← hgb] at KBc ⊢
    have hgb1 : gp < gb := by have := HGP.out; simp at hgb; omega
    clear K2b K3b KPb B2 hgb HGP HGT
    go_wp2_with fail
    generalize (w2.alloc (.cells #[.int .u32 (tag : Int), .slice none 0 0] 25)).alloc (.cells #[.slice AA (n - 12) (c - 12)] 29) = w4 at K2c K3c KPc B3 KBc ⊢
    have HSQ := Lib.hid (chunksOf_seq gb AA (n - 12) (c - 12) (xs.drop 12) (by omega) (by omega) (by have := HCM.out; omega) HL12.out)
    refine wp_rangeC (p1 := 31) (p2 := 32) (sc := 7) (se := 8) (gf := 59) (lb := #[.pointer (some ⟨gb, 0, none⟩)]) (bs := xs.drop 12) rfl (enters_of Try.func59 (by kernel_rfl) rfl) HSQ.out
      (fun es W => ∃ A1 c1, RdI w w4.heap.size gp gb tag AA (n - 12) (c - 12) es A1 c1 W) (fun W => RdX w W)
      (fun es W W' ⟨A1, c1, h⟩ hb => ⟨A1, c1, h.below hb⟩) (fun es W l o o' ⟨A1, c1, h⟩ hl ho hc => ⟨A1, c1, h.putObj ho hc (Nat.le_trans B3.out.size hl)⟩) (fun W l o o' h hl ho hc => h.putObj ho hc (Nat.le_trans B3.out.size hl))
      (fun es W ⟨A1, c1, h⟩ => h.sz) (fun es W ⟨A1, c1, h⟩ => ⟨h.kb.cell 0, (HR12.out.below h.bl).more h.bl.size⟩)
      ⟨none, 0, OC.nil _ _, KPc.out, K2c.out, K3c.out, KBc.out, B3.out, Nat.le_refl _⟩
      (fun es W0 W1 e ⟨A1, c1, h⟩ ho => far_new h.oc ho (Nat.le_refl _)) ?cas ?cyes ?cno ?cdone ?cstop
    case cas =>
      intro l e err W K hK
      refine wpIn_seq (regionIn (by kernel_rfl) (by rintro ⟨a', w', h⟩; exact h) ?_)
      simp only [rnd0]
      go_wp2_with fail
      refine regionIn (by kernel_rfl) (by rintro ⟨a', w', h⟩; exact h) ?_
      go_wp2_with fail
      exact hK
    case cyes =>
      rintro l es e W gc ⟨A1, c1, hI⟩ ho hfr hlen hbk hgc
      have HI := Lib.hid hI
      have HO := Lib.hid ho
      have HF := Lib.hid hfr
      have HBK := Lib.hid hbk
      have hlen' : es.length ≤ 1048576 := by have := HL12.out; omega
      clear hI ho hfr hbk hlen
      refine wpIn_block (wpIn_seq (wpIn_seq (regionIn (by kernel_rfl) (by rintro ⟨a', w', h⟩; cases (And.left h)) ?_)))
      simp only [rnd1, rnd0]
      go_wp2_with fail
      refine wpIn_cond_false rfl (wpIn_skip ?_)
      refine regionIn (by kernel_rfl) (by rintro ⟨a', w', h⟩; cases (And.left h)) ?_
      have x0 : W.cell? ⟨gc, 0, none⟩ = some (.int .u8 (e.k.toNat : Int)) := HBK.out.cell 0
      have x1 : W.cell? ⟨gc, 1, none⟩ = some (.int .u8 (e.f.toNat : Int)) := HBK.out.cell 1
      have x2 : W.cell? ⟨gc, 2, none⟩ = some (.slice e.A e.n e.c) := HBK.out.cell 2
      have y1 : W.cell? ⟨gp, 1, none⟩ = some (.slice A1 es.length c1) := HI.out.kp.cell 1
      obtain ⟨A2, c2, w5, hrun, hoc, hgr⟩ := OC.push 23 e (HI.out.oc.alloc (.cells #[.int .u8 (e.k.toNat : Int), .int .u8 (e.f.toNat : Int), .slice e.A e.n e.c] 41)) rfl (Blk.new W 41 #[.int .u8 (e.k.toNat : Int), .int .u8 (e.f.toNat : Int), .slice e.A e.n e.c]) ((HO.out.more B3.out.size).alloc _) HF.out hlen' (Nat.le_trans HI.out.bl.size (by simp))
      have hnp : some gp ≠ (Value.slice A1 es.length c1).ownBlock := ownsRow_ne HI.out.oc.row HI.out.kp (by decide)
      have hn2 : some w.heap.size ≠ (Value.slice A1 es.length c1).ownBlock := ownsRow_ne HI.out.oc.row HI.out.k2 (by decide)
      have hn3 : some (w.heap.size + 1) ≠ (Value.slice A1 es.length c1).ownBlock := ownsRow_ne HI.out.oc.row HI.out.k3 (by decide)
      have hnb : some gb ≠ (Value.slice A1 es.length c1).ownBlock := ownsRow_ne HI.out.oc.row HI.out.kb (by decide)
      have KP5 := Lib.hid ((HI.out.kp.alloc (.cells #[.int .u8 (e.k.toNat : Int), .int .u8 (e.f.toNat : Int), .slice e.A e.n e.c] 41)).grown hgr hnp)
      have K25 := Lib.hid ((HI.out.k2.alloc (.cells #[.int .u8 (e.k.toNat : Int), .int .u8 (e.f.toNat : Int), .slice e.A e.n e.c] 41)).grown hgr hn2)
      have K35 := Lib.hid ((HI.out.k3.alloc (.cells #[.int .u8 (e.k.toNat : Int), .int .u8 (e.f.toNat : Int), .slice e.A e.n e.c] 41)).grown hgr hn3)
      have KB5 := Lib.hid ((HI.out.kb.alloc (.cells #[.int .u8 (e.k.toNat : Int), .int .u8 (e.f.toNat : Int), .slice e.A e.n e.c] 41)).grown hgr hnb)
      have B5 := Lib.hid ((HI.out.bl.alloc HI.out.bl.size (.cells #[.int .u8 (e.k.toNat : Int), .int .u8 (e.f.toNat : Int), .slice e.A e.n e.c] 41)).grown hgr (Nat.le_trans HI.out.bl.size (by simp)) (ownsRow_ge HI.out.oc.row))
      have KO5 := Lib.hid ((KeepsOthers.alloc W (.cells #[.int .u8 (e.k.toNat : Int), .int .u8 (e.f.toNat : Int), .slice e.A e.n e.c] 41)).trans (row_cells (HI.out.oc.alloc _) hgr))
      have S5 := Lib.hid (Nat.le_trans (Nat.le_trans HI.out.sz (show W.heap.size ≤ _ by simp)) hgr.size)
      have z1 : w5.cell? ⟨gp, 1, none⟩ = some (.slice A1 es.length c1) := KP5.out.cell 1
      have e1 := KP5.out.frozen 1
      have HOC := Lib.hid hoc
      clear hgr hoc hnp hn2 hn3 hnb
      go_wp2_with (at_builtin; refine wpList_append_run rfl _ _ 23 rfl _ _ _ rfl rfl _ rfl hrun ?_)
      have hl1 : (es ++ [e]).length = es.length + 1 := by simp
      refine ⟨trivial, KO5.out.trans (KeepsOthers.setCell _ _ _), A2, c2, ?_⟩
      exact ⟨by rw [hl1]; exact HOC.out.setBlk KP5.out (by decide) (by decide) 1 _, by rw [hl1]; exact KP5.out.set_ 1 _, K25.out.far (p := ⟨gp, 1, none⟩) (show w.heap.size ≠ gp by omega) _, K35.out.far (p := ⟨gp, 1, none⟩) (show w.heap.size + 1 ≠ gp by omega) _, KB5.out.far (p := ⟨gp, 1, none⟩) (show gb ≠ gp by omega) _, B5.out.setCell (p := ⟨gp, 1, none⟩) (show w.heap.size ≤ gp by omega) _, by simpa [World.setCell] using S5.out⟩
    case cno =>
      rintro l es W gc ⟨A1, c1, hI⟩ hbk hgc
      have HI := Lib.hid hI
      have d20 : W.cell? ⟨w.heap.size, 0, none⟩ = some (.int .u32 0) := hI.k2.cell 0
      have d21 : W.cell? ⟨w.heap.size, 1, none⟩ = some (.slice none 0 0) := hI.k2.cell 1
      have d30 : W.cell? ⟨w.heap.size + 1, 0, none⟩ = some (.int .i64 0) := hI.k3.cell 0
      have e20 := hI.k2.frozen 0
      have e21 := hI.k2.frozen 1
      have e30 := hI.k3.frozen 0
      clear hI hbk
      refine wpIn_block (wpIn_seq (wpIn_seq (regionIn (by kernel_rfl) (by rintro ⟨a', w', h⟩; cases (And.left h)) ?_)))
      simp only [rnd1, rnd0, noCE]
      go_wp2_with fail
      refine wpIn_cond_true rfl (wpIn_seq (regionIn (by kernel_rfl) (by rintro ⟨a', w', h⟩; cases (And.left h)) ?_))
      go_wp2_with fail
      refine wpIn_ret ⟨rfl, ((KeepsOthers.setCell _ _ _).trans (KeepsOthers.setCell _ _ _)).trans (KeepsOthers.setCell _ _ _), ?_⟩
      have k2 := (((HI.out.k2.set_ 0 (.int .u32 0)).set_ 1 (.slice none 0 0)).far (p := ⟨w.heap.size + 1, 0, none⟩) (show w.heap.size ≠ w.heap.size + 1 by omega) (.int .i64 7))
      have k3 := ((HI.out.k3.far (p := ⟨w.heap.size, 0, none⟩) (show w.heap.size + 1 ≠ w.heap.size by omega) (.int .u32 0)).far (p := ⟨w.heap.size, 1, none⟩) (show w.heap.size + 1 ≠ w.heap.size by omega) (.slice none 0 0)).set_ 0 (.int .i64 7)
      exact ⟨k2, k3, ((HI.out.bl.setCell (p := ⟨w.heap.size, 0, none⟩) (Nat.le_refl _) _).setCell (p := ⟨w.heap.size, 1, none⟩) (Nat.le_refl _) _).setCell (p := ⟨w.heap.size + 1, 0, none⟩) (by simp) _⟩
    case cstop =>
      rintro D W hD hP hX hK
      have HE : Hid (rdP xs = .err 7) := Lib.hid (rd_none (by rw [HX.out]; omega) HSE.out hP)
      have hX2 := hX.putObj (o' := .deferred none) hK rfl (Nat.le_trans B3.out.size hD)
      have d20 : (W.putObj D (.deferred none)).cell? ⟨w.heap.size, 0, none⟩ = some (.int .u32 0) := hX2.k2.cell 0
      have d21 : (W.putObj D (.deferred none)).cell? ⟨w.heap.size, 1, none⟩ = some (.slice none 0 0) := hX2.k2.cell 1
      have d30 : (W.putObj D (.deferred none)).cell? ⟨w.heap.size + 1, 0, none⟩ = some (.int .i64 7) := hX2.k3.cell 0
      refine marks_ret1 (v := noPkt 7) hK ?_ ⟨by rw [HE.out]; rfl, hX2.bl⟩
      simp [noPkt, results, Try.results22, go_sem, d20, d21, d30]
    case cdone =>
      rintro D es W hD hP ⟨A1, c1, hI⟩ hK
      have HI := Lib.hid hI
      have HK := Lib.hid hK
      have HRS := Lib.hid (rd_some (by rw [HX.out]; omega) HSE.out hP)
      have hel : es.length ≤ 1048576 := by
        have h1 := (cat_parseN _ _ _ (hP _ (Nat.le_refl _))).2.2
        rw [List.length_map, HL12.out] at h1
        omega
      have hgbw : gb < w4.heap.size := KBc.out.lt
      obtain ⟨pr, hpr⟩ : ∃ pr, pr = decide (xs.take 4 = enc 5000 2 ++ enc 5000 2) := ⟨_, rfl⟩
      rw [← hpr] at HHP
      have HPR := Lib.hid hpr
      obtain ⟨my, hmy⟩ : ∃ my, my = mayP (es.map CE.chk) := ⟨_, rfl⟩
      have HMY := Lib.hid hmy
      have HCS : Hid (∀ W', RdI w w4.heap.size gp gb tag AA (n - 12) (c - 12) es A1 c1 W' → Calls Try.prog 31 #[.slice A1 es.length c1] W' fun e w' => e = .returned (.bool my) ∧ Below W'.heap.size W' w') := Lib.hid fun W' h => hmy ▸ canShare_any A1 es.length c1 (es.map CE.chk) W' (by omega) (by simp) h.oc.chunks
      clear hI hK hP hpr hmy
      simp only [Exit.inBlock, Exit.then]
      go_wp2_with fail
      refine (ports_any W).mono ?_
      rintro e w5 ⟨g5, rfl, hg5, hr5, hb⟩
      have HI5 := Lib.hid (HI.out.below hb)
      have HK5 := Lib.hid ((hb.block D (Array.getElem?_eq_some_iff.1 HK.out).1).trans HK.out)
      have HP5 := Lib.hid (HHP.out w5 g5 HI5.out.bl hr5)
      clear hb hg5 hr5 HI HK HHP
      go_wp2_with fail
      refine HP5.out.mono ?_
      rintro e w6 ⟨rfl, rfl⟩
      clear HP5
      -- what is left of it, for each way out
      have HNO : Hid (∀ W6, RdI w w4.heap.size gp gb tag AA (n - 12) (c - 12) es A1 c1 W6 → W6.heap[D]? = some (.deferred (some [])) →
          (((W6.setCell ⟨w.heap.size, 0, none⟩ (.int .u32 0)).setCell ⟨w.heap.size, 1, none⟩ (.slice none 0 0)).setCell ⟨w.heap.size + 1, 0, none⟩ (.int .i64 7)).heap[D]? = some (.deferred (some [])) ∧
          RdX w ((((W6.setCell ⟨w.heap.size, 0, none⟩ (.int .u32 0)).setCell ⟨w.heap.size, 1, none⟩ (.slice none 0 0)).setCell ⟨w.heap.size + 1, 0, none⟩ (.int .i64 7)).putObj D (.deferred none))) := Lib.hid fun W6 h hD6 => by
        have e1 := (Below.heap_setCell ((W6.setCell ⟨w.heap.size, 0, none⟩ (.int .u32 0)).setCell ⟨w.heap.size, 1, none⟩ (.slice none 0 0)) ⟨w.heap.size + 1, 0, none⟩ (.int .i64 7) D (by simp; omega)).trans ((Below.heap_setCell (W6.setCell ⟨w.heap.size, 0, none⟩ (.int .u32 0)) ⟨w.heap.size, 1, none⟩ (.slice none 0 0) D (by simp; omega)).trans ((Below.heap_setCell W6 ⟨w.heap.size, 0, none⟩ (.int .u32 0) D (by simp; omega)).trans hD6))
        refine ⟨e1, RdX.putObj ⟨?_, ?_, ?_⟩ e1 rfl (by omega)⟩
        · exact (((h.k2.set_ 0 (.int .u32 0)).set_ 1 (.slice none 0 0)).far (p := ⟨w.heap.size + 1, 0, none⟩) (show w.heap.size ≠ w.heap.size + 1 by omega) (.int .i64 7))
        · exact ((h.k3.far (p := ⟨w.heap.size, 0, none⟩) (show w.heap.size + 1 ≠ w.heap.size by omega) (.int .u32 0)).far (p := ⟨w.heap.size, 1, none⟩) (show w.heap.size + 1 ≠ w.heap.size by omega) (.slice none 0 0)).set_ 0 (.int .i64 7)
        · exact ((h.bl.setCell (p := ⟨w.heap.size, 0, none⟩) (Nat.le_refl _) _).setCell (p := ⟨w.heap.size, 1, none⟩) (Nat.le_refl _) _).setCell (p := ⟨w.heap.size + 1, 0, none⟩) (by simp) _
      have d20 : w5.cell? ⟨w.heap.size, 0, none⟩ = some (.int .u32 0) := HI5.out.k2.cell 0
      have d21 : w5.cell? ⟨w.heap.size, 1, none⟩ = some (.slice none 0 0) := HI5.out.k2.cell 1
      have d30 : w5.cell? ⟨w.heap.size + 1, 0, none⟩ = some (.int .i64 0) := HI5.out.k3.cell 0
      have e20 := HI5.out.k2.frozen 0
      have e21 := HI5.out.k2.frozen 1
      have e30 := HI5.out.k3.frozen 0
      have y1 : w5.cell? ⟨gp, 1, none⟩ = some (.slice A1 es.length c1) := HI5.out.kp.cell 1
      cases pr with
      | false =>
        have HE : Hid (rdP xs = .err 7) := Lib.hid (by rw [HRS.out, if_neg (fun h => by have := of_decide_eq_false HPR.out.symm; exact this h.2)])
        go_wp2_with fail
        obtain ⟨hKf, hXf⟩ := HNO.out w5 HI5.out HK5.out
        have x20 := hXf.k2.cell 0
        have x21 := hXf.k2.cell 1
        have x30 := hXf.k3.cell 0
        refine marks_ret1 (v := noPkt 7) hKf ?_ ⟨by rw [HE.out]; rfl, hXf.bl⟩
        simp [noPkt, results, Try.results22, go_sem, x20, x21, x30]
      | true =>
        clear d20 d21 d30 e20 e21 e30
        go_wp2_with fail
        refine (HCS.out w5 HI5.out).mono ?_
        rintro e w6 ⟨rfl, hb⟩
        have HI6 := Lib.hid (HI5.out.below hb)
        have HK6 := Lib.hid ((hb.block D (Array.getElem?_eq_some_iff.1 HK5.out).1).trans HK5.out)
        clear hb HI5 HK5 y1 HCS
        have d20 : w6.cell? ⟨w.heap.size, 0, none⟩ = some (.int .u32 0) := HI6.out.k2.cell 0
        have d21 : w6.cell? ⟨w.heap.size, 1, none⟩ = some (.slice none 0 0) := HI6.out.k2.cell 1
        have d30 : w6.cell? ⟨w.heap.size + 1, 0, none⟩ = some (.int .i64 0) := HI6.out.k3.cell 0
        have e20 := HI6.out.k2.frozen 0
        have e21 := HI6.out.k2.frozen 1
        have e30 := HI6.out.k3.frozen 0
        have y0 : w6.cell? ⟨gp, 0, none⟩ = some (.int .u32 (tag : Int)) := HI6.out.kp.cell 0
        have y1 : w6.cell? ⟨gp, 1, none⟩ = some (.slice A1 es.length c1) := HI6.out.kp.cell 1
        cases my with
        | false =>
          have HE : Hid (rdP xs = .err 7) := Lib.hid (by rw [HRS.out, if_neg (fun h => by rw [← HMY.out] at h; cases h.1)])
          go_wp2_with fail
          obtain ⟨hKf, hXf⟩ := HNO.out w6 HI6.out HK6.out
          have x20 := hXf.k2.cell 0
          have x21 := hXf.k2.cell 1
          have x30 := hXf.k3.cell 0
          refine marks_ret1 (v := noPkt 7) hKf ?_ ⟨by rw [HE.out]; rfl, hXf.bl⟩
          simp [noPkt, results, Try.results22, go_sem, x20, x21, x30]
        | true =>
          have HE : Hid (rdP xs = .ok tag (es.map CE.chk)) := Lib.hid (by rw [HRS.out, if_pos ⟨HMY.out.symm, of_decide_eq_true HPR.out.symm⟩, ← HTAG.out])
          go_wp2_with fail
          have k2 := (((HI6.out.k2.set_ 0 (.int .u32 (tag : Int))).set_ 1 (.slice A1 es.length c1)).far (p := ⟨w.heap.size + 1, 0, none⟩) (show w.heap.size ≠ w.heap.size + 1 by omega) (.int .i64 0))
          have k3 := ((HI6.out.k3.far (p := ⟨w.heap.size, 0, none⟩) (show w.heap.size + 1 ≠ w.heap.size by omega) (.int .u32 (tag : Int))).far (p := ⟨w.heap.size, 1, none⟩) (show w.heap.size + 1 ≠ w.heap.size by omega) (.slice A1 es.length c1)).set_ 0 (.int .i64 0)
          have k3q := (HI6.out.k3.far (p := ⟨w.heap.size, 0, none⟩) (show w.heap.size + 1 ≠ w.heap.size by omega) (.int .u32 (tag : Int))).far (p := ⟨w.heap.size, 1, none⟩) (show w.heap.size + 1 ≠ w.heap.size by omega) (.slice A1 es.length c1)
          have oc := ((HI6.out.oc.setBlk HI6.out.k2 (by decide) (by decide) 0 (.int .u32 (tag : Int))).setBlk (HI6.out.k2.set_ 0 (.int .u32 (tag : Int))) (by decide) (by decide) 1 (.slice A1 es.length c1)).setBlk k3q (by decide) (by decide) 0 (.int .i64 0)
          have bl := ((HI6.out.bl.setCell (p := ⟨w.heap.size, 0, none⟩) (Nat.le_refl _) (.int .u32 (tag : Int))).setCell (p := ⟨w.heap.size, 1, none⟩) (Nat.le_refl _) (.slice A1 es.length c1)).setCell (p := ⟨w.heap.size + 1, 0, none⟩) (by simp) (.int .i64 0)
          have hKf := (Below.heap_setCell ((w6.setCell ⟨w.heap.size, 0, none⟩ (.int .u32 (tag : Int))).setCell ⟨w.heap.size, 1, none⟩ (.slice A1 es.length c1)) ⟨w.heap.size + 1, 0, none⟩ (.int .i64 0) D (by simp; omega)).trans ((Below.heap_setCell (w6.setCell ⟨w.heap.size, 0, none⟩ (.int .u32 (tag : Int))) ⟨w.heap.size, 1, none⟩ (.slice A1 es.length c1) D (by simp; omega)).trans ((Below.heap_setCell w6 ⟨w.heap.size, 0, none⟩ (.int .u32 (tag : Int)) D (by simp; omega)).trans HK6.out))
          have k2p := blk_putObj (o' := .deferred none) k2 hKf rfl
          have k3p := blk_putObj (o' := .deferred none) k3 hKf rfl
          have x20 := k2p.cell 0
          have x21 := k2p.cell 1
          have x30 := k3p.cell 0
          refine marks_ret1 (v := .tuple #[.agg #[.int .u32 (tag : Int), .slice A1 es.length c1], .int .i64 0]) hKf ?_ ⟨?_, below_putObj bl (by omega)⟩
          · simp [results, Try.results22, go_sem, x20, x21, x30]
          · rw [HE.out]
            exact ⟨A1, c1, es, rfl, oc_putObj oc hKf rfl, rfl⟩

theorem readP_any (A : Option Addr) (n c : Nat) (xs : List UInt8) (w : World) (hn : n ≤ 4194304) (hcn : n ≤ c) (hcm : c ≤ maxLen) (hx : xs.length = n) (hr : Rd w w.heap.size A xs) :
    Calls Try.prog 22 #[.slice A n c] w fun e w' => RdR w.heap.size (rdP xs) e w' ∧ Below w.heap.size w w' := by
  by_cases h12 : n < 12
  · exact readP_short A n c xs w h12 hx
  · exact readP_long A n c xs w hn hcn hcm hx hr (by omega)
end Go.Proofs.Ytifmhlbeodfpeaa
