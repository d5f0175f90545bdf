/-
  Package packet: the reference's Same, Copy.
-/
import Derived.Test.YtifmhlbeodfpeaaQ18
import Derived.Test.YtifmhlbeodfpeaaQ7
import Derived.Test.YtifmhlbeodfpeaaQ24
import Derived.Test.YtifmhlbeodfpeaaQ26
namespace Go.Proofs.Ytifmhlbeodfpeaa
open Go.RowKit
set_option linter.unusedVariables false

theorem chk_dec (x y : Chk) : decide (x.1 = y.1 ∧ x.2.1 = y.2.1 ∧ x.2.2 = y.2.2) = decide (x = y) := by
  rw [decide_eq_decide]
  constructor
  · rintro ⟨h1, h2, h3⟩
    exact Prod.ext h1 (Prod.ext h2 h3)
  · rintro rfl
    exact ⟨rfl, rfl, rfl⟩
theorem take_step {α : Type} {l m : List α} {k : Nat} {x y : α} (h : l.take k = m.take k) (hx : l[k]? = some x) (hy : m[k]? = some y) (he : x = y) : l.take (k + 1) = m.take (k + 1) := by
  subst he
  rw [List.take_add_one, List.take_add_one, h, hx, hy]

set_option maxRecDepth 100000 in
set_option maxHeartbeats 4000000 in
theorem refSameP_any (tag tag2 : Nat) (A A' : Option Addr) (n n' c c' : Nat) (cs cs' : List Chk) (w : World) (hn : n ≤ maxLen) (hn2 : n' ≤ maxLen) (hx : cs.length = n) (hy : cs'.length = n') (hr : Chunks w w.heap.size A cs) (hr' : Chunks w w.heap.size A' cs') :
    Calls Try.prog 19 #[.agg #[.int .u32 (tag : Int), .slice A n c], .agg #[.int .u32 (tag2 : Int), .slice A' n' c']] w fun e w' => e = .returned (.bool (decide (tag = tag2 ∧ cs = cs'))) ∧ Below w.heap.size w w' := by
  unfold maxLen at hn hn2
  have HX := Lib.hid hx
  have HY := Lib.hid hy
  have HR := Lib.hid hr
  have HR' := Lib.hid hr'
  clear hx hy hr hr'
  obtain ⟨Dq, hDq⟩ : ∃ D, D = decide (tag = tag2 ∧ cs = cs') := ⟨_, rfl⟩
  rw [← hDq]
  have HDQ := Lib.hid hDq
  clear hDq
  have K0 : Hid (Blk ((w.alloc (.cells #[.int .u32 (tag : Int), .slice A n c] 25)).alloc (.cells #[.int .u32 (tag2 : Int), .slice A' n' c'] 25)) w.heap.size 25 #[.int .u32 (tag : Int), .slice A n c]) := Lib.hid ((Blk.new w _ _).alloc _)
  have K1 : Hid (Blk ((w.alloc (.cells #[.int .u32 (tag : Int), .slice A n c] 25)).alloc (.cells #[.int .u32 (tag2 : Int), .slice A' n' c'] 25)) (w.heap.size + 1) 25 #[.int .u32 (tag2 : Int), .slice A' n' c']) := Lib.hid (by simpa using Blk.new (w.alloc (.cells #[.int .u32 (tag : Int), .slice A n c] 25)) 25 #[.int .u32 (tag2 : Int), .slice A' n' c'])
  have B0 : Hid (Below w.heap.size w ((w.alloc (.cells #[.int .u32 (tag : Int), .slice A n c] 25)).alloc (.cells #[.int .u32 (tag2 : Int), .slice A' n' c'] 25))) := Lib.hid (((Below.refl _ w).alloc (Nat.le_refl _) _).alloc (by simp) _)
  by_cases ht : tag = tag2
  · subst ht
    by_cases hnn : n = n'
    · subst hnn
      have hd1 : (tag != tag) = false := by simp
      have hd2 : (n != n) = false := by simp
      go_enter Try.func19, Try.ntmps19
      rw [drawn_eq 6]
      go_wp2_with fail
      generalize ((w.alloc (.cells #[.int .u32 (tag : Int), .slice A n c] 25)).alloc (.cells #[.int .u32 (tag : Int), .slice A' n c'] 25)) = v0 at K0 K1 B0 ⊢
      go_loopw [5] (fun i wr => ∃ k : Nat, k ≤ n ∧ i = .int .i64 k ∧ Hid (cs.take k = cs'.take k) ∧ Hid (Below w.heap.size w wr) ∧ Hid (Blk wr w.heap.size 25 #[.int .u32 (tag : Int), .slice A n c]) ∧ Hid (Blk wr (w.heap.size + 1) 25 #[.int .u32 (tag : Int), .slice A' n c'])) (fun i _ => n - (intOf i).toNat)
      case atStart => exact ⟨0, Nat.zero_le _, rfl, Lib.hid rfl, B0, K0, K1⟩
      case round =>
        clear K0 K1 B0
        obtain ⟨k, hk, rfl, HT, B, K0, K1⟩ := hrel
        have a1 : wr.cell? ⟨w.heap.size, 1, none⟩ = some (.slice A n c) := K0.out.cell 1
        by_cases hlt : k < n
        · obtain ⟨x, hxk⟩ : ∃ x, cs[k]? = some x := ⟨_, List.getElem?_eq_getElem (by rw [HX.out]; exact hlt)⟩
          obtain ⟨y, hyk⟩ : ∃ y, cs'[k]? = some y := ⟨_, List.getElem?_eq_getElem (by rw [HY.out]; exact hlt)⟩
          obtain ⟨b, o, rfl, hbl, g0, g1, Ax, nx, cx, g2, g3, g4, g5, g6⟩ := (HR.out.below B.out).at_ hxk
          obtain ⟨b2, o2, rfl, hbl2, q0, q1, Ay, ny, cy, q2, q3, q4, q5, q6⟩ := (HR'.out.below B.out).at_ hyk
          have hsz := B.out.size
          have hbl := Nat.lt_of_lt_of_le hbl hsz
          have hbl2 := Nat.lt_of_lt_of_le hbl2 hsz
          obtain ⟨q, hq⟩ : ∃ q, q = decide (x = y) := ⟨_, rfl⟩
          have HQ := Lib.hid hq
          have HSM : Hid (∀ W, Below wr.heap.size wr W → Calls Try.prog 41 #[.agg #[.int .u8 (x.1.toNat : Int), .int .u8 (x.2.1.toNat : Int), .slice Ax nx cx], .agg #[.int .u8 (y.1.toNat : Int), .int .u8 (y.2.1.toNat : Int), .slice Ay ny cy]] W fun e w' => e = .returned (.bool q) ∧ Below W.heap.size W w') := Lib.hid fun W hW => by
            have h := same_any x.1 x.2.1 y.1 y.2.1 Ax Ay nx ny cx cy x.2.2 y.2.2 W g5 q5 (Nat.le_trans g3 g4) (Nat.le_trans q3 q4) (((g6.more hsz).below hW).more hW.size) (((q6.more hsz).below hW).more hW.size)
            rwa [chk_dec, ← hq] at h
          have HXK := Lib.hid hxk
          have HYK := Lib.hid hyk
          have HG : Hid (∀ W, Below wr.heap.size wr W → W.cell? ⟨b, o + k * 3, none⟩ = some (.int .u8 (x.1.toNat : Int)) ∧ W.cell? ⟨b, o + k * 3 + 1, none⟩ = some (.int .u8 (x.2.1.toNat : Int)) ∧ W.cell? ⟨b, o + k * 3 + 2, none⟩ = some (.slice Ax nx cx)) := Lib.hid fun W hW => ⟨(hW.cell hbl).trans g0, (hW.cell hbl).trans g1, (hW.cell hbl).trans g2⟩
          have HG2 : Hid (∀ W, Below wr.heap.size wr W → W.cell? ⟨b2, o2 + k * 3, none⟩ = some (.int .u8 (y.1.toNat : Int)) ∧ W.cell? ⟨b2, o2 + k * 3 + 1, none⟩ = some (.int .u8 (y.2.1.toNat : Int)) ∧ W.cell? ⟨b2, o2 + k * 3 + 2, none⟩ = some (.slice Ay ny cy)) := Lib.hid fun W hW => ⟨(hW.cell hbl2).trans q0, (hW.cell hbl2).trans q1, (hW.cell hbl2).trans q2⟩
          clear hxk hyk g0 g1 g2 g3 g4 g5 g6 q0 q1 q2 q3 q4 q5 q6 hq hsz
          go_wp2_with fail
          rw [← drawn_eq 6]
          generalize wr = v1 at B K0 K1 HSM HG HG2 a1 ⊢
          refine wp_region_grow_tail 11 (by kernel_rfl) [(Is (.pointer (some ⟨w.heap.size, 1, none⟩))), (Is (.slice (some ⟨b, o, none⟩) n c)), (Is (.int .i64 (k : Int))), (Is (.pointer (some ⟨b, o + k * 3, none⟩))), (Is (.agg #[.int .u8 (x.1.toNat : Int), .int .u8 (x.2.1.toNat : Int), .slice Ax nx cx])), (Is (.pointer (some ⟨w.heap.size + 1, 1, none⟩))), (Is (.slice (some ⟨b2, o2, none⟩) n c')), (Is (.int .i64 (k : Int))), (Is (.pointer (some ⟨b2, o2 + k * 3, none⟩))), (Is (.agg #[.int .u8 (y.1.toNat : Int), .int .u8 (y.2.1.toNat : Int), .slice Ay ny cy])), (Is (.bool q))] rfl ?_ (by kernel_rfl) (by kernel_rfl) ?_ ?_
          · intro p hp
            simp only [List.mem_cons, List.not_mem_nil, or_false] at hp
            rcases hp with rfl | rfl | rfl | rfl | rfl | rfl | rfl | rfl | rfl | rfl | rfl
            · exact Lasts.is _
            · exact Lasts.is _
            · exact Lasts.is _
            · exact Lasts.is _
            · exact Lasts.is _
            · exact Lasts.is _
            · exact Lasts.is _
            · exact Lasts.is _
            · exact Lasts.is _
            · exact Lasts.is _
            · exact Lasts.is _
          · refine ⟨?_, ?_, ?_, ?_, ?_, ?_, ?_, ?_, ?_, ?_, ?_, trivial⟩
            · intro listed a w1 hl hc
              have h2 : a.tmps[2]?.getD undef = .pointer (some ⟨w.heap.size, 0, none⟩) := (hc.was 2 (by kernel_rfl)).trans rfl
              refine does_value rfl rfl (.pointer (some ⟨w.heap.size, 1, none⟩)) w1 ?_ (Below.refl _ _) rfl
              clear hc hl
              go_simp
            · intro listed a w1 hl hc
              have h27 : a.tmps[27]?.getD undef = .pointer (some ⟨w.heap.size, 1, none⟩) := hc.dep hl 0 27 rfl (by kernel_rfl)
              have kb := K0.out.below hc.g K0.out.lt
              have x1 : w1.cell? ⟨w.heap.size, 1, none⟩ = some (.slice (some ⟨b, o, none⟩) n c) := kb.cell 1
              clear kb
              refine does_value rfl rfl (.slice (some ⟨b, o, none⟩) n c) w1 ?_ (Below.refl _ _) rfl
              clear hc hl
              go_simp
            · intro listed a w1 hl hc
              have h5 : a.tmps[5]?.getD undef = .int .i64 (k : Int) := (hc.was 5 (by kernel_rfl)).trans rfl
              refine does_value rfl rfl (.int .i64 (k : Int)) w1 ?_ (Below.refl _ _) rfl
              clear hc hl
              go_simp
            · intro listed a w1 hl hc
              have h28 : a.tmps[28]?.getD undef = .slice (some ⟨b, o, none⟩) n c := hc.dep hl 1 28 rfl (by kernel_rfl)
              have h29 : a.tmps[29]?.getD undef = .int .i64 (k : Int) := hc.dep hl 2 29 rfl (by kernel_rfl)
              refine does_value rfl rfl (.pointer (some ⟨b, o + k * 3, none⟩)) w1 ?_ (Below.refl _ _) rfl
              clear hc hl
              go_simp
            · intro listed a w1 hl hc
              have h30 : a.tmps[30]?.getD undef = .pointer (some ⟨b, o + k * 3, none⟩) := hc.dep hl 3 30 rfl (by kernel_rfl)
              obtain ⟨x0, x1, x2⟩ := HG.out w1 hc.g
              refine does_value rfl rfl (.agg #[.int .u8 (x.1.toNat : Int), .int .u8 (x.2.1.toNat : Int), .slice Ax nx cx]) w1 ?_ (Below.refl _ _) rfl
              clear hc hl
              go_simp
            · intro listed a w1 hl hc
              have h3 : a.tmps[3]?.getD undef = .pointer (some ⟨w.heap.size + 1, 0, none⟩) := (hc.was 3 (by kernel_rfl)).trans rfl
              refine does_value rfl rfl (.pointer (some ⟨w.heap.size + 1, 1, none⟩)) w1 ?_ (Below.refl _ _) rfl
              clear hc hl
              go_simp
            · intro listed a w1 hl hc
              have h32 : a.tmps[32]?.getD undef = .pointer (some ⟨w.heap.size + 1, 1, none⟩) := hc.dep hl 5 32 rfl (by kernel_rfl)
              have kb := K1.out.below hc.g K1.out.lt
              have x1 : w1.cell? ⟨w.heap.size + 1, 1, none⟩ = some (.slice (some ⟨b2, o2, none⟩) n c') := kb.cell 1
              clear kb
              refine does_value rfl rfl (.slice (some ⟨b2, o2, none⟩) n c') w1 ?_ (Below.refl _ _) rfl
              clear hc hl
              go_simp
            · intro listed a w1 hl hc
              have h5 : a.tmps[5]?.getD undef = .int .i64 (k : Int) := (hc.was 5 (by kernel_rfl)).trans rfl
              refine does_value rfl rfl (.int .i64 (k : Int)) w1 ?_ (Below.refl _ _) rfl
              clear hc hl
              go_simp
            · intro listed a w1 hl hc
              have h33 : a.tmps[33]?.getD undef = .slice (some ⟨b2, o2, none⟩) n c' := hc.dep hl 6 33 rfl (by kernel_rfl)
              have h34 : a.tmps[34]?.getD undef = .int .i64 (k : Int) := hc.dep hl 7 34 rfl (by kernel_rfl)
              refine does_value rfl rfl (.pointer (some ⟨b2, o2 + k * 3, none⟩)) w1 ?_ (Below.refl _ _) rfl
              clear hc hl
              go_simp
            · intro listed a w1 hl hc
              have h35 : a.tmps[35]?.getD undef = .pointer (some ⟨b2, o2 + k * 3, none⟩) := hc.dep hl 8 35 rfl (by kernel_rfl)
              obtain ⟨x0, x1, x2⟩ := HG2.out w1 hc.g
              refine does_value rfl rfl (.agg #[.int .u8 (y.1.toNat : Int), .int .u8 (y.2.1.toNat : Int), .slice Ay ny cy]) w1 ?_ (Below.refl _ _) rfl
              clear hc hl
              go_simp
            · intro listed a w1 hl hc
              have h31 : a.tmps[31]?.getD undef = .agg #[.int .u8 (x.1.toNat : Int), .int .u8 (x.2.1.toNat : Int), .slice Ax nx cx] := hc.dep hl 4 31 rfl (by kernel_rfl)
              have h36 : a.tmps[36]?.getD undef = .agg #[.int .u8 (y.1.toNat : Int), .int .u8 (y.2.1.toNat : Int), .slice Ay ny cy] := hc.dep hl 9 36 rfl (by kernel_rfl)
              refine does_call rfl rfl 41 #[.agg #[.int .u8 (x.1.toNat : Int), .int .u8 (x.2.1.toNat : Int), .slice Ax nx cx], .agg #[.int .u8 (y.1.toNat : Int), .int .u8 (y.2.1.toNat : Int), .slice Ay ny cy]] ?_ ((HSM.out w1 hc.g).mono fun e w' ⟨he, hb⟩ => ⟨_, he, hb, rfl⟩)
              clear hc hl
              go_simp
          intro w2 hb2
          rintro _ rfl _ rfl _ rfl _ rfl _ rfl _ rfl _ rfl _ rfl _ rfl _ rfl _ rfl
          simp only [Thus, List.reverse_cons, List.reverse_nil, List.nil_append, List.cons_append, List.drop, List.take, lay]
          go_frame
          have B2 := Lib.hid (below_then B.out (Nat.le_refl _) hb2)
          have K02 := Lib.hid (K0.out.below hb2 K0.out.lt)
          have K12 := Lib.hid (K1.out.below hb2 K1.out.lt)
          clear hb2 B K0 K1 a1 HSM HG HG2
          cases q with
          | false =>
            have HD : Hid (Dq = false) := Lib.hid (HDQ.out.trans <| decide_eq_false (fun h => by
              have h2 := of_decide_eq_false HQ.out.symm
              have h3 := HXK.out
              rw [h.2, HYK.out] at h3
              injection h3 with h3
              exact h2 h3.symm))
            go_wp2_with fail
            go_ret
            exact ⟨ret_bool HD.out.symm, B2.out⟩
          | true =>
            have HT2 : Hid (cs.take (k + 1) = cs'.take (k + 1)) := Lib.hid (take_step HT.out HXK.out HYK.out (of_decide_eq_true HQ.out.symm))
            go_wp2_with fail
            go_roundw
            case rel => exact ⟨k + 1, by omega, by go_num, HT2, B2, K02, K12⟩
            case measure => simp [intOf]; omega
        · obtain rfl : k = n := by omega
          have HD : Hid (Dq = true) := Lib.hid (HDQ.out.trans <| decide_eq_true ⟨trivial, by
            have h := HT.out
            rwa [List.take_of_length_le (by rw [HX.out]; exact Nat.le_refl _), List.take_of_length_le (by rw [HY.out]; exact Nat.le_refl _)] at h⟩)
          go_wp2_with fail
          go_ret
          exact ⟨ret_bool HD.out.symm, B.out⟩
    · have HD : Hid (Dq = false) := Lib.hid (HDQ.out.trans <| decide_eq_false (fun h => hnn (by rw [← HX.out, ← HY.out, h.2])))
      have hd2 : ((n : Int) != (n' : Int)) = true := by rw [bne_iff_ne]; omega
      clear K0 K1 B0
      go_enter Try.func19, Try.ntmps19
      rw [drawn_eq 6]
      go_wp2_with fail
      go_ret
      exact ⟨ret_bool HD.out.symm, (((Below.refl _ w).alloc (Nat.le_refl _) _).alloc (by simp) _)⟩
  · have HD : Hid (Dq = false) := Lib.hid (HDQ.out.trans <| decide_eq_false (fun h => ht h.1))
    have hd2 : ((tag : Int) != (tag2 : Int)) = true := by rw [bne_iff_ne]; omega
    clear K0 K1 B0
    go_enter Try.func19, Try.ntmps19
    rw [drawn_eq 6]
    go_wp2_with fail
    go_ret
    exact ⟨ret_bool HD.out.symm, (((Below.refl _ w).alloc (Nat.le_refl _) _).alloc (by simp) _)⟩
set_option maxRecDepth 100000 in
set_option maxHeartbeats 4000000 in
theorem refCopy_any (tag : Nat) (A : Option Addr) (n c : Nat) (cs : List Chk) (w : World) (hn : n ≤ 1048576) (hb : ∀ x ∈ cs, x.2.2.length ≤ 140737488355328) (hx : cs.length = n) (hr : Chunks w w.heap.size A cs) :
    Calls Try.prog 13 #[.agg #[.int .u32 (tag : Int), .slice A n c]] w fun e w' => ∃ A2 c2 es, e = .returned (.agg #[.int .u32 (tag : Int), .slice A2 n c2]) ∧ OC w' w.heap.size (.slice A2 n c2) es ∧ es.map CE.chk = cs ∧ Below w.heap.size w w' := by
  have HX := Lib.hid hx
  have HR := Lib.hid hr
  have HBD := Lib.hid hb
  clear hx hr hb
  have K0 : Hid (Blk ((w.alloc (.cells #[.int .u32 (tag : Int), .slice A n c] 25)).alloc (.cells #[.int .u32 0, .slice none 0 0] 25)) w.heap.size 25 #[.int .u32 (tag : Int), .slice A n c]) := Lib.hid ((Blk.new w _ _).alloc _)
  have K1 : Hid (Blk ((w.alloc (.cells #[.int .u32 (tag : Int), .slice A n c] 25)).alloc (.cells #[.int .u32 0, .slice none 0 0] 25)) (w.heap.size + 1) 25 #[.int .u32 0, .slice none 0 0]) := Lib.hid (by simpa using Blk.new (w.alloc (.cells #[.int .u32 (tag : Int), .slice A n c] 25)) 25 #[.int .u32 0, .slice none 0 0])
  have B0 : Hid (Below w.heap.size w ((w.alloc (.cells #[.int .u32 (tag : Int), .slice A n c] 25)).alloc (.cells #[.int .u32 0, .slice none 0 0] 25))) := Lib.hid (((Below.refl _ w).alloc (Nat.le_refl _) _).alloc (by simp) _)
  go_enter Try.func13, Try.ntmps13
  rw [drawn_eq 6]
  go_wp2_with fail
  generalize ((w.alloc (.cells #[.int .u32 (tag : Int), .slice A n c] 25)).alloc (.cells #[.int .u32 0, .slice none 0 0] 25)) = v0 at K0 K1 B0 ⊢
  go_loopw [3, 4] (fun v i wr => ∃ (k : Nat) (A1 : Option Addr) (c1 : Nat) (es : List CE), k ≤ n ∧ i = .int .i64 k ∧ v = .slice A1 k c1 ∧ Hid (es.length = k) ∧ Hid (es.map CE.chk = cs.take k) ∧ Hid (OC wr w.heap.size (.slice A1 k c1) es) ∧ Hid (Below w.heap.size w wr) ∧ Hid (Blk wr w.heap.size 25 #[.int .u32 (tag : Int), .slice A n c]) ∧ Hid (Blk wr (w.heap.size + 1) 25 #[.int .u32 0, .slice none 0 0])) (fun _ i _ => n - (intOf i).toNat)
  case atStart => exact ⟨0, none, 0, [], Nat.zero_le _, rfl, rfl, Lib.hid rfl, Lib.hid rfl, Lib.hid (OC.nil _ _), B0, K0, K1⟩
  case round =>
    clear K0 K1 B0
    obtain ⟨k, A1, c1, es, hk, rfl, rfl, HL, HM, HOC, B, K0, K1⟩ := hrel
    have a1 : wr.cell? ⟨w.heap.size, 1, none⟩ = some (.slice A n c) := K0.out.cell 1
    by_cases hlt : k < n
    · obtain ⟨x, hxk⟩ : ∃ x, cs[k]? = some x := ⟨_, List.getElem?_eq_getElem (by rw [HX.out]; exact hlt)⟩
      obtain ⟨b, o, rfl, hbl, g0, g1, Ax, nx, cx, g2, g3, g4, g5, g6⟩ := (HR.out.below B.out).at_ hxk
      have hnx : nx ≤ 140737488355328 := by rw [← g5]; exact HBD.out x (List.mem_of_getElem? hxk)
      have HXK := Lib.hid hxk
      have HBODY := Lib.hid g6
      have HLX := Lib.hid g5
      clear hxk g6 g5 g4 g3 hbl
      go_wp2_with fail
      rw [← drawn_eq 6]
      have KC := Lib.hid (Blk.new wr 41 #[.int .u8 (x.1.toNat : Int), .int .u8 (x.2.1.toNat : Int), .slice Ax nx cx])
      have K0b := Lib.hid (K0.out.alloc (.cells #[.int .u8 (x.1.toNat : Int), .int .u8 (x.2.1.toNat : Int), .slice Ax nx cx] 41))
      have K1b := Lib.hid (K1.out.alloc (.cells #[.int .u8 (x.1.toNat : Int), .int .u8 (x.2.1.toNat : Int), .slice Ax nx cx] 41))
      have HOCb := Lib.hid (HOC.out.alloc (.cells #[.int .u8 (x.1.toNat : Int), .int .u8 (x.2.1.toNat : Int), .slice Ax nx cx] 41))
      have Bb := Lib.hid (B.out.alloc B.out.size (.cells #[.int .u8 (x.1.toNat : Int), .int .u8 (x.2.1.toNat : Int), .slice Ax nx cx] 41))
      have HBb := Lib.hid (HBODY.out.alloc B.out.size (.cells #[.int .u8 (x.1.toNat : Int), .int .u8 (x.2.1.toNat : Int), .slice Ax nx cx] 41))
      obtain ⟨gc, hgc⟩ : ∃ gc, gc = wr.heap.size := ⟨_, rfl⟩
      rw [← hgc] at KC ⊢
      clear K0 K1 HOC B HBODY a1 g0 g1 g2 hgc
      generalize wr.alloc (.cells #[.int .u8 (x.1.toNat : Int), .int .u8 (x.2.1.toNat : Int), .slice Ax nx cx] 41) = v1 at KC K0b K1b HOCb Bb HBb ⊢
      have HCP : Hid (∀ W, Below v1.heap.size v1 W → Calls Try.prog 30 #[.slice Ax nx cx] W fun e w' => ∃ A2 c2, e = .returned (.slice A2 nx c2) ∧ Own8 w' 5 W.heap.size A2 nx c2 x.2.2 ∧ Below W.heap.size W w') := Lib.hid fun W hW => copyBytes_any Ax nx cx x.2.2 W hnx HLX.out (((HBb.out.more Bb.out.size).below hW).more hW.size)
      refine wp_region_grow_tailT 10 (by kernel_rfl) [(Is (.slice A1 k c1)), (Is (.pointer (some ⟨gc, 0, none⟩))), (Is (.int .u8 (x.1.toNat : Int))), (Is (.pointer (some ⟨gc, 1, none⟩))), (Is (.int .u8 (x.2.1.toNat : Int))), (Is (.pointer (some ⟨gc, 2, none⟩))), (Is (.slice Ax nx cx)), (NewOwn 5 v1.heap.size nx x.2.2), (NewAgg 5 v1.heap.size nx x.2.2 (fun s => .agg #[.int .u8 (x.1.toNat : Int), .int .u8 (x.2.1.toNat : Int), s])), (NewCk v1.heap.size x.1 x.2.1 nx x.2.2)] rfl ?_ (by kernel_rfl) (by kernel_rfl) ?_ ?_
      · intro p hp
        simp only [List.mem_cons, List.not_mem_nil, or_false] at hp
        rcases hp with rfl | rfl | rfl | rfl | rfl | rfl | rfl | rfl | rfl | rfl
        · exact Lasts.is _
        · exact Lasts.is _
        · exact Lasts.is _
        · exact Lasts.is _
        · exact Lasts.is _
        · exact Lasts.is _
        · exact Lasts.is _
        · exact Lasts.newOwn _ _ _ _
        · exact Lasts.newAgg _ _ _ _ _
        · exact Lasts.newCk _ _ _ _ _
      · refine ⟨?_, ?_, ?_, ?_, ?_, ?_, ?_, ?_, ?_, ?_, trivial⟩
        · intro listed a w1 hfar hl hc
          have h3 : a.tmps[3]?.getD undef = .slice A1 k c1 := (hc.wasT hfar 3 (by kernel_rfl)).trans rfl
          refine does_value rfl rfl (.slice A1 k c1) w1 ?_ (Below.refl _ _) rfl
          clear hc hl
          go_simp
        · intro listed a w1 hfar hl hc
          have h5 : a.tmps[5]?.getD undef = .pointer (some ⟨gc, 0, none⟩) := (hc.was 5 (by kernel_rfl)).trans rfl
          refine does_value rfl rfl (.pointer (some ⟨gc, 0, none⟩)) w1 ?_ (Below.refl _ _) rfl
          clear hc hl
          go_simp
        · intro listed a w1 hfar hl hc
          have h19 : a.tmps[19]?.getD undef = .pointer (some ⟨gc, 0, none⟩) := hc.dep hl 1 19 rfl (by kernel_rfl)
          have kb := KC.out.below hc.g KC.out.lt
          have x0 : w1.cell? ⟨gc, 0, none⟩ = some (.int .u8 (x.1.toNat : Int)) := kb.cell 0
          clear kb
          refine does_value rfl rfl (.int .u8 (x.1.toNat : Int)) w1 ?_ (Below.refl _ _) rfl
          clear hc hl
          go_simp
        · intro listed a w1 hfar hl hc
          have h5 : a.tmps[5]?.getD undef = .pointer (some ⟨gc, 0, none⟩) := (hc.was 5 (by kernel_rfl)).trans rfl
          refine does_value rfl rfl (.pointer (some ⟨gc, 1, none⟩)) w1 ?_ (Below.refl _ _) rfl
          clear hc hl
          go_simp
        · intro listed a w1 hfar hl hc
          have h21 : a.tmps[21]?.getD undef = .pointer (some ⟨gc, 1, none⟩) := hc.dep hl 3 21 rfl (by kernel_rfl)
          have kb := KC.out.below hc.g KC.out.lt
          have x1 : w1.cell? ⟨gc, 1, none⟩ = some (.int .u8 (x.2.1.toNat : Int)) := kb.cell 1
          clear kb
          refine does_value rfl rfl (.int .u8 (x.2.1.toNat : Int)) w1 ?_ (Below.refl _ _) rfl
          clear hc hl
          go_simp
        · intro listed a w1 hfar hl hc
          have h5 : a.tmps[5]?.getD undef = .pointer (some ⟨gc, 0, none⟩) := (hc.was 5 (by kernel_rfl)).trans rfl
          refine does_value rfl rfl (.pointer (some ⟨gc, 2, none⟩)) w1 ?_ (Below.refl _ _) rfl
          clear hc hl
          go_simp
        · intro listed a w1 hfar hl hc
          have h23 : a.tmps[23]?.getD undef = .pointer (some ⟨gc, 2, none⟩) := hc.dep hl 5 23 rfl (by kernel_rfl)
          have kb := KC.out.below hc.g KC.out.lt
          have x2 : w1.cell? ⟨gc, 2, none⟩ = some (.slice Ax nx cx) := kb.cell 2
          clear kb
          refine does_value rfl rfl (.slice Ax nx cx) w1 ?_ (Below.refl _ _) rfl
          clear hc hl
          go_simp
        · intro listed a w1 hfar hl hc
          have h24 : a.tmps[24]?.getD undef = .slice Ax nx cx := hc.dep hl 6 24 rfl (by kernel_rfl)
          refine does_call rfl rfl 30 #[.slice Ax nx cx] ?_ ((HCP.out w1 hc.g).mono fun e w' ⟨A9, c9, he, ho, hb⟩ => ⟨_, he, hb, A9, c9, rfl, ho.more hc.g.size⟩)
          clear hc hl
          go_simp
        · intro listed a w1 hfar hl hc
          have h20 : a.tmps[20]?.getD undef = .int .u8 (x.1.toNat : Int) := hc.dep hl 2 20 rfl (by kernel_rfl)
          have h22 : a.tmps[22]?.getD undef = .int .u8 (x.2.1.toNat : Int) := hc.dep hl 4 22 rfl (by kernel_rfl)
          obtain ⟨A25, c25, h25, ho25⟩ := hc.dep hl 7 25 rfl (by kernel_rfl)
          refine does_value rfl rfl (.agg #[.int .u8 (x.1.toNat : Int), .int .u8 (x.2.1.toNat : Int), .slice A25 nx c25]) w1 ?_ (Below.refl _ _) ⟨A25, c25, rfl, ho25⟩
          clear hc hl
          go_simp
        · intro listed a w1 hfar hl hc
          obtain ⟨A26, c26, h26, ho26⟩ := hc.dep hl 8 26 rfl (by kernel_rfl)
          refine does_value rfl rfl (.slice (some ⟨w1.heap.size, 0, none⟩) 1 1) (w1.alloc (.cells #[.int .u8 (x.1.toNat : Int), .int .u8 (x.2.1.toNat : Int), .slice A26 nx c26] 41)) ?_ (below_new w1 _) ⟨_, A26, c26, rfl, hc.g.size, Blk.new _ _ _, ho26.alloc _⟩
          clear hc hl
          go_simp
      intro w2 hb2
      rintro _ rfl _ rfl _ rfl _ rfl _ rfl _ rfl _ rfl _ ⟨A25, c25, rfl, ho25⟩ _ ⟨A26, c26, rfl, ho26⟩ _ ⟨g27, A27, c27, rfl, hg27, hk27, ho27⟩
      simp only [Thus, List.reverse_cons, List.reverse_nil, List.nil_append, List.cons_append, List.drop, List.take, lay]
      go_frame
      have hkn : k ≤ 1048576 := by omega
      obtain ⟨A2, c2, w5, hrun, hoc, hgr⟩ := OC.push 23 ⟨x.1, x.2.1, A27, nx, c27, x.2.2⟩ (HOCb.out.below hb2) HL.out hk27 (ho27.more Bb.out.size) (far_new HOCb.out ho27 (Nat.le_refl _)) hkn (Nat.le_trans Bb.out.size hb2.size)
      have hn0 : some w.heap.size ≠ (Value.slice A1 k c1).ownBlock := ownsRow_ne (HOCb.out.below hb2).row (K0b.out.below hb2 K0b.out.lt) (by decide)
      have hn1 : some (w.heap.size + 1) ≠ (Value.slice A1 k c1).ownBlock := ownsRow_ne (HOCb.out.below hb2).row (K1b.out.below hb2 K1b.out.lt) (by decide)
      have K05 := Lib.hid ((K0b.out.below hb2 K0b.out.lt).grown hgr hn0)
      have K15 := Lib.hid ((K1b.out.below hb2 K1b.out.lt).grown hgr hn1)
      have B5 := Lib.hid ((below_then Bb.out (Nat.le_refl _) hb2).grown hgr (Nat.le_trans Bb.out.size hb2.size) (ownsRow_ge HOCb.out.row))
      have HOC5 := Lib.hid hoc
      have HM5 : Hid ((es ++ [(⟨x.1, x.2.1, A27, nx, c27, x.2.2⟩ : CE)]).map CE.chk = cs.take (k + 1)) := Lib.hid (by
        rw [List.map_append, HM.out, List.take_add_one, HXK.out]
        rfl)
      have HL5 : Hid ((es ++ [(⟨x.1, x.2.1, A27, nx, c27, x.2.2⟩ : CE)]).length = k + 1) := Lib.hid (by rw [List.length_append, HL.out]; rfl)
      clear hb2 hgr hoc hn0 hn1 hk27 ho27 hg27 K0b K1b HOCb Bb HBb KC HCP
      refine wpList_append_run rfl _ _ 23 rfl _ _ _ rfl rfl _ rfl hrun ?_
      go_wp2_with fail
      go_roundw
      case rel => exact ⟨k + 1, A2, c2, _, by omega, by go_num, rfl, HL5, HM5, HOC5, B5, K05, K15⟩
      case measure => simp [intOf]; omega
    · obtain rfl : k = n := by omega
      have HMM : Hid (es.map CE.chk = cs) := Lib.hid (by rw [HM.out, List.take_of_length_le (by rw [HX.out]; exact Nat.le_refl _)])
      have a0 : wr.cell? ⟨w.heap.size, 0, none⟩ = some (.int .u32 (tag : Int)) := K0.out.cell 0
      have b0 : wr.cell? ⟨w.heap.size + 1, 0, none⟩ = some (.int .u32 0) := K1.out.cell 0
      have b1 : wr.cell? ⟨w.heap.size + 1, 1, none⟩ = some (.slice none 0 0) := K1.out.cell 1
      have e0 := K1.out.frozen 0
      have e1 := K1.out.frozen 1
      go_wp2_with fail
      have k1 := (K1.out.set_ 0 (.int .u32 (tag : Int))).set_ 1 (.slice A1 k c1)
      have x0 := k1.cell 0
      have x1 := k1.cell 1
      refine bodyPost_ret (v := .agg #[.int .u32 (tag : Int), .slice A1 k c1]) ?_ rfl ⟨A1, c1, es, rfl, (HOC.out.setBlk K1.out (by decide) (by decide) 0 _).setBlk (K1.out.set_ 0 _) (by decide) (by decide) 1 _, HMM.out, (B.out.setCell (p := ⟨w.heap.size + 1, 0, none⟩) (by simp) _).setCell (p := ⟨w.heap.size + 1, 1, none⟩) (by simp) _⟩
      simp [results, Try.results13, go_sem, x0, x1]
end Go.Proofs.Ytifmhlbeodfpeaa
