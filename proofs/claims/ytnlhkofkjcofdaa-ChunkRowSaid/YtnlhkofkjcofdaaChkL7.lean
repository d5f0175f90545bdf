/-
  ChunkRow, walked.
-/
import Derived.Test.YtnlhkofkjcofdaaChkF
import Derived.Test.YtnlhkofkjcofdaaChkR
import Derived.Test.YtnlhkofkjcofdaaGrowT
namespace Go.Proofs.Ytnlhkofkjcofdaa
open Go.RowKit
set_option linter.unusedVariables false

set_option maxHeartbeats 1000000 in
theorem chunkRow_big (A : Option Addr) (n c : Nat) (w : World) (h : 60 < n) :
    Calls Try.prog 6 #[.slice A n c] w fun e w' => e = .returned (.bool true) ∧ Below w.heap.size w w' := by
  go_enter Try.func6, Try.ntmps6
  go_wp2_with fail
  refine (works_any _).mono ?_
  rintro e w' ⟨rfl, hb⟩
  go_wp2_with fail
  go_ret
  exact ⟨rfl, hb⟩

set_option maxRecDepth 100000 in
set_option maxHeartbeats 4000000 in
theorem chunkRow_small (A : Option Addr) (n c : Nat) (cs : List Chk) (w : World) (h : n ≤ 60) (hx : cs.length = n) (hr : Chunks w w.heap.size A cs) :
    Calls Try.prog 6 #[.slice A n c] w fun e w' => e = .returned (.bool true) ∧ Below w.heap.size w w' := by
  obtain ⟨i8, h8⟩ := Try.ty8
  have hz := zero_chunk
  have HX := Lib.hid hx
  have HR := Lib.hid hr
  have HT : Hid (∀ k, k ≤ 60 → (cat (cs.take k)).length ≤ 3932160) := Lib.hid fun k hk => Nat.le_trans (length_cat_take cs k) (by omega)
  clear hx hr
  go_enter Try.func6, Try.ntmps6
  go_wp2_with fail
  go_loopw [3, 4] (fun v i wr => ∃ (k : Nat) (A1 : Option Addr) (m1 c1 : Nat), k ≤ n ∧ i = .int .i64 k ∧ v = .slice A1 m1 c1 ∧ Own8 wr 5 w.heap.size A1 m1 c1 (cat (cs.take k)) ∧ Hid (∀ (j : Nat) (x : Chk), j < k → cs[j]? = some x → x.2.2.length ≤ 2048) ∧ Below w.heap.size w wr) (fun _ i _ => n - (intOf i).toNat)
  case atStart => exact ⟨0, none, 0, 0, Nat.zero_le _, rfl, rfl, Own8.nil _ _ _, Lib.hid (fun j x hj => absurd hj (by omega)), Below.refl _ _⟩
  case round =>
    obtain ⟨k, A1, m1, c1, hk, rfl, rfl, ho, hall, hb⟩ := hrel
    by_cases hlt : k < n
    · obtain ⟨x, hxk⟩ : ∃ x, cs[k]? = some x := ⟨_, List.getElem?_eq_getElem (by rw [HX.out]; exact hlt)⟩
      obtain ⟨b, o, rfl, hbl, hcx⟩ : ∃ b o, A = some ⟨b, o, none⟩ ∧ b < w.heap.size ∧ ∀ (i : Nat) (x : Chk), cs[i]? = some x → wr.cell? ⟨b, o + i * 3, none⟩ = some (.int .u8 (x.1.toNat : Int)) ∧ wr.cell? ⟨b, o + i * 3 + 1, none⟩ = some (.int .u8 (x.2.1.toNat : Int)) ∧
          ∃ A' n c, wr.cell? ⟨b, o + i * 3 + 2, none⟩ = some (.slice A' n c) ∧ n ≤ c ∧ c ≤ maxLen ∧ x.2.2.length = n ∧ Rd wr w.heap.size A' x.2.2 := by
        rcases HR.out.below hb with h0 | h1
        · rw [h0] at hxk; simp at hxk
        · exact h1
      obtain ⟨g0, g1, Ax, nx, cx, g2, g3, g4, g5, g6⟩ := hcx k x hxk
      have O := Lib.hid ho
      have B := Lib.hid hb
      have HXK := Lib.hid hxk
      have HRX := Lib.hid (g6.more hb.size)
      have HLX := Lib.hid g5
      have hml : m1 ≤ 3932160 := by rw [← ho.len]; exact HT.out k (by omega)
      clear hcx ho hb hxk g6 g5 g4
      by_cases hn : 2048 < nx
      · go_wp2_with fail
        refine (works_any _).mono ?_
        rintro e w3 ⟨rfl, hb3⟩
        go_wp2_with fail
        go_ret
        exact ⟨rfl, below_then B.out (Nat.le_refl _) hb3⟩
      · have hn' : nx ≤ 2048 := by omega
        clear hn
        go_wp2_with fail
        refine (write_any x.1 x.2.1 Ax nx cx x.2.2 wr HLX.out HRX.out).mono ?_
        rintro e w2 ⟨A2, m2, c2, rfl, ho2, hb2⟩
        have oa := O.out.below hb2 (Nat.le_refl _)
        have hl2 := ho2.len
        have hl2b := wrt_le x.1 x.2.1 x.2.2
        have hzz : w.heap.size ≤ w2.heap.size := Nat.le_trans B.out.size hb2.size
        have B2 := Lib.hid (below_then B.out (Nat.le_refl _) hb2)
        have orr := ho2.rd
        have HL2 := Lib.hid hl2
        have hm2 : m2 ≤ 65536 := by rw [← hl2]; exact hl2b
        clear ho2 hb2 g0 g1 g2 hl2 hl2b
        go_wp2_with (at_builtin; refine wpList_append8 h8 _ rfl _ _ rfl w.heap.size _ _ _ _ rfl oa _ _ _ _ _ rfl HL2.out orr (by omega) hzz ?_; intro A4 c4 w4 ho4 hg4 hh4)
        go_roundw
        case rel =>
          refine ⟨k + 1, A4, m1 + m2, c4, by omega, by go_num, rfl, ?_, Lib.hid (fun j y hj hy => ?_), B2.out.grown hg4 hzz oa.blk⟩
          · rw [cat_snoc cs k x HXK.out]
            exact ho4
          · by_cases hjk : j < k
            · exact hall.out j y hjk hy
            · obtain rfl : j = k := by omega
              have := HXK.out
              rw [hy] at this
              injection this with this
              rw [this, HLX.out]
              exact hn'
        case measure => simp [intOf]; omega
    · obtain rfl : k = n := by omega
      have hcat : cat (cs.take k) = cat cs := by rw [List.take_of_length_le (by rw [HX.out]; omega)]
      rw [hcat] at ho
      have hml : m1 ≤ 3932160 := by rw [← ho.len, ← hcat]; exact HT.out k (by omega)
      have hcap := ho.cap
      have HO := Lib.hid ho
      have HC := Lib.hid hcap.2
      have hc1 := hcap.1
      have HB := Lib.hid hb
      clear hcat ho hcap hb
      go_wp2_with fail
      obtain ⟨wo, hwo⟩ : ∃ wo : World, wo = wr := ⟨_, rfl⟩
      subst hwo
      go_loopw [3, 5] (fun v i wr => ∃ (j : Nat) (A2 : Option Addr) (m2 c2 : Nat), j ≤ k ∧ i = .int .i64 j ∧ v = .slice A2 m2 c2 ∧ Hid (Rd wr wr.heap.size A2 (cat (cs.drop j))) ∧ Hid ((cat (cs.drop j)).length = m2) ∧ m2 ≤ 3932160 ∧ m2 ≤ c2 ∧ Hid (c2 ≤ maxLen) ∧ Below w.heap.size w wr) (fun _ i _ => k - (intOf i).toNat)
      case atStart => exact ⟨0, A1, m1, c1, Nat.zero_le _, rfl, rfl, Lib.hid HO.out.rd, Lib.hid HO.out.len, hml, hc1, HC, HB.out⟩
      case round =>
        clear hml hc1
        obtain ⟨j, A2, m2, c2, hj, rfl, rfl, hrd, hlen, hm2, hmc, hcm2, hb⟩ := hrel
        by_cases hlt2 : j < k
        · obtain ⟨x, hxk⟩ : ∃ x, cs[j]? = some x := ⟨_, List.getElem?_eq_getElem (by rw [HX.out]; exact hlt2)⟩
          have hsmall : x.2.2.length ≤ 2048 := hall.out j x hlt2 hxk
          have hct := cat_drop cs j x hxk
          obtain ⟨b, o, rfl, hbl, hcx⟩ : ∃ b o, A = some ⟨b, o, none⟩ ∧ b < w.heap.size ∧ ∀ (i : Nat) (x : Chk), cs[i]? = some x → wr.cell? ⟨b, o + i * 3, none⟩ = some (.int .u8 (x.1.toNat : Int)) ∧ wr.cell? ⟨b, o + i * 3 + 1, none⟩ = some (.int .u8 (x.2.1.toNat : Int)) ∧
              ∃ A' n c, wr.cell? ⟨b, o + i * 3 + 2, none⟩ = some (.slice A' n c) ∧ n ≤ c ∧ c ≤ maxLen ∧ x.2.2.length = n ∧ Rd wr w.heap.size A' x.2.2 := by
            rcases HR.out.below hb with h0 | h1
            · rw [h0] at hxk; simp at hxk
            · exact h1
          obtain ⟨g0, g1, Ax, nx, cx, g2, g3, g4, g5, g6⟩ := hcx j x hxk
          obtain ⟨N, hN⟩ : ∃ N, N = up4 (4 + nx) := ⟨_, rfl⟩
          have hNl : (wrt x.1 x.2.1 x.2.2).length = N := by rw [length_wrt (by omega), g5, hN]
          have hNm : N ≤ m2 := by rw [← hlen.out, hct, List.length_append, hNl]; omega
          have hNb := up4_bd (4 + nx)
          rw [← hN] at hNb
          have HRB : Hid (Calls Try.prog 18 #[.slice A2 m2 c2] wr fun e w' => ∃ A3 c3, e = .returned (.tuple #[.agg #[.int .u8 (x.1.toNat : Int), .int .u8 (x.2.1.toNat : Int), .slice A3 nx c3], .int .i64 N, .int .i64 0]) ∧ Own8 w' 5 wr.heap.size A3 nx c3 x.2.2 ∧ Below wr.heap.size wr w') := Lib.hid (by
            have h := read_back x.1 x.2.1 x.2.2 (cat (cs.drop (j + 1))) (cat (cs.drop j)) hct (by omega) A2 m2 c2 wr (by omega) hmc hcm2.out hlen.out hrd.out
            rw [g5, ← hN] at h
            exact h)
          have HG : Hid (wr.cell? ⟨b, o + j * 3, none⟩ = some (.int .u8 (x.1.toNat : Int)) ∧ wr.cell? ⟨b, o + j * 3 + 1, none⟩ = some (.int .u8 (x.2.1.toNat : Int)) ∧ wr.cell? ⟨b, o + j * 3 + 2, none⟩ = some (.slice Ax nx cx)) := ⟨g0, g1, g2⟩
          have HGX := Lib.hid g6
          have HLX := Lib.hid g5
          have HBL := Lib.hid (Nat.lt_of_lt_of_le hbl hb.size)
          have HNL := Lib.hid hNl
          have HCT := Lib.hid hct
          have B := Lib.hid hb
          clear hcx g0 g1 g2 g3 g4 g5 g6 hbl hN hNl hct hxk hb hsmall
          go_wp2_with fail
          refine HRB.out.mono ?_
          rintro e w3 ⟨A3, c3, rfl, ho3, hb3⟩
          have X9 := Lib.hid (Blk.new w3 24 #[.int .u8 (x.1.toNat : Int), .int .u8 (x.2.1.toNat : Int), .slice A3 nx c3])
          have O3 := Lib.hid (ho3.alloc (.cells #[.int .u8 (x.1.toNat : Int), .int .u8 (x.2.1.toNat : Int), .slice A3 nx c3] 24))
          have hbq : Below wr.heap.size wr (w3.alloc (.cells #[.int .u8 (x.1.toNat : Int), .int .u8 (x.2.1.toNat : Int), .slice A3 nx c3] 24)) := hb3.alloc hb3.size _
          have HBQ := Lib.hid hbq
          clear ho3 hb3 HRB hbq
          go_wp2_with fail
          obtain ⟨q, hq⟩ : ∃ q, q = w3.heap.size := ⟨_, rfl⟩
          rw [← hq] at X9 ⊢
          clear hq
          generalize w3.alloc (.cells #[.int .u8 (x.1.toNat : Int), .int .u8 (x.2.1.toNat : Int), .slice A3 nx c3] 24) = wx at X9 O3 HBQ ⊢
          have HCL : Hid (∀ W : World, Below wx.heap.size wx W → W.cell? ⟨b, o + j * 3, none⟩ = some (.int .u8 (x.1.toNat : Int)) ∧ W.cell? ⟨b, o + j * 3 + 1, none⟩ = some (.int .u8 (x.2.1.toNat : Int)) ∧ W.cell? ⟨b, o + j * 3 + 2, none⟩ = some (.slice Ax nx cx)) := Lib.hid fun W hW => by
            have h1 := HBQ.out.trans (hW.mono HBQ.out.size)
            exact ⟨(h1.cell HBL.out).trans HG.out.1, (h1.cell HBL.out).trans HG.out.2.1, (h1.cell HBL.out).trans HG.out.2.2⟩
          have hnx : nx ≤ 140737488355300 := by omega
          have HSM : Hid (∀ W : World, Below wx.heap.size wx W → Calls Try.prog 20 #[.agg #[.int .u8 (x.1.toNat : Int), .int .u8 (x.2.1.toNat : Int), .slice A3 nx c3], .agg #[.int .u8 (x.1.toNat : Int), .int .u8 (x.2.1.toNat : Int), .slice Ax nx cx]] W fun e w' => e = .returned (.bool true) ∧ Below W.heap.size W w') := Lib.hid fun W hW =>
            same_yes _ _ A3 Ax nx c3 cx x.2.2 W HLX.out hnx (O3.out.below hW (Nat.le_refl _)).rd (((HGX.out.below (HBQ.out.mono B.out.size)).below (hW.mono (Nat.le_trans B.out.size HBQ.out.size))).more (Nat.le_trans B.out.size (Nat.le_trans HBQ.out.size hW.size)))
          have hgt : decide ((N : Int) > (m2 : Int)) = false := decide_eq_false (by omega)
          have hgt2 : decide (m2 < N) = false := decide_eq_false (by omega)
      -- REGION 14
          refine wp_region_grow_tail 16 (by kernel_rfl) [(Is (.int .i64 0)), (Is (.bool false)), (Is (.bool false)), (Is (.int .i64 N)), (Is (.slice A2 m2 c2)), (Is (.int .i64 m2)), (Is (.bool false)), (Is (.bool false)), (Is (.bool false)), (Is (.agg #[.int .u8 (x.1.toNat : Int), .int .u8 (x.2.1.toNat : Int), .slice A3 nx c3])), (Is (.slice (some ⟨b, o, none⟩) k c)), (Is (.int .i64 j)), (Is (.pointer (some ⟨b, o + j * 3, none⟩))), (Is (.agg #[.int .u8 (x.1.toNat : Int), .int .u8 (x.2.1.toNat : Int), .slice Ax nx cx])), (Is (.bool true)), (Is (.bool false))] rfl ?_ (by kernel_rfl) (by kernel_rfl) ?_ ?_
          · intro p hp
            simp only [List.mem_cons, List.not_mem_nil, or_false] at hp
            rcases hp with rfl | rfl | rfl | rfl | rfl | rfl | rfl | rfl | rfl | rfl | rfl | rfl | rfl | rfl | rfl | rfl
            · exact Lasts.is _
            · exact Lasts.is _
            · exact Lasts.is _
            · exact Lasts.is _
            · exact Lasts.is _
            · exact Lasts.is _
            · exact Lasts.is _
            · exact Lasts.is _
            · exact Lasts.is _
            · exact Lasts.is _
            · exact Lasts.is _
            · exact Lasts.is _
            · exact Lasts.is _
            · exact Lasts.is _
            · exact Lasts.is _
            · exact Lasts.is _
          · refine ⟨?_, ?_, ?_, ?_, ?_, ?_, ?_, ?_, ?_, ?_, ?_, ?_, ?_, ?_, ?_, ?_, trivial⟩
            · intro listed a w1 hl hc
              have h8 : a.tmps[8]?.getD undef = .int .i64 0 := (hc.was 8 (by kernel_rfl)).trans rfl
              refine does_value rfl rfl (.int .i64 0) w1 ?_ (Below.refl _ _) rfl
              clear hc hl
              go_simp
            · intro listed a w1 hl hc
              have h49 : a.tmps[49]?.getD undef = .int .i64 0 := hc.dep hl 0 49 rfl (by kernel_rfl)
              refine does_value rfl rfl (.bool false) w1 ?_ (Below.refl _ _) rfl
              clear hc hl
              go_simp
            · intro listed a w1 hl hc
              have h50 : a.tmps[50]?.getD undef = .bool false := hc.dep hl 1 50 rfl (by kernel_rfl)
              refine does_value rfl rfl (.bool false) w1 ?_ (Below.refl _ _) rfl
              clear hc hl
              go_simp
            · intro listed a w1 hl hc
              have h7 : a.tmps[7]?.getD undef = .int .i64 N := (hc.was 7 (by kernel_rfl)).trans rfl
              refine does_value rfl (wanted_at rfl rfl (hc.dep hl 2 51 rfl (by kernel_rfl))) (.int .i64 N) w1 ?_ (Below.refl _ _) rfl
              clear hc hl
              go_simp
            · intro listed a w1 hl hc
              have h3 : a.tmps[3]?.getD undef = .slice A2 m2 c2 := (hc.was 3 (by kernel_rfl)).trans rfl
              refine does_value rfl (wanted_at rfl rfl (hc.dep hl 2 51 rfl (by kernel_rfl))) (.slice A2 m2 c2) w1 ?_ (Below.refl _ _) rfl
              clear hc hl
              go_simp
            · intro listed a w1 hl hc
              have h53 : a.tmps[53]?.getD undef = .slice A2 m2 c2 := hc.dep hl 4 53 rfl (by kernel_rfl)
              refine does_value rfl (wanted_at rfl rfl (hc.dep hl 2 51 rfl (by kernel_rfl))) (.int .i64 m2) w1 ?_ (Below.refl _ _) rfl
              clear hc hl
              go_simp
            · intro listed a w1 hl hc
              have h52 : a.tmps[52]?.getD undef = .int .i64 N := hc.dep hl 3 52 rfl (by kernel_rfl)
              have h54 : a.tmps[54]?.getD undef = .int .i64 m2 := hc.dep hl 5 54 rfl (by kernel_rfl)
              refine does_value rfl (wanted_at rfl rfl (hc.dep hl 2 51 rfl (by kernel_rfl))) (.bool false) w1 ?_ (Below.refl _ _) rfl
              clear hc hl
              go_simp
            · intro listed a w1 hl hc
              have h51 : a.tmps[51]?.getD undef = .bool false := hc.dep hl 2 51 rfl (by kernel_rfl)
              have h55 : a.tmps[55]?.getD undef = .bool false := hc.dep hl 6 55 rfl (by kernel_rfl)
              refine does_value rfl rfl (.bool false) w1 ?_ (Below.refl _ _) rfl
              clear hc hl
              go_simp
            · intro listed a w1 hl hc
              have h56 : a.tmps[56]?.getD undef = .bool false := hc.dep hl 7 56 rfl (by kernel_rfl)
              refine does_value rfl rfl (.bool false) w1 ?_ (Below.refl _ _) rfl
              clear hc hl
              go_simp
            · intro listed a w1 hl hc
              have h6 : a.tmps[6]?.getD undef = .pointer (some ⟨q, 0, none⟩) := (hc.was 6 (by kernel_rfl)).trans rfl
              have x0 : w1.cell? ⟨q, 0, none⟩ = some (.int .u8 (x.1.toNat : Int)) := (X9.out.below hc.g X9.out.lt).cell 0
              have x1 : w1.cell? ⟨q, 1, none⟩ = some (.int .u8 (x.2.1.toNat : Int)) := (X9.out.below hc.g X9.out.lt).cell 1
              have x2 : w1.cell? ⟨q, 2, none⟩ = some (.slice A3 nx c3) := (X9.out.below hc.g X9.out.lt).cell 2
              refine does_value rfl (wanted_at rfl rfl (hc.dep hl 8 57 rfl (by kernel_rfl))) (.agg #[.int .u8 (x.1.toNat : Int), .int .u8 (x.2.1.toNat : Int), .slice A3 nx c3]) w1 ?_ (Below.refl _ _) rfl
              clear hc hl
              go_simp
            · intro listed a w1 hl hc
              have h0 : a.tmps[0]?.getD undef = .slice (some ⟨b, o, none⟩) k c := (hc.was 0 (by kernel_rfl)).trans rfl
              refine does_value rfl (wanted_at rfl rfl (hc.dep hl 8 57 rfl (by kernel_rfl))) (.slice (some ⟨b, o, none⟩) k c) w1 ?_ (Below.refl _ _) rfl
              clear hc hl
              go_simp
            · intro listed a w1 hl hc
              have h5 : a.tmps[5]?.getD undef = .int .i64 j := (hc.was 5 (by kernel_rfl)).trans rfl
              refine does_value rfl (wanted_at rfl rfl (hc.dep hl 8 57 rfl (by kernel_rfl))) (.int .i64 j) w1 ?_ (Below.refl _ _) rfl
              clear hc hl
              go_simp
            · intro listed a w1 hl hc
              have h59 : a.tmps[59]?.getD undef = .slice (some ⟨b, o, none⟩) k c := hc.dep hl 10 59 rfl (by kernel_rfl)
              have h60 : a.tmps[60]?.getD undef = .int .i64 j := hc.dep hl 11 60 rfl (by kernel_rfl)
              refine does_value rfl (wanted_at rfl rfl (hc.dep hl 8 57 rfl (by kernel_rfl))) (.pointer (some ⟨b, o + j * 3, none⟩)) w1 ?_ (Below.refl _ _) rfl
              clear hc hl
              go_simp
            · intro listed a w1 hl hc
              have h61 : a.tmps[61]?.getD undef = .pointer (some ⟨b, o + j * 3, none⟩) := hc.dep hl 12 61 rfl (by kernel_rfl)
              have x0 : w1.cell? ⟨b, o + j * 3, none⟩ = some (.int .u8 (x.1.toNat : Int)) := (HCL.out w1 hc.g).1
              have x1 : w1.cell? ⟨b, o + j * 3 + 1, none⟩ = some (.int .u8 (x.2.1.toNat : Int)) := (HCL.out w1 hc.g).2.1
              have x2 : w1.cell? ⟨b, o + j * 3 + 2, none⟩ = some (.slice Ax nx cx) := (HCL.out w1 hc.g).2.2
              refine does_value rfl (wanted_at rfl rfl (hc.dep hl 8 57 rfl (by kernel_rfl))) (.agg #[.int .u8 (x.1.toNat : Int), .int .u8 (x.2.1.toNat : Int), .slice Ax nx cx]) w1 ?_ (Below.refl _ _) rfl
              clear hc hl
              go_simp
            · intro listed a w1 hl hc
              have h58 : a.tmps[58]?.getD undef = .agg #[.int .u8 (x.1.toNat : Int), .int .u8 (x.2.1.toNat : Int), .slice A3 nx c3] := hc.dep hl 9 58 rfl (by kernel_rfl)
              have h62 : a.tmps[62]?.getD undef = .agg #[.int .u8 (x.1.toNat : Int), .int .u8 (x.2.1.toNat : Int), .slice Ax nx cx] := hc.dep hl 13 62 rfl (by kernel_rfl)
              refine does_call rfl (wanted_at rfl rfl (hc.dep hl 8 57 rfl (by kernel_rfl))) 20 #[.agg #[.int .u8 (x.1.toNat : Int), .int .u8 (x.2.1.toNat : Int), .slice A3 nx c3], .agg #[.int .u8 (x.1.toNat : Int), .int .u8 (x.2.1.toNat : Int), .slice Ax nx cx]] ?_ ((HSM.out w1 hc.g).mono fun e w' ⟨he, hb⟩ => ⟨_, he, hb, rfl⟩)
              clear hc hl
              go_simp
            · intro listed a w1 hl hc
              have h63 : a.tmps[63]?.getD undef = .bool true := hc.dep hl 14 63 rfl (by kernel_rfl)
              refine does_value rfl (wanted_at rfl rfl (hc.dep hl 8 57 rfl (by kernel_rfl))) (.bool false) w1 ?_ (Below.refl _ _) rfl
              clear hc hl
              go_simp
      -- END 14
          intro w4 hb4
          rintro _ rfl _ rfl _ rfl _ rfl _ rfl _ rfl _ rfl _ rfl _ rfl _ rfl _ rfl _ rfl _ rfl _ rfl _ rfl _ rfl
          simp only [Thus, List.reverse_cons, List.reverse_nil, List.nil_append, List.cons_append, List.drop, List.take, lay]
          go_frame
          go_wp2_with fail
          have hfin : Below wr.heap.size wr w4 := HBQ.out.trans (hb4.mono HBQ.out.size)
          have hrest : (cat (cs.drop j)).drop N = cat (cs.drop (j + 1)) := by rw [HCT.out, ← HNL.out, List.drop_left]
          have hlr : (cat (cs.drop (j + 1))).length = m2 - N := by rw [← hrest, List.length_drop, hlen.out]
          refine ⟨⟨j + 1, _, m2 - N, c2 - N, by omega, by go_num, rfl, Lib.hid ?_, Lib.hid hlr, by omega, by omega, Lib.hid (Nat.le_trans (Nat.sub_le _ _) hcm2.out), below_then B.out (Nat.le_refl _) hfin⟩, by simp [intOf]; omega⟩
          by_cases hcN : c2 = N
          · exact .inl (List.eq_nil_of_length_eq_zero (by omega))
          · rw [if_neg hcN]
            have h := ((hrd.out.below hfin).more hfin.size).cut N (m2 - N)
            rw [hrest, List.take_of_length_le (by omega)] at h
            exact h
        · obtain rfl : j = k := by omega
          have hnil : cat (cs.drop j) = [] := by rw [List.drop_of_length_le (by rw [HX.out]; omega), cat_nil]
          have hm0 : m2 = 0 := by rw [← hlen.out, hnil]; rfl
          subst hm0
          have B := Lib.hid hb
          have HRN := Lib.hid (read_no A2 0 c2 [] wr (by omega) (by omega) hcm2.out rfl (Rd.nil _ _ _) (fun h => by have := h.four; simp at this))
          clear hnil hb hrd hlen
          go_wp2_with fail
          refine HRN.out.mono ?_
          rintro e w3 ⟨rfl, hb3⟩
          have B3 := Lib.hid ((below_then B.out (Nat.le_refl _) hb3).alloc (Nat.le_trans B.out.size hb3.size) (.cells #[.int .u8 0, .int .u8 0, .slice none 0 0] 24))
          clear hb3 HRN
          rw [noChunk]
          go_wp2_with fail
          refine (works_any _).mono ?_
          rintro e w5 ⟨rfl, hb5⟩
          go_wp2_with fail
          go_ret
          exact ⟨rfl, below_then B3.out (Nat.le_refl _) hb5⟩

theorem chunkRow_walk (A : Option Addr) (n c : Nat) (cs : List Chk) (w : World) (hc : n ≤ c) (hcm : c ≤ maxLen) (hx : cs.length = n) (hr : Chunks w w.heap.size A cs) :
    Calls Try.prog 6 #[.slice A n c] w fun e w' => e = .returned (.bool true) ∧ Below w.heap.size w w' := by
  by_cases h : 60 < n
  · exact chunkRow_big A n c w h
  · exact chunkRow_small A n c cs w (by omega) hx hr
end Go.Proofs.Ytnlhkofkjcofdaa
