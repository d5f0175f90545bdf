/-
  Package packet: Alone, which chunks may share a packet, sizes: the code's and the reference's; the statements' bound.
  '[]byte("..")' of a constant, in any world: the row is marked; its cells, and all others, read as before. Rows that a region lays in an order of its own.
-/
import Derived.Test.YtifmhlbeodfpeaaQ6
import Derived.Test.YtifmhlbeodfpeaaQ7
import Derived.Test.YtifmhlbeodfpeaaQ1
import Derived.Test.YtifmhlbeodfpeaaQ3
namespace Go.Proofs.Ytifmhlbeodfpeaa
open Go.RowKit
set_option linter.unusedVariables false

theorem Chunks.at_ {w : World} {B : Nat} {A : Option Addr} {cs : List Chk} {k : Nat} {x : Chk} (h : Chunks w B A cs) (hk : cs[k]? = some x) :
    ∃ b o, A = some ⟨b, o, none⟩ ∧ b < B ∧ w.cell? ⟨b, o + k * 3, none⟩ = some (.int .u8 (x.1.toNat : Int)) ∧ w.cell? ⟨b, o + k * 3 + 1, none⟩ = some (.int .u8 (x.2.1.toNat : Int)) ∧
      ∃ A' n c, w.cell? ⟨b, o + k * 3 + 2, none⟩ = some (.slice A' n c) ∧ n ≤ c ∧ c ≤ maxLen ∧ x.2.2.length = n ∧ Rd w B A' x.2.2 := by
  rcases h with h | ⟨b, o, ha, hlt, hc⟩
  · rw [h] at hk; simp at hk
  · exact ⟨b, o, ha, hlt, hc k x hk⟩
theorem Chunks.more {w : World} {B B' : Nat} {A : Option Addr} {cs : List Chk} (h : Chunks w B A cs) (hB : B ≤ B') : Chunks w B' A cs := by
  rcases h with h | ⟨b, o, ha, hlt, hc⟩
  · exact .inl h
  · refine .inr ⟨b, o, ha, by omega, fun i x hx => ?_⟩
    obtain ⟨h1, h2, A', n, c, h3, h4, h5, h6, h7⟩ := hc i x hx
    exact ⟨h1, h2, A', n, c, h3, h4, h5, h6, h7.more hB⟩

set_option maxHeartbeats 1000000 in
theorem alone_any (k : UInt8) (w : World) : Calls Try.prog 27 #[.int .u8 (k.toNat : Int)] w fun e w' => e = .returned (.bool (aloneK k)) ∧ w = w' := by
  by_cases h1 : k = 1
  · subst h1
    go_enter Try.func27, Try.ntmps27
    go_wp2_with fail
    go_ret
    exact ⟨rfl, rfl⟩
  · have b1 : ((k.toNat : Int) == 1) = false := byte_ne h1
    by_cases h2 : k = 2
    · subst h2
      go_enter Try.func27, Try.ntmps27
      go_wp2_with fail
      go_ret
      exact ⟨rfl, rfl⟩
    · have b2 : ((k.toNat : Int) == 2) = false := byte_ne h2
      by_cases h3 : k = 14
      · subst h3
        go_enter Try.func27, Try.ntmps27
        go_wp2_with fail
        go_ret
        exact ⟨rfl, rfl⟩
      · have b3 : ((k.toNat : Int) == 14) = false := byte_ne h3
        have hq : aloneK k = false := by simp [aloneK, h1, h2, h3]
        rw [hq]
        clear hq h1 h2 h3
        go_enter Try.func27, Try.ntmps27
        go_wp2_with fail
        go_ret
        exact ⟨rfl, rfl⟩
set_option maxHeartbeats 1000000 in
theorem refAlone_any (k : UInt8) (w : World) : Calls Try.prog 28 #[.int .u8 (k.toNat : Int)] w fun e w' => e = .returned (.bool (aloneK k)) ∧ w = w' := by
  by_cases h1 : k = 1
  · subst h1
    go_enter Try.func28, Try.ntmps28
    go_wp2_with fail
    go_ret
    exact ⟨rfl, rfl⟩
  · have b1 : ((k.toNat : Int) == 1) = false := byte_ne h1
    by_cases h2 : k = 2
    · subst h2
      go_enter Try.func28, Try.ntmps28
      go_wp2_with fail
      go_ret
      exact ⟨rfl, rfl⟩
    · have b2 : ((k.toNat : Int) == 2) = false := byte_ne h2
      by_cases h3 : k = 14
      · subst h3
        go_enter Try.func28, Try.ntmps28
        go_wp2_with fail
        go_ret
        exact ⟨rfl, rfl⟩
      · have b3 : ((k.toNat : Int) == 14) = false := byte_ne h3
        have hq : aloneK k = false := by simp [aloneK, h1, h2, h3]
        rw [hq]
        clear hq h1 h2 h3
        go_enter Try.func28, Try.ntmps28
        go_wp2_with fail
        go_ret
        exact ⟨rfl, rfl⟩

/-- May such a chunk be one of L? -/
def okC (L : Nat) (x : Chk) : Bool := smallC x && !(aloneK x.1 && decide (1 < L))
theorem may_bad {cs : List Chk} {k : Nat} {x : Chk} (hx : cs[k]? = some x) (h : okC cs.length x = false) : mayP cs = false := by
  have hm := List.mem_of_getElem? hx
  unfold mayP
  rw [Bool.and_eq_false_iff]
  right
  rw [List.all_eq_false]
  exact ⟨x, hm, by simpa [okC] using h⟩
theorem may_all {cs : List Chk} (h : ∀ (j : Nat) (x : Chk), j < cs.length → cs[j]? = some x → okC cs.length x = true) : mayP cs = decide (0 < cs.length) := by
  have : (cs.all fun x => smallC x && !(aloneK x.1 && decide (1 < cs.length))) = true := by
    rw [List.all_eq_true]
    intro x hx
    obtain ⟨j, hj, he⟩ := List.mem_iff_getElem.1 hx
    exact h j x hj (by rw [← he]; exact List.getElem?_eq_getElem hj)
  unfold mayP
  rw [this, Bool.and_true]
theorem small_no {x : Chk} {n : Nat} (h : x.2.2.length = n) (hn : 65531 < n) (L : Nat) : okC L x = false := by
  have : smallC x = false := by simp [smallC]; omega
  simp [okC, this]
theorem small_yes {x : Chk} {n : Nat} (h : x.2.2.length = n) (hn : ¬ 65531 < n) (L : Nat) : okC L x = !(aloneK x.1 && decide (1 < L)) := by
  have : smallC x = true := by simp [smallC]; omega
  simp [okC, this]
-- GEN
theorem size_le {cs : List Chk} {N : Nat} (h : sizeC cs ≤ N) : ∀ k, sizeC (cs.take k) ≤ N := by
  have key : ∀ (cs : List Chk) (k : Nat), sizeC (cs.take k) ≤ sizeC cs := by
    intro cs
    induction cs with
    | nil => intro k; simp
    | cons x cs ih =>
      intro k
      cases k with
      | zero => exact Nat.zero_le _
      | succ k => rw [List.take_succ_cons, sizeC, sizeC]; have := ih k; omega
  exact fun k => Nat.le_trans (key cs k) h
theorem size_snoc (cs : List Chk) (k : Nat) (x : Chk) (h : cs[k]? = some x) : sizeC (cs.take (k + 1)) = sizeC (cs.take k) + (4 + up4 x.2.2.length) := by
  induction cs generalizing k with
  | nil => cases h
  | cons y cs ih =>
    cases k with
    | zero =>
      obtain rfl := Option.some.inj h
      simp [sizeC]
    | succ k =>
      rw [List.take_succ_cons, List.take_succ_cons, sizeC, sizeC, ih k (by simpa using h)]
      omega

set_option maxRecDepth 100000 in
set_option maxHeartbeats 2000000 in
theorem canShare_any (A : Option Addr) (n c : Nat) (cs : List Chk) (w : World) (hn : n ≤ 1099511627776) (hx : cs.length = n) (hr : Chunks w w.heap.size A cs) :
    Calls Try.prog 31 #[.slice A n c] w fun e w' => e = .returned (.bool (mayP cs)) ∧ Below w.heap.size w w' := by
  have HX := Lib.hid hx
  have HR := Lib.hid hr
  clear hx hr
  go_enter Try.func31, Try.ntmps31
  go_wp2_with fail
  go_loopw [7] (fun i wr => ∃ k : Nat, k ≤ n ∧ i = .int .i64 k ∧ Hid (∀ (j : Nat) (x : Chk), j < k → cs[j]? = some x → okC cs.length x = true) ∧ Below w.heap.size w wr) (fun i _ => n - (intOf i).toNat)
  case atStart => exact ⟨0, Nat.zero_le _, rfl, Lib.hid (fun j x hj => absurd hj (by omega)), Below.refl _ _⟩
  case round =>
    obtain ⟨k, hkn, rfl, HA, hbel⟩ := hrel
    by_cases hlt : k < n
    · obtain ⟨x, hxk⟩ : ∃ x, cs[k]? = some x := ⟨_, List.getElem?_eq_getElem (by rw [HX.out]; exact hlt)⟩
      obtain ⟨b, o, rfl, hbl, g0, g1, Ax, nx, cx, g2, g3, g4, g5, g6⟩ := (HR.out.below hbel).at_ hxk
      have HB := Lib.hid hbel
      have HXK := Lib.hid hxk
      have HLX := Lib.hid g5
      unfold maxLen at g4
      have HNX := Lib.hid (Nat.le_trans g3 g4)
      have hnx := HNX.out
      have HB2 := Lib.hid (HB.out.alloc HB.out.size (.cells #[.int .u8 (x.1.toNat : Int), .int .u8 (x.2.1.toNat : Int), .slice Ax nx cx] 41))
      clear hbel hxk g5 g6 g3 g4 hbl
      by_cases h1 : 65531 < nx
      · have HF : Hid (mayP cs = false) := Lib.hid (may_bad HXK.out (small_no HLX.out h1 _))
        go_wp2_with fail
        go_ret
        exact ⟨ret_bool HF.out.symm, HB2.out⟩
      · have HO : Hid (okC cs.length x = !(aloneK x.1 && decide (1 < n))) := Lib.hid (by rw [small_yes HLX.out h1, HX.out])
        have HAL : Hid (∀ W, Calls Try.prog 27 #[.int .u8 (x.1.toNat : Int)] W fun e w' => e = .returned (.bool (aloneK x.1)) ∧ W = w') := Lib.hid fun W => alone_any x.1 W
        obtain ⟨q, hq⟩ : ∃ q, q = aloneK x.1 := ⟨_, rfl⟩
        rw [← hq] at HO HAL
        clear hq
        cases q with
        | false =>
          go_wp2_with fail
          refine (HAL.out _).mono ?_
          rintro e w1 ⟨rfl, rfl⟩
          go_wp2_with fail
          go_roundw
          case rel => exact ⟨k + 1, by omega, by go_num, Lib.hid (fun j y hj hy => by
            by_cases hjk : j < k
            · exact HA.out j y hjk hy
            · obtain rfl : j = k := by omega
              have := HXK.out
              rw [hy] at this
              injection this with this
              rw [this, HO.out]
              rfl), HB2.out⟩
          case measure => simp [intOf]; omega
        | true =>
          by_cases h2 : 1 < n
          · have HF : Hid (mayP cs = false) := Lib.hid (may_bad HXK.out (by rw [HO.out, decide_eq_true h2]; rfl))
            go_wp2_with fail
            refine (HAL.out _).mono ?_
            rintro e w1 ⟨rfl, rfl⟩
            go_wp2_with fail
            go_ret
            exact ⟨ret_bool HF.out.symm, HB2.out⟩
          · go_wp2_with fail
            refine (HAL.out _).mono ?_
            rintro e w1 ⟨rfl, rfl⟩
            go_wp2_with fail
            go_roundw
            case rel => exact ⟨k + 1, by omega, by go_num, Lib.hid (fun j y hj hy => by
              by_cases hjk : j < k
              · exact HA.out j y hjk hy
              · obtain rfl : j = k := by omega
                have := HXK.out
                rw [hy] at this
                injection this with this
                rw [this, HO.out, decide_eq_false h2]
                rfl), HB2.out⟩
            case measure => simp [intOf]; omega
    · obtain rfl : k = n := by omega
      have HT : Hid (mayP cs = decide (0 < (k : Int))) := Lib.hid (by rw [may_all (fun j x hj hy => HA.out j x (by rw [HX.out] at hj; exact hj) hy), HX.out]; simp)
      go_wp2_with fail
      go_ret
      exact ⟨by rw [HT.out]; first | rfl | simp, hbel⟩

set_option maxRecDepth 100000 in
set_option maxHeartbeats 2000000 in
theorem refMay_any (A : Option Addr) (n c : Nat) (cs : List Chk) (w : World) (hn : n ≤ 1099511627776) (hx : cs.length = n) (hr : Chunks w w.heap.size A cs) :
    Calls Try.prog 37 #[.slice A n c] w fun e w' => e = .returned (.bool (mayP cs)) ∧ Below w.heap.size w w' := by
  have HX := Lib.hid hx
  have HR := Lib.hid hr
  clear hx hr
  go_enter Try.func37, Try.ntmps37
  go_wp2_with fail
  go_loopw [3] (fun i wr => ∃ k : Nat, k ≤ n ∧ i = .int .i64 k ∧ Hid (∀ (j : Nat) (x : Chk), j < k → cs[j]? = some x → okC cs.length x = true) ∧ Below w.heap.size w wr) (fun i _ => n - (intOf i).toNat)
  case atStart => exact ⟨0, Nat.zero_le _, rfl, Lib.hid (fun j x hj => absurd hj (by omega)), Below.refl _ _⟩
  case round =>
    obtain ⟨k, hkn, rfl, HA, hbel⟩ := hrel
    by_cases hlt : k < n
    · obtain ⟨x, hxk⟩ : ∃ x, cs[k]? = some x := ⟨_, List.getElem?_eq_getElem (by rw [HX.out]; exact hlt)⟩
      obtain ⟨b, o, rfl, hbl, g0, g1, Ax, nx, cx, g2, g3, g4, g5, g6⟩ := (HR.out.below hbel).at_ hxk
      have HB := Lib.hid hbel
      have HXK := Lib.hid hxk
      have HLX := Lib.hid g5
      unfold maxLen at g4
      have HNX := Lib.hid (Nat.le_trans g3 g4)
      have hnx := HNX.out
      clear hbel hxk g5 g6 g3 g4 hbl
      by_cases h1 : 65531 < nx
      · have HF : Hid (mayP cs = false) := Lib.hid (may_bad HXK.out (small_no HLX.out h1 _))
        go_wp2_with fail
        go_ret
        exact ⟨ret_bool HF.out.symm, HB.out⟩
      · have HO : Hid (okC cs.length x = !(aloneK x.1 && decide (1 < n))) := Lib.hid (by rw [small_yes HLX.out h1, HX.out])
        have HAL : Hid (∀ W, Calls Try.prog 28 #[.int .u8 (x.1.toNat : Int)] W fun e w' => e = .returned (.bool (aloneK x.1)) ∧ W = w') := Lib.hid fun W => refAlone_any x.1 W
        obtain ⟨q, hq⟩ : ∃ q, q = aloneK x.1 := ⟨_, rfl⟩
        rw [← hq] at HO HAL
        clear hq
        cases q with
        | false =>
          go_wp2_with fail
          refine (HAL.out _).mono ?_
          rintro e w1 ⟨rfl, rfl⟩
          go_wp2_with fail
          go_roundw
          case rel => exact ⟨k + 1, by omega, by go_num, Lib.hid (fun j y hj hy => by
            by_cases hjk : j < k
            · exact HA.out j y hjk hy
            · obtain rfl : j = k := by omega
              have := HXK.out
              rw [hy] at this
              injection this with this
              rw [this, HO.out]
              rfl), HB.out⟩
          case measure => simp [intOf]; omega
        | true =>
          by_cases h2 : 1 < n
          · have HF : Hid (mayP cs = false) := Lib.hid (may_bad HXK.out (by rw [HO.out, decide_eq_true h2]; rfl))
            go_wp2_with fail
            refine (HAL.out _).mono ?_
            rintro e w1 ⟨rfl, rfl⟩
            go_wp2_with fail
            go_ret
            exact ⟨ret_bool HF.out.symm, HB.out⟩
          · go_wp2_with fail
            refine (HAL.out _).mono ?_
            rintro e w1 ⟨rfl, rfl⟩
            go_wp2_with fail
            go_roundw
            case rel => exact ⟨k + 1, by omega, by go_num, Lib.hid (fun j y hj hy => by
              by_cases hjk : j < k
              · exact HA.out j y hjk hy
              · obtain rfl : j = k := by omega
                have := HXK.out
                rw [hy] at this
                injection this with this
                rw [this, HO.out, decide_eq_false h2]
                rfl), HB.out⟩
            case measure => simp [intOf]; omega
    · obtain rfl : k = n := by omega
      have HT : Hid (mayP cs = decide (0 < (k : Int))) := Lib.hid (by rw [may_all (fun j x hj hy => HA.out j x (by rw [HX.out] at hj; exact hj) hy), HX.out]; simp)
      go_wp2_with fail
      go_ret
      exact ⟨by rw [HT.out]; first | rfl | simp, hbel⟩

set_option maxRecDepth 100000 in
set_option maxHeartbeats 2000000 in
theorem size_any (tag : Int) (A : Option Addr) (n c : Nat) (cs : List Chk) (w : World) (hn : n ≤ 1099511627776) (hx : cs.length = n) (hr : Chunks w w.heap.size A cs) (hs : sizeC cs ≤ 1099511627776) :
    Calls Try.prog 15 #[.agg #[.int .u32 tag, .slice A n c]] w fun e w' => e = .returned (.int .i64 (sizeP cs : Nat)) ∧ Below w.heap.size w w' := by
  have HX := Lib.hid hx
  have HR := Lib.hid hr
  have HS := Lib.hid (size_le hs)
  have K := Lib.hid (Blk.new w 25 #[.int .u32 tag, .slice A n c])
  have B0 := Lib.hid (below_new w (.cells #[.int .u32 tag, .slice A n c] 25))
  clear hx hr hs
  go_enter Try.func15, Try.ntmps15
  go_wp2_with fail
  generalize w.alloc (.cells #[.int .u32 tag, .slice A n c] 25) = w0 at K B0 ⊢
  have HZ := Lib.hid K.out.lt
  go_loopw [3, 9] (fun l i wr => ∃ k s : Nat, k ≤ n ∧ i = .int .i64 k ∧ l = .int .i64 s ∧ s ≤ 1099511627788 ∧ Hid (s = 12 + sizeC (cs.take k)) ∧ Hid (Below w.heap.size w wr) ∧ Hid (Blk wr w.heap.size 25 #[.int .u32 tag, .slice A n c])) (fun l i _ => n - (intOf i).toNat)
  case atStart => exact ⟨0, 12, Nat.zero_le _, rfl, rfl, by omega, Lib.hid rfl, B0, K⟩
  case round =>
    obtain ⟨k, s, hkn, rfl, rfl, hs, HE, HB, KR⟩ := hrel
    have f1 : wr.cell? ⟨w.heap.size, 1, none⟩ = some (.slice A n c) := KR.out.cell 1
    by_cases hlt : k < n
    · obtain ⟨x, hxk⟩ : ∃ x, cs[k]? = some x := ⟨_, List.getElem?_eq_getElem (by rw [HX.out]; exact hlt)⟩
      obtain ⟨b, o, rfl, hbl, g0, g1, Ax, nx, cx, g2, g3, g4, g5, g6⟩ := (HR.out.below HB.out).at_ hxk
      have HT : Hid (sizeC (cs.take (k + 1)) = sizeC (cs.take k) + (4 + (nx + 3) / 4 * 4)) := Lib.hid (by rw [size_snoc cs k x hxk, g5]; rfl)
      have HTL := HS.out (k + 1)
      rw [HT.out] at HTL
      have hse := HE.out
      have hnu : (nx + 3) / 4 * 4 ≤ 1099511627776 := by omega
      have hnl : nx ≤ 1099511627776 := by omega
      have hs2 : s + (4 + (nx + 3) / 4 * 4) ≤ 1099511627788 := by omega
      have HRD : Hid (∀ W, Calls Try.prog 36 #[.int .i64 (nx : Int)] W fun e w' => e = .returned (.int .i64 (((nx : Int) + 3) / 4 * 4)) ∧ W = w') := Lib.hid fun W => round_yes (nx : Int) (by omega) (by omega) W
      have HB2 := Lib.hid (HB.out.alloc HB.out.size (.cells #[.int .u8 (x.1.toNat : Int), .int .u8 (x.2.1.toNat : Int), .slice Ax nx cx] 41))
      have KR2 := Lib.hid (KR.out.alloc (.cells #[.int .u8 (x.1.toNat : Int), .int .u8 (x.2.1.toNat : Int), .slice Ax nx cx] 41))
      have HSE := Lib.hid hse
      clear hse HTL hxk g5 g6 g3 g4 hbl
      go_wp2_with fail
      refine (HRD.out _).mono ?_
      rintro e w1 ⟨rfl, rfl⟩
      go_wp2_with fail
      go_roundw
      case rel => exact ⟨k + 1, s + (4 + (nx + 3) / 4 * 4), by omega, by go_num, by go_num, hs2, Lib.hid (by rw [HT.out, HSE.out]; omega), HB2, KR2⟩
      case measure => simp [intOf]; omega
    · obtain rfl : k = n := by omega
      have HT : Hid (s = sizeP cs) := Lib.hid (by rw [HE.out, List.take_of_length_le (by rw [HX.out]; exact Nat.le_refl _), sizeP])
      go_wp2_with fail
      go_ret
      exact ⟨ret_int (by rw [HT.out]), HB.out⟩

set_option maxRecDepth 100000 in
set_option maxHeartbeats 2000000 in
theorem refSizeP_any (tag : Int) (A : Option Addr) (n c : Nat) (cs : List Chk) (w : World) (hn : n ≤ 1099511627776) (hx : cs.length = n) (hr : Chunks w w.heap.size A cs) (hs : sizeC cs ≤ 1099511627776) :
    Calls Try.prog 18 #[.agg #[.int .u32 tag, .slice A n c]] w fun e w' => e = .returned (.int .i64 (sizeP cs : Nat)) ∧ Below w.heap.size w w' := by
  have HX := Lib.hid hx
  have HR := Lib.hid hr
  have HS := Lib.hid (size_le hs)
  have K := Lib.hid (Blk.new w 25 #[.int .u32 tag, .slice A n c])
  have B0 := Lib.hid (below_new w (.cells #[.int .u32 tag, .slice A n c] 25))
  clear hx hr hs
  go_enter Try.func18, Try.ntmps18
  go_wp2_with fail
  generalize w.alloc (.cells #[.int .u32 tag, .slice A n c] 25) = w0 at K B0 ⊢
  have HZ := Lib.hid K.out.lt
  go_loopw [3, 4] (fun l i wr => ∃ k s : Nat, k ≤ n ∧ i = .int .i64 k ∧ l = .int .i64 s ∧ s ≤ 1099511627788 ∧ Hid (s = 12 + sizeC (cs.take k)) ∧ Hid (Below w.heap.size w wr) ∧ Hid (Blk wr w.heap.size 25 #[.int .u32 tag, .slice A n c])) (fun l i _ => n - (intOf i).toNat)
  case atStart => exact ⟨0, 12, Nat.zero_le _, rfl, rfl, by omega, Lib.hid rfl, B0, K⟩
  case round =>
    obtain ⟨k, s, hkn, rfl, rfl, hs, HE, HB, KR⟩ := hrel
    have f1 : wr.cell? ⟨w.heap.size, 1, none⟩ = some (.slice A n c) := KR.out.cell 1
    by_cases hlt : k < n
    · obtain ⟨x, hxk⟩ : ∃ x, cs[k]? = some x := ⟨_, List.getElem?_eq_getElem (by rw [HX.out]; exact hlt)⟩
      obtain ⟨b, o, rfl, hbl, g0, g1, Ax, nx, cx, g2, g3, g4, g5, g6⟩ := (HR.out.below HB.out).at_ hxk
      have HT : Hid (sizeC (cs.take (k + 1)) = sizeC (cs.take k) + (4 + (nx + 3) / 4 * 4)) := Lib.hid (by rw [size_snoc cs k x hxk, g5]; rfl)
      have HTL := HS.out (k + 1)
      rw [HT.out] at HTL
      have hse := HE.out
      have hnu : (nx + 3) / 4 * 4 ≤ 1099511627776 := by omega
      have hnl : nx ≤ 1099511627776 := by omega
      have hs2 : s + (4 + (nx + 3) / 4 * 4) ≤ 1099511627788 := by omega
      have HRD : Hid (∀ W, Calls Try.prog 40 #[.int .i64 (nx : Int)] W fun e w' => e = .returned (.int .i64 (((nx : Int) + 3) / 4 * 4)) ∧ W = w') := Lib.hid fun W => refRound_yes (nx : Int) (by omega) (by omega) W
      have HSE := Lib.hid hse
      clear hse HTL hxk g5 g6 g3 g4 hbl
      go_wp2_with fail
      refine (HRD.out _).mono ?_
      rintro e w1 ⟨rfl, rfl⟩
      go_wp2_with fail
      go_roundw
      case rel => exact ⟨k + 1, s + (4 + (nx + 3) / 4 * 4), by omega, by go_num, by go_num, hs2, Lib.hid (by rw [HT.out, HSE.out]; omega), HB, KR⟩
      case measure => simp [intOf]; omega
    · obtain rfl : k = n := by omega
      have HT : Hid (s = sizeP cs) := Lib.hid (by rw [HE.out, List.take_of_length_le (by rw [HX.out]; exact Nat.le_refl _), sizeP])
      go_wp2_with fail
      go_ret
      exact ⟨ret_int (by rw [HT.out]), HB.out⟩

end Go.Proofs.Ytifmhlbeodfpeaa

namespace Go.Proofs.Ytifmhlbeodfpeaa
open Go.RowKit
set_option linter.unusedVariables false

/-- The world with block g's mark laid. A definition of its own, so that the walk leaves it. -/
def marked (w : World) (g : Nat) : World := match w.shape? g with
  | some (_, k) => w.freeze ⟨g, k, none⟩ 1
  | none => w

theorem run_mark {P : Program} {t e : TypeId} (ht : P.underlying t = some (.slice e)) (he : P.underlying e = some (.int .u8)) (w : World) (g n c : Nat) :
    (convert t t (.slice (some ⟨g, 0, none⟩) n c)).run P w = .ok (.slice (some ⟨g, 0, none⟩) n c) (marked w g) := by
  unfold marked
  cases h : w.shape? g with
  | none => simp [convert, run_underlying ht, run_underlying he, markStringish, h]
  | some x => simp [convert, run_underlying ht, run_underlying he, markStringish, h]

theorem heap_freeze (w : World) (g k i : Nat) : (w.freeze ⟨g, k, none⟩ 1).heap.size = w.heap.size ∧ (i ≠ g → (w.freeze ⟨g, k, none⟩ 1).heap[i]? = w.heap[i]?) ∧ ∀ j, (w.freeze ⟨g, k, none⟩ 1).cell? ⟨i, j, none⟩ = w.cell? ⟨i, j, none⟩ := by
  unfold World.freeze
  rw [if_neg (by decide)]
  refine ⟨by simp, fun h => by simp [Array.getElem?_modify, Ne.symm h], fun j => ?_⟩
  simp only [World.cell?, Array.getElem?_modify]
  by_cases h : g = i
  · subst h
    simp
    cases w.heap[g]? with
    | none => rfl
    | some o => cases o <;> rfl
  · simp [h]
theorem size_marked (w : World) (g : Nat) : (marked w g).heap.size = w.heap.size := by
  unfold marked
  split
  · exact (heap_freeze w g _ 0).1
  · rfl
theorem cell_marked (w : World) (g i j : Nat) : (marked w g).cell? ⟨i, j, none⟩ = w.cell? ⟨i, j, none⟩ := by
  unfold marked
  split
  · exact (heap_freeze w g _ i).2.2 j
  · rfl
theorem below_marked {B : Nat} {a w : World} (h : Below B a w) (g : Nat) (hg : B ≤ g) : Below B a (marked w g) := by
  unfold marked
  split
  · refine h.trans ⟨?_, ?_, ?_, Nat.le_of_eq (heap_freeze w g _ 0).1.symm, fun k hk => (heap_freeze w g _ k).2.1 (by omega)⟩
    all_goals (unfold World.freeze; rw [if_neg (by decide)])
  · exact h

/-- Block g begins with these bytes. -/
def Has (w : World) (g : Nat) (ys : List UInt8) : Prop := ∀ j x, ys[j]? = some x → w.cell? ⟨g, j, none⟩ = some (.int .u8 (x.toNat : Int))
section
variable {w : World} {g : Nat} {ys : List UInt8}
theorem Has.mk_ (w : World) (t : TypeId) (cs : Array Value) (ys : List UInt8) (fr : Nat × Nat) (g : Nat) (hg : g = w.heap.size) (hc : cs = row8 ys) : Has (w.alloc (.cells cs t fr)) g ys := by
  subst hg hc
  intro j x hx
  rw [World.cell?_alloc_mark, get_row8, hx]
  rfl
theorem Has.alloc (h : Has w g ys) (o : Obj) : Has (w.alloc o) g ys := by
  intro j x hx
  have := h j x hx
  rw [World.cell?_alloc_lt w o _ (World.block_lt_of_cell? w _ this)]
  exact this
theorem Has.drew (h : Has w g ys) : Has w.drew g ys := h
theorem Has.marked (h : Has w g ys) (i : Nat) : Has (marked w i) g ys := fun j x hx => (cell_marked w i g j).trans (h j x hx)
theorem Has.rd (h : Has w g ys) : Rd w (g + 1) (some ⟨g, 0, none⟩) ys := .inr ⟨g, 0, rfl, Nat.lt_succ_self _, fun j x hx => by rw [Nat.zero_add]; exact h j x hx⟩
end
end Go.Proofs.Ytifmhlbeodfpeaa
