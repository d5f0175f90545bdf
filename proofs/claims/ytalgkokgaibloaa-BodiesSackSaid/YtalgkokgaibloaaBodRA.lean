/-
  The reference: GetCum, GetTime.
-/
import Derived.Test.YtalgkokgaibloaaBodX
import Derived.Test.YtalgkokgaibloaaBodS
namespace Go.Proofs.Ytalgkokgaibloaa
open Go.RowKit
set_option linter.unusedVariables false

/-- The reference's Same, at what was put. -/
theorem sameR {k f : UInt8} {A : Option Addr} {n c : Nat} {xs : List UInt8} {w : World} {pk pf : UInt8} {ys : List UInt8} {ok : Bool} (hn : n ≤ 140737488355328) (hx : xs.length = n) (hr : Rd w w.heap.size A xs) (hok : decide (k = pk ∧ f = pf ∧ xs = ys) = ok) :
    ∀ (W : World) (A' : Option Addr) (c' : Nat), Below w.heap.size w W → Own8 W 5 w.heap.size A' ys.length c' ys → Calls Try.prog 18 #[.agg #[.int .u8 (pk.toNat : Int), .int .u8 (pf.toNat : Int), .slice A' ys.length c'], .agg #[.int .u8 (k.toNat : Int), .int .u8 (f.toNat : Int), .slice A n c]] W fun e w' => e = .returned (.bool ok) ∧ Below W.heap.size W w' := by
  intro W A' c' hW ho
  have h := same_any pk pf k f A' A ys.length n c' c ys xs W rfl hx (Nat.le_trans ho.cap.1 ho.cap.2) (by unfold maxLen; omega) ho.rd ((hr.below hW).more hW.size)
  have e : decide (pk = k ∧ pf = f ∧ ys = xs) = ok := by
    rw [← hok]
    simp only [eq_comm]
  rwa [e] at h
theorem bne_of {a b : Int} (h : (a == b) = false) : (a != b) = true := by simp [bne, h]
set_option maxRecDepth 100000 in
set_option maxHeartbeats 4000000 in
theorem refGetCum_no (k f : UInt8) (A : Option Addr) (n c : Nat) (xs : List UInt8) (w : World) (hn : n ≤ 140737488355200) (hc : n ≤ c) (hcm : c ≤ maxLen) (hx : xs.length = n) (hr : Rd w w.heap.size A xs) (hok : okC k f xs = false) :
    Calls Try.prog 42 #[.agg #[.int .u8 (k.toNat : Int), .int .u8 (f.toNat : Int), .slice A n c]] w fun e w' => e = .returned (.tuple #[.int .u32 (ansC k f xs), .int .i64 (errOf (okC k f xs))]) ∧ Below w.heap.size w w' := by
  have hra : ansC k f xs = 0 := by simp [ansC, hok]
  rw [hok, hra]
  have hqb : numO xs 0 4 < 4294967296 := numO_lt xs 0 4
  have HNB : Hid (∀ W, Below w.heap.size w W → Calls Try.prog 56 #[.slice A n c, .int .i64 0, .int .i64 4] W fun e w' => e = .returned (.int .u64 (numO xs 0 4)) ∧ Below W.heap.size W w') := Lib.hid fun W hW => number_any A n c 0 4 xs W (by unfold IsSize; omega) (by omega) (by omega) hc hcm hx ((hr.below hW).more hW.size)
  have HSM := Lib.hid (sameR (c := c) (by omega) hx hr (show decide (k = 7 ∧ f = 0 ∧ xs = enc (numO xs 0 4) 4) = _ from hok))
  have HPT := Lib.hid (fun W => refPutCum_any (numO xs 0 4) hqb W)
  obtain ⟨q, hq⟩ : ∃ q, q = numO xs 0 4 := ⟨_, rfl⟩
  rw [← hq] at HNB HSM HPT hqb
  clear hq hx hr hok hra
  have b0 : Blk (w.alloc (.cells #[.int .u8 (k.toNat : Int), .int .u8 (f.toNat : Int), .slice A n c] 28)) w.heap.size 28 #[.int .u8 (k.toNat : Int), .int .u8 (f.toNat : Int), .slice A n c] := Blk.new w 28 #[.int .u8 (k.toNat : Int), .int .u8 (f.toNat : Int), .slice A n c]
  have K0 := Lib.hid b0
  have B0 : Hid (Below w.heap.size w (w.alloc (.cells #[.int .u8 (k.toNat : Int), .int .u8 (f.toNat : Int), .slice A n c] 28))) := Lib.hid (Wr.below_ ((Wr.refl 5 w.heap.size w).alloc (.cells #[.int .u8 (k.toNat : Int), .int .u8 (f.toNat : Int), .slice A n c] 28)) (Nat.le_refl _))
  clear b0
  go_enter Try.func42, Try.ntmps42
  rw [drawn_eq 2]
  go_wp2_with fail
  generalize (w.alloc (.cells #[.int .u8 (k.toNat : Int), .int .u8 (f.toNat : Int), .slice A n c] 28)) = v0 at K0 B0 ⊢
  refine (HNB.out v0 B0.out).mono ?_
  rintro e w1 ⟨rfl, hb⟩
  have K1 := Lib.hid (K0.out.below hb K0.out.lt)
  have B1 := Lib.hid (below_then B0.out (Nat.le_refl _) hb)
  clear hb K0 B0
  go_wp2_with fail
  generalize w1 = v1 at K1 B1 ⊢
  rw [← drawn_eq 2]
  refine wp_region_grow_tail 4 (by kernel_rfl) [(Is (.int .u32 (q : Int))), (NewAgg 5 w.heap.size (enc q 4).length (enc q 4) (fun s => .agg #[.int .u8 ((7 : UInt8).toNat : Int), .int .u8 ((0 : UInt8).toNat : Int), s])), (Is (.agg #[.int .u8 (k.toNat : Int), .int .u8 (f.toNat : Int), .slice A n c])), (Is (.bool false))] rfl ?_ (by kernel_rfl) (by kernel_rfl) ?_ ?_
  · intro p hp
    simp only [List.mem_cons, List.not_mem_nil, or_false] at hp
    rcases hp with rfl | rfl | rfl | rfl
    · exact Lasts.is _
    · exact Lasts.newAgg _ _ _ _ _
    · exact Lasts.is _
    · exact Lasts.is _
  · refine ⟨?_, ?_, ?_, ?_, trivial⟩
    · intro listed a w1 hl hc
      have h4 : a.tmps[4]?.getD undef = .int .u32 (q : Int) := (hc.was 4 (by kernel_rfl)).trans rfl
      refine does_value rfl rfl (.int .u32 (q : Int)) w1 ?_ (Below.refl _ _) rfl
      clear hc hl
      go_simp
    · intro listed a w1 hl hc
      have h9 : a.tmps[9]?.getD undef = .int .u32 (q : Int) := hc.dep hl 0 9 rfl (by kernel_rfl)
      refine does_call rfl rfl 46 #[.int .u32 (q : Int)] ?_ ((HPT.out w1).mono fun e w' ⟨A9, c9, he, ho, hb⟩ => ⟨_, he, hb, A9, c9, rfl, ho.more (Nat.le_trans B1.out.size hc.g.size)⟩)
      clear hc hl
      go_simp
    · intro listed a w1 hl hc
      have h1 : a.tmps[1]?.getD undef = .pointer (some ⟨w.heap.size, 0, none⟩) := (hc.was 1 (by kernel_rfl)).trans rfl
      have kb := K1.out.below hc.g K1.out.lt
      have x0 : w1.cell? ⟨w.heap.size, 0, none⟩ = some (.int .u8 (k.toNat : Int)) := kb.cell 0
      have x1 : w1.cell? ⟨w.heap.size, 1, none⟩ = some (.int .u8 (f.toNat : Int)) := kb.cell 1
      have x2 : w1.cell? ⟨w.heap.size, 2, none⟩ = some (.slice A n c) := kb.cell 2
      clear kb
      refine does_value rfl rfl (.agg #[.int .u8 (k.toNat : Int), .int .u8 (f.toNat : Int), .slice A n c]) w1 ?_ (Below.refl _ _) rfl
      clear hc hl
      go_simp
    · intro listed a w1 hl hc
      obtain ⟨A10, c10, h10, ho10⟩ := hc.dep hl 1 10 rfl (by kernel_rfl)
      have h11 : a.tmps[11]?.getD undef = .agg #[.int .u8 (k.toNat : Int), .int .u8 (f.toNat : Int), .slice A n c] := hc.dep hl 2 11 rfl (by kernel_rfl)
      refine does_call rfl rfl 18 #[.agg #[.int .u8 ((7 : UInt8).toNat : Int), .int .u8 ((0 : UInt8).toNat : Int), .slice A10 (enc q 4).length c10], .agg #[.int .u8 (k.toNat : Int), .int .u8 (f.toNat : Int), .slice A n c]] ?_ ((HSM.out w1 _ _ (B1.out.trans (hc.g.mono B1.out.size)) ho10).mono fun e w' ⟨he, hb⟩ => ⟨_, he, hb, rfl⟩)
      clear hc hl
      go_simp
  intro w2 hb2
  rintro _ rfl _ ⟨A10, c10, rfl, ho10⟩ _ rfl _ rfl
  simp only [Thus, List.reverse_cons, List.reverse_nil, List.nil_append, List.cons_append, List.drop, List.take, lay]
  go_frame
  have B2 := Lib.hid (below_then B1.out (Nat.le_refl _) hb2)
  clear hb2
  go_wp2_with fail
  go_ret2
  exact ⟨rfl, B2.out⟩
set_option maxRecDepth 100000 in
set_option maxHeartbeats 4000000 in
theorem refGetCum_yes (k f : UInt8) (A : Option Addr) (n c : Nat) (xs : List UInt8) (w : World) (hn : n ≤ 140737488355200) (hc : n ≤ c) (hcm : c ≤ maxLen) (hx : xs.length = n) (hr : Rd w w.heap.size A xs) (hok : okC k f xs = true) :
    Calls Try.prog 42 #[.agg #[.int .u8 (k.toNat : Int), .int .u8 (f.toNat : Int), .slice A n c]] w fun e w' => e = .returned (.tuple #[.int .u32 (ansC k f xs), .int .i64 (errOf (okC k f xs))]) ∧ Below w.heap.size w w' := by
  have hra : ansC k f xs = numO xs 0 4 := by simp [ansC, hok]
  rw [hok, hra]
  have hqb : numO xs 0 4 < 4294967296 := numO_lt xs 0 4
  have HNB : Hid (∀ W, Below w.heap.size w W → Calls Try.prog 56 #[.slice A n c, .int .i64 0, .int .i64 4] W fun e w' => e = .returned (.int .u64 (numO xs 0 4)) ∧ Below W.heap.size W w') := Lib.hid fun W hW => number_any A n c 0 4 xs W (by unfold IsSize; omega) (by omega) (by omega) hc hcm hx ((hr.below hW).more hW.size)
  have HSM := Lib.hid (sameR (c := c) (by omega) hx hr (show decide (k = 7 ∧ f = 0 ∧ xs = enc (numO xs 0 4) 4) = _ from hok))
  have HPT := Lib.hid (fun W => refPutCum_any (numO xs 0 4) hqb W)
  obtain ⟨q, hq⟩ : ∃ q, q = numO xs 0 4 := ⟨_, rfl⟩
  rw [← hq] at HNB HSM HPT hqb ⊢
  clear hq hx hr hok hra
  have b0 : Blk (w.alloc (.cells #[.int .u8 (k.toNat : Int), .int .u8 (f.toNat : Int), .slice A n c] 28)) w.heap.size 28 #[.int .u8 (k.toNat : Int), .int .u8 (f.toNat : Int), .slice A n c] := Blk.new w 28 #[.int .u8 (k.toNat : Int), .int .u8 (f.toNat : Int), .slice A n c]
  have K0 := Lib.hid b0
  have B0 : Hid (Below w.heap.size w (w.alloc (.cells #[.int .u8 (k.toNat : Int), .int .u8 (f.toNat : Int), .slice A n c] 28))) := Lib.hid (Wr.below_ ((Wr.refl 5 w.heap.size w).alloc (.cells #[.int .u8 (k.toNat : Int), .int .u8 (f.toNat : Int), .slice A n c] 28)) (Nat.le_refl _))
  clear b0
  go_enter Try.func42, Try.ntmps42
  rw [drawn_eq 2]
  go_wp2_with fail
  generalize (w.alloc (.cells #[.int .u8 (k.toNat : Int), .int .u8 (f.toNat : Int), .slice A n c] 28)) = v0 at K0 B0 ⊢
  refine (HNB.out v0 B0.out).mono ?_
  rintro e w1 ⟨rfl, hb⟩
  have K1 := Lib.hid (K0.out.below hb K0.out.lt)
  have B1 := Lib.hid (below_then B0.out (Nat.le_refl _) hb)
  clear hb K0 B0
  go_wp2_with fail
  generalize w1 = v1 at K1 B1 ⊢
  rw [← drawn_eq 2]
  refine wp_region_grow_tail 4 (by kernel_rfl) [(Is (.int .u32 (q : Int))), (NewAgg 5 w.heap.size (enc q 4).length (enc q 4) (fun s => .agg #[.int .u8 ((7 : UInt8).toNat : Int), .int .u8 ((0 : UInt8).toNat : Int), s])), (Is (.agg #[.int .u8 (k.toNat : Int), .int .u8 (f.toNat : Int), .slice A n c])), (Is (.bool true))] rfl ?_ (by kernel_rfl) (by kernel_rfl) ?_ ?_
  · intro p hp
    simp only [List.mem_cons, List.not_mem_nil, or_false] at hp
    rcases hp with rfl | rfl | rfl | rfl
    · exact Lasts.is _
    · exact Lasts.newAgg _ _ _ _ _
    · exact Lasts.is _
    · exact Lasts.is _
  · refine ⟨?_, ?_, ?_, ?_, trivial⟩
    · intro listed a w1 hl hc
      have h4 : a.tmps[4]?.getD undef = .int .u32 (q : Int) := (hc.was 4 (by kernel_rfl)).trans rfl
      refine does_value rfl rfl (.int .u32 (q : Int)) w1 ?_ (Below.refl _ _) rfl
      clear hc hl
      go_simp
    · intro listed a w1 hl hc
      have h9 : a.tmps[9]?.getD undef = .int .u32 (q : Int) := hc.dep hl 0 9 rfl (by kernel_rfl)
      refine does_call rfl rfl 46 #[.int .u32 (q : Int)] ?_ ((HPT.out w1).mono fun e w' ⟨A9, c9, he, ho, hb⟩ => ⟨_, he, hb, A9, c9, rfl, ho.more (Nat.le_trans B1.out.size hc.g.size)⟩)
      clear hc hl
      go_simp
    · intro listed a w1 hl hc
      have h1 : a.tmps[1]?.getD undef = .pointer (some ⟨w.heap.size, 0, none⟩) := (hc.was 1 (by kernel_rfl)).trans rfl
      have kb := K1.out.below hc.g K1.out.lt
      have x0 : w1.cell? ⟨w.heap.size, 0, none⟩ = some (.int .u8 (k.toNat : Int)) := kb.cell 0
      have x1 : w1.cell? ⟨w.heap.size, 1, none⟩ = some (.int .u8 (f.toNat : Int)) := kb.cell 1
      have x2 : w1.cell? ⟨w.heap.size, 2, none⟩ = some (.slice A n c) := kb.cell 2
      clear kb
      refine does_value rfl rfl (.agg #[.int .u8 (k.toNat : Int), .int .u8 (f.toNat : Int), .slice A n c]) w1 ?_ (Below.refl _ _) rfl
      clear hc hl
      go_simp
    · intro listed a w1 hl hc
      obtain ⟨A10, c10, h10, ho10⟩ := hc.dep hl 1 10 rfl (by kernel_rfl)
      have h11 : a.tmps[11]?.getD undef = .agg #[.int .u8 (k.toNat : Int), .int .u8 (f.toNat : Int), .slice A n c] := hc.dep hl 2 11 rfl (by kernel_rfl)
      refine does_call rfl rfl 18 #[.agg #[.int .u8 ((7 : UInt8).toNat : Int), .int .u8 ((0 : UInt8).toNat : Int), .slice A10 (enc q 4).length c10], .agg #[.int .u8 (k.toNat : Int), .int .u8 (f.toNat : Int), .slice A n c]] ?_ ((HSM.out w1 _ _ (B1.out.trans (hc.g.mono B1.out.size)) ho10).mono fun e w' ⟨he, hb⟩ => ⟨_, he, hb, rfl⟩)
      clear hc hl
      go_simp
  intro w2 hb2
  rintro _ rfl _ ⟨A10, c10, rfl, ho10⟩ _ rfl _ rfl
  simp only [Thus, List.reverse_cons, List.reverse_nil, List.nil_append, List.cons_append, List.drop, List.take, lay]
  go_frame
  have B2 := Lib.hid (below_then B1.out (Nat.le_refl _) hb2)
  clear hb2
  go_wp2_with fail
  go_ret2
  exact ⟨rfl, B2.out⟩
theorem refGetCum_any (k f : UInt8) (A : Option Addr) (n c : Nat) (xs : List UInt8) (w : World) (hn : n ≤ 140737488355200) (hc : n ≤ c) (hcm : c ≤ maxLen) (hx : xs.length = n) (hr : Rd w w.heap.size A xs) :
    Calls Try.prog 42 #[.agg #[.int .u8 (k.toNat : Int), .int .u8 (f.toNat : Int), .slice A n c]] w fun e w' => e = .returned (.tuple #[.int .u32 (ansC k f xs), .int .i64 (errOf (okC k f xs))]) ∧ Below w.heap.size w w' := by
  cases hok : okC k f xs
  · have := refGetCum_no k f A n c xs w hn hc hcm hx hr hok
    rwa [hok] at this
  · have := refGetCum_yes k f A n c xs w hn hc hcm hx hr hok
    rwa [hok] at this
set_option maxRecDepth 100000 in
set_option maxHeartbeats 4000000 in
theorem refGetTime_bad (k f : UInt8) (A : Option Addr) (n c : Nat) (xs : List UInt8) (w : World) (hn : n ≤ 140737488355200) (hc : n ≤ c) (hcm : c ≤ maxLen) (hx : xs.length = n) (hr : Rd w w.heap.size A xs) (hk4 : k ≠ 4) (hk5 : k ≠ 5) :
    Calls Try.prog 40 #[.agg #[.int .u8 (k.toNat : Int), .int .u8 (f.toNat : Int), .slice A n c]] w fun e w' => e = .returned (.tuple #[.int .i64 (ansT k f xs), .int .i64 (errOf (okT k f xs))]) ∧ Below w.heap.size w w' := by
  have hqb : numO xs 4 8 < 18446744073709551616 := numO_lt xs 4 8
  have hcv := conv_i64 (numO xs 4 8) hqb
  have HNB : Hid (∀ W, Below w.heap.size w W → Calls Try.prog 56 #[.slice A n c, .int .i64 4, .int .i64 8] W fun e w' => e = .returned (.int .u64 (numO xs 4 8)) ∧ Below W.heap.size W w') := Lib.hid fun W hW => number_any A n c 4 8 xs W (by unfold IsSize; omega) (by omega) (by omega) hc hcm hx ((hr.below hW).more hW.size)
  have hok : okT k f xs = false := by simp [okT, hk4, hk5]
  have hra : ansT k f xs = 0 := by simp [ansT, hok]
  rw [hok, hra]
  have hb4 : ((k.toNat : Int) != 4) = true := bne_of (kind_ne (m := 4) hk4)
  have hb5 : ((k.toNat : Int) != 5) = true := bne_of (kind_ne (m := 5) hk5)
  clear hk4 hk5
  obtain ⟨q, hq⟩ : ∃ q, q = numO xs 4 8 := ⟨_, rfl⟩
  obtain ⟨sq, hsq⟩ : ∃ sq, sq = s64 q := ⟨_, rfl⟩
  rw [← hq] at HNB hcv hqb
  rw [← hsq] at hcv
  clear hq hsq hx hr hok hra
  have b0 : Blk (w.alloc (.cells #[.int .u8 (k.toNat : Int), .int .u8 (f.toNat : Int), .slice A n c] 28)) w.heap.size 28 #[.int .u8 (k.toNat : Int), .int .u8 (f.toNat : Int), .slice A n c] := Blk.new w 28 #[.int .u8 (k.toNat : Int), .int .u8 (f.toNat : Int), .slice A n c]
  have K0 := Lib.hid b0
  have B0 : Hid (Below w.heap.size w (w.alloc (.cells #[.int .u8 (k.toNat : Int), .int .u8 (f.toNat : Int), .slice A n c] 28))) := Lib.hid (Wr.below_ ((Wr.refl 5 w.heap.size w).alloc (.cells #[.int .u8 (k.toNat : Int), .int .u8 (f.toNat : Int), .slice A n c] 28)) (Nat.le_refl _))
  clear b0
  go_enter Try.func40, Try.ntmps40
  rw [drawn_eq 2]
  go_wp2_with fail
  generalize (w.alloc (.cells #[.int .u8 (k.toNat : Int), .int .u8 (f.toNat : Int), .slice A n c] 28)) = v0 at K0 B0 ⊢
  refine (HNB.out v0 B0.out).mono ?_
  rintro e w1 ⟨rfl, hb⟩
  have K1 := Lib.hid (K0.out.below hb K0.out.lt)
  have B1 := Lib.hid (below_then B0.out (Nat.le_refl _) hb)
  clear hb K0 B0
  go_wp2_with fail
  generalize w1 = v1 at K1 B1 ⊢
  rw [← drawn_eq 2]
  refine wp_region_grow_tail 16 (by kernel_rfl) [(Is (.pointer (some ⟨w.heap.size, 0, none⟩))), (Is (.int .u8 (k.toNat : Int))), (Is (.bool true)), (Is (.bool true)), (Is (.pointer (some ⟨w.heap.size, 0, none⟩))), (Is (.int .u8 (k.toNat : Int))), (Is (.bool true)), (Is (.bool true)), (Is (.bool true)), (Is undef), (Is undef), (Is undef), (Is undef), (Is undef), (Is undef), (Is undef)] rfl ?_ (by kernel_rfl) (by kernel_rfl) ?_ ?_
  · intro p hp
    simp only [List.mem_cons, List.not_mem_nil, or_false] at hp
    rcases hp with rfl | rfl | rfl | rfl | rfl | rfl | rfl | rfl | rfl | rfl | rfl | rfl | rfl | rfl | rfl | rfl
    · exact Lasts.is _
    · exact Lasts.is _
    · exact Lasts.is _
    · exact Lasts.is _
    · exact Lasts.is _
    · exact Lasts.is _
    · exact Lasts.is _
    · exact Lasts.is _
    · exact Lasts.is _
    · exact Lasts.is _
    · exact Lasts.is _
    · exact Lasts.is _
    · exact Lasts.is _
    · exact Lasts.is _
    · exact Lasts.is _
    · exact Lasts.is _
  · refine ⟨?_, ?_, ?_, ?_, ?_, ?_, ?_, ?_, ?_, ?_, ?_, ?_, ?_, ?_, ?_, ?_, trivial⟩
    · intro listed a w1 hl hc
      have h1 : a.tmps[1]?.getD undef = .pointer (some ⟨w.heap.size, 0, none⟩) := (hc.was 1 (by kernel_rfl)).trans rfl
      refine does_value rfl rfl (.pointer (some ⟨w.heap.size, 0, none⟩)) w1 ?_ (Below.refl _ _) rfl
      clear hc hl
      go_simp
    · intro listed a w1 hl hc
      have h9 : a.tmps[9]?.getD undef = .pointer (some ⟨w.heap.size, 0, none⟩) := hc.dep hl 0 9 rfl (by kernel_rfl)
      have kb := K1.out.below hc.g K1.out.lt
      have x0 : w1.cell? ⟨w.heap.size, 0, none⟩ = some (.int .u8 (k.toNat : Int)) := kb.cell 0
      clear kb
      refine does_value rfl rfl (.int .u8 (k.toNat : Int)) w1 ?_ (Below.refl _ _) rfl
      clear hc hl
      go_simp
    · intro listed a w1 hl hc
      have h10 : a.tmps[10]?.getD undef = .int .u8 (k.toNat : Int) := hc.dep hl 1 10 rfl (by kernel_rfl)
      refine does_value rfl rfl (.bool true) w1 ?_ (Below.refl _ _) rfl
      clear hc hl
      go_simp
    · intro listed a w1 hl hc
      have h11 : a.tmps[11]?.getD undef = .bool true := hc.dep hl 2 11 rfl (by kernel_rfl)
      refine does_value rfl rfl (.bool true) w1 ?_ (Below.refl _ _) rfl
      clear hc hl
      go_simp
    · intro listed a w1 hl hc
      have h1 : a.tmps[1]?.getD undef = .pointer (some ⟨w.heap.size, 0, none⟩) := (hc.was 1 (by kernel_rfl)).trans rfl
      refine does_value rfl (wanted_at rfl rfl (hc.dep hl 3 12 rfl (by kernel_rfl))) (.pointer (some ⟨w.heap.size, 0, none⟩)) w1 ?_ (Below.refl _ _) rfl
      clear hc hl
      go_simp
    · intro listed a w1 hl hc
      have h13 : a.tmps[13]?.getD undef = .pointer (some ⟨w.heap.size, 0, none⟩) := hc.dep hl 4 13 rfl (by kernel_rfl)
      have kb := K1.out.below hc.g K1.out.lt
      have x0 : w1.cell? ⟨w.heap.size, 0, none⟩ = some (.int .u8 (k.toNat : Int)) := kb.cell 0
      clear kb
      refine does_value rfl (wanted_at rfl rfl (hc.dep hl 3 12 rfl (by kernel_rfl))) (.int .u8 (k.toNat : Int)) w1 ?_ (Below.refl _ _) rfl
      clear hc hl
      go_simp
    · intro listed a w1 hl hc
      have h14 : a.tmps[14]?.getD undef = .int .u8 (k.toNat : Int) := hc.dep hl 5 14 rfl (by kernel_rfl)
      refine does_value rfl (wanted_at rfl rfl (hc.dep hl 3 12 rfl (by kernel_rfl))) (.bool true) w1 ?_ (Below.refl _ _) rfl
      clear hc hl
      go_simp
    · intro listed a w1 hl hc
      have h12 : a.tmps[12]?.getD undef = .bool true := hc.dep hl 3 12 rfl (by kernel_rfl)
      have h15 : a.tmps[15]?.getD undef = .bool true := hc.dep hl 6 15 rfl (by kernel_rfl)
      refine does_value rfl rfl (.bool true) w1 ?_ (Below.refl _ _) rfl
      clear hc hl
      go_simp
    · intro listed a w1 hl hc
      have h16 : a.tmps[16]?.getD undef = .bool true := hc.dep hl 7 16 rfl (by kernel_rfl)
      refine does_value rfl rfl (.bool true) w1 ?_ (Below.refl _ _) rfl
      clear hc hl
      go_simp
    · intro listed a w1 hl hc
      exact does_skip (fun _ => (Below.refl _ _)) rfl (unwanted_at rfl rfl (hc.dep hl 8 17 rfl (by kernel_rfl))) rfl
    · intro listed a w1 hl hc
      exact does_skip (fun _ => (Below.refl _ _)) rfl (unwanted_at rfl rfl (hc.dep hl 8 17 rfl (by kernel_rfl))) rfl
    · intro listed a w1 hl hc
      exact does_skip (fun _ => (Below.refl _ _)) rfl (unwanted_at rfl rfl (hc.dep hl 8 17 rfl (by kernel_rfl))) rfl
    · intro listed a w1 hl hc
      exact does_skip (fun _ => (Below.refl _ _)) rfl (unwanted_at rfl rfl (hc.dep hl 8 17 rfl (by kernel_rfl))) rfl
    · intro listed a w1 hl hc
      exact does_skip (fun _ => (Below.refl _ _)) rfl (unwanted_at rfl rfl (hc.dep hl 8 17 rfl (by kernel_rfl))) rfl
    · intro listed a w1 hl hc
      exact does_skip (fun _ => (Below.refl _ _)) rfl (unwanted_at rfl rfl (hc.dep hl 8 17 rfl (by kernel_rfl))) rfl
    · intro listed a w1 hl hc
      exact does_skip (fun _ => (Below.refl _ _)) rfl (unwanted_at rfl rfl (hc.dep hl 8 17 rfl (by kernel_rfl))) rfl
  intro w2 hb2
  rintro _ rfl _ rfl _ rfl _ rfl _ rfl _ rfl _ rfl _ rfl _ rfl _ rfl _ rfl _ rfl _ rfl _ rfl _ rfl _ rfl
  simp only [Thus, List.reverse_cons, List.reverse_nil, List.nil_append, List.cons_append, List.drop, List.take, lay]
  go_frame
  have B2 := Lib.hid (below_then B1.out (Nat.le_refl _) hb2)
  clear hb2
  go_wp2_with fail
  go_ret2
  exact ⟨rfl, B2.out⟩
set_option maxRecDepth 100000 in
set_option maxHeartbeats 4000000 in
theorem refGetTime_four_no (f : UInt8) (A : Option Addr) (n c : Nat) (xs : List UInt8) (w : World) (hn : n ≤ 140737488355200) (hc : n ≤ c) (hcm : c ≤ maxLen) (hx : xs.length = n) (hr : Rd w w.heap.size A xs) (hok : okT 4 f xs = false) :
    Calls Try.prog 40 #[.agg #[.int .u8 4, .int .u8 (f.toNat : Int), .slice A n c]] w fun e w' => e = .returned (.tuple #[.int .i64 (ansT 4 f xs), .int .i64 (errOf (okT 4 f xs))]) ∧ Below w.heap.size w w' := by
  have hqb : numO xs 4 8 < 18446744073709551616 := numO_lt xs 4 8
  have hcv := conv_i64 (numO xs 4 8) hqb
  have HNB : Hid (∀ W, Below w.heap.size w W → Calls Try.prog 56 #[.slice A n c, .int .i64 4, .int .i64 8] W fun e w' => e = .returned (.int .u64 (numO xs 4 8)) ∧ Below W.heap.size W w') := Lib.hid fun W hW => number_any A n c 4 8 xs W (by unfold IsSize; omega) (by omega) (by omega) hc hcm hx ((hr.below hW).more hW.size)
  have hra : ansT 4 f xs = 0 := by simp [ansT, hok]
  rw [hok, hra]
  have hd : decide (((4 : UInt8) = 4) ∧ f = 0 ∧ xs = bodyT (numO xs 4 8)) = false := by rw [← hok]; simp [okT]
  have HSM := Lib.hid (sameR (c := c) (by omega) hx hr (hd))
  have HPT : Hid (∀ W, Puts 44 #[.int .u8 4, .int .i64 (s64 (numO xs 4 8))] 4 0 (bodyT (numO xs 4 8)) W) := Lib.hid fun W => by
    have := refPutTime_any 4 (s64 (numO xs 4 8)) (s64_bd hqb) W
    rwa [s64_back hqb] at this
  obtain ⟨Y, hY⟩ : ∃ Y, Y = bodyT (numO xs 4 8) := ⟨_, rfl⟩
  rw [← hY] at HSM HPT
  clear hY hd
  obtain ⟨q, hq⟩ : ∃ q, q = numO xs 4 8 := ⟨_, rfl⟩
  obtain ⟨sq, hsq⟩ : ∃ sq, sq = s64 q := ⟨_, rfl⟩
  rw [← hq] at HNB hcv hqb HPT
  rw [← hsq] at hcv HPT
  clear hq hsq hx hr hok hra
  have b0 : Blk (w.alloc (.cells #[.int .u8 4, .int .u8 (f.toNat : Int), .slice A n c] 28)) w.heap.size 28 #[.int .u8 4, .int .u8 (f.toNat : Int), .slice A n c] := Blk.new w 28 #[.int .u8 4, .int .u8 (f.toNat : Int), .slice A n c]
  have K0 := Lib.hid b0
  have B0 : Hid (Below w.heap.size w (w.alloc (.cells #[.int .u8 4, .int .u8 (f.toNat : Int), .slice A n c] 28))) := Lib.hid (Wr.below_ ((Wr.refl 5 w.heap.size w).alloc (.cells #[.int .u8 4, .int .u8 (f.toNat : Int), .slice A n c] 28)) (Nat.le_refl _))
  clear b0
  go_enter Try.func40, Try.ntmps40
  rw [drawn_eq 2]
  go_wp2_with fail
  generalize (w.alloc (.cells #[.int .u8 4, .int .u8 (f.toNat : Int), .slice A n c] 28)) = v0 at K0 B0 ⊢
  refine (HNB.out v0 B0.out).mono ?_
  rintro e w1 ⟨rfl, hb⟩
  have K1 := Lib.hid (K0.out.below hb K0.out.lt)
  have B1 := Lib.hid (below_then B0.out (Nat.le_refl _) hb)
  clear hb K0 B0
  go_wp2_with fail
  generalize w1 = v1 at K1 B1 ⊢
  rw [← drawn_eq 2]
  refine wp_region_grow_tail 16 (by kernel_rfl) [(Is (.pointer (some ⟨w.heap.size, 0, none⟩))), (Is (.int .u8 4)), (Is (.bool false)), (Is (.bool false)), (Is undef), (Is undef), (Is undef), (Is (.bool false)), (Is (.bool false)), (Is (.pointer (some ⟨w.heap.size, 0, none⟩))), (Is (.int .u8 4)), (Is (.int .i64 sq)), (NewAgg 5 w.heap.size Y.length Y (fun s => .agg #[.int .u8 ((4 : UInt8).toNat : Int), .int .u8 ((0 : UInt8).toNat : Int), s])), (Is (.agg #[.int .u8 4, .int .u8 (f.toNat : Int), .slice A n c])), (Is (.bool false)), (Is (.bool true))] rfl ?_ (by kernel_rfl) (by kernel_rfl) ?_ ?_
  · intro p hp
    simp only [List.mem_cons, List.not_mem_nil, or_false] at hp
    rcases hp with rfl | rfl | rfl | rfl | rfl | rfl | rfl | rfl | rfl | rfl | rfl | rfl | rfl | rfl | rfl | rfl
    · exact Lasts.is _
    · exact Lasts.is _
    · exact Lasts.is _
    · exact Lasts.is _
    · exact Lasts.is _
    · exact Lasts.is _
    · exact Lasts.is _
    · exact Lasts.is _
    · exact Lasts.is _
    · exact Lasts.is _
    · exact Lasts.is _
    · exact Lasts.is _
    · exact Lasts.newAgg _ _ _ _ _
    · exact Lasts.is _
    · exact Lasts.is _
    · exact Lasts.is _
  · refine ⟨?_, ?_, ?_, ?_, ?_, ?_, ?_, ?_, ?_, ?_, ?_, ?_, ?_, ?_, ?_, ?_, trivial⟩
    · intro listed a w1 hl hc
      have h1 : a.tmps[1]?.getD undef = .pointer (some ⟨w.heap.size, 0, none⟩) := (hc.was 1 (by kernel_rfl)).trans rfl
      refine does_value rfl rfl (.pointer (some ⟨w.heap.size, 0, none⟩)) w1 ?_ (Below.refl _ _) rfl
      clear hc hl
      go_simp
    · intro listed a w1 hl hc
      have h9 : a.tmps[9]?.getD undef = .pointer (some ⟨w.heap.size, 0, none⟩) := hc.dep hl 0 9 rfl (by kernel_rfl)
      have kb := K1.out.below hc.g K1.out.lt
      have x0 : w1.cell? ⟨w.heap.size, 0, none⟩ = some (.int .u8 4) := kb.cell 0
      clear kb
      refine does_value rfl rfl (.int .u8 4) w1 ?_ (Below.refl _ _) rfl
      clear hc hl
      go_simp
    · intro listed a w1 hl hc
      have h10 : a.tmps[10]?.getD undef = .int .u8 4 := hc.dep hl 1 10 rfl (by kernel_rfl)
      refine does_value rfl rfl (.bool false) w1 ?_ (Below.refl _ _) rfl
      clear hc hl
      go_simp
    · intro listed a w1 hl hc
      have h11 : a.tmps[11]?.getD undef = .bool false := hc.dep hl 2 11 rfl (by kernel_rfl)
      refine does_value rfl rfl (.bool false) w1 ?_ (Below.refl _ _) rfl
      clear hc hl
      go_simp
    · intro listed a w1 hl hc
      exact does_skip (fun _ => (Below.refl _ _)) rfl (unwanted_at rfl rfl (hc.dep hl 3 12 rfl (by kernel_rfl))) rfl
    · intro listed a w1 hl hc
      exact does_skip (fun _ => (Below.refl _ _)) rfl (unwanted_at rfl rfl (hc.dep hl 3 12 rfl (by kernel_rfl))) rfl
    · intro listed a w1 hl hc
      exact does_skip (fun _ => (Below.refl _ _)) rfl (unwanted_at rfl rfl (hc.dep hl 3 12 rfl (by kernel_rfl))) rfl
    · intro listed a w1 hl hc
      have h12 : a.tmps[12]?.getD undef = .bool false := hc.dep hl 3 12 rfl (by kernel_rfl)
      have h15 : a.tmps[15]?.getD undef = undef := hc.dep hl 6 15 rfl (by kernel_rfl)
      refine does_value rfl rfl (.bool false) w1 ?_ (Below.refl _ _) rfl
      clear hc hl
      go_simp
    · intro listed a w1 hl hc
      have h16 : a.tmps[16]?.getD undef = .bool false := hc.dep hl 7 16 rfl (by kernel_rfl)
      refine does_value rfl rfl (.bool false) w1 ?_ (Below.refl _ _) rfl
      clear hc hl
      go_simp
    · intro listed a w1 hl hc
      have h1 : a.tmps[1]?.getD undef = .pointer (some ⟨w.heap.size, 0, none⟩) := (hc.was 1 (by kernel_rfl)).trans rfl
      refine does_value rfl (wanted_at rfl rfl (hc.dep hl 8 17 rfl (by kernel_rfl))) (.pointer (some ⟨w.heap.size, 0, none⟩)) w1 ?_ (Below.refl _ _) rfl
      clear hc hl
      go_simp
    · intro listed a w1 hl hc
      have h18 : a.tmps[18]?.getD undef = .pointer (some ⟨w.heap.size, 0, none⟩) := hc.dep hl 9 18 rfl (by kernel_rfl)
      have kb := K1.out.below hc.g K1.out.lt
      have x0 : w1.cell? ⟨w.heap.size, 0, none⟩ = some (.int .u8 4) := kb.cell 0
      clear kb
      refine does_value rfl (wanted_at rfl rfl (hc.dep hl 8 17 rfl (by kernel_rfl))) (.int .u8 4) w1 ?_ (Below.refl _ _) rfl
      clear hc hl
      go_simp
    · intro listed a w1 hl hc
      have h4 : a.tmps[4]?.getD undef = .int .i64 sq := (hc.was 4 (by kernel_rfl)).trans rfl
      refine does_value rfl (wanted_at rfl rfl (hc.dep hl 8 17 rfl (by kernel_rfl))) (.int .i64 sq) w1 ?_ (Below.refl _ _) rfl
      clear hc hl
      go_simp
    · intro listed a w1 hl hc
      have h19 : a.tmps[19]?.getD undef = .int .u8 4 := hc.dep hl 10 19 rfl (by kernel_rfl)
      have h20 : a.tmps[20]?.getD undef = .int .i64 sq := hc.dep hl 11 20 rfl (by kernel_rfl)
      refine does_call rfl (wanted_at rfl rfl (hc.dep hl 8 17 rfl (by kernel_rfl))) 44 #[.int .u8 4, .int .i64 sq] ?_ ((HPT.out w1).mono fun e w' ⟨A9, c9, he, ho, hb⟩ => ⟨_, he, hb, A9, c9, rfl, ho.more (Nat.le_trans B1.out.size hc.g.size)⟩)
      clear hc hl
      go_simp
    · intro listed a w1 hl hc
      have h1 : a.tmps[1]?.getD undef = .pointer (some ⟨w.heap.size, 0, none⟩) := (hc.was 1 (by kernel_rfl)).trans rfl
      have kb := K1.out.below hc.g K1.out.lt
      have x0 : w1.cell? ⟨w.heap.size, 0, none⟩ = some (.int .u8 4) := kb.cell 0
      have x1 : w1.cell? ⟨w.heap.size, 1, none⟩ = some (.int .u8 (f.toNat : Int)) := kb.cell 1
      have x2 : w1.cell? ⟨w.heap.size, 2, none⟩ = some (.slice A n c) := kb.cell 2
      clear kb
      refine does_value rfl (wanted_at rfl rfl (hc.dep hl 8 17 rfl (by kernel_rfl))) (.agg #[.int .u8 4, .int .u8 (f.toNat : Int), .slice A n c]) w1 ?_ (Below.refl _ _) rfl
      clear hc hl
      go_simp
    · intro listed a w1 hl hc
      obtain ⟨A21, c21, h21, ho21⟩ := hc.dep hl 12 21 rfl (by kernel_rfl)
      have h22 : a.tmps[22]?.getD undef = .agg #[.int .u8 4, .int .u8 (f.toNat : Int), .slice A n c] := hc.dep hl 13 22 rfl (by kernel_rfl)
      refine does_call rfl (wanted_at rfl rfl (hc.dep hl 8 17 rfl (by kernel_rfl))) 18 #[.agg #[.int .u8 ((4 : UInt8).toNat : Int), .int .u8 ((0 : UInt8).toNat : Int), .slice A21 Y.length c21], .agg #[.int .u8 4, .int .u8 (f.toNat : Int), .slice A n c]] ?_ ((HSM.out w1 _ _ (B1.out.trans (hc.g.mono B1.out.size)) ho21).mono fun e w' ⟨he, hb⟩ => ⟨_, he, hb, rfl⟩)
      clear hc hl
      go_simp
    · intro listed a w1 hl hc
      have h23 : a.tmps[23]?.getD undef = .bool false := hc.dep hl 14 23 rfl (by kernel_rfl)
      refine does_value rfl (wanted_at rfl rfl (hc.dep hl 8 17 rfl (by kernel_rfl))) (.bool true) w1 ?_ (Below.refl _ _) rfl
      clear hc hl
      go_simp
  intro w2 hb2
  rintro _ rfl _ rfl _ rfl _ rfl _ rfl _ rfl _ rfl _ rfl _ rfl _ rfl _ rfl _ rfl _ ⟨A21, c21, rfl, ho21⟩ _ rfl _ rfl _ rfl
  simp only [Thus, List.reverse_cons, List.reverse_nil, List.nil_append, List.cons_append, List.drop, List.take, lay]
  go_frame
  have B2 := Lib.hid (below_then B1.out (Nat.le_refl _) hb2)
  clear hb2
  go_wp2_with fail
  go_ret2
  exact ⟨rfl, B2.out⟩
set_option maxRecDepth 100000 in
set_option maxHeartbeats 4000000 in
theorem refGetTime_four_yes (f : UInt8) (A : Option Addr) (n c : Nat) (xs : List UInt8) (w : World) (hn : n ≤ 140737488355200) (hc : n ≤ c) (hcm : c ≤ maxLen) (hx : xs.length = n) (hr : Rd w w.heap.size A xs) (hok : okT 4 f xs = true) :
    Calls Try.prog 40 #[.agg #[.int .u8 4, .int .u8 (f.toNat : Int), .slice A n c]] w fun e w' => e = .returned (.tuple #[.int .i64 (ansT 4 f xs), .int .i64 (errOf (okT 4 f xs))]) ∧ Below w.heap.size w w' := by
  have hqb : numO xs 4 8 < 18446744073709551616 := numO_lt xs 4 8
  have hcv := conv_i64 (numO xs 4 8) hqb
  have HNB : Hid (∀ W, Below w.heap.size w W → Calls Try.prog 56 #[.slice A n c, .int .i64 4, .int .i64 8] W fun e w' => e = .returned (.int .u64 (numO xs 4 8)) ∧ Below W.heap.size W w') := Lib.hid fun W hW => number_any A n c 4 8 xs W (by unfold IsSize; omega) (by omega) (by omega) hc hcm hx ((hr.below hW).more hW.size)
  have hra : ansT 4 f xs = s64 (numO xs 4 8) := by simp [ansT, hok]
  rw [hok, hra]
  have hd : decide (((4 : UInt8) = 4) ∧ f = 0 ∧ xs = bodyT (numO xs 4 8)) = true := by rw [← hok]; simp [okT]
  have HSM := Lib.hid (sameR (c := c) (by omega) hx hr (hd))
  have HPT : Hid (∀ W, Puts 44 #[.int .u8 4, .int .i64 (s64 (numO xs 4 8))] 4 0 (bodyT (numO xs 4 8)) W) := Lib.hid fun W => by
    have := refPutTime_any 4 (s64 (numO xs 4 8)) (s64_bd hqb) W
    rwa [s64_back hqb] at this
  obtain ⟨Y, hY⟩ : ∃ Y, Y = bodyT (numO xs 4 8) := ⟨_, rfl⟩
  rw [← hY] at HSM HPT
  clear hY hd
  obtain ⟨q, hq⟩ : ∃ q, q = numO xs 4 8 := ⟨_, rfl⟩
  obtain ⟨sq, hsq⟩ : ∃ sq, sq = s64 q := ⟨_, rfl⟩
  rw [← hq] at HNB hcv hqb HPT ⊢
  rw [← hsq] at hcv HPT ⊢
  clear hq hsq hx hr hok hra
  have b0 : Blk (w.alloc (.cells #[.int .u8 4, .int .u8 (f.toNat : Int), .slice A n c] 28)) w.heap.size 28 #[.int .u8 4, .int .u8 (f.toNat : Int), .slice A n c] := Blk.new w 28 #[.int .u8 4, .int .u8 (f.toNat : Int), .slice A n c]
  have K0 := Lib.hid b0
  have B0 : Hid (Below w.heap.size w (w.alloc (.cells #[.int .u8 4, .int .u8 (f.toNat : Int), .slice A n c] 28))) := Lib.hid (Wr.below_ ((Wr.refl 5 w.heap.size w).alloc (.cells #[.int .u8 4, .int .u8 (f.toNat : Int), .slice A n c] 28)) (Nat.le_refl _))
  clear b0
  go_enter Try.func40, Try.ntmps40
  rw [drawn_eq 2]
  go_wp2_with fail
  generalize (w.alloc (.cells #[.int .u8 4, .int .u8 (f.toNat : Int), .slice A n c] 28)) = v0 at K0 B0 ⊢
  refine (HNB.out v0 B0.out).mono ?_
  rintro e w1 ⟨rfl, hb⟩
  have K1 := Lib.hid (K0.out.below hb K0.out.lt)
  have B1 := Lib.hid (below_then B0.out (Nat.le_refl _) hb)
  clear hb K0 B0
  go_wp2_with fail
  generalize w1 = v1 at K1 B1 ⊢
  rw [← drawn_eq 2]
  refine wp_region_grow_tail 16 (by kernel_rfl) [(Is (.pointer (some ⟨w.heap.size, 0, none⟩))), (Is (.int .u8 4)), (Is (.bool false)), (Is (.bool false)), (Is undef), (Is undef), (Is undef), (Is (.bool false)), (Is (.bool false)), (Is (.pointer (some ⟨w.heap.size, 0, none⟩))), (Is (.int .u8 4)), (Is (.int .i64 sq)), (NewAgg 5 w.heap.size Y.length Y (fun s => .agg #[.int .u8 ((4 : UInt8).toNat : Int), .int .u8 ((0 : UInt8).toNat : Int), s])), (Is (.agg #[.int .u8 4, .int .u8 (f.toNat : Int), .slice A n c])), (Is (.bool true)), (Is (.bool false))] rfl ?_ (by kernel_rfl) (by kernel_rfl) ?_ ?_
  · intro p hp
    simp only [List.mem_cons, List.not_mem_nil, or_false] at hp
    rcases hp with rfl | rfl | rfl | rfl | rfl | rfl | rfl | rfl | rfl | rfl | rfl | rfl | rfl | rfl | rfl | rfl
    · exact Lasts.is _
    · exact Lasts.is _
    · exact Lasts.is _
    · exact Lasts.is _
    · exact Lasts.is _
    · exact Lasts.is _
    · exact Lasts.is _
    · exact Lasts.is _
    · exact Lasts.is _
    · exact Lasts.is _
    · exact Lasts.is _
    · exact Lasts.is _
    · exact Lasts.newAgg _ _ _ _ _
    · exact Lasts.is _
    · exact Lasts.is _
    · exact Lasts.is _
  · refine ⟨?_, ?_, ?_, ?_, ?_, ?_, ?_, ?_, ?_, ?_, ?_, ?_, ?_, ?_, ?_, ?_, trivial⟩
    · intro listed a w1 hl hc
      have h1 : a.tmps[1]?.getD undef = .pointer (some ⟨w.heap.size, 0, none⟩) := (hc.was 1 (by kernel_rfl)).trans rfl
      refine does_value rfl rfl (.pointer (some ⟨w.heap.size, 0, none⟩)) w1 ?_ (Below.refl _ _) rfl
      clear hc hl
      go_simp
    · intro listed a w1 hl hc
      have h9 : a.tmps[9]?.getD undef = .pointer (some ⟨w.heap.size, 0, none⟩) := hc.dep hl 0 9 rfl (by kernel_rfl)
      have kb := K1.out.below hc.g K1.out.lt
      have x0 : w1.cell? ⟨w.heap.size, 0, none⟩ = some (.int .u8 4) := kb.cell 0
      clear kb
      refine does_value rfl rfl (.int .u8 4) w1 ?_ (Below.refl _ _) rfl
      clear hc hl
      go_simp
    · intro listed a w1 hl hc
      have h10 : a.tmps[10]?.getD undef = .int .u8 4 := hc.dep hl 1 10 rfl (by kernel_rfl)
      refine does_value rfl rfl (.bool false) w1 ?_ (Below.refl _ _) rfl
      clear hc hl
      go_simp
    · intro listed a w1 hl hc
      have h11 : a.tmps[11]?.getD undef = .bool false := hc.dep hl 2 11 rfl (by kernel_rfl)
      refine does_value rfl rfl (.bool false) w1 ?_ (Below.refl _ _) rfl
      clear hc hl
      go_simp
    · intro listed a w1 hl hc
      exact does_skip (fun _ => (Below.refl _ _)) rfl (unwanted_at rfl rfl (hc.dep hl 3 12 rfl (by kernel_rfl))) rfl
    · intro listed a w1 hl hc
      exact does_skip (fun _ => (Below.refl _ _)) rfl (unwanted_at rfl rfl (hc.dep hl 3 12 rfl (by kernel_rfl))) rfl
    · intro listed a w1 hl hc
      exact does_skip (fun _ => (Below.refl _ _)) rfl (unwanted_at rfl rfl (hc.dep hl 3 12 rfl (by kernel_rfl))) rfl
    · intro listed a w1 hl hc
      have h12 : a.tmps[12]?.getD undef = .bool false := hc.dep hl 3 12 rfl (by kernel_rfl)
      have h15 : a.tmps[15]?.getD undef = undef := hc.dep hl 6 15 rfl (by kernel_rfl)
      refine does_value rfl rfl (.bool false) w1 ?_ (Below.refl _ _) rfl
      clear hc hl
      go_simp
    · intro listed a w1 hl hc
      have h16 : a.tmps[16]?.getD undef = .bool false := hc.dep hl 7 16 rfl (by kernel_rfl)
      refine does_value rfl rfl (.bool false) w1 ?_ (Below.refl _ _) rfl
      clear hc hl
      go_simp
    · intro listed a w1 hl hc
      have h1 : a.tmps[1]?.getD undef = .pointer (some ⟨w.heap.size, 0, none⟩) := (hc.was 1 (by kernel_rfl)).trans rfl
      refine does_value rfl (wanted_at rfl rfl (hc.dep hl 8 17 rfl (by kernel_rfl))) (.pointer (some ⟨w.heap.size, 0, none⟩)) w1 ?_ (Below.refl _ _) rfl
      clear hc hl
      go_simp
    · intro listed a w1 hl hc
      have h18 : a.tmps[18]?.getD undef = .pointer (some ⟨w.heap.size, 0, none⟩) := hc.dep hl 9 18 rfl (by kernel_rfl)
      have kb := K1.out.below hc.g K1.out.lt
      have x0 : w1.cell? ⟨w.heap.size, 0, none⟩ = some (.int .u8 4) := kb.cell 0
      clear kb
      refine does_value rfl (wanted_at rfl rfl (hc.dep hl 8 17 rfl (by kernel_rfl))) (.int .u8 4) w1 ?_ (Below.refl _ _) rfl
      clear hc hl
      go_simp
    · intro listed a w1 hl hc
      have h4 : a.tmps[4]?.getD undef = .int .i64 sq := (hc.was 4 (by kernel_rfl)).trans rfl
      refine does_value rfl (wanted_at rfl rfl (hc.dep hl 8 17 rfl (by kernel_rfl))) (.int .i64 sq) w1 ?_ (Below.refl _ _) rfl
      clear hc hl
      go_simp
    · intro listed a w1 hl hc
      have h19 : a.tmps[19]?.getD undef = .int .u8 4 := hc.dep hl 10 19 rfl (by kernel_rfl)
      have h20 : a.tmps[20]?.getD undef = .int .i64 sq := hc.dep hl 11 20 rfl (by kernel_rfl)
      refine does_call rfl (wanted_at rfl rfl (hc.dep hl 8 17 rfl (by kernel_rfl))) 44 #[.int .u8 4, .int .i64 sq] ?_ ((HPT.out w1).mono fun e w' ⟨A9, c9, he, ho, hb⟩ => ⟨_, he, hb, A9, c9, rfl, ho.more (Nat.le_trans B1.out.size hc.g.size)⟩)
      clear hc hl
      go_simp
    · intro listed a w1 hl hc
      have h1 : a.tmps[1]?.getD undef = .pointer (some ⟨w.heap.size, 0, none⟩) := (hc.was 1 (by kernel_rfl)).trans rfl
      have kb := K1.out.below hc.g K1.out.lt
      have x0 : w1.cell? ⟨w.heap.size, 0, none⟩ = some (.int .u8 4) := kb.cell 0
      have x1 : w1.cell? ⟨w.heap.size, 1, none⟩ = some (.int .u8 (f.toNat : Int)) := kb.cell 1
      have x2 : w1.cell? ⟨w.heap.size, 2, none⟩ = some (.slice A n c) := kb.cell 2
      clear kb
      refine does_value rfl (wanted_at rfl rfl (hc.dep hl 8 17 rfl (by kernel_rfl))) (.agg #[.int .u8 4, .int .u8 (f.toNat : Int), .slice A n c]) w1 ?_ (Below.refl _ _) rfl
      clear hc hl
      go_simp
    · intro listed a w1 hl hc
      obtain ⟨A21, c21, h21, ho21⟩ := hc.dep hl 12 21 rfl (by kernel_rfl)
      have h22 : a.tmps[22]?.getD undef = .agg #[.int .u8 4, .int .u8 (f.toNat : Int), .slice A n c] := hc.dep hl 13 22 rfl (by kernel_rfl)
      refine does_call rfl (wanted_at rfl rfl (hc.dep hl 8 17 rfl (by kernel_rfl))) 18 #[.agg #[.int .u8 ((4 : UInt8).toNat : Int), .int .u8 ((0 : UInt8).toNat : Int), .slice A21 Y.length c21], .agg #[.int .u8 4, .int .u8 (f.toNat : Int), .slice A n c]] ?_ ((HSM.out w1 _ _ (B1.out.trans (hc.g.mono B1.out.size)) ho21).mono fun e w' ⟨he, hb⟩ => ⟨_, he, hb, rfl⟩)
      clear hc hl
      go_simp
    · intro listed a w1 hl hc
      have h23 : a.tmps[23]?.getD undef = .bool true := hc.dep hl 14 23 rfl (by kernel_rfl)
      refine does_value rfl (wanted_at rfl rfl (hc.dep hl 8 17 rfl (by kernel_rfl))) (.bool false) w1 ?_ (Below.refl _ _) rfl
      clear hc hl
      go_simp
  intro w2 hb2
  rintro _ rfl _ rfl _ rfl _ rfl _ rfl _ rfl _ rfl _ rfl _ rfl _ rfl _ rfl _ rfl _ ⟨A21, c21, rfl, ho21⟩ _ rfl _ rfl _ rfl
  simp only [Thus, List.reverse_cons, List.reverse_nil, List.nil_append, List.cons_append, List.drop, List.take, lay]
  go_frame
  have B2 := Lib.hid (below_then B1.out (Nat.le_refl _) hb2)
  clear hb2
  go_wp2_with fail
  go_ret2
  exact ⟨rfl, B2.out⟩
set_option maxRecDepth 100000 in
set_option maxHeartbeats 4000000 in
theorem refGetTime_five_no (f : UInt8) (A : Option Addr) (n c : Nat) (xs : List UInt8) (w : World) (hn : n ≤ 140737488355200) (hc : n ≤ c) (hcm : c ≤ maxLen) (hx : xs.length = n) (hr : Rd w w.heap.size A xs) (hok : okT 5 f xs = false) :
    Calls Try.prog 40 #[.agg #[.int .u8 5, .int .u8 (f.toNat : Int), .slice A n c]] w fun e w' => e = .returned (.tuple #[.int .i64 (ansT 5 f xs), .int .i64 (errOf (okT 5 f xs))]) ∧ Below w.heap.size w w' := by
  have hqb : numO xs 4 8 < 18446744073709551616 := numO_lt xs 4 8
  have hcv := conv_i64 (numO xs 4 8) hqb
  have HNB : Hid (∀ W, Below w.heap.size w W → Calls Try.prog 56 #[.slice A n c, .int .i64 4, .int .i64 8] W fun e w' => e = .returned (.int .u64 (numO xs 4 8)) ∧ Below W.heap.size W w') := Lib.hid fun W hW => number_any A n c 4 8 xs W (by unfold IsSize; omega) (by omega) (by omega) hc hcm hx ((hr.below hW).more hW.size)
  have hra : ansT 5 f xs = 0 := by simp [ansT, hok]
  rw [hok, hra]
  have hd : decide (((5 : UInt8) = 5) ∧ f = 0 ∧ xs = bodyT (numO xs 4 8)) = false := by rw [← hok]; simp [okT]
  have HSM := Lib.hid (sameR (c := c) (by omega) hx hr (hd))
  have HPT : Hid (∀ W, Puts 44 #[.int .u8 5, .int .i64 (s64 (numO xs 4 8))] 5 0 (bodyT (numO xs 4 8)) W) := Lib.hid fun W => by
    have := refPutTime_any 5 (s64 (numO xs 4 8)) (s64_bd hqb) W
    rwa [s64_back hqb] at this
  obtain ⟨Y, hY⟩ : ∃ Y, Y = bodyT (numO xs 4 8) := ⟨_, rfl⟩
  rw [← hY] at HSM HPT
  clear hY hd
  obtain ⟨q, hq⟩ : ∃ q, q = numO xs 4 8 := ⟨_, rfl⟩
  obtain ⟨sq, hsq⟩ : ∃ sq, sq = s64 q := ⟨_, rfl⟩
  rw [← hq] at HNB hcv hqb HPT
  rw [← hsq] at hcv HPT
  clear hq hsq hx hr hok hra
  have b0 : Blk (w.alloc (.cells #[.int .u8 5, .int .u8 (f.toNat : Int), .slice A n c] 28)) w.heap.size 28 #[.int .u8 5, .int .u8 (f.toNat : Int), .slice A n c] := Blk.new w 28 #[.int .u8 5, .int .u8 (f.toNat : Int), .slice A n c]
  have K0 := Lib.hid b0
  have B0 : Hid (Below w.heap.size w (w.alloc (.cells #[.int .u8 5, .int .u8 (f.toNat : Int), .slice A n c] 28))) := Lib.hid (Wr.below_ ((Wr.refl 5 w.heap.size w).alloc (.cells #[.int .u8 5, .int .u8 (f.toNat : Int), .slice A n c] 28)) (Nat.le_refl _))
  clear b0
  go_enter Try.func40, Try.ntmps40
  rw [drawn_eq 2]
  go_wp2_with fail
  generalize (w.alloc (.cells #[.int .u8 5, .int .u8 (f.toNat : Int), .slice A n c] 28)) = v0 at K0 B0 ⊢
  refine (HNB.out v0 B0.out).mono ?_
  rintro e w1 ⟨rfl, hb⟩
  have K1 := Lib.hid (K0.out.below hb K0.out.lt)
  have B1 := Lib.hid (below_then B0.out (Nat.le_refl _) hb)
  clear hb K0 B0
  go_wp2_with fail
  generalize w1 = v1 at K1 B1 ⊢
  rw [← drawn_eq 2]
  refine wp_region_grow_tail 16 (by kernel_rfl) [(Is (.pointer (some ⟨w.heap.size, 0, none⟩))), (Is (.int .u8 5)), (Is (.bool true)), (Is (.bool true)), (Is (.pointer (some ⟨w.heap.size, 0, none⟩))), (Is (.int .u8 5)), (Is (.bool false)), (Is (.bool false)), (Is (.bool false)), (Is (.pointer (some ⟨w.heap.size, 0, none⟩))), (Is (.int .u8 5)), (Is (.int .i64 sq)), (NewAgg 5 w.heap.size Y.length Y (fun s => .agg #[.int .u8 ((5 : UInt8).toNat : Int), .int .u8 ((0 : UInt8).toNat : Int), s])), (Is (.agg #[.int .u8 5, .int .u8 (f.toNat : Int), .slice A n c])), (Is (.bool false)), (Is (.bool true))] rfl ?_ (by kernel_rfl) (by kernel_rfl) ?_ ?_
  · intro p hp
    simp only [List.mem_cons, List.not_mem_nil, or_false] at hp
    rcases hp with rfl | rfl | rfl | rfl | rfl | rfl | rfl | rfl | rfl | rfl | rfl | rfl | rfl | rfl | rfl | rfl
    · exact Lasts.is _
    · exact Lasts.is _
    · exact Lasts.is _
    · exact Lasts.is _
    · exact Lasts.is _
    · exact Lasts.is _
    · exact Lasts.is _
    · exact Lasts.is _
    · exact Lasts.is _
    · exact Lasts.is _
    · exact Lasts.is _
    · exact Lasts.is _
    · exact Lasts.newAgg _ _ _ _ _
    · exact Lasts.is _
    · exact Lasts.is _
    · exact Lasts.is _
  · refine ⟨?_, ?_, ?_, ?_, ?_, ?_, ?_, ?_, ?_, ?_, ?_, ?_, ?_, ?_, ?_, ?_, trivial⟩
    · intro listed a w1 hl hc
      have h1 : a.tmps[1]?.getD undef = .pointer (some ⟨w.heap.size, 0, none⟩) := (hc.was 1 (by kernel_rfl)).trans rfl
      refine does_value rfl rfl (.pointer (some ⟨w.heap.size, 0, none⟩)) w1 ?_ (Below.refl _ _) rfl
      clear hc hl
      go_simp
    · intro listed a w1 hl hc
      have h9 : a.tmps[9]?.getD undef = .pointer (some ⟨w.heap.size, 0, none⟩) := hc.dep hl 0 9 rfl (by kernel_rfl)
      have kb := K1.out.below hc.g K1.out.lt
      have x0 : w1.cell? ⟨w.heap.size, 0, none⟩ = some (.int .u8 5) := kb.cell 0
      clear kb
      refine does_value rfl rfl (.int .u8 5) w1 ?_ (Below.refl _ _) rfl
      clear hc hl
      go_simp
    · intro listed a w1 hl hc
      have h10 : a.tmps[10]?.getD undef = .int .u8 5 := hc.dep hl 1 10 rfl (by kernel_rfl)
      refine does_value rfl rfl (.bool true) w1 ?_ (Below.refl _ _) rfl
      clear hc hl
      go_simp
    · intro listed a w1 hl hc
      have h11 : a.tmps[11]?.getD undef = .bool true := hc.dep hl 2 11 rfl (by kernel_rfl)
      refine does_value rfl rfl (.bool true) w1 ?_ (Below.refl _ _) rfl
      clear hc hl
      go_simp
    · intro listed a w1 hl hc
      have h1 : a.tmps[1]?.getD undef = .pointer (some ⟨w.heap.size, 0, none⟩) := (hc.was 1 (by kernel_rfl)).trans rfl
      refine does_value rfl (wanted_at rfl rfl (hc.dep hl 3 12 rfl (by kernel_rfl))) (.pointer (some ⟨w.heap.size, 0, none⟩)) w1 ?_ (Below.refl _ _) rfl
      clear hc hl
      go_simp
    · intro listed a w1 hl hc
      have h13 : a.tmps[13]?.getD undef = .pointer (some ⟨w.heap.size, 0, none⟩) := hc.dep hl 4 13 rfl (by kernel_rfl)
      have kb := K1.out.below hc.g K1.out.lt
      have x0 : w1.cell? ⟨w.heap.size, 0, none⟩ = some (.int .u8 5) := kb.cell 0
      clear kb
      refine does_value rfl (wanted_at rfl rfl (hc.dep hl 3 12 rfl (by kernel_rfl))) (.int .u8 5) w1 ?_ (Below.refl _ _) rfl
      clear hc hl
      go_simp
    · intro listed a w1 hl hc
      have h14 : a.tmps[14]?.getD undef = .int .u8 5 := hc.dep hl 5 14 rfl (by kernel_rfl)
      refine does_value rfl (wanted_at rfl rfl (hc.dep hl 3 12 rfl (by kernel_rfl))) (.bool false) w1 ?_ (Below.refl _ _) rfl
      clear hc hl
      go_simp
    · intro listed a w1 hl hc
      have h12 : a.tmps[12]?.getD undef = .bool true := hc.dep hl 3 12 rfl (by kernel_rfl)
      have h15 : a.tmps[15]?.getD undef = .bool false := hc.dep hl 6 15 rfl (by kernel_rfl)
      refine does_value rfl rfl (.bool false) w1 ?_ (Below.refl _ _) rfl
      clear hc hl
      go_simp
    · intro listed a w1 hl hc
      have h16 : a.tmps[16]?.getD undef = .bool false := hc.dep hl 7 16 rfl (by kernel_rfl)
      refine does_value rfl rfl (.bool false) w1 ?_ (Below.refl _ _) rfl
      clear hc hl
      go_simp
    · intro listed a w1 hl hc
      have h1 : a.tmps[1]?.getD undef = .pointer (some ⟨w.heap.size, 0, none⟩) := (hc.was 1 (by kernel_rfl)).trans rfl
      refine does_value rfl (wanted_at rfl rfl (hc.dep hl 8 17 rfl (by kernel_rfl))) (.pointer (some ⟨w.heap.size, 0, none⟩)) w1 ?_ (Below.refl _ _) rfl
      clear hc hl
      go_simp
    · intro listed a w1 hl hc
      have h18 : a.tmps[18]?.getD undef = .pointer (some ⟨w.heap.size, 0, none⟩) := hc.dep hl 9 18 rfl (by kernel_rfl)
      have kb := K1.out.below hc.g K1.out.lt
      have x0 : w1.cell? ⟨w.heap.size, 0, none⟩ = some (.int .u8 5) := kb.cell 0
      clear kb
      refine does_value rfl (wanted_at rfl rfl (hc.dep hl 8 17 rfl (by kernel_rfl))) (.int .u8 5) w1 ?_ (Below.refl _ _) rfl
      clear hc hl
      go_simp
    · intro listed a w1 hl hc
      have h4 : a.tmps[4]?.getD undef = .int .i64 sq := (hc.was 4 (by kernel_rfl)).trans rfl
      refine does_value rfl (wanted_at rfl rfl (hc.dep hl 8 17 rfl (by kernel_rfl))) (.int .i64 sq) w1 ?_ (Below.refl _ _) rfl
      clear hc hl
      go_simp
    · intro listed a w1 hl hc
      have h19 : a.tmps[19]?.getD undef = .int .u8 5 := hc.dep hl 10 19 rfl (by kernel_rfl)
      have h20 : a.tmps[20]?.getD undef = .int .i64 sq := hc.dep hl 11 20 rfl (by kernel_rfl)
      refine does_call rfl (wanted_at rfl rfl (hc.dep hl 8 17 rfl (by kernel_rfl))) 44 #[.int .u8 5, .int .i64 sq] ?_ ((HPT.out w1).mono fun e w' ⟨A9, c9, he, ho, hb⟩ => ⟨_, he, hb, A9, c9, rfl, ho.more (Nat.le_trans B1.out.size hc.g.size)⟩)
      clear hc hl
      go_simp
    · intro listed a w1 hl hc
      have h1 : a.tmps[1]?.getD undef = .pointer (some ⟨w.heap.size, 0, none⟩) := (hc.was 1 (by kernel_rfl)).trans rfl
      have kb := K1.out.below hc.g K1.out.lt
      have x0 : w1.cell? ⟨w.heap.size, 0, none⟩ = some (.int .u8 5) := kb.cell 0
      have x1 : w1.cell? ⟨w.heap.size, 1, none⟩ = some (.int .u8 (f.toNat : Int)) := kb.cell 1
      have x2 : w1.cell? ⟨w.heap.size, 2, none⟩ = some (.slice A n c) := kb.cell 2
      clear kb
      refine does_value rfl (wanted_at rfl rfl (hc.dep hl 8 17 rfl (by kernel_rfl))) (.agg #[.int .u8 5, .int .u8 (f.toNat : Int), .slice A n c]) w1 ?_ (Below.refl _ _) rfl
      clear hc hl
      go_simp
    · intro listed a w1 hl hc
      obtain ⟨A21, c21, h21, ho21⟩ := hc.dep hl 12 21 rfl (by kernel_rfl)
      have h22 : a.tmps[22]?.getD undef = .agg #[.int .u8 5, .int .u8 (f.toNat : Int), .slice A n c] := hc.dep hl 13 22 rfl (by kernel_rfl)
      refine does_call rfl (wanted_at rfl rfl (hc.dep hl 8 17 rfl (by kernel_rfl))) 18 #[.agg #[.int .u8 ((5 : UInt8).toNat : Int), .int .u8 ((0 : UInt8).toNat : Int), .slice A21 Y.length c21], .agg #[.int .u8 5, .int .u8 (f.toNat : Int), .slice A n c]] ?_ ((HSM.out w1 _ _ (B1.out.trans (hc.g.mono B1.out.size)) ho21).mono fun e w' ⟨he, hb⟩ => ⟨_, he, hb, rfl⟩)
      clear hc hl
      go_simp
    · intro listed a w1 hl hc
      have h23 : a.tmps[23]?.getD undef = .bool false := hc.dep hl 14 23 rfl (by kernel_rfl)
      refine does_value rfl (wanted_at rfl rfl (hc.dep hl 8 17 rfl (by kernel_rfl))) (.bool true) w1 ?_ (Below.refl _ _) rfl
      clear hc hl
      go_simp
  intro w2 hb2
  rintro _ rfl _ rfl _ rfl _ rfl _ rfl _ rfl _ rfl _ rfl _ rfl _ rfl _ rfl _ rfl _ ⟨A21, c21, rfl, ho21⟩ _ rfl _ rfl _ rfl
  simp only [Thus, List.reverse_cons, List.reverse_nil, List.nil_append, List.cons_append, List.drop, List.take, lay]
  go_frame
  have B2 := Lib.hid (below_then B1.out (Nat.le_refl _) hb2)
  clear hb2
  go_wp2_with fail
  go_ret2
  exact ⟨rfl, B2.out⟩
set_option maxRecDepth 100000 in
set_option maxHeartbeats 4000000 in
theorem refGetTime_five_yes (f : UInt8) (A : Option Addr) (n c : Nat) (xs : List UInt8) (w : World) (hn : n ≤ 140737488355200) (hc : n ≤ c) (hcm : c ≤ maxLen) (hx : xs.length = n) (hr : Rd w w.heap.size A xs) (hok : okT 5 f xs = true) :
    Calls Try.prog 40 #[.agg #[.int .u8 5, .int .u8 (f.toNat : Int), .slice A n c]] w fun e w' => e = .returned (.tuple #[.int .i64 (ansT 5 f xs), .int .i64 (errOf (okT 5 f xs))]) ∧ Below w.heap.size w w' := by
  have hqb : numO xs 4 8 < 18446744073709551616 := numO_lt xs 4 8
  have hcv := conv_i64 (numO xs 4 8) hqb
  have HNB : Hid (∀ W, Below w.heap.size w W → Calls Try.prog 56 #[.slice A n c, .int .i64 4, .int .i64 8] W fun e w' => e = .returned (.int .u64 (numO xs 4 8)) ∧ Below W.heap.size W w') := Lib.hid fun W hW => number_any A n c 4 8 xs W (by unfold IsSize; omega) (by omega) (by omega) hc hcm hx ((hr.below hW).more hW.size)
  have hra : ansT 5 f xs = s64 (numO xs 4 8) := by simp [ansT, hok]
  rw [hok, hra]
  have hd : decide (((5 : UInt8) = 5) ∧ f = 0 ∧ xs = bodyT (numO xs 4 8)) = true := by rw [← hok]; simp [okT]
  have HSM := Lib.hid (sameR (c := c) (by omega) hx hr (hd))
  have HPT : Hid (∀ W, Puts 44 #[.int .u8 5, .int .i64 (s64 (numO xs 4 8))] 5 0 (bodyT (numO xs 4 8)) W) := Lib.hid fun W => by
    have := refPutTime_any 5 (s64 (numO xs 4 8)) (s64_bd hqb) W
    rwa [s64_back hqb] at this
  obtain ⟨Y, hY⟩ : ∃ Y, Y = bodyT (numO xs 4 8) := ⟨_, rfl⟩
  rw [← hY] at HSM HPT
  clear hY hd
  obtain ⟨q, hq⟩ : ∃ q, q = numO xs 4 8 := ⟨_, rfl⟩
  obtain ⟨sq, hsq⟩ : ∃ sq, sq = s64 q := ⟨_, rfl⟩
  rw [← hq] at HNB hcv hqb HPT ⊢
  rw [← hsq] at hcv HPT ⊢
  clear hq hsq hx hr hok hra
  have b0 : Blk (w.alloc (.cells #[.int .u8 5, .int .u8 (f.toNat : Int), .slice A n c] 28)) w.heap.size 28 #[.int .u8 5, .int .u8 (f.toNat : Int), .slice A n c] := Blk.new w 28 #[.int .u8 5, .int .u8 (f.toNat : Int), .slice A n c]
  have K0 := Lib.hid b0
  have B0 : Hid (Below w.heap.size w (w.alloc (.cells #[.int .u8 5, .int .u8 (f.toNat : Int), .slice A n c] 28))) := Lib.hid (Wr.below_ ((Wr.refl 5 w.heap.size w).alloc (.cells #[.int .u8 5, .int .u8 (f.toNat : Int), .slice A n c] 28)) (Nat.le_refl _))
  clear b0
  go_enter Try.func40, Try.ntmps40
  rw [drawn_eq 2]
  go_wp2_with fail
  generalize (w.alloc (.cells #[.int .u8 5, .int .u8 (f.toNat : Int), .slice A n c] 28)) = v0 at K0 B0 ⊢
  refine (HNB.out v0 B0.out).mono ?_
  rintro e w1 ⟨rfl, hb⟩
  have K1 := Lib.hid (K0.out.below hb K0.out.lt)
  have B1 := Lib.hid (below_then B0.out (Nat.le_refl _) hb)
  clear hb K0 B0
  go_wp2_with fail
  generalize w1 = v1 at K1 B1 ⊢
  rw [← drawn_eq 2]
  refine wp_region_grow_tail 16 (by kernel_rfl) [(Is (.pointer (some ⟨w.heap.size, 0, none⟩))), (Is (.int .u8 5)), (Is (.bool true)), (Is (.bool true)), (Is (.pointer (some ⟨w.heap.size, 0, none⟩))), (Is (.int .u8 5)), (Is (.bool false)), (Is (.bool false)), (Is (.bool false)), (Is (.pointer (some ⟨w.heap.size, 0, none⟩))), (Is (.int .u8 5)), (Is (.int .i64 sq)), (NewAgg 5 w.heap.size Y.length Y (fun s => .agg #[.int .u8 ((5 : UInt8).toNat : Int), .int .u8 ((0 : UInt8).toNat : Int), s])), (Is (.agg #[.int .u8 5, .int .u8 (f.toNat : Int), .slice A n c])), (Is (.bool true)), (Is (.bool false))] rfl ?_ (by kernel_rfl) (by kernel_rfl) ?_ ?_
  · intro p hp
    simp only [List.mem_cons, List.not_mem_nil, or_false] at hp
    rcases hp with rfl | rfl | rfl | rfl | rfl | rfl | rfl | rfl | rfl | rfl | rfl | rfl | rfl | rfl | rfl | rfl
    · exact Lasts.is _
    · exact Lasts.is _
    · exact Lasts.is _
    · exact Lasts.is _
    · exact Lasts.is _
    · exact Lasts.is _
    · exact Lasts.is _
    · exact Lasts.is _
    · exact Lasts.is _
    · exact Lasts.is _
    · exact Lasts.is _
    · exact Lasts.is _
    · exact Lasts.newAgg _ _ _ _ _
    · exact Lasts.is _
    · exact Lasts.is _
    · exact Lasts.is _
  · refine ⟨?_, ?_, ?_, ?_, ?_, ?_, ?_, ?_, ?_, ?_, ?_, ?_, ?_, ?_, ?_, ?_, trivial⟩
    · intro listed a w1 hl hc
      have h1 : a.tmps[1]?.getD undef = .pointer (some ⟨w.heap.size, 0, none⟩) := (hc.was 1 (by kernel_rfl)).trans rfl
      refine does_value rfl rfl (.pointer (some ⟨w.heap.size, 0, none⟩)) w1 ?_ (Below.refl _ _) rfl
      clear hc hl
      go_simp
    · intro listed a w1 hl hc
      have h9 : a.tmps[9]?.getD undef = .pointer (some ⟨w.heap.size, 0, none⟩) := hc.dep hl 0 9 rfl (by kernel_rfl)
      have kb := K1.out.below hc.g K1.out.lt
      have x0 : w1.cell? ⟨w.heap.size, 0, none⟩ = some (.int .u8 5) := kb.cell 0
      clear kb
      refine does_value rfl rfl (.int .u8 5) w1 ?_ (Below.refl _ _) rfl
      clear hc hl
      go_simp
    · intro listed a w1 hl hc
      have h10 : a.tmps[10]?.getD undef = .int .u8 5 := hc.dep hl 1 10 rfl (by kernel_rfl)
      refine does_value rfl rfl (.bool true) w1 ?_ (Below.refl _ _) rfl
      clear hc hl
      go_simp
    · intro listed a w1 hl hc
      have h11 : a.tmps[11]?.getD undef = .bool true := hc.dep hl 2 11 rfl (by kernel_rfl)
      refine does_value rfl rfl (.bool true) w1 ?_ (Below.refl _ _) rfl
      clear hc hl
      go_simp
    · intro listed a w1 hl hc
      have h1 : a.tmps[1]?.getD undef = .pointer (some ⟨w.heap.size, 0, none⟩) := (hc.was 1 (by kernel_rfl)).trans rfl
      refine does_value rfl (wanted_at rfl rfl (hc.dep hl 3 12 rfl (by kernel_rfl))) (.pointer (some ⟨w.heap.size, 0, none⟩)) w1 ?_ (Below.refl _ _) rfl
      clear hc hl
      go_simp
    · intro listed a w1 hl hc
      have h13 : a.tmps[13]?.getD undef = .pointer (some ⟨w.heap.size, 0, none⟩) := hc.dep hl 4 13 rfl (by kernel_rfl)
      have kb := K1.out.below hc.g K1.out.lt
      have x0 : w1.cell? ⟨w.heap.size, 0, none⟩ = some (.int .u8 5) := kb.cell 0
      clear kb
      refine does_value rfl (wanted_at rfl rfl (hc.dep hl 3 12 rfl (by kernel_rfl))) (.int .u8 5) w1 ?_ (Below.refl _ _) rfl
      clear hc hl
      go_simp
    · intro listed a w1 hl hc
      have h14 : a.tmps[14]?.getD undef = .int .u8 5 := hc.dep hl 5 14 rfl (by kernel_rfl)
      refine does_value rfl (wanted_at rfl rfl (hc.dep hl 3 12 rfl (by kernel_rfl))) (.bool false) w1 ?_ (Below.refl _ _) rfl
      clear hc hl
      go_simp
    · intro listed a w1 hl hc
      have h12 : a.tmps[12]?.getD undef = .bool true := hc.dep hl 3 12 rfl (by kernel_rfl)
      have h15 : a.tmps[15]?.getD undef = .bool false := hc.dep hl 6 15 rfl (by kernel_rfl)
      refine does_value rfl rfl (.bool false) w1 ?_ (Below.refl _ _) rfl
      clear hc hl
      go_simp
    · intro listed a w1 hl hc
      have h16 : a.tmps[16]?.getD undef = .bool false := hc.dep hl 7 16 rfl (by kernel_rfl)
      refine does_value rfl rfl (.bool false) w1 ?_ (Below.refl _ _) rfl
      clear hc hl
      go_simp
    · intro listed a w1 hl hc
      have h1 : a.tmps[1]?.getD undef = .pointer (some ⟨w.heap.size, 0, none⟩) := (hc.was 1 (by kernel_rfl)).trans rfl
      refine does_value rfl (wanted_at rfl rfl (hc.dep hl 8 17 rfl (by kernel_rfl))) (.pointer (some ⟨w.heap.size, 0, none⟩)) w1 ?_ (Below.refl _ _) rfl
      clear hc hl
      go_simp
    · intro listed a w1 hl hc
      have h18 : a.tmps[18]?.getD undef = .pointer (some ⟨w.heap.size, 0, none⟩) := hc.dep hl 9 18 rfl (by kernel_rfl)
      have kb := K1.out.below hc.g K1.out.lt
      have x0 : w1.cell? ⟨w.heap.size, 0, none⟩ = some (.int .u8 5) := kb.cell 0
      clear kb
      refine does_value rfl (wanted_at rfl rfl (hc.dep hl 8 17 rfl (by kernel_rfl))) (.int .u8 5) w1 ?_ (Below.refl _ _) rfl
      clear hc hl
      go_simp
    · intro listed a w1 hl hc
      have h4 : a.tmps[4]?.getD undef = .int .i64 sq := (hc.was 4 (by kernel_rfl)).trans rfl
      refine does_value rfl (wanted_at rfl rfl (hc.dep hl 8 17 rfl (by kernel_rfl))) (.int .i64 sq) w1 ?_ (Below.refl _ _) rfl
      clear hc hl
      go_simp
    · intro listed a w1 hl hc
      have h19 : a.tmps[19]?.getD undef = .int .u8 5 := hc.dep hl 10 19 rfl (by kernel_rfl)
      have h20 : a.tmps[20]?.getD undef = .int .i64 sq := hc.dep hl 11 20 rfl (by kernel_rfl)
      refine does_call rfl (wanted_at rfl rfl (hc.dep hl 8 17 rfl (by kernel_rfl))) 44 #[.int .u8 5, .int .i64 sq] ?_ ((HPT.out w1).mono fun e w' ⟨A9, c9, he, ho, hb⟩ => ⟨_, he, hb, A9, c9, rfl, ho.more (Nat.le_trans B1.out.size hc.g.size)⟩)
      clear hc hl
      go_simp
    · intro listed a w1 hl hc
      have h1 : a.tmps[1]?.getD undef = .pointer (some ⟨w.heap.size, 0, none⟩) := (hc.was 1 (by kernel_rfl)).trans rfl
      have kb := K1.out.below hc.g K1.out.lt
      have x0 : w1.cell? ⟨w.heap.size, 0, none⟩ = some (.int .u8 5) := kb.cell 0
      have x1 : w1.cell? ⟨w.heap.size, 1, none⟩ = some (.int .u8 (f.toNat : Int)) := kb.cell 1
      have x2 : w1.cell? ⟨w.heap.size, 2, none⟩ = some (.slice A n c) := kb.cell 2
      clear kb
      refine does_value rfl (wanted_at rfl rfl (hc.dep hl 8 17 rfl (by kernel_rfl))) (.agg #[.int .u8 5, .int .u8 (f.toNat : Int), .slice A n c]) w1 ?_ (Below.refl _ _) rfl
      clear hc hl
      go_simp
    · intro listed a w1 hl hc
      obtain ⟨A21, c21, h21, ho21⟩ := hc.dep hl 12 21 rfl (by kernel_rfl)
      have h22 : a.tmps[22]?.getD undef = .agg #[.int .u8 5, .int .u8 (f.toNat : Int), .slice A n c] := hc.dep hl 13 22 rfl (by kernel_rfl)
      refine does_call rfl (wanted_at rfl rfl (hc.dep hl 8 17 rfl (by kernel_rfl))) 18 #[.agg #[.int .u8 ((5 : UInt8).toNat : Int), .int .u8 ((0 : UInt8).toNat : Int), .slice A21 Y.length c21], .agg #[.int .u8 5, .int .u8 (f.toNat : Int), .slice A n c]] ?_ ((HSM.out w1 _ _ (B1.out.trans (hc.g.mono B1.out.size)) ho21).mono fun e w' ⟨he, hb⟩ => ⟨_, he, hb, rfl⟩)
      clear hc hl
      go_simp
    · intro listed a w1 hl hc
      have h23 : a.tmps[23]?.getD undef = .bool true := hc.dep hl 14 23 rfl (by kernel_rfl)
      refine does_value rfl (wanted_at rfl rfl (hc.dep hl 8 17 rfl (by kernel_rfl))) (.bool false) w1 ?_ (Below.refl _ _) rfl
      clear hc hl
      go_simp
  intro w2 hb2
  rintro _ rfl _ rfl _ rfl _ rfl _ rfl _ rfl _ rfl _ rfl _ rfl _ rfl _ rfl _ rfl _ ⟨A21, c21, rfl, ho21⟩ _ rfl _ rfl _ rfl
  simp only [Thus, List.reverse_cons, List.reverse_nil, List.nil_append, List.cons_append, List.drop, List.take, lay]
  go_frame
  have B2 := Lib.hid (below_then B1.out (Nat.le_refl _) hb2)
  clear hb2
  go_wp2_with fail
  go_ret2
  exact ⟨rfl, B2.out⟩
theorem refGetTime_any (k f : UInt8) (A : Option Addr) (n c : Nat) (xs : List UInt8) (w : World) (hn : n ≤ 140737488355200) (hc : n ≤ c) (hcm : c ≤ maxLen) (hx : xs.length = n) (hr : Rd w w.heap.size A xs) :
    Calls Try.prog 40 #[.agg #[.int .u8 (k.toNat : Int), .int .u8 (f.toNat : Int), .slice A n c]] w fun e w' => e = .returned (.tuple #[.int .i64 (ansT k f xs), .int .i64 (errOf (okT k f xs))]) ∧ Below w.heap.size w w' := by
  by_cases h4 : k = 4
  · subst h4
    cases hok : okT 4 f xs
    · have := refGetTime_four_no f A n c xs w hn hc hcm hx hr hok
      rwa [hok] at this
    · have := refGetTime_four_yes f A n c xs w hn hc hcm hx hr hok
      rwa [hok] at this
  · by_cases h5 : k = 5
    · subst h5
      cases hok : okT 5 f xs
      · have := refGetTime_five_no f A n c xs w hn hc hcm hx hr hok
        rwa [hok] at this
      · have := refGetTime_five_yes f A n c xs w hn hc hcm hx hr hok
        rwa [hok] at this
    · exact refGetTime_bad k f A n c xs w hn hc hcm hx hr h4 h5
end Go.Proofs.Ytalgkokgaibloaa
