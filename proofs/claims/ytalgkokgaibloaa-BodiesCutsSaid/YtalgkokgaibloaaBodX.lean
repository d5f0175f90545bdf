/-
  Package bodies: GetCum, GetTime, GetData, GetInit.
-/
import Derived.Test.YtalgkokgaibloaaBodV
namespace Go.Proofs.Ytalgkokgaibloaa
open Go.RowKit
set_option linter.unusedVariables false

theorem decide_same (k f pk pf : UInt8) (xs ys : List UInt8) (r : Bool) (h : decide (k = pk ∧ f = pf ∧ xs = ys) = r) : decide (k = pk ∧ f = pf ∧ xs = ys) = r := h
theorem put_sub {f : FuncId} {args : Array Value} {k fl : UInt8} {ys : List UInt8} {w : World} (h : Puts f args k fl ys w) : Puts f args k fl ys w := h
theorem conv_i64 (q : Nat) (h : q < 18446744073709551616) : IntKind.i64.wrap (q : Int) = s64 q := by
  have h1 : (q : Int) % 18446744073709551616 = q := by omega
  by_cases hq : q < 9223372036854775808
  · have h2 : ¬ (9223372036854775808 : Int) ≤ q := by omega
    simp [IntKind.wrap, IntKind.signed, IntKind.bits, s64, hq, h1, h2]
  · have h2 : (9223372036854775808 : Int) ≤ q := by omega
    simp [IntKind.wrap, IntKind.signed, IntKind.bits, s64, hq, h1, h2]

set_option maxRecDepth 100000 in
set_option maxHeartbeats 4000000 in
theorem getTime1_any (k f : UInt8) (A : Option Addr) (n c q : Nat) (t : Int) (ht : -9223372036854775808 ≤ t ∧ t < 9223372036854775808) (w : World) (hq : Blk w q 28 #[.int .u8 (k.toNat : Int), .int .u8 (f.toNat : Int), .slice A n c]) :
    Puts 72 #[.int .i64 t, .pointer (some ⟨q, 0, none⟩)] k 0 (bodyT (t % 18446744073709551616).toNat) w := by
  refine puts_of ?_
  have hz := zero_chunk
  have HP : Hid (∀ W, Puts 43 #[.int .u8 (k.toNat : Int), .int .i64 t] k 0 (bodyT (t % 18446744073709551616).toNat) W) := Lib.hid fun W => putTime_any k t ht W
  obtain ⟨Y, hY⟩ : ∃ Y, Y = bodyT (t % 18446744073709551616).toNat := ⟨_, rfl⟩
  rw [← hY] at HP ⊢
  clear hY ht
  have b0 : Blk (w.alloc (.cells #[.int .u8 0, .int .u8 0, .slice none 0 0] 28)) w.heap.size 28 #[.int .u8 0, .int .u8 0, .slice none 0 0] := Blk.new w 28 #[.int .u8 0, .int .u8 0, .slice none 0 0]
  have K0 := Lib.hid b0
  have B0 : Hid (Below w.heap.size w (w.alloc (.cells #[.int .u8 0, .int .u8 0, .slice none 0 0] 28))) := Lib.hid (Wr.below_ ((Wr.refl 5 w.heap.size w).alloc (.cells #[.int .u8 0, .int .u8 0, .slice none 0 0] 28)) (Nat.le_refl _))
  clear b0
  have hql := hq.lt
  have hq0 := (hq.alloc (.cells #[.int .u8 0, .int .u8 0, .slice none 0 0] 28)).cell 0
  have hq0 : (w.alloc (.cells #[.int .u8 0, .int .u8 0, .slice none 0 0] 28)).cell? ⟨q, 0, none⟩ = some (.int .u8 (k.toNat : Int)) := hq0
  clear hq
  go_enter Try.func72, Try.ntmps72
  go_wp2_with fail
  generalize (w.alloc (.cells #[.int .u8 0, .int .u8 0, .slice none 0 0] 28)) = v0 at K0 B0 hq0 ⊢
  refine (HP.out v0).mono ?_
  rintro e w1 ⟨A1, c1, rfl, ho, hb⟩
  have K1 := Lib.hid (K0.out.below hb K0.out.lt)
  have B1 := Lib.hid (below_then B0.out (Nat.le_refl _) hb)
  have O1 := Lib.hid (ho.more B0.out.size)
  have y0 := K1.out.cell 0
  have y1 := K1.out.cell 1
  have y2 := K1.out.cell 2
  have z0 := K1.out.frozen 0
  have z1 := K1.out.frozen 1
  have z2 := K1.out.frozen 2
  clear ho hb hq0
  go_wp2_with fail
  have H3 := out3 O1.out K1.out (by decide) (.int .u8 (k.toNat : Int)) (.int .u8 0) (.slice A1 Y.length c1)
  exact bodyPost_ret (v := .agg #[.int .u8 (k.toNat : Int), .int .u8 0, .slice A1 Y.length c1]) (by simp [results, Try.results72, go_sem, H3.2.cell]) rfl ⟨A1, _, c1, rfl, H3.1, below3 B1.out (by omega) _ _ _⟩
theorem putInit_any (k : UInt8) (tag rwnd out in_ tsn : Nat) (cookie : List UInt8) (h1 : tag < 4294967296) (h2 : rwnd < 4294967296) (h3 : out < 65536) (h4 : in_ < 65536) (h5 : tsn < 4294967296) (A : Option Addr) (n c : Nat) (w : World) (hn : n ≤ 140737488355200) (hx : cookie.length = n) (hr : Rd w w.heap.size A cookie) :
    Puts 23 #[.int .u8 (k.toNat : Int), .agg #[.int .u32 tag, .int .u32 rwnd, .int .u16 out, .int .u16 in_, .int .u32 tsn, .slice A n c]] k 0 (bodyI k ⟨tag, rwnd, out, in_, tsn, cookie⟩) w := by
  by_cases hk : k = 2
  · subst hk
    exact putInit_ack tag rwnd out in_ tsn cookie h1 h2 h3 h4 h5 A n c w hn hx hr
  · exact putInit_no k hk tag rwnd out in_ tsn cookie h1 h2 h3 h4 h5 A n c w hn hx hr
set_option maxRecDepth 100000 in
set_option maxHeartbeats 4000000 in
theorem getInit1_any (k f : UInt8) (A : Option Addr) (n c q : Nat) (tag rwnd out in_ tsn : Nat) (cookie : List UInt8) (h1 : tag < 4294967296) (h2 : rwnd < 4294967296) (h3 : out < 65536) (h4 : in_ < 65536) (h5 : tsn < 4294967296) (Ax : Option Addr) (nx cx : Nat) (w : World) (hn : nx ≤ 140737488355200) (hx : cookie.length = nx) (hr : Rd w w.heap.size Ax cookie) (hq : Blk w q 28 #[.int .u8 (k.toNat : Int), .int .u8 (f.toNat : Int), .slice A n c]) :
    Puts 62 #[.agg #[.int .u32 tag, .int .u32 rwnd, .int .u16 out, .int .u16 in_, .int .u32 tsn, .slice Ax nx cx], .pointer (some ⟨q, 0, none⟩)] k 0 (bodyI k ⟨tag, rwnd, out, in_, tsn, cookie⟩) w := by
  refine puts_of ?_
  have hz := zero_chunk
  have HP : Hid (∀ W, Below w.heap.size w W → Puts 23 #[.int .u8 (k.toNat : Int), .agg #[.int .u32 tag, .int .u32 rwnd, .int .u16 out, .int .u16 in_, .int .u32 tsn, .slice Ax nx cx]] k 0 (bodyI k ⟨tag, rwnd, out, in_, tsn, cookie⟩) W) := Lib.hid fun W hW => putInit_any k tag rwnd out in_ tsn cookie h1 h2 h3 h4 h5 Ax nx cx W hn hx ((hr.below hW).more hW.size)
  obtain ⟨Y, hY⟩ : ∃ Y, Y = bodyI k ⟨tag, rwnd, out, in_, tsn, cookie⟩ := ⟨_, rfl⟩
  rw [← hY] at HP ⊢
  clear hY hr hx
  have b0 : Blk (w.alloc (.cells #[.int .u32 tag, .int .u32 rwnd, .int .u16 out, .int .u16 in_, .int .u32 tsn, .slice Ax nx cx] 43)) w.heap.size 43 #[.int .u32 tag, .int .u32 rwnd, .int .u16 out, .int .u16 in_, .int .u32 tsn, .slice Ax nx cx] := Blk.new w 43 #[.int .u32 tag, .int .u32 rwnd, .int .u16 out, .int .u16 in_, .int .u32 tsn, .slice Ax nx cx]
  have b1 : Blk ((w.alloc (.cells #[.int .u32 tag, .int .u32 rwnd, .int .u16 out, .int .u16 in_, .int .u32 tsn, .slice Ax nx cx] 43)).alloc (.cells #[.int .u8 0, .int .u8 0, .slice none 0 0] 28)) (w.heap.size + 1) 28 #[.int .u8 0, .int .u8 0, .slice none 0 0] := by simpa using Blk.new (w.alloc (.cells #[.int .u32 tag, .int .u32 rwnd, .int .u16 out, .int .u16 in_, .int .u32 tsn, .slice Ax nx cx] 43)) 28 #[.int .u8 0, .int .u8 0, .slice none 0 0]
  have K0 := Lib.hid (b0.alloc (.cells #[.int .u8 0, .int .u8 0, .slice none 0 0] 28))
  have K1 := Lib.hid b1
  have B0 : Hid (Below w.heap.size w ((w.alloc (.cells #[.int .u32 tag, .int .u32 rwnd, .int .u16 out, .int .u16 in_, .int .u32 tsn, .slice Ax nx cx] 43)).alloc (.cells #[.int .u8 0, .int .u8 0, .slice none 0 0] 28))) := Lib.hid (Wr.below_ (((Wr.refl 5 w.heap.size w).alloc (.cells #[.int .u32 tag, .int .u32 rwnd, .int .u16 out, .int .u16 in_, .int .u32 tsn, .slice Ax nx cx] 43)).alloc (.cells #[.int .u8 0, .int .u8 0, .slice none 0 0] 28)) (Nat.le_refl _))
  clear b0 b1
  have hql := hq.lt
  have hq0 := ((hq.alloc (.cells #[.int .u32 tag, .int .u32 rwnd, .int .u16 out, .int .u16 in_, .int .u32 tsn, .slice Ax nx cx] 43)).alloc (.cells #[.int .u8 0, .int .u8 0, .slice none 0 0] 28)).cell 0
  have hq0 : ((w.alloc (.cells #[.int .u32 tag, .int .u32 rwnd, .int .u16 out, .int .u16 in_, .int .u32 tsn, .slice Ax nx cx] 43)).alloc (.cells #[.int .u8 0, .int .u8 0, .slice none 0 0] 28)).cell? ⟨q, 0, none⟩ = some (.int .u8 (k.toNat : Int)) := hq0
  clear hq
  go_enter Try.func62, Try.ntmps62
  go_wp2_with fail
  generalize ((w.alloc (.cells #[.int .u32 tag, .int .u32 rwnd, .int .u16 out, .int .u16 in_, .int .u32 tsn, .slice Ax nx cx] 43)).alloc (.cells #[.int .u8 0, .int .u8 0, .slice none 0 0] 28)) = v0 at K0 K1 B0 hq0 ⊢
  refine (HP.out v0 B0.out).mono ?_
  rintro e w1 ⟨A1, c1, rfl, ho, hb⟩
  have K2 := Lib.hid (K1.out.below hb K1.out.lt)
  have B1 := Lib.hid (below_then B0.out (Nat.le_refl _) hb)
  have O1 := Lib.hid (ho.more B0.out.size)
  have y0 := K2.out.cell 0
  have y1 := K2.out.cell 1
  have y2 := K2.out.cell 2
  have z0 := K2.out.frozen 0
  have z1 := K2.out.frozen 1
  have z2 := K2.out.frozen 2
  clear ho hb hq0
  go_wp2_with fail
  have H3 := out3 O1.out K2.out (by decide) (.int .u8 (k.toNat : Int)) (.int .u8 0) (.slice A1 Y.length c1)
  exact bodyPost_ret (v := .agg #[.int .u8 (k.toNat : Int), .int .u8 0, .slice A1 Y.length c1]) (by simp [results, Try.results62, go_sem, H3.2.cell]) rfl ⟨A1, _, c1, rfl, H3.1, below3 B1.out (by omega) _ _ _⟩
set_option maxRecDepth 100000 in
set_option maxHeartbeats 4000000 in
theorem getCum_any (k f : UInt8) (A : Option Addr) (n c : Nat) (xs : List UInt8) (w : World) (hn : n ≤ 140737488355200) (hc : n ≤ c) (hcm : c ≤ maxLen) (hx : xs.length = n) (hr : Rd w w.heap.size A xs) :
    Calls Try.prog 41 #[.agg #[.int .u8 (k.toNat : Int), .int .u8 (f.toNat : Int), .slice A n c]] w fun e w' => e = .returned (.tuple #[.int .u32 (ansC k f xs), .int .i64 (errOf (okC k f xs))]) ∧ Below w.heap.size w w' := by
  have hqb : numO xs 0 4 < 4294967296 := numO_lt xs 0 4
  have HWD : Hid (∀ W, Below w.heap.size w W → Calls Try.prog 52 #[.slice A n c, .int .i64 0] W fun e w' => e = .returned (.int .u32 (numO xs 0 4)) ∧ Below W.heap.size W w') := Lib.hid fun W hW => (word_any A n c 0 xs W (by omega) (by omega) hx ((hr.below hW).more hW.size)).mono fun e w' ⟨he, hw⟩ => ⟨he, hw ▸ Below.refl _ _⟩
  have HCK : Hid (∀ W, Below w.heap.size w W → Calls Try.prog 74 #[.agg #[.int .u8 (k.toNat : Int), .int .u8 (f.toNat : Int), .slice A n c], .int .u32 (numO xs 0 4), .bool true, .func (.func 45) #[] #[]] W fun e w' => e = .returned (.tuple #[.int .u32 (ansC k f xs), .int .i64 (errOf (okC k f xs))]) ∧ Below W.heap.size W w') := Lib.hid fun W hW => by
    cases hok : okC k f xs
    · have := checkedC_no k f A n c (numO xs 0 4) xs (enc (numO xs 0 4) 4) 7 0 W hx ((hr.below hW).more hW.size) hok (fun W2 _ => putCum_any (numO xs 0 4) hqb W2)
      simpa [ansC, hok, errOf] using this
    · have := checkedC_yes k f A n c (numO xs 0 4) xs (enc (numO xs 0 4) 4) 7 0 W hx ((hr.below hW).more hW.size) hok (fun W2 _ => putCum_any (numO xs 0 4) hqb W2)
      simpa [ansC, hok, errOf] using this
  obtain ⟨q, hq⟩ : ∃ q, q = numO xs 0 4 := ⟨_, rfl⟩
  rw [← hq] at HWD HCK
  obtain ⟨ra, hra⟩ : ∃ ra, ra = ansC k f xs := ⟨_, rfl⟩
  obtain ⟨re, hre⟩ : ∃ re, re = errOf (okC k f xs) := ⟨_, rfl⟩
  rw [← hra, ← hre] at HCK ⊢
  clear hq hra hre hqb hx hr
  have b0 : Blk (w.alloc (.cells #[.int .u8 (k.toNat : Int), .int .u8 (f.toNat : Int), .slice A n c] 28)) w.heap.size 28 #[.int .u8 (k.toNat : Int), .int .u8 (f.toNat : Int), .slice A n c] := Blk.new w 28 #[.int .u8 (k.toNat : Int), .int .u8 (f.toNat : Int), .slice A n c]
  have K0 := Lib.hid b0
  have B0 : Hid (Below w.heap.size w (w.alloc (.cells #[.int .u8 (k.toNat : Int), .int .u8 (f.toNat : Int), .slice A n c] 28))) := Lib.hid (Wr.below_ ((Wr.refl 5 w.heap.size w).alloc (.cells #[.int .u8 (k.toNat : Int), .int .u8 (f.toNat : Int), .slice A n c] 28)) (Nat.le_refl _))
  clear b0
  go_enter Try.func41, Try.ntmps41
  rw [drawn_eq 1]
  go_wp2_with fail
  generalize (w.alloc (.cells #[.int .u8 (k.toNat : Int), .int .u8 (f.toNat : Int), .slice A n c] 28)) = v0 at K0 B0 ⊢
  rw [← drawn_eq 1]
  refine wp_region_grow_tail 7 (by kernel_rfl) [(Is (.agg #[.int .u8 (k.toNat : Int), .int .u8 (f.toNat : Int), .slice A n c])), (Is (.pointer (some ⟨w.heap.size, 2, none⟩))), (Is (.slice A n c)), (Is (.int .u32 q)), (Is (.tuple #[.int .u32 ra, .int .i64 re])), (Is (.int .u32 ra)), (Is (.int .i64 re))] rfl ?_ (by kernel_rfl) (by kernel_rfl) ?_ ?_
  · intro p hp
    simp only [List.mem_cons, List.not_mem_nil, or_false] at hp
    rcases hp with rfl | rfl | rfl | rfl | rfl | rfl | rfl
    · exact Lasts.is _
    · exact Lasts.is _
    · exact Lasts.is _
    · exact Lasts.is _
    · exact Lasts.is _
    · exact Lasts.is _
    · exact Lasts.is _
  · refine ⟨?_, ?_, ?_, ?_, ?_, ?_, ?_, trivial⟩
    · intro listed a w1 hl hc
      have h1 : a.tmps[1]?.getD undef = .pointer (some ⟨w.heap.size, 0, none⟩) := (hc.was 1 (by kernel_rfl)).trans rfl
      have kb := K0.out.below hc.g K0.out.lt
      have x0 : w1.cell? ⟨w.heap.size, 0, none⟩ = some (.int .u8 (k.toNat : Int)) := kb.cell 0
      have x1 : w1.cell? ⟨w.heap.size, 1, none⟩ = some (.int .u8 (f.toNat : Int)) := kb.cell 1
      have x2 : w1.cell? ⟨w.heap.size, 2, none⟩ = some (.slice A n c) := kb.cell 2
      clear kb
      refine does_value rfl rfl (.agg #[.int .u8 (k.toNat : Int), .int .u8 (f.toNat : Int), .slice A n c]) w1 ?_ (Below.refl _ _) rfl
      clear hc hl
      go_simp
    · intro listed a w1 hl hc
      have h1 : a.tmps[1]?.getD undef = .pointer (some ⟨w.heap.size, 0, none⟩) := (hc.was 1 (by kernel_rfl)).trans rfl
      refine does_value rfl rfl (.pointer (some ⟨w.heap.size, 2, none⟩)) w1 ?_ (Below.refl _ _) rfl
      clear hc hl
      go_simp
    · intro listed a w1 hl hc
      have h5 : a.tmps[5]?.getD undef = .pointer (some ⟨w.heap.size, 2, none⟩) := hc.dep hl 1 5 rfl (by kernel_rfl)
      have kb := K0.out.below hc.g K0.out.lt
      have x2 : w1.cell? ⟨w.heap.size, 2, none⟩ = some (.slice A n c) := kb.cell 2
      clear kb
      refine does_value rfl rfl (.slice A n c) w1 ?_ (Below.refl _ _) rfl
      clear hc hl
      go_simp
    · intro listed a w1 hl hc
      have h6 : a.tmps[6]?.getD undef = .slice A n c := hc.dep hl 2 6 rfl (by kernel_rfl)
      refine does_call rfl rfl 52 #[.slice A n c, .int .i64 0] ?_ ((HWD.out w1 (B0.out.trans (hc.g.mono B0.out.size))).mono fun e w' ⟨he, hb⟩ => ⟨_, he, hb, rfl⟩)
      clear hc hl
      go_simp
    · intro listed a w1 hl hc
      have h4 : a.tmps[4]?.getD undef = .agg #[.int .u8 (k.toNat : Int), .int .u8 (f.toNat : Int), .slice A n c] := hc.dep hl 0 4 rfl (by kernel_rfl)
      have h7 : a.tmps[7]?.getD undef = .int .u32 q := hc.dep hl 3 7 rfl (by kernel_rfl)
      refine does_call rfl rfl 74 #[.agg #[.int .u8 (k.toNat : Int), .int .u8 (f.toNat : Int), .slice A n c], .int .u32 q, .bool true, .func (.func 45) #[] #[]] ?_ ((HCK.out w1 (B0.out.trans (hc.g.mono B0.out.size))).mono fun e w' ⟨he, hb⟩ => ⟨_, he, hb, rfl⟩)
      clear hc hl
      go_simp
    · intro listed a w1 hl hc
      have h8 : a.tmps[8]?.getD undef = .tuple #[.int .u32 ra, .int .i64 re] := hc.dep hl 4 8 rfl (by kernel_rfl)
      refine does_value rfl rfl (.int .u32 ra) w1 ?_ (Below.refl _ _) rfl
      clear hc hl
      go_simp
    · intro listed a w1 hl hc
      have h8 : a.tmps[8]?.getD undef = .tuple #[.int .u32 ra, .int .i64 re] := hc.dep hl 4 8 rfl (by kernel_rfl)
      refine does_value rfl rfl (.int .i64 re) w1 ?_ (Below.refl _ _) rfl
      clear hc hl
      go_simp
  intro w2 hb2
  rintro _ rfl _ rfl _ rfl _ rfl _ rfl _ rfl _ rfl
  simp only [Thus, List.reverse_cons, List.reverse_nil, List.nil_append, List.cons_append, List.drop, List.take, lay]
  go_frame
  have B2 := below_then B0.out (Nat.le_refl _) hb2
  clear hb2
  go_wp2_with fail
  go_ret2
  exact ⟨rfl, B2⟩
set_option maxRecDepth 100000 in
set_option maxHeartbeats 4000000 in
theorem getTime_bad (k f : UInt8) (A : Option Addr) (n c : Nat) (xs : List UInt8) (w : World) (hn : n ≤ 140737488355200) (hc : n ≤ c) (hcm : c ≤ maxLen) (hx : xs.length = n) (hr : Rd w w.heap.size A xs) (hk4 : k ≠ 4) (hk5 : k ≠ 5) :
    Calls Try.prog 39 #[.agg #[.int .u8 (k.toNat : Int), .int .u8 (f.toNat : Int), .slice A n c]] w fun e w' => e = .returned (.tuple #[.int .i64 (ansT k f xs), .int .i64 (errOf (okT k f xs))]) ∧ Below w.heap.size w w' := by
  have hqb : numO xs 4 8 < 18446744073709551616 := numO_lt xs 4 8
  have hcv := conv_i64 (numO xs 4 8) hqb
  have HGT : Hid (Calls Try.prog 71 #[.slice A n c, .int .i64 4, .int .i64 8] (w.alloc (.cells #[.int .u8 (k.toNat : Int), .int .u8 (f.toNat : Int), .slice A n c] 28)) fun e w' => ∃ x : Int, e = .returned (.tuple #[.int .u64 (numO xs 4 8), .int .i64 x]) ∧ (w.alloc (.cells #[.int .u8 (k.toNat : Int), .int .u8 (f.toNat : Int), .slice A n c] 28)) = w') := Lib.hid (by
    by_cases h : 4 + 8 ≤ n
    · rw [numO_in (by omega)]
      exact (get_yes w.heap.size A n c 4 8 xs _ (by unfold maxLen; omega) hx (hr.alloc (Nat.le_refl _) _) (.inr (.inr (.inr rfl))) h).mono fun e w' ⟨he, hw⟩ => ⟨_, he, hw⟩
    · rw [numO_out (by omega)]
      exact (get_no A n c 4 8 _ (by unfold maxLen; omega) (fun ⟨_, h1, h2, h3, h4⟩ => by omega)).mono fun e w' ⟨he, hw⟩ => ⟨_, he, hw⟩)
  have hok : okT k f xs = false := by simp [okT, hk4, hk5]
  have hra : ansT k f xs = 0 := by simp [ansT, hok]
  rw [hok, hra]
  have HCK : Hid (∀ W, Calls Try.prog 73 #[.agg #[.int .u8 (k.toNat : Int), .int .u8 (f.toNat : Int), .slice A n c], .int .i64 (s64 (numO xs 4 8)), .bool false, .func (.func 72) #[] #[.pointer (some ⟨w.heap.size, 0, none⟩)]] W fun e w' => e = .returned (.tuple #[.int .i64 0, .int .i64 7]) ∧ Below W.heap.size W w') := Lib.hid fun W => checkedT_off k f A n c (s64 (numO xs 4 8)) w.heap.size W
  have hk4b : ((k.toNat : Int) == 4) = false := kind_ne (m := 4) hk4
  have hk5b : ((k.toNat : Int) == 5) = false := kind_ne (m := 5) hk5
  clear hok hra hk4 hk5
  have hmf : ∀ (fn : Fn) (first cap : Array Value) (w : World), (Instr.makeFunc fn first cap).run Try.prog w = .ok (.func fn first cap) w := fun _ _ _ _ => rfl
  obtain ⟨q, hq⟩ : ∃ q, q = numO xs 4 8 := ⟨_, rfl⟩
  obtain ⟨sq, hsq⟩ : ∃ sq, sq = s64 q := ⟨_, rfl⟩
  rw [← hq] at HGT HCK hcv hqb
  rw [← hsq] at HCK hcv
  clear hq hsq hx hr
  have b0 : Blk (w.alloc (.cells #[.int .u8 (k.toNat : Int), .int .u8 (f.toNat : Int), .slice A n c] 28)) w.heap.size 28 #[.int .u8 (k.toNat : Int), .int .u8 (f.toNat : Int), .slice A n c] := Blk.new w 28 #[.int .u8 (k.toNat : Int), .int .u8 (f.toNat : Int), .slice A n c]
  have K0 := Lib.hid b0
  have B0 : Hid (Below w.heap.size w (w.alloc (.cells #[.int .u8 (k.toNat : Int), .int .u8 (f.toNat : Int), .slice A n c] 28))) := Lib.hid (Wr.below_ ((Wr.refl 5 w.heap.size w).alloc (.cells #[.int .u8 (k.toNat : Int), .int .u8 (f.toNat : Int), .slice A n c] 28)) (Nat.le_refl _))
  clear b0
  go_enter Try.func39, Try.ntmps39
  go_wp2_with fail
  generalize (w.alloc (.cells #[.int .u8 (k.toNat : Int), .int .u8 (f.toNat : Int), .slice A n c] 28)) = v0 at K0 B0 HGT ⊢
  refine HGT.out.mono ?_
  rintro e w1 ⟨x, rfl, rfl⟩
  have y0 := K0.out.cell 0
  have y1 := K0.out.cell 1
  have y2 := K0.out.cell 2
  go_wp2_with fail
  refine (HCK.out _).mono ?_
  rintro e w2 ⟨rfl, hb⟩
  go_wp2_with fail
  go_ret2
  exact ⟨rfl, below_then B0.out (Nat.le_refl _) hb⟩
set_option maxRecDepth 100000 in
set_option maxHeartbeats 4000000 in
theorem getTime_four (f : UInt8) (A : Option Addr) (n c : Nat) (xs : List UInt8) (w : World) (hn : n ≤ 140737488355200) (hc : n ≤ c) (hcm : c ≤ maxLen) (hx : xs.length = n) (hr : Rd w w.heap.size A xs) :
    Calls Try.prog 39 #[.agg #[.int .u8 4, .int .u8 (f.toNat : Int), .slice A n c]] w fun e w' => e = .returned (.tuple #[.int .i64 (ansT 4 f xs), .int .i64 (errOf (okT 4 f xs))]) ∧ Below w.heap.size w w' := by
  have hqb : numO xs 4 8 < 18446744073709551616 := numO_lt xs 4 8
  have hcv := conv_i64 (numO xs 4 8) hqb
  have HGT : Hid (Calls Try.prog 71 #[.slice A n c, .int .i64 4, .int .i64 8] (w.alloc (.cells #[.int .u8 4, .int .u8 (f.toNat : Int), .slice A n c] 28)) fun e w' => ∃ x : Int, e = .returned (.tuple #[.int .u64 (numO xs 4 8), .int .i64 x]) ∧ (w.alloc (.cells #[.int .u8 4, .int .u8 (f.toNat : Int), .slice A n c] 28)) = w') := Lib.hid (by
    by_cases h : 4 + 8 ≤ n
    · rw [numO_in (by omega)]
      exact (get_yes w.heap.size A n c 4 8 xs _ (by unfold maxLen; omega) hx (hr.alloc (Nat.le_refl _) _) (.inr (.inr (.inr rfl))) h).mono fun e w' ⟨he, hw⟩ => ⟨_, he, hw⟩
    · rw [numO_out (by omega)]
      exact (get_no A n c 4 8 _ (by unfold maxLen; omega) (fun ⟨_, h1, h2, h3, h4⟩ => by omega)).mono fun e w' ⟨he, hw⟩ => ⟨_, he, hw⟩)
  have HCK : Hid (∀ W, Below w.heap.size w W → Blk W w.heap.size 28 #[.int .u8 4, .int .u8 (f.toNat : Int), .slice A n c] → Calls Try.prog 73 #[.agg #[.int .u8 4, .int .u8 (f.toNat : Int), .slice A n c], .int .i64 (s64 (numO xs 4 8)), .bool true, .func (.func 72) #[] #[.pointer (some ⟨w.heap.size, 0, none⟩)]] W fun e w' => e = .returned (.tuple #[.int .i64 (ansT 4 f xs), .int .i64 (errOf (okT 4 f xs))]) ∧ Below W.heap.size W w') := Lib.hid fun W hW hB => by
    have hput : ∀ W2, Below W.heap.size W W2 → Puts 72 #[.int .i64 (s64 (numO xs 4 8)), .pointer (some ⟨w.heap.size, 0, none⟩)] 4 0 (bodyT (numO xs 4 8)) W2 := fun W2 h2 => by
      have := getTime1_any 4 f A n c w.heap.size (s64 (numO xs 4 8)) (s64_bd hqb) W2 (hB.below h2 hB.lt)
      rwa [s64_back hqb] at this
    have hd : decide (((4 : UInt8) = 4) ∧ f = 0 ∧ xs = bodyT (numO xs 4 8)) = okT 4 f xs := by simp [okT]
    cases hok : okT 4 f xs
    · rw [hok] at hd
      have := checkedT_no 4 f A n c (s64 (numO xs 4 8)) w.heap.size xs (bodyT (numO xs 4 8)) 4 0 W hx ((hr.below hW).more hW.size) hd hput
      simpa [ansT, hok, errOf] using this
    · rw [hok] at hd
      have := checkedT_yes 4 f A n c (s64 (numO xs 4 8)) w.heap.size xs (bodyT (numO xs 4 8)) 4 0 W hx ((hr.below hW).more hW.size) hd hput
      simpa [ansT, hok, errOf] using this
  obtain ⟨ra, hra⟩ : ∃ ra, ra = ansT 4 f xs := ⟨_, rfl⟩
  obtain ⟨re, hre⟩ : ∃ re, re = errOf (okT 4 f xs) := ⟨_, rfl⟩
  rw [← hra, ← hre] at HCK ⊢
  clear hra hre
  have hmf : ∀ (fn : Fn) (first cap : Array Value) (w : World), (Instr.makeFunc fn first cap).run Try.prog w = .ok (.func fn first cap) w := fun _ _ _ _ => rfl
  obtain ⟨q, hq⟩ : ∃ q, q = numO xs 4 8 := ⟨_, rfl⟩
  obtain ⟨sq, hsq⟩ : ∃ sq, sq = s64 q := ⟨_, rfl⟩
  rw [← hq] at HGT HCK hcv hqb
  rw [← hsq] at HCK hcv
  clear hq hsq hx hr
  have b0 : Blk (w.alloc (.cells #[.int .u8 4, .int .u8 (f.toNat : Int), .slice A n c] 28)) w.heap.size 28 #[.int .u8 4, .int .u8 (f.toNat : Int), .slice A n c] := Blk.new w 28 #[.int .u8 4, .int .u8 (f.toNat : Int), .slice A n c]
  have K0 := Lib.hid b0
  have B0 : Hid (Below w.heap.size w (w.alloc (.cells #[.int .u8 4, .int .u8 (f.toNat : Int), .slice A n c] 28))) := Lib.hid (Wr.below_ ((Wr.refl 5 w.heap.size w).alloc (.cells #[.int .u8 4, .int .u8 (f.toNat : Int), .slice A n c] 28)) (Nat.le_refl _))
  clear b0
  go_enter Try.func39, Try.ntmps39
  go_wp2_with fail
  generalize (w.alloc (.cells #[.int .u8 4, .int .u8 (f.toNat : Int), .slice A n c] 28)) = v0 at K0 B0 HGT ⊢
  refine HGT.out.mono ?_
  rintro e w1 ⟨x, rfl, rfl⟩
  have y0 := K0.out.cell 0
  have y1 := K0.out.cell 1
  have y2 := K0.out.cell 2
  go_wp2_with fail
  refine (HCK.out _ B0.out K0.out).mono ?_
  rintro e w2 ⟨rfl, hb⟩
  go_wp2_with fail
  go_ret2
  exact ⟨rfl, below_then B0.out (Nat.le_refl _) hb⟩
set_option maxRecDepth 100000 in
set_option maxHeartbeats 4000000 in
theorem getTime_five (f : UInt8) (A : Option Addr) (n c : Nat) (xs : List UInt8) (w : World) (hn : n ≤ 140737488355200) (hc : n ≤ c) (hcm : c ≤ maxLen) (hx : xs.length = n) (hr : Rd w w.heap.size A xs) :
    Calls Try.prog 39 #[.agg #[.int .u8 5, .int .u8 (f.toNat : Int), .slice A n c]] w fun e w' => e = .returned (.tuple #[.int .i64 (ansT 5 f xs), .int .i64 (errOf (okT 5 f xs))]) ∧ Below w.heap.size w w' := by
  have hqb : numO xs 4 8 < 18446744073709551616 := numO_lt xs 4 8
  have hcv := conv_i64 (numO xs 4 8) hqb
  have HGT : Hid (Calls Try.prog 71 #[.slice A n c, .int .i64 4, .int .i64 8] (w.alloc (.cells #[.int .u8 5, .int .u8 (f.toNat : Int), .slice A n c] 28)) fun e w' => ∃ x : Int, e = .returned (.tuple #[.int .u64 (numO xs 4 8), .int .i64 x]) ∧ (w.alloc (.cells #[.int .u8 5, .int .u8 (f.toNat : Int), .slice A n c] 28)) = w') := Lib.hid (by
    by_cases h : 4 + 8 ≤ n
    · rw [numO_in (by omega)]
      exact (get_yes w.heap.size A n c 4 8 xs _ (by unfold maxLen; omega) hx (hr.alloc (Nat.le_refl _) _) (.inr (.inr (.inr rfl))) h).mono fun e w' ⟨he, hw⟩ => ⟨_, he, hw⟩
    · rw [numO_out (by omega)]
      exact (get_no A n c 4 8 _ (by unfold maxLen; omega) (fun ⟨_, h1, h2, h3, h4⟩ => by omega)).mono fun e w' ⟨he, hw⟩ => ⟨_, he, hw⟩)
  have HCK : Hid (∀ W, Below w.heap.size w W → Blk W w.heap.size 28 #[.int .u8 5, .int .u8 (f.toNat : Int), .slice A n c] → Calls Try.prog 73 #[.agg #[.int .u8 5, .int .u8 (f.toNat : Int), .slice A n c], .int .i64 (s64 (numO xs 4 8)), .bool true, .func (.func 72) #[] #[.pointer (some ⟨w.heap.size, 0, none⟩)]] W fun e w' => e = .returned (.tuple #[.int .i64 (ansT 5 f xs), .int .i64 (errOf (okT 5 f xs))]) ∧ Below W.heap.size W w') := Lib.hid fun W hW hB => by
    have hput : ∀ W2, Below W.heap.size W W2 → Puts 72 #[.int .i64 (s64 (numO xs 4 8)), .pointer (some ⟨w.heap.size, 0, none⟩)] 5 0 (bodyT (numO xs 4 8)) W2 := fun W2 h2 => by
      have := getTime1_any 5 f A n c w.heap.size (s64 (numO xs 4 8)) (s64_bd hqb) W2 (hB.below h2 hB.lt)
      rwa [s64_back hqb] at this
    have hd : decide (((5 : UInt8) = 5) ∧ f = 0 ∧ xs = bodyT (numO xs 4 8)) = okT 5 f xs := by simp [okT]
    cases hok : okT 5 f xs
    · rw [hok] at hd
      have := checkedT_no 5 f A n c (s64 (numO xs 4 8)) w.heap.size xs (bodyT (numO xs 4 8)) 5 0 W hx ((hr.below hW).more hW.size) hd hput
      simpa [ansT, hok, errOf] using this
    · rw [hok] at hd
      have := checkedT_yes 5 f A n c (s64 (numO xs 4 8)) w.heap.size xs (bodyT (numO xs 4 8)) 5 0 W hx ((hr.below hW).more hW.size) hd hput
      simpa [ansT, hok, errOf] using this
  obtain ⟨ra, hra⟩ : ∃ ra, ra = ansT 5 f xs := ⟨_, rfl⟩
  obtain ⟨re, hre⟩ : ∃ re, re = errOf (okT 5 f xs) := ⟨_, rfl⟩
  rw [← hra, ← hre] at HCK ⊢
  clear hra hre
  have hmf : ∀ (fn : Fn) (first cap : Array Value) (w : World), (Instr.makeFunc fn first cap).run Try.prog w = .ok (.func fn first cap) w := fun _ _ _ _ => rfl
  obtain ⟨q, hq⟩ : ∃ q, q = numO xs 4 8 := ⟨_, rfl⟩
  obtain ⟨sq, hsq⟩ : ∃ sq, sq = s64 q := ⟨_, rfl⟩
  rw [← hq] at HGT HCK hcv hqb
  rw [← hsq] at HCK hcv
  clear hq hsq hx hr
  have b0 : Blk (w.alloc (.cells #[.int .u8 5, .int .u8 (f.toNat : Int), .slice A n c] 28)) w.heap.size 28 #[.int .u8 5, .int .u8 (f.toNat : Int), .slice A n c] := Blk.new w 28 #[.int .u8 5, .int .u8 (f.toNat : Int), .slice A n c]
  have K0 := Lib.hid b0
  have B0 : Hid (Below w.heap.size w (w.alloc (.cells #[.int .u8 5, .int .u8 (f.toNat : Int), .slice A n c] 28))) := Lib.hid (Wr.below_ ((Wr.refl 5 w.heap.size w).alloc (.cells #[.int .u8 5, .int .u8 (f.toNat : Int), .slice A n c] 28)) (Nat.le_refl _))
  clear b0
  go_enter Try.func39, Try.ntmps39
  go_wp2_with fail
  generalize (w.alloc (.cells #[.int .u8 5, .int .u8 (f.toNat : Int), .slice A n c] 28)) = v0 at K0 B0 HGT ⊢
  refine HGT.out.mono ?_
  rintro e w1 ⟨x, rfl, rfl⟩
  have y0 := K0.out.cell 0
  have y1 := K0.out.cell 1
  have y2 := K0.out.cell 2
  go_wp2_with fail
  refine (HCK.out _ B0.out K0.out).mono ?_
  rintro e w2 ⟨rfl, hb⟩
  go_wp2_with fail
  go_ret2
  exact ⟨rfl, below_then B0.out (Nat.le_refl _) hb⟩
theorem getTime_any (k f : UInt8) (A : Option Addr) (n c : Nat) (xs : List UInt8) (w : World) (hn : n ≤ 140737488355200) (hc : n ≤ c) (hcm : c ≤ maxLen) (hx : xs.length = n) (hr : Rd w w.heap.size A xs) :
    Calls Try.prog 39 #[.agg #[.int .u8 (k.toNat : Int), .int .u8 (f.toNat : Int), .slice A n c]] w fun e w' => e = .returned (.tuple #[.int .i64 (ansT k f xs), .int .i64 (errOf (okT k f xs))]) ∧ Below w.heap.size w w' := by
  by_cases h4 : k = 4
  · subst h4; exact getTime_four f A n c xs w hn hc hcm hx hr
  · by_cases h5 : k = 5
    · subst h5; exact getTime_five f A n c xs w hn hc hcm hx hr
    · exact getTime_bad k f A n c xs w hn hc hcm hx hr h4 h5
end Go.Proofs.Ytalgkokgaibloaa
