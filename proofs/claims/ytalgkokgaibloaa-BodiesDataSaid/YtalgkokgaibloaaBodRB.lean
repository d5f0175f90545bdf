/-
  The reference: GetData.
-/
import Derived.Test.YtalgkokgaibloaaBodRA
import Derived.Test.YtalgkokgaibloaaBodY
import Derived.Test.YtalgkokgaibloaaCopyAny
import Derived.Test.YtalgkokgaibloaaCut
namespace Go.Proofs.Ytalgkokgaibloaa
open Go.RowKit
set_option linter.unusedVariables false

theorem wrap_u32n {a : Nat} (h : a < 4294967296) : IntKind.u32.wrap (a : Int) = a := by
  simp [IntKind.wrap, IntKind.bits, IntKind.signed]
  omega
theorem wrap_u16n {a : Nat} (h : a < 65536) : IntKind.u16.wrap (a : Int) = a := by
  simp [IntKind.wrap, IntKind.bits, IntKind.signed]
  omega
set_option maxRecDepth 100000 in
set_option maxHeartbeats 4000000 in
theorem refGetData_short (k f : UInt8) (A : Option Addr) (n c : Nat) (xs : List UInt8) (w : World) (hn : n ≤ 140737488355200) (hc : n ≤ c) (hcm : c ≤ maxLen) (hx : xs.length = n) (hr : Rd w w.heap.size A xs) (hs : n < 13) :
    GetsD 17 #[.agg #[.int .u8 (k.toNat : Int), .int .u8 (f.toNat : Int), .slice A n c]] k f xs w := by
  have hz := zero_data
  have hok : okD k f xs = false := by simp [okD]; intro h; omega
  have hra : ansD k f xs = noD := by simp [ansD, hok]
  unfold GetsD
  rw [hok, hra]
  have b0 : Blk (w.alloc (.cells #[.int .u8 (k.toNat : Int), .int .u8 (f.toNat : Int), .slice A n c] 28)) w.heap.size 28 #[.int .u8 (k.toNat : Int), .int .u8 (f.toNat : Int), .slice A n c] := Blk.new w 28 #[.int .u8 (k.toNat : Int), .int .u8 (f.toNat : Int), .slice A n c]
  have b1 : Blk ((w.alloc (.cells #[.int .u8 (k.toNat : Int), .int .u8 (f.toNat : Int), .slice A n c] 28)).alloc (.cells #[.int .u32 0, .int .u16 0, .int .u16 0, .bool false, .bool false, .bool false, .slice none 0 0] 26)) (w.heap.size + 1) 26 #[.int .u32 0, .int .u16 0, .int .u16 0, .bool false, .bool false, .bool false, .slice none 0 0] := by simpa using Blk.new (w.alloc (.cells #[.int .u8 (k.toNat : Int), .int .u8 (f.toNat : Int), .slice A n c] 28)) 26 #[.int .u32 0, .int .u16 0, .int .u16 0, .bool false, .bool false, .bool false, .slice none 0 0]
  have K0 := Lib.hid (b0.alloc (.cells #[.int .u32 0, .int .u16 0, .int .u16 0, .bool false, .bool false, .bool false, .slice none 0 0] 26))
  have K1 := Lib.hid b1
  have B0 : Hid (Below w.heap.size w ((w.alloc (.cells #[.int .u8 (k.toNat : Int), .int .u8 (f.toNat : Int), .slice A n c] 28)).alloc (.cells #[.int .u32 0, .int .u16 0, .int .u16 0, .bool false, .bool false, .bool false, .slice none 0 0] 26))) := Lib.hid (Wr.below_ (((Wr.refl 5 w.heap.size w).alloc (.cells #[.int .u8 (k.toNat : Int), .int .u8 (f.toNat : Int), .slice A n c] 28)).alloc (.cells #[.int .u32 0, .int .u16 0, .int .u16 0, .bool false, .bool false, .bool false, .slice none 0 0] 26)) (Nat.le_refl _))
  clear b0 b1
  have hs1 : (n : Int) < 13 := by omega
  go_enter Try.func17, Try.ntmps17
  go_wp2_with fail
  have H3 := K1.out
  exact bodyPost_ret (v := .tuple #[.agg #[.int .u32 0, .int .u16 0, .int .u16 0, .bool false, .bool false, .bool false, .slice none 0 0], .int .i64 7]) (by simp [results, Try.results17, go_sem, H3.cell]) rfl ⟨none, 0, 0, rfl, Own8.nil _ _ _, B0.out⟩
set_option maxRecDepth 100000 in
set_option maxHeartbeats 4000000 in
theorem refGetData_no (k f : UInt8) (A : Option Addr) (n c : Nat) (xs : List UInt8) (w : World) (hn : n ≤ 140737488355200) (hc : n ≤ c) (hcm : c ≤ maxLen) (hx : xs.length = n) (hr : Rd w w.heap.size A xs) (hl : 13 ≤ n) (hok : okD k f xs = false) :
    GetsD 17 #[.agg #[.int .u8 (k.toNat : Int), .int .u8 (f.toNat : Int), .slice A n c]] k f xs w := by
  have hz := zero_data
  have hcm' := hcm
  unfold maxLen at hcm'
  have h0b : numO xs 0 4 < 4294967296 := numO_lt xs 0 4
  have h4b : numO xs 4 2 < 65536 := numO_lt xs 4 2
  have h6b : numO xs 6 2 < 65536 := numO_lt xs 6 2
  have HW0 : Hid (∀ W, Below w.heap.size w W → Calls Try.prog 56 #[.slice A n c, .int .i64 0, .int .i64 4] W fun e w' => e = .returned (.int .u64 (numO xs 0 4)) ∧ Below W.heap.size W w') := Lib.hid fun W hW => number_any A n c 0 4 xs W (by unfold IsSize; omega) (by omega) (by omega) hc hcm hx ((hr.below hW).more hW.size)
  have HW4 : Hid (∀ W, Below w.heap.size w W → Calls Try.prog 56 #[.slice A n c, .int .i64 4, .int .i64 2] W fun e w' => e = .returned (.int .u64 (numO xs 4 2)) ∧ Below W.heap.size W w') := Lib.hid fun W hW => number_any A n c 4 2 xs W (by unfold IsSize; omega) (by omega) (by omega) hc hcm hx ((hr.below hW).more hW.size)
  have HW6 : Hid (∀ W, Below w.heap.size w W → Calls Try.prog 56 #[.slice A n c, .int .i64 6, .int .i64 2] W fun e w' => e = .returned (.int .u64 (numO xs 6 2)) ∧ Below W.heap.size W w') := Lib.hid fun W hW => number_any A n c 6 2 xs W (by unfold IsSize; omega) (by omega) (by omega) hc hcm hx ((hr.below hW).more hW.size)
  obtain ⟨e4, he4, hq4⟩ := flag_bit f 4
  obtain ⟨e2, he2, hq2⟩ := flag_bit f 2
  obtain ⟨e1, he1, hq1⟩ := flag_bit f 1
  obtain ⟨b, o, hA, hbo, _⟩ := hr.at_ (fun e => by rw [e] at hx; simp at hx; omega)
  subst hA
  obtain ⟨AA, hAA⟩ : ∃ AA, AA = if c = 12 then (some ⟨b, o, none⟩ : Option Addr) else some ⟨b, o + 12, none⟩ := ⟨_, rfl⟩
  have hc12 : ¬ c = 12 := by omega
  have HAA := Lib.hid hAA
  have hAA2 : AA = some ⟨b, o + 12, none⟩ := by rw [hAA, if_neg hc12]
  clear hAA
  have HCP : Hid (∀ W, Below w.heap.size w W → Calls Try.prog 57 #[.slice AA (n - 12 : Nat) (c - 12 : Nat)] W fun e w' => ∃ A2 c2, e = .returned (.slice A2 (n - 12 : Nat) c2) ∧ Own8 w' 5 W.heap.size A2 (n - 12) c2 (xs.drop 12) ∧ Below W.heap.size W w') := Lib.hid fun W hW => by
    have hcut := ((hr.below hW).more hW.size).cut 12 (n - 12)
    rw [List.take_of_length_le (by rw [List.length_drop]; omega)] at hcut
    rw [hAA2]
    exact copyBytes_any _ (n - 12) (c - 12) (xs.drop 12) W (by omega) (by rw [List.length_drop]; omega) hcut
  have hp : parseD f xs = ⟨numO xs 0 4, numO xs 4 2, numO xs 6 2, decide (f &&& 4 ≠ 0), decide (f &&& 2 ≠ 0), decide (f &&& 1 ≠ 0), xs.drop 12⟩ := by rw [numO_in (by omega), numO_in (by omega), numO_in (by omega)]; rfl
  have hd : decide (k = 0 ∧ f = flagsD (decide (f &&& 4 ≠ 0)) (decide (f &&& 2 ≠ 0)) (decide (f &&& 1 ≠ 0)) ∧ xs = bodyD ⟨numO xs 0 4, numO xs 4 2, numO xs 6 2, decide (f &&& 4 ≠ 0), decide (f &&& 2 ≠ 0), decide (f &&& 1 ≠ 0), xs.drop 12⟩) = false := by
    have h := hok
    unfold okD at h
    rw [hp, show decide (13 ≤ xs.length) = true from decide_eq_true (by omega), Bool.true_and] at h
    exact h
  have hra : ansD k f xs = noD := by unfold ansD; rw [hok]; rfl
  unfold GetsD
  rw [hok, hra]
  have HSM := Lib.hid (sameR (c := c) (by omega) hx hr hd)
  have HPT : Hid (∀ W (Ax : Option Addr) (cx : Nat), Own8 W 5 w.heap.size Ax (n - 12) cx (xs.drop 12) → Puts 19 #[.agg #[.int .u32 (numO xs 0 4 : Int), .int .u16 (numO xs 4 2 : Int), .int .u16 (numO xs 6 2 : Int), .bool (decide (f &&& 4 ≠ 0)), .bool (decide (f &&& 2 ≠ 0)), .bool (decide (f &&& 1 ≠ 0)), .slice Ax (n - 12 : Nat) cx]] 0 (flagsD (decide (f &&& 4 ≠ 0)) (decide (f &&& 2 ≠ 0)) (decide (f &&& 1 ≠ 0))) (bodyD ⟨numO xs 0 4, numO xs 4 2, numO xs 6 2, decide (f &&& 4 ≠ 0), decide (f &&& 2 ≠ 0), decide (f &&& 1 ≠ 0), xs.drop 12⟩) W) := Lib.hid fun W Ax cx ho => refPutData_any _ _ _ _ _ _ _ h0b h4b h6b Ax (n - 12) cx W (by omega) ho.len ho.rd
  have hs1 : ¬ (n : Int) < 13 := by omega
  clear hp hd hAA2
  obtain ⟨n0, hn0⟩ : ∃ n0, n0 = numO xs 0 4 := ⟨_, rfl⟩
  obtain ⟨n4, hn4⟩ : ∃ n4, n4 = numO xs 4 2 := ⟨_, rfl⟩
  obtain ⟨n6, hn6⟩ : ∃ n6, n6 = numO xs 6 2 := ⟨_, rfl⟩
  obtain ⟨b4, hb4⟩ : ∃ b4, b4 = decide (f &&& 4 ≠ 0) := ⟨_, rfl⟩
  obtain ⟨b2, hb2⟩ : ∃ b2, b2 = decide (f &&& 2 ≠ 0) := ⟨_, rfl⟩
  obtain ⟨b1, hb1⟩ : ∃ b1, b1 = decide (f &&& 1 ≠ 0) := ⟨_, rfl⟩
  rw [← hn0] at HW0 h0b HPT HSM
  rw [← hn4] at HW4 h4b HPT HSM
  rw [← hn6] at HW6 h6b HPT HSM
  rw [← hb4] at hq4 HPT HSM
  rw [← hb2] at hq2 HPT HSM
  rw [← hb1] at hq1 HPT HSM
  have he4 : bits .and .u8 (f.toNat : Int) 4 = e4 := he4
  have he2 : bits .and .u8 (f.toNat : Int) 2 = e2 := he2
  have he1 : bits .and .u8 (f.toNat : Int) 1 = e1 := he1
  obtain ⟨ZS, hZS⟩ : ∃ ZS, ZS = xs.drop 12 := ⟨_, rfl⟩
  rw [← hZS] at HCP HPT HSM
  obtain ⟨FL, hFL⟩ : ∃ FL, FL = flagsD b4 b2 b1 := ⟨_, rfl⟩
  rw [← hFL] at HPT HSM
  obtain ⟨Y, hY⟩ : ∃ Y, Y = bodyD ⟨n0, n4, n6, b4, b2, b1, ZS⟩ := ⟨_, rfl⟩
  rw [← hY] at HPT HSM
  clear hn0 hn4 hn6 hb4 hb2 hb1 hx hr hra hok hZS hFL hY
  have b0 : Blk (w.alloc (.cells #[.int .u8 (k.toNat : Int), .int .u8 (f.toNat : Int), .slice (some ⟨b, o, none⟩) n c] 28)) w.heap.size 28 #[.int .u8 (k.toNat : Int), .int .u8 (f.toNat : Int), .slice (some ⟨b, o, none⟩) n c] := Blk.new w 28 #[.int .u8 (k.toNat : Int), .int .u8 (f.toNat : Int), .slice (some ⟨b, o, none⟩) n c]
  have b1 : Blk ((w.alloc (.cells #[.int .u8 (k.toNat : Int), .int .u8 (f.toNat : Int), .slice (some ⟨b, o, none⟩) n c] 28)).alloc (.cells #[.int .u32 0, .int .u16 0, .int .u16 0, .bool false, .bool false, .bool false, .slice none 0 0] 26)) (w.heap.size + 1) 26 #[.int .u32 0, .int .u16 0, .int .u16 0, .bool false, .bool false, .bool false, .slice none 0 0] := by simpa using Blk.new (w.alloc (.cells #[.int .u8 (k.toNat : Int), .int .u8 (f.toNat : Int), .slice (some ⟨b, o, none⟩) n c] 28)) 26 #[.int .u32 0, .int .u16 0, .int .u16 0, .bool false, .bool false, .bool false, .slice none 0 0]
  have K0 := Lib.hid (b0.alloc (.cells #[.int .u32 0, .int .u16 0, .int .u16 0, .bool false, .bool false, .bool false, .slice none 0 0] 26))
  have K1 := Lib.hid b1
  have B0 : Hid (Below w.heap.size w ((w.alloc (.cells #[.int .u8 (k.toNat : Int), .int .u8 (f.toNat : Int), .slice (some ⟨b, o, none⟩) n c] 28)).alloc (.cells #[.int .u32 0, .int .u16 0, .int .u16 0, .bool false, .bool false, .bool false, .slice none 0 0] 26))) := Lib.hid (Wr.below_ (((Wr.refl 5 w.heap.size w).alloc (.cells #[.int .u8 (k.toNat : Int), .int .u8 (f.toNat : Int), .slice (some ⟨b, o, none⟩) n c] 28)).alloc (.cells #[.int .u32 0, .int .u16 0, .int .u16 0, .bool false, .bool false, .bool false, .slice none 0 0] 26)) (Nat.le_refl _))
  clear b0 b1
  go_enter Try.func17, Try.ntmps17
  rw [drawn_eq 3, drawn_eq 4]
  go_wp2_with fail
  generalize ((w.alloc (.cells #[.int .u8 (k.toNat : Int), .int .u8 (f.toNat : Int), .slice (some ⟨b, o, none⟩) n c] 28)).alloc (.cells #[.int .u32 0, .int .u16 0, .int .u16 0, .bool false, .bool false, .bool false, .slice none 0 0] 26)) = v0 at K0 K1 B0 ⊢
  rw [← drawn_eq 3]
  refine wp_region_grow_tail 30 (by kernel_rfl) [(Is (.pointer (some ⟨w.heap.size, 2, none⟩))), (Is (.slice (some ⟨b, o, none⟩) n c)), (Is (.int .u64 (n0 : Int))), (Is (.int .u32 (n0 : Int))), (Is (.pointer (some ⟨w.heap.size, 2, none⟩))), (Is (.slice (some ⟨b, o, none⟩) n c)), (Is (.int .u64 (n4 : Int))), (Is (.int .u16 (n4 : Int))), (Is (.pointer (some ⟨w.heap.size, 2, none⟩))), (Is (.slice (some ⟨b, o, none⟩) n c)), (Is (.int .u64 (n6 : Int))), (Is (.int .u16 (n6 : Int))), (Is (.pointer (some ⟨w.heap.size, 1, none⟩))), (Is (.int .u8 (f.toNat : Int))), (Is (.int .u8 e4)), (Is (.bool b4)), (Is (.pointer (some ⟨w.heap.size, 1, none⟩))), (Is (.int .u8 (f.toNat : Int))), (Is (.int .u8 e2)), (Is (.bool b2)), (Is (.pointer (some ⟨w.heap.size, 1, none⟩))), (Is (.int .u8 (f.toNat : Int))), (Is (.int .u8 e1)), (Is (.bool b1)), (Is (.pointer (some ⟨w.heap.size, 2, none⟩))), (Is (.slice (some ⟨b, o, none⟩) n c)), (Is (.slice AA (n - 12 : Nat) (c - 12 : Nat))), (NewOwn 5 w.heap.size (n - 12 : Nat) ZS), (NewAgg 5 w.heap.size (n - 12 : Nat) ZS (fun s => .agg #[.int .u32 (n0 : Int), .int .u16 (n4 : Int), .int .u16 (n6 : Int), .bool b4, .bool b2, .bool b1, s])), (NewBlk v0.heap.size 26 #[.int .u32 0, .int .u16 0, .int .u16 0, .bool false, .bool false, .bool false, .slice none 0 0])] rfl ?_ (by kernel_rfl) (by kernel_rfl) ?_ ?_
  · intro p hp
    simp only [List.mem_cons, List.not_mem_nil, or_false] at hp
    rcases hp with rfl | rfl | rfl | rfl | rfl | rfl | rfl | rfl | rfl | rfl | rfl | rfl | rfl | rfl | rfl | rfl | rfl | rfl | rfl | rfl | rfl | rfl | rfl | rfl | rfl | rfl | rfl | rfl | rfl | rfl
    · exact Lasts.is _
    · exact Lasts.is _
    · exact Lasts.is _
    · exact Lasts.is _
    · exact Lasts.is _
    · exact Lasts.is _
    · exact Lasts.is _
    · exact Lasts.is _
    · exact Lasts.is _
    · exact Lasts.is _
    · exact Lasts.is _
    · exact Lasts.is _
    · exact Lasts.is _
    · exact Lasts.is _
    · exact Lasts.is _
    · exact Lasts.is _
    · exact Lasts.is _
    · exact Lasts.is _
    · exact Lasts.is _
    · exact Lasts.is _
    · exact Lasts.is _
    · exact Lasts.is _
    · exact Lasts.is _
    · exact Lasts.is _
    · exact Lasts.is _
    · exact Lasts.is _
    · exact Lasts.is _
    · exact Lasts.newOwn _ _ _ _
    · exact Lasts.newAgg _ _ _ _ _
    · exact Lasts.newBlk _ _ _
  · refine ⟨?_, ?_, ?_, ?_, ?_, ?_, ?_, ?_, ?_, ?_, ?_, ?_, ?_, ?_, ?_, ?_, ?_, ?_, ?_, ?_, ?_, ?_, ?_, ?_, ?_, ?_, ?_, ?_, ?_, ?_, trivial⟩
    · intro listed a w1 hl hc
      have h1 : a.tmps[1]?.getD undef = .pointer (some ⟨w.heap.size, 0, none⟩) := (hc.was 1 (by kernel_rfl)).trans rfl
      refine does_value rfl rfl (.pointer (some ⟨w.heap.size, 2, none⟩)) w1 ?_ (Below.refl _ _) rfl
      clear hc hl
      go_simp
    · intro listed a w1 hl hc
      have h10 : a.tmps[10]?.getD undef = .pointer (some ⟨w.heap.size, 2, none⟩) := hc.dep hl 0 10 rfl (by kernel_rfl)
      have kb := K0.out.below hc.g K0.out.lt
      have x2 : w1.cell? ⟨w.heap.size, 2, none⟩ = some (.slice (some ⟨b, o, none⟩) n c) := kb.cell 2
      clear kb
      refine does_value rfl rfl (.slice (some ⟨b, o, none⟩) n c) w1 ?_ (Below.refl _ _) rfl
      clear hc hl
      go_simp
    · intro listed a w1 hl hc
      have h11 : a.tmps[11]?.getD undef = .slice (some ⟨b, o, none⟩) n c := hc.dep hl 1 11 rfl (by kernel_rfl)
      refine does_call rfl rfl 56 #[.slice (some ⟨b, o, none⟩) n c, .int .i64 0, .int .i64 4] ?_ ((HW0.out w1 (B0.out.trans (hc.g.mono B0.out.size))).mono fun e w' ⟨he, hb⟩ => ⟨_, he, hb, rfl⟩)
      clear hc hl
      go_simp
    · intro listed a w1 hl hc
      have h12 : a.tmps[12]?.getD undef = .int .u64 (n0 : Int) := hc.dep hl 2 12 rfl (by kernel_rfl)
      refine does_value rfl rfl (.int .u32 (n0 : Int)) w1 ?_ (Below.refl _ _) rfl
      clear hc hl
      go_simp
      exact wrap_u32n h0b
    · intro listed a w1 hl hc
      have h1 : a.tmps[1]?.getD undef = .pointer (some ⟨w.heap.size, 0, none⟩) := (hc.was 1 (by kernel_rfl)).trans rfl
      refine does_value rfl rfl (.pointer (some ⟨w.heap.size, 2, none⟩)) w1 ?_ (Below.refl _ _) rfl
      clear hc hl
      go_simp
    · intro listed a w1 hl hc
      have h14 : a.tmps[14]?.getD undef = .pointer (some ⟨w.heap.size, 2, none⟩) := hc.dep hl 4 14 rfl (by kernel_rfl)
      have kb := K0.out.below hc.g K0.out.lt
      have x2 : w1.cell? ⟨w.heap.size, 2, none⟩ = some (.slice (some ⟨b, o, none⟩) n c) := kb.cell 2
      clear kb
      refine does_value rfl rfl (.slice (some ⟨b, o, none⟩) n c) w1 ?_ (Below.refl _ _) rfl
      clear hc hl
      go_simp
    · intro listed a w1 hl hc
      have h15 : a.tmps[15]?.getD undef = .slice (some ⟨b, o, none⟩) n c := hc.dep hl 5 15 rfl (by kernel_rfl)
      refine does_call rfl rfl 56 #[.slice (some ⟨b, o, none⟩) n c, .int .i64 4, .int .i64 2] ?_ ((HW4.out w1 (B0.out.trans (hc.g.mono B0.out.size))).mono fun e w' ⟨he, hb⟩ => ⟨_, he, hb, rfl⟩)
      clear hc hl
      go_simp
    · intro listed a w1 hl hc
      have h16 : a.tmps[16]?.getD undef = .int .u64 (n4 : Int) := hc.dep hl 6 16 rfl (by kernel_rfl)
      refine does_value rfl rfl (.int .u16 (n4 : Int)) w1 ?_ (Below.refl _ _) rfl
      clear hc hl
      go_simp
      exact wrap_u16n h4b
    · intro listed a w1 hl hc
      have h1 : a.tmps[1]?.getD undef = .pointer (some ⟨w.heap.size, 0, none⟩) := (hc.was 1 (by kernel_rfl)).trans rfl
      refine does_value rfl rfl (.pointer (some ⟨w.heap.size, 2, none⟩)) w1 ?_ (Below.refl _ _) rfl
      clear hc hl
      go_simp
    · intro listed a w1 hl hc
      have h18 : a.tmps[18]?.getD undef = .pointer (some ⟨w.heap.size, 2, none⟩) := hc.dep hl 8 18 rfl (by kernel_rfl)
      have kb := K0.out.below hc.g K0.out.lt
      have x2 : w1.cell? ⟨w.heap.size, 2, none⟩ = some (.slice (some ⟨b, o, none⟩) n c) := kb.cell 2
      clear kb
      refine does_value rfl rfl (.slice (some ⟨b, o, none⟩) n c) w1 ?_ (Below.refl _ _) rfl
      clear hc hl
      go_simp
    · intro listed a w1 hl hc
      have h19 : a.tmps[19]?.getD undef = .slice (some ⟨b, o, none⟩) n c := hc.dep hl 9 19 rfl (by kernel_rfl)
      refine does_call rfl rfl 56 #[.slice (some ⟨b, o, none⟩) n c, .int .i64 6, .int .i64 2] ?_ ((HW6.out w1 (B0.out.trans (hc.g.mono B0.out.size))).mono fun e w' ⟨he, hb⟩ => ⟨_, he, hb, rfl⟩)
      clear hc hl
      go_simp
    · intro listed a w1 hl hc
      have h20 : a.tmps[20]?.getD undef = .int .u64 (n6 : Int) := hc.dep hl 10 20 rfl (by kernel_rfl)
      refine does_value rfl rfl (.int .u16 (n6 : Int)) w1 ?_ (Below.refl _ _) rfl
      clear hc hl
      go_simp
      exact wrap_u16n h6b
    · intro listed a w1 hl hc
      have h1 : a.tmps[1]?.getD undef = .pointer (some ⟨w.heap.size, 0, none⟩) := (hc.was 1 (by kernel_rfl)).trans rfl
      refine does_value rfl rfl (.pointer (some ⟨w.heap.size, 1, none⟩)) w1 ?_ (Below.refl _ _) rfl
      clear hc hl
      go_simp
    · intro listed a w1 hl hc
      have h22 : a.tmps[22]?.getD undef = .pointer (some ⟨w.heap.size, 1, none⟩) := hc.dep hl 12 22 rfl (by kernel_rfl)
      have kb := K0.out.below hc.g K0.out.lt
      have x1 : w1.cell? ⟨w.heap.size, 1, none⟩ = some (.int .u8 (f.toNat : Int)) := kb.cell 1
      clear kb
      refine does_value rfl rfl (.int .u8 (f.toNat : Int)) w1 ?_ (Below.refl _ _) rfl
      clear hc hl
      go_simp
    · intro listed a w1 hl hc
      have h23 : a.tmps[23]?.getD undef = .int .u8 (f.toNat : Int) := hc.dep hl 13 23 rfl (by kernel_rfl)
      refine does_value rfl rfl (.int .u8 e4) w1 ?_ (Below.refl _ _) rfl
      clear hc hl
      go_simp
    · intro listed a w1 hl hc
      have h24 : a.tmps[24]?.getD undef = .int .u8 e4 := hc.dep hl 14 24 rfl (by kernel_rfl)
      refine does_value rfl rfl (.bool b4) w1 ?_ (Below.refl _ _) rfl
      clear hc hl
      go_simp
    · intro listed a w1 hl hc
      have h1 : a.tmps[1]?.getD undef = .pointer (some ⟨w.heap.size, 0, none⟩) := (hc.was 1 (by kernel_rfl)).trans rfl
      refine does_value rfl rfl (.pointer (some ⟨w.heap.size, 1, none⟩)) w1 ?_ (Below.refl _ _) rfl
      clear hc hl
      go_simp
    · intro listed a w1 hl hc
      have h26 : a.tmps[26]?.getD undef = .pointer (some ⟨w.heap.size, 1, none⟩) := hc.dep hl 16 26 rfl (by kernel_rfl)
      have kb := K0.out.below hc.g K0.out.lt
      have x1 : w1.cell? ⟨w.heap.size, 1, none⟩ = some (.int .u8 (f.toNat : Int)) := kb.cell 1
      clear kb
      refine does_value rfl rfl (.int .u8 (f.toNat : Int)) w1 ?_ (Below.refl _ _) rfl
      clear hc hl
      go_simp
    · intro listed a w1 hl hc
      have h27 : a.tmps[27]?.getD undef = .int .u8 (f.toNat : Int) := hc.dep hl 17 27 rfl (by kernel_rfl)
      refine does_value rfl rfl (.int .u8 e2) w1 ?_ (Below.refl _ _) rfl
      clear hc hl
      go_simp
    · intro listed a w1 hl hc
      have h28 : a.tmps[28]?.getD undef = .int .u8 e2 := hc.dep hl 18 28 rfl (by kernel_rfl)
      refine does_value rfl rfl (.bool b2) w1 ?_ (Below.refl _ _) rfl
      clear hc hl
      go_simp
    · intro listed a w1 hl hc
      have h1 : a.tmps[1]?.getD undef = .pointer (some ⟨w.heap.size, 0, none⟩) := (hc.was 1 (by kernel_rfl)).trans rfl
      refine does_value rfl rfl (.pointer (some ⟨w.heap.size, 1, none⟩)) w1 ?_ (Below.refl _ _) rfl
      clear hc hl
      go_simp
    · intro listed a w1 hl hc
      have h30 : a.tmps[30]?.getD undef = .pointer (some ⟨w.heap.size, 1, none⟩) := hc.dep hl 20 30 rfl (by kernel_rfl)
      have kb := K0.out.below hc.g K0.out.lt
      have x1 : w1.cell? ⟨w.heap.size, 1, none⟩ = some (.int .u8 (f.toNat : Int)) := kb.cell 1
      clear kb
      refine does_value rfl rfl (.int .u8 (f.toNat : Int)) w1 ?_ (Below.refl _ _) rfl
      clear hc hl
      go_simp
    · intro listed a w1 hl hc
      have h31 : a.tmps[31]?.getD undef = .int .u8 (f.toNat : Int) := hc.dep hl 21 31 rfl (by kernel_rfl)
      refine does_value rfl rfl (.int .u8 e1) w1 ?_ (Below.refl _ _) rfl
      clear hc hl
      go_simp
    · intro listed a w1 hl hc
      have h32 : a.tmps[32]?.getD undef = .int .u8 e1 := hc.dep hl 22 32 rfl (by kernel_rfl)
      refine does_value rfl rfl (.bool b1) w1 ?_ (Below.refl _ _) rfl
      clear hc hl
      go_simp
    · intro listed a w1 hl hc
      have h1 : a.tmps[1]?.getD undef = .pointer (some ⟨w.heap.size, 0, none⟩) := (hc.was 1 (by kernel_rfl)).trans rfl
      refine does_value rfl rfl (.pointer (some ⟨w.heap.size, 2, none⟩)) w1 ?_ (Below.refl _ _) rfl
      clear hc hl
      go_simp
    · intro listed a w1 hl hc
      have h34 : a.tmps[34]?.getD undef = .pointer (some ⟨w.heap.size, 2, none⟩) := hc.dep hl 24 34 rfl (by kernel_rfl)
      have kb := K0.out.below hc.g K0.out.lt
      have x2 : w1.cell? ⟨w.heap.size, 2, none⟩ = some (.slice (some ⟨b, o, none⟩) n c) := kb.cell 2
      clear kb
      refine does_value rfl rfl (.slice (some ⟨b, o, none⟩) n c) w1 ?_ (Below.refl _ _) rfl
      clear hc hl
      go_simp
    · intro listed a w1 hl hc
      have h35 : a.tmps[35]?.getD undef = .slice (some ⟨b, o, none⟩) n c := hc.dep hl 25 35 rfl (by kernel_rfl)
      refine does_value rfl rfl (.slice (if c = 12 then some ⟨b, o, none⟩ else some ⟨b, o + 12, none⟩) (n - 12 : Nat) (c - 12 : Nat)) w1 ?_ (Below.refl _ _) (show _ = _ by rw [HAA.out])
      clear hc hl
      go_simp
      intro hh; omega
    · intro listed a w1 hl hc
      have h36 : a.tmps[36]?.getD undef = .slice AA (n - 12 : Nat) (c - 12 : Nat) := hc.dep hl 26 36 rfl (by kernel_rfl)
      refine does_call rfl rfl 57 #[.slice AA (n - 12 : Nat) (c - 12 : Nat)] ?_ ((HCP.out w1 (B0.out.trans (hc.g.mono B0.out.size))).mono fun e w' ⟨A9, c9, he, ho, hb⟩ => ⟨_, he, hb, A9, c9, rfl, ho.more (Nat.le_trans B0.out.size hc.g.size)⟩)
      clear hc hl
      go_simp
    · intro listed a w1 hl hc
      have h13 : a.tmps[13]?.getD undef = .int .u32 (n0 : Int) := hc.dep hl 3 13 rfl (by kernel_rfl)
      have h17 : a.tmps[17]?.getD undef = .int .u16 (n4 : Int) := hc.dep hl 7 17 rfl (by kernel_rfl)
      have h21 : a.tmps[21]?.getD undef = .int .u16 (n6 : Int) := hc.dep hl 11 21 rfl (by kernel_rfl)
      have h25 : a.tmps[25]?.getD undef = .bool b4 := hc.dep hl 15 25 rfl (by kernel_rfl)
      have h29 : a.tmps[29]?.getD undef = .bool b2 := hc.dep hl 19 29 rfl (by kernel_rfl)
      have h33 : a.tmps[33]?.getD undef = .bool b1 := hc.dep hl 23 33 rfl (by kernel_rfl)
      obtain ⟨A37, c37, h37, ho37⟩ := hc.dep hl 27 37 rfl (by kernel_rfl)
      refine does_value rfl rfl (.agg #[.int .u32 (n0 : Int), .int .u16 (n4 : Int), .int .u16 (n6 : Int), .bool b4, .bool b2, .bool b1, .slice A37 (n - 12 : Nat) c37]) w1 ?_ (Below.refl _ _) ⟨A37, c37, rfl, ho37⟩
      clear hc hl
      go_simp
    · intro listed a w1 hl hc
      refine does_value rfl rfl (.pointer (some ⟨w1.heap.size, 0, none⟩)) (w1.alloc (.cells #[.int .u32 0, .int .u16 0, .int .u16 0, .bool false, .bool false, .bool false, .slice none 0 0] 26)) ?_ (below_new w1 _) ⟨_, rfl, hc.g.size, Blk.new _ _ _⟩
      clear hc hl
      go_simp
  intro w2 hb2
  rintro _ rfl _ rfl _ rfl _ rfl _ rfl _ rfl _ rfl _ rfl _ rfl _ rfl _ rfl _ rfl _ rfl _ rfl _ rfl _ rfl _ rfl _ rfl _ rfl _ rfl _ rfl _ rfl _ rfl _ rfl _ rfl _ rfl _ rfl _ ⟨A37, c37, rfl, ho37⟩ _ ⟨A38, c38, rfl, ho38⟩ _ ⟨g4, rfl, hg4, hb4⟩
  simp only [Thus, List.reverse_cons, List.reverse_nil, List.nil_append, List.cons_append, List.drop, List.take, lay]
  go_frame
  have hl0 := K0.out.lt
  have hl1 := K1.out.lt
  have HG := Lib.hid hb4
  have hge : w.heap.size ≤ g4 := by omega
  have y0 := HG.out.cell 0
  have y1 := HG.out.cell 1
  have y2 := HG.out.cell 2
  have y3 := HG.out.cell 3
  have y4 := HG.out.cell 4
  have y5 := HG.out.cell 5
  have y6 := HG.out.cell 6
  have z0 := HG.out.frozen 0
  have z1 := HG.out.frozen 1
  have z2 := HG.out.frozen 2
  have z3 := HG.out.frozen 3
  have z4 := HG.out.frozen 4
  have z5 := HG.out.frozen 5
  have z6 := HG.out.frozen 6
  have G3 : Hid (Blk (((((((w2.setCell ⟨g4, 0, none⟩ (.int .u32 (n0 : Int))).setCell ⟨g4, 1, none⟩ (.int .u16 (n4 : Int))).setCell ⟨g4, 2, none⟩ (.int .u16 (n6 : Int))).setCell ⟨g4, 3, none⟩ (.bool b4)).setCell ⟨g4, 4, none⟩ (.bool b2)).setCell ⟨g4, 5, none⟩ (.bool b1)).setCell ⟨g4, 6, none⟩ (.slice A38 (n - 12 : Nat) c38)) g4 26 #[.int .u32 (n0 : Int), .int .u16 (n4 : Int), .int .u16 (n6 : Int), .bool b4, .bool b2, .bool b1, .slice A38 (n - 12 : Nat) c38]) := Lib.hid (((((((HG.out.set_ 0 (.int .u32 (n0 : Int))).set_ 1 (.int .u16 (n4 : Int))).set_ 2 (.int .u16 (n6 : Int))).set_ 3 (.bool b4)).set_ 4 (.bool b2)).set_ 5 (.bool b1)).set_ 6 (.slice A38 (n - 12 : Nat) c38))
  have O3 := Lib.hid (((((((ho38.setBlk HG.out (by decide) 0 (.int .u32 (n0 : Int))).setBlk (HG.out.set_ 0 (.int .u32 (n0 : Int))) (by decide) 1 (.int .u16 (n4 : Int))).setBlk ((HG.out.set_ 0 (.int .u32 (n0 : Int))).set_ 1 (.int .u16 (n4 : Int))) (by decide) 2 (.int .u16 (n6 : Int))).setBlk (((HG.out.set_ 0 (.int .u32 (n0 : Int))).set_ 1 (.int .u16 (n4 : Int))).set_ 2 (.int .u16 (n6 : Int))) (by decide) 3 (.bool b4)).setBlk ((((HG.out.set_ 0 (.int .u32 (n0 : Int))).set_ 1 (.int .u16 (n4 : Int))).set_ 2 (.int .u16 (n6 : Int))).set_ 3 (.bool b4)) (by decide) 4 (.bool b2)).setBlk (((((HG.out.set_ 0 (.int .u32 (n0 : Int))).set_ 1 (.int .u16 (n4 : Int))).set_ 2 (.int .u16 (n6 : Int))).set_ 3 (.bool b4)).set_ 4 (.bool b2)) (by decide) 5 (.bool b1)).setBlk ((((((HG.out.set_ 0 (.int .u32 (n0 : Int))).set_ 1 (.int .u16 (n4 : Int))).set_ 2 (.int .u16 (n6 : Int))).set_ 3 (.bool b4)).set_ 4 (.bool b2)).set_ 5 (.bool b1)) (by decide) 6 (.slice A38 (n - 12 : Nat) c38))
  have K0b := Lib.hid ((((((((K0.out.below hb2 K0.out.lt).far (p := ⟨g4, 0, none⟩) (show w.heap.size ≠ g4 by omega) (.int .u32 (n0 : Int))).far (p := ⟨g4, 1, none⟩) (show w.heap.size ≠ g4 by omega) (.int .u16 (n4 : Int))).far (p := ⟨g4, 2, none⟩) (show w.heap.size ≠ g4 by omega) (.int .u16 (n6 : Int))).far (p := ⟨g4, 3, none⟩) (show w.heap.size ≠ g4 by omega) (.bool b4)).far (p := ⟨g4, 4, none⟩) (show w.heap.size ≠ g4 by omega) (.bool b2)).far (p := ⟨g4, 5, none⟩) (show w.heap.size ≠ g4 by omega) (.bool b1)).far (p := ⟨g4, 6, none⟩) (show w.heap.size ≠ g4 by omega) (.slice A38 (n - 12 : Nat) c38))
  have K1b := Lib.hid ((((((((K1.out.below hb2 K1.out.lt).far (p := ⟨g4, 0, none⟩) (show w.heap.size + 1 ≠ g4 by omega) (.int .u32 (n0 : Int))).far (p := ⟨g4, 1, none⟩) (show w.heap.size + 1 ≠ g4 by omega) (.int .u16 (n4 : Int))).far (p := ⟨g4, 2, none⟩) (show w.heap.size + 1 ≠ g4 by omega) (.int .u16 (n6 : Int))).far (p := ⟨g4, 3, none⟩) (show w.heap.size + 1 ≠ g4 by omega) (.bool b4)).far (p := ⟨g4, 4, none⟩) (show w.heap.size + 1 ≠ g4 by omega) (.bool b2)).far (p := ⟨g4, 5, none⟩) (show w.heap.size + 1 ≠ g4 by omega) (.bool b1)).far (p := ⟨g4, 6, none⟩) (show w.heap.size + 1 ≠ g4 by omega) (.slice A38 (n - 12 : Nat) c38))
  have B3 := Lib.hid ((((((((below_then B0.out (Nat.le_refl _) hb2).setCell (p := ⟨g4, 0, none⟩) (show w.heap.size ≤ g4 by omega) (.int .u32 (n0 : Int))).setCell (p := ⟨g4, 1, none⟩) (show w.heap.size ≤ g4 by omega) (.int .u16 (n4 : Int))).setCell (p := ⟨g4, 2, none⟩) (show w.heap.size ≤ g4 by omega) (.int .u16 (n6 : Int))).setCell (p := ⟨g4, 3, none⟩) (show w.heap.size ≤ g4 by omega) (.bool b4)).setCell (p := ⟨g4, 4, none⟩) (show w.heap.size ≤ g4 by omega) (.bool b2)).setCell (p := ⟨g4, 5, none⟩) (show w.heap.size ≤ g4 by omega) (.bool b1)).setCell (p := ⟨g4, 6, none⟩) (show w.heap.size ≤ g4 by omega) (.slice A38 (n - 12 : Nat) c38))
  clear hb2 hb4 K0 K1 B0 HG ho37 ho38
  go_wp2_with fail
  generalize (((((((w2.setCell ⟨g4, 0, none⟩ (.int .u32 (n0 : Int))).setCell ⟨g4, 1, none⟩ (.int .u16 (n4 : Int))).setCell ⟨g4, 2, none⟩ (.int .u16 (n6 : Int))).setCell ⟨g4, 3, none⟩ (.bool b4)).setCell ⟨g4, 4, none⟩ (.bool b2)).setCell ⟨g4, 5, none⟩ (.bool b1)).setCell ⟨g4, 6, none⟩ (.slice A38 (n - 12 : Nat) c38)) = v3 at G3 O3 K0b K1b B3 ⊢
  clear y0 z0 y1 z1 y2 z2 y3 z3 y4 z4 y5 z5 y6 z6
  rw [← drawn_eq 4]
  refine wp_region_grow_tail 4 (by kernel_rfl) [(Is (.agg #[.int .u32 (n0 : Int), .int .u16 (n4 : Int), .int .u16 (n6 : Int), .bool b4, .bool b2, .bool b1, .slice A38 (n - 12 : Nat) c38])), (NewAgg 5 w.heap.size Y.length Y (fun s => .agg #[.int .u8 ((0 : UInt8).toNat : Int), .int .u8 (FL.toNat : Int), s])), (Is (.agg #[.int .u8 (k.toNat : Int), .int .u8 (f.toNat : Int), .slice (some ⟨b, o, none⟩) n c])), (Is (.bool false))] rfl ?_ (by kernel_rfl) (by kernel_rfl) ?_ ?_
  · intro p hp
    simp only [List.mem_cons, List.not_mem_nil, or_false] at hp
    rcases hp with rfl | rfl | rfl | rfl
    · exact Lasts.is _
    · exact Lasts.newAgg _ _ _ _ _
    · exact Lasts.is _
    · exact Lasts.is _
  · refine ⟨?_, ?_, ?_, ?_, trivial⟩
    · intro listed a w1 hl hc
      have h4 : a.tmps[4]?.getD undef = .pointer (some ⟨g4, 0, none⟩) := (hc.was 4 (by kernel_rfl)).trans rfl
      have kb := G3.out.below hc.g G3.out.lt
      have x0 : w1.cell? ⟨g4, 0, none⟩ = some (.int .u32 (n0 : Int)) := kb.cell 0
      have x1 : w1.cell? ⟨g4, 1, none⟩ = some (.int .u16 (n4 : Int)) := kb.cell 1
      have x2 : w1.cell? ⟨g4, 2, none⟩ = some (.int .u16 (n6 : Int)) := kb.cell 2
      have x3 : w1.cell? ⟨g4, 3, none⟩ = some (.bool b4) := kb.cell 3
      have x4 : w1.cell? ⟨g4, 4, none⟩ = some (.bool b2) := kb.cell 4
      have x5 : w1.cell? ⟨g4, 5, none⟩ = some (.bool b1) := kb.cell 5
      have x6 : w1.cell? ⟨g4, 6, none⟩ = some (.slice A38 (n - 12 : Nat) c38) := kb.cell 6
      clear kb
      refine does_value rfl rfl (.agg #[.int .u32 (n0 : Int), .int .u16 (n4 : Int), .int .u16 (n6 : Int), .bool b4, .bool b2, .bool b1, .slice A38 (n - 12 : Nat) c38]) w1 ?_ (Below.refl _ _) rfl
      clear hc hl
      go_simp
    · intro listed a w1 hl hc
      have h39 : a.tmps[39]?.getD undef = .agg #[.int .u32 (n0 : Int), .int .u16 (n4 : Int), .int .u16 (n6 : Int), .bool b4, .bool b2, .bool b1, .slice A38 (n - 12 : Nat) c38] := hc.dep hl 0 39 rfl (by kernel_rfl)
      refine does_call rfl rfl 19 #[.agg #[.int .u32 (n0 : Int), .int .u16 (n4 : Int), .int .u16 (n6 : Int), .bool b4, .bool b2, .bool b1, .slice A38 (n - 12 : Nat) c38]] ?_ ((HPT.out w1 A38 c38 (O3.out.below hc.g (Nat.le_refl _))).mono fun e w' ⟨A9, c9, he, ho, hb⟩ => ⟨_, he, hb, A9, c9, rfl, ho.more (Nat.le_trans B3.out.size hc.g.size)⟩)
      clear hc hl
      go_simp
    · intro listed a w1 hl hc
      have h1 : a.tmps[1]?.getD undef = .pointer (some ⟨w.heap.size, 0, none⟩) := (hc.was 1 (by kernel_rfl)).trans rfl
      have kb := K0b.out.below hc.g K0b.out.lt
      have x0 : w1.cell? ⟨w.heap.size, 0, none⟩ = some (.int .u8 (k.toNat : Int)) := kb.cell 0
      have x1 : w1.cell? ⟨w.heap.size, 1, none⟩ = some (.int .u8 (f.toNat : Int)) := kb.cell 1
      have x2 : w1.cell? ⟨w.heap.size, 2, none⟩ = some (.slice (some ⟨b, o, none⟩) n c) := kb.cell 2
      clear kb
      refine does_value rfl rfl (.agg #[.int .u8 (k.toNat : Int), .int .u8 (f.toNat : Int), .slice (some ⟨b, o, none⟩) n c]) w1 ?_ (Below.refl _ _) rfl
      clear hc hl
      go_simp
    · intro listed a w1 hl hc
      obtain ⟨A40, c40, h40, ho40⟩ := hc.dep hl 1 40 rfl (by kernel_rfl)
      have h41 : a.tmps[41]?.getD undef = .agg #[.int .u8 (k.toNat : Int), .int .u8 (f.toNat : Int), .slice (some ⟨b, o, none⟩) n c] := hc.dep hl 2 41 rfl (by kernel_rfl)
      refine does_call rfl rfl 18 #[.agg #[.int .u8 ((0 : UInt8).toNat : Int), .int .u8 (FL.toNat : Int), .slice A40 Y.length c40], .agg #[.int .u8 (k.toNat : Int), .int .u8 (f.toNat : Int), .slice (some ⟨b, o, none⟩) n c]] ?_ ((HSM.out w1 _ _ (B3.out.trans (hc.g.mono B3.out.size)) ho40).mono fun e w' ⟨he, hb⟩ => ⟨_, he, hb, rfl⟩)
      clear hc hl
      go_simp
  intro w2 hb2
  rintro _ rfl _ ⟨A40, c40, rfl, ho40⟩ _ rfl _ rfl
  simp only [Thus, List.reverse_cons, List.reverse_nil, List.nil_append, List.cons_append, List.drop, List.take, lay]
  go_frame
  have G4 := Lib.hid (G3.out.below hb2 G3.out.lt)
  have K1e := Lib.hid (K1b.out.below hb2 K1b.out.lt)
  have B6 := Lib.hid (below_then B3.out (Nat.le_refl _) hb2)
  have O6 := Lib.hid (O3.out.below hb2 (Nat.le_refl _))
  clear hb2 ho40 G3 K0b K1b B3 O3
  have y0 := K1e.out.cell 0
  have y1 := K1e.out.cell 1
  have y2 := K1e.out.cell 2
  have y3 := K1e.out.cell 3
  have y4 := K1e.out.cell 4
  have y5 := K1e.out.cell 5
  have y6 := K1e.out.cell 6
  have z0 := K1e.out.frozen 0
  have z1 := K1e.out.frozen 1
  have z2 := K1e.out.frozen 2
  have z3 := K1e.out.frozen 3
  have z4 := K1e.out.frozen 4
  have z5 := K1e.out.frozen 5
  have z6 := K1e.out.frozen 6
  go_wp2_with fail
  have H3 := (((((((K1e.out.set_ 0 (.int .u32 0)).set_ 1 (.int .u16 0)).set_ 2 (.int .u16 0)).set_ 3 (.bool false)).set_ 4 (.bool false)).set_ 5 (.bool false)).set_ 6 (.slice none 0 0))
  exact bodyPost_ret (v := .tuple #[.agg #[.int .u32 0, .int .u16 0, .int .u16 0, .bool false, .bool false, .bool false, .slice none 0 0], .int .i64 7]) (by simp [results, Try.results17, go_sem, H3.cell]) rfl ⟨none, 0, 0, rfl, Own8.nil _ _ _, (((((((B6.out.setCell (p := ⟨w.heap.size + 1, 0, none⟩) (show w.heap.size ≤ w.heap.size + 1 by omega) (.int .u32 0)).setCell (p := ⟨w.heap.size + 1, 1, none⟩) (show w.heap.size ≤ w.heap.size + 1 by omega) (.int .u16 0)).setCell (p := ⟨w.heap.size + 1, 2, none⟩) (show w.heap.size ≤ w.heap.size + 1 by omega) (.int .u16 0)).setCell (p := ⟨w.heap.size + 1, 3, none⟩) (show w.heap.size ≤ w.heap.size + 1 by omega) (.bool false)).setCell (p := ⟨w.heap.size + 1, 4, none⟩) (show w.heap.size ≤ w.heap.size + 1 by omega) (.bool false)).setCell (p := ⟨w.heap.size + 1, 5, none⟩) (show w.heap.size ≤ w.heap.size + 1 by omega) (.bool false)).setCell (p := ⟨w.heap.size + 1, 6, none⟩) (show w.heap.size ≤ w.heap.size + 1 by omega) (.slice none 0 0))⟩
set_option maxRecDepth 100000 in
set_option maxHeartbeats 4000000 in
theorem refGetData_yes (k f : UInt8) (A : Option Addr) (n c : Nat) (xs : List UInt8) (w : World) (hn : n ≤ 140737488355200) (hc : n ≤ c) (hcm : c ≤ maxLen) (hx : xs.length = n) (hr : Rd w w.heap.size A xs) (hl : 13 ≤ n) (hok : okD k f xs = true) :
    GetsD 17 #[.agg #[.int .u8 (k.toNat : Int), .int .u8 (f.toNat : Int), .slice A n c]] k f xs w := by
  have hz := zero_data
  have hcm' := hcm
  unfold maxLen at hcm'
  have h0b : numO xs 0 4 < 4294967296 := numO_lt xs 0 4
  have h4b : numO xs 4 2 < 65536 := numO_lt xs 4 2
  have h6b : numO xs 6 2 < 65536 := numO_lt xs 6 2
  have HW0 : Hid (∀ W, Below w.heap.size w W → Calls Try.prog 56 #[.slice A n c, .int .i64 0, .int .i64 4] W fun e w' => e = .returned (.int .u64 (numO xs 0 4)) ∧ Below W.heap.size W w') := Lib.hid fun W hW => number_any A n c 0 4 xs W (by unfold IsSize; omega) (by omega) (by omega) hc hcm hx ((hr.below hW).more hW.size)
  have HW4 : Hid (∀ W, Below w.heap.size w W → Calls Try.prog 56 #[.slice A n c, .int .i64 4, .int .i64 2] W fun e w' => e = .returned (.int .u64 (numO xs 4 2)) ∧ Below W.heap.size W w') := Lib.hid fun W hW => number_any A n c 4 2 xs W (by unfold IsSize; omega) (by omega) (by omega) hc hcm hx ((hr.below hW).more hW.size)
  have HW6 : Hid (∀ W, Below w.heap.size w W → Calls Try.prog 56 #[.slice A n c, .int .i64 6, .int .i64 2] W fun e w' => e = .returned (.int .u64 (numO xs 6 2)) ∧ Below W.heap.size W w') := Lib.hid fun W hW => number_any A n c 6 2 xs W (by unfold IsSize; omega) (by omega) (by omega) hc hcm hx ((hr.below hW).more hW.size)
  obtain ⟨e4, he4, hq4⟩ := flag_bit f 4
  obtain ⟨e2, he2, hq2⟩ := flag_bit f 2
  obtain ⟨e1, he1, hq1⟩ := flag_bit f 1
  obtain ⟨b, o, hA, hbo, _⟩ := hr.at_ (fun e => by rw [e] at hx; simp at hx; omega)
  subst hA
  obtain ⟨AA, hAA⟩ : ∃ AA, AA = if c = 12 then (some ⟨b, o, none⟩ : Option Addr) else some ⟨b, o + 12, none⟩ := ⟨_, rfl⟩
  have hc12 : ¬ c = 12 := by omega
  have HAA := Lib.hid hAA
  have hAA2 : AA = some ⟨b, o + 12, none⟩ := by rw [hAA, if_neg hc12]
  clear hAA
  have HCP : Hid (∀ W, Below w.heap.size w W → Calls Try.prog 57 #[.slice AA (n - 12 : Nat) (c - 12 : Nat)] W fun e w' => ∃ A2 c2, e = .returned (.slice A2 (n - 12 : Nat) c2) ∧ Own8 w' 5 W.heap.size A2 (n - 12) c2 (xs.drop 12) ∧ Below W.heap.size W w') := Lib.hid fun W hW => by
    have hcut := ((hr.below hW).more hW.size).cut 12 (n - 12)
    rw [List.take_of_length_le (by rw [List.length_drop]; omega)] at hcut
    rw [hAA2]
    exact copyBytes_any _ (n - 12) (c - 12) (xs.drop 12) W (by omega) (by rw [List.length_drop]; omega) hcut
  have hp : parseD f xs = ⟨numO xs 0 4, numO xs 4 2, numO xs 6 2, decide (f &&& 4 ≠ 0), decide (f &&& 2 ≠ 0), decide (f &&& 1 ≠ 0), xs.drop 12⟩ := by rw [numO_in (by omega), numO_in (by omega), numO_in (by omega)]; rfl
  have hd : decide (k = 0 ∧ f = flagsD (decide (f &&& 4 ≠ 0)) (decide (f &&& 2 ≠ 0)) (decide (f &&& 1 ≠ 0)) ∧ xs = bodyD ⟨numO xs 0 4, numO xs 4 2, numO xs 6 2, decide (f &&& 4 ≠ 0), decide (f &&& 2 ≠ 0), decide (f &&& 1 ≠ 0), xs.drop 12⟩) = true := by
    have h := hok
    unfold okD at h
    rw [hp, show decide (13 ≤ xs.length) = true from decide_eq_true (by omega), Bool.true_and] at h
    exact h
  have hra : ansD k f xs = ⟨numO xs 0 4, numO xs 4 2, numO xs 6 2, decide (f &&& 4 ≠ 0), decide (f &&& 2 ≠ 0), decide (f &&& 1 ≠ 0), xs.drop 12⟩ := by unfold ansD; rw [hok]; exact hp
  unfold GetsD
  rw [hok, hra]
  have HSM := Lib.hid (sameR (c := c) (by omega) hx hr hd)
  have HPT : Hid (∀ W (Ax : Option Addr) (cx : Nat), Own8 W 5 w.heap.size Ax (n - 12) cx (xs.drop 12) → Puts 19 #[.agg #[.int .u32 (numO xs 0 4 : Int), .int .u16 (numO xs 4 2 : Int), .int .u16 (numO xs 6 2 : Int), .bool (decide (f &&& 4 ≠ 0)), .bool (decide (f &&& 2 ≠ 0)), .bool (decide (f &&& 1 ≠ 0)), .slice Ax (n - 12 : Nat) cx]] 0 (flagsD (decide (f &&& 4 ≠ 0)) (decide (f &&& 2 ≠ 0)) (decide (f &&& 1 ≠ 0))) (bodyD ⟨numO xs 0 4, numO xs 4 2, numO xs 6 2, decide (f &&& 4 ≠ 0), decide (f &&& 2 ≠ 0), decide (f &&& 1 ≠ 0), xs.drop 12⟩) W) := Lib.hid fun W Ax cx ho => refPutData_any _ _ _ _ _ _ _ h0b h4b h6b Ax (n - 12) cx W (by omega) ho.len ho.rd
  have hs1 : ¬ (n : Int) < 13 := by omega
  clear hp hd hAA2
  obtain ⟨n0, hn0⟩ : ∃ n0, n0 = numO xs 0 4 := ⟨_, rfl⟩
  obtain ⟨n4, hn4⟩ : ∃ n4, n4 = numO xs 4 2 := ⟨_, rfl⟩
  obtain ⟨n6, hn6⟩ : ∃ n6, n6 = numO xs 6 2 := ⟨_, rfl⟩
  obtain ⟨b4, hb4⟩ : ∃ b4, b4 = decide (f &&& 4 ≠ 0) := ⟨_, rfl⟩
  obtain ⟨b2, hb2⟩ : ∃ b2, b2 = decide (f &&& 2 ≠ 0) := ⟨_, rfl⟩
  obtain ⟨b1, hb1⟩ : ∃ b1, b1 = decide (f &&& 1 ≠ 0) := ⟨_, rfl⟩
  rw [← hn0] at HW0 h0b HPT HSM
  rw [← hn4] at HW4 h4b HPT HSM
  rw [← hn6] at HW6 h6b HPT HSM
  rw [← hb4] at hq4 HPT HSM
  rw [← hb2] at hq2 HPT HSM
  rw [← hb1] at hq1 HPT HSM
  rw [← hn0, ← hn4, ← hn6, ← hb4, ← hb2, ← hb1]
  have he4 : bits .and .u8 (f.toNat : Int) 4 = e4 := he4
  have he2 : bits .and .u8 (f.toNat : Int) 2 = e2 := he2
  have he1 : bits .and .u8 (f.toNat : Int) 1 = e1 := he1
  obtain ⟨ZS, hZS⟩ : ∃ ZS, ZS = xs.drop 12 := ⟨_, rfl⟩
  rw [← hZS] at HCP HPT HSM ⊢
  obtain ⟨FL, hFL⟩ : ∃ FL, FL = flagsD b4 b2 b1 := ⟨_, rfl⟩
  rw [← hFL] at HPT HSM
  obtain ⟨Y, hY⟩ : ∃ Y, Y = bodyD ⟨n0, n4, n6, b4, b2, b1, ZS⟩ := ⟨_, rfl⟩
  rw [← hY] at HPT HSM
  clear hn0 hn4 hn6 hb4 hb2 hb1 hx hr hra hok hZS hFL hY
  have b0 : Blk (w.alloc (.cells #[.int .u8 (k.toNat : Int), .int .u8 (f.toNat : Int), .slice (some ⟨b, o, none⟩) n c] 28)) w.heap.size 28 #[.int .u8 (k.toNat : Int), .int .u8 (f.toNat : Int), .slice (some ⟨b, o, none⟩) n c] := Blk.new w 28 #[.int .u8 (k.toNat : Int), .int .u8 (f.toNat : Int), .slice (some ⟨b, o, none⟩) n c]
  have b1 : Blk ((w.alloc (.cells #[.int .u8 (k.toNat : Int), .int .u8 (f.toNat : Int), .slice (some ⟨b, o, none⟩) n c] 28)).alloc (.cells #[.int .u32 0, .int .u16 0, .int .u16 0, .bool false, .bool false, .bool false, .slice none 0 0] 26)) (w.heap.size + 1) 26 #[.int .u32 0, .int .u16 0, .int .u16 0, .bool false, .bool false, .bool false, .slice none 0 0] := by simpa using Blk.new (w.alloc (.cells #[.int .u8 (k.toNat : Int), .int .u8 (f.toNat : Int), .slice (some ⟨b, o, none⟩) n c] 28)) 26 #[.int .u32 0, .int .u16 0, .int .u16 0, .bool false, .bool false, .bool false, .slice none 0 0]
  have K0 := Lib.hid (b0.alloc (.cells #[.int .u32 0, .int .u16 0, .int .u16 0, .bool false, .bool false, .bool false, .slice none 0 0] 26))
  have K1 := Lib.hid b1
  have B0 : Hid (Below w.heap.size w ((w.alloc (.cells #[.int .u8 (k.toNat : Int), .int .u8 (f.toNat : Int), .slice (some ⟨b, o, none⟩) n c] 28)).alloc (.cells #[.int .u32 0, .int .u16 0, .int .u16 0, .bool false, .bool false, .bool false, .slice none 0 0] 26))) := Lib.hid (Wr.below_ (((Wr.refl 5 w.heap.size w).alloc (.cells #[.int .u8 (k.toNat : Int), .int .u8 (f.toNat : Int), .slice (some ⟨b, o, none⟩) n c] 28)).alloc (.cells #[.int .u32 0, .int .u16 0, .int .u16 0, .bool false, .bool false, .bool false, .slice none 0 0] 26)) (Nat.le_refl _))
  clear b0 b1
  go_enter Try.func17, Try.ntmps17
  rw [drawn_eq 3, drawn_eq 4]
  go_wp2_with fail
  generalize ((w.alloc (.cells #[.int .u8 (k.toNat : Int), .int .u8 (f.toNat : Int), .slice (some ⟨b, o, none⟩) n c] 28)).alloc (.cells #[.int .u32 0, .int .u16 0, .int .u16 0, .bool false, .bool false, .bool false, .slice none 0 0] 26)) = v0 at K0 K1 B0 ⊢
  rw [← drawn_eq 3]
  refine wp_region_grow_tail 30 (by kernel_rfl) [(Is (.pointer (some ⟨w.heap.size, 2, none⟩))), (Is (.slice (some ⟨b, o, none⟩) n c)), (Is (.int .u64 (n0 : Int))), (Is (.int .u32 (n0 : Int))), (Is (.pointer (some ⟨w.heap.size, 2, none⟩))), (Is (.slice (some ⟨b, o, none⟩) n c)), (Is (.int .u64 (n4 : Int))), (Is (.int .u16 (n4 : Int))), (Is (.pointer (some ⟨w.heap.size, 2, none⟩))), (Is (.slice (some ⟨b, o, none⟩) n c)), (Is (.int .u64 (n6 : Int))), (Is (.int .u16 (n6 : Int))), (Is (.pointer (some ⟨w.heap.size, 1, none⟩))), (Is (.int .u8 (f.toNat : Int))), (Is (.int .u8 e4)), (Is (.bool b4)), (Is (.pointer (some ⟨w.heap.size, 1, none⟩))), (Is (.int .u8 (f.toNat : Int))), (Is (.int .u8 e2)), (Is (.bool b2)), (Is (.pointer (some ⟨w.heap.size, 1, none⟩))), (Is (.int .u8 (f.toNat : Int))), (Is (.int .u8 e1)), (Is (.bool b1)), (Is (.pointer (some ⟨w.heap.size, 2, none⟩))), (Is (.slice (some ⟨b, o, none⟩) n c)), (Is (.slice AA (n - 12 : Nat) (c - 12 : Nat))), (NewOwn 5 w.heap.size (n - 12 : Nat) ZS), (NewAgg 5 w.heap.size (n - 12 : Nat) ZS (fun s => .agg #[.int .u32 (n0 : Int), .int .u16 (n4 : Int), .int .u16 (n6 : Int), .bool b4, .bool b2, .bool b1, s])), (NewBlk v0.heap.size 26 #[.int .u32 0, .int .u16 0, .int .u16 0, .bool false, .bool false, .bool false, .slice none 0 0])] rfl ?_ (by kernel_rfl) (by kernel_rfl) ?_ ?_
  · intro p hp
    simp only [List.mem_cons, List.not_mem_nil, or_false] at hp
    rcases hp with rfl | rfl | rfl | rfl | rfl | rfl | rfl | rfl | rfl | rfl | rfl | rfl | rfl | rfl | rfl | rfl | rfl | rfl | rfl | rfl | rfl | rfl | rfl | rfl | rfl | rfl | rfl | rfl | rfl | rfl
    · exact Lasts.is _
    · exact Lasts.is _
    · exact Lasts.is _
    · exact Lasts.is _
    · exact Lasts.is _
    · exact Lasts.is _
    · exact Lasts.is _
    · exact Lasts.is _
    · exact Lasts.is _
    · exact Lasts.is _
    · exact Lasts.is _
    · exact Lasts.is _
    · exact Lasts.is _
    · exact Lasts.is _
    · exact Lasts.is _
    · exact Lasts.is _
    · exact Lasts.is _
    · exact Lasts.is _
    · exact Lasts.is _
    · exact Lasts.is _
    · exact Lasts.is _
    · exact Lasts.is _
    · exact Lasts.is _
    · exact Lasts.is _
    · exact Lasts.is _
    · exact Lasts.is _
    · exact Lasts.is _
    · exact Lasts.newOwn _ _ _ _
    · exact Lasts.newAgg _ _ _ _ _
    · exact Lasts.newBlk _ _ _
  · refine ⟨?_, ?_, ?_, ?_, ?_, ?_, ?_, ?_, ?_, ?_, ?_, ?_, ?_, ?_, ?_, ?_, ?_, ?_, ?_, ?_, ?_, ?_, ?_, ?_, ?_, ?_, ?_, ?_, ?_, ?_, trivial⟩
    · intro listed a w1 hl hc
      have h1 : a.tmps[1]?.getD undef = .pointer (some ⟨w.heap.size, 0, none⟩) := (hc.was 1 (by kernel_rfl)).trans rfl
      refine does_value rfl rfl (.pointer (some ⟨w.heap.size, 2, none⟩)) w1 ?_ (Below.refl _ _) rfl
      clear hc hl
      go_simp
    · intro listed a w1 hl hc
      have h10 : a.tmps[10]?.getD undef = .pointer (some ⟨w.heap.size, 2, none⟩) := hc.dep hl 0 10 rfl (by kernel_rfl)
      have kb := K0.out.below hc.g K0.out.lt
      have x2 : w1.cell? ⟨w.heap.size, 2, none⟩ = some (.slice (some ⟨b, o, none⟩) n c) := kb.cell 2
      clear kb
      refine does_value rfl rfl (.slice (some ⟨b, o, none⟩) n c) w1 ?_ (Below.refl _ _) rfl
      clear hc hl
      go_simp
    · intro listed a w1 hl hc
      have h11 : a.tmps[11]?.getD undef = .slice (some ⟨b, o, none⟩) n c := hc.dep hl 1 11 rfl (by kernel_rfl)
      refine does_call rfl rfl 56 #[.slice (some ⟨b, o, none⟩) n c, .int .i64 0, .int .i64 4] ?_ ((HW0.out w1 (B0.out.trans (hc.g.mono B0.out.size))).mono fun e w' ⟨he, hb⟩ => ⟨_, he, hb, rfl⟩)
      clear hc hl
      go_simp
    · intro listed a w1 hl hc
      have h12 : a.tmps[12]?.getD undef = .int .u64 (n0 : Int) := hc.dep hl 2 12 rfl (by kernel_rfl)
      refine does_value rfl rfl (.int .u32 (n0 : Int)) w1 ?_ (Below.refl _ _) rfl
      clear hc hl
      go_simp
      exact wrap_u32n h0b
    · intro listed a w1 hl hc
      have h1 : a.tmps[1]?.getD undef = .pointer (some ⟨w.heap.size, 0, none⟩) := (hc.was 1 (by kernel_rfl)).trans rfl
      refine does_value rfl rfl (.pointer (some ⟨w.heap.size, 2, none⟩)) w1 ?_ (Below.refl _ _) rfl
      clear hc hl
      go_simp
    · intro listed a w1 hl hc
      have h14 : a.tmps[14]?.getD undef = .pointer (some ⟨w.heap.size, 2, none⟩) := hc.dep hl 4 14 rfl (by kernel_rfl)
      have kb := K0.out.below hc.g K0.out.lt
      have x2 : w1.cell? ⟨w.heap.size, 2, none⟩ = some (.slice (some ⟨b, o, none⟩) n c) := kb.cell 2
      clear kb
      refine does_value rfl rfl (.slice (some ⟨b, o, none⟩) n c) w1 ?_ (Below.refl _ _) rfl
      clear hc hl
      go_simp
    · intro listed a w1 hl hc
      have h15 : a.tmps[15]?.getD undef = .slice (some ⟨b, o, none⟩) n c := hc.dep hl 5 15 rfl (by kernel_rfl)
      refine does_call rfl rfl 56 #[.slice (some ⟨b, o, none⟩) n c, .int .i64 4, .int .i64 2] ?_ ((HW4.out w1 (B0.out.trans (hc.g.mono B0.out.size))).mono fun e w' ⟨he, hb⟩ => ⟨_, he, hb, rfl⟩)
      clear hc hl
      go_simp
    · intro listed a w1 hl hc
      have h16 : a.tmps[16]?.getD undef = .int .u64 (n4 : Int) := hc.dep hl 6 16 rfl (by kernel_rfl)
      refine does_value rfl rfl (.int .u16 (n4 : Int)) w1 ?_ (Below.refl _ _) rfl
      clear hc hl
      go_simp
      exact wrap_u16n h4b
    · intro listed a w1 hl hc
      have h1 : a.tmps[1]?.getD undef = .pointer (some ⟨w.heap.size, 0, none⟩) := (hc.was 1 (by kernel_rfl)).trans rfl
      refine does_value rfl rfl (.pointer (some ⟨w.heap.size, 2, none⟩)) w1 ?_ (Below.refl _ _) rfl
      clear hc hl
      go_simp
    · intro listed a w1 hl hc
      have h18 : a.tmps[18]?.getD undef = .pointer (some ⟨w.heap.size, 2, none⟩) := hc.dep hl 8 18 rfl (by kernel_rfl)
      have kb := K0.out.below hc.g K0.out.lt
      have x2 : w1.cell? ⟨w.heap.size, 2, none⟩ = some (.slice (some ⟨b, o, none⟩) n c) := kb.cell 2
      clear kb
      refine does_value rfl rfl (.slice (some ⟨b, o, none⟩) n c) w1 ?_ (Below.refl _ _) rfl
      clear hc hl
      go_simp
    · intro listed a w1 hl hc
      have h19 : a.tmps[19]?.getD undef = .slice (some ⟨b, o, none⟩) n c := hc.dep hl 9 19 rfl (by kernel_rfl)
      refine does_call rfl rfl 56 #[.slice (some ⟨b, o, none⟩) n c, .int .i64 6, .int .i64 2] ?_ ((HW6.out w1 (B0.out.trans (hc.g.mono B0.out.size))).mono fun e w' ⟨he, hb⟩ => ⟨_, he, hb, rfl⟩)
      clear hc hl
      go_simp
    · intro listed a w1 hl hc
      have h20 : a.tmps[20]?.getD undef = .int .u64 (n6 : Int) := hc.dep hl 10 20 rfl (by kernel_rfl)
      refine does_value rfl rfl (.int .u16 (n6 : Int)) w1 ?_ (Below.refl _ _) rfl
      clear hc hl
      go_simp
      exact wrap_u16n h6b
    · intro listed a w1 hl hc
      have h1 : a.tmps[1]?.getD undef = .pointer (some ⟨w.heap.size, 0, none⟩) := (hc.was 1 (by kernel_rfl)).trans rfl
      refine does_value rfl rfl (.pointer (some ⟨w.heap.size, 1, none⟩)) w1 ?_ (Below.refl _ _) rfl
      clear hc hl
      go_simp
    · intro listed a w1 hl hc
      have h22 : a.tmps[22]?.getD undef = .pointer (some ⟨w.heap.size, 1, none⟩) := hc.dep hl 12 22 rfl (by kernel_rfl)
      have kb := K0.out.below hc.g K0.out.lt
      have x1 : w1.cell? ⟨w.heap.size, 1, none⟩ = some (.int .u8 (f.toNat : Int)) := kb.cell 1
      clear kb
      refine does_value rfl rfl (.int .u8 (f.toNat : Int)) w1 ?_ (Below.refl _ _) rfl
      clear hc hl
      go_simp
    · intro listed a w1 hl hc
      have h23 : a.tmps[23]?.getD undef = .int .u8 (f.toNat : Int) := hc.dep hl 13 23 rfl (by kernel_rfl)
      refine does_value rfl rfl (.int .u8 e4) w1 ?_ (Below.refl _ _) rfl
      clear hc hl
      go_simp
    · intro listed a w1 hl hc
      have h24 : a.tmps[24]?.getD undef = .int .u8 e4 := hc.dep hl 14 24 rfl (by kernel_rfl)
      refine does_value rfl rfl (.bool b4) w1 ?_ (Below.refl _ _) rfl
      clear hc hl
      go_simp
    · intro listed a w1 hl hc
      have h1 : a.tmps[1]?.getD undef = .pointer (some ⟨w.heap.size, 0, none⟩) := (hc.was 1 (by kernel_rfl)).trans rfl
      refine does_value rfl rfl (.pointer (some ⟨w.heap.size, 1, none⟩)) w1 ?_ (Below.refl _ _) rfl
      clear hc hl
      go_simp
    · intro listed a w1 hl hc
      have h26 : a.tmps[26]?.getD undef = .pointer (some ⟨w.heap.size, 1, none⟩) := hc.dep hl 16 26 rfl (by kernel_rfl)
      have kb := K0.out.below hc.g K0.out.lt
      have x1 : w1.cell? ⟨w.heap.size, 1, none⟩ = some (.int .u8 (f.toNat : Int)) := kb.cell 1
      clear kb
      refine does_value rfl rfl (.int .u8 (f.toNat : Int)) w1 ?_ (Below.refl _ _) rfl
      clear hc hl
      go_simp
    · intro listed a w1 hl hc
      have h27 : a.tmps[27]?.getD undef = .int .u8 (f.toNat : Int) := hc.dep hl 17 27 rfl (by kernel_rfl)
      refine does_value rfl rfl (.int .u8 e2) w1 ?_ (Below.refl _ _) rfl
      clear hc hl
      go_simp
    · intro listed a w1 hl hc
      have h28 : a.tmps[28]?.getD undef = .int .u8 e2 := hc.dep hl 18 28 rfl (by kernel_rfl)
      refine does_value rfl rfl (.bool b2) w1 ?_ (Below.refl _ _) rfl
      clear hc hl
      go_simp
    · intro listed a w1 hl hc
      have h1 : a.tmps[1]?.getD undef = .pointer (some ⟨w.heap.size, 0, none⟩) := (hc.was 1 (by kernel_rfl)).trans rfl
      refine does_value rfl rfl (.pointer (some ⟨w.heap.size, 1, none⟩)) w1 ?_ (Below.refl _ _) rfl
      clear hc hl
      go_simp
    · intro listed a w1 hl hc
      have h30 : a.tmps[30]?.getD undef = .pointer (some ⟨w.heap.size, 1, none⟩) := hc.dep hl 20 30 rfl (by kernel_rfl)
      have kb := K0.out.below hc.g K0.out.lt
      have x1 : w1.cell? ⟨w.heap.size, 1, none⟩ = some (.int .u8 (f.toNat : Int)) := kb.cell 1
      clear kb
      refine does_value rfl rfl (.int .u8 (f.toNat : Int)) w1 ?_ (Below.refl _ _) rfl
      clear hc hl
      go_simp
    · intro listed a w1 hl hc
      have h31 : a.tmps[31]?.getD undef = .int .u8 (f.toNat : Int) := hc.dep hl 21 31 rfl (by kernel_rfl)
      refine does_value rfl rfl (.int .u8 e1) w1 ?_ (Below.refl _ _) rfl
      clear hc hl
      go_simp
    · intro listed a w1 hl hc
      have h32 : a.tmps[32]?.getD undef = .int .u8 e1 := hc.dep hl 22 32 rfl (by kernel_rfl)
      refine does_value rfl rfl (.bool b1) w1 ?_ (Below.refl _ _) rfl
      clear hc hl
      go_simp
    · intro listed a w1 hl hc
      have h1 : a.tmps[1]?.getD undef = .pointer (some ⟨w.heap.size, 0, none⟩) := (hc.was 1 (by kernel_rfl)).trans rfl
      refine does_value rfl rfl (.pointer (some ⟨w.heap.size, 2, none⟩)) w1 ?_ (Below.refl _ _) rfl
      clear hc hl
      go_simp
    · intro listed a w1 hl hc
      have h34 : a.tmps[34]?.getD undef = .pointer (some ⟨w.heap.size, 2, none⟩) := hc.dep hl 24 34 rfl (by kernel_rfl)
      have kb := K0.out.below hc.g K0.out.lt
      have x2 : w1.cell? ⟨w.heap.size, 2, none⟩ = some (.slice (some ⟨b, o, none⟩) n c) := kb.cell 2
      clear kb
      refine does_value rfl rfl (.slice (some ⟨b, o, none⟩) n c) w1 ?_ (Below.refl _ _) rfl
      clear hc hl
      go_simp
    · intro listed a w1 hl hc
      have h35 : a.tmps[35]?.getD undef = .slice (some ⟨b, o, none⟩) n c := hc.dep hl 25 35 rfl (by kernel_rfl)
      refine does_value rfl rfl (.slice (if c = 12 then some ⟨b, o, none⟩ else some ⟨b, o + 12, none⟩) (n - 12 : Nat) (c - 12 : Nat)) w1 ?_ (Below.refl _ _) (show _ = _ by rw [HAA.out])
      clear hc hl
      go_simp
      intro hh; omega
    · intro listed a w1 hl hc
      have h36 : a.tmps[36]?.getD undef = .slice AA (n - 12 : Nat) (c - 12 : Nat) := hc.dep hl 26 36 rfl (by kernel_rfl)
      refine does_call rfl rfl 57 #[.slice AA (n - 12 : Nat) (c - 12 : Nat)] ?_ ((HCP.out w1 (B0.out.trans (hc.g.mono B0.out.size))).mono fun e w' ⟨A9, c9, he, ho, hb⟩ => ⟨_, he, hb, A9, c9, rfl, ho.more (Nat.le_trans B0.out.size hc.g.size)⟩)
      clear hc hl
      go_simp
    · intro listed a w1 hl hc
      have h13 : a.tmps[13]?.getD undef = .int .u32 (n0 : Int) := hc.dep hl 3 13 rfl (by kernel_rfl)
      have h17 : a.tmps[17]?.getD undef = .int .u16 (n4 : Int) := hc.dep hl 7 17 rfl (by kernel_rfl)
      have h21 : a.tmps[21]?.getD undef = .int .u16 (n6 : Int) := hc.dep hl 11 21 rfl (by kernel_rfl)
      have h25 : a.tmps[25]?.getD undef = .bool b4 := hc.dep hl 15 25 rfl (by kernel_rfl)
      have h29 : a.tmps[29]?.getD undef = .bool b2 := hc.dep hl 19 29 rfl (by kernel_rfl)
      have h33 : a.tmps[33]?.getD undef = .bool b1 := hc.dep hl 23 33 rfl (by kernel_rfl)
      obtain ⟨A37, c37, h37, ho37⟩ := hc.dep hl 27 37 rfl (by kernel_rfl)
      refine does_value rfl rfl (.agg #[.int .u32 (n0 : Int), .int .u16 (n4 : Int), .int .u16 (n6 : Int), .bool b4, .bool b2, .bool b1, .slice A37 (n - 12 : Nat) c37]) w1 ?_ (Below.refl _ _) ⟨A37, c37, rfl, ho37⟩
      clear hc hl
      go_simp
    · intro listed a w1 hl hc
      refine does_value rfl rfl (.pointer (some ⟨w1.heap.size, 0, none⟩)) (w1.alloc (.cells #[.int .u32 0, .int .u16 0, .int .u16 0, .bool false, .bool false, .bool false, .slice none 0 0] 26)) ?_ (below_new w1 _) ⟨_, rfl, hc.g.size, Blk.new _ _ _⟩
      clear hc hl
      go_simp
  intro w2 hb2
  rintro _ rfl _ rfl _ rfl _ rfl _ rfl _ rfl _ rfl _ rfl _ rfl _ rfl _ rfl _ rfl _ rfl _ rfl _ rfl _ rfl _ rfl _ rfl _ rfl _ rfl _ rfl _ rfl _ rfl _ rfl _ rfl _ rfl _ rfl _ ⟨A37, c37, rfl, ho37⟩ _ ⟨A38, c38, rfl, ho38⟩ _ ⟨g4, rfl, hg4, hb4⟩
  simp only [Thus, List.reverse_cons, List.reverse_nil, List.nil_append, List.cons_append, List.drop, List.take, lay]
  go_frame
  have hl0 := K0.out.lt
  have hl1 := K1.out.lt
  have HG := Lib.hid hb4
  have hge : w.heap.size ≤ g4 := by omega
  have y0 := HG.out.cell 0
  have y1 := HG.out.cell 1
  have y2 := HG.out.cell 2
  have y3 := HG.out.cell 3
  have y4 := HG.out.cell 4
  have y5 := HG.out.cell 5
  have y6 := HG.out.cell 6
  have z0 := HG.out.frozen 0
  have z1 := HG.out.frozen 1
  have z2 := HG.out.frozen 2
  have z3 := HG.out.frozen 3
  have z4 := HG.out.frozen 4
  have z5 := HG.out.frozen 5
  have z6 := HG.out.frozen 6
  have G3 : Hid (Blk (((((((w2.setCell ⟨g4, 0, none⟩ (.int .u32 (n0 : Int))).setCell ⟨g4, 1, none⟩ (.int .u16 (n4 : Int))).setCell ⟨g4, 2, none⟩ (.int .u16 (n6 : Int))).setCell ⟨g4, 3, none⟩ (.bool b4)).setCell ⟨g4, 4, none⟩ (.bool b2)).setCell ⟨g4, 5, none⟩ (.bool b1)).setCell ⟨g4, 6, none⟩ (.slice A38 (n - 12 : Nat) c38)) g4 26 #[.int .u32 (n0 : Int), .int .u16 (n4 : Int), .int .u16 (n6 : Int), .bool b4, .bool b2, .bool b1, .slice A38 (n - 12 : Nat) c38]) := Lib.hid (((((((HG.out.set_ 0 (.int .u32 (n0 : Int))).set_ 1 (.int .u16 (n4 : Int))).set_ 2 (.int .u16 (n6 : Int))).set_ 3 (.bool b4)).set_ 4 (.bool b2)).set_ 5 (.bool b1)).set_ 6 (.slice A38 (n - 12 : Nat) c38))
  have O3 := Lib.hid (((((((ho38.setBlk HG.out (by decide) 0 (.int .u32 (n0 : Int))).setBlk (HG.out.set_ 0 (.int .u32 (n0 : Int))) (by decide) 1 (.int .u16 (n4 : Int))).setBlk ((HG.out.set_ 0 (.int .u32 (n0 : Int))).set_ 1 (.int .u16 (n4 : Int))) (by decide) 2 (.int .u16 (n6 : Int))).setBlk (((HG.out.set_ 0 (.int .u32 (n0 : Int))).set_ 1 (.int .u16 (n4 : Int))).set_ 2 (.int .u16 (n6 : Int))) (by decide) 3 (.bool b4)).setBlk ((((HG.out.set_ 0 (.int .u32 (n0 : Int))).set_ 1 (.int .u16 (n4 : Int))).set_ 2 (.int .u16 (n6 : Int))).set_ 3 (.bool b4)) (by decide) 4 (.bool b2)).setBlk (((((HG.out.set_ 0 (.int .u32 (n0 : Int))).set_ 1 (.int .u16 (n4 : Int))).set_ 2 (.int .u16 (n6 : Int))).set_ 3 (.bool b4)).set_ 4 (.bool b2)) (by decide) 5 (.bool b1)).setBlk ((((((HG.out.set_ 0 (.int .u32 (n0 : Int))).set_ 1 (.int .u16 (n4 : Int))).set_ 2 (.int .u16 (n6 : Int))).set_ 3 (.bool b4)).set_ 4 (.bool b2)).set_ 5 (.bool b1)) (by decide) 6 (.slice A38 (n - 12 : Nat) c38))
  have K0b := Lib.hid ((((((((K0.out.below hb2 K0.out.lt).far (p := ⟨g4, 0, none⟩) (show w.heap.size ≠ g4 by omega) (.int .u32 (n0 : Int))).far (p := ⟨g4, 1, none⟩) (show w.heap.size ≠ g4 by omega) (.int .u16 (n4 : Int))).far (p := ⟨g4, 2, none⟩) (show w.heap.size ≠ g4 by omega) (.int .u16 (n6 : Int))).far (p := ⟨g4, 3, none⟩) (show w.heap.size ≠ g4 by omega) (.bool b4)).far (p := ⟨g4, 4, none⟩) (show w.heap.size ≠ g4 by omega) (.bool b2)).far (p := ⟨g4, 5, none⟩) (show w.heap.size ≠ g4 by omega) (.bool b1)).far (p := ⟨g4, 6, none⟩) (show w.heap.size ≠ g4 by omega) (.slice A38 (n - 12 : Nat) c38))
  have K1b := Lib.hid ((((((((K1.out.below hb2 K1.out.lt).far (p := ⟨g4, 0, none⟩) (show w.heap.size + 1 ≠ g4 by omega) (.int .u32 (n0 : Int))).far (p := ⟨g4, 1, none⟩) (show w.heap.size + 1 ≠ g4 by omega) (.int .u16 (n4 : Int))).far (p := ⟨g4, 2, none⟩) (show w.heap.size + 1 ≠ g4 by omega) (.int .u16 (n6 : Int))).far (p := ⟨g4, 3, none⟩) (show w.heap.size + 1 ≠ g4 by omega) (.bool b4)).far (p := ⟨g4, 4, none⟩) (show w.heap.size + 1 ≠ g4 by omega) (.bool b2)).far (p := ⟨g4, 5, none⟩) (show w.heap.size + 1 ≠ g4 by omega) (.bool b1)).far (p := ⟨g4, 6, none⟩) (show w.heap.size + 1 ≠ g4 by omega) (.slice A38 (n - 12 : Nat) c38))
  have B3 := Lib.hid ((((((((below_then B0.out (Nat.le_refl _) hb2).setCell (p := ⟨g4, 0, none⟩) (show w.heap.size ≤ g4 by omega) (.int .u32 (n0 : Int))).setCell (p := ⟨g4, 1, none⟩) (show w.heap.size ≤ g4 by omega) (.int .u16 (n4 : Int))).setCell (p := ⟨g4, 2, none⟩) (show w.heap.size ≤ g4 by omega) (.int .u16 (n6 : Int))).setCell (p := ⟨g4, 3, none⟩) (show w.heap.size ≤ g4 by omega) (.bool b4)).setCell (p := ⟨g4, 4, none⟩) (show w.heap.size ≤ g4 by omega) (.bool b2)).setCell (p := ⟨g4, 5, none⟩) (show w.heap.size ≤ g4 by omega) (.bool b1)).setCell (p := ⟨g4, 6, none⟩) (show w.heap.size ≤ g4 by omega) (.slice A38 (n - 12 : Nat) c38))
  clear hb2 hb4 K0 K1 B0 HG ho37 ho38
  go_wp2_with fail
  generalize (((((((w2.setCell ⟨g4, 0, none⟩ (.int .u32 (n0 : Int))).setCell ⟨g4, 1, none⟩ (.int .u16 (n4 : Int))).setCell ⟨g4, 2, none⟩ (.int .u16 (n6 : Int))).setCell ⟨g4, 3, none⟩ (.bool b4)).setCell ⟨g4, 4, none⟩ (.bool b2)).setCell ⟨g4, 5, none⟩ (.bool b1)).setCell ⟨g4, 6, none⟩ (.slice A38 (n - 12 : Nat) c38)) = v3 at G3 O3 K0b K1b B3 ⊢
  clear y0 z0 y1 z1 y2 z2 y3 z3 y4 z4 y5 z5 y6 z6
  rw [← drawn_eq 4]
  refine wp_region_grow_tail 4 (by kernel_rfl) [(Is (.agg #[.int .u32 (n0 : Int), .int .u16 (n4 : Int), .int .u16 (n6 : Int), .bool b4, .bool b2, .bool b1, .slice A38 (n - 12 : Nat) c38])), (NewAgg 5 w.heap.size Y.length Y (fun s => .agg #[.int .u8 ((0 : UInt8).toNat : Int), .int .u8 (FL.toNat : Int), s])), (Is (.agg #[.int .u8 (k.toNat : Int), .int .u8 (f.toNat : Int), .slice (some ⟨b, o, none⟩) n c])), (Is (.bool true))] rfl ?_ (by kernel_rfl) (by kernel_rfl) ?_ ?_
  · intro p hp
    simp only [List.mem_cons, List.not_mem_nil, or_false] at hp
    rcases hp with rfl | rfl | rfl | rfl
    · exact Lasts.is _
    · exact Lasts.newAgg _ _ _ _ _
    · exact Lasts.is _
    · exact Lasts.is _
  · refine ⟨?_, ?_, ?_, ?_, trivial⟩
    · intro listed a w1 hl hc
      have h4 : a.tmps[4]?.getD undef = .pointer (some ⟨g4, 0, none⟩) := (hc.was 4 (by kernel_rfl)).trans rfl
      have kb := G3.out.below hc.g G3.out.lt
      have x0 : w1.cell? ⟨g4, 0, none⟩ = some (.int .u32 (n0 : Int)) := kb.cell 0
      have x1 : w1.cell? ⟨g4, 1, none⟩ = some (.int .u16 (n4 : Int)) := kb.cell 1
      have x2 : w1.cell? ⟨g4, 2, none⟩ = some (.int .u16 (n6 : Int)) := kb.cell 2
      have x3 : w1.cell? ⟨g4, 3, none⟩ = some (.bool b4) := kb.cell 3
      have x4 : w1.cell? ⟨g4, 4, none⟩ = some (.bool b2) := kb.cell 4
      have x5 : w1.cell? ⟨g4, 5, none⟩ = some (.bool b1) := kb.cell 5
      have x6 : w1.cell? ⟨g4, 6, none⟩ = some (.slice A38 (n - 12 : Nat) c38) := kb.cell 6
      clear kb
      refine does_value rfl rfl (.agg #[.int .u32 (n0 : Int), .int .u16 (n4 : Int), .int .u16 (n6 : Int), .bool b4, .bool b2, .bool b1, .slice A38 (n - 12 : Nat) c38]) w1 ?_ (Below.refl _ _) rfl
      clear hc hl
      go_simp
    · intro listed a w1 hl hc
      have h39 : a.tmps[39]?.getD undef = .agg #[.int .u32 (n0 : Int), .int .u16 (n4 : Int), .int .u16 (n6 : Int), .bool b4, .bool b2, .bool b1, .slice A38 (n - 12 : Nat) c38] := hc.dep hl 0 39 rfl (by kernel_rfl)
      refine does_call rfl rfl 19 #[.agg #[.int .u32 (n0 : Int), .int .u16 (n4 : Int), .int .u16 (n6 : Int), .bool b4, .bool b2, .bool b1, .slice A38 (n - 12 : Nat) c38]] ?_ ((HPT.out w1 A38 c38 (O3.out.below hc.g (Nat.le_refl _))).mono fun e w' ⟨A9, c9, he, ho, hb⟩ => ⟨_, he, hb, A9, c9, rfl, ho.more (Nat.le_trans B3.out.size hc.g.size)⟩)
      clear hc hl
      go_simp
    · intro listed a w1 hl hc
      have h1 : a.tmps[1]?.getD undef = .pointer (some ⟨w.heap.size, 0, none⟩) := (hc.was 1 (by kernel_rfl)).trans rfl
      have kb := K0b.out.below hc.g K0b.out.lt
      have x0 : w1.cell? ⟨w.heap.size, 0, none⟩ = some (.int .u8 (k.toNat : Int)) := kb.cell 0
      have x1 : w1.cell? ⟨w.heap.size, 1, none⟩ = some (.int .u8 (f.toNat : Int)) := kb.cell 1
      have x2 : w1.cell? ⟨w.heap.size, 2, none⟩ = some (.slice (some ⟨b, o, none⟩) n c) := kb.cell 2
      clear kb
      refine does_value rfl rfl (.agg #[.int .u8 (k.toNat : Int), .int .u8 (f.toNat : Int), .slice (some ⟨b, o, none⟩) n c]) w1 ?_ (Below.refl _ _) rfl
      clear hc hl
      go_simp
    · intro listed a w1 hl hc
      obtain ⟨A40, c40, h40, ho40⟩ := hc.dep hl 1 40 rfl (by kernel_rfl)
      have h41 : a.tmps[41]?.getD undef = .agg #[.int .u8 (k.toNat : Int), .int .u8 (f.toNat : Int), .slice (some ⟨b, o, none⟩) n c] := hc.dep hl 2 41 rfl (by kernel_rfl)
      refine does_call rfl rfl 18 #[.agg #[.int .u8 ((0 : UInt8).toNat : Int), .int .u8 (FL.toNat : Int), .slice A40 Y.length c40], .agg #[.int .u8 (k.toNat : Int), .int .u8 (f.toNat : Int), .slice (some ⟨b, o, none⟩) n c]] ?_ ((HSM.out w1 _ _ (B3.out.trans (hc.g.mono B3.out.size)) ho40).mono fun e w' ⟨he, hb⟩ => ⟨_, he, hb, rfl⟩)
      clear hc hl
      go_simp
  intro w2 hb2
  rintro _ rfl _ ⟨A40, c40, rfl, ho40⟩ _ rfl _ rfl
  simp only [Thus, List.reverse_cons, List.reverse_nil, List.nil_append, List.cons_append, List.drop, List.take, lay]
  go_frame
  have G4 := Lib.hid (G3.out.below hb2 G3.out.lt)
  have K1e := Lib.hid (K1b.out.below hb2 K1b.out.lt)
  have B6 := Lib.hid (below_then B3.out (Nat.le_refl _) hb2)
  have O6 := Lib.hid (O3.out.below hb2 (Nat.le_refl _))
  clear hb2 ho40 G3 K0b K1b B3 O3
  have x0 := G4.out.cell 0
  have x1 := G4.out.cell 1
  have x2 := G4.out.cell 2
  have x3 := G4.out.cell 3
  have x4 := G4.out.cell 4
  have x5 := G4.out.cell 5
  have x6 := G4.out.cell 6
  have y0 := K1e.out.cell 0
  have y1 := K1e.out.cell 1
  have y2 := K1e.out.cell 2
  have y3 := K1e.out.cell 3
  have y4 := K1e.out.cell 4
  have y5 := K1e.out.cell 5
  have y6 := K1e.out.cell 6
  have z0 := K1e.out.frozen 0
  have z1 := K1e.out.frozen 1
  have z2 := K1e.out.frozen 2
  have z3 := K1e.out.frozen 3
  have z4 := K1e.out.frozen 4
  have z5 := K1e.out.frozen 5
  have z6 := K1e.out.frozen 6
  go_wp2_with fail
  have H3 := (((((((K1e.out.set_ 0 (.int .u32 (n0 : Int))).set_ 1 (.int .u16 (n4 : Int))).set_ 2 (.int .u16 (n6 : Int))).set_ 3 (.bool b4)).set_ 4 (.bool b2)).set_ 5 (.bool b1)).set_ 6 (.slice A38 (n - 12 : Nat) c38))
  exact bodyPost_ret (v := .tuple #[.agg #[.int .u32 (n0 : Int), .int .u16 (n4 : Int), .int .u16 (n6 : Int), .bool b4, .bool b2, .bool b1, .slice A38 (n - 12 : Nat) c38], .int .i64 0]) (by simp [results, Try.results17, go_sem, H3.cell]) rfl ⟨A38, n - 12, c38, rfl, (((((((O6.out.setBlk K1e.out (by decide) 0 (.int .u32 (n0 : Int))).setBlk (K1e.out.set_ 0 (.int .u32 (n0 : Int))) (by decide) 1 (.int .u16 (n4 : Int))).setBlk ((K1e.out.set_ 0 (.int .u32 (n0 : Int))).set_ 1 (.int .u16 (n4 : Int))) (by decide) 2 (.int .u16 (n6 : Int))).setBlk (((K1e.out.set_ 0 (.int .u32 (n0 : Int))).set_ 1 (.int .u16 (n4 : Int))).set_ 2 (.int .u16 (n6 : Int))) (by decide) 3 (.bool b4)).setBlk ((((K1e.out.set_ 0 (.int .u32 (n0 : Int))).set_ 1 (.int .u16 (n4 : Int))).set_ 2 (.int .u16 (n6 : Int))).set_ 3 (.bool b4)) (by decide) 4 (.bool b2)).setBlk (((((K1e.out.set_ 0 (.int .u32 (n0 : Int))).set_ 1 (.int .u16 (n4 : Int))).set_ 2 (.int .u16 (n6 : Int))).set_ 3 (.bool b4)).set_ 4 (.bool b2)) (by decide) 5 (.bool b1)).setBlk ((((((K1e.out.set_ 0 (.int .u32 (n0 : Int))).set_ 1 (.int .u16 (n4 : Int))).set_ 2 (.int .u16 (n6 : Int))).set_ 3 (.bool b4)).set_ 4 (.bool b2)).set_ 5 (.bool b1)) (by decide) 6 (.slice A38 (n - 12 : Nat) c38)), (((((((B6.out.setCell (p := ⟨w.heap.size + 1, 0, none⟩) (show w.heap.size ≤ w.heap.size + 1 by omega) (.int .u32 (n0 : Int))).setCell (p := ⟨w.heap.size + 1, 1, none⟩) (show w.heap.size ≤ w.heap.size + 1 by omega) (.int .u16 (n4 : Int))).setCell (p := ⟨w.heap.size + 1, 2, none⟩) (show w.heap.size ≤ w.heap.size + 1 by omega) (.int .u16 (n6 : Int))).setCell (p := ⟨w.heap.size + 1, 3, none⟩) (show w.heap.size ≤ w.heap.size + 1 by omega) (.bool b4)).setCell (p := ⟨w.heap.size + 1, 4, none⟩) (show w.heap.size ≤ w.heap.size + 1 by omega) (.bool b2)).setCell (p := ⟨w.heap.size + 1, 5, none⟩) (show w.heap.size ≤ w.heap.size + 1 by omega) (.bool b1)).setCell (p := ⟨w.heap.size + 1, 6, none⟩) (show w.heap.size ≤ w.heap.size + 1 by omega) (.slice A38 (n - 12 : Nat) c38))⟩
theorem refGetData_any (k f : UInt8) (A : Option Addr) (n c : Nat) (xs : List UInt8) (w : World) (hn : n ≤ 140737488355200) (hc : n ≤ c) (hcm : c ≤ maxLen) (hx : xs.length = n) (hr : Rd w w.heap.size A xs) : GetsD 17 #[.agg #[.int .u8 (k.toNat : Int), .int .u8 (f.toNat : Int), .slice A n c]] k f xs w := by
  by_cases h : 13 ≤ n
  · cases hok : okD k f xs
    · exact refGetData_no k f A n c xs w hn hc hcm hx hr h hok
    · exact refGetData_yes k f A n c xs w hn hc hcm hx hr h hok
  · exact refGetData_short k f A n c xs w hn hc hcm hx hr (by omega)
end Go.Proofs.Ytalgkokgaibloaa
