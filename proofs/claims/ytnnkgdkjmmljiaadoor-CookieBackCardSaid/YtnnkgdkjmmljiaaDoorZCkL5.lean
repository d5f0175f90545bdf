/-
  Package cookie: CookieBack, the cookie may be.
-/
import Derived.Test.YtnnkgdkjmmljiaaDoorZCkL1
import Derived.Test.YtnnkgdkjmmljiaaDoorQ19
import Derived.Deep.CutRange
namespace Go.Proofs.YtnnkgdkjmmljiaaDoor
open Go.RowKit
set_option linter.unusedVariables false

set_option maxRecDepth 100000 in
set_option maxHeartbeats 4000000 in
theorem cookieBack_big (A : Option Addr) (n c : Nat) (ks : List UInt8) (x : Ck) (a y : UInt8) (A' : Option Addr) (n' c' : Nat) (ms : List UInt8) (w : World) (hT : Tabs w) (hn : n ≤ c) (hc : c ≤ maxLen) (hx : ks.length = n) (hr : Rd w w.heap.size A ks) (hw : x.Wf) (hn' : n' ≤ c') (hc' : c' ≤ maxLen) (hm : ms.length = n') (hr' : Rd w w.heap.size A' ms) (hbig : 4096 < n ∨ 4096 < n') : Calls Tryd.prog 5 #[.slice A n c, .agg #[.int .i64 x.b, .int .u32 (x.ot : Int), .int .u32 (x.pt : Int), .int .u32 (x.os : Int), .int .u32 (x.ps : Int), .int .u32 (x.rw : Int), .int .u16 (x.ou : Int), .int .u16 (x.inn : Int)], .int .u8 (a.toNat : Int), .int .u8 (y.toNat : Int), .slice A' n' c'] w fun e w' => e = .returned (.bool true) ∧ Below w.heap.size w w' := by
  have h2 := hT.2.2
  have HT := Lib.hid hT
  have HR := Lib.hid hr
  have HX := Lib.hid hx
  have HR' := Lib.hid hr'
  have HY := Lib.hid hm
  have HC := Lib.hid hc
  have HC' := Lib.hid hc'
  have HWF := Lib.hid hw
  have K0 := Lib.hid (Blk.new w 26 #[.int .i64 x.b, .int .u32 (x.ot : Int), .int .u32 (x.pt : Int), .int .u32 (x.os : Int), .int .u32 (x.ps : Int), .int .u32 (x.rw : Int), .int .u16 (x.ou : Int), .int .u16 (x.inn : Int)])
  have B0 := Lib.hid (below_new w (.cells #[.int .i64 x.b, .int .u32 (x.ot : Int), .int .u32 (x.pt : Int), .int .u32 (x.os : Int), .int .u32 (x.ps : Int), .int .u32 (x.rw : Int), .int .u16 (x.ou : Int), .int .u16 (x.inn : Int)] 26))
  clear hT hx hr hc hm hr' hc' hw
  by_cases hbn : 4096 < n
  · have hb : decide ((n : Int) > 4096) = true := by simp; omega
    go_enter Tryd.func5, Tryd.ntmps5
    go_wp2_with fail
    generalize w.alloc (.cells #[.int .i64 x.b, .int .u32 (x.ot : Int), .int .u32 (x.pt : Int), .int .u32 (x.os : Int), .int .u32 (x.ps : Int), .int .u32 (x.rw : Int), .int .u16 (x.ou : Int), .int .u16 (x.inn : Int)] 26) = w0 at K0 B0 ⊢
    refine (ckWorks_any w0 (HT.out.below B0.out h2)).mono ?_
    rintro e w9 ⟨rfl, hb9⟩
    go_wp2_with fail
    go_ret
    exact ⟨rfl, below_then B0.out (Nat.le_refl _) hb9⟩
  · have hb : decide ((n : Int) > 4096) = false := by simp; omega
    have hb' : decide ((n' : Int) > 4096) = true := by simp; omega
    go_enter Tryd.func5, Tryd.ntmps5
    go_wp2_with fail
    generalize w.alloc (.cells #[.int .i64 x.b, .int .u32 (x.ot : Int), .int .u32 (x.pt : Int), .int .u32 (x.os : Int), .int .u32 (x.ps : Int), .int .u32 (x.rw : Int), .int .u16 (x.ou : Int), .int .u16 (x.inn : Int)] 26) = w0 at K0 B0 ⊢
    refine (ckWorks_any w0 (HT.out.below B0.out h2)).mono ?_
    rintro e w9 ⟨rfl, hb9⟩
    go_wp2_with fail
    go_ret
    exact ⟨rfl, below_then B0.out (Nat.le_refl _) hb9⟩

set_option maxRecDepth 100000 in
set_option maxHeartbeats 4000000 in
theorem cookieBack_ttt (A : Option Addr) (n c : Nat) (ks : List UInt8) (x : Ck) (a y : UInt8) (A' : Option Addr) (n' c' : Nat) (ms : List UInt8) (w : World) (hT : Tabs w) (hn : n ≤ c) (hc : c ≤ maxLen) (hx : ks.length = n) (hr : Rd w w.heap.size A ks) (hw : x.Wf) (hn' : n' ≤ c') (hc' : c' ≤ maxLen) (hm : ms.length = n') (hr' : Rd w w.heap.size A' ms) (hln : n ≤ 4096) (hln' : n' ≤ 4096) (hmay : x.may = true) (hy : y = 0) (hmo : n' = 0) : Calls Tryd.prog 5 #[.slice A n c, .agg #[.int .i64 x.b, .int .u32 (x.ot : Int), .int .u32 (x.pt : Int), .int .u32 (x.os : Int), .int .u32 (x.ps : Int), .int .u32 (x.rw : Int), .int .u16 (x.ou : Int), .int .u16 (x.inn : Int)], .int .u8 (a.toNat : Int), .int .u8 (y.toNat : Int), .slice A' n' c'] w fun e w' => e = .returned (.bool true) ∧ Below w.heap.size w w' := by
  have h2 := hT.2.2
  have HT := Lib.hid hT
  have HR := Lib.hid hr
  have HX := Lib.hid hx
  have HR' := Lib.hid hr'
  have HY := Lib.hid hm
  have HC := Lib.hid hc
  have HC' := Lib.hid hc'
  have HWF := Lib.hid hw
  have K0 := Lib.hid (Blk.new w 26 #[.int .i64 x.b, .int .u32 (x.ot : Int), .int .u32 (x.pt : Int), .int .u32 (x.os : Int), .int .u32 (x.ps : Int), .int .u32 (x.rw : Int), .int .u16 (x.ou : Int), .int .u16 (x.inn : Int)])
  have B0 := Lib.hid (below_new w (.cells #[.int .i64 x.b, .int .u32 (x.ot : Int), .int .u32 (x.pt : Int), .int .u32 (x.os : Int), .int .u32 (x.ps : Int), .int .u32 (x.rw : Int), .int .u16 (x.ou : Int), .int .u16 (x.inn : Int)] 26))
  clear hT hx hr hc hm hr' hc' hw
  have hb : decide ((n : Int) > 4096) = false := by simp; omega
  have hb' : decide ((n' : Int) > 4096) = false := by simp; omega
  obtain ⟨i8, h8⟩ := Tryd.ty8
  have hz := zero_cookie
  obtain ⟨V, hV⟩ : ∃ V, V = wrC ks x := ⟨_, rfl⟩
  have HV := Lib.hid hV
  have hVl := length_wrC ks x
  rw [← hV] at hVl
  have HVL := Lib.hid hVl
  clear hV hVl
  have HM := Lib.hid hmay
  have CW : Hid (∀ W A1 c1, Below w.heap.size w W → Rd W W.heap.size A1 ks → n ≤ c1 → c1 ≤ maxLen → Calls Tryd.prog 12 #[.slice A1 n c1, .agg #[.int .i64 x.b, .int .u32 (x.ot : Int), .int .u32 (x.pt : Int), .int .u32 (x.os : Int), .int .u32 (x.ps : Int), .int .u32 (x.rw : Int), .int .u16 (x.ou : Int), .int .u16 (x.inn : Int)]] W fun e w' => ∃ A2 c2, e = .returned (.slice A2 64 c2) ∧ Own8 w' 5 W.heap.size A2 64 c2 V ∧ Below W.heap.size W w') := Lib.hid fun W A1 c1 g hr1 h1 h3 => HV.out ▸ ckWrite_any A1 n c1 ks x W (HT.out.below g h2) h1 h3 HX.out hr1 (by omega) HWF.out
  have CR : Hid (∀ W A1 n1 c1 (zs : List UInt8) (v : Ck) (e0 : Int), Below w.heap.size w W → Rd W W.heap.size A1 zs → n1 ≤ c1 → c1 ≤ maxLen → zs.length = n1 → ansC (rdC ks zs) = v → errC (rdC ks zs) = e0 → Calls Tryd.prog 14 #[.slice A n c, .slice A1 n1 c1] W fun e w' => e = .returned (.tuple #[.agg #[.int .i64 v.b, .int .u32 (v.ot : Int), .int .u32 (v.pt : Int), .int .u32 (v.os : Int), .int .u32 (v.ps : Int), .int .u32 (v.rw : Int), .int .u16 (v.ou : Int), .int .u16 (v.inn : Int)], .int .i64 e0]) ∧ Below W.heap.size W w') := Lib.hid fun W A1 n1 c1 zs v e0 g hr1 h1 h3 h4 h5 h6 => h5 ▸ h6 ▸ ckRead_any A A1 n c n1 c1 ks zs W (HT.out.below g h2) hn HC.out HX.out ((HR.out.below g).more g.size) (by omega) h1 h3 h4 hr1
  have HYY := Lib.hid hy
  have HMO := Lib.hid hmo
  clear hmay hy hmo
  go_enter Tryd.func5, Tryd.ntmps5
  rw [drawn_eq 3, whole_eq 6, whole_eq 7, whole_eq 8, whole_eq 12, whole_eq 16]
  go_wp2_with fail
  generalize w.alloc (.cells #[.int .i64 x.b, .int .u32 (x.ot : Int), .int .u32 (x.pt : Int), .int .u32 (x.os : Int), .int .u32 (x.ps : Int), .int .u32 (x.rw : Int), .int .u16 (x.ou : Int), .int .u16 (x.inn : Int)] 26) = w0 at K0 B0 ⊢
  have hb2 : ∀ W, Below w0.heap.size w0 W → Below w.heap.size w W := fun W h => below_then B0.out (Nat.le_refl _) h
  have HB2 := Lib.hid hb2
  have CT : Hid (∀ W, Below w0.heap.size w0 W → Calls Tryd.prog 10 #[.slice A n c] W fun e w' => ∃ A2 c2, e = .returned (.slice A2 n c2) ∧ Own8 w' 5 W.heap.size A2 n c2 ks ∧ Below W.heap.size W w') := Lib.hid fun W g => twin_any A n c ks W (by omega) HX.out ((HR.out.below (hb2 W g)).more (hb2 W g).size)
  clear hb2
  rw [← drawn_eq 3]
  refine wp_region_grow_tail 4 (by kernel_rfl) [(Is (.slice A n c)), (NewOwn 5 w0.heap.size n ks), (Is (.agg #[.int .i64 x.b, .int .u32 (x.ot : Int), .int .u32 (x.pt : Int), .int .u32 (x.os : Int), .int .u32 (x.ps : Int), .int .u32 (x.rw : Int), .int .u16 (x.ou : Int), .int .u16 (x.inn : Int)])), (NewOwn 5 w0.heap.size 64 V)] rfl ?_ (by kernel_rfl) (by kernel_rfl) ?_ ?_
  · intro p hp
    simp only [List.mem_cons, List.not_mem_nil, or_false] at hp
    rcases hp with rfl | rfl | rfl | rfl
    · exact Lasts.is _
    · exact Lasts.newOwn _ _ _ _
    · exact Lasts.is _
    · exact Lasts.newOwn _ _ _ _
  · refine ⟨?_, ?_, ?_, ?_, trivial⟩
    · intro listed a w1 hl hc
      have h0 : a.tmps[0]?.getD undef = .slice A n c := (hc.was 0 (by kernel_rfl)).trans rfl
      refine does_value rfl rfl (.slice A n c) w1 ?_ (Below.refl _ _) rfl
      clear hc hl
      go_simp
    · intro listed a w1 hl hc
      have h32 : a.tmps[32]?.getD undef = .slice A n c := hc.dep hl 0 32 rfl (by kernel_rfl)
      refine does_call rfl rfl 10 #[.slice A n c] ?_ ((CT.out w1 hc.g).mono fun e w' ⟨A9, c9, he, ho, hb⟩ => ⟨_, he, hb, A9, c9, rfl, ho.more hc.g.size⟩)
      clear hc hl
      go_simp
    · intro listed a w1 hl hc
      have h6 : a.tmps[6]?.getD undef = .pointer (some ⟨w.heap.size, 0, none⟩) := (hc.was 6 (by kernel_rfl)).trans rfl
      have kb := K0.out.below hc.g K0.out.lt
      have x0 : w1.cell? ⟨w.heap.size, 0, none⟩ = some (.int .i64 x.b) := kb.cell 0
      have x1 : w1.cell? ⟨w.heap.size, 1, none⟩ = some (.int .u32 (x.ot : Int)) := kb.cell 1
      have x2 : w1.cell? ⟨w.heap.size, 2, none⟩ = some (.int .u32 (x.pt : Int)) := kb.cell 2
      have x3 : w1.cell? ⟨w.heap.size, 3, none⟩ = some (.int .u32 (x.os : Int)) := kb.cell 3
      have x4 : w1.cell? ⟨w.heap.size, 4, none⟩ = some (.int .u32 (x.ps : Int)) := kb.cell 4
      have x5 : w1.cell? ⟨w.heap.size, 5, none⟩ = some (.int .u32 (x.rw : Int)) := kb.cell 5
      have x6 : w1.cell? ⟨w.heap.size, 6, none⟩ = some (.int .u16 (x.ou : Int)) := kb.cell 6
      have x7 : w1.cell? ⟨w.heap.size, 7, none⟩ = some (.int .u16 (x.inn : Int)) := kb.cell 7
      clear kb
      refine does_value rfl rfl (.agg #[.int .i64 x.b, .int .u32 (x.ot : Int), .int .u32 (x.pt : Int), .int .u32 (x.os : Int), .int .u32 (x.ps : Int), .int .u32 (x.rw : Int), .int .u16 (x.ou : Int), .int .u16 (x.inn : Int)]) w1 ?_ (Below.refl _ _) rfl
      clear hc hl
      go_simp
    · intro listed a w1 hl hc
      obtain ⟨A33, c33, h33, ho33⟩ := hc.dep hl 1 33 rfl (by kernel_rfl)
      have h34 : a.tmps[34]?.getD undef = .agg #[.int .i64 x.b, .int .u32 (x.ot : Int), .int .u32 (x.pt : Int), .int .u32 (x.os : Int), .int .u32 (x.ps : Int), .int .u32 (x.rw : Int), .int .u16 (x.ou : Int), .int .u16 (x.inn : Int)] := hc.dep hl 2 34 rfl (by kernel_rfl)
      refine does_call rfl rfl 12 #[.slice A33 n c33, .agg #[.int .i64 x.b, .int .u32 (x.ot : Int), .int .u32 (x.pt : Int), .int .u32 (x.os : Int), .int .u32 (x.ps : Int), .int .u32 (x.rw : Int), .int .u16 (x.ou : Int), .int .u16 (x.inn : Int)]] ?_ ((CW.out w1 A33 c33 (HB2.out w1 hc.g) ho33.rd ho33.cap.1 ho33.cap.2).mono fun e w' ⟨A9, c9, he, ho, hb⟩ => ⟨_, he, hb, A9, c9, rfl, ho.more hc.g.size⟩)
      clear hc hl
      go_simp
  intro w2 hb2
  rintro _ rfl _ ⟨A33, c33, rfl, ho33⟩ _ rfl _ ⟨A35, c35, rfl, ho35⟩
  simp only [Thus, List.reverse_cons, List.reverse_nil, List.nil_append, List.cons_append, List.drop, List.take, lay]
  go_frame
  clear CT
  have hcb := ho35.cap
  have B2 := Lib.hid (below_then B0.out (Nat.le_refl _) hb2)
  have K2 := Lib.hid (K0.out.below hb2 K0.out.lt)
  have O2 := Lib.hid (ho35.more B0.out.size)
  clear hb2 ho35 ho33 K0 B0 HB2 CW
  go_wp2_with fail
  rw [← whole_eq 6]
  go_wp2_with fail
  have CR0 : Hid (Calls Tryd.prog 14 #[.slice A n c, .slice A35 64 c35] w2 fun e w' => e = .returned (.tuple #[.agg #[.int .i64 x.b, .int .u32 (x.ot : Int), .int .u32 (x.pt : Int), .int .u32 (x.os : Int), .int .u32 (x.ps : Int), .int .u32 (x.rw : Int), .int .u16 (x.ou : Int), .int .u16 (x.inn : Int)], .int .i64 0]) ∧ Below w2.heap.size w2 w') := Lib.hid (CR.out w2 A35 64 c35 V x 0 B2.out O2.out.rd hcb.1 hcb.2 HVL.out (by rw [HV.out, rdC_wrC HWF.out, HM.out]; rfl) (by rw [HV.out, rdC_wrC HWF.out, HM.out]; rfl))
  refine CR0.out.mono ?_
  rintro e w3 ⟨rfl, hb3⟩
  clear CR0
  have B3 := Lib.hid (below_then B2.out (Nat.le_refl _) hb3)
  have K3 := Lib.hid (K2.out.below hb3 K2.out.lt)
  have O3 := Lib.hid (O2.out.below hb3 (Nat.le_refl _))
  clear hb3 B2 K2 O2
  have B4 := Lib.hid (B3.out.alloc B3.out.size (.cells #[.int .i64 x.b, .int .u32 (x.ot : Int), .int .u32 (x.pt : Int), .int .u32 (x.os : Int), .int .u32 (x.ps : Int), .int .u32 (x.rw : Int), .int .u16 (x.ou : Int), .int .u16 (x.inn : Int)] 26))
  have K4 := Lib.hid (K3.out.alloc (.cells #[.int .i64 x.b, .int .u32 (x.ot : Int), .int .u32 (x.pt : Int), .int .u32 (x.os : Int), .int .u32 (x.ps : Int), .int .u32 (x.rw : Int), .int .u16 (x.ou : Int), .int .u16 (x.inn : Int)] 26))
  have O4 := Lib.hid (O3.out.alloc (.cells #[.int .i64 x.b, .int .u32 (x.ot : Int), .int .u32 (x.pt : Int), .int .u32 (x.os : Int), .int .u32 (x.ps : Int), .int .u32 (x.rw : Int), .int .u16 (x.ou : Int), .int .u16 (x.inn : Int)] 26))
  have D4 : Hid (Blk (w3.alloc (.cells #[.int .i64 x.b, .int .u32 (x.ot : Int), .int .u32 (x.pt : Int), .int .u32 (x.os : Int), .int .u32 (x.ps : Int), .int .u32 (x.rw : Int), .int .u16 (x.ou : Int), .int .u16 (x.inn : Int)] 26)) w3.heap.size 26 #[.int .i64 x.b, .int .u32 (x.ot : Int), .int .u32 (x.pt : Int), .int .u32 (x.os : Int), .int .u32 (x.ps : Int), .int .u32 (x.rw : Int), .int .u16 (x.ou : Int), .int .u16 (x.inn : Int)]) := Lib.hid (Blk.new _ _ _)
  go_wp2_with fail
  generalize w3.alloc (.cells #[.int .i64 x.b, .int .u32 (x.ot : Int), .int .u32 (x.pt : Int), .int .u32 (x.os : Int), .int .u32 (x.ps : Int), .int .u32 (x.rw : Int), .int .u16 (x.ou : Int), .int .u16 (x.inn : Int)] 26) = w4 at B4 K4 O4 D4 ⊢
  generalize w3.heap.size = q4 at D4 ⊢
  clear B3 K3 O3
  rw [← whole_eq 7]
  go_cut [14] from 45 to 151 (fun s wx => s = .bool true ∧ wx = w4)
  case first =>
    have hp := HM.out
    simp only [Ck.may, Bool.and_eq_true, decide_eq_true_eq, Bool.not_eq_true', decide_eq_false_iff_not] at hp
    obtain ⟨⟨⟨⟨p0, p1⟩, p2⟩, p3⟩, p4⟩ := hp
    have t0 : decide (x.b ≥ 0) = true := by simp; omega
    have t1 : ((x.ot : Int) != 0) = true := by simp; omega
    have t2 : ((x.pt : Int) != 0) = true := by simp; omega
    have t3 : ((x.ou : Int) != 0) = true := by simp; omega
    have t4 : ((x.inn : Int) != 0) = true := by simp; omega
    clear p0 p1 p2 p3 p4
    have j0 : w4.cell? ⟨w.heap.size, 0, none⟩ = some (.int .i64 x.b) := K4.out.cell 0
    have j1 : w4.cell? ⟨w.heap.size, 1, none⟩ = some (.int .u32 (x.ot : Int)) := K4.out.cell 1
    have j2 : w4.cell? ⟨w.heap.size, 2, none⟩ = some (.int .u32 (x.pt : Int)) := K4.out.cell 2
    have j3 : w4.cell? ⟨w.heap.size, 3, none⟩ = some (.int .u32 (x.os : Int)) := K4.out.cell 3
    have j4 : w4.cell? ⟨w.heap.size, 4, none⟩ = some (.int .u32 (x.ps : Int)) := K4.out.cell 4
    have j5 : w4.cell? ⟨w.heap.size, 5, none⟩ = some (.int .u32 (x.rw : Int)) := K4.out.cell 5
    have j6 : w4.cell? ⟨w.heap.size, 6, none⟩ = some (.int .u16 (x.ou : Int)) := K4.out.cell 6
    have j7 : w4.cell? ⟨w.heap.size, 7, none⟩ = some (.int .u16 (x.inn : Int)) := K4.out.cell 7
    go_wp2_with fail
    go_meet
    case rel => exact ⟨rfl, rfl⟩
  obtain ⟨rfl, rfl⟩ := hcut
  have j0 : wc.cell? ⟨w.heap.size, 0, none⟩ = some (.int .i64 x.b) := K4.out.cell 0
  have j1 : wc.cell? ⟨w.heap.size, 1, none⟩ = some (.int .u32 (x.ot : Int)) := K4.out.cell 1
  have j2 : wc.cell? ⟨w.heap.size, 2, none⟩ = some (.int .u32 (x.pt : Int)) := K4.out.cell 2
  have j3 : wc.cell? ⟨w.heap.size, 3, none⟩ = some (.int .u32 (x.os : Int)) := K4.out.cell 3
  have j4 : wc.cell? ⟨w.heap.size, 4, none⟩ = some (.int .u32 (x.ps : Int)) := K4.out.cell 4
  have j5 : wc.cell? ⟨w.heap.size, 5, none⟩ = some (.int .u32 (x.rw : Int)) := K4.out.cell 5
  have j6 : wc.cell? ⟨w.heap.size, 6, none⟩ = some (.int .u16 (x.ou : Int)) := K4.out.cell 6
  have j7 : wc.cell? ⟨w.heap.size, 7, none⟩ = some (.int .u16 (x.inn : Int)) := K4.out.cell 7
  have d0 : wc.cell? ⟨q4, 0, none⟩ = some (.int .i64 x.b) := D4.out.cell 0
  have d1 : wc.cell? ⟨q4, 1, none⟩ = some (.int .u32 (x.ot : Int)) := D4.out.cell 1
  have d2 : wc.cell? ⟨q4, 2, none⟩ = some (.int .u32 (x.pt : Int)) := D4.out.cell 2
  have d3 : wc.cell? ⟨q4, 3, none⟩ = some (.int .u32 (x.os : Int)) := D4.out.cell 3
  have d4 : wc.cell? ⟨q4, 4, none⟩ = some (.int .u32 (x.ps : Int)) := D4.out.cell 4
  have d5 : wc.cell? ⟨q4, 5, none⟩ = some (.int .u32 (x.rw : Int)) := D4.out.cell 5
  have d6 : wc.cell? ⟨q4, 6, none⟩ = some (.int .u16 (x.ou : Int)) := D4.out.cell 6
  have d7 : wc.cell? ⟨q4, 7, none⟩ = some (.int .u16 (x.inn : Int)) := D4.out.cell 7
  go_wp2_with fail
  rw [← whole_eq 8]
  go_wp2_with fail
  clear j0 j1 j2 j3 j4 j5 j6 j7 d0 d1 d2 d3 d4 d5 d6 d7
  refine (twin_any A35 64 c35 V wc (by omega) HVL.out O4.out.rd).mono ?_
  rintro e w5 ⟨A5, c5, rfl, ho5, hb5⟩
  have B5 := Lib.hid (below_then B4.out (Nat.le_refl _) hb5)
  have O5 := Lib.hid (O4.out.below hb5 (Nat.le_refl _))
  obtain ⟨g5, zs, rfl, hg5, hrow5, hzl, hc5⟩ : ∃ g zs, A5 = some ⟨g, 0, none⟩ ∧ wc.heap.size ≤ g ∧ RowAt w5 5 g (V ++ zs) ∧ 64 + zs.length = c5 ∧ c5 ≤ maxLen := by
    rcases ho5.2 with ⟨_, h, _⟩ | h
    · exact absurd h (by decide)
    · exact h
  have R5 := Lib.hid hrow5
  have HB5 := Lib.hid hb5
  have HC5 := Lib.hid hc5
  have HZL := Lib.hid hzl
  have hlt35 : ∀ g, A35 = some ⟨g, 0, none⟩ → g ≠ g5 := fun g hg h => by have := (O4.out.lt g hg).2; omega
  have H35 := Lib.hid hlt35
  have hltW : w.heap.size ≤ g5 := Nat.le_trans B4.out.size hg5
  clear ho5 hb5 hrow5 hc5 hzl hlt35 K4 D4 O4 B4
  have hab := a.toNat_lt
  obtain ⟨k, hk⟩ : ∃ k : Nat, k = 32 + a.toNat % 32 := ⟨_, rfl⟩
  obtain ⟨r, hr2⟩ : ∃ r : Nat, r = a.toNat % 64 := ⟨_, rfl⟩
  have HK : Hid ((32 + (a.toNat : Int) % 32) = (k : Int)) := Lib.hid (by omega)
  have HRR : Hid (((a.toNat : Int) % 64) = (r : Int)) := Lib.hid (by omega)
  have hk1 : 32 ≤ k := by omega
  have hk2 : k < 64 := by omega
  have hr64 : r < 64 := by omega
  clear hk hr2
  go_wp2_with fail
  rw [HK.out]
  obtain ⟨v, hv⟩ : ∃ v, V[k]? = some v := ⟨_, List.getElem?_eq_getElem (by rw [HVL.out]; exact hk2)⟩
  obtain ⟨u, hu⟩ : ∃ u, u = v ^^^ y := ⟨_, rfl⟩
  have hxor : bits .xor .u8 (v.toNat : Int) (y.toNat : Int) = (u.toNat : Int) := by rw [hu]; exact bits_xor_u8 v y
  have hf : w5.cell? ⟨g5, k, none⟩ = some (.int .u8 (v.toNat : Int)) := by
    have h := R5.out.cell k (by rw [List.length_append, HVL.out]; omega)
    have e : (V ++ zs)[k]'(by rw [List.length_append, HVL.out]; omega) = v := by
      apply Option.some.inj
      rw [← List.getElem?_eq_getElem, List.getElem?_append_left (by rw [HVL.out]; exact hk2), hv]
    rw [e] at h
    exact h
  have hfz := R5.out.frozen k
  have R6 : Hid (RowAt (w5.setCell ⟨g5, k, none⟩ (.int .u8 (u.toNat : Int))) 5 g5 (V.set k u ++ zs)) := Lib.hid (by
    have h := R5.out.set_ k u
    rw [List.set_append_left _ _ (by rw [HVL.out]; exact hk2)] at h
    exact h)
  have B6 : Hid (Below w.heap.size w (w5.setCell ⟨g5, k, none⟩ (.int .u8 (u.toNat : Int)))) := Lib.hid (B5.out.setCell (p := ⟨g5, k, none⟩) hltW _)
  have O6 : Hid (Own8 (w5.setCell ⟨g5, k, none⟩ (.int .u8 (u.toNat : Int))) 5 w.heap.size A35 64 c35 V) := Lib.hid (O5.out.keep fun g hg => Below.heap_setCell _ _ _ g (H35.out g hg))
  have HVK := Lib.hid hv
  have HU := Lib.hid hu
  have hki : (k : Int) < 64 := by omega
  clear hv hu R5 B5 O5 H35
  rw [← whole_eq 12]
  go_wp2_with fail
  generalize w5.setCell ⟨g5, k, none⟩ (.int .u8 (u.toNat : Int)) = w6 at R6 B6 O6 ⊢
  clear hf hfz hxor hki
  obtain ⟨G1, hG1⟩ : ∃ G, G = ansC (rdC ks (V.set k u)) := ⟨_, rfl⟩
  obtain ⟨E1, hE1⟩ : ∃ E, E = errC (rdC ks (V.set k u)) := ⟨_, rfl⟩
  have hl1 : (V.set k u).length = 64 := by rw [List.length_set, HVL.out]
  have hyb : ((y.toNat : Int) != 0) = false := by rw [HYY.out]; rfl
  have C1 : Hid (Calls Tryd.prog 14 #[.slice A n c, .slice (some ⟨g5, 0, none⟩) 64 c5] w6 fun e w' => e = .returned (.tuple #[.agg #[.int .i64 G1.b, .int .u32 (G1.ot : Int), .int .u32 (G1.pt : Int), .int .u32 (G1.os : Int), .int .u32 (G1.ps : Int), .int .u32 (G1.rw : Int), .int .u16 (G1.ou : Int), .int .u16 (G1.inn : Int)], .int .i64 E1]) ∧ Below w6.heap.size w6 w') := Lib.hid (CR.out w6 (some ⟨g5, 0, none⟩) 64 c5 (V.set k u) G1 E1 B6.out (R6.out.rd 0 _ (fun j hj => by rw [Nat.zero_add, List.getElem?_append_left hj])) (by have := HZL.out; omega) HC5.out hl1 hG1.symm hE1.symm)
  clear hG1 hE1 hl1
  refine C1.out.mono ?_
  rintro e w7 ⟨rfl, hb7⟩
  have B7 := Lib.hid (below_then B6.out (Nat.le_refl _) hb7)
  have O7 := Lib.hid (O6.out.below hb7 (Nat.le_refl _))
  clear C1 hb7 B6 O6 R6
  have B8 := Lib.hid (B7.out.alloc B7.out.size (.cells #[.int .i64 G1.b, .int .u32 (G1.ot : Int), .int .u32 (G1.pt : Int), .int .u32 (G1.os : Int), .int .u32 (G1.ps : Int), .int .u32 (G1.rw : Int), .int .u16 (G1.ou : Int), .int .u16 (G1.inn : Int)] 26))
  have O8 := Lib.hid (O7.out.alloc (.cells #[.int .i64 G1.b, .int .u32 (G1.ot : Int), .int .u32 (G1.pt : Int), .int .u32 (G1.os : Int), .int .u32 (G1.ps : Int), .int .u32 (G1.rw : Int), .int .u16 (G1.ou : Int), .int .u16 (G1.inn : Int)] 26))
  clear B7 O7
  go_wp2_with fail
  generalize w7.alloc (.cells #[.int .i64 G1.b, .int .u32 (G1.ot : Int), .int .u32 (G1.pt : Int), .int .u32 (G1.os : Int), .int .u32 (G1.ps : Int), .int .u32 (G1.rw : Int), .int .u16 (G1.ou : Int), .int .u16 (G1.inn : Int)] 26) = w8 at B8 O8 ⊢
  generalize w7.heap.size = q7
  refine (twin_any A35 64 c35 V w8 (by omega) HVL.out O8.out.rd).mono ?_
  rintro e w9 ⟨A9, c9, rfl, ho9, hb9⟩
  have B9 := Lib.hid (below_then B8.out (Nat.le_refl _) hb9)
  have O9 := Lib.hid (O8.out.below hb9 (Nat.le_refl _))
  have N9 := ho9.more (Nat.le_refl _)
  have hb9s := hb9.size
  clear hb9 ho9
  have s9 : w.heap.size ≤ w9.heap.size := B9.out.size
  have B9s : w8.heap.size ≤ w9.heap.size := hb9s
  have r9 := HR'.out.below B9.out
  have HLT9 : Hid (∀ g, A35 = some ⟨g, 0, none⟩ → g < w8.heap.size) := Lib.hid fun g hg => (O8.out.lt g hg).2
  go_wp2_with (at_builtin; refine wpList_append8 h8 _ rfl _ _ rfl w8.heap.size _ _ _ _ rfl N9 _ _ _ _ _ rfl HY.out r9 (by omega) B9s ?_; intro A10 c10 w10 h10 hg10 ho10)
  have B10 := Lib.hid (B9.out.grown hg10 s9 (fun q hq => Nat.le_trans B8.out.size (N9.blk q hq)))
  have O10 : Hid (Own8 w10 5 w.heap.size A35 64 c35 V) := Lib.hid (O9.out.keep fun g hg => hg10.block g (Nat.lt_of_lt_of_le (HLT9.out g hg) B9s) (fun e => by have := N9.blk g e.symm; have := HLT9.out g hg; omega))
  obtain ⟨G2, hG2⟩ : ∃ G, G = ansC (rdC ks (V ++ ms)) := ⟨_, rfl⟩
  obtain ⟨E2, hE2⟩ : ∃ E, E = errC (rdC ks (V ++ ms)) := ⟨_, rfl⟩
  have hmn : ¬ 0 < n' := by have := HMO.out; omega
  have hmb : decide ((n' : Int) > 0) = false := by simp; omega
  have C2 : Hid (Calls Tryd.prog 14 #[.slice A n c, .slice A10 (64 + n' : Nat) c10] w10 fun e w' => e = .returned (.tuple #[.agg #[.int .i64 G2.b, .int .u32 (G2.ot : Int), .int .u32 (G2.pt : Int), .int .u32 (G2.os : Int), .int .u32 (G2.ps : Int), .int .u32 (G2.rw : Int), .int .u16 (G2.ou : Int), .int .u16 (G2.inn : Int)], .int .i64 E2]) ∧ Below w10.heap.size w10 w') := Lib.hid (CR.out w10 A10 (64 + n') c10 (V ++ ms) G2 E2 B10.out h10.rd h10.cap.1 h10.cap.2 h10.len hG2.symm hE2.symm)
  clear hG2 hE2 h10 hg10 ho10 N9 r9 s9 B9s HLT9 B9 O9 B8 O8
  refine C2.out.mono ?_
  rintro e w11 ⟨rfl, hb11⟩
  have B11 := Lib.hid (below_then B10.out (Nat.le_refl _) hb11)
  have O11 := Lib.hid (O10.out.below hb11 (Nat.le_refl _))
  clear C2 hb11 B10 O10
  have B12 := Lib.hid (B11.out.alloc B11.out.size (.cells #[.int .i64 G2.b, .int .u32 (G2.ot : Int), .int .u32 (G2.pt : Int), .int .u32 (G2.os : Int), .int .u32 (G2.ps : Int), .int .u32 (G2.rw : Int), .int .u16 (G2.ou : Int), .int .u16 (G2.inn : Int)] 26))
  have O12 := Lib.hid (O11.out.alloc (.cells #[.int .i64 G2.b, .int .u32 (G2.ot : Int), .int .u32 (G2.pt : Int), .int .u32 (G2.os : Int), .int .u32 (G2.ps : Int), .int .u32 (G2.rw : Int), .int .u16 (G2.ou : Int), .int .u16 (G2.inn : Int)] 26))
  clear B11 O11
  have hcl : r ≤ c35 := by have := hcb.1; omega
  have hri : (r : Int) ≤ (c35 : Int) := by omega
  go_wp2_with fail
  generalize w11.alloc (.cells #[.int .i64 G2.b, .int .u32 (G2.ot : Int), .int .u32 (G2.pt : Int), .int .u32 (G2.os : Int), .int .u32 (G2.ps : Int), .int .u32 (G2.rw : Int), .int .u16 (G2.ou : Int), .int .u16 (G2.inn : Int)] 26) = w12 at B12 O12 ⊢
  generalize w11.heap.size = q11
  refine (ckRead_len A A35 n c (a.toNat % 64) c35 w12 (by unfold maxLen; omega) (by omega)).mono ?_
  rintro e w13 ⟨rfl, hb13⟩
  have B13 := Lib.hid (below_then B12.out (Nat.le_refl _) hb13)
  clear hb13 B12 O12
  have B14 := Lib.hid (B13.out.alloc B13.out.size (.cells #[.int .i64 0, .int .u32 0, .int .u32 0, .int .u32 0, .int .u32 0, .int .u32 0, .int .u16 0, .int .u16 0] 26))
  clear B13
  go_wp2_with fail
  rw [← whole_eq 16]
  generalize w13.alloc (.cells #[.int .i64 0, .int .u32 0, .int .u32 0, .int .u32 0, .int .u32 0, .int .u32 0, .int .u16 0, .int .u16 0] 26) = w14 at B14 ⊢
  generalize w13.heap.size = q13
  go_wp2_with fail
  refine (ckWorks_any w14 (HT.out.below B14.out h2)).mono ?_
  rintro e w9 ⟨rfl, hb9⟩
  go_wp2_with fail
  go_ret
  exact ⟨rfl, below_then B14.out (Nat.le_refl _) hb9⟩

set_option maxRecDepth 100000 in
set_option maxHeartbeats 4000000 in
theorem cookieBack_ttf (A : Option Addr) (n c : Nat) (ks : List UInt8) (x : Ck) (a y : UInt8) (A' : Option Addr) (n' c' : Nat) (ms : List UInt8) (w : World) (hT : Tabs w) (hn : n ≤ c) (hc : c ≤ maxLen) (hx : ks.length = n) (hr : Rd w w.heap.size A ks) (hw : x.Wf) (hn' : n' ≤ c') (hc' : c' ≤ maxLen) (hm : ms.length = n') (hr' : Rd w w.heap.size A' ms) (hln : n ≤ 4096) (hln' : n' ≤ 4096) (hmay : x.may = true) (hy : y = 0) (hmo : n' ≠ 0) : Calls Tryd.prog 5 #[.slice A n c, .agg #[.int .i64 x.b, .int .u32 (x.ot : Int), .int .u32 (x.pt : Int), .int .u32 (x.os : Int), .int .u32 (x.ps : Int), .int .u32 (x.rw : Int), .int .u16 (x.ou : Int), .int .u16 (x.inn : Int)], .int .u8 (a.toNat : Int), .int .u8 (y.toNat : Int), .slice A' n' c'] w fun e w' => e = .returned (.bool true) ∧ Below w.heap.size w w' := by
  have h2 := hT.2.2
  have HT := Lib.hid hT
  have HR := Lib.hid hr
  have HX := Lib.hid hx
  have HR' := Lib.hid hr'
  have HY := Lib.hid hm
  have HC := Lib.hid hc
  have HC' := Lib.hid hc'
  have HWF := Lib.hid hw
  have K0 := Lib.hid (Blk.new w 26 #[.int .i64 x.b, .int .u32 (x.ot : Int), .int .u32 (x.pt : Int), .int .u32 (x.os : Int), .int .u32 (x.ps : Int), .int .u32 (x.rw : Int), .int .u16 (x.ou : Int), .int .u16 (x.inn : Int)])
  have B0 := Lib.hid (below_new w (.cells #[.int .i64 x.b, .int .u32 (x.ot : Int), .int .u32 (x.pt : Int), .int .u32 (x.os : Int), .int .u32 (x.ps : Int), .int .u32 (x.rw : Int), .int .u16 (x.ou : Int), .int .u16 (x.inn : Int)] 26))
  clear hT hx hr hc hm hr' hc' hw
  have hb : decide ((n : Int) > 4096) = false := by simp; omega
  have hb' : decide ((n' : Int) > 4096) = false := by simp; omega
  obtain ⟨i8, h8⟩ := Tryd.ty8
  have hz := zero_cookie
  obtain ⟨V, hV⟩ : ∃ V, V = wrC ks x := ⟨_, rfl⟩
  have HV := Lib.hid hV
  have hVl := length_wrC ks x
  rw [← hV] at hVl
  have HVL := Lib.hid hVl
  clear hV hVl
  have HM := Lib.hid hmay
  have CW : Hid (∀ W A1 c1, Below w.heap.size w W → Rd W W.heap.size A1 ks → n ≤ c1 → c1 ≤ maxLen → Calls Tryd.prog 12 #[.slice A1 n c1, .agg #[.int .i64 x.b, .int .u32 (x.ot : Int), .int .u32 (x.pt : Int), .int .u32 (x.os : Int), .int .u32 (x.ps : Int), .int .u32 (x.rw : Int), .int .u16 (x.ou : Int), .int .u16 (x.inn : Int)]] W fun e w' => ∃ A2 c2, e = .returned (.slice A2 64 c2) ∧ Own8 w' 5 W.heap.size A2 64 c2 V ∧ Below W.heap.size W w') := Lib.hid fun W A1 c1 g hr1 h1 h3 => HV.out ▸ ckWrite_any A1 n c1 ks x W (HT.out.below g h2) h1 h3 HX.out hr1 (by omega) HWF.out
  have CR : Hid (∀ W A1 n1 c1 (zs : List UInt8) (v : Ck) (e0 : Int), Below w.heap.size w W → Rd W W.heap.size A1 zs → n1 ≤ c1 → c1 ≤ maxLen → zs.length = n1 → ansC (rdC ks zs) = v → errC (rdC ks zs) = e0 → Calls Tryd.prog 14 #[.slice A n c, .slice A1 n1 c1] W fun e w' => e = .returned (.tuple #[.agg #[.int .i64 v.b, .int .u32 (v.ot : Int), .int .u32 (v.pt : Int), .int .u32 (v.os : Int), .int .u32 (v.ps : Int), .int .u32 (v.rw : Int), .int .u16 (v.ou : Int), .int .u16 (v.inn : Int)], .int .i64 e0]) ∧ Below W.heap.size W w') := Lib.hid fun W A1 n1 c1 zs v e0 g hr1 h1 h3 h4 h5 h6 => h5 ▸ h6 ▸ ckRead_any A A1 n c n1 c1 ks zs W (HT.out.below g h2) hn HC.out HX.out ((HR.out.below g).more g.size) (by omega) h1 h3 h4 hr1
  have HYY := Lib.hid hy
  have HMO := Lib.hid hmo
  clear hmay hy hmo
  go_enter Tryd.func5, Tryd.ntmps5
  rw [drawn_eq 3, whole_eq 6, whole_eq 7, whole_eq 8, whole_eq 12, whole_eq 16]
  go_wp2_with fail
  generalize w.alloc (.cells #[.int .i64 x.b, .int .u32 (x.ot : Int), .int .u32 (x.pt : Int), .int .u32 (x.os : Int), .int .u32 (x.ps : Int), .int .u32 (x.rw : Int), .int .u16 (x.ou : Int), .int .u16 (x.inn : Int)] 26) = w0 at K0 B0 ⊢
  have hb2 : ∀ W, Below w0.heap.size w0 W → Below w.heap.size w W := fun W h => below_then B0.out (Nat.le_refl _) h
  have HB2 := Lib.hid hb2
  have CT : Hid (∀ W, Below w0.heap.size w0 W → Calls Tryd.prog 10 #[.slice A n c] W fun e w' => ∃ A2 c2, e = .returned (.slice A2 n c2) ∧ Own8 w' 5 W.heap.size A2 n c2 ks ∧ Below W.heap.size W w') := Lib.hid fun W g => twin_any A n c ks W (by omega) HX.out ((HR.out.below (hb2 W g)).more (hb2 W g).size)
  clear hb2
  rw [← drawn_eq 3]
  refine wp_region_grow_tail 4 (by kernel_rfl) [(Is (.slice A n c)), (NewOwn 5 w0.heap.size n ks), (Is (.agg #[.int .i64 x.b, .int .u32 (x.ot : Int), .int .u32 (x.pt : Int), .int .u32 (x.os : Int), .int .u32 (x.ps : Int), .int .u32 (x.rw : Int), .int .u16 (x.ou : Int), .int .u16 (x.inn : Int)])), (NewOwn 5 w0.heap.size 64 V)] rfl ?_ (by kernel_rfl) (by kernel_rfl) ?_ ?_
  · intro p hp
    simp only [List.mem_cons, List.not_mem_nil, or_false] at hp
    rcases hp with rfl | rfl | rfl | rfl
    · exact Lasts.is _
    · exact Lasts.newOwn _ _ _ _
    · exact Lasts.is _
    · exact Lasts.newOwn _ _ _ _
  · refine ⟨?_, ?_, ?_, ?_, trivial⟩
    · intro listed a w1 hl hc
      have h0 : a.tmps[0]?.getD undef = .slice A n c := (hc.was 0 (by kernel_rfl)).trans rfl
      refine does_value rfl rfl (.slice A n c) w1 ?_ (Below.refl _ _) rfl
      clear hc hl
      go_simp
    · intro listed a w1 hl hc
      have h32 : a.tmps[32]?.getD undef = .slice A n c := hc.dep hl 0 32 rfl (by kernel_rfl)
      refine does_call rfl rfl 10 #[.slice A n c] ?_ ((CT.out w1 hc.g).mono fun e w' ⟨A9, c9, he, ho, hb⟩ => ⟨_, he, hb, A9, c9, rfl, ho.more hc.g.size⟩)
      clear hc hl
      go_simp
    · intro listed a w1 hl hc
      have h6 : a.tmps[6]?.getD undef = .pointer (some ⟨w.heap.size, 0, none⟩) := (hc.was 6 (by kernel_rfl)).trans rfl
      have kb := K0.out.below hc.g K0.out.lt
      have x0 : w1.cell? ⟨w.heap.size, 0, none⟩ = some (.int .i64 x.b) := kb.cell 0
      have x1 : w1.cell? ⟨w.heap.size, 1, none⟩ = some (.int .u32 (x.ot : Int)) := kb.cell 1
      have x2 : w1.cell? ⟨w.heap.size, 2, none⟩ = some (.int .u32 (x.pt : Int)) := kb.cell 2
      have x3 : w1.cell? ⟨w.heap.size, 3, none⟩ = some (.int .u32 (x.os : Int)) := kb.cell 3
      have x4 : w1.cell? ⟨w.heap.size, 4, none⟩ = some (.int .u32 (x.ps : Int)) := kb.cell 4
      have x5 : w1.cell? ⟨w.heap.size, 5, none⟩ = some (.int .u32 (x.rw : Int)) := kb.cell 5
      have x6 : w1.cell? ⟨w.heap.size, 6, none⟩ = some (.int .u16 (x.ou : Int)) := kb.cell 6
      have x7 : w1.cell? ⟨w.heap.size, 7, none⟩ = some (.int .u16 (x.inn : Int)) := kb.cell 7
      clear kb
      refine does_value rfl rfl (.agg #[.int .i64 x.b, .int .u32 (x.ot : Int), .int .u32 (x.pt : Int), .int .u32 (x.os : Int), .int .u32 (x.ps : Int), .int .u32 (x.rw : Int), .int .u16 (x.ou : Int), .int .u16 (x.inn : Int)]) w1 ?_ (Below.refl _ _) rfl
      clear hc hl
      go_simp
    · intro listed a w1 hl hc
      obtain ⟨A33, c33, h33, ho33⟩ := hc.dep hl 1 33 rfl (by kernel_rfl)
      have h34 : a.tmps[34]?.getD undef = .agg #[.int .i64 x.b, .int .u32 (x.ot : Int), .int .u32 (x.pt : Int), .int .u32 (x.os : Int), .int .u32 (x.ps : Int), .int .u32 (x.rw : Int), .int .u16 (x.ou : Int), .int .u16 (x.inn : Int)] := hc.dep hl 2 34 rfl (by kernel_rfl)
      refine does_call rfl rfl 12 #[.slice A33 n c33, .agg #[.int .i64 x.b, .int .u32 (x.ot : Int), .int .u32 (x.pt : Int), .int .u32 (x.os : Int), .int .u32 (x.ps : Int), .int .u32 (x.rw : Int), .int .u16 (x.ou : Int), .int .u16 (x.inn : Int)]] ?_ ((CW.out w1 A33 c33 (HB2.out w1 hc.g) ho33.rd ho33.cap.1 ho33.cap.2).mono fun e w' ⟨A9, c9, he, ho, hb⟩ => ⟨_, he, hb, A9, c9, rfl, ho.more hc.g.size⟩)
      clear hc hl
      go_simp
  intro w2 hb2
  rintro _ rfl _ ⟨A33, c33, rfl, ho33⟩ _ rfl _ ⟨A35, c35, rfl, ho35⟩
  simp only [Thus, List.reverse_cons, List.reverse_nil, List.nil_append, List.cons_append, List.drop, List.take, lay]
  go_frame
  clear CT
  have hcb := ho35.cap
  have B2 := Lib.hid (below_then B0.out (Nat.le_refl _) hb2)
  have K2 := Lib.hid (K0.out.below hb2 K0.out.lt)
  have O2 := Lib.hid (ho35.more B0.out.size)
  clear hb2 ho35 ho33 K0 B0 HB2 CW
  go_wp2_with fail
  rw [← whole_eq 6]
  go_wp2_with fail
  have CR0 : Hid (Calls Tryd.prog 14 #[.slice A n c, .slice A35 64 c35] w2 fun e w' => e = .returned (.tuple #[.agg #[.int .i64 x.b, .int .u32 (x.ot : Int), .int .u32 (x.pt : Int), .int .u32 (x.os : Int), .int .u32 (x.ps : Int), .int .u32 (x.rw : Int), .int .u16 (x.ou : Int), .int .u16 (x.inn : Int)], .int .i64 0]) ∧ Below w2.heap.size w2 w') := Lib.hid (CR.out w2 A35 64 c35 V x 0 B2.out O2.out.rd hcb.1 hcb.2 HVL.out (by rw [HV.out, rdC_wrC HWF.out, HM.out]; rfl) (by rw [HV.out, rdC_wrC HWF.out, HM.out]; rfl))
  refine CR0.out.mono ?_
  rintro e w3 ⟨rfl, hb3⟩
  clear CR0
  have B3 := Lib.hid (below_then B2.out (Nat.le_refl _) hb3)
  have K3 := Lib.hid (K2.out.below hb3 K2.out.lt)
  have O3 := Lib.hid (O2.out.below hb3 (Nat.le_refl _))
  clear hb3 B2 K2 O2
  have B4 := Lib.hid (B3.out.alloc B3.out.size (.cells #[.int .i64 x.b, .int .u32 (x.ot : Int), .int .u32 (x.pt : Int), .int .u32 (x.os : Int), .int .u32 (x.ps : Int), .int .u32 (x.rw : Int), .int .u16 (x.ou : Int), .int .u16 (x.inn : Int)] 26))
  have K4 := Lib.hid (K3.out.alloc (.cells #[.int .i64 x.b, .int .u32 (x.ot : Int), .int .u32 (x.pt : Int), .int .u32 (x.os : Int), .int .u32 (x.ps : Int), .int .u32 (x.rw : Int), .int .u16 (x.ou : Int), .int .u16 (x.inn : Int)] 26))
  have O4 := Lib.hid (O3.out.alloc (.cells #[.int .i64 x.b, .int .u32 (x.ot : Int), .int .u32 (x.pt : Int), .int .u32 (x.os : Int), .int .u32 (x.ps : Int), .int .u32 (x.rw : Int), .int .u16 (x.ou : Int), .int .u16 (x.inn : Int)] 26))
  have D4 : Hid (Blk (w3.alloc (.cells #[.int .i64 x.b, .int .u32 (x.ot : Int), .int .u32 (x.pt : Int), .int .u32 (x.os : Int), .int .u32 (x.ps : Int), .int .u32 (x.rw : Int), .int .u16 (x.ou : Int), .int .u16 (x.inn : Int)] 26)) w3.heap.size 26 #[.int .i64 x.b, .int .u32 (x.ot : Int), .int .u32 (x.pt : Int), .int .u32 (x.os : Int), .int .u32 (x.ps : Int), .int .u32 (x.rw : Int), .int .u16 (x.ou : Int), .int .u16 (x.inn : Int)]) := Lib.hid (Blk.new _ _ _)
  go_wp2_with fail
  generalize w3.alloc (.cells #[.int .i64 x.b, .int .u32 (x.ot : Int), .int .u32 (x.pt : Int), .int .u32 (x.os : Int), .int .u32 (x.ps : Int), .int .u32 (x.rw : Int), .int .u16 (x.ou : Int), .int .u16 (x.inn : Int)] 26) = w4 at B4 K4 O4 D4 ⊢
  generalize w3.heap.size = q4 at D4 ⊢
  clear B3 K3 O3
  rw [← whole_eq 7]
  go_cut [14] from 45 to 151 (fun s wx => s = .bool true ∧ wx = w4)
  case first =>
    have hp := HM.out
    simp only [Ck.may, Bool.and_eq_true, decide_eq_true_eq, Bool.not_eq_true', decide_eq_false_iff_not] at hp
    obtain ⟨⟨⟨⟨p0, p1⟩, p2⟩, p3⟩, p4⟩ := hp
    have t0 : decide (x.b ≥ 0) = true := by simp; omega
    have t1 : ((x.ot : Int) != 0) = true := by simp; omega
    have t2 : ((x.pt : Int) != 0) = true := by simp; omega
    have t3 : ((x.ou : Int) != 0) = true := by simp; omega
    have t4 : ((x.inn : Int) != 0) = true := by simp; omega
    clear p0 p1 p2 p3 p4
    have j0 : w4.cell? ⟨w.heap.size, 0, none⟩ = some (.int .i64 x.b) := K4.out.cell 0
    have j1 : w4.cell? ⟨w.heap.size, 1, none⟩ = some (.int .u32 (x.ot : Int)) := K4.out.cell 1
    have j2 : w4.cell? ⟨w.heap.size, 2, none⟩ = some (.int .u32 (x.pt : Int)) := K4.out.cell 2
    have j3 : w4.cell? ⟨w.heap.size, 3, none⟩ = some (.int .u32 (x.os : Int)) := K4.out.cell 3
    have j4 : w4.cell? ⟨w.heap.size, 4, none⟩ = some (.int .u32 (x.ps : Int)) := K4.out.cell 4
    have j5 : w4.cell? ⟨w.heap.size, 5, none⟩ = some (.int .u32 (x.rw : Int)) := K4.out.cell 5
    have j6 : w4.cell? ⟨w.heap.size, 6, none⟩ = some (.int .u16 (x.ou : Int)) := K4.out.cell 6
    have j7 : w4.cell? ⟨w.heap.size, 7, none⟩ = some (.int .u16 (x.inn : Int)) := K4.out.cell 7
    go_wp2_with fail
    go_meet
    case rel => exact ⟨rfl, rfl⟩
  obtain ⟨rfl, rfl⟩ := hcut
  have j0 : wc.cell? ⟨w.heap.size, 0, none⟩ = some (.int .i64 x.b) := K4.out.cell 0
  have j1 : wc.cell? ⟨w.heap.size, 1, none⟩ = some (.int .u32 (x.ot : Int)) := K4.out.cell 1
  have j2 : wc.cell? ⟨w.heap.size, 2, none⟩ = some (.int .u32 (x.pt : Int)) := K4.out.cell 2
  have j3 : wc.cell? ⟨w.heap.size, 3, none⟩ = some (.int .u32 (x.os : Int)) := K4.out.cell 3
  have j4 : wc.cell? ⟨w.heap.size, 4, none⟩ = some (.int .u32 (x.ps : Int)) := K4.out.cell 4
  have j5 : wc.cell? ⟨w.heap.size, 5, none⟩ = some (.int .u32 (x.rw : Int)) := K4.out.cell 5
  have j6 : wc.cell? ⟨w.heap.size, 6, none⟩ = some (.int .u16 (x.ou : Int)) := K4.out.cell 6
  have j7 : wc.cell? ⟨w.heap.size, 7, none⟩ = some (.int .u16 (x.inn : Int)) := K4.out.cell 7
  have d0 : wc.cell? ⟨q4, 0, none⟩ = some (.int .i64 x.b) := D4.out.cell 0
  have d1 : wc.cell? ⟨q4, 1, none⟩ = some (.int .u32 (x.ot : Int)) := D4.out.cell 1
  have d2 : wc.cell? ⟨q4, 2, none⟩ = some (.int .u32 (x.pt : Int)) := D4.out.cell 2
  have d3 : wc.cell? ⟨q4, 3, none⟩ = some (.int .u32 (x.os : Int)) := D4.out.cell 3
  have d4 : wc.cell? ⟨q4, 4, none⟩ = some (.int .u32 (x.ps : Int)) := D4.out.cell 4
  have d5 : wc.cell? ⟨q4, 5, none⟩ = some (.int .u32 (x.rw : Int)) := D4.out.cell 5
  have d6 : wc.cell? ⟨q4, 6, none⟩ = some (.int .u16 (x.ou : Int)) := D4.out.cell 6
  have d7 : wc.cell? ⟨q4, 7, none⟩ = some (.int .u16 (x.inn : Int)) := D4.out.cell 7
  go_wp2_with fail
  rw [← whole_eq 8]
  go_wp2_with fail
  clear j0 j1 j2 j3 j4 j5 j6 j7 d0 d1 d2 d3 d4 d5 d6 d7
  refine (twin_any A35 64 c35 V wc (by omega) HVL.out O4.out.rd).mono ?_
  rintro e w5 ⟨A5, c5, rfl, ho5, hb5⟩
  have B5 := Lib.hid (below_then B4.out (Nat.le_refl _) hb5)
  have O5 := Lib.hid (O4.out.below hb5 (Nat.le_refl _))
  obtain ⟨g5, zs, rfl, hg5, hrow5, hzl, hc5⟩ : ∃ g zs, A5 = some ⟨g, 0, none⟩ ∧ wc.heap.size ≤ g ∧ RowAt w5 5 g (V ++ zs) ∧ 64 + zs.length = c5 ∧ c5 ≤ maxLen := by
    rcases ho5.2 with ⟨_, h, _⟩ | h
    · exact absurd h (by decide)
    · exact h
  have R5 := Lib.hid hrow5
  have HB5 := Lib.hid hb5
  have HC5 := Lib.hid hc5
  have HZL := Lib.hid hzl
  have hlt35 : ∀ g, A35 = some ⟨g, 0, none⟩ → g ≠ g5 := fun g hg h => by have := (O4.out.lt g hg).2; omega
  have H35 := Lib.hid hlt35
  have hltW : w.heap.size ≤ g5 := Nat.le_trans B4.out.size hg5
  clear ho5 hb5 hrow5 hc5 hzl hlt35 K4 D4 O4 B4
  have hab := a.toNat_lt
  obtain ⟨k, hk⟩ : ∃ k : Nat, k = 32 + a.toNat % 32 := ⟨_, rfl⟩
  obtain ⟨r, hr2⟩ : ∃ r : Nat, r = a.toNat % 64 := ⟨_, rfl⟩
  have HK : Hid ((32 + (a.toNat : Int) % 32) = (k : Int)) := Lib.hid (by omega)
  have HRR : Hid (((a.toNat : Int) % 64) = (r : Int)) := Lib.hid (by omega)
  have hk1 : 32 ≤ k := by omega
  have hk2 : k < 64 := by omega
  have hr64 : r < 64 := by omega
  clear hk hr2
  go_wp2_with fail
  rw [HK.out]
  obtain ⟨v, hv⟩ : ∃ v, V[k]? = some v := ⟨_, List.getElem?_eq_getElem (by rw [HVL.out]; exact hk2)⟩
  obtain ⟨u, hu⟩ : ∃ u, u = v ^^^ y := ⟨_, rfl⟩
  have hxor : bits .xor .u8 (v.toNat : Int) (y.toNat : Int) = (u.toNat : Int) := by rw [hu]; exact bits_xor_u8 v y
  have hf : w5.cell? ⟨g5, k, none⟩ = some (.int .u8 (v.toNat : Int)) := by
    have h := R5.out.cell k (by rw [List.length_append, HVL.out]; omega)
    have e : (V ++ zs)[k]'(by rw [List.length_append, HVL.out]; omega) = v := by
      apply Option.some.inj
      rw [← List.getElem?_eq_getElem, List.getElem?_append_left (by rw [HVL.out]; exact hk2), hv]
    rw [e] at h
    exact h
  have hfz := R5.out.frozen k
  have R6 : Hid (RowAt (w5.setCell ⟨g5, k, none⟩ (.int .u8 (u.toNat : Int))) 5 g5 (V.set k u ++ zs)) := Lib.hid (by
    have h := R5.out.set_ k u
    rw [List.set_append_left _ _ (by rw [HVL.out]; exact hk2)] at h
    exact h)
  have B6 : Hid (Below w.heap.size w (w5.setCell ⟨g5, k, none⟩ (.int .u8 (u.toNat : Int)))) := Lib.hid (B5.out.setCell (p := ⟨g5, k, none⟩) hltW _)
  have O6 : Hid (Own8 (w5.setCell ⟨g5, k, none⟩ (.int .u8 (u.toNat : Int))) 5 w.heap.size A35 64 c35 V) := Lib.hid (O5.out.keep fun g hg => Below.heap_setCell _ _ _ g (H35.out g hg))
  have HVK := Lib.hid hv
  have HU := Lib.hid hu
  have hki : (k : Int) < 64 := by omega
  clear hv hu R5 B5 O5 H35
  rw [← whole_eq 12]
  go_wp2_with fail
  generalize w5.setCell ⟨g5, k, none⟩ (.int .u8 (u.toNat : Int)) = w6 at R6 B6 O6 ⊢
  clear hf hfz hxor hki
  obtain ⟨G1, hG1⟩ : ∃ G, G = ansC (rdC ks (V.set k u)) := ⟨_, rfl⟩
  obtain ⟨E1, hE1⟩ : ∃ E, E = errC (rdC ks (V.set k u)) := ⟨_, rfl⟩
  have hl1 : (V.set k u).length = 64 := by rw [List.length_set, HVL.out]
  have hyb : ((y.toNat : Int) != 0) = false := by rw [HYY.out]; rfl
  have C1 : Hid (Calls Tryd.prog 14 #[.slice A n c, .slice (some ⟨g5, 0, none⟩) 64 c5] w6 fun e w' => e = .returned (.tuple #[.agg #[.int .i64 G1.b, .int .u32 (G1.ot : Int), .int .u32 (G1.pt : Int), .int .u32 (G1.os : Int), .int .u32 (G1.ps : Int), .int .u32 (G1.rw : Int), .int .u16 (G1.ou : Int), .int .u16 (G1.inn : Int)], .int .i64 E1]) ∧ Below w6.heap.size w6 w') := Lib.hid (CR.out w6 (some ⟨g5, 0, none⟩) 64 c5 (V.set k u) G1 E1 B6.out (R6.out.rd 0 _ (fun j hj => by rw [Nat.zero_add, List.getElem?_append_left hj])) (by have := HZL.out; omega) HC5.out hl1 hG1.symm hE1.symm)
  clear hG1 hE1 hl1
  refine C1.out.mono ?_
  rintro e w7 ⟨rfl, hb7⟩
  have B7 := Lib.hid (below_then B6.out (Nat.le_refl _) hb7)
  have O7 := Lib.hid (O6.out.below hb7 (Nat.le_refl _))
  clear C1 hb7 B6 O6 R6
  have B8 := Lib.hid (B7.out.alloc B7.out.size (.cells #[.int .i64 G1.b, .int .u32 (G1.ot : Int), .int .u32 (G1.pt : Int), .int .u32 (G1.os : Int), .int .u32 (G1.ps : Int), .int .u32 (G1.rw : Int), .int .u16 (G1.ou : Int), .int .u16 (G1.inn : Int)] 26))
  have O8 := Lib.hid (O7.out.alloc (.cells #[.int .i64 G1.b, .int .u32 (G1.ot : Int), .int .u32 (G1.pt : Int), .int .u32 (G1.os : Int), .int .u32 (G1.ps : Int), .int .u32 (G1.rw : Int), .int .u16 (G1.ou : Int), .int .u16 (G1.inn : Int)] 26))
  clear B7 O7
  go_wp2_with fail
  generalize w7.alloc (.cells #[.int .i64 G1.b, .int .u32 (G1.ot : Int), .int .u32 (G1.pt : Int), .int .u32 (G1.os : Int), .int .u32 (G1.ps : Int), .int .u32 (G1.rw : Int), .int .u16 (G1.ou : Int), .int .u16 (G1.inn : Int)] 26) = w8 at B8 O8 ⊢
  generalize w7.heap.size = q7
  refine (twin_any A35 64 c35 V w8 (by omega) HVL.out O8.out.rd).mono ?_
  rintro e w9 ⟨A9, c9, rfl, ho9, hb9⟩
  have B9 := Lib.hid (below_then B8.out (Nat.le_refl _) hb9)
  have O9 := Lib.hid (O8.out.below hb9 (Nat.le_refl _))
  have N9 := ho9.more (Nat.le_refl _)
  have hb9s := hb9.size
  clear hb9 ho9
  have s9 : w.heap.size ≤ w9.heap.size := B9.out.size
  have B9s : w8.heap.size ≤ w9.heap.size := hb9s
  have r9 := HR'.out.below B9.out
  have HLT9 : Hid (∀ g, A35 = some ⟨g, 0, none⟩ → g < w8.heap.size) := Lib.hid fun g hg => (O8.out.lt g hg).2
  go_wp2_with (at_builtin; refine wpList_append8 h8 _ rfl _ _ rfl w8.heap.size _ _ _ _ rfl N9 _ _ _ _ _ rfl HY.out r9 (by omega) B9s ?_; intro A10 c10 w10 h10 hg10 ho10)
  have B10 := Lib.hid (B9.out.grown hg10 s9 (fun q hq => Nat.le_trans B8.out.size (N9.blk q hq)))
  have O10 : Hid (Own8 w10 5 w.heap.size A35 64 c35 V) := Lib.hid (O9.out.keep fun g hg => hg10.block g (Nat.lt_of_lt_of_le (HLT9.out g hg) B9s) (fun e => by have := N9.blk g e.symm; have := HLT9.out g hg; omega))
  obtain ⟨G2, hG2⟩ : ∃ G, G = ansC (rdC ks (V ++ ms)) := ⟨_, rfl⟩
  obtain ⟨E2, hE2⟩ : ∃ E, E = errC (rdC ks (V ++ ms)) := ⟨_, rfl⟩
  have hmn : 0 < n' := by have := HMO.out; omega
  have HE2 : Hid (E2 = 7) := Lib.hid (by
    rw [hE2, rdC_len (by rw [List.length_append, HVL.out, HY.out]; omega)]
    rfl)
  have hmb : decide ((n' : Int) > 0) = true := by simp; omega
  have C2 : Hid (Calls Tryd.prog 14 #[.slice A n c, .slice A10 (64 + n' : Nat) c10] w10 fun e w' => e = .returned (.tuple #[.agg #[.int .i64 G2.b, .int .u32 (G2.ot : Int), .int .u32 (G2.pt : Int), .int .u32 (G2.os : Int), .int .u32 (G2.ps : Int), .int .u32 (G2.rw : Int), .int .u16 (G2.ou : Int), .int .u16 (G2.inn : Int)], .int .i64 E2]) ∧ Below w10.heap.size w10 w') := Lib.hid (CR.out w10 A10 (64 + n') c10 (V ++ ms) G2 E2 B10.out h10.rd h10.cap.1 h10.cap.2 h10.len hG2.symm hE2.symm)
  clear hG2 hE2 h10 hg10 ho10 N9 r9 s9 B9s HLT9 B9 O9 B8 O8
  refine C2.out.mono ?_
  rintro e w11 ⟨rfl, hb11⟩
  rw [HE2.out]
  have B11 := Lib.hid (below_then B10.out (Nat.le_refl _) hb11)
  have O11 := Lib.hid (O10.out.below hb11 (Nat.le_refl _))
  clear C2 hb11 B10 O10
  have B12 := Lib.hid (B11.out.alloc B11.out.size (.cells #[.int .i64 G2.b, .int .u32 (G2.ot : Int), .int .u32 (G2.pt : Int), .int .u32 (G2.os : Int), .int .u32 (G2.ps : Int), .int .u32 (G2.rw : Int), .int .u16 (G2.ou : Int), .int .u16 (G2.inn : Int)] 26))
  have O12 := Lib.hid (O11.out.alloc (.cells #[.int .i64 G2.b, .int .u32 (G2.ot : Int), .int .u32 (G2.pt : Int), .int .u32 (G2.os : Int), .int .u32 (G2.ps : Int), .int .u32 (G2.rw : Int), .int .u16 (G2.ou : Int), .int .u16 (G2.inn : Int)] 26))
  clear B11 O11
  have hcl : r ≤ c35 := by have := hcb.1; omega
  have hri : (r : Int) ≤ (c35 : Int) := by omega
  go_wp2_with fail
  generalize w11.alloc (.cells #[.int .i64 G2.b, .int .u32 (G2.ot : Int), .int .u32 (G2.pt : Int), .int .u32 (G2.os : Int), .int .u32 (G2.ps : Int), .int .u32 (G2.rw : Int), .int .u16 (G2.ou : Int), .int .u16 (G2.inn : Int)] 26) = w12 at B12 O12 ⊢
  generalize w11.heap.size = q11
  refine (ckRead_len A A35 n c (a.toNat % 64) c35 w12 (by unfold maxLen; omega) (by omega)).mono ?_
  rintro e w13 ⟨rfl, hb13⟩
  have B13 := Lib.hid (below_then B12.out (Nat.le_refl _) hb13)
  clear hb13 B12 O12
  have B14 := Lib.hid (B13.out.alloc B13.out.size (.cells #[.int .i64 0, .int .u32 0, .int .u32 0, .int .u32 0, .int .u32 0, .int .u32 0, .int .u16 0, .int .u16 0] 26))
  clear B13
  go_wp2_with fail
  rw [← whole_eq 16]
  generalize w13.alloc (.cells #[.int .i64 0, .int .u32 0, .int .u32 0, .int .u32 0, .int .u32 0, .int .u32 0, .int .u16 0, .int .u16 0] 26) = w14 at B14 ⊢
  generalize w13.heap.size = q13
  go_wp2_with fail
  refine (ckWorks_any w14 (HT.out.below B14.out h2)).mono ?_
  rintro e w9 ⟨rfl, hb9⟩
  go_wp2_with fail
  go_ret
  exact ⟨rfl, below_then B14.out (Nat.le_refl _) hb9⟩

set_option maxRecDepth 100000 in
set_option maxHeartbeats 4000000 in
theorem cookieBack_tft (A : Option Addr) (n c : Nat) (ks : List UInt8) (x : Ck) (a y : UInt8) (A' : Option Addr) (n' c' : Nat) (ms : List UInt8) (w : World) (hT : Tabs w) (hn : n ≤ c) (hc : c ≤ maxLen) (hx : ks.length = n) (hr : Rd w w.heap.size A ks) (hw : x.Wf) (hn' : n' ≤ c') (hc' : c' ≤ maxLen) (hm : ms.length = n') (hr' : Rd w w.heap.size A' ms) (hln : n ≤ 4096) (hln' : n' ≤ 4096) (hmay : x.may = true) (hy : y ≠ 0) (hmo : n' = 0) : Calls Tryd.prog 5 #[.slice A n c, .agg #[.int .i64 x.b, .int .u32 (x.ot : Int), .int .u32 (x.pt : Int), .int .u32 (x.os : Int), .int .u32 (x.ps : Int), .int .u32 (x.rw : Int), .int .u16 (x.ou : Int), .int .u16 (x.inn : Int)], .int .u8 (a.toNat : Int), .int .u8 (y.toNat : Int), .slice A' n' c'] w fun e w' => e = .returned (.bool true) ∧ Below w.heap.size w w' := by
  have h2 := hT.2.2
  have HT := Lib.hid hT
  have HR := Lib.hid hr
  have HX := Lib.hid hx
  have HR' := Lib.hid hr'
  have HY := Lib.hid hm
  have HC := Lib.hid hc
  have HC' := Lib.hid hc'
  have HWF := Lib.hid hw
  have K0 := Lib.hid (Blk.new w 26 #[.int .i64 x.b, .int .u32 (x.ot : Int), .int .u32 (x.pt : Int), .int .u32 (x.os : Int), .int .u32 (x.ps : Int), .int .u32 (x.rw : Int), .int .u16 (x.ou : Int), .int .u16 (x.inn : Int)])
  have B0 := Lib.hid (below_new w (.cells #[.int .i64 x.b, .int .u32 (x.ot : Int), .int .u32 (x.pt : Int), .int .u32 (x.os : Int), .int .u32 (x.ps : Int), .int .u32 (x.rw : Int), .int .u16 (x.ou : Int), .int .u16 (x.inn : Int)] 26))
  clear hT hx hr hc hm hr' hc' hw
  have hb : decide ((n : Int) > 4096) = false := by simp; omega
  have hb' : decide ((n' : Int) > 4096) = false := by simp; omega
  obtain ⟨i8, h8⟩ := Tryd.ty8
  have hz := zero_cookie
  obtain ⟨V, hV⟩ : ∃ V, V = wrC ks x := ⟨_, rfl⟩
  have HV := Lib.hid hV
  have hVl := length_wrC ks x
  rw [← hV] at hVl
  have HVL := Lib.hid hVl
  clear hV hVl
  have HM := Lib.hid hmay
  have CW : Hid (∀ W A1 c1, Below w.heap.size w W → Rd W W.heap.size A1 ks → n ≤ c1 → c1 ≤ maxLen → Calls Tryd.prog 12 #[.slice A1 n c1, .agg #[.int .i64 x.b, .int .u32 (x.ot : Int), .int .u32 (x.pt : Int), .int .u32 (x.os : Int), .int .u32 (x.ps : Int), .int .u32 (x.rw : Int), .int .u16 (x.ou : Int), .int .u16 (x.inn : Int)]] W fun e w' => ∃ A2 c2, e = .returned (.slice A2 64 c2) ∧ Own8 w' 5 W.heap.size A2 64 c2 V ∧ Below W.heap.size W w') := Lib.hid fun W A1 c1 g hr1 h1 h3 => HV.out ▸ ckWrite_any A1 n c1 ks x W (HT.out.below g h2) h1 h3 HX.out hr1 (by omega) HWF.out
  have CR : Hid (∀ W A1 n1 c1 (zs : List UInt8) (v : Ck) (e0 : Int), Below w.heap.size w W → Rd W W.heap.size A1 zs → n1 ≤ c1 → c1 ≤ maxLen → zs.length = n1 → ansC (rdC ks zs) = v → errC (rdC ks zs) = e0 → Calls Tryd.prog 14 #[.slice A n c, .slice A1 n1 c1] W fun e w' => e = .returned (.tuple #[.agg #[.int .i64 v.b, .int .u32 (v.ot : Int), .int .u32 (v.pt : Int), .int .u32 (v.os : Int), .int .u32 (v.ps : Int), .int .u32 (v.rw : Int), .int .u16 (v.ou : Int), .int .u16 (v.inn : Int)], .int .i64 e0]) ∧ Below W.heap.size W w') := Lib.hid fun W A1 n1 c1 zs v e0 g hr1 h1 h3 h4 h5 h6 => h5 ▸ h6 ▸ ckRead_any A A1 n c n1 c1 ks zs W (HT.out.below g h2) hn HC.out HX.out ((HR.out.below g).more g.size) (by omega) h1 h3 h4 hr1
  have HYY := Lib.hid hy
  have HMO := Lib.hid hmo
  clear hmay hy hmo
  go_enter Tryd.func5, Tryd.ntmps5
  rw [drawn_eq 3, whole_eq 6, whole_eq 7, whole_eq 8, whole_eq 12, whole_eq 16]
  go_wp2_with fail
  generalize w.alloc (.cells #[.int .i64 x.b, .int .u32 (x.ot : Int), .int .u32 (x.pt : Int), .int .u32 (x.os : Int), .int .u32 (x.ps : Int), .int .u32 (x.rw : Int), .int .u16 (x.ou : Int), .int .u16 (x.inn : Int)] 26) = w0 at K0 B0 ⊢
  have hb2 : ∀ W, Below w0.heap.size w0 W → Below w.heap.size w W := fun W h => below_then B0.out (Nat.le_refl _) h
  have HB2 := Lib.hid hb2
  have CT : Hid (∀ W, Below w0.heap.size w0 W → Calls Tryd.prog 10 #[.slice A n c] W fun e w' => ∃ A2 c2, e = .returned (.slice A2 n c2) ∧ Own8 w' 5 W.heap.size A2 n c2 ks ∧ Below W.heap.size W w') := Lib.hid fun W g => twin_any A n c ks W (by omega) HX.out ((HR.out.below (hb2 W g)).more (hb2 W g).size)
  clear hb2
  rw [← drawn_eq 3]
  refine wp_region_grow_tail 4 (by kernel_rfl) [(Is (.slice A n c)), (NewOwn 5 w0.heap.size n ks), (Is (.agg #[.int .i64 x.b, .int .u32 (x.ot : Int), .int .u32 (x.pt : Int), .int .u32 (x.os : Int), .int .u32 (x.ps : Int), .int .u32 (x.rw : Int), .int .u16 (x.ou : Int), .int .u16 (x.inn : Int)])), (NewOwn 5 w0.heap.size 64 V)] rfl ?_ (by kernel_rfl) (by kernel_rfl) ?_ ?_
  · intro p hp
    simp only [List.mem_cons, List.not_mem_nil, or_false] at hp
    rcases hp with rfl | rfl | rfl | rfl
    · exact Lasts.is _
    · exact Lasts.newOwn _ _ _ _
    · exact Lasts.is _
    · exact Lasts.newOwn _ _ _ _
  · refine ⟨?_, ?_, ?_, ?_, trivial⟩
    · intro listed a w1 hl hc
      have h0 : a.tmps[0]?.getD undef = .slice A n c := (hc.was 0 (by kernel_rfl)).trans rfl
      refine does_value rfl rfl (.slice A n c) w1 ?_ (Below.refl _ _) rfl
      clear hc hl
      go_simp
    · intro listed a w1 hl hc
      have h32 : a.tmps[32]?.getD undef = .slice A n c := hc.dep hl 0 32 rfl (by kernel_rfl)
      refine does_call rfl rfl 10 #[.slice A n c] ?_ ((CT.out w1 hc.g).mono fun e w' ⟨A9, c9, he, ho, hb⟩ => ⟨_, he, hb, A9, c9, rfl, ho.more hc.g.size⟩)
      clear hc hl
      go_simp
    · intro listed a w1 hl hc
      have h6 : a.tmps[6]?.getD undef = .pointer (some ⟨w.heap.size, 0, none⟩) := (hc.was 6 (by kernel_rfl)).trans rfl
      have kb := K0.out.below hc.g K0.out.lt
      have x0 : w1.cell? ⟨w.heap.size, 0, none⟩ = some (.int .i64 x.b) := kb.cell 0
      have x1 : w1.cell? ⟨w.heap.size, 1, none⟩ = some (.int .u32 (x.ot : Int)) := kb.cell 1
      have x2 : w1.cell? ⟨w.heap.size, 2, none⟩ = some (.int .u32 (x.pt : Int)) := kb.cell 2
      have x3 : w1.cell? ⟨w.heap.size, 3, none⟩ = some (.int .u32 (x.os : Int)) := kb.cell 3
      have x4 : w1.cell? ⟨w.heap.size, 4, none⟩ = some (.int .u32 (x.ps : Int)) := kb.cell 4
      have x5 : w1.cell? ⟨w.heap.size, 5, none⟩ = some (.int .u32 (x.rw : Int)) := kb.cell 5
      have x6 : w1.cell? ⟨w.heap.size, 6, none⟩ = some (.int .u16 (x.ou : Int)) := kb.cell 6
      have x7 : w1.cell? ⟨w.heap.size, 7, none⟩ = some (.int .u16 (x.inn : Int)) := kb.cell 7
      clear kb
      refine does_value rfl rfl (.agg #[.int .i64 x.b, .int .u32 (x.ot : Int), .int .u32 (x.pt : Int), .int .u32 (x.os : Int), .int .u32 (x.ps : Int), .int .u32 (x.rw : Int), .int .u16 (x.ou : Int), .int .u16 (x.inn : Int)]) w1 ?_ (Below.refl _ _) rfl
      clear hc hl
      go_simp
    · intro listed a w1 hl hc
      obtain ⟨A33, c33, h33, ho33⟩ := hc.dep hl 1 33 rfl (by kernel_rfl)
      have h34 : a.tmps[34]?.getD undef = .agg #[.int .i64 x.b, .int .u32 (x.ot : Int), .int .u32 (x.pt : Int), .int .u32 (x.os : Int), .int .u32 (x.ps : Int), .int .u32 (x.rw : Int), .int .u16 (x.ou : Int), .int .u16 (x.inn : Int)] := hc.dep hl 2 34 rfl (by kernel_rfl)
      refine does_call rfl rfl 12 #[.slice A33 n c33, .agg #[.int .i64 x.b, .int .u32 (x.ot : Int), .int .u32 (x.pt : Int), .int .u32 (x.os : Int), .int .u32 (x.ps : Int), .int .u32 (x.rw : Int), .int .u16 (x.ou : Int), .int .u16 (x.inn : Int)]] ?_ ((CW.out w1 A33 c33 (HB2.out w1 hc.g) ho33.rd ho33.cap.1 ho33.cap.2).mono fun e w' ⟨A9, c9, he, ho, hb⟩ => ⟨_, he, hb, A9, c9, rfl, ho.more hc.g.size⟩)
      clear hc hl
      go_simp
  intro w2 hb2
  rintro _ rfl _ ⟨A33, c33, rfl, ho33⟩ _ rfl _ ⟨A35, c35, rfl, ho35⟩
  simp only [Thus, List.reverse_cons, List.reverse_nil, List.nil_append, List.cons_append, List.drop, List.take, lay]
  go_frame
  clear CT
  have hcb := ho35.cap
  have B2 := Lib.hid (below_then B0.out (Nat.le_refl _) hb2)
  have K2 := Lib.hid (K0.out.below hb2 K0.out.lt)
  have O2 := Lib.hid (ho35.more B0.out.size)
  clear hb2 ho35 ho33 K0 B0 HB2 CW
  go_wp2_with fail
  rw [← whole_eq 6]
  go_wp2_with fail
  have CR0 : Hid (Calls Tryd.prog 14 #[.slice A n c, .slice A35 64 c35] w2 fun e w' => e = .returned (.tuple #[.agg #[.int .i64 x.b, .int .u32 (x.ot : Int), .int .u32 (x.pt : Int), .int .u32 (x.os : Int), .int .u32 (x.ps : Int), .int .u32 (x.rw : Int), .int .u16 (x.ou : Int), .int .u16 (x.inn : Int)], .int .i64 0]) ∧ Below w2.heap.size w2 w') := Lib.hid (CR.out w2 A35 64 c35 V x 0 B2.out O2.out.rd hcb.1 hcb.2 HVL.out (by rw [HV.out, rdC_wrC HWF.out, HM.out]; rfl) (by rw [HV.out, rdC_wrC HWF.out, HM.out]; rfl))
  refine CR0.out.mono ?_
  rintro e w3 ⟨rfl, hb3⟩
  clear CR0
  have B3 := Lib.hid (below_then B2.out (Nat.le_refl _) hb3)
  have K3 := Lib.hid (K2.out.below hb3 K2.out.lt)
  have O3 := Lib.hid (O2.out.below hb3 (Nat.le_refl _))
  clear hb3 B2 K2 O2
  have B4 := Lib.hid (B3.out.alloc B3.out.size (.cells #[.int .i64 x.b, .int .u32 (x.ot : Int), .int .u32 (x.pt : Int), .int .u32 (x.os : Int), .int .u32 (x.ps : Int), .int .u32 (x.rw : Int), .int .u16 (x.ou : Int), .int .u16 (x.inn : Int)] 26))
  have K4 := Lib.hid (K3.out.alloc (.cells #[.int .i64 x.b, .int .u32 (x.ot : Int), .int .u32 (x.pt : Int), .int .u32 (x.os : Int), .int .u32 (x.ps : Int), .int .u32 (x.rw : Int), .int .u16 (x.ou : Int), .int .u16 (x.inn : Int)] 26))
  have O4 := Lib.hid (O3.out.alloc (.cells #[.int .i64 x.b, .int .u32 (x.ot : Int), .int .u32 (x.pt : Int), .int .u32 (x.os : Int), .int .u32 (x.ps : Int), .int .u32 (x.rw : Int), .int .u16 (x.ou : Int), .int .u16 (x.inn : Int)] 26))
  have D4 : Hid (Blk (w3.alloc (.cells #[.int .i64 x.b, .int .u32 (x.ot : Int), .int .u32 (x.pt : Int), .int .u32 (x.os : Int), .int .u32 (x.ps : Int), .int .u32 (x.rw : Int), .int .u16 (x.ou : Int), .int .u16 (x.inn : Int)] 26)) w3.heap.size 26 #[.int .i64 x.b, .int .u32 (x.ot : Int), .int .u32 (x.pt : Int), .int .u32 (x.os : Int), .int .u32 (x.ps : Int), .int .u32 (x.rw : Int), .int .u16 (x.ou : Int), .int .u16 (x.inn : Int)]) := Lib.hid (Blk.new _ _ _)
  go_wp2_with fail
  generalize w3.alloc (.cells #[.int .i64 x.b, .int .u32 (x.ot : Int), .int .u32 (x.pt : Int), .int .u32 (x.os : Int), .int .u32 (x.ps : Int), .int .u32 (x.rw : Int), .int .u16 (x.ou : Int), .int .u16 (x.inn : Int)] 26) = w4 at B4 K4 O4 D4 ⊢
  generalize w3.heap.size = q4 at D4 ⊢
  clear B3 K3 O3
  rw [← whole_eq 7]
  go_cut [14] from 45 to 151 (fun s wx => s = .bool true ∧ wx = w4)
  case first =>
    have hp := HM.out
    simp only [Ck.may, Bool.and_eq_true, decide_eq_true_eq, Bool.not_eq_true', decide_eq_false_iff_not] at hp
    obtain ⟨⟨⟨⟨p0, p1⟩, p2⟩, p3⟩, p4⟩ := hp
    have t0 : decide (x.b ≥ 0) = true := by simp; omega
    have t1 : ((x.ot : Int) != 0) = true := by simp; omega
    have t2 : ((x.pt : Int) != 0) = true := by simp; omega
    have t3 : ((x.ou : Int) != 0) = true := by simp; omega
    have t4 : ((x.inn : Int) != 0) = true := by simp; omega
    clear p0 p1 p2 p3 p4
    have j0 : w4.cell? ⟨w.heap.size, 0, none⟩ = some (.int .i64 x.b) := K4.out.cell 0
    have j1 : w4.cell? ⟨w.heap.size, 1, none⟩ = some (.int .u32 (x.ot : Int)) := K4.out.cell 1
    have j2 : w4.cell? ⟨w.heap.size, 2, none⟩ = some (.int .u32 (x.pt : Int)) := K4.out.cell 2
    have j3 : w4.cell? ⟨w.heap.size, 3, none⟩ = some (.int .u32 (x.os : Int)) := K4.out.cell 3
    have j4 : w4.cell? ⟨w.heap.size, 4, none⟩ = some (.int .u32 (x.ps : Int)) := K4.out.cell 4
    have j5 : w4.cell? ⟨w.heap.size, 5, none⟩ = some (.int .u32 (x.rw : Int)) := K4.out.cell 5
    have j6 : w4.cell? ⟨w.heap.size, 6, none⟩ = some (.int .u16 (x.ou : Int)) := K4.out.cell 6
    have j7 : w4.cell? ⟨w.heap.size, 7, none⟩ = some (.int .u16 (x.inn : Int)) := K4.out.cell 7
    go_wp2_with fail
    go_meet
    case rel => exact ⟨rfl, rfl⟩
  obtain ⟨rfl, rfl⟩ := hcut
  have j0 : wc.cell? ⟨w.heap.size, 0, none⟩ = some (.int .i64 x.b) := K4.out.cell 0
  have j1 : wc.cell? ⟨w.heap.size, 1, none⟩ = some (.int .u32 (x.ot : Int)) := K4.out.cell 1
  have j2 : wc.cell? ⟨w.heap.size, 2, none⟩ = some (.int .u32 (x.pt : Int)) := K4.out.cell 2
  have j3 : wc.cell? ⟨w.heap.size, 3, none⟩ = some (.int .u32 (x.os : Int)) := K4.out.cell 3
  have j4 : wc.cell? ⟨w.heap.size, 4, none⟩ = some (.int .u32 (x.ps : Int)) := K4.out.cell 4
  have j5 : wc.cell? ⟨w.heap.size, 5, none⟩ = some (.int .u32 (x.rw : Int)) := K4.out.cell 5
  have j6 : wc.cell? ⟨w.heap.size, 6, none⟩ = some (.int .u16 (x.ou : Int)) := K4.out.cell 6
  have j7 : wc.cell? ⟨w.heap.size, 7, none⟩ = some (.int .u16 (x.inn : Int)) := K4.out.cell 7
  have d0 : wc.cell? ⟨q4, 0, none⟩ = some (.int .i64 x.b) := D4.out.cell 0
  have d1 : wc.cell? ⟨q4, 1, none⟩ = some (.int .u32 (x.ot : Int)) := D4.out.cell 1
  have d2 : wc.cell? ⟨q4, 2, none⟩ = some (.int .u32 (x.pt : Int)) := D4.out.cell 2
  have d3 : wc.cell? ⟨q4, 3, none⟩ = some (.int .u32 (x.os : Int)) := D4.out.cell 3
  have d4 : wc.cell? ⟨q4, 4, none⟩ = some (.int .u32 (x.ps : Int)) := D4.out.cell 4
  have d5 : wc.cell? ⟨q4, 5, none⟩ = some (.int .u32 (x.rw : Int)) := D4.out.cell 5
  have d6 : wc.cell? ⟨q4, 6, none⟩ = some (.int .u16 (x.ou : Int)) := D4.out.cell 6
  have d7 : wc.cell? ⟨q4, 7, none⟩ = some (.int .u16 (x.inn : Int)) := D4.out.cell 7
  go_wp2_with fail
  rw [← whole_eq 8]
  go_wp2_with fail
  clear j0 j1 j2 j3 j4 j5 j6 j7 d0 d1 d2 d3 d4 d5 d6 d7
  refine (twin_any A35 64 c35 V wc (by omega) HVL.out O4.out.rd).mono ?_
  rintro e w5 ⟨A5, c5, rfl, ho5, hb5⟩
  have B5 := Lib.hid (below_then B4.out (Nat.le_refl _) hb5)
  have O5 := Lib.hid (O4.out.below hb5 (Nat.le_refl _))
  obtain ⟨g5, zs, rfl, hg5, hrow5, hzl, hc5⟩ : ∃ g zs, A5 = some ⟨g, 0, none⟩ ∧ wc.heap.size ≤ g ∧ RowAt w5 5 g (V ++ zs) ∧ 64 + zs.length = c5 ∧ c5 ≤ maxLen := by
    rcases ho5.2 with ⟨_, h, _⟩ | h
    · exact absurd h (by decide)
    · exact h
  have R5 := Lib.hid hrow5
  have HB5 := Lib.hid hb5
  have HC5 := Lib.hid hc5
  have HZL := Lib.hid hzl
  have hlt35 : ∀ g, A35 = some ⟨g, 0, none⟩ → g ≠ g5 := fun g hg h => by have := (O4.out.lt g hg).2; omega
  have H35 := Lib.hid hlt35
  have hltW : w.heap.size ≤ g5 := Nat.le_trans B4.out.size hg5
  clear ho5 hb5 hrow5 hc5 hzl hlt35 K4 D4 O4 B4
  have hab := a.toNat_lt
  obtain ⟨k, hk⟩ : ∃ k : Nat, k = 32 + a.toNat % 32 := ⟨_, rfl⟩
  obtain ⟨r, hr2⟩ : ∃ r : Nat, r = a.toNat % 64 := ⟨_, rfl⟩
  have HK : Hid ((32 + (a.toNat : Int) % 32) = (k : Int)) := Lib.hid (by omega)
  have HRR : Hid (((a.toNat : Int) % 64) = (r : Int)) := Lib.hid (by omega)
  have hk1 : 32 ≤ k := by omega
  have hk2 : k < 64 := by omega
  have hr64 : r < 64 := by omega
  clear hk hr2
  go_wp2_with fail
  rw [HK.out]
  obtain ⟨v, hv⟩ : ∃ v, V[k]? = some v := ⟨_, List.getElem?_eq_getElem (by rw [HVL.out]; exact hk2)⟩
  obtain ⟨u, hu⟩ : ∃ u, u = v ^^^ y := ⟨_, rfl⟩
  have hxor : bits .xor .u8 (v.toNat : Int) (y.toNat : Int) = (u.toNat : Int) := by rw [hu]; exact bits_xor_u8 v y
  have hf : w5.cell? ⟨g5, k, none⟩ = some (.int .u8 (v.toNat : Int)) := by
    have h := R5.out.cell k (by rw [List.length_append, HVL.out]; omega)
    have e : (V ++ zs)[k]'(by rw [List.length_append, HVL.out]; omega) = v := by
      apply Option.some.inj
      rw [← List.getElem?_eq_getElem, List.getElem?_append_left (by rw [HVL.out]; exact hk2), hv]
    rw [e] at h
    exact h
  have hfz := R5.out.frozen k
  have R6 : Hid (RowAt (w5.setCell ⟨g5, k, none⟩ (.int .u8 (u.toNat : Int))) 5 g5 (V.set k u ++ zs)) := Lib.hid (by
    have h := R5.out.set_ k u
    rw [List.set_append_left _ _ (by rw [HVL.out]; exact hk2)] at h
    exact h)
  have B6 : Hid (Below w.heap.size w (w5.setCell ⟨g5, k, none⟩ (.int .u8 (u.toNat : Int)))) := Lib.hid (B5.out.setCell (p := ⟨g5, k, none⟩) hltW _)
  have O6 : Hid (Own8 (w5.setCell ⟨g5, k, none⟩ (.int .u8 (u.toNat : Int))) 5 w.heap.size A35 64 c35 V) := Lib.hid (O5.out.keep fun g hg => Below.heap_setCell _ _ _ g (H35.out g hg))
  have HVK := Lib.hid hv
  have HU := Lib.hid hu
  have hki : (k : Int) < 64 := by omega
  clear hv hu R5 B5 O5 H35
  rw [← whole_eq 12]
  go_wp2_with fail
  generalize w5.setCell ⟨g5, k, none⟩ (.int .u8 (u.toNat : Int)) = w6 at R6 B6 O6 ⊢
  clear hf hfz hxor hki
  obtain ⟨G1, hG1⟩ : ∃ G, G = ansC (rdC ks (V.set k u)) := ⟨_, rfl⟩
  obtain ⟨E1, hE1⟩ : ∃ E, E = errC (rdC ks (V.set k u)) := ⟨_, rfl⟩
  have hl1 : (V.set k u).length = 64 := by rw [List.length_set, HVL.out]
  have HE1 : Hid (E1 = 10) := Lib.hid (by
    have h := rdC_turn (key := ks) (c := x) hk1 hk2 u (by
      rw [← HV.out, HVK.out, HU.out]
      intro h
      injection h with h
      exact HYY.out (by
        have h3 : v ^^^ (v ^^^ y) = v ^^^ v := by rw [← h]
        rwa [← UInt8.xor_assoc, UInt8.xor_self, UInt8.zero_xor] at h3))
    rw [hE1, HV.out, h]
    rfl)
  have hyb : ((y.toNat : Int) != 0) = true := by
    rw [bne_iff_ne]
    intro h
    exact HYY.out (UInt8.toNat_inj.1 (by rw [UInt8.toNat_zero]; omega))
  have C1 : Hid (Calls Tryd.prog 14 #[.slice A n c, .slice (some ⟨g5, 0, none⟩) 64 c5] w6 fun e w' => e = .returned (.tuple #[.agg #[.int .i64 G1.b, .int .u32 (G1.ot : Int), .int .u32 (G1.pt : Int), .int .u32 (G1.os : Int), .int .u32 (G1.ps : Int), .int .u32 (G1.rw : Int), .int .u16 (G1.ou : Int), .int .u16 (G1.inn : Int)], .int .i64 E1]) ∧ Below w6.heap.size w6 w') := Lib.hid (CR.out w6 (some ⟨g5, 0, none⟩) 64 c5 (V.set k u) G1 E1 B6.out (R6.out.rd 0 _ (fun j hj => by rw [Nat.zero_add, List.getElem?_append_left hj])) (by have := HZL.out; omega) HC5.out hl1 hG1.symm hE1.symm)
  clear hG1 hE1 hl1
  refine C1.out.mono ?_
  rintro e w7 ⟨rfl, hb7⟩
  rw [HE1.out]
  have B7 := Lib.hid (below_then B6.out (Nat.le_refl _) hb7)
  have O7 := Lib.hid (O6.out.below hb7 (Nat.le_refl _))
  clear C1 hb7 B6 O6 R6
  have B8 := Lib.hid (B7.out.alloc B7.out.size (.cells #[.int .i64 G1.b, .int .u32 (G1.ot : Int), .int .u32 (G1.pt : Int), .int .u32 (G1.os : Int), .int .u32 (G1.ps : Int), .int .u32 (G1.rw : Int), .int .u16 (G1.ou : Int), .int .u16 (G1.inn : Int)] 26))
  have O8 := Lib.hid (O7.out.alloc (.cells #[.int .i64 G1.b, .int .u32 (G1.ot : Int), .int .u32 (G1.pt : Int), .int .u32 (G1.os : Int), .int .u32 (G1.ps : Int), .int .u32 (G1.rw : Int), .int .u16 (G1.ou : Int), .int .u16 (G1.inn : Int)] 26))
  clear B7 O7
  go_wp2_with fail
  generalize w7.alloc (.cells #[.int .i64 G1.b, .int .u32 (G1.ot : Int), .int .u32 (G1.pt : Int), .int .u32 (G1.os : Int), .int .u32 (G1.ps : Int), .int .u32 (G1.rw : Int), .int .u16 (G1.ou : Int), .int .u16 (G1.inn : Int)] 26) = w8 at B8 O8 ⊢
  generalize w7.heap.size = q7
  refine (twin_any A35 64 c35 V w8 (by omega) HVL.out O8.out.rd).mono ?_
  rintro e w9 ⟨A9, c9, rfl, ho9, hb9⟩
  have B9 := Lib.hid (below_then B8.out (Nat.le_refl _) hb9)
  have O9 := Lib.hid (O8.out.below hb9 (Nat.le_refl _))
  have N9 := ho9.more (Nat.le_refl _)
  have hb9s := hb9.size
  clear hb9 ho9
  have s9 : w.heap.size ≤ w9.heap.size := B9.out.size
  have B9s : w8.heap.size ≤ w9.heap.size := hb9s
  have r9 := HR'.out.below B9.out
  have HLT9 : Hid (∀ g, A35 = some ⟨g, 0, none⟩ → g < w8.heap.size) := Lib.hid fun g hg => (O8.out.lt g hg).2
  go_wp2_with (at_builtin; refine wpList_append8 h8 _ rfl _ _ rfl w8.heap.size _ _ _ _ rfl N9 _ _ _ _ _ rfl HY.out r9 (by omega) B9s ?_; intro A10 c10 w10 h10 hg10 ho10)
  have B10 := Lib.hid (B9.out.grown hg10 s9 (fun q hq => Nat.le_trans B8.out.size (N9.blk q hq)))
  have O10 : Hid (Own8 w10 5 w.heap.size A35 64 c35 V) := Lib.hid (O9.out.keep fun g hg => hg10.block g (Nat.lt_of_lt_of_le (HLT9.out g hg) B9s) (fun e => by have := N9.blk g e.symm; have := HLT9.out g hg; omega))
  obtain ⟨G2, hG2⟩ : ∃ G, G = ansC (rdC ks (V ++ ms)) := ⟨_, rfl⟩
  obtain ⟨E2, hE2⟩ : ∃ E, E = errC (rdC ks (V ++ ms)) := ⟨_, rfl⟩
  have hmn : ¬ 0 < n' := by have := HMO.out; omega
  have hmb : decide ((n' : Int) > 0) = false := by simp; omega
  have C2 : Hid (Calls Tryd.prog 14 #[.slice A n c, .slice A10 (64 + n' : Nat) c10] w10 fun e w' => e = .returned (.tuple #[.agg #[.int .i64 G2.b, .int .u32 (G2.ot : Int), .int .u32 (G2.pt : Int), .int .u32 (G2.os : Int), .int .u32 (G2.ps : Int), .int .u32 (G2.rw : Int), .int .u16 (G2.ou : Int), .int .u16 (G2.inn : Int)], .int .i64 E2]) ∧ Below w10.heap.size w10 w') := Lib.hid (CR.out w10 A10 (64 + n') c10 (V ++ ms) G2 E2 B10.out h10.rd h10.cap.1 h10.cap.2 h10.len hG2.symm hE2.symm)
  clear hG2 hE2 h10 hg10 ho10 N9 r9 s9 B9s HLT9 B9 O9 B8 O8
  refine C2.out.mono ?_
  rintro e w11 ⟨rfl, hb11⟩
  have B11 := Lib.hid (below_then B10.out (Nat.le_refl _) hb11)
  have O11 := Lib.hid (O10.out.below hb11 (Nat.le_refl _))
  clear C2 hb11 B10 O10
  have B12 := Lib.hid (B11.out.alloc B11.out.size (.cells #[.int .i64 G2.b, .int .u32 (G2.ot : Int), .int .u32 (G2.pt : Int), .int .u32 (G2.os : Int), .int .u32 (G2.ps : Int), .int .u32 (G2.rw : Int), .int .u16 (G2.ou : Int), .int .u16 (G2.inn : Int)] 26))
  have O12 := Lib.hid (O11.out.alloc (.cells #[.int .i64 G2.b, .int .u32 (G2.ot : Int), .int .u32 (G2.pt : Int), .int .u32 (G2.os : Int), .int .u32 (G2.ps : Int), .int .u32 (G2.rw : Int), .int .u16 (G2.ou : Int), .int .u16 (G2.inn : Int)] 26))
  clear B11 O11
  have hcl : r ≤ c35 := by have := hcb.1; omega
  have hri : (r : Int) ≤ (c35 : Int) := by omega
  go_wp2_with fail
  generalize w11.alloc (.cells #[.int .i64 G2.b, .int .u32 (G2.ot : Int), .int .u32 (G2.pt : Int), .int .u32 (G2.os : Int), .int .u32 (G2.ps : Int), .int .u32 (G2.rw : Int), .int .u16 (G2.ou : Int), .int .u16 (G2.inn : Int)] 26) = w12 at B12 O12 ⊢
  generalize w11.heap.size = q11
  refine (ckRead_len A A35 n c (a.toNat % 64) c35 w12 (by unfold maxLen; omega) (by omega)).mono ?_
  rintro e w13 ⟨rfl, hb13⟩
  have B13 := Lib.hid (below_then B12.out (Nat.le_refl _) hb13)
  clear hb13 B12 O12
  have B14 := Lib.hid (B13.out.alloc B13.out.size (.cells #[.int .i64 0, .int .u32 0, .int .u32 0, .int .u32 0, .int .u32 0, .int .u32 0, .int .u16 0, .int .u16 0] 26))
  clear B13
  go_wp2_with fail
  rw [← whole_eq 16]
  generalize w13.alloc (.cells #[.int .i64 0, .int .u32 0, .int .u32 0, .int .u32 0, .int .u32 0, .int .u32 0, .int .u16 0, .int .u16 0] 26) = w14 at B14 ⊢
  generalize w13.heap.size = q13
  go_wp2_with fail
  refine (ckWorks_any w14 (HT.out.below B14.out h2)).mono ?_
  rintro e w9 ⟨rfl, hb9⟩
  go_wp2_with fail
  go_ret
  exact ⟨rfl, below_then B14.out (Nat.le_refl _) hb9⟩

set_option maxRecDepth 100000 in
set_option maxHeartbeats 4000000 in
theorem cookieBack_tff (A : Option Addr) (n c : Nat) (ks : List UInt8) (x : Ck) (a y : UInt8) (A' : Option Addr) (n' c' : Nat) (ms : List UInt8) (w : World) (hT : Tabs w) (hn : n ≤ c) (hc : c ≤ maxLen) (hx : ks.length = n) (hr : Rd w w.heap.size A ks) (hw : x.Wf) (hn' : n' ≤ c') (hc' : c' ≤ maxLen) (hm : ms.length = n') (hr' : Rd w w.heap.size A' ms) (hln : n ≤ 4096) (hln' : n' ≤ 4096) (hmay : x.may = true) (hy : y ≠ 0) (hmo : n' ≠ 0) : Calls Tryd.prog 5 #[.slice A n c, .agg #[.int .i64 x.b, .int .u32 (x.ot : Int), .int .u32 (x.pt : Int), .int .u32 (x.os : Int), .int .u32 (x.ps : Int), .int .u32 (x.rw : Int), .int .u16 (x.ou : Int), .int .u16 (x.inn : Int)], .int .u8 (a.toNat : Int), .int .u8 (y.toNat : Int), .slice A' n' c'] w fun e w' => e = .returned (.bool true) ∧ Below w.heap.size w w' := by
  have h2 := hT.2.2
  have HT := Lib.hid hT
  have HR := Lib.hid hr
  have HX := Lib.hid hx
  have HR' := Lib.hid hr'
  have HY := Lib.hid hm
  have HC := Lib.hid hc
  have HC' := Lib.hid hc'
  have HWF := Lib.hid hw
  have K0 := Lib.hid (Blk.new w 26 #[.int .i64 x.b, .int .u32 (x.ot : Int), .int .u32 (x.pt : Int), .int .u32 (x.os : Int), .int .u32 (x.ps : Int), .int .u32 (x.rw : Int), .int .u16 (x.ou : Int), .int .u16 (x.inn : Int)])
  have B0 := Lib.hid (below_new w (.cells #[.int .i64 x.b, .int .u32 (x.ot : Int), .int .u32 (x.pt : Int), .int .u32 (x.os : Int), .int .u32 (x.ps : Int), .int .u32 (x.rw : Int), .int .u16 (x.ou : Int), .int .u16 (x.inn : Int)] 26))
  clear hT hx hr hc hm hr' hc' hw
  have hb : decide ((n : Int) > 4096) = false := by simp; omega
  have hb' : decide ((n' : Int) > 4096) = false := by simp; omega
  obtain ⟨i8, h8⟩ := Tryd.ty8
  have hz := zero_cookie
  obtain ⟨V, hV⟩ : ∃ V, V = wrC ks x := ⟨_, rfl⟩
  have HV := Lib.hid hV
  have hVl := length_wrC ks x
  rw [← hV] at hVl
  have HVL := Lib.hid hVl
  clear hV hVl
  have HM := Lib.hid hmay
  have CW : Hid (∀ W A1 c1, Below w.heap.size w W → Rd W W.heap.size A1 ks → n ≤ c1 → c1 ≤ maxLen → Calls Tryd.prog 12 #[.slice A1 n c1, .agg #[.int .i64 x.b, .int .u32 (x.ot : Int), .int .u32 (x.pt : Int), .int .u32 (x.os : Int), .int .u32 (x.ps : Int), .int .u32 (x.rw : Int), .int .u16 (x.ou : Int), .int .u16 (x.inn : Int)]] W fun e w' => ∃ A2 c2, e = .returned (.slice A2 64 c2) ∧ Own8 w' 5 W.heap.size A2 64 c2 V ∧ Below W.heap.size W w') := Lib.hid fun W A1 c1 g hr1 h1 h3 => HV.out ▸ ckWrite_any A1 n c1 ks x W (HT.out.below g h2) h1 h3 HX.out hr1 (by omega) HWF.out
  have CR : Hid (∀ W A1 n1 c1 (zs : List UInt8) (v : Ck) (e0 : Int), Below w.heap.size w W → Rd W W.heap.size A1 zs → n1 ≤ c1 → c1 ≤ maxLen → zs.length = n1 → ansC (rdC ks zs) = v → errC (rdC ks zs) = e0 → Calls Tryd.prog 14 #[.slice A n c, .slice A1 n1 c1] W fun e w' => e = .returned (.tuple #[.agg #[.int .i64 v.b, .int .u32 (v.ot : Int), .int .u32 (v.pt : Int), .int .u32 (v.os : Int), .int .u32 (v.ps : Int), .int .u32 (v.rw : Int), .int .u16 (v.ou : Int), .int .u16 (v.inn : Int)], .int .i64 e0]) ∧ Below W.heap.size W w') := Lib.hid fun W A1 n1 c1 zs v e0 g hr1 h1 h3 h4 h5 h6 => h5 ▸ h6 ▸ ckRead_any A A1 n c n1 c1 ks zs W (HT.out.below g h2) hn HC.out HX.out ((HR.out.below g).more g.size) (by omega) h1 h3 h4 hr1
  have HYY := Lib.hid hy
  have HMO := Lib.hid hmo
  clear hmay hy hmo
  go_enter Tryd.func5, Tryd.ntmps5
  rw [drawn_eq 3, whole_eq 6, whole_eq 7, whole_eq 8, whole_eq 12, whole_eq 16]
  go_wp2_with fail
  generalize w.alloc (.cells #[.int .i64 x.b, .int .u32 (x.ot : Int), .int .u32 (x.pt : Int), .int .u32 (x.os : Int), .int .u32 (x.ps : Int), .int .u32 (x.rw : Int), .int .u16 (x.ou : Int), .int .u16 (x.inn : Int)] 26) = w0 at K0 B0 ⊢
  have hb2 : ∀ W, Below w0.heap.size w0 W → Below w.heap.size w W := fun W h => below_then B0.out (Nat.le_refl _) h
  have HB2 := Lib.hid hb2
  have CT : Hid (∀ W, Below w0.heap.size w0 W → Calls Tryd.prog 10 #[.slice A n c] W fun e w' => ∃ A2 c2, e = .returned (.slice A2 n c2) ∧ Own8 w' 5 W.heap.size A2 n c2 ks ∧ Below W.heap.size W w') := Lib.hid fun W g => twin_any A n c ks W (by omega) HX.out ((HR.out.below (hb2 W g)).more (hb2 W g).size)
  clear hb2
  rw [← drawn_eq 3]
  refine wp_region_grow_tail 4 (by kernel_rfl) [(Is (.slice A n c)), (NewOwn 5 w0.heap.size n ks), (Is (.agg #[.int .i64 x.b, .int .u32 (x.ot : Int), .int .u32 (x.pt : Int), .int .u32 (x.os : Int), .int .u32 (x.ps : Int), .int .u32 (x.rw : Int), .int .u16 (x.ou : Int), .int .u16 (x.inn : Int)])), (NewOwn 5 w0.heap.size 64 V)] rfl ?_ (by kernel_rfl) (by kernel_rfl) ?_ ?_
  · intro p hp
    simp only [List.mem_cons, List.not_mem_nil, or_false] at hp
    rcases hp with rfl | rfl | rfl | rfl
    · exact Lasts.is _
    · exact Lasts.newOwn _ _ _ _
    · exact Lasts.is _
    · exact Lasts.newOwn _ _ _ _
  · refine ⟨?_, ?_, ?_, ?_, trivial⟩
    · intro listed a w1 hl hc
      have h0 : a.tmps[0]?.getD undef = .slice A n c := (hc.was 0 (by kernel_rfl)).trans rfl
      refine does_value rfl rfl (.slice A n c) w1 ?_ (Below.refl _ _) rfl
      clear hc hl
      go_simp
    · intro listed a w1 hl hc
      have h32 : a.tmps[32]?.getD undef = .slice A n c := hc.dep hl 0 32 rfl (by kernel_rfl)
      refine does_call rfl rfl 10 #[.slice A n c] ?_ ((CT.out w1 hc.g).mono fun e w' ⟨A9, c9, he, ho, hb⟩ => ⟨_, he, hb, A9, c9, rfl, ho.more hc.g.size⟩)
      clear hc hl
      go_simp
    · intro listed a w1 hl hc
      have h6 : a.tmps[6]?.getD undef = .pointer (some ⟨w.heap.size, 0, none⟩) := (hc.was 6 (by kernel_rfl)).trans rfl
      have kb := K0.out.below hc.g K0.out.lt
      have x0 : w1.cell? ⟨w.heap.size, 0, none⟩ = some (.int .i64 x.b) := kb.cell 0
      have x1 : w1.cell? ⟨w.heap.size, 1, none⟩ = some (.int .u32 (x.ot : Int)) := kb.cell 1
      have x2 : w1.cell? ⟨w.heap.size, 2, none⟩ = some (.int .u32 (x.pt : Int)) := kb.cell 2
      have x3 : w1.cell? ⟨w.heap.size, 3, none⟩ = some (.int .u32 (x.os : Int)) := kb.cell 3
      have x4 : w1.cell? ⟨w.heap.size, 4, none⟩ = some (.int .u32 (x.ps : Int)) := kb.cell 4
      have x5 : w1.cell? ⟨w.heap.size, 5, none⟩ = some (.int .u32 (x.rw : Int)) := kb.cell 5
      have x6 : w1.cell? ⟨w.heap.size, 6, none⟩ = some (.int .u16 (x.ou : Int)) := kb.cell 6
      have x7 : w1.cell? ⟨w.heap.size, 7, none⟩ = some (.int .u16 (x.inn : Int)) := kb.cell 7
      clear kb
      refine does_value rfl rfl (.agg #[.int .i64 x.b, .int .u32 (x.ot : Int), .int .u32 (x.pt : Int), .int .u32 (x.os : Int), .int .u32 (x.ps : Int), .int .u32 (x.rw : Int), .int .u16 (x.ou : Int), .int .u16 (x.inn : Int)]) w1 ?_ (Below.refl _ _) rfl
      clear hc hl
      go_simp
    · intro listed a w1 hl hc
      obtain ⟨A33, c33, h33, ho33⟩ := hc.dep hl 1 33 rfl (by kernel_rfl)
      have h34 : a.tmps[34]?.getD undef = .agg #[.int .i64 x.b, .int .u32 (x.ot : Int), .int .u32 (x.pt : Int), .int .u32 (x.os : Int), .int .u32 (x.ps : Int), .int .u32 (x.rw : Int), .int .u16 (x.ou : Int), .int .u16 (x.inn : Int)] := hc.dep hl 2 34 rfl (by kernel_rfl)
      refine does_call rfl rfl 12 #[.slice A33 n c33, .agg #[.int .i64 x.b, .int .u32 (x.ot : Int), .int .u32 (x.pt : Int), .int .u32 (x.os : Int), .int .u32 (x.ps : Int), .int .u32 (x.rw : Int), .int .u16 (x.ou : Int), .int .u16 (x.inn : Int)]] ?_ ((CW.out w1 A33 c33 (HB2.out w1 hc.g) ho33.rd ho33.cap.1 ho33.cap.2).mono fun e w' ⟨A9, c9, he, ho, hb⟩ => ⟨_, he, hb, A9, c9, rfl, ho.more hc.g.size⟩)
      clear hc hl
      go_simp
  intro w2 hb2
  rintro _ rfl _ ⟨A33, c33, rfl, ho33⟩ _ rfl _ ⟨A35, c35, rfl, ho35⟩
  simp only [Thus, List.reverse_cons, List.reverse_nil, List.nil_append, List.cons_append, List.drop, List.take, lay]
  go_frame
  clear CT
  have hcb := ho35.cap
  have B2 := Lib.hid (below_then B0.out (Nat.le_refl _) hb2)
  have K2 := Lib.hid (K0.out.below hb2 K0.out.lt)
  have O2 := Lib.hid (ho35.more B0.out.size)
  clear hb2 ho35 ho33 K0 B0 HB2 CW
  go_wp2_with fail
  rw [← whole_eq 6]
  go_wp2_with fail
  have CR0 : Hid (Calls Tryd.prog 14 #[.slice A n c, .slice A35 64 c35] w2 fun e w' => e = .returned (.tuple #[.agg #[.int .i64 x.b, .int .u32 (x.ot : Int), .int .u32 (x.pt : Int), .int .u32 (x.os : Int), .int .u32 (x.ps : Int), .int .u32 (x.rw : Int), .int .u16 (x.ou : Int), .int .u16 (x.inn : Int)], .int .i64 0]) ∧ Below w2.heap.size w2 w') := Lib.hid (CR.out w2 A35 64 c35 V x 0 B2.out O2.out.rd hcb.1 hcb.2 HVL.out (by rw [HV.out, rdC_wrC HWF.out, HM.out]; rfl) (by rw [HV.out, rdC_wrC HWF.out, HM.out]; rfl))
  refine CR0.out.mono ?_
  rintro e w3 ⟨rfl, hb3⟩
  clear CR0
  have B3 := Lib.hid (below_then B2.out (Nat.le_refl _) hb3)
  have K3 := Lib.hid (K2.out.below hb3 K2.out.lt)
  have O3 := Lib.hid (O2.out.below hb3 (Nat.le_refl _))
  clear hb3 B2 K2 O2
  have B4 := Lib.hid (B3.out.alloc B3.out.size (.cells #[.int .i64 x.b, .int .u32 (x.ot : Int), .int .u32 (x.pt : Int), .int .u32 (x.os : Int), .int .u32 (x.ps : Int), .int .u32 (x.rw : Int), .int .u16 (x.ou : Int), .int .u16 (x.inn : Int)] 26))
  have K4 := Lib.hid (K3.out.alloc (.cells #[.int .i64 x.b, .int .u32 (x.ot : Int), .int .u32 (x.pt : Int), .int .u32 (x.os : Int), .int .u32 (x.ps : Int), .int .u32 (x.rw : Int), .int .u16 (x.ou : Int), .int .u16 (x.inn : Int)] 26))
  have O4 := Lib.hid (O3.out.alloc (.cells #[.int .i64 x.b, .int .u32 (x.ot : Int), .int .u32 (x.pt : Int), .int .u32 (x.os : Int), .int .u32 (x.ps : Int), .int .u32 (x.rw : Int), .int .u16 (x.ou : Int), .int .u16 (x.inn : Int)] 26))
  have D4 : Hid (Blk (w3.alloc (.cells #[.int .i64 x.b, .int .u32 (x.ot : Int), .int .u32 (x.pt : Int), .int .u32 (x.os : Int), .int .u32 (x.ps : Int), .int .u32 (x.rw : Int), .int .u16 (x.ou : Int), .int .u16 (x.inn : Int)] 26)) w3.heap.size 26 #[.int .i64 x.b, .int .u32 (x.ot : Int), .int .u32 (x.pt : Int), .int .u32 (x.os : Int), .int .u32 (x.ps : Int), .int .u32 (x.rw : Int), .int .u16 (x.ou : Int), .int .u16 (x.inn : Int)]) := Lib.hid (Blk.new _ _ _)
  go_wp2_with fail
  generalize w3.alloc (.cells #[.int .i64 x.b, .int .u32 (x.ot : Int), .int .u32 (x.pt : Int), .int .u32 (x.os : Int), .int .u32 (x.ps : Int), .int .u32 (x.rw : Int), .int .u16 (x.ou : Int), .int .u16 (x.inn : Int)] 26) = w4 at B4 K4 O4 D4 ⊢
  generalize w3.heap.size = q4 at D4 ⊢
  clear B3 K3 O3
  rw [← whole_eq 7]
  go_cut [14] from 45 to 151 (fun s wx => s = .bool true ∧ wx = w4)
  case first =>
    have hp := HM.out
    simp only [Ck.may, Bool.and_eq_true, decide_eq_true_eq, Bool.not_eq_true', decide_eq_false_iff_not] at hp
    obtain ⟨⟨⟨⟨p0, p1⟩, p2⟩, p3⟩, p4⟩ := hp
    have t0 : decide (x.b ≥ 0) = true := by simp; omega
    have t1 : ((x.ot : Int) != 0) = true := by simp; omega
    have t2 : ((x.pt : Int) != 0) = true := by simp; omega
    have t3 : ((x.ou : Int) != 0) = true := by simp; omega
    have t4 : ((x.inn : Int) != 0) = true := by simp; omega
    clear p0 p1 p2 p3 p4
    have j0 : w4.cell? ⟨w.heap.size, 0, none⟩ = some (.int .i64 x.b) := K4.out.cell 0
    have j1 : w4.cell? ⟨w.heap.size, 1, none⟩ = some (.int .u32 (x.ot : Int)) := K4.out.cell 1
    have j2 : w4.cell? ⟨w.heap.size, 2, none⟩ = some (.int .u32 (x.pt : Int)) := K4.out.cell 2
    have j3 : w4.cell? ⟨w.heap.size, 3, none⟩ = some (.int .u32 (x.os : Int)) := K4.out.cell 3
    have j4 : w4.cell? ⟨w.heap.size, 4, none⟩ = some (.int .u32 (x.ps : Int)) := K4.out.cell 4
    have j5 : w4.cell? ⟨w.heap.size, 5, none⟩ = some (.int .u32 (x.rw : Int)) := K4.out.cell 5
    have j6 : w4.cell? ⟨w.heap.size, 6, none⟩ = some (.int .u16 (x.ou : Int)) := K4.out.cell 6
    have j7 : w4.cell? ⟨w.heap.size, 7, none⟩ = some (.int .u16 (x.inn : Int)) := K4.out.cell 7
    go_wp2_with fail
    go_meet
    case rel => exact ⟨rfl, rfl⟩
  obtain ⟨rfl, rfl⟩ := hcut
  have j0 : wc.cell? ⟨w.heap.size, 0, none⟩ = some (.int .i64 x.b) := K4.out.cell 0
  have j1 : wc.cell? ⟨w.heap.size, 1, none⟩ = some (.int .u32 (x.ot : Int)) := K4.out.cell 1
  have j2 : wc.cell? ⟨w.heap.size, 2, none⟩ = some (.int .u32 (x.pt : Int)) := K4.out.cell 2
  have j3 : wc.cell? ⟨w.heap.size, 3, none⟩ = some (.int .u32 (x.os : Int)) := K4.out.cell 3
  have j4 : wc.cell? ⟨w.heap.size, 4, none⟩ = some (.int .u32 (x.ps : Int)) := K4.out.cell 4
  have j5 : wc.cell? ⟨w.heap.size, 5, none⟩ = some (.int .u32 (x.rw : Int)) := K4.out.cell 5
  have j6 : wc.cell? ⟨w.heap.size, 6, none⟩ = some (.int .u16 (x.ou : Int)) := K4.out.cell 6
  have j7 : wc.cell? ⟨w.heap.size, 7, none⟩ = some (.int .u16 (x.inn : Int)) := K4.out.cell 7
  have d0 : wc.cell? ⟨q4, 0, none⟩ = some (.int .i64 x.b) := D4.out.cell 0
  have d1 : wc.cell? ⟨q4, 1, none⟩ = some (.int .u32 (x.ot : Int)) := D4.out.cell 1
  have d2 : wc.cell? ⟨q4, 2, none⟩ = some (.int .u32 (x.pt : Int)) := D4.out.cell 2
  have d3 : wc.cell? ⟨q4, 3, none⟩ = some (.int .u32 (x.os : Int)) := D4.out.cell 3
  have d4 : wc.cell? ⟨q4, 4, none⟩ = some (.int .u32 (x.ps : Int)) := D4.out.cell 4
  have d5 : wc.cell? ⟨q4, 5, none⟩ = some (.int .u32 (x.rw : Int)) := D4.out.cell 5
  have d6 : wc.cell? ⟨q4, 6, none⟩ = some (.int .u16 (x.ou : Int)) := D4.out.cell 6
  have d7 : wc.cell? ⟨q4, 7, none⟩ = some (.int .u16 (x.inn : Int)) := D4.out.cell 7
  go_wp2_with fail
  rw [← whole_eq 8]
  go_wp2_with fail
  clear j0 j1 j2 j3 j4 j5 j6 j7 d0 d1 d2 d3 d4 d5 d6 d7
  refine (twin_any A35 64 c35 V wc (by omega) HVL.out O4.out.rd).mono ?_
  rintro e w5 ⟨A5, c5, rfl, ho5, hb5⟩
  have B5 := Lib.hid (below_then B4.out (Nat.le_refl _) hb5)
  have O5 := Lib.hid (O4.out.below hb5 (Nat.le_refl _))
  obtain ⟨g5, zs, rfl, hg5, hrow5, hzl, hc5⟩ : ∃ g zs, A5 = some ⟨g, 0, none⟩ ∧ wc.heap.size ≤ g ∧ RowAt w5 5 g (V ++ zs) ∧ 64 + zs.length = c5 ∧ c5 ≤ maxLen := by
    rcases ho5.2 with ⟨_, h, _⟩ | h
    · exact absurd h (by decide)
    · exact h
  have R5 := Lib.hid hrow5
  have HB5 := Lib.hid hb5
  have HC5 := Lib.hid hc5
  have HZL := Lib.hid hzl
  have hlt35 : ∀ g, A35 = some ⟨g, 0, none⟩ → g ≠ g5 := fun g hg h => by have := (O4.out.lt g hg).2; omega
  have H35 := Lib.hid hlt35
  have hltW : w.heap.size ≤ g5 := Nat.le_trans B4.out.size hg5
  clear ho5 hb5 hrow5 hc5 hzl hlt35 K4 D4 O4 B4
  have hab := a.toNat_lt
  obtain ⟨k, hk⟩ : ∃ k : Nat, k = 32 + a.toNat % 32 := ⟨_, rfl⟩
  obtain ⟨r, hr2⟩ : ∃ r : Nat, r = a.toNat % 64 := ⟨_, rfl⟩
  have HK : Hid ((32 + (a.toNat : Int) % 32) = (k : Int)) := Lib.hid (by omega)
  have HRR : Hid (((a.toNat : Int) % 64) = (r : Int)) := Lib.hid (by omega)
  have hk1 : 32 ≤ k := by omega
  have hk2 : k < 64 := by omega
  have hr64 : r < 64 := by omega
  clear hk hr2
  go_wp2_with fail
  rw [HK.out]
  obtain ⟨v, hv⟩ : ∃ v, V[k]? = some v := ⟨_, List.getElem?_eq_getElem (by rw [HVL.out]; exact hk2)⟩
  obtain ⟨u, hu⟩ : ∃ u, u = v ^^^ y := ⟨_, rfl⟩
  have hxor : bits .xor .u8 (v.toNat : Int) (y.toNat : Int) = (u.toNat : Int) := by rw [hu]; exact bits_xor_u8 v y
  have hf : w5.cell? ⟨g5, k, none⟩ = some (.int .u8 (v.toNat : Int)) := by
    have h := R5.out.cell k (by rw [List.length_append, HVL.out]; omega)
    have e : (V ++ zs)[k]'(by rw [List.length_append, HVL.out]; omega) = v := by
      apply Option.some.inj
      rw [← List.getElem?_eq_getElem, List.getElem?_append_left (by rw [HVL.out]; exact hk2), hv]
    rw [e] at h
    exact h
  have hfz := R5.out.frozen k
  have R6 : Hid (RowAt (w5.setCell ⟨g5, k, none⟩ (.int .u8 (u.toNat : Int))) 5 g5 (V.set k u ++ zs)) := Lib.hid (by
    have h := R5.out.set_ k u
    rw [List.set_append_left _ _ (by rw [HVL.out]; exact hk2)] at h
    exact h)
  have B6 : Hid (Below w.heap.size w (w5.setCell ⟨g5, k, none⟩ (.int .u8 (u.toNat : Int)))) := Lib.hid (B5.out.setCell (p := ⟨g5, k, none⟩) hltW _)
  have O6 : Hid (Own8 (w5.setCell ⟨g5, k, none⟩ (.int .u8 (u.toNat : Int))) 5 w.heap.size A35 64 c35 V) := Lib.hid (O5.out.keep fun g hg => Below.heap_setCell _ _ _ g (H35.out g hg))
  have HVK := Lib.hid hv
  have HU := Lib.hid hu
  have hki : (k : Int) < 64 := by omega
  clear hv hu R5 B5 O5 H35
  rw [← whole_eq 12]
  go_wp2_with fail
  generalize w5.setCell ⟨g5, k, none⟩ (.int .u8 (u.toNat : Int)) = w6 at R6 B6 O6 ⊢
  clear hf hfz hxor hki
  obtain ⟨G1, hG1⟩ : ∃ G, G = ansC (rdC ks (V.set k u)) := ⟨_, rfl⟩
  obtain ⟨E1, hE1⟩ : ∃ E, E = errC (rdC ks (V.set k u)) := ⟨_, rfl⟩
  have hl1 : (V.set k u).length = 64 := by rw [List.length_set, HVL.out]
  have HE1 : Hid (E1 = 10) := Lib.hid (by
    have h := rdC_turn (key := ks) (c := x) hk1 hk2 u (by
      rw [← HV.out, HVK.out, HU.out]
      intro h
      injection h with h
      exact HYY.out (by
        have h3 : v ^^^ (v ^^^ y) = v ^^^ v := by rw [← h]
        rwa [← UInt8.xor_assoc, UInt8.xor_self, UInt8.zero_xor] at h3))
    rw [hE1, HV.out, h]
    rfl)
  have hyb : ((y.toNat : Int) != 0) = true := by
    rw [bne_iff_ne]
    intro h
    exact HYY.out (UInt8.toNat_inj.1 (by rw [UInt8.toNat_zero]; omega))
  have C1 : Hid (Calls Tryd.prog 14 #[.slice A n c, .slice (some ⟨g5, 0, none⟩) 64 c5] w6 fun e w' => e = .returned (.tuple #[.agg #[.int .i64 G1.b, .int .u32 (G1.ot : Int), .int .u32 (G1.pt : Int), .int .u32 (G1.os : Int), .int .u32 (G1.ps : Int), .int .u32 (G1.rw : Int), .int .u16 (G1.ou : Int), .int .u16 (G1.inn : Int)], .int .i64 E1]) ∧ Below w6.heap.size w6 w') := Lib.hid (CR.out w6 (some ⟨g5, 0, none⟩) 64 c5 (V.set k u) G1 E1 B6.out (R6.out.rd 0 _ (fun j hj => by rw [Nat.zero_add, List.getElem?_append_left hj])) (by have := HZL.out; omega) HC5.out hl1 hG1.symm hE1.symm)
  clear hG1 hE1 hl1
  refine C1.out.mono ?_
  rintro e w7 ⟨rfl, hb7⟩
  rw [HE1.out]
  have B7 := Lib.hid (below_then B6.out (Nat.le_refl _) hb7)
  have O7 := Lib.hid (O6.out.below hb7 (Nat.le_refl _))
  clear C1 hb7 B6 O6 R6
  have B8 := Lib.hid (B7.out.alloc B7.out.size (.cells #[.int .i64 G1.b, .int .u32 (G1.ot : Int), .int .u32 (G1.pt : Int), .int .u32 (G1.os : Int), .int .u32 (G1.ps : Int), .int .u32 (G1.rw : Int), .int .u16 (G1.ou : Int), .int .u16 (G1.inn : Int)] 26))
  have O8 := Lib.hid (O7.out.alloc (.cells #[.int .i64 G1.b, .int .u32 (G1.ot : Int), .int .u32 (G1.pt : Int), .int .u32 (G1.os : Int), .int .u32 (G1.ps : Int), .int .u32 (G1.rw : Int), .int .u16 (G1.ou : Int), .int .u16 (G1.inn : Int)] 26))
  clear B7 O7
  go_wp2_with fail
  generalize w7.alloc (.cells #[.int .i64 G1.b, .int .u32 (G1.ot : Int), .int .u32 (G1.pt : Int), .int .u32 (G1.os : Int), .int .u32 (G1.ps : Int), .int .u32 (G1.rw : Int), .int .u16 (G1.ou : Int), .int .u16 (G1.inn : Int)] 26) = w8 at B8 O8 ⊢
  generalize w7.heap.size = q7
  refine (twin_any A35 64 c35 V w8 (by omega) HVL.out O8.out.rd).mono ?_
  rintro e w9 ⟨A9, c9, rfl, ho9, hb9⟩
  have B9 := Lib.hid (below_then B8.out (Nat.le_refl _) hb9)
  have O9 := Lib.hid (O8.out.below hb9 (Nat.le_refl _))
  have N9 := ho9.more (Nat.le_refl _)
  have hb9s := hb9.size
  clear hb9 ho9
  have s9 : w.heap.size ≤ w9.heap.size := B9.out.size
  have B9s : w8.heap.size ≤ w9.heap.size := hb9s
  have r9 := HR'.out.below B9.out
  have HLT9 : Hid (∀ g, A35 = some ⟨g, 0, none⟩ → g < w8.heap.size) := Lib.hid fun g hg => (O8.out.lt g hg).2
  go_wp2_with (at_builtin; refine wpList_append8 h8 _ rfl _ _ rfl w8.heap.size _ _ _ _ rfl N9 _ _ _ _ _ rfl HY.out r9 (by omega) B9s ?_; intro A10 c10 w10 h10 hg10 ho10)
  have B10 := Lib.hid (B9.out.grown hg10 s9 (fun q hq => Nat.le_trans B8.out.size (N9.blk q hq)))
  have O10 : Hid (Own8 w10 5 w.heap.size A35 64 c35 V) := Lib.hid (O9.out.keep fun g hg => hg10.block g (Nat.lt_of_lt_of_le (HLT9.out g hg) B9s) (fun e => by have := N9.blk g e.symm; have := HLT9.out g hg; omega))
  obtain ⟨G2, hG2⟩ : ∃ G, G = ansC (rdC ks (V ++ ms)) := ⟨_, rfl⟩
  obtain ⟨E2, hE2⟩ : ∃ E, E = errC (rdC ks (V ++ ms)) := ⟨_, rfl⟩
  have hmn : 0 < n' := by have := HMO.out; omega
  have HE2 : Hid (E2 = 7) := Lib.hid (by
    rw [hE2, rdC_len (by rw [List.length_append, HVL.out, HY.out]; omega)]
    rfl)
  have hmb : decide ((n' : Int) > 0) = true := by simp; omega
  have C2 : Hid (Calls Tryd.prog 14 #[.slice A n c, .slice A10 (64 + n' : Nat) c10] w10 fun e w' => e = .returned (.tuple #[.agg #[.int .i64 G2.b, .int .u32 (G2.ot : Int), .int .u32 (G2.pt : Int), .int .u32 (G2.os : Int), .int .u32 (G2.ps : Int), .int .u32 (G2.rw : Int), .int .u16 (G2.ou : Int), .int .u16 (G2.inn : Int)], .int .i64 E2]) ∧ Below w10.heap.size w10 w') := Lib.hid (CR.out w10 A10 (64 + n') c10 (V ++ ms) G2 E2 B10.out h10.rd h10.cap.1 h10.cap.2 h10.len hG2.symm hE2.symm)
  clear hG2 hE2 h10 hg10 ho10 N9 r9 s9 B9s HLT9 B9 O9 B8 O8
  refine C2.out.mono ?_
  rintro e w11 ⟨rfl, hb11⟩
  rw [HE2.out]
  have B11 := Lib.hid (below_then B10.out (Nat.le_refl _) hb11)
  have O11 := Lib.hid (O10.out.below hb11 (Nat.le_refl _))
  clear C2 hb11 B10 O10
  have B12 := Lib.hid (B11.out.alloc B11.out.size (.cells #[.int .i64 G2.b, .int .u32 (G2.ot : Int), .int .u32 (G2.pt : Int), .int .u32 (G2.os : Int), .int .u32 (G2.ps : Int), .int .u32 (G2.rw : Int), .int .u16 (G2.ou : Int), .int .u16 (G2.inn : Int)] 26))
  have O12 := Lib.hid (O11.out.alloc (.cells #[.int .i64 G2.b, .int .u32 (G2.ot : Int), .int .u32 (G2.pt : Int), .int .u32 (G2.os : Int), .int .u32 (G2.ps : Int), .int .u32 (G2.rw : Int), .int .u16 (G2.ou : Int), .int .u16 (G2.inn : Int)] 26))
  clear B11 O11
  have hcl : r ≤ c35 := by have := hcb.1; omega
  have hri : (r : Int) ≤ (c35 : Int) := by omega
  go_wp2_with fail
  generalize w11.alloc (.cells #[.int .i64 G2.b, .int .u32 (G2.ot : Int), .int .u32 (G2.pt : Int), .int .u32 (G2.os : Int), .int .u32 (G2.ps : Int), .int .u32 (G2.rw : Int), .int .u16 (G2.ou : Int), .int .u16 (G2.inn : Int)] 26) = w12 at B12 O12 ⊢
  generalize w11.heap.size = q11
  refine (ckRead_len A A35 n c (a.toNat % 64) c35 w12 (by unfold maxLen; omega) (by omega)).mono ?_
  rintro e w13 ⟨rfl, hb13⟩
  have B13 := Lib.hid (below_then B12.out (Nat.le_refl _) hb13)
  clear hb13 B12 O12
  have B14 := Lib.hid (B13.out.alloc B13.out.size (.cells #[.int .i64 0, .int .u32 0, .int .u32 0, .int .u32 0, .int .u32 0, .int .u32 0, .int .u16 0, .int .u16 0] 26))
  clear B13
  go_wp2_with fail
  rw [← whole_eq 16]
  generalize w13.alloc (.cells #[.int .i64 0, .int .u32 0, .int .u32 0, .int .u32 0, .int .u32 0, .int .u32 0, .int .u16 0, .int .u16 0] 26) = w14 at B14 ⊢
  generalize w13.heap.size = q13
  go_wp2_with fail
  refine (ckWorks_any w14 (HT.out.below B14.out h2)).mono ?_
  rintro e w9 ⟨rfl, hb9⟩
  go_wp2_with fail
  go_ret
  exact ⟨rfl, below_then B14.out (Nat.le_refl _) hb9⟩

end Go.Proofs.YtnnkgdkjmmljiaaDoor
