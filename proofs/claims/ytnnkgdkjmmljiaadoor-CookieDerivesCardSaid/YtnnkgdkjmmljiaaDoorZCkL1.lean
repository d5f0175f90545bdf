/-
  Package cookie: CookieWrites, walked.
-/
import Derived.Test.YtnnkgdkjmmljiaaDoorQ24
import Derived.Test.YtnnkgdkjmmljiaaDoorQ25
import Derived.Test.YtnnkgdkjmmljiaaDoorQ19
namespace Go.Proofs.YtnnkgdkjmmljiaaDoor
open Go.RowKit
set_option linter.unusedVariables false

theorem sameL_yes (A A' : Option Addr) (n c c' : Nat) (xs : List UInt8) (w : World) (hx : xs.length = n) (B B' : Nat) (hr : Rd w B A xs) (hr' : Rd w B' A' xs) :
    Calls Tryd.prog 11 #[.slice A n c, .slice A' n c'] w fun e w' => e = .returned (.bool true) ∧ Below w.heap.size w w' :=
  (sameL_any A A' n n c c' xs xs w hx hx B B' hr hr').mono fun e w' ⟨a, b⟩ => ⟨by rw [a, decide_eq_true rfl], b ▸ Below.refl _ _⟩
set_option maxRecDepth 100000 in
set_option maxHeartbeats 4000000 in
theorem cookieWrites_walk (A : Option Addr) (n c : Nat) (xs : List UInt8) (x : Ck) (w : World) (hT : Tabs w) (hn : n ≤ c) (hc : c ≤ maxLen) (hx : xs.length = n) (hr : Rd w w.heap.size A xs) (hw : x.Wf) :
    Calls Tryd.prog 3 #[.slice A n c, .agg #[.int .i64 x.b, .int .u32 (x.ot : Int), .int .u32 (x.pt : Int), .int .u32 (x.os : Int), .int .u32 (x.ps : Int), .int .u32 (x.rw : Int), .int .u16 (x.ou : Int), .int .u16 (x.inn : Int)]] w fun e w' => e = .returned (.bool true) ∧ Below w.heap.size w w' := by
  have h2 := hT.2.2
  have HT := Lib.hid hT
  have HR := Lib.hid hr
  have HX := Lib.hid hx
  have HC := Lib.hid hc
  have HWF := Lib.hid hw
  have K0 := Lib.hid (Blk.new w 26 #[.int .i64 x.b, .int .u32 (x.ot : Int), .int .u32 (x.pt : Int), .int .u32 (x.os : Int), .int .u32 (x.ps : Int), .int .u32 (x.rw : Int), .int .u16 (x.ou : Int), .int .u16 (x.inn : Int)])
  have B0 := Lib.hid (below_new w (.cells #[.int .i64 x.b, .int .u32 (x.ot : Int), .int .u32 (x.pt : Int), .int .u32 (x.os : Int), .int .u32 (x.ps : Int), .int .u32 (x.rw : Int), .int .u16 (x.ou : Int), .int .u16 (x.inn : Int)] 26))
  clear hT hx hr hc hw
  by_cases hbig : 4096 < n
  · have hb : decide ((n : Int) > 4096) = true := by simp; omega
    go_enter Tryd.func3, Tryd.ntmps3
    go_wp2_with fail
    generalize w.alloc (.cells #[.int .i64 x.b, .int .u32 (x.ot : Int), .int .u32 (x.pt : Int), .int .u32 (x.os : Int), .int .u32 (x.ps : Int), .int .u32 (x.rw : Int), .int .u16 (x.ou : Int), .int .u16 (x.inn : Int)] 26) = w0 at K0 B0 ⊢
    refine (ckWorks_any w0 (HT.out.below B0.out h2)).mono ?_
    rintro e w1 ⟨rfl, hb1⟩
    go_wp2_with fail
    go_ret
    exact ⟨rfl, below_then B0.out (Nat.le_refl _) hb1⟩
  have hb : decide ((n : Int) > 4096) = false := by simp; omega
  go_enter Tryd.func3, Tryd.ntmps3
  rw [drawn_eq 4]
  go_wp2_with fail
  generalize w.alloc (.cells #[.int .i64 x.b, .int .u32 (x.ot : Int), .int .u32 (x.pt : Int), .int .u32 (x.os : Int), .int .u32 (x.ps : Int), .int .u32 (x.rw : Int), .int .u16 (x.ou : Int), .int .u16 (x.inn : Int)] 26) = w0 at K0 B0 ⊢
  refine (twin_any A n c xs w0 (by omega) HX.out ((HR.out.below B0.out).more B0.out.size)).mono ?_
  rintro e v ⟨A1, c1, rfl, ho1, hb1⟩
  have BV := Lib.hid (below_then B0.out (Nat.le_refl _) hb1)
  have KV := Lib.hid (K0.out.below hb1 K0.out.lt)
  have OV := Lib.hid ho1
  have hcap := ho1.cap
  clear hb1 ho1 K0 B0
  have hb2 : ∀ W, Below v.heap.size v W → Below w.heap.size w W := fun W h => below_then BV.out (Nat.le_refl _) h
  have C1 : Hid (∀ W, Below v.heap.size v W → Calls Tryd.prog 12 #[.slice A1 n c1, .agg #[.int .i64 x.b, .int .u32 (x.ot : Int), .int .u32 (x.pt : Int), .int .u32 (x.os : Int), .int .u32 (x.ps : Int), .int .u32 (x.rw : Int), .int .u16 (x.ou : Int), .int .u16 (x.inn : Int)]] W fun e w' => ∃ A2 c2, e = .returned (.slice A2 64 c2) ∧ Own8 w' 5 W.heap.size A2 64 c2 (wrC xs x) ∧ Below W.heap.size W w') := Lib.hid fun W g => ckWrite_any A1 n c1 xs x W (HT.out.below (hb2 W g) h2) hcap.1 hcap.2 HX.out (OV.out.below g (Nat.le_refl _)).rd (by omega) HWF.out
  have C2 : Hid (∀ W, Below v.heap.size v W → Calls Tryd.prog 13 #[.slice A n c, .agg #[.int .i64 x.b, .int .u32 (x.ot : Int), .int .u32 (x.pt : Int), .int .u32 (x.os : Int), .int .u32 (x.ps : Int), .int .u32 (x.rw : Int), .int .u16 (x.ou : Int), .int .u16 (x.inn : Int)]] W fun e w' => ∃ A2 c2, e = .returned (.slice A2 64 c2) ∧ Own8 w' 5 W.heap.size A2 64 c2 (wrC xs x) ∧ Below W.heap.size W w') := Lib.hid fun W g => refCkWrite_any A n c xs x W (by omega) HX.out ((HR.out.below (hb2 W g)).more (hb2 W g).size) HWF.out
  have C3 : Hid (∀ W, Below v.heap.size v W → Calls Tryd.prog 11 #[.slice A1 n c1, .slice A n c] W fun e w' => e = .returned (.bool true) ∧ Below W.heap.size W w') := Lib.hid fun W g => sameL_yes A1 A n c1 c xs W HX.out _ _ (OV.out.below g (Nat.le_refl _)).rd (HR.out.below (hb2 W g))
  have C4 : Hid (∀ W, Below v.heap.size v W → Calls Tryd.prog 9 #[] W fun e w' => e = .returned (.bool true) ∧ Below W.heap.size W w') := Lib.hid fun W g => ckWorks_any W (HT.out.below (hb2 W g) h2)
  clear hb2 hcap hb
  go_wp2_with fail
  rw [← drawn_eq 4]
  refine wp_region_grow_tail 15 (by kernel_rfl) [(Is (.slice A1 n c1)), (Is (.agg #[.int .i64 x.b, .int .u32 (x.ot : Int), .int .u32 (x.pt : Int), .int .u32 (x.os : Int), .int .u32 (x.ps : Int), .int .u32 (x.rw : Int), .int .u16 (x.ou : Int), .int .u16 (x.inn : Int)])), (NewOwn 5 v.heap.size 64 (wrC xs x)), (Is (.slice A n c)), (Is (.agg #[.int .i64 x.b, .int .u32 (x.ot : Int), .int .u32 (x.pt : Int), .int .u32 (x.os : Int), .int .u32 (x.ps : Int), .int .u32 (x.rw : Int), .int .u16 (x.ou : Int), .int .u16 (x.inn : Int)])), (NewOwn 5 v.heap.size 64 (wrC xs x)), (Is (.bool true)), (Is (.bool true)), (Is (.slice A1 n c1)), (Is (.slice A n c)), (Is (.bool true)), (Is (.bool true)), (Is (.bool true)), (Is (.bool true)), (Is (.bool true))] rfl ?_ (by kernel_rfl) (by kernel_rfl) ?_ ?_
  · intro p hp
    simp only [List.mem_cons, List.not_mem_nil, or_false] at hp
    rcases hp with rfl | rfl | rfl | rfl | rfl | rfl | rfl | rfl | rfl | rfl | rfl | rfl | rfl | rfl | rfl
    · exact Lasts.is _
    · exact Lasts.is _
    · exact Lasts.newOwn _ _ _ _
    · exact Lasts.is _
    · exact Lasts.is _
    · exact Lasts.newOwn _ _ _ _
    · exact Lasts.is _
    · exact Lasts.is _
    · exact Lasts.is _
    · exact Lasts.is _
    · exact Lasts.is _
    · exact Lasts.is _
    · exact Lasts.is _
    · exact Lasts.is _
    · exact Lasts.is _
  · refine ⟨?_, ?_, ?_, ?_, ?_, ?_, ?_, ?_, ?_, ?_, ?_, ?_, ?_, ?_, ?_, trivial⟩
    · intro listed a w1 hl hc
      have h5 : a.tmps[5]?.getD undef = .slice A1 n c1 := (hc.was 5 (by kernel_rfl)).trans rfl
      refine does_value rfl rfl (.slice A1 n c1) w1 ?_ (Below.refl _ _) rfl
      clear hc hl
      go_simp
    · intro listed a w1 hl hc
      have h3 : a.tmps[3]?.getD undef = .pointer (some ⟨w.heap.size, 0, none⟩) := (hc.was 3 (by kernel_rfl)).trans rfl
      have kb := KV.out.below hc.g KV.out.lt
      have x0 : w1.cell? ⟨w.heap.size, 0, none⟩ = some (.int .i64 x.b) := kb.cell 0
      have x1 : w1.cell? ⟨w.heap.size, 1, none⟩ = some (.int .u32 (x.ot : Int)) := kb.cell 1
      have x2 : w1.cell? ⟨w.heap.size, 2, none⟩ = some (.int .u32 (x.pt : Int)) := kb.cell 2
      have x3 : w1.cell? ⟨w.heap.size, 3, none⟩ = some (.int .u32 (x.os : Int)) := kb.cell 3
      have x4 : w1.cell? ⟨w.heap.size, 4, none⟩ = some (.int .u32 (x.ps : Int)) := kb.cell 4
      have x5 : w1.cell? ⟨w.heap.size, 5, none⟩ = some (.int .u32 (x.rw : Int)) := kb.cell 5
      have x6 : w1.cell? ⟨w.heap.size, 6, none⟩ = some (.int .u16 (x.ou : Int)) := kb.cell 6
      have x7 : w1.cell? ⟨w.heap.size, 7, none⟩ = some (.int .u16 (x.inn : Int)) := kb.cell 7
      clear kb
      refine does_value rfl rfl (.agg #[.int .i64 x.b, .int .u32 (x.ot : Int), .int .u32 (x.pt : Int), .int .u32 (x.os : Int), .int .u32 (x.ps : Int), .int .u32 (x.rw : Int), .int .u16 (x.ou : Int), .int .u16 (x.inn : Int)]) w1 ?_ (Below.refl _ _) rfl
      clear hc hl
      go_simp
    · intro listed a w1 hl hc
      have h12 : a.tmps[12]?.getD undef = .slice A1 n c1 := hc.dep hl 0 12 rfl (by kernel_rfl)
      have h13 : a.tmps[13]?.getD undef = .agg #[.int .i64 x.b, .int .u32 (x.ot : Int), .int .u32 (x.pt : Int), .int .u32 (x.os : Int), .int .u32 (x.ps : Int), .int .u32 (x.rw : Int), .int .u16 (x.ou : Int), .int .u16 (x.inn : Int)] := hc.dep hl 1 13 rfl (by kernel_rfl)
      refine does_call rfl rfl 12 #[.slice A1 n c1, .agg #[.int .i64 x.b, .int .u32 (x.ot : Int), .int .u32 (x.pt : Int), .int .u32 (x.os : Int), .int .u32 (x.ps : Int), .int .u32 (x.rw : Int), .int .u16 (x.ou : Int), .int .u16 (x.inn : Int)]] ?_ ((C1.out w1 hc.g).mono fun e w' ⟨A9, c9, he, ho, hb⟩ => ⟨_, he, hb, A9, c9, rfl, ho.more hc.g.size⟩)
      clear hc hl
      go_simp
    · intro listed a w1 hl hc
      have h0 : a.tmps[0]?.getD undef = .slice A n c := (hc.was 0 (by kernel_rfl)).trans rfl
      refine does_value rfl rfl (.slice A n c) w1 ?_ (Below.refl _ _) rfl
      clear hc hl
      go_simp
    · intro listed a w1 hl hc
      have h3 : a.tmps[3]?.getD undef = .pointer (some ⟨w.heap.size, 0, none⟩) := (hc.was 3 (by kernel_rfl)).trans rfl
      have kb := KV.out.below hc.g KV.out.lt
      have x0 : w1.cell? ⟨w.heap.size, 0, none⟩ = some (.int .i64 x.b) := kb.cell 0
      have x1 : w1.cell? ⟨w.heap.size, 1, none⟩ = some (.int .u32 (x.ot : Int)) := kb.cell 1
      have x2 : w1.cell? ⟨w.heap.size, 2, none⟩ = some (.int .u32 (x.pt : Int)) := kb.cell 2
      have x3 : w1.cell? ⟨w.heap.size, 3, none⟩ = some (.int .u32 (x.os : Int)) := kb.cell 3
      have x4 : w1.cell? ⟨w.heap.size, 4, none⟩ = some (.int .u32 (x.ps : Int)) := kb.cell 4
      have x5 : w1.cell? ⟨w.heap.size, 5, none⟩ = some (.int .u32 (x.rw : Int)) := kb.cell 5
      have x6 : w1.cell? ⟨w.heap.size, 6, none⟩ = some (.int .u16 (x.ou : Int)) := kb.cell 6
      have x7 : w1.cell? ⟨w.heap.size, 7, none⟩ = some (.int .u16 (x.inn : Int)) := kb.cell 7
      clear kb
      refine does_value rfl rfl (.agg #[.int .i64 x.b, .int .u32 (x.ot : Int), .int .u32 (x.pt : Int), .int .u32 (x.os : Int), .int .u32 (x.ps : Int), .int .u32 (x.rw : Int), .int .u16 (x.ou : Int), .int .u16 (x.inn : Int)]) w1 ?_ (Below.refl _ _) rfl
      clear hc hl
      go_simp
    · intro listed a w1 hl hc
      have h15 : a.tmps[15]?.getD undef = .slice A n c := hc.dep hl 3 15 rfl (by kernel_rfl)
      have h16 : a.tmps[16]?.getD undef = .agg #[.int .i64 x.b, .int .u32 (x.ot : Int), .int .u32 (x.pt : Int), .int .u32 (x.os : Int), .int .u32 (x.ps : Int), .int .u32 (x.rw : Int), .int .u16 (x.ou : Int), .int .u16 (x.inn : Int)] := hc.dep hl 4 16 rfl (by kernel_rfl)
      refine does_call rfl rfl 13 #[.slice A n c, .agg #[.int .i64 x.b, .int .u32 (x.ot : Int), .int .u32 (x.pt : Int), .int .u32 (x.os : Int), .int .u32 (x.ps : Int), .int .u32 (x.rw : Int), .int .u16 (x.ou : Int), .int .u16 (x.inn : Int)]] ?_ ((C2.out w1 hc.g).mono fun e w' ⟨A9, c9, he, ho, hb⟩ => ⟨_, he, hb, A9, c9, rfl, ho.more hc.g.size⟩)
      clear hc hl
      go_simp
    · intro listed a w1 hl hc
      obtain ⟨A14, c14, h14, ho14⟩ := hc.dep hl 2 14 rfl (by kernel_rfl)
      obtain ⟨A17, c17, h17, ho17⟩ := hc.dep hl 5 17 rfl (by kernel_rfl)
      refine does_call rfl rfl 11 #[.slice A14 64 c14, .slice A17 64 c17] ?_ ((sameL_yes A14 A17 64 c14 c17 _ w1 ho14.len _ _ ho14.rd ho17.rd).mono fun e w' ⟨he, hb⟩ => ⟨_, he, hb, rfl⟩)
      clear hc hl
      go_simp
    · intro listed a w1 hl hc
      have h18 : a.tmps[18]?.getD undef = .bool true := hc.dep hl 6 18 rfl (by kernel_rfl)
      refine does_value rfl rfl (.bool true) w1 ?_ (Below.refl _ _) rfl
      clear hc hl
      go_simp
    · intro listed a w1 hl hc
      have h5 : a.tmps[5]?.getD undef = .slice A1 n c1 := (hc.was 5 (by kernel_rfl)).trans rfl
      refine does_value rfl (wanted_at rfl rfl (hc.dep hl 7 19 rfl (by kernel_rfl))) (.slice A1 n c1) w1 ?_ (Below.refl _ _) rfl
      clear hc hl
      go_simp
    · intro listed a w1 hl hc
      have h0 : a.tmps[0]?.getD undef = .slice A n c := (hc.was 0 (by kernel_rfl)).trans rfl
      refine does_value rfl (wanted_at rfl rfl (hc.dep hl 7 19 rfl (by kernel_rfl))) (.slice A n c) w1 ?_ (Below.refl _ _) rfl
      clear hc hl
      go_simp
    · intro listed a w1 hl hc
      have h20 : a.tmps[20]?.getD undef = .slice A1 n c1 := hc.dep hl 8 20 rfl (by kernel_rfl)
      have h21 : a.tmps[21]?.getD undef = .slice A n c := hc.dep hl 9 21 rfl (by kernel_rfl)
      refine does_call rfl (wanted_at rfl rfl (hc.dep hl 7 19 rfl (by kernel_rfl))) 11 #[.slice A1 n c1, .slice A n c] ?_ ((C3.out w1 hc.g).mono fun e w' ⟨he, hb⟩ => ⟨_, he, hb, rfl⟩)
      clear hc hl
      go_simp
    · intro listed a w1 hl hc
      have h19 : a.tmps[19]?.getD undef = .bool true := hc.dep hl 7 19 rfl (by kernel_rfl)
      have h22 : a.tmps[22]?.getD undef = .bool true := hc.dep hl 10 22 rfl (by kernel_rfl)
      refine does_value rfl rfl (.bool true) w1 ?_ (Below.refl _ _) rfl
      clear hc hl
      go_simp
    · intro listed a w1 hl hc
      have h23 : a.tmps[23]?.getD undef = .bool true := hc.dep hl 11 23 rfl (by kernel_rfl)
      refine does_value rfl rfl (.bool true) w1 ?_ (Below.refl _ _) rfl
      clear hc hl
      go_simp
    · intro listed a w1 hl hc
      refine does_call rfl (wanted_at rfl rfl (hc.dep hl 12 24 rfl (by kernel_rfl))) 9 #[] ?_ ((C4.out w1 hc.g).mono fun e w' ⟨he, hb⟩ => ⟨_, he, hb, rfl⟩)
      clear hc hl
      go_simp
    · intro listed a w1 hl hc
      have h24 : a.tmps[24]?.getD undef = .bool true := hc.dep hl 12 24 rfl (by kernel_rfl)
      have h25 : a.tmps[25]?.getD undef = .bool true := hc.dep hl 13 25 rfl (by kernel_rfl)
      refine does_value rfl rfl (.bool true) w1 ?_ (Below.refl _ _) rfl
      clear hc hl
      go_simp
  intro w2 hb2
  rintro _ rfl _ rfl _ ⟨A14, c14, rfl, ho14⟩ _ rfl _ rfl _ ⟨A17, c17, rfl, ho17⟩ _ rfl _ rfl _ rfl _ rfl _ rfl _ rfl _ rfl _ rfl _ rfl
  simp only [Thus, List.reverse_cons, List.reverse_nil, List.nil_append, List.cons_append, List.drop, List.take, lay]
  go_frame
  go_wp2_with fail
  go_ret
  exact ⟨rfl, below_then BV.out (Nat.le_refl _) hb2⟩

end Go.Proofs.YtnnkgdkjmmljiaaDoor
