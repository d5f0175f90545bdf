/-
  Package bodies: checked, of each kind.
-/
import Derived.Test.YtalgkokgaibloaaBodU
import Derived.Test.YtalgkokgaibloaaBodG
namespace Go.Proofs.Ytalgkokgaibloaa
open Go.RowKit
set_option linter.unusedVariables false

set_option maxRecDepth 100000 in
set_option maxHeartbeats 4000000 in
theorem checkedD_off (k f : UInt8) (A : Option Addr) (n c : Nat) (tsn stream ssn : Int) (un fi la : Bool) (Ax : Option Addr) (nx cx : Nat) (w : World) :
    Calls Try.prog 55 #[.agg #[.int .u8 (k.toNat : Int), .int .u8 (f.toNat : Int), .slice A n c], .agg #[.int .u32 tsn, .int .u16 stream, .int .u16 ssn, .bool un, .bool fi, .bool la, .slice Ax nx cx], .bool false, .func (.func 15) #[] #[]] w fun e w' => e = .returned (.tuple #[.agg #[.int .u32 0, .int .u16 0, .int .u16 0, .bool false, .bool false, .bool false, .slice none 0 0], .int .i64 7]) ∧ Below w.heap.size w w' := by
  have hz := zero_data
  have b0 : Blk (w.alloc (.cells #[.int .u8 (k.toNat : Int), .int .u8 (f.toNat : Int), .slice A n c] 28)) w.heap.size 28 #[.int .u8 (k.toNat : Int), .int .u8 (f.toNat : Int), .slice A n c] := Blk.new w 28 #[.int .u8 (k.toNat : Int), .int .u8 (f.toNat : Int), .slice A n c]
  have b1 : Blk ((w.alloc (.cells #[.int .u8 (k.toNat : Int), .int .u8 (f.toNat : Int), .slice A n c] 28)).alloc (.cells #[.int .u32 tsn, .int .u16 stream, .int .u16 ssn, .bool un, .bool fi, .bool la, .slice Ax nx cx] 26)) (w.heap.size + 1) 26 #[.int .u32 tsn, .int .u16 stream, .int .u16 ssn, .bool un, .bool fi, .bool la, .slice Ax nx cx] := by simpa using Blk.new (w.alloc (.cells #[.int .u8 (k.toNat : Int), .int .u8 (f.toNat : Int), .slice A n c] 28)) 26 #[.int .u32 tsn, .int .u16 stream, .int .u16 ssn, .bool un, .bool fi, .bool la, .slice Ax nx cx]
  have b2 : Blk (((w.alloc (.cells #[.int .u8 (k.toNat : Int), .int .u8 (f.toNat : Int), .slice A n c] 28)).alloc (.cells #[.int .u32 tsn, .int .u16 stream, .int .u16 ssn, .bool un, .bool fi, .bool la, .slice Ax nx cx] 26)).alloc (.cells #[.int .u32 0, .int .u16 0, .int .u16 0, .bool false, .bool false, .bool false, .slice none 0 0] 26)) (w.heap.size + 1 + 1) 26 #[.int .u32 0, .int .u16 0, .int .u16 0, .bool false, .bool false, .bool false, .slice none 0 0] := by simpa using Blk.new ((w.alloc (.cells #[.int .u8 (k.toNat : Int), .int .u8 (f.toNat : Int), .slice A n c] 28)).alloc (.cells #[.int .u32 tsn, .int .u16 stream, .int .u16 ssn, .bool un, .bool fi, .bool la, .slice Ax nx cx] 26)) 26 #[.int .u32 0, .int .u16 0, .int .u16 0, .bool false, .bool false, .bool false, .slice none 0 0]
  have K0 := Lib.hid ((b0.alloc (.cells #[.int .u32 tsn, .int .u16 stream, .int .u16 ssn, .bool un, .bool fi, .bool la, .slice Ax nx cx] 26)).alloc (.cells #[.int .u32 0, .int .u16 0, .int .u16 0, .bool false, .bool false, .bool false, .slice none 0 0] 26))
  have K1 := Lib.hid (b1.alloc (.cells #[.int .u32 0, .int .u16 0, .int .u16 0, .bool false, .bool false, .bool false, .slice none 0 0] 26))
  have K2 := Lib.hid b2
  have B0 : Hid (Below w.heap.size w (((w.alloc (.cells #[.int .u8 (k.toNat : Int), .int .u8 (f.toNat : Int), .slice A n c] 28)).alloc (.cells #[.int .u32 tsn, .int .u16 stream, .int .u16 ssn, .bool un, .bool fi, .bool la, .slice Ax nx cx] 26)).alloc (.cells #[.int .u32 0, .int .u16 0, .int .u16 0, .bool false, .bool false, .bool false, .slice none 0 0] 26))) := Lib.hid (Wr.below_ ((((Wr.refl 5 w.heap.size w).alloc (.cells #[.int .u8 (k.toNat : Int), .int .u8 (f.toNat : Int), .slice A n c] 28)).alloc (.cells #[.int .u32 tsn, .int .u16 stream, .int .u16 ssn, .bool un, .bool fi, .bool la, .slice Ax nx cx] 26)).alloc (.cells #[.int .u32 0, .int .u16 0, .int .u16 0, .bool false, .bool false, .bool false, .slice none 0 0] 26)) (Nat.le_refl _))
  clear b0 b1 b2
  go_enter Try.func55, Try.ntmps55
  rw [drawn_eq 1]
  go_wp2_with fail
  generalize (((w.alloc (.cells #[.int .u8 (k.toNat : Int), .int .u8 (f.toNat : Int), .slice A n c] 28)).alloc (.cells #[.int .u32 tsn, .int .u16 stream, .int .u16 ssn, .bool un, .bool fi, .bool la, .slice Ax nx cx] 26)).alloc (.cells #[.int .u32 0, .int .u16 0, .int .u16 0, .bool false, .bool false, .bool false, .slice none 0 0] 26)) = v0 at K0 K1 K2 B0 ⊢
  rw [← drawn_eq 1]
  refine wp_region_grow_tail 9 (by kernel_rfl) [(Is (.bool false)), (Is (.bool true)), (Is (.bool true)), (Is undef), (Is undef), (Is undef), (Is undef), (Is undef), (Is undef)] rfl ?_ (by kernel_rfl) (by kernel_rfl) ?_ ?_
  · intro p hp
    simp only [List.mem_cons, List.not_mem_nil, or_false] at hp
    rcases hp with rfl | rfl | rfl | rfl | rfl | rfl | rfl | rfl | rfl
    · exact Lasts.is _
    · exact Lasts.is _
    · exact Lasts.is _
    · exact Lasts.is _
    · exact Lasts.is _
    · exact Lasts.is _
    · exact Lasts.is _
    · exact Lasts.is _
    · exact Lasts.is _
  · refine ⟨?_, ?_, ?_, ?_, ?_, ?_, ?_, ?_, ?_, trivial⟩
    · intro listed a w1 hl hc
      have h2 : a.tmps[2]?.getD undef = .bool false := (hc.was 2 (by kernel_rfl)).trans rfl
      refine does_value rfl rfl (.bool false) w1 ?_ (Below.refl _ _) rfl
      clear hc hl
      go_simp
    · intro listed a w1 hl hc
      have h11 : a.tmps[11]?.getD undef = .bool false := hc.dep hl 0 11 rfl (by kernel_rfl)
      refine does_value rfl rfl (.bool true) w1 ?_ (Below.refl _ _) rfl
      clear hc hl
      go_simp
    · intro listed a w1 hl hc
      have h12 : a.tmps[12]?.getD undef = .bool true := hc.dep hl 1 12 rfl (by kernel_rfl)
      refine does_value rfl rfl (.bool true) w1 ?_ (Below.refl _ _) rfl
      clear hc hl
      go_simp
    · intro listed a w1 hl hc
      exact does_skip (fun _ => (Below.refl _ _)) rfl (unwanted_at rfl rfl (hc.dep hl 2 13 rfl (by kernel_rfl))) rfl
    · intro listed a w1 hl hc
      exact does_skip (fun _ => (Below.refl _ _)) rfl (unwanted_at rfl rfl (hc.dep hl 2 13 rfl (by kernel_rfl))) rfl
    · intro listed a w1 hl hc
      exact does_skip (fun _ => (Below.refl _ _)) rfl (unwanted_at rfl rfl (hc.dep hl 2 13 rfl (by kernel_rfl))) rfl
    · intro listed a w1 hl hc
      exact does_skip (fun _ => (Below.refl _ _)) rfl (unwanted_at rfl rfl (hc.dep hl 2 13 rfl (by kernel_rfl))) rfl
    · intro listed a w1 hl hc
      exact does_skip (fun _ => (Below.refl _ _)) rfl (unwanted_at rfl rfl (hc.dep hl 2 13 rfl (by kernel_rfl))) rfl
    · intro listed a w1 hl hc
      exact does_skip (fun _ => (Below.refl _ _)) rfl (unwanted_at rfl rfl (hc.dep hl 2 13 rfl (by kernel_rfl))) rfl
  intro w2 hb2
  rintro _ rfl _ rfl _ rfl _ rfl _ rfl _ rfl _ rfl _ rfl _ rfl
  simp only [Thus, List.reverse_cons, List.reverse_nil, List.nil_append, List.cons_append, List.drop, List.take, lay]
  go_frame
  have B2 := Lib.hid (below_then B0.out (Nat.le_refl _) hb2)
  have K1b := Lib.hid (K1.out.below hb2 K1.out.lt)
  have K2b := Lib.hid (K2.out.below hb2 K2.out.lt)
  clear hb2
  have y0 : w2.cell? ⟨w.heap.size + 1 + 1, 0, none⟩ = some (.int .u32 0) := K2b.out.cell 0
  have q0 : w2.frozen? ⟨w.heap.size + 1 + 1, 0, none⟩ = false := K2b.out.frozen 0
  have y1 : w2.cell? ⟨w.heap.size + 1 + 1, 1, none⟩ = some (.int .u16 0) := K2b.out.cell 1
  have q1 : w2.frozen? ⟨w.heap.size + 1 + 1, 1, none⟩ = false := K2b.out.frozen 1
  have y2 : w2.cell? ⟨w.heap.size + 1 + 1, 2, none⟩ = some (.int .u16 0) := K2b.out.cell 2
  have q2 : w2.frozen? ⟨w.heap.size + 1 + 1, 2, none⟩ = false := K2b.out.frozen 2
  have y3 : w2.cell? ⟨w.heap.size + 1 + 1, 3, none⟩ = some (.bool false) := K2b.out.cell 3
  have q3 : w2.frozen? ⟨w.heap.size + 1 + 1, 3, none⟩ = false := K2b.out.frozen 3
  have y4 : w2.cell? ⟨w.heap.size + 1 + 1, 4, none⟩ = some (.bool false) := K2b.out.cell 4
  have q4 : w2.frozen? ⟨w.heap.size + 1 + 1, 4, none⟩ = false := K2b.out.frozen 4
  have y5 : w2.cell? ⟨w.heap.size + 1 + 1, 5, none⟩ = some (.bool false) := K2b.out.cell 5
  have q5 : w2.frozen? ⟨w.heap.size + 1 + 1, 5, none⟩ = false := K2b.out.frozen 5
  have y6 : w2.cell? ⟨w.heap.size + 1 + 1, 6, none⟩ = some (.slice none 0 0) := K2b.out.cell 6
  have q6 : w2.frozen? ⟨w.heap.size + 1 + 1, 6, none⟩ = false := K2b.out.frozen 6
  have hlt2 : w.heap.size + 1 + 1 < w2.heap.size := K2b.out.lt
  go_wp2_with fail
  have H3 := ((((((((K2b.out.set_ 0 (.int .u32 0)).set_ 1 (.int .u16 0)).set_ 2 (.int .u16 0)).set_ 3 (.bool false)).set_ 4 (.bool false)).set_ 5 (.bool false)).set_ 6 (.slice none 0 0)).alloc (.cells #[.int .u32 0, .int .u16 0, .int .u16 0, .bool false, .bool false, .bool false, .slice none 0 0] 26))
  exact bodyPost_ret (v := .tuple #[.agg #[.int .u32 0, .int .u16 0, .int .u16 0, .bool false, .bool false, .bool false, .slice none 0 0], .int .i64 7]) (by simp [results, Try.results55, go_sem, H3.cell]) rfl ⟨rfl, ((((((((B2.out.setCell (p := ⟨w.heap.size + 1 + 1, 0, none⟩) (show w.heap.size ≤ w.heap.size + 1 + 1 by omega) (.int .u32 0)).setCell (p := ⟨w.heap.size + 1 + 1, 1, none⟩) (show w.heap.size ≤ w.heap.size + 1 + 1 by omega) (.int .u16 0)).setCell (p := ⟨w.heap.size + 1 + 1, 2, none⟩) (show w.heap.size ≤ w.heap.size + 1 + 1 by omega) (.int .u16 0)).setCell (p := ⟨w.heap.size + 1 + 1, 3, none⟩) (show w.heap.size ≤ w.heap.size + 1 + 1 by omega) (.bool false)).setCell (p := ⟨w.heap.size + 1 + 1, 4, none⟩) (show w.heap.size ≤ w.heap.size + 1 + 1 by omega) (.bool false)).setCell (p := ⟨w.heap.size + 1 + 1, 5, none⟩) (show w.heap.size ≤ w.heap.size + 1 + 1 by omega) (.bool false)).setCell (p := ⟨w.heap.size + 1 + 1, 6, none⟩) (show w.heap.size ≤ w.heap.size + 1 + 1 by omega) (.slice none 0 0)).alloc (by have := B2.out.size; simpa using this) (.cells #[.int .u32 0, .int .u16 0, .int .u16 0, .bool false, .bool false, .bool false, .slice none 0 0] 26))⟩
set_option maxRecDepth 100000 in
set_option maxHeartbeats 4000000 in
theorem checkedD_yes (k f : UInt8) (A : Option Addr) (n c : Nat) (tsn stream ssn : Int) (un fi la : Bool) (Ax : Option Addr) (nx cx : Nat) (xs ys : List UInt8) (pk pf : UInt8) (w : World) (hx : xs.length = n) (hr : Rd w w.heap.size A xs) (hres : decide (k = pk ∧ f = pf ∧ xs = ys) = true) (hput : ∀ W, Below w.heap.size w W → Puts 15 #[.agg #[.int .u32 tsn, .int .u16 stream, .int .u16 ssn, .bool un, .bool fi, .bool la, .slice Ax nx cx]] pk pf ys W) :
    Calls Try.prog 55 #[.agg #[.int .u8 (k.toNat : Int), .int .u8 (f.toNat : Int), .slice A n c], .agg #[.int .u32 tsn, .int .u16 stream, .int .u16 ssn, .bool un, .bool fi, .bool la, .slice Ax nx cx], .bool true, .func (.func 15) #[] #[]] w fun e w' => e = .returned (.tuple #[.agg #[.int .u32 tsn, .int .u16 stream, .int .u16 ssn, .bool un, .bool fi, .bool la, .slice Ax nx cx], .int .i64 0]) ∧ Below w.heap.size w w' := by
  have hz := zero_data
  have HPUT := Lib.hid hput
  have HSM : Hid (∀ (W : World) (A' : Option Addr) (c' : Nat), Below w.heap.size w W → Own8 W 5 w.heap.size A' ys.length c' ys → Calls Try.prog 79 #[.agg #[.int .u8 (k.toNat : Int), .int .u8 (f.toNat : Int), .slice A n c], .agg #[.int .u8 (pk.toNat : Int), .int .u8 (pf.toNat : Int), .slice A' ys.length c']] W fun e w' => e = .returned (.bool true) ∧ Below W.heap.size W w') := Lib.hid fun W A' c' hW ho => by
    have := sameC_any k f pk pf A A' n ys.length c c' xs ys W hx rfl ((hr.below hW).more hW.size) ho.rd
    rwa [hres] at this
  clear hput hx hr hres
  have b0 : Blk (w.alloc (.cells #[.int .u8 (k.toNat : Int), .int .u8 (f.toNat : Int), .slice A n c] 28)) w.heap.size 28 #[.int .u8 (k.toNat : Int), .int .u8 (f.toNat : Int), .slice A n c] := Blk.new w 28 #[.int .u8 (k.toNat : Int), .int .u8 (f.toNat : Int), .slice A n c]
  have b1 : Blk ((w.alloc (.cells #[.int .u8 (k.toNat : Int), .int .u8 (f.toNat : Int), .slice A n c] 28)).alloc (.cells #[.int .u32 tsn, .int .u16 stream, .int .u16 ssn, .bool un, .bool fi, .bool la, .slice Ax nx cx] 26)) (w.heap.size + 1) 26 #[.int .u32 tsn, .int .u16 stream, .int .u16 ssn, .bool un, .bool fi, .bool la, .slice Ax nx cx] := by simpa using Blk.new (w.alloc (.cells #[.int .u8 (k.toNat : Int), .int .u8 (f.toNat : Int), .slice A n c] 28)) 26 #[.int .u32 tsn, .int .u16 stream, .int .u16 ssn, .bool un, .bool fi, .bool la, .slice Ax nx cx]
  have b2 : Blk (((w.alloc (.cells #[.int .u8 (k.toNat : Int), .int .u8 (f.toNat : Int), .slice A n c] 28)).alloc (.cells #[.int .u32 tsn, .int .u16 stream, .int .u16 ssn, .bool un, .bool fi, .bool la, .slice Ax nx cx] 26)).alloc (.cells #[.int .u32 0, .int .u16 0, .int .u16 0, .bool false, .bool false, .bool false, .slice none 0 0] 26)) (w.heap.size + 1 + 1) 26 #[.int .u32 0, .int .u16 0, .int .u16 0, .bool false, .bool false, .bool false, .slice none 0 0] := by simpa using Blk.new ((w.alloc (.cells #[.int .u8 (k.toNat : Int), .int .u8 (f.toNat : Int), .slice A n c] 28)).alloc (.cells #[.int .u32 tsn, .int .u16 stream, .int .u16 ssn, .bool un, .bool fi, .bool la, .slice Ax nx cx] 26)) 26 #[.int .u32 0, .int .u16 0, .int .u16 0, .bool false, .bool false, .bool false, .slice none 0 0]
  have K0 := Lib.hid ((b0.alloc (.cells #[.int .u32 tsn, .int .u16 stream, .int .u16 ssn, .bool un, .bool fi, .bool la, .slice Ax nx cx] 26)).alloc (.cells #[.int .u32 0, .int .u16 0, .int .u16 0, .bool false, .bool false, .bool false, .slice none 0 0] 26))
  have K1 := Lib.hid (b1.alloc (.cells #[.int .u32 0, .int .u16 0, .int .u16 0, .bool false, .bool false, .bool false, .slice none 0 0] 26))
  have K2 := Lib.hid b2
  have B0 : Hid (Below w.heap.size w (((w.alloc (.cells #[.int .u8 (k.toNat : Int), .int .u8 (f.toNat : Int), .slice A n c] 28)).alloc (.cells #[.int .u32 tsn, .int .u16 stream, .int .u16 ssn, .bool un, .bool fi, .bool la, .slice Ax nx cx] 26)).alloc (.cells #[.int .u32 0, .int .u16 0, .int .u16 0, .bool false, .bool false, .bool false, .slice none 0 0] 26))) := Lib.hid (Wr.below_ ((((Wr.refl 5 w.heap.size w).alloc (.cells #[.int .u8 (k.toNat : Int), .int .u8 (f.toNat : Int), .slice A n c] 28)).alloc (.cells #[.int .u32 tsn, .int .u16 stream, .int .u16 ssn, .bool un, .bool fi, .bool la, .slice Ax nx cx] 26)).alloc (.cells #[.int .u32 0, .int .u16 0, .int .u16 0, .bool false, .bool false, .bool false, .slice none 0 0] 26)) (Nat.le_refl _))
  clear b0 b1 b2
  go_enter Try.func55, Try.ntmps55
  rw [drawn_eq 1]
  go_wp2_with fail
  generalize (((w.alloc (.cells #[.int .u8 (k.toNat : Int), .int .u8 (f.toNat : Int), .slice A n c] 28)).alloc (.cells #[.int .u32 tsn, .int .u16 stream, .int .u16 ssn, .bool un, .bool fi, .bool la, .slice Ax nx cx] 26)).alloc (.cells #[.int .u32 0, .int .u16 0, .int .u16 0, .bool false, .bool false, .bool false, .slice none 0 0] 26)) = v0 at K0 K1 K2 B0 ⊢
  rw [← drawn_eq 1]
  refine wp_region_grow_tail 9 (by kernel_rfl) [(Is (.bool true)), (Is (.bool false)), (Is (.bool false)), (Is (.agg #[.int .u8 (k.toNat : Int), .int .u8 (f.toNat : Int), .slice A n c])), (Is (.func (.func 15) #[] #[])), (Is (.agg #[.int .u32 tsn, .int .u16 stream, .int .u16 ssn, .bool un, .bool fi, .bool la, .slice Ax nx cx])), (NewAgg 5 w.heap.size ys.length ys (fun s => .agg #[.int .u8 (pk.toNat : Int), .int .u8 (pf.toNat : Int), s])), (Is (.bool true)), (Is (.bool false))] rfl ?_ (by kernel_rfl) (by kernel_rfl) ?_ ?_
  · intro p hp
    simp only [List.mem_cons, List.not_mem_nil, or_false] at hp
    rcases hp with rfl | rfl | rfl | rfl | rfl | rfl | rfl | rfl | rfl
    · exact Lasts.is _
    · exact Lasts.is _
    · exact Lasts.is _
    · exact Lasts.is _
    · exact Lasts.is _
    · exact Lasts.is _
    · exact Lasts.newAgg _ _ _ _ _
    · exact Lasts.is _
    · exact Lasts.is _
  · refine ⟨?_, ?_, ?_, ?_, ?_, ?_, ?_, ?_, ?_, trivial⟩
    · intro listed a w1 hl hc
      have h2 : a.tmps[2]?.getD undef = .bool true := (hc.was 2 (by kernel_rfl)).trans rfl
      refine does_value rfl rfl (.bool true) w1 ?_ (Below.refl _ _) rfl
      clear hc hl
      go_simp
    · intro listed a w1 hl hc
      have h11 : a.tmps[11]?.getD undef = .bool true := hc.dep hl 0 11 rfl (by kernel_rfl)
      refine does_value rfl rfl (.bool false) w1 ?_ (Below.refl _ _) rfl
      clear hc hl
      go_simp
    · intro listed a w1 hl hc
      have h12 : a.tmps[12]?.getD undef = .bool false := hc.dep hl 1 12 rfl (by kernel_rfl)
      refine does_value rfl rfl (.bool false) w1 ?_ (Below.refl _ _) rfl
      clear hc hl
      go_simp
    · intro listed a w1 hl hc
      have h4 : a.tmps[4]?.getD undef = .pointer (some ⟨w.heap.size, 0, none⟩) := (hc.was 4 (by kernel_rfl)).trans rfl
      have kb := K0.out.below hc.g K0.out.lt
      have x0 : w1.cell? ⟨w.heap.size, 0, none⟩ = some (.int .u8 (k.toNat : Int)) := kb.cell 0
      have x1 : w1.cell? ⟨w.heap.size, 1, none⟩ = some (.int .u8 (f.toNat : Int)) := kb.cell 1
      have x2 : w1.cell? ⟨w.heap.size, 2, none⟩ = some (.slice A n c) := kb.cell 2
      clear kb
      refine does_value rfl (wanted_at rfl rfl (hc.dep hl 2 13 rfl (by kernel_rfl))) (.agg #[.int .u8 (k.toNat : Int), .int .u8 (f.toNat : Int), .slice A n c]) w1 ?_ (Below.refl _ _) rfl
      clear hc hl
      go_simp
    · intro listed a w1 hl hc
      have h3 : a.tmps[3]?.getD undef = .func (.func 15) #[] #[] := (hc.was 3 (by kernel_rfl)).trans rfl
      refine does_value rfl (wanted_at rfl rfl (hc.dep hl 2 13 rfl (by kernel_rfl))) (.func (.func 15) #[] #[]) w1 ?_ (Below.refl _ _) rfl
      clear hc hl
      go_simp
    · intro listed a w1 hl hc
      have h5 : a.tmps[5]?.getD undef = .pointer (some ⟨w.heap.size + 1, 0, none⟩) := (hc.was 5 (by kernel_rfl)).trans rfl
      have kb := K1.out.below hc.g K1.out.lt
      have x0 : w1.cell? ⟨w.heap.size + 1, 0, none⟩ = some (.int .u32 tsn) := kb.cell 0
      have x1 : w1.cell? ⟨w.heap.size + 1, 1, none⟩ = some (.int .u16 stream) := kb.cell 1
      have x2 : w1.cell? ⟨w.heap.size + 1, 2, none⟩ = some (.int .u16 ssn) := kb.cell 2
      have x3 : w1.cell? ⟨w.heap.size + 1, 3, none⟩ = some (.bool un) := kb.cell 3
      have x4 : w1.cell? ⟨w.heap.size + 1, 4, none⟩ = some (.bool fi) := kb.cell 4
      have x5 : w1.cell? ⟨w.heap.size + 1, 5, none⟩ = some (.bool la) := kb.cell 5
      have x6 : w1.cell? ⟨w.heap.size + 1, 6, none⟩ = some (.slice Ax nx cx) := kb.cell 6
      clear kb
      refine does_value rfl (wanted_at rfl rfl (hc.dep hl 2 13 rfl (by kernel_rfl))) (.agg #[.int .u32 tsn, .int .u16 stream, .int .u16 ssn, .bool un, .bool fi, .bool la, .slice Ax nx cx]) w1 ?_ (Below.refl _ _) rfl
      clear hc hl
      go_simp
    · intro listed a w1 hl hc
      have h15 : a.tmps[15]?.getD undef = .func (.func 15) #[] #[] := hc.dep hl 4 15 rfl (by kernel_rfl)
      have h16 : a.tmps[16]?.getD undef = .agg #[.int .u32 tsn, .int .u16 stream, .int .u16 ssn, .bool un, .bool fi, .bool la, .slice Ax nx cx] := hc.dep hl 5 16 rfl (by kernel_rfl)
      refine does_call rfl (wanted_at rfl rfl (hc.dep hl 2 13 rfl (by kernel_rfl))) 15 #[.agg #[.int .u32 tsn, .int .u16 stream, .int .u16 ssn, .bool un, .bool fi, .bool la, .slice Ax nx cx]] ?_ ((HPUT.out w1 (B0.out.trans (hc.g.mono B0.out.size))).mono fun e w' ⟨A9, c9, he, ho, hb⟩ => ⟨_, he, hb, A9, c9, rfl, ho.more (Nat.le_trans B0.out.size hc.g.size)⟩)
      clear hc hl
      go_simp
    · intro listed a w1 hl hc
      have h14 : a.tmps[14]?.getD undef = .agg #[.int .u8 (k.toNat : Int), .int .u8 (f.toNat : Int), .slice A n c] := hc.dep hl 3 14 rfl (by kernel_rfl)
      obtain ⟨A17, c17, h17, ho17⟩ := hc.dep hl 6 17 rfl (by kernel_rfl)
      refine does_call rfl (wanted_at rfl rfl (hc.dep hl 2 13 rfl (by kernel_rfl))) 79 #[.agg #[.int .u8 (k.toNat : Int), .int .u8 (f.toNat : Int), .slice A n c], .agg #[.int .u8 (pk.toNat : Int), .int .u8 (pf.toNat : Int), .slice A17 ys.length c17]] ?_ ((HSM.out w1 _ _ (B0.out.trans (hc.g.mono B0.out.size)) ho17).mono fun e w' ⟨he, hb⟩ => ⟨_, he, hb, rfl⟩)
      clear hc hl
      go_simp
    · intro listed a w1 hl hc
      have h18 : a.tmps[18]?.getD undef = .bool true := hc.dep hl 7 18 rfl (by kernel_rfl)
      refine does_value rfl (wanted_at rfl rfl (hc.dep hl 2 13 rfl (by kernel_rfl))) (.bool false) w1 ?_ (Below.refl _ _) rfl
      clear hc hl
      go_simp
  intro w2 hb2
  rintro _ rfl _ rfl _ rfl _ rfl _ rfl _ rfl _ ⟨A17, c17, rfl, ho17⟩ _ rfl _ rfl
  simp only [Thus, List.reverse_cons, List.reverse_nil, List.nil_append, List.cons_append, List.drop, List.take, lay]
  go_frame
  have B2 := Lib.hid (below_then B0.out (Nat.le_refl _) hb2)
  have K1b := Lib.hid (K1.out.below hb2 K1.out.lt)
  have K2b := Lib.hid (K2.out.below hb2 K2.out.lt)
  clear hb2
  have y0 : w2.cell? ⟨w.heap.size + 1 + 1, 0, none⟩ = some (.int .u32 0) := K2b.out.cell 0
  have q0 : w2.frozen? ⟨w.heap.size + 1 + 1, 0, none⟩ = false := K2b.out.frozen 0
  have u0 : w2.cell? ⟨w.heap.size + 1, 0, none⟩ = some (.int .u32 tsn) := K1b.out.cell 0
  have y1 : w2.cell? ⟨w.heap.size + 1 + 1, 1, none⟩ = some (.int .u16 0) := K2b.out.cell 1
  have q1 : w2.frozen? ⟨w.heap.size + 1 + 1, 1, none⟩ = false := K2b.out.frozen 1
  have u1 : w2.cell? ⟨w.heap.size + 1, 1, none⟩ = some (.int .u16 stream) := K1b.out.cell 1
  have y2 : w2.cell? ⟨w.heap.size + 1 + 1, 2, none⟩ = some (.int .u16 0) := K2b.out.cell 2
  have q2 : w2.frozen? ⟨w.heap.size + 1 + 1, 2, none⟩ = false := K2b.out.frozen 2
  have u2 : w2.cell? ⟨w.heap.size + 1, 2, none⟩ = some (.int .u16 ssn) := K1b.out.cell 2
  have y3 : w2.cell? ⟨w.heap.size + 1 + 1, 3, none⟩ = some (.bool false) := K2b.out.cell 3
  have q3 : w2.frozen? ⟨w.heap.size + 1 + 1, 3, none⟩ = false := K2b.out.frozen 3
  have u3 : w2.cell? ⟨w.heap.size + 1, 3, none⟩ = some (.bool un) := K1b.out.cell 3
  have y4 : w2.cell? ⟨w.heap.size + 1 + 1, 4, none⟩ = some (.bool false) := K2b.out.cell 4
  have q4 : w2.frozen? ⟨w.heap.size + 1 + 1, 4, none⟩ = false := K2b.out.frozen 4
  have u4 : w2.cell? ⟨w.heap.size + 1, 4, none⟩ = some (.bool fi) := K1b.out.cell 4
  have y5 : w2.cell? ⟨w.heap.size + 1 + 1, 5, none⟩ = some (.bool false) := K2b.out.cell 5
  have q5 : w2.frozen? ⟨w.heap.size + 1 + 1, 5, none⟩ = false := K2b.out.frozen 5
  have u5 : w2.cell? ⟨w.heap.size + 1, 5, none⟩ = some (.bool la) := K1b.out.cell 5
  have y6 : w2.cell? ⟨w.heap.size + 1 + 1, 6, none⟩ = some (.slice none 0 0) := K2b.out.cell 6
  have q6 : w2.frozen? ⟨w.heap.size + 1 + 1, 6, none⟩ = false := K2b.out.frozen 6
  have u6 : w2.cell? ⟨w.heap.size + 1, 6, none⟩ = some (.slice Ax nx cx) := K1b.out.cell 6
  go_wp2_with fail
  have H3 := (((((((K2b.out.set_ 0 (.int .u32 tsn)).set_ 1 (.int .u16 stream)).set_ 2 (.int .u16 ssn)).set_ 3 (.bool un)).set_ 4 (.bool fi)).set_ 5 (.bool la)).set_ 6 (.slice Ax nx cx))
  exact bodyPost_ret (v := .tuple #[.agg #[.int .u32 tsn, .int .u16 stream, .int .u16 ssn, .bool un, .bool fi, .bool la, .slice Ax nx cx], .int .i64 0]) (by simp [results, Try.results55, go_sem, H3.cell]) rfl ⟨rfl, (((((((B2.out.setCell (p := ⟨w.heap.size + 1 + 1, 0, none⟩) (show w.heap.size ≤ w.heap.size + 1 + 1 by omega) (.int .u32 tsn)).setCell (p := ⟨w.heap.size + 1 + 1, 1, none⟩) (show w.heap.size ≤ w.heap.size + 1 + 1 by omega) (.int .u16 stream)).setCell (p := ⟨w.heap.size + 1 + 1, 2, none⟩) (show w.heap.size ≤ w.heap.size + 1 + 1 by omega) (.int .u16 ssn)).setCell (p := ⟨w.heap.size + 1 + 1, 3, none⟩) (show w.heap.size ≤ w.heap.size + 1 + 1 by omega) (.bool un)).setCell (p := ⟨w.heap.size + 1 + 1, 4, none⟩) (show w.heap.size ≤ w.heap.size + 1 + 1 by omega) (.bool fi)).setCell (p := ⟨w.heap.size + 1 + 1, 5, none⟩) (show w.heap.size ≤ w.heap.size + 1 + 1 by omega) (.bool la)).setCell (p := ⟨w.heap.size + 1 + 1, 6, none⟩) (show w.heap.size ≤ w.heap.size + 1 + 1 by omega) (.slice Ax nx cx))⟩
set_option maxRecDepth 100000 in
set_option maxHeartbeats 4000000 in
theorem checkedD_no (k f : UInt8) (A : Option Addr) (n c : Nat) (tsn stream ssn : Int) (un fi la : Bool) (Ax : Option Addr) (nx cx : Nat) (xs ys : List UInt8) (pk pf : UInt8) (w : World) (hx : xs.length = n) (hr : Rd w w.heap.size A xs) (hres : decide (k = pk ∧ f = pf ∧ xs = ys) = false) (hput : ∀ W, Below w.heap.size w W → Puts 15 #[.agg #[.int .u32 tsn, .int .u16 stream, .int .u16 ssn, .bool un, .bool fi, .bool la, .slice Ax nx cx]] pk pf ys W) :
    Calls Try.prog 55 #[.agg #[.int .u8 (k.toNat : Int), .int .u8 (f.toNat : Int), .slice A n c], .agg #[.int .u32 tsn, .int .u16 stream, .int .u16 ssn, .bool un, .bool fi, .bool la, .slice Ax nx cx], .bool true, .func (.func 15) #[] #[]] w fun e w' => e = .returned (.tuple #[.agg #[.int .u32 0, .int .u16 0, .int .u16 0, .bool false, .bool false, .bool false, .slice none 0 0], .int .i64 7]) ∧ Below w.heap.size w w' := by
  have hz := zero_data
  have HPUT := Lib.hid hput
  have HSM : Hid (∀ (W : World) (A' : Option Addr) (c' : Nat), Below w.heap.size w W → Own8 W 5 w.heap.size A' ys.length c' ys → Calls Try.prog 79 #[.agg #[.int .u8 (k.toNat : Int), .int .u8 (f.toNat : Int), .slice A n c], .agg #[.int .u8 (pk.toNat : Int), .int .u8 (pf.toNat : Int), .slice A' ys.length c']] W fun e w' => e = .returned (.bool false) ∧ Below W.heap.size W w') := Lib.hid fun W A' c' hW ho => by
    have := sameC_any k f pk pf A A' n ys.length c c' xs ys W hx rfl ((hr.below hW).more hW.size) ho.rd
    rwa [hres] at this
  clear hput hx hr hres
  have b0 : Blk (w.alloc (.cells #[.int .u8 (k.toNat : Int), .int .u8 (f.toNat : Int), .slice A n c] 28)) w.heap.size 28 #[.int .u8 (k.toNat : Int), .int .u8 (f.toNat : Int), .slice A n c] := Blk.new w 28 #[.int .u8 (k.toNat : Int), .int .u8 (f.toNat : Int), .slice A n c]
  have b1 : Blk ((w.alloc (.cells #[.int .u8 (k.toNat : Int), .int .u8 (f.toNat : Int), .slice A n c] 28)).alloc (.cells #[.int .u32 tsn, .int .u16 stream, .int .u16 ssn, .bool un, .bool fi, .bool la, .slice Ax nx cx] 26)) (w.heap.size + 1) 26 #[.int .u32 tsn, .int .u16 stream, .int .u16 ssn, .bool un, .bool fi, .bool la, .slice Ax nx cx] := by simpa using Blk.new (w.alloc (.cells #[.int .u8 (k.toNat : Int), .int .u8 (f.toNat : Int), .slice A n c] 28)) 26 #[.int .u32 tsn, .int .u16 stream, .int .u16 ssn, .bool un, .bool fi, .bool la, .slice Ax nx cx]
  have b2 : Blk (((w.alloc (.cells #[.int .u8 (k.toNat : Int), .int .u8 (f.toNat : Int), .slice A n c] 28)).alloc (.cells #[.int .u32 tsn, .int .u16 stream, .int .u16 ssn, .bool un, .bool fi, .bool la, .slice Ax nx cx] 26)).alloc (.cells #[.int .u32 0, .int .u16 0, .int .u16 0, .bool false, .bool false, .bool false, .slice none 0 0] 26)) (w.heap.size + 1 + 1) 26 #[.int .u32 0, .int .u16 0, .int .u16 0, .bool false, .bool false, .bool false, .slice none 0 0] := by simpa using Blk.new ((w.alloc (.cells #[.int .u8 (k.toNat : Int), .int .u8 (f.toNat : Int), .slice A n c] 28)).alloc (.cells #[.int .u32 tsn, .int .u16 stream, .int .u16 ssn, .bool un, .bool fi, .bool la, .slice Ax nx cx] 26)) 26 #[.int .u32 0, .int .u16 0, .int .u16 0, .bool false, .bool false, .bool false, .slice none 0 0]
  have K0 := Lib.hid ((b0.alloc (.cells #[.int .u32 tsn, .int .u16 stream, .int .u16 ssn, .bool un, .bool fi, .bool la, .slice Ax nx cx] 26)).alloc (.cells #[.int .u32 0, .int .u16 0, .int .u16 0, .bool false, .bool false, .bool false, .slice none 0 0] 26))
  have K1 := Lib.hid (b1.alloc (.cells #[.int .u32 0, .int .u16 0, .int .u16 0, .bool false, .bool false, .bool false, .slice none 0 0] 26))
  have K2 := Lib.hid b2
  have B0 : Hid (Below w.heap.size w (((w.alloc (.cells #[.int .u8 (k.toNat : Int), .int .u8 (f.toNat : Int), .slice A n c] 28)).alloc (.cells #[.int .u32 tsn, .int .u16 stream, .int .u16 ssn, .bool un, .bool fi, .bool la, .slice Ax nx cx] 26)).alloc (.cells #[.int .u32 0, .int .u16 0, .int .u16 0, .bool false, .bool false, .bool false, .slice none 0 0] 26))) := Lib.hid (Wr.below_ ((((Wr.refl 5 w.heap.size w).alloc (.cells #[.int .u8 (k.toNat : Int), .int .u8 (f.toNat : Int), .slice A n c] 28)).alloc (.cells #[.int .u32 tsn, .int .u16 stream, .int .u16 ssn, .bool un, .bool fi, .bool la, .slice Ax nx cx] 26)).alloc (.cells #[.int .u32 0, .int .u16 0, .int .u16 0, .bool false, .bool false, .bool false, .slice none 0 0] 26)) (Nat.le_refl _))
  clear b0 b1 b2
  go_enter Try.func55, Try.ntmps55
  rw [drawn_eq 1]
  go_wp2_with fail
  generalize (((w.alloc (.cells #[.int .u8 (k.toNat : Int), .int .u8 (f.toNat : Int), .slice A n c] 28)).alloc (.cells #[.int .u32 tsn, .int .u16 stream, .int .u16 ssn, .bool un, .bool fi, .bool la, .slice Ax nx cx] 26)).alloc (.cells #[.int .u32 0, .int .u16 0, .int .u16 0, .bool false, .bool false, .bool false, .slice none 0 0] 26)) = v0 at K0 K1 K2 B0 ⊢
  rw [← drawn_eq 1]
  refine wp_region_grow_tail 9 (by kernel_rfl) [(Is (.bool true)), (Is (.bool false)), (Is (.bool false)), (Is (.agg #[.int .u8 (k.toNat : Int), .int .u8 (f.toNat : Int), .slice A n c])), (Is (.func (.func 15) #[] #[])), (Is (.agg #[.int .u32 tsn, .int .u16 stream, .int .u16 ssn, .bool un, .bool fi, .bool la, .slice Ax nx cx])), (NewAgg 5 w.heap.size ys.length ys (fun s => .agg #[.int .u8 (pk.toNat : Int), .int .u8 (pf.toNat : Int), s])), (Is (.bool false)), (Is (.bool true))] rfl ?_ (by kernel_rfl) (by kernel_rfl) ?_ ?_
  · intro p hp
    simp only [List.mem_cons, List.not_mem_nil, or_false] at hp
    rcases hp with rfl | rfl | rfl | rfl | rfl | rfl | rfl | rfl | rfl
    · exact Lasts.is _
    · exact Lasts.is _
    · exact Lasts.is _
    · exact Lasts.is _
    · exact Lasts.is _
    · exact Lasts.is _
    · exact Lasts.newAgg _ _ _ _ _
    · exact Lasts.is _
    · exact Lasts.is _
  · refine ⟨?_, ?_, ?_, ?_, ?_, ?_, ?_, ?_, ?_, trivial⟩
    · intro listed a w1 hl hc
      have h2 : a.tmps[2]?.getD undef = .bool true := (hc.was 2 (by kernel_rfl)).trans rfl
      refine does_value rfl rfl (.bool true) w1 ?_ (Below.refl _ _) rfl
      clear hc hl
      go_simp
    · intro listed a w1 hl hc
      have h11 : a.tmps[11]?.getD undef = .bool true := hc.dep hl 0 11 rfl (by kernel_rfl)
      refine does_value rfl rfl (.bool false) w1 ?_ (Below.refl _ _) rfl
      clear hc hl
      go_simp
    · intro listed a w1 hl hc
      have h12 : a.tmps[12]?.getD undef = .bool false := hc.dep hl 1 12 rfl (by kernel_rfl)
      refine does_value rfl rfl (.bool false) w1 ?_ (Below.refl _ _) rfl
      clear hc hl
      go_simp
    · intro listed a w1 hl hc
      have h4 : a.tmps[4]?.getD undef = .pointer (some ⟨w.heap.size, 0, none⟩) := (hc.was 4 (by kernel_rfl)).trans rfl
      have kb := K0.out.below hc.g K0.out.lt
      have x0 : w1.cell? ⟨w.heap.size, 0, none⟩ = some (.int .u8 (k.toNat : Int)) := kb.cell 0
      have x1 : w1.cell? ⟨w.heap.size, 1, none⟩ = some (.int .u8 (f.toNat : Int)) := kb.cell 1
      have x2 : w1.cell? ⟨w.heap.size, 2, none⟩ = some (.slice A n c) := kb.cell 2
      clear kb
      refine does_value rfl (wanted_at rfl rfl (hc.dep hl 2 13 rfl (by kernel_rfl))) (.agg #[.int .u8 (k.toNat : Int), .int .u8 (f.toNat : Int), .slice A n c]) w1 ?_ (Below.refl _ _) rfl
      clear hc hl
      go_simp
    · intro listed a w1 hl hc
      have h3 : a.tmps[3]?.getD undef = .func (.func 15) #[] #[] := (hc.was 3 (by kernel_rfl)).trans rfl
      refine does_value rfl (wanted_at rfl rfl (hc.dep hl 2 13 rfl (by kernel_rfl))) (.func (.func 15) #[] #[]) w1 ?_ (Below.refl _ _) rfl
      clear hc hl
      go_simp
    · intro listed a w1 hl hc
      have h5 : a.tmps[5]?.getD undef = .pointer (some ⟨w.heap.size + 1, 0, none⟩) := (hc.was 5 (by kernel_rfl)).trans rfl
      have kb := K1.out.below hc.g K1.out.lt
      have x0 : w1.cell? ⟨w.heap.size + 1, 0, none⟩ = some (.int .u32 tsn) := kb.cell 0
      have x1 : w1.cell? ⟨w.heap.size + 1, 1, none⟩ = some (.int .u16 stream) := kb.cell 1
      have x2 : w1.cell? ⟨w.heap.size + 1, 2, none⟩ = some (.int .u16 ssn) := kb.cell 2
      have x3 : w1.cell? ⟨w.heap.size + 1, 3, none⟩ = some (.bool un) := kb.cell 3
      have x4 : w1.cell? ⟨w.heap.size + 1, 4, none⟩ = some (.bool fi) := kb.cell 4
      have x5 : w1.cell? ⟨w.heap.size + 1, 5, none⟩ = some (.bool la) := kb.cell 5
      have x6 : w1.cell? ⟨w.heap.size + 1, 6, none⟩ = some (.slice Ax nx cx) := kb.cell 6
      clear kb
      refine does_value rfl (wanted_at rfl rfl (hc.dep hl 2 13 rfl (by kernel_rfl))) (.agg #[.int .u32 tsn, .int .u16 stream, .int .u16 ssn, .bool un, .bool fi, .bool la, .slice Ax nx cx]) w1 ?_ (Below.refl _ _) rfl
      clear hc hl
      go_simp
    · intro listed a w1 hl hc
      have h15 : a.tmps[15]?.getD undef = .func (.func 15) #[] #[] := hc.dep hl 4 15 rfl (by kernel_rfl)
      have h16 : a.tmps[16]?.getD undef = .agg #[.int .u32 tsn, .int .u16 stream, .int .u16 ssn, .bool un, .bool fi, .bool la, .slice Ax nx cx] := hc.dep hl 5 16 rfl (by kernel_rfl)
      refine does_call rfl (wanted_at rfl rfl (hc.dep hl 2 13 rfl (by kernel_rfl))) 15 #[.agg #[.int .u32 tsn, .int .u16 stream, .int .u16 ssn, .bool un, .bool fi, .bool la, .slice Ax nx cx]] ?_ ((HPUT.out w1 (B0.out.trans (hc.g.mono B0.out.size))).mono fun e w' ⟨A9, c9, he, ho, hb⟩ => ⟨_, he, hb, A9, c9, rfl, ho.more (Nat.le_trans B0.out.size hc.g.size)⟩)
      clear hc hl
      go_simp
    · intro listed a w1 hl hc
      have h14 : a.tmps[14]?.getD undef = .agg #[.int .u8 (k.toNat : Int), .int .u8 (f.toNat : Int), .slice A n c] := hc.dep hl 3 14 rfl (by kernel_rfl)
      obtain ⟨A17, c17, h17, ho17⟩ := hc.dep hl 6 17 rfl (by kernel_rfl)
      refine does_call rfl (wanted_at rfl rfl (hc.dep hl 2 13 rfl (by kernel_rfl))) 79 #[.agg #[.int .u8 (k.toNat : Int), .int .u8 (f.toNat : Int), .slice A n c], .agg #[.int .u8 (pk.toNat : Int), .int .u8 (pf.toNat : Int), .slice A17 ys.length c17]] ?_ ((HSM.out w1 _ _ (B0.out.trans (hc.g.mono B0.out.size)) ho17).mono fun e w' ⟨he, hb⟩ => ⟨_, he, hb, rfl⟩)
      clear hc hl
      go_simp
    · intro listed a w1 hl hc
      have h18 : a.tmps[18]?.getD undef = .bool false := hc.dep hl 7 18 rfl (by kernel_rfl)
      refine does_value rfl (wanted_at rfl rfl (hc.dep hl 2 13 rfl (by kernel_rfl))) (.bool true) w1 ?_ (Below.refl _ _) rfl
      clear hc hl
      go_simp
  intro w2 hb2
  rintro _ rfl _ rfl _ rfl _ rfl _ rfl _ rfl _ ⟨A17, c17, rfl, ho17⟩ _ rfl _ rfl
  simp only [Thus, List.reverse_cons, List.reverse_nil, List.nil_append, List.cons_append, List.drop, List.take, lay]
  go_frame
  have B2 := Lib.hid (below_then B0.out (Nat.le_refl _) hb2)
  have K1b := Lib.hid (K1.out.below hb2 K1.out.lt)
  have K2b := Lib.hid (K2.out.below hb2 K2.out.lt)
  clear hb2
  have y0 : w2.cell? ⟨w.heap.size + 1 + 1, 0, none⟩ = some (.int .u32 0) := K2b.out.cell 0
  have q0 : w2.frozen? ⟨w.heap.size + 1 + 1, 0, none⟩ = false := K2b.out.frozen 0
  have y1 : w2.cell? ⟨w.heap.size + 1 + 1, 1, none⟩ = some (.int .u16 0) := K2b.out.cell 1
  have q1 : w2.frozen? ⟨w.heap.size + 1 + 1, 1, none⟩ = false := K2b.out.frozen 1
  have y2 : w2.cell? ⟨w.heap.size + 1 + 1, 2, none⟩ = some (.int .u16 0) := K2b.out.cell 2
  have q2 : w2.frozen? ⟨w.heap.size + 1 + 1, 2, none⟩ = false := K2b.out.frozen 2
  have y3 : w2.cell? ⟨w.heap.size + 1 + 1, 3, none⟩ = some (.bool false) := K2b.out.cell 3
  have q3 : w2.frozen? ⟨w.heap.size + 1 + 1, 3, none⟩ = false := K2b.out.frozen 3
  have y4 : w2.cell? ⟨w.heap.size + 1 + 1, 4, none⟩ = some (.bool false) := K2b.out.cell 4
  have q4 : w2.frozen? ⟨w.heap.size + 1 + 1, 4, none⟩ = false := K2b.out.frozen 4
  have y5 : w2.cell? ⟨w.heap.size + 1 + 1, 5, none⟩ = some (.bool false) := K2b.out.cell 5
  have q5 : w2.frozen? ⟨w.heap.size + 1 + 1, 5, none⟩ = false := K2b.out.frozen 5
  have y6 : w2.cell? ⟨w.heap.size + 1 + 1, 6, none⟩ = some (.slice none 0 0) := K2b.out.cell 6
  have q6 : w2.frozen? ⟨w.heap.size + 1 + 1, 6, none⟩ = false := K2b.out.frozen 6
  have hlt2 : w.heap.size + 1 + 1 < w2.heap.size := K2b.out.lt
  go_wp2_with fail
  have H3 := ((((((((K2b.out.set_ 0 (.int .u32 0)).set_ 1 (.int .u16 0)).set_ 2 (.int .u16 0)).set_ 3 (.bool false)).set_ 4 (.bool false)).set_ 5 (.bool false)).set_ 6 (.slice none 0 0)).alloc (.cells #[.int .u32 0, .int .u16 0, .int .u16 0, .bool false, .bool false, .bool false, .slice none 0 0] 26))
  exact bodyPost_ret (v := .tuple #[.agg #[.int .u32 0, .int .u16 0, .int .u16 0, .bool false, .bool false, .bool false, .slice none 0 0], .int .i64 7]) (by simp [results, Try.results55, go_sem, H3.cell]) rfl ⟨rfl, ((((((((B2.out.setCell (p := ⟨w.heap.size + 1 + 1, 0, none⟩) (show w.heap.size ≤ w.heap.size + 1 + 1 by omega) (.int .u32 0)).setCell (p := ⟨w.heap.size + 1 + 1, 1, none⟩) (show w.heap.size ≤ w.heap.size + 1 + 1 by omega) (.int .u16 0)).setCell (p := ⟨w.heap.size + 1 + 1, 2, none⟩) (show w.heap.size ≤ w.heap.size + 1 + 1 by omega) (.int .u16 0)).setCell (p := ⟨w.heap.size + 1 + 1, 3, none⟩) (show w.heap.size ≤ w.heap.size + 1 + 1 by omega) (.bool false)).setCell (p := ⟨w.heap.size + 1 + 1, 4, none⟩) (show w.heap.size ≤ w.heap.size + 1 + 1 by omega) (.bool false)).setCell (p := ⟨w.heap.size + 1 + 1, 5, none⟩) (show w.heap.size ≤ w.heap.size + 1 + 1 by omega) (.bool false)).setCell (p := ⟨w.heap.size + 1 + 1, 6, none⟩) (show w.heap.size ≤ w.heap.size + 1 + 1 by omega) (.slice none 0 0)).alloc (by have := B2.out.size; simpa using this) (.cells #[.int .u32 0, .int .u16 0, .int .u16 0, .bool false, .bool false, .bool false, .slice none 0 0] 26))⟩
set_option maxRecDepth 100000 in
set_option maxHeartbeats 4000000 in
theorem checkedI_off (k f : UInt8) (A : Option Addr) (n c : Nat) (tag rwnd out in_ tsn : Int) (Ax : Option Addr) (nx cx : Nat) (q : Nat) (w : World) :
    Calls Try.prog 63 #[.agg #[.int .u8 (k.toNat : Int), .int .u8 (f.toNat : Int), .slice A n c], .agg #[.int .u32 tag, .int .u32 rwnd, .int .u16 out, .int .u16 in_, .int .u32 tsn, .slice Ax nx cx], .bool false, .func (.func 62) #[] #[.pointer (some ⟨q, 0, none⟩)]] w fun e w' => e = .returned (.tuple #[.agg #[.int .u32 0, .int .u32 0, .int .u16 0, .int .u16 0, .int .u32 0, .slice none 0 0], .int .i64 7]) ∧ Below w.heap.size w w' := by
  have hz := zero_init
  have b0 : Blk (w.alloc (.cells #[.int .u8 (k.toNat : Int), .int .u8 (f.toNat : Int), .slice A n c] 28)) w.heap.size 28 #[.int .u8 (k.toNat : Int), .int .u8 (f.toNat : Int), .slice A n c] := Blk.new w 28 #[.int .u8 (k.toNat : Int), .int .u8 (f.toNat : Int), .slice A n c]
  have b1 : Blk ((w.alloc (.cells #[.int .u8 (k.toNat : Int), .int .u8 (f.toNat : Int), .slice A n c] 28)).alloc (.cells #[.int .u32 tag, .int .u32 rwnd, .int .u16 out, .int .u16 in_, .int .u32 tsn, .slice Ax nx cx] 43)) (w.heap.size + 1) 43 #[.int .u32 tag, .int .u32 rwnd, .int .u16 out, .int .u16 in_, .int .u32 tsn, .slice Ax nx cx] := by simpa using Blk.new (w.alloc (.cells #[.int .u8 (k.toNat : Int), .int .u8 (f.toNat : Int), .slice A n c] 28)) 43 #[.int .u32 tag, .int .u32 rwnd, .int .u16 out, .int .u16 in_, .int .u32 tsn, .slice Ax nx cx]
  have b2 : Blk (((w.alloc (.cells #[.int .u8 (k.toNat : Int), .int .u8 (f.toNat : Int), .slice A n c] 28)).alloc (.cells #[.int .u32 tag, .int .u32 rwnd, .int .u16 out, .int .u16 in_, .int .u32 tsn, .slice Ax nx cx] 43)).alloc (.cells #[.int .u32 0, .int .u32 0, .int .u16 0, .int .u16 0, .int .u32 0, .slice none 0 0] 43)) (w.heap.size + 1 + 1) 43 #[.int .u32 0, .int .u32 0, .int .u16 0, .int .u16 0, .int .u32 0, .slice none 0 0] := by simpa using Blk.new ((w.alloc (.cells #[.int .u8 (k.toNat : Int), .int .u8 (f.toNat : Int), .slice A n c] 28)).alloc (.cells #[.int .u32 tag, .int .u32 rwnd, .int .u16 out, .int .u16 in_, .int .u32 tsn, .slice Ax nx cx] 43)) 43 #[.int .u32 0, .int .u32 0, .int .u16 0, .int .u16 0, .int .u32 0, .slice none 0 0]
  have K0 := Lib.hid ((b0.alloc (.cells #[.int .u32 tag, .int .u32 rwnd, .int .u16 out, .int .u16 in_, .int .u32 tsn, .slice Ax nx cx] 43)).alloc (.cells #[.int .u32 0, .int .u32 0, .int .u16 0, .int .u16 0, .int .u32 0, .slice none 0 0] 43))
  have K1 := Lib.hid (b1.alloc (.cells #[.int .u32 0, .int .u32 0, .int .u16 0, .int .u16 0, .int .u32 0, .slice none 0 0] 43))
  have K2 := Lib.hid b2
  have B0 : Hid (Below w.heap.size w (((w.alloc (.cells #[.int .u8 (k.toNat : Int), .int .u8 (f.toNat : Int), .slice A n c] 28)).alloc (.cells #[.int .u32 tag, .int .u32 rwnd, .int .u16 out, .int .u16 in_, .int .u32 tsn, .slice Ax nx cx] 43)).alloc (.cells #[.int .u32 0, .int .u32 0, .int .u16 0, .int .u16 0, .int .u32 0, .slice none 0 0] 43))) := Lib.hid (Wr.below_ ((((Wr.refl 5 w.heap.size w).alloc (.cells #[.int .u8 (k.toNat : Int), .int .u8 (f.toNat : Int), .slice A n c] 28)).alloc (.cells #[.int .u32 tag, .int .u32 rwnd, .int .u16 out, .int .u16 in_, .int .u32 tsn, .slice Ax nx cx] 43)).alloc (.cells #[.int .u32 0, .int .u32 0, .int .u16 0, .int .u16 0, .int .u32 0, .slice none 0 0] 43)) (Nat.le_refl _))
  clear b0 b1 b2
  go_enter Try.func63, Try.ntmps63
  rw [drawn_eq 1]
  go_wp2_with fail
  generalize (((w.alloc (.cells #[.int .u8 (k.toNat : Int), .int .u8 (f.toNat : Int), .slice A n c] 28)).alloc (.cells #[.int .u32 tag, .int .u32 rwnd, .int .u16 out, .int .u16 in_, .int .u32 tsn, .slice Ax nx cx] 43)).alloc (.cells #[.int .u32 0, .int .u32 0, .int .u16 0, .int .u16 0, .int .u32 0, .slice none 0 0] 43)) = v0 at K0 K1 K2 B0 ⊢
  rw [← drawn_eq 1]
  refine wp_region_grow_tail 9 (by kernel_rfl) [(Is (.bool false)), (Is (.bool true)), (Is (.bool true)), (Is undef), (Is undef), (Is undef), (Is undef), (Is undef), (Is undef)] rfl ?_ (by kernel_rfl) (by kernel_rfl) ?_ ?_
  · intro p hp
    simp only [List.mem_cons, List.not_mem_nil, or_false] at hp
    rcases hp with rfl | rfl | rfl | rfl | rfl | rfl | rfl | rfl | rfl
    · exact Lasts.is _
    · exact Lasts.is _
    · exact Lasts.is _
    · exact Lasts.is _
    · exact Lasts.is _
    · exact Lasts.is _
    · exact Lasts.is _
    · exact Lasts.is _
    · exact Lasts.is _
  · refine ⟨?_, ?_, ?_, ?_, ?_, ?_, ?_, ?_, ?_, trivial⟩
    · intro listed a w1 hl hc
      have h2 : a.tmps[2]?.getD undef = .bool false := (hc.was 2 (by kernel_rfl)).trans rfl
      refine does_value rfl rfl (.bool false) w1 ?_ (Below.refl _ _) rfl
      clear hc hl
      go_simp
    · intro listed a w1 hl hc
      have h11 : a.tmps[11]?.getD undef = .bool false := hc.dep hl 0 11 rfl (by kernel_rfl)
      refine does_value rfl rfl (.bool true) w1 ?_ (Below.refl _ _) rfl
      clear hc hl
      go_simp
    · intro listed a w1 hl hc
      have h12 : a.tmps[12]?.getD undef = .bool true := hc.dep hl 1 12 rfl (by kernel_rfl)
      refine does_value rfl rfl (.bool true) w1 ?_ (Below.refl _ _) rfl
      clear hc hl
      go_simp
    · intro listed a w1 hl hc
      exact does_skip (fun _ => (Below.refl _ _)) rfl (unwanted_at rfl rfl (hc.dep hl 2 13 rfl (by kernel_rfl))) rfl
    · intro listed a w1 hl hc
      exact does_skip (fun _ => (Below.refl _ _)) rfl (unwanted_at rfl rfl (hc.dep hl 2 13 rfl (by kernel_rfl))) rfl
    · intro listed a w1 hl hc
      exact does_skip (fun _ => (Below.refl _ _)) rfl (unwanted_at rfl rfl (hc.dep hl 2 13 rfl (by kernel_rfl))) rfl
    · intro listed a w1 hl hc
      exact does_skip (fun _ => (Below.refl _ _)) rfl (unwanted_at rfl rfl (hc.dep hl 2 13 rfl (by kernel_rfl))) rfl
    · intro listed a w1 hl hc
      exact does_skip (fun _ => (Below.refl _ _)) rfl (unwanted_at rfl rfl (hc.dep hl 2 13 rfl (by kernel_rfl))) rfl
    · intro listed a w1 hl hc
      exact does_skip (fun _ => (Below.refl _ _)) rfl (unwanted_at rfl rfl (hc.dep hl 2 13 rfl (by kernel_rfl))) rfl
  intro w2 hb2
  rintro _ rfl _ rfl _ rfl _ rfl _ rfl _ rfl _ rfl _ rfl _ rfl
  simp only [Thus, List.reverse_cons, List.reverse_nil, List.nil_append, List.cons_append, List.drop, List.take, lay]
  go_frame
  have B2 := Lib.hid (below_then B0.out (Nat.le_refl _) hb2)
  have K1b := Lib.hid (K1.out.below hb2 K1.out.lt)
  have K2b := Lib.hid (K2.out.below hb2 K2.out.lt)
  clear hb2
  have y0 : w2.cell? ⟨w.heap.size + 1 + 1, 0, none⟩ = some (.int .u32 0) := K2b.out.cell 0
  have q0 : w2.frozen? ⟨w.heap.size + 1 + 1, 0, none⟩ = false := K2b.out.frozen 0
  have y1 : w2.cell? ⟨w.heap.size + 1 + 1, 1, none⟩ = some (.int .u32 0) := K2b.out.cell 1
  have q1 : w2.frozen? ⟨w.heap.size + 1 + 1, 1, none⟩ = false := K2b.out.frozen 1
  have y2 : w2.cell? ⟨w.heap.size + 1 + 1, 2, none⟩ = some (.int .u16 0) := K2b.out.cell 2
  have q2 : w2.frozen? ⟨w.heap.size + 1 + 1, 2, none⟩ = false := K2b.out.frozen 2
  have y3 : w2.cell? ⟨w.heap.size + 1 + 1, 3, none⟩ = some (.int .u16 0) := K2b.out.cell 3
  have q3 : w2.frozen? ⟨w.heap.size + 1 + 1, 3, none⟩ = false := K2b.out.frozen 3
  have y4 : w2.cell? ⟨w.heap.size + 1 + 1, 4, none⟩ = some (.int .u32 0) := K2b.out.cell 4
  have q4 : w2.frozen? ⟨w.heap.size + 1 + 1, 4, none⟩ = false := K2b.out.frozen 4
  have y5 : w2.cell? ⟨w.heap.size + 1 + 1, 5, none⟩ = some (.slice none 0 0) := K2b.out.cell 5
  have q5 : w2.frozen? ⟨w.heap.size + 1 + 1, 5, none⟩ = false := K2b.out.frozen 5
  have hlt2 : w.heap.size + 1 + 1 < w2.heap.size := K2b.out.lt
  go_wp2_with fail
  have H3 := (((((((K2b.out.set_ 0 (.int .u32 0)).set_ 1 (.int .u32 0)).set_ 2 (.int .u16 0)).set_ 3 (.int .u16 0)).set_ 4 (.int .u32 0)).set_ 5 (.slice none 0 0)).alloc (.cells #[.int .u32 0, .int .u32 0, .int .u16 0, .int .u16 0, .int .u32 0, .slice none 0 0] 43))
  exact bodyPost_ret (v := .tuple #[.agg #[.int .u32 0, .int .u32 0, .int .u16 0, .int .u16 0, .int .u32 0, .slice none 0 0], .int .i64 7]) (by simp [results, Try.results63, go_sem, H3.cell]) rfl ⟨rfl, (((((((B2.out.setCell (p := ⟨w.heap.size + 1 + 1, 0, none⟩) (show w.heap.size ≤ w.heap.size + 1 + 1 by omega) (.int .u32 0)).setCell (p := ⟨w.heap.size + 1 + 1, 1, none⟩) (show w.heap.size ≤ w.heap.size + 1 + 1 by omega) (.int .u32 0)).setCell (p := ⟨w.heap.size + 1 + 1, 2, none⟩) (show w.heap.size ≤ w.heap.size + 1 + 1 by omega) (.int .u16 0)).setCell (p := ⟨w.heap.size + 1 + 1, 3, none⟩) (show w.heap.size ≤ w.heap.size + 1 + 1 by omega) (.int .u16 0)).setCell (p := ⟨w.heap.size + 1 + 1, 4, none⟩) (show w.heap.size ≤ w.heap.size + 1 + 1 by omega) (.int .u32 0)).setCell (p := ⟨w.heap.size + 1 + 1, 5, none⟩) (show w.heap.size ≤ w.heap.size + 1 + 1 by omega) (.slice none 0 0)).alloc (by have := B2.out.size; simpa using this) (.cells #[.int .u32 0, .int .u32 0, .int .u16 0, .int .u16 0, .int .u32 0, .slice none 0 0] 43))⟩
set_option maxRecDepth 100000 in
set_option maxHeartbeats 4000000 in
theorem checkedI_yes (k f : UInt8) (A : Option Addr) (n c : Nat) (tag rwnd out in_ tsn : Int) (Ax : Option Addr) (nx cx : Nat) (q : Nat) (xs ys : List UInt8) (pk pf : UInt8) (w : World) (hx : xs.length = n) (hr : Rd w w.heap.size A xs) (hres : decide (k = pk ∧ f = pf ∧ xs = ys) = true) (hput : ∀ W, Below w.heap.size w W → Puts 62 #[.agg #[.int .u32 tag, .int .u32 rwnd, .int .u16 out, .int .u16 in_, .int .u32 tsn, .slice Ax nx cx], .pointer (some ⟨q, 0, none⟩)] pk pf ys W) :
    Calls Try.prog 63 #[.agg #[.int .u8 (k.toNat : Int), .int .u8 (f.toNat : Int), .slice A n c], .agg #[.int .u32 tag, .int .u32 rwnd, .int .u16 out, .int .u16 in_, .int .u32 tsn, .slice Ax nx cx], .bool true, .func (.func 62) #[] #[.pointer (some ⟨q, 0, none⟩)]] w fun e w' => e = .returned (.tuple #[.agg #[.int .u32 tag, .int .u32 rwnd, .int .u16 out, .int .u16 in_, .int .u32 tsn, .slice Ax nx cx], .int .i64 0]) ∧ Below w.heap.size w w' := by
  have hz := zero_init
  have HPUT := Lib.hid hput
  have HSM : Hid (∀ (W : World) (A' : Option Addr) (c' : Nat), Below w.heap.size w W → Own8 W 5 w.heap.size A' ys.length c' ys → Calls Try.prog 79 #[.agg #[.int .u8 (k.toNat : Int), .int .u8 (f.toNat : Int), .slice A n c], .agg #[.int .u8 (pk.toNat : Int), .int .u8 (pf.toNat : Int), .slice A' ys.length c']] W fun e w' => e = .returned (.bool true) ∧ Below W.heap.size W w') := Lib.hid fun W A' c' hW ho => by
    have := sameC_any k f pk pf A A' n ys.length c c' xs ys W hx rfl ((hr.below hW).more hW.size) ho.rd
    rwa [hres] at this
  clear hput hx hr hres
  have b0 : Blk (w.alloc (.cells #[.int .u8 (k.toNat : Int), .int .u8 (f.toNat : Int), .slice A n c] 28)) w.heap.size 28 #[.int .u8 (k.toNat : Int), .int .u8 (f.toNat : Int), .slice A n c] := Blk.new w 28 #[.int .u8 (k.toNat : Int), .int .u8 (f.toNat : Int), .slice A n c]
  have b1 : Blk ((w.alloc (.cells #[.int .u8 (k.toNat : Int), .int .u8 (f.toNat : Int), .slice A n c] 28)).alloc (.cells #[.int .u32 tag, .int .u32 rwnd, .int .u16 out, .int .u16 in_, .int .u32 tsn, .slice Ax nx cx] 43)) (w.heap.size + 1) 43 #[.int .u32 tag, .int .u32 rwnd, .int .u16 out, .int .u16 in_, .int .u32 tsn, .slice Ax nx cx] := by simpa using Blk.new (w.alloc (.cells #[.int .u8 (k.toNat : Int), .int .u8 (f.toNat : Int), .slice A n c] 28)) 43 #[.int .u32 tag, .int .u32 rwnd, .int .u16 out, .int .u16 in_, .int .u32 tsn, .slice Ax nx cx]
  have b2 : Blk (((w.alloc (.cells #[.int .u8 (k.toNat : Int), .int .u8 (f.toNat : Int), .slice A n c] 28)).alloc (.cells #[.int .u32 tag, .int .u32 rwnd, .int .u16 out, .int .u16 in_, .int .u32 tsn, .slice Ax nx cx] 43)).alloc (.cells #[.int .u32 0, .int .u32 0, .int .u16 0, .int .u16 0, .int .u32 0, .slice none 0 0] 43)) (w.heap.size + 1 + 1) 43 #[.int .u32 0, .int .u32 0, .int .u16 0, .int .u16 0, .int .u32 0, .slice none 0 0] := by simpa using Blk.new ((w.alloc (.cells #[.int .u8 (k.toNat : Int), .int .u8 (f.toNat : Int), .slice A n c] 28)).alloc (.cells #[.int .u32 tag, .int .u32 rwnd, .int .u16 out, .int .u16 in_, .int .u32 tsn, .slice Ax nx cx] 43)) 43 #[.int .u32 0, .int .u32 0, .int .u16 0, .int .u16 0, .int .u32 0, .slice none 0 0]
  have K0 := Lib.hid ((b0.alloc (.cells #[.int .u32 tag, .int .u32 rwnd, .int .u16 out, .int .u16 in_, .int .u32 tsn, .slice Ax nx cx] 43)).alloc (.cells #[.int .u32 0, .int .u32 0, .int .u16 0, .int .u16 0, .int .u32 0, .slice none 0 0] 43))
  have K1 := Lib.hid (b1.alloc (.cells #[.int .u32 0, .int .u32 0, .int .u16 0, .int .u16 0, .int .u32 0, .slice none 0 0] 43))
  have K2 := Lib.hid b2
  have B0 : Hid (Below w.heap.size w (((w.alloc (.cells #[.int .u8 (k.toNat : Int), .int .u8 (f.toNat : Int), .slice A n c] 28)).alloc (.cells #[.int .u32 tag, .int .u32 rwnd, .int .u16 out, .int .u16 in_, .int .u32 tsn, .slice Ax nx cx] 43)).alloc (.cells #[.int .u32 0, .int .u32 0, .int .u16 0, .int .u16 0, .int .u32 0, .slice none 0 0] 43))) := Lib.hid (Wr.below_ ((((Wr.refl 5 w.heap.size w).alloc (.cells #[.int .u8 (k.toNat : Int), .int .u8 (f.toNat : Int), .slice A n c] 28)).alloc (.cells #[.int .u32 tag, .int .u32 rwnd, .int .u16 out, .int .u16 in_, .int .u32 tsn, .slice Ax nx cx] 43)).alloc (.cells #[.int .u32 0, .int .u32 0, .int .u16 0, .int .u16 0, .int .u32 0, .slice none 0 0] 43)) (Nat.le_refl _))
  clear b0 b1 b2
  go_enter Try.func63, Try.ntmps63
  rw [drawn_eq 1]
  go_wp2_with fail
  generalize (((w.alloc (.cells #[.int .u8 (k.toNat : Int), .int .u8 (f.toNat : Int), .slice A n c] 28)).alloc (.cells #[.int .u32 tag, .int .u32 rwnd, .int .u16 out, .int .u16 in_, .int .u32 tsn, .slice Ax nx cx] 43)).alloc (.cells #[.int .u32 0, .int .u32 0, .int .u16 0, .int .u16 0, .int .u32 0, .slice none 0 0] 43)) = v0 at K0 K1 K2 B0 ⊢
  rw [← drawn_eq 1]
  refine wp_region_grow_tail 9 (by kernel_rfl) [(Is (.bool true)), (Is (.bool false)), (Is (.bool false)), (Is (.agg #[.int .u8 (k.toNat : Int), .int .u8 (f.toNat : Int), .slice A n c])), (Is (.func (.func 62) #[] #[.pointer (some ⟨q, 0, none⟩)])), (Is (.agg #[.int .u32 tag, .int .u32 rwnd, .int .u16 out, .int .u16 in_, .int .u32 tsn, .slice Ax nx cx])), (NewAgg 5 w.heap.size ys.length ys (fun s => .agg #[.int .u8 (pk.toNat : Int), .int .u8 (pf.toNat : Int), s])), (Is (.bool true)), (Is (.bool false))] rfl ?_ (by kernel_rfl) (by kernel_rfl) ?_ ?_
  · intro p hp
    simp only [List.mem_cons, List.not_mem_nil, or_false] at hp
    rcases hp with rfl | rfl | rfl | rfl | rfl | rfl | rfl | rfl | rfl
    · exact Lasts.is _
    · exact Lasts.is _
    · exact Lasts.is _
    · exact Lasts.is _
    · exact Lasts.is _
    · exact Lasts.is _
    · exact Lasts.newAgg _ _ _ _ _
    · exact Lasts.is _
    · exact Lasts.is _
  · refine ⟨?_, ?_, ?_, ?_, ?_, ?_, ?_, ?_, ?_, trivial⟩
    · intro listed a w1 hl hc
      have h2 : a.tmps[2]?.getD undef = .bool true := (hc.was 2 (by kernel_rfl)).trans rfl
      refine does_value rfl rfl (.bool true) w1 ?_ (Below.refl _ _) rfl
      clear hc hl
      go_simp
    · intro listed a w1 hl hc
      have h11 : a.tmps[11]?.getD undef = .bool true := hc.dep hl 0 11 rfl (by kernel_rfl)
      refine does_value rfl rfl (.bool false) w1 ?_ (Below.refl _ _) rfl
      clear hc hl
      go_simp
    · intro listed a w1 hl hc
      have h12 : a.tmps[12]?.getD undef = .bool false := hc.dep hl 1 12 rfl (by kernel_rfl)
      refine does_value rfl rfl (.bool false) w1 ?_ (Below.refl _ _) rfl
      clear hc hl
      go_simp
    · intro listed a w1 hl hc
      have h4 : a.tmps[4]?.getD undef = .pointer (some ⟨w.heap.size, 0, none⟩) := (hc.was 4 (by kernel_rfl)).trans rfl
      have kb := K0.out.below hc.g K0.out.lt
      have x0 : w1.cell? ⟨w.heap.size, 0, none⟩ = some (.int .u8 (k.toNat : Int)) := kb.cell 0
      have x1 : w1.cell? ⟨w.heap.size, 1, none⟩ = some (.int .u8 (f.toNat : Int)) := kb.cell 1
      have x2 : w1.cell? ⟨w.heap.size, 2, none⟩ = some (.slice A n c) := kb.cell 2
      clear kb
      refine does_value rfl (wanted_at rfl rfl (hc.dep hl 2 13 rfl (by kernel_rfl))) (.agg #[.int .u8 (k.toNat : Int), .int .u8 (f.toNat : Int), .slice A n c]) w1 ?_ (Below.refl _ _) rfl
      clear hc hl
      go_simp
    · intro listed a w1 hl hc
      have h3 : a.tmps[3]?.getD undef = .func (.func 62) #[] #[.pointer (some ⟨q, 0, none⟩)] := (hc.was 3 (by kernel_rfl)).trans rfl
      refine does_value rfl (wanted_at rfl rfl (hc.dep hl 2 13 rfl (by kernel_rfl))) (.func (.func 62) #[] #[.pointer (some ⟨q, 0, none⟩)]) w1 ?_ (Below.refl _ _) rfl
      clear hc hl
      go_simp
    · intro listed a w1 hl hc
      have h5 : a.tmps[5]?.getD undef = .pointer (some ⟨w.heap.size + 1, 0, none⟩) := (hc.was 5 (by kernel_rfl)).trans rfl
      have kb := K1.out.below hc.g K1.out.lt
      have x0 : w1.cell? ⟨w.heap.size + 1, 0, none⟩ = some (.int .u32 tag) := kb.cell 0
      have x1 : w1.cell? ⟨w.heap.size + 1, 1, none⟩ = some (.int .u32 rwnd) := kb.cell 1
      have x2 : w1.cell? ⟨w.heap.size + 1, 2, none⟩ = some (.int .u16 out) := kb.cell 2
      have x3 : w1.cell? ⟨w.heap.size + 1, 3, none⟩ = some (.int .u16 in_) := kb.cell 3
      have x4 : w1.cell? ⟨w.heap.size + 1, 4, none⟩ = some (.int .u32 tsn) := kb.cell 4
      have x5 : w1.cell? ⟨w.heap.size + 1, 5, none⟩ = some (.slice Ax nx cx) := kb.cell 5
      clear kb
      refine does_value rfl (wanted_at rfl rfl (hc.dep hl 2 13 rfl (by kernel_rfl))) (.agg #[.int .u32 tag, .int .u32 rwnd, .int .u16 out, .int .u16 in_, .int .u32 tsn, .slice Ax nx cx]) w1 ?_ (Below.refl _ _) rfl
      clear hc hl
      go_simp
    · intro listed a w1 hl hc
      have h15 : a.tmps[15]?.getD undef = .func (.func 62) #[] #[.pointer (some ⟨q, 0, none⟩)] := hc.dep hl 4 15 rfl (by kernel_rfl)
      have h16 : a.tmps[16]?.getD undef = .agg #[.int .u32 tag, .int .u32 rwnd, .int .u16 out, .int .u16 in_, .int .u32 tsn, .slice Ax nx cx] := hc.dep hl 5 16 rfl (by kernel_rfl)
      refine does_call rfl (wanted_at rfl rfl (hc.dep hl 2 13 rfl (by kernel_rfl))) 62 #[.agg #[.int .u32 tag, .int .u32 rwnd, .int .u16 out, .int .u16 in_, .int .u32 tsn, .slice Ax nx cx], .pointer (some ⟨q, 0, none⟩)] ?_ ((HPUT.out w1 (B0.out.trans (hc.g.mono B0.out.size))).mono fun e w' ⟨A9, c9, he, ho, hb⟩ => ⟨_, he, hb, A9, c9, rfl, ho.more (Nat.le_trans B0.out.size hc.g.size)⟩)
      clear hc hl
      go_simp
    · intro listed a w1 hl hc
      have h14 : a.tmps[14]?.getD undef = .agg #[.int .u8 (k.toNat : Int), .int .u8 (f.toNat : Int), .slice A n c] := hc.dep hl 3 14 rfl (by kernel_rfl)
      obtain ⟨A17, c17, h17, ho17⟩ := hc.dep hl 6 17 rfl (by kernel_rfl)
      refine does_call rfl (wanted_at rfl rfl (hc.dep hl 2 13 rfl (by kernel_rfl))) 79 #[.agg #[.int .u8 (k.toNat : Int), .int .u8 (f.toNat : Int), .slice A n c], .agg #[.int .u8 (pk.toNat : Int), .int .u8 (pf.toNat : Int), .slice A17 ys.length c17]] ?_ ((HSM.out w1 _ _ (B0.out.trans (hc.g.mono B0.out.size)) ho17).mono fun e w' ⟨he, hb⟩ => ⟨_, he, hb, rfl⟩)
      clear hc hl
      go_simp
    · intro listed a w1 hl hc
      have h18 : a.tmps[18]?.getD undef = .bool true := hc.dep hl 7 18 rfl (by kernel_rfl)
      refine does_value rfl (wanted_at rfl rfl (hc.dep hl 2 13 rfl (by kernel_rfl))) (.bool false) w1 ?_ (Below.refl _ _) rfl
      clear hc hl
      go_simp
  intro w2 hb2
  rintro _ rfl _ rfl _ rfl _ rfl _ rfl _ rfl _ ⟨A17, c17, rfl, ho17⟩ _ rfl _ rfl
  simp only [Thus, List.reverse_cons, List.reverse_nil, List.nil_append, List.cons_append, List.drop, List.take, lay]
  go_frame
  have B2 := Lib.hid (below_then B0.out (Nat.le_refl _) hb2)
  have K1b := Lib.hid (K1.out.below hb2 K1.out.lt)
  have K2b := Lib.hid (K2.out.below hb2 K2.out.lt)
  clear hb2
  have y0 : w2.cell? ⟨w.heap.size + 1 + 1, 0, none⟩ = some (.int .u32 0) := K2b.out.cell 0
  have q0 : w2.frozen? ⟨w.heap.size + 1 + 1, 0, none⟩ = false := K2b.out.frozen 0
  have u0 : w2.cell? ⟨w.heap.size + 1, 0, none⟩ = some (.int .u32 tag) := K1b.out.cell 0
  have y1 : w2.cell? ⟨w.heap.size + 1 + 1, 1, none⟩ = some (.int .u32 0) := K2b.out.cell 1
  have q1 : w2.frozen? ⟨w.heap.size + 1 + 1, 1, none⟩ = false := K2b.out.frozen 1
  have u1 : w2.cell? ⟨w.heap.size + 1, 1, none⟩ = some (.int .u32 rwnd) := K1b.out.cell 1
  have y2 : w2.cell? ⟨w.heap.size + 1 + 1, 2, none⟩ = some (.int .u16 0) := K2b.out.cell 2
  have q2 : w2.frozen? ⟨w.heap.size + 1 + 1, 2, none⟩ = false := K2b.out.frozen 2
  have u2 : w2.cell? ⟨w.heap.size + 1, 2, none⟩ = some (.int .u16 out) := K1b.out.cell 2
  have y3 : w2.cell? ⟨w.heap.size + 1 + 1, 3, none⟩ = some (.int .u16 0) := K2b.out.cell 3
  have q3 : w2.frozen? ⟨w.heap.size + 1 + 1, 3, none⟩ = false := K2b.out.frozen 3
  have u3 : w2.cell? ⟨w.heap.size + 1, 3, none⟩ = some (.int .u16 in_) := K1b.out.cell 3
  have y4 : w2.cell? ⟨w.heap.size + 1 + 1, 4, none⟩ = some (.int .u32 0) := K2b.out.cell 4
  have q4 : w2.frozen? ⟨w.heap.size + 1 + 1, 4, none⟩ = false := K2b.out.frozen 4
  have u4 : w2.cell? ⟨w.heap.size + 1, 4, none⟩ = some (.int .u32 tsn) := K1b.out.cell 4
  have y5 : w2.cell? ⟨w.heap.size + 1 + 1, 5, none⟩ = some (.slice none 0 0) := K2b.out.cell 5
  have q5 : w2.frozen? ⟨w.heap.size + 1 + 1, 5, none⟩ = false := K2b.out.frozen 5
  have u5 : w2.cell? ⟨w.heap.size + 1, 5, none⟩ = some (.slice Ax nx cx) := K1b.out.cell 5
  go_wp2_with fail
  have H3 := ((((((K2b.out.set_ 0 (.int .u32 tag)).set_ 1 (.int .u32 rwnd)).set_ 2 (.int .u16 out)).set_ 3 (.int .u16 in_)).set_ 4 (.int .u32 tsn)).set_ 5 (.slice Ax nx cx))
  exact bodyPost_ret (v := .tuple #[.agg #[.int .u32 tag, .int .u32 rwnd, .int .u16 out, .int .u16 in_, .int .u32 tsn, .slice Ax nx cx], .int .i64 0]) (by simp [results, Try.results63, go_sem, H3.cell]) rfl ⟨rfl, ((((((B2.out.setCell (p := ⟨w.heap.size + 1 + 1, 0, none⟩) (show w.heap.size ≤ w.heap.size + 1 + 1 by omega) (.int .u32 tag)).setCell (p := ⟨w.heap.size + 1 + 1, 1, none⟩) (show w.heap.size ≤ w.heap.size + 1 + 1 by omega) (.int .u32 rwnd)).setCell (p := ⟨w.heap.size + 1 + 1, 2, none⟩) (show w.heap.size ≤ w.heap.size + 1 + 1 by omega) (.int .u16 out)).setCell (p := ⟨w.heap.size + 1 + 1, 3, none⟩) (show w.heap.size ≤ w.heap.size + 1 + 1 by omega) (.int .u16 in_)).setCell (p := ⟨w.heap.size + 1 + 1, 4, none⟩) (show w.heap.size ≤ w.heap.size + 1 + 1 by omega) (.int .u32 tsn)).setCell (p := ⟨w.heap.size + 1 + 1, 5, none⟩) (show w.heap.size ≤ w.heap.size + 1 + 1 by omega) (.slice Ax nx cx))⟩
set_option maxRecDepth 100000 in
set_option maxHeartbeats 4000000 in
theorem checkedI_no (k f : UInt8) (A : Option Addr) (n c : Nat) (tag rwnd out in_ tsn : Int) (Ax : Option Addr) (nx cx : Nat) (q : Nat) (xs ys : List UInt8) (pk pf : UInt8) (w : World) (hx : xs.length = n) (hr : Rd w w.heap.size A xs) (hres : decide (k = pk ∧ f = pf ∧ xs = ys) = false) (hput : ∀ W, Below w.heap.size w W → Puts 62 #[.agg #[.int .u32 tag, .int .u32 rwnd, .int .u16 out, .int .u16 in_, .int .u32 tsn, .slice Ax nx cx], .pointer (some ⟨q, 0, none⟩)] pk pf ys W) :
    Calls Try.prog 63 #[.agg #[.int .u8 (k.toNat : Int), .int .u8 (f.toNat : Int), .slice A n c], .agg #[.int .u32 tag, .int .u32 rwnd, .int .u16 out, .int .u16 in_, .int .u32 tsn, .slice Ax nx cx], .bool true, .func (.func 62) #[] #[.pointer (some ⟨q, 0, none⟩)]] w fun e w' => e = .returned (.tuple #[.agg #[.int .u32 0, .int .u32 0, .int .u16 0, .int .u16 0, .int .u32 0, .slice none 0 0], .int .i64 7]) ∧ Below w.heap.size w w' := by
  have hz := zero_init
  have HPUT := Lib.hid hput
  have HSM : Hid (∀ (W : World) (A' : Option Addr) (c' : Nat), Below w.heap.size w W → Own8 W 5 w.heap.size A' ys.length c' ys → Calls Try.prog 79 #[.agg #[.int .u8 (k.toNat : Int), .int .u8 (f.toNat : Int), .slice A n c], .agg #[.int .u8 (pk.toNat : Int), .int .u8 (pf.toNat : Int), .slice A' ys.length c']] W fun e w' => e = .returned (.bool false) ∧ Below W.heap.size W w') := Lib.hid fun W A' c' hW ho => by
    have := sameC_any k f pk pf A A' n ys.length c c' xs ys W hx rfl ((hr.below hW).more hW.size) ho.rd
    rwa [hres] at this
  clear hput hx hr hres
  have b0 : Blk (w.alloc (.cells #[.int .u8 (k.toNat : Int), .int .u8 (f.toNat : Int), .slice A n c] 28)) w.heap.size 28 #[.int .u8 (k.toNat : Int), .int .u8 (f.toNat : Int), .slice A n c] := Blk.new w 28 #[.int .u8 (k.toNat : Int), .int .u8 (f.toNat : Int), .slice A n c]
  have b1 : Blk ((w.alloc (.cells #[.int .u8 (k.toNat : Int), .int .u8 (f.toNat : Int), .slice A n c] 28)).alloc (.cells #[.int .u32 tag, .int .u32 rwnd, .int .u16 out, .int .u16 in_, .int .u32 tsn, .slice Ax nx cx] 43)) (w.heap.size + 1) 43 #[.int .u32 tag, .int .u32 rwnd, .int .u16 out, .int .u16 in_, .int .u32 tsn, .slice Ax nx cx] := by simpa using Blk.new (w.alloc (.cells #[.int .u8 (k.toNat : Int), .int .u8 (f.toNat : Int), .slice A n c] 28)) 43 #[.int .u32 tag, .int .u32 rwnd, .int .u16 out, .int .u16 in_, .int .u32 tsn, .slice Ax nx cx]
  have b2 : Blk (((w.alloc (.cells #[.int .u8 (k.toNat : Int), .int .u8 (f.toNat : Int), .slice A n c] 28)).alloc (.cells #[.int .u32 tag, .int .u32 rwnd, .int .u16 out, .int .u16 in_, .int .u32 tsn, .slice Ax nx cx] 43)).alloc (.cells #[.int .u32 0, .int .u32 0, .int .u16 0, .int .u16 0, .int .u32 0, .slice none 0 0] 43)) (w.heap.size + 1 + 1) 43 #[.int .u32 0, .int .u32 0, .int .u16 0, .int .u16 0, .int .u32 0, .slice none 0 0] := by simpa using Blk.new ((w.alloc (.cells #[.int .u8 (k.toNat : Int), .int .u8 (f.toNat : Int), .slice A n c] 28)).alloc (.cells #[.int .u32 tag, .int .u32 rwnd, .int .u16 out, .int .u16 in_, .int .u32 tsn, .slice Ax nx cx] 43)) 43 #[.int .u32 0, .int .u32 0, .int .u16 0, .int .u16 0, .int .u32 0, .slice none 0 0]
  have K0 := Lib.hid ((b0.alloc (.cells #[.int .u32 tag, .int .u32 rwnd, .int .u16 out, .int .u16 in_, .int .u32 tsn, .slice Ax nx cx] 43)).alloc (.cells #[.int .u32 0, .int .u32 0, .int .u16 0, .int .u16 0, .int .u32 0, .slice none 0 0] 43))
  have K1 := Lib.hid (b1.alloc (.cells #[.int .u32 0, .int .u32 0, .int .u16 0, .int .u16 0, .int .u32 0, .slice none 0 0] 43))
  have K2 := Lib.hid b2
  have B0 : Hid (Below w.heap.size w (((w.alloc (.cells #[.int .u8 (k.toNat : Int), .int .u8 (f.toNat : Int), .slice A n c] 28)).alloc (.cells #[.int .u32 tag, .int .u32 rwnd, .int .u16 out, .int .u16 in_, .int .u32 tsn, .slice Ax nx cx] 43)).alloc (.cells #[.int .u32 0, .int .u32 0, .int .u16 0, .int .u16 0, .int .u32 0, .slice none 0 0] 43))) := Lib.hid (Wr.below_ ((((Wr.refl 5 w.heap.size w).alloc (.cells #[.int .u8 (k.toNat : Int), .int .u8 (f.toNat : Int), .slice A n c] 28)).alloc (.cells #[.int .u32 tag, .int .u32 rwnd, .int .u16 out, .int .u16 in_, .int .u32 tsn, .slice Ax nx cx] 43)).alloc (.cells #[.int .u32 0, .int .u32 0, .int .u16 0, .int .u16 0, .int .u32 0, .slice none 0 0] 43)) (Nat.le_refl _))
  clear b0 b1 b2
  go_enter Try.func63, Try.ntmps63
  rw [drawn_eq 1]
  go_wp2_with fail
  generalize (((w.alloc (.cells #[.int .u8 (k.toNat : Int), .int .u8 (f.toNat : Int), .slice A n c] 28)).alloc (.cells #[.int .u32 tag, .int .u32 rwnd, .int .u16 out, .int .u16 in_, .int .u32 tsn, .slice Ax nx cx] 43)).alloc (.cells #[.int .u32 0, .int .u32 0, .int .u16 0, .int .u16 0, .int .u32 0, .slice none 0 0] 43)) = v0 at K0 K1 K2 B0 ⊢
  rw [← drawn_eq 1]
  refine wp_region_grow_tail 9 (by kernel_rfl) [(Is (.bool true)), (Is (.bool false)), (Is (.bool false)), (Is (.agg #[.int .u8 (k.toNat : Int), .int .u8 (f.toNat : Int), .slice A n c])), (Is (.func (.func 62) #[] #[.pointer (some ⟨q, 0, none⟩)])), (Is (.agg #[.int .u32 tag, .int .u32 rwnd, .int .u16 out, .int .u16 in_, .int .u32 tsn, .slice Ax nx cx])), (NewAgg 5 w.heap.size ys.length ys (fun s => .agg #[.int .u8 (pk.toNat : Int), .int .u8 (pf.toNat : Int), s])), (Is (.bool false)), (Is (.bool true))] rfl ?_ (by kernel_rfl) (by kernel_rfl) ?_ ?_
  · intro p hp
    simp only [List.mem_cons, List.not_mem_nil, or_false] at hp
    rcases hp with rfl | rfl | rfl | rfl | rfl | rfl | rfl | rfl | rfl
    · exact Lasts.is _
    · exact Lasts.is _
    · exact Lasts.is _
    · exact Lasts.is _
    · exact Lasts.is _
    · exact Lasts.is _
    · exact Lasts.newAgg _ _ _ _ _
    · exact Lasts.is _
    · exact Lasts.is _
  · refine ⟨?_, ?_, ?_, ?_, ?_, ?_, ?_, ?_, ?_, trivial⟩
    · intro listed a w1 hl hc
      have h2 : a.tmps[2]?.getD undef = .bool true := (hc.was 2 (by kernel_rfl)).trans rfl
      refine does_value rfl rfl (.bool true) w1 ?_ (Below.refl _ _) rfl
      clear hc hl
      go_simp
    · intro listed a w1 hl hc
      have h11 : a.tmps[11]?.getD undef = .bool true := hc.dep hl 0 11 rfl (by kernel_rfl)
      refine does_value rfl rfl (.bool false) w1 ?_ (Below.refl _ _) rfl
      clear hc hl
      go_simp
    · intro listed a w1 hl hc
      have h12 : a.tmps[12]?.getD undef = .bool false := hc.dep hl 1 12 rfl (by kernel_rfl)
      refine does_value rfl rfl (.bool false) w1 ?_ (Below.refl _ _) rfl
      clear hc hl
      go_simp
    · intro listed a w1 hl hc
      have h4 : a.tmps[4]?.getD undef = .pointer (some ⟨w.heap.size, 0, none⟩) := (hc.was 4 (by kernel_rfl)).trans rfl
      have kb := K0.out.below hc.g K0.out.lt
      have x0 : w1.cell? ⟨w.heap.size, 0, none⟩ = some (.int .u8 (k.toNat : Int)) := kb.cell 0
      have x1 : w1.cell? ⟨w.heap.size, 1, none⟩ = some (.int .u8 (f.toNat : Int)) := kb.cell 1
      have x2 : w1.cell? ⟨w.heap.size, 2, none⟩ = some (.slice A n c) := kb.cell 2
      clear kb
      refine does_value rfl (wanted_at rfl rfl (hc.dep hl 2 13 rfl (by kernel_rfl))) (.agg #[.int .u8 (k.toNat : Int), .int .u8 (f.toNat : Int), .slice A n c]) w1 ?_ (Below.refl _ _) rfl
      clear hc hl
      go_simp
    · intro listed a w1 hl hc
      have h3 : a.tmps[3]?.getD undef = .func (.func 62) #[] #[.pointer (some ⟨q, 0, none⟩)] := (hc.was 3 (by kernel_rfl)).trans rfl
      refine does_value rfl (wanted_at rfl rfl (hc.dep hl 2 13 rfl (by kernel_rfl))) (.func (.func 62) #[] #[.pointer (some ⟨q, 0, none⟩)]) w1 ?_ (Below.refl _ _) rfl
      clear hc hl
      go_simp
    · intro listed a w1 hl hc
      have h5 : a.tmps[5]?.getD undef = .pointer (some ⟨w.heap.size + 1, 0, none⟩) := (hc.was 5 (by kernel_rfl)).trans rfl
      have kb := K1.out.below hc.g K1.out.lt
      have x0 : w1.cell? ⟨w.heap.size + 1, 0, none⟩ = some (.int .u32 tag) := kb.cell 0
      have x1 : w1.cell? ⟨w.heap.size + 1, 1, none⟩ = some (.int .u32 rwnd) := kb.cell 1
      have x2 : w1.cell? ⟨w.heap.size + 1, 2, none⟩ = some (.int .u16 out) := kb.cell 2
      have x3 : w1.cell? ⟨w.heap.size + 1, 3, none⟩ = some (.int .u16 in_) := kb.cell 3
      have x4 : w1.cell? ⟨w.heap.size + 1, 4, none⟩ = some (.int .u32 tsn) := kb.cell 4
      have x5 : w1.cell? ⟨w.heap.size + 1, 5, none⟩ = some (.slice Ax nx cx) := kb.cell 5
      clear kb
      refine does_value rfl (wanted_at rfl rfl (hc.dep hl 2 13 rfl (by kernel_rfl))) (.agg #[.int .u32 tag, .int .u32 rwnd, .int .u16 out, .int .u16 in_, .int .u32 tsn, .slice Ax nx cx]) w1 ?_ (Below.refl _ _) rfl
      clear hc hl
      go_simp
    · intro listed a w1 hl hc
      have h15 : a.tmps[15]?.getD undef = .func (.func 62) #[] #[.pointer (some ⟨q, 0, none⟩)] := hc.dep hl 4 15 rfl (by kernel_rfl)
      have h16 : a.tmps[16]?.getD undef = .agg #[.int .u32 tag, .int .u32 rwnd, .int .u16 out, .int .u16 in_, .int .u32 tsn, .slice Ax nx cx] := hc.dep hl 5 16 rfl (by kernel_rfl)
      refine does_call rfl (wanted_at rfl rfl (hc.dep hl 2 13 rfl (by kernel_rfl))) 62 #[.agg #[.int .u32 tag, .int .u32 rwnd, .int .u16 out, .int .u16 in_, .int .u32 tsn, .slice Ax nx cx], .pointer (some ⟨q, 0, none⟩)] ?_ ((HPUT.out w1 (B0.out.trans (hc.g.mono B0.out.size))).mono fun e w' ⟨A9, c9, he, ho, hb⟩ => ⟨_, he, hb, A9, c9, rfl, ho.more (Nat.le_trans B0.out.size hc.g.size)⟩)
      clear hc hl
      go_simp
    · intro listed a w1 hl hc
      have h14 : a.tmps[14]?.getD undef = .agg #[.int .u8 (k.toNat : Int), .int .u8 (f.toNat : Int), .slice A n c] := hc.dep hl 3 14 rfl (by kernel_rfl)
      obtain ⟨A17, c17, h17, ho17⟩ := hc.dep hl 6 17 rfl (by kernel_rfl)
      refine does_call rfl (wanted_at rfl rfl (hc.dep hl 2 13 rfl (by kernel_rfl))) 79 #[.agg #[.int .u8 (k.toNat : Int), .int .u8 (f.toNat : Int), .slice A n c], .agg #[.int .u8 (pk.toNat : Int), .int .u8 (pf.toNat : Int), .slice A17 ys.length c17]] ?_ ((HSM.out w1 _ _ (B0.out.trans (hc.g.mono B0.out.size)) ho17).mono fun e w' ⟨he, hb⟩ => ⟨_, he, hb, rfl⟩)
      clear hc hl
      go_simp
    · intro listed a w1 hl hc
      have h18 : a.tmps[18]?.getD undef = .bool false := hc.dep hl 7 18 rfl (by kernel_rfl)
      refine does_value rfl (wanted_at rfl rfl (hc.dep hl 2 13 rfl (by kernel_rfl))) (.bool true) w1 ?_ (Below.refl _ _) rfl
      clear hc hl
      go_simp
  intro w2 hb2
  rintro _ rfl _ rfl _ rfl _ rfl _ rfl _ rfl _ ⟨A17, c17, rfl, ho17⟩ _ rfl _ rfl
  simp only [Thus, List.reverse_cons, List.reverse_nil, List.nil_append, List.cons_append, List.drop, List.take, lay]
  go_frame
  have B2 := Lib.hid (below_then B0.out (Nat.le_refl _) hb2)
  have K1b := Lib.hid (K1.out.below hb2 K1.out.lt)
  have K2b := Lib.hid (K2.out.below hb2 K2.out.lt)
  clear hb2
  have y0 : w2.cell? ⟨w.heap.size + 1 + 1, 0, none⟩ = some (.int .u32 0) := K2b.out.cell 0
  have q0 : w2.frozen? ⟨w.heap.size + 1 + 1, 0, none⟩ = false := K2b.out.frozen 0
  have y1 : w2.cell? ⟨w.heap.size + 1 + 1, 1, none⟩ = some (.int .u32 0) := K2b.out.cell 1
  have q1 : w2.frozen? ⟨w.heap.size + 1 + 1, 1, none⟩ = false := K2b.out.frozen 1
  have y2 : w2.cell? ⟨w.heap.size + 1 + 1, 2, none⟩ = some (.int .u16 0) := K2b.out.cell 2
  have q2 : w2.frozen? ⟨w.heap.size + 1 + 1, 2, none⟩ = false := K2b.out.frozen 2
  have y3 : w2.cell? ⟨w.heap.size + 1 + 1, 3, none⟩ = some (.int .u16 0) := K2b.out.cell 3
  have q3 : w2.frozen? ⟨w.heap.size + 1 + 1, 3, none⟩ = false := K2b.out.frozen 3
  have y4 : w2.cell? ⟨w.heap.size + 1 + 1, 4, none⟩ = some (.int .u32 0) := K2b.out.cell 4
  have q4 : w2.frozen? ⟨w.heap.size + 1 + 1, 4, none⟩ = false := K2b.out.frozen 4
  have y5 : w2.cell? ⟨w.heap.size + 1 + 1, 5, none⟩ = some (.slice none 0 0) := K2b.out.cell 5
  have q5 : w2.frozen? ⟨w.heap.size + 1 + 1, 5, none⟩ = false := K2b.out.frozen 5
  have hlt2 : w.heap.size + 1 + 1 < w2.heap.size := K2b.out.lt
  go_wp2_with fail
  have H3 := (((((((K2b.out.set_ 0 (.int .u32 0)).set_ 1 (.int .u32 0)).set_ 2 (.int .u16 0)).set_ 3 (.int .u16 0)).set_ 4 (.int .u32 0)).set_ 5 (.slice none 0 0)).alloc (.cells #[.int .u32 0, .int .u32 0, .int .u16 0, .int .u16 0, .int .u32 0, .slice none 0 0] 43))
  exact bodyPost_ret (v := .tuple #[.agg #[.int .u32 0, .int .u32 0, .int .u16 0, .int .u16 0, .int .u32 0, .slice none 0 0], .int .i64 7]) (by simp [results, Try.results63, go_sem, H3.cell]) rfl ⟨rfl, (((((((B2.out.setCell (p := ⟨w.heap.size + 1 + 1, 0, none⟩) (show w.heap.size ≤ w.heap.size + 1 + 1 by omega) (.int .u32 0)).setCell (p := ⟨w.heap.size + 1 + 1, 1, none⟩) (show w.heap.size ≤ w.heap.size + 1 + 1 by omega) (.int .u32 0)).setCell (p := ⟨w.heap.size + 1 + 1, 2, none⟩) (show w.heap.size ≤ w.heap.size + 1 + 1 by omega) (.int .u16 0)).setCell (p := ⟨w.heap.size + 1 + 1, 3, none⟩) (show w.heap.size ≤ w.heap.size + 1 + 1 by omega) (.int .u16 0)).setCell (p := ⟨w.heap.size + 1 + 1, 4, none⟩) (show w.heap.size ≤ w.heap.size + 1 + 1 by omega) (.int .u32 0)).setCell (p := ⟨w.heap.size + 1 + 1, 5, none⟩) (show w.heap.size ≤ w.heap.size + 1 + 1 by omega) (.slice none 0 0)).alloc (by have := B2.out.size; simpa using this) (.cells #[.int .u32 0, .int .u32 0, .int .u16 0, .int .u16 0, .int .u32 0, .slice none 0 0] 43))⟩
set_option maxRecDepth 100000 in
set_option maxHeartbeats 4000000 in
theorem checkedS_off (k f : UInt8) (A : Option Addr) (n c : Nat) (cum rwnd : Int) (Ax : Option Addr) (nx cx : Nat) (Ay : Option Addr) (ny cy : Nat) (w : World) :
    Calls Try.prog 67 #[.agg #[.int .u8 (k.toNat : Int), .int .u8 (f.toNat : Int), .slice A n c], .agg #[.int .u32 cum, .int .u32 rwnd, .slice Ax nx cx, .slice Ay ny cy], .bool false, .func (.func 29) #[] #[]] w fun e w' => e = .returned (.tuple #[.agg #[.int .u32 0, .int .u32 0, .slice none 0 0, .slice none 0 0], .int .i64 7]) ∧ Below w.heap.size w w' := by
  have hz := zero_sack
  have b0 : Blk (w.alloc (.cells #[.int .u8 (k.toNat : Int), .int .u8 (f.toNat : Int), .slice A n c] 28)) w.heap.size 28 #[.int .u8 (k.toNat : Int), .int .u8 (f.toNat : Int), .slice A n c] := Blk.new w 28 #[.int .u8 (k.toNat : Int), .int .u8 (f.toNat : Int), .slice A n c]
  have b1 : Blk ((w.alloc (.cells #[.int .u8 (k.toNat : Int), .int .u8 (f.toNat : Int), .slice A n c] 28)).alloc (.cells #[.int .u32 cum, .int .u32 rwnd, .slice Ax nx cx, .slice Ay ny cy] 52)) (w.heap.size + 1) 52 #[.int .u32 cum, .int .u32 rwnd, .slice Ax nx cx, .slice Ay ny cy] := by simpa using Blk.new (w.alloc (.cells #[.int .u8 (k.toNat : Int), .int .u8 (f.toNat : Int), .slice A n c] 28)) 52 #[.int .u32 cum, .int .u32 rwnd, .slice Ax nx cx, .slice Ay ny cy]
  have b2 : Blk (((w.alloc (.cells #[.int .u8 (k.toNat : Int), .int .u8 (f.toNat : Int), .slice A n c] 28)).alloc (.cells #[.int .u32 cum, .int .u32 rwnd, .slice Ax nx cx, .slice Ay ny cy] 52)).alloc (.cells #[.int .u32 0, .int .u32 0, .slice none 0 0, .slice none 0 0] 52)) (w.heap.size + 1 + 1) 52 #[.int .u32 0, .int .u32 0, .slice none 0 0, .slice none 0 0] := by simpa using Blk.new ((w.alloc (.cells #[.int .u8 (k.toNat : Int), .int .u8 (f.toNat : Int), .slice A n c] 28)).alloc (.cells #[.int .u32 cum, .int .u32 rwnd, .slice Ax nx cx, .slice Ay ny cy] 52)) 52 #[.int .u32 0, .int .u32 0, .slice none 0 0, .slice none 0 0]
  have K0 := Lib.hid ((b0.alloc (.cells #[.int .u32 cum, .int .u32 rwnd, .slice Ax nx cx, .slice Ay ny cy] 52)).alloc (.cells #[.int .u32 0, .int .u32 0, .slice none 0 0, .slice none 0 0] 52))
  have K1 := Lib.hid (b1.alloc (.cells #[.int .u32 0, .int .u32 0, .slice none 0 0, .slice none 0 0] 52))
  have K2 := Lib.hid b2
  have B0 : Hid (Below w.heap.size w (((w.alloc (.cells #[.int .u8 (k.toNat : Int), .int .u8 (f.toNat : Int), .slice A n c] 28)).alloc (.cells #[.int .u32 cum, .int .u32 rwnd, .slice Ax nx cx, .slice Ay ny cy] 52)).alloc (.cells #[.int .u32 0, .int .u32 0, .slice none 0 0, .slice none 0 0] 52))) := Lib.hid (Wr.below_ ((((Wr.refl 5 w.heap.size w).alloc (.cells #[.int .u8 (k.toNat : Int), .int .u8 (f.toNat : Int), .slice A n c] 28)).alloc (.cells #[.int .u32 cum, .int .u32 rwnd, .slice Ax nx cx, .slice Ay ny cy] 52)).alloc (.cells #[.int .u32 0, .int .u32 0, .slice none 0 0, .slice none 0 0] 52)) (Nat.le_refl _))
  clear b0 b1 b2
  go_enter Try.func67, Try.ntmps67
  rw [drawn_eq 1]
  go_wp2_with fail
  generalize (((w.alloc (.cells #[.int .u8 (k.toNat : Int), .int .u8 (f.toNat : Int), .slice A n c] 28)).alloc (.cells #[.int .u32 cum, .int .u32 rwnd, .slice Ax nx cx, .slice Ay ny cy] 52)).alloc (.cells #[.int .u32 0, .int .u32 0, .slice none 0 0, .slice none 0 0] 52)) = v0 at K0 K1 K2 B0 ⊢
  rw [← drawn_eq 1]
  refine wp_region_grow_tail 9 (by kernel_rfl) [(Is (.bool false)), (Is (.bool true)), (Is (.bool true)), (Is undef), (Is undef), (Is undef), (Is undef), (Is undef), (Is undef)] rfl ?_ (by kernel_rfl) (by kernel_rfl) ?_ ?_
  · intro p hp
    simp only [List.mem_cons, List.not_mem_nil, or_false] at hp
    rcases hp with rfl | rfl | rfl | rfl | rfl | rfl | rfl | rfl | rfl
    · exact Lasts.is _
    · exact Lasts.is _
    · exact Lasts.is _
    · exact Lasts.is _
    · exact Lasts.is _
    · exact Lasts.is _
    · exact Lasts.is _
    · exact Lasts.is _
    · exact Lasts.is _
  · refine ⟨?_, ?_, ?_, ?_, ?_, ?_, ?_, ?_, ?_, trivial⟩
    · intro listed a w1 hl hc
      have h2 : a.tmps[2]?.getD undef = .bool false := (hc.was 2 (by kernel_rfl)).trans rfl
      refine does_value rfl rfl (.bool false) w1 ?_ (Below.refl _ _) rfl
      clear hc hl
      go_simp
    · intro listed a w1 hl hc
      have h11 : a.tmps[11]?.getD undef = .bool false := hc.dep hl 0 11 rfl (by kernel_rfl)
      refine does_value rfl rfl (.bool true) w1 ?_ (Below.refl _ _) rfl
      clear hc hl
      go_simp
    · intro listed a w1 hl hc
      have h12 : a.tmps[12]?.getD undef = .bool true := hc.dep hl 1 12 rfl (by kernel_rfl)
      refine does_value rfl rfl (.bool true) w1 ?_ (Below.refl _ _) rfl
      clear hc hl
      go_simp
    · intro listed a w1 hl hc
      exact does_skip (fun _ => (Below.refl _ _)) rfl (unwanted_at rfl rfl (hc.dep hl 2 13 rfl (by kernel_rfl))) rfl
    · intro listed a w1 hl hc
      exact does_skip (fun _ => (Below.refl _ _)) rfl (unwanted_at rfl rfl (hc.dep hl 2 13 rfl (by kernel_rfl))) rfl
    · intro listed a w1 hl hc
      exact does_skip (fun _ => (Below.refl _ _)) rfl (unwanted_at rfl rfl (hc.dep hl 2 13 rfl (by kernel_rfl))) rfl
    · intro listed a w1 hl hc
      exact does_skip (fun _ => (Below.refl _ _)) rfl (unwanted_at rfl rfl (hc.dep hl 2 13 rfl (by kernel_rfl))) rfl
    · intro listed a w1 hl hc
      exact does_skip (fun _ => (Below.refl _ _)) rfl (unwanted_at rfl rfl (hc.dep hl 2 13 rfl (by kernel_rfl))) rfl
    · intro listed a w1 hl hc
      exact does_skip (fun _ => (Below.refl _ _)) rfl (unwanted_at rfl rfl (hc.dep hl 2 13 rfl (by kernel_rfl))) rfl
  intro w2 hb2
  rintro _ rfl _ rfl _ rfl _ rfl _ rfl _ rfl _ rfl _ rfl _ rfl
  simp only [Thus, List.reverse_cons, List.reverse_nil, List.nil_append, List.cons_append, List.drop, List.take, lay]
  go_frame
  have B2 := Lib.hid (below_then B0.out (Nat.le_refl _) hb2)
  have K1b := Lib.hid (K1.out.below hb2 K1.out.lt)
  have K2b := Lib.hid (K2.out.below hb2 K2.out.lt)
  clear hb2
  have y0 : w2.cell? ⟨w.heap.size + 1 + 1, 0, none⟩ = some (.int .u32 0) := K2b.out.cell 0
  have q0 : w2.frozen? ⟨w.heap.size + 1 + 1, 0, none⟩ = false := K2b.out.frozen 0
  have y1 : w2.cell? ⟨w.heap.size + 1 + 1, 1, none⟩ = some (.int .u32 0) := K2b.out.cell 1
  have q1 : w2.frozen? ⟨w.heap.size + 1 + 1, 1, none⟩ = false := K2b.out.frozen 1
  have y2 : w2.cell? ⟨w.heap.size + 1 + 1, 2, none⟩ = some (.slice none 0 0) := K2b.out.cell 2
  have q2 : w2.frozen? ⟨w.heap.size + 1 + 1, 2, none⟩ = false := K2b.out.frozen 2
  have y3 : w2.cell? ⟨w.heap.size + 1 + 1, 3, none⟩ = some (.slice none 0 0) := K2b.out.cell 3
  have q3 : w2.frozen? ⟨w.heap.size + 1 + 1, 3, none⟩ = false := K2b.out.frozen 3
  have hlt2 : w.heap.size + 1 + 1 < w2.heap.size := K2b.out.lt
  go_wp2_with fail
  have H3 := (((((K2b.out.set_ 0 (.int .u32 0)).set_ 1 (.int .u32 0)).set_ 2 (.slice none 0 0)).set_ 3 (.slice none 0 0)).alloc (.cells #[.int .u32 0, .int .u32 0, .slice none 0 0, .slice none 0 0] 52))
  exact bodyPost_ret (v := .tuple #[.agg #[.int .u32 0, .int .u32 0, .slice none 0 0, .slice none 0 0], .int .i64 7]) (by simp [results, Try.results67, go_sem, H3.cell]) rfl ⟨rfl, (((((B2.out.setCell (p := ⟨w.heap.size + 1 + 1, 0, none⟩) (show w.heap.size ≤ w.heap.size + 1 + 1 by omega) (.int .u32 0)).setCell (p := ⟨w.heap.size + 1 + 1, 1, none⟩) (show w.heap.size ≤ w.heap.size + 1 + 1 by omega) (.int .u32 0)).setCell (p := ⟨w.heap.size + 1 + 1, 2, none⟩) (show w.heap.size ≤ w.heap.size + 1 + 1 by omega) (.slice none 0 0)).setCell (p := ⟨w.heap.size + 1 + 1, 3, none⟩) (show w.heap.size ≤ w.heap.size + 1 + 1 by omega) (.slice none 0 0)).alloc (by have := B2.out.size; simpa using this) (.cells #[.int .u32 0, .int .u32 0, .slice none 0 0, .slice none 0 0] 52))⟩
set_option maxRecDepth 100000 in
set_option maxHeartbeats 4000000 in
theorem checkedS_yes (k f : UInt8) (A : Option Addr) (n c : Nat) (cum rwnd : Int) (Ax : Option Addr) (nx cx : Nat) (Ay : Option Addr) (ny cy : Nat) (xs ys : List UInt8) (pk pf : UInt8) (w : World) (hx : xs.length = n) (hr : Rd w w.heap.size A xs) (hres : decide (k = pk ∧ f = pf ∧ xs = ys) = true) (hput : ∀ W, Below w.heap.size w W → Puts 29 #[.agg #[.int .u32 cum, .int .u32 rwnd, .slice Ax nx cx, .slice Ay ny cy]] pk pf ys W) :
    Calls Try.prog 67 #[.agg #[.int .u8 (k.toNat : Int), .int .u8 (f.toNat : Int), .slice A n c], .agg #[.int .u32 cum, .int .u32 rwnd, .slice Ax nx cx, .slice Ay ny cy], .bool true, .func (.func 29) #[] #[]] w fun e w' => e = .returned (.tuple #[.agg #[.int .u32 cum, .int .u32 rwnd, .slice Ax nx cx, .slice Ay ny cy], .int .i64 0]) ∧ Below w.heap.size w w' := by
  have hz := zero_sack
  have HPUT := Lib.hid hput
  have HSM : Hid (∀ (W : World) (A' : Option Addr) (c' : Nat), Below w.heap.size w W → Own8 W 5 w.heap.size A' ys.length c' ys → Calls Try.prog 79 #[.agg #[.int .u8 (k.toNat : Int), .int .u8 (f.toNat : Int), .slice A n c], .agg #[.int .u8 (pk.toNat : Int), .int .u8 (pf.toNat : Int), .slice A' ys.length c']] W fun e w' => e = .returned (.bool true) ∧ Below W.heap.size W w') := Lib.hid fun W A' c' hW ho => by
    have := sameC_any k f pk pf A A' n ys.length c c' xs ys W hx rfl ((hr.below hW).more hW.size) ho.rd
    rwa [hres] at this
  clear hput hx hr hres
  have b0 : Blk (w.alloc (.cells #[.int .u8 (k.toNat : Int), .int .u8 (f.toNat : Int), .slice A n c] 28)) w.heap.size 28 #[.int .u8 (k.toNat : Int), .int .u8 (f.toNat : Int), .slice A n c] := Blk.new w 28 #[.int .u8 (k.toNat : Int), .int .u8 (f.toNat : Int), .slice A n c]
  have b1 : Blk ((w.alloc (.cells #[.int .u8 (k.toNat : Int), .int .u8 (f.toNat : Int), .slice A n c] 28)).alloc (.cells #[.int .u32 cum, .int .u32 rwnd, .slice Ax nx cx, .slice Ay ny cy] 52)) (w.heap.size + 1) 52 #[.int .u32 cum, .int .u32 rwnd, .slice Ax nx cx, .slice Ay ny cy] := by simpa using Blk.new (w.alloc (.cells #[.int .u8 (k.toNat : Int), .int .u8 (f.toNat : Int), .slice A n c] 28)) 52 #[.int .u32 cum, .int .u32 rwnd, .slice Ax nx cx, .slice Ay ny cy]
  have b2 : Blk (((w.alloc (.cells #[.int .u8 (k.toNat : Int), .int .u8 (f.toNat : Int), .slice A n c] 28)).alloc (.cells #[.int .u32 cum, .int .u32 rwnd, .slice Ax nx cx, .slice Ay ny cy] 52)).alloc (.cells #[.int .u32 0, .int .u32 0, .slice none 0 0, .slice none 0 0] 52)) (w.heap.size + 1 + 1) 52 #[.int .u32 0, .int .u32 0, .slice none 0 0, .slice none 0 0] := by simpa using Blk.new ((w.alloc (.cells #[.int .u8 (k.toNat : Int), .int .u8 (f.toNat : Int), .slice A n c] 28)).alloc (.cells #[.int .u32 cum, .int .u32 rwnd, .slice Ax nx cx, .slice Ay ny cy] 52)) 52 #[.int .u32 0, .int .u32 0, .slice none 0 0, .slice none 0 0]
  have K0 := Lib.hid ((b0.alloc (.cells #[.int .u32 cum, .int .u32 rwnd, .slice Ax nx cx, .slice Ay ny cy] 52)).alloc (.cells #[.int .u32 0, .int .u32 0, .slice none 0 0, .slice none 0 0] 52))
  have K1 := Lib.hid (b1.alloc (.cells #[.int .u32 0, .int .u32 0, .slice none 0 0, .slice none 0 0] 52))
  have K2 := Lib.hid b2
  have B0 : Hid (Below w.heap.size w (((w.alloc (.cells #[.int .u8 (k.toNat : Int), .int .u8 (f.toNat : Int), .slice A n c] 28)).alloc (.cells #[.int .u32 cum, .int .u32 rwnd, .slice Ax nx cx, .slice Ay ny cy] 52)).alloc (.cells #[.int .u32 0, .int .u32 0, .slice none 0 0, .slice none 0 0] 52))) := Lib.hid (Wr.below_ ((((Wr.refl 5 w.heap.size w).alloc (.cells #[.int .u8 (k.toNat : Int), .int .u8 (f.toNat : Int), .slice A n c] 28)).alloc (.cells #[.int .u32 cum, .int .u32 rwnd, .slice Ax nx cx, .slice Ay ny cy] 52)).alloc (.cells #[.int .u32 0, .int .u32 0, .slice none 0 0, .slice none 0 0] 52)) (Nat.le_refl _))
  clear b0 b1 b2
  go_enter Try.func67, Try.ntmps67
  rw [drawn_eq 1]
  go_wp2_with fail
  generalize (((w.alloc (.cells #[.int .u8 (k.toNat : Int), .int .u8 (f.toNat : Int), .slice A n c] 28)).alloc (.cells #[.int .u32 cum, .int .u32 rwnd, .slice Ax nx cx, .slice Ay ny cy] 52)).alloc (.cells #[.int .u32 0, .int .u32 0, .slice none 0 0, .slice none 0 0] 52)) = v0 at K0 K1 K2 B0 ⊢
  rw [← drawn_eq 1]
  refine wp_region_grow_tail 9 (by kernel_rfl) [(Is (.bool true)), (Is (.bool false)), (Is (.bool false)), (Is (.agg #[.int .u8 (k.toNat : Int), .int .u8 (f.toNat : Int), .slice A n c])), (Is (.func (.func 29) #[] #[])), (Is (.agg #[.int .u32 cum, .int .u32 rwnd, .slice Ax nx cx, .slice Ay ny cy])), (NewAgg 5 w.heap.size ys.length ys (fun s => .agg #[.int .u8 (pk.toNat : Int), .int .u8 (pf.toNat : Int), s])), (Is (.bool true)), (Is (.bool false))] rfl ?_ (by kernel_rfl) (by kernel_rfl) ?_ ?_
  · intro p hp
    simp only [List.mem_cons, List.not_mem_nil, or_false] at hp
    rcases hp with rfl | rfl | rfl | rfl | rfl | rfl | rfl | rfl | rfl
    · exact Lasts.is _
    · exact Lasts.is _
    · exact Lasts.is _
    · exact Lasts.is _
    · exact Lasts.is _
    · exact Lasts.is _
    · exact Lasts.newAgg _ _ _ _ _
    · exact Lasts.is _
    · exact Lasts.is _
  · refine ⟨?_, ?_, ?_, ?_, ?_, ?_, ?_, ?_, ?_, trivial⟩
    · intro listed a w1 hl hc
      have h2 : a.tmps[2]?.getD undef = .bool true := (hc.was 2 (by kernel_rfl)).trans rfl
      refine does_value rfl rfl (.bool true) w1 ?_ (Below.refl _ _) rfl
      clear hc hl
      go_simp
    · intro listed a w1 hl hc
      have h11 : a.tmps[11]?.getD undef = .bool true := hc.dep hl 0 11 rfl (by kernel_rfl)
      refine does_value rfl rfl (.bool false) w1 ?_ (Below.refl _ _) rfl
      clear hc hl
      go_simp
    · intro listed a w1 hl hc
      have h12 : a.tmps[12]?.getD undef = .bool false := hc.dep hl 1 12 rfl (by kernel_rfl)
      refine does_value rfl rfl (.bool false) w1 ?_ (Below.refl _ _) rfl
      clear hc hl
      go_simp
    · intro listed a w1 hl hc
      have h4 : a.tmps[4]?.getD undef = .pointer (some ⟨w.heap.size, 0, none⟩) := (hc.was 4 (by kernel_rfl)).trans rfl
      have kb := K0.out.below hc.g K0.out.lt
      have x0 : w1.cell? ⟨w.heap.size, 0, none⟩ = some (.int .u8 (k.toNat : Int)) := kb.cell 0
      have x1 : w1.cell? ⟨w.heap.size, 1, none⟩ = some (.int .u8 (f.toNat : Int)) := kb.cell 1
      have x2 : w1.cell? ⟨w.heap.size, 2, none⟩ = some (.slice A n c) := kb.cell 2
      clear kb
      refine does_value rfl (wanted_at rfl rfl (hc.dep hl 2 13 rfl (by kernel_rfl))) (.agg #[.int .u8 (k.toNat : Int), .int .u8 (f.toNat : Int), .slice A n c]) w1 ?_ (Below.refl _ _) rfl
      clear hc hl
      go_simp
    · intro listed a w1 hl hc
      have h3 : a.tmps[3]?.getD undef = .func (.func 29) #[] #[] := (hc.was 3 (by kernel_rfl)).trans rfl
      refine does_value rfl (wanted_at rfl rfl (hc.dep hl 2 13 rfl (by kernel_rfl))) (.func (.func 29) #[] #[]) w1 ?_ (Below.refl _ _) rfl
      clear hc hl
      go_simp
    · intro listed a w1 hl hc
      have h5 : a.tmps[5]?.getD undef = .pointer (some ⟨w.heap.size + 1, 0, none⟩) := (hc.was 5 (by kernel_rfl)).trans rfl
      have kb := K1.out.below hc.g K1.out.lt
      have x0 : w1.cell? ⟨w.heap.size + 1, 0, none⟩ = some (.int .u32 cum) := kb.cell 0
      have x1 : w1.cell? ⟨w.heap.size + 1, 1, none⟩ = some (.int .u32 rwnd) := kb.cell 1
      have x2 : w1.cell? ⟨w.heap.size + 1, 2, none⟩ = some (.slice Ax nx cx) := kb.cell 2
      have x3 : w1.cell? ⟨w.heap.size + 1, 3, none⟩ = some (.slice Ay ny cy) := kb.cell 3
      clear kb
      refine does_value rfl (wanted_at rfl rfl (hc.dep hl 2 13 rfl (by kernel_rfl))) (.agg #[.int .u32 cum, .int .u32 rwnd, .slice Ax nx cx, .slice Ay ny cy]) w1 ?_ (Below.refl _ _) rfl
      clear hc hl
      go_simp
    · intro listed a w1 hl hc
      have h15 : a.tmps[15]?.getD undef = .func (.func 29) #[] #[] := hc.dep hl 4 15 rfl (by kernel_rfl)
      have h16 : a.tmps[16]?.getD undef = .agg #[.int .u32 cum, .int .u32 rwnd, .slice Ax nx cx, .slice Ay ny cy] := hc.dep hl 5 16 rfl (by kernel_rfl)
      refine does_call rfl (wanted_at rfl rfl (hc.dep hl 2 13 rfl (by kernel_rfl))) 29 #[.agg #[.int .u32 cum, .int .u32 rwnd, .slice Ax nx cx, .slice Ay ny cy]] ?_ ((HPUT.out w1 (B0.out.trans (hc.g.mono B0.out.size))).mono fun e w' ⟨A9, c9, he, ho, hb⟩ => ⟨_, he, hb, A9, c9, rfl, ho.more (Nat.le_trans B0.out.size hc.g.size)⟩)
      clear hc hl
      go_simp
    · intro listed a w1 hl hc
      have h14 : a.tmps[14]?.getD undef = .agg #[.int .u8 (k.toNat : Int), .int .u8 (f.toNat : Int), .slice A n c] := hc.dep hl 3 14 rfl (by kernel_rfl)
      obtain ⟨A17, c17, h17, ho17⟩ := hc.dep hl 6 17 rfl (by kernel_rfl)
      refine does_call rfl (wanted_at rfl rfl (hc.dep hl 2 13 rfl (by kernel_rfl))) 79 #[.agg #[.int .u8 (k.toNat : Int), .int .u8 (f.toNat : Int), .slice A n c], .agg #[.int .u8 (pk.toNat : Int), .int .u8 (pf.toNat : Int), .slice A17 ys.length c17]] ?_ ((HSM.out w1 _ _ (B0.out.trans (hc.g.mono B0.out.size)) ho17).mono fun e w' ⟨he, hb⟩ => ⟨_, he, hb, rfl⟩)
      clear hc hl
      go_simp
    · intro listed a w1 hl hc
      have h18 : a.tmps[18]?.getD undef = .bool true := hc.dep hl 7 18 rfl (by kernel_rfl)
      refine does_value rfl (wanted_at rfl rfl (hc.dep hl 2 13 rfl (by kernel_rfl))) (.bool false) w1 ?_ (Below.refl _ _) rfl
      clear hc hl
      go_simp
  intro w2 hb2
  rintro _ rfl _ rfl _ rfl _ rfl _ rfl _ rfl _ ⟨A17, c17, rfl, ho17⟩ _ rfl _ rfl
  simp only [Thus, List.reverse_cons, List.reverse_nil, List.nil_append, List.cons_append, List.drop, List.take, lay]
  go_frame
  have B2 := Lib.hid (below_then B0.out (Nat.le_refl _) hb2)
  have K1b := Lib.hid (K1.out.below hb2 K1.out.lt)
  have K2b := Lib.hid (K2.out.below hb2 K2.out.lt)
  clear hb2
  have y0 : w2.cell? ⟨w.heap.size + 1 + 1, 0, none⟩ = some (.int .u32 0) := K2b.out.cell 0
  have q0 : w2.frozen? ⟨w.heap.size + 1 + 1, 0, none⟩ = false := K2b.out.frozen 0
  have u0 : w2.cell? ⟨w.heap.size + 1, 0, none⟩ = some (.int .u32 cum) := K1b.out.cell 0
  have y1 : w2.cell? ⟨w.heap.size + 1 + 1, 1, none⟩ = some (.int .u32 0) := K2b.out.cell 1
  have q1 : w2.frozen? ⟨w.heap.size + 1 + 1, 1, none⟩ = false := K2b.out.frozen 1
  have u1 : w2.cell? ⟨w.heap.size + 1, 1, none⟩ = some (.int .u32 rwnd) := K1b.out.cell 1
  have y2 : w2.cell? ⟨w.heap.size + 1 + 1, 2, none⟩ = some (.slice none 0 0) := K2b.out.cell 2
  have q2 : w2.frozen? ⟨w.heap.size + 1 + 1, 2, none⟩ = false := K2b.out.frozen 2
  have u2 : w2.cell? ⟨w.heap.size + 1, 2, none⟩ = some (.slice Ax nx cx) := K1b.out.cell 2
  have y3 : w2.cell? ⟨w.heap.size + 1 + 1, 3, none⟩ = some (.slice none 0 0) := K2b.out.cell 3
  have q3 : w2.frozen? ⟨w.heap.size + 1 + 1, 3, none⟩ = false := K2b.out.frozen 3
  have u3 : w2.cell? ⟨w.heap.size + 1, 3, none⟩ = some (.slice Ay ny cy) := K1b.out.cell 3
  go_wp2_with fail
  have H3 := ((((K2b.out.set_ 0 (.int .u32 cum)).set_ 1 (.int .u32 rwnd)).set_ 2 (.slice Ax nx cx)).set_ 3 (.slice Ay ny cy))
  exact bodyPost_ret (v := .tuple #[.agg #[.int .u32 cum, .int .u32 rwnd, .slice Ax nx cx, .slice Ay ny cy], .int .i64 0]) (by simp [results, Try.results67, go_sem, H3.cell]) rfl ⟨rfl, ((((B2.out.setCell (p := ⟨w.heap.size + 1 + 1, 0, none⟩) (show w.heap.size ≤ w.heap.size + 1 + 1 by omega) (.int .u32 cum)).setCell (p := ⟨w.heap.size + 1 + 1, 1, none⟩) (show w.heap.size ≤ w.heap.size + 1 + 1 by omega) (.int .u32 rwnd)).setCell (p := ⟨w.heap.size + 1 + 1, 2, none⟩) (show w.heap.size ≤ w.heap.size + 1 + 1 by omega) (.slice Ax nx cx)).setCell (p := ⟨w.heap.size + 1 + 1, 3, none⟩) (show w.heap.size ≤ w.heap.size + 1 + 1 by omega) (.slice Ay ny cy))⟩
set_option maxRecDepth 100000 in
set_option maxHeartbeats 4000000 in
theorem checkedS_no (k f : UInt8) (A : Option Addr) (n c : Nat) (cum rwnd : Int) (Ax : Option Addr) (nx cx : Nat) (Ay : Option Addr) (ny cy : Nat) (xs ys : List UInt8) (pk pf : UInt8) (w : World) (hx : xs.length = n) (hr : Rd w w.heap.size A xs) (hres : decide (k = pk ∧ f = pf ∧ xs = ys) = false) (hput : ∀ W, Below w.heap.size w W → Puts 29 #[.agg #[.int .u32 cum, .int .u32 rwnd, .slice Ax nx cx, .slice Ay ny cy]] pk pf ys W) :
    Calls Try.prog 67 #[.agg #[.int .u8 (k.toNat : Int), .int .u8 (f.toNat : Int), .slice A n c], .agg #[.int .u32 cum, .int .u32 rwnd, .slice Ax nx cx, .slice Ay ny cy], .bool true, .func (.func 29) #[] #[]] w fun e w' => e = .returned (.tuple #[.agg #[.int .u32 0, .int .u32 0, .slice none 0 0, .slice none 0 0], .int .i64 7]) ∧ Below w.heap.size w w' := by
  have hz := zero_sack
  have HPUT := Lib.hid hput
  have HSM : Hid (∀ (W : World) (A' : Option Addr) (c' : Nat), Below w.heap.size w W → Own8 W 5 w.heap.size A' ys.length c' ys → Calls Try.prog 79 #[.agg #[.int .u8 (k.toNat : Int), .int .u8 (f.toNat : Int), .slice A n c], .agg #[.int .u8 (pk.toNat : Int), .int .u8 (pf.toNat : Int), .slice A' ys.length c']] W fun e w' => e = .returned (.bool false) ∧ Below W.heap.size W w') := Lib.hid fun W A' c' hW ho => by
    have := sameC_any k f pk pf A A' n ys.length c c' xs ys W hx rfl ((hr.below hW).more hW.size) ho.rd
    rwa [hres] at this
  clear hput hx hr hres
  have b0 : Blk (w.alloc (.cells #[.int .u8 (k.toNat : Int), .int .u8 (f.toNat : Int), .slice A n c] 28)) w.heap.size 28 #[.int .u8 (k.toNat : Int), .int .u8 (f.toNat : Int), .slice A n c] := Blk.new w 28 #[.int .u8 (k.toNat : Int), .int .u8 (f.toNat : Int), .slice A n c]
  have b1 : Blk ((w.alloc (.cells #[.int .u8 (k.toNat : Int), .int .u8 (f.toNat : Int), .slice A n c] 28)).alloc (.cells #[.int .u32 cum, .int .u32 rwnd, .slice Ax nx cx, .slice Ay ny cy] 52)) (w.heap.size + 1) 52 #[.int .u32 cum, .int .u32 rwnd, .slice Ax nx cx, .slice Ay ny cy] := by simpa using Blk.new (w.alloc (.cells #[.int .u8 (k.toNat : Int), .int .u8 (f.toNat : Int), .slice A n c] 28)) 52 #[.int .u32 cum, .int .u32 rwnd, .slice Ax nx cx, .slice Ay ny cy]
  have b2 : Blk (((w.alloc (.cells #[.int .u8 (k.toNat : Int), .int .u8 (f.toNat : Int), .slice A n c] 28)).alloc (.cells #[.int .u32 cum, .int .u32 rwnd, .slice Ax nx cx, .slice Ay ny cy] 52)).alloc (.cells #[.int .u32 0, .int .u32 0, .slice none 0 0, .slice none 0 0] 52)) (w.heap.size + 1 + 1) 52 #[.int .u32 0, .int .u32 0, .slice none 0 0, .slice none 0 0] := by simpa using Blk.new ((w.alloc (.cells #[.int .u8 (k.toNat : Int), .int .u8 (f.toNat : Int), .slice A n c] 28)).alloc (.cells #[.int .u32 cum, .int .u32 rwnd, .slice Ax nx cx, .slice Ay ny cy] 52)) 52 #[.int .u32 0, .int .u32 0, .slice none 0 0, .slice none 0 0]
  have K0 := Lib.hid ((b0.alloc (.cells #[.int .u32 cum, .int .u32 rwnd, .slice Ax nx cx, .slice Ay ny cy] 52)).alloc (.cells #[.int .u32 0, .int .u32 0, .slice none 0 0, .slice none 0 0] 52))
  have K1 := Lib.hid (b1.alloc (.cells #[.int .u32 0, .int .u32 0, .slice none 0 0, .slice none 0 0] 52))
  have K2 := Lib.hid b2
  have B0 : Hid (Below w.heap.size w (((w.alloc (.cells #[.int .u8 (k.toNat : Int), .int .u8 (f.toNat : Int), .slice A n c] 28)).alloc (.cells #[.int .u32 cum, .int .u32 rwnd, .slice Ax nx cx, .slice Ay ny cy] 52)).alloc (.cells #[.int .u32 0, .int .u32 0, .slice none 0 0, .slice none 0 0] 52))) := Lib.hid (Wr.below_ ((((Wr.refl 5 w.heap.size w).alloc (.cells #[.int .u8 (k.toNat : Int), .int .u8 (f.toNat : Int), .slice A n c] 28)).alloc (.cells #[.int .u32 cum, .int .u32 rwnd, .slice Ax nx cx, .slice Ay ny cy] 52)).alloc (.cells #[.int .u32 0, .int .u32 0, .slice none 0 0, .slice none 0 0] 52)) (Nat.le_refl _))
  clear b0 b1 b2
  go_enter Try.func67, Try.ntmps67
  rw [drawn_eq 1]
  go_wp2_with fail
  generalize (((w.alloc (.cells #[.int .u8 (k.toNat : Int), .int .u8 (f.toNat : Int), .slice A n c] 28)).alloc (.cells #[.int .u32 cum, .int .u32 rwnd, .slice Ax nx cx, .slice Ay ny cy] 52)).alloc (.cells #[.int .u32 0, .int .u32 0, .slice none 0 0, .slice none 0 0] 52)) = v0 at K0 K1 K2 B0 ⊢
  rw [← drawn_eq 1]
  refine wp_region_grow_tail 9 (by kernel_rfl) [(Is (.bool true)), (Is (.bool false)), (Is (.bool false)), (Is (.agg #[.int .u8 (k.toNat : Int), .int .u8 (f.toNat : Int), .slice A n c])), (Is (.func (.func 29) #[] #[])), (Is (.agg #[.int .u32 cum, .int .u32 rwnd, .slice Ax nx cx, .slice Ay ny cy])), (NewAgg 5 w.heap.size ys.length ys (fun s => .agg #[.int .u8 (pk.toNat : Int), .int .u8 (pf.toNat : Int), s])), (Is (.bool false)), (Is (.bool true))] rfl ?_ (by kernel_rfl) (by kernel_rfl) ?_ ?_
  · intro p hp
    simp only [List.mem_cons, List.not_mem_nil, or_false] at hp
    rcases hp with rfl | rfl | rfl | rfl | rfl | rfl | rfl | rfl | rfl
    · exact Lasts.is _
    · exact Lasts.is _
    · exact Lasts.is _
    · exact Lasts.is _
    · exact Lasts.is _
    · exact Lasts.is _
    · exact Lasts.newAgg _ _ _ _ _
    · exact Lasts.is _
    · exact Lasts.is _
  · refine ⟨?_, ?_, ?_, ?_, ?_, ?_, ?_, ?_, ?_, trivial⟩
    · intro listed a w1 hl hc
      have h2 : a.tmps[2]?.getD undef = .bool true := (hc.was 2 (by kernel_rfl)).trans rfl
      refine does_value rfl rfl (.bool true) w1 ?_ (Below.refl _ _) rfl
      clear hc hl
      go_simp
    · intro listed a w1 hl hc
      have h11 : a.tmps[11]?.getD undef = .bool true := hc.dep hl 0 11 rfl (by kernel_rfl)
      refine does_value rfl rfl (.bool false) w1 ?_ (Below.refl _ _) rfl
      clear hc hl
      go_simp
    · intro listed a w1 hl hc
      have h12 : a.tmps[12]?.getD undef = .bool false := hc.dep hl 1 12 rfl (by kernel_rfl)
      refine does_value rfl rfl (.bool false) w1 ?_ (Below.refl _ _) rfl
      clear hc hl
      go_simp
    · intro listed a w1 hl hc
      have h4 : a.tmps[4]?.getD undef = .pointer (some ⟨w.heap.size, 0, none⟩) := (hc.was 4 (by kernel_rfl)).trans rfl
      have kb := K0.out.below hc.g K0.out.lt
      have x0 : w1.cell? ⟨w.heap.size, 0, none⟩ = some (.int .u8 (k.toNat : Int)) := kb.cell 0
      have x1 : w1.cell? ⟨w.heap.size, 1, none⟩ = some (.int .u8 (f.toNat : Int)) := kb.cell 1
      have x2 : w1.cell? ⟨w.heap.size, 2, none⟩ = some (.slice A n c) := kb.cell 2
      clear kb
      refine does_value rfl (wanted_at rfl rfl (hc.dep hl 2 13 rfl (by kernel_rfl))) (.agg #[.int .u8 (k.toNat : Int), .int .u8 (f.toNat : Int), .slice A n c]) w1 ?_ (Below.refl _ _) rfl
      clear hc hl
      go_simp
    · intro listed a w1 hl hc
      have h3 : a.tmps[3]?.getD undef = .func (.func 29) #[] #[] := (hc.was 3 (by kernel_rfl)).trans rfl
      refine does_value rfl (wanted_at rfl rfl (hc.dep hl 2 13 rfl (by kernel_rfl))) (.func (.func 29) #[] #[]) w1 ?_ (Below.refl _ _) rfl
      clear hc hl
      go_simp
    · intro listed a w1 hl hc
      have h5 : a.tmps[5]?.getD undef = .pointer (some ⟨w.heap.size + 1, 0, none⟩) := (hc.was 5 (by kernel_rfl)).trans rfl
      have kb := K1.out.below hc.g K1.out.lt
      have x0 : w1.cell? ⟨w.heap.size + 1, 0, none⟩ = some (.int .u32 cum) := kb.cell 0
      have x1 : w1.cell? ⟨w.heap.size + 1, 1, none⟩ = some (.int .u32 rwnd) := kb.cell 1
      have x2 : w1.cell? ⟨w.heap.size + 1, 2, none⟩ = some (.slice Ax nx cx) := kb.cell 2
      have x3 : w1.cell? ⟨w.heap.size + 1, 3, none⟩ = some (.slice Ay ny cy) := kb.cell 3
      clear kb
      refine does_value rfl (wanted_at rfl rfl (hc.dep hl 2 13 rfl (by kernel_rfl))) (.agg #[.int .u32 cum, .int .u32 rwnd, .slice Ax nx cx, .slice Ay ny cy]) w1 ?_ (Below.refl _ _) rfl
      clear hc hl
      go_simp
    · intro listed a w1 hl hc
      have h15 : a.tmps[15]?.getD undef = .func (.func 29) #[] #[] := hc.dep hl 4 15 rfl (by kernel_rfl)
      have h16 : a.tmps[16]?.getD undef = .agg #[.int .u32 cum, .int .u32 rwnd, .slice Ax nx cx, .slice Ay ny cy] := hc.dep hl 5 16 rfl (by kernel_rfl)
      refine does_call rfl (wanted_at rfl rfl (hc.dep hl 2 13 rfl (by kernel_rfl))) 29 #[.agg #[.int .u32 cum, .int .u32 rwnd, .slice Ax nx cx, .slice Ay ny cy]] ?_ ((HPUT.out w1 (B0.out.trans (hc.g.mono B0.out.size))).mono fun e w' ⟨A9, c9, he, ho, hb⟩ => ⟨_, he, hb, A9, c9, rfl, ho.more (Nat.le_trans B0.out.size hc.g.size)⟩)
      clear hc hl
      go_simp
    · intro listed a w1 hl hc
      have h14 : a.tmps[14]?.getD undef = .agg #[.int .u8 (k.toNat : Int), .int .u8 (f.toNat : Int), .slice A n c] := hc.dep hl 3 14 rfl (by kernel_rfl)
      obtain ⟨A17, c17, h17, ho17⟩ := hc.dep hl 6 17 rfl (by kernel_rfl)
      refine does_call rfl (wanted_at rfl rfl (hc.dep hl 2 13 rfl (by kernel_rfl))) 79 #[.agg #[.int .u8 (k.toNat : Int), .int .u8 (f.toNat : Int), .slice A n c], .agg #[.int .u8 (pk.toNat : Int), .int .u8 (pf.toNat : Int), .slice A17 ys.length c17]] ?_ ((HSM.out w1 _ _ (B0.out.trans (hc.g.mono B0.out.size)) ho17).mono fun e w' ⟨he, hb⟩ => ⟨_, he, hb, rfl⟩)
      clear hc hl
      go_simp
    · intro listed a w1 hl hc
      have h18 : a.tmps[18]?.getD undef = .bool false := hc.dep hl 7 18 rfl (by kernel_rfl)
      refine does_value rfl (wanted_at rfl rfl (hc.dep hl 2 13 rfl (by kernel_rfl))) (.bool true) w1 ?_ (Below.refl _ _) rfl
      clear hc hl
      go_simp
  intro w2 hb2
  rintro _ rfl _ rfl _ rfl _ rfl _ rfl _ rfl _ ⟨A17, c17, rfl, ho17⟩ _ rfl _ rfl
  simp only [Thus, List.reverse_cons, List.reverse_nil, List.nil_append, List.cons_append, List.drop, List.take, lay]
  go_frame
  have B2 := Lib.hid (below_then B0.out (Nat.le_refl _) hb2)
  have K1b := Lib.hid (K1.out.below hb2 K1.out.lt)
  have K2b := Lib.hid (K2.out.below hb2 K2.out.lt)
  clear hb2
  have y0 : w2.cell? ⟨w.heap.size + 1 + 1, 0, none⟩ = some (.int .u32 0) := K2b.out.cell 0
  have q0 : w2.frozen? ⟨w.heap.size + 1 + 1, 0, none⟩ = false := K2b.out.frozen 0
  have y1 : w2.cell? ⟨w.heap.size + 1 + 1, 1, none⟩ = some (.int .u32 0) := K2b.out.cell 1
  have q1 : w2.frozen? ⟨w.heap.size + 1 + 1, 1, none⟩ = false := K2b.out.frozen 1
  have y2 : w2.cell? ⟨w.heap.size + 1 + 1, 2, none⟩ = some (.slice none 0 0) := K2b.out.cell 2
  have q2 : w2.frozen? ⟨w.heap.size + 1 + 1, 2, none⟩ = false := K2b.out.frozen 2
  have y3 : w2.cell? ⟨w.heap.size + 1 + 1, 3, none⟩ = some (.slice none 0 0) := K2b.out.cell 3
  have q3 : w2.frozen? ⟨w.heap.size + 1 + 1, 3, none⟩ = false := K2b.out.frozen 3
  have hlt2 : w.heap.size + 1 + 1 < w2.heap.size := K2b.out.lt
  go_wp2_with fail
  have H3 := (((((K2b.out.set_ 0 (.int .u32 0)).set_ 1 (.int .u32 0)).set_ 2 (.slice none 0 0)).set_ 3 (.slice none 0 0)).alloc (.cells #[.int .u32 0, .int .u32 0, .slice none 0 0, .slice none 0 0] 52))
  exact bodyPost_ret (v := .tuple #[.agg #[.int .u32 0, .int .u32 0, .slice none 0 0, .slice none 0 0], .int .i64 7]) (by simp [results, Try.results67, go_sem, H3.cell]) rfl ⟨rfl, (((((B2.out.setCell (p := ⟨w.heap.size + 1 + 1, 0, none⟩) (show w.heap.size ≤ w.heap.size + 1 + 1 by omega) (.int .u32 0)).setCell (p := ⟨w.heap.size + 1 + 1, 1, none⟩) (show w.heap.size ≤ w.heap.size + 1 + 1 by omega) (.int .u32 0)).setCell (p := ⟨w.heap.size + 1 + 1, 2, none⟩) (show w.heap.size ≤ w.heap.size + 1 + 1 by omega) (.slice none 0 0)).setCell (p := ⟨w.heap.size + 1 + 1, 3, none⟩) (show w.heap.size ≤ w.heap.size + 1 + 1 by omega) (.slice none 0 0)).alloc (by have := B2.out.size; simpa using this) (.cells #[.int .u32 0, .int .u32 0, .slice none 0 0, .slice none 0 0] 52))⟩
set_option maxRecDepth 100000 in
set_option maxHeartbeats 4000000 in
theorem checkedF_off (k f : UInt8) (A : Option Addr) (n c : Nat) (cum : Int) (Ax : Option Addr) (nx cx : Nat) (w : World) :
    Calls Try.prog 70 #[.agg #[.int .u8 (k.toNat : Int), .int .u8 (f.toNat : Int), .slice A n c], .agg #[.int .u32 cum, .slice Ax nx cx], .bool false, .func (.func 34) #[] #[]] w fun e w' => e = .returned (.tuple #[.agg #[.int .u32 0, .slice none 0 0], .int .i64 7]) ∧ Below w.heap.size w w' := by
  have hz := zero_fwd
  have b0 : Blk (w.alloc (.cells #[.int .u8 (k.toNat : Int), .int .u8 (f.toNat : Int), .slice A n c] 28)) w.heap.size 28 #[.int .u8 (k.toNat : Int), .int .u8 (f.toNat : Int), .slice A n c] := Blk.new w 28 #[.int .u8 (k.toNat : Int), .int .u8 (f.toNat : Int), .slice A n c]
  have b1 : Blk ((w.alloc (.cells #[.int .u8 (k.toNat : Int), .int .u8 (f.toNat : Int), .slice A n c] 28)).alloc (.cells #[.int .u32 cum, .slice Ax nx cx] 56)) (w.heap.size + 1) 56 #[.int .u32 cum, .slice Ax nx cx] := by simpa using Blk.new (w.alloc (.cells #[.int .u8 (k.toNat : Int), .int .u8 (f.toNat : Int), .slice A n c] 28)) 56 #[.int .u32 cum, .slice Ax nx cx]
  have b2 : Blk (((w.alloc (.cells #[.int .u8 (k.toNat : Int), .int .u8 (f.toNat : Int), .slice A n c] 28)).alloc (.cells #[.int .u32 cum, .slice Ax nx cx] 56)).alloc (.cells #[.int .u32 0, .slice none 0 0] 56)) (w.heap.size + 1 + 1) 56 #[.int .u32 0, .slice none 0 0] := by simpa using Blk.new ((w.alloc (.cells #[.int .u8 (k.toNat : Int), .int .u8 (f.toNat : Int), .slice A n c] 28)).alloc (.cells #[.int .u32 cum, .slice Ax nx cx] 56)) 56 #[.int .u32 0, .slice none 0 0]
  have K0 := Lib.hid ((b0.alloc (.cells #[.int .u32 cum, .slice Ax nx cx] 56)).alloc (.cells #[.int .u32 0, .slice none 0 0] 56))
  have K1 := Lib.hid (b1.alloc (.cells #[.int .u32 0, .slice none 0 0] 56))
  have K2 := Lib.hid b2
  have B0 : Hid (Below w.heap.size w (((w.alloc (.cells #[.int .u8 (k.toNat : Int), .int .u8 (f.toNat : Int), .slice A n c] 28)).alloc (.cells #[.int .u32 cum, .slice Ax nx cx] 56)).alloc (.cells #[.int .u32 0, .slice none 0 0] 56))) := Lib.hid (Wr.below_ ((((Wr.refl 5 w.heap.size w).alloc (.cells #[.int .u8 (k.toNat : Int), .int .u8 (f.toNat : Int), .slice A n c] 28)).alloc (.cells #[.int .u32 cum, .slice Ax nx cx] 56)).alloc (.cells #[.int .u32 0, .slice none 0 0] 56)) (Nat.le_refl _))
  clear b0 b1 b2
  go_enter Try.func70, Try.ntmps70
  rw [drawn_eq 1]
  go_wp2_with fail
  generalize (((w.alloc (.cells #[.int .u8 (k.toNat : Int), .int .u8 (f.toNat : Int), .slice A n c] 28)).alloc (.cells #[.int .u32 cum, .slice Ax nx cx] 56)).alloc (.cells #[.int .u32 0, .slice none 0 0] 56)) = v0 at K0 K1 K2 B0 ⊢
  rw [← drawn_eq 1]
  refine wp_region_grow_tail 9 (by kernel_rfl) [(Is (.bool false)), (Is (.bool true)), (Is (.bool true)), (Is undef), (Is undef), (Is undef), (Is undef), (Is undef), (Is undef)] rfl ?_ (by kernel_rfl) (by kernel_rfl) ?_ ?_
  · intro p hp
    simp only [List.mem_cons, List.not_mem_nil, or_false] at hp
    rcases hp with rfl | rfl | rfl | rfl | rfl | rfl | rfl | rfl | rfl
    · exact Lasts.is _
    · exact Lasts.is _
    · exact Lasts.is _
    · exact Lasts.is _
    · exact Lasts.is _
    · exact Lasts.is _
    · exact Lasts.is _
    · exact Lasts.is _
    · exact Lasts.is _
  · refine ⟨?_, ?_, ?_, ?_, ?_, ?_, ?_, ?_, ?_, trivial⟩
    · intro listed a w1 hl hc
      have h2 : a.tmps[2]?.getD undef = .bool false := (hc.was 2 (by kernel_rfl)).trans rfl
      refine does_value rfl rfl (.bool false) w1 ?_ (Below.refl _ _) rfl
      clear hc hl
      go_simp
    · intro listed a w1 hl hc
      have h11 : a.tmps[11]?.getD undef = .bool false := hc.dep hl 0 11 rfl (by kernel_rfl)
      refine does_value rfl rfl (.bool true) w1 ?_ (Below.refl _ _) rfl
      clear hc hl
      go_simp
    · intro listed a w1 hl hc
      have h12 : a.tmps[12]?.getD undef = .bool true := hc.dep hl 1 12 rfl (by kernel_rfl)
      refine does_value rfl rfl (.bool true) w1 ?_ (Below.refl _ _) rfl
      clear hc hl
      go_simp
    · intro listed a w1 hl hc
      exact does_skip (fun _ => (Below.refl _ _)) rfl (unwanted_at rfl rfl (hc.dep hl 2 13 rfl (by kernel_rfl))) rfl
    · intro listed a w1 hl hc
      exact does_skip (fun _ => (Below.refl _ _)) rfl (unwanted_at rfl rfl (hc.dep hl 2 13 rfl (by kernel_rfl))) rfl
    · intro listed a w1 hl hc
      exact does_skip (fun _ => (Below.refl _ _)) rfl (unwanted_at rfl rfl (hc.dep hl 2 13 rfl (by kernel_rfl))) rfl
    · intro listed a w1 hl hc
      exact does_skip (fun _ => (Below.refl _ _)) rfl (unwanted_at rfl rfl (hc.dep hl 2 13 rfl (by kernel_rfl))) rfl
    · intro listed a w1 hl hc
      exact does_skip (fun _ => (Below.refl _ _)) rfl (unwanted_at rfl rfl (hc.dep hl 2 13 rfl (by kernel_rfl))) rfl
    · intro listed a w1 hl hc
      exact does_skip (fun _ => (Below.refl _ _)) rfl (unwanted_at rfl rfl (hc.dep hl 2 13 rfl (by kernel_rfl))) rfl
  intro w2 hb2
  rintro _ rfl _ rfl _ rfl _ rfl _ rfl _ rfl _ rfl _ rfl _ rfl
  simp only [Thus, List.reverse_cons, List.reverse_nil, List.nil_append, List.cons_append, List.drop, List.take, lay]
  go_frame
  have B2 := Lib.hid (below_then B0.out (Nat.le_refl _) hb2)
  have K1b := Lib.hid (K1.out.below hb2 K1.out.lt)
  have K2b := Lib.hid (K2.out.below hb2 K2.out.lt)
  clear hb2
  have y0 : w2.cell? ⟨w.heap.size + 1 + 1, 0, none⟩ = some (.int .u32 0) := K2b.out.cell 0
  have q0 : w2.frozen? ⟨w.heap.size + 1 + 1, 0, none⟩ = false := K2b.out.frozen 0
  have y1 : w2.cell? ⟨w.heap.size + 1 + 1, 1, none⟩ = some (.slice none 0 0) := K2b.out.cell 1
  have q1 : w2.frozen? ⟨w.heap.size + 1 + 1, 1, none⟩ = false := K2b.out.frozen 1
  have hlt2 : w.heap.size + 1 + 1 < w2.heap.size := K2b.out.lt
  go_wp2_with fail
  have H3 := (((K2b.out.set_ 0 (.int .u32 0)).set_ 1 (.slice none 0 0)).alloc (.cells #[.int .u32 0, .slice none 0 0] 56))
  exact bodyPost_ret (v := .tuple #[.agg #[.int .u32 0, .slice none 0 0], .int .i64 7]) (by simp [results, Try.results70, go_sem, H3.cell]) rfl ⟨rfl, (((B2.out.setCell (p := ⟨w.heap.size + 1 + 1, 0, none⟩) (show w.heap.size ≤ w.heap.size + 1 + 1 by omega) (.int .u32 0)).setCell (p := ⟨w.heap.size + 1 + 1, 1, none⟩) (show w.heap.size ≤ w.heap.size + 1 + 1 by omega) (.slice none 0 0)).alloc (by have := B2.out.size; simpa using this) (.cells #[.int .u32 0, .slice none 0 0] 56))⟩
set_option maxRecDepth 100000 in
set_option maxHeartbeats 4000000 in
theorem checkedF_yes (k f : UInt8) (A : Option Addr) (n c : Nat) (cum : Int) (Ax : Option Addr) (nx cx : Nat) (xs ys : List UInt8) (pk pf : UInt8) (w : World) (hx : xs.length = n) (hr : Rd w w.heap.size A xs) (hres : decide (k = pk ∧ f = pf ∧ xs = ys) = true) (hput : ∀ W, Below w.heap.size w W → Puts 34 #[.agg #[.int .u32 cum, .slice Ax nx cx]] pk pf ys W) :
    Calls Try.prog 70 #[.agg #[.int .u8 (k.toNat : Int), .int .u8 (f.toNat : Int), .slice A n c], .agg #[.int .u32 cum, .slice Ax nx cx], .bool true, .func (.func 34) #[] #[]] w fun e w' => e = .returned (.tuple #[.agg #[.int .u32 cum, .slice Ax nx cx], .int .i64 0]) ∧ Below w.heap.size w w' := by
  have hz := zero_fwd
  have HPUT := Lib.hid hput
  have HSM : Hid (∀ (W : World) (A' : Option Addr) (c' : Nat), Below w.heap.size w W → Own8 W 5 w.heap.size A' ys.length c' ys → Calls Try.prog 79 #[.agg #[.int .u8 (k.toNat : Int), .int .u8 (f.toNat : Int), .slice A n c], .agg #[.int .u8 (pk.toNat : Int), .int .u8 (pf.toNat : Int), .slice A' ys.length c']] W fun e w' => e = .returned (.bool true) ∧ Below W.heap.size W w') := Lib.hid fun W A' c' hW ho => by
    have := sameC_any k f pk pf A A' n ys.length c c' xs ys W hx rfl ((hr.below hW).more hW.size) ho.rd
    rwa [hres] at this
  clear hput hx hr hres
  have b0 : Blk (w.alloc (.cells #[.int .u8 (k.toNat : Int), .int .u8 (f.toNat : Int), .slice A n c] 28)) w.heap.size 28 #[.int .u8 (k.toNat : Int), .int .u8 (f.toNat : Int), .slice A n c] := Blk.new w 28 #[.int .u8 (k.toNat : Int), .int .u8 (f.toNat : Int), .slice A n c]
  have b1 : Blk ((w.alloc (.cells #[.int .u8 (k.toNat : Int), .int .u8 (f.toNat : Int), .slice A n c] 28)).alloc (.cells #[.int .u32 cum, .slice Ax nx cx] 56)) (w.heap.size + 1) 56 #[.int .u32 cum, .slice Ax nx cx] := by simpa using Blk.new (w.alloc (.cells #[.int .u8 (k.toNat : Int), .int .u8 (f.toNat : Int), .slice A n c] 28)) 56 #[.int .u32 cum, .slice Ax nx cx]
  have b2 : Blk (((w.alloc (.cells #[.int .u8 (k.toNat : Int), .int .u8 (f.toNat : Int), .slice A n c] 28)).alloc (.cells #[.int .u32 cum, .slice Ax nx cx] 56)).alloc (.cells #[.int .u32 0, .slice none 0 0] 56)) (w.heap.size + 1 + 1) 56 #[.int .u32 0, .slice none 0 0] := by simpa using Blk.new ((w.alloc (.cells #[.int .u8 (k.toNat : Int), .int .u8 (f.toNat : Int), .slice A n c] 28)).alloc (.cells #[.int .u32 cum, .slice Ax nx cx] 56)) 56 #[.int .u32 0, .slice none 0 0]
  have K0 := Lib.hid ((b0.alloc (.cells #[.int .u32 cum, .slice Ax nx cx] 56)).alloc (.cells #[.int .u32 0, .slice none 0 0] 56))
  have K1 := Lib.hid (b1.alloc (.cells #[.int .u32 0, .slice none 0 0] 56))
  have K2 := Lib.hid b2
  have B0 : Hid (Below w.heap.size w (((w.alloc (.cells #[.int .u8 (k.toNat : Int), .int .u8 (f.toNat : Int), .slice A n c] 28)).alloc (.cells #[.int .u32 cum, .slice Ax nx cx] 56)).alloc (.cells #[.int .u32 0, .slice none 0 0] 56))) := Lib.hid (Wr.below_ ((((Wr.refl 5 w.heap.size w).alloc (.cells #[.int .u8 (k.toNat : Int), .int .u8 (f.toNat : Int), .slice A n c] 28)).alloc (.cells #[.int .u32 cum, .slice Ax nx cx] 56)).alloc (.cells #[.int .u32 0, .slice none 0 0] 56)) (Nat.le_refl _))
  clear b0 b1 b2
  go_enter Try.func70, Try.ntmps70
  rw [drawn_eq 1]
  go_wp2_with fail
  generalize (((w.alloc (.cells #[.int .u8 (k.toNat : Int), .int .u8 (f.toNat : Int), .slice A n c] 28)).alloc (.cells #[.int .u32 cum, .slice Ax nx cx] 56)).alloc (.cells #[.int .u32 0, .slice none 0 0] 56)) = v0 at K0 K1 K2 B0 ⊢
  rw [← drawn_eq 1]
  refine wp_region_grow_tail 9 (by kernel_rfl) [(Is (.bool true)), (Is (.bool false)), (Is (.bool false)), (Is (.agg #[.int .u8 (k.toNat : Int), .int .u8 (f.toNat : Int), .slice A n c])), (Is (.func (.func 34) #[] #[])), (Is (.agg #[.int .u32 cum, .slice Ax nx cx])), (NewAgg 5 w.heap.size ys.length ys (fun s => .agg #[.int .u8 (pk.toNat : Int), .int .u8 (pf.toNat : Int), s])), (Is (.bool true)), (Is (.bool false))] rfl ?_ (by kernel_rfl) (by kernel_rfl) ?_ ?_
  · intro p hp
    simp only [List.mem_cons, List.not_mem_nil, or_false] at hp
    rcases hp with rfl | rfl | rfl | rfl | rfl | rfl | rfl | rfl | rfl
    · exact Lasts.is _
    · exact Lasts.is _
    · exact Lasts.is _
    · exact Lasts.is _
    · exact Lasts.is _
    · exact Lasts.is _
    · exact Lasts.newAgg _ _ _ _ _
    · exact Lasts.is _
    · exact Lasts.is _
  · refine ⟨?_, ?_, ?_, ?_, ?_, ?_, ?_, ?_, ?_, trivial⟩
    · intro listed a w1 hl hc
      have h2 : a.tmps[2]?.getD undef = .bool true := (hc.was 2 (by kernel_rfl)).trans rfl
      refine does_value rfl rfl (.bool true) w1 ?_ (Below.refl _ _) rfl
      clear hc hl
      go_simp
    · intro listed a w1 hl hc
      have h11 : a.tmps[11]?.getD undef = .bool true := hc.dep hl 0 11 rfl (by kernel_rfl)
      refine does_value rfl rfl (.bool false) w1 ?_ (Below.refl _ _) rfl
      clear hc hl
      go_simp
    · intro listed a w1 hl hc
      have h12 : a.tmps[12]?.getD undef = .bool false := hc.dep hl 1 12 rfl (by kernel_rfl)
      refine does_value rfl rfl (.bool false) w1 ?_ (Below.refl _ _) rfl
      clear hc hl
      go_simp
    · intro listed a w1 hl hc
      have h4 : a.tmps[4]?.getD undef = .pointer (some ⟨w.heap.size, 0, none⟩) := (hc.was 4 (by kernel_rfl)).trans rfl
      have kb := K0.out.below hc.g K0.out.lt
      have x0 : w1.cell? ⟨w.heap.size, 0, none⟩ = some (.int .u8 (k.toNat : Int)) := kb.cell 0
      have x1 : w1.cell? ⟨w.heap.size, 1, none⟩ = some (.int .u8 (f.toNat : Int)) := kb.cell 1
      have x2 : w1.cell? ⟨w.heap.size, 2, none⟩ = some (.slice A n c) := kb.cell 2
      clear kb
      refine does_value rfl (wanted_at rfl rfl (hc.dep hl 2 13 rfl (by kernel_rfl))) (.agg #[.int .u8 (k.toNat : Int), .int .u8 (f.toNat : Int), .slice A n c]) w1 ?_ (Below.refl _ _) rfl
      clear hc hl
      go_simp
    · intro listed a w1 hl hc
      have h3 : a.tmps[3]?.getD undef = .func (.func 34) #[] #[] := (hc.was 3 (by kernel_rfl)).trans rfl
      refine does_value rfl (wanted_at rfl rfl (hc.dep hl 2 13 rfl (by kernel_rfl))) (.func (.func 34) #[] #[]) w1 ?_ (Below.refl _ _) rfl
      clear hc hl
      go_simp
    · intro listed a w1 hl hc
      have h5 : a.tmps[5]?.getD undef = .pointer (some ⟨w.heap.size + 1, 0, none⟩) := (hc.was 5 (by kernel_rfl)).trans rfl
      have kb := K1.out.below hc.g K1.out.lt
      have x0 : w1.cell? ⟨w.heap.size + 1, 0, none⟩ = some (.int .u32 cum) := kb.cell 0
      have x1 : w1.cell? ⟨w.heap.size + 1, 1, none⟩ = some (.slice Ax nx cx) := kb.cell 1
      clear kb
      refine does_value rfl (wanted_at rfl rfl (hc.dep hl 2 13 rfl (by kernel_rfl))) (.agg #[.int .u32 cum, .slice Ax nx cx]) w1 ?_ (Below.refl _ _) rfl
      clear hc hl
      go_simp
    · intro listed a w1 hl hc
      have h15 : a.tmps[15]?.getD undef = .func (.func 34) #[] #[] := hc.dep hl 4 15 rfl (by kernel_rfl)
      have h16 : a.tmps[16]?.getD undef = .agg #[.int .u32 cum, .slice Ax nx cx] := hc.dep hl 5 16 rfl (by kernel_rfl)
      refine does_call rfl (wanted_at rfl rfl (hc.dep hl 2 13 rfl (by kernel_rfl))) 34 #[.agg #[.int .u32 cum, .slice Ax nx cx]] ?_ ((HPUT.out w1 (B0.out.trans (hc.g.mono B0.out.size))).mono fun e w' ⟨A9, c9, he, ho, hb⟩ => ⟨_, he, hb, A9, c9, rfl, ho.more (Nat.le_trans B0.out.size hc.g.size)⟩)
      clear hc hl
      go_simp
    · intro listed a w1 hl hc
      have h14 : a.tmps[14]?.getD undef = .agg #[.int .u8 (k.toNat : Int), .int .u8 (f.toNat : Int), .slice A n c] := hc.dep hl 3 14 rfl (by kernel_rfl)
      obtain ⟨A17, c17, h17, ho17⟩ := hc.dep hl 6 17 rfl (by kernel_rfl)
      refine does_call rfl (wanted_at rfl rfl (hc.dep hl 2 13 rfl (by kernel_rfl))) 79 #[.agg #[.int .u8 (k.toNat : Int), .int .u8 (f.toNat : Int), .slice A n c], .agg #[.int .u8 (pk.toNat : Int), .int .u8 (pf.toNat : Int), .slice A17 ys.length c17]] ?_ ((HSM.out w1 _ _ (B0.out.trans (hc.g.mono B0.out.size)) ho17).mono fun e w' ⟨he, hb⟩ => ⟨_, he, hb, rfl⟩)
      clear hc hl
      go_simp
    · intro listed a w1 hl hc
      have h18 : a.tmps[18]?.getD undef = .bool true := hc.dep hl 7 18 rfl (by kernel_rfl)
      refine does_value rfl (wanted_at rfl rfl (hc.dep hl 2 13 rfl (by kernel_rfl))) (.bool false) w1 ?_ (Below.refl _ _) rfl
      clear hc hl
      go_simp
  intro w2 hb2
  rintro _ rfl _ rfl _ rfl _ rfl _ rfl _ rfl _ ⟨A17, c17, rfl, ho17⟩ _ rfl _ rfl
  simp only [Thus, List.reverse_cons, List.reverse_nil, List.nil_append, List.cons_append, List.drop, List.take, lay]
  go_frame
  have B2 := Lib.hid (below_then B0.out (Nat.le_refl _) hb2)
  have K1b := Lib.hid (K1.out.below hb2 K1.out.lt)
  have K2b := Lib.hid (K2.out.below hb2 K2.out.lt)
  clear hb2
  have y0 : w2.cell? ⟨w.heap.size + 1 + 1, 0, none⟩ = some (.int .u32 0) := K2b.out.cell 0
  have q0 : w2.frozen? ⟨w.heap.size + 1 + 1, 0, none⟩ = false := K2b.out.frozen 0
  have u0 : w2.cell? ⟨w.heap.size + 1, 0, none⟩ = some (.int .u32 cum) := K1b.out.cell 0
  have y1 : w2.cell? ⟨w.heap.size + 1 + 1, 1, none⟩ = some (.slice none 0 0) := K2b.out.cell 1
  have q1 : w2.frozen? ⟨w.heap.size + 1 + 1, 1, none⟩ = false := K2b.out.frozen 1
  have u1 : w2.cell? ⟨w.heap.size + 1, 1, none⟩ = some (.slice Ax nx cx) := K1b.out.cell 1
  go_wp2_with fail
  have H3 := ((K2b.out.set_ 0 (.int .u32 cum)).set_ 1 (.slice Ax nx cx))
  exact bodyPost_ret (v := .tuple #[.agg #[.int .u32 cum, .slice Ax nx cx], .int .i64 0]) (by simp [results, Try.results70, go_sem, H3.cell]) rfl ⟨rfl, ((B2.out.setCell (p := ⟨w.heap.size + 1 + 1, 0, none⟩) (show w.heap.size ≤ w.heap.size + 1 + 1 by omega) (.int .u32 cum)).setCell (p := ⟨w.heap.size + 1 + 1, 1, none⟩) (show w.heap.size ≤ w.heap.size + 1 + 1 by omega) (.slice Ax nx cx))⟩
set_option maxRecDepth 100000 in
set_option maxHeartbeats 4000000 in
theorem checkedF_no (k f : UInt8) (A : Option Addr) (n c : Nat) (cum : Int) (Ax : Option Addr) (nx cx : Nat) (xs ys : List UInt8) (pk pf : UInt8) (w : World) (hx : xs.length = n) (hr : Rd w w.heap.size A xs) (hres : decide (k = pk ∧ f = pf ∧ xs = ys) = false) (hput : ∀ W, Below w.heap.size w W → Puts 34 #[.agg #[.int .u32 cum, .slice Ax nx cx]] pk pf ys W) :
    Calls Try.prog 70 #[.agg #[.int .u8 (k.toNat : Int), .int .u8 (f.toNat : Int), .slice A n c], .agg #[.int .u32 cum, .slice Ax nx cx], .bool true, .func (.func 34) #[] #[]] w fun e w' => e = .returned (.tuple #[.agg #[.int .u32 0, .slice none 0 0], .int .i64 7]) ∧ Below w.heap.size w w' := by
  have hz := zero_fwd
  have HPUT := Lib.hid hput
  have HSM : Hid (∀ (W : World) (A' : Option Addr) (c' : Nat), Below w.heap.size w W → Own8 W 5 w.heap.size A' ys.length c' ys → Calls Try.prog 79 #[.agg #[.int .u8 (k.toNat : Int), .int .u8 (f.toNat : Int), .slice A n c], .agg #[.int .u8 (pk.toNat : Int), .int .u8 (pf.toNat : Int), .slice A' ys.length c']] W fun e w' => e = .returned (.bool false) ∧ Below W.heap.size W w') := Lib.hid fun W A' c' hW ho => by
    have := sameC_any k f pk pf A A' n ys.length c c' xs ys W hx rfl ((hr.below hW).more hW.size) ho.rd
    rwa [hres] at this
  clear hput hx hr hres
  have b0 : Blk (w.alloc (.cells #[.int .u8 (k.toNat : Int), .int .u8 (f.toNat : Int), .slice A n c] 28)) w.heap.size 28 #[.int .u8 (k.toNat : Int), .int .u8 (f.toNat : Int), .slice A n c] := Blk.new w 28 #[.int .u8 (k.toNat : Int), .int .u8 (f.toNat : Int), .slice A n c]
  have b1 : Blk ((w.alloc (.cells #[.int .u8 (k.toNat : Int), .int .u8 (f.toNat : Int), .slice A n c] 28)).alloc (.cells #[.int .u32 cum, .slice Ax nx cx] 56)) (w.heap.size + 1) 56 #[.int .u32 cum, .slice Ax nx cx] := by simpa using Blk.new (w.alloc (.cells #[.int .u8 (k.toNat : Int), .int .u8 (f.toNat : Int), .slice A n c] 28)) 56 #[.int .u32 cum, .slice Ax nx cx]
  have b2 : Blk (((w.alloc (.cells #[.int .u8 (k.toNat : Int), .int .u8 (f.toNat : Int), .slice A n c] 28)).alloc (.cells #[.int .u32 cum, .slice Ax nx cx] 56)).alloc (.cells #[.int .u32 0, .slice none 0 0] 56)) (w.heap.size + 1 + 1) 56 #[.int .u32 0, .slice none 0 0] := by simpa using Blk.new ((w.alloc (.cells #[.int .u8 (k.toNat : Int), .int .u8 (f.toNat : Int), .slice A n c] 28)).alloc (.cells #[.int .u32 cum, .slice Ax nx cx] 56)) 56 #[.int .u32 0, .slice none 0 0]
  have K0 := Lib.hid ((b0.alloc (.cells #[.int .u32 cum, .slice Ax nx cx] 56)).alloc (.cells #[.int .u32 0, .slice none 0 0] 56))
  have K1 := Lib.hid (b1.alloc (.cells #[.int .u32 0, .slice none 0 0] 56))
  have K2 := Lib.hid b2
  have B0 : Hid (Below w.heap.size w (((w.alloc (.cells #[.int .u8 (k.toNat : Int), .int .u8 (f.toNat : Int), .slice A n c] 28)).alloc (.cells #[.int .u32 cum, .slice Ax nx cx] 56)).alloc (.cells #[.int .u32 0, .slice none 0 0] 56))) := Lib.hid (Wr.below_ ((((Wr.refl 5 w.heap.size w).alloc (.cells #[.int .u8 (k.toNat : Int), .int .u8 (f.toNat : Int), .slice A n c] 28)).alloc (.cells #[.int .u32 cum, .slice Ax nx cx] 56)).alloc (.cells #[.int .u32 0, .slice none 0 0] 56)) (Nat.le_refl _))
  clear b0 b1 b2
  go_enter Try.func70, Try.ntmps70
  rw [drawn_eq 1]
  go_wp2_with fail
  generalize (((w.alloc (.cells #[.int .u8 (k.toNat : Int), .int .u8 (f.toNat : Int), .slice A n c] 28)).alloc (.cells #[.int .u32 cum, .slice Ax nx cx] 56)).alloc (.cells #[.int .u32 0, .slice none 0 0] 56)) = v0 at K0 K1 K2 B0 ⊢
  rw [← drawn_eq 1]
  refine wp_region_grow_tail 9 (by kernel_rfl) [(Is (.bool true)), (Is (.bool false)), (Is (.bool false)), (Is (.agg #[.int .u8 (k.toNat : Int), .int .u8 (f.toNat : Int), .slice A n c])), (Is (.func (.func 34) #[] #[])), (Is (.agg #[.int .u32 cum, .slice Ax nx cx])), (NewAgg 5 w.heap.size ys.length ys (fun s => .agg #[.int .u8 (pk.toNat : Int), .int .u8 (pf.toNat : Int), s])), (Is (.bool false)), (Is (.bool true))] rfl ?_ (by kernel_rfl) (by kernel_rfl) ?_ ?_
  · intro p hp
    simp only [List.mem_cons, List.not_mem_nil, or_false] at hp
    rcases hp with rfl | rfl | rfl | rfl | rfl | rfl | rfl | rfl | rfl
    · exact Lasts.is _
    · exact Lasts.is _
    · exact Lasts.is _
    · exact Lasts.is _
    · exact Lasts.is _
    · exact Lasts.is _
    · exact Lasts.newAgg _ _ _ _ _
    · exact Lasts.is _
    · exact Lasts.is _
  · refine ⟨?_, ?_, ?_, ?_, ?_, ?_, ?_, ?_, ?_, trivial⟩
    · intro listed a w1 hl hc
      have h2 : a.tmps[2]?.getD undef = .bool true := (hc.was 2 (by kernel_rfl)).trans rfl
      refine does_value rfl rfl (.bool true) w1 ?_ (Below.refl _ _) rfl
      clear hc hl
      go_simp
    · intro listed a w1 hl hc
      have h11 : a.tmps[11]?.getD undef = .bool true := hc.dep hl 0 11 rfl (by kernel_rfl)
      refine does_value rfl rfl (.bool false) w1 ?_ (Below.refl _ _) rfl
      clear hc hl
      go_simp
    · intro listed a w1 hl hc
      have h12 : a.tmps[12]?.getD undef = .bool false := hc.dep hl 1 12 rfl (by kernel_rfl)
      refine does_value rfl rfl (.bool false) w1 ?_ (Below.refl _ _) rfl
      clear hc hl
      go_simp
    · intro listed a w1 hl hc
      have h4 : a.tmps[4]?.getD undef = .pointer (some ⟨w.heap.size, 0, none⟩) := (hc.was 4 (by kernel_rfl)).trans rfl
      have kb := K0.out.below hc.g K0.out.lt
      have x0 : w1.cell? ⟨w.heap.size, 0, none⟩ = some (.int .u8 (k.toNat : Int)) := kb.cell 0
      have x1 : w1.cell? ⟨w.heap.size, 1, none⟩ = some (.int .u8 (f.toNat : Int)) := kb.cell 1
      have x2 : w1.cell? ⟨w.heap.size, 2, none⟩ = some (.slice A n c) := kb.cell 2
      clear kb
      refine does_value rfl (wanted_at rfl rfl (hc.dep hl 2 13 rfl (by kernel_rfl))) (.agg #[.int .u8 (k.toNat : Int), .int .u8 (f.toNat : Int), .slice A n c]) w1 ?_ (Below.refl _ _) rfl
      clear hc hl
      go_simp
    · intro listed a w1 hl hc
      have h3 : a.tmps[3]?.getD undef = .func (.func 34) #[] #[] := (hc.was 3 (by kernel_rfl)).trans rfl
      refine does_value rfl (wanted_at rfl rfl (hc.dep hl 2 13 rfl (by kernel_rfl))) (.func (.func 34) #[] #[]) w1 ?_ (Below.refl _ _) rfl
      clear hc hl
      go_simp
    · intro listed a w1 hl hc
      have h5 : a.tmps[5]?.getD undef = .pointer (some ⟨w.heap.size + 1, 0, none⟩) := (hc.was 5 (by kernel_rfl)).trans rfl
      have kb := K1.out.below hc.g K1.out.lt
      have x0 : w1.cell? ⟨w.heap.size + 1, 0, none⟩ = some (.int .u32 cum) := kb.cell 0
      have x1 : w1.cell? ⟨w.heap.size + 1, 1, none⟩ = some (.slice Ax nx cx) := kb.cell 1
      clear kb
      refine does_value rfl (wanted_at rfl rfl (hc.dep hl 2 13 rfl (by kernel_rfl))) (.agg #[.int .u32 cum, .slice Ax nx cx]) w1 ?_ (Below.refl _ _) rfl
      clear hc hl
      go_simp
    · intro listed a w1 hl hc
      have h15 : a.tmps[15]?.getD undef = .func (.func 34) #[] #[] := hc.dep hl 4 15 rfl (by kernel_rfl)
      have h16 : a.tmps[16]?.getD undef = .agg #[.int .u32 cum, .slice Ax nx cx] := hc.dep hl 5 16 rfl (by kernel_rfl)
      refine does_call rfl (wanted_at rfl rfl (hc.dep hl 2 13 rfl (by kernel_rfl))) 34 #[.agg #[.int .u32 cum, .slice Ax nx cx]] ?_ ((HPUT.out w1 (B0.out.trans (hc.g.mono B0.out.size))).mono fun e w' ⟨A9, c9, he, ho, hb⟩ => ⟨_, he, hb, A9, c9, rfl, ho.more (Nat.le_trans B0.out.size hc.g.size)⟩)
      clear hc hl
      go_simp
    · intro listed a w1 hl hc
      have h14 : a.tmps[14]?.getD undef = .agg #[.int .u8 (k.toNat : Int), .int .u8 (f.toNat : Int), .slice A n c] := hc.dep hl 3 14 rfl (by kernel_rfl)
      obtain ⟨A17, c17, h17, ho17⟩ := hc.dep hl 6 17 rfl (by kernel_rfl)
      refine does_call rfl (wanted_at rfl rfl (hc.dep hl 2 13 rfl (by kernel_rfl))) 79 #[.agg #[.int .u8 (k.toNat : Int), .int .u8 (f.toNat : Int), .slice A n c], .agg #[.int .u8 (pk.toNat : Int), .int .u8 (pf.toNat : Int), .slice A17 ys.length c17]] ?_ ((HSM.out w1 _ _ (B0.out.trans (hc.g.mono B0.out.size)) ho17).mono fun e w' ⟨he, hb⟩ => ⟨_, he, hb, rfl⟩)
      clear hc hl
      go_simp
    · intro listed a w1 hl hc
      have h18 : a.tmps[18]?.getD undef = .bool false := hc.dep hl 7 18 rfl (by kernel_rfl)
      refine does_value rfl (wanted_at rfl rfl (hc.dep hl 2 13 rfl (by kernel_rfl))) (.bool true) w1 ?_ (Below.refl _ _) rfl
      clear hc hl
      go_simp
  intro w2 hb2
  rintro _ rfl _ rfl _ rfl _ rfl _ rfl _ rfl _ ⟨A17, c17, rfl, ho17⟩ _ rfl _ rfl
  simp only [Thus, List.reverse_cons, List.reverse_nil, List.nil_append, List.cons_append, List.drop, List.take, lay]
  go_frame
  have B2 := Lib.hid (below_then B0.out (Nat.le_refl _) hb2)
  have K1b := Lib.hid (K1.out.below hb2 K1.out.lt)
  have K2b := Lib.hid (K2.out.below hb2 K2.out.lt)
  clear hb2
  have y0 : w2.cell? ⟨w.heap.size + 1 + 1, 0, none⟩ = some (.int .u32 0) := K2b.out.cell 0
  have q0 : w2.frozen? ⟨w.heap.size + 1 + 1, 0, none⟩ = false := K2b.out.frozen 0
  have y1 : w2.cell? ⟨w.heap.size + 1 + 1, 1, none⟩ = some (.slice none 0 0) := K2b.out.cell 1
  have q1 : w2.frozen? ⟨w.heap.size + 1 + 1, 1, none⟩ = false := K2b.out.frozen 1
  have hlt2 : w.heap.size + 1 + 1 < w2.heap.size := K2b.out.lt
  go_wp2_with fail
  have H3 := (((K2b.out.set_ 0 (.int .u32 0)).set_ 1 (.slice none 0 0)).alloc (.cells #[.int .u32 0, .slice none 0 0] 56))
  exact bodyPost_ret (v := .tuple #[.agg #[.int .u32 0, .slice none 0 0], .int .i64 7]) (by simp [results, Try.results70, go_sem, H3.cell]) rfl ⟨rfl, (((B2.out.setCell (p := ⟨w.heap.size + 1 + 1, 0, none⟩) (show w.heap.size ≤ w.heap.size + 1 + 1 by omega) (.int .u32 0)).setCell (p := ⟨w.heap.size + 1 + 1, 1, none⟩) (show w.heap.size ≤ w.heap.size + 1 + 1 by omega) (.slice none 0 0)).alloc (by have := B2.out.size; simpa using this) (.cells #[.int .u32 0, .slice none 0 0] 56))⟩
set_option maxRecDepth 100000 in
set_option maxHeartbeats 4000000 in
theorem checkedT_off (k f : UInt8) (A : Option Addr) (n c : Nat) (t : Int) (q : Nat) (w : World) :
    Calls Try.prog 73 #[.agg #[.int .u8 (k.toNat : Int), .int .u8 (f.toNat : Int), .slice A n c], .int .i64 t, .bool false, .func (.func 72) #[] #[.pointer (some ⟨q, 0, none⟩)]] w fun e w' => e = .returned (.tuple #[.int .i64 0, .int .i64 7]) ∧ Below w.heap.size w w' := by
  have b0 : Blk (w.alloc (.cells #[.int .u8 (k.toNat : Int), .int .u8 (f.toNat : Int), .slice A n c] 28)) w.heap.size 28 #[.int .u8 (k.toNat : Int), .int .u8 (f.toNat : Int), .slice A n c] := Blk.new w 28 #[.int .u8 (k.toNat : Int), .int .u8 (f.toNat : Int), .slice A n c]
  have K0 := Lib.hid b0
  have B0 : Hid (Below w.heap.size w (w.alloc (.cells #[.int .u8 (k.toNat : Int), .int .u8 (f.toNat : Int), .slice A n c] 28))) := Lib.hid (Wr.below_ ((Wr.refl 5 w.heap.size w).alloc (.cells #[.int .u8 (k.toNat : Int), .int .u8 (f.toNat : Int), .slice A n c] 28)) (Nat.le_refl _))
  clear b0
  go_enter Try.func73, Try.ntmps73
  rw [drawn_eq 1]
  go_wp2_with fail
  generalize (w.alloc (.cells #[.int .u8 (k.toNat : Int), .int .u8 (f.toNat : Int), .slice A n c] 28)) = v0 at K0 B0 ⊢
  rw [← drawn_eq 1]
  refine wp_region_grow_tail 9 (by kernel_rfl) [(Is (.bool false)), (Is (.bool true)), (Is (.bool true)), (Is undef), (Is undef), (Is undef), (Is undef), (Is undef), (Is undef)] rfl ?_ (by kernel_rfl) (by kernel_rfl) ?_ ?_
  · intro p hp
    simp only [List.mem_cons, List.not_mem_nil, or_false] at hp
    rcases hp with rfl | rfl | rfl | rfl | rfl | rfl | rfl | rfl | rfl
    · exact Lasts.is _
    · exact Lasts.is _
    · exact Lasts.is _
    · exact Lasts.is _
    · exact Lasts.is _
    · exact Lasts.is _
    · exact Lasts.is _
    · exact Lasts.is _
    · exact Lasts.is _
  · refine ⟨?_, ?_, ?_, ?_, ?_, ?_, ?_, ?_, ?_, trivial⟩
    · intro listed a w1 hl hc
      have h2 : a.tmps[2]?.getD undef = .bool false := (hc.was 2 (by kernel_rfl)).trans rfl
      refine does_value rfl rfl (.bool false) w1 ?_ (Below.refl _ _) rfl
      clear hc hl
      go_simp
    · intro listed a w1 hl hc
      have h11 : a.tmps[11]?.getD undef = .bool false := hc.dep hl 0 11 rfl (by kernel_rfl)
      refine does_value rfl rfl (.bool true) w1 ?_ (Below.refl _ _) rfl
      clear hc hl
      go_simp
    · intro listed a w1 hl hc
      have h12 : a.tmps[12]?.getD undef = .bool true := hc.dep hl 1 12 rfl (by kernel_rfl)
      refine does_value rfl rfl (.bool true) w1 ?_ (Below.refl _ _) rfl
      clear hc hl
      go_simp
    · intro listed a w1 hl hc
      exact does_skip (fun _ => (Below.refl _ _)) rfl (unwanted_at rfl rfl (hc.dep hl 2 13 rfl (by kernel_rfl))) rfl
    · intro listed a w1 hl hc
      exact does_skip (fun _ => (Below.refl _ _)) rfl (unwanted_at rfl rfl (hc.dep hl 2 13 rfl (by kernel_rfl))) rfl
    · intro listed a w1 hl hc
      exact does_skip (fun _ => (Below.refl _ _)) rfl (unwanted_at rfl rfl (hc.dep hl 2 13 rfl (by kernel_rfl))) rfl
    · intro listed a w1 hl hc
      exact does_skip (fun _ => (Below.refl _ _)) rfl (unwanted_at rfl rfl (hc.dep hl 2 13 rfl (by kernel_rfl))) rfl
    · intro listed a w1 hl hc
      exact does_skip (fun _ => (Below.refl _ _)) rfl (unwanted_at rfl rfl (hc.dep hl 2 13 rfl (by kernel_rfl))) rfl
    · intro listed a w1 hl hc
      exact does_skip (fun _ => (Below.refl _ _)) rfl (unwanted_at rfl rfl (hc.dep hl 2 13 rfl (by kernel_rfl))) rfl
  intro w2 hb2
  rintro _ rfl _ rfl _ rfl _ rfl _ rfl _ rfl _ rfl _ rfl _ rfl
  simp only [Thus, List.reverse_cons, List.reverse_nil, List.nil_append, List.cons_append, List.drop, List.take, lay]
  go_frame
  have B2 := Lib.hid (below_then B0.out (Nat.le_refl _) hb2)
  clear hb2
  go_wp2_with fail
  go_ret2
  exact ⟨rfl, B2.out⟩
set_option maxRecDepth 100000 in
set_option maxHeartbeats 4000000 in
theorem checkedT_yes (k f : UInt8) (A : Option Addr) (n c : Nat) (t : Int) (q : Nat) (xs ys : List UInt8) (pk pf : UInt8) (w : World) (hx : xs.length = n) (hr : Rd w w.heap.size A xs) (hres : decide (k = pk ∧ f = pf ∧ xs = ys) = true) (hput : ∀ W, Below w.heap.size w W → Puts 72 #[.int .i64 t, .pointer (some ⟨q, 0, none⟩)] pk pf ys W) :
    Calls Try.prog 73 #[.agg #[.int .u8 (k.toNat : Int), .int .u8 (f.toNat : Int), .slice A n c], .int .i64 t, .bool true, .func (.func 72) #[] #[.pointer (some ⟨q, 0, none⟩)]] w fun e w' => e = .returned (.tuple #[.int .i64 t, .int .i64 0]) ∧ Below w.heap.size w w' := by
  have HPUT := Lib.hid hput
  have HSM : Hid (∀ (W : World) (A' : Option Addr) (c' : Nat), Below w.heap.size w W → Own8 W 5 w.heap.size A' ys.length c' ys → Calls Try.prog 79 #[.agg #[.int .u8 (k.toNat : Int), .int .u8 (f.toNat : Int), .slice A n c], .agg #[.int .u8 (pk.toNat : Int), .int .u8 (pf.toNat : Int), .slice A' ys.length c']] W fun e w' => e = .returned (.bool true) ∧ Below W.heap.size W w') := Lib.hid fun W A' c' hW ho => by
    have := sameC_any k f pk pf A A' n ys.length c c' xs ys W hx rfl ((hr.below hW).more hW.size) ho.rd
    rwa [hres] at this
  clear hput hx hr hres
  have b0 : Blk (w.alloc (.cells #[.int .u8 (k.toNat : Int), .int .u8 (f.toNat : Int), .slice A n c] 28)) w.heap.size 28 #[.int .u8 (k.toNat : Int), .int .u8 (f.toNat : Int), .slice A n c] := Blk.new w 28 #[.int .u8 (k.toNat : Int), .int .u8 (f.toNat : Int), .slice A n c]
  have K0 := Lib.hid b0
  have B0 : Hid (Below w.heap.size w (w.alloc (.cells #[.int .u8 (k.toNat : Int), .int .u8 (f.toNat : Int), .slice A n c] 28))) := Lib.hid (Wr.below_ ((Wr.refl 5 w.heap.size w).alloc (.cells #[.int .u8 (k.toNat : Int), .int .u8 (f.toNat : Int), .slice A n c] 28)) (Nat.le_refl _))
  clear b0
  go_enter Try.func73, Try.ntmps73
  rw [drawn_eq 1]
  go_wp2_with fail
  generalize (w.alloc (.cells #[.int .u8 (k.toNat : Int), .int .u8 (f.toNat : Int), .slice A n c] 28)) = v0 at K0 B0 ⊢
  rw [← drawn_eq 1]
  refine wp_region_grow_tail 9 (by kernel_rfl) [(Is (.bool true)), (Is (.bool false)), (Is (.bool false)), (Is (.agg #[.int .u8 (k.toNat : Int), .int .u8 (f.toNat : Int), .slice A n c])), (Is (.func (.func 72) #[] #[.pointer (some ⟨q, 0, none⟩)])), (Is (.int .i64 t)), (NewAgg 5 w.heap.size ys.length ys (fun s => .agg #[.int .u8 (pk.toNat : Int), .int .u8 (pf.toNat : Int), s])), (Is (.bool true)), (Is (.bool false))] rfl ?_ (by kernel_rfl) (by kernel_rfl) ?_ ?_
  · intro p hp
    simp only [List.mem_cons, List.not_mem_nil, or_false] at hp
    rcases hp with rfl | rfl | rfl | rfl | rfl | rfl | rfl | rfl | rfl
    · exact Lasts.is _
    · exact Lasts.is _
    · exact Lasts.is _
    · exact Lasts.is _
    · exact Lasts.is _
    · exact Lasts.is _
    · exact Lasts.newAgg _ _ _ _ _
    · exact Lasts.is _
    · exact Lasts.is _
  · refine ⟨?_, ?_, ?_, ?_, ?_, ?_, ?_, ?_, ?_, trivial⟩
    · intro listed a w1 hl hc
      have h2 : a.tmps[2]?.getD undef = .bool true := (hc.was 2 (by kernel_rfl)).trans rfl
      refine does_value rfl rfl (.bool true) w1 ?_ (Below.refl _ _) rfl
      clear hc hl
      go_simp
    · intro listed a w1 hl hc
      have h11 : a.tmps[11]?.getD undef = .bool true := hc.dep hl 0 11 rfl (by kernel_rfl)
      refine does_value rfl rfl (.bool false) w1 ?_ (Below.refl _ _) rfl
      clear hc hl
      go_simp
    · intro listed a w1 hl hc
      have h12 : a.tmps[12]?.getD undef = .bool false := hc.dep hl 1 12 rfl (by kernel_rfl)
      refine does_value rfl rfl (.bool false) w1 ?_ (Below.refl _ _) rfl
      clear hc hl
      go_simp
    · intro listed a w1 hl hc
      have h4 : a.tmps[4]?.getD undef = .pointer (some ⟨w.heap.size, 0, none⟩) := (hc.was 4 (by kernel_rfl)).trans rfl
      have kb := K0.out.below hc.g K0.out.lt
      have x0 : w1.cell? ⟨w.heap.size, 0, none⟩ = some (.int .u8 (k.toNat : Int)) := kb.cell 0
      have x1 : w1.cell? ⟨w.heap.size, 1, none⟩ = some (.int .u8 (f.toNat : Int)) := kb.cell 1
      have x2 : w1.cell? ⟨w.heap.size, 2, none⟩ = some (.slice A n c) := kb.cell 2
      clear kb
      refine does_value rfl (wanted_at rfl rfl (hc.dep hl 2 13 rfl (by kernel_rfl))) (.agg #[.int .u8 (k.toNat : Int), .int .u8 (f.toNat : Int), .slice A n c]) w1 ?_ (Below.refl _ _) rfl
      clear hc hl
      go_simp
    · intro listed a w1 hl hc
      have h3 : a.tmps[3]?.getD undef = .func (.func 72) #[] #[.pointer (some ⟨q, 0, none⟩)] := (hc.was 3 (by kernel_rfl)).trans rfl
      refine does_value rfl (wanted_at rfl rfl (hc.dep hl 2 13 rfl (by kernel_rfl))) (.func (.func 72) #[] #[.pointer (some ⟨q, 0, none⟩)]) w1 ?_ (Below.refl _ _) rfl
      clear hc hl
      go_simp
    · intro listed a w1 hl hc
      have h1 : a.tmps[1]?.getD undef = .int .i64 t := (hc.was 1 (by kernel_rfl)).trans rfl
      refine does_value rfl (wanted_at rfl rfl (hc.dep hl 2 13 rfl (by kernel_rfl))) (.int .i64 t) w1 ?_ (Below.refl _ _) rfl
      clear hc hl
      go_simp
    · intro listed a w1 hl hc
      have h15 : a.tmps[15]?.getD undef = .func (.func 72) #[] #[.pointer (some ⟨q, 0, none⟩)] := hc.dep hl 4 15 rfl (by kernel_rfl)
      have h16 : a.tmps[16]?.getD undef = .int .i64 t := hc.dep hl 5 16 rfl (by kernel_rfl)
      refine does_call rfl (wanted_at rfl rfl (hc.dep hl 2 13 rfl (by kernel_rfl))) 72 #[.int .i64 t, .pointer (some ⟨q, 0, none⟩)] ?_ ((HPUT.out w1 (B0.out.trans (hc.g.mono B0.out.size))).mono fun e w' ⟨A9, c9, he, ho, hb⟩ => ⟨_, he, hb, A9, c9, rfl, ho.more (Nat.le_trans B0.out.size hc.g.size)⟩)
      clear hc hl
      go_simp
    · intro listed a w1 hl hc
      have h14 : a.tmps[14]?.getD undef = .agg #[.int .u8 (k.toNat : Int), .int .u8 (f.toNat : Int), .slice A n c] := hc.dep hl 3 14 rfl (by kernel_rfl)
      obtain ⟨A17, c17, h17, ho17⟩ := hc.dep hl 6 17 rfl (by kernel_rfl)
      refine does_call rfl (wanted_at rfl rfl (hc.dep hl 2 13 rfl (by kernel_rfl))) 79 #[.agg #[.int .u8 (k.toNat : Int), .int .u8 (f.toNat : Int), .slice A n c], .agg #[.int .u8 (pk.toNat : Int), .int .u8 (pf.toNat : Int), .slice A17 ys.length c17]] ?_ ((HSM.out w1 _ _ (B0.out.trans (hc.g.mono B0.out.size)) ho17).mono fun e w' ⟨he, hb⟩ => ⟨_, he, hb, rfl⟩)
      clear hc hl
      go_simp
    · intro listed a w1 hl hc
      have h18 : a.tmps[18]?.getD undef = .bool true := hc.dep hl 7 18 rfl (by kernel_rfl)
      refine does_value rfl (wanted_at rfl rfl (hc.dep hl 2 13 rfl (by kernel_rfl))) (.bool false) w1 ?_ (Below.refl _ _) rfl
      clear hc hl
      go_simp
  intro w2 hb2
  rintro _ rfl _ rfl _ rfl _ rfl _ rfl _ rfl _ ⟨A17, c17, rfl, ho17⟩ _ rfl _ rfl
  simp only [Thus, List.reverse_cons, List.reverse_nil, List.nil_append, List.cons_append, List.drop, List.take, lay]
  go_frame
  have B2 := Lib.hid (below_then B0.out (Nat.le_refl _) hb2)
  clear hb2
  go_wp2_with fail
  go_ret2
  exact ⟨rfl, B2.out⟩
set_option maxRecDepth 100000 in
set_option maxHeartbeats 4000000 in
theorem checkedT_no (k f : UInt8) (A : Option Addr) (n c : Nat) (t : Int) (q : Nat) (xs ys : List UInt8) (pk pf : UInt8) (w : World) (hx : xs.length = n) (hr : Rd w w.heap.size A xs) (hres : decide (k = pk ∧ f = pf ∧ xs = ys) = false) (hput : ∀ W, Below w.heap.size w W → Puts 72 #[.int .i64 t, .pointer (some ⟨q, 0, none⟩)] pk pf ys W) :
    Calls Try.prog 73 #[.agg #[.int .u8 (k.toNat : Int), .int .u8 (f.toNat : Int), .slice A n c], .int .i64 t, .bool true, .func (.func 72) #[] #[.pointer (some ⟨q, 0, none⟩)]] w fun e w' => e = .returned (.tuple #[.int .i64 0, .int .i64 7]) ∧ Below w.heap.size w w' := by
  have HPUT := Lib.hid hput
  have HSM : Hid (∀ (W : World) (A' : Option Addr) (c' : Nat), Below w.heap.size w W → Own8 W 5 w.heap.size A' ys.length c' ys → Calls Try.prog 79 #[.agg #[.int .u8 (k.toNat : Int), .int .u8 (f.toNat : Int), .slice A n c], .agg #[.int .u8 (pk.toNat : Int), .int .u8 (pf.toNat : Int), .slice A' ys.length c']] W fun e w' => e = .returned (.bool false) ∧ Below W.heap.size W w') := Lib.hid fun W A' c' hW ho => by
    have := sameC_any k f pk pf A A' n ys.length c c' xs ys W hx rfl ((hr.below hW).more hW.size) ho.rd
    rwa [hres] at this
  clear hput hx hr hres
  have b0 : Blk (w.alloc (.cells #[.int .u8 (k.toNat : Int), .int .u8 (f.toNat : Int), .slice A n c] 28)) w.heap.size 28 #[.int .u8 (k.toNat : Int), .int .u8 (f.toNat : Int), .slice A n c] := Blk.new w 28 #[.int .u8 (k.toNat : Int), .int .u8 (f.toNat : Int), .slice A n c]
  have K0 := Lib.hid b0
  have B0 : Hid (Below w.heap.size w (w.alloc (.cells #[.int .u8 (k.toNat : Int), .int .u8 (f.toNat : Int), .slice A n c] 28))) := Lib.hid (Wr.below_ ((Wr.refl 5 w.heap.size w).alloc (.cells #[.int .u8 (k.toNat : Int), .int .u8 (f.toNat : Int), .slice A n c] 28)) (Nat.le_refl _))
  clear b0
  go_enter Try.func73, Try.ntmps73
  rw [drawn_eq 1]
  go_wp2_with fail
  generalize (w.alloc (.cells #[.int .u8 (k.toNat : Int), .int .u8 (f.toNat : Int), .slice A n c] 28)) = v0 at K0 B0 ⊢
  rw [← drawn_eq 1]
  refine wp_region_grow_tail 9 (by kernel_rfl) [(Is (.bool true)), (Is (.bool false)), (Is (.bool false)), (Is (.agg #[.int .u8 (k.toNat : Int), .int .u8 (f.toNat : Int), .slice A n c])), (Is (.func (.func 72) #[] #[.pointer (some ⟨q, 0, none⟩)])), (Is (.int .i64 t)), (NewAgg 5 w.heap.size ys.length ys (fun s => .agg #[.int .u8 (pk.toNat : Int), .int .u8 (pf.toNat : Int), s])), (Is (.bool false)), (Is (.bool true))] rfl ?_ (by kernel_rfl) (by kernel_rfl) ?_ ?_
  · intro p hp
    simp only [List.mem_cons, List.not_mem_nil, or_false] at hp
    rcases hp with rfl | rfl | rfl | rfl | rfl | rfl | rfl | rfl | rfl
    · exact Lasts.is _
    · exact Lasts.is _
    · exact Lasts.is _
    · exact Lasts.is _
    · exact Lasts.is _
    · exact Lasts.is _
    · exact Lasts.newAgg _ _ _ _ _
    · exact Lasts.is _
    · exact Lasts.is _
  · refine ⟨?_, ?_, ?_, ?_, ?_, ?_, ?_, ?_, ?_, trivial⟩
    · intro listed a w1 hl hc
      have h2 : a.tmps[2]?.getD undef = .bool true := (hc.was 2 (by kernel_rfl)).trans rfl
      refine does_value rfl rfl (.bool true) w1 ?_ (Below.refl _ _) rfl
      clear hc hl
      go_simp
    · intro listed a w1 hl hc
      have h11 : a.tmps[11]?.getD undef = .bool true := hc.dep hl 0 11 rfl (by kernel_rfl)
      refine does_value rfl rfl (.bool false) w1 ?_ (Below.refl _ _) rfl
      clear hc hl
      go_simp
    · intro listed a w1 hl hc
      have h12 : a.tmps[12]?.getD undef = .bool false := hc.dep hl 1 12 rfl (by kernel_rfl)
      refine does_value rfl rfl (.bool false) w1 ?_ (Below.refl _ _) rfl
      clear hc hl
      go_simp
    · intro listed a w1 hl hc
      have h4 : a.tmps[4]?.getD undef = .pointer (some ⟨w.heap.size, 0, none⟩) := (hc.was 4 (by kernel_rfl)).trans rfl
      have kb := K0.out.below hc.g K0.out.lt
      have x0 : w1.cell? ⟨w.heap.size, 0, none⟩ = some (.int .u8 (k.toNat : Int)) := kb.cell 0
      have x1 : w1.cell? ⟨w.heap.size, 1, none⟩ = some (.int .u8 (f.toNat : Int)) := kb.cell 1
      have x2 : w1.cell? ⟨w.heap.size, 2, none⟩ = some (.slice A n c) := kb.cell 2
      clear kb
      refine does_value rfl (wanted_at rfl rfl (hc.dep hl 2 13 rfl (by kernel_rfl))) (.agg #[.int .u8 (k.toNat : Int), .int .u8 (f.toNat : Int), .slice A n c]) w1 ?_ (Below.refl _ _) rfl
      clear hc hl
      go_simp
    · intro listed a w1 hl hc
      have h3 : a.tmps[3]?.getD undef = .func (.func 72) #[] #[.pointer (some ⟨q, 0, none⟩)] := (hc.was 3 (by kernel_rfl)).trans rfl
      refine does_value rfl (wanted_at rfl rfl (hc.dep hl 2 13 rfl (by kernel_rfl))) (.func (.func 72) #[] #[.pointer (some ⟨q, 0, none⟩)]) w1 ?_ (Below.refl _ _) rfl
      clear hc hl
      go_simp
    · intro listed a w1 hl hc
      have h1 : a.tmps[1]?.getD undef = .int .i64 t := (hc.was 1 (by kernel_rfl)).trans rfl
      refine does_value rfl (wanted_at rfl rfl (hc.dep hl 2 13 rfl (by kernel_rfl))) (.int .i64 t) w1 ?_ (Below.refl _ _) rfl
      clear hc hl
      go_simp
    · intro listed a w1 hl hc
      have h15 : a.tmps[15]?.getD undef = .func (.func 72) #[] #[.pointer (some ⟨q, 0, none⟩)] := hc.dep hl 4 15 rfl (by kernel_rfl)
      have h16 : a.tmps[16]?.getD undef = .int .i64 t := hc.dep hl 5 16 rfl (by kernel_rfl)
      refine does_call rfl (wanted_at rfl rfl (hc.dep hl 2 13 rfl (by kernel_rfl))) 72 #[.int .i64 t, .pointer (some ⟨q, 0, none⟩)] ?_ ((HPUT.out w1 (B0.out.trans (hc.g.mono B0.out.size))).mono fun e w' ⟨A9, c9, he, ho, hb⟩ => ⟨_, he, hb, A9, c9, rfl, ho.more (Nat.le_trans B0.out.size hc.g.size)⟩)
      clear hc hl
      go_simp
    · intro listed a w1 hl hc
      have h14 : a.tmps[14]?.getD undef = .agg #[.int .u8 (k.toNat : Int), .int .u8 (f.toNat : Int), .slice A n c] := hc.dep hl 3 14 rfl (by kernel_rfl)
      obtain ⟨A17, c17, h17, ho17⟩ := hc.dep hl 6 17 rfl (by kernel_rfl)
      refine does_call rfl (wanted_at rfl rfl (hc.dep hl 2 13 rfl (by kernel_rfl))) 79 #[.agg #[.int .u8 (k.toNat : Int), .int .u8 (f.toNat : Int), .slice A n c], .agg #[.int .u8 (pk.toNat : Int), .int .u8 (pf.toNat : Int), .slice A17 ys.length c17]] ?_ ((HSM.out w1 _ _ (B0.out.trans (hc.g.mono B0.out.size)) ho17).mono fun e w' ⟨he, hb⟩ => ⟨_, he, hb, rfl⟩)
      clear hc hl
      go_simp
    · intro listed a w1 hl hc
      have h18 : a.tmps[18]?.getD undef = .bool false := hc.dep hl 7 18 rfl (by kernel_rfl)
      refine does_value rfl (wanted_at rfl rfl (hc.dep hl 2 13 rfl (by kernel_rfl))) (.bool true) w1 ?_ (Below.refl _ _) rfl
      clear hc hl
      go_simp
  intro w2 hb2
  rintro _ rfl _ rfl _ rfl _ rfl _ rfl _ rfl _ ⟨A17, c17, rfl, ho17⟩ _ rfl _ rfl
  simp only [Thus, List.reverse_cons, List.reverse_nil, List.nil_append, List.cons_append, List.drop, List.take, lay]
  go_frame
  have B2 := Lib.hid (below_then B0.out (Nat.le_refl _) hb2)
  clear hb2
  go_wp2_with fail
  go_ret2
  exact ⟨rfl, B2.out⟩
set_option maxRecDepth 100000 in
set_option maxHeartbeats 4000000 in
theorem checkedC_off (k f : UInt8) (A : Option Addr) (n c : Nat) (x : Int) (w : World) :
    Calls Try.prog 74 #[.agg #[.int .u8 (k.toNat : Int), .int .u8 (f.toNat : Int), .slice A n c], .int .u32 x, .bool false, .func (.func 45) #[] #[]] w fun e w' => e = .returned (.tuple #[.int .u32 0, .int .i64 7]) ∧ Below w.heap.size w w' := by
  have b0 : Blk (w.alloc (.cells #[.int .u8 (k.toNat : Int), .int .u8 (f.toNat : Int), .slice A n c] 28)) w.heap.size 28 #[.int .u8 (k.toNat : Int), .int .u8 (f.toNat : Int), .slice A n c] := Blk.new w 28 #[.int .u8 (k.toNat : Int), .int .u8 (f.toNat : Int), .slice A n c]
  have K0 := Lib.hid b0
  have B0 : Hid (Below w.heap.size w (w.alloc (.cells #[.int .u8 (k.toNat : Int), .int .u8 (f.toNat : Int), .slice A n c] 28))) := Lib.hid (Wr.below_ ((Wr.refl 5 w.heap.size w).alloc (.cells #[.int .u8 (k.toNat : Int), .int .u8 (f.toNat : Int), .slice A n c] 28)) (Nat.le_refl _))
  clear b0
  go_enter Try.func74, Try.ntmps74
  rw [drawn_eq 1]
  go_wp2_with fail
  generalize (w.alloc (.cells #[.int .u8 (k.toNat : Int), .int .u8 (f.toNat : Int), .slice A n c] 28)) = v0 at K0 B0 ⊢
  rw [← drawn_eq 1]
  refine wp_region_grow_tail 9 (by kernel_rfl) [(Is (.bool false)), (Is (.bool true)), (Is (.bool true)), (Is undef), (Is undef), (Is undef), (Is undef), (Is undef), (Is undef)] rfl ?_ (by kernel_rfl) (by kernel_rfl) ?_ ?_
  · intro p hp
    simp only [List.mem_cons, List.not_mem_nil, or_false] at hp
    rcases hp with rfl | rfl | rfl | rfl | rfl | rfl | rfl | rfl | rfl
    · exact Lasts.is _
    · exact Lasts.is _
    · exact Lasts.is _
    · exact Lasts.is _
    · exact Lasts.is _
    · exact Lasts.is _
    · exact Lasts.is _
    · exact Lasts.is _
    · exact Lasts.is _
  · refine ⟨?_, ?_, ?_, ?_, ?_, ?_, ?_, ?_, ?_, trivial⟩
    · intro listed a w1 hl hc
      have h2 : a.tmps[2]?.getD undef = .bool false := (hc.was 2 (by kernel_rfl)).trans rfl
      refine does_value rfl rfl (.bool false) w1 ?_ (Below.refl _ _) rfl
      clear hc hl
      go_simp
    · intro listed a w1 hl hc
      have h11 : a.tmps[11]?.getD undef = .bool false := hc.dep hl 0 11 rfl (by kernel_rfl)
      refine does_value rfl rfl (.bool true) w1 ?_ (Below.refl _ _) rfl
      clear hc hl
      go_simp
    · intro listed a w1 hl hc
      have h12 : a.tmps[12]?.getD undef = .bool true := hc.dep hl 1 12 rfl (by kernel_rfl)
      refine does_value rfl rfl (.bool true) w1 ?_ (Below.refl _ _) rfl
      clear hc hl
      go_simp
    · intro listed a w1 hl hc
      exact does_skip (fun _ => (Below.refl _ _)) rfl (unwanted_at rfl rfl (hc.dep hl 2 13 rfl (by kernel_rfl))) rfl
    · intro listed a w1 hl hc
      exact does_skip (fun _ => (Below.refl _ _)) rfl (unwanted_at rfl rfl (hc.dep hl 2 13 rfl (by kernel_rfl))) rfl
    · intro listed a w1 hl hc
      exact does_skip (fun _ => (Below.refl _ _)) rfl (unwanted_at rfl rfl (hc.dep hl 2 13 rfl (by kernel_rfl))) rfl
    · intro listed a w1 hl hc
      exact does_skip (fun _ => (Below.refl _ _)) rfl (unwanted_at rfl rfl (hc.dep hl 2 13 rfl (by kernel_rfl))) rfl
    · intro listed a w1 hl hc
      exact does_skip (fun _ => (Below.refl _ _)) rfl (unwanted_at rfl rfl (hc.dep hl 2 13 rfl (by kernel_rfl))) rfl
    · intro listed a w1 hl hc
      exact does_skip (fun _ => (Below.refl _ _)) rfl (unwanted_at rfl rfl (hc.dep hl 2 13 rfl (by kernel_rfl))) rfl
  intro w2 hb2
  rintro _ rfl _ rfl _ rfl _ rfl _ rfl _ rfl _ rfl _ rfl _ rfl
  simp only [Thus, List.reverse_cons, List.reverse_nil, List.nil_append, List.cons_append, List.drop, List.take, lay]
  go_frame
  have B2 := Lib.hid (below_then B0.out (Nat.le_refl _) hb2)
  clear hb2
  go_wp2_with fail
  go_ret2
  exact ⟨rfl, B2.out⟩
set_option maxRecDepth 100000 in
set_option maxHeartbeats 4000000 in
theorem checkedC_yes (k f : UInt8) (A : Option Addr) (n c : Nat) (x : Int) (xs ys : List UInt8) (pk pf : UInt8) (w : World) (hx : xs.length = n) (hr : Rd w w.heap.size A xs) (hres : decide (k = pk ∧ f = pf ∧ xs = ys) = true) (hput : ∀ W, Below w.heap.size w W → Puts 45 #[.int .u32 x] pk pf ys W) :
    Calls Try.prog 74 #[.agg #[.int .u8 (k.toNat : Int), .int .u8 (f.toNat : Int), .slice A n c], .int .u32 x, .bool true, .func (.func 45) #[] #[]] w fun e w' => e = .returned (.tuple #[.int .u32 x, .int .i64 0]) ∧ Below w.heap.size w w' := by
  have HPUT := Lib.hid hput
  have HSM : Hid (∀ (W : World) (A' : Option Addr) (c' : Nat), Below w.heap.size w W → Own8 W 5 w.heap.size A' ys.length c' ys → Calls Try.prog 79 #[.agg #[.int .u8 (k.toNat : Int), .int .u8 (f.toNat : Int), .slice A n c], .agg #[.int .u8 (pk.toNat : Int), .int .u8 (pf.toNat : Int), .slice A' ys.length c']] W fun e w' => e = .returned (.bool true) ∧ Below W.heap.size W w') := Lib.hid fun W A' c' hW ho => by
    have := sameC_any k f pk pf A A' n ys.length c c' xs ys W hx rfl ((hr.below hW).more hW.size) ho.rd
    rwa [hres] at this
  clear hput hx hr hres
  have b0 : Blk (w.alloc (.cells #[.int .u8 (k.toNat : Int), .int .u8 (f.toNat : Int), .slice A n c] 28)) w.heap.size 28 #[.int .u8 (k.toNat : Int), .int .u8 (f.toNat : Int), .slice A n c] := Blk.new w 28 #[.int .u8 (k.toNat : Int), .int .u8 (f.toNat : Int), .slice A n c]
  have K0 := Lib.hid b0
  have B0 : Hid (Below w.heap.size w (w.alloc (.cells #[.int .u8 (k.toNat : Int), .int .u8 (f.toNat : Int), .slice A n c] 28))) := Lib.hid (Wr.below_ ((Wr.refl 5 w.heap.size w).alloc (.cells #[.int .u8 (k.toNat : Int), .int .u8 (f.toNat : Int), .slice A n c] 28)) (Nat.le_refl _))
  clear b0
  go_enter Try.func74, Try.ntmps74
  rw [drawn_eq 1]
  go_wp2_with fail
  generalize (w.alloc (.cells #[.int .u8 (k.toNat : Int), .int .u8 (f.toNat : Int), .slice A n c] 28)) = v0 at K0 B0 ⊢
  rw [← drawn_eq 1]
  refine wp_region_grow_tail 9 (by kernel_rfl) [(Is (.bool true)), (Is (.bool false)), (Is (.bool false)), (Is (.agg #[.int .u8 (k.toNat : Int), .int .u8 (f.toNat : Int), .slice A n c])), (Is (.func (.func 45) #[] #[])), (Is (.int .u32 x)), (NewAgg 5 w.heap.size ys.length ys (fun s => .agg #[.int .u8 (pk.toNat : Int), .int .u8 (pf.toNat : Int), s])), (Is (.bool true)), (Is (.bool false))] rfl ?_ (by kernel_rfl) (by kernel_rfl) ?_ ?_
  · intro p hp
    simp only [List.mem_cons, List.not_mem_nil, or_false] at hp
    rcases hp with rfl | rfl | rfl | rfl | rfl | rfl | rfl | rfl | rfl
    · exact Lasts.is _
    · exact Lasts.is _
    · exact Lasts.is _
    · exact Lasts.is _
    · exact Lasts.is _
    · exact Lasts.is _
    · exact Lasts.newAgg _ _ _ _ _
    · exact Lasts.is _
    · exact Lasts.is _
  · refine ⟨?_, ?_, ?_, ?_, ?_, ?_, ?_, ?_, ?_, trivial⟩
    · intro listed a w1 hl hc
      have h2 : a.tmps[2]?.getD undef = .bool true := (hc.was 2 (by kernel_rfl)).trans rfl
      refine does_value rfl rfl (.bool true) w1 ?_ (Below.refl _ _) rfl
      clear hc hl
      go_simp
    · intro listed a w1 hl hc
      have h11 : a.tmps[11]?.getD undef = .bool true := hc.dep hl 0 11 rfl (by kernel_rfl)
      refine does_value rfl rfl (.bool false) w1 ?_ (Below.refl _ _) rfl
      clear hc hl
      go_simp
    · intro listed a w1 hl hc
      have h12 : a.tmps[12]?.getD undef = .bool false := hc.dep hl 1 12 rfl (by kernel_rfl)
      refine does_value rfl rfl (.bool false) w1 ?_ (Below.refl _ _) rfl
      clear hc hl
      go_simp
    · intro listed a w1 hl hc
      have h4 : a.tmps[4]?.getD undef = .pointer (some ⟨w.heap.size, 0, none⟩) := (hc.was 4 (by kernel_rfl)).trans rfl
      have kb := K0.out.below hc.g K0.out.lt
      have x0 : w1.cell? ⟨w.heap.size, 0, none⟩ = some (.int .u8 (k.toNat : Int)) := kb.cell 0
      have x1 : w1.cell? ⟨w.heap.size, 1, none⟩ = some (.int .u8 (f.toNat : Int)) := kb.cell 1
      have x2 : w1.cell? ⟨w.heap.size, 2, none⟩ = some (.slice A n c) := kb.cell 2
      clear kb
      refine does_value rfl (wanted_at rfl rfl (hc.dep hl 2 13 rfl (by kernel_rfl))) (.agg #[.int .u8 (k.toNat : Int), .int .u8 (f.toNat : Int), .slice A n c]) w1 ?_ (Below.refl _ _) rfl
      clear hc hl
      go_simp
    · intro listed a w1 hl hc
      have h3 : a.tmps[3]?.getD undef = .func (.func 45) #[] #[] := (hc.was 3 (by kernel_rfl)).trans rfl
      refine does_value rfl (wanted_at rfl rfl (hc.dep hl 2 13 rfl (by kernel_rfl))) (.func (.func 45) #[] #[]) w1 ?_ (Below.refl _ _) rfl
      clear hc hl
      go_simp
    · intro listed a w1 hl hc
      have h1 : a.tmps[1]?.getD undef = .int .u32 x := (hc.was 1 (by kernel_rfl)).trans rfl
      refine does_value rfl (wanted_at rfl rfl (hc.dep hl 2 13 rfl (by kernel_rfl))) (.int .u32 x) w1 ?_ (Below.refl _ _) rfl
      clear hc hl
      go_simp
    · intro listed a w1 hl hc
      have h15 : a.tmps[15]?.getD undef = .func (.func 45) #[] #[] := hc.dep hl 4 15 rfl (by kernel_rfl)
      have h16 : a.tmps[16]?.getD undef = .int .u32 x := hc.dep hl 5 16 rfl (by kernel_rfl)
      refine does_call rfl (wanted_at rfl rfl (hc.dep hl 2 13 rfl (by kernel_rfl))) 45 #[.int .u32 x] ?_ ((HPUT.out w1 (B0.out.trans (hc.g.mono B0.out.size))).mono fun e w' ⟨A9, c9, he, ho, hb⟩ => ⟨_, he, hb, A9, c9, rfl, ho.more (Nat.le_trans B0.out.size hc.g.size)⟩)
      clear hc hl
      go_simp
    · intro listed a w1 hl hc
      have h14 : a.tmps[14]?.getD undef = .agg #[.int .u8 (k.toNat : Int), .int .u8 (f.toNat : Int), .slice A n c] := hc.dep hl 3 14 rfl (by kernel_rfl)
      obtain ⟨A17, c17, h17, ho17⟩ := hc.dep hl 6 17 rfl (by kernel_rfl)
      refine does_call rfl (wanted_at rfl rfl (hc.dep hl 2 13 rfl (by kernel_rfl))) 79 #[.agg #[.int .u8 (k.toNat : Int), .int .u8 (f.toNat : Int), .slice A n c], .agg #[.int .u8 (pk.toNat : Int), .int .u8 (pf.toNat : Int), .slice A17 ys.length c17]] ?_ ((HSM.out w1 _ _ (B0.out.trans (hc.g.mono B0.out.size)) ho17).mono fun e w' ⟨he, hb⟩ => ⟨_, he, hb, rfl⟩)
      clear hc hl
      go_simp
    · intro listed a w1 hl hc
      have h18 : a.tmps[18]?.getD undef = .bool true := hc.dep hl 7 18 rfl (by kernel_rfl)
      refine does_value rfl (wanted_at rfl rfl (hc.dep hl 2 13 rfl (by kernel_rfl))) (.bool false) w1 ?_ (Below.refl _ _) rfl
      clear hc hl
      go_simp
  intro w2 hb2
  rintro _ rfl _ rfl _ rfl _ rfl _ rfl _ rfl _ ⟨A17, c17, rfl, ho17⟩ _ rfl _ rfl
  simp only [Thus, List.reverse_cons, List.reverse_nil, List.nil_append, List.cons_append, List.drop, List.take, lay]
  go_frame
  have B2 := Lib.hid (below_then B0.out (Nat.le_refl _) hb2)
  clear hb2
  go_wp2_with fail
  go_ret2
  exact ⟨rfl, B2.out⟩
set_option maxRecDepth 100000 in
set_option maxHeartbeats 4000000 in
theorem checkedC_no (k f : UInt8) (A : Option Addr) (n c : Nat) (x : Int) (xs ys : List UInt8) (pk pf : UInt8) (w : World) (hx : xs.length = n) (hr : Rd w w.heap.size A xs) (hres : decide (k = pk ∧ f = pf ∧ xs = ys) = false) (hput : ∀ W, Below w.heap.size w W → Puts 45 #[.int .u32 x] pk pf ys W) :
    Calls Try.prog 74 #[.agg #[.int .u8 (k.toNat : Int), .int .u8 (f.toNat : Int), .slice A n c], .int .u32 x, .bool true, .func (.func 45) #[] #[]] w fun e w' => e = .returned (.tuple #[.int .u32 0, .int .i64 7]) ∧ Below w.heap.size w w' := by
  have HPUT := Lib.hid hput
  have HSM : Hid (∀ (W : World) (A' : Option Addr) (c' : Nat), Below w.heap.size w W → Own8 W 5 w.heap.size A' ys.length c' ys → Calls Try.prog 79 #[.agg #[.int .u8 (k.toNat : Int), .int .u8 (f.toNat : Int), .slice A n c], .agg #[.int .u8 (pk.toNat : Int), .int .u8 (pf.toNat : Int), .slice A' ys.length c']] W fun e w' => e = .returned (.bool false) ∧ Below W.heap.size W w') := Lib.hid fun W A' c' hW ho => by
    have := sameC_any k f pk pf A A' n ys.length c c' xs ys W hx rfl ((hr.below hW).more hW.size) ho.rd
    rwa [hres] at this
  clear hput hx hr hres
  have b0 : Blk (w.alloc (.cells #[.int .u8 (k.toNat : Int), .int .u8 (f.toNat : Int), .slice A n c] 28)) w.heap.size 28 #[.int .u8 (k.toNat : Int), .int .u8 (f.toNat : Int), .slice A n c] := Blk.new w 28 #[.int .u8 (k.toNat : Int), .int .u8 (f.toNat : Int), .slice A n c]
  have K0 := Lib.hid b0
  have B0 : Hid (Below w.heap.size w (w.alloc (.cells #[.int .u8 (k.toNat : Int), .int .u8 (f.toNat : Int), .slice A n c] 28))) := Lib.hid (Wr.below_ ((Wr.refl 5 w.heap.size w).alloc (.cells #[.int .u8 (k.toNat : Int), .int .u8 (f.toNat : Int), .slice A n c] 28)) (Nat.le_refl _))
  clear b0
  go_enter Try.func74, Try.ntmps74
  rw [drawn_eq 1]
  go_wp2_with fail
  generalize (w.alloc (.cells #[.int .u8 (k.toNat : Int), .int .u8 (f.toNat : Int), .slice A n c] 28)) = v0 at K0 B0 ⊢
  rw [← drawn_eq 1]
  refine wp_region_grow_tail 9 (by kernel_rfl) [(Is (.bool true)), (Is (.bool false)), (Is (.bool false)), (Is (.agg #[.int .u8 (k.toNat : Int), .int .u8 (f.toNat : Int), .slice A n c])), (Is (.func (.func 45) #[] #[])), (Is (.int .u32 x)), (NewAgg 5 w.heap.size ys.length ys (fun s => .agg #[.int .u8 (pk.toNat : Int), .int .u8 (pf.toNat : Int), s])), (Is (.bool false)), (Is (.bool true))] rfl ?_ (by kernel_rfl) (by kernel_rfl) ?_ ?_
  · intro p hp
    simp only [List.mem_cons, List.not_mem_nil, or_false] at hp
    rcases hp with rfl | rfl | rfl | rfl | rfl | rfl | rfl | rfl | rfl
    · exact Lasts.is _
    · exact Lasts.is _
    · exact Lasts.is _
    · exact Lasts.is _
    · exact Lasts.is _
    · exact Lasts.is _
    · exact Lasts.newAgg _ _ _ _ _
    · exact Lasts.is _
    · exact Lasts.is _
  · refine ⟨?_, ?_, ?_, ?_, ?_, ?_, ?_, ?_, ?_, trivial⟩
    · intro listed a w1 hl hc
      have h2 : a.tmps[2]?.getD undef = .bool true := (hc.was 2 (by kernel_rfl)).trans rfl
      refine does_value rfl rfl (.bool true) w1 ?_ (Below.refl _ _) rfl
      clear hc hl
      go_simp
    · intro listed a w1 hl hc
      have h11 : a.tmps[11]?.getD undef = .bool true := hc.dep hl 0 11 rfl (by kernel_rfl)
      refine does_value rfl rfl (.bool false) w1 ?_ (Below.refl _ _) rfl
      clear hc hl
      go_simp
    · intro listed a w1 hl hc
      have h12 : a.tmps[12]?.getD undef = .bool false := hc.dep hl 1 12 rfl (by kernel_rfl)
      refine does_value rfl rfl (.bool false) w1 ?_ (Below.refl _ _) rfl
      clear hc hl
      go_simp
    · intro listed a w1 hl hc
      have h4 : a.tmps[4]?.getD undef = .pointer (some ⟨w.heap.size, 0, none⟩) := (hc.was 4 (by kernel_rfl)).trans rfl
      have kb := K0.out.below hc.g K0.out.lt
      have x0 : w1.cell? ⟨w.heap.size, 0, none⟩ = some (.int .u8 (k.toNat : Int)) := kb.cell 0
      have x1 : w1.cell? ⟨w.heap.size, 1, none⟩ = some (.int .u8 (f.toNat : Int)) := kb.cell 1
      have x2 : w1.cell? ⟨w.heap.size, 2, none⟩ = some (.slice A n c) := kb.cell 2
      clear kb
      refine does_value rfl (wanted_at rfl rfl (hc.dep hl 2 13 rfl (by kernel_rfl))) (.agg #[.int .u8 (k.toNat : Int), .int .u8 (f.toNat : Int), .slice A n c]) w1 ?_ (Below.refl _ _) rfl
      clear hc hl
      go_simp
    · intro listed a w1 hl hc
      have h3 : a.tmps[3]?.getD undef = .func (.func 45) #[] #[] := (hc.was 3 (by kernel_rfl)).trans rfl
      refine does_value rfl (wanted_at rfl rfl (hc.dep hl 2 13 rfl (by kernel_rfl))) (.func (.func 45) #[] #[]) w1 ?_ (Below.refl _ _) rfl
      clear hc hl
      go_simp
    · intro listed a w1 hl hc
      have h1 : a.tmps[1]?.getD undef = .int .u32 x := (hc.was 1 (by kernel_rfl)).trans rfl
      refine does_value rfl (wanted_at rfl rfl (hc.dep hl 2 13 rfl (by kernel_rfl))) (.int .u32 x) w1 ?_ (Below.refl _ _) rfl
      clear hc hl
      go_simp
    · intro listed a w1 hl hc
      have h15 : a.tmps[15]?.getD undef = .func (.func 45) #[] #[] := hc.dep hl 4 15 rfl (by kernel_rfl)
      have h16 : a.tmps[16]?.getD undef = .int .u32 x := hc.dep hl 5 16 rfl (by kernel_rfl)
      refine does_call rfl (wanted_at rfl rfl (hc.dep hl 2 13 rfl (by kernel_rfl))) 45 #[.int .u32 x] ?_ ((HPUT.out w1 (B0.out.trans (hc.g.mono B0.out.size))).mono fun e w' ⟨A9, c9, he, ho, hb⟩ => ⟨_, he, hb, A9, c9, rfl, ho.more (Nat.le_trans B0.out.size hc.g.size)⟩)
      clear hc hl
      go_simp
    · intro listed a w1 hl hc
      have h14 : a.tmps[14]?.getD undef = .agg #[.int .u8 (k.toNat : Int), .int .u8 (f.toNat : Int), .slice A n c] := hc.dep hl 3 14 rfl (by kernel_rfl)
      obtain ⟨A17, c17, h17, ho17⟩ := hc.dep hl 6 17 rfl (by kernel_rfl)
      refine does_call rfl (wanted_at rfl rfl (hc.dep hl 2 13 rfl (by kernel_rfl))) 79 #[.agg #[.int .u8 (k.toNat : Int), .int .u8 (f.toNat : Int), .slice A n c], .agg #[.int .u8 (pk.toNat : Int), .int .u8 (pf.toNat : Int), .slice A17 ys.length c17]] ?_ ((HSM.out w1 _ _ (B0.out.trans (hc.g.mono B0.out.size)) ho17).mono fun e w' ⟨he, hb⟩ => ⟨_, he, hb, rfl⟩)
      clear hc hl
      go_simp
    · intro listed a w1 hl hc
      have h18 : a.tmps[18]?.getD undef = .bool false := hc.dep hl 7 18 rfl (by kernel_rfl)
      refine does_value rfl (wanted_at rfl rfl (hc.dep hl 2 13 rfl (by kernel_rfl))) (.bool true) w1 ?_ (Below.refl _ _) rfl
      clear hc hl
      go_simp
  intro w2 hb2
  rintro _ rfl _ rfl _ rfl _ rfl _ rfl _ rfl _ ⟨A17, c17, rfl, ho17⟩ _ rfl _ rfl
  simp only [Thus, List.reverse_cons, List.reverse_nil, List.nil_append, List.cons_append, List.drop, List.take, lay]
  go_frame
  have B2 := Lib.hid (below_then B0.out (Nat.le_refl _) hb2)
  clear hb2
  go_wp2_with fail
  go_ret2
  exact ⟨rfl, B2.out⟩
end Go.Proofs.Ytalgkokgaibloaa
