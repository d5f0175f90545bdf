/-
  BodiesPlain, walked.
-/
import Derived.Test.YtalgkokgaibloaaBodRA
import Derived.Test.YtalgkokgaibloaaKept
import Derived.Test.YtalgkokgaibloaaRows2
import Derived.Test.YtalgkokgaibloaaNums
namespace Go.Proofs.Ytalgkokgaibloaa
open Go.RowKit
set_option linter.unusedVariables false

set_option maxRecDepth 100000 in
set_option maxHeartbeats 4000000 in
theorem bodiesPlain_big (pk : UInt8) (t : Int) (cu : Nat) (k f : UInt8) (A : Option Addr) (n c : Nat) (xs : List UInt8) (w : World) (ht : -9223372036854775808 ≤ t ∧ t < 9223372036854775808) (hcu : cu < 4294967296) (hc : n ≤ c) (hcm : c ≤ maxLen) (hx : xs.length = n) (hr : Rd w w.heap.size A xs) (h : 8192 < n) :
    Calls Try.prog 7 #[.agg #[.int .u8 (pk.toNat : Int), .int .i64 t, .int .u32 (cu : Int)], .agg #[.int .u8 (k.toNat : Int), .int .u8 (f.toNat : Int), .slice A n c]] w fun e w' => e = .returned (.bool true) ∧ Below w.heap.size w w' := by
  have HLG : Hid (∀ W, Calls Try.prog 12 #[.agg #[.int .u8 (k.toNat : Int), .int .u8 (f.toNat : Int), .slice A n c]] W fun e w' => e = .returned (.bool true) ∧ Below W.heap.size W w') := Lib.hid fun W => by
    have := large_any (k.toNat : Int) (f.toNat : Int) A n c W (Nat.le_trans hc hcm)
    rwa [decide_eq_true h] at this
  clear hx hr
  have b0 : Blk (w.alloc (.cells #[.int .u8 (pk.toNat : Int), .int .i64 t, .int .u32 (cu : Int)] 68)) w.heap.size 68 #[.int .u8 (pk.toNat : Int), .int .i64 t, .int .u32 (cu : Int)] := Blk.new w 68 #[.int .u8 (pk.toNat : Int), .int .i64 t, .int .u32 (cu : Int)]
  have b1 : Blk ((w.alloc (.cells #[.int .u8 (pk.toNat : Int), .int .i64 t, .int .u32 (cu : Int)] 68)).alloc (.cells #[.int .u8 (k.toNat : Int), .int .u8 (f.toNat : Int), .slice A n c] 28)) (w.heap.size + 1) 28 #[.int .u8 (k.toNat : Int), .int .u8 (f.toNat : Int), .slice A n c] := by simpa using Blk.new (w.alloc (.cells #[.int .u8 (pk.toNat : Int), .int .i64 t, .int .u32 (cu : Int)] 68)) 28 #[.int .u8 (k.toNat : Int), .int .u8 (f.toNat : Int), .slice A n c]
  have K0 := Lib.hid (b0.alloc (.cells #[.int .u8 (k.toNat : Int), .int .u8 (f.toNat : Int), .slice A n c] 28))
  have K1 := Lib.hid b1
  have B0 : Hid (Below w.heap.size w ((w.alloc (.cells #[.int .u8 (pk.toNat : Int), .int .i64 t, .int .u32 (cu : Int)] 68)).alloc (.cells #[.int .u8 (k.toNat : Int), .int .u8 (f.toNat : Int), .slice A n c] 28))) := Lib.hid (Wr.below_ (((Wr.refl 5 w.heap.size w).alloc (.cells #[.int .u8 (pk.toNat : Int), .int .i64 t, .int .u32 (cu : Int)] 68)).alloc (.cells #[.int .u8 (k.toNat : Int), .int .u8 (f.toNat : Int), .slice A n c] 28)) (Nat.le_refl _))
  clear b0 b1
  go_enter Try.func7, Try.ntmps7
  go_wp2_with fail
  generalize ((w.alloc (.cells #[.int .u8 (pk.toNat : Int), .int .i64 t, .int .u32 (cu : Int)] 68)).alloc (.cells #[.int .u8 (k.toNat : Int), .int .u8 (f.toNat : Int), .slice A n c] 28)) = v0 at K0 K1 B0 ⊢
  refine (HLG.out v0).mono ?_
  rintro e w1 ⟨rfl, hb⟩
  have B1 := Lib.hid (below_then B0.out (Nat.le_refl _) hb)
  clear hb
  go_wp2_with fail
  refine (works_any _).mono ?_
  rintro e w2 ⟨rfl, hb⟩
  go_wp2_with fail
  go_ret
  exact ⟨rfl, below_then B1.out (Nat.le_refl _) hb⟩
set_option maxRecDepth 100000 in
set_option maxHeartbeats 4000000 in
theorem bodiesPlain_small (pk : UInt8) (t : Int) (cu : Nat) (k f : UInt8) (A : Option Addr) (n c : Nat) (xs : List UInt8) (w : World) (ht : -9223372036854775808 ≤ t ∧ t < 9223372036854775808) (hcu : cu < 4294967296) (hc : n ≤ c) (hcm : c ≤ maxLen) (hx : xs.length = n) (hr : Rd w w.heap.size A xs) (h : n ≤ 8192) :
    Calls Try.prog 7 #[.agg #[.int .u8 (pk.toNat : Int), .int .i64 t, .int .u32 (cu : Int)], .agg #[.int .u8 (k.toNat : Int), .int .u8 (f.toNat : Int), .slice A n c]] w fun e w' => e = .returned (.bool true) ∧ Below w.heap.size w w' := by
  have HLG : Hid (∀ W, Calls Try.prog 12 #[.agg #[.int .u8 (k.toNat : Int), .int .u8 (f.toNat : Int), .slice A n c]] W fun e w' => e = .returned (.bool false) ∧ Below W.heap.size W w') := Lib.hid fun W => by
    have := large_any (k.toNat : Int) (f.toNat : Int) A n c W (Nat.le_trans hc hcm)
    rwa [decide_eq_false (by omega)] at this
  have HRM : Hid (∀ W, Below w.heap.size w W → Calls Try.prog 14 #[.slice A n c] W fun e w' => ∃ g, e = .returned (.slice (some ⟨g, 0, none⟩) n (n + 16)) ∧ W.heap.size ≤ g ∧ RowAt w' 5 g (xs ++ marks16) ∧ Below W.heap.size W w') := Lib.hid fun W hW => roomy_any A n c xs W (by omega) hx ((hr.below hW).more hW.size)
  have HGT : Hid (∀ (W : World) (g : Nat), RowAt W 5 g (xs ++ marks16) → Calls Try.prog 39 #[.agg #[.int .u8 (k.toNat : Int), .int .u8 (f.toNat : Int), .slice (some ⟨g, 0, none⟩) n (n + 16 : Nat)]] W fun e w' => e = .returned (.tuple #[.int .i64 (ansT k f xs), .int .i64 (errOf (okT k f xs))]) ∧ Below W.heap.size W w') := Lib.hid fun W g hg => getTime_any k f (some ⟨g, 0, none⟩) n (n + 16) xs W (by omega) (by omega) (by unfold maxLen; omega) hx (rd_room hg)
  have HRT : Hid (∀ (W : World), Below w.heap.size w W → Calls Try.prog 40 #[.agg #[.int .u8 (k.toNat : Int), .int .u8 (f.toNat : Int), .slice A n c]] W fun e w' => e = .returned (.tuple #[.int .i64 (ansT k f xs), .int .i64 (errOf (okT k f xs))]) ∧ Below W.heap.size W w') := Lib.hid fun W hW => refGetTime_any k f A n c xs W (by omega) hc hcm hx ((hr.below hW).more hW.size)
  have HGC : Hid (∀ (W : World) (g : Nat), RowAt W 5 g (xs ++ marks16) → Calls Try.prog 41 #[.agg #[.int .u8 (k.toNat : Int), .int .u8 (f.toNat : Int), .slice (some ⟨g, 0, none⟩) n (n + 16 : Nat)]] W fun e w' => e = .returned (.tuple #[.int .u32 (ansC k f xs : Int), .int .i64 (errOf (okC k f xs))]) ∧ Below W.heap.size W w') := Lib.hid fun W g hg => getCum_any k f (some ⟨g, 0, none⟩) n (n + 16) xs W (by omega) (by omega) (by unfold maxLen; omega) hx (rd_room hg)
  have HRC : Hid (∀ (W : World), Below w.heap.size w W → Calls Try.prog 42 #[.agg #[.int .u8 (k.toNat : Int), .int .u8 (f.toNat : Int), .slice A n c]] W fun e w' => e = .returned (.tuple #[.int .u32 (ansC k f xs : Int), .int .i64 (errOf (okC k f xs))]) ∧ Below W.heap.size W w') := Lib.hid fun W hW => refGetCum_any k f A n c xs W (by omega) hc hcm hx ((hr.below hW).more hW.size)
  obtain ⟨ra, hra⟩ : ∃ ra, ra = ansT k f xs := ⟨_, rfl⟩
  obtain ⟨re, hre⟩ : ∃ re, re = errOf (okT k f xs) := ⟨_, rfl⟩
  obtain ⟨rc, hrc⟩ : ∃ rc, rc = ansC k f xs := ⟨_, rfl⟩
  obtain ⟨rf, hrf⟩ : ∃ rf, rf = errOf (okC k f xs) := ⟨_, rfl⟩
  rw [← hra, ← hre] at HGT HRT
  rw [← hrc, ← hrf] at HGC HRC
  clear hra hre hrc hrf
  have HPT : Hid (∀ W, Puts 43 #[.int .u8 (pk.toNat : Int), .int .i64 t] pk 0 (bodyT (t % 18446744073709551616).toNat) W) := Lib.hid fun W => putTime_any pk t ht W
  have HQT : Hid (∀ W, Puts 44 #[.int .u8 (pk.toNat : Int), .int .i64 t] pk 0 (bodyT (t % 18446744073709551616).toNat) W) := Lib.hid fun W => refPutTime_any pk t ht W
  have HPC : Hid (∀ W, Puts 45 #[.int .u32 (cu : Int)] 7 0 (enc cu 4) W) := Lib.hid fun W => putCum_any cu hcu W
  have HQC : Hid (∀ W, Puts 46 #[.int .u32 (cu : Int)] 7 0 (enc cu 4) W) := Lib.hid fun W => refPutCum_any cu hcu W
  obtain ⟨YT, hYT⟩ : ∃ YT, YT = bodyT (t % 18446744073709551616).toNat := ⟨_, rfl⟩
  obtain ⟨YC, hYC⟩ : ∃ YC, YC = enc cu 4 := ⟨_, rfl⟩
  rw [← hYT] at HPT HQT
  rw [← hYC] at HPC HQC
  clear hYT hYC
  have HSM : Hid (∀ (W : World) (a b : UInt8) (Y : List UInt8) (A1 A2 : Option Addr) (c1 c2 b1 b2 : Nat), Own8 W 5 b1 A1 Y.length c1 Y → Own8 W 5 b2 A2 Y.length c2 Y → Calls Try.prog 18 #[.agg #[.int .u8 (a.toNat : Int), .int .u8 (b.toNat : Int), .slice A1 Y.length c1], .agg #[.int .u8 (a.toNat : Int), .int .u8 (b.toNat : Int), .slice A2 Y.length c2]] W fun e w' => e = .returned (.bool true) ∧ Below W.heap.size W w') := Lib.hid fun W a b Y A1 A2 c1 c2 b1 b2 h1 h2 => by
    have := same_any a b a b A1 A2 Y.length Y.length c1 c2 Y Y W rfl rfl (Nat.le_trans h1.cap.1 h1.cap.2) (Nat.le_trans h1.cap.1 h1.cap.2) h1.rd h2.rd
    simpa using this
  have HKP : Hid (∀ (W : World) (g : Nat), Below w.heap.size w W → RowAt W 5 g (xs ++ marks16) → Calls Try.prog 20 #[.slice (some ⟨g, 0, none⟩) n (n + 16 : Nat), .slice A n c] W fun e w' => e = .returned (.bool true) ∧ Below W.heap.size W w') := Lib.hid fun W g hW hg => (kept_any w.heap.size A n c g xs W (by omega) hx (hr.below hW) hg).mono fun e w' ⟨he, q, hq⟩ => ⟨he, hq ▸ below_drewN (Below.refl _ _) q⟩
  have hz := zero_chunk
  clear hx hr ht hcu
  have b0 : Blk (w.alloc (.cells #[.int .u8 (pk.toNat : Int), .int .i64 t, .int .u32 (cu : Int)] 68)) w.heap.size 68 #[.int .u8 (pk.toNat : Int), .int .i64 t, .int .u32 (cu : Int)] := Blk.new w 68 #[.int .u8 (pk.toNat : Int), .int .i64 t, .int .u32 (cu : Int)]
  have b1 : Blk ((w.alloc (.cells #[.int .u8 (pk.toNat : Int), .int .i64 t, .int .u32 (cu : Int)] 68)).alloc (.cells #[.int .u8 (k.toNat : Int), .int .u8 (f.toNat : Int), .slice A n c] 28)) (w.heap.size + 1) 28 #[.int .u8 (k.toNat : Int), .int .u8 (f.toNat : Int), .slice A n c] := by simpa using Blk.new (w.alloc (.cells #[.int .u8 (pk.toNat : Int), .int .i64 t, .int .u32 (cu : Int)] 68)) 28 #[.int .u8 (k.toNat : Int), .int .u8 (f.toNat : Int), .slice A n c]
  have K0 := Lib.hid (b0.alloc (.cells #[.int .u8 (k.toNat : Int), .int .u8 (f.toNat : Int), .slice A n c] 28))
  have K1 := Lib.hid b1
  have B0 : Hid (Below w.heap.size w ((w.alloc (.cells #[.int .u8 (pk.toNat : Int), .int .i64 t, .int .u32 (cu : Int)] 68)).alloc (.cells #[.int .u8 (k.toNat : Int), .int .u8 (f.toNat : Int), .slice A n c] 28))) := Lib.hid (Wr.below_ (((Wr.refl 5 w.heap.size w).alloc (.cells #[.int .u8 (pk.toNat : Int), .int .i64 t, .int .u32 (cu : Int)] 68)).alloc (.cells #[.int .u8 (k.toNat : Int), .int .u8 (f.toNat : Int), .slice A n c] 28)) (Nat.le_refl _))
  clear b0 b1
  go_enter Try.func7, Try.ntmps7
  rw [drawn_eq 3, drawn_eq 8]
  go_wp2_with fail
  generalize ((w.alloc (.cells #[.int .u8 (pk.toNat : Int), .int .i64 t, .int .u32 (cu : Int)] 68)).alloc (.cells #[.int .u8 (k.toNat : Int), .int .u8 (f.toNat : Int), .slice A n c] 28)) = v0 at K0 K1 B0 ⊢
  refine (HLG.out v0).mono ?_
  rintro e w1 ⟨rfl, hb⟩
  have P1 := Lib.hid (K0.out.below hb K0.out.lt)
  have C1 := Lib.hid (K1.out.below hb K1.out.lt)
  have B1 := Lib.hid (below_then B0.out (Nat.le_refl _) hb)
  clear hb K0 K1 B0 HLG
  go_wp2_with fail
  generalize w1 = v1 at P1 C1 B1 ⊢
  rw [← drawn_eq 3]
  refine wp_region_grow_tail 9 (by kernel_rfl) [(Is (.pointer (some ⟨w.heap.size + 1, 0, none⟩))), (Is (.int .u8 (k.toNat : Int))), (Is (.pointer (some ⟨w.heap.size + 1, 1, none⟩))), (Is (.int .u8 (f.toNat : Int))), (Is (.pointer (some ⟨w.heap.size + 1, 2, none⟩))), (Is (.slice A n c)), (NewRow 5 w.heap.size n (n + 16 : Nat) (xs ++ marks16) (fun s => s)), (NewRow 5 w.heap.size n (n + 16 : Nat) (xs ++ marks16) (fun s => .agg #[.int .u8 (k.toNat : Int), .int .u8 (f.toNat : Int), s])), (NewBlk v1.heap.size 28 #[.int .u8 0, .int .u8 0, .slice none 0 0])] rfl ?_ (by kernel_rfl) (by kernel_rfl) ?_ ?_
  · intro p hp
    simp only [List.mem_cons, List.not_mem_nil, or_false] at hp
    rcases hp with rfl | rfl | rfl | rfl | rfl | rfl | rfl | rfl | rfl
    · exact Lasts.is _
    · exact Lasts.is _
    · exact Lasts.is _
    · exact Lasts.is _
    · exact Lasts.is _
    · exact Lasts.is _
    · exact Lasts.newRow _ _ _ _ _ _
    · exact Lasts.newRow _ _ _ _ _ _
    · exact Lasts.newBlk _ _ _
  · refine ⟨?_, ?_, ?_, ?_, ?_, ?_, ?_, ?_, ?_, trivial⟩
    · intro listed a w1 hl hc
      have h3 : a.tmps[3]?.getD undef = .pointer (some ⟨w.heap.size + 1, 0, none⟩) := (hc.was 3 (by kernel_rfl)).trans rfl
      refine does_value rfl rfl (.pointer (some ⟨w.heap.size + 1, 0, none⟩)) w1 ?_ (Below.refl _ _) rfl
      clear hc hl
      go_simp
    · intro listed a w1 hl hc
      have h17 : a.tmps[17]?.getD undef = .pointer (some ⟨w.heap.size + 1, 0, none⟩) := hc.dep hl 0 17 rfl (by kernel_rfl)
      have kb := C1.out.below hc.g C1.out.lt
      have x0 : w1.cell? ⟨w.heap.size + 1, 0, none⟩ = some (.int .u8 (k.toNat : Int)) := kb.cell 0
      clear kb
      refine does_value rfl rfl (.int .u8 (k.toNat : Int)) w1 ?_ (Below.refl _ _) rfl
      clear hc hl
      go_simp
    · intro listed a w1 hl hc
      have h3 : a.tmps[3]?.getD undef = .pointer (some ⟨w.heap.size + 1, 0, none⟩) := (hc.was 3 (by kernel_rfl)).trans rfl
      refine does_value rfl rfl (.pointer (some ⟨w.heap.size + 1, 1, none⟩)) w1 ?_ (Below.refl _ _) rfl
      clear hc hl
      go_simp
    · intro listed a w1 hl hc
      have h19 : a.tmps[19]?.getD undef = .pointer (some ⟨w.heap.size + 1, 1, none⟩) := hc.dep hl 2 19 rfl (by kernel_rfl)
      have kb := C1.out.below hc.g C1.out.lt
      have x1 : w1.cell? ⟨w.heap.size + 1, 1, none⟩ = some (.int .u8 (f.toNat : Int)) := kb.cell 1
      clear kb
      refine does_value rfl rfl (.int .u8 (f.toNat : Int)) w1 ?_ (Below.refl _ _) rfl
      clear hc hl
      go_simp
    · intro listed a w1 hl hc
      have h3 : a.tmps[3]?.getD undef = .pointer (some ⟨w.heap.size + 1, 0, none⟩) := (hc.was 3 (by kernel_rfl)).trans rfl
      refine does_value rfl rfl (.pointer (some ⟨w.heap.size + 1, 2, none⟩)) w1 ?_ (Below.refl _ _) rfl
      clear hc hl
      go_simp
    · intro listed a w1 hl hc
      have h21 : a.tmps[21]?.getD undef = .pointer (some ⟨w.heap.size + 1, 2, none⟩) := hc.dep hl 4 21 rfl (by kernel_rfl)
      have kb := C1.out.below hc.g C1.out.lt
      have x2 : w1.cell? ⟨w.heap.size + 1, 2, none⟩ = some (.slice A n c) := kb.cell 2
      clear kb
      refine does_value rfl rfl (.slice A n c) w1 ?_ (Below.refl _ _) rfl
      clear hc hl
      go_simp
    · intro listed a w1 hl hc
      have h22 : a.tmps[22]?.getD undef = .slice A n c := hc.dep hl 5 22 rfl (by kernel_rfl)
      refine does_call rfl rfl 14 #[.slice A n c] ?_ ((HRM.out w1 (B1.out.trans (hc.g.mono B1.out.size))).mono fun e w' ⟨g9, he, hg, hr, hb⟩ => ⟨_, he, hb, g9, rfl, Nat.le_trans (Nat.le_trans B1.out.size hc.g.size) hg, hr⟩)
      clear hc hl
      go_simp
    · intro listed a w1 hl hc
      have h18 : a.tmps[18]?.getD undef = .int .u8 (k.toNat : Int) := hc.dep hl 1 18 rfl (by kernel_rfl)
      have h20 : a.tmps[20]?.getD undef = .int .u8 (f.toNat : Int) := hc.dep hl 3 20 rfl (by kernel_rfl)
      obtain ⟨G23, h23, hg23, hr23⟩ := hc.dep hl 6 23 rfl (by kernel_rfl)
      refine does_value rfl rfl (.agg #[.int .u8 (k.toNat : Int), .int .u8 (f.toNat : Int), .slice (some ⟨G23, 0, none⟩) n (n + 16 : Nat)]) w1 ?_ (Below.refl _ _) ⟨G23, rfl, hg23, hr23⟩
      clear hc hl
      go_simp
    · intro listed a w1 hl hc
      refine does_value rfl rfl (.pointer (some ⟨w1.heap.size, 0, none⟩)) (w1.alloc (.cells #[.int .u8 0, .int .u8 0, .slice none 0 0] 28)) ?_ (below_new w1 _) ⟨_, rfl, hc.g.size, Blk.new _ _ _⟩
      clear hc hl
      go_simp
  intro w2 hb2
  rintro _ rfl _ rfl _ rfl _ rfl _ rfl _ rfl _ ⟨G23, rfl, hg23, hr23⟩ _ ⟨G24, rfl, hg24, hr24⟩ _ ⟨g5, rfl, hg5, hb5⟩
  simp only [Thus, List.reverse_cons, List.reverse_nil, List.nil_append, List.cons_append, List.drop, List.take, lay]
  go_frame
  have hl1 := C1.out.lt
  have HG := Lib.hid hb5
  have hg2 : w.heap.size + 1 + 1 ≤ g5 := by omega
  have y0 := HG.out.cell 0
  have y1 := HG.out.cell 1
  have y2 := HG.out.cell 2
  have z0 := HG.out.frozen 0
  have z1 := HG.out.frozen 1
  have z2 := HG.out.frozen 2
  have Q3 : Hid (Blk (((w2.setCell ⟨g5, 0, none⟩ (.int .u8 (k.toNat : Int))).setCell ⟨g5, 1, none⟩ (.int .u8 (f.toNat : Int))).setCell ⟨g5, 2, none⟩ (.slice (some ⟨G24, 0, none⟩) n (n + 16 : Nat))) g5 28 #[.int .u8 (k.toNat : Int), .int .u8 (f.toNat : Int), .slice (some ⟨G24, 0, none⟩) n (n + 16 : Nat)]) := Lib.hid (((hb5.set_ 0 (.int .u8 (k.toNat : Int))).set_ 1 (.int .u8 (f.toNat : Int))).set_ 2 (.slice (some ⟨G24, 0, none⟩) n (n + 16 : Nat)))
  have P3 := Lib.hid ((((P1.out.below hb2 P1.out.lt).far (p := ⟨g5, 0, none⟩) (show w.heap.size ≠ g5 by omega) (.int .u8 (k.toNat : Int))).far (p := ⟨g5, 1, none⟩) (show w.heap.size ≠ g5 by omega) (.int .u8 (f.toNat : Int))).far (p := ⟨g5, 2, none⟩) (show w.heap.size ≠ g5 by omega) (.slice (some ⟨G24, 0, none⟩) n (n + 16 : Nat)))
  have C3 := Lib.hid ((((C1.out.below hb2 C1.out.lt).far (p := ⟨g5, 0, none⟩) (show w.heap.size + 1 ≠ g5 by omega) (.int .u8 (k.toNat : Int))).far (p := ⟨g5, 1, none⟩) (show w.heap.size + 1 ≠ g5 by omega) (.int .u8 (f.toNat : Int))).far (p := ⟨g5, 2, none⟩) (show w.heap.size + 1 ≠ g5 by omega) (.slice (some ⟨G24, 0, none⟩) n (n + 16 : Nat)))
  have B3 := Lib.hid ((((below_then B1.out (Nat.le_refl _) hb2).setCell (p := ⟨g5, 0, none⟩) (show w.heap.size ≤ g5 by omega) (.int .u8 (k.toNat : Int))).setCell (p := ⟨g5, 1, none⟩) (show w.heap.size ≤ g5 by omega) (.int .u8 (f.toNat : Int))).setCell (p := ⟨g5, 2, none⟩) (show w.heap.size ≤ g5 by omega) (.slice (some ⟨G24, 0, none⟩) n (n + 16 : Nat)))
  have hne := hr24.ne_blk hb5 (by decide)
  have R3 := Lib.hid (((hr24.far (p := ⟨g5, 0, none⟩) hne (.int .u8 (k.toNat : Int))).far (p := ⟨g5, 1, none⟩) hne (.int .u8 (f.toNat : Int))).far (p := ⟨g5, 2, none⟩) hne (.slice (some ⟨G24, 0, none⟩) n (n + 16 : Nat)))
  have hgl : g5 < w2.heap.size := hb5.lt
  clear hb2 hb5 hg5 hl1 hr24 hg24 hne HG P1 C1 B1
  go_wp2_with fail
  generalize (((w2.setCell ⟨g5, 0, none⟩ (.int .u8 (k.toNat : Int))).setCell ⟨g5, 1, none⟩ (.int .u8 (f.toNat : Int))).setCell ⟨g5, 2, none⟩ (.slice (some ⟨G24, 0, none⟩) n (n + 16 : Nat))) = v3 at Q3 P3 C3 B3 R3 ⊢
  clear hgl y0 y1 y2 z0 z1 z2
  refine (HGT.out v3 G24 R3.out).mono ?_
  rintro e w4 ⟨rfl, hb⟩
  have Q4 := Lib.hid (Q3.out.below hb Q3.out.lt)
  have P4 := Lib.hid (P3.out.below hb P3.out.lt)
  have C4 := Lib.hid (C3.out.below hb C3.out.lt)
  have R4 := Lib.hid (R3.out.below hb R3.out.lt)
  have B4 := Lib.hid (below_then B3.out (Nat.le_refl _) hb)
  clear hb Q3 P3 C3 R3 B3
  have x0 := C4.out.cell 0
  have x1 := C4.out.cell 1
  have x2 := C4.out.cell 2
  go_wp2_with fail
  clear x0 x1 x2
  refine (HRT.out w4 B4.out).mono ?_
  rintro e w5 ⟨rfl, hb⟩
  have Q5 := Lib.hid (Q4.out.below hb Q4.out.lt)
  have P5 := Lib.hid (P4.out.below hb P4.out.lt)
  have C5 := Lib.hid (C4.out.below hb C4.out.lt)
  have R5 := Lib.hid (R4.out.below hb R4.out.lt)
  have B5 := Lib.hid (below_then B4.out (Nat.le_refl _) hb)
  clear hb Q4 P4 C4 R4 B4
  have x0 := Q5.out.cell 0
  have x1 := Q5.out.cell 1
  have x2 := Q5.out.cell 2
  go_wp2_with fail
  clear x0 x1 x2
  refine (HGC.out w5 G24 R5.out).mono ?_
  rintro e w6 ⟨rfl, hb⟩
  have Q6 := Lib.hid (Q5.out.below hb Q5.out.lt)
  have P6 := Lib.hid (P5.out.below hb P5.out.lt)
  have C6 := Lib.hid (C5.out.below hb C5.out.lt)
  have R6 := Lib.hid (R5.out.below hb R5.out.lt)
  have B6 := Lib.hid (below_then B5.out (Nat.le_refl _) hb)
  clear hb Q5 P5 C5 R5 B5
  have x0 := C6.out.cell 0
  have x1 := C6.out.cell 1
  have x2 := C6.out.cell 2
  go_wp2_with fail
  clear x0 x1 x2
  refine (HRC.out w6 B6.out).mono ?_
  rintro e w7 ⟨rfl, hb⟩
  have Q7 := Lib.hid (Q6.out.below hb Q6.out.lt)
  have P7 := Lib.hid (P6.out.below hb P6.out.lt)
  have C7 := Lib.hid (C6.out.below hb C6.out.lt)
  have R7 := Lib.hid (R6.out.below hb R6.out.lt)
  have B7 := Lib.hid (below_then B6.out (Nat.le_refl _) hb)
  clear hb Q6 P6 C6 R6 B6
  go_wp2_with fail
  generalize w7 = v7 at Q7 P7 C7 R7 B7 ⊢
  rw [← drawn_eq 8]
  refine wp_region_grow_tail 50 (by kernel_rfl) [(Is (.pointer (some ⟨w.heap.size, 0, none⟩))), (Is (.int .u8 (pk.toNat : Int))), (Is (.pointer (some ⟨w.heap.size, 1, none⟩))), (Is (.int .i64 t)), (NewAgg 5 v7.heap.size YT.length YT (fun s => .agg #[.int .u8 (pk.toNat : Int), .int .u8 ((0 : UInt8).toNat : Int), s])), (Is (.pointer (some ⟨w.heap.size, 0, none⟩))), (Is (.int .u8 (pk.toNat : Int))), (Is (.pointer (some ⟨w.heap.size, 1, none⟩))), (Is (.int .i64 t)), (NewAgg 5 v7.heap.size YT.length YT (fun s => .agg #[.int .u8 (pk.toNat : Int), .int .u8 ((0 : UInt8).toNat : Int), s])), (Is (.bool true)), (Is (.bool true)), (Is (.pointer (some ⟨w.heap.size, 2, none⟩))), (Is (.int .u32 (cu : Int))), (NewAgg 5 v7.heap.size YC.length YC (fun s => .agg #[.int .u8 ((7 : UInt8).toNat : Int), .int .u8 ((0 : UInt8).toNat : Int), s])), (Is (.pointer (some ⟨w.heap.size, 2, none⟩))), (Is (.int .u32 (cu : Int))), (NewAgg 5 v7.heap.size YC.length YC (fun s => .agg #[.int .u8 ((7 : UInt8).toNat : Int), .int .u8 ((0 : UInt8).toNat : Int), s])), (Is (.bool true)), (Is (.bool true)), (Is (.bool true)), (Is (.int .i64 ra)), (Is (.int .i64 ra)), (Is (.bool true)), (Is (.bool true)), (Is (.bool true)), (Is (.int .i64 re)), (Is (.int .i64 re)), (Is (.bool true)), (Is (.bool true)), (Is (.bool true)), (Is (.int .u32 (rc : Int))), (Is (.int .u32 (rc : Int))), (Is (.bool true)), (Is (.bool true)), (Is (.bool true)), (Is (.int .i64 rf)), (Is (.int .i64 rf)), (Is (.bool true)), (Is (.bool true)), (Is (.bool true)), (Is (.pointer (some ⟨g5, 2, none⟩))), (Is (.slice (some ⟨G24, 0, none⟩) n (n + 16 : Nat))), (Is (.pointer (some ⟨w.heap.size + 1, 2, none⟩))), (Is (.slice A n c)), (Is (.bool true)), (Is (.bool true)), (Is (.bool true)), (Is (.bool true)), (Is (.bool true))] rfl ?_ (by kernel_rfl) (by kernel_rfl) ?_ ?_
  · intro p hp
    simp only [List.mem_cons, List.not_mem_nil, or_false] at hp
    rcases hp with rfl | rfl | rfl | rfl | rfl | rfl | rfl | rfl | rfl | rfl | rfl | rfl | rfl | rfl | rfl | rfl | rfl | rfl | rfl | rfl | rfl | rfl | rfl | rfl | rfl | rfl | rfl | rfl | rfl | rfl | rfl | rfl | rfl | rfl | rfl | rfl | rfl | rfl | rfl | rfl | rfl | rfl | rfl | rfl | rfl | rfl | rfl | rfl | rfl | rfl
    · exact Lasts.is _
    · exact Lasts.is _
    · exact Lasts.is _
    · exact Lasts.is _
    · exact Lasts.newAgg _ _ _ _ _
    · exact Lasts.is _
    · exact Lasts.is _
    · exact Lasts.is _
    · exact Lasts.is _
    · exact Lasts.newAgg _ _ _ _ _
    · exact Lasts.is _
    · exact Lasts.is _
    · exact Lasts.is _
    · exact Lasts.is _
    · exact Lasts.newAgg _ _ _ _ _
    · exact Lasts.is _
    · exact Lasts.is _
    · exact Lasts.newAgg _ _ _ _ _
    · exact Lasts.is _
    · exact Lasts.is _
    · exact Lasts.is _
    · exact Lasts.is _
    · exact Lasts.is _
    · exact Lasts.is _
    · exact Lasts.is _
    · exact Lasts.is _
    · exact Lasts.is _
    · exact Lasts.is _
    · exact Lasts.is _
    · exact Lasts.is _
    · exact Lasts.is _
    · exact Lasts.is _
    · exact Lasts.is _
    · exact Lasts.is _
    · exact Lasts.is _
    · exact Lasts.is _
    · exact Lasts.is _
    · exact Lasts.is _
    · exact Lasts.is _
    · exact Lasts.is _
    · exact Lasts.is _
    · exact Lasts.is _
    · exact Lasts.is _
    · exact Lasts.is _
    · exact Lasts.is _
    · exact Lasts.is _
    · exact Lasts.is _
    · exact Lasts.is _
    · exact Lasts.is _
    · exact Lasts.is _
  · refine ⟨?_, ?_, ?_, ?_, ?_, ?_, ?_, ?_, ?_, ?_, ?_, ?_, ?_, ?_, ?_, ?_, ?_, ?_, ?_, ?_, ?_, ?_, ?_, ?_, ?_, ?_, ?_, ?_, ?_, ?_, ?_, ?_, ?_, ?_, ?_, ?_, ?_, ?_, ?_, ?_, ?_, ?_, ?_, ?_, ?_, ?_, ?_, ?_, ?_, ?_, trivial⟩
    · intro listed a w1 hl hc
      have h2 : a.tmps[2]?.getD undef = .pointer (some ⟨w.heap.size, 0, none⟩) := (hc.was 2 (by kernel_rfl)).trans rfl
      refine does_value rfl rfl (.pointer (some ⟨w.heap.size, 0, none⟩)) w1 ?_ (Below.refl _ _) rfl
      clear hc hl
      go_simp
    · intro listed a w1 hl hc
      have h45 : a.tmps[45]?.getD undef = .pointer (some ⟨w.heap.size, 0, none⟩) := hc.dep hl 0 45 rfl (by kernel_rfl)
      have kb := P7.out.below hc.g P7.out.lt
      have x0 : w1.cell? ⟨w.heap.size, 0, none⟩ = some (.int .u8 (pk.toNat : Int)) := kb.cell 0
      clear kb
      refine does_value rfl rfl (.int .u8 (pk.toNat : Int)) w1 ?_ (Below.refl _ _) rfl
      clear hc hl
      go_simp
    · intro listed a w1 hl hc
      have h2 : a.tmps[2]?.getD undef = .pointer (some ⟨w.heap.size, 0, none⟩) := (hc.was 2 (by kernel_rfl)).trans rfl
      refine does_value rfl rfl (.pointer (some ⟨w.heap.size, 1, none⟩)) w1 ?_ (Below.refl _ _) rfl
      clear hc hl
      go_simp
    · intro listed a w1 hl hc
      have h47 : a.tmps[47]?.getD undef = .pointer (some ⟨w.heap.size, 1, none⟩) := hc.dep hl 2 47 rfl (by kernel_rfl)
      have kb := P7.out.below hc.g P7.out.lt
      have x1 : w1.cell? ⟨w.heap.size, 1, none⟩ = some (.int .i64 t) := kb.cell 1
      clear kb
      refine does_value rfl rfl (.int .i64 t) w1 ?_ (Below.refl _ _) rfl
      clear hc hl
      go_simp
    · intro listed a w1 hl hc
      have h46 : a.tmps[46]?.getD undef = .int .u8 (pk.toNat : Int) := hc.dep hl 1 46 rfl (by kernel_rfl)
      have h48 : a.tmps[48]?.getD undef = .int .i64 t := hc.dep hl 3 48 rfl (by kernel_rfl)
      refine does_call rfl rfl 43 #[.int .u8 (pk.toNat : Int), .int .i64 t] ?_ ((HPT.out w1).mono fun e w' ⟨A9, c9, he, ho, hb⟩ => ⟨_, he, hb, A9, c9, rfl, ho.more hc.g.size⟩)
      clear hc hl
      go_simp
    · intro listed a w1 hl hc
      have h2 : a.tmps[2]?.getD undef = .pointer (some ⟨w.heap.size, 0, none⟩) := (hc.was 2 (by kernel_rfl)).trans rfl
      refine does_value rfl rfl (.pointer (some ⟨w.heap.size, 0, none⟩)) w1 ?_ (Below.refl _ _) rfl
      clear hc hl
      go_simp
    · intro listed a w1 hl hc
      have h50 : a.tmps[50]?.getD undef = .pointer (some ⟨w.heap.size, 0, none⟩) := hc.dep hl 5 50 rfl (by kernel_rfl)
      have kb := P7.out.below hc.g P7.out.lt
      have x0 : w1.cell? ⟨w.heap.size, 0, none⟩ = some (.int .u8 (pk.toNat : Int)) := kb.cell 0
      clear kb
      refine does_value rfl rfl (.int .u8 (pk.toNat : Int)) w1 ?_ (Below.refl _ _) rfl
      clear hc hl
      go_simp
    · intro listed a w1 hl hc
      have h2 : a.tmps[2]?.getD undef = .pointer (some ⟨w.heap.size, 0, none⟩) := (hc.was 2 (by kernel_rfl)).trans rfl
      refine does_value rfl rfl (.pointer (some ⟨w.heap.size, 1, none⟩)) w1 ?_ (Below.refl _ _) rfl
      clear hc hl
      go_simp
    · intro listed a w1 hl hc
      have h52 : a.tmps[52]?.getD undef = .pointer (some ⟨w.heap.size, 1, none⟩) := hc.dep hl 7 52 rfl (by kernel_rfl)
      have kb := P7.out.below hc.g P7.out.lt
      have x1 : w1.cell? ⟨w.heap.size, 1, none⟩ = some (.int .i64 t) := kb.cell 1
      clear kb
      refine does_value rfl rfl (.int .i64 t) w1 ?_ (Below.refl _ _) rfl
      clear hc hl
      go_simp
    · intro listed a w1 hl hc
      have h51 : a.tmps[51]?.getD undef = .int .u8 (pk.toNat : Int) := hc.dep hl 6 51 rfl (by kernel_rfl)
      have h53 : a.tmps[53]?.getD undef = .int .i64 t := hc.dep hl 8 53 rfl (by kernel_rfl)
      refine does_call rfl rfl 44 #[.int .u8 (pk.toNat : Int), .int .i64 t] ?_ ((HQT.out w1).mono fun e w' ⟨A9, c9, he, ho, hb⟩ => ⟨_, he, hb, A9, c9, rfl, ho.more hc.g.size⟩)
      clear hc hl
      go_simp
    · intro listed a w1 hl hc
      obtain ⟨A49, c49, h49, ho49⟩ := hc.dep hl 4 49 rfl (by kernel_rfl)
      obtain ⟨A54, c54, h54, ho54⟩ := hc.dep hl 9 54 rfl (by kernel_rfl)
      refine does_call rfl rfl 18 #[.agg #[.int .u8 (pk.toNat : Int), .int .u8 ((0 : UInt8).toNat : Int), .slice A49 YT.length c49], .agg #[.int .u8 (pk.toNat : Int), .int .u8 ((0 : UInt8).toNat : Int), .slice A54 YT.length c54]] ?_ ((HSM.out w1 pk 0 YT A49 A54 c49 c54 _ _ ho49 ho54).mono fun e w' ⟨he, hb⟩ => ⟨_, he, hb, rfl⟩)
      clear hc hl
      go_simp
    · intro listed a w1 hl hc
      have h55 : a.tmps[55]?.getD undef = .bool true := hc.dep hl 10 55 rfl (by kernel_rfl)
      refine does_value rfl rfl (.bool true) w1 ?_ (Below.refl _ _) rfl
      clear hc hl
      go_simp
    · intro listed a w1 hl hc
      have h2 : a.tmps[2]?.getD undef = .pointer (some ⟨w.heap.size, 0, none⟩) := (hc.was 2 (by kernel_rfl)).trans rfl
      refine does_value rfl (wanted_at rfl rfl (hc.dep hl 11 56 rfl (by kernel_rfl))) (.pointer (some ⟨w.heap.size, 2, none⟩)) w1 ?_ (Below.refl _ _) rfl
      clear hc hl
      go_simp
    · intro listed a w1 hl hc
      have h57 : a.tmps[57]?.getD undef = .pointer (some ⟨w.heap.size, 2, none⟩) := hc.dep hl 12 57 rfl (by kernel_rfl)
      have kb := P7.out.below hc.g P7.out.lt
      have x2 : w1.cell? ⟨w.heap.size, 2, none⟩ = some (.int .u32 (cu : Int)) := kb.cell 2
      clear kb
      refine does_value rfl (wanted_at rfl rfl (hc.dep hl 11 56 rfl (by kernel_rfl))) (.int .u32 (cu : Int)) w1 ?_ (Below.refl _ _) rfl
      clear hc hl
      go_simp
    · intro listed a w1 hl hc
      have h58 : a.tmps[58]?.getD undef = .int .u32 (cu : Int) := hc.dep hl 13 58 rfl (by kernel_rfl)
      refine does_call rfl (wanted_at rfl rfl (hc.dep hl 11 56 rfl (by kernel_rfl))) 45 #[.int .u32 (cu : Int)] ?_ ((HPC.out w1).mono fun e w' ⟨A9, c9, he, ho, hb⟩ => ⟨_, he, hb, A9, c9, rfl, ho.more hc.g.size⟩)
      clear hc hl
      go_simp
    · intro listed a w1 hl hc
      have h2 : a.tmps[2]?.getD undef = .pointer (some ⟨w.heap.size, 0, none⟩) := (hc.was 2 (by kernel_rfl)).trans rfl
      refine does_value rfl (wanted_at rfl rfl (hc.dep hl 11 56 rfl (by kernel_rfl))) (.pointer (some ⟨w.heap.size, 2, none⟩)) w1 ?_ (Below.refl _ _) rfl
      clear hc hl
      go_simp
    · intro listed a w1 hl hc
      have h60 : a.tmps[60]?.getD undef = .pointer (some ⟨w.heap.size, 2, none⟩) := hc.dep hl 15 60 rfl (by kernel_rfl)
      have kb := P7.out.below hc.g P7.out.lt
      have x2 : w1.cell? ⟨w.heap.size, 2, none⟩ = some (.int .u32 (cu : Int)) := kb.cell 2
      clear kb
      refine does_value rfl (wanted_at rfl rfl (hc.dep hl 11 56 rfl (by kernel_rfl))) (.int .u32 (cu : Int)) w1 ?_ (Below.refl _ _) rfl
      clear hc hl
      go_simp
    · intro listed a w1 hl hc
      have h61 : a.tmps[61]?.getD undef = .int .u32 (cu : Int) := hc.dep hl 16 61 rfl (by kernel_rfl)
      refine does_call rfl (wanted_at rfl rfl (hc.dep hl 11 56 rfl (by kernel_rfl))) 46 #[.int .u32 (cu : Int)] ?_ ((HQC.out w1).mono fun e w' ⟨A9, c9, he, ho, hb⟩ => ⟨_, he, hb, A9, c9, rfl, ho.more hc.g.size⟩)
      clear hc hl
      go_simp
    · intro listed a w1 hl hc
      obtain ⟨A59, c59, h59, ho59⟩ := hc.dep hl 14 59 rfl (by kernel_rfl)
      obtain ⟨A62, c62, h62, ho62⟩ := hc.dep hl 17 62 rfl (by kernel_rfl)
      refine does_call rfl (wanted_at rfl rfl (hc.dep hl 11 56 rfl (by kernel_rfl))) 18 #[.agg #[.int .u8 ((7 : UInt8).toNat : Int), .int .u8 ((0 : UInt8).toNat : Int), .slice A59 YC.length c59], .agg #[.int .u8 ((7 : UInt8).toNat : Int), .int .u8 ((0 : UInt8).toNat : Int), .slice A62 YC.length c62]] ?_ ((HSM.out w1 7 0 YC A59 A62 c59 c62 _ _ ho59 ho62).mono fun e w' ⟨he, hb⟩ => ⟨_, he, hb, rfl⟩)
      clear hc hl
      go_simp
    · intro listed a w1 hl hc
      have h56 : a.tmps[56]?.getD undef = .bool true := hc.dep hl 11 56 rfl (by kernel_rfl)
      have h63 : a.tmps[63]?.getD undef = .bool true := hc.dep hl 18 63 rfl (by kernel_rfl)
      refine does_value rfl rfl (.bool true) w1 ?_ (Below.refl _ _) rfl
      clear hc hl
      go_simp
    · intro listed a w1 hl hc
      have h64 : a.tmps[64]?.getD undef = .bool true := hc.dep hl 19 64 rfl (by kernel_rfl)
      refine does_value rfl rfl (.bool true) w1 ?_ (Below.refl _ _) rfl
      clear hc hl
      go_simp
    · intro listed a w1 hl hc
      have h6 : a.tmps[6]?.getD undef = .int .i64 ra := (hc.was 6 (by kernel_rfl)).trans rfl
      refine does_value rfl (wanted_at rfl rfl (hc.dep hl 20 65 rfl (by kernel_rfl))) (.int .i64 ra) w1 ?_ (Below.refl _ _) rfl
      clear hc hl
      go_simp
    · intro listed a w1 hl hc
      have h8 : a.tmps[8]?.getD undef = .int .i64 ra := (hc.was 8 (by kernel_rfl)).trans rfl
      refine does_value rfl (wanted_at rfl rfl (hc.dep hl 20 65 rfl (by kernel_rfl))) (.int .i64 ra) w1 ?_ (Below.refl _ _) rfl
      clear hc hl
      go_simp
    · intro listed a w1 hl hc
      have h66 : a.tmps[66]?.getD undef = .int .i64 ra := hc.dep hl 21 66 rfl (by kernel_rfl)
      have h67 : a.tmps[67]?.getD undef = .int .i64 ra := hc.dep hl 22 67 rfl (by kernel_rfl)
      refine does_value rfl (wanted_at rfl rfl (hc.dep hl 20 65 rfl (by kernel_rfl))) (.bool true) w1 ?_ (Below.refl _ _) rfl
      clear hc hl
      go_simp
    · intro listed a w1 hl hc
      have h65 : a.tmps[65]?.getD undef = .bool true := hc.dep hl 20 65 rfl (by kernel_rfl)
      have h68 : a.tmps[68]?.getD undef = .bool true := hc.dep hl 23 68 rfl (by kernel_rfl)
      refine does_value rfl rfl (.bool true) w1 ?_ (Below.refl _ _) rfl
      clear hc hl
      go_simp
    · intro listed a w1 hl hc
      have h69 : a.tmps[69]?.getD undef = .bool true := hc.dep hl 24 69 rfl (by kernel_rfl)
      refine does_value rfl rfl (.bool true) w1 ?_ (Below.refl _ _) rfl
      clear hc hl
      go_simp
    · intro listed a w1 hl hc
      have h7 : a.tmps[7]?.getD undef = .int .i64 re := (hc.was 7 (by kernel_rfl)).trans rfl
      refine does_value rfl (wanted_at rfl rfl (hc.dep hl 25 70 rfl (by kernel_rfl))) (.int .i64 re) w1 ?_ (Below.refl _ _) rfl
      clear hc hl
      go_simp
    · intro listed a w1 hl hc
      have h9 : a.tmps[9]?.getD undef = .int .i64 re := (hc.was 9 (by kernel_rfl)).trans rfl
      refine does_value rfl (wanted_at rfl rfl (hc.dep hl 25 70 rfl (by kernel_rfl))) (.int .i64 re) w1 ?_ (Below.refl _ _) rfl
      clear hc hl
      go_simp
    · intro listed a w1 hl hc
      have h71 : a.tmps[71]?.getD undef = .int .i64 re := hc.dep hl 26 71 rfl (by kernel_rfl)
      have h72 : a.tmps[72]?.getD undef = .int .i64 re := hc.dep hl 27 72 rfl (by kernel_rfl)
      refine does_value rfl (wanted_at rfl rfl (hc.dep hl 25 70 rfl (by kernel_rfl))) (.bool true) w1 ?_ (Below.refl _ _) rfl
      clear hc hl
      go_simp
    · intro listed a w1 hl hc
      have h70 : a.tmps[70]?.getD undef = .bool true := hc.dep hl 25 70 rfl (by kernel_rfl)
      have h73 : a.tmps[73]?.getD undef = .bool true := hc.dep hl 28 73 rfl (by kernel_rfl)
      refine does_value rfl rfl (.bool true) w1 ?_ (Below.refl _ _) rfl
      clear hc hl
      go_simp
    · intro listed a w1 hl hc
      have h74 : a.tmps[74]?.getD undef = .bool true := hc.dep hl 29 74 rfl (by kernel_rfl)
      refine does_value rfl rfl (.bool true) w1 ?_ (Below.refl _ _) rfl
      clear hc hl
      go_simp
    · intro listed a w1 hl hc
      have h10 : a.tmps[10]?.getD undef = .int .u32 (rc : Int) := (hc.was 10 (by kernel_rfl)).trans rfl
      refine does_value rfl (wanted_at rfl rfl (hc.dep hl 30 75 rfl (by kernel_rfl))) (.int .u32 (rc : Int)) w1 ?_ (Below.refl _ _) rfl
      clear hc hl
      go_simp
    · intro listed a w1 hl hc
      have h12 : a.tmps[12]?.getD undef = .int .u32 (rc : Int) := (hc.was 12 (by kernel_rfl)).trans rfl
      refine does_value rfl (wanted_at rfl rfl (hc.dep hl 30 75 rfl (by kernel_rfl))) (.int .u32 (rc : Int)) w1 ?_ (Below.refl _ _) rfl
      clear hc hl
      go_simp
    · intro listed a w1 hl hc
      have h76 : a.tmps[76]?.getD undef = .int .u32 (rc : Int) := hc.dep hl 31 76 rfl (by kernel_rfl)
      have h77 : a.tmps[77]?.getD undef = .int .u32 (rc : Int) := hc.dep hl 32 77 rfl (by kernel_rfl)
      refine does_value rfl (wanted_at rfl rfl (hc.dep hl 30 75 rfl (by kernel_rfl))) (.bool true) w1 ?_ (Below.refl _ _) rfl
      clear hc hl
      go_simp
    · intro listed a w1 hl hc
      have h75 : a.tmps[75]?.getD undef = .bool true := hc.dep hl 30 75 rfl (by kernel_rfl)
      have h78 : a.tmps[78]?.getD undef = .bool true := hc.dep hl 33 78 rfl (by kernel_rfl)
      refine does_value rfl rfl (.bool true) w1 ?_ (Below.refl _ _) rfl
      clear hc hl
      go_simp
    · intro listed a w1 hl hc
      have h79 : a.tmps[79]?.getD undef = .bool true := hc.dep hl 34 79 rfl (by kernel_rfl)
      refine does_value rfl rfl (.bool true) w1 ?_ (Below.refl _ _) rfl
      clear hc hl
      go_simp
    · intro listed a w1 hl hc
      have h11 : a.tmps[11]?.getD undef = .int .i64 rf := (hc.was 11 (by kernel_rfl)).trans rfl
      refine does_value rfl (wanted_at rfl rfl (hc.dep hl 35 80 rfl (by kernel_rfl))) (.int .i64 rf) w1 ?_ (Below.refl _ _) rfl
      clear hc hl
      go_simp
    · intro listed a w1 hl hc
      have h13 : a.tmps[13]?.getD undef = .int .i64 rf := (hc.was 13 (by kernel_rfl)).trans rfl
      refine does_value rfl (wanted_at rfl rfl (hc.dep hl 35 80 rfl (by kernel_rfl))) (.int .i64 rf) w1 ?_ (Below.refl _ _) rfl
      clear hc hl
      go_simp
    · intro listed a w1 hl hc
      have h81 : a.tmps[81]?.getD undef = .int .i64 rf := hc.dep hl 36 81 rfl (by kernel_rfl)
      have h82 : a.tmps[82]?.getD undef = .int .i64 rf := hc.dep hl 37 82 rfl (by kernel_rfl)
      refine does_value rfl (wanted_at rfl rfl (hc.dep hl 35 80 rfl (by kernel_rfl))) (.bool true) w1 ?_ (Below.refl _ _) rfl
      clear hc hl
      go_simp
    · intro listed a w1 hl hc
      have h80 : a.tmps[80]?.getD undef = .bool true := hc.dep hl 35 80 rfl (by kernel_rfl)
      have h83 : a.tmps[83]?.getD undef = .bool true := hc.dep hl 38 83 rfl (by kernel_rfl)
      refine does_value rfl rfl (.bool true) w1 ?_ (Below.refl _ _) rfl
      clear hc hl
      go_simp
    · intro listed a w1 hl hc
      have h84 : a.tmps[84]?.getD undef = .bool true := hc.dep hl 39 84 rfl (by kernel_rfl)
      refine does_value rfl rfl (.bool true) w1 ?_ (Below.refl _ _) rfl
      clear hc hl
      go_simp
    · intro listed a w1 hl hc
      have h5 : a.tmps[5]?.getD undef = .pointer (some ⟨g5, 0, none⟩) := (hc.was 5 (by kernel_rfl)).trans rfl
      refine does_value rfl (wanted_at rfl rfl (hc.dep hl 40 85 rfl (by kernel_rfl))) (.pointer (some ⟨g5, 2, none⟩)) w1 ?_ (Below.refl _ _) rfl
      clear hc hl
      go_simp
    · intro listed a w1 hl hc
      have h86 : a.tmps[86]?.getD undef = .pointer (some ⟨g5, 2, none⟩) := hc.dep hl 41 86 rfl (by kernel_rfl)
      have kb := Q7.out.below hc.g Q7.out.lt
      have x2 : w1.cell? ⟨g5, 2, none⟩ = some (.slice (some ⟨G24, 0, none⟩) n (n + 16 : Nat)) := kb.cell 2
      clear kb
      refine does_value rfl (wanted_at rfl rfl (hc.dep hl 40 85 rfl (by kernel_rfl))) (.slice (some ⟨G24, 0, none⟩) n (n + 16 : Nat)) w1 ?_ (Below.refl _ _) rfl
      clear hc hl
      go_simp
    · intro listed a w1 hl hc
      have h3 : a.tmps[3]?.getD undef = .pointer (some ⟨w.heap.size + 1, 0, none⟩) := (hc.was 3 (by kernel_rfl)).trans rfl
      refine does_value rfl (wanted_at rfl rfl (hc.dep hl 40 85 rfl (by kernel_rfl))) (.pointer (some ⟨w.heap.size + 1, 2, none⟩)) w1 ?_ (Below.refl _ _) rfl
      clear hc hl
      go_simp
    · intro listed a w1 hl hc
      have h88 : a.tmps[88]?.getD undef = .pointer (some ⟨w.heap.size + 1, 2, none⟩) := hc.dep hl 43 88 rfl (by kernel_rfl)
      have kb := C7.out.below hc.g C7.out.lt
      have x2 : w1.cell? ⟨w.heap.size + 1, 2, none⟩ = some (.slice A n c) := kb.cell 2
      clear kb
      refine does_value rfl (wanted_at rfl rfl (hc.dep hl 40 85 rfl (by kernel_rfl))) (.slice A n c) w1 ?_ (Below.refl _ _) rfl
      clear hc hl
      go_simp
    · intro listed a w1 hl hc
      have h87 : a.tmps[87]?.getD undef = .slice (some ⟨G24, 0, none⟩) n (n + 16 : Nat) := hc.dep hl 42 87 rfl (by kernel_rfl)
      have h89 : a.tmps[89]?.getD undef = .slice A n c := hc.dep hl 44 89 rfl (by kernel_rfl)
      refine does_call rfl (wanted_at rfl rfl (hc.dep hl 40 85 rfl (by kernel_rfl))) 20 #[.slice (some ⟨G24, 0, none⟩) n (n + 16 : Nat), .slice A n c] ?_ ((HKP.out w1 G24 (B7.out.trans (hc.g.mono B7.out.size)) (R7.out.below hc.g R7.out.lt)).mono fun e w' ⟨he, hb⟩ => ⟨_, he, hb, rfl⟩)
      clear hc hl
      go_simp
    · intro listed a w1 hl hc
      have h85 : a.tmps[85]?.getD undef = .bool true := hc.dep hl 40 85 rfl (by kernel_rfl)
      have h90 : a.tmps[90]?.getD undef = .bool true := hc.dep hl 45 90 rfl (by kernel_rfl)
      refine does_value rfl rfl (.bool true) w1 ?_ (Below.refl _ _) rfl
      clear hc hl
      go_simp
    · intro listed a w1 hl hc
      have h91 : a.tmps[91]?.getD undef = .bool true := hc.dep hl 46 91 rfl (by kernel_rfl)
      refine does_value rfl rfl (.bool true) w1 ?_ (Below.refl _ _) rfl
      clear hc hl
      go_simp
    · intro listed a w1 hl hc
      refine does_call rfl (wanted_at rfl rfl (hc.dep hl 47 92 rfl (by kernel_rfl))) 13 #[] ?_ ((works_any w1).mono fun e w' ⟨he, hb⟩ => ⟨_, he, hb, rfl⟩)
      clear hc hl
      go_simp
    · intro listed a w1 hl hc
      have h92 : a.tmps[92]?.getD undef = .bool true := hc.dep hl 47 92 rfl (by kernel_rfl)
      have h93 : a.tmps[93]?.getD undef = .bool true := hc.dep hl 48 93 rfl (by kernel_rfl)
      refine does_value rfl rfl (.bool true) w1 ?_ (Below.refl _ _) rfl
      clear hc hl
      go_simp
  intro w2 hb2
  rintro _ rfl _ rfl _ rfl _ rfl _ ⟨A49, c49, rfl, ho49⟩ _ rfl _ rfl _ rfl _ rfl _ ⟨A54, c54, rfl, ho54⟩ _ rfl _ rfl _ rfl _ rfl _ ⟨A59, c59, rfl, ho59⟩ _ rfl _ rfl _ ⟨A62, c62, rfl, ho62⟩ _ rfl _ rfl _ rfl _ rfl _ rfl _ rfl _ rfl _ rfl _ rfl _ rfl _ rfl _ rfl _ rfl _ rfl _ rfl _ rfl _ rfl _ rfl _ rfl _ rfl _ rfl _ rfl _ rfl _ rfl _ rfl _ rfl _ rfl _ rfl _ rfl _ rfl _ rfl _ rfl
  simp only [Thus, List.reverse_cons, List.reverse_nil, List.nil_append, List.cons_append, List.drop, List.take, lay]
  go_frame
  have BE := below_then B7.out (Nat.le_refl _) hb2
  clear hb2
  go_wp2_with fail
  go_ret
  exact ⟨rfl, BE⟩
theorem bodiesPlain_walk (a0 a1 a2 : Int) (b0 b1 : Int) (A : Option Addr) (n c : Nat) (xs : List UInt8) (w : World) (h0 : (Lit.int .u8 a0).wf = true) (h1 : (Lit.int .i64 a1).wf = true) (h2 : (Lit.int .u32 a2).wf = true) (h3 : (Lit.int .u8 b0).wf = true) (h4 : (Lit.int .u8 b1).wf = true) (hc : n ≤ c) (hcm : c ≤ maxLen) (hx : xs.length = n) (hr : Rd w w.heap.size A xs) :
    Calls Try.prog 7 #[.agg #[.int .u8 a0, .int .i64 a1, .int .u32 a2], .agg #[.int .u8 b0, .int .u8 b1, .slice A n c]] w fun e w' => e = .returned (.bool true) ∧ Below w.heap.size w w' := by
  obtain ⟨pk, rfl⟩ := byte_of h0
  obtain ⟨k, rfl⟩ := byte_of h3
  obtain ⟨f, rfl⟩ := byte_of h4
  have ht : -9223372036854775808 ≤ a1 ∧ a1 ≤ 9223372036854775807 := by simpa [Lit.wf, IntKind.min, IntKind.max, IntKind.signed, IntKind.bits] using h1
  have hu : 0 ≤ a2 ∧ a2 ≤ 4294967295 := by simpa [Lit.wf, IntKind.min, IntKind.max, IntKind.signed, IntKind.bits] using h2
  obtain ⟨cu, rfl⟩ : ∃ cu : Nat, a2 = cu := ⟨a2.toNat, by omega⟩
  by_cases h : 8192 < n
  · exact bodiesPlain_big pk a1 cu k f A n c xs w (by omega) (by omega) hc hcm hx hr h
  · exact bodiesPlain_small pk a1 cu k f A n c xs w (by omega) (by omega) hc hcm hx hr (by omega)
end Go.Proofs.Ytalgkokgaibloaa
