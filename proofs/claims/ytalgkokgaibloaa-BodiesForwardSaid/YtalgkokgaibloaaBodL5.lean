/-
  BodiesForward, walked.
-/
import Derived.Test.YtalgkokgaibloaaBodRD
import Derived.Test.YtalgkokgaibloaaBodZ
import Derived.Test.YtalgkokgaibloaaAppG
import Derived.Test.YtalgkokgaibloaaKept
import Derived.Test.YtalgkokgaibloaaRows2
import Derived.Test.YtalgkokgaibloaaNums
namespace Go.Proofs.Ytalgkokgaibloaa
open Go.RowKit
set_option linter.unusedVariables false

set_option maxRecDepth 100000 in
set_option maxHeartbeats 4000000 in
theorem bodiesForward_big (cum : Nat) (As : Option Addr) (ns cs : Nat) (skips : List (Nat × Nat)) (k f : UInt8) (A : Option Addr) (n c : Nat) (xs : List UInt8) (w : World) (h1 : cum < 4294967296) (hc2 : ns ≤ cs) (hcm2 : cs ≤ maxLen) (hsl : skips.length = ns) (hsr : Rg w 0 w.heap.size As skips) (hsb : ∀ g ∈ skips, g.1 < 65536 ∧ g.2 < 65536) (hc : n ≤ c) (hcm : c ≤ maxLen) (hx : xs.length = n) (hr : Rd w w.heap.size A xs) (h : 8192 < n) :
    Calls Try.prog 6 #[.agg #[.int .u32 (cum : Int), .slice As ns cs], .agg #[.int .u8 (k.toNat : Int), .int .u8 (f.toNat : Int), .slice A n c]] w fun e w' => e = .returned (.bool true) ∧ Below w.heap.size w w' := by
  have hzs := zero_sack
  have HLG : Hid (∀ W, Calls Try.prog 12 #[.agg #[.int .u8 (k.toNat : Int), .int .u8 (f.toNat : Int), .slice A n c]] W fun e w' => e = .returned (.bool true) ∧ Below W.heap.size W w') := Lib.hid fun W => by
    have := large_any (k.toNat : Int) (f.toNat : Int) A n c W (Nat.le_trans hc hcm)
    rwa [decide_eq_true h] at this
  clear hx hr hsl hsr hsb
  have b0 : Blk (w.alloc (.cells #[.int .u32 (cum : Int), .slice As ns cs] 56)) w.heap.size 56 #[.int .u32 (cum : Int), .slice As ns cs] := Blk.new w 56 #[.int .u32 (cum : Int), .slice As ns cs]
  have b1 : Blk ((w.alloc (.cells #[.int .u32 (cum : Int), .slice As ns cs] 56)).alloc (.cells #[.int .u8 (k.toNat : Int), .int .u8 (f.toNat : Int), .slice A n c] 28)) (w.heap.size + 1) 28 #[.int .u8 (k.toNat : Int), .int .u8 (f.toNat : Int), .slice A n c] := by simpa using Blk.new (w.alloc (.cells #[.int .u32 (cum : Int), .slice As ns cs] 56)) 28 #[.int .u8 (k.toNat : Int), .int .u8 (f.toNat : Int), .slice A n c]
  have K0 := Lib.hid (b0.alloc (.cells #[.int .u8 (k.toNat : Int), .int .u8 (f.toNat : Int), .slice A n c] 28))
  have K1 := Lib.hid b1
  have B0 : Hid (Below w.heap.size w ((w.alloc (.cells #[.int .u32 (cum : Int), .slice As ns cs] 56)).alloc (.cells #[.int .u8 (k.toNat : Int), .int .u8 (f.toNat : Int), .slice A n c] 28))) := Lib.hid (Wr.below_ (((Wr.refl 5 w.heap.size w).alloc (.cells #[.int .u32 (cum : Int), .slice As ns cs] 56)).alloc (.cells #[.int .u8 (k.toNat : Int), .int .u8 (f.toNat : Int), .slice A n c] 28)) (Nat.le_refl _))
  clear b0 b1
  go_enter Try.func6, Try.ntmps6
  rw [seq_eq 4, drawn_eq 6, drawn_eq 9]
  go_wp2_with fail
  generalize ((w.alloc (.cells #[.int .u32 (cum : Int), .slice As ns cs] 56)).alloc (.cells #[.int .u8 (k.toNat : Int), .int .u8 (f.toNat : Int), .slice A n c] 28)) = v0 at K0 K1 B0 ⊢
  refine (HLG.out v0).mono ?_
  rintro e w1 ⟨rfl, hb⟩
  have B1 := Lib.hid (below_then B0.out (Nat.le_refl _) hb)
  have P1 := Lib.hid (K0.out.below hb K0.out.lt)
  have x0 := P1.out.cell 0
  have x1 := P1.out.cell 1
  clear hb K0 K1 B0
  go_wp2_with fail
  refine (works_any _).mono ?_
  rintro e w2 ⟨rfl, hb⟩
  go_wp2_with fail
  go_ret
  exact ⟨rfl, below_then B1.out (Nat.le_refl _) hb⟩
set_option maxRecDepth 100000 in
set_option maxHeartbeats 4000000 in
theorem bodiesForward_long (cum : Nat) (As : Option Addr) (ns cs : Nat) (skips : List (Nat × Nat)) (k f : UInt8) (A : Option Addr) (n c : Nat) (xs : List UInt8) (w : World) (h1 : cum < 4294967296) (hc2 : ns ≤ cs) (hcm2 : cs ≤ maxLen) (hsl : skips.length = ns) (hsr : Rg w 0 w.heap.size As skips) (hsb : ∀ g ∈ skips, g.1 < 65536 ∧ g.2 < 65536) (hc : n ≤ c) (hcm : c ≤ maxLen) (hx : xs.length = n) (hr : Rd w w.heap.size A xs) (h : n ≤ 8192) (hl : 2048 < ns) :
    Calls Try.prog 6 #[.agg #[.int .u32 (cum : Int), .slice As ns cs], .agg #[.int .u8 (k.toNat : Int), .int .u8 (f.toNat : Int), .slice A n c]] w fun e w' => e = .returned (.bool true) ∧ Below w.heap.size w w' := by
  have hzs := zero_sack
  have HLG : Hid (∀ W, Calls Try.prog 12 #[.agg #[.int .u8 (k.toNat : Int), .int .u8 (f.toNat : Int), .slice A n c]] W fun e w' => e = .returned (.bool false) ∧ Below W.heap.size W w') := Lib.hid fun W => by
    have := large_any (k.toNat : Int) (f.toNat : Int) A n c W (Nat.le_trans hc hcm)
    rwa [decide_eq_false (by omega)] at this
  have HMN : Hid (∀ W, Calls Try.prog 28 #[.agg #[.int .u32 0, .int .u32 0, .slice none 0 0, .slice none 0 0], .agg #[.int .u32 (cum : Int), .slice As ns cs]] W fun e w' => e = .returned (.bool true) ∧ Below W.heap.size W w') := Lib.hid fun W => by
    have := many_any 0 0 (cum : Int) none none As 0 0 0 0 ns cs W (Nat.zero_le _) (Nat.zero_le _) (Nat.le_trans hc2 hcm2)
    rwa [decide_eq_true (by omega)] at this
  clear hx hr hsl hsr hsb
  have b0 : Blk (w.alloc (.cells #[.int .u32 (cum : Int), .slice As ns cs] 56)) w.heap.size 56 #[.int .u32 (cum : Int), .slice As ns cs] := Blk.new w 56 #[.int .u32 (cum : Int), .slice As ns cs]
  have b1 : Blk ((w.alloc (.cells #[.int .u32 (cum : Int), .slice As ns cs] 56)).alloc (.cells #[.int .u8 (k.toNat : Int), .int .u8 (f.toNat : Int), .slice A n c] 28)) (w.heap.size + 1) 28 #[.int .u8 (k.toNat : Int), .int .u8 (f.toNat : Int), .slice A n c] := by simpa using Blk.new (w.alloc (.cells #[.int .u32 (cum : Int), .slice As ns cs] 56)) 28 #[.int .u8 (k.toNat : Int), .int .u8 (f.toNat : Int), .slice A n c]
  have K0 := Lib.hid (b0.alloc (.cells #[.int .u8 (k.toNat : Int), .int .u8 (f.toNat : Int), .slice A n c] 28))
  have K1 := Lib.hid b1
  have B0 : Hid (Below w.heap.size w ((w.alloc (.cells #[.int .u32 (cum : Int), .slice As ns cs] 56)).alloc (.cells #[.int .u8 (k.toNat : Int), .int .u8 (f.toNat : Int), .slice A n c] 28))) := Lib.hid (Wr.below_ (((Wr.refl 5 w.heap.size w).alloc (.cells #[.int .u32 (cum : Int), .slice As ns cs] 56)).alloc (.cells #[.int .u8 (k.toNat : Int), .int .u8 (f.toNat : Int), .slice A n c] 28)) (Nat.le_refl _))
  clear b0 b1
  go_enter Try.func6, Try.ntmps6
  rw [seq_eq 4, drawn_eq 6, drawn_eq 9]
  go_wp2_with fail
  generalize ((w.alloc (.cells #[.int .u32 (cum : Int), .slice As ns cs] 56)).alloc (.cells #[.int .u8 (k.toNat : Int), .int .u8 (f.toNat : Int), .slice A n c] 28)) = v0 at K0 K1 B0 ⊢
  refine (HLG.out v0).mono ?_
  rintro e w1 ⟨rfl, hb⟩
  have B1 := Lib.hid (below_then B0.out (Nat.le_refl _) hb)
  have P1 := Lib.hid (K0.out.below hb K0.out.lt)
  have x0 := P1.out.cell 0
  have x1 := P1.out.cell 1
  clear hb K0 K1 B0
  go_wp2_with fail
  refine (HMN.out _).mono ?_
  rintro e w3 ⟨rfl, hb⟩
  have B1 := Lib.hid (below_then B1.out (Nat.le_refl _) hb)
  clear hb P1 x0 x1
  go_wp2_with fail
  refine (works_any _).mono ?_
  rintro e w2 ⟨rfl, hb⟩
  go_wp2_with fail
  go_ret
  exact ⟨rfl, below_then B1.out (Nat.le_refl _) hb⟩
set_option maxRecDepth 100000 in
set_option maxHeartbeats 4000000 in
theorem bodiesForward_small (cum : Nat) (As : Option Addr) (ns cs : Nat) (skips : List (Nat × Nat)) (k f : UInt8) (A : Option Addr) (n c : Nat) (xs : List UInt8) (w : World) (h1 : cum < 4294967296) (hc2 : ns ≤ cs) (hcm2 : cs ≤ maxLen) (hsl : skips.length = ns) (hsr : Rg w 0 w.heap.size As skips) (hsb : ∀ g ∈ skips, g.1 < 65536 ∧ g.2 < 65536) (hc : n ≤ c) (hcm : c ≤ maxLen) (hx : xs.length = n) (hr : Rd w w.heap.size A xs) (h : n ≤ 8192) (hl : ns ≤ 2048) :
    Calls Try.prog 6 #[.agg #[.int .u32 (cum : Int), .slice As ns cs], .agg #[.int .u8 (k.toNat : Int), .int .u8 (f.toNat : Int), .slice A n c]] w fun e w' => e = .returned (.bool true) ∧ Below w.heap.size w w' := by
  have HLG : Hid (∀ W, Calls Try.prog 12 #[.agg #[.int .u8 (k.toNat : Int), .int .u8 (f.toNat : Int), .slice A n c]] W fun e w' => e = .returned (.bool false) ∧ Below W.heap.size W w') := Lib.hid fun W => by
    have := large_any (k.toNat : Int) (f.toNat : Int) A n c W (Nat.le_trans hc hcm)
    rwa [decide_eq_false (by omega)] at this
  have HMN : Hid (∀ W, Calls Try.prog 28 #[.agg #[.int .u32 0, .int .u32 0, .slice none 0 0, .slice none 0 0], .agg #[.int .u32 (cum : Int), .slice As ns cs]] W fun e w' => e = .returned (.bool false) ∧ Below W.heap.size W w') := Lib.hid fun W => by
    have := many_any 0 0 (cum : Int) none none As 0 0 0 0 ns cs W (Nat.zero_le _) (Nat.zero_le _) (Nat.le_trans hc2 hcm2)
    rwa [decide_eq_false (by omega)] at this
  have HRM : Hid (∀ W, Below w.heap.size w W → Calls Try.prog 14 #[.slice A n c] W fun e w' => ∃ g, e = .returned (.slice (some ⟨g, 0, none⟩) n (n + 16)) ∧ W.heap.size ≤ g ∧ RowAt w' 5 g (xs ++ marks16) ∧ Below W.heap.size W w') := Lib.hid fun W hW => roomy_any A n c xs W (by omega) hx ((hr.below hW).more hW.size)
  have HRG : Hid (∀ W, Below w.heap.size w W → Rg W 0 W.heap.size As skips) := Lib.hid fun W hW => (hsr.below_ hW).more (Nat.le_refl _) hW.size
  have HPD : Hid (∀ (W : World) (A1 : Option Addr) (c1 b1 : Nat), Og W 104 b1 (.slice A1 ns c1) skips → Puts 34 #[.agg #[.int .u32 (cum : Int), .slice A1 ns c1]] 192 0 (bodyF ⟨cum, skips⟩) W) := Lib.hid fun W A1 c1 b1 ho => putForward_any cum skips h1 hsb A1 ns c1 W (by omega) hsl ho.rg
  have HQD : Hid (∀ (W : World), Below w.heap.size w W → Puts 37 #[.agg #[.int .u32 (cum : Int), .slice As ns cs]] 192 0 (bodyF ⟨cum, skips⟩) W) := Lib.hid fun W hW => refPutForward_any cum skips h1 hsb As ns cs W (by omega) hsl (HRG.out W hW)
  have HGD : Hid (∀ (W : World) (g : Nat), RowAt W 5 g (xs ++ marks16) → Calls Try.prog 35 #[.agg #[.int .u8 (k.toNat : Int), .int .u8 (f.toNat : Int), .slice (some ⟨g, 0, none⟩) n (n + 16 : Nat)]] W fun e w' => ∃ A2 m2 c2, e = .returned (.tuple #[.agg #[.int .u32 ((ansF k f xs).cum : Int), .slice A2 m2 c2], .int .i64 (errOf (okF k f xs))]) ∧ Og w' 104 W.heap.size (.slice A2 m2 c2) (ansF k f xs).skips ∧ m2 = (ansF k f xs).skips.length ∧ Below W.heap.size W w') := Lib.hid fun W g hg => getForward_any k f (some ⟨g, 0, none⟩) n (n + 16) xs W (by omega) (by omega) (by unfold maxLen; omega) hx (rd_room hg)
  have HRD : Hid (∀ (W : World), Below w.heap.size w W → Calls Try.prog 36 #[.agg #[.int .u8 (k.toNat : Int), .int .u8 (f.toNat : Int), .slice A n c]] W fun e w' => ∃ A2 m2 c2, e = .returned (.tuple #[.agg #[.int .u32 ((ansF k f xs).cum : Int), .slice A2 m2 c2], .int .i64 (errOf (okF k f xs))]) ∧ Og w' 104 W.heap.size (.slice A2 m2 c2) (ansF k f xs).skips ∧ m2 = (ansF k f xs).skips.length ∧ Below W.heap.size W w') := Lib.hid fun W hW => refGetForward_any k f A n c xs W (by omega) hc hcm hx ((hr.below hW).more hW.size)
  have HSM : Hid (∀ (W : World) (a b : UInt8) (Y : List UInt8) (A1 A2 : Option Addr) (c1 c2 b1 b2 : Nat), Own8 W 5 b1 A1 Y.length c1 Y → Own8 W 5 b2 A2 Y.length c2 Y → Calls Try.prog 18 #[.agg #[.int .u8 (a.toNat : Int), .int .u8 (b.toNat : Int), .slice A1 Y.length c1], .agg #[.int .u8 (a.toNat : Int), .int .u8 (b.toNat : Int), .slice A2 Y.length c2]] W fun e w' => e = .returned (.bool true) ∧ Below W.heap.size W w') := Lib.hid fun W a b Y A1 A2 c1 c2 b1 b2 h1 h2 => by
    have := same_any a b a b A1 A2 Y.length Y.length c1 c2 Y Y W rfl rfl (Nat.le_trans h1.cap.1 h1.cap.2) (Nat.le_trans h1.cap.1 h1.cap.2) h1.rd h2.rd
    simpa using this
  have HKP : Hid (∀ (W : World) (g : Nat), Below w.heap.size w W → RowAt W 5 g (xs ++ marks16) → Calls Try.prog 20 #[.slice (some ⟨g, 0, none⟩) n (n + 16 : Nat), .slice A n c] W fun e w' => e = .returned (.bool true) ∧ Below W.heap.size W w') := Lib.hid fun W g hW hg => (kept_any w.heap.size A n c g xs W (by omega) hx (hr.below hW) hg).mono fun e w' ⟨he, q, hq⟩ => ⟨he, hq ▸ below_drewN (Below.refl _ _) q⟩
  have hbd : (ansF k f xs).skips.length ≤ 1099511627776 := by
    unfold ansF
    split
    · show (getG xs 4 ((xs.length - 4) / 4)).length ≤ _
      rw [length_getG]
      omega
    · show 0 ≤ _
      omega
  have HSI : Hid (∀ (W : World) (A1 : Option Addr) (c1 b1 : Nat), Below w.heap.size w W → Og W 104 b1 (.slice A1 ns c1) skips → Calls Try.prog 38 #[.agg #[.int .u32 (cum : Int), .slice A1 ns c1], .agg #[.int .u32 (cum : Int), .slice As ns cs]] W fun e w' => e = .returned (.bool true) ∧ Below W.heap.size W w') := Lib.hid fun W A1 c1 b1 hW ho => sameF_yes _ A1 As ns c1 ns cs skips W (by omega) hsl hsl ho.rg (HRG.out W hW)
  have HSD : Hid (∀ (W : World) (A1 A2 : Option Addr) (m1 c1 m2 c2 b1 b2 : Nat), Og W 104 b1 (.slice A1 m1 c1) (ansF k f xs).skips → Og W 104 b2 (.slice A2 m2 c2) (ansF k f xs).skips → m1 = (ansF k f xs).skips.length → m2 = (ansF k f xs).skips.length → Calls Try.prog 38 #[.agg #[.int .u32 ((ansF k f xs).cum : Int), .slice A1 m1 c1], .agg #[.int .u32 ((ansF k f xs).cum : Int), .slice A2 m2 c2]] W fun e w' => e = .returned (.bool true) ∧ Below W.heap.size W w') := Lib.hid fun W A1 A2 m1 c1 m2 c2 b1 b2 h1 h2 e1 e2 => sameF_yes _ A1 A2 m1 c1 m2 c2 _ W (by omega) e1.symm e2.symm h1.rg h2.rg
  obtain ⟨rt, hrt⟩ : ∃ r, r = (ansF k f xs).cum := ⟨_, rfl⟩
  rw [← hrt] at HGD HRD HSD
  obtain ⟨rb, hrb⟩ : ∃ r, r = (ansF k f xs).skips := ⟨_, rfl⟩
  rw [← hrb] at HGD HRD HSD
  obtain ⟨re, hre⟩ : ∃ re, re = errOf (okF k f xs) := ⟨_, rfl⟩
  rw [← hre] at HGD HRD
  obtain ⟨YD, hYD⟩ : ∃ YD, YD = bodyF ⟨cum, skips⟩ := ⟨_, rfl⟩
  rw [← hYD] at HPD HQD
  clear hre hYD hbd hrt hrb
  have hz := zero_chunk
  have hzd := zero_fwd
  have hzs := zero_sack
  have hnd := Nat.le_trans hc2 hcm2
  unfold maxLen at hnd
  have hcm3 := hcm
  have hcm4 := hcm2
  unfold maxLen at hcm3 hcm4
  obtain ⟨ti, hti, htz, ht1, ht2⟩ := info_parts Try.infoSkip
  have HSL := Lib.hid hsl
  clear hx hr hsr h1 hsb hsl
  have b0 : Blk (w.alloc (.cells #[.int .u32 (cum : Int), .slice As ns cs] 56)) w.heap.size 56 #[.int .u32 (cum : Int), .slice As ns cs] := Blk.new w 56 #[.int .u32 (cum : Int), .slice As ns cs]
  have b1 : Blk ((w.alloc (.cells #[.int .u32 (cum : Int), .slice As ns cs] 56)).alloc (.cells #[.int .u8 (k.toNat : Int), .int .u8 (f.toNat : Int), .slice A n c] 28)) (w.heap.size + 1) 28 #[.int .u8 (k.toNat : Int), .int .u8 (f.toNat : Int), .slice A n c] := by simpa using Blk.new (w.alloc (.cells #[.int .u32 (cum : Int), .slice As ns cs] 56)) 28 #[.int .u8 (k.toNat : Int), .int .u8 (f.toNat : Int), .slice A n c]
  have K0 := Lib.hid (b0.alloc (.cells #[.int .u8 (k.toNat : Int), .int .u8 (f.toNat : Int), .slice A n c] 28))
  have K1 := Lib.hid b1
  have B0 : Hid (Below w.heap.size w ((w.alloc (.cells #[.int .u32 (cum : Int), .slice As ns cs] 56)).alloc (.cells #[.int .u8 (k.toNat : Int), .int .u8 (f.toNat : Int), .slice A n c] 28))) := Lib.hid (Wr.below_ (((Wr.refl 5 w.heap.size w).alloc (.cells #[.int .u32 (cum : Int), .slice As ns cs] 56)).alloc (.cells #[.int .u8 (k.toNat : Int), .int .u8 (f.toNat : Int), .slice A n c] 28)) (Nat.le_refl _))
  clear b0 b1
  go_enter Try.func6, Try.ntmps6
  rw [seq_eq 4, drawn_eq 6, drawn_eq 9]
  go_wp2_with fail
  generalize ((w.alloc (.cells #[.int .u32 (cum : Int), .slice As ns cs] 56)).alloc (.cells #[.int .u8 (k.toNat : Int), .int .u8 (f.toNat : Int), .slice A n c] 28)) = v0 at K0 K1 B0 ⊢
  have P0 := K0
  have C0 := K1
  clear K0 K1
  refine (HLG.out v0).mono ?_
  rintro e w1 ⟨rfl, hb⟩
  have P1 := Lib.hid (P0.out.below hb P0.out.lt)
  have C1 := Lib.hid (C0.out.below hb C0.out.lt)
  have B1 := Lib.hid (below_then B0.out (Nat.le_refl _) hb)
  clear hb P0 C0 B0
  clear HLG
  have x0 := P1.out.cell 0
  have x1 := P1.out.cell 1
  go_wp2_with fail
  clear x0 x1
  refine (HMN.out w1).mono ?_
  rintro e w2 ⟨rfl, hb⟩
  have P2 := Lib.hid (P1.out.below hb P1.out.lt)
  have C2 := Lib.hid (C1.out.below hb C1.out.lt)
  have B2 := Lib.hid (below_then B1.out (Nat.le_refl _) hb)
  clear hb P1 C1 B1
  clear HMN
  have x0 := P2.out.cell 0
  have x1 := P2.out.cell 1
  have hlc := C2.out.lt
  have hb := below_new w2 (.cells #[.int .u32 (cum : Int), .slice none 0 0] 56)
  have P3 := Lib.hid (P2.out.below hb P2.out.lt)
  have C3 := Lib.hid (C2.out.below hb C2.out.lt)
  have B3 := Lib.hid (below_then B2.out (Nat.le_refl _) hb)
  clear hb P2 C2 B2
  have I3 := Lib.hid (Blk.new w2 56 #[.int .u32 (cum : Int), .slice none 0 0])
  obtain ⟨g5, hg5⟩ : ∃ g, g = w2.heap.size := ⟨_, rfl⟩
  rw [← hg5] at I3
  have Hg5 := Lib.hid hg5
  have hlg5 : w.heap.size + 1 < g5 := by omega
  clear hlc
  clear hg5
  go_wp2_with fail
  rw [← Hg5.out]
  generalize w2.alloc (.cells #[.int .u32 (cum : Int), .slice none 0 0] 56) = v3 at P3 C3 B3 I3 ⊢
  clear Hg5
  clear x0 x1
  rw [← seq_eq 4]
  have x0 := P3.out.cell 0
  have x1 := P3.out.cell 1
  have y0 := I3.out.cell 0
  have y1 := I3.out.cell 1
  go_wp2_with (at_builtin; refine wpList_appendG0 Try.underlying54 hti htz ht1 ht2 _ rfl _ _ rfl rfl As ns cs skips rfl HSL.out (HRG.out _ B3.out) (by omega) ?_; intro A1 c1 wa ho hb; have P4 := Lib.hid (P3.out.below hb P3.out.lt); have C4 := Lib.hid (C3.out.below hb C3.out.lt); have B4 := Lib.hid (below_then B3.out (Nat.le_refl _) hb); have I4 := Lib.hid (I3.out.below hb I3.out.lt); clear hb P3 C3 B3 I3; have O4 := Lib.hid ho; clear ho x0 x1 y0 y1; have y0 := I4.out.cell 0; have y1 := I4.out.cell 1; have z0 := I4.out.frozen 0; have z1 := I4.out.frozen 1)
  have I5 : Hid (Blk (wa.setCell ⟨g5, 1, none⟩ (.slice A1 ns c1)) g5 56 #[.int .u32 (cum : Int), .slice A1 ns c1]) := Lib.hid (I4.out.set_ 1 (.slice A1 ns c1))
  have P5 := Lib.hid (P4.out.far (p := ⟨g5, 1, none⟩) (show w.heap.size ≠ g5 by omega) (.slice A1 ns c1))
  have C5 := Lib.hid (C4.out.far (p := ⟨g5, 1, none⟩) (show w.heap.size + 1 ≠ g5 by omega) (.slice A1 ns c1))
  have O5 := Lib.hid (O4.out.setBlk I4.out (by decide) 1 (.slice A1 ns c1))
  have B5 := Lib.hid (B4.out.setCell (p := ⟨g5, 1, none⟩) (show w.heap.size ≤ g5 by omega) (.slice A1 ns c1))
  clear P4 C4 B4 I4 O4
  generalize wa.setCell ⟨g5, 1, none⟩ (.slice A1 ns c1) = v5 at P5 C5 B5 I5 O5 ⊢
  clear y0 y1 z0 z1
  refine (HPD.out v5 A1 c1 _ O5.out).mono ?_
  rintro e w6 ⟨Ap, cp, rfl, ho, hb⟩
  have P6 := Lib.hid (P5.out.below hb P5.out.lt)
  have C6 := Lib.hid (C5.out.below hb C5.out.lt)
  have B6 := Lib.hid (below_then B5.out (Nat.le_refl _) hb)
  have I6 := Lib.hid (I5.out.below hb I5.out.lt)
  have O6 := Lib.hid (O5.out.below hb)
  clear hb P5 C5 B5 I5 O5
  have T6 := Lib.hid ho
  clear ho
  have hlc := C6.out.lt
  have hb := below_new w6 (.cells #[.int .u8 192, .int .u8 0, .slice Ap YD.length cp] 28)
  have P7 := Lib.hid (P6.out.below hb P6.out.lt)
  have C7 := Lib.hid (C6.out.below hb C6.out.lt)
  have B7 := Lib.hid (below_then B6.out (Nat.le_refl _) hb)
  have I7 := Lib.hid (I6.out.below hb I6.out.lt)
  have O7 := Lib.hid (O6.out.below hb)
  have T7 := Lib.hid (T6.out.below hb (Nat.le_refl _))
  clear hb P6 C6 B6 I6 O6 T6
  have V7 := Lib.hid (Blk.new w6 28 #[.int .u8 192, .int .u8 0, .slice Ap YD.length cp])
  obtain ⟨g6, hg6⟩ : ∃ g, g = w6.heap.size := ⟨_, rfl⟩
  rw [← hg6] at V7
  have Hg6 := Lib.hid hg6
  have hlg6 : w.heap.size + 1 < g6 := by omega
  clear hlc
  clear hg6
  go_wp2_with fail
  rw [← Hg6.out]
  generalize w6.alloc (.cells #[.int .u8 192, .int .u8 0, .slice Ap YD.length cp] 28) = v7 at P7 C7 B7 I7 O7 T7 V7 ⊢
  clear Hg6
  rw [← drawn_eq 6]
  refine wp_region_grow_tail 9 (by kernel_rfl) [(Is (.pointer (some ⟨w.heap.size + 1, 0, none⟩))), (Is (.int .u8 (k.toNat : Int))), (Is (.pointer (some ⟨w.heap.size + 1, 1, none⟩))), (Is (.int .u8 (f.toNat : Int))), (Is (.pointer (some ⟨w.heap.size + 1, 2, none⟩))), (Is (.slice A n c)), (NewRow 5 v7.heap.size n (n + 16 : Nat) (xs ++ marks16) (fun s => s)), (NewRow 5 v7.heap.size n (n + 16 : Nat) (xs ++ marks16) (fun s => .agg #[.int .u8 (k.toNat : Int), .int .u8 (f.toNat : Int), s])), (NewBlk v7.heap.size 28 #[.int .u8 0, .int .u8 0, .slice none 0 0])] rfl ?_ (by kernel_rfl) (by kernel_rfl) ?_ ?_
  · intro p hp
    simp only [List.mem_cons, List.not_mem_nil, or_false] at hp
    rcases hp with rfl | rfl | rfl | rfl | rfl | rfl | rfl | rfl | rfl
    · exact Lasts.is _
    · exact Lasts.is _
    · exact Lasts.is _
    · exact Lasts.is _
    · exact Lasts.is _
    · exact Lasts.is _
    · exact Lasts.newRow _ _ _ _ _ _
    · exact Lasts.newRow _ _ _ _ _ _
    · exact Lasts.newBlk _ _ _
  · refine ⟨?_, ?_, ?_, ?_, ?_, ?_, ?_, ?_, ?_, trivial⟩
    · intro listed a w1 hl hc
      have h3 : a.tmps[3]?.getD undef = .pointer (some ⟨w.heap.size + 1, 0, none⟩) := (hc.was 3 (by kernel_rfl)).trans rfl
      refine does_value rfl rfl (.pointer (some ⟨w.heap.size + 1, 0, none⟩)) w1 ?_ (Below.refl _ _) rfl
      clear hc hl
      go_simp
    · intro listed a w1 hl hc
      have h31 : a.tmps[31]?.getD undef = .pointer (some ⟨w.heap.size + 1, 0, none⟩) := hc.dep hl 0 31 rfl (by kernel_rfl)
      have kb := C7.out.below hc.g C7.out.lt
      have x0 : w1.cell? ⟨w.heap.size + 1, 0, none⟩ = some (.int .u8 (k.toNat : Int)) := kb.cell 0
      clear kb
      refine does_value rfl rfl (.int .u8 (k.toNat : Int)) w1 ?_ (Below.refl _ _) rfl
      clear hc hl
      go_simp
    · intro listed a w1 hl hc
      have h3 : a.tmps[3]?.getD undef = .pointer (some ⟨w.heap.size + 1, 0, none⟩) := (hc.was 3 (by kernel_rfl)).trans rfl
      refine does_value rfl rfl (.pointer (some ⟨w.heap.size + 1, 1, none⟩)) w1 ?_ (Below.refl _ _) rfl
      clear hc hl
      go_simp
    · intro listed a w1 hl hc
      have h33 : a.tmps[33]?.getD undef = .pointer (some ⟨w.heap.size + 1, 1, none⟩) := hc.dep hl 2 33 rfl (by kernel_rfl)
      have kb := C7.out.below hc.g C7.out.lt
      have x1 : w1.cell? ⟨w.heap.size + 1, 1, none⟩ = some (.int .u8 (f.toNat : Int)) := kb.cell 1
      clear kb
      refine does_value rfl rfl (.int .u8 (f.toNat : Int)) w1 ?_ (Below.refl _ _) rfl
      clear hc hl
      go_simp
    · intro listed a w1 hl hc
      have h3 : a.tmps[3]?.getD undef = .pointer (some ⟨w.heap.size + 1, 0, none⟩) := (hc.was 3 (by kernel_rfl)).trans rfl
      refine does_value rfl rfl (.pointer (some ⟨w.heap.size + 1, 2, none⟩)) w1 ?_ (Below.refl _ _) rfl
      clear hc hl
      go_simp
    · intro listed a w1 hl hc
      have h35 : a.tmps[35]?.getD undef = .pointer (some ⟨w.heap.size + 1, 2, none⟩) := hc.dep hl 4 35 rfl (by kernel_rfl)
      have kb := C7.out.below hc.g C7.out.lt
      have x2 : w1.cell? ⟨w.heap.size + 1, 2, none⟩ = some (.slice A n c) := kb.cell 2
      clear kb
      refine does_value rfl rfl (.slice A n c) w1 ?_ (Below.refl _ _) rfl
      clear hc hl
      go_simp
    · intro listed a w1 hl hc
      have h36 : a.tmps[36]?.getD undef = .slice A n c := hc.dep hl 5 36 rfl (by kernel_rfl)
      refine does_call rfl rfl 14 #[.slice A n c] ?_ ((HRM.out w1 (B7.out.trans (hc.g.mono B7.out.size))).mono fun e w' ⟨g9, he, hg, hr, hb⟩ => ⟨_, he, hb, g9, rfl, Nat.le_trans hc.g.size hg, hr⟩)
      clear hc hl
      go_simp
    · intro listed a w1 hl hc
      have h32 : a.tmps[32]?.getD undef = .int .u8 (k.toNat : Int) := hc.dep hl 1 32 rfl (by kernel_rfl)
      have h34 : a.tmps[34]?.getD undef = .int .u8 (f.toNat : Int) := hc.dep hl 3 34 rfl (by kernel_rfl)
      obtain ⟨G37, h37, hg37, hr37⟩ := hc.dep hl 6 37 rfl (by kernel_rfl)
      refine does_value rfl rfl (.agg #[.int .u8 (k.toNat : Int), .int .u8 (f.toNat : Int), .slice (some ⟨G37, 0, none⟩) n (n + 16 : Nat)]) w1 ?_ (Below.refl _ _) ⟨G37, rfl, hg37, hr37⟩
      clear hc hl
      go_simp
    · intro listed a w1 hl hc
      refine does_value rfl rfl (.pointer (some ⟨w1.heap.size, 0, none⟩)) (w1.alloc (.cells #[.int .u8 0, .int .u8 0, .slice none 0 0] 28)) ?_ (below_new w1 _) ⟨_, rfl, hc.g.size, Blk.new _ _ _⟩
      clear hc hl
      go_simp
  intro w2 hb2
  rintro _ rfl _ rfl _ rfl _ rfl _ rfl _ rfl _ ⟨G37, rfl, hg37, hr37⟩ _ ⟨G38, rfl, hg38, hr38⟩ _ ⟨g7, rfl, hg7, hb7⟩
  simp only [Thus, List.reverse_cons, List.reverse_nil, List.nil_append, List.cons_append, List.drop, List.take, lay]
  go_frame
  have HG := Lib.hid hb7
  have hgl7 : g7 < w2.heap.size := hb7.lt
  have hne := hr38.ne_blk hb7 (by decide)
  have y0 := HG.out.cell 0
  have y1 := HG.out.cell 1
  have y2 := HG.out.cell 2
  have z0 := HG.out.frozen 0
  have z1 := HG.out.frozen 1
  have z2 := HG.out.frozen 2
  have hb : Below v7.heap.size v7 (((w2.setCell ⟨g7, 0, none⟩ (.int .u8 (k.toNat : Int))).setCell ⟨g7, 1, none⟩ (.int .u8 (f.toNat : Int))).setCell ⟨g7, 2, none⟩ (.slice (some ⟨G38, 0, none⟩) n (n + 16 : Nat))) := (((hb2.setCell (p := ⟨g7, 0, none⟩) hg7 (.int .u8 (k.toNat : Int))).setCell (p := ⟨g7, 1, none⟩) hg7 (.int .u8 (f.toNat : Int))).setCell (p := ⟨g7, 2, none⟩) hg7 (.slice (some ⟨G38, 0, none⟩) n (n + 16 : Nat)))
  have P8 := Lib.hid (P7.out.below hb P7.out.lt)
  have C8 := Lib.hid (C7.out.below hb C7.out.lt)
  have B8 := Lib.hid (below_then B7.out (Nat.le_refl _) hb)
  have I8 := Lib.hid (I7.out.below hb I7.out.lt)
  have O8 := Lib.hid (O7.out.below hb)
  have T8 := Lib.hid (T7.out.below hb (Nat.le_refl _))
  have V8 := Lib.hid (V7.out.below hb V7.out.lt)
  clear hb P7 C7 B7 I7 O7 T7 V7
  have Q8 : Hid (Blk (((w2.setCell ⟨g7, 0, none⟩ (.int .u8 (k.toNat : Int))).setCell ⟨g7, 1, none⟩ (.int .u8 (f.toNat : Int))).setCell ⟨g7, 2, none⟩ (.slice (some ⟨G38, 0, none⟩) n (n + 16 : Nat))) g7 28 #[.int .u8 (k.toNat : Int), .int .u8 (f.toNat : Int), .slice (some ⟨G38, 0, none⟩) n (n + 16 : Nat)]) := Lib.hid (((hb7.set_ 0 (.int .u8 (k.toNat : Int))).set_ 1 (.int .u8 (f.toNat : Int))).set_ 2 (.slice (some ⟨G38, 0, none⟩) n (n + 16 : Nat)))
  have R8 := Lib.hid (((hr38.far (p := ⟨g7, 0, none⟩) hne (.int .u8 (k.toNat : Int))).far (p := ⟨g7, 1, none⟩) hne (.int .u8 (f.toNat : Int))).far (p := ⟨g7, 2, none⟩) hne (.slice (some ⟨G38, 0, none⟩) n (n + 16 : Nat)))
  clear hb2 hb7 HG hne hg37 hr37 hg38 hr38
  go_wp2_with fail
  generalize ((w2.setCell ⟨g7, 0, none⟩ (.int .u8 (k.toNat : Int))).setCell ⟨g7, 1, none⟩ (.int .u8 (f.toNat : Int))).setCell ⟨g7, 2, none⟩ (.slice (some ⟨G38, 0, none⟩) n (n + 16 : Nat)) = v8 at P8 C8 B8 I8 O8 T8 V8 Q8 R8 ⊢
  clear hgl7 hg7 y0 y1 y2 z0 z1 z2
  refine (HGD.out v8 G38 R8.out).mono ?_
  rintro e w9 ⟨Ax, mx, cx, rfl, ho, hmx, hb⟩
  have P9 := Lib.hid (P8.out.below hb P8.out.lt)
  have C9 := Lib.hid (C8.out.below hb C8.out.lt)
  have B9 := Lib.hid (below_then B8.out (Nat.le_refl _) hb)
  have I9 := Lib.hid (I8.out.below hb I8.out.lt)
  have O9 := Lib.hid (O8.out.below hb)
  have T9 := Lib.hid (T8.out.below hb (Nat.le_refl _))
  have V9 := Lib.hid (V8.out.below hb V8.out.lt)
  have Q9 := Lib.hid (Q8.out.below hb Q8.out.lt)
  have R9 := Lib.hid (R8.out.below hb R8.out.lt)
  clear hb P8 C8 B8 I8 O8 T8 V8 Q8 R8
  have X9 := Lib.hid ho
  have HMX := Lib.hid hmx
  clear ho hmx
  have hlc := C9.out.lt
  have hb := below_new w9 (.cells #[.int .u32 (rt : Int), .slice Ax mx cx] 56)
  have P10 := Lib.hid (P9.out.below hb P9.out.lt)
  have C10 := Lib.hid (C9.out.below hb C9.out.lt)
  have B10 := Lib.hid (below_then B9.out (Nat.le_refl _) hb)
  have I10 := Lib.hid (I9.out.below hb I9.out.lt)
  have O10 := Lib.hid (O9.out.below hb)
  have T10 := Lib.hid (T9.out.below hb (Nat.le_refl _))
  have V10 := Lib.hid (V9.out.below hb V9.out.lt)
  have Q10 := Lib.hid (Q9.out.below hb Q9.out.lt)
  have R10 := Lib.hid (R9.out.below hb R9.out.lt)
  have X10 := Lib.hid (X9.out.below hb)
  clear hb P9 C9 B9 I9 O9 T9 V9 Q9 R9 X9
  have D10 := Lib.hid (Blk.new w9 56 #[.int .u32 (rt : Int), .slice Ax mx cx])
  obtain ⟨g8, hg8⟩ : ∃ g, g = w9.heap.size := ⟨_, rfl⟩
  rw [← hg8] at D10
  have Hg8 := Lib.hid hg8
  have hlg8 : w.heap.size + 1 < g8 := by omega
  clear hlc
  clear hg8
  have x0 := C10.out.cell 0
  have x1 := C10.out.cell 1
  have x2 := C10.out.cell 2
  go_wp2_with fail
  rw [← Hg8.out]
  generalize w9.alloc (.cells #[.int .u32 (rt : Int), .slice Ax mx cx] 56) = v10 at P10 C10 B10 I10 O10 T10 V10 Q10 R10 X10 D10 x0 x1 x2 ⊢
  clear Hg8 x0 x1 x2
  refine (HRD.out v10 B10.out).mono ?_
  rintro e w11 ⟨Ay, my, cy, rfl, ho, hmy, hb⟩
  have P11 := Lib.hid (P10.out.below hb P10.out.lt)
  have C11 := Lib.hid (C10.out.below hb C10.out.lt)
  have B11 := Lib.hid (below_then B10.out (Nat.le_refl _) hb)
  have I11 := Lib.hid (I10.out.below hb I10.out.lt)
  have O11 := Lib.hid (O10.out.below hb)
  have T11 := Lib.hid (T10.out.below hb (Nat.le_refl _))
  have V11 := Lib.hid (V10.out.below hb V10.out.lt)
  have Q11 := Lib.hid (Q10.out.below hb Q10.out.lt)
  have R11 := Lib.hid (R10.out.below hb R10.out.lt)
  have X11 := Lib.hid (X10.out.below hb)
  have D11 := Lib.hid (D10.out.below hb D10.out.lt)
  clear hb P10 C10 B10 I10 O10 T10 V10 Q10 R10 X10 D10
  have Z11 := Lib.hid ho
  have HMY := Lib.hid hmy
  clear ho hmy
  have hlc := C11.out.lt
  have hb := below_new w11 (.cells #[.int .u32 (rt : Int), .slice Ay my cy] 56)
  have P12 := Lib.hid (P11.out.below hb P11.out.lt)
  have C12 := Lib.hid (C11.out.below hb C11.out.lt)
  have B12 := Lib.hid (below_then B11.out (Nat.le_refl _) hb)
  have I12 := Lib.hid (I11.out.below hb I11.out.lt)
  have O12 := Lib.hid (O11.out.below hb)
  have T12 := Lib.hid (T11.out.below hb (Nat.le_refl _))
  have V12 := Lib.hid (V11.out.below hb V11.out.lt)
  have Q12 := Lib.hid (Q11.out.below hb Q11.out.lt)
  have R12 := Lib.hid (R11.out.below hb R11.out.lt)
  have X12 := Lib.hid (X11.out.below hb)
  have D12 := Lib.hid (D11.out.below hb D11.out.lt)
  have Z12 := Lib.hid (Z11.out.below hb)
  clear hb P11 C11 B11 I11 O11 T11 V11 Q11 R11 X11 D11 Z11
  have E12 := Lib.hid (Blk.new w11 56 #[.int .u32 (rt : Int), .slice Ay my cy])
  obtain ⟨g10, hg10⟩ : ∃ g, g = w11.heap.size := ⟨_, rfl⟩
  rw [← hg10] at E12
  have Hg10 := Lib.hid hg10
  have hlg10 : w.heap.size + 1 < g10 := by omega
  clear hlc
  clear hg10
  go_wp2_with fail
  rw [← Hg10.out]
  generalize w11.alloc (.cells #[.int .u32 (rt : Int), .slice Ay my cy] 56) = v12 at P12 C12 B12 I12 O12 T12 V12 Q12 R12 X12 D12 Z12 E12 ⊢
  clear Hg10
  rw [← drawn_eq 9]
  refine wp_region_grow_tail 29 (by kernel_rfl) [(Is (.agg #[.int .u8 192, .int .u8 0, .slice Ap YD.length cp])), (Is (.agg #[.int .u32 (cum : Int), .slice As ns cs])), (NewAgg 5 0 YD.length YD (fun s => .agg #[.int .u8 ((192 : UInt8).toNat : Int), .int .u8 ((0 : UInt8).toNat : Int), s])), (Is (.bool true)), (Is (.bool true)), (Is (.agg #[.int .u32 (cum : Int), .slice A1 ns c1])), (Is (.agg #[.int .u32 (cum : Int), .slice As ns cs])), (Is (.bool true)), (Is (.bool true)), (Is (.bool true)), (Is (.pointer (some ⟨g7, 2, none⟩))), (Is (.slice (some ⟨G38, 0, none⟩) n (n + 16 : Nat))), (Is (.pointer (some ⟨w.heap.size + 1, 2, none⟩))), (Is (.slice A n c)), (Is (.bool true)), (Is (.bool true)), (Is (.bool true)), (Is (.int .i64 re)), (Is (.int .i64 re)), (Is (.bool true)), (Is (.bool true)), (Is (.bool true)), (Is (.agg #[.int .u32 (rt : Int), .slice Ax mx cx])), (Is (.agg #[.int .u32 (rt : Int), .slice Ay my cy])), (Is (.bool true)), (Is (.bool true)), (Is (.bool true)), (Is (.bool true)), (Is (.bool true))] rfl ?_ (by kernel_rfl) (by kernel_rfl) ?_ ?_
  · intro p hp
    simp only [List.mem_cons, List.not_mem_nil, or_false] at hp
    rcases hp with rfl | rfl | rfl | rfl | rfl | rfl | rfl | rfl | rfl | rfl | rfl | rfl | rfl | rfl | rfl | rfl | rfl | rfl | rfl | rfl | rfl | rfl | rfl | rfl | rfl | rfl | rfl | rfl | rfl
    · exact Lasts.is _
    · exact Lasts.is _
    · exact Lasts.newAgg _ _ _ _ _
    · exact Lasts.is _
    · exact Lasts.is _
    · exact Lasts.is _
    · exact Lasts.is _
    · exact Lasts.is _
    · exact Lasts.is _
    · exact Lasts.is _
    · exact Lasts.is _
    · exact Lasts.is _
    · exact Lasts.is _
    · exact Lasts.is _
    · exact Lasts.is _
    · exact Lasts.is _
    · exact Lasts.is _
    · exact Lasts.is _
    · exact Lasts.is _
    · exact Lasts.is _
    · exact Lasts.is _
    · exact Lasts.is _
    · exact Lasts.is _
    · exact Lasts.is _
    · exact Lasts.is _
    · exact Lasts.is _
    · exact Lasts.is _
    · exact Lasts.is _
    · exact Lasts.is _
  · refine ⟨?_, ?_, ?_, ?_, ?_, ?_, ?_, ?_, ?_, ?_, ?_, ?_, ?_, ?_, ?_, ?_, ?_, ?_, ?_, ?_, ?_, ?_, ?_, ?_, ?_, ?_, ?_, ?_, ?_, trivial⟩
    · intro listed a w1 hl hc
      have h6 : a.tmps[6]?.getD undef = .pointer (some ⟨g6, 0, none⟩) := (hc.was 6 (by kernel_rfl)).trans rfl
      have kb := V12.out.below hc.g V12.out.lt
      have x0 : w1.cell? ⟨g6, 0, none⟩ = some (.int .u8 192) := kb.cell 0
      have x1 : w1.cell? ⟨g6, 1, none⟩ = some (.int .u8 0) := kb.cell 1
      have x2 : w1.cell? ⟨g6, 2, none⟩ = some (.slice Ap YD.length cp) := kb.cell 2
      clear kb
      refine does_value rfl rfl (.agg #[.int .u8 192, .int .u8 0, .slice Ap YD.length cp]) w1 ?_ (Below.refl _ _) rfl
      clear hc hl
      go_simp
    · intro listed a w1 hl hc
      have h2 : a.tmps[2]?.getD undef = .pointer (some ⟨w.heap.size, 0, none⟩) := (hc.was 2 (by kernel_rfl)).trans rfl
      have kb := P12.out.below hc.g P12.out.lt
      have x0 : w1.cell? ⟨w.heap.size, 0, none⟩ = some (.int .u32 (cum : Int)) := kb.cell 0
      have x1 : w1.cell? ⟨w.heap.size, 1, none⟩ = some (.slice As ns cs) := kb.cell 1
      clear kb
      refine does_value rfl rfl (.agg #[.int .u32 (cum : Int), .slice As ns cs]) w1 ?_ (Below.refl _ _) rfl
      clear hc hl
      go_simp
    · intro listed a w1 hl hc
      have h50 : a.tmps[50]?.getD undef = .agg #[.int .u32 (cum : Int), .slice As ns cs] := hc.dep hl 1 50 rfl (by kernel_rfl)
      refine does_call rfl rfl 37 #[.agg #[.int .u32 (cum : Int), .slice As ns cs]] ?_ ((HQD.out w1 (B12.out.trans (hc.g.mono B12.out.size))).mono fun e w' ⟨A9, c9, he, ho, hb⟩ => ⟨_, he, hb, A9, c9, rfl, ho.more (Nat.zero_le _)⟩)
      clear hc hl
      go_simp
    · intro listed a w1 hl hc
      have h49 : a.tmps[49]?.getD undef = .agg #[.int .u8 192, .int .u8 0, .slice Ap YD.length cp] := hc.dep hl 0 49 rfl (by kernel_rfl)
      obtain ⟨A51, c51, h51, ho51⟩ := hc.dep hl 2 51 rfl (by kernel_rfl)
      refine does_call rfl rfl 18 #[.agg #[.int .u8 192, .int .u8 0, .slice Ap YD.length cp], .agg #[.int .u8 ((192 : UInt8).toNat : Int), .int .u8 ((0 : UInt8).toNat : Int), .slice A51 YD.length c51]] ?_ ((HSM.out w1 192 0 YD Ap A51 cp c51 _ _ (T12.out.below hc.g (Nat.le_refl _)) ho51).mono fun e w' ⟨he, hb⟩ => ⟨_, he, hb, rfl⟩)
      clear hc hl
      go_simp
    · intro listed a w1 hl hc
      have h52 : a.tmps[52]?.getD undef = .bool true := hc.dep hl 3 52 rfl (by kernel_rfl)
      refine does_value rfl rfl (.bool true) w1 ?_ (Below.refl _ _) rfl
      clear hc hl
      go_simp
    · intro listed a w1 hl hc
      have h5 : a.tmps[5]?.getD undef = .pointer (some ⟨g5, 0, none⟩) := (hc.was 5 (by kernel_rfl)).trans rfl
      have kb := I12.out.below hc.g I12.out.lt
      have x0 : w1.cell? ⟨g5, 0, none⟩ = some (.int .u32 (cum : Int)) := kb.cell 0
      have x1 : w1.cell? ⟨g5, 1, none⟩ = some (.slice A1 ns c1) := kb.cell 1
      clear kb
      refine does_value rfl (wanted_at rfl rfl (hc.dep hl 4 53 rfl (by kernel_rfl))) (.agg #[.int .u32 (cum : Int), .slice A1 ns c1]) w1 ?_ (Below.refl _ _) rfl
      clear hc hl
      go_simp
    · intro listed a w1 hl hc
      have h2 : a.tmps[2]?.getD undef = .pointer (some ⟨w.heap.size, 0, none⟩) := (hc.was 2 (by kernel_rfl)).trans rfl
      have kb := P12.out.below hc.g P12.out.lt
      have x0 : w1.cell? ⟨w.heap.size, 0, none⟩ = some (.int .u32 (cum : Int)) := kb.cell 0
      have x1 : w1.cell? ⟨w.heap.size, 1, none⟩ = some (.slice As ns cs) := kb.cell 1
      clear kb
      refine does_value rfl (wanted_at rfl rfl (hc.dep hl 4 53 rfl (by kernel_rfl))) (.agg #[.int .u32 (cum : Int), .slice As ns cs]) w1 ?_ (Below.refl _ _) rfl
      clear hc hl
      go_simp
    · intro listed a w1 hl hc
      have h54 : a.tmps[54]?.getD undef = .agg #[.int .u32 (cum : Int), .slice A1 ns c1] := hc.dep hl 5 54 rfl (by kernel_rfl)
      have h55 : a.tmps[55]?.getD undef = .agg #[.int .u32 (cum : Int), .slice As ns cs] := hc.dep hl 6 55 rfl (by kernel_rfl)
      refine does_call rfl (wanted_at rfl rfl (hc.dep hl 4 53 rfl (by kernel_rfl))) 38 #[.agg #[.int .u32 (cum : Int), .slice A1 ns c1], .agg #[.int .u32 (cum : Int), .slice As ns cs]] ?_ ((HSI.out w1 A1 c1 _ (B12.out.trans (hc.g.mono B12.out.size)) (O12.out.below hc.g)).mono fun e w' ⟨he, hb⟩ => ⟨_, he, hb, rfl⟩)
      clear hc hl
      go_simp
    · intro listed a w1 hl hc
      have h53 : a.tmps[53]?.getD undef = .bool true := hc.dep hl 4 53 rfl (by kernel_rfl)
      have h56 : a.tmps[56]?.getD undef = .bool true := hc.dep hl 7 56 rfl (by kernel_rfl)
      refine does_value rfl rfl (.bool true) w1 ?_ (Below.refl _ _) rfl
      clear hc hl
      go_simp
    · intro listed a w1 hl hc
      have h57 : a.tmps[57]?.getD undef = .bool true := hc.dep hl 8 57 rfl (by kernel_rfl)
      refine does_value rfl rfl (.bool true) w1 ?_ (Below.refl _ _) rfl
      clear hc hl
      go_simp
    · intro listed a w1 hl hc
      have h7 : a.tmps[7]?.getD undef = .pointer (some ⟨g7, 0, none⟩) := (hc.was 7 (by kernel_rfl)).trans rfl
      refine does_value rfl (wanted_at rfl rfl (hc.dep hl 9 58 rfl (by kernel_rfl))) (.pointer (some ⟨g7, 2, none⟩)) w1 ?_ (Below.refl _ _) rfl
      clear hc hl
      go_simp
    · intro listed a w1 hl hc
      have h59 : a.tmps[59]?.getD undef = .pointer (some ⟨g7, 2, none⟩) := hc.dep hl 10 59 rfl (by kernel_rfl)
      have kb := Q12.out.below hc.g Q12.out.lt
      have x2 : w1.cell? ⟨g7, 2, none⟩ = some (.slice (some ⟨G38, 0, none⟩) n (n + 16 : Nat)) := kb.cell 2
      clear kb
      refine does_value rfl (wanted_at rfl rfl (hc.dep hl 9 58 rfl (by kernel_rfl))) (.slice (some ⟨G38, 0, none⟩) n (n + 16 : Nat)) w1 ?_ (Below.refl _ _) rfl
      clear hc hl
      go_simp
    · intro listed a w1 hl hc
      have h3 : a.tmps[3]?.getD undef = .pointer (some ⟨w.heap.size + 1, 0, none⟩) := (hc.was 3 (by kernel_rfl)).trans rfl
      refine does_value rfl (wanted_at rfl rfl (hc.dep hl 9 58 rfl (by kernel_rfl))) (.pointer (some ⟨w.heap.size + 1, 2, none⟩)) w1 ?_ (Below.refl _ _) rfl
      clear hc hl
      go_simp
    · intro listed a w1 hl hc
      have h61 : a.tmps[61]?.getD undef = .pointer (some ⟨w.heap.size + 1, 2, none⟩) := hc.dep hl 12 61 rfl (by kernel_rfl)
      have kb := C12.out.below hc.g C12.out.lt
      have x2 : w1.cell? ⟨w.heap.size + 1, 2, none⟩ = some (.slice A n c) := kb.cell 2
      clear kb
      refine does_value rfl (wanted_at rfl rfl (hc.dep hl 9 58 rfl (by kernel_rfl))) (.slice A n c) w1 ?_ (Below.refl _ _) rfl
      clear hc hl
      go_simp
    · intro listed a w1 hl hc
      have h60 : a.tmps[60]?.getD undef = .slice (some ⟨G38, 0, none⟩) n (n + 16 : Nat) := hc.dep hl 11 60 rfl (by kernel_rfl)
      have h62 : a.tmps[62]?.getD undef = .slice A n c := hc.dep hl 13 62 rfl (by kernel_rfl)
      refine does_call rfl (wanted_at rfl rfl (hc.dep hl 9 58 rfl (by kernel_rfl))) 20 #[.slice (some ⟨G38, 0, none⟩) n (n + 16 : Nat), .slice A n c] ?_ ((HKP.out w1 G38 (B12.out.trans (hc.g.mono B12.out.size)) (R12.out.below hc.g R12.out.lt)).mono fun e w' ⟨he, hb⟩ => ⟨_, he, hb, rfl⟩)
      clear hc hl
      go_simp
    · intro listed a w1 hl hc
      have h58 : a.tmps[58]?.getD undef = .bool true := hc.dep hl 9 58 rfl (by kernel_rfl)
      have h63 : a.tmps[63]?.getD undef = .bool true := hc.dep hl 14 63 rfl (by kernel_rfl)
      refine does_value rfl rfl (.bool true) w1 ?_ (Below.refl _ _) rfl
      clear hc hl
      go_simp
    · intro listed a w1 hl hc
      have h64 : a.tmps[64]?.getD undef = .bool true := hc.dep hl 15 64 rfl (by kernel_rfl)
      refine does_value rfl rfl (.bool true) w1 ?_ (Below.refl _ _) rfl
      clear hc hl
      go_simp
    · intro listed a w1 hl hc
      have h9 : a.tmps[9]?.getD undef = .int .i64 re := (hc.was 9 (by kernel_rfl)).trans rfl
      refine does_value rfl (wanted_at rfl rfl (hc.dep hl 16 65 rfl (by kernel_rfl))) (.int .i64 re) w1 ?_ (Below.refl _ _) rfl
      clear hc hl
      go_simp
    · intro listed a w1 hl hc
      have h11 : a.tmps[11]?.getD undef = .int .i64 re := (hc.was 11 (by kernel_rfl)).trans rfl
      refine does_value rfl (wanted_at rfl rfl (hc.dep hl 16 65 rfl (by kernel_rfl))) (.int .i64 re) w1 ?_ (Below.refl _ _) rfl
      clear hc hl
      go_simp
    · intro listed a w1 hl hc
      have h66 : a.tmps[66]?.getD undef = .int .i64 re := hc.dep hl 17 66 rfl (by kernel_rfl)
      have h67 : a.tmps[67]?.getD undef = .int .i64 re := hc.dep hl 18 67 rfl (by kernel_rfl)
      refine does_value rfl (wanted_at rfl rfl (hc.dep hl 16 65 rfl (by kernel_rfl))) (.bool true) w1 ?_ (Below.refl _ _) rfl
      clear hc hl
      go_simp
    · intro listed a w1 hl hc
      have h65 : a.tmps[65]?.getD undef = .bool true := hc.dep hl 16 65 rfl (by kernel_rfl)
      have h68 : a.tmps[68]?.getD undef = .bool true := hc.dep hl 19 68 rfl (by kernel_rfl)
      refine does_value rfl rfl (.bool true) w1 ?_ (Below.refl _ _) rfl
      clear hc hl
      go_simp
    · intro listed a w1 hl hc
      have h69 : a.tmps[69]?.getD undef = .bool true := hc.dep hl 20 69 rfl (by kernel_rfl)
      refine does_value rfl rfl (.bool true) w1 ?_ (Below.refl _ _) rfl
      clear hc hl
      go_simp
    · intro listed a w1 hl hc
      have h8 : a.tmps[8]?.getD undef = .pointer (some ⟨g8, 0, none⟩) := (hc.was 8 (by kernel_rfl)).trans rfl
      have kb := D12.out.below hc.g D12.out.lt
      have x0 : w1.cell? ⟨g8, 0, none⟩ = some (.int .u32 (rt : Int)) := kb.cell 0
      have x1 : w1.cell? ⟨g8, 1, none⟩ = some (.slice Ax mx cx) := kb.cell 1
      clear kb
      refine does_value rfl (wanted_at rfl rfl (hc.dep hl 21 70 rfl (by kernel_rfl))) (.agg #[.int .u32 (rt : Int), .slice Ax mx cx]) w1 ?_ (Below.refl _ _) rfl
      clear hc hl
      go_simp
    · intro listed a w1 hl hc
      have h10 : a.tmps[10]?.getD undef = .pointer (some ⟨g10, 0, none⟩) := (hc.was 10 (by kernel_rfl)).trans rfl
      have kb := E12.out.below hc.g E12.out.lt
      have x0 : w1.cell? ⟨g10, 0, none⟩ = some (.int .u32 (rt : Int)) := kb.cell 0
      have x1 : w1.cell? ⟨g10, 1, none⟩ = some (.slice Ay my cy) := kb.cell 1
      clear kb
      refine does_value rfl (wanted_at rfl rfl (hc.dep hl 21 70 rfl (by kernel_rfl))) (.agg #[.int .u32 (rt : Int), .slice Ay my cy]) w1 ?_ (Below.refl _ _) rfl
      clear hc hl
      go_simp
    · intro listed a w1 hl hc
      have h71 : a.tmps[71]?.getD undef = .agg #[.int .u32 (rt : Int), .slice Ax mx cx] := hc.dep hl 22 71 rfl (by kernel_rfl)
      have h72 : a.tmps[72]?.getD undef = .agg #[.int .u32 (rt : Int), .slice Ay my cy] := hc.dep hl 23 72 rfl (by kernel_rfl)
      refine does_call rfl (wanted_at rfl rfl (hc.dep hl 21 70 rfl (by kernel_rfl))) 38 #[.agg #[.int .u32 (rt : Int), .slice Ax mx cx], .agg #[.int .u32 (rt : Int), .slice Ay my cy]] ?_ ((HSD.out w1 Ax Ay mx cx my cy _ _ (X12.out.below hc.g) (Z12.out.below hc.g) HMX.out HMY.out).mono fun e w' ⟨he, hb⟩ => ⟨_, he, hb, rfl⟩)
      clear hc hl
      go_simp
    · intro listed a w1 hl hc
      have h70 : a.tmps[70]?.getD undef = .bool true := hc.dep hl 21 70 rfl (by kernel_rfl)
      have h73 : a.tmps[73]?.getD undef = .bool true := hc.dep hl 24 73 rfl (by kernel_rfl)
      refine does_value rfl rfl (.bool true) w1 ?_ (Below.refl _ _) rfl
      clear hc hl
      go_simp
    · intro listed a w1 hl hc
      have h74 : a.tmps[74]?.getD undef = .bool true := hc.dep hl 25 74 rfl (by kernel_rfl)
      refine does_value rfl rfl (.bool true) w1 ?_ (Below.refl _ _) rfl
      clear hc hl
      go_simp
    · intro listed a w1 hl hc
      refine does_call rfl (wanted_at rfl rfl (hc.dep hl 26 75 rfl (by kernel_rfl))) 13 #[] ?_ ((works_any w1).mono fun e w' ⟨he, hb⟩ => ⟨_, he, hb, rfl⟩)
      clear hc hl
      go_simp
    · intro listed a w1 hl hc
      have h75 : a.tmps[75]?.getD undef = .bool true := hc.dep hl 26 75 rfl (by kernel_rfl)
      have h76 : a.tmps[76]?.getD undef = .bool true := hc.dep hl 27 76 rfl (by kernel_rfl)
      refine does_value rfl rfl (.bool true) w1 ?_ (Below.refl _ _) rfl
      clear hc hl
      go_simp
  intro w2 hb2
  rintro _ rfl _ rfl _ ⟨A51, c51, rfl, ho51⟩ _ rfl _ rfl _ rfl _ rfl _ rfl _ rfl _ rfl _ rfl _ rfl _ rfl _ rfl _ rfl _ rfl _ rfl _ rfl _ rfl _ rfl _ rfl _ rfl _ rfl _ rfl _ rfl _ rfl _ rfl _ rfl _ rfl
  simp only [Thus, List.reverse_cons, List.reverse_nil, List.nil_append, List.cons_append, List.drop, List.take, lay]
  go_frame
  have BE := below_then B12.out (Nat.le_refl _) hb2
  clear hb2
  go_wp2_with fail
  go_ret
  exact ⟨rfl, BE⟩
theorem bodiesForward_walk (cum : Nat) (As : Option Addr) (ns cs : Nat) (skips : List (Nat × Nat)) (b0 b1 : Int) (A : Option Addr) (n c : Nat) (xs : List UInt8) (w : World) (h1 : cum < 4294967296) (hc2 : ns ≤ cs) (hcm2 : cs ≤ maxLen) (hsl : skips.length = ns) (hsr : Rg w 0 w.heap.size As skips) (hsb : ∀ g ∈ skips, g.1 < 65536 ∧ g.2 < 65536) (h3 : (Lit.int .u8 b0).wf = true) (h4 : (Lit.int .u8 b1).wf = true) (hc : n ≤ c) (hcm : c ≤ maxLen) (hx : xs.length = n) (hr : Rd w w.heap.size A xs) :
    Calls Try.prog 6 #[.agg #[.int .u32 (cum : Int), .slice As ns cs], .agg #[.int .u8 b0, .int .u8 b1, .slice A n c]] w fun e w' => e = .returned (.bool true) ∧ Below w.heap.size w w' := by
  obtain ⟨k, rfl⟩ := byte_of h3
  obtain ⟨f, rfl⟩ := byte_of h4
  by_cases h : 8192 < n
  · exact bodiesForward_big cum As ns cs skips k f A n c xs w h1 hc2 hcm2 hsl hsr hsb hc hcm hx hr h
  · by_cases h2 : 2048 < ns
    · exact bodiesForward_long cum As ns cs skips k f A n c xs w h1 hc2 hcm2 hsl hsr hsb hc hcm hx hr (by omega) h2
    · exact bodiesForward_small cum As ns cs skips k f A n c xs w h1 hc2 hcm2 hsl hsr hsb hc hcm hx hr (by omega) (by omega)
end Go.Proofs.Ytalgkokgaibloaa
