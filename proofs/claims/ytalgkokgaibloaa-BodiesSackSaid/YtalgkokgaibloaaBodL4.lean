/-
  BodiesSack, walked.
-/
import Derived.Test.YtalgkokgaibloaaBodRE
import Derived.Test.YtalgkokgaibloaaBodZ
import Derived.Test.YtalgkokgaibloaaAppG
import Derived.Test.YtalgkokgaibloaaKept
import Derived.Test.YtalgkokgaibloaaRows2
import Derived.Test.YtalgkokgaibloaaNums
namespace Go.Proofs.Ytalgkokgaibloaa
open Go.RowKit
set_option linter.unusedVariables false

set_option maxRecDepth 100000 in
set_option maxHeartbeats 4000000 in
theorem bodiesSack_big (cum rwnd : Nat) (Ag : Option Addr) (ng cg : Nat) (gaps : List (Nat × Nat)) (Au : Option Addr) (nu cu : Nat) (dups : List Nat) (k f : UInt8) (A : Option Addr) (n c : Nat) (xs : List UInt8) (w : World) (h1 : cum < 4294967296) (h2 : rwnd < 4294967296) (hg1 : ng ≤ cg) (hg2 : cg ≤ maxLen) (hgl : gaps.length = ng) (hgr : Rg w 0 w.heap.size Ag gaps) (hgb : ∀ g ∈ gaps, g.1 < 65536 ∧ g.2 < 65536) (hu1 : nu ≤ cu) (hu2 : cu ≤ maxLen) (hul : dups.length = nu) (hur : Ri .u32 w w.heap.size Au (ints dups)) (hub : ∀ g ∈ dups, g < 4294967296) (hc : n ≤ c) (hcm : c ≤ maxLen) (hx : xs.length = n) (hr : Rd w w.heap.size A xs) (h : 8192 < n) :
    Calls Try.prog 5 #[.agg #[.int .u32 (cum : Int), .int .u32 (rwnd : Int), .slice Ag ng cg, .slice Au nu cu], .agg #[.int .u8 (k.toNat : Int), .int .u8 (f.toNat : Int), .slice A n c]] w fun e w' => e = .returned (.bool true) ∧ Below w.heap.size w w' := by
  have hzs := zero_fwd
  have HLG : Hid (∀ W, Calls Try.prog 12 #[.agg #[.int .u8 (k.toNat : Int), .int .u8 (f.toNat : Int), .slice A n c]] W fun e w' => e = .returned (.bool true) ∧ Below W.heap.size W w') := Lib.hid fun W => by
    have := large_any (k.toNat : Int) (f.toNat : Int) A n c W (Nat.le_trans hc hcm)
    rwa [decide_eq_true h] at this
  clear hx hr hgl hgr hgb hul hur hub
  have b0 : Blk (w.alloc (.cells #[.int .u32 (cum : Int), .int .u32 (rwnd : Int), .slice Ag ng cg, .slice Au nu cu] 52)) w.heap.size 52 #[.int .u32 (cum : Int), .int .u32 (rwnd : Int), .slice Ag ng cg, .slice Au nu cu] := Blk.new w 52 #[.int .u32 (cum : Int), .int .u32 (rwnd : Int), .slice Ag ng cg, .slice Au nu cu]
  have b1 : Blk ((w.alloc (.cells #[.int .u32 (cum : Int), .int .u32 (rwnd : Int), .slice Ag ng cg, .slice Au nu cu] 52)).alloc (.cells #[.int .u8 (k.toNat : Int), .int .u8 (f.toNat : Int), .slice A n c] 28)) (w.heap.size + 1) 28 #[.int .u8 (k.toNat : Int), .int .u8 (f.toNat : Int), .slice A n c] := by simpa using Blk.new (w.alloc (.cells #[.int .u32 (cum : Int), .int .u32 (rwnd : Int), .slice Ag ng cg, .slice Au nu cu] 52)) 28 #[.int .u8 (k.toNat : Int), .int .u8 (f.toNat : Int), .slice A n c]
  have K0 := Lib.hid (b0.alloc (.cells #[.int .u8 (k.toNat : Int), .int .u8 (f.toNat : Int), .slice A n c] 28))
  have K1 := Lib.hid b1
  have B0 : Hid (Below w.heap.size w ((w.alloc (.cells #[.int .u32 (cum : Int), .int .u32 (rwnd : Int), .slice Ag ng cg, .slice Au nu cu] 52)).alloc (.cells #[.int .u8 (k.toNat : Int), .int .u8 (f.toNat : Int), .slice A n c] 28))) := Lib.hid (Wr.below_ (((Wr.refl 5 w.heap.size w).alloc (.cells #[.int .u32 (cum : Int), .int .u32 (rwnd : Int), .slice Ag ng cg, .slice Au nu cu] 52)).alloc (.cells #[.int .u8 (k.toNat : Int), .int .u8 (f.toNat : Int), .slice A n c] 28)) (Nat.le_refl _))
  clear b0 b1
  go_enter Try.func5, Try.ntmps5
  rw [seq_eq 4, seq_eq 5, drawn_eq 7, drawn_eq 10]
  go_wp2_with fail
  generalize ((w.alloc (.cells #[.int .u32 (cum : Int), .int .u32 (rwnd : Int), .slice Ag ng cg, .slice Au nu cu] 52)).alloc (.cells #[.int .u8 (k.toNat : Int), .int .u8 (f.toNat : Int), .slice A n c] 28)) = v0 at K0 K1 B0 ⊢
  refine (HLG.out v0).mono ?_
  rintro e w1 ⟨rfl, hb⟩
  have B1 := Lib.hid (below_then B0.out (Nat.le_refl _) hb)
  have P1 := Lib.hid (K0.out.below hb K0.out.lt)
  have x0 := P1.out.cell 0
  have x1 := P1.out.cell 1
  have x2 := P1.out.cell 2
  have x3 := P1.out.cell 3
  clear hb K0 K1 B0
  go_wp2_with fail
  refine (works_any _).mono ?_
  rintro e w2 ⟨rfl, hb⟩
  go_wp2_with fail
  go_ret
  exact ⟨rfl, below_then B1.out (Nat.le_refl _) hb⟩
set_option maxRecDepth 100000 in
set_option maxHeartbeats 4000000 in
theorem bodiesSack_long (cum rwnd : Nat) (Ag : Option Addr) (ng cg : Nat) (gaps : List (Nat × Nat)) (Au : Option Addr) (nu cu : Nat) (dups : List Nat) (k f : UInt8) (A : Option Addr) (n c : Nat) (xs : List UInt8) (w : World) (h1 : cum < 4294967296) (h2 : rwnd < 4294967296) (hg1 : ng ≤ cg) (hg2 : cg ≤ maxLen) (hgl : gaps.length = ng) (hgr : Rg w 0 w.heap.size Ag gaps) (hgb : ∀ g ∈ gaps, g.1 < 65536 ∧ g.2 < 65536) (hu1 : nu ≤ cu) (hu2 : cu ≤ maxLen) (hul : dups.length = nu) (hur : Ri .u32 w w.heap.size Au (ints dups)) (hub : ∀ g ∈ dups, g < 4294967296) (hc : n ≤ c) (hcm : c ≤ maxLen) (hx : xs.length = n) (hr : Rd w w.heap.size A xs) (h : n ≤ 8192) (hl : 2048 < ng ∨ 2048 < nu) :
    Calls Try.prog 5 #[.agg #[.int .u32 (cum : Int), .int .u32 (rwnd : Int), .slice Ag ng cg, .slice Au nu cu], .agg #[.int .u8 (k.toNat : Int), .int .u8 (f.toNat : Int), .slice A n c]] w fun e w' => e = .returned (.bool true) ∧ Below w.heap.size w w' := by
  have hzs := zero_fwd
  have HLG : Hid (∀ W, Calls Try.prog 12 #[.agg #[.int .u8 (k.toNat : Int), .int .u8 (f.toNat : Int), .slice A n c]] W fun e w' => e = .returned (.bool false) ∧ Below W.heap.size W w') := Lib.hid fun W => by
    have := large_any (k.toNat : Int) (f.toNat : Int) A n c W (Nat.le_trans hc hcm)
    rwa [decide_eq_false (by omega)] at this
  have HMN : Hid (∀ W, Calls Try.prog 28 #[.agg #[.int .u32 (cum : Int), .int .u32 (rwnd : Int), .slice Ag ng cg, .slice Au nu cu], .agg #[.int .u32 0, .slice none 0 0]] W fun e w' => e = .returned (.bool true) ∧ Below W.heap.size W w') := Lib.hid fun W => by
    have := many_any (cum : Int) (rwnd : Int) 0 Ag Au none ng cg nu cu 0 0 W (Nat.le_trans hg1 hg2) (Nat.le_trans hu1 hu2) (Nat.zero_le _)
    rwa [decide_eq_true (by omega)] at this
  clear hx hr hgl hgr hgb hul hur hub
  clear hl
  have b0 : Blk (w.alloc (.cells #[.int .u32 (cum : Int), .int .u32 (rwnd : Int), .slice Ag ng cg, .slice Au nu cu] 52)) w.heap.size 52 #[.int .u32 (cum : Int), .int .u32 (rwnd : Int), .slice Ag ng cg, .slice Au nu cu] := Blk.new w 52 #[.int .u32 (cum : Int), .int .u32 (rwnd : Int), .slice Ag ng cg, .slice Au nu cu]
  have b1 : Blk ((w.alloc (.cells #[.int .u32 (cum : Int), .int .u32 (rwnd : Int), .slice Ag ng cg, .slice Au nu cu] 52)).alloc (.cells #[.int .u8 (k.toNat : Int), .int .u8 (f.toNat : Int), .slice A n c] 28)) (w.heap.size + 1) 28 #[.int .u8 (k.toNat : Int), .int .u8 (f.toNat : Int), .slice A n c] := by simpa using Blk.new (w.alloc (.cells #[.int .u32 (cum : Int), .int .u32 (rwnd : Int), .slice Ag ng cg, .slice Au nu cu] 52)) 28 #[.int .u8 (k.toNat : Int), .int .u8 (f.toNat : Int), .slice A n c]
  have K0 := Lib.hid (b0.alloc (.cells #[.int .u8 (k.toNat : Int), .int .u8 (f.toNat : Int), .slice A n c] 28))
  have K1 := Lib.hid b1
  have B0 : Hid (Below w.heap.size w ((w.alloc (.cells #[.int .u32 (cum : Int), .int .u32 (rwnd : Int), .slice Ag ng cg, .slice Au nu cu] 52)).alloc (.cells #[.int .u8 (k.toNat : Int), .int .u8 (f.toNat : Int), .slice A n c] 28))) := Lib.hid (Wr.below_ (((Wr.refl 5 w.heap.size w).alloc (.cells #[.int .u32 (cum : Int), .int .u32 (rwnd : Int), .slice Ag ng cg, .slice Au nu cu] 52)).alloc (.cells #[.int .u8 (k.toNat : Int), .int .u8 (f.toNat : Int), .slice A n c] 28)) (Nat.le_refl _))
  clear b0 b1
  go_enter Try.func5, Try.ntmps5
  rw [seq_eq 4, seq_eq 5, drawn_eq 7, drawn_eq 10]
  go_wp2_with fail
  generalize ((w.alloc (.cells #[.int .u32 (cum : Int), .int .u32 (rwnd : Int), .slice Ag ng cg, .slice Au nu cu] 52)).alloc (.cells #[.int .u8 (k.toNat : Int), .int .u8 (f.toNat : Int), .slice A n c] 28)) = v0 at K0 K1 B0 ⊢
  refine (HLG.out v0).mono ?_
  rintro e w1 ⟨rfl, hb⟩
  have B1 := Lib.hid (below_then B0.out (Nat.le_refl _) hb)
  have P1 := Lib.hid (K0.out.below hb K0.out.lt)
  have x0 := P1.out.cell 0
  have x1 := P1.out.cell 1
  have x2 := P1.out.cell 2
  have x3 := P1.out.cell 3
  clear hb K0 K1 B0
  go_wp2_with fail
  refine (HMN.out _).mono ?_
  rintro e w3 ⟨rfl, hb⟩
  have B1 := Lib.hid (below_then B1.out (Nat.le_refl _) hb)
  clear hb P1 x0 x1 x2 x3
  go_wp2_with fail
  refine (works_any _).mono ?_
  rintro e w2 ⟨rfl, hb⟩
  go_wp2_with fail
  go_ret
  exact ⟨rfl, below_then B1.out (Nat.le_refl _) hb⟩
set_option maxRecDepth 100000 in
set_option maxHeartbeats 4000000 in
theorem bodiesSack_small (cum rwnd : Nat) (Ag : Option Addr) (ng cg : Nat) (gaps : List (Nat × Nat)) (Au : Option Addr) (nu cu : Nat) (dups : List Nat) (k f : UInt8) (A : Option Addr) (n c : Nat) (xs : List UInt8) (w : World) (h1 : cum < 4294967296) (h2 : rwnd < 4294967296) (hg1 : ng ≤ cg) (hg2 : cg ≤ maxLen) (hgl : gaps.length = ng) (hgr : Rg w 0 w.heap.size Ag gaps) (hgb : ∀ g ∈ gaps, g.1 < 65536 ∧ g.2 < 65536) (hu1 : nu ≤ cu) (hu2 : cu ≤ maxLen) (hul : dups.length = nu) (hur : Ri .u32 w w.heap.size Au (ints dups)) (hub : ∀ g ∈ dups, g < 4294967296) (hc : n ≤ c) (hcm : c ≤ maxLen) (hx : xs.length = n) (hr : Rd w w.heap.size A xs) (h : n ≤ 8192) (hl : ng ≤ 2048) (hl2 : nu ≤ 2048) :
    Calls Try.prog 5 #[.agg #[.int .u32 (cum : Int), .int .u32 (rwnd : Int), .slice Ag ng cg, .slice Au nu cu], .agg #[.int .u8 (k.toNat : Int), .int .u8 (f.toNat : Int), .slice A n c]] w fun e w' => e = .returned (.bool true) ∧ Below w.heap.size w w' := by
  have HLG : Hid (∀ W, Calls Try.prog 12 #[.agg #[.int .u8 (k.toNat : Int), .int .u8 (f.toNat : Int), .slice A n c]] W fun e w' => e = .returned (.bool false) ∧ Below W.heap.size W w') := Lib.hid fun W => by
    have := large_any (k.toNat : Int) (f.toNat : Int) A n c W (Nat.le_trans hc hcm)
    rwa [decide_eq_false (by omega)] at this
  have HMN : Hid (∀ W, Calls Try.prog 28 #[.agg #[.int .u32 (cum : Int), .int .u32 (rwnd : Int), .slice Ag ng cg, .slice Au nu cu], .agg #[.int .u32 0, .slice none 0 0]] W fun e w' => e = .returned (.bool false) ∧ Below W.heap.size W w') := Lib.hid fun W => by
    have := many_any (cum : Int) (rwnd : Int) 0 Ag Au none ng cg nu cu 0 0 W (Nat.le_trans hg1 hg2) (Nat.le_trans hu1 hu2) (Nat.zero_le _)
    rwa [decide_eq_false (by omega)] at this
  have HRM : Hid (∀ W, Below w.heap.size w W → Calls Try.prog 14 #[.slice A n c] W fun e w' => ∃ g, e = .returned (.slice (some ⟨g, 0, none⟩) n (n + 16)) ∧ W.heap.size ≤ g ∧ RowAt w' 5 g (xs ++ marks16) ∧ Below W.heap.size W w') := Lib.hid fun W hW => roomy_any A n c xs W (by omega) hx ((hr.below hW).more hW.size)
  have HRG : Hid (∀ W, Below w.heap.size w W → Rg W 0 W.heap.size Ag gaps) := Lib.hid fun W hW => (hgr.below_ hW).more (Nat.le_refl _) hW.size
  have HRU : Hid (∀ W, Below w.heap.size w W → Ri .u32 W W.heap.size Au (ints dups)) := Lib.hid fun W hW => (hur.below hW).more hW.size
  have HPD : Hid (∀ (W : World) (A1 : Option Addr) (c1 b1 : Nat) (D1 : Option Addr) (d1 b2 : Nat), Og W 79 b1 (.slice A1 ng c1) gaps → Ow W 22 b2 (.slice D1 nu d1) (ints dups) → Puts 29 #[.agg #[.int .u32 (cum : Int), .int .u32 (rwnd : Int), .slice A1 ng c1, .slice D1 nu d1]] 3 0 (bodyS ⟨cum, rwnd, gaps, dups⟩) W) := Lib.hid fun W A1 c1 b1 D1 d1 b2 ho hp => putSack_any cum rwnd gaps dups h1 h2 hgb hub A1 D1 ng c1 nu d1 W (by omega) (by omega) hgl hul ho.rg hp.ri
  have HQD : Hid (∀ (W : World), Below w.heap.size w W → Puts 32 #[.agg #[.int .u32 (cum : Int), .int .u32 (rwnd : Int), .slice Ag ng cg, .slice Au nu cu]] 3 0 (bodyS ⟨cum, rwnd, gaps, dups⟩) W) := Lib.hid fun W hW => refPutSack_any cum rwnd gaps dups h1 h2 hgb hub Ag Au ng cg nu cu W (by omega) (by omega) hgl hul (HRG.out W hW) (HRU.out W hW)
  have HGD : Hid (∀ (W : World) (g : Nat), RowAt W 5 g (xs ++ marks16) → Calls Try.prog 30 #[.agg #[.int .u8 (k.toNat : Int), .int .u8 (f.toNat : Int), .slice (some ⟨g, 0, none⟩) n (n + 16 : Nat)]] W fun e w' => ∃ A2 m2 c2 D2 p2 e2, e = .returned (.tuple #[.agg #[.int .u32 ((ansS k f xs).cum : Int), .int .u32 ((ansS k f xs).rwnd : Int), .slice A2 m2 c2, .slice D2 p2 e2], .int .i64 (errOf (okS k f xs))]) ∧ Og w' 79 W.heap.size (.slice A2 m2 c2) (ansS k f xs).gaps ∧ m2 = (ansS k f xs).gaps.length ∧ Ow w' 22 W.heap.size (.slice D2 p2 e2) (ints (ansS k f xs).dups) ∧ p2 = (ansS k f xs).dups.length ∧ Below W.heap.size W w') := Lib.hid fun W g hg => getSack_any k f (some ⟨g, 0, none⟩) n (n + 16) xs W (by omega) (by omega) (by unfold maxLen; omega) hx (rd_room hg)
  have HRD : Hid (∀ (W : World), Below w.heap.size w W → Calls Try.prog 31 #[.agg #[.int .u8 (k.toNat : Int), .int .u8 (f.toNat : Int), .slice A n c]] W fun e w' => ∃ A2 m2 c2 D2 p2 e2, e = .returned (.tuple #[.agg #[.int .u32 ((ansS k f xs).cum : Int), .int .u32 ((ansS k f xs).rwnd : Int), .slice A2 m2 c2, .slice D2 p2 e2], .int .i64 (errOf (okS k f xs))]) ∧ Og w' 79 W.heap.size (.slice A2 m2 c2) (ansS k f xs).gaps ∧ m2 = (ansS k f xs).gaps.length ∧ Ow w' 22 W.heap.size (.slice D2 p2 e2) (ints (ansS k f xs).dups) ∧ p2 = (ansS k f xs).dups.length ∧ Below W.heap.size W w') := Lib.hid fun W hW => refGetSack_any k f A n c xs W (by omega) hc hcm hx ((hr.below hW).more hW.size)
  have HSM : Hid (∀ (W : World) (a b : UInt8) (Y : List UInt8) (A1 A2 : Option Addr) (c1 c2 b1 b2 : Nat), Own8 W 5 b1 A1 Y.length c1 Y → Own8 W 5 b2 A2 Y.length c2 Y → Calls Try.prog 18 #[.agg #[.int .u8 (a.toNat : Int), .int .u8 (b.toNat : Int), .slice A1 Y.length c1], .agg #[.int .u8 (a.toNat : Int), .int .u8 (b.toNat : Int), .slice A2 Y.length c2]] W fun e w' => e = .returned (.bool true) ∧ Below W.heap.size W w') := Lib.hid fun W a b Y A1 A2 c1 c2 b1 b2 h1 h2 => by
    have := same_any a b a b A1 A2 Y.length Y.length c1 c2 Y Y W rfl rfl (Nat.le_trans h1.cap.1 h1.cap.2) (Nat.le_trans h1.cap.1 h1.cap.2) h1.rd h2.rd
    simpa using this
  have HKP : Hid (∀ (W : World) (g : Nat), Below w.heap.size w W → RowAt W 5 g (xs ++ marks16) → Calls Try.prog 20 #[.slice (some ⟨g, 0, none⟩) n (n + 16 : Nat), .slice A n c] W fun e w' => e = .returned (.bool true) ∧ Below W.heap.size W w') := Lib.hid fun W g hW hg => (kept_any w.heap.size A n c g xs W (by omega) hx (hr.below hW) hg).mono fun e w' ⟨he, q, hq⟩ => ⟨he, hq ▸ below_drewN (Below.refl _ _) q⟩
  have hbd : (ansS k f xs).gaps.length ≤ 65536 ∧ (ansS k f xs).dups.length ≤ 65536 := by
    unfold ansS
    split
    · show (getG xs 12 (num xs 8 2)).length ≤ _ ∧ (getN xs (12 + 4 * num xs 8 2) (num xs 10 2)).length ≤ _
      rw [length_getG, length_getN]
      have e1 : num xs 8 2 < 65536 := num_lt xs 8 2
      have e2 : num xs 10 2 < 65536 := num_lt xs 10 2
      omega
    · show 0 ≤ _ ∧ 0 ≤ _
      omega
  have HSI : Hid (∀ (W : World) (A1 : Option Addr) (c1 b1 : Nat) (D1 : Option Addr) (d1 b2 : Nat), Below w.heap.size w W → Og W 79 b1 (.slice A1 ng c1) gaps → Ow W 22 b2 (.slice D1 nu d1) (ints dups) → Calls Try.prog 33 #[.agg #[.int .u32 (cum : Int), .int .u32 (rwnd : Int), .slice A1 ng c1, .slice D1 nu d1], .agg #[.int .u32 (cum : Int), .int .u32 (rwnd : Int), .slice Ag ng cg, .slice Au nu cu]] W fun e w' => e = .returned (.bool true) ∧ Below W.heap.size W w') := Lib.hid fun W A1 c1 b1 D1 d1 b2 hW ho hp => sameS_yes _ _ A1 Ag D1 Au ng c1 ng cg nu d1 nu cu gaps (ints dups) W (by omega) (by omega) hgl hgl (by rw [length_ints]; exact hul) (by rw [length_ints]; exact hul) ho.rg (HRG.out W hW) hp.ri (HRU.out W hW)
  have HSD : Hid (∀ (W : World) (A1 : Option Addr) (m1 c1 b1 : Nat) (D1 : Option Addr) (p1 e1 b2 : Nat) (A2 : Option Addr) (m2 c2 b3 : Nat) (D2 : Option Addr) (p2 e2 b4 : Nat), Og W 79 b1 (.slice A1 m1 c1) (ansS k f xs).gaps → Ow W 22 b2 (.slice D1 p1 e1) (ints (ansS k f xs).dups) → Og W 79 b3 (.slice A2 m2 c2) (ansS k f xs).gaps → Ow W 22 b4 (.slice D2 p2 e2) (ints (ansS k f xs).dups) → m1 = (ansS k f xs).gaps.length → p1 = (ansS k f xs).dups.length → m2 = (ansS k f xs).gaps.length → p2 = (ansS k f xs).dups.length → Calls Try.prog 33 #[.agg #[.int .u32 ((ansS k f xs).cum : Int), .int .u32 ((ansS k f xs).rwnd : Int), .slice A1 m1 c1, .slice D1 p1 e1], .agg #[.int .u32 ((ansS k f xs).cum : Int), .int .u32 ((ansS k f xs).rwnd : Int), .slice A2 m2 c2, .slice D2 p2 e2]] W fun e w' => e = .returned (.bool true) ∧ Below W.heap.size W w') := Lib.hid fun W A1 m1 c1 b1 D1 p1 e1 b2 A2 m2 c2 b3 D2 p2 e2 b4 o1 q1 o2 q2 l1 l2 l3 l4 => sameS_yes _ _ A1 A2 D1 D2 m1 c1 m2 c2 p1 e1 p2 e2 _ _ W (by omega) (by omega) l1.symm l3.symm (by rw [length_ints]; exact l2.symm) (by rw [length_ints]; exact l4.symm) o1.rg o2.rg q1.ri q2.ri
  obtain ⟨rt, hrt⟩ : ∃ r, r = (ansS k f xs).cum := ⟨_, rfl⟩
  rw [← hrt] at HGD HRD HSD
  obtain ⟨rs, hrs⟩ : ∃ r, r = (ansS k f xs).rwnd := ⟨_, rfl⟩
  rw [← hrs] at HGD HRD HSD
  obtain ⟨rg, hrg⟩ : ∃ r, r = (ansS k f xs).gaps := ⟨_, rfl⟩
  rw [← hrg] at HGD HRD HSD
  obtain ⟨ru, hru⟩ : ∃ r, r = (ansS k f xs).dups := ⟨_, rfl⟩
  rw [← hru] at HGD HRD HSD
  obtain ⟨re, hre⟩ : ∃ re, re = errOf (okS k f xs) := ⟨_, rfl⟩
  rw [← hre] at HGD HRD
  obtain ⟨YD, hYD⟩ : ∃ YD, YD = bodyS ⟨cum, rwnd, gaps, dups⟩ := ⟨_, rfl⟩
  rw [← hYD] at HPD HQD
  clear hre hYD hbd hrt hrs hrg hru
  have hz := zero_chunk
  have hzd := zero_sack
  have hzs := zero_fwd
  have hnd := Nat.le_trans hg1 hg2
  have hnd2 := Nat.le_trans hu1 hu2
  unfold maxLen at hnd hnd2
  have hcm3 := hcm
  unfold maxLen at hcm3
  obtain ⟨ti, hti, htz, ht1, ht2⟩ := info_parts Try.infoGap
  obtain ⟨ui, hui, huz, hut, hut2⟩ := info_parts Try.infoU32
  have HGL := Lib.hid hgl
  have HUL := Lib.hid (show (ints dups).length = nu by rw [length_ints]; exact hul)
  clear hx hr hgr hur h1 h2 hgb hub hgl hul
  have b0 : Blk (w.alloc (.cells #[.int .u32 (cum : Int), .int .u32 (rwnd : Int), .slice Ag ng cg, .slice Au nu cu] 52)) w.heap.size 52 #[.int .u32 (cum : Int), .int .u32 (rwnd : Int), .slice Ag ng cg, .slice Au nu cu] := Blk.new w 52 #[.int .u32 (cum : Int), .int .u32 (rwnd : Int), .slice Ag ng cg, .slice Au nu cu]
  have b1 : Blk ((w.alloc (.cells #[.int .u32 (cum : Int), .int .u32 (rwnd : Int), .slice Ag ng cg, .slice Au nu cu] 52)).alloc (.cells #[.int .u8 (k.toNat : Int), .int .u8 (f.toNat : Int), .slice A n c] 28)) (w.heap.size + 1) 28 #[.int .u8 (k.toNat : Int), .int .u8 (f.toNat : Int), .slice A n c] := by simpa using Blk.new (w.alloc (.cells #[.int .u32 (cum : Int), .int .u32 (rwnd : Int), .slice Ag ng cg, .slice Au nu cu] 52)) 28 #[.int .u8 (k.toNat : Int), .int .u8 (f.toNat : Int), .slice A n c]
  have K0 := Lib.hid (b0.alloc (.cells #[.int .u8 (k.toNat : Int), .int .u8 (f.toNat : Int), .slice A n c] 28))
  have K1 := Lib.hid b1
  have B0 : Hid (Below w.heap.size w ((w.alloc (.cells #[.int .u32 (cum : Int), .int .u32 (rwnd : Int), .slice Ag ng cg, .slice Au nu cu] 52)).alloc (.cells #[.int .u8 (k.toNat : Int), .int .u8 (f.toNat : Int), .slice A n c] 28))) := Lib.hid (Wr.below_ (((Wr.refl 5 w.heap.size w).alloc (.cells #[.int .u32 (cum : Int), .int .u32 (rwnd : Int), .slice Ag ng cg, .slice Au nu cu] 52)).alloc (.cells #[.int .u8 (k.toNat : Int), .int .u8 (f.toNat : Int), .slice A n c] 28)) (Nat.le_refl _))
  clear b0 b1
  go_enter Try.func5, Try.ntmps5
  rw [seq_eq 4, seq_eq 5, drawn_eq 7, drawn_eq 10]
  go_wp2_with fail
  generalize ((w.alloc (.cells #[.int .u32 (cum : Int), .int .u32 (rwnd : Int), .slice Ag ng cg, .slice Au nu cu] 52)).alloc (.cells #[.int .u8 (k.toNat : Int), .int .u8 (f.toNat : Int), .slice A n c] 28)) = v0 at K0 K1 B0 ⊢
  have P0 := K0
  have C0 := K1
  clear K0 K1
  refine (HLG.out v0).mono ?_
  rintro e w1 ⟨rfl, hb⟩
  have P1 := Lib.hid (P0.out.below hb P0.out.lt)
  have C1 := Lib.hid (C0.out.below hb C0.out.lt)
  have B1 := Lib.hid (below_then B0.out (Nat.le_refl _) hb)
  clear hb P0 C0 B0
  clear HLG
  have x0 := P1.out.cell 0
  have x1 := P1.out.cell 1
  have x2 := P1.out.cell 2
  have x3 := P1.out.cell 3
  go_wp2_with fail
  clear x0 x1 x2 x3
  refine (HMN.out w1).mono ?_
  rintro e w2 ⟨rfl, hb⟩
  have P2 := Lib.hid (P1.out.below hb P1.out.lt)
  have C2 := Lib.hid (C1.out.below hb C1.out.lt)
  have B2 := Lib.hid (below_then B1.out (Nat.le_refl _) hb)
  clear hb P1 C1 B1
  clear HMN
  have x0 := P2.out.cell 0
  have x1 := P2.out.cell 1
  have x2 := P2.out.cell 2
  have x3 := P2.out.cell 3
  have hlc := C2.out.lt
  have hb := below_new w2 (.cells #[.int .u32 (cum : Int), .int .u32 (rwnd : Int), .slice none 0 0, .slice none 0 0] 52)
  have P3 := Lib.hid (P2.out.below hb P2.out.lt)
  have C3 := Lib.hid (C2.out.below hb C2.out.lt)
  have B3 := Lib.hid (below_then B2.out (Nat.le_refl _) hb)
  clear hb P2 C2 B2
  have I3 := Lib.hid (Blk.new w2 52 #[.int .u32 (cum : Int), .int .u32 (rwnd : Int), .slice none 0 0, .slice none 0 0])
  obtain ⟨g5, hg5⟩ : ∃ g, g = w2.heap.size := ⟨_, rfl⟩
  rw [← hg5] at I3
  have Hg5 := Lib.hid hg5
  have hlg5 : w.heap.size + 1 < g5 := by omega
  clear hlc
  clear hg5
  go_wp2_with fail
  rw [← Hg5.out]
  generalize w2.alloc (.cells #[.int .u32 (cum : Int), .int .u32 (rwnd : Int), .slice none 0 0, .slice none 0 0] 52) = v3 at P3 C3 B3 I3 ⊢
  clear Hg5
  clear x0 x1 x2 x3
  rw [← seq_eq 4]
  have x0 := P3.out.cell 0
  have x1 := P3.out.cell 1
  have x2 := P3.out.cell 2
  have x3 := P3.out.cell 3
  have y0 := I3.out.cell 0
  have y1 := I3.out.cell 1
  have y2 := I3.out.cell 2
  have y3 := I3.out.cell 3
  go_wp2_with (at_builtin; refine wpList_appendG0 Try.underlying49 hti htz ht1 ht2 _ rfl _ _ rfl rfl Ag ng cg gaps rfl HGL.out (HRG.out _ B3.out) (by omega) ?_; intro A1 c1 wa ho hb; have P4 := Lib.hid (P3.out.below hb P3.out.lt); have C4 := Lib.hid (C3.out.below hb C3.out.lt); have B4 := Lib.hid (below_then B3.out (Nat.le_refl _) hb); have I4 := Lib.hid (I3.out.below hb I3.out.lt); clear hb P3 C3 B3 I3; have O4 := Lib.hid ho; clear ho x0 x1 x2 x3 y0 y1 y2 y3; have y0 := I4.out.cell 0; have y1 := I4.out.cell 1; have y2 := I4.out.cell 2; have y3 := I4.out.cell 3; have z0 := I4.out.frozen 0; have z1 := I4.out.frozen 1; have z2 := I4.out.frozen 2; have z3 := I4.out.frozen 3)
  have I5 : Hid (Blk (wa.setCell ⟨g5, 2, none⟩ (.slice A1 ng c1)) g5 52 #[.int .u32 (cum : Int), .int .u32 (rwnd : Int), .slice A1 ng c1, .slice none 0 0]) := Lib.hid (I4.out.set_ 2 (.slice A1 ng c1))
  have P5 := Lib.hid (P4.out.far (p := ⟨g5, 2, none⟩) (show w.heap.size ≠ g5 by omega) (.slice A1 ng c1))
  have C5 := Lib.hid (C4.out.far (p := ⟨g5, 2, none⟩) (show w.heap.size + 1 ≠ g5 by omega) (.slice A1 ng c1))
  have O5 := Lib.hid (O4.out.setBlk I4.out (by decide) 2 (.slice A1 ng c1))
  have B5 := Lib.hid (B4.out.setCell (p := ⟨g5, 2, none⟩) (show w.heap.size ≤ g5 by omega) (.slice A1 ng c1))
  clear P4 C4 B4 I4 O4
  generalize wa.setCell ⟨g5, 2, none⟩ (.slice A1 ng c1) = v5 at P5 C5 B5 I5 O5 ⊢
  clear y0 z0 y1 z1 y2 z2 y3 z3
  rw [← seq_eq 5]
  have x0 := P5.out.cell 0
  have x1 := P5.out.cell 1
  have x2 := P5.out.cell 2
  have x3 := P5.out.cell 3
  have y0 := I5.out.cell 0
  have y1 := I5.out.cell 1
  have y2 := I5.out.cell 2
  have y3 := I5.out.cell 3
  go_wp2_with (at_builtin; refine wpList_appendW0 Try.underlying50 hui huz hut hut2 _ rfl _ _ rfl rfl Au nu cu (ints dups) rfl HUL.out (HRU.out _ B5.out) (by omega) ?_; intro D1 d1 wa ho hb; have P6 := Lib.hid (P5.out.below hb P5.out.lt); have C6 := Lib.hid (C5.out.below hb C5.out.lt); have B6 := Lib.hid (below_then B5.out (Nat.le_refl _) hb); have I6 := Lib.hid (I5.out.below hb I5.out.lt); have O6 := Lib.hid (O5.out.below hb); clear hb P5 C5 B5 I5 O5; have N6 := Lib.hid ho; clear ho x0 x1 x2 x3 y0 y1 y2 y3; have y0 := I6.out.cell 0; have y1 := I6.out.cell 1; have y2 := I6.out.cell 2; have y3 := I6.out.cell 3; have z0 := I6.out.frozen 0; have z1 := I6.out.frozen 1; have z2 := I6.out.frozen 2; have z3 := I6.out.frozen 3)
  have I7 : Hid (Blk (wa.setCell ⟨g5, 3, none⟩ (.slice D1 nu d1)) g5 52 #[.int .u32 (cum : Int), .int .u32 (rwnd : Int), .slice A1 ng c1, .slice D1 nu d1]) := Lib.hid (I6.out.set_ 3 (.slice D1 nu d1))
  have P7 := Lib.hid (P6.out.far (p := ⟨g5, 3, none⟩) (show w.heap.size ≠ g5 by omega) (.slice D1 nu d1))
  have C7 := Lib.hid (C6.out.far (p := ⟨g5, 3, none⟩) (show w.heap.size + 1 ≠ g5 by omega) (.slice D1 nu d1))
  have O7 := Lib.hid (O6.out.setBlk I6.out (by decide) 3 (.slice D1 nu d1))
  have N7 := Lib.hid (N6.out.setBlk I6.out (by decide) 3 (.slice D1 nu d1))
  have B7 := Lib.hid (B6.out.setCell (p := ⟨g5, 3, none⟩) (show w.heap.size ≤ g5 by omega) (.slice D1 nu d1))
  clear P6 C6 B6 I6 O6 N6
  generalize wa.setCell ⟨g5, 3, none⟩ (.slice D1 nu d1) = v7 at P7 C7 B7 I7 O7 N7 ⊢
  clear y0 z0 y1 z1 y2 z2 y3 z3
  refine (HPD.out v7 A1 c1 _ D1 d1 _ O7.out N7.out).mono ?_
  rintro e w8 ⟨Ap, cp, rfl, ho, hb⟩
  have P8 := Lib.hid (P7.out.below hb P7.out.lt)
  have C8 := Lib.hid (C7.out.below hb C7.out.lt)
  have B8 := Lib.hid (below_then B7.out (Nat.le_refl _) hb)
  have I8 := Lib.hid (I7.out.below hb I7.out.lt)
  have O8 := Lib.hid (O7.out.below hb)
  have N8 := Lib.hid (N7.out.below hb)
  clear hb P7 C7 B7 I7 O7 N7
  have T8 := Lib.hid ho
  clear ho
  have hlc := C8.out.lt
  have hb := below_new w8 (.cells #[.int .u8 3, .int .u8 0, .slice Ap YD.length cp] 28)
  have P9 := Lib.hid (P8.out.below hb P8.out.lt)
  have C9 := Lib.hid (C8.out.below hb C8.out.lt)
  have B9 := Lib.hid (below_then B8.out (Nat.le_refl _) hb)
  have I9 := Lib.hid (I8.out.below hb I8.out.lt)
  have O9 := Lib.hid (O8.out.below hb)
  have N9 := Lib.hid (N8.out.below hb)
  have T9 := Lib.hid (T8.out.below hb (Nat.le_refl _))
  clear hb P8 C8 B8 I8 O8 N8 T8
  have V9 := Lib.hid (Blk.new w8 28 #[.int .u8 3, .int .u8 0, .slice Ap YD.length cp])
  obtain ⟨g6, hg6⟩ : ∃ g, g = w8.heap.size := ⟨_, rfl⟩
  rw [← hg6] at V9
  have Hg6 := Lib.hid hg6
  have hlg6 : w.heap.size + 1 < g6 := by omega
  clear hlc
  clear hg6
  go_wp2_with fail
  rw [← Hg6.out]
  generalize w8.alloc (.cells #[.int .u8 3, .int .u8 0, .slice Ap YD.length cp] 28) = v9 at P9 C9 B9 I9 O9 N9 T9 V9 ⊢
  clear Hg6
  rw [← drawn_eq 7]
  refine wp_region_grow_tail 9 (by kernel_rfl) [(Is (.pointer (some ⟨w.heap.size + 1, 0, none⟩))), (Is (.int .u8 (k.toNat : Int))), (Is (.pointer (some ⟨w.heap.size + 1, 1, none⟩))), (Is (.int .u8 (f.toNat : Int))), (Is (.pointer (some ⟨w.heap.size + 1, 2, none⟩))), (Is (.slice A n c)), (NewRow 5 v9.heap.size n (n + 16 : Nat) (xs ++ marks16) (fun s => s)), (NewRow 5 v9.heap.size n (n + 16 : Nat) (xs ++ marks16) (fun s => .agg #[.int .u8 (k.toNat : Int), .int .u8 (f.toNat : Int), s])), (NewBlk v9.heap.size 28 #[.int .u8 0, .int .u8 0, .slice none 0 0])] rfl ?_ (by kernel_rfl) (by kernel_rfl) ?_ ?_
  · intro p hp
    simp only [List.mem_cons, List.not_mem_nil, or_false] at hp
    rcases hp with rfl | rfl | rfl | rfl | rfl | rfl | rfl | rfl | rfl
    · exact Lasts.is _
    · exact Lasts.is _
    · exact Lasts.is _
    · exact Lasts.is _
    · exact Lasts.is _
    · exact Lasts.is _
    · exact Lasts.newRow _ _ _ _ _ _
    · exact Lasts.newRow _ _ _ _ _ _
    · exact Lasts.newBlk _ _ _
  · refine ⟨?_, ?_, ?_, ?_, ?_, ?_, ?_, ?_, ?_, trivial⟩
    · intro listed a w1 hl hc
      have h3 : a.tmps[3]?.getD undef = .pointer (some ⟨w.heap.size + 1, 0, none⟩) := (hc.was 3 (by kernel_rfl)).trans rfl
      refine does_value rfl rfl (.pointer (some ⟨w.heap.size + 1, 0, none⟩)) w1 ?_ (Below.refl _ _) rfl
      clear hc hl
      go_simp
    · intro listed a w1 hl hc
      have h39 : a.tmps[39]?.getD undef = .pointer (some ⟨w.heap.size + 1, 0, none⟩) := hc.dep hl 0 39 rfl (by kernel_rfl)
      have kb := C9.out.below hc.g C9.out.lt
      have x0 : w1.cell? ⟨w.heap.size + 1, 0, none⟩ = some (.int .u8 (k.toNat : Int)) := kb.cell 0
      clear kb
      refine does_value rfl rfl (.int .u8 (k.toNat : Int)) w1 ?_ (Below.refl _ _) rfl
      clear hc hl
      go_simp
    · intro listed a w1 hl hc
      have h3 : a.tmps[3]?.getD undef = .pointer (some ⟨w.heap.size + 1, 0, none⟩) := (hc.was 3 (by kernel_rfl)).trans rfl
      refine does_value rfl rfl (.pointer (some ⟨w.heap.size + 1, 1, none⟩)) w1 ?_ (Below.refl _ _) rfl
      clear hc hl
      go_simp
    · intro listed a w1 hl hc
      have h41 : a.tmps[41]?.getD undef = .pointer (some ⟨w.heap.size + 1, 1, none⟩) := hc.dep hl 2 41 rfl (by kernel_rfl)
      have kb := C9.out.below hc.g C9.out.lt
      have x1 : w1.cell? ⟨w.heap.size + 1, 1, none⟩ = some (.int .u8 (f.toNat : Int)) := kb.cell 1
      clear kb
      refine does_value rfl rfl (.int .u8 (f.toNat : Int)) w1 ?_ (Below.refl _ _) rfl
      clear hc hl
      go_simp
    · intro listed a w1 hl hc
      have h3 : a.tmps[3]?.getD undef = .pointer (some ⟨w.heap.size + 1, 0, none⟩) := (hc.was 3 (by kernel_rfl)).trans rfl
      refine does_value rfl rfl (.pointer (some ⟨w.heap.size + 1, 2, none⟩)) w1 ?_ (Below.refl _ _) rfl
      clear hc hl
      go_simp
    · intro listed a w1 hl hc
      have h43 : a.tmps[43]?.getD undef = .pointer (some ⟨w.heap.size + 1, 2, none⟩) := hc.dep hl 4 43 rfl (by kernel_rfl)
      have kb := C9.out.below hc.g C9.out.lt
      have x2 : w1.cell? ⟨w.heap.size + 1, 2, none⟩ = some (.slice A n c) := kb.cell 2
      clear kb
      refine does_value rfl rfl (.slice A n c) w1 ?_ (Below.refl _ _) rfl
      clear hc hl
      go_simp
    · intro listed a w1 hl hc
      have h44 : a.tmps[44]?.getD undef = .slice A n c := hc.dep hl 5 44 rfl (by kernel_rfl)
      refine does_call rfl rfl 14 #[.slice A n c] ?_ ((HRM.out w1 (B9.out.trans (hc.g.mono B9.out.size))).mono fun e w' ⟨g9, he, hg, hr, hb⟩ => ⟨_, he, hb, g9, rfl, Nat.le_trans hc.g.size hg, hr⟩)
      clear hc hl
      go_simp
    · intro listed a w1 hl hc
      have h40 : a.tmps[40]?.getD undef = .int .u8 (k.toNat : Int) := hc.dep hl 1 40 rfl (by kernel_rfl)
      have h42 : a.tmps[42]?.getD undef = .int .u8 (f.toNat : Int) := hc.dep hl 3 42 rfl (by kernel_rfl)
      obtain ⟨G45, h45, hg45, hr45⟩ := hc.dep hl 6 45 rfl (by kernel_rfl)
      refine does_value rfl rfl (.agg #[.int .u8 (k.toNat : Int), .int .u8 (f.toNat : Int), .slice (some ⟨G45, 0, none⟩) n (n + 16 : Nat)]) w1 ?_ (Below.refl _ _) ⟨G45, rfl, hg45, hr45⟩
      clear hc hl
      go_simp
    · intro listed a w1 hl hc
      refine does_value rfl rfl (.pointer (some ⟨w1.heap.size, 0, none⟩)) (w1.alloc (.cells #[.int .u8 0, .int .u8 0, .slice none 0 0] 28)) ?_ (below_new w1 _) ⟨_, rfl, hc.g.size, Blk.new _ _ _⟩
      clear hc hl
      go_simp
  intro w2 hb2
  rintro _ rfl _ rfl _ rfl _ rfl _ rfl _ rfl _ ⟨G45, rfl, hg45, hr45⟩ _ ⟨G46, rfl, hg46, hr46⟩ _ ⟨g7, rfl, hg7, hb7⟩
  simp only [Thus, List.reverse_cons, List.reverse_nil, List.nil_append, List.cons_append, List.drop, List.take, lay]
  go_frame
  have HG := Lib.hid hb7
  have hgl7 : g7 < w2.heap.size := hb7.lt
  have hne := hr46.ne_blk hb7 (by decide)
  have y0 := HG.out.cell 0
  have y1 := HG.out.cell 1
  have y2 := HG.out.cell 2
  have z0 := HG.out.frozen 0
  have z1 := HG.out.frozen 1
  have z2 := HG.out.frozen 2
  have hb : Below v9.heap.size v9 (((w2.setCell ⟨g7, 0, none⟩ (.int .u8 (k.toNat : Int))).setCell ⟨g7, 1, none⟩ (.int .u8 (f.toNat : Int))).setCell ⟨g7, 2, none⟩ (.slice (some ⟨G46, 0, none⟩) n (n + 16 : Nat))) := (((hb2.setCell (p := ⟨g7, 0, none⟩) hg7 (.int .u8 (k.toNat : Int))).setCell (p := ⟨g7, 1, none⟩) hg7 (.int .u8 (f.toNat : Int))).setCell (p := ⟨g7, 2, none⟩) hg7 (.slice (some ⟨G46, 0, none⟩) n (n + 16 : Nat)))
  have P10 := Lib.hid (P9.out.below hb P9.out.lt)
  have C10 := Lib.hid (C9.out.below hb C9.out.lt)
  have B10 := Lib.hid (below_then B9.out (Nat.le_refl _) hb)
  have I10 := Lib.hid (I9.out.below hb I9.out.lt)
  have O10 := Lib.hid (O9.out.below hb)
  have N10 := Lib.hid (N9.out.below hb)
  have T10 := Lib.hid (T9.out.below hb (Nat.le_refl _))
  have V10 := Lib.hid (V9.out.below hb V9.out.lt)
  clear hb P9 C9 B9 I9 O9 N9 T9 V9
  have Q10 : Hid (Blk (((w2.setCell ⟨g7, 0, none⟩ (.int .u8 (k.toNat : Int))).setCell ⟨g7, 1, none⟩ (.int .u8 (f.toNat : Int))).setCell ⟨g7, 2, none⟩ (.slice (some ⟨G46, 0, none⟩) n (n + 16 : Nat))) g7 28 #[.int .u8 (k.toNat : Int), .int .u8 (f.toNat : Int), .slice (some ⟨G46, 0, none⟩) n (n + 16 : Nat)]) := Lib.hid (((hb7.set_ 0 (.int .u8 (k.toNat : Int))).set_ 1 (.int .u8 (f.toNat : Int))).set_ 2 (.slice (some ⟨G46, 0, none⟩) n (n + 16 : Nat)))
  have R10 := Lib.hid (((hr46.far (p := ⟨g7, 0, none⟩) hne (.int .u8 (k.toNat : Int))).far (p := ⟨g7, 1, none⟩) hne (.int .u8 (f.toNat : Int))).far (p := ⟨g7, 2, none⟩) hne (.slice (some ⟨G46, 0, none⟩) n (n + 16 : Nat)))
  clear hb2 hb7 HG hne hg45 hr45 hg46 hr46
  go_wp2_with fail
  generalize ((w2.setCell ⟨g7, 0, none⟩ (.int .u8 (k.toNat : Int))).setCell ⟨g7, 1, none⟩ (.int .u8 (f.toNat : Int))).setCell ⟨g7, 2, none⟩ (.slice (some ⟨G46, 0, none⟩) n (n + 16 : Nat)) = v10 at P10 C10 B10 I10 O10 N10 T10 V10 Q10 R10 ⊢
  clear hgl7 hg7 y0 y1 y2 z0 z1 z2
  refine (HGD.out v10 G46 R10.out).mono ?_
  rintro e w11 ⟨Ax, mx, cx, Dx, px, ex, rfl, ho, hmx, hp, hpx, hb⟩
  have P11 := Lib.hid (P10.out.below hb P10.out.lt)
  have C11 := Lib.hid (C10.out.below hb C10.out.lt)
  have B11 := Lib.hid (below_then B10.out (Nat.le_refl _) hb)
  have I11 := Lib.hid (I10.out.below hb I10.out.lt)
  have O11 := Lib.hid (O10.out.below hb)
  have N11 := Lib.hid (N10.out.below hb)
  have T11 := Lib.hid (T10.out.below hb (Nat.le_refl _))
  have V11 := Lib.hid (V10.out.below hb V10.out.lt)
  have Q11 := Lib.hid (Q10.out.below hb Q10.out.lt)
  have R11 := Lib.hid (R10.out.below hb R10.out.lt)
  clear hb P10 C10 B10 I10 O10 N10 T10 V10 Q10 R10
  have X11 := Lib.hid ho
  have M11 := Lib.hid hp
  have HMX := Lib.hid hmx
  have HPX := Lib.hid hpx
  clear ho hmx hp hpx
  have hlc := C11.out.lt
  have hb := below_new w11 (.cells #[.int .u32 (rt : Int), .int .u32 (rs : Int), .slice Ax mx cx, .slice Dx px ex] 52)
  have P12 := Lib.hid (P11.out.below hb P11.out.lt)
  have C12 := Lib.hid (C11.out.below hb C11.out.lt)
  have B12 := Lib.hid (below_then B11.out (Nat.le_refl _) hb)
  have I12 := Lib.hid (I11.out.below hb I11.out.lt)
  have O12 := Lib.hid (O11.out.below hb)
  have N12 := Lib.hid (N11.out.below hb)
  have T12 := Lib.hid (T11.out.below hb (Nat.le_refl _))
  have V12 := Lib.hid (V11.out.below hb V11.out.lt)
  have Q12 := Lib.hid (Q11.out.below hb Q11.out.lt)
  have R12 := Lib.hid (R11.out.below hb R11.out.lt)
  have X12 := Lib.hid (X11.out.below hb)
  have M12 := Lib.hid (M11.out.below hb)
  clear hb P11 C11 B11 I11 O11 N11 T11 V11 Q11 R11 X11 M11
  have D12 := Lib.hid (Blk.new w11 52 #[.int .u32 (rt : Int), .int .u32 (rs : Int), .slice Ax mx cx, .slice Dx px ex])
  obtain ⟨g8, hg8⟩ : ∃ g, g = w11.heap.size := ⟨_, rfl⟩
  rw [← hg8] at D12
  have Hg8 := Lib.hid hg8
  have hlg8 : w.heap.size + 1 < g8 := by omega
  clear hlc
  clear hg8
  have x0 := C12.out.cell 0
  have x1 := C12.out.cell 1
  have x2 := C12.out.cell 2
  go_wp2_with fail
  rw [← Hg8.out]
  generalize w11.alloc (.cells #[.int .u32 (rt : Int), .int .u32 (rs : Int), .slice Ax mx cx, .slice Dx px ex] 52) = v12 at P12 C12 B12 I12 O12 N12 T12 V12 Q12 R12 X12 M12 D12 x0 x1 x2 ⊢
  clear Hg8 x0 x1 x2
  refine (HRD.out v12 B12.out).mono ?_
  rintro e w13 ⟨Ay, my, cy, Dy, py, ey, rfl, ho, hmy, hp, hpy, hb⟩
  have P13 := Lib.hid (P12.out.below hb P12.out.lt)
  have C13 := Lib.hid (C12.out.below hb C12.out.lt)
  have B13 := Lib.hid (below_then B12.out (Nat.le_refl _) hb)
  have I13 := Lib.hid (I12.out.below hb I12.out.lt)
  have O13 := Lib.hid (O12.out.below hb)
  have N13 := Lib.hid (N12.out.below hb)
  have T13 := Lib.hid (T12.out.below hb (Nat.le_refl _))
  have V13 := Lib.hid (V12.out.below hb V12.out.lt)
  have Q13 := Lib.hid (Q12.out.below hb Q12.out.lt)
  have R13 := Lib.hid (R12.out.below hb R12.out.lt)
  have X13 := Lib.hid (X12.out.below hb)
  have M13 := Lib.hid (M12.out.below hb)
  have D13 := Lib.hid (D12.out.below hb D12.out.lt)
  clear hb P12 C12 B12 I12 O12 N12 T12 V12 Q12 R12 X12 M12 D12
  have Z13 := Lib.hid ho
  have U13 := Lib.hid hp
  have HMY := Lib.hid hmy
  have HPY := Lib.hid hpy
  clear ho hmy hp hpy
  have hlc := C13.out.lt
  have hb := below_new w13 (.cells #[.int .u32 (rt : Int), .int .u32 (rs : Int), .slice Ay my cy, .slice Dy py ey] 52)
  have P14 := Lib.hid (P13.out.below hb P13.out.lt)
  have C14 := Lib.hid (C13.out.below hb C13.out.lt)
  have B14 := Lib.hid (below_then B13.out (Nat.le_refl _) hb)
  have I14 := Lib.hid (I13.out.below hb I13.out.lt)
  have O14 := Lib.hid (O13.out.below hb)
  have N14 := Lib.hid (N13.out.below hb)
  have T14 := Lib.hid (T13.out.below hb (Nat.le_refl _))
  have V14 := Lib.hid (V13.out.below hb V13.out.lt)
  have Q14 := Lib.hid (Q13.out.below hb Q13.out.lt)
  have R14 := Lib.hid (R13.out.below hb R13.out.lt)
  have X14 := Lib.hid (X13.out.below hb)
  have M14 := Lib.hid (M13.out.below hb)
  have D14 := Lib.hid (D13.out.below hb D13.out.lt)
  have Z14 := Lib.hid (Z13.out.below hb)
  have U14 := Lib.hid (U13.out.below hb)
  clear hb P13 C13 B13 I13 O13 N13 T13 V13 Q13 R13 X13 M13 D13 Z13 U13
  have E14 := Lib.hid (Blk.new w13 52 #[.int .u32 (rt : Int), .int .u32 (rs : Int), .slice Ay my cy, .slice Dy py ey])
  obtain ⟨g10, hg10⟩ : ∃ g, g = w13.heap.size := ⟨_, rfl⟩
  rw [← hg10] at E14
  have Hg10 := Lib.hid hg10
  have hlg10 : w.heap.size + 1 < g10 := by omega
  clear hlc
  clear hg10
  go_wp2_with fail
  rw [← Hg10.out]
  generalize w13.alloc (.cells #[.int .u32 (rt : Int), .int .u32 (rs : Int), .slice Ay my cy, .slice Dy py ey] 52) = v14 at P14 C14 B14 I14 O14 N14 T14 V14 Q14 R14 X14 M14 D14 Z14 U14 E14 ⊢
  clear Hg10
  rw [← drawn_eq 10]
  refine wp_region_grow_tail 29 (by kernel_rfl) [(Is (.agg #[.int .u8 3, .int .u8 0, .slice Ap YD.length cp])), (Is (.agg #[.int .u32 (cum : Int), .int .u32 (rwnd : Int), .slice Ag ng cg, .slice Au nu cu])), (NewAgg 5 0 YD.length YD (fun s => .agg #[.int .u8 ((3 : UInt8).toNat : Int), .int .u8 ((0 : UInt8).toNat : Int), s])), (Is (.bool true)), (Is (.bool true)), (Is (.agg #[.int .u32 (cum : Int), .int .u32 (rwnd : Int), .slice A1 ng c1, .slice D1 nu d1])), (Is (.agg #[.int .u32 (cum : Int), .int .u32 (rwnd : Int), .slice Ag ng cg, .slice Au nu cu])), (Is (.bool true)), (Is (.bool true)), (Is (.bool true)), (Is (.pointer (some ⟨g7, 2, none⟩))), (Is (.slice (some ⟨G46, 0, none⟩) n (n + 16 : Nat))), (Is (.pointer (some ⟨w.heap.size + 1, 2, none⟩))), (Is (.slice A n c)), (Is (.bool true)), (Is (.bool true)), (Is (.bool true)), (Is (.int .i64 re)), (Is (.int .i64 re)), (Is (.bool true)), (Is (.bool true)), (Is (.bool true)), (Is (.agg #[.int .u32 (rt : Int), .int .u32 (rs : Int), .slice Ax mx cx, .slice Dx px ex])), (Is (.agg #[.int .u32 (rt : Int), .int .u32 (rs : Int), .slice Ay my cy, .slice Dy py ey])), (Is (.bool true)), (Is (.bool true)), (Is (.bool true)), (Is (.bool true)), (Is (.bool true))] rfl ?_ (by kernel_rfl) (by kernel_rfl) ?_ ?_
  · intro p hp
    simp only [List.mem_cons, List.not_mem_nil, or_false] at hp
    rcases hp with rfl | rfl | rfl | rfl | rfl | rfl | rfl | rfl | rfl | rfl | rfl | rfl | rfl | rfl | rfl | rfl | rfl | rfl | rfl | rfl | rfl | rfl | rfl | rfl | rfl | rfl | rfl | rfl | rfl
    · exact Lasts.is _
    · exact Lasts.is _
    · exact Lasts.newAgg _ _ _ _ _
    · exact Lasts.is _
    · exact Lasts.is _
    · exact Lasts.is _
    · exact Lasts.is _
    · exact Lasts.is _
    · exact Lasts.is _
    · exact Lasts.is _
    · exact Lasts.is _
    · exact Lasts.is _
    · exact Lasts.is _
    · exact Lasts.is _
    · exact Lasts.is _
    · exact Lasts.is _
    · exact Lasts.is _
    · exact Lasts.is _
    · exact Lasts.is _
    · exact Lasts.is _
    · exact Lasts.is _
    · exact Lasts.is _
    · exact Lasts.is _
    · exact Lasts.is _
    · exact Lasts.is _
    · exact Lasts.is _
    · exact Lasts.is _
    · exact Lasts.is _
    · exact Lasts.is _
  · refine ⟨?_, ?_, ?_, ?_, ?_, ?_, ?_, ?_, ?_, ?_, ?_, ?_, ?_, ?_, ?_, ?_, ?_, ?_, ?_, ?_, ?_, ?_, ?_, ?_, ?_, ?_, ?_, ?_, ?_, trivial⟩
    · intro listed a w1 hl hc
      have h6 : a.tmps[6]?.getD undef = .pointer (some ⟨g6, 0, none⟩) := (hc.was 6 (by kernel_rfl)).trans rfl
      have kb := V14.out.below hc.g V14.out.lt
      have x0 : w1.cell? ⟨g6, 0, none⟩ = some (.int .u8 3) := kb.cell 0
      have x1 : w1.cell? ⟨g6, 1, none⟩ = some (.int .u8 0) := kb.cell 1
      have x2 : w1.cell? ⟨g6, 2, none⟩ = some (.slice Ap YD.length cp) := kb.cell 2
      clear kb
      refine does_value rfl rfl (.agg #[.int .u8 3, .int .u8 0, .slice Ap YD.length cp]) w1 ?_ (Below.refl _ _) rfl
      clear hc hl
      go_simp
    · intro listed a w1 hl hc
      have h2 : a.tmps[2]?.getD undef = .pointer (some ⟨w.heap.size, 0, none⟩) := (hc.was 2 (by kernel_rfl)).trans rfl
      have kb := P14.out.below hc.g P14.out.lt
      have x0 : w1.cell? ⟨w.heap.size, 0, none⟩ = some (.int .u32 (cum : Int)) := kb.cell 0
      have x1 : w1.cell? ⟨w.heap.size, 1, none⟩ = some (.int .u32 (rwnd : Int)) := kb.cell 1
      have x2 : w1.cell? ⟨w.heap.size, 2, none⟩ = some (.slice Ag ng cg) := kb.cell 2
      have x3 : w1.cell? ⟨w.heap.size, 3, none⟩ = some (.slice Au nu cu) := kb.cell 3
      clear kb
      refine does_value rfl rfl (.agg #[.int .u32 (cum : Int), .int .u32 (rwnd : Int), .slice Ag ng cg, .slice Au nu cu]) w1 ?_ (Below.refl _ _) rfl
      clear hc hl
      go_simp
    · intro listed a w1 hl hc
      have h58 : a.tmps[58]?.getD undef = .agg #[.int .u32 (cum : Int), .int .u32 (rwnd : Int), .slice Ag ng cg, .slice Au nu cu] := hc.dep hl 1 58 rfl (by kernel_rfl)
      refine does_call rfl rfl 32 #[.agg #[.int .u32 (cum : Int), .int .u32 (rwnd : Int), .slice Ag ng cg, .slice Au nu cu]] ?_ ((HQD.out w1 (B14.out.trans (hc.g.mono B14.out.size))).mono fun e w' ⟨A9, c9, he, ho, hb⟩ => ⟨_, he, hb, A9, c9, rfl, ho.more (Nat.zero_le _)⟩)
      clear hc hl
      go_simp
    · intro listed a w1 hl hc
      have h57 : a.tmps[57]?.getD undef = .agg #[.int .u8 3, .int .u8 0, .slice Ap YD.length cp] := hc.dep hl 0 57 rfl (by kernel_rfl)
      obtain ⟨A59, c59, h59, ho59⟩ := hc.dep hl 2 59 rfl (by kernel_rfl)
      refine does_call rfl rfl 18 #[.agg #[.int .u8 3, .int .u8 0, .slice Ap YD.length cp], .agg #[.int .u8 ((3 : UInt8).toNat : Int), .int .u8 ((0 : UInt8).toNat : Int), .slice A59 YD.length c59]] ?_ ((HSM.out w1 3 0 YD Ap A59 cp c59 _ _ (T14.out.below hc.g (Nat.le_refl _)) ho59).mono fun e w' ⟨he, hb⟩ => ⟨_, he, hb, rfl⟩)
      clear hc hl
      go_simp
    · intro listed a w1 hl hc
      have h60 : a.tmps[60]?.getD undef = .bool true := hc.dep hl 3 60 rfl (by kernel_rfl)
      refine does_value rfl rfl (.bool true) w1 ?_ (Below.refl _ _) rfl
      clear hc hl
      go_simp
    · intro listed a w1 hl hc
      have h5 : a.tmps[5]?.getD undef = .pointer (some ⟨g5, 0, none⟩) := (hc.was 5 (by kernel_rfl)).trans rfl
      have kb := I14.out.below hc.g I14.out.lt
      have x0 : w1.cell? ⟨g5, 0, none⟩ = some (.int .u32 (cum : Int)) := kb.cell 0
      have x1 : w1.cell? ⟨g5, 1, none⟩ = some (.int .u32 (rwnd : Int)) := kb.cell 1
      have x2 : w1.cell? ⟨g5, 2, none⟩ = some (.slice A1 ng c1) := kb.cell 2
      have x3 : w1.cell? ⟨g5, 3, none⟩ = some (.slice D1 nu d1) := kb.cell 3
      clear kb
      refine does_value rfl (wanted_at rfl rfl (hc.dep hl 4 61 rfl (by kernel_rfl))) (.agg #[.int .u32 (cum : Int), .int .u32 (rwnd : Int), .slice A1 ng c1, .slice D1 nu d1]) w1 ?_ (Below.refl _ _) rfl
      clear hc hl
      go_simp
    · intro listed a w1 hl hc
      have h2 : a.tmps[2]?.getD undef = .pointer (some ⟨w.heap.size, 0, none⟩) := (hc.was 2 (by kernel_rfl)).trans rfl
      have kb := P14.out.below hc.g P14.out.lt
      have x0 : w1.cell? ⟨w.heap.size, 0, none⟩ = some (.int .u32 (cum : Int)) := kb.cell 0
      have x1 : w1.cell? ⟨w.heap.size, 1, none⟩ = some (.int .u32 (rwnd : Int)) := kb.cell 1
      have x2 : w1.cell? ⟨w.heap.size, 2, none⟩ = some (.slice Ag ng cg) := kb.cell 2
      have x3 : w1.cell? ⟨w.heap.size, 3, none⟩ = some (.slice Au nu cu) := kb.cell 3
      clear kb
      refine does_value rfl (wanted_at rfl rfl (hc.dep hl 4 61 rfl (by kernel_rfl))) (.agg #[.int .u32 (cum : Int), .int .u32 (rwnd : Int), .slice Ag ng cg, .slice Au nu cu]) w1 ?_ (Below.refl _ _) rfl
      clear hc hl
      go_simp
    · intro listed a w1 hl hc
      have h62 : a.tmps[62]?.getD undef = .agg #[.int .u32 (cum : Int), .int .u32 (rwnd : Int), .slice A1 ng c1, .slice D1 nu d1] := hc.dep hl 5 62 rfl (by kernel_rfl)
      have h63 : a.tmps[63]?.getD undef = .agg #[.int .u32 (cum : Int), .int .u32 (rwnd : Int), .slice Ag ng cg, .slice Au nu cu] := hc.dep hl 6 63 rfl (by kernel_rfl)
      refine does_call rfl (wanted_at rfl rfl (hc.dep hl 4 61 rfl (by kernel_rfl))) 33 #[.agg #[.int .u32 (cum : Int), .int .u32 (rwnd : Int), .slice A1 ng c1, .slice D1 nu d1], .agg #[.int .u32 (cum : Int), .int .u32 (rwnd : Int), .slice Ag ng cg, .slice Au nu cu]] ?_ ((HSI.out w1 A1 c1 _ D1 d1 _ (B14.out.trans (hc.g.mono B14.out.size)) (O14.out.below hc.g) (N14.out.below hc.g)).mono fun e w' ⟨he, hb⟩ => ⟨_, he, hb, rfl⟩)
      clear hc hl
      go_simp
    · intro listed a w1 hl hc
      have h61 : a.tmps[61]?.getD undef = .bool true := hc.dep hl 4 61 rfl (by kernel_rfl)
      have h64 : a.tmps[64]?.getD undef = .bool true := hc.dep hl 7 64 rfl (by kernel_rfl)
      refine does_value rfl rfl (.bool true) w1 ?_ (Below.refl _ _) rfl
      clear hc hl
      go_simp
    · intro listed a w1 hl hc
      have h65 : a.tmps[65]?.getD undef = .bool true := hc.dep hl 8 65 rfl (by kernel_rfl)
      refine does_value rfl rfl (.bool true) w1 ?_ (Below.refl _ _) rfl
      clear hc hl
      go_simp
    · intro listed a w1 hl hc
      have h7 : a.tmps[7]?.getD undef = .pointer (some ⟨g7, 0, none⟩) := (hc.was 7 (by kernel_rfl)).trans rfl
      refine does_value rfl (wanted_at rfl rfl (hc.dep hl 9 66 rfl (by kernel_rfl))) (.pointer (some ⟨g7, 2, none⟩)) w1 ?_ (Below.refl _ _) rfl
      clear hc hl
      go_simp
    · intro listed a w1 hl hc
      have h67 : a.tmps[67]?.getD undef = .pointer (some ⟨g7, 2, none⟩) := hc.dep hl 10 67 rfl (by kernel_rfl)
      have kb := Q14.out.below hc.g Q14.out.lt
      have x2 : w1.cell? ⟨g7, 2, none⟩ = some (.slice (some ⟨G46, 0, none⟩) n (n + 16 : Nat)) := kb.cell 2
      clear kb
      refine does_value rfl (wanted_at rfl rfl (hc.dep hl 9 66 rfl (by kernel_rfl))) (.slice (some ⟨G46, 0, none⟩) n (n + 16 : Nat)) w1 ?_ (Below.refl _ _) rfl
      clear hc hl
      go_simp
    · intro listed a w1 hl hc
      have h3 : a.tmps[3]?.getD undef = .pointer (some ⟨w.heap.size + 1, 0, none⟩) := (hc.was 3 (by kernel_rfl)).trans rfl
      refine does_value rfl (wanted_at rfl rfl (hc.dep hl 9 66 rfl (by kernel_rfl))) (.pointer (some ⟨w.heap.size + 1, 2, none⟩)) w1 ?_ (Below.refl _ _) rfl
      clear hc hl
      go_simp
    · intro listed a w1 hl hc
      have h69 : a.tmps[69]?.getD undef = .pointer (some ⟨w.heap.size + 1, 2, none⟩) := hc.dep hl 12 69 rfl (by kernel_rfl)
      have kb := C14.out.below hc.g C14.out.lt
      have x2 : w1.cell? ⟨w.heap.size + 1, 2, none⟩ = some (.slice A n c) := kb.cell 2
      clear kb
      refine does_value rfl (wanted_at rfl rfl (hc.dep hl 9 66 rfl (by kernel_rfl))) (.slice A n c) w1 ?_ (Below.refl _ _) rfl
      clear hc hl
      go_simp
    · intro listed a w1 hl hc
      have h68 : a.tmps[68]?.getD undef = .slice (some ⟨G46, 0, none⟩) n (n + 16 : Nat) := hc.dep hl 11 68 rfl (by kernel_rfl)
      have h70 : a.tmps[70]?.getD undef = .slice A n c := hc.dep hl 13 70 rfl (by kernel_rfl)
      refine does_call rfl (wanted_at rfl rfl (hc.dep hl 9 66 rfl (by kernel_rfl))) 20 #[.slice (some ⟨G46, 0, none⟩) n (n + 16 : Nat), .slice A n c] ?_ ((HKP.out w1 G46 (B14.out.trans (hc.g.mono B14.out.size)) (R14.out.below hc.g R14.out.lt)).mono fun e w' ⟨he, hb⟩ => ⟨_, he, hb, rfl⟩)
      clear hc hl
      go_simp
    · intro listed a w1 hl hc
      have h66 : a.tmps[66]?.getD undef = .bool true := hc.dep hl 9 66 rfl (by kernel_rfl)
      have h71 : a.tmps[71]?.getD undef = .bool true := hc.dep hl 14 71 rfl (by kernel_rfl)
      refine does_value rfl rfl (.bool true) w1 ?_ (Below.refl _ _) rfl
      clear hc hl
      go_simp
    · intro listed a w1 hl hc
      have h72 : a.tmps[72]?.getD undef = .bool true := hc.dep hl 15 72 rfl (by kernel_rfl)
      refine does_value rfl rfl (.bool true) w1 ?_ (Below.refl _ _) rfl
      clear hc hl
      go_simp
    · intro listed a w1 hl hc
      have h9 : a.tmps[9]?.getD undef = .int .i64 re := (hc.was 9 (by kernel_rfl)).trans rfl
      refine does_value rfl (wanted_at rfl rfl (hc.dep hl 16 73 rfl (by kernel_rfl))) (.int .i64 re) w1 ?_ (Below.refl _ _) rfl
      clear hc hl
      go_simp
    · intro listed a w1 hl hc
      have h11 : a.tmps[11]?.getD undef = .int .i64 re := (hc.was 11 (by kernel_rfl)).trans rfl
      refine does_value rfl (wanted_at rfl rfl (hc.dep hl 16 73 rfl (by kernel_rfl))) (.int .i64 re) w1 ?_ (Below.refl _ _) rfl
      clear hc hl
      go_simp
    · intro listed a w1 hl hc
      have h74 : a.tmps[74]?.getD undef = .int .i64 re := hc.dep hl 17 74 rfl (by kernel_rfl)
      have h75 : a.tmps[75]?.getD undef = .int .i64 re := hc.dep hl 18 75 rfl (by kernel_rfl)
      refine does_value rfl (wanted_at rfl rfl (hc.dep hl 16 73 rfl (by kernel_rfl))) (.bool true) w1 ?_ (Below.refl _ _) rfl
      clear hc hl
      go_simp
    · intro listed a w1 hl hc
      have h73 : a.tmps[73]?.getD undef = .bool true := hc.dep hl 16 73 rfl (by kernel_rfl)
      have h76 : a.tmps[76]?.getD undef = .bool true := hc.dep hl 19 76 rfl (by kernel_rfl)
      refine does_value rfl rfl (.bool true) w1 ?_ (Below.refl _ _) rfl
      clear hc hl
      go_simp
    · intro listed a w1 hl hc
      have h77 : a.tmps[77]?.getD undef = .bool true := hc.dep hl 20 77 rfl (by kernel_rfl)
      refine does_value rfl rfl (.bool true) w1 ?_ (Below.refl _ _) rfl
      clear hc hl
      go_simp
    · intro listed a w1 hl hc
      have h8 : a.tmps[8]?.getD undef = .pointer (some ⟨g8, 0, none⟩) := (hc.was 8 (by kernel_rfl)).trans rfl
      have kb := D14.out.below hc.g D14.out.lt
      have x0 : w1.cell? ⟨g8, 0, none⟩ = some (.int .u32 (rt : Int)) := kb.cell 0
      have x1 : w1.cell? ⟨g8, 1, none⟩ = some (.int .u32 (rs : Int)) := kb.cell 1
      have x2 : w1.cell? ⟨g8, 2, none⟩ = some (.slice Ax mx cx) := kb.cell 2
      have x3 : w1.cell? ⟨g8, 3, none⟩ = some (.slice Dx px ex) := kb.cell 3
      clear kb
      refine does_value rfl (wanted_at rfl rfl (hc.dep hl 21 78 rfl (by kernel_rfl))) (.agg #[.int .u32 (rt : Int), .int .u32 (rs : Int), .slice Ax mx cx, .slice Dx px ex]) w1 ?_ (Below.refl _ _) rfl
      clear hc hl
      go_simp
    · intro listed a w1 hl hc
      have h10 : a.tmps[10]?.getD undef = .pointer (some ⟨g10, 0, none⟩) := (hc.was 10 (by kernel_rfl)).trans rfl
      have kb := E14.out.below hc.g E14.out.lt
      have x0 : w1.cell? ⟨g10, 0, none⟩ = some (.int .u32 (rt : Int)) := kb.cell 0
      have x1 : w1.cell? ⟨g10, 1, none⟩ = some (.int .u32 (rs : Int)) := kb.cell 1
      have x2 : w1.cell? ⟨g10, 2, none⟩ = some (.slice Ay my cy) := kb.cell 2
      have x3 : w1.cell? ⟨g10, 3, none⟩ = some (.slice Dy py ey) := kb.cell 3
      clear kb
      refine does_value rfl (wanted_at rfl rfl (hc.dep hl 21 78 rfl (by kernel_rfl))) (.agg #[.int .u32 (rt : Int), .int .u32 (rs : Int), .slice Ay my cy, .slice Dy py ey]) w1 ?_ (Below.refl _ _) rfl
      clear hc hl
      go_simp
    · intro listed a w1 hl hc
      have h79 : a.tmps[79]?.getD undef = .agg #[.int .u32 (rt : Int), .int .u32 (rs : Int), .slice Ax mx cx, .slice Dx px ex] := hc.dep hl 22 79 rfl (by kernel_rfl)
      have h80 : a.tmps[80]?.getD undef = .agg #[.int .u32 (rt : Int), .int .u32 (rs : Int), .slice Ay my cy, .slice Dy py ey] := hc.dep hl 23 80 rfl (by kernel_rfl)
      refine does_call rfl (wanted_at rfl rfl (hc.dep hl 21 78 rfl (by kernel_rfl))) 33 #[.agg #[.int .u32 (rt : Int), .int .u32 (rs : Int), .slice Ax mx cx, .slice Dx px ex], .agg #[.int .u32 (rt : Int), .int .u32 (rs : Int), .slice Ay my cy, .slice Dy py ey]] ?_ ((HSD.out w1 Ax mx cx _ Dx px ex _ Ay my cy _ Dy py ey _ (X14.out.below hc.g) (M14.out.below hc.g) (Z14.out.below hc.g) (U14.out.below hc.g) HMX.out HPX.out HMY.out HPY.out).mono fun e w' ⟨he, hb⟩ => ⟨_, he, hb, rfl⟩)
      clear hc hl
      go_simp
    · intro listed a w1 hl hc
      have h78 : a.tmps[78]?.getD undef = .bool true := hc.dep hl 21 78 rfl (by kernel_rfl)
      have h81 : a.tmps[81]?.getD undef = .bool true := hc.dep hl 24 81 rfl (by kernel_rfl)
      refine does_value rfl rfl (.bool true) w1 ?_ (Below.refl _ _) rfl
      clear hc hl
      go_simp
    · intro listed a w1 hl hc
      have h82 : a.tmps[82]?.getD undef = .bool true := hc.dep hl 25 82 rfl (by kernel_rfl)
      refine does_value rfl rfl (.bool true) w1 ?_ (Below.refl _ _) rfl
      clear hc hl
      go_simp
    · intro listed a w1 hl hc
      refine does_call rfl (wanted_at rfl rfl (hc.dep hl 26 83 rfl (by kernel_rfl))) 13 #[] ?_ ((works_any w1).mono fun e w' ⟨he, hb⟩ => ⟨_, he, hb, rfl⟩)
      clear hc hl
      go_simp
    · intro listed a w1 hl hc
      have h83 : a.tmps[83]?.getD undef = .bool true := hc.dep hl 26 83 rfl (by kernel_rfl)
      have h84 : a.tmps[84]?.getD undef = .bool true := hc.dep hl 27 84 rfl (by kernel_rfl)
      refine does_value rfl rfl (.bool true) w1 ?_ (Below.refl _ _) rfl
      clear hc hl
      go_simp
  intro w2 hb2
  rintro _ rfl _ rfl _ ⟨A59, c59, rfl, ho59⟩ _ rfl _ rfl _ rfl _ rfl _ rfl _ rfl _ rfl _ rfl _ rfl _ rfl _ rfl _ rfl _ rfl _ rfl _ rfl _ rfl _ rfl _ rfl _ rfl _ rfl _ rfl _ rfl _ rfl _ rfl _ rfl _ rfl
  simp only [Thus, List.reverse_cons, List.reverse_nil, List.nil_append, List.cons_append, List.drop, List.take, lay]
  go_frame
  have BE := below_then B14.out (Nat.le_refl _) hb2
  clear hb2
  go_wp2_with fail
  go_ret
  exact ⟨rfl, BE⟩
theorem bodiesSack_walk (cum rwnd : Nat) (Ag : Option Addr) (ng cg : Nat) (gaps : List (Nat × Nat)) (Au : Option Addr) (nu cu : Nat) (dups : List Nat) (b0 b1 : Int) (A : Option Addr) (n c : Nat) (xs : List UInt8) (w : World) (h1 : cum < 4294967296) (h2 : rwnd < 4294967296) (hg1 : ng ≤ cg) (hg2 : cg ≤ maxLen) (hgl : gaps.length = ng) (hgr : Rg w 0 w.heap.size Ag gaps) (hgb : ∀ g ∈ gaps, g.1 < 65536 ∧ g.2 < 65536) (hu1 : nu ≤ cu) (hu2 : cu ≤ maxLen) (hul : dups.length = nu) (hur : Ri .u32 w w.heap.size Au (ints dups)) (hub : ∀ g ∈ dups, g < 4294967296) (h3 : (Lit.int .u8 b0).wf = true) (h4 : (Lit.int .u8 b1).wf = true) (hc : n ≤ c) (hcm : c ≤ maxLen) (hx : xs.length = n) (hr : Rd w w.heap.size A xs) :
    Calls Try.prog 5 #[.agg #[.int .u32 (cum : Int), .int .u32 (rwnd : Int), .slice Ag ng cg, .slice Au nu cu], .agg #[.int .u8 b0, .int .u8 b1, .slice A n c]] w fun e w' => e = .returned (.bool true) ∧ Below w.heap.size w w' := by
  obtain ⟨k, rfl⟩ := byte_of h3
  obtain ⟨f, rfl⟩ := byte_of h4
  by_cases h : 8192 < n
  · exact bodiesSack_big cum rwnd Ag ng cg gaps Au nu cu dups k f A n c xs w h1 h2 hg1 hg2 hgl hgr hgb hu1 hu2 hul hur hub hc hcm hx hr h
  · by_cases h5 : 2048 < ng ∨ 2048 < nu
    · exact bodiesSack_long cum rwnd Ag ng cg gaps Au nu cu dups k f A n c xs w h1 h2 hg1 hg2 hgl hgr hgb hu1 hu2 hul hur hub hc hcm hx hr (by omega) h5
    · exact bodiesSack_small cum rwnd Ag ng cg gaps Au nu cu dups k f A n c xs w h1 h2 hg1 hg2 hgl hgr hgb hu1 hu2 hul hur hub hc hcm hx hr (by omega) (by omega) (by omega)
end Go.Proofs.Ytalgkokgaibloaa
