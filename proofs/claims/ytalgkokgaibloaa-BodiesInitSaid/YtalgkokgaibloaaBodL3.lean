/-
  BodiesInit, walked.
-/
import Derived.Test.YtalgkokgaibloaaBodRC
import Derived.Test.YtalgkokgaibloaaBodZ
import Derived.Test.YtalgkokgaibloaaKept
import Derived.Test.YtalgkokgaibloaaRows2
import Derived.Test.YtalgkokgaibloaaRowsL
import Derived.Test.YtalgkokgaibloaaNums
namespace Go.Proofs.Ytalgkokgaibloaa
open Go.RowKit
set_option linter.unusedVariables false

theorem refPutInit_any (k : UInt8) (tag rwnd out in_ tsn : Nat) (cookie : List UInt8) (h1 : tag < 4294967296) (h2 : rwnd < 4294967296) (h3 : out < 65536) (h4 : in_ < 65536) (h5 : tsn < 4294967296) (A : Option Addr) (n c : Nat) (w : World) (hn : n ≤ 140737488355200) (hx : cookie.length = n) (hr : Rd w w.heap.size A cookie) :
    Puts 26 #[.int .u8 (k.toNat : Int), .agg #[.int .u32 tag, .int .u32 rwnd, .int .u16 out, .int .u16 in_, .int .u32 tsn, .slice A n c]] k 0 (bodyI k ⟨tag, rwnd, out, in_, tsn, cookie⟩) w := by
  by_cases hk : k = 2
  · subst hk
    exact refPutInit_ack tag rwnd out in_ tsn cookie h1 h2 h3 h4 h5 A n c w hn hx hr
  · exact refPutInit_no k hk tag rwnd out in_ tsn cookie h1 h2 h3 h4 h5 A n c w hn hx hr
set_option maxRecDepth 100000 in
set_option maxHeartbeats 4000000 in
theorem bodiesInit_big (pk : UInt8) (tag rwnd out in_ tsn : Nat) (Ai : Option Addr) (ni ci : Nat) (ck : List UInt8) (k f : UInt8) (A : Option Addr) (n c : Nat) (xs : List UInt8) (w : World) (h1 : tag < 4294967296) (h2 : rwnd < 4294967296) (h3 : out < 65536) (h4 : in_ < 65536) (h5 : tsn < 4294967296) (hc2 : ni ≤ ci) (hcm2 : ci ≤ maxLen) (hx2 : ck.length = ni) (hr2 : Rd w w.heap.size Ai ck) (hc : n ≤ c) (hcm : c ≤ maxLen) (hx : xs.length = n) (hr : Rd w w.heap.size A xs) (h : 8192 < n) :
    Calls Try.prog 4 #[.int .u8 (pk.toNat : Int), .agg #[.int .u32 (tag : Int), .int .u32 (rwnd : Int), .int .u16 (out : Int), .int .u16 (in_ : Int), .int .u32 (tsn : Int), .slice Ai ni ci], .agg #[.int .u8 (k.toNat : Int), .int .u8 (f.toNat : Int), .slice A n c]] w fun e w' => e = .returned (.bool true) ∧ Below w.heap.size w w' := by
  have HLG : Hid (∀ W, Calls Try.prog 12 #[.agg #[.int .u8 (k.toNat : Int), .int .u8 (f.toNat : Int), .slice A n c]] W fun e w' => e = .returned (.bool true) ∧ Below W.heap.size W w') := Lib.hid fun W => by
    have := large_any (k.toNat : Int) (f.toNat : Int) A n c W (Nat.le_trans hc hcm)
    rwa [decide_eq_true h] at this
  have hnd := Nat.le_trans hc2 hcm2
  unfold maxLen at hnd
  clear hx hr hx2 hr2
  have b0 : Blk (w.alloc (.cells #[.int .u32 (tag : Int), .int .u32 (rwnd : Int), .int .u16 (out : Int), .int .u16 (in_ : Int), .int .u32 (tsn : Int), .slice Ai ni ci] 43)) w.heap.size 43 #[.int .u32 (tag : Int), .int .u32 (rwnd : Int), .int .u16 (out : Int), .int .u16 (in_ : Int), .int .u32 (tsn : Int), .slice Ai ni ci] := Blk.new w 43 #[.int .u32 (tag : Int), .int .u32 (rwnd : Int), .int .u16 (out : Int), .int .u16 (in_ : Int), .int .u32 (tsn : Int), .slice Ai ni ci]
  have b1 : Blk ((w.alloc (.cells #[.int .u32 (tag : Int), .int .u32 (rwnd : Int), .int .u16 (out : Int), .int .u16 (in_ : Int), .int .u32 (tsn : Int), .slice Ai ni ci] 43)).alloc (.cells #[.int .u8 (k.toNat : Int), .int .u8 (f.toNat : Int), .slice A n c] 28)) (w.heap.size + 1) 28 #[.int .u8 (k.toNat : Int), .int .u8 (f.toNat : Int), .slice A n c] := by simpa using Blk.new (w.alloc (.cells #[.int .u32 (tag : Int), .int .u32 (rwnd : Int), .int .u16 (out : Int), .int .u16 (in_ : Int), .int .u32 (tsn : Int), .slice Ai ni ci] 43)) 28 #[.int .u8 (k.toNat : Int), .int .u8 (f.toNat : Int), .slice A n c]
  have K0 := Lib.hid (b0.alloc (.cells #[.int .u8 (k.toNat : Int), .int .u8 (f.toNat : Int), .slice A n c] 28))
  have K1 := Lib.hid b1
  have B0 : Hid (Below w.heap.size w ((w.alloc (.cells #[.int .u32 (tag : Int), .int .u32 (rwnd : Int), .int .u16 (out : Int), .int .u16 (in_ : Int), .int .u32 (tsn : Int), .slice Ai ni ci] 43)).alloc (.cells #[.int .u8 (k.toNat : Int), .int .u8 (f.toNat : Int), .slice A n c] 28))) := Lib.hid (Wr.below_ (((Wr.refl 5 w.heap.size w).alloc (.cells #[.int .u32 (tag : Int), .int .u32 (rwnd : Int), .int .u16 (out : Int), .int .u16 (in_ : Int), .int .u32 (tsn : Int), .slice Ai ni ci] 43)).alloc (.cells #[.int .u8 (k.toNat : Int), .int .u8 (f.toNat : Int), .slice A n c] 28)) (Nat.le_refl _))
  clear b0 b1
  go_enter Try.func4, Try.ntmps4
  rw [drawn_eq 6, drawn_eq 9]
  go_wp2_with fail
  generalize ((w.alloc (.cells #[.int .u32 (tag : Int), .int .u32 (rwnd : Int), .int .u16 (out : Int), .int .u16 (in_ : Int), .int .u32 (tsn : Int), .slice Ai ni ci] 43)).alloc (.cells #[.int .u8 (k.toNat : Int), .int .u8 (f.toNat : Int), .slice A n c] 28)) = v0 at K0 K1 B0 ⊢
  refine (HLG.out v0).mono ?_
  rintro e w1 ⟨rfl, hb⟩
  have B1 := Lib.hid (below_then B0.out (Nat.le_refl _) hb)
  have P1 := Lib.hid (K0.out.below hb K0.out.lt)
  have x5 : w1.cell? ⟨w.heap.size, 5, none⟩ = some (.slice Ai ni ci) := P1.out.cell 5
  clear hb K0 K1 B0
  go_wp2_with fail
  refine (works_any _).mono ?_
  rintro e w2 ⟨rfl, hb⟩
  go_wp2_with fail
  go_ret
  exact ⟨rfl, below_then B1.out (Nat.le_refl _) hb⟩
set_option maxRecDepth 100000 in
set_option maxHeartbeats 4000000 in
theorem bodiesInit_long (pk : UInt8) (tag rwnd out in_ tsn : Nat) (Ai : Option Addr) (ni ci : Nat) (ck : List UInt8) (k f : UInt8) (A : Option Addr) (n c : Nat) (xs : List UInt8) (w : World) (h1 : tag < 4294967296) (h2 : rwnd < 4294967296) (h3 : out < 65536) (h4 : in_ < 65536) (h5 : tsn < 4294967296) (hc2 : ni ≤ ci) (hcm2 : ci ≤ maxLen) (hx2 : ck.length = ni) (hr2 : Rd w w.heap.size Ai ck) (hc : n ≤ c) (hcm : c ≤ maxLen) (hx : xs.length = n) (hr : Rd w w.heap.size A xs) (h : n ≤ 8192) (hl : 8192 < ni) :
    Calls Try.prog 4 #[.int .u8 (pk.toNat : Int), .agg #[.int .u32 (tag : Int), .int .u32 (rwnd : Int), .int .u16 (out : Int), .int .u16 (in_ : Int), .int .u32 (tsn : Int), .slice Ai ni ci], .agg #[.int .u8 (k.toNat : Int), .int .u8 (f.toNat : Int), .slice A n c]] w fun e w' => e = .returned (.bool true) ∧ Below w.heap.size w w' := by
  have HLG : Hid (∀ W, Calls Try.prog 12 #[.agg #[.int .u8 (k.toNat : Int), .int .u8 (f.toNat : Int), .slice A n c]] W fun e w' => e = .returned (.bool false) ∧ Below W.heap.size W w') := Lib.hid fun W => by
    have := large_any (k.toNat : Int) (f.toNat : Int) A n c W (Nat.le_trans hc hcm)
    rwa [decide_eq_false (by omega)] at this
  have hnd := Nat.le_trans hc2 hcm2
  unfold maxLen at hnd
  clear hx hr hx2 hr2
  have b0 : Blk (w.alloc (.cells #[.int .u32 (tag : Int), .int .u32 (rwnd : Int), .int .u16 (out : Int), .int .u16 (in_ : Int), .int .u32 (tsn : Int), .slice Ai ni ci] 43)) w.heap.size 43 #[.int .u32 (tag : Int), .int .u32 (rwnd : Int), .int .u16 (out : Int), .int .u16 (in_ : Int), .int .u32 (tsn : Int), .slice Ai ni ci] := Blk.new w 43 #[.int .u32 (tag : Int), .int .u32 (rwnd : Int), .int .u16 (out : Int), .int .u16 (in_ : Int), .int .u32 (tsn : Int), .slice Ai ni ci]
  have b1 : Blk ((w.alloc (.cells #[.int .u32 (tag : Int), .int .u32 (rwnd : Int), .int .u16 (out : Int), .int .u16 (in_ : Int), .int .u32 (tsn : Int), .slice Ai ni ci] 43)).alloc (.cells #[.int .u8 (k.toNat : Int), .int .u8 (f.toNat : Int), .slice A n c] 28)) (w.heap.size + 1) 28 #[.int .u8 (k.toNat : Int), .int .u8 (f.toNat : Int), .slice A n c] := by simpa using Blk.new (w.alloc (.cells #[.int .u32 (tag : Int), .int .u32 (rwnd : Int), .int .u16 (out : Int), .int .u16 (in_ : Int), .int .u32 (tsn : Int), .slice Ai ni ci] 43)) 28 #[.int .u8 (k.toNat : Int), .int .u8 (f.toNat : Int), .slice A n c]
  have K0 := Lib.hid (b0.alloc (.cells #[.int .u8 (k.toNat : Int), .int .u8 (f.toNat : Int), .slice A n c] 28))
  have K1 := Lib.hid b1
  have B0 : Hid (Below w.heap.size w ((w.alloc (.cells #[.int .u32 (tag : Int), .int .u32 (rwnd : Int), .int .u16 (out : Int), .int .u16 (in_ : Int), .int .u32 (tsn : Int), .slice Ai ni ci] 43)).alloc (.cells #[.int .u8 (k.toNat : Int), .int .u8 (f.toNat : Int), .slice A n c] 28))) := Lib.hid (Wr.below_ (((Wr.refl 5 w.heap.size w).alloc (.cells #[.int .u32 (tag : Int), .int .u32 (rwnd : Int), .int .u16 (out : Int), .int .u16 (in_ : Int), .int .u32 (tsn : Int), .slice Ai ni ci] 43)).alloc (.cells #[.int .u8 (k.toNat : Int), .int .u8 (f.toNat : Int), .slice A n c] 28)) (Nat.le_refl _))
  clear b0 b1
  go_enter Try.func4, Try.ntmps4
  rw [drawn_eq 6, drawn_eq 9]
  go_wp2_with fail
  generalize ((w.alloc (.cells #[.int .u32 (tag : Int), .int .u32 (rwnd : Int), .int .u16 (out : Int), .int .u16 (in_ : Int), .int .u32 (tsn : Int), .slice Ai ni ci] 43)).alloc (.cells #[.int .u8 (k.toNat : Int), .int .u8 (f.toNat : Int), .slice A n c] 28)) = v0 at K0 K1 B0 ⊢
  refine (HLG.out v0).mono ?_
  rintro e w1 ⟨rfl, hb⟩
  have B1 := Lib.hid (below_then B0.out (Nat.le_refl _) hb)
  have P1 := Lib.hid (K0.out.below hb K0.out.lt)
  have x5 : w1.cell? ⟨w.heap.size, 5, none⟩ = some (.slice Ai ni ci) := P1.out.cell 5
  clear hb K0 K1 B0
  go_wp2_with fail
  refine (works_any _).mono ?_
  rintro e w2 ⟨rfl, hb⟩
  go_wp2_with fail
  go_ret
  exact ⟨rfl, below_then B1.out (Nat.le_refl _) hb⟩
set_option maxRecDepth 100000 in
set_option maxHeartbeats 4000000 in
theorem bodiesInit_small (pk : UInt8) (tag rwnd out in_ tsn : Nat) (Ai : Option Addr) (ni ci : Nat) (ck : List UInt8) (k f : UInt8) (A : Option Addr) (n c : Nat) (xs : List UInt8) (w : World) (h1 : tag < 4294967296) (h2 : rwnd < 4294967296) (h3 : out < 65536) (h4 : in_ < 65536) (h5 : tsn < 4294967296) (hc2 : ni ≤ ci) (hcm2 : ci ≤ maxLen) (hx2 : ck.length = ni) (hr2 : Rd w w.heap.size Ai ck) (hc : n ≤ c) (hcm : c ≤ maxLen) (hx : xs.length = n) (hr : Rd w w.heap.size A xs) (h : n ≤ 8192) (hl : ni ≤ 8192) :
    Calls Try.prog 4 #[.int .u8 (pk.toNat : Int), .agg #[.int .u32 (tag : Int), .int .u32 (rwnd : Int), .int .u16 (out : Int), .int .u16 (in_ : Int), .int .u32 (tsn : Int), .slice Ai ni ci], .agg #[.int .u8 (k.toNat : Int), .int .u8 (f.toNat : Int), .slice A n c]] w fun e w' => e = .returned (.bool true) ∧ Below w.heap.size w w' := by
  have HLG : Hid (∀ W, Calls Try.prog 12 #[.agg #[.int .u8 (k.toNat : Int), .int .u8 (f.toNat : Int), .slice A n c]] W fun e w' => e = .returned (.bool false) ∧ Below W.heap.size W w') := Lib.hid fun W => by
    have := large_any (k.toNat : Int) (f.toNat : Int) A n c W (Nat.le_trans hc hcm)
    rwa [decide_eq_false (by omega)] at this
  have HRI : Hid (∀ W, Below w.heap.size w W → Calls Try.prog 14 #[.slice Ai ni ci] W fun e w' => ∃ g, e = .returned (.slice (some ⟨g, 0, none⟩) ni (ni + 16)) ∧ W.heap.size ≤ g ∧ RowAt w' 5 g (ck ++ marks16) ∧ Below W.heap.size W w') := Lib.hid fun W hW => roomy_any Ai ni ci ck W (by omega) hx2 ((hr2.below hW).more hW.size)
  have HRM : Hid (∀ W, Below w.heap.size w W → Calls Try.prog 14 #[.slice A n c] W fun e w' => ∃ g, e = .returned (.slice (some ⟨g, 0, none⟩) n (n + 16)) ∧ W.heap.size ≤ g ∧ RowAt w' 5 g (xs ++ marks16) ∧ Below W.heap.size W w') := Lib.hid fun W hW => roomy_any A n c xs W (by omega) hx ((hr.below hW).more hW.size)
  have HPD : Hid (∀ (W : World) (g : Nat), RowAt W 5 g (ck ++ marks16) → Puts 23 #[.int .u8 (pk.toNat : Int), .agg #[.int .u32 (tag : Int), .int .u32 (rwnd : Int), .int .u16 (out : Int), .int .u16 (in_ : Int), .int .u32 (tsn : Int), .slice (some ⟨g, 0, none⟩) ni (ni + 16 : Nat)]] pk 0 (bodyI pk ⟨tag, rwnd, out, in_, tsn, ck⟩) W) := Lib.hid fun W g hg => putInit_any pk tag rwnd out in_ tsn ck h1 h2 h3 h4 h5 (some ⟨g, 0, none⟩) ni (ni + 16) W (by omega) hx2 (rd_room hg)
  have HQD : Hid (∀ (W : World), Below w.heap.size w W → Puts 26 #[.int .u8 (pk.toNat : Int), .agg #[.int .u32 (tag : Int), .int .u32 (rwnd : Int), .int .u16 (out : Int), .int .u16 (in_ : Int), .int .u32 (tsn : Int), .slice Ai ni ci]] pk 0 (bodyI pk ⟨tag, rwnd, out, in_, tsn, ck⟩) W) := Lib.hid fun W hW => refPutInit_any pk tag rwnd out in_ tsn ck h1 h2 h3 h4 h5 Ai ni ci W (by omega) hx2 ((hr2.below hW).more hW.size)
  have HGD : Hid (∀ (W : World) (g : Nat), RowAt W 5 g (xs ++ marks16) → Calls Try.prog 24 #[.agg #[.int .u8 (k.toNat : Int), .int .u8 (f.toNat : Int), .slice (some ⟨g, 0, none⟩) n (n + 16 : Nat)]] W fun e w' => ∃ A2 m2 c2, e = .returned (.tuple #[.agg #[.int .u32 ((ansI k f xs).tag : Int), .int .u32 ((ansI k f xs).rwnd : Int), .int .u16 ((ansI k f xs).out : Int), .int .u16 ((ansI k f xs).in_ : Int), .int .u32 ((ansI k f xs).tsn : Int), .slice A2 m2 c2], .int .i64 (errOf (okI k f xs))]) ∧ Own8 w' 5 W.heap.size A2 m2 c2 (ansI k f xs).cookie ∧ Below W.heap.size W w') := Lib.hid fun W g hg => getInit_any k f (some ⟨g, 0, none⟩) n (n + 16) xs W (by omega) (by omega) (by unfold maxLen; omega) hx (rd_room hg)
  have HRD : Hid (∀ (W : World), Below w.heap.size w W → Calls Try.prog 25 #[.agg #[.int .u8 (k.toNat : Int), .int .u8 (f.toNat : Int), .slice A n c]] W fun e w' => ∃ A2 m2 c2, e = .returned (.tuple #[.agg #[.int .u32 ((ansI k f xs).tag : Int), .int .u32 ((ansI k f xs).rwnd : Int), .int .u16 ((ansI k f xs).out : Int), .int .u16 ((ansI k f xs).in_ : Int), .int .u32 ((ansI k f xs).tsn : Int), .slice A2 m2 c2], .int .i64 (errOf (okI k f xs))]) ∧ Own8 w' 5 W.heap.size A2 m2 c2 (ansI k f xs).cookie ∧ Below W.heap.size W w') := Lib.hid fun W hW => refGetInit_any k f A n c xs W (by omega) hc hcm hx ((hr.below hW).more hW.size)
  have HSM : Hid (∀ (W : World) (a b : UInt8) (Y : List UInt8) (A1 A2 : Option Addr) (c1 c2 b1 b2 : Nat), Own8 W 5 b1 A1 Y.length c1 Y → Own8 W 5 b2 A2 Y.length c2 Y → Calls Try.prog 18 #[.agg #[.int .u8 (a.toNat : Int), .int .u8 (b.toNat : Int), .slice A1 Y.length c1], .agg #[.int .u8 (a.toNat : Int), .int .u8 (b.toNat : Int), .slice A2 Y.length c2]] W fun e w' => e = .returned (.bool true) ∧ Below W.heap.size W w') := Lib.hid fun W a b Y A1 A2 c1 c2 b1 b2 h1 h2 => by
    have := same_any a b a b A1 A2 Y.length Y.length c1 c2 Y Y W rfl rfl (Nat.le_trans h1.cap.1 h1.cap.2) (Nat.le_trans h1.cap.1 h1.cap.2) h1.rd h2.rd
    simpa using this
  have HKI : Hid (∀ (W : World) (g : Nat), Below w.heap.size w W → RowAt W 5 g (ck ++ marks16) → Calls Try.prog 20 #[.slice (some ⟨g, 0, none⟩) ni (ni + 16 : Nat), .slice Ai ni ci] W fun e w' => e = .returned (.bool true) ∧ Below W.heap.size W w') := Lib.hid fun W g hW hg => (kept_any w.heap.size Ai ni ci g ck W (by omega) hx2 (hr2.below hW) hg).mono fun e w' ⟨he, q, hq⟩ => ⟨he, hq ▸ below_drewN (Below.refl _ _) q⟩
  have HKP : Hid (∀ (W : World) (g : Nat), Below w.heap.size w W → RowAt W 5 g (xs ++ marks16) → Calls Try.prog 20 #[.slice (some ⟨g, 0, none⟩) n (n + 16 : Nat), .slice A n c] W fun e w' => e = .returned (.bool true) ∧ Below W.heap.size W w') := Lib.hid fun W g hW hg => (kept_any w.heap.size A n c g xs W (by omega) hx (hr.below hW) hg).mono fun e w' ⟨he, q, hq⟩ => ⟨he, hq ▸ below_drewN (Below.refl _ _) q⟩
  have hbd : (ansI k f xs).cookie.length ≤ 140737488355328 := by
    unfold ansI
    split
    · show (cookieOf k xs).length ≤ _
      have := cookieOf_le k xs
      omega
    · show 0 ≤ _
      omega
  have HSD : Hid (∀ (W : World) (A1 A2 : Option Addr) (m1 c1 m2 c2 b1 b2 : Nat), Own8 W 5 b1 A1 m1 c1 (ansI k f xs).cookie → Own8 W 5 b2 A2 m2 c2 (ansI k f xs).cookie → Calls Try.prog 27 #[.agg #[.int .u32 ((ansI k f xs).tag : Int), .int .u32 ((ansI k f xs).rwnd : Int), .int .u16 ((ansI k f xs).out : Int), .int .u16 ((ansI k f xs).in_ : Int), .int .u32 ((ansI k f xs).tsn : Int), .slice A1 m1 c1], .agg #[.int .u32 ((ansI k f xs).tag : Int), .int .u32 ((ansI k f xs).rwnd : Int), .int .u16 ((ansI k f xs).out : Int), .int .u16 ((ansI k f xs).in_ : Int), .int .u32 ((ansI k f xs).tsn : Int), .slice A2 m2 c2]] W fun e w' => e = .returned (.bool true) ∧ Below W.heap.size W w') := Lib.hid fun W A1 A2 m1 c1 m2 c2 b1 b2 h1 h2 => sameI_yes _ _ _ _ _ A1 A2 m1 c1 m2 c2 _ W h1.len h2.len (by have := h1.len; omega) h1.rd h2.rd
  obtain ⟨rt, hrt⟩ : ∃ r, r = (ansI k f xs).tag := ⟨_, rfl⟩
  rw [← hrt] at HGD HRD HSD
  obtain ⟨rs, hrs⟩ : ∃ r, r = (ansI k f xs).rwnd := ⟨_, rfl⟩
  rw [← hrs] at HGD HRD HSD
  obtain ⟨rn, hrn⟩ : ∃ r, r = (ansI k f xs).out := ⟨_, rfl⟩
  rw [← hrn] at HGD HRD HSD
  obtain ⟨ru, hru⟩ : ∃ r, r = (ansI k f xs).in_ := ⟨_, rfl⟩
  rw [← hru] at HGD HRD HSD
  obtain ⟨rf, hrf⟩ : ∃ r, r = (ansI k f xs).tsn := ⟨_, rfl⟩
  rw [← hrf] at HGD HRD HSD
  obtain ⟨rb, hrb⟩ : ∃ r, r = (ansI k f xs).cookie := ⟨_, rfl⟩
  rw [← hrb] at HGD HRD HSD
  obtain ⟨re, hre⟩ : ∃ re, re = errOf (okI k f xs) := ⟨_, rfl⟩
  rw [← hre] at HGD HRD
  obtain ⟨YD, hYD⟩ : ∃ YD, YD = bodyI pk ⟨tag, rwnd, out, in_, tsn, ck⟩ := ⟨_, rfl⟩
  rw [← hYD] at HPD HQD
  clear hre hYD hbd hrt hrs hrn hru hrf hrb
  have hz := zero_chunk
  have hzd := zero_init
  have hnd := Nat.le_trans hc2 hcm2
  unfold maxLen at hnd
  have hcm3 := hcm
  have hcm4 := hcm2
  unfold maxLen at hcm3 hcm4
  have HXL := Lib.hid hx
  have HXD := Lib.hid hx2
  clear hx hr hx2 hr2 h1 h2 h3 h4 h5
  have b0 : Blk (w.alloc (.cells #[.int .u32 (tag : Int), .int .u32 (rwnd : Int), .int .u16 (out : Int), .int .u16 (in_ : Int), .int .u32 (tsn : Int), .slice Ai ni ci] 43)) w.heap.size 43 #[.int .u32 (tag : Int), .int .u32 (rwnd : Int), .int .u16 (out : Int), .int .u16 (in_ : Int), .int .u32 (tsn : Int), .slice Ai ni ci] := Blk.new w 43 #[.int .u32 (tag : Int), .int .u32 (rwnd : Int), .int .u16 (out : Int), .int .u16 (in_ : Int), .int .u32 (tsn : Int), .slice Ai ni ci]
  have b1 : Blk ((w.alloc (.cells #[.int .u32 (tag : Int), .int .u32 (rwnd : Int), .int .u16 (out : Int), .int .u16 (in_ : Int), .int .u32 (tsn : Int), .slice Ai ni ci] 43)).alloc (.cells #[.int .u8 (k.toNat : Int), .int .u8 (f.toNat : Int), .slice A n c] 28)) (w.heap.size + 1) 28 #[.int .u8 (k.toNat : Int), .int .u8 (f.toNat : Int), .slice A n c] := by simpa using Blk.new (w.alloc (.cells #[.int .u32 (tag : Int), .int .u32 (rwnd : Int), .int .u16 (out : Int), .int .u16 (in_ : Int), .int .u32 (tsn : Int), .slice Ai ni ci] 43)) 28 #[.int .u8 (k.toNat : Int), .int .u8 (f.toNat : Int), .slice A n c]
  have K0 := Lib.hid (b0.alloc (.cells #[.int .u8 (k.toNat : Int), .int .u8 (f.toNat : Int), .slice A n c] 28))
  have K1 := Lib.hid b1
  have B0 : Hid (Below w.heap.size w ((w.alloc (.cells #[.int .u32 (tag : Int), .int .u32 (rwnd : Int), .int .u16 (out : Int), .int .u16 (in_ : Int), .int .u32 (tsn : Int), .slice Ai ni ci] 43)).alloc (.cells #[.int .u8 (k.toNat : Int), .int .u8 (f.toNat : Int), .slice A n c] 28))) := Lib.hid (Wr.below_ (((Wr.refl 5 w.heap.size w).alloc (.cells #[.int .u32 (tag : Int), .int .u32 (rwnd : Int), .int .u16 (out : Int), .int .u16 (in_ : Int), .int .u32 (tsn : Int), .slice Ai ni ci] 43)).alloc (.cells #[.int .u8 (k.toNat : Int), .int .u8 (f.toNat : Int), .slice A n c] 28)) (Nat.le_refl _))
  clear b0 b1
  go_enter Try.func4, Try.ntmps4
  rw [drawn_eq 6, drawn_eq 9]
  go_wp2_with fail
  generalize ((w.alloc (.cells #[.int .u32 (tag : Int), .int .u32 (rwnd : Int), .int .u16 (out : Int), .int .u16 (in_ : Int), .int .u32 (tsn : Int), .slice Ai ni ci] 43)).alloc (.cells #[.int .u8 (k.toNat : Int), .int .u8 (f.toNat : Int), .slice A n c] 28)) = v0 at K0 K1 B0 ⊢
  have P0 := K0
  have C0 := K1
  clear K0 K1
  refine (HLG.out v0).mono ?_
  rintro e w1 ⟨rfl, hb⟩
  have P1 := Lib.hid (P0.out.below hb P0.out.lt)
  have C1 := Lib.hid (C0.out.below hb C0.out.lt)
  have B1 := Lib.hid (below_then B0.out (Nat.le_refl _) hb)
  clear hb P0 C0 B0
  have x0 := P1.out.cell 0
  have x1 := P1.out.cell 1
  have x2 := P1.out.cell 2
  have x3 := P1.out.cell 3
  have x4 := P1.out.cell 4
  have x5 := P1.out.cell 5
  clear HLG
  have hlc := C1.out.lt
  have hb := below_new w1 (.cells #[.int .u32 (tag : Int), .int .u32 (rwnd : Int), .int .u16 (out : Int), .int .u16 (in_ : Int), .int .u32 (tsn : Int), .slice Ai ni ci] 43)
  have P2 := Lib.hid (P1.out.below hb P1.out.lt)
  have C2 := Lib.hid (C1.out.below hb C1.out.lt)
  have B2 := Lib.hid (below_then B1.out (Nat.le_refl _) hb)
  clear hb P1 C1 B1
  have I2 := Lib.hid (Blk.new w1 43 #[.int .u32 (tag : Int), .int .u32 (rwnd : Int), .int .u16 (out : Int), .int .u16 (in_ : Int), .int .u32 (tsn : Int), .slice Ai ni ci])
  obtain ⟨g7, hg7⟩ : ∃ g, g = w1.heap.size := ⟨_, rfl⟩
  rw [← hg7] at I2
  have Hg7 := Lib.hid hg7
  have hlg7 : w.heap.size + 1 < g7 := by omega
  clear hlc
  clear hg7
  have y0 := P2.out.cell 0
  have y1 := P2.out.cell 1
  have y2 := P2.out.cell 2
  have y3 := P2.out.cell 3
  have y4 := P2.out.cell 4
  have y5 := P2.out.cell 5
  go_wp2_with fail
  rw [← Hg7.out]
  generalize w1.alloc (.cells #[.int .u32 (tag : Int), .int .u32 (rwnd : Int), .int .u16 (out : Int), .int .u16 (in_ : Int), .int .u32 (tsn : Int), .slice Ai ni ci] 43) = v2 at P2 C2 B2 I2 y0 y1 y2 y3 y4 y5 ⊢
  clear Hg7 y0 y1 y2 y3 y4 y5
  clear x0 x1 x2 x3 x4 x5
  refine (HRI.out v2 B2.out).mono ?_
  rintro e w3 ⟨G1, rfl, hG1, hR1, hb⟩
  have P3 := Lib.hid (P2.out.below hb P2.out.lt)
  have C3 := Lib.hid (C2.out.below hb C2.out.lt)
  have B3 := Lib.hid (below_then B2.out (Nat.le_refl _) hb)
  have I3 := Lib.hid (I2.out.below hb I2.out.lt)
  clear hb P2 C2 B2 I2
  have R3 := Lib.hid hR1
  clear hR1
  have hne := R3.out.ne_blk I3.out (by decide)
  have y0 := I3.out.cell 0
  have y1 := I3.out.cell 1
  have y2 := I3.out.cell 2
  have y3 := I3.out.cell 3
  have y4 := I3.out.cell 4
  have y5 := I3.out.cell 5
  have z0 := I3.out.frozen 0
  have z1 := I3.out.frozen 1
  have z2 := I3.out.frozen 2
  have z3 := I3.out.frozen 3
  have z4 := I3.out.frozen 4
  have z5 := I3.out.frozen 5
  have hgl7 : g7 < w3.heap.size := I3.out.lt
  have I4 : Hid (Blk (w3.setCell ⟨g7, 5, none⟩ (.slice (some ⟨G1, 0, none⟩) ni (ni + 16 : Nat))) g7 43 #[.int .u32 (tag : Int), .int .u32 (rwnd : Int), .int .u16 (out : Int), .int .u16 (in_ : Int), .int .u32 (tsn : Int), .slice (some ⟨G1, 0, none⟩) ni (ni + 16 : Nat)]) := Lib.hid (I3.out.set_ 5 (.slice (some ⟨G1, 0, none⟩) ni (ni + 16 : Nat)))
  have P4 := Lib.hid (P3.out.far (p := ⟨g7, 5, none⟩) (show w.heap.size ≠ g7 by omega) (.slice (some ⟨G1, 0, none⟩) ni (ni + 16 : Nat)))
  have C4 := Lib.hid (C3.out.far (p := ⟨g7, 5, none⟩) (show w.heap.size + 1 ≠ g7 by omega) (.slice (some ⟨G1, 0, none⟩) ni (ni + 16 : Nat)))
  have R4 := Lib.hid (R3.out.far (p := ⟨g7, 5, none⟩) hne (.slice (some ⟨G1, 0, none⟩) ni (ni + 16 : Nat)))
  have B4 := Lib.hid (B3.out.setCell (p := ⟨g7, 5, none⟩) (show w.heap.size ≤ g7 by omega) (.slice (some ⟨G1, 0, none⟩) ni (ni + 16 : Nat)))
  clear P3 C3 B3 I3 R3 hne
  go_wp2_with fail
  generalize w3.setCell ⟨g7, 5, none⟩ (.slice (some ⟨G1, 0, none⟩) ni (ni + 16 : Nat)) = v4 at P4 C4 B4 I4 R4 ⊢
  clear hgl7 y0 z0 y1 z1 y2 z2 y3 z3 y4 z4 y5 z5
  have OI := own_in (base := 0) R4.out HXD.out (Nat.zero_le _) (by omega)
  refine (HPD.out v4 G1 R4.out).mono ?_
  rintro e w5 ⟨Ap, cp, rfl, ho, hb⟩
  have P5 := Lib.hid (P4.out.below hb P4.out.lt)
  have C5 := Lib.hid (C4.out.below hb C4.out.lt)
  have B5 := Lib.hid (below_then B4.out (Nat.le_refl _) hb)
  have I5 := Lib.hid (I4.out.below hb I4.out.lt)
  have R5 := Lib.hid (R4.out.below hb R4.out.lt)
  clear hb P4 C4 B4 I4 R4
  have O5 := Lib.hid ho
  have FPI := Lib.hid (far_of OI ho (Nat.le_refl _))
  clear OI ho
  have hlc := C5.out.lt
  have hb := below_new w5 (.cells #[.int .u8 (pk.toNat : Int), .int .u8 0, .slice Ap YD.length cp] 28)
  have P6 := Lib.hid (P5.out.below hb P5.out.lt)
  have C6 := Lib.hid (C5.out.below hb C5.out.lt)
  have B6 := Lib.hid (below_then B5.out (Nat.le_refl _) hb)
  have I6 := Lib.hid (I5.out.below hb I5.out.lt)
  have R6 := Lib.hid (R5.out.below hb R5.out.lt)
  have O6 := Lib.hid (O5.out.below hb (Nat.le_refl _))
  clear hb P5 C5 B5 I5 R5 O5
  have V6 := Lib.hid (Blk.new w5 28 #[.int .u8 (pk.toNat : Int), .int .u8 0, .slice Ap YD.length cp])
  obtain ⟨g8, hg8⟩ : ∃ g, g = w5.heap.size := ⟨_, rfl⟩
  rw [← hg8] at V6
  have Hg8 := Lib.hid hg8
  have hlg8 : w.heap.size + 1 < g8 := by omega
  clear hlc
  clear hg8
  go_wp2_with fail
  rw [← Hg8.out]
  generalize w5.alloc (.cells #[.int .u8 (pk.toNat : Int), .int .u8 0, .slice Ap YD.length cp] 28) = v6 at P6 C6 B6 I6 R6 O6 V6 ⊢
  clear Hg8
  rw [← drawn_eq 6]
  refine wp_region_grow_tail 9 (by kernel_rfl) [(Is (.pointer (some ⟨w.heap.size + 1, 0, none⟩))), (Is (.int .u8 (k.toNat : Int))), (Is (.pointer (some ⟨w.heap.size + 1, 1, none⟩))), (Is (.int .u8 (f.toNat : Int))), (Is (.pointer (some ⟨w.heap.size + 1, 2, none⟩))), (Is (.slice A n c)), (NewRow 5 v6.heap.size n (n + 16 : Nat) (xs ++ marks16) (fun s => s)), (NewRow 5 v6.heap.size n (n + 16 : Nat) (xs ++ marks16) (fun s => .agg #[.int .u8 (k.toNat : Int), .int .u8 (f.toNat : Int), s])), (NewBlk v6.heap.size 28 #[.int .u8 0, .int .u8 0, .slice none 0 0])] rfl ?_ (by kernel_rfl) (by kernel_rfl) ?_ ?_
  · intro p hp
    simp only [List.mem_cons, List.not_mem_nil, or_false] at hp
    rcases hp with rfl | rfl | rfl | rfl | rfl | rfl | rfl | rfl | rfl
    · exact Lasts.is _
    · exact Lasts.is _
    · exact Lasts.is _
    · exact Lasts.is _
    · exact Lasts.is _
    · exact Lasts.is _
    · exact Lasts.newRow _ _ _ _ _ _
    · exact Lasts.newRow _ _ _ _ _ _
    · exact Lasts.newBlk _ _ _
  · refine ⟨?_, ?_, ?_, ?_, ?_, ?_, ?_, ?_, ?_, trivial⟩
    · intro listed a w1 hl hc
      have h5 : a.tmps[5]?.getD undef = .pointer (some ⟨w.heap.size + 1, 0, none⟩) := (hc.was 5 (by kernel_rfl)).trans rfl
      refine does_value rfl rfl (.pointer (some ⟨w.heap.size + 1, 0, none⟩)) w1 ?_ (Below.refl _ _) rfl
      clear hc hl
      go_simp
    · intro listed a w1 hl hc
      have h31 : a.tmps[31]?.getD undef = .pointer (some ⟨w.heap.size + 1, 0, none⟩) := hc.dep hl 0 31 rfl (by kernel_rfl)
      have kb := C6.out.below hc.g C6.out.lt
      have x0 : w1.cell? ⟨w.heap.size + 1, 0, none⟩ = some (.int .u8 (k.toNat : Int)) := kb.cell 0
      clear kb
      refine does_value rfl rfl (.int .u8 (k.toNat : Int)) w1 ?_ (Below.refl _ _) rfl
      clear hc hl
      go_simp
    · intro listed a w1 hl hc
      have h5 : a.tmps[5]?.getD undef = .pointer (some ⟨w.heap.size + 1, 0, none⟩) := (hc.was 5 (by kernel_rfl)).trans rfl
      refine does_value rfl rfl (.pointer (some ⟨w.heap.size + 1, 1, none⟩)) w1 ?_ (Below.refl _ _) rfl
      clear hc hl
      go_simp
    · intro listed a w1 hl hc
      have h33 : a.tmps[33]?.getD undef = .pointer (some ⟨w.heap.size + 1, 1, none⟩) := hc.dep hl 2 33 rfl (by kernel_rfl)
      have kb := C6.out.below hc.g C6.out.lt
      have x1 : w1.cell? ⟨w.heap.size + 1, 1, none⟩ = some (.int .u8 (f.toNat : Int)) := kb.cell 1
      clear kb
      refine does_value rfl rfl (.int .u8 (f.toNat : Int)) w1 ?_ (Below.refl _ _) rfl
      clear hc hl
      go_simp
    · intro listed a w1 hl hc
      have h5 : a.tmps[5]?.getD undef = .pointer (some ⟨w.heap.size + 1, 0, none⟩) := (hc.was 5 (by kernel_rfl)).trans rfl
      refine does_value rfl rfl (.pointer (some ⟨w.heap.size + 1, 2, none⟩)) w1 ?_ (Below.refl _ _) rfl
      clear hc hl
      go_simp
    · intro listed a w1 hl hc
      have h35 : a.tmps[35]?.getD undef = .pointer (some ⟨w.heap.size + 1, 2, none⟩) := hc.dep hl 4 35 rfl (by kernel_rfl)
      have kb := C6.out.below hc.g C6.out.lt
      have x2 : w1.cell? ⟨w.heap.size + 1, 2, none⟩ = some (.slice A n c) := kb.cell 2
      clear kb
      refine does_value rfl rfl (.slice A n c) w1 ?_ (Below.refl _ _) rfl
      clear hc hl
      go_simp
    · intro listed a w1 hl hc
      have h36 : a.tmps[36]?.getD undef = .slice A n c := hc.dep hl 5 36 rfl (by kernel_rfl)
      refine does_call rfl rfl 14 #[.slice A n c] ?_ ((HRM.out w1 (B6.out.trans (hc.g.mono B6.out.size))).mono fun e w' ⟨g9, he, hg, hr, hb⟩ => ⟨_, he, hb, g9, rfl, Nat.le_trans hc.g.size hg, hr⟩)
      clear hc hl
      go_simp
    · intro listed a w1 hl hc
      have h32 : a.tmps[32]?.getD undef = .int .u8 (k.toNat : Int) := hc.dep hl 1 32 rfl (by kernel_rfl)
      have h34 : a.tmps[34]?.getD undef = .int .u8 (f.toNat : Int) := hc.dep hl 3 34 rfl (by kernel_rfl)
      obtain ⟨G37, h37, hg37, hr37⟩ := hc.dep hl 6 37 rfl (by kernel_rfl)
      refine does_value rfl rfl (.agg #[.int .u8 (k.toNat : Int), .int .u8 (f.toNat : Int), .slice (some ⟨G37, 0, none⟩) n (n + 16 : Nat)]) w1 ?_ (Below.refl _ _) ⟨G37, rfl, hg37, hr37⟩
      clear hc hl
      go_simp
    · intro listed a w1 hl hc
      refine does_value rfl rfl (.pointer (some ⟨w1.heap.size, 0, none⟩)) (w1.alloc (.cells #[.int .u8 0, .int .u8 0, .slice none 0 0] 28)) ?_ (below_new w1 _) ⟨_, rfl, hc.g.size, Blk.new _ _ _⟩
      clear hc hl
      go_simp
  intro w2 hb2
  rintro _ rfl _ rfl _ rfl _ rfl _ rfl _ rfl _ ⟨G37, rfl, hg37, hr37⟩ _ ⟨G38, rfl, hg38, hr38⟩ _ ⟨g9, rfl, hg9, hb9⟩
  simp only [Thus, List.reverse_cons, List.reverse_nil, List.nil_append, List.cons_append, List.drop, List.take, lay]
  go_frame
  have HG := Lib.hid hb9
  have hgl9 : g9 < w2.heap.size := hb9.lt
  have hne := hr38.ne_blk hb9 (by decide)
  have y0 := HG.out.cell 0
  have y1 := HG.out.cell 1
  have y2 := HG.out.cell 2
  have z0 := HG.out.frozen 0
  have z1 := HG.out.frozen 1
  have z2 := HG.out.frozen 2
  have hb : Below v6.heap.size v6 (((w2.setCell ⟨g9, 0, none⟩ (.int .u8 (k.toNat : Int))).setCell ⟨g9, 1, none⟩ (.int .u8 (f.toNat : Int))).setCell ⟨g9, 2, none⟩ (.slice (some ⟨G38, 0, none⟩) n (n + 16 : Nat))) := (((hb2.setCell (p := ⟨g9, 0, none⟩) hg9 (.int .u8 (k.toNat : Int))).setCell (p := ⟨g9, 1, none⟩) hg9 (.int .u8 (f.toNat : Int))).setCell (p := ⟨g9, 2, none⟩) hg9 (.slice (some ⟨G38, 0, none⟩) n (n + 16 : Nat)))
  have OQ1 := own_in hr38 HXL.out hg38 (by omega)
  have FPQ := Lib.hid (far_of O6.out OQ1 (Nat.le_refl _))
  have FIQ := Lib.hid (far_of (own_in (base := 0) R6.out HXD.out (Nat.zero_le _) (by omega)) OQ1 (Nat.le_refl _))
  clear OQ1
  have P7 := Lib.hid (P6.out.below hb P6.out.lt)
  have C7 := Lib.hid (C6.out.below hb C6.out.lt)
  have B7 := Lib.hid (below_then B6.out (Nat.le_refl _) hb)
  have I7 := Lib.hid (I6.out.below hb I6.out.lt)
  have R7 := Lib.hid (R6.out.below hb R6.out.lt)
  have O7 := Lib.hid (O6.out.below hb (Nat.le_refl _))
  have V7 := Lib.hid (V6.out.below hb V6.out.lt)
  clear hb P6 C6 B6 I6 R6 O6 V6
  have Q7 : Hid (Blk (((w2.setCell ⟨g9, 0, none⟩ (.int .u8 (k.toNat : Int))).setCell ⟨g9, 1, none⟩ (.int .u8 (f.toNat : Int))).setCell ⟨g9, 2, none⟩ (.slice (some ⟨G38, 0, none⟩) n (n + 16 : Nat))) g9 28 #[.int .u8 (k.toNat : Int), .int .u8 (f.toNat : Int), .slice (some ⟨G38, 0, none⟩) n (n + 16 : Nat)]) := Lib.hid (((hb9.set_ 0 (.int .u8 (k.toNat : Int))).set_ 1 (.int .u8 (f.toNat : Int))).set_ 2 (.slice (some ⟨G38, 0, none⟩) n (n + 16 : Nat)))
  have T7 := Lib.hid (((hr38.far (p := ⟨g9, 0, none⟩) hne (.int .u8 (k.toNat : Int))).far (p := ⟨g9, 1, none⟩) hne (.int .u8 (f.toNat : Int))).far (p := ⟨g9, 2, none⟩) hne (.slice (some ⟨G38, 0, none⟩) n (n + 16 : Nat)))
  clear hb2 hb9 HG hne hg37 hr37 hg38 hr38
  go_wp2_with fail
  generalize ((w2.setCell ⟨g9, 0, none⟩ (.int .u8 (k.toNat : Int))).setCell ⟨g9, 1, none⟩ (.int .u8 (f.toNat : Int))).setCell ⟨g9, 2, none⟩ (.slice (some ⟨G38, 0, none⟩) n (n + 16 : Nat)) = v7 at P7 C7 B7 I7 R7 O7 V7 Q7 T7 ⊢
  clear hgl9 hg9 y0 y1 y2 z0 z1 z2
  have OT := own_in (base := 0) T7.out HXL.out (Nat.zero_le _) (by omega)
  have OI := own_in (base := 0) R7.out HXD.out (Nat.zero_le _) (by omega)
  have OP := O7.out
  refine (HGD.out v7 G38 T7.out).mono ?_
  rintro e w8 ⟨Ax, mx, cx, rfl, ho, hb⟩
  have P8 := Lib.hid (P7.out.below hb P7.out.lt)
  have C8 := Lib.hid (C7.out.below hb C7.out.lt)
  have B8 := Lib.hid (below_then B7.out (Nat.le_refl _) hb)
  have I8 := Lib.hid (I7.out.below hb I7.out.lt)
  have R8 := Lib.hid (R7.out.below hb R7.out.lt)
  have O8 := Lib.hid (O7.out.below hb (Nat.le_refl _))
  have V8 := Lib.hid (V7.out.below hb V7.out.lt)
  have Q8 := Lib.hid (Q7.out.below hb Q7.out.lt)
  have T8 := Lib.hid (T7.out.below hb T7.out.lt)
  clear hb P7 C7 B7 I7 R7 O7 V7 Q7 T7
  have X8 := Lib.hid ho
  have FPX := Lib.hid (far_of OP ho (Nat.le_refl _))
  have FIX := Lib.hid (far_of OI ho (Nat.le_refl _))
  have FQX := Lib.hid (far_of OT ho (Nat.le_refl _))
  clear OT OI OP ho
  have hlc := C8.out.lt
  have hb := below_new w8 (.cells #[.int .u32 (rt : Int), .int .u32 (rs : Int), .int .u16 (rn : Int), .int .u16 (ru : Int), .int .u32 (rf : Int), .slice Ax mx cx] 43)
  have P9 := Lib.hid (P8.out.below hb P8.out.lt)
  have C9 := Lib.hid (C8.out.below hb C8.out.lt)
  have B9 := Lib.hid (below_then B8.out (Nat.le_refl _) hb)
  have I9 := Lib.hid (I8.out.below hb I8.out.lt)
  have R9 := Lib.hid (R8.out.below hb R8.out.lt)
  have O9 := Lib.hid (O8.out.below hb (Nat.le_refl _))
  have V9 := Lib.hid (V8.out.below hb V8.out.lt)
  have Q9 := Lib.hid (Q8.out.below hb Q8.out.lt)
  have T9 := Lib.hid (T8.out.below hb T8.out.lt)
  have X9 := Lib.hid (X8.out.below hb (Nat.le_refl _))
  clear hb P8 C8 B8 I8 R8 O8 V8 Q8 T8 X8
  have D9 := Lib.hid (Blk.new w8 43 #[.int .u32 (rt : Int), .int .u32 (rs : Int), .int .u16 (rn : Int), .int .u16 (ru : Int), .int .u32 (rf : Int), .slice Ax mx cx])
  obtain ⟨g10, hg10⟩ : ∃ g, g = w8.heap.size := ⟨_, rfl⟩
  rw [← hg10] at D9
  have Hg10 := Lib.hid hg10
  have hlg10 : w.heap.size + 1 < g10 := by omega
  clear hlc
  clear hg10
  have x0 := C9.out.cell 0
  have x1 := C9.out.cell 1
  have x2 := C9.out.cell 2
  go_wp2_with fail
  rw [← Hg10.out]
  generalize w8.alloc (.cells #[.int .u32 (rt : Int), .int .u32 (rs : Int), .int .u16 (rn : Int), .int .u16 (ru : Int), .int .u32 (rf : Int), .slice Ax mx cx] 43) = v9 at P9 C9 B9 I9 R9 O9 V9 Q9 T9 X9 D9 x0 x1 x2 ⊢
  clear Hg10 x0 x1 x2
  refine (HRD.out v9 B9.out).mono ?_
  rintro e w10 ⟨Ay, my, cy, rfl, ho, hb⟩
  have P10 := Lib.hid (P9.out.below hb P9.out.lt)
  have C10 := Lib.hid (C9.out.below hb C9.out.lt)
  have B10 := Lib.hid (below_then B9.out (Nat.le_refl _) hb)
  have I10 := Lib.hid (I9.out.below hb I9.out.lt)
  have R10 := Lib.hid (R9.out.below hb R9.out.lt)
  have O10 := Lib.hid (O9.out.below hb (Nat.le_refl _))
  have V10 := Lib.hid (V9.out.below hb V9.out.lt)
  have Q10 := Lib.hid (Q9.out.below hb Q9.out.lt)
  have T10 := Lib.hid (T9.out.below hb T9.out.lt)
  have X10 := Lib.hid (X9.out.below hb (Nat.le_refl _))
  have D10 := Lib.hid (D9.out.below hb D9.out.lt)
  clear hb P9 C9 B9 I9 R9 O9 V9 Q9 T9 X9 D9
  have Z10 := Lib.hid ho
  clear ho
  have hlc := C10.out.lt
  have hb := below_new w10 (.cells #[.int .u32 (rt : Int), .int .u32 (rs : Int), .int .u16 (rn : Int), .int .u16 (ru : Int), .int .u32 (rf : Int), .slice Ay my cy] 43)
  have P11 := Lib.hid (P10.out.below hb P10.out.lt)
  have C11 := Lib.hid (C10.out.below hb C10.out.lt)
  have B11 := Lib.hid (below_then B10.out (Nat.le_refl _) hb)
  have I11 := Lib.hid (I10.out.below hb I10.out.lt)
  have R11 := Lib.hid (R10.out.below hb R10.out.lt)
  have O11 := Lib.hid (O10.out.below hb (Nat.le_refl _))
  have V11 := Lib.hid (V10.out.below hb V10.out.lt)
  have Q11 := Lib.hid (Q10.out.below hb Q10.out.lt)
  have T11 := Lib.hid (T10.out.below hb T10.out.lt)
  have X11 := Lib.hid (X10.out.below hb (Nat.le_refl _))
  have D11 := Lib.hid (D10.out.below hb D10.out.lt)
  have Z11 := Lib.hid (Z10.out.below hb (Nat.le_refl _))
  clear hb P10 C10 B10 I10 R10 O10 V10 Q10 T10 X10 D10 Z10
  have E11 := Lib.hid (Blk.new w10 43 #[.int .u32 (rt : Int), .int .u32 (rs : Int), .int .u16 (rn : Int), .int .u16 (ru : Int), .int .u32 (rf : Int), .slice Ay my cy])
  obtain ⟨g12, hg12⟩ : ∃ g, g = w10.heap.size := ⟨_, rfl⟩
  rw [← hg12] at E11
  have Hg12 := Lib.hid hg12
  have hlg12 : w.heap.size + 1 < g12 := by omega
  clear hlc
  clear hg12
  go_wp2_with fail
  rw [← Hg12.out]
  generalize w10.alloc (.cells #[.int .u32 (rt : Int), .int .u32 (rs : Int), .int .u16 (rn : Int), .int .u16 (ru : Int), .int .u32 (rf : Int), .slice Ay my cy] 43) = v11 at P11 C11 B11 I11 R11 O11 V11 Q11 T11 X11 D11 Z11 E11 ⊢
  clear Hg12
  rw [← drawn_eq 9]
  refine wp_region_grow_tail 21 (by kernel_rfl) [(Is (.agg #[.int .u8 (pk.toNat : Int), .int .u8 0, .slice Ap YD.length cp])), (Is (.int .u8 (pk.toNat : Int))), (Is (.agg #[.int .u32 (tag : Int), .int .u32 (rwnd : Int), .int .u16 (out : Int), .int .u16 (in_ : Int), .int .u32 (tsn : Int), .slice Ai ni ci])), (NewAgg 5 0 YD.length YD (fun s => .agg #[.int .u8 (pk.toNat : Int), .int .u8 ((0 : UInt8).toNat : Int), s])), (Is (.bool true)), (Is (.bool false)), (Is (.bool false)), (Is (.pointer (some ⟨g7, 5, none⟩))), (Is (.slice (some ⟨G1, 0, none⟩) ni (ni + 16 : Nat))), (Is (.pointer (some ⟨w.heap.size, 5, none⟩))), (Is (.slice Ai ni ci)), (Is (.bool true)), (Is (.bool false)), (Is (.bool false)), (Is (.bool false)), (Is (.pointer (some ⟨g9, 2, none⟩))), (Is (.slice (some ⟨G38, 0, none⟩) n (n + 16 : Nat))), (Is (.pointer (some ⟨w.heap.size + 1, 2, none⟩))), (Is (.slice A n c)), (Is (.bool true)), (Is (.bool false))] rfl ?_ (by kernel_rfl) (by kernel_rfl) ?_ ?_
  · intro p hp
    simp only [List.mem_cons, List.not_mem_nil, or_false] at hp
    rcases hp with rfl | rfl | rfl | rfl | rfl | rfl | rfl | rfl | rfl | rfl | rfl | rfl | rfl | rfl | rfl | rfl | rfl | rfl | rfl | rfl | rfl
    · exact Lasts.is _
    · exact Lasts.is _
    · exact Lasts.is _
    · exact Lasts.newAgg _ _ _ _ _
    · exact Lasts.is _
    · exact Lasts.is _
    · exact Lasts.is _
    · exact Lasts.is _
    · exact Lasts.is _
    · exact Lasts.is _
    · exact Lasts.is _
    · exact Lasts.is _
    · exact Lasts.is _
    · exact Lasts.is _
    · exact Lasts.is _
    · exact Lasts.is _
    · exact Lasts.is _
    · exact Lasts.is _
    · exact Lasts.is _
    · exact Lasts.is _
    · exact Lasts.is _
  · refine ⟨?_, ?_, ?_, ?_, ?_, ?_, ?_, ?_, ?_, ?_, ?_, ?_, ?_, ?_, ?_, ?_, ?_, ?_, ?_, ?_, ?_, trivial⟩
    · intro listed a w1 hl hc
      have h8 : a.tmps[8]?.getD undef = .pointer (some ⟨g8, 0, none⟩) := (hc.was 8 (by kernel_rfl)).trans rfl
      have kb := V11.out.below hc.g V11.out.lt
      have x0 : w1.cell? ⟨g8, 0, none⟩ = some (.int .u8 (pk.toNat : Int)) := kb.cell 0
      have x1 : w1.cell? ⟨g8, 1, none⟩ = some (.int .u8 0) := kb.cell 1
      have x2 : w1.cell? ⟨g8, 2, none⟩ = some (.slice Ap YD.length cp) := kb.cell 2
      clear kb
      refine does_value rfl rfl (.agg #[.int .u8 (pk.toNat : Int), .int .u8 0, .slice Ap YD.length cp]) w1 ?_ (Below.refl _ _) rfl
      clear hc hl
      go_simp
    · intro listed a w1 hl hc
      have h0 : a.tmps[0]?.getD undef = .int .u8 (pk.toNat : Int) := (hc.was 0 (by kernel_rfl)).trans rfl
      refine does_value rfl rfl (.int .u8 (pk.toNat : Int)) w1 ?_ (Below.refl _ _) rfl
      clear hc hl
      go_simp
    · intro listed a w1 hl hc
      have h4 : a.tmps[4]?.getD undef = .pointer (some ⟨w.heap.size, 0, none⟩) := (hc.was 4 (by kernel_rfl)).trans rfl
      have kb := P11.out.below hc.g P11.out.lt
      have x0 : w1.cell? ⟨w.heap.size, 0, none⟩ = some (.int .u32 (tag : Int)) := kb.cell 0
      have x1 : w1.cell? ⟨w.heap.size, 1, none⟩ = some (.int .u32 (rwnd : Int)) := kb.cell 1
      have x2 : w1.cell? ⟨w.heap.size, 2, none⟩ = some (.int .u16 (out : Int)) := kb.cell 2
      have x3 : w1.cell? ⟨w.heap.size, 3, none⟩ = some (.int .u16 (in_ : Int)) := kb.cell 3
      have x4 : w1.cell? ⟨w.heap.size, 4, none⟩ = some (.int .u32 (tsn : Int)) := kb.cell 4
      have x5 : w1.cell? ⟨w.heap.size, 5, none⟩ = some (.slice Ai ni ci) := kb.cell 5
      clear kb
      refine does_value rfl rfl (.agg #[.int .u32 (tag : Int), .int .u32 (rwnd : Int), .int .u16 (out : Int), .int .u16 (in_ : Int), .int .u32 (tsn : Int), .slice Ai ni ci]) w1 ?_ (Below.refl _ _) rfl
      clear hc hl
      go_simp
    · intro listed a w1 hl hc
      have h50 : a.tmps[50]?.getD undef = .int .u8 (pk.toNat : Int) := hc.dep hl 1 50 rfl (by kernel_rfl)
      have h51 : a.tmps[51]?.getD undef = .agg #[.int .u32 (tag : Int), .int .u32 (rwnd : Int), .int .u16 (out : Int), .int .u16 (in_ : Int), .int .u32 (tsn : Int), .slice Ai ni ci] := hc.dep hl 2 51 rfl (by kernel_rfl)
      refine does_call rfl rfl 26 #[.int .u8 (pk.toNat : Int), .agg #[.int .u32 (tag : Int), .int .u32 (rwnd : Int), .int .u16 (out : Int), .int .u16 (in_ : Int), .int .u32 (tsn : Int), .slice Ai ni ci]] ?_ ((HQD.out w1 (B11.out.trans (hc.g.mono B11.out.size))).mono fun e w' ⟨A9, c9, he, ho, hb⟩ => ⟨_, he, hb, A9, c9, rfl, ho.more (Nat.zero_le _)⟩)
      clear hc hl
      go_simp
    · intro listed a w1 hl hc
      have h49 : a.tmps[49]?.getD undef = .agg #[.int .u8 (pk.toNat : Int), .int .u8 0, .slice Ap YD.length cp] := hc.dep hl 0 49 rfl (by kernel_rfl)
      obtain ⟨A52, c52, h52, ho52⟩ := hc.dep hl 3 52 rfl (by kernel_rfl)
      refine does_call rfl rfl 18 #[.agg #[.int .u8 (pk.toNat : Int), .int .u8 0, .slice Ap YD.length cp], .agg #[.int .u8 (pk.toNat : Int), .int .u8 ((0 : UInt8).toNat : Int), .slice A52 YD.length c52]] ?_ ((HSM.out w1 pk 0 YD Ap A52 cp c52 _ _ (O11.out.below hc.g (Nat.le_refl _)) ho52).mono fun e w' ⟨he, hb⟩ => ⟨_, he, hb, rfl⟩)
      clear hc hl
      go_simp
    · intro listed a w1 hl hc
      have h53 : a.tmps[53]?.getD undef = .bool true := hc.dep hl 4 53 rfl (by kernel_rfl)
      refine does_value rfl rfl (.bool false) w1 ?_ (Below.refl _ _) rfl
      clear hc hl
      go_simp
    · intro listed a w1 hl hc
      have h54 : a.tmps[54]?.getD undef = .bool false := hc.dep hl 5 54 rfl (by kernel_rfl)
      refine does_value rfl rfl (.bool false) w1 ?_ (Below.refl _ _) rfl
      clear hc hl
      go_simp
    · intro listed a w1 hl hc
      have h7 : a.tmps[7]?.getD undef = .pointer (some ⟨g7, 0, none⟩) := (hc.was 7 (by kernel_rfl)).trans rfl
      refine does_value rfl (wanted_at rfl rfl (hc.dep hl 6 55 rfl (by kernel_rfl))) (.pointer (some ⟨g7, 5, none⟩)) w1 ?_ (Below.refl _ _) rfl
      clear hc hl
      go_simp
    · intro listed a w1 hl hc
      have h56 : a.tmps[56]?.getD undef = .pointer (some ⟨g7, 5, none⟩) := hc.dep hl 7 56 rfl (by kernel_rfl)
      have kb := I11.out.below hc.g I11.out.lt
      have x5 : w1.cell? ⟨g7, 5, none⟩ = some (.slice (some ⟨G1, 0, none⟩) ni (ni + 16 : Nat)) := kb.cell 5
      clear kb
      refine does_value rfl (wanted_at rfl rfl (hc.dep hl 6 55 rfl (by kernel_rfl))) (.slice (some ⟨G1, 0, none⟩) ni (ni + 16 : Nat)) w1 ?_ (Below.refl _ _) rfl
      clear hc hl
      go_simp
    · intro listed a w1 hl hc
      have h4 : a.tmps[4]?.getD undef = .pointer (some ⟨w.heap.size, 0, none⟩) := (hc.was 4 (by kernel_rfl)).trans rfl
      refine does_value rfl (wanted_at rfl rfl (hc.dep hl 6 55 rfl (by kernel_rfl))) (.pointer (some ⟨w.heap.size, 5, none⟩)) w1 ?_ (Below.refl _ _) rfl
      clear hc hl
      go_simp
    · intro listed a w1 hl hc
      have h58 : a.tmps[58]?.getD undef = .pointer (some ⟨w.heap.size, 5, none⟩) := hc.dep hl 9 58 rfl (by kernel_rfl)
      have kb := P11.out.below hc.g P11.out.lt
      have x5 : w1.cell? ⟨w.heap.size, 5, none⟩ = some (.slice Ai ni ci) := kb.cell 5
      clear kb
      refine does_value rfl (wanted_at rfl rfl (hc.dep hl 6 55 rfl (by kernel_rfl))) (.slice Ai ni ci) w1 ?_ (Below.refl _ _) rfl
      clear hc hl
      go_simp
    · intro listed a w1 hl hc
      have h57 : a.tmps[57]?.getD undef = .slice (some ⟨G1, 0, none⟩) ni (ni + 16 : Nat) := hc.dep hl 8 57 rfl (by kernel_rfl)
      have h59 : a.tmps[59]?.getD undef = .slice Ai ni ci := hc.dep hl 10 59 rfl (by kernel_rfl)
      refine does_call rfl (wanted_at rfl rfl (hc.dep hl 6 55 rfl (by kernel_rfl))) 20 #[.slice (some ⟨G1, 0, none⟩) ni (ni + 16 : Nat), .slice Ai ni ci] ?_ ((HKI.out w1 G1 (B11.out.trans (hc.g.mono B11.out.size)) (R11.out.below hc.g R11.out.lt)).mono fun e w' ⟨he, hb⟩ => ⟨_, he, hb, rfl⟩)
      clear hc hl
      go_simp
    · intro listed a w1 hl hc
      have h60 : a.tmps[60]?.getD undef = .bool true := hc.dep hl 11 60 rfl (by kernel_rfl)
      refine does_value rfl (wanted_at rfl rfl (hc.dep hl 6 55 rfl (by kernel_rfl))) (.bool false) w1 ?_ (Below.refl _ _) rfl
      clear hc hl
      go_simp
    · intro listed a w1 hl hc
      have h55 : a.tmps[55]?.getD undef = .bool false := hc.dep hl 6 55 rfl (by kernel_rfl)
      have h61 : a.tmps[61]?.getD undef = .bool false := hc.dep hl 12 61 rfl (by kernel_rfl)
      refine does_value rfl rfl (.bool false) w1 ?_ (Below.refl _ _) rfl
      clear hc hl
      go_simp
    · intro listed a w1 hl hc
      have h62 : a.tmps[62]?.getD undef = .bool false := hc.dep hl 13 62 rfl (by kernel_rfl)
      refine does_value rfl rfl (.bool false) w1 ?_ (Below.refl _ _) rfl
      clear hc hl
      go_simp
    · intro listed a w1 hl hc
      have h9 : a.tmps[9]?.getD undef = .pointer (some ⟨g9, 0, none⟩) := (hc.was 9 (by kernel_rfl)).trans rfl
      refine does_value rfl (wanted_at rfl rfl (hc.dep hl 14 63 rfl (by kernel_rfl))) (.pointer (some ⟨g9, 2, none⟩)) w1 ?_ (Below.refl _ _) rfl
      clear hc hl
      go_simp
    · intro listed a w1 hl hc
      have h64 : a.tmps[64]?.getD undef = .pointer (some ⟨g9, 2, none⟩) := hc.dep hl 15 64 rfl (by kernel_rfl)
      have kb := Q11.out.below hc.g Q11.out.lt
      have x2 : w1.cell? ⟨g9, 2, none⟩ = some (.slice (some ⟨G38, 0, none⟩) n (n + 16 : Nat)) := kb.cell 2
      clear kb
      refine does_value rfl (wanted_at rfl rfl (hc.dep hl 14 63 rfl (by kernel_rfl))) (.slice (some ⟨G38, 0, none⟩) n (n + 16 : Nat)) w1 ?_ (Below.refl _ _) rfl
      clear hc hl
      go_simp
    · intro listed a w1 hl hc
      have h5 : a.tmps[5]?.getD undef = .pointer (some ⟨w.heap.size + 1, 0, none⟩) := (hc.was 5 (by kernel_rfl)).trans rfl
      refine does_value rfl (wanted_at rfl rfl (hc.dep hl 14 63 rfl (by kernel_rfl))) (.pointer (some ⟨w.heap.size + 1, 2, none⟩)) w1 ?_ (Below.refl _ _) rfl
      clear hc hl
      go_simp
    · intro listed a w1 hl hc
      have h66 : a.tmps[66]?.getD undef = .pointer (some ⟨w.heap.size + 1, 2, none⟩) := hc.dep hl 17 66 rfl (by kernel_rfl)
      have kb := C11.out.below hc.g C11.out.lt
      have x2 : w1.cell? ⟨w.heap.size + 1, 2, none⟩ = some (.slice A n c) := kb.cell 2
      clear kb
      refine does_value rfl (wanted_at rfl rfl (hc.dep hl 14 63 rfl (by kernel_rfl))) (.slice A n c) w1 ?_ (Below.refl _ _) rfl
      clear hc hl
      go_simp
    · intro listed a w1 hl hc
      have h65 : a.tmps[65]?.getD undef = .slice (some ⟨G38, 0, none⟩) n (n + 16 : Nat) := hc.dep hl 16 65 rfl (by kernel_rfl)
      have h67 : a.tmps[67]?.getD undef = .slice A n c := hc.dep hl 18 67 rfl (by kernel_rfl)
      refine does_call rfl (wanted_at rfl rfl (hc.dep hl 14 63 rfl (by kernel_rfl))) 20 #[.slice (some ⟨G38, 0, none⟩) n (n + 16 : Nat), .slice A n c] ?_ ((HKP.out w1 G38 (B11.out.trans (hc.g.mono B11.out.size)) (T11.out.below hc.g T11.out.lt)).mono fun e w' ⟨he, hb⟩ => ⟨_, he, hb, rfl⟩)
      clear hc hl
      go_simp
    · intro listed a w1 hl hc
      have h68 : a.tmps[68]?.getD undef = .bool true := hc.dep hl 19 68 rfl (by kernel_rfl)
      refine does_value rfl (wanted_at rfl rfl (hc.dep hl 14 63 rfl (by kernel_rfl))) (.bool false) w1 ?_ (Below.refl _ _) rfl
      clear hc hl
      go_simp
  intro w2 hb2
  rintro _ rfl _ rfl _ rfl _ ⟨A52, c52, rfl, ho52⟩ _ rfl _ rfl _ rfl _ rfl _ rfl _ rfl _ rfl _ rfl _ rfl _ rfl _ rfl _ rfl _ rfl _ rfl _ rfl _ rfl _ rfl
  simp only [Thus, List.reverse_cons, List.reverse_nil, List.nil_append, List.cons_append, List.drop, List.take, lay]
  go_frame
  have P12 := Lib.hid (P11.out.below hb2 P11.out.lt)
  have C12 := Lib.hid (C11.out.below hb2 C11.out.lt)
  have B12 := Lib.hid (below_then B11.out (Nat.le_refl _) hb2)
  have I12 := Lib.hid (I11.out.below hb2 I11.out.lt)
  have R12 := Lib.hid (R11.out.below hb2 R11.out.lt)
  have O12 := Lib.hid (O11.out.below hb2 (Nat.le_refl _))
  have V12 := Lib.hid (V11.out.below hb2 V11.out.lt)
  have Q12 := Lib.hid (Q11.out.below hb2 Q11.out.lt)
  have T12 := Lib.hid (T11.out.below hb2 T11.out.lt)
  have X12 := Lib.hid (X11.out.below hb2 (Nat.le_refl _))
  have D12 := Lib.hid (D11.out.below hb2 D11.out.lt)
  have Z12 := Lib.hid (Z11.out.below hb2 (Nat.le_refl _))
  have E12 := Lib.hid (E11.out.below hb2 E11.out.lt)
  clear hb2 P11 C11 B11 I11 R11 O11 V11 Q11 T11 X11 D11 Z11 E11
  generalize w2 = u2 at P12 C12 B12 I12 R12 O12 V12 Q12 T12 X12 D12 Z12 E12 ⊢
  have x0 := D12.out.cell 0
  have x1 := D12.out.cell 1
  have x2 := D12.out.cell 2
  have x3 := D12.out.cell 3
  have x4 := D12.out.cell 4
  have x5 := D12.out.cell 5
  have y0 := E12.out.cell 0
  have y1 := E12.out.cell 1
  have y2 := E12.out.cell 2
  have y3 := E12.out.cell 3
  have y4 := E12.out.cell 4
  have y5 := E12.out.cell 5
  go_wp2_with fail
  clear x0 x1 x2 x3 x4 x5 y0 y1 y2 y3 y4 y5
  refine (HSD.out u2 Ax Ay mx cx my cy _ _ X12.out Z12.out).mono ?_
  rintro e w13 ⟨rfl, hb⟩
  have P13 := Lib.hid (P12.out.below hb P12.out.lt)
  have C13 := Lib.hid (C12.out.below hb C12.out.lt)
  have B13 := Lib.hid (below_then B12.out (Nat.le_refl _) hb)
  have I13 := Lib.hid (I12.out.below hb I12.out.lt)
  have R13 := Lib.hid (R12.out.below hb R12.out.lt)
  have O13 := Lib.hid (O12.out.below hb (Nat.le_refl _))
  have V13 := Lib.hid (V12.out.below hb V12.out.lt)
  have Q13 := Lib.hid (Q12.out.below hb Q12.out.lt)
  have T13 := Lib.hid (T12.out.below hb T12.out.lt)
  have X13 := Lib.hid (X12.out.below hb (Nat.le_refl _))
  have D13 := Lib.hid (D12.out.below hb D12.out.lt)
  have Z13 := Lib.hid (Z12.out.below hb (Nat.le_refl _))
  have E13 := Lib.hid (E12.out.below hb E12.out.lt)
  clear hb P12 C12 B12 I12 R12 O12 V12 Q12 T12 X12 D12 Z12 E12
  have x2 : w13.cell? ⟨g8, 2, none⟩ = some (.slice Ap YD.length cp) := V13.out.cell 2
  have y6 : w13.cell? ⟨g7, 5, none⟩ = some (.slice (some ⟨G1, 0, none⟩) ni (ni + 16 : Nat)) := I13.out.cell 5
  have u6 : w13.cell? ⟨g10, 5, none⟩ = some (.slice Ax mx cx) := D13.out.cell 5
  have t2 : w13.cell? ⟨g9, 2, none⟩ = some (.slice (some ⟨G38, 0, none⟩) n (n + 16 : Nat)) := Q13.out.cell 2
  go_wp2_with fail
  clear x2 y6 u6 t2
  refine (apart4 O13.out (own_in (base := 0) R13.out HXD.out (Nat.zero_le _) (by omega)) X13.out (own_in (base := 0) T13.out HXL.out (Nat.zero_le _) (by omega)) FPI.out.symm FPX.out FPQ.out FIX.out FIQ.out FQX.out.symm 4).mono ?_
  rintro e w8 ⟨rfl, hb⟩
  have BE := Lib.hid (below_then B13.out (Nat.le_refl _) hb)
  clear hb
  go_wp2_with fail
  refine (works_any _).mono ?_
  rintro e w9 ⟨rfl, hb⟩
  go_wp2_with fail
  go_ret
  exact ⟨rfl, below_then BE.out (Nat.le_refl _) hb⟩
theorem bodiesInit_walk (p0 : Int) (tag rwnd out in_ tsn : Nat) (Ai : Option Addr) (ni ci : Nat) (ck : List UInt8) (b0 b1 : Int) (A : Option Addr) (n c : Nat) (xs : List UInt8) (w : World) (h0 : (Lit.int .u8 p0).wf = true) (g1 : tag < 4294967296) (g2 : rwnd < 4294967296) (g3 : out < 65536) (g4 : in_ < 65536) (g5 : tsn < 4294967296) (hc2 : ni ≤ ci) (hcm2 : ci ≤ maxLen) (hx2 : ck.length = ni) (hr2 : Rd w w.heap.size Ai ck) (h3 : (Lit.int .u8 b0).wf = true) (h4 : (Lit.int .u8 b1).wf = true) (hc : n ≤ c) (hcm : c ≤ maxLen) (hx : xs.length = n) (hr : Rd w w.heap.size A xs) :
    Calls Try.prog 4 #[.int .u8 p0, .agg #[.int .u32 (tag : Int), .int .u32 (rwnd : Int), .int .u16 (out : Int), .int .u16 (in_ : Int), .int .u32 (tsn : Int), .slice Ai ni ci], .agg #[.int .u8 b0, .int .u8 b1, .slice A n c]] w fun e w' => e = .returned (.bool true) ∧ Below w.heap.size w w' := by
  obtain ⟨pk, rfl⟩ := byte_of h0
  obtain ⟨k, rfl⟩ := byte_of h3
  obtain ⟨f, rfl⟩ := byte_of h4
  by_cases h : 8192 < n
  · exact bodiesInit_big pk tag rwnd out in_ tsn Ai ni ci ck k f A n c xs w g1 g2 g3 g4 g5 hc2 hcm2 hx2 hr2 hc hcm hx hr h
  · by_cases h2 : 8192 < ni
    · exact bodiesInit_long pk tag rwnd out in_ tsn Ai ni ci ck k f A n c xs w g1 g2 g3 g4 g5 hc2 hcm2 hx2 hr2 hc hcm hx hr (by omega) h2
    · exact bodiesInit_small pk tag rwnd out in_ tsn Ai ni ci ck k f A n c xs w g1 g2 g3 g4 g5 hc2 hcm2 hx2 hr2 hc hcm hx hr (by omega) (by omega)
end Go.Proofs.Ytalgkokgaibloaa
