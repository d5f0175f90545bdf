/-
  BodiesBack, walked: no1.
-/
import Derived.Test.YtalgkokgaibloaaBodL6c
namespace Go.Proofs.Ytalgkokgaibloaa
open Go.RowKit
set_option linter.unusedVariables false

set_option maxRecDepth 100000 in
set_option maxHeartbeats 4000000 in
theorem bodiesBack_no1 (x : AX) (w : World) (hx : x.In w) (hb : ¬ (2048 < x.ng ∨ 2048 < x.nu ∨ 2048 < x.ns)) (hb2 : x.nd ≤ 8192) (hb3 : x.ni ≤ 8192) (hv : x.ack = false) (hv2 : 0 < x.ni) :
    Calls Try.prog 8 #[.agg #[.bool x.ack, .int .u32 (x.tsn : Int), .int .u16 (x.stream : Int), .int .u16 (x.ssn : Int), .bool x.un, .bool x.fi, .bool x.la, .slice x.Ad x.nd x.cd, .int .u32 (x.tag : Int), .int .u32 (x.rwnd : Int), .int .u16 (x.out : Int), .int .u16 (x.in_ : Int), .int .u32 (x.tsn2 : Int), .slice x.Ai x.ni x.ci, .int .u32 (x.cum : Int), .int .u32 (x.rwnd2 : Int), .slice x.Ag x.ng x.cg, .slice x.Au x.nu x.cu, .int .u32 (x.fcum : Int), .slice x.As x.ns x.cs, .int .i64 x.t, .int .u32 (x.cum2 : Int)]] w fun e w' => e = .returned (.bool true) ∧ Below w.heap.size w w' := by
  obtain ⟨ack, tsn, stream, ssn, un, fi, la, Ad, nd, cd, ds, tag, rwnd, out, in_, tsn2, Ai, ni, ci, ck, cum, rwnd2, Ag, ng, cg, gaps, Au, nu, cu, dups, fcum, As, ns, cs, skips, t, cum2⟩ := x
  obtain ⟨h1, h2, h3, h4, h5, h6, h7, h8, h9, h10, h11, ht, h12, ⟨hd1, hd2, hdl, hdr⟩, ⟨hi1, hi2, hil, hir⟩, ⟨hg1, hg2, hgl, hgr, hgb⟩, ⟨hu1, hu2, hul, hur, hub⟩, ⟨hs1, hs2, hsl, hsr, hsb⟩⟩ := hx
  simp only at h1 h2 h3 h4 h5 h6 h7 h8 h9 h10 h11 h12 ht hd1 hd2 hdl hdr hi1 hi2 hil hir hg1 hg2 hgl hgr hgb hu1 hu2 hul hur hub hs1 hs2 hsl hsr hsb hb hb2 hb3 hv hv2 ⊢
  have HMN : Hid (∀ W, Calls Try.prog 28 #[.agg #[.int .u32 (cum : Int), .int .u32 (rwnd2 : Int), .slice Ag ng cg, .slice Au nu cu], .agg #[.int .u32 (fcum : Int), .slice As ns cs]] W fun e w' => e = .returned (.bool false) ∧ Below W.heap.size W w') := Lib.hid fun W => by
    have := many_any (cum : Int) (rwnd2 : Int) (fcum : Int) Ag Au As ng cg nu cu ns cs W (Nat.le_trans hg1 hg2) (Nat.le_trans hu1 hu2) (Nat.le_trans hs1 hs2)
    rwa [decide_eq_false hb] at this
  have HPD : Hid (∀ W, Below w.heap.size w W → Puts 15 #[.agg #[.int .u32 (tsn : Int), .int .u16 (stream : Int), .int .u16 (ssn : Int), .bool un, .bool fi, .bool la, .slice Ad nd cd]] 0 (flagsD un fi la) (bodyD ⟨tsn, stream, ssn, un, fi, la, ds⟩) W) := Lib.hid fun W hW => putData_any tsn stream ssn un fi la ds h1 h2 h3 Ad nd cd W (by omega) hdl ((hdr.below hW).more hW.size)
  have HPI : Hid (∀ W, Below w.heap.size w W → Puts 23 #[.int .u8 1, .agg #[.int .u32 (tag : Int), .int .u32 (rwnd : Int), .int .u16 (out : Int), .int .u16 (in_ : Int), .int .u32 (tsn2 : Int), .slice none 0 0]] 1 0 (bodyI 1 ⟨tag, rwnd, out, in_, tsn2, []⟩) W) := Lib.hid fun W hW => putInit_no 1 (by decide) tag rwnd out in_ tsn2 [] h4 h5 h6 h7 h8 none 0 0 W (by omega) rfl (Rd.nil _ _ _)
  have HPS : Hid (∀ W, Below w.heap.size w W → Puts 29 #[.agg #[.int .u32 (cum : Int), .int .u32 (rwnd2 : Int), .slice Ag ng cg, .slice Au nu cu]] 3 0 (bodyS ⟨cum, rwnd2, gaps, dups⟩) W) := Lib.hid fun W hW => putSack_any cum rwnd2 gaps dups h9 h10 hgb hub Ag Au ng cg nu cu W (by omega) (by omega) hgl hul ((hgr.below_ hW).more (Nat.le_refl _) hW.size) ((hur.below hW).more hW.size)
  have HPF : Hid (∀ W, Below w.heap.size w W → Puts 34 #[.agg #[.int .u32 (fcum : Int), .slice As ns cs]] 192 0 (bodyF ⟨fcum, skips⟩) W) := Lib.hid fun W hW => putForward_any fcum skips h11 hsb As ns cs W (by omega) hsl ((hsr.below_ hW).more (Nat.le_refl _) hW.size)
  have HP4 : Hid (∀ W, Puts 43 #[.int .u8 4, .int .i64 t] 4 0 (bodyT (t % 18446744073709551616).toNat) W) := Lib.hid fun W => putTime_any 4 t ht W
  have HP5 : Hid (∀ W, Puts 43 #[.int .u8 5, .int .i64 t] 5 0 (bodyT (t % 18446744073709551616).toNat) W) := Lib.hid fun W => putTime_any 5 t ht W
  have HPC : Hid (∀ W, Puts 45 #[.int .u32 (cum2 : Int)] 7 0 (enc cum2 4) W) := Lib.hid fun W => putCum_any cum2 h12 W
  have HGD : Hid (∀ (W : World) (A : Option Addr) (c b : Nat), Own8 W 5 b A (bodyD ⟨tsn, stream, ssn, un, fi, la, ds⟩).length c (bodyD ⟨tsn, stream, ssn, un, fi, la, ds⟩) → Calls Try.prog 16 #[.agg #[.int .u8 0, .int .u8 ((flagsD un fi la).toNat : Int), .slice A (bodyD ⟨tsn, stream, ssn, un, fi, la, ds⟩).length c]] W fun e w' => ∃ A2 m2 c2, e = .returned (.tuple #[.agg #[.int .u32 ((ansD 0 (flagsD un fi la) (bodyD ⟨tsn, stream, ssn, un, fi, la, ds⟩)).tsn : Int), .int .u16 ((ansD 0 (flagsD un fi la) (bodyD ⟨tsn, stream, ssn, un, fi, la, ds⟩)).stream : Int), .int .u16 ((ansD 0 (flagsD un fi la) (bodyD ⟨tsn, stream, ssn, un, fi, la, ds⟩)).ssn : Int), .bool (ansD 0 (flagsD un fi la) (bodyD ⟨tsn, stream, ssn, un, fi, la, ds⟩)).un, .bool (ansD 0 (flagsD un fi la) (bodyD ⟨tsn, stream, ssn, un, fi, la, ds⟩)).fi, .bool (ansD 0 (flagsD un fi la) (bodyD ⟨tsn, stream, ssn, un, fi, la, ds⟩)).la, .slice A2 m2 c2], .int .i64 (errOf (okD 0 (flagsD un fi la) (bodyD ⟨tsn, stream, ssn, un, fi, la, ds⟩)))]) ∧ Own8 w' 5 W.heap.size A2 m2 c2 (ansD 0 (flagsD un fi la) (bodyD ⟨tsn, stream, ssn, un, fi, la, ds⟩)).bytes ∧ Below W.heap.size W w') := Lib.hid fun W A c b ho => getData_any 0 (flagsD un fi la) A _ c _ W (by rw [length_bodyD]; simp only; omega) ho.cap.1 ho.cap.2 rfl ho.rd
  have HGI : Hid (∀ (W : World) (A : Option Addr) (c b : Nat), Own8 W 5 b A (bodyI 1 ⟨tag, rwnd, out, in_, tsn2, []⟩).length c (bodyI 1 ⟨tag, rwnd, out, in_, tsn2, []⟩) → Calls Try.prog 24 #[.agg #[.int .u8 1, .int .u8 0, .slice A (bodyI 1 ⟨tag, rwnd, out, in_, tsn2, []⟩).length c]] W fun e w' => ∃ A2 m2 c2, e = .returned (.tuple #[.agg #[.int .u32 ((ansI 1 0 (bodyI 1 ⟨tag, rwnd, out, in_, tsn2, []⟩)).tag : Int), .int .u32 ((ansI 1 0 (bodyI 1 ⟨tag, rwnd, out, in_, tsn2, []⟩)).rwnd : Int), .int .u16 ((ansI 1 0 (bodyI 1 ⟨tag, rwnd, out, in_, tsn2, []⟩)).out : Int), .int .u16 ((ansI 1 0 (bodyI 1 ⟨tag, rwnd, out, in_, tsn2, []⟩)).in_ : Int), .int .u32 ((ansI 1 0 (bodyI 1 ⟨tag, rwnd, out, in_, tsn2, []⟩)).tsn : Int), .slice A2 m2 c2], .int .i64 (errOf (okI 1 0 (bodyI 1 ⟨tag, rwnd, out, in_, tsn2, []⟩)))]) ∧ Own8 w' 5 W.heap.size A2 m2 c2 (ansI 1 0 (bodyI 1 ⟨tag, rwnd, out, in_, tsn2, []⟩)).cookie ∧ Below W.heap.size W w') := Lib.hid fun W A c b ho => getInit_any 1 0 A _ c _ W (by rw [length_bodyI]; rw [if_neg (by decide)]; omega) ho.cap.1 ho.cap.2 rfl ho.rd
  have HGS : Hid (∀ (W : World) (A : Option Addr) (c b : Nat), Own8 W 5 b A (bodyS ⟨cum, rwnd2, gaps, dups⟩).length c (bodyS ⟨cum, rwnd2, gaps, dups⟩) → Calls Try.prog 30 #[.agg #[.int .u8 3, .int .u8 0, .slice A (bodyS ⟨cum, rwnd2, gaps, dups⟩).length c]] W fun e w' => ∃ A2 m2 c2 D2 p2 e2, e = .returned (.tuple #[.agg #[.int .u32 ((ansS 3 0 (bodyS ⟨cum, rwnd2, gaps, dups⟩)).cum : Int), .int .u32 ((ansS 3 0 (bodyS ⟨cum, rwnd2, gaps, dups⟩)).rwnd : Int), .slice A2 m2 c2, .slice D2 p2 e2], .int .i64 (errOf (okS 3 0 (bodyS ⟨cum, rwnd2, gaps, dups⟩)))]) ∧ Og w' 79 W.heap.size (.slice A2 m2 c2) (ansS 3 0 (bodyS ⟨cum, rwnd2, gaps, dups⟩)).gaps ∧ m2 = (ansS 3 0 (bodyS ⟨cum, rwnd2, gaps, dups⟩)).gaps.length ∧ Ow w' 22 W.heap.size (.slice D2 p2 e2) (ints (ansS 3 0 (bodyS ⟨cum, rwnd2, gaps, dups⟩)).dups) ∧ p2 = (ansS 3 0 (bodyS ⟨cum, rwnd2, gaps, dups⟩)).dups.length ∧ Below W.heap.size W w') := Lib.hid fun W A c b ho => getSack_any 3 0 A _ c _ W (by rw [length_bodyS]; simp only; omega) ho.cap.1 ho.cap.2 rfl ho.rd
  have HGF : Hid (∀ (W : World) (A : Option Addr) (c b : Nat), Own8 W 5 b A (bodyF ⟨fcum, skips⟩).length c (bodyF ⟨fcum, skips⟩) → Calls Try.prog 35 #[.agg #[.int .u8 192, .int .u8 0, .slice A (bodyF ⟨fcum, skips⟩).length c]] W fun e w' => ∃ A2 m2 c2, e = .returned (.tuple #[.agg #[.int .u32 ((ansF 192 0 (bodyF ⟨fcum, skips⟩)).cum : Int), .slice A2 m2 c2], .int .i64 (errOf (okF 192 0 (bodyF ⟨fcum, skips⟩)))]) ∧ Og w' 104 W.heap.size (.slice A2 m2 c2) (ansF 192 0 (bodyF ⟨fcum, skips⟩)).skips ∧ m2 = (ansF 192 0 (bodyF ⟨fcum, skips⟩)).skips.length ∧ Below W.heap.size W w') := Lib.hid fun W A c b ho => getForward_any 192 0 A _ c _ W (by rw [length_bodyF]; simp only; omega) ho.cap.1 ho.cap.2 rfl ho.rd
  have HG4 : Hid (∀ (W : World) (A : Option Addr) (c b : Nat), Own8 W 5 b A (bodyT (t % 18446744073709551616).toNat).length c (bodyT (t % 18446744073709551616).toNat) → Calls Try.prog 39 #[.agg #[.int .u8 4, .int .u8 0, .slice A (bodyT (t % 18446744073709551616).toNat).length c]] W fun e w' => e = .returned (.tuple #[.int .i64 t, .int .i64 0]) ∧ Below W.heap.size W w') := Lib.hid fun W A c b ho => by
    have := getTime_any 4 0 A _ c _ W (by rw [length_bodyT]; omega) ho.cap.1 ho.cap.2 rfl ho.rd
    rw [ansT_put 4 (by decide) t ht, okT_put 4 (by decide) _ (by omega)] at this
    exact this
  have HG5 : Hid (∀ (W : World) (A : Option Addr) (c b : Nat), Own8 W 5 b A (bodyT (t % 18446744073709551616).toNat).length c (bodyT (t % 18446744073709551616).toNat) → Calls Try.prog 39 #[.agg #[.int .u8 5, .int .u8 0, .slice A (bodyT (t % 18446744073709551616).toNat).length c]] W fun e w' => e = .returned (.tuple #[.int .i64 t, .int .i64 0]) ∧ Below W.heap.size W w') := Lib.hid fun W A c b ho => by
    have := getTime_any 5 0 A _ c _ W (by rw [length_bodyT]; omega) ho.cap.1 ho.cap.2 rfl ho.rd
    rw [ansT_put 5 (by decide) t ht, okT_put 5 (by decide) _ (by omega)] at this
    exact this
  have HGC : Hid (∀ (W : World) (A : Option Addr) (c b : Nat), Own8 W 5 b A (enc cum2 4).length c (enc cum2 4) → Calls Try.prog 41 #[.agg #[.int .u8 7, .int .u8 0, .slice A (enc cum2 4).length c]] W fun e w' => e = .returned (.tuple #[.int .u32 (cum2 : Int), .int .i64 0]) ∧ Below W.heap.size W w') := Lib.hid fun W A c b ho => by
    have := getCum_any 7 0 A _ c _ W (by rw [length_enc]; omega) ho.cap.1 ho.cap.2 rfl ho.rd
    rw [ansC_put cum2 h12, okC_put cum2 h12] at this
    exact this
  have HED : Hid ((0 < nd → okD 0 (flagsD un fi la) (bodyD ⟨tsn, stream, ssn, un, fi, la, ds⟩) = true) ∧ (¬ 0 < nd → okD 0 (flagsD un fi la) (bodyD ⟨tsn, stream, ssn, un, fi, la, ds⟩) = false)) := Lib.hid ⟨fun h => by rw [okD_put ⟨tsn, stream, ssn, un, fi, la, ds⟩ ⟨h1, h2, h3⟩]; simp only; rw [hdl]; exact decide_eq_true h, fun h => by rw [okD_put ⟨tsn, stream, ssn, un, fi, la, ds⟩ ⟨h1, h2, h3⟩]; simp only; rw [hdl]; exact decide_eq_false h⟩
  have HSD : Hid (0 < nd → ∀ (W : World) (A2 : Option Addr) (m2 c2 b : Nat), Below w.heap.size w W → Own8 W 5 b A2 m2 c2 (ansD 0 (flagsD un fi la) (bodyD ⟨tsn, stream, ssn, un, fi, la, ds⟩)).bytes → Calls Try.prog 21 #[.agg #[.int .u32 ((ansD 0 (flagsD un fi la) (bodyD ⟨tsn, stream, ssn, un, fi, la, ds⟩)).tsn : Int), .int .u16 ((ansD 0 (flagsD un fi la) (bodyD ⟨tsn, stream, ssn, un, fi, la, ds⟩)).stream : Int), .int .u16 ((ansD 0 (flagsD un fi la) (bodyD ⟨tsn, stream, ssn, un, fi, la, ds⟩)).ssn : Int), .bool (ansD 0 (flagsD un fi la) (bodyD ⟨tsn, stream, ssn, un, fi, la, ds⟩)).un, .bool (ansD 0 (flagsD un fi la) (bodyD ⟨tsn, stream, ssn, un, fi, la, ds⟩)).fi, .bool (ansD 0 (flagsD un fi la) (bodyD ⟨tsn, stream, ssn, un, fi, la, ds⟩)).la, .slice A2 m2 c2], .agg #[.int .u32 (tsn : Int), .int .u16 (stream : Int), .int .u16 (ssn : Int), .bool un, .bool fi, .bool la, .slice Ad nd cd]] W fun e w' => e = .returned (.bool true) ∧ Below W.heap.size W w') := Lib.hid fun h0 W A2 m2 c2 b hW ho => by
    have ha := ansD_put ⟨tsn, stream, ssn, un, fi, la, ds⟩ ⟨h1, h2, h3⟩ (by simp only; omega)
    rw [ha] at ho ⊢
    exact sameD_yes _ _ _ _ _ _ A2 Ad m2 c2 nd cd ds W ho.len hdl (by have := ho.len; simp only at this; omega) ho.rd ((hdr.below hW).more hW.size)
  have HEI : Hid ((tag = 0 ∨ out = 0 ∨ in_ = 0 → okI 1 0 (bodyI 1 ⟨tag, rwnd, out, in_, tsn2, []⟩) = false) ∧ (tag ≠ 0 → out ≠ 0 → in_ ≠ 0 → okI 1 0 (bodyI 1 ⟨tag, rwnd, out, in_, tsn2, []⟩) = true)) := Lib.hid ⟨fun h => by
    rw [okI_put 1 (.inl rfl) ⟨tag, rwnd, out, in_, tsn2, []⟩ ⟨h4, h5, h6, h7, h8⟩ (by simp)]
    refine decide_eq_false ?_
    rintro ⟨a, b, d, _⟩
    simp only at a b d
    omega, fun a b d => by
    rw [okI_put 1 (.inl rfl) ⟨tag, rwnd, out, in_, tsn2, []⟩ ⟨h4, h5, h6, h7, h8⟩ (by simp)]
    exact decide_eq_true ⟨a, b, d, .inl rfl⟩⟩
  have HSI : Hid (okI 1 0 (bodyI 1 ⟨tag, rwnd, out, in_, tsn2, []⟩) = true → ∀ (W : World) (A2 : Option Addr) (m2 c2 b : Nat), Below w.heap.size w W → Own8 W 5 b A2 m2 c2 (ansI 1 0 (bodyI 1 ⟨tag, rwnd, out, in_, tsn2, []⟩)).cookie → Calls Try.prog 27 #[.agg #[.int .u32 ((ansI 1 0 (bodyI 1 ⟨tag, rwnd, out, in_, tsn2, []⟩)).tag : Int), .int .u32 ((ansI 1 0 (bodyI 1 ⟨tag, rwnd, out, in_, tsn2, []⟩)).rwnd : Int), .int .u16 ((ansI 1 0 (bodyI 1 ⟨tag, rwnd, out, in_, tsn2, []⟩)).out : Int), .int .u16 ((ansI 1 0 (bodyI 1 ⟨tag, rwnd, out, in_, tsn2, []⟩)).in_ : Int), .int .u32 ((ansI 1 0 (bodyI 1 ⟨tag, rwnd, out, in_, tsn2, []⟩)).tsn : Int), .slice A2 m2 c2], .agg #[.int .u32 (tag : Int), .int .u32 (rwnd : Int), .int .u16 (out : Int), .int .u16 (in_ : Int), .int .u32 (tsn2 : Int), .slice none 0 0]] W fun e w' => e = .returned (.bool true) ∧ Below W.heap.size W w') := Lib.hid fun ho0 W A2 m2 c2 b hW ho => by
    have ha : (ansI 1 0 (bodyI 1 ⟨tag, rwnd, out, in_, tsn2, []⟩)) = ⟨tag, rwnd, out, in_, tsn2, []⟩ := by rw [ansI_put 1 (.inl rfl) ⟨tag, rwnd, out, in_, tsn2, []⟩ ⟨h4, h5, h6, h7, h8⟩ (by simp) ho0, if_neg (by decide)]
    rw [ha] at ho ⊢
    exact sameI_yes _ _ _ _ _ A2 none m2 c2 0 0 [] W ho.len rfl (by have h9 := ho.len; first | omega | (simp at h9; omega)) ho.rd (Rd.nil _ _ _)
  have HES : Hid (okS 3 0 (bodyS ⟨cum, rwnd2, gaps, dups⟩) = apartG 0 gaps) := Lib.hid (okS_put ⟨cum, rwnd2, gaps, dups⟩ ⟨h9, h10, hgb, hub⟩ (by simp only; omega) (by simp only; omega))
  have HSS : Hid (apartG 0 gaps = true → ∀ (W : World) (A2 : Option Addr) (m2 c2 b : Nat) (D2 : Option Addr) (p2 e2 b2 : Nat), Below w.heap.size w W → Og W 79 b (.slice A2 m2 c2) (ansS 3 0 (bodyS ⟨cum, rwnd2, gaps, dups⟩)).gaps → m2 = (ansS 3 0 (bodyS ⟨cum, rwnd2, gaps, dups⟩)).gaps.length → Ow W 22 b2 (.slice D2 p2 e2) (ints (ansS 3 0 (bodyS ⟨cum, rwnd2, gaps, dups⟩)).dups) → p2 = (ansS 3 0 (bodyS ⟨cum, rwnd2, gaps, dups⟩)).dups.length → Calls Try.prog 33 #[.agg #[.int .u32 ((ansS 3 0 (bodyS ⟨cum, rwnd2, gaps, dups⟩)).cum : Int), .int .u32 ((ansS 3 0 (bodyS ⟨cum, rwnd2, gaps, dups⟩)).rwnd : Int), .slice A2 m2 c2, .slice D2 p2 e2], .agg #[.int .u32 (cum : Int), .int .u32 (rwnd2 : Int), .slice Ag ng cg, .slice Au nu cu]] W fun e w' => e = .returned (.bool true) ∧ Below W.heap.size W w') := Lib.hid fun h0 W A2 m2 c2 b D2 p2 e2 b2 hW ho hm hp hq => by
    have ha := ansS_put ⟨cum, rwnd2, gaps, dups⟩ ⟨h9, h10, hgb, hub⟩ (by simp only; omega) (by simp only; omega) h0
    rw [ha] at ho hm hp hq ⊢
    simp only at hm hq
    exact sameS_yes _ _ A2 Ag D2 Au m2 c2 ng cg p2 e2 nu cu gaps (ints dups) W (by omega) (by omega) hm.symm hgl (by rw [length_ints]; exact hq.symm) (by rw [length_ints]; exact hul) ho.rg ((hgr.below_ hW).more (Nat.le_refl _) hW.size) hp.ri ((hur.below hW).more hW.size)
  have HEF : Hid (okF 192 0 (bodyF ⟨fcum, skips⟩) = true) := Lib.hid (okF_put ⟨fcum, skips⟩ ⟨h11, hsb⟩)
  have HSF : Hid (∀ (W : World) (A2 : Option Addr) (m2 c2 b : Nat), Below w.heap.size w W → Og W 104 b (.slice A2 m2 c2) (ansF 192 0 (bodyF ⟨fcum, skips⟩)).skips → m2 = (ansF 192 0 (bodyF ⟨fcum, skips⟩)).skips.length → Calls Try.prog 38 #[.agg #[.int .u32 ((ansF 192 0 (bodyF ⟨fcum, skips⟩)).cum : Int), .slice A2 m2 c2], .agg #[.int .u32 (fcum : Int), .slice As ns cs]] W fun e w' => e = .returned (.bool true) ∧ Below W.heap.size W w') := Lib.hid fun W A2 m2 c2 b hW ho hm => by
    have ha := ansF_put ⟨fcum, skips⟩ ⟨h11, hsb⟩
    rw [ha] at ho hm ⊢
    simp only at hm
    exact sameF_yes _ A2 As m2 c2 ns cs skips W (by omega) hm.symm hsl ho.rg ((hsr.below_ hW).more (Nat.le_refl _) hW.size)
  have hlD : (bodyD ⟨tsn, stream, ssn, un, fi, la, ds⟩).length = 12 + nd := by rw [length_bodyD]; simp only; rw [hdl]
  clear hlD
  obtain ⟨FL, eFL⟩ : ∃ Y, Y = flagsD un fi la := ⟨_, rfl⟩
  rw [← eFL] at HPD HGD HED HSD
  obtain ⟨YD, eYD⟩ : ∃ Y, Y = bodyD ⟨tsn, stream, ssn, un, fi, la, ds⟩ := ⟨_, rfl⟩
  rw [← eYD] at HPD HGD HED HSD
  obtain ⟨YI, eYI⟩ : ∃ Y, Y = bodyI 1 ⟨tag, rwnd, out, in_, tsn2, []⟩ := ⟨_, rfl⟩
  rw [← eYI] at HPI HGI HEI HSI
  obtain ⟨YS, eYS⟩ : ∃ Y, Y = bodyS ⟨cum, rwnd2, gaps, dups⟩ := ⟨_, rfl⟩
  rw [← eYS] at HPS HGS HES HSS
  obtain ⟨YF, eYF⟩ : ∃ Y, Y = bodyF ⟨fcum, skips⟩ := ⟨_, rfl⟩
  rw [← eYF] at HPF HGF HEF HSF
  obtain ⟨YT, eYT⟩ : ∃ Y, Y = bodyT (t % 18446744073709551616).toNat := ⟨_, rfl⟩
  rw [← eYT] at HP4 HP5 HG4 HG5
  obtain ⟨YC, eYC⟩ : ∃ Y, Y = enc cum2 4 := ⟨_, rfl⟩
  rw [← eYC] at HPC HGC
  obtain ⟨r1, er1⟩ : ∃ Y, Y = (ansD 0 FL YD).tsn := ⟨_, rfl⟩
  rw [← er1] at HGD HSD
  obtain ⟨r2, er2⟩ : ∃ Y, Y = (ansD 0 FL YD).stream := ⟨_, rfl⟩
  rw [← er2] at HGD HSD
  obtain ⟨r3, er3⟩ : ∃ Y, Y = (ansD 0 FL YD).ssn := ⟨_, rfl⟩
  rw [← er3] at HGD HSD
  obtain ⟨r4, er4⟩ : ∃ Y, Y = (ansD 0 FL YD).un := ⟨_, rfl⟩
  rw [← er4] at HGD HSD
  obtain ⟨r5, er5⟩ : ∃ Y, Y = (ansD 0 FL YD).fi := ⟨_, rfl⟩
  rw [← er5] at HGD HSD
  obtain ⟨r6, er6⟩ : ∃ Y, Y = (ansD 0 FL YD).la := ⟨_, rfl⟩
  rw [← er6] at HGD HSD
  obtain ⟨rb, erb⟩ : ∃ Y, Y = (ansD 0 FL YD).bytes := ⟨_, rfl⟩
  rw [← erb] at HGD HSD
  obtain ⟨i1, ei1⟩ : ∃ Y, Y = (ansI 1 0 YI).tag := ⟨_, rfl⟩
  rw [← ei1] at HGI HSI
  obtain ⟨i2, ei2⟩ : ∃ Y, Y = (ansI 1 0 YI).rwnd := ⟨_, rfl⟩
  rw [← ei2] at HGI HSI
  obtain ⟨i3, ei3⟩ : ∃ Y, Y = (ansI 1 0 YI).out := ⟨_, rfl⟩
  rw [← ei3] at HGI HSI
  obtain ⟨i4, ei4⟩ : ∃ Y, Y = (ansI 1 0 YI).in_ := ⟨_, rfl⟩
  rw [← ei4] at HGI HSI
  obtain ⟨i5, ei5⟩ : ∃ Y, Y = (ansI 1 0 YI).tsn := ⟨_, rfl⟩
  rw [← ei5] at HGI HSI
  obtain ⟨ib, eib⟩ : ∃ Y, Y = (ansI 1 0 YI).cookie := ⟨_, rfl⟩
  rw [← eib] at HGI HSI
  obtain ⟨s1, es1⟩ : ∃ Y, Y = (ansS 3 0 YS).cum := ⟨_, rfl⟩
  rw [← es1] at HGS HSS
  obtain ⟨s2, es2⟩ : ∃ Y, Y = (ansS 3 0 YS).rwnd := ⟨_, rfl⟩
  rw [← es2] at HGS HSS
  obtain ⟨sb, esb⟩ : ∃ Y, Y = (ansS 3 0 YS).gaps := ⟨_, rfl⟩
  rw [← esb] at HGS HSS
  obtain ⟨sd, esd⟩ : ∃ Y, Y = (ansS 3 0 YS).dups := ⟨_, rfl⟩
  rw [← esd] at HGS HSS
  obtain ⟨f1, ef1⟩ : ∃ Y, Y = (ansF 192 0 YF).cum := ⟨_, rfl⟩
  rw [← ef1] at HGF HSF
  obtain ⟨fb, efb⟩ : ∃ Y, Y = (ansF 192 0 YF).skips := ⟨_, rfl⟩
  rw [← efb] at HGF HSF
  obtain ⟨oD, eoD⟩ : ∃ Y, Y = okD 0 FL YD := ⟨_, rfl⟩
  rw [← eoD] at HGD HED
  obtain ⟨oI, eoI⟩ : ∃ Y, Y = okI 1 0 YI := ⟨_, rfl⟩
  rw [← eoI] at HGI HEI HSI
  obtain ⟨oS, eoS⟩ : ∃ Y, Y = okS 3 0 YS := ⟨_, rfl⟩
  rw [← eoS] at HGS HES
  rw [HEF.out] at HGF
  obtain ⟨reD, ereD⟩ : ∃ Y, Y = errOf oD := ⟨_, rfl⟩
  rw [← ereD] at HGD
  obtain ⟨reI, ereI⟩ : ∃ Y, Y = errOf oI := ⟨_, rfl⟩
  rw [← ereI] at HGI
  obtain ⟨reS, ereS⟩ : ∃ Y, Y = errOf oS := ⟨_, rfl⟩
  rw [← ereS] at HGS
  have HRD := Lib.hid ereD
  have HRI := Lib.hid ereI
  have HRS := Lib.hid ereS
  have HRG : Hid (∀ W, Below w.heap.size w W → Rg W 0 W.heap.size Ag gaps) := Lib.hid fun W hW => (hgr.below_ hW).more (Nat.le_refl _) hW.size
  have HGB := Lib.hid hgb
  have HGL := Lib.hid hgl
  have hz := zero_chunk
  have hzd := zero_data
  have hzi := zero_init
  have hzs := zero_sack
  have hzf := zero_fwd
  have hzg := zero_gap
  clear eFL eYD eYI eYS eYF eYT eYC er1 er2 er3 er4 er5 er6 erb ei1 ei2 ei3 ei4 ei5 eib es1 es2 esb esd ef1 efb eoD eoI eoS ereD ereI ereS HEF
  have hng : ng ≤ 2048 := by omega
  have hncap := Nat.le_trans hg1 hg2
  unfold maxLen at hncap
  have hnd2 := Nat.le_trans hd1 hd2
  have hni2 := Nat.le_trans hi1 hi2
  unfold maxLen at hnd2 hni2
  clear h1 h2 h3 h4 h5 h6 h7 h8 h9 h10 h11 h12 ht hd1 hd2 hi1 hi2 hg2 hu1 hu2 hs1 hs2 hdl hdr hil hir hgl hgr hgb hul hur hub hsl hsr hsb hb
  subst hv
  have hni0 : ((ni : Int) == 0) = false := nat_ne (by omega)
  have hni1 : 0 < (ni : Int) := by omega
  have hni2 : 0 < ni := hv2
  clear hv2
  have b0 : Blk (w.alloc (.cells #[.bool false, .int .u32 (tsn : Int), .int .u16 (stream : Int), .int .u16 (ssn : Int), .bool un, .bool fi, .bool la, .slice Ad nd cd, .int .u32 (tag : Int), .int .u32 (rwnd : Int), .int .u16 (out : Int), .int .u16 (in_ : Int), .int .u32 (tsn2 : Int), .slice Ai ni ci, .int .u32 (cum : Int), .int .u32 (rwnd2 : Int), .slice Ag ng cg, .slice Au nu cu, .int .u32 (fcum : Int), .slice As ns cs, .int .i64 t, .int .u32 (cum2 : Int)] 77)) w.heap.size 77 #[.bool false, .int .u32 (tsn : Int), .int .u16 (stream : Int), .int .u16 (ssn : Int), .bool un, .bool fi, .bool la, .slice Ad nd cd, .int .u32 (tag : Int), .int .u32 (rwnd : Int), .int .u16 (out : Int), .int .u16 (in_ : Int), .int .u32 (tsn2 : Int), .slice Ai ni ci, .int .u32 (cum : Int), .int .u32 (rwnd2 : Int), .slice Ag ng cg, .slice Au nu cu, .int .u32 (fcum : Int), .slice As ns cs, .int .i64 t, .int .u32 (cum2 : Int)] := Blk.new w 77 #[.bool false, .int .u32 (tsn : Int), .int .u16 (stream : Int), .int .u16 (ssn : Int), .bool un, .bool fi, .bool la, .slice Ad nd cd, .int .u32 (tag : Int), .int .u32 (rwnd : Int), .int .u16 (out : Int), .int .u16 (in_ : Int), .int .u32 (tsn2 : Int), .slice Ai ni ci, .int .u32 (cum : Int), .int .u32 (rwnd2 : Int), .slice Ag ng cg, .slice Au nu cu, .int .u32 (fcum : Int), .slice As ns cs, .int .i64 t, .int .u32 (cum2 : Int)]
  have K0 := Lib.hid b0
  have B0 : Hid (Below w.heap.size w (w.alloc (.cells #[.bool false, .int .u32 (tsn : Int), .int .u16 (stream : Int), .int .u16 (ssn : Int), .bool un, .bool fi, .bool la, .slice Ad nd cd, .int .u32 (tag : Int), .int .u32 (rwnd : Int), .int .u16 (out : Int), .int .u16 (in_ : Int), .int .u32 (tsn2 : Int), .slice Ai ni ci, .int .u32 (cum : Int), .int .u32 (rwnd2 : Int), .slice Ag ng cg, .slice Au nu cu, .int .u32 (fcum : Int), .slice As ns cs, .int .i64 t, .int .u32 (cum2 : Int)] 77))) := Lib.hid (Wr.below_ ((Wr.refl 5 w.heap.size w).alloc (.cells #[.bool false, .int .u32 (tsn : Int), .int .u16 (stream : Int), .int .u16 (ssn : Int), .bool un, .bool fi, .bool la, .slice Ad nd cd, .int .u32 (tag : Int), .int .u32 (rwnd : Int), .int .u16 (out : Int), .int .u16 (in_ : Int), .int .u32 (tsn2 : Int), .slice Ai ni ci, .int .u32 (cum : Int), .int .u32 (rwnd2 : Int), .slice Ag ng cg, .slice Au nu cu, .int .u32 (fcum : Int), .slice As ns cs, .int .i64 t, .int .u32 (cum2 : Int)] 77)) (Nat.le_refl _))
  clear b0
  go_enter Try.func8, Try.ntmps8
  rw [seq_eq 4, seq_eq 15, seq_eq 24, seq_eq 27, drawn_eq 23]
  go_wp2_with fail
  generalize (w.alloc (.cells #[.bool false, .int .u32 (tsn : Int), .int .u16 (stream : Int), .int .u16 (ssn : Int), .bool un, .bool fi, .bool la, .slice Ad nd cd, .int .u32 (tag : Int), .int .u32 (rwnd : Int), .int .u16 (out : Int), .int .u16 (in_ : Int), .int .u32 (tsn2 : Int), .slice Ai ni ci, .int .u32 (cum : Int), .int .u32 (rwnd2 : Int), .slice Ag ng cg, .slice Au nu cu, .int .u32 (fcum : Int), .slice As ns cs, .int .i64 t, .int .u32 (cum2 : Int)] 77)) = v0 at K0 B0 ⊢
  have P0 := K0
  clear K0
  refine (HMN.out v0).mono ?_
  rintro e w1 ⟨rfl, hb⟩
  have P1 := Lib.hid (P0.out.below hb P0.out.lt)
  have B1 := Lib.hid (below_then B0.out (Nat.le_refl _) hb)
  clear hb P0 B0
  clear HMN
  have x1 : w1.cell? ⟨w.heap.size, 1, none⟩ = some (.int .u32 (tsn : Int)) := P1.out.cell 1
  have x2 : w1.cell? ⟨w.heap.size, 2, none⟩ = some (.int .u16 (stream : Int)) := P1.out.cell 2
  have x3 : w1.cell? ⟨w.heap.size, 3, none⟩ = some (.int .u16 (ssn : Int)) := P1.out.cell 3
  have x4 : w1.cell? ⟨w.heap.size, 4, none⟩ = some (.bool un) := P1.out.cell 4
  have x5 : w1.cell? ⟨w.heap.size, 5, none⟩ = some (.bool fi) := P1.out.cell 5
  have x6 : w1.cell? ⟨w.heap.size, 6, none⟩ = some (.bool la) := P1.out.cell 6
  have x7 : w1.cell? ⟨w.heap.size, 7, none⟩ = some (.slice Ad nd cd) := P1.out.cell 7
  have x13 : w1.cell? ⟨w.heap.size, 13, none⟩ = some (.slice Ai ni ci) := P1.out.cell 13
  go_wp2_with fail
  clear x1 x2 x3 x4 x5 x6 x7 x13
  refine (HPD.out w1 B1.out).mono ?_
  rintro e w2 ⟨Ap, cp, rfl, ho, hb⟩
  have P2 := Lib.hid (P1.out.below hb P1.out.lt)
  have B2 := Lib.hid (below_then B1.out (Nat.le_refl _) hb)
  clear hb P1 B1
  have O2 := Lib.hid ho
  clear ho
  go_wp2_with fail
  refine (HGD.out w2 Ap cp _ O2.out).mono ?_
  rintro e w3 ⟨Ax, mx, cx, rfl, ho, hb⟩
  have P3 := Lib.hid (P2.out.below hb P2.out.lt)
  have B3 := Lib.hid (below_then B2.out (Nat.le_refl _) hb)
  have O3 := Lib.hid (O2.out.below hb (Nat.le_refl _))
  clear hb P2 B2 O2
  have X3 := Lib.hid ho
  clear ho
  clear O3
  have hlc := P3.out.lt
  have hb := below_new w3 (.cells #[.int .u32 (r1 : Int), .int .u16 (r2 : Int), .int .u16 (r3 : Int), .bool r4, .bool r5, .bool r6, .slice Ax mx cx] 26)
  have P4 := Lib.hid (P3.out.below hb P3.out.lt)
  have B4 := Lib.hid (below_then B3.out (Nat.le_refl _) hb)
  have X4 := Lib.hid (X3.out.below hb (Nat.le_refl _))
  clear hb P3 B3 X3
  have D4 := Lib.hid (Blk.new w3 26 #[.int .u32 (r1 : Int), .int .u16 (r2 : Int), .int .u16 (r3 : Int), .bool r4, .bool r5, .bool r6, .slice Ax mx cx])
  obtain ⟨g3, hg3⟩ : ∃ g, g = w3.heap.size := ⟨_, rfl⟩
  rw [← hg3] at D4
  have Hg3 := Lib.hid hg3
  have hlg3 : w.heap.size < g3 := by omega
  clear hlc
  clear hg3
  go_wp2_with fail
  rw [← Hg3.out]
  generalize w3.alloc (.cells #[.int .u32 (r1 : Int), .int .u16 (r2 : Int), .int .u16 (r3 : Int), .bool r4, .bool r5, .bool r6, .slice Ax mx cx] 26) = v4 at P4 B4 X4 D4 ⊢
  clear Hg3
  rw [← seq_eq 4]
  go_cut [64] from 19 to 258 (fun s wx => s = .bool false ∧ Below v4.heap.size v4 wx)
  case first =>
    as_aux_lemma =>
      by_cases hnd0 : 0 < nd
      · have hre : (reD == 0) = true := by rw [HRD.out, HED.out.1 hnd0]; rfl
        have hndi : (0 : Int) < (nd : Int) := by omega
        have y0 := D4.out.cell 0
        have y1 := D4.out.cell 1
        have y2 := D4.out.cell 2
        have y3 := D4.out.cell 3
        have y4 := D4.out.cell 4
        have y5 := D4.out.cell 5
        have y6 := D4.out.cell 6
        have x1 : v4.cell? ⟨w.heap.size, 1, none⟩ = some (.int .u32 (tsn : Int)) := P4.out.cell 1
        have x2 : v4.cell? ⟨w.heap.size, 2, none⟩ = some (.int .u16 (stream : Int)) := P4.out.cell 2
        have x3 : v4.cell? ⟨w.heap.size, 3, none⟩ = some (.int .u16 (ssn : Int)) := P4.out.cell 3
        have x4 : v4.cell? ⟨w.heap.size, 4, none⟩ = some (.bool un) := P4.out.cell 4
        have x5 : v4.cell? ⟨w.heap.size, 5, none⟩ = some (.bool fi) := P4.out.cell 5
        have x6 : v4.cell? ⟨w.heap.size, 6, none⟩ = some (.bool la) := P4.out.cell 6
        have x7 : v4.cell? ⟨w.heap.size, 7, none⟩ = some (.slice Ad nd cd) := P4.out.cell 7
        go_wp2_with fail
        refine (HSD.out hnd0 v4 Ax mx cx _ B4.out X4.out).mono ?_
        rintro e wz ⟨rfl, hbz⟩
        go_wp2_with fail
        go_meet
        case rel => exact ⟨rfl, hbz⟩
      · have hre : (reD == 0) = false := by rw [HRD.out, HED.out.2 hnd0]; rfl
        have hndi : ¬ (0 : Int) < (nd : Int) := by omega
        have x7 : v4.cell? ⟨w.heap.size, 7, none⟩ = some (.slice Ad nd cd) := P4.out.cell 7
        go_wp2_with fail
        go_meet
        case rel => exact ⟨rfl, Below.refl _ _⟩
  obtain ⟨rfl, hb⟩ := hcut
  have P5 := Lib.hid (P4.out.below hb P4.out.lt)
  have B5 := Lib.hid (below_then B4.out (Nat.le_refl _) hb)
  have X5 := Lib.hid (X4.out.below hb (Nat.le_refl _))
  have D5 := Lib.hid (D4.out.below hb D4.out.lt)
  clear hb P4 B4 X4 D4
  generalize wc = v5 at P5 B5 X5 D5 ⊢
  as_aux_lemma =>
    clear X5 D5
    have x0 : v5.cell? ⟨w.heap.size, 0, none⟩ = some (.bool false) := P5.out.cell 0
    have x8 : v5.cell? ⟨w.heap.size, 8, none⟩ = some (.int .u32 (tag : Int)) := P5.out.cell 8
    have x9 : v5.cell? ⟨w.heap.size, 9, none⟩ = some (.int .u32 (rwnd : Int)) := P5.out.cell 9
    have x10 : v5.cell? ⟨w.heap.size, 10, none⟩ = some (.int .u16 (out : Int)) := P5.out.cell 10
    have x11 : v5.cell? ⟨w.heap.size, 11, none⟩ = some (.int .u16 (in_ : Int)) := P5.out.cell 11
    have x12 : v5.cell? ⟨w.heap.size, 12, none⟩ = some (.int .u32 (tsn2 : Int)) := P5.out.cell 12
    have x13 : v5.cell? ⟨w.heap.size, 13, none⟩ = some (.slice Ai ni ci) := P5.out.cell 13
    have z13 : _ := P5.out.frozen 13
    have hgl : w.heap.size < v5.heap.size := P5.out.lt
    have P6 : Hid (Blk (v5.setCell ⟨w.heap.size, 13, none⟩ (.slice none 0 0)) w.heap.size 77 #[.bool false, .int .u32 (tsn : Int), .int .u16 (stream : Int), .int .u16 (ssn : Int), .bool un, .bool fi, .bool la, .slice Ad nd cd, .int .u32 (tag : Int), .int .u32 (rwnd : Int), .int .u16 (out : Int), .int .u16 (in_ : Int), .int .u32 (tsn2 : Int), .slice none 0 0, .int .u32 (cum : Int), .int .u32 (rwnd2 : Int), .slice Ag ng cg, .slice Au nu cu, .int .u32 (fcum : Int), .slice As ns cs, .int .i64 t, .int .u32 (cum2 : Int)]) := Lib.hid (P5.out.set_ 13 (.slice none 0 0))
    have B6 := Lib.hid (B5.out.setCell (p := ⟨w.heap.size, 13, none⟩) (Nat.le_refl _) (.slice none 0 0))
    clear P5 B5
    go_wp2_with fail
    generalize v5.setCell ⟨w.heap.size, 13, none⟩ (.slice none 0 0) = v6 at P6 B6 ⊢
    clear hgl z13 x0 x8 x9 x10 x11 x12 x13
    refine (HPI.out v6 B6.out).mono ?_
    rintro e w7 ⟨Ap2, cp2, rfl, ho, hb⟩
    have P7 := Lib.hid (P6.out.below hb P6.out.lt)
    have B7 := Lib.hid (below_then B6.out (Nat.le_refl _) hb)
    clear hb P6 B6
    have O7 := Lib.hid ho
    clear ho
    go_wp2_with fail
    refine (HGI.out w7 Ap2 cp2 _ O7.out).mono ?_
    rintro e w8 ⟨Ay, my, cy, rfl, ho, hb⟩
    have P8 := Lib.hid (P7.out.below hb P7.out.lt)
    have B8 := Lib.hid (below_then B7.out (Nat.le_refl _) hb)
    have O8 := Lib.hid (O7.out.below hb (Nat.le_refl _))
    clear hb P7 B7 O7
    have X8 := Lib.hid ho
    clear ho
    clear O8
    have hlc := P8.out.lt
    have hb := below_new w8 (.cells #[.int .u32 (i1 : Int), .int .u32 (i2 : Int), .int .u16 (i3 : Int), .int .u16 (i4 : Int), .int .u32 (i5 : Int), .slice Ay my cy] 43)
    have P9 := Lib.hid (P8.out.below hb P8.out.lt)
    have B9 := Lib.hid (below_then B8.out (Nat.le_refl _) hb)
    have X9 := Lib.hid (X8.out.below hb (Nat.le_refl _))
    clear hb P8 B8 X8
    have D9 := Lib.hid (Blk.new w8 43 #[.int .u32 (i1 : Int), .int .u32 (i2 : Int), .int .u16 (i3 : Int), .int .u16 (i4 : Int), .int .u32 (i5 : Int), .slice Ay my cy])
    obtain ⟨g7, hg7⟩ : ∃ g, g = w8.heap.size := ⟨_, rfl⟩
    rw [← hg7] at D9
    have Hg7 := Lib.hid hg7
    have hlg7 : w.heap.size < g7 := by omega
    clear hlc
    clear hg7
    go_wp2_with fail
    rw [← Hg7.out]
    generalize w8.alloc (.cells #[.int .u32 (i1 : Int), .int .u32 (i2 : Int), .int .u16 (i3 : Int), .int .u16 (i4 : Int), .int .u32 (i5 : Int), .slice Ay my cy] 43) = v9 at P9 B9 X9 D9 ⊢
    clear Hg7
    rw [← seq_eq 15]
    go_cut [121] from 19 to 258 (fun s wx => s = .bool false ∧ Below v9.heap.size v9 wx)
    case first =>
      as_aux_lemma =>
        by_cases htag : tag = 0
        · have hre : (reI == 0) = false := by rw [HRI.out, HEI.out.1 (.inl htag)]; rfl
          have b1 := bne_zero_no htag
          clear htag
          have x8 : v9.cell? ⟨w.heap.size, 8, none⟩ = some (.int .u32 (tag : Int)) := P9.out.cell 8
          have x9 : v9.cell? ⟨w.heap.size, 9, none⟩ = some (.int .u32 (rwnd : Int)) := P9.out.cell 9
          have x10 : v9.cell? ⟨w.heap.size, 10, none⟩ = some (.int .u16 (out : Int)) := P9.out.cell 10
          have x11 : v9.cell? ⟨w.heap.size, 11, none⟩ = some (.int .u16 (in_ : Int)) := P9.out.cell 11
          have x12 : v9.cell? ⟨w.heap.size, 12, none⟩ = some (.int .u32 (tsn2 : Int)) := P9.out.cell 12
          have x13 : v9.cell? ⟨w.heap.size, 13, none⟩ = some (.slice none 0 0) := P9.out.cell 13
          go_wp2_with fail
          go_meet
          case rel => exact ⟨rfl, Below.refl _ _⟩
        by_cases hout : out = 0
        · have hre : (reI == 0) = false := by rw [HRI.out, HEI.out.1 (.inr (.inl hout))]; rfl
          have b1 := bne_zero htag
          have b2 := bne_zero_no hout
          clear htag hout
          have x8 : v9.cell? ⟨w.heap.size, 8, none⟩ = some (.int .u32 (tag : Int)) := P9.out.cell 8
          have x9 : v9.cell? ⟨w.heap.size, 9, none⟩ = some (.int .u32 (rwnd : Int)) := P9.out.cell 9
          have x10 : v9.cell? ⟨w.heap.size, 10, none⟩ = some (.int .u16 (out : Int)) := P9.out.cell 10
          have x11 : v9.cell? ⟨w.heap.size, 11, none⟩ = some (.int .u16 (in_ : Int)) := P9.out.cell 11
          have x12 : v9.cell? ⟨w.heap.size, 12, none⟩ = some (.int .u32 (tsn2 : Int)) := P9.out.cell 12
          have x13 : v9.cell? ⟨w.heap.size, 13, none⟩ = some (.slice none 0 0) := P9.out.cell 13
          go_wp2_with fail
          go_meet
          case rel => exact ⟨rfl, Below.refl _ _⟩
        by_cases hin : in_ = 0
        · have hre : (reI == 0) = false := by rw [HRI.out, HEI.out.1 (.inr (.inr hin))]; rfl
          have b1 := bne_zero htag
          have b2 := bne_zero hout
          have b3 := bne_zero_no hin
          clear htag hout hin
          have x8 : v9.cell? ⟨w.heap.size, 8, none⟩ = some (.int .u32 (tag : Int)) := P9.out.cell 8
          have x9 : v9.cell? ⟨w.heap.size, 9, none⟩ = some (.int .u32 (rwnd : Int)) := P9.out.cell 9
          have x10 : v9.cell? ⟨w.heap.size, 10, none⟩ = some (.int .u16 (out : Int)) := P9.out.cell 10
          have x11 : v9.cell? ⟨w.heap.size, 11, none⟩ = some (.int .u16 (in_ : Int)) := P9.out.cell 11
          have x12 : v9.cell? ⟨w.heap.size, 12, none⟩ = some (.int .u32 (tsn2 : Int)) := P9.out.cell 12
          have x13 : v9.cell? ⟨w.heap.size, 13, none⟩ = some (.slice none 0 0) := P9.out.cell 13
          go_wp2_with fail
          go_meet
          case rel => exact ⟨rfl, Below.refl _ _⟩
        have hok := HEI.out.2 htag hout hin
        have hre : (reI == 0) = true := by rw [HRI.out, hok]; rfl
        have HS2 := Lib.hid (HSI.out hok)
        clear hok
        have b1 := bne_zero htag
        have b2 := bne_zero hout
        have b3 := bne_zero hin
        clear htag hout hin
        have x8 : v9.cell? ⟨w.heap.size, 8, none⟩ = some (.int .u32 (tag : Int)) := P9.out.cell 8
        have x9 : v9.cell? ⟨w.heap.size, 9, none⟩ = some (.int .u32 (rwnd : Int)) := P9.out.cell 9
        have x10 : v9.cell? ⟨w.heap.size, 10, none⟩ = some (.int .u16 (out : Int)) := P9.out.cell 10
        have x11 : v9.cell? ⟨w.heap.size, 11, none⟩ = some (.int .u16 (in_ : Int)) := P9.out.cell 11
        have x12 : v9.cell? ⟨w.heap.size, 12, none⟩ = some (.int .u32 (tsn2 : Int)) := P9.out.cell 12
        have x13 : v9.cell? ⟨w.heap.size, 13, none⟩ = some (.slice none 0 0) := P9.out.cell 13
        have y0 := D9.out.cell 0
        have y1 := D9.out.cell 1
        have y2 := D9.out.cell 2
        have y3 := D9.out.cell 3
        have y4 := D9.out.cell 4
        have y5 := D9.out.cell 5
        go_wp2_with fail
        refine (HS2.out v9 Ay my cy _ B9.out X9.out).mono ?_
        rintro e wz ⟨rfl, hbz⟩
        go_wp2_with fail
        go_meet
        case rel => exact ⟨rfl, hbz⟩
    obtain ⟨rfl, hb⟩ := hcut
    have P10 := Lib.hid (P9.out.below hb P9.out.lt)
    have B10 := Lib.hid (below_then B9.out (Nat.le_refl _) hb)
    have X10 := Lib.hid (X9.out.below hb (Nat.le_refl _))
    have D10 := Lib.hid (D9.out.below hb D9.out.lt)
    clear hb P9 B9 X9 D9
    generalize wc = v10 at P10 B10 X10 D10 ⊢
    as_aux_lemma =>
      clear X10 D10
      have x14 : v10.cell? ⟨w.heap.size, 14, none⟩ = some (.int .u32 (cum : Int)) := P10.out.cell 14
      have x15 : v10.cell? ⟨w.heap.size, 15, none⟩ = some (.int .u32 (rwnd2 : Int)) := P10.out.cell 15
      have x16 : v10.cell? ⟨w.heap.size, 16, none⟩ = some (.slice Ag ng cg) := P10.out.cell 16
      have x17 : v10.cell? ⟨w.heap.size, 17, none⟩ = some (.slice Au nu cu) := P10.out.cell 17
      go_wp2_with fail
      clear x14 x15 x16 x17
      refine (HPS.out v10 B10.out).mono ?_
      rintro e w11 ⟨Ap3, cp3, rfl, ho, hb⟩
      have P11 := Lib.hid (P10.out.below hb P10.out.lt)
      have B11 := Lib.hid (below_then B10.out (Nat.le_refl _) hb)
      clear hb P10 B10
      have O11 := Lib.hid ho
      clear ho
      go_wp2_with fail
      refine (HGS.out w11 Ap3 cp3 _ O11.out).mono ?_
      rintro e w12 ⟨Az, mz, cz, Dz, pz, ez, rfl, ho, hmz, hp, hpz, hb⟩
      have P12 := Lib.hid (P11.out.below hb P11.out.lt)
      have B12 := Lib.hid (below_then B11.out (Nat.le_refl _) hb)
      have O12 := Lib.hid (O11.out.below hb (Nat.le_refl _))
      clear hb P11 B11 O11
      have X12 := Lib.hid ho
      have M12 := Lib.hid hp
      have HMZ := Lib.hid hmz
      have HPZ := Lib.hid hpz
      clear ho hp hmz hpz
      clear O12
      have hlc := P12.out.lt
      have hb := below_new w12 (.cells #[.int .u32 (s1 : Int), .int .u32 (s2 : Int), .slice Az mz cz, .slice Dz pz ez] 52)
      have P13 := Lib.hid (P12.out.below hb P12.out.lt)
      have B13 := Lib.hid (below_then B12.out (Nat.le_refl _) hb)
      have X13 := Lib.hid (X12.out.below hb)
      have M13 := Lib.hid (M12.out.below hb)
      clear hb P12 B12 X12 M12
      have D13 := Lib.hid (Blk.new w12 52 #[.int .u32 (s1 : Int), .int .u32 (s2 : Int), .slice Az mz cz, .slice Dz pz ez])
      obtain ⟨g8, hg8⟩ : ∃ g, g = w12.heap.size := ⟨_, rfl⟩
      rw [← hg8] at D13
      have Hg8 := Lib.hid hg8
      have hlg8 : w.heap.size < g8 := by omega
      clear hlc
      clear hg8
      go_wp2_with fail
      rw [← Hg8.out]
      generalize w12.alloc (.cells #[.int .u32 (s1 : Int), .int .u32 (s2 : Int), .slice Az mz cz, .slice Dz pz ez] 52) = v13 at P13 B13 X13 M13 D13 ⊢
      clear Hg8
      go_loopw [9, 10] (fun s9 s10 wr => ∃ (k2 : Nat) (b : Bool), k2 ≤ ng ∧ s10 = .int .i64 (k2 : Int) ∧ s9 = .bool b ∧ Hid (apartG 0 (gaps.take k2) = b) ∧ Blk wr w.heap.size 77 #[.bool false, .int .u32 (tsn : Int), .int .u16 (stream : Int), .int .u16 (ssn : Int), .bool un, .bool fi, .bool la, .slice Ad nd cd, .int .u32 (tag : Int), .int .u32 (rwnd : Int), .int .u16 (out : Int), .int .u16 (in_ : Int), .int .u32 (tsn2 : Int), .slice none 0 0, .int .u32 (cum : Int), .int .u32 (rwnd2 : Int), .slice Ag ng cg, .slice Au nu cu, .int .u32 (fcum : Int), .slice As ns cs, .int .i64 t, .int .u32 (cum2 : Int)] ∧ Blk wr g8 52 #[.int .u32 (s1 : Int), .int .u32 (s2 : Int), .slice Az mz cz, .slice Dz pz ez] ∧ Og wr 79 0 (.slice Az mz cz) sb ∧ Ow wr 22 0 (.slice Dz pz ez) (ints sd) ∧ Below w.heap.size w wr) (fun _ i _ => ng - (intOf i).toNat)
      case atStart => exact ⟨0, true, Nat.zero_le _, rfl, rfl, Lib.hid rfl, P13.out, D13.out, X13.out.more (Nat.zero_le _), M13.out.more (Nat.zero_le _), B13.out⟩
      case round =>
        as_aux_lemma =>
          clear P13 B13 X13 M13 D13
          obtain ⟨k2, b, hk2, rfl, rfl, HA, hP, hD, hX, hM, hB⟩ := hrel
          have P14 := Lib.hid hP
          have D14 := Lib.hid hD
          have X14 := Lib.hid hX
          have M14 := Lib.hid hM
          have B14 := Lib.hid hB
          clear hP hD hX hM hB
          by_cases hlt : k2 < ng
          · have hkl : k2 < gaps.length := by rw [HGL.out]; exact hlt
            obtain ⟨gb, go, hAe⟩ := (HRG.out wr B14.out).pair k2 hkl
            subst hAe
            obtain ⟨pa, hpa⟩ : ∃ pa, pa = gaps[k2].1 := ⟨_, rfl⟩
            obtain ⟨pb, hpb⟩ : ∃ pb, pb = gaps[k2].2 := ⟨_, rfl⟩
            obtain ⟨hc0, hc1⟩ := (HRG.out wr B14.out).cells2 k2 hkl
            rw [← hpa] at hc0
            rw [← hpb] at hc1
            have hpab := HGB.out _ (List.getElem_mem hkl)
            rw [← hpa, ← hpb] at hpab
            have hpa1 := hpab.1
            have hpb1 := hpab.2
            clear hpab
            have HT : Hid (apartG 0 (gaps.take (k2 + 1)) = (b && (decide (lastG 0 (gaps.take k2) + 2 ≤ pa) && decide (pa ≤ pb)))) := Lib.hid (by rw [take_snoc gaps k2 hkl, apartG_snoc, HA.out, ← hpa, ← hpb])
            obtain ⟨pv, hpv⟩ : ∃ pv, pv = lastG 0 (gaps.take k2) := ⟨_, rfl⟩
            rw [← hpv] at HT
            have HPV := Lib.hid hpv
            clear hpv hpa hpb
            have x16 : wr.cell? ⟨w.heap.size, 16, none⟩ = some (.slice (some ⟨gb, go, none⟩) ng cg) := P14.out.cell 16
            have hlc := P14.out.lt
            have hb := below_new wr (.cells #[.int .u16 (pa : Int), .int .u16 (pb : Int)] 79)
            have P15 := Lib.hid (P14.out.below hb P14.out.lt)
            have B15 := Lib.hid (below_then B14.out (Nat.le_refl _) hb)
            have X15 := Lib.hid (X14.out.below hb)
            have M15 := Lib.hid (M14.out.below hb)
            have D15 := Lib.hid (D14.out.below hb D14.out.lt)
            clear hb P14 B14 X14 M14 D14
            have G15 := Lib.hid (Blk.new wr 79 #[.int .u16 (pa : Int), .int .u16 (pb : Int)])
            obtain ⟨g11, hg11⟩ : ∃ g, g = wr.heap.size := ⟨_, rfl⟩
            rw [← hg11] at G15
            have Hg11 := Lib.hid hg11
            have hlg11 : w.heap.size < g11 := by omega
            clear hlc
            clear hg11
            go_wp2_with fail
            rw [← Hg11.out]
            generalize wr.alloc (.cells #[.int .u16 (pa : Int), .int .u16 (pb : Int)] 79) = v15 at P15 B15 X15 M15 D15 G15 ⊢
            clear Hg11
            clear hc0 hc1 x16
            rw [← drawn_eq 23]
            cases b
            · skip
              as_aux_lemma =>
                go_wp2_with fail
                go_quiet (fail)
                go_wp2_with fail
                go_roundw
                case rel => exact ⟨k2 + 1, false, by omega, by go_num, rfl, Lib.hid (by rw [HT.out]; simp; try omega), (P15.out.drewN _), (D15.out.drewN _), (X15.out.drewN_ _), (M15.out.drewN_ _), below_drewN B15.out _⟩
                case measure => simp [intOf]; omega
            · have y0 := G15.out.cell 0
              have y1 := G15.out.cell 1
              have x16 : v15.cell? ⟨w.heap.size, 16, none⟩ = some (.slice (some ⟨gb, go, none⟩) ng cg) := P15.out.cell 16
              by_cases q1 : pa ≤ pb
              rotate_left
              · have d1 : decide ((pa : Int) ≤ (pb : Int)) = false := decide_eq_false (by omega)
                as_aux_lemma =>
                  go_wp2_with fail
                  go_quiet (fail)
                  go_wp2_with fail
                  go_roundw
                  case rel => exact ⟨k2 + 1, false, by omega, by go_num, rfl, Lib.hid (by rw [HT.out]; simp; try omega), (P15.out.drewN _), (D15.out.drewN _), (X15.out.drewN_ _), (M15.out.drewN_ _), below_drewN B15.out _⟩
                  case measure => simp [intOf]; omega
              have d1 : decide ((pa : Int) ≤ (pb : Int)) = true := decide_eq_true (by omega)
              by_cases q2 : 2 ≤ pa
              rotate_left
              · have d2 : decide ((2 : Int) ≤ (pa : Int)) = false := decide_eq_false (by omega)
                as_aux_lemma =>
                  go_wp2_with fail
                  go_quiet (fail)
                  go_wp2_with fail
                  go_roundw
                  case rel => exact ⟨k2 + 1, false, by omega, by go_num, rfl, Lib.hid (by rw [HT.out]; simp; try omega), (P15.out.drewN _), (D15.out.drewN _), (X15.out.drewN_ _), (M15.out.drewN_ _), below_drewN B15.out _⟩
                  case measure => simp [intOf]; omega
              have d2 : decide ((2 : Int) ≤ (pa : Int)) = true := decide_eq_true (by omega)
              by_cases q3 : k2 = 0
              · have d3 : ((k2 : Int) == 0) = true := nat_eq0b q3
                have hpv0 : pv ≤ 0 := by rw [HPV.out, q3]; exact Nat.le_refl _
                clear q3
                as_aux_lemma =>
                  go_wp2_with fail
                  go_quiet (fail)
                  go_wp2_with fail
                  go_roundw
                  case rel => exact ⟨k2 + 1, true, by omega, by go_num, rfl, Lib.hid (by rw [HT.out]; simp; try omega), (P15.out.drewN _), (D15.out.drewN _), (X15.out.drewN_ _), (M15.out.drewN_ _), below_drewN B15.out _⟩
                  case measure => simp [intOf]; omega
              have d3 : ((k2 : Int) == 0) = false := nat_ne q3
              obtain ⟨k3, hk3⟩ : ∃ k3, k3 + 1 = k2 := ⟨k2 - 1, by omega⟩
              have h3l : k3 < gaps.length := by omega
              have hpv3 : pv = (gaps[k3]'h3l).2 := by
                have e1 : lastG 0 (gaps.take (k3 + 1)) = (gaps[k3]'h3l).2 := by rw [take_snoc gaps k3 h3l, lastG_snoc]
                rw [hk3] at e1
                rw [HPV.out]
                exact e1
              have hp1 := ((HRG.out v15 B15.out).cells2 k3 h3l).2
              rw [← hpv3] at hp1
              have hpvb := (HGB.out _ (List.getElem_mem h3l)).2
              rw [← hpv3] at hpvb
              clear hpv3
              have hw1 : IntKind.i64.wrap ((k2 : Int) - 1) = (k3 : Int) := by rw [wrap_small _ (by omega) (by omega)]; omega
              have hk31 : k3 < ng := by omega
              have hk3i : (k2 : Int) - 1 = (k3 : Int) := by omega
              clear q3 hk3 h3l
              by_cases q4 : pv + 1 < pa
              · have d4 : decide ((pv : Int) + 1 < (pa : Int)) = true := decide_eq_true (by omega)
                as_aux_lemma =>
                  go_wp2_with fail
                  go_quiet (fail)
                  go_wp2_with fail
                  go_roundw
                  case rel => exact ⟨k2 + 1, true, by omega, by go_num, rfl, Lib.hid (by rw [HT.out]; simp; try omega), (P15.out.drewN _), (D15.out.drewN _), (X15.out.drewN_ _), (M15.out.drewN_ _), below_drewN B15.out _⟩
                  case measure => simp [intOf]; omega
              · have d4 : decide ((pv : Int) + 1 < (pa : Int)) = false := decide_eq_false (by omega)
                as_aux_lemma =>
                  go_wp2_with fail
                  go_quiet (fail)
                  go_wp2_with fail
                  go_roundw
                  case rel => exact ⟨k2 + 1, false, by omega, by go_num, rfl, Lib.hid (by rw [HT.out]; simp; try omega), (P15.out.drewN _), (D15.out.drewN _), (X15.out.drewN_ _), (M15.out.drewN_ _), below_drewN B15.out _⟩
                  case measure => simp [intOf]; omega
          · have hkn : gaps.take k2 = gaps := List.take_of_length_le (by rw [HGL.out]; omega)
            rw [hkn] at HA
            clear hkn
            have x16 : wr.cell? ⟨w.heap.size, 16, none⟩ = some (.slice Ag ng cg) := P14.out.cell 16
            go_wp2_with fail
            clear x16
            rw [← seq_eq 24]
            go_cut [190] from 19 to 258 (fun s wx => s = .bool false ∧ Below wr.heap.size wr wx)
            case first =>
              as_aux_lemma =>
                cases b
                · have hre : (reS == 0) = false := by rw [HRS.out, HES.out, HA.out]; rfl
                  go_wp2_with fail
                  go_meet
                  case rel => exact ⟨rfl, Below.refl _ _⟩
                · have hre : (reS == 0) = true := by rw [HRS.out, HES.out, HA.out]; rfl
                  have y0 := D14.out.cell 0
                  have y1 := D14.out.cell 1
                  have y2 := D14.out.cell 2
                  have y3 := D14.out.cell 3
                  have x14 : wr.cell? ⟨w.heap.size, 14, none⟩ = some (.int .u32 (cum : Int)) := P14.out.cell 14
                  have x15 : wr.cell? ⟨w.heap.size, 15, none⟩ = some (.int .u32 (rwnd2 : Int)) := P14.out.cell 15
                  have x16 : wr.cell? ⟨w.heap.size, 16, none⟩ = some (.slice Ag ng cg) := P14.out.cell 16
                  have x17 : wr.cell? ⟨w.heap.size, 17, none⟩ = some (.slice Au nu cu) := P14.out.cell 17
                  go_wp2_with fail
                  refine (HSS.out HA.out wr Az mz cz _ Dz pz ez _ B14.out X14.out HMZ.out M14.out HPZ.out).mono ?_
                  rintro e wz ⟨rfl, hbz⟩
                  go_wp2_with fail
                  go_meet
                  case rel => exact ⟨rfl, hbz⟩
            obtain ⟨rfl, hb⟩ := hcut
            have P15 := Lib.hid (P14.out.below hb P14.out.lt)
            have B15 := Lib.hid (below_then B14.out (Nat.le_refl _) hb)
            have X15 := Lib.hid (X14.out.below hb)
            have M15 := Lib.hid (M14.out.below hb)
            have D15 := Lib.hid (D14.out.below hb D14.out.lt)
            clear hb P14 B14 X14 M14 D14
            generalize wc = v15 at P15 B15 X15 M15 D15 ⊢
            as_aux_lemma =>
              clear X15 M15 D15
              have x18 : v15.cell? ⟨w.heap.size, 18, none⟩ = some (.int .u32 (fcum : Int)) := P15.out.cell 18
              have x19 : v15.cell? ⟨w.heap.size, 19, none⟩ = some (.slice As ns cs) := P15.out.cell 19
              go_wp2_with fail
              clear x18 x19
              refine (HPF.out v15 B15.out).mono ?_
              rintro e w16 ⟨Ap4, cp4, rfl, ho, hb⟩
              have P16 := Lib.hid (P15.out.below hb P15.out.lt)
              have B16 := Lib.hid (below_then B15.out (Nat.le_refl _) hb)
              clear hb P15 B15
              have O16 := Lib.hid ho
              clear ho
              go_wp2_with fail
              refine (HGF.out w16 Ap4 cp4 _ O16.out).mono ?_
              rintro e w17 ⟨Au2, mu2, cu2, rfl, ho, hmu, hb⟩
              have P17 := Lib.hid (P16.out.below hb P16.out.lt)
              have B17 := Lib.hid (below_then B16.out (Nat.le_refl _) hb)
              have O17 := Lib.hid (O16.out.below hb (Nat.le_refl _))
              clear hb P16 B16 O16
              have X17 := Lib.hid ho
              have HMU := Lib.hid hmu
              clear ho hmu
              clear O17
              have hlc := P17.out.lt
              have hb := below_new w17 (.cells #[.int .u32 (f1 : Int), .slice Au2 mu2 cu2] 56)
              have P18 := Lib.hid (P17.out.below hb P17.out.lt)
              have B18 := Lib.hid (below_then B17.out (Nat.le_refl _) hb)
              have X18 := Lib.hid (X17.out.below hb)
              clear hb P17 B17 X17
              have D18 := Lib.hid (Blk.new w17 56 #[.int .u32 (f1 : Int), .slice Au2 mu2 cu2])
              obtain ⟨g12, hg12⟩ : ∃ g, g = w17.heap.size := ⟨_, rfl⟩
              rw [← hg12] at D18
              have Hg12 := Lib.hid hg12
              have hlg12 : w.heap.size < g12 := by omega
              clear hlc
              clear hg12
              go_wp2_with fail
              rw [← Hg12.out]
              generalize w17.alloc (.cells #[.int .u32 (f1 : Int), .slice Au2 mu2 cu2] 56) = v18 at P18 B18 X18 D18 ⊢
              clear Hg12
              rw [← seq_eq 27]
              have y0 := D18.out.cell 0
              have y1 := D18.out.cell 1
              have x18 : v18.cell? ⟨w.heap.size, 18, none⟩ = some (.int .u32 (fcum : Int)) := P18.out.cell 18
              have x19 : v18.cell? ⟨w.heap.size, 19, none⟩ = some (.slice As ns cs) := P18.out.cell 19
              go_wp2_with fail
              clear y0 y1 x18 x19
              refine (HSF.out v18 Au2 mu2 cu2 _ B18.out X18.out HMU.out).mono ?_
              rintro e w19 ⟨rfl, hb⟩
              have P19 := Lib.hid (P18.out.below hb P18.out.lt)
              have B19 := Lib.hid (below_then B18.out (Nat.le_refl _) hb)
              have X19 := Lib.hid (X18.out.below hb)
              have D19 := Lib.hid (D18.out.below hb D18.out.lt)
              clear hb P18 B18 X18 D18
              clear X19 D19
              have x20 : w19.cell? ⟨w.heap.size, 20, none⟩ = some (.int .i64 t) := P19.out.cell 20
              go_wp2_with fail
              clear x20
              refine (HP4.out w19).mono ?_
              rintro e w20 ⟨Ap5, cp5, rfl, ho, hb⟩
              have P20 := Lib.hid (P19.out.below hb P19.out.lt)
              have B20 := Lib.hid (below_then B19.out (Nat.le_refl _) hb)
              clear hb P19 B19
              have O20 := Lib.hid ho
              clear ho
              go_wp2_with fail
              refine (HG4.out w20 Ap5 cp5 _ O20.out).mono ?_
              rintro e w21 ⟨rfl, hb⟩
              have P21 := Lib.hid (P20.out.below hb P20.out.lt)
              have B21 := Lib.hid (below_then B20.out (Nat.le_refl _) hb)
              have O21 := Lib.hid (O20.out.below hb (Nat.le_refl _))
              clear hb P20 B20 O20
              clear O21
              have x20 : w21.cell? ⟨w.heap.size, 20, none⟩ = some (.int .i64 t) := P21.out.cell 20
              go_wp2_with fail
              clear x20
              refine (HP5.out w21).mono ?_
              rintro e w22 ⟨Ap6, cp6, rfl, ho, hb⟩
              have P22 := Lib.hid (P21.out.below hb P21.out.lt)
              have B22 := Lib.hid (below_then B21.out (Nat.le_refl _) hb)
              clear hb P21 B21
              have O22 := Lib.hid ho
              clear ho
              go_wp2_with fail
              refine (HG5.out w22 Ap6 cp6 _ O22.out).mono ?_
              rintro e w23 ⟨rfl, hb⟩
              have P23 := Lib.hid (P22.out.below hb P22.out.lt)
              have B23 := Lib.hid (below_then B22.out (Nat.le_refl _) hb)
              have O23 := Lib.hid (O22.out.below hb (Nat.le_refl _))
              clear hb P22 B22 O22
              clear O23
              have x21 : w23.cell? ⟨w.heap.size, 21, none⟩ = some (.int .u32 (cum2 : Int)) := P23.out.cell 21
              go_wp2_with fail
              clear x21
              refine (HPC.out w23).mono ?_
              rintro e w24 ⟨Ap7, cp7, rfl, ho, hb⟩
              have P24 := Lib.hid (P23.out.below hb P23.out.lt)
              have B24 := Lib.hid (below_then B23.out (Nat.le_refl _) hb)
              clear hb P23 B23
              have O24 := Lib.hid ho
              clear ho
              go_wp2_with fail
              refine (HGC.out w24 Ap7 cp7 _ O24.out).mono ?_
              rintro e w25 ⟨rfl, hb⟩
              have P25 := Lib.hid (P24.out.below hb P24.out.lt)
              have B25 := Lib.hid (below_then B24.out (Nat.le_refl _) hb)
              have O25 := Lib.hid (O24.out.below hb (Nat.le_refl _))
              clear hb P24 B24 O24
              clear O25
              have x20 : w25.cell? ⟨w.heap.size, 20, none⟩ = some (.int .i64 t) := P25.out.cell 20
              have x21 : w25.cell? ⟨w.heap.size, 21, none⟩ = some (.int .u32 (cum2 : Int)) := P25.out.cell 21
              go_wp2_with fail
              clear x20 x21
              refine (works_any w25).mono ?_
              rintro e w26 ⟨rfl, hb⟩
              have P26 := Lib.hid (P25.out.below hb P25.out.lt)
              have B26 := Lib.hid (below_then B25.out (Nat.le_refl _) hb)
              clear hb P25 B25
              go_wp2_with fail
              go_ret
              exact ⟨rfl, B26.out⟩
end Go.Proofs.Ytalgkokgaibloaa
