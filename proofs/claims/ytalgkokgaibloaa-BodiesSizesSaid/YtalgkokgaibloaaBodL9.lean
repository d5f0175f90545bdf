/-
  BodiesSizes, walked.
-/
import Derived.Test.YtalgkokgaibloaaBodAll
namespace Go.Proofs.Ytalgkokgaibloaa
open Go.RowKit
set_option linter.unusedVariables false

theorem quo4 (a : Int) (h0 : 0 ≤ a) (h1 : a < 4611686018427387904) : IntKind.i64.wrap (a.tdiv 4) = a / 4 := by
  rw [Int.tdiv_eq_ediv_of_nonneg h0]
  exact wrap_small _ (by omega) (by omega)
set_option maxRecDepth 100000 in
set_option maxHeartbeats 4000000 in
theorem bodiesSizes_many (x : AX) (w : World) (hx : x.In w) (hb : 2048 < x.ng ∨ 2048 < x.nu ∨ 2048 < x.ns) :
    Calls Try.prog 11 #[.agg #[.bool x.ack, .int .u32 (x.tsn : Int), .int .u16 (x.stream : Int), .int .u16 (x.ssn : Int), .bool x.un, .bool x.fi, .bool x.la, .slice x.Ad x.nd x.cd, .int .u32 (x.tag : Int), .int .u32 (x.rwnd : Int), .int .u16 (x.out : Int), .int .u16 (x.in_ : Int), .int .u32 (x.tsn2 : Int), .slice x.Ai x.ni x.ci, .int .u32 (x.cum : Int), .int .u32 (x.rwnd2 : Int), .slice x.Ag x.ng x.cg, .slice x.Au x.nu x.cu, .int .u32 (x.fcum : Int), .slice x.As x.ns x.cs, .int .i64 x.t, .int .u32 (x.cum2 : Int)]] w fun e w' => e = .returned (.bool true) ∧ Below w.heap.size w w' := by
  obtain ⟨ack, tsn, stream, ssn, un, fi, la, Ad, nd, cd, ds, tag, rwnd, out, in_, tsn2, Ai, ni, ci, ck, cum, rwnd2, Ag, ng, cg, gaps, Au, nu, cu, dups, fcum, As, ns, cs, skips, t, cum2⟩ := x
  obtain ⟨h1, h2, h3, h4, h5, h6, h7, h8, h9, h10, h11, ht, h12, ⟨hd1, hd2, hdl, hdr⟩, ⟨hi1, hi2, hil, hir⟩, ⟨hg1, hg2, hgl, hgr, hgb⟩, ⟨hu1, hu2, hul, hur, hub⟩, ⟨hs1, hs2, hsl, hsr, hsb⟩⟩ := hx
  simp only at h1 h2 h3 h4 h5 h6 h7 h8 h9 h10 h11 h12 ht hd1 hd2 hdl hdr hi1 hi2 hil hir hg1 hg2 hgl hgr hgb hu1 hu2 hul hur hub hs1 hs2 hsl hsr hsb hb ⊢
  have HMN : Hid (∀ W, Calls Try.prog 28 #[.agg #[.int .u32 (cum : Int), .int .u32 (rwnd2 : Int), .slice Ag ng cg, .slice Au nu cu], .agg #[.int .u32 (fcum : Int), .slice As ns cs]] W fun e w' => e = .returned (.bool true) ∧ Below W.heap.size W w') := Lib.hid fun W => by
    have := many_any (cum : Int) (rwnd2 : Int) (fcum : Int) Ag Au As ng cg nu cu ns cs W (Nat.le_trans hg1 hg2) (Nat.le_trans hu1 hu2) (Nat.le_trans hs1 hs2)
    rwa [decide_eq_true hb] at this
  have hnd := Nat.le_trans hd1 hd2
  have hni := Nat.le_trans hi1 hi2
  unfold maxLen at hnd hni
  clear hd1 hd2 hi1 hi2 hg1 hg2 hu1 hu2 hs1 hs2 hdl hdr hil hir hgl hgr hgb hul hur hub hsl hsr hsb hb
  have b0 : Blk (w.alloc (.cells #[.bool ack, .int .u32 (tsn : Int), .int .u16 (stream : Int), .int .u16 (ssn : Int), .bool un, .bool fi, .bool la, .slice Ad nd cd, .int .u32 (tag : Int), .int .u32 (rwnd : Int), .int .u16 (out : Int), .int .u16 (in_ : Int), .int .u32 (tsn2 : Int), .slice Ai ni ci, .int .u32 (cum : Int), .int .u32 (rwnd2 : Int), .slice Ag ng cg, .slice Au nu cu, .int .u32 (fcum : Int), .slice As ns cs, .int .i64 t, .int .u32 (cum2 : Int)] 77)) w.heap.size 77 #[.bool ack, .int .u32 (tsn : Int), .int .u16 (stream : Int), .int .u16 (ssn : Int), .bool un, .bool fi, .bool la, .slice Ad nd cd, .int .u32 (tag : Int), .int .u32 (rwnd : Int), .int .u16 (out : Int), .int .u16 (in_ : Int), .int .u32 (tsn2 : Int), .slice Ai ni ci, .int .u32 (cum : Int), .int .u32 (rwnd2 : Int), .slice Ag ng cg, .slice Au nu cu, .int .u32 (fcum : Int), .slice As ns cs, .int .i64 t, .int .u32 (cum2 : Int)] := Blk.new w 77 #[.bool ack, .int .u32 (tsn : Int), .int .u16 (stream : Int), .int .u16 (ssn : Int), .bool un, .bool fi, .bool la, .slice Ad nd cd, .int .u32 (tag : Int), .int .u32 (rwnd : Int), .int .u16 (out : Int), .int .u16 (in_ : Int), .int .u32 (tsn2 : Int), .slice Ai ni ci, .int .u32 (cum : Int), .int .u32 (rwnd2 : Int), .slice Ag ng cg, .slice Au nu cu, .int .u32 (fcum : Int), .slice As ns cs, .int .i64 t, .int .u32 (cum2 : Int)]
  have K0 := Lib.hid b0
  have B0 : Hid (Below w.heap.size w (w.alloc (.cells #[.bool ack, .int .u32 (tsn : Int), .int .u16 (stream : Int), .int .u16 (ssn : Int), .bool un, .bool fi, .bool la, .slice Ad nd cd, .int .u32 (tag : Int), .int .u32 (rwnd : Int), .int .u16 (out : Int), .int .u16 (in_ : Int), .int .u32 (tsn2 : Int), .slice Ai ni ci, .int .u32 (cum : Int), .int .u32 (rwnd2 : Int), .slice Ag ng cg, .slice Au nu cu, .int .u32 (fcum : Int), .slice As ns cs, .int .i64 t, .int .u32 (cum2 : Int)] 77))) := Lib.hid (Wr.below_ ((Wr.refl 5 w.heap.size w).alloc (.cells #[.bool ack, .int .u32 (tsn : Int), .int .u16 (stream : Int), .int .u16 (ssn : Int), .bool un, .bool fi, .bool la, .slice Ad nd cd, .int .u32 (tag : Int), .int .u32 (rwnd : Int), .int .u16 (out : Int), .int .u16 (in_ : Int), .int .u32 (tsn2 : Int), .slice Ai ni ci, .int .u32 (cum : Int), .int .u32 (rwnd2 : Int), .slice Ag ng cg, .slice Au nu cu, .int .u32 (fcum : Int), .slice As ns cs, .int .i64 t, .int .u32 (cum2 : Int)] 77)) (Nat.le_refl _))
  clear b0
  go_enter Try.func11, Try.ntmps11
  rw [drawn_eq 3, drawn_eq 5]
  go_wp2_with fail
  generalize (w.alloc (.cells #[.bool ack, .int .u32 (tsn : Int), .int .u16 (stream : Int), .int .u16 (ssn : Int), .bool un, .bool fi, .bool la, .slice Ad nd cd, .int .u32 (tag : Int), .int .u32 (rwnd : Int), .int .u16 (out : Int), .int .u16 (in_ : Int), .int .u32 (tsn2 : Int), .slice Ai ni ci, .int .u32 (cum : Int), .int .u32 (rwnd2 : Int), .slice Ag ng cg, .slice Au nu cu, .int .u32 (fcum : Int), .slice As ns cs, .int .i64 t, .int .u32 (cum2 : Int)] 77)) = v0 at K0 B0 ⊢
  refine (HMN.out v0).mono ?_
  rintro e w1 ⟨rfl, hb⟩
  have K1 := Lib.hid (K0.out.below hb K0.out.lt)
  have B1 := Lib.hid (below_then B0.out (Nat.le_refl _) hb)
  have x7 : w1.cell? ⟨w.heap.size, 7, none⟩ = some (.slice Ad nd cd) := K1.out.cell 7
  have x13 : w1.cell? ⟨w.heap.size, 13, none⟩ = some (.slice Ai ni ci) := K1.out.cell 13
  clear hb K0 B0
  go_wp2_with fail
  refine (works_any _).mono ?_
  rintro e w2 ⟨rfl, hb⟩
  go_wp2_with fail
  go_ret
  exact ⟨rfl, below_then B1.out (Nat.le_refl _) hb⟩
set_option maxRecDepth 100000 in
set_option maxHeartbeats 4000000 in
theorem bodiesSizes_data (x : AX) (w : World) (hx : x.In w) (hb : ¬ (2048 < x.ng ∨ 2048 < x.nu ∨ 2048 < x.ns)) (hb2 : 8192 < x.nd) :
    Calls Try.prog 11 #[.agg #[.bool x.ack, .int .u32 (x.tsn : Int), .int .u16 (x.stream : Int), .int .u16 (x.ssn : Int), .bool x.un, .bool x.fi, .bool x.la, .slice x.Ad x.nd x.cd, .int .u32 (x.tag : Int), .int .u32 (x.rwnd : Int), .int .u16 (x.out : Int), .int .u16 (x.in_ : Int), .int .u32 (x.tsn2 : Int), .slice x.Ai x.ni x.ci, .int .u32 (x.cum : Int), .int .u32 (x.rwnd2 : Int), .slice x.Ag x.ng x.cg, .slice x.Au x.nu x.cu, .int .u32 (x.fcum : Int), .slice x.As x.ns x.cs, .int .i64 x.t, .int .u32 (x.cum2 : Int)]] w fun e w' => e = .returned (.bool true) ∧ Below w.heap.size w w' := by
  obtain ⟨ack, tsn, stream, ssn, un, fi, la, Ad, nd, cd, ds, tag, rwnd, out, in_, tsn2, Ai, ni, ci, ck, cum, rwnd2, Ag, ng, cg, gaps, Au, nu, cu, dups, fcum, As, ns, cs, skips, t, cum2⟩ := x
  obtain ⟨h1, h2, h3, h4, h5, h6, h7, h8, h9, h10, h11, ht, h12, ⟨hd1, hd2, hdl, hdr⟩, ⟨hi1, hi2, hil, hir⟩, ⟨hg1, hg2, hgl, hgr, hgb⟩, ⟨hu1, hu2, hul, hur, hub⟩, ⟨hs1, hs2, hsl, hsr, hsb⟩⟩ := hx
  simp only at h1 h2 h3 h4 h5 h6 h7 h8 h9 h10 h11 h12 ht hd1 hd2 hdl hdr hi1 hi2 hil hir hg1 hg2 hgl hgr hgb hu1 hu2 hul hur hub hs1 hs2 hsl hsr hsb hb hb2 ⊢
  have HMN : Hid (∀ W, Calls Try.prog 28 #[.agg #[.int .u32 (cum : Int), .int .u32 (rwnd2 : Int), .slice Ag ng cg, .slice Au nu cu], .agg #[.int .u32 (fcum : Int), .slice As ns cs]] W fun e w' => e = .returned (.bool false) ∧ Below W.heap.size W w') := Lib.hid fun W => by
    have := many_any (cum : Int) (rwnd2 : Int) (fcum : Int) Ag Au As ng cg nu cu ns cs W (Nat.le_trans hg1 hg2) (Nat.le_trans hu1 hu2) (Nat.le_trans hs1 hs2)
    rwa [decide_eq_false hb] at this
  have hnd := Nat.le_trans hd1 hd2
  have hni := Nat.le_trans hi1 hi2
  unfold maxLen at hnd hni
  clear hd1 hd2 hi1 hi2 hg1 hg2 hu1 hu2 hs1 hs2 hdl hdr hil hir hgl hgr hgb hul hur hub hsl hsr hsb hb
  have b0 : Blk (w.alloc (.cells #[.bool ack, .int .u32 (tsn : Int), .int .u16 (stream : Int), .int .u16 (ssn : Int), .bool un, .bool fi, .bool la, .slice Ad nd cd, .int .u32 (tag : Int), .int .u32 (rwnd : Int), .int .u16 (out : Int), .int .u16 (in_ : Int), .int .u32 (tsn2 : Int), .slice Ai ni ci, .int .u32 (cum : Int), .int .u32 (rwnd2 : Int), .slice Ag ng cg, .slice Au nu cu, .int .u32 (fcum : Int), .slice As ns cs, .int .i64 t, .int .u32 (cum2 : Int)] 77)) w.heap.size 77 #[.bool ack, .int .u32 (tsn : Int), .int .u16 (stream : Int), .int .u16 (ssn : Int), .bool un, .bool fi, .bool la, .slice Ad nd cd, .int .u32 (tag : Int), .int .u32 (rwnd : Int), .int .u16 (out : Int), .int .u16 (in_ : Int), .int .u32 (tsn2 : Int), .slice Ai ni ci, .int .u32 (cum : Int), .int .u32 (rwnd2 : Int), .slice Ag ng cg, .slice Au nu cu, .int .u32 (fcum : Int), .slice As ns cs, .int .i64 t, .int .u32 (cum2 : Int)] := Blk.new w 77 #[.bool ack, .int .u32 (tsn : Int), .int .u16 (stream : Int), .int .u16 (ssn : Int), .bool un, .bool fi, .bool la, .slice Ad nd cd, .int .u32 (tag : Int), .int .u32 (rwnd : Int), .int .u16 (out : Int), .int .u16 (in_ : Int), .int .u32 (tsn2 : Int), .slice Ai ni ci, .int .u32 (cum : Int), .int .u32 (rwnd2 : Int), .slice Ag ng cg, .slice Au nu cu, .int .u32 (fcum : Int), .slice As ns cs, .int .i64 t, .int .u32 (cum2 : Int)]
  have K0 := Lib.hid b0
  have B0 : Hid (Below w.heap.size w (w.alloc (.cells #[.bool ack, .int .u32 (tsn : Int), .int .u16 (stream : Int), .int .u16 (ssn : Int), .bool un, .bool fi, .bool la, .slice Ad nd cd, .int .u32 (tag : Int), .int .u32 (rwnd : Int), .int .u16 (out : Int), .int .u16 (in_ : Int), .int .u32 (tsn2 : Int), .slice Ai ni ci, .int .u32 (cum : Int), .int .u32 (rwnd2 : Int), .slice Ag ng cg, .slice Au nu cu, .int .u32 (fcum : Int), .slice As ns cs, .int .i64 t, .int .u32 (cum2 : Int)] 77))) := Lib.hid (Wr.below_ ((Wr.refl 5 w.heap.size w).alloc (.cells #[.bool ack, .int .u32 (tsn : Int), .int .u16 (stream : Int), .int .u16 (ssn : Int), .bool un, .bool fi, .bool la, .slice Ad nd cd, .int .u32 (tag : Int), .int .u32 (rwnd : Int), .int .u16 (out : Int), .int .u16 (in_ : Int), .int .u32 (tsn2 : Int), .slice Ai ni ci, .int .u32 (cum : Int), .int .u32 (rwnd2 : Int), .slice Ag ng cg, .slice Au nu cu, .int .u32 (fcum : Int), .slice As ns cs, .int .i64 t, .int .u32 (cum2 : Int)] 77)) (Nat.le_refl _))
  clear b0
  go_enter Try.func11, Try.ntmps11
  rw [drawn_eq 3, drawn_eq 5]
  go_wp2_with fail
  generalize (w.alloc (.cells #[.bool ack, .int .u32 (tsn : Int), .int .u16 (stream : Int), .int .u16 (ssn : Int), .bool un, .bool fi, .bool la, .slice Ad nd cd, .int .u32 (tag : Int), .int .u32 (rwnd : Int), .int .u16 (out : Int), .int .u16 (in_ : Int), .int .u32 (tsn2 : Int), .slice Ai ni ci, .int .u32 (cum : Int), .int .u32 (rwnd2 : Int), .slice Ag ng cg, .slice Au nu cu, .int .u32 (fcum : Int), .slice As ns cs, .int .i64 t, .int .u32 (cum2 : Int)] 77)) = v0 at K0 B0 ⊢
  refine (HMN.out v0).mono ?_
  rintro e w1 ⟨rfl, hb⟩
  have K1 := Lib.hid (K0.out.below hb K0.out.lt)
  have B1 := Lib.hid (below_then B0.out (Nat.le_refl _) hb)
  have x7 : w1.cell? ⟨w.heap.size, 7, none⟩ = some (.slice Ad nd cd) := K1.out.cell 7
  have x13 : w1.cell? ⟨w.heap.size, 13, none⟩ = some (.slice Ai ni ci) := K1.out.cell 13
  clear hb K0 B0
  go_wp2_with fail
  refine (works_any _).mono ?_
  rintro e w2 ⟨rfl, hb⟩
  go_wp2_with fail
  go_ret
  exact ⟨rfl, below_then B1.out (Nat.le_refl _) hb⟩
set_option maxRecDepth 100000 in
set_option maxHeartbeats 4000000 in
theorem bodiesSizes_init (x : AX) (w : World) (hx : x.In w) (hb : ¬ (2048 < x.ng ∨ 2048 < x.nu ∨ 2048 < x.ns)) (hb2 : x.nd ≤ 8192) (hb3 : 8192 < x.ni) :
    Calls Try.prog 11 #[.agg #[.bool x.ack, .int .u32 (x.tsn : Int), .int .u16 (x.stream : Int), .int .u16 (x.ssn : Int), .bool x.un, .bool x.fi, .bool x.la, .slice x.Ad x.nd x.cd, .int .u32 (x.tag : Int), .int .u32 (x.rwnd : Int), .int .u16 (x.out : Int), .int .u16 (x.in_ : Int), .int .u32 (x.tsn2 : Int), .slice x.Ai x.ni x.ci, .int .u32 (x.cum : Int), .int .u32 (x.rwnd2 : Int), .slice x.Ag x.ng x.cg, .slice x.Au x.nu x.cu, .int .u32 (x.fcum : Int), .slice x.As x.ns x.cs, .int .i64 x.t, .int .u32 (x.cum2 : Int)]] w fun e w' => e = .returned (.bool true) ∧ Below w.heap.size w w' := by
  obtain ⟨ack, tsn, stream, ssn, un, fi, la, Ad, nd, cd, ds, tag, rwnd, out, in_, tsn2, Ai, ni, ci, ck, cum, rwnd2, Ag, ng, cg, gaps, Au, nu, cu, dups, fcum, As, ns, cs, skips, t, cum2⟩ := x
  obtain ⟨h1, h2, h3, h4, h5, h6, h7, h8, h9, h10, h11, ht, h12, ⟨hd1, hd2, hdl, hdr⟩, ⟨hi1, hi2, hil, hir⟩, ⟨hg1, hg2, hgl, hgr, hgb⟩, ⟨hu1, hu2, hul, hur, hub⟩, ⟨hs1, hs2, hsl, hsr, hsb⟩⟩ := hx
  simp only at h1 h2 h3 h4 h5 h6 h7 h8 h9 h10 h11 h12 ht hd1 hd2 hdl hdr hi1 hi2 hil hir hg1 hg2 hgl hgr hgb hu1 hu2 hul hur hub hs1 hs2 hsl hsr hsb hb hb2 hb3 ⊢
  have HMN : Hid (∀ W, Calls Try.prog 28 #[.agg #[.int .u32 (cum : Int), .int .u32 (rwnd2 : Int), .slice Ag ng cg, .slice Au nu cu], .agg #[.int .u32 (fcum : Int), .slice As ns cs]] W fun e w' => e = .returned (.bool false) ∧ Below W.heap.size W w') := Lib.hid fun W => by
    have := many_any (cum : Int) (rwnd2 : Int) (fcum : Int) Ag Au As ng cg nu cu ns cs W (Nat.le_trans hg1 hg2) (Nat.le_trans hu1 hu2) (Nat.le_trans hs1 hs2)
    rwa [decide_eq_false hb] at this
  have hnd := Nat.le_trans hd1 hd2
  have hni := Nat.le_trans hi1 hi2
  unfold maxLen at hnd hni
  clear hd1 hd2 hi1 hi2 hg1 hg2 hu1 hu2 hs1 hs2 hdl hdr hil hir hgl hgr hgb hul hur hub hsl hsr hsb hb
  have b0 : Blk (w.alloc (.cells #[.bool ack, .int .u32 (tsn : Int), .int .u16 (stream : Int), .int .u16 (ssn : Int), .bool un, .bool fi, .bool la, .slice Ad nd cd, .int .u32 (tag : Int), .int .u32 (rwnd : Int), .int .u16 (out : Int), .int .u16 (in_ : Int), .int .u32 (tsn2 : Int), .slice Ai ni ci, .int .u32 (cum : Int), .int .u32 (rwnd2 : Int), .slice Ag ng cg, .slice Au nu cu, .int .u32 (fcum : Int), .slice As ns cs, .int .i64 t, .int .u32 (cum2 : Int)] 77)) w.heap.size 77 #[.bool ack, .int .u32 (tsn : Int), .int .u16 (stream : Int), .int .u16 (ssn : Int), .bool un, .bool fi, .bool la, .slice Ad nd cd, .int .u32 (tag : Int), .int .u32 (rwnd : Int), .int .u16 (out : Int), .int .u16 (in_ : Int), .int .u32 (tsn2 : Int), .slice Ai ni ci, .int .u32 (cum : Int), .int .u32 (rwnd2 : Int), .slice Ag ng cg, .slice Au nu cu, .int .u32 (fcum : Int), .slice As ns cs, .int .i64 t, .int .u32 (cum2 : Int)] := Blk.new w 77 #[.bool ack, .int .u32 (tsn : Int), .int .u16 (stream : Int), .int .u16 (ssn : Int), .bool un, .bool fi, .bool la, .slice Ad nd cd, .int .u32 (tag : Int), .int .u32 (rwnd : Int), .int .u16 (out : Int), .int .u16 (in_ : Int), .int .u32 (tsn2 : Int), .slice Ai ni ci, .int .u32 (cum : Int), .int .u32 (rwnd2 : Int), .slice Ag ng cg, .slice Au nu cu, .int .u32 (fcum : Int), .slice As ns cs, .int .i64 t, .int .u32 (cum2 : Int)]
  have K0 := Lib.hid b0
  have B0 : Hid (Below w.heap.size w (w.alloc (.cells #[.bool ack, .int .u32 (tsn : Int), .int .u16 (stream : Int), .int .u16 (ssn : Int), .bool un, .bool fi, .bool la, .slice Ad nd cd, .int .u32 (tag : Int), .int .u32 (rwnd : Int), .int .u16 (out : Int), .int .u16 (in_ : Int), .int .u32 (tsn2 : Int), .slice Ai ni ci, .int .u32 (cum : Int), .int .u32 (rwnd2 : Int), .slice Ag ng cg, .slice Au nu cu, .int .u32 (fcum : Int), .slice As ns cs, .int .i64 t, .int .u32 (cum2 : Int)] 77))) := Lib.hid (Wr.below_ ((Wr.refl 5 w.heap.size w).alloc (.cells #[.bool ack, .int .u32 (tsn : Int), .int .u16 (stream : Int), .int .u16 (ssn : Int), .bool un, .bool fi, .bool la, .slice Ad nd cd, .int .u32 (tag : Int), .int .u32 (rwnd : Int), .int .u16 (out : Int), .int .u16 (in_ : Int), .int .u32 (tsn2 : Int), .slice Ai ni ci, .int .u32 (cum : Int), .int .u32 (rwnd2 : Int), .slice Ag ng cg, .slice Au nu cu, .int .u32 (fcum : Int), .slice As ns cs, .int .i64 t, .int .u32 (cum2 : Int)] 77)) (Nat.le_refl _))
  clear b0
  go_enter Try.func11, Try.ntmps11
  rw [drawn_eq 3, drawn_eq 5]
  go_wp2_with fail
  generalize (w.alloc (.cells #[.bool ack, .int .u32 (tsn : Int), .int .u16 (stream : Int), .int .u16 (ssn : Int), .bool un, .bool fi, .bool la, .slice Ad nd cd, .int .u32 (tag : Int), .int .u32 (rwnd : Int), .int .u16 (out : Int), .int .u16 (in_ : Int), .int .u32 (tsn2 : Int), .slice Ai ni ci, .int .u32 (cum : Int), .int .u32 (rwnd2 : Int), .slice Ag ng cg, .slice Au nu cu, .int .u32 (fcum : Int), .slice As ns cs, .int .i64 t, .int .u32 (cum2 : Int)] 77)) = v0 at K0 B0 ⊢
  refine (HMN.out v0).mono ?_
  rintro e w1 ⟨rfl, hb⟩
  have K1 := Lib.hid (K0.out.below hb K0.out.lt)
  have B1 := Lib.hid (below_then B0.out (Nat.le_refl _) hb)
  have x7 : w1.cell? ⟨w.heap.size, 7, none⟩ = some (.slice Ad nd cd) := K1.out.cell 7
  have x13 : w1.cell? ⟨w.heap.size, 13, none⟩ = some (.slice Ai ni ci) := K1.out.cell 13
  clear hb K0 B0
  go_wp2_with fail
  refine (works_any _).mono ?_
  rintro e w2 ⟨rfl, hb⟩
  go_wp2_with fail
  go_ret
  exact ⟨rfl, below_then B1.out (Nat.le_refl _) hb⟩
set_option maxRecDepth 100000 in
set_option maxHeartbeats 4000000 in
theorem bodiesSizes_small (x : AX) (w : World) (hx : x.In w) (hb : ¬ (2048 < x.ng ∨ 2048 < x.nu ∨ 2048 < x.ns)) (hb2 : x.nd ≤ 8192) (hb3 : x.ni ≤ 8192) :
    Calls Try.prog 11 #[.agg #[.bool x.ack, .int .u32 (x.tsn : Int), .int .u16 (x.stream : Int), .int .u16 (x.ssn : Int), .bool x.un, .bool x.fi, .bool x.la, .slice x.Ad x.nd x.cd, .int .u32 (x.tag : Int), .int .u32 (x.rwnd : Int), .int .u16 (x.out : Int), .int .u16 (x.in_ : Int), .int .u32 (x.tsn2 : Int), .slice x.Ai x.ni x.ci, .int .u32 (x.cum : Int), .int .u32 (x.rwnd2 : Int), .slice x.Ag x.ng x.cg, .slice x.Au x.nu x.cu, .int .u32 (x.fcum : Int), .slice x.As x.ns x.cs, .int .i64 x.t, .int .u32 (x.cum2 : Int)]] w fun e w' => e = .returned (.bool true) ∧ Below w.heap.size w w' := by
  obtain ⟨ack, tsn, stream, ssn, un, fi, la, Ad, nd, cd, ds, tag, rwnd, out, in_, tsn2, Ai, ni, ci, ck, cum, rwnd2, Ag, ng, cg, gaps, Au, nu, cu, dups, fcum, As, ns, cs, skips, t, cum2⟩ := x
  obtain ⟨h1, h2, h3, h4, h5, h6, h7, h8, h9, h10, h11, ht, h12, ⟨hd1, hd2, hdl, hdr⟩, ⟨hi1, hi2, hil, hir⟩, ⟨hg1, hg2, hgl, hgr, hgb⟩, ⟨hu1, hu2, hul, hur, hub⟩, ⟨hs1, hs2, hsl, hsr, hsb⟩⟩ := hx
  simp only at h1 h2 h3 h4 h5 h6 h7 h8 h9 h10 h11 h12 ht hd1 hd2 hdl hdr hi1 hi2 hil hir hg1 hg2 hgl hgr hgb hu1 hu2 hul hur hub hs1 hs2 hsl hsr hsb hb hb2 hb3 ⊢
  have HMN : Hid (∀ W, Calls Try.prog 28 #[.agg #[.int .u32 (cum : Int), .int .u32 (rwnd2 : Int), .slice Ag ng cg, .slice Au nu cu], .agg #[.int .u32 (fcum : Int), .slice As ns cs]] W fun e w' => e = .returned (.bool false) ∧ Below W.heap.size W w') := Lib.hid fun W => by
    have := many_any (cum : Int) (rwnd2 : Int) (fcum : Int) Ag Au As ng cg nu cu ns cs W (Nat.le_trans hg1 hg2) (Nat.le_trans hu1 hu2) (Nat.le_trans hs1 hs2)
    rwa [decide_eq_false hb] at this
  have HPD : Hid (∀ W, Below w.heap.size w W → Puts 15 #[.agg #[.int .u32 (tsn : Int), .int .u16 (stream : Int), .int .u16 (ssn : Int), .bool un, .bool fi, .bool la, .slice Ad nd cd]] 0 (flagsD un fi la) (bodyD ⟨tsn, stream, ssn, un, fi, la, ds⟩) W) := Lib.hid fun W hW => putData_any tsn stream ssn un fi la ds h1 h2 h3 Ad nd cd W (by omega) hdl ((hdr.below hW).more hW.size)
  have HP1 : Hid (∀ W, Below w.heap.size w W → Puts 23 #[.int .u8 1, .agg #[.int .u32 (tag : Int), .int .u32 (rwnd : Int), .int .u16 (out : Int), .int .u16 (in_ : Int), .int .u32 (tsn2 : Int), .slice Ai ni ci]] 1 0 (bodyI 1 ⟨tag, rwnd, out, in_, tsn2, ck⟩) W) := Lib.hid fun W hW => putInit_no 1 (by decide) tag rwnd out in_ tsn2 ck h4 h5 h6 h7 h8 Ai ni ci W (by omega) hil ((hir.below hW).more hW.size)
  have HP2 : Hid (∀ W, Below w.heap.size w W → Puts 23 #[.int .u8 2, .agg #[.int .u32 (tag : Int), .int .u32 (rwnd : Int), .int .u16 (out : Int), .int .u16 (in_ : Int), .int .u32 (tsn2 : Int), .slice Ai ni ci]] 2 0 (bodyI 2 ⟨tag, rwnd, out, in_, tsn2, ck⟩) W) := Lib.hid fun W hW => putInit_ack tag rwnd out in_ tsn2 ck h4 h5 h6 h7 h8 Ai ni ci W (by omega) hil ((hir.below hW).more hW.size)
  have HPS : Hid (∀ W, Below w.heap.size w W → Puts 29 #[.agg #[.int .u32 (cum : Int), .int .u32 (rwnd2 : Int), .slice Ag ng cg, .slice Au nu cu]] 3 0 (bodyS ⟨cum, rwnd2, gaps, dups⟩) W) := Lib.hid fun W hW => putSack_any cum rwnd2 gaps dups h9 h10 hgb hub Ag Au ng cg nu cu W (by omega) (by omega) hgl hul ((hgr.below_ hW).more (Nat.le_refl _) hW.size) ((hur.below hW).more hW.size)
  have HPF : Hid (∀ W, Below w.heap.size w W → Puts 34 #[.agg #[.int .u32 (fcum : Int), .slice As ns cs]] 192 0 (bodyF ⟨fcum, skips⟩) W) := Lib.hid fun W hW => putForward_any fcum skips h11 hsb As ns cs W (by omega) hsl ((hsr.below_ hW).more (Nat.le_refl _) hW.size)
  have HPT : Hid (∀ W, Puts 43 #[.int .u8 4, .int .i64 t] 4 0 (bodyT (t % 18446744073709551616).toNat) W) := Lib.hid fun W => putTime_any 4 t ht W
  have HPC : Hid (∀ W, Puts 45 #[.int .u32 (cum2 : Int)] 7 0 (enc cum2 4) W) := Lib.hid fun W => putCum_any cum2 h12 W
  have lYD : (bodyD ⟨tsn, stream, ssn, un, fi, la, ds⟩).length = 12 + nd := by rw [length_bodyD]; simp only; rw [hdl]
  obtain ⟨YD, eYD⟩ : ∃ Y, Y = bodyD ⟨tsn, stream, ssn, un, fi, la, ds⟩ := ⟨_, rfl⟩
  rw [← eYD] at HPD lYD
  have LYD := Lib.hid lYD
  clear eYD lYD
  have lY1 : (bodyI 1 ⟨tag, rwnd, out, in_, tsn2, ck⟩).length = 16 := by rw [length_bodyI]; rfl
  obtain ⟨Y1, eY1⟩ : ∃ Y, Y = bodyI 1 ⟨tag, rwnd, out, in_, tsn2, ck⟩ := ⟨_, rfl⟩
  rw [← eY1] at HP1 lY1
  have LY1 := Lib.hid lY1
  clear eY1 lY1
  have lY2 : (bodyI 2 ⟨tag, rwnd, out, in_, tsn2, ck⟩).length = 20 + (ni + 3) / 4 * 4 := by rw [length_bodyI, if_pos rfl]; simp only; rw [hil]; rfl
  obtain ⟨Y2, eY2⟩ : ∃ Y, Y = bodyI 2 ⟨tag, rwnd, out, in_, tsn2, ck⟩ := ⟨_, rfl⟩
  rw [← eY2] at HP2 lY2
  have LY2 := Lib.hid lY2
  clear eY2 lY2
  have lYS : (bodyS ⟨cum, rwnd2, gaps, dups⟩).length = 12 + 4 * ng + 4 * nu := by rw [length_bodyS]; simp only; rw [hgl, hul]
  obtain ⟨YS, eYS⟩ : ∃ Y, Y = bodyS ⟨cum, rwnd2, gaps, dups⟩ := ⟨_, rfl⟩
  rw [← eYS] at HPS lYS
  have LYS := Lib.hid lYS
  clear eYS lYS
  have lYF : (bodyF ⟨fcum, skips⟩).length = 4 + 4 * ns := by rw [length_bodyF]; simp only; rw [hsl]
  obtain ⟨YF, eYF⟩ : ∃ Y, Y = bodyF ⟨fcum, skips⟩ := ⟨_, rfl⟩
  rw [← eYF] at HPF lYF
  have LYF := Lib.hid lYF
  clear eYF lYF
  have lYT : (bodyT (t % 18446744073709551616).toNat).length = 12 := by exact length_bodyT _
  obtain ⟨YT, eYT⟩ : ∃ Y, Y = bodyT (t % 18446744073709551616).toNat := ⟨_, rfl⟩
  rw [← eYT] at HPT lYT
  have LYT := Lib.hid lYT
  clear eYT lYT
  have lYC : (enc cum2 4).length = 4 := by exact length_enc _ _
  obtain ⟨YC, eYC⟩ : ∃ Y, Y = enc cum2 4 := ⟨_, rfl⟩
  rw [← eYC] at HPC lYC
  have LYC := Lib.hid lYC
  clear eYC lYC
  have hng : ng ≤ 2048 := by omega
  have hnu : nu ≤ 2048 := by omega
  have hns : ns ≤ 2048 := by omega
  clear hd1 hd2 hi1 hi2 hg1 hg2 hu1 hu2 hs1 hs2 hdl hdr hil hir hgl hgr hgb hul hur hub hsl hsr hsb hb
  have hfb := field_body
  have b0 : Blk (w.alloc (.cells #[.bool ack, .int .u32 (tsn : Int), .int .u16 (stream : Int), .int .u16 (ssn : Int), .bool un, .bool fi, .bool la, .slice Ad nd cd, .int .u32 (tag : Int), .int .u32 (rwnd : Int), .int .u16 (out : Int), .int .u16 (in_ : Int), .int .u32 (tsn2 : Int), .slice Ai ni ci, .int .u32 (cum : Int), .int .u32 (rwnd2 : Int), .slice Ag ng cg, .slice Au nu cu, .int .u32 (fcum : Int), .slice As ns cs, .int .i64 t, .int .u32 (cum2 : Int)] 77)) w.heap.size 77 #[.bool ack, .int .u32 (tsn : Int), .int .u16 (stream : Int), .int .u16 (ssn : Int), .bool un, .bool fi, .bool la, .slice Ad nd cd, .int .u32 (tag : Int), .int .u32 (rwnd : Int), .int .u16 (out : Int), .int .u16 (in_ : Int), .int .u32 (tsn2 : Int), .slice Ai ni ci, .int .u32 (cum : Int), .int .u32 (rwnd2 : Int), .slice Ag ng cg, .slice Au nu cu, .int .u32 (fcum : Int), .slice As ns cs, .int .i64 t, .int .u32 (cum2 : Int)] := Blk.new w 77 #[.bool ack, .int .u32 (tsn : Int), .int .u16 (stream : Int), .int .u16 (ssn : Int), .bool un, .bool fi, .bool la, .slice Ad nd cd, .int .u32 (tag : Int), .int .u32 (rwnd : Int), .int .u16 (out : Int), .int .u16 (in_ : Int), .int .u32 (tsn2 : Int), .slice Ai ni ci, .int .u32 (cum : Int), .int .u32 (rwnd2 : Int), .slice Ag ng cg, .slice Au nu cu, .int .u32 (fcum : Int), .slice As ns cs, .int .i64 t, .int .u32 (cum2 : Int)]
  have K0 := Lib.hid b0
  have B0 : Hid (Below w.heap.size w (w.alloc (.cells #[.bool ack, .int .u32 (tsn : Int), .int .u16 (stream : Int), .int .u16 (ssn : Int), .bool un, .bool fi, .bool la, .slice Ad nd cd, .int .u32 (tag : Int), .int .u32 (rwnd : Int), .int .u16 (out : Int), .int .u16 (in_ : Int), .int .u32 (tsn2 : Int), .slice Ai ni ci, .int .u32 (cum : Int), .int .u32 (rwnd2 : Int), .slice Ag ng cg, .slice Au nu cu, .int .u32 (fcum : Int), .slice As ns cs, .int .i64 t, .int .u32 (cum2 : Int)] 77))) := Lib.hid (Wr.below_ ((Wr.refl 5 w.heap.size w).alloc (.cells #[.bool ack, .int .u32 (tsn : Int), .int .u16 (stream : Int), .int .u16 (ssn : Int), .bool un, .bool fi, .bool la, .slice Ad nd cd, .int .u32 (tag : Int), .int .u32 (rwnd : Int), .int .u16 (out : Int), .int .u16 (in_ : Int), .int .u32 (tsn2 : Int), .slice Ai ni ci, .int .u32 (cum : Int), .int .u32 (rwnd2 : Int), .slice Ag ng cg, .slice Au nu cu, .int .u32 (fcum : Int), .slice As ns cs, .int .i64 t, .int .u32 (cum2 : Int)] 77)) (Nat.le_refl _))
  clear b0
  go_enter Try.func11, Try.ntmps11
  rw [drawn_eq 3, drawn_eq 5]
  go_wp2_with fail
  generalize (w.alloc (.cells #[.bool ack, .int .u32 (tsn : Int), .int .u16 (stream : Int), .int .u16 (ssn : Int), .bool un, .bool fi, .bool la, .slice Ad nd cd, .int .u32 (tag : Int), .int .u32 (rwnd : Int), .int .u16 (out : Int), .int .u16 (in_ : Int), .int .u32 (tsn2 : Int), .slice Ai ni ci, .int .u32 (cum : Int), .int .u32 (rwnd2 : Int), .slice Ag ng cg, .slice Au nu cu, .int .u32 (fcum : Int), .slice As ns cs, .int .i64 t, .int .u32 (cum2 : Int)] 77)) = v0 at K0 B0 ⊢
  refine (HMN.out v0).mono ?_
  rintro e w1 ⟨rfl, hb⟩
  have K1 := Lib.hid (K0.out.below hb K0.out.lt)
  have B1 := Lib.hid (below_then B0.out (Nat.le_refl _) hb)
  have x7 : w1.cell? ⟨w.heap.size, 7, none⟩ = some (.slice Ad nd cd) := K1.out.cell 7
  have x13 : w1.cell? ⟨w.heap.size, 13, none⟩ = some (.slice Ai ni ci) := K1.out.cell 13
  clear hb K0 B0
  go_wp2_with fail
  clear x7 x13
  generalize w1 = v1 at K1 B1 ⊢
  rw [← drawn_eq 3]
  have hneD : ((YD.length : Int) != 12 + (nd : Int)) = false := by rw [LYD.out]; simp
  have hne1 : ((Y1.length : Int) != 16) = false := by rw [LY1.out]; rfl
  have hne2 : ((Y2.length : Int) != 20 + ((ni : Int) + 3) / 4 * 4) = false := by rw [LY2.out, bne_eq_false_iff_eq]; omega
  refine wp_region_grow_tail 34 (by kernel_rfl) [(Is (.pointer (some ⟨w.heap.size, 1, none⟩))), (Is (.agg #[.int .u32 (tsn : Int), .int .u16 (stream : Int), .int .u16 (ssn : Int), .bool un, .bool fi, .bool la, .slice Ad nd cd])), (NewAgg 5 w.heap.size YD.length YD (fun s => .agg #[.int .u8 ((0 : UInt8).toNat : Int), .int .u8 ((flagsD un fi la : UInt8).toNat : Int), s])), (NewOwn 5 w.heap.size YD.length YD), (Is (.int .i64 YD.length)), (Is (.pointer (some ⟨w.heap.size, 1, none⟩))), (Is (.pointer (some ⟨w.heap.size, 7, none⟩))), (Is (.slice Ad nd cd)), (Is (.int .i64 nd)), (Is (.int .i64 (12 + (nd : Int)))), (Is (.bool false)), (Is (.bool false)), (Is (.pointer (some ⟨w.heap.size, 8, none⟩))), (Is (.agg #[.int .u32 (tag : Int), .int .u32 (rwnd : Int), .int .u16 (out : Int), .int .u16 (in_ : Int), .int .u32 (tsn2 : Int), .slice Ai ni ci])), (NewAgg 5 w.heap.size Y1.length Y1 (fun s => .agg #[.int .u8 ((1 : UInt8).toNat : Int), .int .u8 ((0 : UInt8).toNat : Int), s])), (NewOwn 5 w.heap.size Y1.length Y1), (Is (.int .i64 Y1.length)), (Is (.bool false)), (Is (.bool false)), (Is (.bool false)), (Is (.pointer (some ⟨w.heap.size, 8, none⟩))), (Is (.agg #[.int .u32 (tag : Int), .int .u32 (rwnd : Int), .int .u16 (out : Int), .int .u16 (in_ : Int), .int .u32 (tsn2 : Int), .slice Ai ni ci])), (NewAgg 5 w.heap.size Y2.length Y2 (fun s => .agg #[.int .u8 ((2 : UInt8).toNat : Int), .int .u8 ((0 : UInt8).toNat : Int), s])), (NewOwn 5 w.heap.size Y2.length Y2), (Is (.int .i64 Y2.length)), (Is (.pointer (some ⟨w.heap.size, 8, none⟩))), (Is (.pointer (some ⟨w.heap.size, 13, none⟩))), (Is (.slice Ai ni ci)), (Is (.int .i64 ni)), (Is (.int .i64 ((ni : Int) + 3))), (Is (.int .i64 (((ni : Int) + 3) / 4))), (Is (.int .i64 (((ni : Int) + 3) / 4 * 4))), (Is (.int .i64 (20 + ((ni : Int) + 3) / 4 * 4))), (Is (.bool false))] rfl ?_ (by kernel_rfl) (by kernel_rfl) ?_ ?_
  · intro p hp
    simp only [List.mem_cons, List.not_mem_nil, or_false] at hp
    rcases hp with rfl | rfl | rfl | rfl | rfl | rfl | rfl | rfl | rfl | rfl | rfl | rfl | rfl | rfl | rfl | rfl | rfl | rfl | rfl | rfl | rfl | rfl | rfl | rfl | rfl | rfl | rfl | rfl | rfl | rfl | rfl | rfl | rfl | rfl
    · exact Lasts.is _
    · exact Lasts.is _
    · exact Lasts.newAgg _ _ _ _ _
    · exact Lasts.newOwn _ _ _ _
    · exact Lasts.is _
    · exact Lasts.is _
    · exact Lasts.is _
    · exact Lasts.is _
    · exact Lasts.is _
    · exact Lasts.is _
    · exact Lasts.is _
    · exact Lasts.is _
    · exact Lasts.is _
    · exact Lasts.is _
    · exact Lasts.newAgg _ _ _ _ _
    · exact Lasts.newOwn _ _ _ _
    · exact Lasts.is _
    · exact Lasts.is _
    · exact Lasts.is _
    · exact Lasts.is _
    · exact Lasts.is _
    · exact Lasts.is _
    · exact Lasts.newAgg _ _ _ _ _
    · exact Lasts.newOwn _ _ _ _
    · exact Lasts.is _
    · exact Lasts.is _
    · exact Lasts.is _
    · exact Lasts.is _
    · exact Lasts.is _
    · exact Lasts.is _
    · exact Lasts.is _
    · exact Lasts.is _
    · exact Lasts.is _
    · exact Lasts.is _
  · refine ⟨?_, ?_, ?_, ?_, ?_, ?_, ?_, ?_, ?_, ?_, ?_, ?_, ?_, ?_, ?_, ?_, ?_, ?_, ?_, ?_, ?_, ?_, ?_, ?_, ?_, ?_, ?_, ?_, ?_, ?_, ?_, ?_, ?_, ?_, trivial⟩
    · intro listed a w1 hl hc
      have h1 : a.tmps[1]?.getD undef = .pointer (some ⟨w.heap.size, 0, none⟩) := (hc.was 1 (by kernel_rfl)).trans rfl
      refine does_value rfl rfl (.pointer (some ⟨w.heap.size, 1, none⟩)) w1 ?_ (Below.refl _ _) rfl
      clear hc hl
      go_simp
    · intro listed a w1 hl hc
      have h23 : a.tmps[23]?.getD undef = .pointer (some ⟨w.heap.size, 1, none⟩) := hc.dep hl 0 23 rfl (by kernel_rfl)
      have kb := K1.out.below hc.g K1.out.lt
      have x1 : w1.cell? ⟨w.heap.size, 1, none⟩ = some (.int .u32 (tsn : Int)) := kb.cell 1
      have x2 : w1.cell? ⟨w.heap.size, 2, none⟩ = some (.int .u16 (stream : Int)) := kb.cell 2
      have x3 : w1.cell? ⟨w.heap.size, 3, none⟩ = some (.int .u16 (ssn : Int)) := kb.cell 3
      have x4 : w1.cell? ⟨w.heap.size, 4, none⟩ = some (.bool un) := kb.cell 4
      have x5 : w1.cell? ⟨w.heap.size, 5, none⟩ = some (.bool fi) := kb.cell 5
      have x6 : w1.cell? ⟨w.heap.size, 6, none⟩ = some (.bool la) := kb.cell 6
      have x7 : w1.cell? ⟨w.heap.size, 7, none⟩ = some (.slice Ad nd cd) := kb.cell 7
      clear kb
      refine does_value rfl rfl (.agg #[.int .u32 (tsn : Int), .int .u16 (stream : Int), .int .u16 (ssn : Int), .bool un, .bool fi, .bool la, .slice Ad nd cd]) w1 ?_ (Below.refl _ _) rfl
      clear hc hl
      go_simp
    · intro listed a w1 hl hc
      have h24 : a.tmps[24]?.getD undef = .agg #[.int .u32 (tsn : Int), .int .u16 (stream : Int), .int .u16 (ssn : Int), .bool un, .bool fi, .bool la, .slice Ad nd cd] := hc.dep hl 1 24 rfl (by kernel_rfl)
      refine does_call rfl rfl 15 #[.agg #[.int .u32 (tsn : Int), .int .u16 (stream : Int), .int .u16 (ssn : Int), .bool un, .bool fi, .bool la, .slice Ad nd cd]] ?_ ((HPD.out w1 (B1.out.trans (hc.g.mono B1.out.size))).mono fun e w' ⟨A9, c9, he, ho, hb⟩ => ⟨_, he, hb, A9, c9, rfl, ho.more (Nat.le_trans B1.out.size hc.g.size)⟩)
      clear hc hl
      go_simp
    · intro listed a w1 hl hc
      obtain ⟨A25, c25, h25, ho25⟩ := hc.dep hl 2 25 rfl (by kernel_rfl)
      refine does_value rfl rfl (.slice A25 YD.length c25) w1 ?_ (Below.refl _ _) ⟨A25, c25, rfl, ho25⟩
      clear hc hl
      go_simp
    · intro listed a w1 hl hc
      obtain ⟨A26, c26, h26, ho26⟩ := hc.dep hl 3 26 rfl (by kernel_rfl)
      refine does_value rfl rfl (.int .i64 YD.length) w1 ?_ (Below.refl _ _) rfl
      clear hc hl
      go_simp
    · intro listed a w1 hl hc
      have h1 : a.tmps[1]?.getD undef = .pointer (some ⟨w.heap.size, 0, none⟩) := (hc.was 1 (by kernel_rfl)).trans rfl
      refine does_value rfl rfl (.pointer (some ⟨w.heap.size, 1, none⟩)) w1 ?_ (Below.refl _ _) rfl
      clear hc hl
      go_simp
    · intro listed a w1 hl hc
      have h28 : a.tmps[28]?.getD undef = .pointer (some ⟨w.heap.size, 1, none⟩) := hc.dep hl 5 28 rfl (by kernel_rfl)
      refine does_value rfl rfl (.pointer (some ⟨w.heap.size, 7, none⟩)) w1 ?_ (Below.refl _ _) rfl
      clear hc hl
      go_simp
    · intro listed a w1 hl hc
      have h29 : a.tmps[29]?.getD undef = .pointer (some ⟨w.heap.size, 7, none⟩) := hc.dep hl 6 29 rfl (by kernel_rfl)
      have kb := K1.out.below hc.g K1.out.lt
      have x7 : w1.cell? ⟨w.heap.size, 7, none⟩ = some (.slice Ad nd cd) := kb.cell 7
      clear kb
      refine does_value rfl rfl (.slice Ad nd cd) w1 ?_ (Below.refl _ _) rfl
      clear hc hl
      go_simp
    · intro listed a w1 hl hc
      have h30 : a.tmps[30]?.getD undef = .slice Ad nd cd := hc.dep hl 7 30 rfl (by kernel_rfl)
      refine does_value rfl rfl (.int .i64 nd) w1 ?_ (Below.refl _ _) rfl
      clear hc hl
      go_simp
    · intro listed a w1 hl hc
      have h31 : a.tmps[31]?.getD undef = .int .i64 nd := hc.dep hl 8 31 rfl (by kernel_rfl)
      refine does_value rfl rfl (.int .i64 (12 + (nd : Int))) w1 ?_ (Below.refl _ _) rfl
      clear hc hl
      go_simp
      exact wrap_small _ (by omega) (by omega)
    · intro listed a w1 hl hc
      have h27 : a.tmps[27]?.getD undef = .int .i64 YD.length := hc.dep hl 4 27 rfl (by kernel_rfl)
      have h32 : a.tmps[32]?.getD undef = .int .i64 (12 + (nd : Int)) := hc.dep hl 9 32 rfl (by kernel_rfl)
      refine does_value rfl rfl (.bool false) w1 ?_ (Below.refl _ _) rfl
      clear hc hl
      go_simp
    · intro listed a w1 hl hc
      have h33 : a.tmps[33]?.getD undef = .bool false := hc.dep hl 10 33 rfl (by kernel_rfl)
      refine does_value rfl rfl (.bool false) w1 ?_ (Below.refl _ _) rfl
      clear hc hl
      go_simp
    · intro listed a w1 hl hc
      have h1 : a.tmps[1]?.getD undef = .pointer (some ⟨w.heap.size, 0, none⟩) := (hc.was 1 (by kernel_rfl)).trans rfl
      refine does_value rfl (wanted_at rfl rfl (hc.dep hl 11 34 rfl (by kernel_rfl))) (.pointer (some ⟨w.heap.size, 8, none⟩)) w1 ?_ (Below.refl _ _) rfl
      clear hc hl
      go_simp
    · intro listed a w1 hl hc
      have h35 : a.tmps[35]?.getD undef = .pointer (some ⟨w.heap.size, 8, none⟩) := hc.dep hl 12 35 rfl (by kernel_rfl)
      have kb := K1.out.below hc.g K1.out.lt
      have x8 : w1.cell? ⟨w.heap.size, 8, none⟩ = some (.int .u32 (tag : Int)) := kb.cell 8
      have x9 : w1.cell? ⟨w.heap.size, 9, none⟩ = some (.int .u32 (rwnd : Int)) := kb.cell 9
      have x10 : w1.cell? ⟨w.heap.size, 10, none⟩ = some (.int .u16 (out : Int)) := kb.cell 10
      have x11 : w1.cell? ⟨w.heap.size, 11, none⟩ = some (.int .u16 (in_ : Int)) := kb.cell 11
      have x12 : w1.cell? ⟨w.heap.size, 12, none⟩ = some (.int .u32 (tsn2 : Int)) := kb.cell 12
      have x13 : w1.cell? ⟨w.heap.size, 13, none⟩ = some (.slice Ai ni ci) := kb.cell 13
      clear kb
      refine does_value rfl (wanted_at rfl rfl (hc.dep hl 11 34 rfl (by kernel_rfl))) (.agg #[.int .u32 (tag : Int), .int .u32 (rwnd : Int), .int .u16 (out : Int), .int .u16 (in_ : Int), .int .u32 (tsn2 : Int), .slice Ai ni ci]) w1 ?_ (Below.refl _ _) rfl
      clear hc hl
      go_simp
    · intro listed a w1 hl hc
      have h36 : a.tmps[36]?.getD undef = .agg #[.int .u32 (tag : Int), .int .u32 (rwnd : Int), .int .u16 (out : Int), .int .u16 (in_ : Int), .int .u32 (tsn2 : Int), .slice Ai ni ci] := hc.dep hl 13 36 rfl (by kernel_rfl)
      refine does_call rfl (wanted_at rfl rfl (hc.dep hl 11 34 rfl (by kernel_rfl))) 23 #[.int .u8 1, .agg #[.int .u32 (tag : Int), .int .u32 (rwnd : Int), .int .u16 (out : Int), .int .u16 (in_ : Int), .int .u32 (tsn2 : Int), .slice Ai ni ci]] ?_ ((HP1.out w1 (B1.out.trans (hc.g.mono B1.out.size))).mono fun e w' ⟨A9, c9, he, ho, hb⟩ => ⟨_, he, hb, A9, c9, rfl, ho.more (Nat.le_trans B1.out.size hc.g.size)⟩)
      clear hc hl
      go_simp
    · intro listed a w1 hl hc
      obtain ⟨A37, c37, h37, ho37⟩ := hc.dep hl 14 37 rfl (by kernel_rfl)
      refine does_value rfl (wanted_at rfl rfl (hc.dep hl 11 34 rfl (by kernel_rfl))) (.slice A37 Y1.length c37) w1 ?_ (Below.refl _ _) ⟨A37, c37, rfl, ho37⟩
      clear hc hl
      go_simp
    · intro listed a w1 hl hc
      obtain ⟨A38, c38, h38, ho38⟩ := hc.dep hl 15 38 rfl (by kernel_rfl)
      refine does_value rfl (wanted_at rfl rfl (hc.dep hl 11 34 rfl (by kernel_rfl))) (.int .i64 Y1.length) w1 ?_ (Below.refl _ _) rfl
      clear hc hl
      go_simp
    · intro listed a w1 hl hc
      have h39 : a.tmps[39]?.getD undef = .int .i64 Y1.length := hc.dep hl 16 39 rfl (by kernel_rfl)
      refine does_value rfl (wanted_at rfl rfl (hc.dep hl 11 34 rfl (by kernel_rfl))) (.bool false) w1 ?_ (Below.refl _ _) rfl
      clear hc hl
      go_simp
    · intro listed a w1 hl hc
      have h34 : a.tmps[34]?.getD undef = .bool false := hc.dep hl 11 34 rfl (by kernel_rfl)
      have h40 : a.tmps[40]?.getD undef = .bool false := hc.dep hl 17 40 rfl (by kernel_rfl)
      refine does_value rfl rfl (.bool false) w1 ?_ (Below.refl _ _) rfl
      clear hc hl
      go_simp
    · intro listed a w1 hl hc
      have h41 : a.tmps[41]?.getD undef = .bool false := hc.dep hl 18 41 rfl (by kernel_rfl)
      refine does_value rfl rfl (.bool false) w1 ?_ (Below.refl _ _) rfl
      clear hc hl
      go_simp
    · intro listed a w1 hl hc
      have h1 : a.tmps[1]?.getD undef = .pointer (some ⟨w.heap.size, 0, none⟩) := (hc.was 1 (by kernel_rfl)).trans rfl
      refine does_value rfl (wanted_at rfl rfl (hc.dep hl 19 42 rfl (by kernel_rfl))) (.pointer (some ⟨w.heap.size, 8, none⟩)) w1 ?_ (Below.refl _ _) rfl
      clear hc hl
      go_simp
    · intro listed a w1 hl hc
      have h43 : a.tmps[43]?.getD undef = .pointer (some ⟨w.heap.size, 8, none⟩) := hc.dep hl 20 43 rfl (by kernel_rfl)
      have kb := K1.out.below hc.g K1.out.lt
      have x8 : w1.cell? ⟨w.heap.size, 8, none⟩ = some (.int .u32 (tag : Int)) := kb.cell 8
      have x9 : w1.cell? ⟨w.heap.size, 9, none⟩ = some (.int .u32 (rwnd : Int)) := kb.cell 9
      have x10 : w1.cell? ⟨w.heap.size, 10, none⟩ = some (.int .u16 (out : Int)) := kb.cell 10
      have x11 : w1.cell? ⟨w.heap.size, 11, none⟩ = some (.int .u16 (in_ : Int)) := kb.cell 11
      have x12 : w1.cell? ⟨w.heap.size, 12, none⟩ = some (.int .u32 (tsn2 : Int)) := kb.cell 12
      have x13 : w1.cell? ⟨w.heap.size, 13, none⟩ = some (.slice Ai ni ci) := kb.cell 13
      clear kb
      refine does_value rfl (wanted_at rfl rfl (hc.dep hl 19 42 rfl (by kernel_rfl))) (.agg #[.int .u32 (tag : Int), .int .u32 (rwnd : Int), .int .u16 (out : Int), .int .u16 (in_ : Int), .int .u32 (tsn2 : Int), .slice Ai ni ci]) w1 ?_ (Below.refl _ _) rfl
      clear hc hl
      go_simp
    · intro listed a w1 hl hc
      have h44 : a.tmps[44]?.getD undef = .agg #[.int .u32 (tag : Int), .int .u32 (rwnd : Int), .int .u16 (out : Int), .int .u16 (in_ : Int), .int .u32 (tsn2 : Int), .slice Ai ni ci] := hc.dep hl 21 44 rfl (by kernel_rfl)
      refine does_call rfl (wanted_at rfl rfl (hc.dep hl 19 42 rfl (by kernel_rfl))) 23 #[.int .u8 2, .agg #[.int .u32 (tag : Int), .int .u32 (rwnd : Int), .int .u16 (out : Int), .int .u16 (in_ : Int), .int .u32 (tsn2 : Int), .slice Ai ni ci]] ?_ ((HP2.out w1 (B1.out.trans (hc.g.mono B1.out.size))).mono fun e w' ⟨A9, c9, he, ho, hb⟩ => ⟨_, he, hb, A9, c9, rfl, ho.more (Nat.le_trans B1.out.size hc.g.size)⟩)
      clear hc hl
      go_simp
    · intro listed a w1 hl hc
      obtain ⟨A45, c45, h45, ho45⟩ := hc.dep hl 22 45 rfl (by kernel_rfl)
      refine does_value rfl (wanted_at rfl rfl (hc.dep hl 19 42 rfl (by kernel_rfl))) (.slice A45 Y2.length c45) w1 ?_ (Below.refl _ _) ⟨A45, c45, rfl, ho45⟩
      clear hc hl
      go_simp
    · intro listed a w1 hl hc
      obtain ⟨A46, c46, h46, ho46⟩ := hc.dep hl 23 46 rfl (by kernel_rfl)
      refine does_value rfl (wanted_at rfl rfl (hc.dep hl 19 42 rfl (by kernel_rfl))) (.int .i64 Y2.length) w1 ?_ (Below.refl _ _) rfl
      clear hc hl
      go_simp
    · intro listed a w1 hl hc
      have h1 : a.tmps[1]?.getD undef = .pointer (some ⟨w.heap.size, 0, none⟩) := (hc.was 1 (by kernel_rfl)).trans rfl
      refine does_value rfl (wanted_at rfl rfl (hc.dep hl 19 42 rfl (by kernel_rfl))) (.pointer (some ⟨w.heap.size, 8, none⟩)) w1 ?_ (Below.refl _ _) rfl
      clear hc hl
      go_simp
    · intro listed a w1 hl hc
      have h48 : a.tmps[48]?.getD undef = .pointer (some ⟨w.heap.size, 8, none⟩) := hc.dep hl 25 48 rfl (by kernel_rfl)
      refine does_value rfl (wanted_at rfl rfl (hc.dep hl 19 42 rfl (by kernel_rfl))) (.pointer (some ⟨w.heap.size, 13, none⟩)) w1 ?_ (Below.refl _ _) rfl
      clear hc hl
      go_simp
    · intro listed a w1 hl hc
      have h49 : a.tmps[49]?.getD undef = .pointer (some ⟨w.heap.size, 13, none⟩) := hc.dep hl 26 49 rfl (by kernel_rfl)
      have kb := K1.out.below hc.g K1.out.lt
      have x13 : w1.cell? ⟨w.heap.size, 13, none⟩ = some (.slice Ai ni ci) := kb.cell 13
      clear kb
      refine does_value rfl (wanted_at rfl rfl (hc.dep hl 19 42 rfl (by kernel_rfl))) (.slice Ai ni ci) w1 ?_ (Below.refl _ _) rfl
      clear hc hl
      go_simp
    · intro listed a w1 hl hc
      have h50 : a.tmps[50]?.getD undef = .slice Ai ni ci := hc.dep hl 27 50 rfl (by kernel_rfl)
      refine does_value rfl (wanted_at rfl rfl (hc.dep hl 19 42 rfl (by kernel_rfl))) (.int .i64 ni) w1 ?_ (Below.refl _ _) rfl
      clear hc hl
      go_simp
    · intro listed a w1 hl hc
      have h51 : a.tmps[51]?.getD undef = .int .i64 ni := hc.dep hl 28 51 rfl (by kernel_rfl)
      refine does_value rfl (wanted_at rfl rfl (hc.dep hl 19 42 rfl (by kernel_rfl))) (.int .i64 ((ni : Int) + 3)) w1 ?_ (Below.refl _ _) rfl
      clear hc hl
      go_simp
      exact wrap_small _ (by omega) (by omega)
    · intro listed a w1 hl hc
      have h52 : a.tmps[52]?.getD undef = .int .i64 ((ni : Int) + 3) := hc.dep hl 29 52 rfl (by kernel_rfl)
      refine does_value rfl (wanted_at rfl rfl (hc.dep hl 19 42 rfl (by kernel_rfl))) (.int .i64 (((ni : Int) + 3) / 4)) w1 ?_ (Below.refl _ _) rfl
      clear hc hl
      go_simp
      exact quo4 _ (by omega) (by omega)
    · intro listed a w1 hl hc
      have h53 : a.tmps[53]?.getD undef = .int .i64 (((ni : Int) + 3) / 4) := hc.dep hl 30 53 rfl (by kernel_rfl)
      refine does_value rfl (wanted_at rfl rfl (hc.dep hl 19 42 rfl (by kernel_rfl))) (.int .i64 (((ni : Int) + 3) / 4 * 4)) w1 ?_ (Below.refl _ _) rfl
      clear hc hl
      go_simp
      exact wrap_small _ (by omega) (by omega)
    · intro listed a w1 hl hc
      have h54 : a.tmps[54]?.getD undef = .int .i64 (((ni : Int) + 3) / 4 * 4) := hc.dep hl 31 54 rfl (by kernel_rfl)
      refine does_value rfl (wanted_at rfl rfl (hc.dep hl 19 42 rfl (by kernel_rfl))) (.int .i64 (20 + ((ni : Int) + 3) / 4 * 4)) w1 ?_ (Below.refl _ _) rfl
      clear hc hl
      go_simp
      exact wrap_small _ (by omega) (by omega)
    · intro listed a w1 hl hc
      have h47 : a.tmps[47]?.getD undef = .int .i64 Y2.length := hc.dep hl 24 47 rfl (by kernel_rfl)
      have h55 : a.tmps[55]?.getD undef = .int .i64 (20 + ((ni : Int) + 3) / 4 * 4) := hc.dep hl 32 55 rfl (by kernel_rfl)
      refine does_value rfl (wanted_at rfl rfl (hc.dep hl 19 42 rfl (by kernel_rfl))) (.bool false) w1 ?_ (Below.refl _ _) rfl
      clear hc hl
      go_simp
  intro w2 hbb
  rintro _ rfl _ rfl _ ⟨A25, c25, rfl, ho25⟩ _ ⟨A26, c26, rfl, ho26⟩ _ rfl _ rfl _ rfl _ rfl _ rfl _ rfl _ rfl _ rfl _ rfl _ rfl _ ⟨A37, c37, rfl, ho37⟩ _ ⟨A38, c38, rfl, ho38⟩ _ rfl _ rfl _ rfl _ rfl _ rfl _ rfl _ ⟨A45, c45, rfl, ho45⟩ _ ⟨A46, c46, rfl, ho46⟩ _ rfl _ rfl _ rfl _ rfl _ rfl _ rfl _ rfl _ rfl _ rfl _ rfl
  simp only [Thus, List.reverse_cons, List.reverse_nil, List.nil_append, List.cons_append, List.drop, List.take, lay]
  go_frame
  have K2 := Lib.hid (K1.out.below hbb K1.out.lt)
  have B2 := Lib.hid (below_then B1.out (Nat.le_refl _) hbb)
  clear hbb K1 B1 hneD hne1 hne2
  go_wp2_with fail
  generalize w2 = v2 at K2 B2 ⊢
  rw [← drawn_eq 5]
  have hneS : ((YS.length : Int) != 12 + 4 * (ng : Int) + 4 * (nu : Int)) = false := by rw [LYS.out, bne_eq_false_iff_eq]; omega
  have hneF : ((YF.length : Int) != 4 + 4 * (ns : Int)) = false := by rw [LYF.out, bne_eq_false_iff_eq]; omega
  refine wp_region_grow_tail 31 (by kernel_rfl) [(Is (.pointer (some ⟨w.heap.size, 14, none⟩))), (Is (.agg #[.int .u32 (cum : Int), .int .u32 (rwnd2 : Int), .slice Ag ng cg, .slice Au nu cu])), (NewAgg 5 w.heap.size YS.length YS (fun s => .agg #[.int .u8 ((3 : UInt8).toNat : Int), .int .u8 ((0 : UInt8).toNat : Int), s])), (NewOwn 5 w.heap.size YS.length YS), (Is (.int .i64 YS.length)), (Is (.pointer (some ⟨w.heap.size, 14, none⟩))), (Is (.pointer (some ⟨w.heap.size, 16, none⟩))), (Is (.slice Ag ng cg)), (Is (.int .i64 ng)), (Is (.int .i64 (4 * (ng : Int)))), (Is (.int .i64 (12 + 4 * (ng : Int)))), (Is (.pointer (some ⟨w.heap.size, 14, none⟩))), (Is (.pointer (some ⟨w.heap.size, 17, none⟩))), (Is (.slice Au nu cu)), (Is (.int .i64 nu)), (Is (.int .i64 (4 * (nu : Int)))), (Is (.int .i64 (12 + 4 * (ng : Int) + 4 * (nu : Int)))), (Is (.bool false)), (Is (.bool false)), (Is (.pointer (some ⟨w.heap.size, 18, none⟩))), (Is (.agg #[.int .u32 (fcum : Int), .slice As ns cs])), (NewAgg 5 w.heap.size YF.length YF (fun s => .agg #[.int .u8 ((192 : UInt8).toNat : Int), .int .u8 ((0 : UInt8).toNat : Int), s])), (NewOwn 5 w.heap.size YF.length YF), (Is (.int .i64 YF.length)), (Is (.pointer (some ⟨w.heap.size, 18, none⟩))), (Is (.pointer (some ⟨w.heap.size, 19, none⟩))), (Is (.slice As ns cs)), (Is (.int .i64 ns)), (Is (.int .i64 (4 * (ns : Int)))), (Is (.int .i64 (4 + 4 * (ns : Int)))), (Is (.bool false))] rfl ?_ (by kernel_rfl) (by kernel_rfl) ?_ ?_
  · intro p hp
    simp only [List.mem_cons, List.not_mem_nil, or_false] at hp
    rcases hp with rfl | rfl | rfl | rfl | rfl | rfl | rfl | rfl | rfl | rfl | rfl | rfl | rfl | rfl | rfl | rfl | rfl | rfl | rfl | rfl | rfl | rfl | rfl | rfl | rfl | rfl | rfl | rfl | rfl | rfl | rfl
    · exact Lasts.is _
    · exact Lasts.is _
    · exact Lasts.newAgg _ _ _ _ _
    · exact Lasts.newOwn _ _ _ _
    · exact Lasts.is _
    · exact Lasts.is _
    · exact Lasts.is _
    · exact Lasts.is _
    · exact Lasts.is _
    · exact Lasts.is _
    · exact Lasts.is _
    · exact Lasts.is _
    · exact Lasts.is _
    · exact Lasts.is _
    · exact Lasts.is _
    · exact Lasts.is _
    · exact Lasts.is _
    · exact Lasts.is _
    · exact Lasts.is _
    · exact Lasts.is _
    · exact Lasts.is _
    · exact Lasts.newAgg _ _ _ _ _
    · exact Lasts.newOwn _ _ _ _
    · exact Lasts.is _
    · exact Lasts.is _
    · exact Lasts.is _
    · exact Lasts.is _
    · exact Lasts.is _
    · exact Lasts.is _
    · exact Lasts.is _
    · exact Lasts.is _
  · refine ⟨?_, ?_, ?_, ?_, ?_, ?_, ?_, ?_, ?_, ?_, ?_, ?_, ?_, ?_, ?_, ?_, ?_, ?_, ?_, ?_, ?_, ?_, ?_, ?_, ?_, ?_, ?_, ?_, ?_, ?_, ?_, trivial⟩
    · intro listed a w1 hl hc
      have h1 : a.tmps[1]?.getD undef = .pointer (some ⟨w.heap.size, 0, none⟩) := (hc.was 1 (by kernel_rfl)).trans rfl
      refine does_value rfl rfl (.pointer (some ⟨w.heap.size, 14, none⟩)) w1 ?_ (Below.refl _ _) rfl
      clear hc hl
      go_simp
    · intro listed a w1 hl hc
      have h58 : a.tmps[58]?.getD undef = .pointer (some ⟨w.heap.size, 14, none⟩) := hc.dep hl 0 58 rfl (by kernel_rfl)
      have kb := K2.out.below hc.g K2.out.lt
      have x14 : w1.cell? ⟨w.heap.size, 14, none⟩ = some (.int .u32 (cum : Int)) := kb.cell 14
      have x15 : w1.cell? ⟨w.heap.size, 15, none⟩ = some (.int .u32 (rwnd2 : Int)) := kb.cell 15
      have x16 : w1.cell? ⟨w.heap.size, 16, none⟩ = some (.slice Ag ng cg) := kb.cell 16
      have x17 : w1.cell? ⟨w.heap.size, 17, none⟩ = some (.slice Au nu cu) := kb.cell 17
      clear kb
      refine does_value rfl rfl (.agg #[.int .u32 (cum : Int), .int .u32 (rwnd2 : Int), .slice Ag ng cg, .slice Au nu cu]) w1 ?_ (Below.refl _ _) rfl
      clear hc hl
      go_simp
    · intro listed a w1 hl hc
      have h59 : a.tmps[59]?.getD undef = .agg #[.int .u32 (cum : Int), .int .u32 (rwnd2 : Int), .slice Ag ng cg, .slice Au nu cu] := hc.dep hl 1 59 rfl (by kernel_rfl)
      refine does_call rfl rfl 29 #[.agg #[.int .u32 (cum : Int), .int .u32 (rwnd2 : Int), .slice Ag ng cg, .slice Au nu cu]] ?_ ((HPS.out w1 (B2.out.trans (hc.g.mono B2.out.size))).mono fun e w' ⟨A9, c9, he, ho, hb⟩ => ⟨_, he, hb, A9, c9, rfl, ho.more (Nat.le_trans B2.out.size hc.g.size)⟩)
      clear hc hl
      go_simp
    · intro listed a w1 hl hc
      obtain ⟨A60, c60, h60, ho60⟩ := hc.dep hl 2 60 rfl (by kernel_rfl)
      refine does_value rfl rfl (.slice A60 YS.length c60) w1 ?_ (Below.refl _ _) ⟨A60, c60, rfl, ho60⟩
      clear hc hl
      go_simp
    · intro listed a w1 hl hc
      obtain ⟨A61, c61, h61, ho61⟩ := hc.dep hl 3 61 rfl (by kernel_rfl)
      refine does_value rfl rfl (.int .i64 YS.length) w1 ?_ (Below.refl _ _) rfl
      clear hc hl
      go_simp
    · intro listed a w1 hl hc
      have h1 : a.tmps[1]?.getD undef = .pointer (some ⟨w.heap.size, 0, none⟩) := (hc.was 1 (by kernel_rfl)).trans rfl
      refine does_value rfl rfl (.pointer (some ⟨w.heap.size, 14, none⟩)) w1 ?_ (Below.refl _ _) rfl
      clear hc hl
      go_simp
    · intro listed a w1 hl hc
      have h63 : a.tmps[63]?.getD undef = .pointer (some ⟨w.heap.size, 14, none⟩) := hc.dep hl 5 63 rfl (by kernel_rfl)
      refine does_value rfl rfl (.pointer (some ⟨w.heap.size, 16, none⟩)) w1 ?_ (Below.refl _ _) rfl
      clear hc hl
      go_simp
    · intro listed a w1 hl hc
      have h64 : a.tmps[64]?.getD undef = .pointer (some ⟨w.heap.size, 16, none⟩) := hc.dep hl 6 64 rfl (by kernel_rfl)
      have kb := K2.out.below hc.g K2.out.lt
      have x16 : w1.cell? ⟨w.heap.size, 16, none⟩ = some (.slice Ag ng cg) := kb.cell 16
      clear kb
      refine does_value rfl rfl (.slice Ag ng cg) w1 ?_ (Below.refl _ _) rfl
      clear hc hl
      go_simp
    · intro listed a w1 hl hc
      have h65 : a.tmps[65]?.getD undef = .slice Ag ng cg := hc.dep hl 7 65 rfl (by kernel_rfl)
      refine does_value rfl rfl (.int .i64 ng) w1 ?_ (Below.refl _ _) rfl
      clear hc hl
      go_simp
    · intro listed a w1 hl hc
      have h66 : a.tmps[66]?.getD undef = .int .i64 ng := hc.dep hl 8 66 rfl (by kernel_rfl)
      refine does_value rfl rfl (.int .i64 (4 * (ng : Int))) w1 ?_ (Below.refl _ _) rfl
      clear hc hl
      go_simp
      exact wrap_small _ (by omega) (by omega)
    · intro listed a w1 hl hc
      have h67 : a.tmps[67]?.getD undef = .int .i64 (4 * (ng : Int)) := hc.dep hl 9 67 rfl (by kernel_rfl)
      refine does_value rfl rfl (.int .i64 (12 + 4 * (ng : Int))) w1 ?_ (Below.refl _ _) rfl
      clear hc hl
      go_simp
      exact wrap_small _ (by omega) (by omega)
    · intro listed a w1 hl hc
      have h1 : a.tmps[1]?.getD undef = .pointer (some ⟨w.heap.size, 0, none⟩) := (hc.was 1 (by kernel_rfl)).trans rfl
      refine does_value rfl rfl (.pointer (some ⟨w.heap.size, 14, none⟩)) w1 ?_ (Below.refl _ _) rfl
      clear hc hl
      go_simp
    · intro listed a w1 hl hc
      have h69 : a.tmps[69]?.getD undef = .pointer (some ⟨w.heap.size, 14, none⟩) := hc.dep hl 11 69 rfl (by kernel_rfl)
      refine does_value rfl rfl (.pointer (some ⟨w.heap.size, 17, none⟩)) w1 ?_ (Below.refl _ _) rfl
      clear hc hl
      go_simp
    · intro listed a w1 hl hc
      have h70 : a.tmps[70]?.getD undef = .pointer (some ⟨w.heap.size, 17, none⟩) := hc.dep hl 12 70 rfl (by kernel_rfl)
      have kb := K2.out.below hc.g K2.out.lt
      have x17 : w1.cell? ⟨w.heap.size, 17, none⟩ = some (.slice Au nu cu) := kb.cell 17
      clear kb
      refine does_value rfl rfl (.slice Au nu cu) w1 ?_ (Below.refl _ _) rfl
      clear hc hl
      go_simp
    · intro listed a w1 hl hc
      have h71 : a.tmps[71]?.getD undef = .slice Au nu cu := hc.dep hl 13 71 rfl (by kernel_rfl)
      refine does_value rfl rfl (.int .i64 nu) w1 ?_ (Below.refl _ _) rfl
      clear hc hl
      go_simp
    · intro listed a w1 hl hc
      have h72 : a.tmps[72]?.getD undef = .int .i64 nu := hc.dep hl 14 72 rfl (by kernel_rfl)
      refine does_value rfl rfl (.int .i64 (4 * (nu : Int))) w1 ?_ (Below.refl _ _) rfl
      clear hc hl
      go_simp
      exact wrap_small _ (by omega) (by omega)
    · intro listed a w1 hl hc
      have h68 : a.tmps[68]?.getD undef = .int .i64 (12 + 4 * (ng : Int)) := hc.dep hl 10 68 rfl (by kernel_rfl)
      have h73 : a.tmps[73]?.getD undef = .int .i64 (4 * (nu : Int)) := hc.dep hl 15 73 rfl (by kernel_rfl)
      refine does_value rfl rfl (.int .i64 (12 + 4 * (ng : Int) + 4 * (nu : Int))) w1 ?_ (Below.refl _ _) rfl
      clear hc hl
      go_simp
      exact wrap_small _ (by omega) (by omega)
    · intro listed a w1 hl hc
      have h62 : a.tmps[62]?.getD undef = .int .i64 YS.length := hc.dep hl 4 62 rfl (by kernel_rfl)
      have h74 : a.tmps[74]?.getD undef = .int .i64 (12 + 4 * (ng : Int) + 4 * (nu : Int)) := hc.dep hl 16 74 rfl (by kernel_rfl)
      refine does_value rfl rfl (.bool false) w1 ?_ (Below.refl _ _) rfl
      clear hc hl
      go_simp
    · intro listed a w1 hl hc
      have h75 : a.tmps[75]?.getD undef = .bool false := hc.dep hl 17 75 rfl (by kernel_rfl)
      refine does_value rfl rfl (.bool false) w1 ?_ (Below.refl _ _) rfl
      clear hc hl
      go_simp
    · intro listed a w1 hl hc
      have h1 : a.tmps[1]?.getD undef = .pointer (some ⟨w.heap.size, 0, none⟩) := (hc.was 1 (by kernel_rfl)).trans rfl
      refine does_value rfl (wanted_at rfl rfl (hc.dep hl 18 76 rfl (by kernel_rfl))) (.pointer (some ⟨w.heap.size, 18, none⟩)) w1 ?_ (Below.refl _ _) rfl
      clear hc hl
      go_simp
    · intro listed a w1 hl hc
      have h77 : a.tmps[77]?.getD undef = .pointer (some ⟨w.heap.size, 18, none⟩) := hc.dep hl 19 77 rfl (by kernel_rfl)
      have kb := K2.out.below hc.g K2.out.lt
      have x18 : w1.cell? ⟨w.heap.size, 18, none⟩ = some (.int .u32 (fcum : Int)) := kb.cell 18
      have x19 : w1.cell? ⟨w.heap.size, 19, none⟩ = some (.slice As ns cs) := kb.cell 19
      clear kb
      refine does_value rfl (wanted_at rfl rfl (hc.dep hl 18 76 rfl (by kernel_rfl))) (.agg #[.int .u32 (fcum : Int), .slice As ns cs]) w1 ?_ (Below.refl _ _) rfl
      clear hc hl
      go_simp
    · intro listed a w1 hl hc
      have h78 : a.tmps[78]?.getD undef = .agg #[.int .u32 (fcum : Int), .slice As ns cs] := hc.dep hl 20 78 rfl (by kernel_rfl)
      refine does_call rfl (wanted_at rfl rfl (hc.dep hl 18 76 rfl (by kernel_rfl))) 34 #[.agg #[.int .u32 (fcum : Int), .slice As ns cs]] ?_ ((HPF.out w1 (B2.out.trans (hc.g.mono B2.out.size))).mono fun e w' ⟨A9, c9, he, ho, hb⟩ => ⟨_, he, hb, A9, c9, rfl, ho.more (Nat.le_trans B2.out.size hc.g.size)⟩)
      clear hc hl
      go_simp
    · intro listed a w1 hl hc
      obtain ⟨A79, c79, h79, ho79⟩ := hc.dep hl 21 79 rfl (by kernel_rfl)
      refine does_value rfl (wanted_at rfl rfl (hc.dep hl 18 76 rfl (by kernel_rfl))) (.slice A79 YF.length c79) w1 ?_ (Below.refl _ _) ⟨A79, c79, rfl, ho79⟩
      clear hc hl
      go_simp
    · intro listed a w1 hl hc
      obtain ⟨A80, c80, h80, ho80⟩ := hc.dep hl 22 80 rfl (by kernel_rfl)
      refine does_value rfl (wanted_at rfl rfl (hc.dep hl 18 76 rfl (by kernel_rfl))) (.int .i64 YF.length) w1 ?_ (Below.refl _ _) rfl
      clear hc hl
      go_simp
    · intro listed a w1 hl hc
      have h1 : a.tmps[1]?.getD undef = .pointer (some ⟨w.heap.size, 0, none⟩) := (hc.was 1 (by kernel_rfl)).trans rfl
      refine does_value rfl (wanted_at rfl rfl (hc.dep hl 18 76 rfl (by kernel_rfl))) (.pointer (some ⟨w.heap.size, 18, none⟩)) w1 ?_ (Below.refl _ _) rfl
      clear hc hl
      go_simp
    · intro listed a w1 hl hc
      have h82 : a.tmps[82]?.getD undef = .pointer (some ⟨w.heap.size, 18, none⟩) := hc.dep hl 24 82 rfl (by kernel_rfl)
      refine does_value rfl (wanted_at rfl rfl (hc.dep hl 18 76 rfl (by kernel_rfl))) (.pointer (some ⟨w.heap.size, 19, none⟩)) w1 ?_ (Below.refl _ _) rfl
      clear hc hl
      go_simp
    · intro listed a w1 hl hc
      have h83 : a.tmps[83]?.getD undef = .pointer (some ⟨w.heap.size, 19, none⟩) := hc.dep hl 25 83 rfl (by kernel_rfl)
      have kb := K2.out.below hc.g K2.out.lt
      have x19 : w1.cell? ⟨w.heap.size, 19, none⟩ = some (.slice As ns cs) := kb.cell 19
      clear kb
      refine does_value rfl (wanted_at rfl rfl (hc.dep hl 18 76 rfl (by kernel_rfl))) (.slice As ns cs) w1 ?_ (Below.refl _ _) rfl
      clear hc hl
      go_simp
    · intro listed a w1 hl hc
      have h84 : a.tmps[84]?.getD undef = .slice As ns cs := hc.dep hl 26 84 rfl (by kernel_rfl)
      refine does_value rfl (wanted_at rfl rfl (hc.dep hl 18 76 rfl (by kernel_rfl))) (.int .i64 ns) w1 ?_ (Below.refl _ _) rfl
      clear hc hl
      go_simp
    · intro listed a w1 hl hc
      have h85 : a.tmps[85]?.getD undef = .int .i64 ns := hc.dep hl 27 85 rfl (by kernel_rfl)
      refine does_value rfl (wanted_at rfl rfl (hc.dep hl 18 76 rfl (by kernel_rfl))) (.int .i64 (4 * (ns : Int))) w1 ?_ (Below.refl _ _) rfl
      clear hc hl
      go_simp
      exact wrap_small _ (by omega) (by omega)
    · intro listed a w1 hl hc
      have h86 : a.tmps[86]?.getD undef = .int .i64 (4 * (ns : Int)) := hc.dep hl 28 86 rfl (by kernel_rfl)
      refine does_value rfl (wanted_at rfl rfl (hc.dep hl 18 76 rfl (by kernel_rfl))) (.int .i64 (4 + 4 * (ns : Int))) w1 ?_ (Below.refl _ _) rfl
      clear hc hl
      go_simp
      exact wrap_small _ (by omega) (by omega)
    · intro listed a w1 hl hc
      have h81 : a.tmps[81]?.getD undef = .int .i64 YF.length := hc.dep hl 23 81 rfl (by kernel_rfl)
      have h87 : a.tmps[87]?.getD undef = .int .i64 (4 + 4 * (ns : Int)) := hc.dep hl 29 87 rfl (by kernel_rfl)
      refine does_value rfl (wanted_at rfl rfl (hc.dep hl 18 76 rfl (by kernel_rfl))) (.bool false) w1 ?_ (Below.refl _ _) rfl
      clear hc hl
      go_simp
  intro w2 hbb
  rintro _ rfl _ rfl _ ⟨A60, c60, rfl, ho60⟩ _ ⟨A61, c61, rfl, ho61⟩ _ rfl _ rfl _ rfl _ rfl _ rfl _ rfl _ rfl _ rfl _ rfl _ rfl _ rfl _ rfl _ rfl _ rfl _ rfl _ rfl _ rfl _ ⟨A79, c79, rfl, ho79⟩ _ ⟨A80, c80, rfl, ho80⟩ _ rfl _ rfl _ rfl _ rfl _ rfl _ rfl _ rfl _ rfl
  simp only [Thus, List.reverse_cons, List.reverse_nil, List.nil_append, List.cons_append, List.drop, List.take, lay]
  go_frame
  have K3 := Lib.hid (K2.out.below hbb K2.out.lt)
  have B3 := Lib.hid (below_then B2.out (Nat.le_refl _) hbb)
  clear hbb K2 B2 hneS hneF
  have x20 : w2.cell? ⟨w.heap.size, 20, none⟩ = some (.int .i64 t) := K3.out.cell 20
  have hT : (YT.length : Int) = 12 := by rw [LYT.out]; rfl
  have hC : (YC.length : Int) = 4 := by rw [LYC.out]; rfl
  go_wp2_with fail
  refine (HPT.out w2).mono ?_
  rintro e w3 ⟨A3, c3, rfl, ho, hb⟩
  have K4 := Lib.hid (K3.out.below hb K3.out.lt)
  have B4 := Lib.hid (below_then B3.out (Nat.le_refl _) hb)
  have x21 : w3.cell? ⟨w.heap.size, 21, none⟩ = some (.int .u32 (cum2 : Int)) := K4.out.cell 21
  clear ho hb K3 B3 x20
  go_wp2_with fail
  refine (HPC.out w3).mono ?_
  rintro e w4 ⟨A4, c4, rfl, ho, hb⟩
  have B5 := Lib.hid (below_then B4.out (Nat.le_refl _) hb)
  clear ho hb K4 B4 x21
  go_wp2_with fail
  refine (works_any w4).mono ?_
  rintro e w5 ⟨rfl, hb⟩
  go_wp2_with fail
  go_ret
  exact ⟨rfl, below_then B5.out (Nat.le_refl _) hb⟩
theorem bodiesSizes_walk (x : AX) (w : World) (hx : x.In w) :
    Calls Try.prog 11 #[.agg #[.bool x.ack, .int .u32 (x.tsn : Int), .int .u16 (x.stream : Int), .int .u16 (x.ssn : Int), .bool x.un, .bool x.fi, .bool x.la, .slice x.Ad x.nd x.cd, .int .u32 (x.tag : Int), .int .u32 (x.rwnd : Int), .int .u16 (x.out : Int), .int .u16 (x.in_ : Int), .int .u32 (x.tsn2 : Int), .slice x.Ai x.ni x.ci, .int .u32 (x.cum : Int), .int .u32 (x.rwnd2 : Int), .slice x.Ag x.ng x.cg, .slice x.Au x.nu x.cu, .int .u32 (x.fcum : Int), .slice x.As x.ns x.cs, .int .i64 x.t, .int .u32 (x.cum2 : Int)]] w fun e w' => e = .returned (.bool true) ∧ Below w.heap.size w w' := by
  by_cases hb : 2048 < x.ng ∨ 2048 < x.nu ∨ 2048 < x.ns
  · exact bodiesSizes_many x w hx hb
  · by_cases hb2 : 8192 < x.nd
    · exact bodiesSizes_data x w hx hb hb2
    · by_cases hb3 : 8192 < x.ni
      · exact bodiesSizes_init x w hx hb (by omega) hb3
      · exact bodiesSizes_small x w hx hb (by omega) (by omega)
end Go.Proofs.Ytalgkokgaibloaa
