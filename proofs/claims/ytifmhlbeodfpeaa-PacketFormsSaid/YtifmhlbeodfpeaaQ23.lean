/-
  Package packet: the iterator over the chunks of bytes.
-/
import Derived.Test.YtifmhlbeodfpeaaQ19
import Derived.Test.YtifmhlbeodfpeaaQ21
import Derived.Test.YtifmhlbeodfpeaaQ22
namespace Go.Proofs.Ytifmhlbeodfpeaa
open Go.RowKit
set_option linter.unusedVariables false

theorem parseN_end (m : Nat) (bs : List UInt8) (at_ : Nat) (h : bs.length ≤ at_) : parseN m (bs.drop at_) = some [] := by rw [List.drop_of_length_le h, parseN_nil]
theorem parseN_step (m : Nat) (ys : List UInt8) (hf : Fits ys) : parseN (m + 1) ys = (parseN m (ys.drop (up4 (clen ys)))).map fun cs => (kind ys, flag ys, body ys) :: cs := by
  have h4 := hf.four
  rw [parseN, if_neg (by rintro rfl; simp at h4), if_pos ((fitsB_iff ys).2 hf)]
theorem parseN_stop (m : Nat) (ys : List UInt8) (hn : ys ≠ []) (hf : ¬ Fits ys) : parseN (m + 1) ys = none := by
  rw [parseN, if_neg hn, if_neg (by rw [fitsB_iff]; exact hf)]
/-- How far one has come: es are read, at_ bytes are behind. -/
def Come_ (bs : List UInt8) (es : List Chk) (at_ : Nat) : Prop := ∀ m, parseN (es.length + m) bs = (parseN m (bs.drop at_)).map fun cs => es ++ cs
theorem come_nil (bs : List UInt8) : Come_ bs [] 0 := fun m => by
  rw [List.drop_zero]
  simp
theorem come_step {bs : List UInt8} {es : List Chk} {at_ : Nat} (h : Come_ bs es at_) (hf : Fits (bs.drop at_)) : Come_ bs (es ++ [(kind (bs.drop at_), flag (bs.drop at_), body (bs.drop at_))]) (at_ + up4 (clen (bs.drop at_))) := fun m => by
  have h2 := h (m + 1)
  rw [parseN_step m _ hf, List.drop_drop, Option.map_map] at h2
  rw [List.length_append, List.length_singleton, Nat.add_assoc, Nat.add_comm 1 m, h2]
  congr 1
  funext cs
  simp
theorem come_end {bs : List UInt8} {es : List Chk} {at_ : Nat} (h : Come_ bs es at_) (ha : bs.length ≤ at_) (hl : 4 * es.length ≤ bs.length) : Parsed bs (some es) := fun M hM => by
  have h2 := h (M - es.length)
  rw [parseN_end _ _ _ ha, show es.length + (M - es.length) = M by omega] at h2
  rw [h2]
  simp
theorem come_stop {bs : List UInt8} {es : List Chk} {at_ : Nat} (h : Come_ bs es at_) (ha : at_ < bs.length) (hl : 4 * es.length ≤ at_) (hf : ¬ Fits (bs.drop at_)) : Parsed bs none := fun M hM => by
  have h2 := h (M - es.length - 1 + 1)
  rw [parseN_stop _ _ (by intro e; have := congrArg List.length e; simp at this; omega) hf, show es.length + (M - es.length - 1 + 1) = M by omega] at h2
  rw [h2]
  rfl

set_option maxRecDepth 100000 in
set_option maxHeartbeats 4000000 in
theorem chunksOf_seq (gb : Nat) (A : Option Addr) (n c : Nat) (bs : List UInt8) (hn : n ≤ 140737488355300) (hc : n ≤ c) (hcm : c ≤ maxLen) (hx : bs.length = n) :
    SeqC Try.prog 59 #[.pointer (some ⟨gb, 0, none⟩)] bs (fun W => W.cell? ⟨gb, 0, none⟩ = some (.slice A n c) ∧ Rd W W.heap.size A bs) := by
  intro l J Jx W hJb hJr hyes hno h0
  refine callsIn_wide.2 ?_
  have HX := Lib.hid hx
  have HJB := Lib.hid hJb
  have HJR := Lib.hid hJr
  have HY := Lib.hid hyes
  have HN := Lib.hid hno
  have H0 := Lib.hid h0
  have HCM := Lib.hid hcm
  unfold maxLen at hcm
  clear hx hJb hJr hyes hno h0
  show Calls Try.prog 59 #[.func (.yield l) #[] #[], .pointer (some ⟨gb, 0, none⟩)] W _
  go_enter Try.func59, Try.ntmps59
  rw [held_eq 3]
  go_wp2_with fail
  go_loopw [3] (fun i wr => ∃ (es : List CE) (at_ : Nat), at_ ≤ n ∧ i = .int .i64 at_ ∧ 4 * es.length ≤ at_ ∧ Hid (Come_ bs (es.map CE.chk) at_) ∧ Hid (J es wr)) (fun i _ => n - (intOf i).toNat)
  case atStart => exact ⟨[], 0, Nat.zero_le _, rfl, Nat.zero_le _, Lib.hid (come_nil bs), H0⟩
  case round =>
    obtain ⟨es, at_, hat, rfl, hes, HC, HJ⟩ := hrel
    have f0 := (HJR.out es wr HJ.out).1
    by_cases hlt : at_ < n
    · obtain ⟨b, o, rfl, hbl, _⟩ := (HJR.out es wr HJ.out).2.at_ (by intro e; have := HX.out; rw [e] at this; simp at this; omega)
      have hca : ¬ c = at_ := by omega
      have hrd : Rd wr wr.heap.size (some ⟨b, o + at_, none⟩) (bs.drop at_) := (HJR.out es wr HJ.out).2.from_ (c := c) (by rw [HX.out]; exact hc) (if_neg hca)
      have hyl : (bs.drop at_).length = n - at_ := by rw [List.length_drop, HX.out]
      obtain ⟨ys, hys⟩ : ∃ ys, ys = bs.drop at_ := ⟨_, rfl⟩
      have HYS := Lib.hid hys
      rw [← hys] at hrd hyl
      by_cases hf : Fits ys
      · have HR := Lib.hid (read_yes (some ⟨b, o + at_, none⟩) (n - at_) (c - at_) ys wr (by omega) (by omega) (by have := HCM.out; omega) hyl hrd hf)
        have hU := up4_bd (clen ys)
        have hhi := hf.hi
        have hlo := hf.lo
        obtain ⟨U, hUe⟩ : ∃ U, U = up4 (clen ys) := ⟨_, rfl⟩
        obtain ⟨L, hLe⟩ : ∃ L, L = clen ys - 4 := ⟨_, rfl⟩
        rw [← hUe, ← hLe] at HR
        have hUn : at_ + U ≤ n := by omega
        have hU4 : 4 ≤ U := by omega
        have HUE := Lib.hid hUe
        have HF := Lib.hid hf
        have HBL := Lib.hid hbl
        clear hys hrd hyl hf hU hhi hlo hUe hLe hbl
        go_wp2_with fail
        refine HR.out.mono ?_
        rintro e w1 ⟨A2, c2, rfl, ho2, hb2⟩
        have HO := Lib.hid ho2
        have HB := Lib.hid hb2
        clear ho2 hb2 HR f0
        go_wp2_with fail
        have C2 := Lib.hid (Blk.new w1 41 #[.int .u8 ((kind ys).toNat : Int), .int .u8 ((flag ys).toNat : Int), .slice A2 L c2])
        have O2 := Lib.hid (HO.out.alloc (.cells #[.int .u8 ((kind ys).toNat : Int), .int .u8 ((flag ys).toNat : Int), .slice A2 L c2] 41))
        have B2 := Lib.hid (HB.out.alloc HB.out.size (.cells #[.int .u8 ((kind ys).toNat : Int), .int .u8 ((flag ys).toNat : Int), .slice A2 L c2] 41))
        obtain ⟨gc, hgc⟩ : ∃ gc, gc = w1.heap.size := ⟨_, rfl⟩
        rw [← hgc] at C2 ⊢
        clear hgc
        generalize w1.alloc (.cells #[.int .u8 ((kind ys).toNat : Int), .int .u8 ((flag ys).toNat : Int), .slice A2 L c2] 41) = w2 at C2 O2 B2 ⊢
        obtain ⟨fn, tmps, assign, body_, hy, hRd⟩ := HY.out es ⟨kind ys, flag ys, A2, L, c2, body ys⟩ wr w2 HJ.out B2.out O2.out (by rw [HX.out]; omega)
        simp only [encE] at hy
        have x0 : w2.cell? ⟨gc, 0, none⟩ = some (.int .u8 ((kind ys).toNat : Int)) := C2.out.cell 0
        have x1 : w2.cell? ⟨gc, 1, none⟩ = some (.int .u8 ((flag ys).toNat : Int)) := C2.out.cell 1
        have x2 : w2.cell? ⟨gc, 2, none⟩ = some (.slice A2 L c2) := C2.out.cell 2
        have HRd := Lib.hid hRd
        clear hRd
        refine RestGo.region (show RestGo _ _ _ [0, 1, 2, 3, 4, 5, 6, 7, 8] _ _ from ?_)
        refine RestGo.value (v := .func (.yield l) #[] #[]) (w' := w2) rfl rfl (by go_simp) ?_
        refine RestGo.value (v := .agg #[.int .u8 ((kind ys).toNat : Int), .int .u8 ((flag ys).toNat : Int), .slice A2 L c2]) (w' := w2) rfl rfl (by go_simp) ?_
        refine RestGo.value (v := .int .i64 0) (w' := w2) rfl rfl (by go_simp) ?_
        refine RestGo.yield rfl rfl (by go_simp <;> exact hy) (HRd.out.mono ?_)
        rintro e w3 ⟨rfl, hj3⟩
        refine ⟨_, rfl, ?_⟩
        refine RestGo.drop 4 _ rfl ?_
        simp only [List.drop_succ_cons, List.drop_zero, Act.put]
        have HJ3 := Lib.hid hj3
        clear hj3 x0 x1 x2 hy HRd
        go_wp2_with fail
        go_roundw
        case rel => exact ⟨es ++ [⟨kind ys, flag ys, A2, L, c2, body ys⟩], at_ + U, hUn, by go_num, by simp; omega, Lib.hid (by
          have := come_step HC.out (HYS.out ▸ HF.out)
          rw [← HYS.out, ← HUE.out] at this
          simpa [CE.chk] using this), HJ3⟩
        case measure => simp [intOf]; omega
      · have HR := Lib.hid (read_no (some ⟨b, o + at_, none⟩) (n - at_) (c - at_) ys wr (by omega) (by omega) (by have := HCM.out; omega) hyl hrd hf)
        have HP : Hid (Parsed bs none) := Lib.hid (come_stop HC.out (by rw [HX.out]; exact hlt) (by rw [List.length_map]; exact hes) (HYS.out ▸ hf))
        clear hys hrd hyl hf hbl
        go_wp2_with fail
        refine HR.out.mono ?_
        rintro e w1 ⟨rfl, hb2⟩
        have HB := Lib.hid hb2
        clear hb2 HR f0
        rw [noChunk]
        go_wp2_with fail
        have C2 := Lib.hid (Blk.new w1 41 #[.int .u8 0, .int .u8 0, .slice none 0 0])
        have B2 := Lib.hid (HB.out.alloc HB.out.size (.cells #[.int .u8 0, .int .u8 0, .slice none 0 0] 41))
        obtain ⟨gc, hgc⟩ : ∃ gc, gc = w1.heap.size := ⟨_, rfl⟩
        rw [← hgc] at C2 ⊢
        clear hgc
        generalize w1.alloc (.cells #[.int .u8 0, .int .u8 0, .slice none 0 0] 41) = w2 at C2 B2 ⊢
        obtain ⟨fn, tmps, assign, body_, hy, hRd⟩ := HN.out es w2 (HJB.out es wr w2 HJ.out B2.out)
        simp only [encE, noCE] at hy
        have x0 : w2.cell? ⟨gc, 0, none⟩ = some (.int .u8 0) := C2.out.cell 0
        have x1 : w2.cell? ⟨gc, 1, none⟩ = some (.int .u8 0) := C2.out.cell 1
        have x2 : w2.cell? ⟨gc, 2, none⟩ = some (.slice none 0 0) := C2.out.cell 2
        have HRd := Lib.hid hRd
        clear hRd
        refine RestGo.region (show RestGo _ _ _ [0, 1, 2, 3, 4, 5, 6, 7, 8] _ _ from ?_)
        refine RestGo.value (v := .func (.yield l) #[] #[]) (w' := w2) rfl rfl (by go_simp) ?_
        refine RestGo.value (v := .agg #[.int .u8 0, .int .u8 0, .slice none 0 0]) (w' := w2) rfl rfl (by go_simp) ?_
        refine RestGo.value (v := .int .i64 7) (w' := w2) rfl rfl (by go_simp) ?_
        refine RestGo.yield rfl rfl (by go_simp <;> exact hy) (HRd.out.mono ?_)
        rintro e w3 ⟨rfl, hj3⟩
        refine ⟨_, rfl, ?_⟩
        refine RestGo.drop 4 _ rfl ?_
        simp only [List.drop_succ_cons, List.drop_zero, Act.put]
        have HJ3 := Lib.hid hj3
        clear hj3 x0 x1 x2 hy HRd
        go_wp2_with fail
        refine bodyPost_ret (results_none rfl _ _ _) rfl ?_
        exact ⟨⟨_, rfl⟩, .inr ⟨HP.out, HJ3.out⟩⟩
    · obtain rfl : at_ = n := by omega
      have HP : Hid (Parsed bs (some (es.map CE.chk))) := Lib.hid (come_end HC.out (by rw [HX.out]; exact Nat.le_refl _) (by rw [List.length_map, HX.out]; exact hes))
      go_wp2_with fail
      go_end0
      exact ⟨⟨_, rfl⟩, .inl ⟨es, HP.out, HJ.out⟩⟩
end Go.Proofs.Ytifmhlbeodfpeaa
