/-
  Package packet: the anchor.
  What the frames of the statements share: an argument's bytes.
  What the frames of the statements share: an argument that is a slice of chunks.
-/
import Derived.Test.YtifmhlbeodfpeaaQ28
import Derived.Test.YtifmhlbeodfpeaaQ30
import Derived.Test.YtifmhlbeodfpeaaQ1
import Derived.ProofKit
import Derived.OpenShut
import Derived.ShutString
import Derived.ChangeOld
import Derived.Lib.SmallJoins
import Derived.Test.YtifmhlbeodfpeaaQ4
import Derived.Test.YtifmhlbeodfpeaaQ14
import Derived.Deep.Slices
import Derived.Deep.Fields
namespace Go.Proofs.Ytifmhlbeodfpeaa
open Go.RowKit
set_option linter.unusedVariables false

/-- The anchor's packet, its bytes. -/
def csW : List Chk := [(11, 0, []), (0, 3, [1, 2])]
def bW : List UInt8 := [19, 136, 19, 136, 0, 0, 0, 7, 161, 209, 136, 99, 11, 0, 0, 4, 0, 3, 0, 6, 1, 2, 0, 0]
def bW2 : List UInt8 := [19, 136, 19, 136, 1, 0, 0, 7, 161, 209, 136, 99, 11, 0, 0, 4, 0, 3, 0, 6, 1, 2, 0, 0]
def isErr : RdP → Int → Bool
  | .err k, j => k == j
  | _, _ => false
set_option maxRecDepth 100000 in
theorem worksW : wrP 7 csW = bW := by kernel_rfl
set_option maxRecDepth 100000 in
theorem worksE : isErr (rdP bW2) 8 = true := by kernel_rfl
theorem err_of {r : RdP} {k : Int} (h : isErr r k = true) : r = .err k := by
  cases r with
  | err j => rw [show j = k by simpa [isErr] using h]
  | ok _ _ => cases h
theorem worksM : mayP csW = true := by decide
theorem worksR : rdP bW = .ok 7 csW := by rw [← worksW]; exact rdP_wrP 7 csW (by decide) worksM
set_option maxRecDepth 100000 in
set_option maxHeartbeats 4000000 in
theorem works_any (w : World) : Calls Try.prog 12 #[] w fun e w' => e = .returned (.bool true) ∧ Below w.heap.size w w' := by
  have hz : ∀ W, (zeroValue 25).run Try.prog W = .ok (.agg #[.int .u32 0, .slice none 0 0]) W := by intro W; kernel_rfl
  have hz2 := zero_chunk
  have R0 : RowAt (w.alloc (.cells #[.int .u8 1, .int .u8 2] 5)) 5 w.heap.size [1, 2] := RowAt.new w 5 [1, 2]
  have R1 := (R0.alloc (.cells #[.int .u8 11, .int .u8 0, .slice none 0 0, .int .u8 0, .int .u8 3, .slice (some ⟨w.heap.size, 0, none⟩) 2 2] 41)).alloc (.cells #[.int .u32 7, .slice (some ⟨w.heap.size + 1, 0, none⟩) 2 2] 25)
  have K1 : Blk (((w.alloc (.cells #[.int .u8 1, .int .u8 2] 5)).alloc (.cells #[.int .u8 11, .int .u8 0, .slice none 0 0, .int .u8 0, .int .u8 3, .slice (some ⟨w.heap.size, 0, none⟩) 2 2] 41)).alloc (.cells #[.int .u32 7, .slice (some ⟨w.heap.size + 1, 0, none⟩) 2 2] 25)) (w.heap.size + 1) 41 #[.int .u8 11, .int .u8 0, .slice none 0 0, .int .u8 0, .int .u8 3, .slice (some ⟨w.heap.size, 0, none⟩) 2 2] := by
    have h1 : Blk ((w.alloc (.cells #[.int .u8 1, .int .u8 2] 5)).alloc (.cells #[.int .u8 11, .int .u8 0, .slice none 0 0, .int .u8 0, .int .u8 3, .slice (some ⟨w.heap.size, 0, none⟩) 2 2] 41)) (w.heap.size + 1) 41 #[.int .u8 11, .int .u8 0, .slice none 0 0, .int .u8 0, .int .u8 3, .slice (some ⟨w.heap.size, 0, none⟩) 2 2] := by simpa using Blk.new (w.alloc (.cells #[.int .u8 1, .int .u8 2] 5)) 41 #[.int .u8 11, .int .u8 0, .slice none 0 0, .int .u8 0, .int .u8 3, .slice (some ⟨w.heap.size, 0, none⟩) 2 2]
    exact h1.alloc _
  have KP := Lib.hid (show Blk (((w.alloc (.cells #[.int .u8 1, .int .u8 2] 5)).alloc (.cells #[.int .u8 11, .int .u8 0, .slice none 0 0, .int .u8 0, .int .u8 3, .slice (some ⟨w.heap.size, 0, none⟩) 2 2] 41)).alloc (.cells #[.int .u32 7, .slice (some ⟨w.heap.size + 1, 0, none⟩) 2 2] 25)) (w.heap.size + 2) 25 #[.int .u32 7, .slice (some ⟨w.heap.size + 1, 0, none⟩) 2 2] by simpa using Blk.new ((w.alloc (.cells #[.int .u8 1, .int .u8 2] 5)).alloc (.cells #[.int .u8 11, .int .u8 0, .slice none 0 0, .int .u8 0, .int .u8 3, .slice (some ⟨w.heap.size, 0, none⟩) 2 2] 41)) 25 #[.int .u32 7, .slice (some ⟨w.heap.size + 1, 0, none⟩) 2 2])
  have B0 : Hid (Below w.heap.size w (((w.alloc (.cells #[.int .u8 1, .int .u8 2] 5)).alloc (.cells #[.int .u8 11, .int .u8 0, .slice none 0 0, .int .u8 0, .int .u8 3, .slice (some ⟨w.heap.size, 0, none⟩) 2 2] 41)).alloc (.cells #[.int .u32 7, .slice (some ⟨w.heap.size + 1, 0, none⟩) 2 2] 25))) := Lib.hid ((((Below.refl _ w).alloc (Nat.le_refl _) _).alloc (by simp) _).alloc (by simp; omega) _)
  have HCH : Hid (Chunks (((w.alloc (.cells #[.int .u8 1, .int .u8 2] 5)).alloc (.cells #[.int .u8 11, .int .u8 0, .slice none 0 0, .int .u8 0, .int .u8 3, .slice (some ⟨w.heap.size, 0, none⟩) 2 2] 41)).alloc (.cells #[.int .u32 7, .slice (some ⟨w.heap.size + 1, 0, none⟩) 2 2] 25)) (((w.alloc (.cells #[.int .u8 1, .int .u8 2] 5)).alloc (.cells #[.int .u8 11, .int .u8 0, .slice none 0 0, .int .u8 0, .int .u8 3, .slice (some ⟨w.heap.size, 0, none⟩) 2 2] 41)).alloc (.cells #[.int .u32 7, .slice (some ⟨w.heap.size + 1, 0, none⟩) 2 2] 25)).heap.size (some ⟨w.heap.size + 1, 0, none⟩) csW) := Lib.hid (by
    refine .inr ⟨w.heap.size + 1, 0, rfl, K1.lt, fun i x hx => ?_⟩
    rcases i with _ | _ | i
    · obtain rfl := Option.some.inj hx
      exact ⟨K1.cell 0, K1.cell 1, none, 0, 0, K1.cell 2, Nat.le_refl _, Nat.zero_le _, rfl, Rd.nil _ _ _⟩
    · obtain rfl := Option.some.inj hx
      exact ⟨K1.cell 3, K1.cell 4, _, 2, 2, K1.cell 5, Nat.le_refl _, by unfold maxLen; omega, rfl, R1.rd 0 [1, 2] (fun j hj => by rw [Nat.zero_add])⟩
    · simp [csW] at hx)
  clear R0 R1 K1
  go_enter Try.func12, Try.ntmps12
  go_wp2_with fail
  obtain ⟨gp, hgp⟩ : ∃ gp, gp = w.heap.size + 1 + 1 := ⟨_, rfl⟩
  have hgp2 : w.heap.size + 2 = gp := by omega
  rw [hgp2] at KP
  rw [← hgp]
  generalize (((w.alloc (.cells #[.int .u8 1, .int .u8 2] 5)).alloc (.cells #[.int .u8 11, .int .u8 0, .slice none 0 0, .int .u8 0, .int .u8 3, .slice (some ⟨w.heap.size, 0, none⟩) 2 2] 41)).alloc (.cells #[.int .u32 7, .slice (some ⟨w.heap.size + 1, 0, none⟩) 2 2] 25)) = v0 at KP B0 HCH ⊢
  clear hgp
  have HWR : Hid (Calls Try.prog 14 #[.agg #[.int .u32 7, .slice (some ⟨w.heap.size + 1, 0, none⟩) 2 2]] v0 fun e w' => ∃ A2 c2, e = .returned (.slice A2 24 c2) ∧ Own8 w' 5 v0.heap.size A2 24 c2 bW ∧ Below v0.heap.size v0 w') := Lib.hid ((writeP_yes 7 (some ⟨w.heap.size + 1, 0, none⟩) 2 2 csW v0 (by decide) (by omega) rfl HCH.out worksM).mono fun e w' ⟨A2, m, c2, he, ho, hb⟩ => by
    rw [worksW] at ho
    have hm : m = 24 := ho.len.symm
    subst hm
    exact ⟨A2, c2, he, ho, hb⟩)
  refine HWR.out.mono ?_
  rintro e w1 ⟨A2, c2, rfl, ho, hb⟩
  obtain ⟨g, zs, rfl, hg, hrow, hcz, hcm⟩ : ∃ g zs, A2 = some ⟨g, 0, none⟩ ∧ v0.heap.size ≤ g ∧ RowAt w1 5 g (bW ++ zs) ∧ 24 + zs.length = c2 ∧ c2 ≤ maxLen := by
    rcases ho.2 with ⟨_, h0, _⟩ | h
    · omega
    · exact h
  have K1 := Lib.hid (KP.out.below hb KP.out.lt)
  have C1 := Lib.hid ((HCH.out.below hb).more hb.size)
  have B1 := Lib.hid (below_then B0.out (Nat.le_refl _) hb)
  have R1 := Lib.hid hrow
  have HCM := Lib.hid hcm
  have hc24 : 24 ≤ c2 := by omega
  have hgg : gp < g := by have := KP.out.lt; omega
  clear hb ho hrow hcz hcm hg KP HCH B0 HWR
  have HRD : Hid (Calls Try.prog 22 #[.slice (some ⟨g, 0, none⟩) 24 c2] w1 fun e w' => ∃ A3 c3 es, e = .returned (.tuple #[.agg #[.int .u32 7, .slice A3 2 c3], .int .i64 0]) ∧ OC w' w1.heap.size (.slice A3 2 c3) es ∧ es.map CE.chk = csW ∧ Below w1.heap.size w1 w') := Lib.hid ((readP_any (some ⟨g, 0, none⟩) 24 c2 bW w1 (by omega) hc24 HCM.out rfl (R1.out.rd 0 bW (fun j hj => by rw [Nat.zero_add, List.getElem?_append_left hj]))).mono fun e w' ⟨hr, hb⟩ => by
    rw [worksR] at hr
    obtain ⟨A3, c3, es, he, hoc, hm⟩ := hr
    have hl : es.length = 2 := by rw [← List.length_map (f := CE.chk), hm]; rfl
    rw [hl] at he hoc
    exact ⟨A3, c3, es, he, hoc, hm, hb⟩)
  go_wp2_with fail
  refine HRD.out.mono ?_
  rintro e w2 ⟨A3, c3, es, rfl, hoc, hm, hb⟩
  have K2 := Lib.hid ((K1.out.below hb K1.out.lt).alloc (.cells #[.int .u32 7, .slice A3 2 c3] 25))
  have C2 := Lib.hid ((((C1.out.below hb).more hb.size).below (below_new w2 (.cells #[.int .u32 7, .slice A3 2 c3] 25))).more (below_new w2 (.cells #[.int .u32 7, .slice A3 2 c3] 25)).size)
  have hbb := below_then B1.out (Nat.le_refl _) hb
  have B2 := Lib.hid (hbb.alloc hbb.size (.cells #[.int .u32 7, .slice A3 2 c3] 25))
  have R2 := Lib.hid ((R1.out.below hb R1.out.lt).alloc (.cells #[.int .u32 7, .slice A3 2 c3] 25))
  have HO2 := Lib.hid (hoc.alloc (.cells #[.int .u32 7, .slice A3 2 c3] 25))
  have KQ := Lib.hid (Blk.new w2 25 #[.int .u32 7, .slice A3 2 c3])
  have HM := Lib.hid hm
  obtain ⟨gq, hgq⟩ : ∃ gq, gq = w2.heap.size := ⟨_, rfl⟩
  rw [← hgq] at KQ
  have HGQ := Lib.hid hgq
  clear hb hbb hoc hm hgq HRD K1 C1 B1 R1
  have p0 : (w2.alloc (.cells #[.int .u32 7, .slice A3 2 c3] 25)).cell? ⟨gp, 0, none⟩ = some (.int .u32 7) := K2.out.cell 0
  have p1 : (w2.alloc (.cells #[.int .u32 7, .slice A3 2 c3] 25)).cell? ⟨gp, 1, none⟩ = some (.slice (some ⟨w.heap.size + 1, 0, none⟩) 2 2) := K2.out.cell 1
  go_wp2_with fail
  rw [← HGQ.out]
  generalize w2.alloc (.cells #[.int .u32 7, .slice A3 2 c3] 25) = v2 at K2 C2 B2 R2 HO2 KQ p0 p1 ⊢
  clear HGQ p0 p1
  have HSM : Hid (Calls Try.prog 19 #[.agg #[.int .u32 7, .slice (some ⟨w.heap.size + 1, 0, none⟩) 2 2], .agg #[.int .u32 7, .slice A3 2 c3]] v2 fun e w' => e = .returned (.bool true) ∧ Below v2.heap.size v2 w') := Lib.hid (by
    have h := refSameP_any 7 7 (some ⟨w.heap.size + 1, 0, none⟩) A3 2 2 2 c3 csW (es.map CE.chk) v2 (by unfold maxLen; omega) (by unfold maxLen; omega) rfl (by rw [HM.out]; rfl) C2.out HO2.out.chunks
    rw [HM.out] at h
    simpa using h)
  refine HSM.out.mono ?_
  rintro e w3 ⟨rfl, hb⟩
  have K3 := Lib.hid (K2.out.below hb K2.out.lt)
  have C3 := Lib.hid ((C2.out.below hb).more hb.size)
  have B3 := Lib.hid (below_then B2.out (Nat.le_refl _) hb)
  have R3 := Lib.hid (R2.out.below hb R2.out.lt)
  clear hb K2 C2 B2 R2 HO2 KQ HSM
  have p0 : w3.cell? ⟨gp, 0, none⟩ = some (.int .u32 7) := K3.out.cell 0
  have p1 : w3.cell? ⟨gp, 1, none⟩ = some (.slice (some ⟨w.heap.size + 1, 0, none⟩) 2 2) := K3.out.cell 1
  have HSZ : Hid (Calls Try.prog 15 #[.agg #[.int .u32 7, .slice (some ⟨w.heap.size + 1, 0, none⟩) 2 2]] w3 fun e w' => e = .returned (.int .i64 24) ∧ Below w3.heap.size w3 w') := Lib.hid (size_any 7 (some ⟨w.heap.size + 1, 0, none⟩) 2 2 csW w3 (by omega) rfl C3.out (by decide))
  go_wp2_with fail
  refine HSZ.out.mono ?_
  rintro e w4 ⟨rfl, hb⟩
  have B4 := Lib.hid (below_then B3.out (Nat.le_refl _) hb)
  have R4 := Lib.hid (R3.out.below hb R3.out.lt)
  clear hb K3 C3 B3 R3 HSZ p0 p1
  have x4 : w4.cell? ⟨g, 4, none⟩ = some (.int .u8 0) := R4.out.cell 4 (by simp [bW])
  have f4 := R4.out.frozen 4
  have hxr : bits .xor .u8 0 1 = 1 := by decide
  go_wp2_with fail
  have R5 : Hid (RowAt (w4.setCell ⟨g, 4, none⟩ (.int .u8 1)) 5 g (bW2 ++ zs)) := Lib.hid (R4.out.set_ 4 1)
  have B5 := Lib.hid (B4.out.setCell (p := ⟨g, 4, none⟩) (show w.heap.size ≤ g by omega) (.int .u8 1))
  clear R4 B4 x4 f4 hxr
  generalize w4.setCell ⟨g, 4, none⟩ (.int .u8 1) = v5 at R5 B5 ⊢
  refine (readP_any (some ⟨g, 0, none⟩) 24 c2 bW2 v5 (by omega) hc24 HCM.out rfl (R5.out.rd 0 bW2 (fun j hj => by rw [Nat.zero_add, List.getElem?_append_left hj]))).mono ?_
  rintro e w6 ⟨hr, hb⟩
  rw [err_of worksE] at hr
  have hr2 : e = .returned (noPkt 8) := hr
  subst hr2
  have B6 := Lib.hid (below_then B5.out (Nat.le_refl _) hb)
  clear hr hb R5 B5
  rw [noPkt]
  go_wp2_with fail
  go_ret
  exact ⟨rfl, B6.out⟩
end Go.Proofs.Ytifmhlbeodfpeaa

namespace Go.Proofs.Ytifmhlbeodfpeaa
open Go.ChangeShapes Go.WideShapes Go.ChangeAt Go.RowKit
set_option linter.unusedVariables false

/-- A slice of bytes that came in: its bytes, and how it reads. -/
theorem arg_bytes {H : Type} {enc : TypeId × Value → H} {P : Program} {W : World} {t e : TypeId} {A : Option Addr} {n c : Nat} {d : DataW H} {p : List MemPlace}
    (ht : P.underlying t = some (.slice e)) (he : P.underlying e = some (.int .u8)) (hc : P.cellsOf e = 1) (h : DataW.Trod enc P W 0 (fun _ => true) true t (.slice A n c) d p) :
    ∃ xs : List UInt8, n ≤ c ∧ c ≤ maxLen ∧ xs.length = n ∧ Rd W W.heap.size A xs := by
  obtain ⟨fuel, hf⟩ := h
  rcases open_ints ht he hc hf with ⟨hcs, _⟩ | ⟨x, l, c', zs, hcs, _, hl, hm, hz, _, hcell, hwz⟩
  · simp [Value.cells] at hcs
    obtain ⟨rfl, rfl, rfl⟩ := hcs
    exact ⟨[], Nat.le_refl _, Nat.zero_le _, rfl, Rd.nil _ _ _⟩
  · simp [Value.cells] at hcs
    obtain ⟨rfl, rfl, rfl⟩ := hcs
    have hz : zs.length = c := by simpa using hz
    refine ⟨(zs.take n).map fun z => UInt8.ofNat z.toNat, hl, hm, by simp; omega, ?_⟩
    by_cases h0 : n = 0
    · subst h0; exact .inl (by simp)
    · obtain ⟨b, off, spot⟩ := x
      have h00 := hcell 0 (by omega)
      have hspot : spot = none := by simpa [Addr.add] using World.cell?_spot h00
      subst hspot
      have hb := World.block_lt_of_cell? W _ h00
      refine .inr ⟨b, off, rfl, by simpa [Addr.add] using hb, fun j x hx => ?_⟩
      rw [List.getElem?_map, Option.map_eq_some_iff] at hx
      obtain ⟨z, hz', rfl⟩ := hx
      rw [List.getElem?_take] at hz'
      split at hz'
      · have hjl : j < zs.length := by omega
        have hcj := hcell j hjl
        rw [Addr.add_lit] at hcj
        rw [hcj]
        have hzj : zs.getD j 0 = z := by simp [List.getD, hz']
        rw [hzj]
        have hw := hwz z (List.mem_of_getElem? hz')
        have hbd : 0 ≤ z ∧ z ≤ 255 := by simpa [Lit.wf, IntKind.min, IntKind.max, IntKind.signed, IntKind.bits] using hw
        congr 2
        rw [UInt8.toNat_ofNat']
        omega
      · cases hz'

/-- A slice of bytes in a field. -/
theorem field_bytes {H : Type} {enc : TypeId × Value → H} {P : Program} {W : World} {t e : TypeId} {m : Nat} {v : Value} {y : DataW H × List MemPlace}
    (ht : P.underlying t = some (.slice e)) (he : P.underlying e = some (.int .u8)) (hc : P.cellsOf e = 1) (h : DataW.trod enc P W 0 (fun _ => true) true m t [v] = some y) :
    ∃ (A : Option Addr) (n c : Nat) (xs : List UInt8), v = .slice A n c ∧ n ≤ c ∧ c ≤ maxLen ∧ xs.length = n ∧ Rd W W.heap.size A xs := by
  have hv : ∃ (A : Option Addr) (n c : Nat), v = .slice A n c := by
    rcases open_ints ht he hc h with ⟨hcs, _⟩ | ⟨x, l, c', zs, hcs, _⟩
    · injection hcs with hcs; exact ⟨_, _, _, hcs⟩
    · injection hcs with hcs; exact ⟨_, _, _, hcs⟩
  obtain ⟨A, n, c, rfl⟩ := hv
  obtain ⟨xs, h1, h2, h3, h4⟩ := arg_bytes (d := y.1) (p := y.2) ht he hc ⟨m, by simpa [Value.cells] using h⟩
  exact ⟨A, n, c, xs, rfl, h1, h2, h3, h4⟩
/-- An integer in a field. -/
theorem field_int {H : Type} {enc : TypeId × Value → H} {P : Program} {W : World} {t : TypeId} {k : IntKind} {m : Nat} {v : Value} {y : DataW H × List MemPlace}
    (ht : P.underlying t = some (.int k)) (h : DataW.trod enc P W 0 (fun _ => true) true m t [v] = some y) : ∃ a : Int, v = .int k a ∧ (Lit.int k a).wf = true := by
  obtain ⟨a, e0, _, wa⟩ := DataW.trod_int ht h
  injection e0 with e0
  exact ⟨a, e0, wa⟩
end Go.Proofs.Ytifmhlbeodfpeaa

namespace Go.Proofs.Ytifmhlbeodfpeaa
open Go.ChangeShapes Go.WideShapes Go.ChangeAt Go.RowKit Go.Deep
set_option linter.unusedVariables false

theorem field_at {H : Type} {enc : TypeId × Value → H} {P : Program} {W : World} {fs : Array Field} {e : TypeId} {cs' : List Value} {y : DataW H × List MemPlace} {m : Nat} {a : Addr}
    (hs : P.underlying e = some (.struct fs)) (hone : oneCellFields P fs = true) (hcl : cs'.length = fs.size) (hat : ∀ i, i < fs.size → W.cell? (a.add i) = cs'[i]?) (h : DataW.trod enc P W 0 (fun _ => true) true m e cs' = some y)
    (j : Nat) (f : Field) (hj : fs[j]? = some f) : ∃ v m' y', W.cell? (a.add j) = some v ∧ DataW.trod enc P W 0 (fun _ => true) true m' f.type [v] = some y' := by
  obtain ⟨ys, n', _, _, _, hyl, hf⟩ := DataW.trod_struct hs h
  obtain ⟨ho, hk⟩ := hone_of hone j f hj
  have hjl : j < fs.size := (Array.getElem?_eq_some_iff.1 hj).1
  have h1 := hf j f hj
  rw [ho, hk] at h1
  have hone' : (cs'.drop j).take 1 = [cs'[j]'(by omega)] := by
    rw [List.drop_eq_getElem_cons (by omega)]
    rfl
  have hys : ys[j]? = some (ys[j]'(by omega)) := List.getElem?_eq_getElem (by omega)
  rw [hone', hys] at h1
  exact ⟨cs'[j]'(by omega), _, _, by rw [hat j hjl, List.getElem?_eq_getElem (by omega)], h1⟩

theorem arg_chunks {H : Type} {enc : TypeId × Value → H} {P : Program} {W : World} {t e b8 : TypeId} {f0 f1 f2 : Field} {A : Option Addr} {n c : Nat} {d : DataW H} {p : List MemPlace}
    (ht : P.underlying t = some (.slice e)) (hs : P.underlying e = some (.struct #[f0, f1, f2])) (hone : oneCellFields P #[f0, f1, f2] = true) (hC : P.cellsOf e = 3) (h0 : P.underlying f0.type = some (.int .u8)) (h1 : P.underlying f1.type = some (.int .u8)) (h2 : P.underlying f2.type = some (.slice b8)) (h8 : P.underlying b8 = some (.int .u8)) (hC8 : P.cellsOf b8 = 1)
    (h : DataW.Trod enc P W 0 (fun _ => true) true t (.slice A n c) d p) :
    ∃ cs : List Chk, n ≤ c ∧ c ≤ maxLen ∧ cs.length = n ∧ Chunks W W.heap.size A cs := by
  obtain ⟨fuel, hf⟩ := h
  rcases open_slice ht hf with ⟨hcs, _⟩ | ⟨a, len, cap, m, n', D, Pl, hcs, hb, hl, hm, hmm, hx, hi⟩
  · simp [Value.cells] at hcs
    obtain ⟨rfl, rfl, rfl⟩ := hcs
    exact ⟨[], Nat.le_refl _, Nat.zero_le _, rfl, .inl rfl⟩
  · simp [Value.cells] at hcs
    obtain ⟨rfl, rfl, rfl⟩ := hcs
    have hmm' : m = c := by simpa using hmm
    have key : ∀ i, i < n → ∃ x : Chk, W.cell? (a.add (i * 3)) = some (.int .u8 (x.1.toNat : Int)) ∧ W.cell? (a.add (i * 3 + 1)) = some (.int .u8 (x.2.1.toNat : Int)) ∧ ∃ A' n1 c1, W.cell? (a.add (i * 3 + 2)) = some (.slice A' n1 c1) ∧ n1 ≤ c1 ∧ c1 ≤ maxLen ∧ x.2.2.length = n1 ∧ Rd W W.heap.size A' x.2.2 := by
      intro i hin
      obtain ⟨cs', hc, ht'⟩ := hi i (by omega)
      rw [hC] at hc
      obtain ⟨_, hcl, hat⟩ := World.cells?_some hc
      have fa := fun j f hj => field_at (j := j) (f := f) hs hone (by rw [hcl]; rfl) (fun i' hi' => hat i' hi') ht' hj
      obtain ⟨v0, m0, y0, e0, t0⟩ := fa 0 f0 rfl
      obtain ⟨v1, m1, y1, e1, t1⟩ := fa 1 f1 rfl
      obtain ⟨v2, m2, y2, e2, t2⟩ := fa 2 f2 rfl
      obtain ⟨x0, rfl, w0⟩ := field_int h0 t0
      obtain ⟨x1, rfl, w1⟩ := field_int h1 t1
      obtain ⟨A', n1, c1, xs, rfl, g1, g2, g3, g4⟩ := field_bytes h2 h8 hC8 t2
      obtain ⟨k, rfl⟩ := byte_of w0
      obtain ⟨f, rfl⟩ := byte_of w1
      rw [add_add] at e0 e1 e2
      exact ⟨(k, f, xs), e0, e1, A', n1, c1, e2, g1, g2, g3, g4⟩
    refine ⟨(List.range n).map fun i => if h : i < n then Classical.choose (key i h) else (0, 0, []), hl, hm, by simp, ?_⟩
    by_cases hn0 : n = 0
    · subst hn0; exact .inl (by simp)
    · obtain ⟨b, off, spot⟩ := a
      obtain ⟨_, h00, _⟩ := key 0 (by omega)
      have hspot : spot = none := by simpa [Addr.add] using World.cell?_spot h00
      subst hspot
      have hblt := World.block_lt_of_cell? W _ h00
      refine .inr ⟨b, off, rfl, by simpa [Addr.add] using hblt, fun i l hl' => ?_⟩
      rw [List.getElem?_map, Option.map_eq_some_iff] at hl'
      obtain ⟨i', hi', rfl⟩ := hl'
      have hin : i < n := by
        rcases Nat.lt_or_ge i n with hlt | hge
        · exact hlt
        · rw [List.getElem?_eq_none (by simpa using hge)] at hi'; cases hi'
      rw [List.getElem?_range hin] at hi'
      injection hi' with hi'
      subst hi'
      rw [dif_pos hin]
      generalize hz : Classical.choose (key i hin) = z
      have hk := Classical.choose_spec (key i hin)
      rw [hz] at hk
      obtain ⟨g0, g1, A', n1, c1, g2, g3⟩ := hk
      rw [Addr.add_lit] at g0 g1 g2
      rw [← Nat.add_assoc] at g1 g2
      exact ⟨g0, g1, A', n1, c1, g2, g3⟩
end Go.Proofs.Ytifmhlbeodfpeaa
