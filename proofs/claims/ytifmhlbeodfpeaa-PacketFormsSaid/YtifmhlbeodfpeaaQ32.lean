/-
  What the frames of layer 10 share: structs of the document by value.
  What packet.Read answers, one form for all; its rows.
-/
import Derived.Test.YtifmhlbeodfpeaaQ31
import Derived.Test.YtifmhlbeodfpeaaQ12
import Derived.Test.YtifmhlbeodfpeaaQ1
namespace Go.Proofs.Ytifmhlbeodfpeaa
open Go.ChangeShapes Go.WideShapes Go.ChangeAt Go.RowKit Go.Deep
set_option linter.unusedVariables false

theorem arrayP_2 {α : Type} {cs : Array α} (h : cs.size = 2) : ∃ a0 a1, cs = #[a0, a1] := by
  obtain ⟨l⟩ := cs
  rcases l with _ | ⟨a0, l⟩
  · simp at h
  rcases l with _ | ⟨a1, l⟩
  · simp at h
  rcases l with _ | ⟨b, l⟩
  · exact ⟨a0, a1, rfl⟩
  · simp at h
theorem arrayP_3 {α : Type} {cs : Array α} (h : cs.size = 3) : ∃ a0 a1 a2, cs = #[a0, a1, a2] := by
  obtain ⟨l⟩ := cs
  rcases l with _ | ⟨a0, l⟩
  · simp at h
  rcases l with _ | ⟨a1, l⟩
  · simp at h
  rcases l with _ | ⟨a2, l⟩
  · simp at h
  rcases l with _ | ⟨b, l⟩
  · exact ⟨a0, a1, a2, rfl⟩
  · simp at h
theorem arrayP_4 {α : Type} {cs : Array α} (h : cs.size = 4) : ∃ a0 a1 a2 a3, cs = #[a0, a1, a2, a3] := by
  obtain ⟨l⟩ := cs
  rcases l with _ | ⟨a0, l⟩
  · simp at h
  rcases l with _ | ⟨a1, l⟩
  · simp at h
  rcases l with _ | ⟨a2, l⟩
  · simp at h
  rcases l with _ | ⟨a3, l⟩
  · simp at h
  rcases l with _ | ⟨b, l⟩
  · exact ⟨a0, a1, a2, a3, rfl⟩
  · simp at h
theorem natP_of_u32 {a : Int} (h : (Lit.int .u32 a).wf = true) : ∃ n : Nat, a = n ∧ n < 4294967296 := by
  have hb : 0 ≤ a ∧ a ≤ 4294967295 := by simpa [Lit.wf, IntKind.min, IntKind.max, IntKind.signed, IntKind.bits] using h
  exact ⟨a.toNat, by omega, by omega⟩
theorem natP_of_u16 {a : Int} (h : (Lit.int .u16 a).wf = true) : ∃ n : Nat, a = n ∧ n < 65536 := by
  have hb : 0 ≤ a ∧ a ≤ 65535 := by simpa [Lit.wf, IntKind.min, IntKind.max, IntKind.signed, IntKind.bits] using h
  exact ⟨a.toNat, by omega, by omega⟩
section
variable {H : Type} {enc : TypeId × Value → H} {P : Program} {W : World}
/-- What a struct's cells hold, field by field. -/
theorem partP_of {fs : Array Field} {t : TypeId} {m : Nat} {cs : List Value} {x : DataW H × List MemPlace} (ht : P.underlying t = some (.struct fs)) (h : DataW.trod enc P W 0 (fun _ => true) true m t cs = some x) :
    ∃ n, cs.length = P.cellsOf t ∧ ∀ (i : Nat) (f : Field), fs[i]? = some f → ∃ y, DataW.trod enc P W 0 (fun _ => true) true n f.type ((cs.drop f.offset).take (P.cellsOf f.type)) = some y := by
  obtain ⟨xs, n, _, _, hl, hx, hf⟩ := DataW.trod_struct ht h
  refine ⟨n, hl, fun i f hi => ?_⟩
  have hlt : i < fs.size := (Array.getElem?_eq_some_iff.1 hi).1
  have := hf i f hi
  rw [List.getElem?_eq_getElem (by omega)] at this
  exact ⟨_, this⟩
theorem field_chunks {t e b8 : TypeId} {f0 f1 f2 : Field} {m : Nat} {v : Value} {y : DataW H × List MemPlace}
    (ht : P.underlying t = some (.slice e)) (hs : P.underlying e = some (.struct #[f0, f1, f2])) (hone : oneCellFields P #[f0, f1, f2] = true) (hC : P.cellsOf e = 3) (h0 : P.underlying f0.type = some (.int .u8)) (h1 : P.underlying f1.type = some (.int .u8)) (h2 : P.underlying f2.type = some (.slice b8)) (h8 : P.underlying b8 = some (.int .u8)) (hC8 : P.cellsOf b8 = 1)
    (h : DataW.trod enc P W 0 (fun _ => true) true m t [v] = some y) :
    ∃ (A : Option Addr) (n c : Nat) (cs : List Chk), v = .slice A n c ∧ n ≤ c ∧ c ≤ maxLen ∧ cs.length = n ∧ Chunks W W.heap.size A cs := by
  have hv : ∃ (A : Option Addr) (n c : Nat), v = .slice A n c := by
    rcases open_slice ht h with ⟨hcs, _⟩ | ⟨a, len, cap, m1, n', D, Pl, hcs, _⟩
    · injection hcs with hcs; exact ⟨_, _, _, hcs⟩
    · injection hcs with hcs; exact ⟨_, _, _, hcs⟩
  obtain ⟨A, n, c, rfl⟩ := hv
  obtain ⟨cs, g1, g2, g3, g4⟩ := arg_chunks (d := y.1) (p := y.2) ht hs hone hC h0 h1 h2 h8 hC8 ⟨m, by simpa [Value.cells] using h⟩
  exact ⟨A, n, c, cs, rfl, g1, g2, g3, g4⟩
end
set_option maxRecDepth 100000 in
set_option maxHeartbeats 4000000 in
theorem open_packet {H : Type} {enc : TypeId × Value → H} {W : World} {r : Reach} {b0 : Nat} {v : Value} {d : DataW H} {p : List MemPlace} (hv : Value.okWide Try.prog W r b0 25 v) (h : DataW.Trod enc Try.prog W 0 (fun _ => true) true 25 v d p) :
    ∃ (tag : Nat) (A : Option Addr) (n c : Nat) (cs : List Chk), v = .agg #[.int .u32 (tag : Int), .slice A n c] ∧ tag < 4294967296 ∧ (n ≤ c ∧ c ≤ maxLen ∧ cs.length = n ∧ Chunks W W.heap.size A cs) := by
  obtain ⟨cs0, rfl, hsz⟩ := okWide_struct Try.underlying25 hv
  have hsz : cs0.size = 2 := hsz.trans (by kernel_rfl)
  obtain ⟨a0, a1, rfl⟩ := arrayP_2 hsz
  obtain ⟨fuel, hf⟩ := h
  have hf : DataW.trod enc Try.prog W 0 (fun _ => true) true fuel 25 [a0, a1] = some (d, p) := hf
  obtain ⟨n1, _, F⟩ := partP_of Try.underlying25 hf
  obtain ⟨ys0, s0⟩ := F 0 _ rfl
  have s0 : DataW.trod enc Try.prog W 0 (fun _ => true) true n1 22 [a0] = some ys0 := by
      have h := s0
      change DataW.trod enc Try.prog W 0 (fun _ => true) true n1 22 (List.take (Try.prog.cellsOf 22) (List.drop 0 [a0, a1])) = _ at h
      rw [show Try.prog.cellsOf 22 = 1 by kernel_rfl] at h
      exact h
  obtain ⟨ys1, s1⟩ := F 1 _ rfl
  have s1 : DataW.trod enc Try.prog W 0 (fun _ => true) true n1 23 [a1] = some ys1 := by
      have h := s1
      change DataW.trod enc Try.prog W 0 (fun _ => true) true n1 23 (List.take (Try.prog.cellsOf 23) (List.drop 1 [a0, a1])) = _ at h
      rw [show Try.prog.cellsOf 23 = 1 by kernel_rfl] at h
      exact h
  obtain ⟨tag_, rfl, wt⟩ := field_int Try.underlying22 s0
  obtain ⟨tag, rfl, bt⟩ := natP_of_u32 wt
  obtain ⟨A, n, c, cs, rfl, f⟩ := field_chunks Try.underlying23 Try.underlying41 (by kernel_rfl) (by kernel_rfl) Try.underlying5 Try.underlying5 Try.underlying29 Try.underlying5 (by kernel_rfl) s1
  exact ⟨tag, A, n, c, cs, rfl, bt, f⟩
set_option maxRecDepth 100000 in
set_option maxHeartbeats 4000000 in
theorem open_chunk {H : Type} {enc : TypeId × Value → H} {W : World} {r : Reach} {b0 : Nat} {v : Value} {d : DataW H} {p : List MemPlace} (hv : Value.okWide Try.prog W r b0 41 v) (h : DataW.Trod enc Try.prog W 0 (fun _ => true) true 41 v d p) :
    ∃ (k f : UInt8) (A : Option Addr) (n c : Nat) (xs : List UInt8), v = .agg #[.int .u8 (k.toNat : Int), .int .u8 (f.toNat : Int), .slice A n c] ∧ (n ≤ c ∧ c ≤ maxLen ∧ xs.length = n ∧ Rd W W.heap.size A xs) := by
  obtain ⟨cs0, rfl, hsz⟩ := okWide_struct Try.underlying41 hv
  have hsz : cs0.size = 3 := hsz.trans (by kernel_rfl)
  obtain ⟨a0, a1, a2, rfl⟩ := arrayP_3 hsz
  obtain ⟨fuel, hf⟩ := h
  have hf : DataW.trod enc Try.prog W 0 (fun _ => true) true fuel 41 [a0, a1, a2] = some (d, p) := hf
  obtain ⟨n1, _, F⟩ := partP_of Try.underlying41 hf
  obtain ⟨ys0, s0⟩ := F 0 _ rfl
  have s0 : DataW.trod enc Try.prog W 0 (fun _ => true) true n1 5 [a0] = some ys0 := by
      have h := s0
      change DataW.trod enc Try.prog W 0 (fun _ => true) true n1 5 (List.take (Try.prog.cellsOf 5) (List.drop 0 [a0, a1, a2])) = _ at h
      rw [show Try.prog.cellsOf 5 = 1 by kernel_rfl] at h
      exact h
  obtain ⟨ys1, s1⟩ := F 1 _ rfl
  have s1 : DataW.trod enc Try.prog W 0 (fun _ => true) true n1 5 [a1] = some ys1 := by
      have h := s1
      change DataW.trod enc Try.prog W 0 (fun _ => true) true n1 5 (List.take (Try.prog.cellsOf 5) (List.drop 1 [a0, a1, a2])) = _ at h
      rw [show Try.prog.cellsOf 5 = 1 by kernel_rfl] at h
      exact h
  obtain ⟨ys2, s2⟩ := F 2 _ rfl
  have s2 : DataW.trod enc Try.prog W 0 (fun _ => true) true n1 29 [a2] = some ys2 := by
      have h := s2
      change DataW.trod enc Try.prog W 0 (fun _ => true) true n1 29 (List.take (Try.prog.cellsOf 29) (List.drop 2 [a0, a1, a2])) = _ at h
      rw [show Try.prog.cellsOf 29 = 1 by kernel_rfl] at h
      exact h
  obtain ⟨k_, rfl, wk⟩ := field_int Try.underlying5 s0
  obtain ⟨k, rfl⟩ := byte_of wk
  obtain ⟨f_, rfl, wf⟩ := field_int Try.underlying5 s1
  obtain ⟨f, rfl⟩ := byte_of wf
  obtain ⟨A, n, c, xs, rfl, g⟩ := field_bytes Try.underlying29 Try.underlying5 (by kernel_rfl) s2
  exact ⟨k, f, A, n, c, xs, rfl, g⟩
set_option maxRecDepth 100000 in
set_option maxHeartbeats 4000000 in
theorem open_burst {H : Type} {enc : TypeId × Value → H} {W : World} {r : Reach} {b0 : Nat} {v : Value} {d : DataW H} {p : List MemPlace} (hv : Value.okWide Try.prog W r b0 48 v) (h : DataW.Trod enc Try.prog W 0 (fun _ => true) true 48 v d p) :
    ∃ (tag : Nat) (A : Option Addr) (n c : Nat) (cs : List Chk) (bit : Int) (mask : Nat), v = .agg #[.int .u32 (tag : Int), .slice A n c, .int .i64 bit, .int .u32 (mask : Int)] ∧ tag < 4294967296 ∧ (n ≤ c ∧ c ≤ maxLen ∧ cs.length = n ∧ Chunks W W.heap.size A cs) ∧ (-9223372036854775808 ≤ bit ∧ bit ≤ 9223372036854775807) ∧ mask < 4294967296 := by
  obtain ⟨cs0, rfl, hsz⟩ := okWide_struct Try.underlying48 hv
  have hsz : cs0.size = 4 := hsz.trans (by kernel_rfl)
  obtain ⟨a0, a1, a2, a3, rfl⟩ := arrayP_4 hsz
  obtain ⟨fuel, hf⟩ := h
  have hf : DataW.trod enc Try.prog W 0 (fun _ => true) true fuel 48 [a0, a1, a2, a3] = some (d, p) := hf
  obtain ⟨n1, _, F⟩ := partP_of Try.underlying48 hf
  obtain ⟨yt0, t0⟩ := F 0 _ rfl
  have t0 : DataW.trod enc Try.prog W 0 (fun _ => true) true n1 25 [a0, a1] = some yt0 := by
      have h := t0
      change DataW.trod enc Try.prog W 0 (fun _ => true) true n1 25 (List.take (Try.prog.cellsOf 25) (List.drop 0 [a0, a1, a2, a3])) = _ at h
      rw [show Try.prog.cellsOf 25 = 2 by kernel_rfl] at h
      exact h
  obtain ⟨m1, _, G⟩ := partP_of Try.underlying25 t0
  obtain ⟨ys0, s0⟩ := G 0 _ rfl
  have s0 : DataW.trod enc Try.prog W 0 (fun _ => true) true m1 22 [a0] = some ys0 := by
      have h := s0
      change DataW.trod enc Try.prog W 0 (fun _ => true) true m1 22 (List.take (Try.prog.cellsOf 22) (List.drop 0 [a0, a1])) = _ at h
      rw [show Try.prog.cellsOf 22 = 1 by kernel_rfl] at h
      exact h
  obtain ⟨ys1, s1⟩ := G 1 _ rfl
  have s1 : DataW.trod enc Try.prog W 0 (fun _ => true) true m1 23 [a1] = some ys1 := by
      have h := s1
      change DataW.trod enc Try.prog W 0 (fun _ => true) true m1 23 (List.take (Try.prog.cellsOf 23) (List.drop 1 [a0, a1])) = _ at h
      rw [show Try.prog.cellsOf 23 = 1 by kernel_rfl] at h
      exact h
  obtain ⟨ys2, s2⟩ := F 1 _ rfl
  have s2 : DataW.trod enc Try.prog W 0 (fun _ => true) true n1 3 [a2] = some ys2 := by
      have h := s2
      change DataW.trod enc Try.prog W 0 (fun _ => true) true n1 3 (List.take (Try.prog.cellsOf 3) (List.drop 2 [a0, a1, a2, a3])) = _ at h
      rw [show Try.prog.cellsOf 3 = 1 by kernel_rfl] at h
      exact h
  obtain ⟨ys3, s3⟩ := F 2 _ rfl
  have s3 : DataW.trod enc Try.prog W 0 (fun _ => true) true n1 22 [a3] = some ys3 := by
      have h := s3
      change DataW.trod enc Try.prog W 0 (fun _ => true) true n1 22 (List.take (Try.prog.cellsOf 22) (List.drop 3 [a0, a1, a2, a3])) = _ at h
      rw [show Try.prog.cellsOf 22 = 1 by kernel_rfl] at h
      exact h
  obtain ⟨tag_, rfl, wt⟩ := field_int Try.underlying22 s0
  obtain ⟨tag, rfl, bt⟩ := natP_of_u32 wt
  obtain ⟨A, n, c, cs, rfl, f⟩ := field_chunks Try.underlying23 Try.underlying41 (by kernel_rfl) (by kernel_rfl) Try.underlying5 Try.underlying5 Try.underlying29 Try.underlying5 (by kernel_rfl) s1
  obtain ⟨bit, rfl, wb⟩ := field_int Try.underlying3 s2
  obtain ⟨mask_, rfl, wm⟩ := field_int Try.underlying22 s3
  obtain ⟨mask, rfl, bm⟩ := natP_of_u32 wm
  have hb : -9223372036854775808 ≤ bit ∧ bit ≤ 9223372036854775807 := by simpa [Lit.wf, IntKind.min, IntKind.max, IntKind.signed, IntKind.bits] using wb
  exact ⟨tag, A, n, c, cs, bit, mask, rfl, bt, f, hb, bm⟩
set_option maxRecDepth 100000 in
set_option maxHeartbeats 4000000 in
theorem open_turn {H : Type} {enc : TypeId × Value → H} {W : World} {r : Reach} {b0 : Nat} {v : Value} {d : DataW H} {p : List MemPlace} (hv : Value.okWide Try.prog W r b0 53 v) (h : DataW.Trod enc Try.prog W 0 (fun _ => true) true 53 v d p) :
    ∃ (tag : Nat) (A : Option Addr) (n c : Nat) (cs : List Chk) (at_ : Nat) (b : UInt8), v = .agg #[.int .u32 (tag : Int), .slice A n c, .int .u16 (at_ : Int), .int .u8 (b.toNat : Int)] ∧ tag < 4294967296 ∧ (n ≤ c ∧ c ≤ maxLen ∧ cs.length = n ∧ Chunks W W.heap.size A cs) ∧ at_ < 65536 := by
  obtain ⟨cs0, rfl, hsz⟩ := okWide_struct Try.underlying53 hv
  have hsz : cs0.size = 4 := hsz.trans (by kernel_rfl)
  obtain ⟨a0, a1, a2, a3, rfl⟩ := arrayP_4 hsz
  obtain ⟨fuel, hf⟩ := h
  have hf : DataW.trod enc Try.prog W 0 (fun _ => true) true fuel 53 [a0, a1, a2, a3] = some (d, p) := hf
  obtain ⟨n1, _, F⟩ := partP_of Try.underlying53 hf
  obtain ⟨yt0, t0⟩ := F 0 _ rfl
  have t0 : DataW.trod enc Try.prog W 0 (fun _ => true) true n1 25 [a0, a1] = some yt0 := by
      have h := t0
      change DataW.trod enc Try.prog W 0 (fun _ => true) true n1 25 (List.take (Try.prog.cellsOf 25) (List.drop 0 [a0, a1, a2, a3])) = _ at h
      rw [show Try.prog.cellsOf 25 = 2 by kernel_rfl] at h
      exact h
  obtain ⟨m1, _, G⟩ := partP_of Try.underlying25 t0
  obtain ⟨ys0, s0⟩ := G 0 _ rfl
  have s0 : DataW.trod enc Try.prog W 0 (fun _ => true) true m1 22 [a0] = some ys0 := by
      have h := s0
      change DataW.trod enc Try.prog W 0 (fun _ => true) true m1 22 (List.take (Try.prog.cellsOf 22) (List.drop 0 [a0, a1])) = _ at h
      rw [show Try.prog.cellsOf 22 = 1 by kernel_rfl] at h
      exact h
  obtain ⟨ys1, s1⟩ := G 1 _ rfl
  have s1 : DataW.trod enc Try.prog W 0 (fun _ => true) true m1 23 [a1] = some ys1 := by
      have h := s1
      change DataW.trod enc Try.prog W 0 (fun _ => true) true m1 23 (List.take (Try.prog.cellsOf 23) (List.drop 1 [a0, a1])) = _ at h
      rw [show Try.prog.cellsOf 23 = 1 by kernel_rfl] at h
      exact h
  obtain ⟨ys2, s2⟩ := F 1 _ rfl
  have s2 : DataW.trod enc Try.prog W 0 (fun _ => true) true n1 51 [a2] = some ys2 := by
      have h := s2
      change DataW.trod enc Try.prog W 0 (fun _ => true) true n1 51 (List.take (Try.prog.cellsOf 51) (List.drop 2 [a0, a1, a2, a3])) = _ at h
      rw [show Try.prog.cellsOf 51 = 1 by kernel_rfl] at h
      exact h
  obtain ⟨ys3, s3⟩ := F 2 _ rfl
  have s3 : DataW.trod enc Try.prog W 0 (fun _ => true) true n1 5 [a3] = some ys3 := by
      have h := s3
      change DataW.trod enc Try.prog W 0 (fun _ => true) true n1 5 (List.take (Try.prog.cellsOf 5) (List.drop 3 [a0, a1, a2, a3])) = _ at h
      rw [show Try.prog.cellsOf 5 = 1 by kernel_rfl] at h
      exact h
  obtain ⟨tag_, rfl, wt⟩ := field_int Try.underlying22 s0
  obtain ⟨tag, rfl, bt⟩ := natP_of_u32 wt
  obtain ⟨A, n, c, cs, rfl, f⟩ := field_chunks Try.underlying23 Try.underlying41 (by kernel_rfl) (by kernel_rfl) Try.underlying5 Try.underlying5 Try.underlying29 Try.underlying5 (by kernel_rfl) s1
  obtain ⟨at__, rfl, wb⟩ := field_int Try.underlying51 s2
  obtain ⟨at_, rfl, ba⟩ := natP_of_u16 wb
  obtain ⟨b_, rfl, wm⟩ := field_int Try.underlying5 s3
  obtain ⟨b, rfl⟩ := byte_of wm
  exact ⟨tag, A, n, c, cs, at_, b, rfl, bt, f, ba⟩
end Go.Proofs.Ytifmhlbeodfpeaa

namespace Go.Proofs.Ytifmhlbeodfpeaa
open Go.RowKit
set_option linter.unusedVariables false

/-- What Read answers, piece by piece. -/
def rdTag : RdP → Nat
  | .err _ => 0
  | .ok tag _ => tag
def rdErr : RdP → Int
  | .err k => k
  | .ok _ _ => 0
def rdCs : RdP → List Chk
  | .err _ => []
  | .ok _ cs => cs
theorem RdR.form {base : Nat} {r : RdP} {e : Ending} {w : World} (h : RdR base r e w) : ∃ A c es, e = .returned (.tuple #[.agg #[.int .u32 (rdTag r : Int), .slice A es.length c], .int .i64 (rdErr r)]) ∧ OC w base (.slice A es.length c) es ∧ es.map CE.chk = rdCs r := by
  cases r with
  | err k => exact ⟨none, 0, [], h, OC.nil _ _, rfl⟩
  | ok tag cs =>
    obtain ⟨A, c, es, he, ho, hm⟩ := h
    exact ⟨A, c, es, he, ho, hm⟩
theorem rd_tag_lt (b : List UInt8) : rdTag (rdP b) < 4294967296 := by
  cases h : rdP b with
  | err k => exact Nat.zero_lt_of_lt (show 0 < 4294967296 by decide)
  | ok tag cs =>
    unfold rdP at h
    split at h
    · cases h
    · split at h
      · cases h
      · split at h
        · cases h
        · split at h
          · injection h with h1 _
            show tag < 4294967296
            rw [← h1]
            exact num_lt b 4 4
          · cases h
theorem rd_cs_len (b : List UInt8) : (rdCs (rdP b)).length ≤ b.length := by
  cases h : rdP b with
  | err k => exact Nat.zero_le _
  | ok tag cs =>
    have hw := wrP_rdP h
    show cs.length ≤ b.length
    rw [← hw]
    unfold wrP
    split
    · rename_i hm
      have h1 := (cat_parseN _ _ _ (parseN_cat cs cs.length (small_may hm) (Nat.le_refl _))).2.2
      rw [length_laidP]
      omega
    · rename_i hm
      unfold rdP at h
      split at h
      · cases h
      · split at h
        · cases h
        · split at h
          · cases h
          · split at h
            · rename_i hm2
              injection h with _ h2
              rw [h2] at hm2
              exact absurd hm2.1 hm
            · cases h
/-- A row of chunks beside an own row of another type that grows. -/
theorem OC.beside {w w' : World} {base b2 sz n : Nat} {v v2 : Value} {es : List CE} {t2 : TypeId} {xs : List Value} (h : OC w base v es) (h2 : w.ownsRow b2 t2 sz v2 n xs) (h1 : t2 ≠ 41) (hu : t2 ≠ 5) (hg : w.grownBy w' v2.ownBlock) : OC w' base v es := by
  refine ⟨ownsRow_keep h.row fun g hv => hg.block g (World.ownsRow.lt h.row g hv).2 ?_, fun e he => (h.bod e he).keep fun q hq => hg.block q ((h.bod e he).lt q hq).2 ?_, h.far⟩
  · rcases h.row.2 with ⟨rfl, _⟩ | ⟨g2, cap, cur, rfl, hb, hgg, _⟩
    · simp [Value.ownBlock] at hv
    · simp [Value.ownBlock] at hv
      subst hv
      exact ownsRow_ne h2 (show Blk w g2 41 cur from hgg) h1
  · exact Own8.row_ne (h.bod e he) h2 (fun e => hu e.symm) q hq

/-- The rows of a packet that was read, the bytes' own ahead of them. -/
theorem rows_read {w : World} {G n c : Nat} {base : Nat} {xs : List UInt8} {v : Value} {es : List CE} {rb cap : Nat} (hin : Own8 w 5 base (some ⟨G, 0, none⟩) n c xs) (ho : OC w base v es) (hf : ∀ e ∈ es, Far (some ⟨G, 0, none⟩) e.A)
    (hr : w.ownsRow base 29 1 (.slice (some ⟨rb, 0, none⟩) (1 + es.length) cap) (1 + es.length) (Value.slice (some ⟨G, 0, none⟩) n c :: es.map fun e => Value.slice e.A e.n e.c)) :
    Rows8 w 5 base rb 0 (1 + es.length) (fun k => if k = 0 then some ⟨G, 0, none⟩ else ((es[k - 1]?).map CE.A).getD none) (fun k => if k = 0 then n else ((es[k - 1]?).map CE.n).getD 0) (fun k => if k = 0 then c else ((es[k - 1]?).map CE.c).getD 0) (fun k => if k = 0 then xs else ((es[k - 1]?).map CE.xs).getD []) := by
  have hblk : ∃ cur, Blk w rb 29 cur := by
    rcases hr.2 with ⟨h, _⟩ | ⟨g, cap, cur, he, _, hg, _⟩
    · injection h with h _ _
      cases h
    · injection he with he _ _
      injection he with he
      injection he with he
      subst he
      exact ⟨cur, hg⟩
  obtain ⟨cur, hcur⟩ := hblk
  have hget : ∀ k, k ≠ 0 → k < 1 + es.length → ∃ e, es[k - 1]? = some e ∧ e ∈ es := fun k h0 hk => ⟨es[k - 1]'(by omega), List.getElem?_eq_getElem (by omega), List.getElem_mem (by omega)⟩
  refine ⟨fun k hk => ?_, fun k hk => ?_, fun j k hj hk hne => ?_, fun k hk => ?_, hcur.lt⟩
  · have h2 := hr.cells (g := rb) rfl k
    by_cases h0 : k = 0
    · subst h0
      have := h2 (.slice (some ⟨G, 0, none⟩) n c) rfl
      simpa [Addr.add] using this
    · obtain ⟨e, he, _⟩ := hget k h0 hk
      have := h2 (.slice e.A e.n e.c) (by
        obtain ⟨k', rfl⟩ : ∃ k', k = k' + 1 := ⟨k - 1, by omega⟩
        rw [List.getElem?_cons_succ, List.getElem?_map]
        simp at he
        rw [he]
        rfl)
      rw [Addr.add_lit] at this
      simpa [h0, he] using this
  · by_cases h0 : k = 0
    · subst h0; simpa using hin
    · obtain ⟨e, he, hm⟩ := hget k h0 hk
      simpa [h0, he] using ho.bod e hm
  · by_cases hj0 : j = 0
    · subst hj0
      have hk0 : k ≠ 0 := fun h => hne h.symm
      obtain ⟨e, he, hm⟩ := hget k hk0 hk
      simpa [hk0, he] using (hf e hm) G rfl
    · obtain ⟨e, he, hm⟩ := hget j hj0 hj
      by_cases hk0 : k = 0
      · subst hk0
        have := Far.symm (hf e hm)
        simpa [hj0, he, Far] using this
      · obtain ⟨e2, he2, hm2⟩ := hget k hk0 hk
        have hpw := List.pairwise_iff_getElem.1 ho.far
        have g1 : es[j - 1]'(by omega) = e := by have := List.getElem?_eq_getElem (l := es) (i := j - 1) (by omega); rw [this] at he; exact Option.some.inj he
        have g2 : es[k - 1]'(by omega) = e2 := by have := List.getElem?_eq_getElem (l := es) (i := k - 1) (by omega); rw [this] at he2; exact Option.some.inj he2
        have hfar : Far e.A e2.A := by
          rcases Nat.lt_or_ge (j - 1) (k - 1) with h | h
          · have := hpw (j - 1) (k - 1) (by omega) (by omega) h
            rwa [g1, g2] at this
          · have := hpw (k - 1) (j - 1) (by omega) (by omega) (by omega)
            rw [g1, g2] at this
            exact Far.symm this
        simpa [hj0, hk0, he, he2, Far] using hfar
  · by_cases h0 : k = 0
    · subst h0
      have := hin.ne_blk hcur (by decide)
      intro h
      simp at h
      exact this G rfl h
    · obtain ⟨e, he, hm⟩ := hget k h0 hk
      have := (ho.bod e hm).ne_blk hcur (by decide)
      intro h
      simp [h0, he] at h
      exact this rb h rfl
end Go.Proofs.Ytifmhlbeodfpeaa
