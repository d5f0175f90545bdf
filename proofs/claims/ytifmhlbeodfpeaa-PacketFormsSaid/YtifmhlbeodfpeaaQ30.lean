/-
  Package packet: a chunk put behind others.
-/
import Derived.Test.YtifmhlbeodfpeaaQ27
import Derived.Test.YtifmhlbeodfpeaaQ29
import Derived.Test.YtifmhlbeodfpeaaQ19
namespace Go.Proofs.Ytifmhlbeodfpeaa
open Go.RowKit
set_option linter.unusedVariables false

/-- What each body of a row is. -/
def BodC (w : World) (B : Nat) (es : List CE) : Prop := ∀ e ∈ es, e.n ≤ e.c ∧ e.c ≤ maxLen ∧ e.xs.length = e.n ∧ Rd w B e.A e.xs
theorem chunks_of_flat {w : World} {G B : Nat} {es : List CE} (hlt : G < B) (hcell : ∀ j u, (flatC es)[j]? = some u → w.cell? ⟨G, 0 + j, none⟩ = some u) (hel : BodC w B es) : Chunks w B (some ⟨G, 0, none⟩) (es.map CE.chk) := by
  refine .inr ⟨G, 0, rfl, hlt, fun i x hx => ?_⟩
  rw [List.getElem?_map, Option.map_eq_some_iff] at hx
  obtain ⟨e, he, rfl⟩ := hx
  obtain ⟨h1, h2, h3, h4⟩ := hel e (List.mem_of_getElem? he)
  have hg := get_flatC es i e he
  refine ⟨?_, ?_, e.A, e.n, e.c, ?_, h1, h2, h3, h4⟩
  · exact hcell _ _ ((hg 0 (by omega)).trans rfl)
  · rw [Nat.add_assoc]; exact hcell _ _ ((hg 1 (by omega)).trans rfl)
  · rw [Nat.add_assoc]; exact hcell _ _ ((hg 2 (by omega)).trans rfl)
theorem ces_snoc {w : World} {B b o : Nat} : ∀ (cs : List Chk) (m : Nat), (∀ (i : Nat) (x : Chk), cs[i]? = some x → w.cell? ⟨b, o + (m + i) * 3, none⟩ = some (.int .u8 (x.1.toNat : Int)) ∧ w.cell? ⟨b, o + (m + i) * 3 + 1, none⟩ = some (.int .u8 (x.2.1.toNat : Int)) ∧
    ∃ A' n c, w.cell? ⟨b, o + (m + i) * 3 + 2, none⟩ = some (.slice A' n c) ∧ n ≤ c ∧ c ≤ maxLen ∧ x.2.2.length = n ∧ Rd w B A' x.2.2) →
    ∃ es : List CE, es.map CE.chk = cs ∧ BodC w B es ∧ ∀ j u, (flatC es)[j]? = some u → w.cell? ⟨b, o + m * 3 + j, none⟩ = some u
  | [], m, h => ⟨[], rfl, fun e he => (by cases he), fun j u hu => by simp [flatC] at hu⟩
  | x :: cs, m, h => by
    obtain ⟨es, h1, h2, h3⟩ := ces_snoc cs (m + 1) (fun i y hy => by
      have := h (i + 1) y (by simpa using hy)
      rwa [show m + (i + 1) = m + 1 + i by omega] at this)
    obtain ⟨g0, g1, A', n, c, g2, g3, g4, g5, g6⟩ := h 0 x rfl
    rw [Nat.add_zero] at g0 g1 g2
    refine ⟨⟨x.1, x.2.1, A', n, c, x.2.2⟩ :: es, by rw [List.map_cons, h1]; rfl, fun e he => ?_, fun j u hu => ?_⟩
    · rcases List.mem_cons.1 he with rfl | he
      · exact ⟨g3, g4, g5, g6⟩
      · exact h2 e he
    · have e2 : flatC ((⟨x.1, x.2.1, A', n, c, x.2.2⟩ : CE) :: es) = (⟨x.1, x.2.1, A', n, c, x.2.2⟩ : CE).cells ++ flatC es := by simp [flatC]
      rw [e2] at hu
      by_cases hj : j < 3
      · rw [List.getElem?_append_left (by simp [CE.cells]; omega)] at hu
        have : j = 0 ∨ j = 1 ∨ j = 2 := by omega
        rcases this with rfl | rfl | rfl
        · simp [CE.cells] at hu; rw [← hu]; exact g0
        · simp [CE.cells] at hu; rw [← hu]; exact g1
        · simp [CE.cells] at hu; rw [← hu]; exact g2
      · rw [List.getElem?_append_right (by simp [CE.cells]; omega)] at hu
        have := h3 _ u hu
        simp only [CE.cells, List.length_cons, List.length_nil] at this
        rw [show o + m * 3 + j = o + (m + 1) * 3 + (j - (0 + 1 + 1 + 1)) by omega]
        exact this
/-- Chunks in memory, one by one. -/
theorem Chunks.ces {w : World} {B : Nat} {A : Option Addr} {cs : List Chk} (h : Chunks w B A cs) : ∃ es : List CE, es.map CE.chk = cs ∧ BodC w B es ∧ (cs = [] ∨ ∃ b o, A = some ⟨b, o, none⟩ ∧ b < B ∧ ∀ j u, (flatC es)[j]? = some u → w.cell? ⟨b, o + j, none⟩ = some u) := by
  rcases h with h | ⟨b, o, ha, hb, hc⟩
  · subst h
    exact ⟨[], rfl, fun e he => (by cases he), .inl rfl⟩
  · obtain ⟨es, h1, h2, h3⟩ := ces_snoc (w := w) (B := B) (b := b) (o := o) cs 0 (fun i x hx => by rw [Nat.zero_add]; exact hc i x hx)
    exact ⟨es, h1, h2, .inr ⟨b, o, ha, hb, fun j u hu => by have := h3 j u hu; rwa [Nat.zero_mul, Nat.add_zero] at this⟩⟩
theorem BodC.below {w w' : World} {B B' : Nat} {es : List CE} (h : BodC w B es) (hb : Below B w w') (hB : B ≤ B') : BodC w' B' es := fun e he => by
  obtain ⟨h1, h2, h3, h4⟩ := h e he
  exact ⟨h1, h2, h3, (h4.below hb).more hB⟩
theorem one_flatC (es : List CE) : ∀ u ∈ flatC es, u.oneCell' = true := oneCell_flatC es

theorem chunks_of_blk {W : World} {G : Nat} {es : List CE} {zs : Array Value} (hbk : Blk W G 41 ((flatC es).toArray ++ zs)) (hb : BodC W W.heap.size es) : Chunks W W.heap.size (some ⟨G, 0, none⟩) (es.map CE.chk) :=
  chunks_of_flat hbk.lt (fun j u hu => by
    rw [Nat.zero_add, hbk.cell j]
    have hj := (List.getElem?_eq_some_iff.1 hu).1
    rw [Array.getElem?_append_left (by simpa using hj)]
    simpa using hu) hb
/-- append of one to a slice with no room: a new row. -/
theorem append_full {w : World} {A : Option Addr} {n B : Nat} {cs : List Chk} {g : Nat} (ty : TypeId) (e : CE) (hr : Chunks w B A cs) (hl : cs.length = n) (hn : n ≤ 1048576) (hg : Blk w g 41 #[.int .u8 (e.k.toNat : Int), .int .u8 (e.f.toNat : Int), .slice e.A e.n e.c]) (hb : BodC w B [e]) :
    ∃ G cap zs es w', (Builtin.append_ #[23, 23] ty #[.slice A n n, .slice (some ⟨g, 0, none⟩) 1 1]).run Try.prog w = .ok (.slice (some ⟨G, 0, none⟩) (n + 1 : Nat) cap) w' ∧ es.map CE.chk = cs ++ [e.chk] ∧ w.heap.size ≤ G ∧ Blk w' G 41 ((flatC es).toArray ++ zs) ∧ BodC w B es ∧ Below w.heap.size w w' := by
  obtain ⟨i0, hi, hz0, hz1, hz2⟩ := info_parts Try.infoChunk
  obtain ⟨es, h1, h2, h3⟩ := hr.ces
  have hel : es.length = n := by rw [← hl, ← h1, List.length_map]
  have hnews : ∀ j u, e.cells[j]? = some u → w.cell? ((⟨g, 0, none⟩ : Addr).add j) = some u := fun j u hu => by
    rw [Addr.add_lit, Nat.zero_add, hg.cell j]
    simpa [CE.cells] using hu
  have hbe : BodC w B (es ++ [e]) := fun x hx => by
    rcases List.mem_append.1 hx with hx | hx
    · exact h2 x hx
    · exact hb x hx
  have hm : (es ++ [e]).map CE.chk = cs ++ [e.chk] := by simp [h1]
  have hbl : ∀ o, Below w.heap.size w (w.drew.alloc o) := fun o => ⟨rfl, rfl, rfl, by simp, fun k hk => Below.heap_alloc w.drew _ k hk⟩
  have hbk : ∀ zs, Blk (w.drew.alloc (.cells ((flatC es).toArray ++ e.cells.toArray ++ zs) 41)) w.heap.size 41 ((flatC (es ++ [e])).toArray ++ zs) := fun zs => by
    have h4 := Blk.new w.drew 41 ((flatC es).toArray ++ e.cells.toArray ++ zs)
    rw [flatC_snoc]
    simpa using h4
  rcases A with _ | ⟨b, o, sp⟩
  · have hn0 : n = 0 := by
      rcases hr with h | ⟨_, _, h, _⟩
      · rw [← hl, h]; rfl
      · cases h
    subst hn0
    obtain rfl := List.eq_nil_of_length_eq_zero hel
    have hrun := run_append_nil (P := Try.prog) w 23 ty 41 i0 _ Try.underlying23 hi hz0 ⟨g, 0, none⟩ 1 1 e.cells (by rw [hz1]; rfl) hnews (by omega) (by omega) (by rw [hz2]; omega)
    have h4 := hbk (Builtin.zeroCells (Value.cells (.agg #[.int .u8 0, .int .u8 0, .slice none 0 0])) (grownCap w 1 0 41 - 1))
    have e0 : (flatC []).toArray ++ e.cells.toArray = e.cells.toArray := by simp [flatC]
    rw [e0] at h4
    exact ⟨_, _, _, _, _, hrun, hm, Nat.le_refl _, h4, hbe, hbl _⟩
  · have hrun := run_append_grow (P := Try.prog) w 23 ty 41 i0 _ Try.underlying23 hi hz0 ⟨b, o, sp⟩ n n (flatC es) (by rw [length_flatC, hel, hz1]) (by
      intro j u hu
      rcases h3 with h3 | ⟨b2, o2, he, _, hcell⟩
      · rw [h3] at h1
        rw [List.map_eq_nil_iff.1 h1] at hu
        simp [flatC] at hu
      · injection he with he
        rw [he, Addr.add_lit]
        exact hcell j u hu) ⟨g, 0, none⟩ 1 1 e.cells (by rw [hz1]; rfl) hnews (by omega) (by omega) (growslice_fits (by omega) (by rw [hz2]; omega))
    exact ⟨_, _, _, _, _, hrun, hm, Nat.le_refl _, hbk _, hbe, hbl _⟩
theorem size_append (cs : List Chk) (x : Chk) : sizeC (cs ++ [x]) = sizeC cs + (4 + up4 x.2.2.length) := by
  induction cs with
  | nil => simp [sizeC]
  | cons y cs ih => rw [List.cons_append, sizeC, sizeC, ih]; omega
def fitsP (cs : List Chk) (x : Chk) (mtu : Int) : Bool := mayP (cs ++ [x]) && decide ((sizeP (cs ++ [x]) : Int) ≤ mtu)
set_option maxHeartbeats 1000000 in
theorem clip_any (A : Option Addr) (n c : Nat) (w : World) (hc : n ≤ c) (hcm : c ≤ maxLen) (hA : A = none → n = 0) :
    Calls Try.prog 49 #[.slice A n c] w fun e w' => e = .returned (.slice A n n) ∧ w = w' := by
  unfold maxLen at hcm
  rcases A with _ | ⟨b, o, sp⟩
  · obtain rfl := hA rfl
    clear hA
    go_enter Try.func49, Try.ntmps49
    go_wp2_with fail
    go_ret
    exact ⟨rfl, rfl⟩
  · clear hA
    go_enter Try.func49, Try.ntmps49
    go_wp2_with fail
    go_ret
    exact ⟨rfl, rfl⟩
set_option maxRecDepth 100000 in
set_option maxHeartbeats 4000000 in
theorem fits_any (tag : Nat) (A : Option Addr) (n c : Nat) (cs : List Chk) (k f : UInt8) (A' : Option Addr) (n' c' : Nat) (xs : List UInt8) (mtu : Int) (w : World) (hm : Meek cs) (hcn : n ≤ c) (hcm : c ≤ maxLen) (hx : cs.length = n) (hr : Chunks w w.heap.size A cs) (hn' : n' ≤ 262144) (hcn' : n' ≤ c') (hcm' : c' ≤ maxLen) (hx' : xs.length = n') (hr' : Rd w w.heap.size A' xs) :
    Calls Try.prog 25 #[.agg #[.int .u32 (tag : Int), .slice A n c], .agg #[.int .u8 (k.toNat : Int), .int .u8 (f.toNat : Int), .slice A' n' c'], .int .i64 mtu] w fun e w' => e = .returned (.bool (fitsP cs (k, f, xs) mtu)) ∧ Below w.heap.size w w' := by
  have hln : n ≤ 500 := by rw [← hx]; exact hm.len
  have hsz : sizeC (cs ++ [(k, f, xs)]) ≤ 1099511627776 := by
    rw [size_append]
    have h1 := hm.size
    have h2 := up4_bd n'
    show sizeC cs + (4 + up4 xs.length) ≤ 1099511627776
    rw [hx']
    omega
  have HSZ := Lib.hid hsz
  have HL : Hid ((cs ++ [(k, f, xs)]).length = n + 1) := Lib.hid (by simp [hx])
  have hA0 : A = none → n = 0 := by
    rintro rfl
    rcases hr with h | ⟨_, _, h, _⟩
    · rw [← hx, h]; rfl
    · cases h
  have HCL : Hid (∀ W, Calls Try.prog 49 #[.slice A n c] W fun e w' => e = .returned (.slice A n n) ∧ Below W.heap.size W w') := Lib.hid fun W => by
    exact (clip_any A n c W hcn hcm hA0).mono fun e w' h => ⟨h.1, h.2 ▸ Below.refl _ _⟩
  have HR := Lib.hid hr
  have HR' := Lib.hid hr'
  have HX := Lib.hid hx
  have HX' := Lib.hid hx'
  have HCM' := Lib.hid hcm'
  clear hsz hA0 hr hr' hx hx' hm hcm hcm'
  have K0 : Hid (Blk ((w.alloc (.cells #[.int .u32 (tag : Int), .slice A n c] 25)).alloc (.cells #[.int .u8 (k.toNat : Int), .int .u8 (f.toNat : Int), .slice A' n' c'] 41)) w.heap.size 25 #[.int .u32 (tag : Int), .slice A n c]) := Lib.hid ((Blk.new w _ _).alloc _)
  have K1 : Hid (Blk ((w.alloc (.cells #[.int .u32 (tag : Int), .slice A n c] 25)).alloc (.cells #[.int .u8 (k.toNat : Int), .int .u8 (f.toNat : Int), .slice A' n' c'] 41)) (w.heap.size + 1) 41 #[.int .u8 (k.toNat : Int), .int .u8 (f.toNat : Int), .slice A' n' c']) := Lib.hid (by simpa using Blk.new (w.alloc (.cells #[.int .u32 (tag : Int), .slice A n c] 25)) 41 #[.int .u8 (k.toNat : Int), .int .u8 (f.toNat : Int), .slice A' n' c'])
  have B0 : Hid (Below w.heap.size w ((w.alloc (.cells #[.int .u32 (tag : Int), .slice A n c] 25)).alloc (.cells #[.int .u8 (k.toNat : Int), .int .u8 (f.toNat : Int), .slice A' n' c'] 41))) := Lib.hid (((Below.refl _ w).alloc (Nat.le_refl _) _).alloc (by simp) _)
  go_enter Try.func25, Try.ntmps25
  rw [drawn_eq 1]
  go_wp2_with fail
  rw [← drawn_eq 1]
  generalize ((w.alloc (.cells #[.int .u32 (tag : Int), .slice A n c] 25)).alloc (.cells #[.int .u8 (k.toNat : Int), .int .u8 (f.toNat : Int), .slice A' n' c'] 41)) = v0 at K0 K1 B0 ⊢
  refine wp_region_grow_tail 5 (by kernel_rfl) [(Is (.pointer (some ⟨w.heap.size, 1, none⟩))), (Is (.slice A n c)), (Is (.slice A n n)), (Is (.agg #[.int .u8 (k.toNat : Int), .int .u8 (f.toNat : Int), .slice A' n' c'])), (NewSl v0.heap.size 41 1 #[.int .u8 (k.toNat : Int), .int .u8 (f.toNat : Int), .slice A' n' c'])] rfl ?_ (by kernel_rfl) (by kernel_rfl) ?_ ?_
  · intro p hp
    simp only [List.mem_cons, List.not_mem_nil, or_false] at hp
    rcases hp with rfl | rfl | rfl | rfl | rfl
    · exact Lasts.is _
    · exact Lasts.is _
    · exact Lasts.is _
    · exact Lasts.is _
    · exact Lasts.newSl _ _ _ _
  · refine ⟨?_, ?_, ?_, ?_, ?_, trivial⟩
    · intro listed a w1 hl hc
      have h3 : a.tmps[3]?.getD undef = .pointer (some ⟨w.heap.size, 0, none⟩) := (hc.was 3 (by kernel_rfl)).trans rfl
      refine does_value rfl rfl (.pointer (some ⟨w.heap.size, 1, none⟩)) w1 ?_ (Below.refl _ _) rfl
      clear hc hl
      go_simp
    · intro listed a w1 hl hc
      have h7 : a.tmps[7]?.getD undef = .pointer (some ⟨w.heap.size, 1, none⟩) := hc.dep hl 0 7 rfl (by kernel_rfl)
      have kb := K0.out.below hc.g K0.out.lt
      have x1 : w1.cell? ⟨w.heap.size, 1, none⟩ = some (.slice A n c) := kb.cell 1
      clear kb
      refine does_value rfl rfl (.slice A n c) w1 ?_ (Below.refl _ _) rfl
      clear hc hl
      go_simp
    · intro listed a w1 hl hc
      have h8 : a.tmps[8]?.getD undef = .slice A n c := hc.dep hl 1 8 rfl (by kernel_rfl)
      refine does_call rfl rfl 49 #[.slice A n c] ?_ ((HCL.out w1).mono fun e w' ⟨he, hb⟩ => ⟨_, he, hb, rfl⟩)
      clear hc hl
      go_simp
    · intro listed a w1 hl hc
      have h4 : a.tmps[4]?.getD undef = .pointer (some ⟨w.heap.size + 1, 0, none⟩) := (hc.was 4 (by kernel_rfl)).trans rfl
      have kb := K1.out.below hc.g K1.out.lt
      have x0 : w1.cell? ⟨w.heap.size + 1, 0, none⟩ = some (.int .u8 (k.toNat : Int)) := kb.cell 0
      have x1 : w1.cell? ⟨w.heap.size + 1, 1, none⟩ = some (.int .u8 (f.toNat : Int)) := kb.cell 1
      have x2 : w1.cell? ⟨w.heap.size + 1, 2, none⟩ = some (.slice A' n' c') := kb.cell 2
      clear kb
      refine does_value rfl rfl (.agg #[.int .u8 (k.toNat : Int), .int .u8 (f.toNat : Int), .slice A' n' c']) w1 ?_ (Below.refl _ _) rfl
      clear hc hl
      go_simp
    · intro listed a w1 hl hc
      have h10 : a.tmps[10]?.getD undef = .agg #[.int .u8 (k.toNat : Int), .int .u8 (f.toNat : Int), .slice A' n' c'] := hc.dep hl 3 10 rfl (by kernel_rfl)
      refine does_value rfl rfl (.slice (some ⟨w1.heap.size, 0, none⟩) 1 1) (w1.alloc (.cells #[.int .u8 (k.toNat : Int), .int .u8 (f.toNat : Int), .slice A' n' c'] 41)) ?_ (below_new w1 _) ⟨_, rfl, hc.g.size, Blk.new _ _ _⟩
      clear hc hl
      go_simp
  intro w2 hb2
  rintro _ rfl _ rfl _ rfl _ rfl _ ⟨g11, rfl, hg11, hb11⟩
  simp only [Thus, List.reverse_cons, List.reverse_nil, List.nil_append, List.cons_append, List.drop, List.take, lay]
  go_frame
  have B2 := Lib.hid (below_then B0.out (Nat.le_refl _) hb2)
  have hbo : BodC w2 w.heap.size [⟨k, f, A', n', c', xs⟩] := fun e he => by
    rw [List.mem_singleton] at he
    subst he
    exact ⟨hcn', HCM'.out, HX'.out, HR'.out.below B2.out⟩
  obtain ⟨G, cap, zs, es, w5, hrun, hem, hG, hbk, hbo5, hb5⟩ := append_full 23 ⟨k, f, A', n', c', xs⟩ (HR.out.below B2.out) HX.out (by omega) hb11 hbo
  have K05 := Lib.hid ((K0.out.below hb2 K0.out.lt).below hb5 (K0.out.below hb2 K0.out.lt).lt)
  have B5 := Lib.hid (below_then B2.out (Nat.le_refl _) hb5)
  have HBK := Lib.hid hbk
  have HBO := Lib.hid hbo5
  have HEM := Lib.hid hem
  have hGw : w.heap.size < G := by have := (K0.out.below hb2 K0.out.lt).lt; omega
  have HB2 := Lib.hid hb5
  have z1 : w5.cell? ⟨w.heap.size, 1, none⟩ = some (.slice A n c) := K05.out.cell 1
  have e1 := K05.out.frozen 1
  clear hb2 hg11 hb11 hbo hbk hbo5 hem hG hb5 K0 K1 B0 HCL
  refine wpList_append_run rfl _ _ 23 rfl _ _ _ rfl rfl _ rfl hrun ?_
  have K06 := Lib.hid (K05.out.set_ 1 (.slice (some ⟨G, 0, none⟩) (n + 1) cap))
  have B6 := Lib.hid (B5.out.setCell (p := ⟨w.heap.size, 1, none⟩) (Nat.le_refl _) (.slice (some ⟨G, 0, none⟩) (n + 1) cap))
  have HCH : Hid (Chunks (w5.setCell ⟨w.heap.size, 1, none⟩ (.slice (some ⟨G, 0, none⟩) (n + 1) cap)) (w5.setCell ⟨w.heap.size, 1, none⟩ (.slice (some ⟨G, 0, none⟩) (n + 1) cap)).heap.size (some ⟨G, 0, none⟩) (cs ++ [(k, f, xs)])) := Lib.hid (by
    have h1 := HEM.out
    rw [show cs ++ [(k, f, xs)] = es.map CE.chk from h1.symm]
    refine chunks_of_blk (HBK.out.far (p := ⟨w.heap.size, 1, none⟩) (show G ≠ w.heap.size by omega) _) ?_
    intro e he
    obtain ⟨q1, q2, q3, q4⟩ := HBO.out e he
    refine ⟨q1, q2, q3, ?_⟩
    have q5 := (q4.below (HB2.out.mono B2.out.size))
    exact (q5.keep (fun p hp => World.cell?_of_block (Below.heap_setCell w5 ⟨w.heap.size, 1, none⟩ (.slice (some ⟨G, 0, none⟩) (n + 1) cap) p.block (by simp; omega)))).more B6.out.size)
  have y1 : (w5.setCell ⟨w.heap.size, 1, none⟩ (.slice (some ⟨G, 0, none⟩) (n + 1) cap)).cell? ⟨w.heap.size, 1, none⟩ = some (.slice (some ⟨G, 0, none⟩) (n + 1) cap) := K06.out.cell 1
  obtain ⟨cs2, hcs2⟩ : ∃ cs2, cs2 = cs ++ [(k, f, xs)] := ⟨_, rfl⟩
  rw [← hcs2] at HCH HL HSZ
  have HCS2 := Lib.hid hcs2
  obtain ⟨my, hmy⟩ : ∃ my, my = mayP cs2 := ⟨_, rfl⟩
  have HMY := Lib.hid hmy
  clear hrun K05 B5 HBK HBO HB2 HEM hcs2 hmy
  go_wp2_with fail
  generalize w5.setCell ⟨w.heap.size, 1, none⟩ (.slice (some ⟨G, 0, none⟩) (n + 1) cap) = v6 at K06 B6 HCH ⊢
  refine (canShare_any (some ⟨G, 0, none⟩) (n + 1) cap cs2 v6 (by omega) HL.out HCH.out).mono ?_
  rintro e w7 ⟨rfl, hb⟩
  have K07 := Lib.hid (K06.out.below hb K06.out.lt)
  have B7 := Lib.hid (below_then B6.out (Nat.le_refl _) hb)
  have HCH7 := Lib.hid ((HCH.out.below hb).more hb.size)
  rw [← HMY.out]
  clear hb K06 B6 HCH y1
  have y0 : w7.cell? ⟨w.heap.size, 0, none⟩ = some (.int .u32 (tag : Int)) := K07.out.cell 0
  have y1 : w7.cell? ⟨w.heap.size, 1, none⟩ = some (.slice (some ⟨G, 0, none⟩) (n + 1) cap) := K07.out.cell 1
  cases my with
  | false =>
    have HF : Hid (fitsP cs (k, f, xs) mtu = false) := Lib.hid (by unfold fitsP; rw [← HCS2.out, ← HMY.out]; rfl)
    go_wp2_with fail
    go_ret
    exact ⟨ret_bool HF.out.symm, B7.out⟩
  | true =>
    go_wp2_with fail
    refine (size_any (tag : Int) (some ⟨G, 0, none⟩) (n + 1) cap cs2 w7 (by omega) HL.out HCH7.out HSZ.out).mono ?_
    rintro e w8 ⟨rfl, hb⟩
    obtain ⟨sz, hsz⟩ : ∃ sz, sz = sizeP cs2 := ⟨_, rfl⟩
    have HF : Hid (fitsP cs (k, f, xs) mtu = decide ((sz : Int) ≤ mtu)) := Lib.hid (by unfold fitsP; rw [← HCS2.out, ← HMY.out, Bool.true_and, hsz])
    rw [← hsz]
    have B8 := Lib.hid (below_then B7.out (Nat.le_refl _) hb)
    clear hb hsz
    go_wp2_with fail
    go_ret
    exact ⟨ret_bool HF.out.symm, B8.out⟩

theorem row_chunks {w : World} {base n c : Nat} {A : Option Addr} {es : List CE} (h : w.ownsRow base 41 3 (.slice A n c) n (flatC es)) (hl : es.length = n) (hb : BodC w w.heap.size es) : Chunks w w.heap.size A (es.map CE.chk) := by
  rcases h.2 with ⟨_, hn⟩ | ⟨g, cap, cur, he, _, hg, _⟩
  · subst hn
    rw [List.eq_nil_of_length_eq_zero hl]
    exact .inl rfl
  · injection he with e1 e2 e3
    subst e1
    exact chunks_of_flat (Array.getElem?_eq_some_iff.1 hg).1 (fun j u hu => by
      have h2 := h.cells (g := g) rfl j u hu
      rwa [Addr.add_lit] at h2) hb
/-- append of one onto an own row. -/
theorem append_own1 {w : World} {base : Nat} {A : Option Addr} {m c g : Nat} {es : List CE} (ty : TypeId) (e : CE) (h : w.ownsRow base 41 3 (.slice A m c) m (flatC es)) (hm : es.length = m) (hg : Blk w g 41 #[.int .u8 (e.k.toNat : Int), .int .u8 (e.f.toNat : Int), .slice e.A e.n e.c]) (hbd : m ≤ 1048576) (hbase : base ≤ w.heap.size) :
    ∃ A2 c2 w', (Builtin.append_ #[23, 23] ty #[.slice A m c, .slice (some ⟨g, 0, none⟩) 1 1]).run Try.prog w = .ok (.slice A2 (m + 1 : Nat) c2) w' ∧ w'.ownsRow base 41 3 (.slice A2 (m + 1) c2) (m + 1) (flatC (es ++ [e])) ∧ w.grownBy w' (Value.slice A m c).ownBlock := by
  obtain ⟨i0, hi, hz0, hz1, hz2⟩ := info_parts Try.infoChunk
  obtain ⟨v', w', hrun, hown, hgr, _⟩ := run_append_own w base 23 ty 41 i0 _ 3 32 Try.underlying23 hi hz0 hz1 hz2 rfl (by decide) (.slice A m c) m (flatC es) h ⟨g, 0, none⟩ 1 1 e.cells rfl
    (fun j u hu => by rw [Addr.add_lit, Nat.zero_add, hg.cell j]; simpa [CE.cells] using hu) (by intro u hu; simp [CE.cells] at hu; rcases hu with rfl | rfl | rfl <;> rfl) (by unfold maxLen; omega) (by omega) hbase
  rw [← flatC_snoc] at hown
  have hform : ∃ A2 c2, v' = .slice A2 (m + 1) c2 := by
    rcases hown.2 with ⟨_, h⟩ | ⟨g, cap, cur, rfl, _⟩
    · omega
    · exact ⟨_, _, rfl⟩
  obtain ⟨A2, c2, rfl⟩ := hform
  exact ⟨A2, c2, w', hrun, hown, hgr⟩
/-- A whole slice of chunks, appended to nothing. -/
theorem append_none {w : World} {A : Option Addr} {n c B : Nat} {cs : List Chk} (ty : TypeId) (hr : Chunks w B A cs) (hl : cs.length = n) (hn : n ≤ 1048576) :
    ∃ A2 c2 es w', (Builtin.append_ #[23, 23] ty #[.slice none 0 0, .slice A n c]).run Try.prog w = .ok (.slice A2 n c2) w' ∧ w'.ownsRow w.heap.size 41 3 (.slice A2 n c2) n (flatC es) ∧ es.map CE.chk = cs ∧ BodC w B es ∧ Below w.heap.size w w' := by
  obtain ⟨i0, hi, hz0, hz1, hz2⟩ := info_parts Try.infoChunk
  obtain ⟨es, h1, h2, h3⟩ := hr.ces
  have hel : es.length = n := by rw [← hl, ← h1, List.length_map]
  have hgb : ∀ {w' : World}, w.grownBy w' none → Below w.heap.size w w' := fun hg => ⟨hg.os, hg.tape, hg.output, hg.size, fun k hk => hg.block k hk (by simp)⟩
  have hsrc : n = 0 ∨ ∃ a : Addr, A = some a ∧ ∀ j u, (flatC es)[j]? = some u → w.cell? (a.add j) = some u := by
    rcases h3 with h3 | ⟨b, o, ha, _, hc⟩
    · exact .inl (by rw [← hl, h3]; rfl)
    · exact .inr ⟨⟨b, o, none⟩, ha, fun j u hu => by rw [Addr.add_lit]; exact hc j u hu⟩
  rcases A with _ | a
  · have hn0 : n = 0 := by
      rcases hsrc with h | ⟨a, h, _⟩
      · exact h
      · cases h
    subst hn0
    obtain rfl := List.eq_nil_of_length_eq_zero hel
    refine ⟨none, 0, [], w, ?_, World.ownsRow_nil _ _ _ _, h1, h2, Below.refl _ _⟩
    simp [Builtin.append_, run_underlying Try.underlying23, sizeOf, typeInfo, hi, Builtin.lenOf, Builtin.firstCells]
  · have hcell : ∀ j u, (flatC es)[j]? = some u → w.cell? (a.add j) = some u := by
      rcases hsrc with h | ⟨a2, h, hc⟩
      · subst h
        obtain rfl := List.eq_nil_of_length_eq_zero hel
        intro j u hu
        simp [flatC] at hu
      · injection h with h
        subst h
        exact hc
    obtain ⟨v', w', hrun, hown, hgr, _⟩ := run_append_own w w.heap.size 23 ty 41 i0 _ 3 32 Try.underlying23 hi hz0 hz1 hz2 rfl (by decide) (.slice none 0 0) 0 [] (World.ownsRow_nil _ _ _ _) a n c (flatC es) (by rw [length_flatC, hel])
      hcell (one_flatC es) (by unfold maxLen; omega) (by omega) (Nat.le_refl _)
    rw [Nat.zero_add, List.nil_append] at hown
    have hform : ∃ A2 c2, v' = .slice A2 n c2 := by
      rcases hown.2 with ⟨rfl, h⟩ | ⟨g, cap, cur, rfl, _⟩
      · exact ⟨none, 0, by rw [h]⟩
      · exact ⟨_, _, rfl⟩
    obtain ⟨A2, c2, rfl⟩ := hform
    exact ⟨A2, c2, es, w', hrun, hown, h1, h2, hgb hgr⟩

set_option maxRecDepth 100000 in
set_option maxHeartbeats 4000000 in
theorem refFits_any (tag : Nat) (A : Option Addr) (n c : Nat) (cs : List Chk) (k f : UInt8) (A' : Option Addr) (n' c' : Nat) (xs : List UInt8) (mtu : Int) (w : World) (hm : Meek cs) (hcn : n ≤ c) (hcm : c ≤ maxLen) (hx : cs.length = n) (hr : Chunks w w.heap.size A cs) (hn' : n' ≤ 262144) (hcn' : n' ≤ c') (hcm' : c' ≤ maxLen) (hx' : xs.length = n') (hr' : Rd w w.heap.size A' xs) :
    Calls Try.prog 26 #[.agg #[.int .u32 (tag : Int), .slice A n c], .agg #[.int .u8 (k.toNat : Int), .int .u8 (f.toNat : Int), .slice A' n' c'], .int .i64 mtu] w fun e w' => e = .returned (.bool (fitsP cs (k, f, xs) mtu)) ∧ Below w.heap.size w w' := by
  have hln : n ≤ 500 := by rw [← hx]; exact hm.len
  have hsz : sizeC (cs ++ [(k, f, xs)]) ≤ 1099511627776 := by
    rw [size_append]
    have h1 := hm.size
    have h2 := up4_bd n'
    show sizeC cs + (4 + up4 xs.length) ≤ 1099511627776
    rw [hx']
    omega
  have HSZ := Lib.hid hsz
  have HL : Hid ((cs ++ [(k, f, xs)]).length = n + 1) := Lib.hid (by simp [hx])
  have hz : ∀ W, (zeroValue 25).run Try.prog W = .ok (.agg #[.int .u32 0, .slice none 0 0]) W := by intro W; kernel_rfl
  have HR := Lib.hid hr
  have HR' := Lib.hid hr'
  have HX := Lib.hid hx
  have HX' := Lib.hid hx'
  have HCM' := Lib.hid hcm'
  clear hsz hr hr' hx hx' hm hcm hcm'
  have K0 : Hid (Blk ((w.alloc (.cells #[.int .u32 (tag : Int), .slice A n c] 25)).alloc (.cells #[.int .u8 (k.toNat : Int), .int .u8 (f.toNat : Int), .slice A' n' c'] 41)) w.heap.size 25 #[.int .u32 (tag : Int), .slice A n c]) := Lib.hid ((Blk.new w _ _).alloc _)
  have K1 : Hid (Blk ((w.alloc (.cells #[.int .u32 (tag : Int), .slice A n c] 25)).alloc (.cells #[.int .u8 (k.toNat : Int), .int .u8 (f.toNat : Int), .slice A' n' c'] 41)) (w.heap.size + 1) 41 #[.int .u8 (k.toNat : Int), .int .u8 (f.toNat : Int), .slice A' n' c']) := Lib.hid (by simpa using Blk.new (w.alloc (.cells #[.int .u32 (tag : Int), .slice A n c] 25)) 41 #[.int .u8 (k.toNat : Int), .int .u8 (f.toNat : Int), .slice A' n' c'])
  have B0 : Hid (Below w.heap.size w ((w.alloc (.cells #[.int .u32 (tag : Int), .slice A n c] 25)).alloc (.cells #[.int .u8 (k.toNat : Int), .int .u8 (f.toNat : Int), .slice A' n' c'] 41))) := Lib.hid (((Below.refl _ w).alloc (Nat.le_refl _) _).alloc (by simp) _)
  go_enter Try.func26, Try.ntmps26
  rw [held_eq 2, held_eq 3]
  go_wp2_with fail
  generalize ((w.alloc (.cells #[.int .u32 (tag : Int), .slice A n c] 25)).alloc (.cells #[.int .u8 (k.toNat : Int), .int .u8 (f.toNat : Int), .slice A' n' c'] 41)) = v0 at K0 K1 B0 ⊢
  rw [← held_eq 2]
  obtain ⟨A2, c2, es, w2, hrun, hown, hem, hbo, hb2⟩ := append_none (c := c) 23 (HR.out.below B0.out) HX.out (by omega)
  have HOW := Lib.hid hown
  have HEM := Lib.hid hem
  have HBO := Lib.hid hbo
  have HB2 := Lib.hid hb2
  have K12 := Lib.hid (K1.out.below hb2 K1.out.lt)
  have K02 := Lib.hid (K0.out.below hb2 K0.out.lt)
  have B2 := Lib.hid (below_then B0.out (Nat.le_refl _) hb2)
  have y1 : v0.cell? ⟨w.heap.size, 1, none⟩ = some (.slice A n c) := K0.out.cell 1
  clear hown hem hbo hb2
  go_wp2_with (at_builtin; refine wpList_append_run rfl _ _ 23 rfl _ _ _ rfl rfl _ rfl hrun ?_)
  rw [← held_eq 3]
  have x0 : w2.cell? ⟨w.heap.size + 1, 0, none⟩ = some (.int .u8 (k.toNat : Int)) := K12.out.cell 0
  have x1 : w2.cell? ⟨w.heap.size + 1, 1, none⟩ = some (.int .u8 (f.toNat : Int)) := K12.out.cell 1
  have x2 : w2.cell? ⟨w.heap.size + 1, 2, none⟩ = some (.slice A' n' c') := K12.out.cell 2
  obtain ⟨A4, c4, w4, hrun4, hown4, hgr4⟩ := append_own1 23 ⟨k, f, A', n', c', xs⟩ (ownsRow_keep HOW.out fun g hg => Below.heap_alloc w2 (.cells #[.int .u8 (k.toNat : Int), .int .u8 (f.toNat : Int), .slice A' n' c'] 41) g (World.ownsRow.lt HOW.out g hg).2) (by have := HX.out; rw [← HEM.out, List.length_map] at this; exact this) (Blk.new w2 41 #[.int .u8 (k.toNat : Int), .int .u8 (f.toNat : Int), .slice A' n' c']) (by omega) (by have := HB2.out.size; simp; omega)
  have B4 := Lib.hid ((B2.out.alloc B2.out.size (.cells #[.int .u8 (k.toNat : Int), .int .u8 (f.toNat : Int), .slice A' n' c'] 41)).grown hgr4 (by have := B2.out.size; simp; omega) (fun q hq => by have := ownsRow_ge HOW.out q hq; have := B0.out.size; omega))
  have BX := Lib.hid ((HB2.out.alloc HB2.out.size (.cells #[.int .u8 (k.toNat : Int), .int .u8 (f.toNat : Int), .slice A' n' c'] 41)).grown hgr4 (by have := HB2.out.size; simp; omega) (fun q hq => ownsRow_ge HOW.out q hq))
  obtain ⟨cs2, hcs2⟩ : ∃ cs2, cs2 = cs ++ [(k, f, xs)] := ⟨_, rfl⟩
  rw [← hcs2] at HL HSZ
  have HCS2 := Lib.hid hcs2
  have HCH : Hid (Chunks w4 w4.heap.size A4 cs2) := Lib.hid (by
    rw [hcs2, show cs ++ [(k, f, xs)] = (es ++ [(⟨k, f, A', n', c', xs⟩ : CE)]).map CE.chk by rw [List.map_append, HEM.out]; rfl]
    refine row_chunks hown4 (by rw [List.length_append, ← List.length_map (f := CE.chk), HEM.out, HX.out]; rfl) ?_
    intro e he
    have hq : e.n ≤ e.c ∧ e.c ≤ maxLen ∧ e.xs.length = e.n ∧ Rd v0 w.heap.size e.A e.xs := by
      rcases List.mem_append.1 he with he | he
      · exact HBO.out e he
      · rw [List.mem_singleton] at he
        subst he
        exact ⟨hcn', HCM'.out, HX'.out, HR'.out.below B0.out⟩
    exact ⟨hq.1, hq.2.1, hq.2.2.1, (hq.2.2.2.below (BX.out.mono B0.out.size)).more B4.out.size⟩)
  obtain ⟨my, hmy⟩ : ∃ my, my = mayP cs2 := ⟨_, rfl⟩
  have HMY := Lib.hid hmy
  clear hgr4 hown4 HOW HBO HEM HB2 K02 y1 hrun hcs2 hmy K0 K1
  go_wp2_with (at_builtin; refine wpList_append_run rfl _ _ 23 rfl _ _ _ rfl rfl _ rfl hrun4 ?_)
  refine (refMay_any A4 (n + 1) c4 cs2 w4 (by omega) HL.out HCH.out).mono ?_
  rintro e w7 ⟨rfl, hb⟩
  have B7 := Lib.hid (below_then B4.out (Nat.le_refl _) hb)
  have HCH7 := Lib.hid ((HCH.out.below hb).more hb.size)
  rw [← HMY.out]
  clear hb B4 HCH x0 x1 x2
  cases my with
  | false =>
    have HF : Hid (fitsP cs (k, f, xs) mtu = false) := Lib.hid (by unfold fitsP; rw [← HCS2.out, ← HMY.out]; rfl)
    go_wp2_with fail
    go_ret
    exact ⟨ret_bool HF.out.symm, B7.out⟩
  | true =>
    go_wp2_with fail
    refine (refSizeP_any 0 A4 (n + 1) c4 cs2 w7 (by omega) HL.out HCH7.out HSZ.out).mono ?_
    rintro e w8 ⟨rfl, hb⟩
    obtain ⟨sz, hsz⟩ : ∃ sz, sz = sizeP cs2 := ⟨_, rfl⟩
    have HF : Hid (fitsP cs (k, f, xs) mtu = decide ((sz : Int) ≤ mtu)) := Lib.hid (by unfold fitsP; rw [← HCS2.out, ← HMY.out, Bool.true_and, hsz])
    rw [← hsz]
    have B8 := Lib.hid (below_then B7.out (Nat.le_refl _) hb)
    clear hb hsz
    go_wp2_with fail
    go_ret
    exact ⟨ret_bool HF.out.symm, B8.out⟩
end Go.Proofs.Ytifmhlbeodfpeaa
