/-
  Layer 5 (ring): contracts of the code, at string.
-/
import Derived.Test.YtlfebfgdgjaidaaRows
import Derived.Test.YtlfebfgdgjaidaaRgM
import Derived.StillTailTactics
import Derived.RegionTactic
import Derived.Deep.QuietTactic
import Derived.BigQuiet
namespace Go.Proofs.Ytlfebfgdgjaidaa
open Go.RowKit
set_option linter.unusedVariables false

/-- Elements as cells. -/
def rowS (ys : List ByteArray) : Array Value := (ys.map fun x => Value.string x).toArray
theorem get_rowS (ys : List ByteArray) (k : Nat) : (rowS ys)[k]? = (ys[k]?).map fun x => Value.string x := by simp [rowS]
theorem set_rowS (ys : List ByteArray) (k : Nat) (x : ByteArray) : (rowS ys).setIfInBounds k (.string x) = rowS (ys.set k x) := by
  apply Array.ext_getElem?
  intro i
  rw [Array.getElem?_setIfInBounds, get_rowS, get_rowS, List.getElem?_set]
  by_cases h : k = i
  · subst h
    by_cases h' : k < ys.length <;> simp [h', rowS]
  · simp [h]
theorem made_rowS (n : Nat) : madeCells (Value.string { data := #[] }).cells n = rowS (List.replicate n { data := #[] }) := by
  apply Array.toList_inj.1
  show (madeCells #[Value.string { data := #[] }] n).toList = _
  rw [toList_madeCells_one]
  simp [rowS]

theorem Try.infoS : (Try.prog.info? 9).map (fun i => (i.zero, i.size, i.bytes)) = some (some (.string { data := #[] }), 1, 16) := by kernel_rfl

/-- A ring: its struct at block g, its tokens at c, its elements at m (none so far: A is nil). -/
structure RingS (w : World) (g c : Nat) (A : Option Addr) (m most n f : Nat) (ys q : List ByteArray) (l : Nat) : Prop where
  blk : Blk w g 78 #[.chan (some c), .slice A n n, .int .i64 (f : Nat)]
  chn : Chn w c most l
  mem : (n = 0 ∧ A = none ∧ m = g) ∨ (0 < n ∧ A = some ⟨m, 0, none⟩ ∧ Blk w m 9 (rowS ys))
  len : ys.length = n
  lay : Lay ys f q
  fit : n ≤ most
  most : 1 ≤ most ∧ most ≤ 1048576
section
variable {w w' : World} {g c : Nat} {A : Option Addr} {m most n f l : Nat} {ys q : List ByteArray} {S : List Nat}
theorem RingS.tw (h : RingS w g c A m most n f ys q l) (ht : Tw S w w') (hg : g ∉ S) (hc : c ∉ S) (hm : m ∉ S) : RingS w' g c A m most n f ys q l :=
  ⟨h.blk.tw ht hg, h.chn.tw ht hc, h.mem.imp id fun ⟨p, a, b⟩ => ⟨p, a, b.tw ht hm⟩, h.len, h.lay, h.fit, h.most⟩
theorem RingS.below (h : RingS w g c A m most n f ys q l) (hb : Below w.heap.size w w') : RingS w' g c A m most n f ys q l := h.tw (Tw.of_below hb []) (by simp) (by simp) (by simp)
theorem RingS.drewN (h : RingS w g c A m most n f ys q l) (k : Nat) : RingS (w.drewN k) g c A m most n f ys q l := h.tw ((Tw.refl [] w).drewN k) (by simp) (by simp) (by simp)
theorem RingS.dr (h : RingS w g c A m most n f ys q l) : RingS w.drew g c A m most n f ys q l := h.drewN 1
theorem RingS.c0 (h : RingS w g c A m most n f ys q l) : w.cell? ⟨g, 0, none⟩ = some (.chan (some c)) := (h.blk.cell 0).trans rfl
theorem RingS.c1 (h : RingS w g c A m most n f ys q l) : w.cell? ⟨g, 1, none⟩ = some (.slice A n n) := (h.blk.cell 1).trans rfl
theorem RingS.c2 (h : RingS w g c A m most n f ys q l) : w.cell? ⟨g, 2, none⟩ = some (.int .i64 (f : Nat)) := (h.blk.cell 2).trans rfl
theorem RingS.fz (h : RingS w g c A m most n f ys q l) (i : Nat) : w.frozen? ⟨g, i, none⟩ = false := h.blk.frozen i
theorem RingS.ql (h : RingS w g c A m most n f ys q l) : q.length ≤ n := by rw [← h.len]; exact h.lay.le
theorem RingS.some_ (h : RingS w g c A m most n f ys q l) (hn : 0 < n) : A = some ⟨m, 0, none⟩ ∧ Blk w m 9 (rowS ys) := by
  rcases h.mem with ⟨e, _⟩ | h
  · omega
  · exact h.2
theorem RingS.lt (h : RingS w g c A m most n f ys q l) : g < w.heap.size ∧ c < w.heap.size ∧ m < w.heap.size := by
  refine ⟨h.blk.lt, h.chn.lt, ?_⟩
  rcases h.mem with ⟨_, _, rfl⟩ | ⟨_, _, hb⟩
  · exact h.blk.lt
  · exact hb.lt
theorem RingS.ne (h : RingS w g c A m most n f ys q l) : g ≠ c ∧ m ≠ c ∧ (0 < n → g ≠ m) := by
  refine ⟨h.chn.ne h.blk, ?_, fun hn => h.blk.ne_ (h.some_ hn).2 (by decide)⟩
  rcases h.mem with ⟨_, _, rfl⟩ | ⟨_, _, hb⟩
  · exact h.chn.ne h.blk
  · exact h.chn.ne hb
theorem RingS.len_ (h : RingS w g c A m most n f ys q l) (ty : TypeId) : (Builtin.len_ #[76] ty #[.chan (some c)]).run Try.prog w = .ok (.int .i64 (l : Nat)) w := by
  obtain ⟨s, r, buf, hc, hb⟩ := h.chn
  rw [← hb]
  exact Conc.run_len_chan (P := Try.prog) 76 ty Try.underlying76 hc
theorem RingS.cap_ (h : RingS w g c A m most n f ys q l) (ty : TypeId) : (Builtin.cap_ #[76] ty #[.chan (some c)]).run Try.prog w = .ok (.int .i64 (most : Nat)) w := by
  obtain ⟨s, r, buf, hc, hb⟩ := h.chn
  exact Conc.run_cap_chan (P := Try.prog) 76 ty Try.underlying76 hc
end

theorem newS_any (most : Nat) (w : World) (hm : 1 ≤ most ∧ most ≤ 1048576) :
    Calls Try.prog 11 #[.int .i64 (most : Nat)] w fun e w' => e = .returned (.tuple #[.pointer (some ⟨w.heap.size + 1, 0, none⟩), .int .i64 0]) ∧ RingS w' (w.heap.size + 1) w.heap.size none (w.heap.size + 1) most 0 0 [] [] 0 ∧ Below w.heap.size w w' := by
  have hm' := hm
  obtain ⟨h1, h2⟩ := hm
  have hmc := mkChan_any most w h2
  have H2 := Lib.hid hm'
  clear hm'
  go_enter Try.func11, Try.ntmps11
  go_wp2
  go_ret2
  refine ⟨by simp, ⟨?_, ⟨0, 0, #[], ?_, rfl⟩, .inl ⟨rfl, rfl, rfl⟩, rfl, Lay.nil, Nat.zero_le _, H2.out⟩, (below_new w _).trans ((below_new _ _).mono (by simp))⟩
  · have := Blk.new (w.alloc (.chan most #[] false 0 0 false)) 78 #[.chan (some w.heap.size), .slice none 0 0, .int .i64 0]
    simpa using this
  · rw [Below.heap_alloc _ _ _ (by simp)]
    exact heap_alloc_new w _
theorem newS_err (most : Int) (w : World) (hm : most < 1 ∨ 1048576 < most) :
    Calls Try.prog 11 #[.int .i64 most] w fun e w' => e = .returned (.tuple #[.pointer none, .int .i64 1]) ∧ w = w' := by
  have hb : (decide (most < 1) || decide (1048576 < most)) = true := by simpa using hm
  rcases hm with hm | hm
  all_goals
    go_enter Try.func11, Try.ntmps11
    go_wp2
    go_ret2
    exact ⟨rfl, rfl⟩

section
variable {w w' : World} {g c : Nat} {A : Option Addr} {m most n f l p : Nat} {ys q : List ByteArray}
theorem lenS_any (h : RingS w g c A m most n f ys q l) :
    Calls Try.prog 20 #[.pointer (some ⟨g, 0, none⟩)] w fun e w' => e = .returned (.int .i64 (l : Nat)) ∧ w = w' := by
  have c0 := h.c0
  have hl := h.len_
  go_enter Try.func20, Try.ntmps20
  go_wp2
  go_ret
  exact ⟨rfl, rfl⟩
theorem lenS_nil (w : World) :
    Calls Try.prog 20 #[.pointer none] w fun e w' => e = .returned (.int .i64 0) ∧ w = w' := by
  go_enter Try.func20, Try.ntmps20
  go_wp2
  go_ret
  exact ⟨rfl, rfl⟩
theorem roomS_any (h : RingS w g c A m most n f ys q l) (hl : l ≤ most) :
    Calls Try.prog 21 #[.pointer (some ⟨g, 0, none⟩)] w fun e w' => e = .returned (.int .i64 ((most : Int) - l)) ∧ ∃ k, w' = w.drewN k := by
  have c0 := h.c0
  have hlen := fun ty k => (h.drewN k).len_ ty
  have hcap := fun ty k => (h.drewN k).cap_ ty
  have hmost := h.most.2
  go_enter Try.func21, Try.ntmps21
  go_wp2
  go_quiet (fail)
  go_wp2
  go_ret
  exact ⟨rfl, _, rfl⟩
theorem roomS_nil (w : World) :
    Calls Try.prog 21 #[.pointer none] w fun e w' => e = .returned (.int .i64 0) ∧ w = w' := by
  go_enter Try.func21, Try.ntmps21
  go_wp2
  go_ret
  exact ⟨rfl, rfl⟩
theorem placeS_any (i : Nat) (h : RingS w g c A m most n f ys q l) (hi : i ≤ 1048576) (hn : 0 < n) :
    Calls Try.prog 42 #[.pointer (some ⟨g, 0, none⟩), .int .i64 (i : Nat)] w fun e w' => e = .returned (.int .i64 (((f + i) % n : Nat))) ∧ ∃ k, w' = w.drewN k := by
  have c1 := h.c1
  have c2 := h.c2
  have hmost := h.most.2
  have hfit := h.fit
  have hf : f ≤ 1048576 := by
    rcases h.lay.2.1 with hf | ⟨_, hf⟩
    · rw [h.len] at hf; omega
    · omega
  have hres : (((f : Nat) : Int) + (i : Nat)) % ((n : Nat) : Int) = (((f + i) % n : Nat) : Int) := by simp
  have HR := Lib.hid hres
  have hne : ((n : Int) == 0) = false := by rw [beq_eq_false_iff_ne]; omega
  clear hres
  go_enter Try.func42, Try.ntmps42
  go_wp2
  go_quiet (fail)
  go_wp2
  go_ret
  exact ⟨ret_int HR.out, _, rfl⟩
theorem atS_no (i : Int) (h : RingS w g c A m most n f ys q l) (hi : i < 0 ∨ (l : Int) ≤ i) :
    Calls Try.prog 17 #[.pointer (some ⟨g, 0, none⟩), .int .i64 i] w fun e w' => e = .returned (.tuple #[.string { data := #[] }, .bool false]) ∧ w = w' := by
  rcases (show i < 0 ∨ (0 ≤ i ∧ (l : Int) ≤ i) by omega) with hi | ⟨hi0, hi⟩
  · go_enter Try.func17, Try.ntmps17
    go_wp2_with fail
    go_ret2
    exact ⟨rfl, rfl⟩
  · have hd0 : decide (i < 0) = false := decide_eq_false (by omega)
    have hd1 : decide ((l : Int) ≤ i) = true := decide_eq_true (by omega)
    go_enter Try.func17, Try.ntmps17
    go_wp2_with fail
    refine (lenS_any h).mono ?_
    rintro e w1 ⟨rfl, rfl⟩
    go_wp2_with fail
    go_ret2
    exact ⟨rfl, rfl⟩
theorem atS_nil (i : Int) (w : World) :
    Calls Try.prog 17 #[.pointer none, .int .i64 i] w fun e w' => e = .returned (.tuple #[.string { data := #[] }, .bool false]) ∧ w = w' := by
  rcases (show i < 0 ∨ (0 ≤ i) by omega) with hi | hi
  · go_enter Try.func17, Try.ntmps17
    go_wp2_with fail
    go_ret2
    exact ⟨rfl, rfl⟩
  · have hd0 : decide (i < 0) = false := decide_eq_false (by omega)
    have hd1 : decide ((0 : Int) ≤ i) = true := decide_eq_true (by omega)
    go_enter Try.func17, Try.ntmps17
    go_wp2_with fail
    refine (lenS_nil w).mono ?_
    rintro e w1 ⟨rfl, rfl⟩
    go_wp2_with fail
    go_ret2
    exact ⟨rfl, rfl⟩
theorem atS_any (i : Nat) (h : RingS w g c A m most n f ys q q.length) (hi : i < q.length) :
    Calls Try.prog 17 #[.pointer (some ⟨g, 0, none⟩), .int .i64 (i : Nat)] w fun e w' => e = .returned (.tuple #[.string q[i], .bool true]) ∧ ∃ k, w' = w.drewN k := by
  have hql := h.ql
  have hn : 0 < n := by omega
  have hfit := h.fit
  have hmost := h.most.2
  obtain ⟨hA, hb⟩ := h.some_ hn
  have hat := h.lay.at_ hi
  rw [h.len] at hat
  have hx : w.cell? ⟨m, (f + i) % n, none⟩ = some (.string q[i]) := by rw [hb.cell, get_rowS, hat]; rfl
  have hlt : (f + i) % n < n := Nat.mod_lt _ hn
  obtain ⟨p, hp⟩ : ∃ p, p = (f + i) % n := ⟨_, rfl⟩
  have HP := Lib.hid hp
  rw [← hp] at hx hlt
  subst hA
  have c1 := h.c1
  have hd0 : decide ((i : Int) < 0) = false := decide_eq_false (by omega)
  have hd1 : decide ((q.length : Int) ≤ (i : Int)) = false := decide_eq_false (by omega)
  have hltI : (p : Int) < (n : Int) := by omega
  clear hp hat hb
  obtain ⟨x, hxe⟩ : ∃ x, x = q[i] := ⟨_, rfl⟩
  rw [← hxe] at hx ⊢
  clear hxe
  go_enter Try.func17, Try.ntmps17
  go_wp2_with fail
  refine (lenS_any h).mono ?_
  rintro e w1 ⟨rfl, rfl⟩
  go_wp2_with fail
  go_quiet ((go_at_call 42; exact still_any (v := .int .i64 (p : Nat)) (by rw [HP.out]; exact placeS_any i (h.drewN _) (by omega) hn)))
  go_wp2_with fail
  go_ret2
  exact ⟨rfl, _, rfl⟩

theorem mkS_run (x : Int) (N : Nat) (hx : x = N) (hN : N ≤ 1048576) (W : World) : (Instr.makeSlice 37 (.int .i64 x) (.int .i64 x)).run Try.prog W = .ok (.slice (some ⟨W.heap.size, 0, none⟩) N N) (W.alloc (.cells (rowS (List.replicate N ({ data := #[] } : ByteArray))) 9)) := by
  subst hx
  obtain ⟨i0, hi, hz0, hz1, hz2⟩ := info_parts Try.infoS
  have h := run_make (P := Try.prog) W 37 9 i0 _ Try.underlying37 hi hz0 .i64 .i64 N N (by omega) (by omega) (by rw [hz2]; omega) (by omega)
  simp only [Int.toNat_natCast, hz1, Nat.mul_one] at h
  rw [made_rowS] at h
  exact h
theorem sizeS : ((Try.prog.info? 9).map (·.size)).isSome = true := by
  obtain ⟨i0, hi, hz0, hz1, hz2⟩ := info_parts Try.infoS
  rw [hi]; rfl
theorem oneS (ys : List ByteArray) : ∀ v ∈ ys.map (fun x => Value.string x), v.oneCell' = true := by
  intro v hv
  obtain ⟨x, _, rfl⟩ := List.mem_map.1 hv
  rfl
/-- copy into a row that is known, from a row that is known. -/
theorem copyS_run {W : World} {g m : Nat} {zs ys : List ByteArray} (ty : TypeId) (o dl dc o' sl sc : Nat) (xs zs' : List ByteArray) (hg : Blk W g 9 (rowS zs)) (hm : Blk W m 9 (rowS ys)) (hs : sl ≤ dl) (hx : xs = (ys.drop o').take sl) (hl : xs.length = sl) (hf : o + sl ≤ zs.length) (hz : zs' = zs.take o ++ xs ++ zs.drop (o + sl)) :
    (Builtin.copy_ #[37, 37] ty #[.slice (some ⟨g, o, none⟩) dl dc, .slice (some ⟨m, o', none⟩) sl sc]).run Try.prog W = .ok (.int .i64 (sl : Nat)) (W.setRow g (rowS zs')) := by
  subst hz
  obtain ⟨i0, hi, hz0, hz1, hz2⟩ := info_parts Try.infoS
  have h := run_copy_row (P := Try.prog) W 37 37 ty 9 g o dl dc ⟨m, o', none⟩ sl sc (rowS zs) 9 (xs.map fun x => Value.string x) Try.underlying37 (by rw [hi]; simp [hz1]) hg (by rw [List.length_map, hl]; exact (Nat.min_eq_left hs).symm)
    (by
      intro j v hv
      rw [Addr.add_lit, hm.cell, get_rowS]
      rw [List.getElem?_map, hx] at hv
      have hj : j < sl := by
        rcases Nat.lt_or_ge j sl with h | h
        · exact h
        · rw [List.getElem?_eq_none (by rw [← hx, hl]; exact h)] at hv; cases hv
      rw [List.getElem?_take_of_lt hj, List.getElem?_drop] at hv
      exact hv)
    (by simp [rowS, hl]; omega) (oneS xs)
  rw [h, List.length_map, hl]
  congr 2
  simp [rowS, List.map_take, List.map_drop]

theorem growS_end {G N : Nat} {zs : List ByteArray} (h : RingS w g c A m most n f ys q l) (hb : Blk w G 9 (rowS zs)) (hg : g ≠ G) (hl : Lay zs 0 q) (hz : zs.length = N) (hp : 0 < N) (hN : N ≤ most) :
    RingS ((w.setCell ⟨g, 1, none⟩ (.slice (some ⟨G, 0, none⟩) N N)).setCell ⟨g, 2, none⟩ (.int .i64 0)) g c (some ⟨G, 0, none⟩) G most N 0 zs q l := by
  have ht : Tw [g] w ((w.setCell ⟨g, 1, none⟩ (.slice (some ⟨G, 0, none⟩) N N)).setCell ⟨g, 2, none⟩ (.int .i64 0)) := (Tw.setCell w _ _ (by simp)).trans (Tw.setCell _ _ _ (by simp))
  refine ⟨?_, h.chn.tw ht (by simp; exact h.ne.1.symm), .inr ⟨hp, rfl, hb.tw ht (by simp; exact hg.symm)⟩, hz, hl, hN, h.most⟩
  have := (h.blk.set_ 1 (.slice (some ⟨G, 0, none⟩) N N)).set_ 2 (.int .i64 0)
  simpa using this

set_option maxHeartbeats 800000 in
theorem growS_any (h : RingS w g c A m most n f ys q l) (hq : q.length = n) (hlt : n < most) :
    Calls Try.prog 41 #[.pointer (some ⟨g, 0, none⟩)] w fun e w' => e = .returned (.tuple #[]) ∧ ∃ n' ys', n < n' ∧ RingS w' g c (some ⟨w.heap.size, 0, none⟩) w.heap.size most n' 0 ys' q l ∧ Tw [g] w w' := by
  have c0 := h.c0
  have c1 := h.c1
  have c2 := h.c2
  have hcap := h.dr.cap_
  have hmost := h.most.1
  have hm2 := h.most.2
  have hfit := h.fit
  rcases (show n = 0 ∨ 0 < n by omega) with rfl | hn
  · have hmk := mkS_run 1 1 rfl (by omega)
    have h1 : ¬ ((most : Int) < 1) := by omega
    have hyl := List.eq_nil_of_length_eq_zero h.len
    subst hyl
    have hql := List.eq_nil_of_length_eq_zero hq
    subst hql
    obtain rfl : f = 0 := by
      rcases h.lay.2.1 with hf | ⟨_, hf⟩
      · simp at hf
      · exact hf
    obtain rfl : A = none := by
      rcases h.mem with ⟨_, h, _⟩ | ⟨h, _⟩
      · exact h
      · omega
    go_enter Try.func41, Try.ntmps41
    go_wp2
    go_region
    clear hmk h1 hcap
    have hr1 := (h.below (below_new w (.cells (rowS [({ data := #[] } : ByteArray)]) 9))).dr
    have hb1 : Blk (w.alloc (.cells (rowS [({ data := #[] } : ByteArray)]) 9)).drew w.heap.size 9 (rowS [({ data := #[] } : ByteArray)]) := Blk.new w _ _
    have ht1 : Tw [g] w (w.alloc (.cells (rowS [({ data := #[] } : ByteArray)]) 9)).drew := (Tw.alloc w _ [g]).drewN 1
    have hgm := h.lt
    obtain ⟨G, hG⟩ : ∃ G, G = w.heap.size := ⟨_, rfl⟩
    rw [← hG] at hb1 hgm ⊢
    have hgG : g ≠ G := by omega
    have HG := Lib.hid hG
    clear hG
    generalize (w.alloc (.cells (rowS [({ data := #[] } : ByteArray)]) 9)).drew = w1 at hr1 hb1 ht1 ⊢
    clear c0 c1 c2
    have c1 := hr1.c1
    have c2 : w1.cell? ⟨g, 2, none⟩ = some (.int .i64 0) := hr1.c2
    have hcp := fun ty W => run_copy_nil (P := Try.prog) W 37 37 ty 9 ⟨G, 0, none⟩ 1 1 Try.underlying37 sizeS
    have HCP := Lib.hid hcp
    clear hcp
    go_wp2
    go_still_tail 10, (by kernel_rfl)
    refine wpList_copy_run rfl _ _ 37 rfl (.slice (some ⟨G, 0, none⟩) 1 1) (.slice none 0 0) (.int .i64 0) rfl rfl _ rfl (HCP.out _ w1.drew) ?_
    have hr2 := hr1.dr
    have hb2 := hb1.drewN 1
    have ht2 := ht1.drewN 1
    clear hr1 hb1 ht1 c1 c2
    change Blk w1.drew _ _ _ at hb2
    change Tw _ _ w1.drew at ht2
    generalize w1.drew = w2 at hr2 hb2 ht2 ⊢
    have c1 := hr2.c1
    have c2 : w2.cell? ⟨g, 2, none⟩ = some (.int .i64 0) := hr2.c2
    go_wp2
    go_still_tail 12, (by kernel_rfl)
    refine wpList_copy_run rfl _ _ 37 rfl (.slice (some ⟨G, 0, none⟩) 1 1) (.slice none 0 0) (.int .i64 0) rfl rfl _ rfl (HCP.out _ w2.drew) ?_
    have hr3 := hr2.dr
    have hb3 := hb2.drewN 1
    have ht3 := ht2.drewN 1
    clear hr2 hb2 ht2 c1 c2
    change Blk w2.drew _ _ _ at hb3
    change Tw _ _ w2.drew at ht3
    generalize w2.drew = w3 at hr3 hb3 ht3 ⊢
    have c1 := hr3.c1
    have c2 : w3.cell? ⟨g, 2, none⟩ = some (.int .i64 0) := hr3.c2
    have f1 := hr3.fz 1
    have f2 := hr3.fz 2
    have HR := Lib.hid (growS_end (N := 1) hr3 hb3 hgG ⟨by simp, .inl (by simp), fun j hj => absurd hj (by simp)⟩ (by simp) (by omega) hmost)
    have ht4 := Lib.hid ((ht3.trans (Tw.setCell w3 ⟨g, 1, none⟩ (.slice (some ⟨G, 0, none⟩) 1 1) (by simp))).trans (Tw.setCell _ ⟨g, 2, none⟩ (.int .i64 0) (by simp)))
    clear hr3 hb3 ht3
    go_wp2
    go_end0
    refine ⟨rfl, 1, [({ data := #[] } : ByteArray)], by omega, ?_, ht4.out⟩
    rw [← HG.out]
    exact HR.out
  · have h2 : ¬ (2 * (n : Int) < 1) := by omega
    have hf : f < n := by rw [← h.len]; exact h.lay.lt (by omega)
    obtain ⟨hA, hb⟩ := h.some_ hn
    subst hA
    rcases (show 2 * n ≤ most ∨ most < 2 * n by omega) with hh | hh
    · obtain ⟨N, hN⟩ : ∃ N, N = 2 * n := ⟨_, rfl⟩
      have hmk := mkS_run (2 * (n : Int)) N (by omega) (by omega)
      have h1 : ¬ ((most : Int) < 2 * (n : Int)) := by omega
      have hnN : n < N := by omega
      have hNm : N ≤ most := by omega
      clear hN
      go_enter Try.func41, Try.ntmps41
      go_wp2
      go_region
      clear hmk h1 h2 hh hcap
      have hr1 := (h.below (below_new w (.cells (rowS (List.replicate N ({ data := #[] } : ByteArray))) 9))).dr
      have hb1 : Blk (w.alloc (.cells (rowS (List.replicate N ({ data := #[] } : ByteArray))) 9)).drew w.heap.size 9 (rowS (List.replicate N ({ data := #[] } : ByteArray))) := Blk.new w _ _
      have ht1 : Tw [g] w (w.alloc (.cells (rowS (List.replicate N ({ data := #[] } : ByteArray))) 9)).drew := (Tw.alloc w _ [g]).drewN 1
      have hgm := h.lt
      obtain ⟨G, hG⟩ : ∃ G, G = w.heap.size := ⟨_, rfl⟩
      rw [← hG] at hb1 hgm ⊢
      have hgG : g ≠ G := by omega
      have hcG : c ≠ G := by omega
      have hmG : m ≠ G := by omega
      have HG := Lib.hid hG
      have hfn : f ≤ n := by omega
      have hnf : ¬ n = f := by omega
      obtain ⟨k, hk⟩ : ∃ k, k = n - f := ⟨_, rfl⟩
      have hkN : k ≤ N := by omega
      have hNk : ¬ N = k := by omega
      have HK := Lib.hid hk
      clear hG hk
      generalize (w.alloc (.cells (rowS (List.replicate N ({ data := #[] } : ByteArray))) 9)).drew = w1 at hr1 hb1 ht1 ⊢
      have hm1 := (hr1.some_ hn).2
      clear hb c0 c1 c2
      have c1 := hr1.c1
      have c2 := hr1.c2
      have HLQ := Lib.hid h.len
      obtain ⟨z1, hz1⟩ : ∃ z1, z1 = ys.drop f ++ List.replicate (N - k) ({ data := #[] } : ByteArray) := ⟨_, rfl⟩
      have hz1l : z1.length = N := by have := HLQ.out; have := HK.out; rw [hz1]; simp; omega
      have HZ1 := Lib.hid hz1
      have HZ1L := Lib.hid hz1l
      have hcp1 := Lib.hid fun ty => copyS_run ty (W := w1.drew) 0 N N f (n - f) (n - f) (ys.drop f) z1 (hb1.drewN 1) (hm1.drewN 1) (by omega) (by rw [List.take_of_length_le (by simp; have := HLQ.out; omega)]) (by simp; have := HLQ.out; omega) (by simp; omega) (by rw [hz1]; simp; have := HK.out; omega)
      rw [← HK.out] at hcp1
      clear hz1 hz1l
      go_wp2
      go_still_tail 10, (by kernel_rfl)
      refine wpList_copy_run rfl _ _ 37 rfl (.slice (some ⟨G, 0, none⟩) N N) (.slice (some ⟨m, f, none⟩) k k) (.int .i64 (k : Nat)) rfl (by rw [HK.out]; rfl) _ rfl (hcp1.out _) ?_
      have hr2 : RingS (w1.drew.setRow G (rowS z1)) g c (some ⟨m, 0, none⟩) m most n f ys q l := hr1.tw (S := [G]) (Tw.setRow ((Tw.refl [G] w1).drewN 1) G _ (by simp)) (by simpa using hgG) (by simpa using hcG) (by simpa using hmG)
      have hb2 : Blk (w1.drew.setRow G (rowS z1)) G 9 (rowS z1) := Blk.setRow (hb1.drewN 1) _
      have ht2 : Tw [g] w (w1.drew.setRow G (rowS z1)) := Tw.setRow_new (ht1.drewN 1) G _ (by rw [HG.out]; exact Nat.le_refl _)
      clear hr1 hb1 ht1 hm1 hcp1 c1 c2
      generalize w1.drew.setRow G (rowS z1) = w2 at hr2 hb2 ht2 ⊢
      have hm2 := (hr2.some_ hn).2
      have c1 := hr2.c1
      have c2 := hr2.c2
      obtain ⟨z2, hz2⟩ : ∃ z2, z2 = ys.drop f ++ ys.take f ++ List.replicate (N - n) ({ data := #[] } : ByteArray) := ⟨_, rfl⟩
      have HZ2 := Lib.hid hz2
      have hcp2 := Lib.hid fun ty => copyS_run ty (W := w2.drew) k (N - k) (N - k) 0 f n (ys.take f) z2 (hb2.drewN 1) (hm2.drewN 1) (by have := HK.out; omega) (by simp) (by simp; have := HLQ.out; omega) (by rw [HZ1L.out]; have := HK.out; omega)
        (by
          have h1 := HK.out
          have h2 := HLQ.out
          rw [hz2, HZ1.out, List.take_left' (by simp; omega), drop_row _ h2 h1 hfn])
      clear hz2
      go_wp2
      go_still_tail 12, (by kernel_rfl)
      refine wpList_copy_run rfl _ _ 37 rfl (.slice (some ⟨G, k, none⟩) (N - k) (N - k)) (.slice (some ⟨m, 0, none⟩) f n) (.int .i64 (f : Nat)) rfl rfl _ rfl (hcp2.out _) ?_
      have hr3 : RingS (w2.drew.setRow G (rowS z2)) g c (some ⟨m, 0, none⟩) m most n f ys q l := hr2.tw (S := [G]) (Tw.setRow ((Tw.refl [G] w2).drewN 1) G _ (by simp)) (by simpa using hgG) (by simpa using hcG) (by simpa using hmG)
      have hb3 : Blk (w2.drew.setRow G (rowS z2)) G 9 (rowS z2) := Blk.setRow (hb2.drewN 1) _
      have ht3 : Tw [g] w (w2.drew.setRow G (rowS z2)) := Tw.setRow_new (ht2.drewN 1) G _ (by rw [HG.out]; exact Nat.le_refl _)
      clear hr2 hb2 ht2 hm2 hcp2 c1 c2
      generalize w2.drew.setRow G (rowS z2) = w3 at hr3 hb3 ht3 ⊢
      have c1 := hr3.c1
      have c2 := hr3.c2
      have f1 := hr3.fz 1
      have f2 := hr3.fz 2
      have HR := Lib.hid (growS_end hr3 hb3 hgG (by rw [HZ2.out]; exact Lay.grow (h.lay) (by rw [h.len]; exact hq) _ (by simp; omega)) (by rw [HZ2.out]; have := HLQ.out; simp; omega) (by omega) hNm)
      have ht4 := Lib.hid ((ht3.trans (Tw.setCell w3 ⟨g, 1, none⟩ (.slice (some ⟨G, 0, none⟩) N N) (by simp))).trans (Tw.setCell _ ⟨g, 2, none⟩ (.int .i64 0) (by simp)))
      clear hr3 hb3 ht3
      go_wp2
      go_end0
      refine ⟨rfl, N, z2, hnN, ?_, ht4.out⟩
      rw [← HG.out]
      exact HR.out
    · obtain ⟨N, hN⟩ : ∃ N, N = most := ⟨_, rfl⟩
      have hmk := mkS_run (most : Int) N (by omega) (by omega)
      have h1 : ((most : Int) < 2 * (n : Int)) := by omega
      have hnN : n < N := by omega
      have hNm : N ≤ most := by omega
      clear hN
      go_enter Try.func41, Try.ntmps41
      go_wp2
      go_region
      clear hmk h1 h2 hh hcap
      have hr1 := (h.below (below_new w (.cells (rowS (List.replicate N ({ data := #[] } : ByteArray))) 9))).dr
      have hb1 : Blk (w.alloc (.cells (rowS (List.replicate N ({ data := #[] } : ByteArray))) 9)).drew w.heap.size 9 (rowS (List.replicate N ({ data := #[] } : ByteArray))) := Blk.new w _ _
      have ht1 : Tw [g] w (w.alloc (.cells (rowS (List.replicate N ({ data := #[] } : ByteArray))) 9)).drew := (Tw.alloc w _ [g]).drewN 1
      have hgm := h.lt
      obtain ⟨G, hG⟩ : ∃ G, G = w.heap.size := ⟨_, rfl⟩
      rw [← hG] at hb1 hgm ⊢
      have hgG : g ≠ G := by omega
      have hcG : c ≠ G := by omega
      have hmG : m ≠ G := by omega
      have HG := Lib.hid hG
      have hfn : f ≤ n := by omega
      have hnf : ¬ n = f := by omega
      obtain ⟨k, hk⟩ : ∃ k, k = n - f := ⟨_, rfl⟩
      have hkN : k ≤ N := by omega
      have hNk : ¬ N = k := by omega
      have HK := Lib.hid hk
      clear hG hk
      generalize (w.alloc (.cells (rowS (List.replicate N ({ data := #[] } : ByteArray))) 9)).drew = w1 at hr1 hb1 ht1 ⊢
      have hm1 := (hr1.some_ hn).2
      clear hb c0 c1 c2
      have c1 := hr1.c1
      have c2 := hr1.c2
      have HLQ := Lib.hid h.len
      obtain ⟨z1, hz1⟩ : ∃ z1, z1 = ys.drop f ++ List.replicate (N - k) ({ data := #[] } : ByteArray) := ⟨_, rfl⟩
      have hz1l : z1.length = N := by have := HLQ.out; have := HK.out; rw [hz1]; simp; omega
      have HZ1 := Lib.hid hz1
      have HZ1L := Lib.hid hz1l
      have hcp1 := Lib.hid fun ty => copyS_run ty (W := w1.drew) 0 N N f (n - f) (n - f) (ys.drop f) z1 (hb1.drewN 1) (hm1.drewN 1) (by omega) (by rw [List.take_of_length_le (by simp; have := HLQ.out; omega)]) (by simp; have := HLQ.out; omega) (by simp; omega) (by rw [hz1]; simp; have := HK.out; omega)
      rw [← HK.out] at hcp1
      clear hz1 hz1l
      go_wp2
      go_still_tail 10, (by kernel_rfl)
      refine wpList_copy_run rfl _ _ 37 rfl (.slice (some ⟨G, 0, none⟩) N N) (.slice (some ⟨m, f, none⟩) k k) (.int .i64 (k : Nat)) rfl (by rw [HK.out]; rfl) _ rfl (hcp1.out _) ?_
      have hr2 : RingS (w1.drew.setRow G (rowS z1)) g c (some ⟨m, 0, none⟩) m most n f ys q l := hr1.tw (S := [G]) (Tw.setRow ((Tw.refl [G] w1).drewN 1) G _ (by simp)) (by simpa using hgG) (by simpa using hcG) (by simpa using hmG)
      have hb2 : Blk (w1.drew.setRow G (rowS z1)) G 9 (rowS z1) := Blk.setRow (hb1.drewN 1) _
      have ht2 : Tw [g] w (w1.drew.setRow G (rowS z1)) := Tw.setRow_new (ht1.drewN 1) G _ (by rw [HG.out]; exact Nat.le_refl _)
      clear hr1 hb1 ht1 hm1 hcp1 c1 c2
      generalize w1.drew.setRow G (rowS z1) = w2 at hr2 hb2 ht2 ⊢
      have hm2 := (hr2.some_ hn).2
      have c1 := hr2.c1
      have c2 := hr2.c2
      obtain ⟨z2, hz2⟩ : ∃ z2, z2 = ys.drop f ++ ys.take f ++ List.replicate (N - n) ({ data := #[] } : ByteArray) := ⟨_, rfl⟩
      have HZ2 := Lib.hid hz2
      have hcp2 := Lib.hid fun ty => copyS_run ty (W := w2.drew) k (N - k) (N - k) 0 f n (ys.take f) z2 (hb2.drewN 1) (hm2.drewN 1) (by have := HK.out; omega) (by simp) (by simp; have := HLQ.out; omega) (by rw [HZ1L.out]; have := HK.out; omega)
        (by
          have h1 := HK.out
          have h2 := HLQ.out
          rw [hz2, HZ1.out, List.take_left' (by simp; omega), drop_row _ h2 h1 hfn])
      clear hz2
      go_wp2
      go_still_tail 12, (by kernel_rfl)
      refine wpList_copy_run rfl _ _ 37 rfl (.slice (some ⟨G, k, none⟩) (N - k) (N - k)) (.slice (some ⟨m, 0, none⟩) f n) (.int .i64 (f : Nat)) rfl rfl _ rfl (hcp2.out _) ?_
      have hr3 : RingS (w2.drew.setRow G (rowS z2)) g c (some ⟨m, 0, none⟩) m most n f ys q l := hr2.tw (S := [G]) (Tw.setRow ((Tw.refl [G] w2).drewN 1) G _ (by simp)) (by simpa using hgG) (by simpa using hcG) (by simpa using hmG)
      have hb3 : Blk (w2.drew.setRow G (rowS z2)) G 9 (rowS z2) := Blk.setRow (hb2.drewN 1) _
      have ht3 : Tw [g] w (w2.drew.setRow G (rowS z2)) := Tw.setRow_new (ht2.drewN 1) G _ (by rw [HG.out]; exact Nat.le_refl _)
      clear hr2 hb2 ht2 hm2 hcp2 c1 c2
      generalize w2.drew.setRow G (rowS z2) = w3 at hr3 hb3 ht3 ⊢
      have c1 := hr3.c1
      have c2 := hr3.c2
      have f1 := hr3.fz 1
      have f2 := hr3.fz 2
      have HR := Lib.hid (growS_end hr3 hb3 hgG (by rw [HZ2.out]; exact Lay.grow (h.lay) (by rw [h.len]; exact hq) _ (by simp; omega)) (by rw [HZ2.out]; have := HLQ.out; simp; omega) (by omega) hNm)
      have ht4 := Lib.hid ((ht3.trans (Tw.setCell w3 ⟨g, 1, none⟩ (.slice (some ⟨G, 0, none⟩) N N) (by simp))).trans (Tw.setCell _ ⟨g, 2, none⟩ (.int .i64 0) (by simp)))
      clear hr3 hb3 ht3
      go_wp2
      go_end0
      refine ⟨rfl, N, z2, hnN, ?_, ht4.out⟩
      rw [← HG.out]
      exact HR.out

/-- What has been pushed behind q, in a world in which there is room for it. -/
theorem putS_end {x : ByteArray} (h : RingS w g c (some ⟨m, 0, none⟩) m most n f ys q l) (hl : q.length < n) (hp : (f + q.length) % n = p) :
    RingS (w.setCell ⟨m, p, none⟩ (.string x)) g c (some ⟨m, 0, none⟩) m most n f (ys.set p x) (q ++ [x]) l := by
  subst hp
  obtain ⟨_, hb⟩ := h.some_ (by omega)
  have hne := h.ne
  have hgm := hne.2.2 (by omega)
  have ht : Tw [m] w (w.setCell ⟨m, (f + q.length) % n, none⟩ (.string x)) := Tw.setCell w _ _ (by simp)
  refine ⟨h.blk.tw ht (by simpa using hgm), h.chn.tw ht (by simpa using hne.2.1.symm), .inr ⟨by omega, rfl, ?_⟩, by simpa using h.len, ?_, h.fit, h.most⟩
  · have := hb.set_ ((f + q.length) % n) (.string x)
    rwa [set_rowS] at this
  · have := h.lay.push (by rw [h.len]; exact hl) x
    rwa [h.len] at this

set_option maxHeartbeats 800000 in
theorem pushS_full (x : ByteArray) (h : RingS w g c A m most n f ys q q.length) (hq : q.length = most) :
    Calls Try.prog 13 #[.pointer (some ⟨g, 0, none⟩), .string x] w fun e w' => e = .returned (.bool false) ∧ w = w' := by
  have c0 := h.c0
  obtain ⟨s, r, buf, hc, hb⟩ := h.chn
  have hfull : most ≤ buf.size := by omega
  go_enter Try.func13, Try.ntmps13
  rw [comm_eq 6]
  go_wp2_with fail
  refine (lenS_any h).mono ?_
  rintro e w1 ⟨rfl, rfl⟩
  go_wp2_with fail
  refine comm_full (id := 6) (v := .agg #[]) rfl rfl rfl rfl (zero_unit w) hc hfull ?_
  go_wp2_with fail
  go_ret
  exact ⟨rfl, rfl⟩
theorem pushS_nil (x : ByteArray) (w : World) :
    Calls Try.prog 13 #[.pointer none, .string x] w fun e w' => e = .returned (.bool false) ∧ w = w' := by
  go_enter Try.func13, Try.ntmps13
  go_wp2_with fail
  go_ret
  exact ⟨rfl, rfl⟩

set_option maxHeartbeats 800000 in
theorem pushS_room (x : ByteArray) (h : RingS w g c A m most n f ys q q.length) (hq : q.length < most) :
    Calls Try.prog 13 #[.pointer (some ⟨g, 0, none⟩), .string x] w fun e w' => e = .returned (.bool true) ∧ ∃ A' m' n' f' ys', RingS w' g c A' m' most n' f' ys' (q ++ [x]) (q ++ [x]).length ∧ (m' = m ∨ w.heap.size ≤ m') ∧ Tw [g, c, m] w w' := by
  have c0 := h.c0
  obtain ⟨s, r, buf, hc, hb⟩ := h.chn
  have hroom : buf.size < most := by omega
  have hfit := h.fit
  have hm2 := h.most.2
  have hlq : (q ++ [x]).length = q.length + 1 := by simp
  have hn1 := h.ql
  have HLQ := Lib.hid hlq
  clear hlq
  have h1 : RingS (w.setChan c most (buf.push (.agg #[])) false (s + 1) r false) g c A m most n f ys q (q.length + 1) := by
    refine ⟨h.blk.setChan h.ne.1, ⟨s + 1, r, _, heap_setChan_eq hc, by simp [hb]⟩, ?_, h.len, h.lay, h.fit, h.most⟩
    exact h.mem.imp id fun ⟨p, a, b⟩ => ⟨p, a, b.setChan h.ne.2.1⟩
  have ht1 : Tw [g, c, m] w (w.setChan c most (buf.push (.agg #[])) false (s + 1) r false) := (Tw.refl _ w).setChan (by simp)
  have HB := Lib.hid hb
  clear hb
  go_enter Try.func13, Try.ntmps13
  rw [comm_eq 6]
  go_wp2_with fail
  refine (lenS_any h).mono ?_
  rintro e w1 ⟨rfl, rfl⟩
  go_wp2_with fail
  refine comm_room (id := 6) (v := .agg #[]) rfl rfl rfl rfl (zero_unit w) hc hroom ?_
  generalize w.setChan c most (buf.push (.agg #[])) false (s + 1) r false = w1 at h1 ht1 ⊢
  have hlt := h.lt
  have hsz := ht1.size
  clear hc c0 h hroom HB
  have c1 := h1.c1
  rcases (show q.length = n ∨ q.length < n by omega) with hqn | hqn
  · have HQN := Lib.hid hqn
    have hge := growS_any h1 hqn (by rw [← hqn]; exact hq)
    clear hqn
    have hdn : ((q.length : Int) == (n : Int)) = true := by rw [beq_iff_eq]; have := HQN.out; omega
    go_wp2_with fail
    refine hge.mono ?_
    rintro e w2 ⟨rfl, n', ys', hn', h2, ht2⟩
    have hlt2 : q.length < n' := by have := HQN.out; omega
    obtain ⟨G, hG⟩ : ∃ G, G = w1.heap.size := ⟨_, rfl⟩
    rw [← hG] at h2
    have HG := Lib.hid hG
    have hmw : Hid (G = m ∨ w.heap.size ≤ G) := Lib.hid (.inr (by rw [hG]; exact hsz))
    have ht12 := ht1.trans (ht2.sub (T := [g, c, m]) (by simp))
    have hs12 : w.heap.size ≤ G := by rw [hG]; exact hsz
    clear hge hG h1 ht1 ht2 c1
    have hfit2 := h2.fit
    have hc1 := h2.c1
    obtain ⟨_, hb2⟩ := h2.some_ (by omega)
    obtain ⟨p, hp⟩ : ∃ p, p = (0 + q.length) % n' := ⟨_, rfl⟩
    have hpl := placeS_any q.length h2.dr (by omega) (by omega)
    rw [← hp] at hpl
    have hpn : p < n' := by rw [hp]; exact Nat.mod_lt _ (by omega)
    have hpI : (p : Int) < (n' : Int) := by omega
    have hpy : p < ys'.length := by rw [h2.len]; exact hpn
    have hx : w2.cell? ⟨G, p, none⟩ = some (.string ys'[p]) := by rw [hb2.cell, get_rowS, List.getElem?_eq_getElem hpy]; rfl
    have hxf := hb2.frozen p
    have HR := Lib.hid fun d => putS_end (x := x) (h2.drewN d) hlt2 hp.symm
    have HT := Lib.hid fun d => (ht12.drewN d).setCell_new ⟨G, p, none⟩ (.string x) hs12
    obtain ⟨x0, hx0⟩ : ∃ x0, x0 = ys'[p] := ⟨_, rfl⟩
    rw [← hx0] at hx
    have HPL := Lib.hid hpl
    clear hp hpl hb2 h2 ht12 hx0 hpy
    go_wp2_with fail
    go_region_with ((go_at_call 42; refine HPL.out.mono ?_; rintro e w3 ⟨rfl, k, rfl⟩))
    all_goals
      go_wp2_with fail
      go_ret
      exact ⟨rfl, _, G, n', 0, _, by rw [HLQ.out]; exact HR.out _, hmw.out, HT.out _⟩
  · obtain ⟨hA, _⟩ := h1.some_ (by omega)
    subst hA
    have hmw : Hid (m = m ∨ w.heap.size ≤ m) := Lib.hid (.inl rfl)
    have hdn : ((q.length : Int) == (n : Int)) = false := by rw [beq_eq_false_iff_ne]; omega
    go_wp2_with fail
    have hfit2 := h1.fit
    have hc1 := h1.c1
    obtain ⟨_, hb1⟩ := h1.some_ (by omega)
    obtain ⟨p, hp⟩ : ∃ p, p = (f + q.length) % n := ⟨_, rfl⟩
    have hpl := placeS_any q.length h1.dr (by omega) (by omega)
    rw [← hp] at hpl
    have hpn : p < n := by rw [hp]; exact Nat.mod_lt _ (by omega)
    have hpI : (p : Int) < (n : Int) := by omega
    have hpy : p < ys.length := by rw [h1.len]; exact hpn
    have hx : w1.cell? ⟨m, p, none⟩ = some (.string ys[p]) := by rw [hb1.cell, get_rowS, List.getElem?_eq_getElem hpy]; rfl
    have hxf := hb1.frozen p
    have HR := Lib.hid fun d => putS_end (x := x) (h1.drewN d) hqn hp.symm
    have HT := Lib.hid fun d => (ht1.drewN d).trans (Tw.setCell (w1.drewN d) ⟨m, p, none⟩ (.string x) (by simp))
    obtain ⟨x0, hx0⟩ : ∃ x0, x0 = ys[p] := ⟨_, rfl⟩
    rw [← hx0] at hx
    have HPL := Lib.hid hpl
    clear hp hpl hb1 h1 ht1 c1 hx0 hpy
    go_wp2_with fail
    go_region_with ((go_at_call 42; refine HPL.out.mono ?_; rintro e w3 ⟨rfl, k, rfl⟩))
    all_goals
      go_wp2_with fail
      go_ret
      exact ⟨rfl, _, m, n, f, _, by rw [HLQ.out]; exact HR.out _, .inl rfl, HT.out _⟩

theorem popS_none (h : RingS w g c A m most n f ys [] 0) :
    Calls Try.prog 15 #[.pointer (some ⟨g, 0, none⟩)] w fun e w' => e = .returned (.tuple #[.string { data := #[] }, .bool false]) ∧ w = w' := by
  have hat := atS_no 0 h (by simp)
  have HAT := Lib.hid hat
  clear hat
  go_enter Try.func15, Try.ntmps15
  rw [comm_eq 4]
  go_wp2_with fail
  refine HAT.out.mono ?_
  rintro e w1 ⟨rfl, rfl⟩
  go_wp2_with fail
  go_ret2
  exact ⟨rfl, rfl⟩
theorem popS_nil (w : World) :
    Calls Try.prog 15 #[.pointer none] w fun e w' => e = .returned (.tuple #[.string { data := #[] }, .bool false]) ∧ w = w' := by
  have HAT := Lib.hid (atS_nil 0 w)
  go_enter Try.func15, Try.ntmps15
  rw [comm_eq 4]
  go_wp2_with fail
  refine HAT.out.mono ?_
  rintro e w1 ⟨rfl, rfl⟩
  go_wp2_with fail
  go_ret2
  exact ⟨rfl, rfl⟩

theorem popS_end {x : ByteArray} (d : Nat) (h : RingS w g c (some ⟨m, 0, none⟩) m most n f ys (x :: q) l) :
    RingS (((w.setCell ⟨m, f, none⟩ (.string { data := #[] })).drewN d).setCell ⟨g, 2, none⟩ (.int .i64 ((f + 1) % n : Nat))) g c (some ⟨m, 0, none⟩) m most n ((f + 1) % n) (ys.set f { data := #[] }) q l := by
  have hql := h.ql
  simp only [List.length_cons] at hql
  obtain ⟨_, hb⟩ := h.some_ (by omega)
  have hne := h.ne
  have hgm := hne.2.2 (by omega)
  have ht : Tw [m] w ((w.setCell ⟨m, f, none⟩ (.string { data := #[] })).drewN d) := (Tw.setCell w _ _ (by simp)).drewN d
  have ht2 : Tw [g] ((w.setCell ⟨m, f, none⟩ (.string { data := #[] })).drewN d) (((w.setCell ⟨m, f, none⟩ (.string { data := #[] })).drewN d).setCell ⟨g, 2, none⟩ (.int .i64 ((f + 1) % n : Nat))) := Tw.setCell _ _ _ (by simp)
  have hp := h.lay.pop (z := { data := #[] })
  refine ⟨?_, (h.chn.tw ht (by simpa using hne.2.1.symm)).tw ht2 (by simpa using hne.1.symm), .inr ⟨by omega, rfl, ?_⟩, by simpa using h.len, ?_, h.fit, h.most⟩
  · have := (h.blk.tw ht (by simpa using hgm)).set_ 2 (.int .i64 ((f + 1) % n : Nat))
    simpa using this
  · have := hb.set_ f (.string { data := #[] })
    rw [set_rowS] at this
    exact Blk.tw (w := (w.setCell ⟨m, f, none⟩ (.string { data := #[] })).drewN d) this ht2 (by simpa using hgm.symm)
  · have := hp.2
    rwa [h.len] at this

set_option maxHeartbeats 800000 in
theorem popS_some {x : ByteArray} (h : RingS w g c A m most n f ys (x :: q) (x :: q).length) :
    Calls Try.prog 15 #[.pointer (some ⟨g, 0, none⟩)] w fun e w' => e = .returned (.tuple #[.string x, .bool true]) ∧ ∃ f' ys', RingS w' g c A m most n f' ys' q q.length ∧ Tw [g, c, m] w w' := by
  have hql := h.ql
  simp only [List.length_cons] at hql
  obtain ⟨hA, _⟩ := h.some_ (by omega)
  subst hA
  have hfit := h.fit
  have hm2 := h.most.2
  have HAT := Lib.hid (atS_any 0 h (by simp))
  go_enter Try.func15, Try.ntmps15
  rw [comm_eq 4]
  go_wp2_with fail
  refine HAT.out.mono ?_
  rintro e w1 ⟨rfl, k, rfl⟩
  have h := h.drewN k
  have ht := (Tw.refl [g, c, m] w).drewN k
  generalize w.drewN k = w1 at h ht ⊢
  clear HAT
  have c0 := h.c0
  obtain ⟨s, r, buf, hc, hb⟩ := h.chn
  have hsome : 0 < buf.size := by rw [hb]; simp
  have h1 : RingS (w1.setChan c most (buf.extract 1 buf.size) false s (r + 1) false) g c (some ⟨m, 0, none⟩) m most n f ys (x :: q) q.length := by
    refine ⟨h.blk.setChan h.ne.1, ⟨s, r + 1, _, heap_setChan_eq hc, by simp [hb]⟩, ?_, h.len, h.lay, h.fit, h.most⟩
    exact h.mem.imp id fun ⟨p, a, b⟩ => ⟨p, a, b.setChan h.ne.2.1⟩
  have ht1 : Tw [g, c, m] w (w1.setChan c most (buf.extract 1 buf.size) false s (r + 1) false) := ht.setChan (by simp)
  clear hb
  go_wp2_with fail
  refine comm_recv (id := 4) (v0 := .pointer (some ⟨g, 0, none⟩)) (v1 := .pointer (some ⟨g, 0, none⟩)) (v2 := .pointer (some ⟨g, 0, none⟩)) rfl rfl rfl rfl rfl ?_ ?_ ?_ ?_ rfl rfl Try.underlying76 (zero_unit w1) hc hsome ?_
  · go_simp
  · go_simp
  · go_simp
  · go_simp
  generalize w1.setChan c most (buf.extract 1 buf.size) false s (r + 1) false = w2 at h1 ht1 ⊢
  clear c0 hc hsome h ht
  have hf : f < n := by rw [← h1.len]; exact h1.lay.lt (by simp)
  have hfI : (f : Int) < (n : Int) := by omega
  have c1 := h1.c1
  have c2 := h1.c2
  obtain ⟨_, hb2⟩ := h1.some_ (by omega)
  have hfy : f < ys.length := by rw [h1.len]; exact hf
  have hx : w2.cell? ⟨m, f, none⟩ = some (.string ys[f]) := by rw [hb2.cell, get_rowS, List.getElem?_eq_getElem hfy]; rfl
  have hxf := hb2.frozen f
  obtain ⟨x0, hx0⟩ : ∃ x0, x0 = ys[f] := ⟨_, rfl⟩
  rw [← hx0] at hx
  clear hx0
  go_wp2_with fail
  go_still_tail 10, (by kernel_rfl)
  change wpList _ _ _ _ _ w2.drew
  have h3 := h1.dr
  have ht3 := ht1.drewN 1
  change Tw _ _ w2.drew at ht3
  have hx3 : w2.drew.cell? ⟨m, f, none⟩ = some (.string x0) := hx
  have hxf3 : w2.drew.frozen? ⟨m, f, none⟩ = false := hxf
  clear hx hxf c1 c2 hb2 h1 ht1
  generalize w2.drew = w3 at h3 ht3 hx3 hxf3 ⊢
  have HR := Lib.hid fun d => popS_end d h3
  have HT := Lib.hid fun d => ((ht3.trans (Tw.setCell w3 ⟨m, f, none⟩ (.string { data := #[] }) (by simp))).drewN d).trans (Tw.setCell _ ⟨g, 2, none⟩ (.int .i64 ((f + 1) % n : Nat)) (by simp))
  have h4 : RingS (w3.setCell ⟨m, f, none⟩ (.string { data := #[] })) g c (some ⟨m, 0, none⟩) m most n f (ys.set f { data := #[] }) ({ data := #[] } :: q) q.length := by
    have ht : Tw [m] w3 (w3.setCell ⟨m, f, none⟩ (.string { data := #[] })) := Tw.setCell _ _ _ (by simp)
    refine ⟨h3.blk.tw ht (by simpa using h3.ne.2.2 (by omega)), h3.chn.tw ht (by simpa using h3.ne.2.1.symm), .inr ⟨by omega, rfl, ?_⟩, by simpa using h3.len, h3.lay.head _, h3.fit, h3.most⟩
    have := (h3.some_ (by omega)).2.set_ f (.string { data := #[] })
    rwa [set_rowS] at this
  have HPL := Lib.hid (placeS_any 1 h4 (by omega) (by omega))
  have d2 := h4.c2
  have e2 := h4.fz 2
  clear h3 ht3 h4 hfy
  obtain ⟨p, hp⟩ : ∃ p, p = (f + 1) % n := ⟨_, rfl⟩
  rw [← hp] at HR HT HPL
  clear hp
  go_wp2_with fail
  refine HPL.out.mono ?_
  rintro e w5 ⟨rfl, d, rfl⟩
  go_wp2_with fail
  go_ret2
  exact ⟨rfl, _, _, HR.out d, HT.out d⟩

set_option maxHeartbeats 800000 in
theorem clearS_any (h : RingS w g c A m most n f ys q q.length) :
    Calls Try.prog 19 #[.pointer (some ⟨g, 0, none⟩)] w fun e w' => e = .returned (.tuple #[]) ∧ ∃ f' ys', RingS w' g c A m most n f' ys' [] 0 ∧ Tw [g, c, m] w w' := by
  have hql := h.ql
  have hfit := h.fit
  have hm2 := h.most.2
  go_enter Try.func19, Try.ntmps19
  go_wp2_with fail
  refine (lenS_any h).mono ?_
  rintro e w1 ⟨rfl, rfl⟩
  go_wp2_with fail
  go_loopw [4] (fun i wr => ∃ (k f' : Nat) (ys' : List ByteArray), k ≤ q.length ∧ i = .int .i64 k ∧ RingS wr g c A m most n f' ys' (q.drop k) (q.drop k).length ∧ Tw [g, c, m] w wr) (fun i _ => q.length - (intOf i).toNat)
  case atStart => exact ⟨0, f, ys, Nat.zero_le _, rfl, by simpa using h, Tw.refl _ _⟩
  case round =>
    obtain ⟨k, f', ys', hk, rfl, hr, ht⟩ := hrel
    by_cases hlt : k < q.length
    · obtain ⟨x, hx⟩ : ∃ x, x = q[k] := ⟨_, rfl⟩
      rw [List.drop_eq_getElem_cons hlt, ← hx] at hr
      have HP := Lib.hid (popS_some hr)
      clear hx hr
      go_wp2_with fail
      refine HP.out.mono ?_
      rintro e w2 ⟨rfl, f2, ys2, hr2, ht2⟩
      go_wp2_with fail
      go_roundw
      case rel => exact ⟨k + 1, f2, ys2, by omega, by go_num, hr2, ht.trans ht2⟩
      case measure => simp [intOf]; omega
    · obtain rfl : k = q.length := by omega
      rw [List.drop_length] at hr
      go_wp2_with fail
      go_end0
      exact ⟨rfl, f', ys', hr, ht⟩
theorem clearS_nil (w : World) :
    Calls Try.prog 19 #[.pointer none] w fun e w' => e = .returned (.tuple #[]) ∧ w = w' := by
  go_enter Try.func19, Try.ntmps19
  go_wp2_with fail
  refine (lenS_nil w).mono ?_
  rintro e w1 ⟨rfl, rfl⟩
  go_wp2_with fail
  go_loopw [4] (fun i wr => i = .int .i64 0 ∧ w = wr) (fun i _ => 0)
  case atStart => exact ⟨rfl, rfl⟩
  case round =>
    obtain ⟨rfl, rfl⟩ := hrel
    go_wp2_with fail
    go_end0
    exact ⟨rfl, rfl⟩
end

end Go.Proofs.Ytlfebfgdgjaidaa
