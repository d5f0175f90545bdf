/-
  Layer 5 (ring): contracts of the code, at fairlead/api.Skip.
-/
import Derived.Test.YtlfebfgdgjaidaaRows
import Derived.Test.YtlfebfgdgjaidaaRgM
import Derived.StillTailTactics
import Derived.RegionTactic
import Derived.Deep.QuietTactic
import Derived.BigQuiet
namespace Go.Proofs.Ytlfebfgdgjaidaa
open Go.RowKit
set_option linter.unusedVariables false

/-- Elements as cells: two an element. -/
def flatP : List (Int × Int) → List Value
  | [] => []
  | x :: r => .int .u16 x.1 :: .int .u16 x.2 :: flatP r
theorem flatP_append (a b : List (Int × Int)) : flatP (a ++ b) = flatP a ++ flatP b := by induction a <;> simp_all [flatP]
theorem flatP_length (a : List (Int × Int)) : (flatP a).length = a.length * 2 := by induction a <;> simp_all [flatP]; omega
theorem flatP_get0 : ∀ (a : List (Int × Int)) (k : Nat), (flatP a)[k * 2]? = (a[k]?).map fun x => Value.int .u16 x.1
  | [], k => by simp [flatP]
  | x :: r, 0 => by simp [flatP]
  | x :: r, k + 1 => by rw [show (k + 1) * 2 = k * 2 + 1 + 1 by omega]; simp [flatP, flatP_get0 r k]
theorem flatP_get1 : ∀ (a : List (Int × Int)) (k : Nat), (flatP a)[k * 2 + 1]? = (a[k]?).map fun x => Value.int .u16 x.2
  | [], k => by simp [flatP]
  | x :: r, 0 => by simp [flatP]
  | x :: r, k + 1 => by rw [show (k + 1) * 2 + 1 = k * 2 + 1 + 1 + 1 by omega]; simp [flatP, flatP_get1 r k]
theorem flatP_set : ∀ (a : List (Int × Int)) (k : Nat) (x : Int × Int), ((flatP a).set (k * 2) (.int .u16 x.1)).set (k * 2 + 1) (.int .u16 x.2) = flatP (a.set k x)
  | [], k, x => by simp [flatP]
  | y :: r, 0, x => by simp [flatP]
  | y :: r, k + 1, x => by rw [show (k + 1) * 2 + 1 = k * 2 + 1 + 1 + 1 by omega, show (k + 1) * 2 = k * 2 + 1 + 1 by omega]; simp [flatP, flatP_set r k x]
theorem flatP_take : ∀ (a : List (Int × Int)) (k : Nat), (flatP a).take (k * 2) = flatP (a.take k)
  | [], k => by simp [flatP]
  | y :: r, 0 => by simp [flatP]
  | y :: r, k + 1 => by rw [show (k + 1) * 2 = k * 2 + 1 + 1 by omega]; simp [flatP, flatP_take r k]
theorem flatP_drop : ∀ (a : List (Int × Int)) (k : Nat), (flatP a).drop (k * 2) = flatP (a.drop k)
  | [], k => by simp [flatP]
  | y :: r, 0 => by simp [flatP]
  | y :: r, k + 1 => by rw [show (k + 1) * 2 = k * 2 + 1 + 1 by omega]; simp [flatP, flatP_drop r k]
theorem flatP_one (a : List (Int × Int)) : ∀ v ∈ flatP a, v.oneCell' = true := by
  induction a with
  | nil => intro v hv; simp [flatP] at hv
  | cons x r ih =>
    intro v hv
    simp only [flatP, List.mem_cons] at hv
    rcases hv with rfl | rfl | hv
    · rfl
    · rfl
    · exact ih v hv
def rowP (ys : List (Int × Int)) : Array Value := (flatP ys).toArray
theorem size_rowP (ys : List (Int × Int)) : (rowP ys).size = ys.length * 2 := by simp [rowP, flatP_length]
theorem get_rowP0 (ys : List (Int × Int)) (k : Nat) : (rowP ys)[k * 2]? = (ys[k]?).map fun x => Value.int .u16 x.1 := by simp [rowP, flatP_get0]
theorem get_rowP1 (ys : List (Int × Int)) (k : Nat) : (rowP ys)[k * 2 + 1]? = (ys[k]?).map fun x => Value.int .u16 x.2 := by simp [rowP, flatP_get1]
theorem set_rowP (ys : List (Int × Int)) (k : Nat) (x : Int × Int) : ((rowP ys).setIfInBounds (k * 2) (.int .u16 x.1)).setIfInBounds (k * 2 + 1) (.int .u16 x.2) = rowP (ys.set k x) := by
  rw [rowP, rowP, ← flatP_set]
  simp
theorem flatP_zero (n : Nat) : flatP (List.replicate n (0, 0)) = List.replicate (n * 2) (Value.int .u16 0) := by
  induction n with
  | zero => rfl
  | succ n ih => rw [show (n + 1) * 2 = n * 2 + 1 + 1 by omega]; simp [List.replicate_succ, flatP, ih]
theorem made_rowP (n : Nat) : madeCells (Value.agg #[.int .u16 0, .int .u16 0]).cells (n * 2) = rowP (List.replicate n (0, 0)) := by
  apply Array.toList_inj.1
  show (madeCells #[.int .u16 0, .int .u16 0] (n * 2)).toList = _
  rw [rowP, flatP_zero, List.eq_replicate_iff]
  refine ⟨by simp [madeCells], fun v hv => ?_⟩
  simp only [madeCells, Array.toList_map, List.mem_map] at hv
  obtain ⟨k, _, rfl⟩ := hv
  rcases Nat.mod_two_eq_zero_or_one k with h | h <;> simp [h]

theorem Try.infoP : (Try.prog.info? 58).map (fun i => (i.zero, i.size, i.bytes)) = some (some (.agg #[.int .u16 0, .int .u16 0]), 2, 4) := by kernel_rfl

/-- A ring: its struct at block g, its tokens at c, its elements at m (none so far: A is nil). -/
structure RingP (w : World) (g c : Nat) (A : Option Addr) (m most n f : Nat) (ys q : List (Int × Int)) (l : Nat) : Prop where
  blk : Blk w g 85 #[.chan (some c), .slice A n n, .int .i64 (f : Nat)]
  chn : Chn w c most l
  mem : (n = 0 ∧ A = none ∧ m = g) ∨ (0 < n ∧ A = some ⟨m, 0, none⟩ ∧ Blk w m 58 (rowP ys))
  len : ys.length = n
  lay : Lay ys f q
  fit : n ≤ most
  most : 1 ≤ most ∧ most ≤ 1048576
section
variable {w w' : World} {g c : Nat} {A : Option Addr} {m most n f l : Nat} {ys q : List (Int × Int)} {S : List Nat}
theorem RingP.tw (h : RingP w g c A m most n f ys q l) (ht : Tw S w w') (hg : g ∉ S) (hc : c ∉ S) (hm : m ∉ S) : RingP w' g c A m most n f ys q l :=
  ⟨h.blk.tw ht hg, h.chn.tw ht hc, h.mem.imp id fun ⟨p, a, b⟩ => ⟨p, a, b.tw ht hm⟩, h.len, h.lay, h.fit, h.most⟩
theorem RingP.below (h : RingP w g c A m most n f ys q l) (hb : Below w.heap.size w w') : RingP w' g c A m most n f ys q l := h.tw (Tw.of_below hb []) (by simp) (by simp) (by simp)
theorem RingP.drewN (h : RingP w g c A m most n f ys q l) (k : Nat) : RingP (w.drewN k) g c A m most n f ys q l := h.tw ((Tw.refl [] w).drewN k) (by simp) (by simp) (by simp)
theorem RingP.dr (h : RingP w g c A m most n f ys q l) : RingP w.drew g c A m most n f ys q l := h.drewN 1
theorem RingP.c0 (h : RingP w g c A m most n f ys q l) : w.cell? ⟨g, 0, none⟩ = some (.chan (some c)) := (h.blk.cell 0).trans rfl
theorem RingP.c1 (h : RingP w g c A m most n f ys q l) : w.cell? ⟨g, 1, none⟩ = some (.slice A n n) := (h.blk.cell 1).trans rfl
theorem RingP.c2 (h : RingP w g c A m most n f ys q l) : w.cell? ⟨g, 2, none⟩ = some (.int .i64 (f : Nat)) := (h.blk.cell 2).trans rfl
theorem RingP.fz (h : RingP w g c A m most n f ys q l) (i : Nat) : w.frozen? ⟨g, i, none⟩ = false := h.blk.frozen i
theorem RingP.ql (h : RingP w g c A m most n f ys q l) : q.length ≤ n := by rw [← h.len]; exact h.lay.le
theorem RingP.some_ (h : RingP w g c A m most n f ys q l) (hn : 0 < n) : A = some ⟨m, 0, none⟩ ∧ Blk w m 58 (rowP ys) := by
  rcases h.mem with ⟨e, _⟩ | h
  · omega
  · exact h.2
theorem RingP.lt (h : RingP w g c A m most n f ys q l) : g < w.heap.size ∧ c < w.heap.size ∧ m < w.heap.size := by
  refine ⟨h.blk.lt, h.chn.lt, ?_⟩
  rcases h.mem with ⟨_, _, rfl⟩ | ⟨_, _, hb⟩
  · exact h.blk.lt
  · exact hb.lt
theorem RingP.ne (h : RingP w g c A m most n f ys q l) : g ≠ c ∧ m ≠ c ∧ (0 < n → g ≠ m) := by
  refine ⟨h.chn.ne h.blk, ?_, fun hn => h.blk.ne_ (h.some_ hn).2 (by decide)⟩
  rcases h.mem with ⟨_, _, rfl⟩ | ⟨_, _, hb⟩
  · exact h.chn.ne h.blk
  · exact h.chn.ne hb
theorem RingP.len_ (h : RingP w g c A m most n f ys q l) (ty : TypeId) : (Builtin.len_ #[76] ty #[.chan (some c)]).run Try.prog w = .ok (.int .i64 (l : Nat)) w := by
  obtain ⟨s, r, buf, hc, hb⟩ := h.chn
  rw [← hb]
  exact Conc.run_len_chan (P := Try.prog) 76 ty Try.underlying76 hc
theorem RingP.cap_ (h : RingP w g c A m most n f ys q l) (ty : TypeId) : (Builtin.cap_ #[76] ty #[.chan (some c)]).run Try.prog w = .ok (.int .i64 (most : Nat)) w := by
  obtain ⟨s, r, buf, hc, hb⟩ := h.chn
  exact Conc.run_cap_chan (P := Try.prog) 76 ty Try.underlying76 hc
end

theorem newP_any (most : Nat) (w : World) (hm : 1 ≤ most ∧ most ≤ 1048576) :
    Calls Try.prog 27 #[.int .i64 (most : Nat)] w fun e w' => e = .returned (.tuple #[.pointer (some ⟨w.heap.size + 1, 0, none⟩), .int .i64 0]) ∧ RingP w' (w.heap.size + 1) w.heap.size none (w.heap.size + 1) most 0 0 [] [] 0 ∧ Below w.heap.size w w' := by
  have hm' := hm
  obtain ⟨h1, h2⟩ := hm
  have hmc := mkChan_any most w h2
  have H2 := Lib.hid hm'
  clear hm'
  go_enter Try.func27, Try.ntmps27
  go_wp2
  go_ret2
  refine ⟨by simp, ⟨?_, ⟨0, 0, #[], ?_, rfl⟩, .inl ⟨rfl, rfl, rfl⟩, rfl, Lay.nil, Nat.zero_le _, H2.out⟩, (below_new w _).trans ((below_new _ _).mono (by simp))⟩
  · have := Blk.new (w.alloc (.chan most #[] false 0 0 false)) 85 #[.chan (some w.heap.size), .slice none 0 0, .int .i64 0]
    simpa using this
  · rw [Below.heap_alloc _ _ _ (by simp)]
    exact heap_alloc_new w _

section
variable {w w' : World} {g c : Nat} {A : Option Addr} {m most n f l p : Nat} {ys q : List (Int × Int)}

theorem lenP_any (h : RingP w g c A m most n f ys q l) :
    Calls Try.prog 30 #[.pointer (some ⟨g, 0, none⟩)] w fun e w' => e = .returned (.int .i64 (l : Nat)) ∧ w = w' := by
  have c0 := h.c0
  have hl := h.len_
  go_enter Try.func30, Try.ntmps30
  go_wp2
  go_ret
  exact ⟨rfl, rfl⟩

theorem placeP_any (i : Nat) (h : RingP w g c A m most n f ys q l) (hi : i ≤ 1048576) (hn : 0 < n) :
    Calls Try.prog 47 #[.pointer (some ⟨g, 0, none⟩), .int .i64 (i : Nat)] w fun e w' => e = .returned (.int .i64 (((f + i) % n : Nat))) ∧ ∃ k, w' = w.drewN k := by
  have c1 := h.c1
  have c2 := h.c2
  have hmost := h.most.2
  have hfit := h.fit
  have hf : f ≤ 1048576 := by
    rcases h.lay.2.1 with hf | ⟨_, hf⟩
    · rw [h.len] at hf; omega
    · omega
  have hres : (((f : Nat) : Int) + (i : Nat)) % ((n : Nat) : Int) = (((f + i) % n : Nat) : Int) := by simp
  have HR := Lib.hid hres
  have hne : ((n : Int) == 0) = false := by rw [beq_eq_false_iff_ne]; omega
  clear hres
  go_enter Try.func47, Try.ntmps47
  go_wp2
  go_quiet (fail)
  go_wp2
  go_ret
  exact ⟨ret_int HR.out, _, rfl⟩


theorem mkP_run (x : Int) (N : Nat) (hx : x = N) (hN : N ≤ 1048576) (W : World) : (Instr.makeSlice 52 (.int .i64 x) (.int .i64 x)).run Try.prog W = .ok (.slice (some ⟨W.heap.size, 0, none⟩) N N) (W.alloc (.cells (rowP (List.replicate N ((0, 0) : Int × Int))) 58)) := by
  subst hx
  obtain ⟨i0, hi, hz0, hz1, hz2⟩ := info_parts Try.infoP
  have h := run_make (P := Try.prog) W 52 58 i0 _ Try.underlying52 hi hz0 .i64 .i64 N N (by omega) (by omega) (by rw [hz2]; omega) (by omega)
  simp only [Int.toNat_natCast, hz1] at h
  rw [made_rowP] at h
  exact h
theorem sizeP : ((Try.prog.info? 58).map (·.size)).isSome = true := by
  obtain ⟨i0, hi, hz0, hz1, hz2⟩ := info_parts Try.infoP
  rw [hi]; rfl
/-- copy of elements of any size, into a row that is known. -/
theorem run_copy_rows {P : Program} (w : World) (dT sT ty elem : TypeId) (size k g o dLen dCap : Nat) (a : Addr) (sLen sCap : Nat) (cur : Array Value) (t : TypeId) (cs : List Value)
    (hu : P.underlying dT = some (.slice elem)) (hs : (P.info? elem).map (·.size) = some size)
    (hg : w.heap[g]? = some (.cells cur t (0, 0))) (hn : k = Nat.min sLen dLen) (hcs : cs.length = k * size)
    (hsrc : ∀ j v, cs[j]? = some v → w.cell? (a.add j) = some v) (hfit : o + cs.length ≤ cur.size) (h1 : ∀ v ∈ cs, v.oneCell' = true) :
    (Builtin.copy_ #[dT, sT] ty #[.slice (some ⟨g, o, none⟩) dLen dCap, .slice (some a) sLen sCap]).run P w =
      .ok (goInt k) (w.setRow g (cur.toList.take o ++ cs ++ cur.toList.drop (o + cs.length)).toArray) := by
  have hl := run_firstCells_some (P := P) w size k a sLen sCap cs hcs hsrc
  have hst := run_storeCells_at P g o t cs 0 cur w hg (by simpa using hfit) h1
  cases hq : P.info? elem with
  | none => simp [hq] at hs
  | some i =>
    have hi : i.size = size := by simpa [hq] using hs
    simp [Builtin.copy_, run_underlying hu, Builtin.lenOf, sizeOf, typeInfo, hq, hi, ← hn, hl, hst]
theorem copyP_run {W : World} {g m : Nat} {zs ys : List (Int × Int)} (ty : TypeId) (o dl dc o' sl sc : Nat) (xs zs' : List (Int × Int)) (hg : Blk W g 58 (rowP zs)) (hm : Blk W m 58 (rowP ys)) (hs : sl ≤ dl) (hx : xs = (ys.drop o').take sl) (hl : xs.length = sl) (hf : o + sl ≤ zs.length) (hz : zs' = zs.take o ++ xs ++ zs.drop (o + sl)) :
    (Builtin.copy_ #[52, 52] ty #[.slice (some ⟨g, o * 2, none⟩) dl dc, .slice (some ⟨m, o' * 2, none⟩) sl sc]).run Try.prog W = .ok (.int .i64 (sl : Nat)) (W.setRow g (rowP zs')) := by
  subst hz
  obtain ⟨i0, hi, hz0, hz1, hz2⟩ := info_parts Try.infoP
  have h := run_copy_rows (P := Try.prog) W 52 52 ty 58 2 sl g (o * 2) dl dc ⟨m, o' * 2, none⟩ sl sc (rowP zs) 58 (flatP xs) Try.underlying52 (by rw [hi]; simp [hz1]) hg (Nat.min_eq_left hs).symm (by rw [flatP_length, hl])
    (by
      intro j v hv
      rw [Addr.add_lit, hm.cell]
      have hj : j < sl * 2 := by
        rcases Nat.lt_or_ge j (sl * 2) with h | h
        · exact h
        · rw [List.getElem?_eq_none (by rw [flatP_length, hl]; exact h)] at hv; cases hv
      rw [hx, ← flatP_take, ← flatP_drop, List.getElem?_take_of_lt hj, List.getElem?_drop] at hv
      simpa [rowP] using hv)
    (by rw [flatP_length, size_rowP, hl]; omega) (flatP_one xs)
  rw [h, flatP_length, hl]
  congr 2
  rw [show o * 2 + sl * 2 = (o + sl) * 2 by omega]
  simp [rowP, flatP_append, flatP_take, flatP_drop]

theorem growP_end {G N : Nat} {zs : List (Int × Int)} (h : RingP w g c A m most n f ys q l) (hb : Blk w G 58 (rowP zs)) (hg : g ≠ G) (hl : Lay zs 0 q) (hz : zs.length = N) (hp : 0 < N) (hN : N ≤ most) :
    RingP ((w.setCell ⟨g, 1, none⟩ (.slice (some ⟨G, 0, none⟩) N N)).setCell ⟨g, 2, none⟩ (.int .i64 0)) g c (some ⟨G, 0, none⟩) G most N 0 zs q l := by
  have ht : Tw [g] w ((w.setCell ⟨g, 1, none⟩ (.slice (some ⟨G, 0, none⟩) N N)).setCell ⟨g, 2, none⟩ (.int .i64 0)) := (Tw.setCell w _ _ (by simp)).trans (Tw.setCell _ _ _ (by simp))
  refine ⟨?_, h.chn.tw ht (by simp; exact h.ne.1.symm), .inr ⟨hp, rfl, hb.tw ht (by simp; exact hg.symm)⟩, hz, hl, hN, h.most⟩
  have := (h.blk.set_ 1 (.slice (some ⟨G, 0, none⟩) N N)).set_ 2 (.int .i64 0)
  simpa using this

set_option maxHeartbeats 800000 in
theorem growP_any (h : RingP w g c A m most n f ys q l) (hq : q.length = n) (hlt : n < most) :
    Calls Try.prog 46 #[.pointer (some ⟨g, 0, none⟩)] w fun e w' => e = .returned (.tuple #[]) ∧ ∃ n' ys', n < n' ∧ RingP w' g c (some ⟨w.heap.size, 0, none⟩) w.heap.size most n' 0 ys' q l ∧ Tw [g] w w' := by
  have c0 := h.c0
  have c1 := h.c1
  have c2 := h.c2
  have hcap := h.dr.cap_
  have hmost := h.most.1
  have hm2 := h.most.2
  have hfit := h.fit
  rcases (show n = 0 ∨ 0 < n by omega) with rfl | hn
  · have hmk := mkP_run 1 1 rfl (by omega)
    have h1 : ¬ ((most : Int) < 1) := by omega
    have hyl := List.eq_nil_of_length_eq_zero h.len
    subst hyl
    have hql := List.eq_nil_of_length_eq_zero hq
    subst hql
    obtain rfl : f = 0 := by
      rcases h.lay.2.1 with hf | ⟨_, hf⟩
      · simp at hf
      · exact hf
    obtain rfl : A = none := by
      rcases h.mem with ⟨_, h, _⟩ | ⟨h, _⟩
      · exact h
      · omega
    go_enter Try.func46, Try.ntmps46
    go_wp2
    go_region
    clear hmk h1 hcap
    have hr1 := (h.below (below_new w (.cells (rowP [((0, 0) : Int × Int)]) 58))).dr
    have hb1 : Blk (w.alloc (.cells (rowP [((0, 0) : Int × Int)]) 58)).drew w.heap.size 58 (rowP [((0, 0) : Int × Int)]) := Blk.new w _ _
    have ht1 : Tw [g] w (w.alloc (.cells (rowP [((0, 0) : Int × Int)]) 58)).drew := (Tw.alloc w _ [g]).drewN 1
    have hgm := h.lt
    obtain ⟨G, hG⟩ : ∃ G, G = w.heap.size := ⟨_, rfl⟩
    rw [← hG] at hb1 hgm ⊢
    have hgG : g ≠ G := by omega
    have HG := Lib.hid hG
    clear hG
    generalize (w.alloc (.cells (rowP [((0, 0) : Int × Int)]) 58)).drew = w1 at hr1 hb1 ht1 ⊢
    clear c0 c1 c2
    have c1 := hr1.c1
    have c2 : w1.cell? ⟨g, 2, none⟩ = some (.int .i64 0) := hr1.c2
    have hcp := fun ty W => run_copy_nil (P := Try.prog) W 52 52 ty 58 ⟨G, 0, none⟩ 1 1 Try.underlying52 sizeP
    have HCP := Lib.hid hcp
    clear hcp
    go_wp2
    go_still_tail 10, (by kernel_rfl)
    refine wpList_copy_run rfl _ _ 52 rfl (.slice (some ⟨G, 0, none⟩) 1 1) (.slice none 0 0) (.int .i64 0) rfl rfl _ rfl (HCP.out _ w1.drew) ?_
    have hr2 := hr1.dr
    have hb2 := hb1.drewN 1
    have ht2 := ht1.drewN 1
    clear hr1 hb1 ht1 c1 c2
    change Blk w1.drew _ _ _ at hb2
    change Tw _ _ w1.drew at ht2
    generalize w1.drew = w2 at hr2 hb2 ht2 ⊢
    have c1 := hr2.c1
    have c2 : w2.cell? ⟨g, 2, none⟩ = some (.int .i64 0) := hr2.c2
    go_wp2
    go_still_tail 12, (by kernel_rfl)
    refine wpList_copy_run rfl _ _ 52 rfl (.slice (some ⟨G, 0, none⟩) 1 1) (.slice none 0 0) (.int .i64 0) rfl rfl _ rfl (HCP.out _ w2.drew) ?_
    have hr3 := hr2.dr
    have hb3 := hb2.drewN 1
    have ht3 := ht2.drewN 1
    clear hr2 hb2 ht2 c1 c2
    change Blk w2.drew _ _ _ at hb3
    change Tw _ _ w2.drew at ht3
    generalize w2.drew = w3 at hr3 hb3 ht3 ⊢
    have c1 := hr3.c1
    have c2 : w3.cell? ⟨g, 2, none⟩ = some (.int .i64 0) := hr3.c2
    have f1 := hr3.fz 1
    have f2 := hr3.fz 2
    have HR := Lib.hid (growP_end (N := 1) hr3 hb3 hgG ⟨by simp, .inl (by simp), fun j hj => absurd hj (by simp)⟩ (by simp) (by omega) hmost)
    have ht4 := Lib.hid ((ht3.trans (Tw.setCell w3 ⟨g, 1, none⟩ (.slice (some ⟨G, 0, none⟩) 1 1) (by simp))).trans (Tw.setCell _ ⟨g, 2, none⟩ (.int .i64 0) (by simp)))
    clear hr3 hb3 ht3
    go_wp2
    go_end0
    refine ⟨rfl, 1, [((0, 0) : Int × Int)], by omega, ?_, ht4.out⟩
    rw [← HG.out]
    exact HR.out
  · have h2 : ¬ (2 * (n : Int) < 1) := by omega
    have hf : f < n := by rw [← h.len]; exact h.lay.lt (by omega)
    obtain ⟨hA, hb⟩ := h.some_ hn
    subst hA
    rcases (show 2 * n ≤ most ∨ most < 2 * n by omega) with hh | hh
    · obtain ⟨N, hN⟩ : ∃ N, N = 2 * n := ⟨_, rfl⟩
      have hmk := mkP_run (2 * (n : Int)) N (by omega) (by omega)
      have h1 : ¬ ((most : Int) < 2 * (n : Int)) := by omega
      have hnN : n < N := by omega
      have hNm : N ≤ most := by omega
      clear hN
      go_enter Try.func46, Try.ntmps46
      go_wp2
      go_region
      clear hmk h1 h2 hh hcap
      have hr1 := (h.below (below_new w (.cells (rowP (List.replicate N ((0, 0) : Int × Int))) 58))).dr
      have hb1 : Blk (w.alloc (.cells (rowP (List.replicate N ((0, 0) : Int × Int))) 58)).drew w.heap.size 58 (rowP (List.replicate N ((0, 0) : Int × Int))) := Blk.new w _ _
      have ht1 : Tw [g] w (w.alloc (.cells (rowP (List.replicate N ((0, 0) : Int × Int))) 58)).drew := (Tw.alloc w _ [g]).drewN 1
      have hgm := h.lt
      obtain ⟨G, hG⟩ : ∃ G, G = w.heap.size := ⟨_, rfl⟩
      rw [← hG] at hb1 hgm ⊢
      have hgG : g ≠ G := by omega
      have hcG : c ≠ G := by omega
      have hmG : m ≠ G := by omega
      have HG := Lib.hid hG
      have hfn : f ≤ n := by omega
      have hnf : ¬ n = f := by omega
      obtain ⟨k, hk⟩ : ∃ k, k = n - f := ⟨_, rfl⟩
      have hkN : k ≤ N := by omega
      have hNk : ¬ N = k := by omega
      have HK := Lib.hid hk
      clear hG hk
      generalize (w.alloc (.cells (rowP (List.replicate N ((0, 0) : Int × Int))) 58)).drew = w1 at hr1 hb1 ht1 ⊢
      have hm1 := (hr1.some_ hn).2
      clear hb c0 c1 c2
      have c1 := hr1.c1
      have c2 := hr1.c2
      have HLQ := Lib.hid h.len
      obtain ⟨z1, hz1⟩ : ∃ z1, z1 = ys.drop f ++ List.replicate (N - k) ((0, 0) : Int × Int) := ⟨_, rfl⟩
      have hz1l : z1.length = N := by have := HLQ.out; have := HK.out; rw [hz1]; simp; omega
      have HZ1 := Lib.hid hz1
      have HZ1L := Lib.hid hz1l
      have hcp1 := Lib.hid fun ty => copyP_run ty (W := w1.drew) 0 N N f (n - f) (n - f) (ys.drop f) z1 (hb1.drewN 1) (hm1.drewN 1) (by omega) (by rw [List.take_of_length_le (by simp; have := HLQ.out; omega)]) (by simp; have := HLQ.out; omega) (by simp; omega) (by rw [hz1]; simp; have := HK.out; omega)
      rw [← HK.out] at hcp1
      clear hz1 hz1l
      go_wp2
      go_still_tail 10, (by kernel_rfl)
      refine wpList_copy_run rfl _ _ 52 rfl (.slice (some ⟨G, 0, none⟩) N N) (.slice (some ⟨m, f * 2, none⟩) k k) (.int .i64 (k : Nat)) rfl (by rw [HK.out]; rfl) _ rfl (hcp1.out _) ?_
      have hr2 : RingP (w1.drew.setRow G (rowP z1)) g c (some ⟨m, 0, none⟩) m most n f ys q l := hr1.tw (S := [G]) (Tw.setRow ((Tw.refl [G] w1).drewN 1) G _ (by simp)) (by simpa using hgG) (by simpa using hcG) (by simpa using hmG)
      have hb2 : Blk (w1.drew.setRow G (rowP z1)) G 58 (rowP z1) := Blk.setRow (hb1.drewN 1) _
      have ht2 : Tw [g] w (w1.drew.setRow G (rowP z1)) := Tw.setRow_new (ht1.drewN 1) G _ (by rw [HG.out]; exact Nat.le_refl _)
      clear hr1 hb1 ht1 hm1 hcp1 c1 c2
      generalize w1.drew.setRow G (rowP z1) = w2 at hr2 hb2 ht2 ⊢
      have hm2 := (hr2.some_ hn).2
      have c1 := hr2.c1
      have c2 := hr2.c2
      obtain ⟨z2, hz2⟩ : ∃ z2, z2 = ys.drop f ++ ys.take f ++ List.replicate (N - n) ((0, 0) : Int × Int) := ⟨_, rfl⟩
      have HZ2 := Lib.hid hz2
      have hcp2 := Lib.hid fun ty => copyP_run ty (W := w2.drew) k (N - k) (N - k) 0 f n (ys.take f) z2 (hb2.drewN 1) (hm2.drewN 1) (by have := HK.out; omega) (by simp) (by simp; have := HLQ.out; omega) (by rw [HZ1L.out]; have := HK.out; omega)
        (by
          have h1 := HK.out
          have h2 := HLQ.out
          rw [hz2, HZ1.out, List.take_left' (by simp; omega), drop_row _ h2 h1 hfn])
      clear hz2
      go_wp2
      go_still_tail 12, (by kernel_rfl)
      refine wpList_copy_run rfl _ _ 52 rfl (.slice (some ⟨G, k * 2, none⟩) (N - k) (N - k)) (.slice (some ⟨m, 0, none⟩) f n) (.int .i64 (f : Nat)) rfl rfl _ rfl (hcp2.out _) ?_
      have hr3 : RingP (w2.drew.setRow G (rowP z2)) g c (some ⟨m, 0, none⟩) m most n f ys q l := hr2.tw (S := [G]) (Tw.setRow ((Tw.refl [G] w2).drewN 1) G _ (by simp)) (by simpa using hgG) (by simpa using hcG) (by simpa using hmG)
      have hb3 : Blk (w2.drew.setRow G (rowP z2)) G 58 (rowP z2) := Blk.setRow (hb2.drewN 1) _
      have ht3 : Tw [g] w (w2.drew.setRow G (rowP z2)) := Tw.setRow_new (ht2.drewN 1) G _ (by rw [HG.out]; exact Nat.le_refl _)
      clear hr2 hb2 ht2 hm2 hcp2 c1 c2
      generalize w2.drew.setRow G (rowP z2) = w3 at hr3 hb3 ht3 ⊢
      have c1 := hr3.c1
      have c2 := hr3.c2
      have f1 := hr3.fz 1
      have f2 := hr3.fz 2
      have HR := Lib.hid (growP_end hr3 hb3 hgG (by rw [HZ2.out]; exact Lay.grow (h.lay) (by rw [h.len]; exact hq) _ (by simp; omega)) (by rw [HZ2.out]; have := HLQ.out; simp; omega) (by omega) hNm)
      have ht4 := Lib.hid ((ht3.trans (Tw.setCell w3 ⟨g, 1, none⟩ (.slice (some ⟨G, 0, none⟩) N N) (by simp))).trans (Tw.setCell _ ⟨g, 2, none⟩ (.int .i64 0) (by simp)))
      clear hr3 hb3 ht3
      go_wp2
      go_end0
      refine ⟨rfl, N, z2, hnN, ?_, ht4.out⟩
      rw [← HG.out]
      exact HR.out
    · obtain ⟨N, hN⟩ : ∃ N, N = most := ⟨_, rfl⟩
      have hmk := mkP_run (most : Int) N (by omega) (by omega)
      have h1 : ((most : Int) < 2 * (n : Int)) := by omega
      have hnN : n < N := by omega
      have hNm : N ≤ most := by omega
      clear hN
      go_enter Try.func46, Try.ntmps46
      go_wp2
      go_region
      clear hmk h1 h2 hh hcap
      have hr1 := (h.below (below_new w (.cells (rowP (List.replicate N ((0, 0) : Int × Int))) 58))).dr
      have hb1 : Blk (w.alloc (.cells (rowP (List.replicate N ((0, 0) : Int × Int))) 58)).drew w.heap.size 58 (rowP (List.replicate N ((0, 0) : Int × Int))) := Blk.new w _ _
      have ht1 : Tw [g] w (w.alloc (.cells (rowP (List.replicate N ((0, 0) : Int × Int))) 58)).drew := (Tw.alloc w _ [g]).drewN 1
      have hgm := h.lt
      obtain ⟨G, hG⟩ : ∃ G, G = w.heap.size := ⟨_, rfl⟩
      rw [← hG] at hb1 hgm ⊢
      have hgG : g ≠ G := by omega
      have hcG : c ≠ G := by omega
      have hmG : m ≠ G := by omega
      have HG := Lib.hid hG
      have hfn : f ≤ n := by omega
      have hnf : ¬ n = f := by omega
      obtain ⟨k, hk⟩ : ∃ k, k = n - f := ⟨_, rfl⟩
      have hkN : k ≤ N := by omega
      have hNk : ¬ N = k := by omega
      have HK := Lib.hid hk
      clear hG hk
      generalize (w.alloc (.cells (rowP (List.replicate N ((0, 0) : Int × Int))) 58)).drew = w1 at hr1 hb1 ht1 ⊢
      have hm1 := (hr1.some_ hn).2
      clear hb c0 c1 c2
      have c1 := hr1.c1
      have c2 := hr1.c2
      have HLQ := Lib.hid h.len
      obtain ⟨z1, hz1⟩ : ∃ z1, z1 = ys.drop f ++ List.replicate (N - k) ((0, 0) : Int × Int) := ⟨_, rfl⟩
      have hz1l : z1.length = N := by have := HLQ.out; have := HK.out; rw [hz1]; simp; omega
      have HZ1 := Lib.hid hz1
      have HZ1L := Lib.hid hz1l
      have hcp1 := Lib.hid fun ty => copyP_run ty (W := w1.drew) 0 N N f (n - f) (n - f) (ys.drop f) z1 (hb1.drewN 1) (hm1.drewN 1) (by omega) (by rw [List.take_of_length_le (by simp; have := HLQ.out; omega)]) (by simp; have := HLQ.out; omega) (by simp; omega) (by rw [hz1]; simp; have := HK.out; omega)
      rw [← HK.out] at hcp1
      clear hz1 hz1l
      go_wp2
      go_still_tail 10, (by kernel_rfl)
      refine wpList_copy_run rfl _ _ 52 rfl (.slice (some ⟨G, 0, none⟩) N N) (.slice (some ⟨m, f * 2, none⟩) k k) (.int .i64 (k : Nat)) rfl (by rw [HK.out]; rfl) _ rfl (hcp1.out _) ?_
      have hr2 : RingP (w1.drew.setRow G (rowP z1)) g c (some ⟨m, 0, none⟩) m most n f ys q l := hr1.tw (S := [G]) (Tw.setRow ((Tw.refl [G] w1).drewN 1) G _ (by simp)) (by simpa using hgG) (by simpa using hcG) (by simpa using hmG)
      have hb2 : Blk (w1.drew.setRow G (rowP z1)) G 58 (rowP z1) := Blk.setRow (hb1.drewN 1) _
      have ht2 : Tw [g] w (w1.drew.setRow G (rowP z1)) := Tw.setRow_new (ht1.drewN 1) G _ (by rw [HG.out]; exact Nat.le_refl _)
      clear hr1 hb1 ht1 hm1 hcp1 c1 c2
      generalize w1.drew.setRow G (rowP z1) = w2 at hr2 hb2 ht2 ⊢
      have hm2 := (hr2.some_ hn).2
      have c1 := hr2.c1
      have c2 := hr2.c2
      obtain ⟨z2, hz2⟩ : ∃ z2, z2 = ys.drop f ++ ys.take f ++ List.replicate (N - n) ((0, 0) : Int × Int) := ⟨_, rfl⟩
      have HZ2 := Lib.hid hz2
      have hcp2 := Lib.hid fun ty => copyP_run ty (W := w2.drew) k (N - k) (N - k) 0 f n (ys.take f) z2 (hb2.drewN 1) (hm2.drewN 1) (by have := HK.out; omega) (by simp) (by simp; have := HLQ.out; omega) (by rw [HZ1L.out]; have := HK.out; omega)
        (by
          have h1 := HK.out
          have h2 := HLQ.out
          rw [hz2, HZ1.out, List.take_left' (by simp; omega), drop_row _ h2 h1 hfn])
      clear hz2
      go_wp2
      go_still_tail 12, (by kernel_rfl)
      refine wpList_copy_run rfl _ _ 52 rfl (.slice (some ⟨G, k * 2, none⟩) (N - k) (N - k)) (.slice (some ⟨m, 0, none⟩) f n) (.int .i64 (f : Nat)) rfl rfl _ rfl (hcp2.out _) ?_
      have hr3 : RingP (w2.drew.setRow G (rowP z2)) g c (some ⟨m, 0, none⟩) m most n f ys q l := hr2.tw (S := [G]) (Tw.setRow ((Tw.refl [G] w2).drewN 1) G _ (by simp)) (by simpa using hgG) (by simpa using hcG) (by simpa using hmG)
      have hb3 : Blk (w2.drew.setRow G (rowP z2)) G 58 (rowP z2) := Blk.setRow (hb2.drewN 1) _
      have ht3 : Tw [g] w (w2.drew.setRow G (rowP z2)) := Tw.setRow_new (ht2.drewN 1) G _ (by rw [HG.out]; exact Nat.le_refl _)
      clear hr2 hb2 ht2 hm2 hcp2 c1 c2
      generalize w2.drew.setRow G (rowP z2) = w3 at hr3 hb3 ht3 ⊢
      have c1 := hr3.c1
      have c2 := hr3.c2
      have f1 := hr3.fz 1
      have f2 := hr3.fz 2
      have HR := Lib.hid (growP_end hr3 hb3 hgG (by rw [HZ2.out]; exact Lay.grow (h.lay) (by rw [h.len]; exact hq) _ (by simp; omega)) (by rw [HZ2.out]; have := HLQ.out; simp; omega) (by omega) hNm)
      have ht4 := Lib.hid ((ht3.trans (Tw.setCell w3 ⟨g, 1, none⟩ (.slice (some ⟨G, 0, none⟩) N N) (by simp))).trans (Tw.setCell _ ⟨g, 2, none⟩ (.int .i64 0) (by simp)))
      clear hr3 hb3 ht3
      go_wp2
      go_end0
      refine ⟨rfl, N, z2, hnN, ?_, ht4.out⟩
      rw [← HG.out]
      exact HR.out


theorem putP_end {x : Int × Int} (h : RingP w g c (some ⟨m, 0, none⟩) m most n f ys q l) (hl : q.length < n) (hp : (f + q.length) % n = p) :
    RingP ((w.setCell ⟨m, p * 2, none⟩ (.int .u16 x.1)).setCell ⟨m, p * 2 + 1, none⟩ (.int .u16 x.2)) g c (some ⟨m, 0, none⟩) m most n f (ys.set p x) (q ++ [x]) l := by
  subst hp
  obtain ⟨_, hb⟩ := h.some_ (by omega)
  have hne := h.ne
  have hgm := hne.2.2 (by omega)
  have ht : Tw [m] w ((w.setCell ⟨m, (f + q.length) % n * 2, none⟩ (.int .u16 x.1)).setCell ⟨m, (f + q.length) % n * 2 + 1, none⟩ (.int .u16 x.2)) := (Tw.setCell w _ _ (by simp)).trans (Tw.setCell _ _ _ (by simp))
  refine ⟨h.blk.tw ht (by simpa using hgm), h.chn.tw ht (by simpa using hne.2.1.symm), .inr ⟨by omega, rfl, ?_⟩, by simpa using h.len, ?_, h.fit, h.most⟩
  · have := (hb.set_ ((f + q.length) % n * 2) (.int .u16 x.1)).set_ ((f + q.length) % n * 2 + 1) (.int .u16 x.2)
    rwa [set_rowP] at this
  · have := h.lay.push (by rw [h.len]; exact hl) x
    rwa [h.len] at this

set_option maxHeartbeats 800000 in
theorem pushP_full (x : Int × Int) (h : RingP w g c A m most n f ys q q.length) (hq : q.length = most) :
    Calls Try.prog 28 #[.pointer (some ⟨g, 0, none⟩), .agg #[.int .u16 x.1, .int .u16 x.2]] w fun e w' => e = .returned (.bool false) ∧ Below w.heap.size w w' := by
  have hb0 := below_new w (.cells #[.int .u16 x.1, .int .u16 x.2] 58)
  have h := h.below hb0
  go_enter Try.func28, Try.ntmps28
  rw [comm_eq 6]
  go_wp2_with fail
  generalize w.alloc (.cells #[.int .u16 x.1, .int .u16 x.2] 58) = w0 at h hb0 ⊢
  have c0 := h.c0
  obtain ⟨s, r, buf, hc, hb⟩ := h.chn
  have hfull : most ≤ buf.size := by omega
  refine (lenP_any h).mono ?_
  rintro e w1 ⟨rfl, rfl⟩
  go_wp2_with fail
  refine comm_full (id := 6) (v := .agg #[]) rfl rfl rfl rfl (zero_unit w0) hc hfull ?_
  go_wp2_with fail
  go_ret
  exact ⟨rfl, hb0⟩

set_option maxHeartbeats 1600000 in
theorem pushP_room (x : Int × Int) (h : RingP w g c A m most n f ys q q.length) (hq : q.length < most) :
    Calls Try.prog 28 #[.pointer (some ⟨g, 0, none⟩), .agg #[.int .u16 x.1, .int .u16 x.2]] w fun e w' => e = .returned (.bool true) ∧ ∃ A' m' n' f' ys', RingP w' g c A' m' most n' f' ys' (q ++ [x]) (q ++ [x]).length ∧ (m' = m ∨ w.heap.size ≤ m') ∧ Tw [g, c, m] w w' := by
  have hgl := h.lt
  have h := h.below (below_new w (.cells #[.int .u16 x.1, .int .u16 x.2] 58))
  have hbx := Blk.new w 58 #[.int .u16 x.1, .int .u16 x.2]
  have ht0 : Tw [g, c, m] w (w.alloc (.cells #[.int .u16 x.1, .int .u16 x.2] 58)) := Tw.alloc w _ _
  have hlq : (q ++ [x]).length = q.length + 1 := by simp
  have HLQ := Lib.hid hlq
  obtain ⟨a, ha⟩ : ∃ a, a = x.1 := ⟨_, rfl⟩
  obtain ⟨b, hb'⟩ : ∃ b, b = x.2 := ⟨_, rfl⟩
  have HX := Lib.hid (show x = (a, b) from by rw [ha, hb'])
  clear hlq
  rw [← ha, ← hb'] at h hbx ht0 ⊢
  clear ha hb'
  go_enter Try.func28, Try.ntmps28
  rw [comm_eq 6]
  go_wp2_with fail
  obtain ⟨X, hX⟩ : ∃ X, X = w.heap.size := ⟨_, rfl⟩
  rw [← hX] at hbx hgl ⊢
  have hX1 : X ≠ g ∧ X ≠ c ∧ X ≠ m := by omega
  have hwX : w.heap.size ≤ X := by omega
  clear hX
  generalize w.alloc (.cells #[.int .u16 a, .int .u16 b] 58) = w0 at h hbx ht0 ⊢
  have c0 := h.c0
  obtain ⟨s, r, buf, hc, hb⟩ := h.chn
  have hroom : buf.size < most := by omega
  have hfit := h.fit
  have hm2 := h.most.2
  have hn1 := h.ql
  have h1 : RingP (w0.setChan c most (buf.push (.agg #[])) false (s + 1) r false) g c A m most n f ys q (q.length + 1) := by
    refine ⟨h.blk.setChan h.ne.1, ⟨s + 1, r, _, heap_setChan_eq hc, by simp [hb]⟩, ?_, h.len, h.lay, h.fit, h.most⟩
    exact h.mem.imp id fun ⟨p, a, b⟩ => ⟨p, a, b.setChan h.ne.2.1⟩
  have hbx1 : Blk (w0.setChan c most (buf.push (.agg #[])) false (s + 1) r false) X 58 #[.int .u16 a, .int .u16 b] := hbx.setChan hX1.2.1
  have ht1 : Tw [g, c, m] w (w0.setChan c most (buf.push (.agg #[])) false (s + 1) r false) := ht0.setChan (by simp)
  refine (lenP_any h).mono ?_
  rintro e w1 ⟨rfl, rfl⟩
  go_wp2_with fail
  refine comm_room (id := 6) (v := .agg #[]) rfl rfl rfl rfl (zero_unit w0) hc hroom ?_
  generalize w0.setChan c most (buf.push (.agg #[])) false (s + 1) r false = w1 at h1 ht1 hbx1 ⊢
  have hlt := h1.lt
  have hsz := ht1.size
  clear hc c0 h hroom hb hbx
  have c1 := h1.c1
  rcases (show q.length = n ∨ q.length < n by omega) with hqn | hqn
  · have HQN := Lib.hid hqn
    have hge := growP_any h1 hqn (by rw [← hqn]; exact hq)
    clear hqn
    have hdn : ((q.length : Int) == (n : Int)) = true := by rw [beq_iff_eq]; have := HQN.out; omega
    go_wp2_with fail
    refine hge.mono ?_
    rintro e w2 ⟨rfl, n', ys', hn', h2, ht2⟩
    have hlt2 : q.length < n' := by have := HQN.out; omega
    have hbx2 := hbx1.tw ht2 (by simpa using hX1.1)
    obtain ⟨G, hG⟩ : ∃ G, G = w1.heap.size := ⟨_, rfl⟩
    rw [← hG] at h2
    have HG := Lib.hid hG
    have hXG : X ≠ G := by have := hbx1.lt; omega
    have hmw : Hid (G = m ∨ w.heap.size ≤ G) := Lib.hid (.inr (by rw [hG]; exact hsz))
    have ht12 := ht1.trans (ht2.sub (T := [g, c, m]) (by simp))
    have hs12 : w.heap.size ≤ G := by rw [hG]; exact hsz
    clear hge hG h1 ht1 ht2 c1 hbx1
    have hfit2 := h2.fit
    have hc1 := h2.c1
    obtain ⟨_, hb2⟩ := h2.some_ (by omega)
    obtain ⟨p, hp⟩ : ∃ p, p = (0 + q.length) % n' := ⟨_, rfl⟩
    have hpl := placeP_any q.length h2.dr (by omega) (by omega)
    rw [← hp] at hpl
    have hpn : p < n' := by rw [hp]; exact Nat.mod_lt _ (by omega)
    have hpI : (p : Int) < (n' : Int) := by omega
    have hpy : p < ys'.length := by rw [h2.len]; exact hpn
    have hx0 : w2.cell? ⟨G, p * 2, none⟩ = some (.int .u16 ys'[p].1) := by rw [hb2.cell, get_rowP0, List.getElem?_eq_getElem hpy]; rfl
    have hx1 : w2.cell? ⟨G, p * 2 + 1, none⟩ = some (.int .u16 ys'[p].2) := by rw [hb2.cell, get_rowP1, List.getElem?_eq_getElem hpy]; rfl
    have hxf0 := hb2.frozen (p * 2)
    have hxf1 := hb2.frozen (p * 2 + 1)
    have bx0 : w2.cell? ⟨X, 0, none⟩ = some (.int .u16 a) := (hbx2.cell 0).trans rfl
    have bx1 : w2.cell? ⟨X, 1, none⟩ = some (.int .u16 b) := (hbx2.cell 1).trans rfl
    have HR := Lib.hid fun d => putP_end (x := (a, b)) (h2.drewN d) hlt2 hp.symm
    have HT := Lib.hid fun d => ((ht12.drewN d).setCell_new ⟨G, p * 2, none⟩ (.int .u16 a) hs12).setCell_new ⟨G, p * 2 + 1, none⟩ (.int .u16 b) hs12
    obtain ⟨u0, hu0⟩ : ∃ u, u = ys'[p].1 := ⟨_, rfl⟩
    obtain ⟨u1, hu1⟩ : ∃ u, u = ys'[p].2 := ⟨_, rfl⟩
    rw [← hu0] at hx0
    rw [← hu1] at hx1
    have HPL := Lib.hid hpl
    clear hp hpl hb2 h2 ht12 hu0 hu1 hpy hbx2
    go_wp2_with fail
    go_region_with ((go_at_call 47; refine HPL.out.mono ?_; rintro e w3 ⟨rfl, k, rfl⟩))
    all_goals
      go_wp2_with fail
      go_ret
      exact ⟨rfl, _, G, n', 0, _, by rw [HLQ.out, HX.out]; exact HR.out _, hmw.out, HT.out _⟩
  · obtain ⟨hA, _⟩ := h1.some_ (by omega)
    subst hA
    have hXG := hX1.2.2
    have hdn : ((q.length : Int) == (n : Int)) = false := by rw [beq_eq_false_iff_ne]; omega
    go_wp2_with fail
    have hfit2 := h1.fit
    have hc1 := h1.c1
    obtain ⟨_, hb1⟩ := h1.some_ (by omega)
    obtain ⟨p, hp⟩ : ∃ p, p = (f + q.length) % n := ⟨_, rfl⟩
    have hpl := placeP_any q.length h1.dr (by omega) (by omega)
    rw [← hp] at hpl
    have hpn : p < n := by rw [hp]; exact Nat.mod_lt _ (by omega)
    have hpI : (p : Int) < (n : Int) := by omega
    have hpy : p < ys.length := by rw [h1.len]; exact hpn
    have hx0 : w1.cell? ⟨m, p * 2, none⟩ = some (.int .u16 ys[p].1) := by rw [hb1.cell, get_rowP0, List.getElem?_eq_getElem hpy]; rfl
    have hx1 : w1.cell? ⟨m, p * 2 + 1, none⟩ = some (.int .u16 ys[p].2) := by rw [hb1.cell, get_rowP1, List.getElem?_eq_getElem hpy]; rfl
    have hxf0 := hb1.frozen (p * 2)
    have hxf1 := hb1.frozen (p * 2 + 1)
    have bx0 : w1.cell? ⟨X, 0, none⟩ = some (.int .u16 a) := (hbx1.cell 0).trans rfl
    have bx1 : w1.cell? ⟨X, 1, none⟩ = some (.int .u16 b) := (hbx1.cell 1).trans rfl
    have HR := Lib.hid fun d => putP_end (x := (a, b)) (h1.drewN d) hqn hp.symm
    have HT := Lib.hid fun d => ((ht1.drewN d).trans (Tw.setCell (w1.drewN d) ⟨m, p * 2, none⟩ (.int .u16 a) (by simp))).trans (Tw.setCell _ ⟨m, p * 2 + 1, none⟩ (.int .u16 b) (by simp))
    obtain ⟨u0, hu0⟩ : ∃ u, u = ys[p].1 := ⟨_, rfl⟩
    obtain ⟨u1, hu1⟩ : ∃ u, u = ys[p].2 := ⟨_, rfl⟩
    rw [← hu0] at hx0
    rw [← hu1] at hx1
    have HPL := Lib.hid hpl
    clear hp hpl hb1 h1 ht1 c1 hu0 hu1 hpy hbx1
    go_wp2_with fail
    go_region_with ((go_at_call 47; refine HPL.out.mono ?_; rintro e w3 ⟨rfl, k, rfl⟩))
    all_goals
      go_wp2_with fail
      go_ret
      exact ⟨rfl, _, m, n, f, _, by rw [HLQ.out, HX.out]; exact HR.out _, .inl rfl, HT.out _⟩

end

end Go.Proofs.Ytlfebfgdgjaidaa
