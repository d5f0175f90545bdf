/-
  Package sha: the schedule of a block, its rounds, the eight.
  A region that draws its order and whose operations make memory, each of which leaves a value that is known: behind it the frame is written out.
-/
import Derived.Test.YtnnkgdkjmmljiaaDoorQ8
import Derived.Test.YtnnkgdkjmmljiaaDoorQ9
import Derived.StillTailTactics
import Derived.BigRegion
namespace Go.Proofs.YtnnkgdkjmmljiaaDoor
open Go.RowKit
set_option linter.unusedVariables false
set_option maxRecDepth 100000

/-- Words as cells. A definition of its own, so that the walk leaves it. -/
def wrow (ws : List R) : Array Value := (ws.map fun x => Value.int .u32 (x.toNat : Int)).toArray
theorem size_wrow (ws : List R) : (wrow ws).size = ws.length := by simp [wrow]
theorem get_wrow (ws : List R) (k : Nat) : (wrow ws)[k]? = (ws[k]?).map fun x => Value.int .u32 (x.toNat : Int) := by simp [wrow]
theorem wrow_at {ws : List R} {k : Nat} (h : k < ws.length) : (wrow ws)[k]? = some (rv (at_ ws k)) := by rw [get_wrow, at_get h]; rfl
theorem set_wrow (ws : List R) (k : Nat) (x : R) : (wrow ws).setIfInBounds k (rv x) = wrow (ws.set k x) := by
  apply Array.ext_getElem?
  intro i
  rw [Array.getElem?_setIfInBounds, get_wrow, get_wrow, List.getElem?_set, size_wrow]
  by_cases h : k = i
  · subst h
    by_cases h' : k < ws.length <;> simp [h']
  · simp [h]
theorem wrow_one (ws : List R) : (wrow ws).all (·.oneCell') = true := by simp [wrow, Value.oneCell']
theorem row8_one (xs : List UInt8) : (row8 xs).all (·.oneCell') = true := by simp [row8, Value.oneCell']

theorem row8_at {xs : List UInt8} {i : Nat} (h : i < xs.length) : (row8 xs)[i]? = some (.int .u8 ((xs.getD i 0).toNat : Int)) := by
  rw [get_row8, List.getD_eq_getElem?_getD, List.getElem?_eq_getElem h]
  rfl
theorem Blk.putw {w : World} {g : Nat} {t : TypeId} {ws : List R} (h : Blk w g t (wrow ws)) (i : Nat) (x : R) : Blk (w.setCell ⟨g, i, none⟩ (rv x)) g t (wrow (ws.set i x)) := by
  rw [← set_wrow]
  exact h.set_ i (rv x)

theorem blk2 (w : World) (o1 o3 : Obj) (t : TypeId) (cs : Array Value) : Blk (((w.alloc o1).alloc (.cells cs t)).alloc o3) (w.heap.size + 1) t cs := by
  have := (Blk.new (w.alloc o1) t cs).alloc o3
  rwa [show (w.alloc o1).heap.size = w.heap.size + 1 by simp] at this
theorem blk3 (w : World) (o1 o2 : Obj) (t : TypeId) (cs : Array Value) : Blk (((w.alloc o1).alloc o2).alloc (.cells cs t)) (w.heap.size + 1 + 1) t cs := by
  have := Blk.new ((w.alloc o1).alloc o2) t cs
  rwa [show ((w.alloc o1).alloc o2).heap.size = w.heap.size + 1 + 1 by simp] at this
theorem below3 (w : World) (o1 o2 o3 : Obj) : Below w.heap.size w (((w.alloc o1).alloc o2).alloc o3) := (((Below.refl _ _).alloc (Nat.le_refl _) _).alloc (by simp) _).alloc (by simp; omega) _

theorem Blk.putv {w : World} {g : Nat} {t : TypeId} {ws : List R} (h : Blk w g t (wrow ws)) (i : Nat) (E : Int) (x : R) (hE : E = (x.toNat : Int)) : Blk (w.setCell ⟨g, i, none⟩ (.int .u32 E)) g t (wrow (ws.set i x)) := by
  subst hE
  exact h.putw i x

/-- A region at which the walk stops, to be walked by hand. -/
def Whole (id : Nat) (ops : Array Oper) : Code := .region id ops false
theorem whole_eq (id : Nat) (ops : Array Oper) : Code.region id ops false = Whole id ops := rfl
theorem whole_list {P : Program} {id : Nat} {l : List Oper} {Q : Exit → Act → World → Prop} {a : Act} {w : World} (h : wpList P l.toArray Q l a w) : (Whole id l.toArray).wp P Q a w := wp_region_list (by simpa using h)
theorem wpList_move_ {P : Program} {ops : Array Oper} {rest : List Oper} {o : Oper} {a : Act} {w : World} {Q : Exit → Act → World → Prop} (hg : o.guard = none) (x : Operand) (ho : o.op = .move x)
    (h : wpList P ops Q rest (a.put o.dst (a.eval x)) w) : wpList P ops Q (o :: rest) a w :=
  wpList_plain hg fun _ hK => by
    unfold Oper.wp execOp
    simp only [ho, Sem.run_pure]
    exact hK _ _ h
/-- A whole row out of a block. -/
theorem wpList_load_blk {P : Program} {ops : Array Oper} {rest : List Oper} {o : Oper} {a : Act} {w : World} {Q : Exit → Act → World → Prop} {g : Nat} {t : TypeId} {cs : Array Value} (h : Blk w g t cs) (n : Nat) (hn : cs.size = n)
    (hgd : o.guard = none) (ty : TypeId) (x : Operand) (ho : o.op = .load ty x) (hx : a.eval x = .pointer (some ⟨g, 0, none⟩)) (d : TypeDesc)
    (hu : P.underlying ty = some d) (hd : (match d with | .struct _ | .array _ _ => true | _ => false) = true) (hi : (P.info? ty).map (·.size) = some n)
    (hk : wpList P ops Q rest (a.put o.dst (.agg cs)) w) : wpList P ops Q (o :: rest) a w :=
  wpList_load_row hgd ty x ho g hx t cs (0, 0) d h hu hd (by rw [hi, hn]) hk
/-- A whole row into a block. -/
theorem wpList_store_blk {P : Program} {ops : Array Oper} {rest : List Oper} {o : Oper} {a : Act} {w : World} {Q : Exit → Act → World → Prop} {g : Nat} {t : TypeId} {old cs : Array Value} (h : Blk w g t old) (n : Nat) (hold : old.size = n) (hn : cs.size = n) (h1 : cs.all (·.oneCell') = true)
    (hgd : o.guard = none) (ty : TypeId) (x y : Operand) (ho : o.op = .store ty x y) (hx : a.eval x = .pointer (some ⟨g, 0, none⟩)) (hy : a.eval y = .agg cs) (hi : (P.info? ty).map (·.size) = some n)
    (hk : wpList P ops Q rest (a.put o.dst undef) (w.setRow g cs)) : wpList P ops Q (o :: rest) a w :=
  wpList_store_row hgd ty x y ho g cs hx hy t old h (by rw [hi, hn]) (by rw [hold, hn]) h1 hk

theorem Below.setRow_ {B : Nat} {w w' : World} (h : Below B w w') (g : Nat) (ds : Array Value) (hg : B ≤ g) : Below B w (w'.setRow g ds) :=
  ⟨h.os, h.tape, h.output, by simpa using h.size, fun i hi => (setRow_other w' g i ds (by omega)).trans (h.block i hi)⟩

/-- What start-up lays: the table of constants, the eight. -/
def Tabs (w : World) : Prop := (∀ i x, K[i]? = some x → w.cell? ⟨1, i, none⟩ = some (rv x)) ∧ (∀ i x, H0[i]? = some x → w.cell? ⟨0, i, none⟩ = some (rv x)) ∧ 2 ≤ w.heap.size
theorem Tabs.const {w : World} (h : Tabs w) {i : Nat} (hi : i < 64) : w.cell? ⟨1, i, none⟩ = some (rv (at_ K i)) := h.1 i _ (at_get (by rw [length_K]; exact hi))
theorem Tabs.init {w : World} (h : Tabs w) {i : Nat} (hi : i < 8) : w.cell? ⟨0, i, none⟩ = some (rv (at_ H0 i)) := h.2.1 i _ (at_get (by rw [length_H0]; exact hi))
theorem Tabs.keep {w w' : World} (h : Tabs w) (hk : ∀ k, k < 2 → w'.heap[k]? = w.heap[k]?) (hs : w.heap.size ≤ w'.heap.size) : Tabs w' :=
  ⟨fun i x hx => (World.cell?_of_block (hk _ (by simp))).trans (h.1 i x hx), fun i x hx => (World.cell?_of_block (hk _ (by simp))).trans (h.2.1 i x hx), Nat.le_trans h.2.2 hs⟩
theorem Tabs.below {w w' : World} {B : Nat} (h : Tabs w) (hb : Below B w w') (hB : 2 ≤ B) : Tabs w' := h.keep (fun k hk => hb.block k (by omega)) hb.size
theorem Tabs.tw {w w' : World} {S : List Nat} (h : Tabs w) (ht : Tw S w w') (hS : ∀ k ∈ S, 2 ≤ k) : Tabs w' := h.keep (fun k hk => ht.block k (by have := h.2.2; omega) fun hm => by have := hS k hm; omega) ht.size

/-- An array's piece from l on. -/
theorem slice_arr {P : Program} {t e : TypeId} {n : Nat} (ht : P.underlying t = some (.array n e)) (hs : (P.info? e).map (·.size) = some 1) (b o l o' m : Nat) (L : Int) (k : IntKind) (w : World) (hl : l < n) (hL : L = (l : Int)) (ho : o' = o + l) (hm : m = n - l) :
    (Instr.sliceAt t (.pointer (some ⟨b, o, none⟩)) (some (.int k L)) none none).run P w = .ok (.slice (some ⟨b, o', none⟩) m m) w := by
  subst hL ho hm
  have ha : P.arrayLen t = n := by simp [Program.arrayLen, ht]
  have he : P.elem t = e := by simp [Program.elem, ht]
  have h := run_sliceAt_array_l (P := P) w t ⟨b, o, none⟩ (by rw [ha, he]; exact ht) k l (by omega) (by rw [ha]; omega)
  rw [h, ha, he]
  cases hq : P.info? e with
  | none => simp [hq] at hs
  | some i =>
    have h1 : i.size = 1 := by simpa [hq] using hs
    simp [sizeOf, typeInfo, hq, h1, slicedAt, show ¬ n = l by omega, Addr.add]

set_option maxHeartbeats 1000000 in
theorem schedule_any (bs : List UInt8) (w : World) (h : bs.length = 64) :
    Calls Tryd.prog 59 #[.agg (row8 bs)] w fun e w' => e = .returned (.agg (wrow (sch bs 64))) ∧ Below w.heap.size w w' := by
  have HH := Lib.hid h
  obtain ⟨S, hS⟩ : ∃ S, S = sch bs 64 := ⟨_, rfl⟩
  have HL : S.length = 64 := by rw [hS, length_sch]
  rw [← hS]
  have HE := Lib.hid hS
  clear h hS
  go_enter Tryd.func59, Tryd.ntmps59
  rw [whole_eq 12]
  go_wp2_with fail
  go_loopw [8] (fun i wr => ∃ k : Nat, k ≤ 16 ∧ i = .int .i64 k ∧ Blk wr w.heap.size 55 (row8 bs) ∧ Blk wr (w.heap.size + 1) 82 (wrow (sch bs 0)) ∧ Blk wr (w.heap.size + 1 + 1) 82 (wrow (sch bs k)) ∧ Below w.heap.size w wr) (fun i _ => 16 - (intOf i).toNat)
  case atStart =>
    exact ⟨0, by omega, rfl, ((Blk.new w _ _).alloc _).alloc _, blk2 _ _ _ _ _, blk3 _ _ _ _ _, below3 _ _ _ _⟩
  case round =>
    obtain ⟨k, hk, rfl, hb1, hb2, hb3, hB⟩ := hrel
    by_cases hlt : k < 16
    · have hl := HH.out
      have c0 := (hb1.cell (4 * k)).trans (row8_at (by omega))
      have c1 := (hb1.cell (4 * k + 1)).trans (row8_at (by omega))
      have c2 := (hb1.cell (4 * k + 2)).trans (row8_at (by omega))
      have c3 := (hb1.cell (4 * k + 3)).trans (row8_at (by omega))
      clear hl
      have hsl : ∀ wr : World, (Instr.sliceAt 55 (.pointer (some ⟨w.heap.size, 0, none⟩)) (some (.int .i64 (4 * (k : Int)))) none none).run Tryd.prog wr = .ok (.slice (some ⟨w.heap.size, 4 * k, none⟩) (64 - 4 * k) (64 - 4 * k)) wr :=
        fun wr => slice_arr Tryd.underlying55 (by kernel_rfl) _ _ (4 * k) _ _ _ _ _ (by omega) (by omega) (by omega) rfl
      have ck := (hb3.cell k).trans (wrow_at (by rw [length_sch]; omega))
      have fk := hb3.frozen k
      have hk64 : (k : Int) < 64 := by omega
      go_wp2_with (go_at_call 61; refine (word_any _ _ _ _ _ _ _ _ _ (by omega) c0 c1 c2 c3).mono ?_; rintro e w' ⟨rfl, m, rfl⟩)
      go_roundw
      case rel =>
        refine ⟨k + 1, by omega, by go_num, ?_, ?_, ?_, ?_⟩
        · exact (hb1.drewN m).far (by simp; omega) _
        · exact (hb2.drewN m).far (by simp) _
        · rw [sch_low hlt]
          exact (hb3.drewN m).putw k _
        · exact (below_drewN hB m).setCell (by simp; omega) _
      case measure => simp [intOf]; omega
    · have hk16 : k = 16 := by omega
      subst hk16
      clear hk hlt
      go_wp2_with fail
      go_loopw [5] (fun i wr => ∃ k : Nat, 16 ≤ k ∧ k ≤ 64 ∧ i = .int .i64 k ∧ Blk wr (w.heap.size + 1) 82 (wrow (sch bs 0)) ∧ Blk wr (w.heap.size + 1 + 1) 82 (wrow (sch bs k)) ∧ Below w.heap.size w wr) (fun i _ => 64 - (intOf i).toNat)
      case atStart => exact ⟨16, by omega, by omega, rfl, hb2, hb3, hB⟩
      case round =>
        clear hb1 hb2 hb3 hB
        obtain ⟨k, hk1, hk2, rfl, hb2, hb3, hB⟩ := hrel
        by_cases hlt : k < 64
        · obtain ⟨p, hp⟩ : ∃ p, p = k - 15 := ⟨_, rfl⟩
          obtain ⟨q, hq⟩ : ∃ q, q = k - 2 := ⟨_, rfl⟩
          obtain ⟨r, hr⟩ : ∃ r, r = k - 16 := ⟨_, rfl⟩
          obtain ⟨s, hs⟩ : ∃ s, s = k - 7 := ⟨_, rfl⟩
          have cp := (hb3.cell p).trans (wrow_at (by rw [length_sch]; omega))
          have cq := (hb3.cell q).trans (wrow_at (by rw [length_sch]; omega))
          have wp : IntKind.i64.wrap ((k : Int) - 15) = (p : Int) := by rw [IntWalk.i64_in _ (by omega)]; omega
          have wq : IntKind.i64.wrap ((k : Int) - 2) = (q : Int) := by rw [IntWalk.i64_in _ (by omega)]; omega
          have wr' : IntKind.i64.wrap ((k : Int) - 16) = (r : Int) := by rw [IntWalk.i64_in _ (by omega)]; omega
          have ws : IntKind.i64.wrap ((k : Int) - 7) = (s : Int) := by rw [IntWalk.i64_in _ (by omega)]; omega
          have lp : (p : Int) < 64 := by omega
          have lq : (q : Int) < 64 := by omega
          have lr : (r : Int) < 64 := by omega
          have ls : (s : Int) < 64 := by omega
          have lk : (k : Int) < 64 := by omega
          have HP := Lib.hid hp
          have HQ := Lib.hid hq
          have HR := Lib.hid hr
          have HS := Lib.hid hs
          clear hp hq hr hs
          go_wp2_with fail
          go_quiet (fail)
          have hb2' := hb2.drewN nq
          have hb3' := hb3.drewN nq
          have hB' := below_drewN hB nq
          clear hb2 hb3 hB cp cq
          generalize wr.drewN nq = w3 at hb2' hb3' hB' ⊢
          have cr := (hb3'.cell r).trans (wrow_at (by rw [length_sch, HR.out]; omega))
          have cs := (hb3'.cell s).trans (wrow_at (by rw [length_sch, HS.out]; omega))
          have ck := (hb3'.cell k).trans (wrow_at (by rw [length_sch]; omega))
          have fk := hb3'.frozen k
          go_wp2_with fail
          refine wp_region_quiet_tail 29 (by kernel_rfl) (by kernel_rfl) ?_
          simp only [List.take_succ_cons, List.take_zero, List.drop_succ_cons, List.drop_zero]
          repeat (go_big_quiet_step ((first
            | (go_at_call 60; exact still_any (right_lit _ _ _ rfl))
            | (go_at_call 62; exact still_any (down_lit _ _ _ rfl)))))
          refine wpQuiet_nil ?_
          rintro _ ⟨m, rfl⟩
          go_wp2_with fail
          go_roundw
          case rel =>
            refine ⟨k + 1, by omega, by omega, by go_num, ?_, ?_, ?_⟩
            · exact (hb2'.drewN m).far (by simp) _
            · rw [sch_high (by omega)]
              refine (hb3'.drewN m).putv k _ _ ?_
              rw [xor_u32, xor_u32, xor_u32, xor_u32]
              unfold nxt low0 low1
              rw [← HP.out, ← HQ.out, ← HR.out, ← HS.out]
              simp only [BitVec.toNat_add, show (2 : Nat) ^ 32 = 4294967296 from rfl]
              omega
            · exact (below_drewN hB' m).setCell (by simp; omega) _
          case measure => simp [intOf]; omega
        · have hk64 : k = 64 := by omega
          have hk65 : decide ((k : Int) < 64) = false := by simp; omega
          rw [show sch bs k = S by rw [HE.out, hk64]] at hb3
          clear hk64
          have hsz : (wrow S).size = 64 := by rw [size_wrow, HL]
          go_wp2_with fail
          refine whole_list ?_
          refine wpList_load_blk hb3 64 hsz rfl _ _ rfl rfl _ Tryd.underlying82 rfl (by kernel_rfl) ?_
          refine wpList_store_blk hb2 64 (by rw [size_wrow, length_sch]) hsz (wrow_one _) rfl _ _ _ rfl rfl rfl (by kernel_rfl) ?_
          go_wp2_with fail
          exact bodyPost_ret (v := .agg (wrow S)) (results_cell_row rfl _ _ _ _ _ _ _ rfl (hb2.setRow (wrow S)) Tryd.underlying82 rfl ((show (Tryd.prog.info? 82).map (·.size) = some 64 by kernel_rfl).trans (by rw [hsz]))) rfl ⟨rfl, Below.setRow_ hB _ _ (by omega)⟩

set_option maxHeartbeats 2000000 in
theorem rounds_any (vs ws : List R) (w : World) (h : vs.length = 8) (h' : ws.length = 64) (ht : Tabs w) :
    Calls Tryd.prog 58 #[.agg (wrow vs), .agg (wrow ws)] w fun e w' => e = .returned (.agg (wrow (rds vs ws 64))) ∧ Below w.heap.size w w' := by
  have h2 := ht.2.2
  obtain ⟨S, hS⟩ : ∃ S, S = rds vs ws 64 := ⟨_, rfl⟩
  have HE := Lib.hid hS
  rw [← hS]
  clear hS
  obtain ⟨W, hW⟩ : ∃ W, W = ((w.alloc (.cells (wrow vs) 75)).alloc (.cells (wrow ws) 82)).alloc (.cells (wrow (List.replicate 8 0)) 75) := ⟨_, rfl⟩
  have hb1 : Blk W w.heap.size 75 (wrow vs) := by rw [hW]; exact ((Blk.new w _ _).alloc _).alloc _
  have hb2 : Blk W (w.heap.size + 1) 82 (wrow ws) := by rw [hW]; exact blk2 _ _ _ _ _
  have hb3 : Blk W (w.heap.size + 1 + 1) 75 (wrow (List.replicate 8 0)) := by rw [hW]; exact blk3 _ _ _ _ _
  have hB : Below w.heap.size w W := by rw [hW]; exact below3 _ _ _ _
  have hv : vs = [at_ vs 0, at_ vs 1, at_ vs 2, at_ vs 3, at_ vs 4, at_ vs 5, at_ vs 6, at_ vs 7] := by
    obtain ⟨a, b, c, d, e, f, g, hh, rfl⟩ := eight h
    rfl
  have HV := Lib.hid hv
  clear hv
  have c0 := (hb1.cell 0).trans (wrow_at (by omega))
  have c1 := (hb1.cell 1).trans (wrow_at (by omega))
  have c2 := (hb1.cell 2).trans (wrow_at (by omega))
  have c3 := (hb1.cell 3).trans (wrow_at (by omega))
  have c4 := (hb1.cell 4).trans (wrow_at (by omega))
  have c5 := (hb1.cell 5).trans (wrow_at (by omega))
  have c6 := (hb1.cell 6).trans (wrow_at (by omega))
  have c7 := (hb1.cell 7).trans (wrow_at (by omega))
  have HW := Lib.hid hW
  have hT : Tabs W := ht.below hB h2
  clear hW
  go_enter Tryd.func58, Tryd.ntmps58
  go_wp2_with fail
  generalize hw : ((w.alloc (.cells (wrow vs) 75)).alloc (.cells (wrow ws) 82)).alloc (.cells #[.int .u32 0, .int .u32 0, .int .u32 0, .int .u32 0, .int .u32 0, .int .u32 0, .int .u32 0, .int .u32 0] 75) = W0
  obtain rfl : W = W0 := by rw [HW.out, ← hw]; rfl
  clear hw
  go_quiet (fail)
  have hb2' := hb2.drewN nq
  have hb3' := hb3.drewN nq
  have hB' := below_drewN hB nq
  have hT' : Tabs (W.drewN nq) := hT
  clear hb1 hb2 hb3 hB hT c0 c1 c2 c3 c4 c5 c6 c7
  generalize W.drewN nq = w3 at hb2' hb3' hB' hT' ⊢
  go_wp2_with fail
  go_loopw [5, 6, 7, 8, 9, 10, 11, 12, 32] (fun a b c d e f g h i wr => ∃ (k : Nat) (a' b' c' d' e' f' g' h' : R), k ≤ 64 ∧ i = .int .i64 k ∧ a = rv a' ∧ b = rv b' ∧ c = rv c' ∧ d = rv d' ∧ e = rv e' ∧ f = rv f' ∧ g = rv g' ∧ h = rv h' ∧
    Hid (rds vs ws k = [a', b', c', d', e', f', g', h']) ∧ Blk wr (w.heap.size + 1) 82 (wrow ws) ∧ Blk wr (w.heap.size + 1 + 1) 75 (wrow (List.replicate 8 0)) ∧ Below w.heap.size w wr ∧ Tabs wr) (fun a b c d e f g h i _ => 64 - (intOf i).toNat)
  case atStart => exact ⟨0, _, _, _, _, _, _, _, _, by omega, rfl, rfl, rfl, rfl, rfl, rfl, rfl, rfl, rfl, Lib.hid HV.out, hb2', hb3', hB', hT'⟩
  case round =>
    clear hb2' hb3' hB' hT'
    obtain ⟨k, a', b', c', d', e', f', g', h'', hk, rfl, rfl, rfl, rfl, rfl, rfl, rfl, rfl, rfl, HR, hb2, hb3, hB, hT⟩ := hrel
    by_cases hlt : k < 64
    · have ck := hT.const hlt
      have cw := (hb2.cell k).trans (wrow_at (by omega))
      have lk : (k : Int) < 64 := by omega
      go_wp2_with fail
      go_quiet ((go_at_call 60; exact still_any (right_lit _ _ _ rfl)))
      go_wp2_with (go_at_call 60; refine (right_lit _ _ _ rfl).mono ?_; rintro e w' ⟨rfl, m, rfl⟩)
      go_roundw
      case rel =>
        refine ⟨k + 1, (h'' + up1 e' + chs e' f' g' + at_ K k + at_ ws k) + (up0 a' + maj a' b' c'), a', b', c', d' + (h'' + up1 e' + chs e' f' g' + at_ K k + at_ ws k), e', f', g', by omega, by go_num, ?_, rfl, rfl, rfl, ?_, rfl, rfl, rfl, Lib.hid (by rw [rds, HR.out]; rfl), hb2.drewN _, hb3.drewN _, below_drewN hB _, hT⟩
        · congr 1
          simp only [xor_u32, and_u32, or_u32, not_if]
          unfold up1 chs up0 maj
          simp only [BitVec.toNat_add, show (2 : Nat) ^ 32 = 4294967296 from rfl]
          omega
        · congr 1
          simp only [xor_u32, and_u32, not_if]
          unfold up1 chs
          simp only [BitVec.toNat_add, show (2 : Nat) ^ 32 = 4294967296 from rfl]
          omega
      case measure => simp [intOf]; omega
    · have hk64 : k = 64 := by omega
      have hk65 : decide ((k : Int) < 64) = false := by simp; omega
      have hS : S = [a', b', c', d', e', f', g', h''] := by rw [HE.out, ← HR.out, hk64]
      have hsz : (wrow S).size = 8 := by rw [hS]; rfl
      have HS := Lib.hid hS
      clear hS hk64
      have c0 := (hb3.cell 0).trans (wrow_at (by decide))
      have f0 := hb3.frozen 0
      have c1 := (hb3.cell 1).trans (wrow_at (by decide))
      have f1 := hb3.frozen 1
      have c2 := (hb3.cell 2).trans (wrow_at (by decide))
      have f2 := hb3.frozen 2
      have c3 := (hb3.cell 3).trans (wrow_at (by decide))
      have f3 := hb3.frozen 3
      have c4 := (hb3.cell 4).trans (wrow_at (by decide))
      have f4 := hb3.frozen 4
      have c5 := (hb3.cell 5).trans (wrow_at (by decide))
      have f5 := hb3.frozen 5
      have c6 := (hb3.cell 6).trans (wrow_at (by decide))
      have f6 := hb3.frozen 6
      have c7 := (hb3.cell 7).trans (wrow_at (by decide))
      have f7 := hb3.frozen 7
      go_wp2_with fail
      have hfin : Blk _ (w.heap.size + 1 + 1) 75 (wrow [a', b', c', d', e', f', g', h'']) := (((((((hb3.putw 0 a').putw 1 b').putw 2 c').putw 3 d').putw 4 e').putw 5 f').putw 6 g').putw 7 h''
      rw [← HS.out] at hfin
      refine bodyPost_ret (v := .agg (wrow S)) (results_cell_row rfl _ _ _ _ _ _ _ rfl hfin Tryd.underlying75 rfl ((show (Tryd.prog.info? 75).map (·.size) = some 8 by kernel_rfl).trans (by rw [hsz]))) rfl ⟨rfl, ?_⟩
      have l3 : w.heap.size ≤ w.heap.size + 1 + 1 := by omega
      exact (((((((hB.setCell l3 _).setCell l3 _).setCell l3 _).setCell l3 _).setCell l3 _).setCell l3 _).setCell l3 _).setCell l3 _
end Go.Proofs.YtnnkgdkjmmljiaaDoor

namespace Go.Proofs.YtnnkgdkjmmljiaaDoor
open Go.RowKit
set_option linter.unusedVariables false

/-- The frame when each operation has left its value. -/
def lay : List Oper → List Value → Act → Act
  | o :: l, v :: vs, a => lay l vs (a.put o.dst v)
  | _, _, a => a

theorem put_defers (a : Act) (d : Option Tmp) (v : Value) : (a.put d v).defers = a.defers := by cases d <;> rfl
theorem put_size (a : Act) (d : Option Tmp) (v : Value) : (a.put d v).tmps.size = a.tmps.size := by cases d <;> simp [Act.put]
theorem put_other (a : Act) (d : Option Tmp) (v : Value) (k : Nat) (h : d ≠ some k) : (a.put d v).tmps[k]? = a.tmps[k]? := by
  cases d with
  | none => rfl
  | some d =>
    have hd : d ≠ k := fun e => h (by rw [e])
    simp only [Act.put]
    rw [Array.getElem?_setIfInBounds, if_neg hd]
theorem put_same (a : Act) (v : Value) (k : Nat) (h : k < a.tmps.size) : (a.put (some k) v).tmps[k]? = some v := by
  simp only [Act.put]
  rw [Array.getElem?_setIfInBounds, if_pos rfl, if_pos h]
theorem lay_defers : ∀ (l : List Oper) (vs : List Value) (a : Act), (lay l vs a).defers = a.defers
  | [], _, _ => rfl
  | _ :: _, [], _ => rfl
  | o :: l, v :: vs, a => by rw [lay, lay_defers l vs, put_defers]
theorem lay_size : ∀ (l : List Oper) (vs : List Value) (a : Act), (lay l vs a).tmps.size = a.tmps.size
  | [], _, _ => rfl
  | _ :: _, [], _ => rfl
  | o :: l, v :: vs, a => by rw [lay, lay_size l vs, put_size]
theorem lay_other (k : Nat) : ∀ (l : List Oper) (vs : List Value) (a : Act), (∀ (j : Nat) o, l[j]? = some o → o.dst ≠ some k) → (lay l vs a).tmps[k]? = a.tmps[k]?
  | [], _, _, _ => rfl
  | _ :: _, [], _, _ => rfl
  | o :: l, v :: vs, a, h => by
    rw [lay, lay_other k l vs _ (fun j o' ho => h (j + 1) o' (by simpa using ho)), put_other _ _ _ _ (h 0 o rfl)]
theorem lay_same (k : Nat) : ∀ (l : List Oper) (vs : List Value) (a : Act) (i : Nat) (o : Oper), l[i]? = some o → o.dst = some k → (∀ (j : Nat) o', l[j]? = some o' → j ≠ i → o'.dst ≠ some k) → k < a.tmps.size → l.length = vs.length →
    (lay l vs a).tmps[k]? = some (vs.getD i undef)
  | [], _, _, i, o, h, _, _, _, _ => by simp at h
  | _ :: _, [], _, _, _, _, _, _, _, hl => by simp at hl
  | x :: l, v :: vs, a, 0, o, h, hd, hn, hk, hl => by
    simp at h; subst h
    rw [lay, lay_other k l vs _ (fun j o' ho => hn (j + 1) o' (by simpa using ho) (by omega)), hd, put_same _ _ _ hk]
    rfl
  | x :: l, v :: vs, a, i + 1, o, h, hd, hn, hk, hl => by
    rw [lay, lay_same k l vs _ i o (by simpa using h) hd (fun j o' ho hj => hn (j + 1) o' (by simpa using ho) (by omega)) (by rw [put_size]; exact hk) (by simpa using hl)]
    rfl

/-- Operation i leaves the value number i. -/
def ValV (vs : List Value) (i : Nat) (v : Value) (w : World) : Prop := v = vs.getD i undef

theorem lay_come {l : List Oper} {vs : List Value} {G : World → World → Prop} {a0 : Act} {w0 : World} {a : Act} {w : World} (hl : l.length = vs.length) (hb : growsB .any l.toArray a0.tmps.size = true)
    (hc : Come l.toArray (ValV vs) G a0 w0 (Array.replicate l.toArray.size true) a w) : a = lay l vs a0 := by
  have ht : a.tmps = (lay l vs a0).tmps := by
    apply Array.ext_getElem?
    intro k
    by_cases hk : ∃ (i : Nat) (o : Oper), l[i]? = some o ∧ o.dst = some k
    · obtain ⟨i, o, ho, hd⟩ := hk
      have ho' : l.toArray[i]? = some o := by simpa using ho
      have hks := growsB_size hb ho' hd
      have hi : i < l.length := (List.getElem?_eq_some_iff.1 ho).1
      have h1 := hc.new i o k ho' (by simp [Array.getD, hi]) hd
      rw [lay_same k l vs a0 i o ho hd (fun j o' hj hne => growsB_apart hb ho' (by simpa using hj) hne hd) hks hl]
      have h2 : k < a.tmps.size := by rw [hc.size]; exact hks
      rw [Array.getElem?_eq_getElem h2]
      have h3 : a.tmps.getD k undef = a.tmps[k] := by simp [Array.getD, h2]
      rw [← h3]
      exact congrArg some h1
    · have hno : ∀ (j : Nat) o, l[j]? = some o → o.dst ≠ some k := fun j o hj hd => hk ⟨j, o, hj, hd⟩
      rw [lay_other k l vs a0 hno]
      exact hc.old k fun i o ho _ => hno i o (by simpa using ho)
  have hd : a.defers = (lay l vs a0).defers := by rw [lay_defers]; exact hc.defers
  cases a
  cases hx : lay l vs a0
  rw [hx] at ht hd
  simp_all

/-- Such a region, in whatever order: the frame behind it, and what is said of the world. -/
theorem wp_region_vals {P : Program} {Q : Exit → Act → World → Prop} {id : Nat} {l : List Oper} {a0 : Act} {w0 : World} (hm : P.follows .mixedOrders = true) (base : Nat) (vs : List Value) (hl : l.length = vs.length)
    (hb : growsB .any l.toArray a0.tmps.size = true) (hdo : DoAll P .any l.toArray Q (ValV vs) (Grew base) a0 w0 0 l) (hQ : ∀ w, Grew base w0 w → Q .normal (lay l vs a0) w) :
    (Code.region id l.toArray true).wp P Q a0 w0 :=
  wp_region_grow hm (ValV vs) (Grew base) (Grew.refl _) (Grew.drew _ _) (fun _ _ _ => Grew.trans) (fun i v x y _ h => h) hb hdo fun a w hc => by
    rw [lay_come hl hb hc]
    exact hQ w hc.g

/-- A slot that no operation writes. -/
theorem Come.was {ops : Array Oper} {V : Nat → Value → World → Prop} {G : World → World → Prop} {a0 : Act} {w0 : World} {listed : Array Bool} {a : Act} {w : World} (hc : Come ops V G a0 w0 listed a w)
    (k : Nat) (h : (ops.all fun o => o.dst != some k) = true) : a.tmps[k]?.getD undef = a0.tmps[k]?.getD undef := by
  rw [hc.old k fun i o ho _ => by
    have := Array.all_eq_true'.1 h o (Array.mem_of_getElem? ho)
    simpa using this]
end Go.Proofs.YtnnkgdkjmmljiaaDoor
