/-
  Package sha: Sum of bytes, the nil state.
  Two arrays of bytes, compared.
  Pieces of what is read; what a state may be written from.
  EqBytes: two rows of bytes are told alike just if they are.
  Package mac: the closure that masks a block; the block of a key.
-/
import Derived.Test.YtnnkgdkjmmljiaaDoorQ12
import Derived.Test.YtnnkgdkjmmljiaaDoorQ8
import Derived.Laws.StructEq
import Derived.Test.YtnnkgdkjmmljiaaDoorQ2
import Derived.Test.YtnnkgdkjmmljiaaDoorRows
import Derived.Test.YtnnkgdkjmmljiaaDoorQ1
import Derived.Test.YtnnkgdkjmmljiaaDoorQ5
namespace Go.Proofs.YtnnkgdkjmmljiaaDoor
open Go.RowKit
set_option linter.unusedVariables false
set_option maxRecDepth 100000

/-- A whole row into a block, as the walk meets it. -/
theorem run_storeCells_blk {P : Program} {w : World} {g : Nat} {t : TypeId} {old cs : Array Value} (h : Blk w g t old) (hn : old.size = cs.size) (h1 : cs.all (·.oneCell') = true) : (storeCells ⟨g, 0, none⟩ cs.toList 0).run P w = .ok () (w.setRow g cs) :=
  run_storeCells_from (P := P) g t cs.toList 0 old w h (by simp; omega) (fun v hv => (Array.all_eq_true_iff_forall_mem.1 h1) v (by simpa using hv))

set_option maxHeartbeats 1000000 in
theorem sum_any (A : Option Addr) (n c : Nat) (xs : List UInt8) (w : World) (hT : Tabs w) (hn : n ≤ c) (hc : c ≤ maxLen) (hx : xs.length = n) (hr : Rd w w.heap.size A xs) (hl : n ≤ 1152921504606846000) :
    Calls Tryd.prog 42 #[.slice A n c] w fun e w' => e = .returned (.agg (row8 (dig xs))) ∧ Below w.heap.size w w' := by
  have h2 := hT.2.2
  obtain ⟨S, hS⟩ : ∃ S, S = dig xs := ⟨_, rfl⟩
  have HS := Lib.hid hS
  have HSL := Lib.hid (show S.length = 32 by rw [hS, length_dig])
  rw [← hS]
  clear hS
  have hz := zero_state
  have h32 : Blk (w.alloc (.cells #[.int .u8 0, .int .u8 0, .int .u8 0, .int .u8 0, .int .u8 0, .int .u8 0, .int .u8 0, .int .u8 0, .int .u8 0, .int .u8 0, .int .u8 0, .int .u8 0, .int .u8 0, .int .u8 0, .int .u8 0, .int .u8 0, .int .u8 0, .int .u8 0, .int .u8 0, .int .u8 0, .int .u8 0, .int .u8 0, .int .u8 0, .int .u8 0, .int .u8 0, .int .u8 0, .int .u8 0, .int .u8 0, .int .u8 0, .int .u8 0, .int .u8 0, .int .u8 0] 46)) w.heap.size 46 (row8 (List.replicate 32 0)) := Blk.new _ _ _
  have hB1 : Below w.heap.size w (w.alloc (.cells #[.int .u8 0, .int .u8 0, .int .u8 0, .int .u8 0, .int .u8 0, .int .u8 0, .int .u8 0, .int .u8 0, .int .u8 0, .int .u8 0, .int .u8 0, .int .u8 0, .int .u8 0, .int .u8 0, .int .u8 0, .int .u8 0, .int .u8 0, .int .u8 0, .int .u8 0, .int .u8 0, .int .u8 0, .int .u8 0, .int .u8 0, .int .u8 0, .int .u8 0, .int .u8 0, .int .u8 0, .int .u8 0, .int .u8 0, .int .u8 0, .int .u8 0, .int .u8 0] 46)) := below_new _ _
  have hz1 : (w.alloc (.cells #[.int .u8 0, .int .u8 0, .int .u8 0, .int .u8 0, .int .u8 0, .int .u8 0, .int .u8 0, .int .u8 0, .int .u8 0, .int .u8 0, .int .u8 0, .int .u8 0, .int .u8 0, .int .u8 0, .int .u8 0, .int .u8 0, .int .u8 0, .int .u8 0, .int .u8 0, .int .u8 0, .int .u8 0, .int .u8 0, .int .u8 0, .int .u8 0, .int .u8 0, .int .u8 0, .int .u8 0, .int .u8 0, .int .u8 0, .int .u8 0, .int .u8 0, .int .u8 0] 46)).heap.size = w.heap.size + 1 := by simp
  go_enter Tryd.func42, Tryd.ntmps42
  rw [whole_eq 1]
  go_wp2_with fail
  generalize w.alloc (.cells #[.int .u8 0, .int .u8 0, .int .u8 0, .int .u8 0, .int .u8 0, .int .u8 0, .int .u8 0, .int .u8 0, .int .u8 0, .int .u8 0, .int .u8 0, .int .u8 0, .int .u8 0, .int .u8 0, .int .u8 0, .int .u8 0, .int .u8 0, .int .u8 0, .int .u8 0, .int .u8 0, .int .u8 0, .int .u8 0, .int .u8 0, .int .u8 0, .int .u8 0, .int .u8 0, .int .u8 0, .int .u8 0, .int .u8 0, .int .u8 0, .int .u8 0, .int .u8 0] 46) = w1 at h32 hB1 hz1 ⊢
  have hst := St.new w1
  rw [hz1] at hst
  have h322 := h32.alloc (.cells (stRow (List.replicate 8 0) (List.replicate 64 0) 0) 77)
  have hB2 : Below w.heap.size w (w1.alloc (.cells (stRow (List.replicate 8 0) (List.replicate 64 0) 0) 77)) := hB1.alloc (by omega) _
  have HW : Hid (∃ w2, w2 = w1.alloc (.cells (stRow (List.replicate 8 0) (List.replicate 64 0) 0) 77)) := Lib.hid ⟨_, rfl⟩
  have hr2 : Rd (w1.alloc (.cells (stRow (List.replicate 8 0) (List.replicate 64 0) 0) 77)) w.heap.size A xs := hr.below hB2
  rw [← whole_eq 1]
  go_wp2_with (go_at_call 44; refine (write_any _ A n c [] xs _ hst (hT.below hB2 h2) (by omega) hn hc hx (Src.of_rd hr2 (by simp; omega) (by omega)) (by simp; omega)).mono ?_; rintro e w3 ⟨rfl, hst3, ht3⟩)
  have hB3 : Below w.heap.size w w3 := tw_below hB2 ht3 (by simp) (Nat.le_refl _)
  have h323 := h322.tw ht3 (by simp)
  refine (sumState_any _ xs w3 hst3 (hT.below hB3 h2) (by omega)).mono ?_
  rintro e w4 ⟨rfl, hB4⟩
  rw [← HS.out]
  have h324 := h323.below hB4 h323.lt
  have hB4' : Below w.heap.size w w4 := hB3.trans (hB4.mono hB3.size)
  have hsz : (row8 S).size = 32 := by rw [size_row8, HSL.out]
  have hstr := run_storeCells_blk (P := Tryd.prog) h324 (cs := row8 S) (by rw [hsz]; rfl) (row8_one _)
  go_wp2_with fail
  exact bodyPost_ret (v := .agg (row8 S)) (results_cell_row rfl _ _ _ _ _ _ _ rfl (h324.setRow (row8 S)) Tryd.underlying46 rfl ((show (Tryd.prog.info? 46).map (·.size) = some 32 by kernel_rfl).trans (by rw [hsz]))) rfl ⟨rfl, Below.setRow_ hB4' _ _ (Nat.le_refl _)⟩

theorem wpList_build0 {P : Program} {ops : Array Oper} {rest : List Oper} {o : Oper} {a : Act} {w : World} {Q : Exit → Act → World → Prop} (hg : o.guard = none) (t : TypeId) (ho : o.op = .build t #[]) (cells : Array Value) (hb : P.built t [] = some cells)
    (h : wpList P ops Q rest (a.put o.dst (.agg cells)) w) : wpList P ops Q (o :: rest) a w :=
  wpList_build hg t #[] ho (by simp [hb]) (by simpa [hb] using h)
theorem sumNil_any (w : World) :
    Calls Tryd.prog 45 #[.pointer none] w fun e w' => e = .returned (.agg (row8 (List.replicate 32 0))) ∧ Below w.heap.size w w' := by
  have h32 : Blk (w.alloc (.cells #[.int .u8 0, .int .u8 0, .int .u8 0, .int .u8 0, .int .u8 0, .int .u8 0, .int .u8 0, .int .u8 0, .int .u8 0, .int .u8 0, .int .u8 0, .int .u8 0, .int .u8 0, .int .u8 0, .int .u8 0, .int .u8 0, .int .u8 0, .int .u8 0, .int .u8 0, .int .u8 0, .int .u8 0, .int .u8 0, .int .u8 0, .int .u8 0, .int .u8 0, .int .u8 0, .int .u8 0, .int .u8 0, .int .u8 0, .int .u8 0, .int .u8 0, .int .u8 0] 46)) w.heap.size 46 (row8 (List.replicate 32 0)) := Blk.new _ _ _
  have hB1 : Below w.heap.size w (w.alloc (.cells #[.int .u8 0, .int .u8 0, .int .u8 0, .int .u8 0, .int .u8 0, .int .u8 0, .int .u8 0, .int .u8 0, .int .u8 0, .int .u8 0, .int .u8 0, .int .u8 0, .int .u8 0, .int .u8 0, .int .u8 0, .int .u8 0, .int .u8 0, .int .u8 0, .int .u8 0, .int .u8 0, .int .u8 0, .int .u8 0, .int .u8 0, .int .u8 0, .int .u8 0, .int .u8 0, .int .u8 0, .int .u8 0, .int .u8 0, .int .u8 0, .int .u8 0, .int .u8 0] 46)) := below_new _ _
  go_enter Tryd.func45, Tryd.ntmps45
  rw [whole_eq 2]
  go_wp2_with fail
  generalize w.alloc (.cells #[.int .u8 0, .int .u8 0, .int .u8 0, .int .u8 0, .int .u8 0, .int .u8 0, .int .u8 0, .int .u8 0, .int .u8 0, .int .u8 0, .int .u8 0, .int .u8 0, .int .u8 0, .int .u8 0, .int .u8 0, .int .u8 0, .int .u8 0, .int .u8 0, .int .u8 0, .int .u8 0, .int .u8 0, .int .u8 0, .int .u8 0, .int .u8 0, .int .u8 0, .int .u8 0, .int .u8 0, .int .u8 0, .int .u8 0, .int .u8 0, .int .u8 0, .int .u8 0] 46) = w1 at h32 hB1 ⊢
  refine whole_list ?_
  refine wpList_build0 rfl _ rfl (row8 (List.replicate 32 0)) (by kernel_rfl) ?_
  refine wpList_store_blk h32 32 rfl rfl (row8_one _) rfl _ _ _ rfl rfl rfl (by kernel_rfl) ?_
  go_wp2_with fail
  exact bodyPost_ret (v := .agg (row8 (List.replicate 32 0))) (results_cell_row rfl _ _ _ _ _ _ _ rfl (h32.setRow (row8 (List.replicate 32 0))) Tryd.underlying46 rfl (by kernel_rfl)) rfl ⟨rfl, Below.setRow_ hB1 _ _ (Nat.le_refl _)⟩
end Go.Proofs.YtnnkgdkjmmljiaaDoor

namespace Go.Proofs.YtnnkgdkjmmljiaaDoor
open Go.RowKit
set_option linter.unusedVariables false
set_option maxRecDepth 100000

theorem part_row8 {xs : List UInt8} {k : Nat} (hk : k < xs.length) (w : World) : (part 5 (row8 xs) (k * 1)).run Tryd.prog w = .ok (.int .u8 ((xs[k]).toNat : Int)) w := by
  have hagg : ∀ w : World, (isAgg 5).run Tryd.prog w = .ok false w := fun w => by kernel_rfl
  have hc : (row8 xs)[k]? = some (.int .u8 ((xs[k]).toNat : Int)) := by rw [get_row8, List.getElem?_eq_getElem hk]; rfl
  simp [part, hagg, hc]

theorem equal_loop (d : Nat) (xs ys : List UInt8) (hx : xs.length = 32) (hy : ys.length = 32) (w : World) : ∀ n k : Nat, k + n = 32 →
    (forIn (List.range' k n) ((none, ()) : Option Bool × Unit) fun i __s => (do
            let __do_lift ← part 5 (row8 xs) (i * 1)
            let __do_lift_1 ← part 5 (row8 ys) (i * 1)
            let __do_lift ← Op.equalIn (d + 1) 5 __do_lift __do_lift_1
            if (!__do_lift) = true then pure (ForInStep.done (some false, ())) else pure (ForInStep.yield (none, ())) : Sem (ForInStep (Option Bool × Unit)))).run Tryd.prog w =
      .ok (if xs.drop k = ys.drop k then (none, ()) else (some false, ())) w := by
  intro n
  induction n with
  | zero =>
    intro k hk
    rw [List.drop_of_length_le (by omega), List.drop_of_length_le (by omega)]
    simp
  | succ n ih =>
    intro k hk
    rw [List.range'_succ, List.forIn_cons]
    have hkx : k < xs.length := by omega
    have hky : k < ys.length := by omega
    simp only [Sem.run_bind, part_row8 hkx, part_row8 hky, Result.andThen_ok, run_equalIn_int _ _ _ _ _ _ _ Tryd.underlying5]
    have hdx := List.drop_eq_getElem_cons hkx
    have hdy := List.drop_eq_getElem_cons hky
    by_cases he : xs[k] = ys[k]
    · rw [he]
      have h := ih (k + 1) (by omega)
      simp only [beq_self_eq_true, Bool.not_true, Bool.false_eq_true, if_false, Sem.run_pure, Result.andThen_ok]
      rw [h]
      have hiff : (xs.drop k = ys.drop k) = (xs.drop (k + 1) = ys.drop (k + 1)) := propext ⟨fun e => by rw [hdx, hdy] at e; exact (List.cons.inj e).2, fun e => by rw [hdx, hdy, he, e]⟩
      simp only [hiff]
    · have hne : (((xs[k]).toNat : Int) == ((ys[k]).toNat : Int)) = false := by
        rw [beq_eq_false_iff_ne]
        intro h
        exact he (UInt8.toNat_inj.1 (by omega))
      simp only [hne, Bool.not_false, if_true, Sem.run_pure, Result.andThen_ok]
      rw [if_neg]
      intro e
      rw [hdx, hdy] at e
      exact he (List.cons.inj e).1

theorem equal_row8 (d : Nat) (xs ys : List UInt8) (hx : xs.length = 32) (hy : ys.length = 32) (w : World) :
    (Op.equalIn (d + 2) 46 (.agg (row8 xs)) (.agg (row8 ys))).run Tryd.prog w = .ok (decide (xs = ys)) w := by
  have hsz : ∀ w : World, (sizeOf 5).run Tryd.prog w = .ok 1 w := fun w => by kernel_rfl
  have hl := equal_loop d xs ys hx hy w 32 0 rfl
  rw [Op.equalIn]
  simp only [Sem.run_bind, run_underlying Tryd.underlying46, Result.andThen_ok, hsz]
  rw [Std.Legacy.Range.forIn_eq_forIn_range']
  simp only [List.drop_zero] at hl
  refine (congrArg (fun r => Result.andThen r _) hl).trans ?_
  by_cases h : xs = ys
  · simp [h]
  · simp [h]
theorem equal_same (D : List UInt8) (h : D.length = 32) (w : World) : (Op.equalIn 10000 46 (.agg (row8 D)) (.agg (row8 D))).run Tryd.prog w = .ok true w := by
  have := equal_row8 9998 D D h h w
  simpa using this
theorem eql_row8 (xs ys : List UInt8) (hx : xs.length = 32) (hy : ys.length = 32) (w : World) :
    (binOp .eql 46 (.agg (row8 xs)) (.agg (row8 ys))).run Tryd.prog w = .ok (.bool (decide (xs = ys))) w := by
  rw [run_eql_struct, equal_row8 9998 xs ys hx hy]
  rfl
theorem neq_row8 (xs ys : List UInt8) (hx : xs.length = 32) (hy : ys.length = 32) (w : World) :
    (binOp .neq 46 (.agg (row8 xs)) (.agg (row8 ys))).run Tryd.prog w = .ok (.bool (!decide (xs = ys))) w := by
  rw [run_neq_struct, equal_row8 9998 xs ys hx hy]
  rfl
end Go.Proofs.YtnnkgdkjmmljiaaDoor

namespace Go.Proofs.YtnnkgdkjmmljiaaDoor
open Go.RowKit
set_option linter.unusedVariables false
set_option maxRecDepth 100000

theorem Rd.take_k {w : World} {B : Nat} {A : Option Addr} {xs : List UInt8} (h : Rd w B A xs) (k : Nat) : Rd w B A (xs.take k) := by
  rcases h with rfl | ⟨b, o, ha, hb, hc⟩
  · exact .inl (by simp)
  · refine .inr ⟨b, o, ha, hb, fun j x hx => hc j x ?_⟩
    rw [List.getElem?_take] at hx
    split at hx
    · exact hx
    · cases hx
/-- A piece of what is read. -/
theorem Rd.drop_k {w : World} {B b o : Nat} {xs : List UInt8} (h : Rd w B (some ⟨b, o, none⟩) xs) (k : Nat) : Rd w B (some ⟨b, o + k, none⟩) (xs.drop k) := by
  rcases h with rfl | ⟨b', o', ha, hb, hc⟩
  · exact .inl (by simp)
  · injection ha with ha
    injection ha with h1 h2
    subst h1 h2
    refine .inr ⟨b, o + k, rfl, hb, fun j x hx => ?_⟩
    rw [List.getElem?_drop] at hx
    rw [Nat.add_assoc]
    exact hc _ x hx
theorem Rd.src {w w' : World} {q : Nat} {A : Option Addr} {xs : List UInt8} (h : Rd w w.heap.size A xs) (hb : Below w.heap.size w w') (hq : w.heap.size ≤ q) : Src w' q A xs := Src.of_rd (h.below hb) hb.size hq

theorem Src.of_own {w : World} {t : TypeId} {base q n c : Nat} {A : Option Addr} {xs : List UInt8} (h : Own8 w t base A n c xs) (hq : q < base) : Src w q A xs := by
  rcases h.2 with ⟨rfl, rfl, _⟩ | ⟨g, zs, rfl, hb, hr, _⟩
  · exact .inl (List.eq_nil_of_length_eq_zero h.1)
  · refine .inr ⟨g, 0, rfl, by omega, hr.lt, fun j x hx => ?_⟩
    obtain ⟨hj, rfl⟩ := List.getElem?_eq_some_iff.1 hx
    rw [Nat.zero_add]
    have := hr.cell j (by simp; omega)
    rw [List.getElem_append_left hj] at this
    exact this
/-- Two rows of the call's own, in two blocks. -/
def Ap (A B : Option Addr) : Prop := ∀ g, A = some ⟨g, 0, none⟩ → B ≠ some ⟨g, 0, none⟩
theorem Ap.symm {A B : Option Addr} (h : Ap A B) : Ap B A := fun g hb ha => h g ha hb
theorem own_pair {w w4 : World} {t : TypeId} {base n c on oc : Nat} {A A4 oA : Option Addr} {xs oxs : List UInt8} (hm : Own8 w t base A n c xs) (ho : Own8 w t base oA on oc oxs) (hap : Ap A oA) (hg : w.grownBy w4 (A.map (·.block)))
    (h4 : A4 = A ∨ A4 = some ⟨w.heap.size, 0, none⟩) : Own8 w4 t base oA on oc oxs ∧ Ap A4 oA := by
  refine ⟨ho.keep fun g hg' => hg.block g (ho.lt g hg').2 fun e => ?_, fun g ha hb => ?_⟩
  · rcases hm.2 with ⟨rfl, _⟩ | ⟨g', zs, rfl, _⟩
    · cases e
    · injection e with e
      have : g = g' := e
      subst this
      exact hap g rfl hg'
  · rcases h4 with rfl | rfl
    · exact hap g ha hb
    · injection ha with ha
      injection ha with ha
      have := (ho.lt g hb).2
      omega
theorem St.grown {w w' : World} {q : Nat} {xs : List UInt8} {row : Option Nat} (h : St w q xs) (hg : w.grownBy w' row) (hne : some q ≠ row) : St w' q xs := let ⟨G, bs, hb, hi⟩ := h; ⟨G, bs, hb.grown hg hne, hi⟩
end Go.Proofs.YtnnkgdkjmmljiaaDoor

namespace Go.Proofs.YtnnkgdkjmmljiaaDoor
open Go.RowKit
set_option linter.unusedVariables false

/-- What the bytes so far differ in. -/
def unl (xs ys : List UInt8) : Nat → UInt8
  | 0 => 0
  | k + 1 => unl xs ys k ||| ((xs[k]?.getD 0) ^^^ (ys[k]?.getD 0))

theorem or_zero8 (a b : UInt8) : a ||| b = 0 ↔ a = 0 ∧ b = 0 := by
  rw [← UInt8.toNat_inj, ← UInt8.toNat_inj, ← UInt8.toNat_inj, UInt8.toNat_or]
  exact Nat.or_eq_zero_iff
theorem xor_zero8 (a b : UInt8) : a ^^^ b = 0 ↔ a = b := UInt8.xor_eq_zero_iff

theorem unl_zero (xs ys : List UInt8) (n : Nat) : unl xs ys n = 0 ↔ ∀ k, k < n → xs[k]?.getD 0 = ys[k]?.getD 0 := by
  induction n with
  | zero => simp [unl]
  | succ n ih =>
    rw [unl, or_zero8, xor_zero8, ih]
    constructor
    · rintro ⟨h, h'⟩ k hk
      rcases Nat.lt_succ_iff_lt_or_eq.1 hk with hk | rfl
      · exact h k hk
      · exact h'
    · intro h
      exact ⟨fun k hk => h k (by omega), h n (by omega)⟩

theorem unl_eq (xs ys : List UInt8) (h : xs.length = ys.length) : (unl xs ys xs.length == 0) = decide (xs = ys) := by
  rw [Bool.eq_iff_iff, beq_iff_eq, decide_eq_true_iff, unl_zero]
  constructor
  · intro hk
    apply List.ext_getElem h
    intro i h1 h2
    have := hk i h1
    rw [List.getElem?_eq_getElem h1, List.getElem?_eq_getElem h2] at this
    exact this
  · rintro rfl k _
    rfl

theorem bits_or_u8 (a b : UInt8) : bits .or .u8 (a.toNat : Int) (b.toNat : Int) = ((a ||| b).toNat : Int) := by
  rw [u8_or_nat _ _ a.toNat_lt b.toNat_lt, UInt8.toNat_or]
theorem bits_xor_u8 (a b : UInt8) : bits .xor .u8 (a.toNat : Int) (b.toNat : Int) = ((a ^^^ b).toNat : Int) := by
  rw [u8_xor_nat _ _ a.toNat_lt b.toNat_lt, UInt8.toNat_xor]

end Go.Proofs.YtnnkgdkjmmljiaaDoor

namespace Go.Proofs.YtnnkgdkjmmljiaaDoor
open Go.RowKit
set_option linter.unusedVariables false
set_option maxRecDepth 100000

/-- A whole array as a slice. -/
theorem slice_whole {P : Program} {t e : TypeId} {n : Nat} (ht : P.underlying t = some (.array n e)) (hs : (P.info? e).map (·.size) = some 1) (b o : Nat) (w : World) :
    (Instr.sliceAt t (.pointer (some ⟨b, o, none⟩)) none none none).run P w = .ok (.slice (some ⟨b, o, none⟩) n n) w := by
  have ha : P.arrayLen t = n := by simp [Program.arrayLen, ht]
  have he : P.elem t = e := by simp [Program.elem, ht]
  have h := run_sliceAt_array_all (P := P) w t ⟨b, o, none⟩ (by rw [ha, he]; exact ht)
  rw [h, ha, he]
  cases hq : P.info? e with
  | none => simp [hq] at hs
  | some i =>
    have h1 : i.size = 1 := by simpa [hq] using hs
    by_cases h0 : n = 0
    · subst h0; simp [sizeOf, typeInfo, hq, h1, slicedAt]
    · simp [sizeOf, typeInfo, hq, h1, slicedAt, Addr.add]
theorem zero64 (w : World) : (zeroValue 55).run Tryd.prog w = .ok (.agg (row8 (List.replicate 64 0))) w :=
  (zero_of_info (P := Tryd.prog) (t := 55) (v := .agg (row8 (List.replicate 64 0))) (n := 64) (by kernel_rfl)).1 w
theorem row8_bits (l : List UInt8) (k : Nat) (a m : UInt8) : (row8 l).setIfInBounds k (.int .u8 (bits .xor .u8 (a.toNat : Int) (m.toNat : Int))) = row8 (l.set k (a ^^^ m)) := by
  rw [bits_xor_u8, set_row8]

set_option maxHeartbeats 1000000 in
theorem masked_any (m : UInt8) (q : Nat) (bs : List UInt8) (w : World) (hb : bs.length = 64) (hq : Blk w q 55 (row8 bs)) :
    Calls Tryd.prog 34 #[.int .u8 (m.toNat : Int), .pointer (some ⟨q, 0, none⟩)] w fun e w' => e = .returned (.agg (row8 (msk m bs))) ∧ Below w.heap.size w w' := by
  have hql := hq.lt
  have h1 : Blk (w.alloc (.cells #[.int .u8 0, .int .u8 0, .int .u8 0, .int .u8 0, .int .u8 0, .int .u8 0, .int .u8 0, .int .u8 0, .int .u8 0, .int .u8 0, .int .u8 0, .int .u8 0, .int .u8 0, .int .u8 0, .int .u8 0, .int .u8 0, .int .u8 0, .int .u8 0, .int .u8 0, .int .u8 0, .int .u8 0, .int .u8 0, .int .u8 0, .int .u8 0, .int .u8 0, .int .u8 0, .int .u8 0, .int .u8 0, .int .u8 0, .int .u8 0, .int .u8 0, .int .u8 0, .int .u8 0, .int .u8 0, .int .u8 0, .int .u8 0, .int .u8 0, .int .u8 0, .int .u8 0, .int .u8 0, .int .u8 0, .int .u8 0, .int .u8 0, .int .u8 0, .int .u8 0, .int .u8 0, .int .u8 0, .int .u8 0, .int .u8 0, .int .u8 0, .int .u8 0, .int .u8 0, .int .u8 0, .int .u8 0, .int .u8 0, .int .u8 0, .int .u8 0, .int .u8 0, .int .u8 0, .int .u8 0, .int .u8 0, .int .u8 0, .int .u8 0, .int .u8 0] 55)) w.heap.size 55 (row8 (List.replicate 64 0)) := Blk.new _ _ _
  have hq1 := hq.alloc (.cells #[.int .u8 0, .int .u8 0, .int .u8 0, .int .u8 0, .int .u8 0, .int .u8 0, .int .u8 0, .int .u8 0, .int .u8 0, .int .u8 0, .int .u8 0, .int .u8 0, .int .u8 0, .int .u8 0, .int .u8 0, .int .u8 0, .int .u8 0, .int .u8 0, .int .u8 0, .int .u8 0, .int .u8 0, .int .u8 0, .int .u8 0, .int .u8 0, .int .u8 0, .int .u8 0, .int .u8 0, .int .u8 0, .int .u8 0, .int .u8 0, .int .u8 0, .int .u8 0, .int .u8 0, .int .u8 0, .int .u8 0, .int .u8 0, .int .u8 0, .int .u8 0, .int .u8 0, .int .u8 0, .int .u8 0, .int .u8 0, .int .u8 0, .int .u8 0, .int .u8 0, .int .u8 0, .int .u8 0, .int .u8 0, .int .u8 0, .int .u8 0, .int .u8 0, .int .u8 0, .int .u8 0, .int .u8 0, .int .u8 0, .int .u8 0, .int .u8 0, .int .u8 0, .int .u8 0, .int .u8 0, .int .u8 0, .int .u8 0, .int .u8 0, .int .u8 0] 55)
  have hB1 : Below w.heap.size w (w.alloc (.cells #[.int .u8 0, .int .u8 0, .int .u8 0, .int .u8 0, .int .u8 0, .int .u8 0, .int .u8 0, .int .u8 0, .int .u8 0, .int .u8 0, .int .u8 0, .int .u8 0, .int .u8 0, .int .u8 0, .int .u8 0, .int .u8 0, .int .u8 0, .int .u8 0, .int .u8 0, .int .u8 0, .int .u8 0, .int .u8 0, .int .u8 0, .int .u8 0, .int .u8 0, .int .u8 0, .int .u8 0, .int .u8 0, .int .u8 0, .int .u8 0, .int .u8 0, .int .u8 0, .int .u8 0, .int .u8 0, .int .u8 0, .int .u8 0, .int .u8 0, .int .u8 0, .int .u8 0, .int .u8 0, .int .u8 0, .int .u8 0, .int .u8 0, .int .u8 0, .int .u8 0, .int .u8 0, .int .u8 0, .int .u8 0, .int .u8 0, .int .u8 0, .int .u8 0, .int .u8 0, .int .u8 0, .int .u8 0, .int .u8 0, .int .u8 0, .int .u8 0, .int .u8 0, .int .u8 0, .int .u8 0, .int .u8 0, .int .u8 0, .int .u8 0, .int .u8 0] 55)) := below_new _ _
  have hz1 : (w.alloc (.cells #[.int .u8 0, .int .u8 0, .int .u8 0, .int .u8 0, .int .u8 0, .int .u8 0, .int .u8 0, .int .u8 0, .int .u8 0, .int .u8 0, .int .u8 0, .int .u8 0, .int .u8 0, .int .u8 0, .int .u8 0, .int .u8 0, .int .u8 0, .int .u8 0, .int .u8 0, .int .u8 0, .int .u8 0, .int .u8 0, .int .u8 0, .int .u8 0, .int .u8 0, .int .u8 0, .int .u8 0, .int .u8 0, .int .u8 0, .int .u8 0, .int .u8 0, .int .u8 0, .int .u8 0, .int .u8 0, .int .u8 0, .int .u8 0, .int .u8 0, .int .u8 0, .int .u8 0, .int .u8 0, .int .u8 0, .int .u8 0, .int .u8 0, .int .u8 0, .int .u8 0, .int .u8 0, .int .u8 0, .int .u8 0, .int .u8 0, .int .u8 0, .int .u8 0, .int .u8 0, .int .u8 0, .int .u8 0, .int .u8 0, .int .u8 0, .int .u8 0, .int .u8 0, .int .u8 0, .int .u8 0, .int .u8 0, .int .u8 0, .int .u8 0, .int .u8 0] 55)).heap.size = w.heap.size + 1 := by simp
  obtain ⟨S, hS⟩ : ∃ S, S = msk m bs := ⟨_, rfl⟩
  have HS := Lib.hid hS
  have HL := Lib.hid (show S.length = 64 by rw [hS, length_msk, hb])
  have HB := Lib.hid hb
  rw [← hS]
  clear hS hb
  go_enter Tryd.func34, Tryd.ntmps34
  rw [whole_eq 1, whole_eq 7]
  go_wp2_with fail
  generalize w.alloc (.cells #[.int .u8 0, .int .u8 0, .int .u8 0, .int .u8 0, .int .u8 0, .int .u8 0, .int .u8 0, .int .u8 0, .int .u8 0, .int .u8 0, .int .u8 0, .int .u8 0, .int .u8 0, .int .u8 0, .int .u8 0, .int .u8 0, .int .u8 0, .int .u8 0, .int .u8 0, .int .u8 0, .int .u8 0, .int .u8 0, .int .u8 0, .int .u8 0, .int .u8 0, .int .u8 0, .int .u8 0, .int .u8 0, .int .u8 0, .int .u8 0, .int .u8 0, .int .u8 0, .int .u8 0, .int .u8 0, .int .u8 0, .int .u8 0, .int .u8 0, .int .u8 0, .int .u8 0, .int .u8 0, .int .u8 0, .int .u8 0, .int .u8 0, .int .u8 0, .int .u8 0, .int .u8 0, .int .u8 0, .int .u8 0, .int .u8 0, .int .u8 0, .int .u8 0, .int .u8 0, .int .u8 0, .int .u8 0, .int .u8 0, .int .u8 0, .int .u8 0, .int .u8 0, .int .u8 0, .int .u8 0, .int .u8 0, .int .u8 0, .int .u8 0, .int .u8 0] 55) = w1 at h1 hq1 hB1 hz1 ⊢
  refine whole_list ?_
  refine wpList_load_blk hq1 64 (by rw [size_row8, HB.out]) rfl _ _ rfl rfl _ Tryd.underlying55 rfl (by kernel_rfl) ?_
  refine wpList_alloc_ rfl _ rfl _ (zero64 w1) ?_
  have h2 : Blk (w1.alloc (.cells (Value.agg (row8 (List.replicate 64 0))).cells 55)) w1.heap.size 55 (row8 (List.replicate 64 0)) := Blk.new _ _ _
  have h12 := h1.alloc (.cells (Value.agg (row8 (List.replicate 64 0))).cells 55)
  have hB2 := hB1.alloc hB1.size (.cells (Value.agg (row8 (List.replicate 64 0))).cells 55)
  rw [hz1] at h2 ⊢
  generalize w1.alloc (.cells (Value.agg (row8 (List.replicate 64 0))).cells 55) = w2 at h2 h12 hB2 ⊢
  refine wpList_store_blk h2 64 rfl (by rw [size_row8, HB.out]) (row8_one bs) rfl _ _ _ rfl rfl rfl (by kernel_rfl) ?_
  have h3 := h2.setRow (row8 bs)
  have h13 : Blk (w2.setRow (w.heap.size + 1) (row8 bs)) w.heap.size 55 (row8 (List.replicate 64 0)) := (setRow_other _ _ _ _ (by omega)).trans h12
  have hB3 := Below.setRow_ hB2 (w.heap.size + 1) (row8 bs) (by omega)
  generalize w2.setRow (w.heap.size + 1) (row8 bs) = w3 at h3 h13 hB3 ⊢
  clear h1 h2 h12 hB1 hB2 hz1 hq1
  go_wp2_with fail
  go_loopw [7] (fun i wr => ∃ k : Nat, k ≤ 64 ∧ i = .int .i64 k ∧ Blk wr w.heap.size 55 (row8 (List.replicate 64 0)) ∧ Blk wr (w.heap.size + 1) 55 (row8 (mskTo m bs k)) ∧ Below w.heap.size w wr) (fun i _ => 64 - (intOf i).toNat)
  case atStart => exact ⟨0, by omega, rfl, h13, by rw [mskTo_zero]; exact h3, hB3⟩
  case round =>
    clear h3 h13 hB3
    obtain ⟨k, hk, rfl, h1, h2, hB⟩ := hrel
    by_cases hlt : k < 64
    · have hkb : k < bs.length := by rw [HB.out]; exact hlt
      obtain ⟨x, hx⟩ : ∃ x, x = bs[k] := ⟨_, rfl⟩
      have ck : wr.cell? ⟨w.heap.size + 1, k, none⟩ = some (.int .u8 (x.toNat : Int)) := (h2.cell k).trans (by rw [get_row8, mskTo_at hkb, hx]; rfl)
      have HST := Lib.hid (show (mskTo m bs k).set k (x ^^^ m) = mskTo m bs (k + 1) by rw [hx]; exact mskTo_step hkb)
      have fk := h2.frozen k
      have lk : (k : Int) < 64 := by omega
      clear hkb hx
      go_wp2_with fail
      go_roundw
      case rel =>
        refine ⟨k + 1, by omega, by go_num, h1.far (by simp) _, ?_, hB.setCell (by simp) _⟩
        rw [← HST.out, ← row8_bits]
        exact h2.set_ k _
      case measure => simp [intOf]; omega
    · have hk9 : decide ((k : Int) < 64) = false := by simp; omega
      have HX := Lib.hid (show mskTo m bs k = S by rw [HS.out]; exact mskTo_end (by rw [HB.out]; omega))
      rw [HX.out] at h2
      have hsz : (row8 S).size = 64 := by rw [size_row8, HL.out]
      go_wp2_with fail
      refine whole_list ?_
      refine wpList_load_blk h2 64 hsz rfl _ _ rfl rfl _ Tryd.underlying55 rfl (by kernel_rfl) ?_
      refine wpList_store_blk h1 64 rfl hsz (row8_one _) rfl _ _ _ rfl rfl rfl (by kernel_rfl) ?_
      go_wp2_with fail
      exact bodyPost_ret (v := .agg (row8 S)) (results_cell_row rfl _ _ _ _ _ _ _ rfl (h1.setRow (row8 S)) Tryd.underlying55 rfl ((show (Tryd.prog.info? 55).map (·.size) = some 64 by kernel_rfl).trans (by rw [hsz]))) rfl ⟨rfl, Below.setRow_ hB _ _ (Nat.le_refl _)⟩
end Go.Proofs.YtnnkgdkjmmljiaaDoor
