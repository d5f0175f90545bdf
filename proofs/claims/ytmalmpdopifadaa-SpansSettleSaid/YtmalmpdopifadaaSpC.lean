/-
  Layer 4 (spans): contracts of the code: Last.
-/
import Derived.Test.YtmalmpdopifadaaSpB
namespace Go.Proofs.Ytmalmpdopifadaa
open Go.RowKit
open Go.Maps (Keyed)
set_option linter.unusedVariables false

theorem still_left {P : Program} {f : FuncId} {args : Array Value} {w : World} {n : Nat} {v : Value}
    (h : Calls P f args (w.drewN n) fun e w' => e = .returned v ∧ w.drewN n = w') : Calls P f args (w.drewN n) fun e w'' => e = .returned v ∧ ∃ m, w'' = w.drewN m :=
  h.mono fun _ _ ⟨he, hm⟩ => ⟨he, n, hm.symm⟩

theorem keyed32 : Keyed Try.prog 22 := Maps.int_keyed Try.underlying22

theorem ranges_drewN {H : Type} {w : World} {P : Program} {k : TypeId} {R : Value → Option (DataW H × List MemPlace)} {b r n : Nat} {D : DataW H} {left : Lit → Bool} {cnt : Nat} (h : w.ranges P k R b r n D left cnt) (q : Nat) : (w.drewN q).ranges P k R b r n D left cnt := h

/-- A step of the range over a map of what is in. -/
theorem wpList_next_set {P : Program} (w : World) {ops : Array Oper} {rest : List Oper} {o : Oper} {a : Act} {Q : Exit → Act → World → Prop} (hg : o.guard = none) (it : Operand) (hop : o.op = Op.next it false) (k e : TypeId)
    (hk : P.underlying k = some (.int .u32)) (he : P.underlying e = some .bool) (b r n : Nat) (D : DataW Unit) (left : Lit → Bool) (cnt : Nat)
    (hD : Hid (∀ x : Int, Maps.has D (.int .u32 x) = true → ∀ z, D.atKey (.int .u32 x) z = .lit (.bool true)))
    (hit : a.eval it = .pointer (some ⟨r, 0, none⟩)) (h : w.ranges P k (plainElem P e) b r n D left cnt)
    (hDone : (∀ kl, left kl = false) → wpList P ops Q rest (a.put o.dst (.tuple #[.bool false])) w)
    (hMore : ∀ (x : Int) (w' : World) (cnt' : Nat), (0 ≤ x ∧ x < 4294967296) → Maps.has D (.int .u32 x) = true → w'.ranges P k (plainElem P e) b r n D (fun z => left z && !z.sameKey (.int .u32 x)) cnt' → cnt' < cnt →
      w.grownBy w' (some r) → (Instr.entry (.pointer (some ⟨r, 0, none⟩))).run P w' = .ok (.tuple #[.int .u32 x, .bool true]) w' → wpList P ops Q rest (a.put o.dst (.tuple #[.bool true, .int .u32 x, .bool true])) w') :
    wpList P ops Q (o :: rest) a w :=
  wpList_next_ranges w hg it hop k (Maps.int_keyed hk) (plainElem P e) (Value.int .u32) Value.bool (fun key kl hkey => by obtain ⟨x, rfl, _⟩ := Maps.keyOf_int_inv hk hkey; exact ⟨x, rfl⟩) (fun v y hv => by obtain ⟨c, rfl, _⟩ := plainElem_bool_inv he hv; exact ⟨c, rfl⟩)
    b r n D left cnt hit h (fun _ hl => hDone hl) (fun x c kl y w' cnt' hkey hlk hv hat hrg hlt hgr hsz hen => by
      obtain ⟨x', ex, rfl, hwx⟩ := Maps.keyOf_int_inv hk hkey
      injection ex with _ ex
      subst ex
      have hh : Maps.has D (.int .u32 x) = true := Maps.has_true_of_atKey hat
      obtain ⟨c', ec, hy⟩ := plainElem_bool_inv he hv
      injection ec with ec
      subst ec
      have e2 := (hat .nil).symm.trans (hD x hh .nil)
      rw [hy] at e2
      injection e2 with e2
      injection e2 with e2
      subst e2
      have hb : 0 ≤ x ∧ x ≤ 4294967295 := by simpa [Lit.wf, IntKind.min, IntKind.max, IntKind.signed, IntKind.bits] using hwx
      exact hMore x w' cnt' (by omega) hh hrg hlt hgr hen)

section
variable {g m : Nat} {B : Int} {f : Nat → Bool} {w : World}

/-- So far: p is the furthest of those that came. -/
def Far (D : DataW Unit) (B : Int) (f : Nat → Bool) (left : Lit → Bool) (p : Int) : Prop :=
  (0 ≤ p ∧ p < 4294967296) ∧ (p = B ∨ f (dst B p) = true) ∧ ∀ y : Int, 0 ≤ y ∧ y < 4294967296 → f (dst B y) = true → left (.int .u32 y) = false → dst B y ≤ dst B p
theorem far_end {D : DataW Unit} {left : Lit → Bool} {p : Int} (hw : Win f) (hB : 0 ≤ B ∧ B < 4294967296) (h : Far D B f left p) (hl : ∀ kl, left kl = false) : p = (B + (lst f 4096 : Nat)) % 4294967296 := by
  obtain ⟨hp, h1, h2⟩ := h
  have : lst f 4096 = dst B p := by
    refine lst_is hw ?_ fun i hi => ?_
    · rcases h1 with rfl | h1
      · exact .inl (by unfold dst; omega)
      · exact .inr h1
    · have hi4 := (hw i hi).2
      have e : dst B ((B + (i : Nat)) % 4294967296) = i := dst_add hB i (by omega)
      have := h2 ((B + (i : Nat)) % 4294967296) (by omega) (by rw [e]; exact hi) (hl _)
      rw [e] at this
      exact this
  rw [this, dst_inv hp]

theorem far_left {D : DataW Unit} {left left' : Lit → Bool} {p : Int} (h : Far D B f left p) (hl : ∀ kl, left kl = false) : Far D B f left' p := ⟨h.1, h.2.1, fun y hy hf _ => h.2.2 y hy hf (hl _)⟩

theorem far_on {D : DataW Unit} {left : Lit → Bool} {p x : Int} (h : Far D B f left p) (hx : 0 ≤ x ∧ x < 4294967296) (hf : f (dst B x) = true) (hgt : ahd 4294967296 B p < ahd 4294967296 B x) : Far D B f (fun z => left z && !z.sameKey (.int .u32 x)) x := by
  have hlt : dst B p < dst B x := by unfold ahd at hgt; unfold dst; omega
  refine ⟨hx, .inr hf, fun y hy hfy hl => ?_⟩
  simp only [Bool.and_eq_false_iff, Bool.not_eq_false'] at hl
  rcases hl with hl | hl
  · have := h.2.2 y hy hfy hl; omega
  · have := WideAt.sameKey_eq hl
    injection this with _ e
    rw [e]; exact Nat.le_refl _
theorem far_stay {D : DataW Unit} {left : Lit → Bool} {p x : Int} (h : Far D B f left p) (hgt : ¬ ahd 4294967296 B p < ahd 4294967296 B x) : Far D B f (fun z => left z && !z.sameKey (.int .u32 x)) p := by
  have hlt : dst B x ≤ dst B p := by unfold ahd at hgt; unfold dst; omega
  refine ⟨h.1, h.2.1, fun y hy hfy hl => ?_⟩
  simp only [Bool.and_eq_false_iff, Bool.not_eq_false'] at hl
  rcases hl with hl | hl
  · exact h.2.2 y hy hfy hl
  · have := WideAt.sameKey_eq hl
    injection this with _ e
    rw [e]; exact hlt

set_option maxHeartbeats 1600000 in
theorem last_any (h : SpSet w g m B f) :
    Calls Try.prog 26 #[.pointer (some ⟨g, 0, none⟩)] w fun e w' => e = .returned (.int .u32 ((B + (lst f 4096 : Nat)) % 4294967296)) ∧ Below w.heap.size w w' := by
  have hB := h.base
  have c0 := h.c0
  have c1 := h.c1
  obtain ⟨D, hown, hmem, hat, hsz⟩ := h.map
  have hgl := h.blk.lt
  have HD : Hid (∀ x : Int, 0 ≤ x ∧ x < 4294967296 → Maps.has D (.int .u32 x) = f (dst B x)) := hmem
  have HE := Lib.hid (fun p hp => @far_end B f D (fun _ => false) p h.win h.base hp (fun _ => rfl))
  have hblk := h.blk
  have HA := Lib.hid hat
  clear hmem hat hsz h
  go_enter Try.func26, Try.ntmps26
  go_wp2_with (at_range; refine wpList_range_own _ rfl _ 52 rfl 22 4 keyed32 Try.underlying52 _ m _ D rfl hown ?_; intro w0 hrg0 hg0 hs0)
  go_frame
  go_loopw [3, 4] (fun l _ wr => ∃ (left : Lit → Bool) (cn : Nat) (p : Int), l = .int .u32 p ∧ Far D B f left p ∧ wr.ranges Try.prog 22 (plainElem Try.prog 4) m w.heap.size (cnt f 4096) D left cn ∧ Below w.heap.size w wr) (fun _ _ wr => wr.rangeLeft m w.heap.size)
  case atStart =>
    refine ⟨_, _, B, rfl, ⟨hB, .inl rfl, fun y hy hf hl => ?_⟩, hrg0, ?_⟩
    · rw [HD.out y hy, hf] at hl; cases hl
    · exact ⟨hg0.os, hg0.tape, hg0.output, hg0.size, fun i hi => hg0.block i hi (by simp)⟩
  case round =>
    obtain ⟨left, cn, p, rfl, hfar, hrg, hbel⟩ := hrel
    have hp32 := hfar.1
    have HFar := Lib.hid hfar
    go_wp2_with (at_next; refine wpList_next_set _ rfl _ rfl 22 4 Try.underlying22 Try.underlying4 m w.heap.size _ D _ _ HA rfl hrg ?_ ?_)
    · intro hl0
      have hp := HE.out p (far_left hfar (fun kl => hl0 kl))
      have HP := Lib.hid hp
      clear hl0 hp
      go_wp2
      go_ret
      exact ⟨ret_int HP.out, hbel⟩
    · intro x w1 cn1 hx0 hx1 hhas hrg1 hlt hg1 hen
      have hx : 0 ≤ x ∧ x < 4294967296 := ⟨hx0, hx1⟩
      have hfx : f (dst B x) = true := by rw [← HD.out x hx]; exact hhas
      have hg1b : Below w.heap.size w w1 := (hbel.trans ⟨hg1.os, hg1.tape, hg1.output, hg1.size, fun i hi => hg1.block i (Nat.lt_of_lt_of_le hi hbel.size) (by simp; omega)⟩)
      have d0 : ∀ n, (w1.drewN n).cell? ⟨g, 0, none⟩ = some (.int .u32 B) := fun n => ((hblk.below hg1b hgl).cell 0).trans rfl
      have HF := Lib.hid hfx
      have HH := Lib.hid hhas
      clear hhas hfx
      by_cases hgt : ahd 4294967296 B p < ahd 4294967296 B x
      · go_wp2_with fail
        go_quiet ((go_at_call 34; exact still_left (ahead_32 _ _ _ (by assumption) (by assumption))))
        have HR : Hid (Far D B f (fun z => left z && !z.sameKey (.int .u32 x)) x) := Lib.hid (far_on HFar.out hx HF.out hgt)
        clear hgt d0 hen
        go_wp2_with fail
        go_roundw
        case rel => exact ⟨_, cn1, x, rfl, HR.out, ranges_drewN hrg1 _, below_drewN hg1b _⟩
        case measure => rw [(ranges_drewN hrg1 _).left_eq, hrg.left_eq]; exact hlt
      · have HR : Hid (Far D B f (fun z => left z && !z.sameKey (.int .u32 x)) p) := Lib.hid (far_stay HFar.out hgt)
        have hgd : decide (ahd 4294967296 B p < ahd 4294967296 B x) = false := decide_eq_false hgt
        clear hgt
        go_wp2_with fail
        go_quiet ((go_at_call 34; exact still_left (ahead_32 _ _ _ (by assumption) (by assumption))))
        clear d0 hen
        go_wp2_with fail
        go_roundw
        case rel => exact ⟨_, cn1, p, rfl, HR.out, ranges_drewN hrg1 _, below_drewN hg1b _⟩
        case measure => rw [(ranges_drewN hrg1 _).left_eq, hrg.left_eq]; exact hlt
theorem last_nil (w : World) :
    Calls Try.prog 26 #[.pointer none] w fun e w' => e = .returned (.int .u32 0) ∧ w = w' := by
  go_enter Try.func26, Try.ntmps26
  go_wp2
  go_ret
  exact ⟨rfl, rfl⟩
end
end Go.Proofs.Ytmalmpdopifadaa
