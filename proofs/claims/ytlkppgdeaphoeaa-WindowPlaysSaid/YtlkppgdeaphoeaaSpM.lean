/-
  Layer 4 (spans): words on memory: what has turned; a map of numbers that are in; a set; slices of gaps, of numbers.
-/
import Derived.Test.YtlkppgdeaphoeaaSpn
import Derived.Maps.RangeWalk
namespace Go.Proofs.Ytlkppgdeaphoeaa
open Go.RowKit
open Go.Maps (Keyed)
set_option linter.unusedVariables false

/-! ### What has turned -/
/-- w' is w but for the blocks S, and what is new. -/
structure Tw (S : List Nat) (w w' : World) : Prop where
  os : w'.os = w.os
  tape : w'.tape = w.tape
  output : w'.output = w.output
  size : w.heap.size ≤ w'.heap.size
  block : ∀ k, k < w.heap.size → k ∉ S → w'.heap[k]? = w.heap[k]?
section
variable {S T : List Nat} {a b c w w' : World} {B : Nat}
theorem Tw.refl (S : List Nat) (w : World) : Tw S w w := ⟨rfl, rfl, rfl, Nat.le_refl _, fun _ _ _ => rfl⟩
theorem Tw.trans (h : Tw S a b) (k : Tw S b c) : Tw S a c :=
  ⟨k.os.trans h.os, k.tape.trans h.tape, k.output.trans h.output, Nat.le_trans h.size k.size, fun i hi hn => (k.block i (Nat.lt_of_lt_of_le hi h.size) hn).trans (h.block i hi hn)⟩
theorem Tw.sub (h : Tw S a b) (hs : ∀ k ∈ S, k ∈ T) : Tw T a b := ⟨h.os, h.tape, h.output, h.size, fun i hi hn => h.block i hi fun hk => hn (hs i hk)⟩
theorem Tw.of_below (h : Below a.heap.size a b) (S : List Nat) : Tw S a b := ⟨h.os, h.tape, h.output, h.size, fun i hi _ => h.block i hi⟩
theorem Tw.drewN (h : Tw S a b) (n : Nat) : Tw S a (b.drewN n) := ⟨h.os, h.tape, h.output, h.size, h.block⟩
theorem Tw.of_grown {g : Nat} (h : a.grownBy b (some g)) (hg : g ∈ S) : Tw S a b := ⟨h.os, h.tape, h.output, h.size, fun i hi hn => h.block i hi fun e => hn (by injection e with e; rw [e]; exact hg)⟩
theorem Tw.below (h : Tw S a b) (hS : ∀ k ∈ S, B ≤ k) (hB : B ≤ a.heap.size) : Below B a b :=
  ⟨h.os, h.tape, h.output, h.size, fun i hi => h.block i (by omega) fun hk => by have := hS i hk; omega⟩
theorem Tw.alloc (w : World) (o : Obj) (S : List Nat) : Tw S w (w.alloc o) := Tw.of_below (below_new w o) S
theorem Tw.setCell (w : World) (p : Addr) (u : Value) (h : p.block ∈ S) : Tw S w (w.setCell p u) :=
  ⟨rfl, rfl, rfl, by simp [World.setCell], fun i hi hn => Below.heap_setCell w p u i (fun e => hn (by rw [e]; exact h))⟩
theorem Tw.cell (h : Tw S a b) {p : Addr} (hp : p.block < a.heap.size) (hn : p.block ∉ S) : b.cell? p = a.cell? p := World.cell?_of_block (h.block _ hp hn)
theorem Blk.tw {g : Nat} {t : TypeId} {cs : Array Value} (hb : Blk w g t cs) (h : Tw S w w') (hn : g ∉ S) : Blk w' g t cs := (h.block g hb.lt hn).trans hb
end

/-! ### A map of what is in -/
def MapOf (D : DataW Unit) (B : Int) (f : Nat → Bool) : Prop :=
  (∀ x : Int, 0 ≤ x ∧ x < 4294967296 → Maps.has D (.int .u32 x) = f (dst B x)) ∧
  (∀ x : Int, Maps.has D (.int .u32 x) = true → ∀ z, D.atKey (.int .u32 x) z = .lit (.bool true)) ∧ Maps.size D = cnt f 4096
/-- Block m is a map of the numbers that are in, by how far beyond B they are. -/
def SetM (P : Program) (k e : TypeId) (w : World) (m : Nat) (B : Int) (f : Nat → Bool) : Prop :=
  ∃ D : DataW Unit, w.ownsMap P k (plainElem P e) m (cnt f 4096) D ∧ MapOf D B f

theorem plainElem_bool_inv {P : Program} {e : TypeId} (he : P.underlying e = some .bool) {v : Value} {z : DataW Unit × List MemPlace} (h : plainElem P e v = some z) : ∃ c, v = .bool c ∧ z = (.lit (.bool c), []) := by
  unfold plainElem at h
  rw [he] at h
  cases v <;> simp at h
  subst h
  exact ⟨_, rfl, rfl⟩
theorem keyLit (x : Int) : WideAt.IsKeyLit (.int .u32 x) := trivial
theorem wf_u32 {x : Int} (hx : 0 ≤ x ∧ x < 4294967296) : (Lit.int .u32 x).wf = true := by
  simp [Lit.wf, IntKind.min, IntKind.max, IntKind.signed, IntKind.bits]; omega
theorem owns_tight {H : Type} {P : Program} {k : TypeId} {R : Value → Option (DataW H × List MemPlace)} {w : World} {b n : Nat} {D : DataW H} (h : w.ownsMap P k R b n D) : w.ownsMap P k R b (Maps.size D) D := by
  obtain ⟨es, clock, hb, F, hs, rfl⟩ := h
  refine ⟨es, clock, hb, F, ?_, rfl⟩
  simp [Maps.size, length_sorted]

section
variable {P : Program} {k e t : TypeId} {w w' : World} {m : Nat} {B : Int} {f : Nat → Bool}

theorem SetM.lt (h : SetM P k e w m B f) : m < w.heap.size := h.elim fun D h => h.1.lt
theorem SetM.at_ (h : SetM P k e w m B f) (hb : w'.heap[m]? = w.heap[m]?) : SetM P k e w' m B f := by
  obtain ⟨D, ⟨es, clock, h1, h2⟩, hD⟩ := h
  exact ⟨D, ⟨es, clock, hb.trans h1, h2⟩, hD⟩
theorem SetM.tw {S : List Nat} (h : SetM P k e w m B f) (ht : Tw S w w') (hn : m ∉ S) : SetM P k e w' m B f := h.at_ (ht.block m h.lt hn)
theorem SetM.new (w : World) (P : Program) (k e : TypeId) (B : Int) : SetM P k e (w.alloc (.map #[] 0)) w.heap.size B noF :=
  ⟨.map [], by have := World.ownsMap_made (H := Unit) w P k (plainElem P e); rw [cnt_no]; exact this, fun x _ => rfl, fun x h => by simp [Maps.has] at h, by rw [cnt_no]; rfl⟩

theorem SetM.look (h : SetM P k e w m B f) (hk : P.underlying k = some (.int .u32)) (he : P.underlying e = some .bool) (ht : P.underlying t = some (.map k e)) (hz : ∀ w, (zeroValue e).run P w = .ok (.bool false) w)
    {x : Int} (hx : 0 ≤ x ∧ x < 4294967296) : (Instr.lookup t (.map (some m)) (.int .u32 x) false).run P w = .ok (.bool (f (dst B x))) w := by
  obtain ⟨D, hown, h1, h2, h3⟩ := h
  obtain ⟨v, ps, hrun, hv⟩ := hown.lookup (Maps.int_keyed hk) ht (hz w) (plainElem_bool he false) (Maps.keyOf_int_mk hk (wf_u32 hx))
  obtain ⟨c, rfl, hc⟩ := plainElem_bool_inv he hv
  rw [hrun]
  have hc' : D.atKey (.int .u32 x) (.lit (.bool false)) = .lit (.bool c) := by
    have := congrArg Prod.fst hc
    exact this
  have hh := h1 x hx
  cases hf : f (dst B x)
  · rw [hf] at hh
    rw [Maps.atKey_of_not_has hh] at hc'
    injection hc' with hc'
    injection hc' with hc'
    rw [← hc']
  · rw [hf] at hh
    rw [h2 x hh] at hc'
    injection hc' with hc'
    injection hc' with hc'
    rw [← hc']

theorem SetM.len (h : SetM P k e w m B f) (ht : P.underlying t = some (.map k e)) (ty : TypeId) : (Builtin.len_ #[t] ty #[.map (some m)]).run P w = .ok (.int .i64 (cnt f 4096 : Nat)) w := by
  obtain ⟨D, hown, h1, h2, h3⟩ := h
  rw [hown.len ht, h3]

theorem SetM.store (h : SetM P k e w m B f) (hk : P.underlying k = some (.int .u32)) (he : P.underlying e = some .bool) (ht : P.underlying t = some (.map k e))
    {x : Int} (hx : 0 ≤ x ∧ x < 4294967296) (hf : f (dst B x) = false) (hd : inW (dst B x) = true) :
    ∃ w', (Instr.mapUpdate t (.map (some m)) (.int .u32 x) (.bool true)).run P w = .ok () w' ∧ SetM P k e w' m B (addF f (dst B x)) ∧ w.mapTurned w' m := by
  obtain ⟨D, hown, h1, h2, h3⟩ := h
  have hle := cnt_le (f := f) 4096
  obtain ⟨w', hrun, hown', hturn⟩ := hown.store (Maps.int_keyed hk) ht (by unfold maxLen; omega) (Maps.keyOf_int_mk hk (wf_u32 hx)) (plainElem_bool he true)
  have hh : Maps.has D (.int .u32 x) = false := by rw [h1 x hx, hf]
  have hdd : dst B x ≤ 4096 := by unfold inW at hd; simp at hd; omega
  have hc : cnt (addF f (dst B x)) 4096 = cnt f 4096 + 1 := by rw [cnt_add hf hd, if_pos hdd]
  refine ⟨w', hrun, ⟨_, by rw [hc]; exact hown', fun y hy => ?_, fun y hy z => ?_, ?_⟩, hturn⟩
  · by_cases e : y = x
    · subst e
      rw [Maps.has_put_same hown.isMap (keyLit y)]
      unfold addF
      simp [hd]
    · rw [Maps.has_put_other (by intro e'; injection e' with _ e'; exact e e'), h1 y hy]
      unfold addF
      have : (dst B y == dst B x) = false := by
        rw [beq_eq_false_iff_ne]
        exact fun e' => e ((dst_eq hy hx).1 e')
      simp [this]
  · by_cases e : y = x
    · subst e
      exact Maps.atKey_put_same hown.isMap (keyLit y) _ _
    · have hne : (Lit.int .u32 y) ≠ .int .u32 x := by intro e'; injection e' with _ e'; exact e e'
      rw [Maps.has_put_other hne] at hy
      rw [Maps.atKey_put_other hne]
      exact h2 y hy z
  · rw [Maps.size_put (hown.tidy (Maps.int_keyed hk)), hh, h3, hc]
    rfl

/-- The base goes on by one, and what it comes to is struck. -/
theorem SetM.drop (h : SetM P k e w m B f) (hk : P.underlying k = some (.int .u32)) (ht : P.underlying t = some (.map k e)) (hB : 0 ≤ B ∧ B < 4294967296) (hw : Win f) (ty : TypeId) :
    ∃ w', (Builtin.delete_ #[t, k] ty #[.map (some m), .int .u32 ((B + 1) % 4294967296)]).run P w = .ok (.tuple #[]) w' ∧ SetM P k e w' m ((B + 1) % 4294967296) (shF f 1) ∧ w.mapTurned w' m := by
  obtain ⟨D, hown, h1, h2, h3⟩ := h
  have hx : 0 ≤ (B + 1) % 4294967296 ∧ (B + 1) % 4294967296 < 4294967296 := by omega
  obtain ⟨w', hrun, hown', hturn⟩ := hown.drop (Maps.int_keyed hk) ht (Maps.keyOf_int_mk hk (wf_u32 hx)) ty
  have hd1 : dst B ((B + 1) % 4294967296) = 1 := by unfold dst; omega
  have hs := Maps.size_del (k := .int .u32 ((B + 1) % 4294967296)) (hown.tidy (Maps.int_keyed hk))
  rw [h1 _ hx, hd1, h3] at hs
  have hc := cnt_step hw
  have hsz : Maps.size (D.del (.int .u32 ((B + 1) % 4294967296))) = cnt (shF f 1) 4096 := by omega
  refine ⟨w', hrun, ⟨_, by rw [← hsz]; exact owns_tight hown', fun y hy => ?_, fun y hy z => ?_, hsz⟩, hturn⟩
  · by_cases e : y = (B + 1) % 4294967296
    · rw [e, Maps.has_del_same]
      have h0 : dst ((B + 1) % 4294967296) ((B + 1) % 4294967296) = 0 := by unfold dst; omega
      rw [h0]
      rfl
    · rw [Maps.has_del_other (by intro e'; injection e' with _ e'; exact e e'), h1 y hy]
      by_cases h0 : y = B
      · have e1 : dst B y = 0 := by unfold dst; omega
        have e2 : dst ((B + 1) % 4294967296) y = 4294967295 := by unfold dst; omega
        rw [e1, e2, win_zero hw, win_far (win_sh hw 1) (by omega)]
      · have e1 : dst B y = dst ((B + 1) % 4294967296) y + 1 ∧ 1 ≤ dst ((B + 1) % 4294967296) y := by unfold dst; omega
        rw [e1.1]
        unfold shF
        simp [e1.2]
  · by_cases e : y = (B + 1) % 4294967296
    · rw [e, Maps.has_del_same] at hy
      cases hy
    · have hne : (Lit.int .u32 y) ≠ .int .u32 ((B + 1) % 4294967296) := by intro e'; injection e' with _ e'; exact e e'
      rw [Maps.has_del_other hne] at hy
      rw [Maps.atKey_del_other hne]
      exact h2 y hy z
end

/-! ### Slices of numbers, of gaps -/
/-- A slice's address reads as these numbers of kind q, below block B. -/
def Ri (q : IntKind) (w : World) (B : Nat) (A : Option Addr) (xs : List Int) : Prop :=
  xs = [] ∨ ∃ b o, A = some ⟨b, o, none⟩ ∧ b < B ∧ ∀ (j : Nat) x, xs[j]? = some x → w.cell? ⟨b, o + j, none⟩ = some (.int q x)
/-- .. as these gaps, in a block from lo on, below hi. -/
def Rg (w : World) (lo hi : Nat) (A : Option Addr) (L : List (Nat × Nat)) : Prop :=
  L = [] ∨ ∃ b o, A = some ⟨b, o, none⟩ ∧ lo ≤ b ∧ b < hi ∧ ∀ (j : Nat) (p : Nat × Nat), L[j]? = some p → w.cell? ⟨b, o + j * 2, none⟩ = some (.int .u16 (p.1 : Nat)) ∧ w.cell? ⟨b, o + j * 2 + 1, none⟩ = some (.int .u16 (p.2 : Nat))
section
variable {q : IntKind} {w w' : World} {B B' lo hi lo' hi' : Nat} {A : Option Addr} {xs : List Int} {L : List (Nat × Nat)} {S : List Nat}
theorem Ri.keep (h : Ri q w B A xs) (hk : ∀ p : Addr, p.block < B → w'.cell? p = w.cell? p) : Ri q w' B A xs := by
  rcases h with h | ⟨b, o, ha, hb, hc⟩
  · exact .inl h
  · exact .inr ⟨b, o, ha, hb, fun j x hx => (hk _ hb).trans (hc j x hx)⟩
theorem Ri.more (h : Ri q w B A xs) (hB : B ≤ B') : Ri q w B' A xs := by
  rcases h with h | ⟨b, o, ha, hb, hc⟩
  · exact .inl h
  · exact .inr ⟨b, o, ha, by omega, hc⟩
theorem Ri.below (h : Ri q w B A xs) (hb : Below B w w') : Ri q w' B A xs := h.keep fun _ hp => hb.cell hp
theorem Ri.tw (h : Ri q w B A xs) (ht : Tw S w w') (hS : ∀ k ∈ S, B ≤ k) (hB : B ≤ w.heap.size) : Ri q w' B A xs := h.below (ht.below hS hB)
theorem Ri.at_ (h : Ri q w B A xs) (hn : xs ≠ []) : ∃ b o, A = some ⟨b, o, none⟩ ∧ b < B ∧ ∀ k (hk : k < xs.length), w.cell? ⟨b, o + k, none⟩ = some (.int q xs[k]) := by
  rcases h with h | ⟨b, o, ha, hb, hc⟩
  · exact absurd h hn
  · exact ⟨b, o, ha, hb, fun k hk => hc k _ (List.getElem?_eq_getElem hk)⟩
theorem Rg.nil (w : World) (lo hi : Nat) (A : Option Addr) : Rg w lo hi A [] := .inl rfl
theorem Rg.tw (h : Rg w lo hi A L) (ht : Tw S w w') (hS : ∀ k ∈ S, k < lo ∨ hi ≤ k) (hB : hi ≤ w.heap.size) : Rg w' lo hi A L := by
  rcases h with h | ⟨b, o, ha, hl, hb, hc⟩
  · exact .inl h
  · have e : ∀ i, w'.cell? ⟨b, i, none⟩ = w.cell? ⟨b, i, none⟩ := fun i => ht.cell (p := ⟨b, i, none⟩) (by show b < _; omega) (fun hk => by have := hS b hk; omega)
    exact .inr ⟨b, o, ha, hl, hb, fun j p hp => ⟨(e _).trans (hc j p hp).1, (e _).trans (hc j p hp).2⟩⟩
theorem Rg.more (h : Rg w lo hi A L) (hl : lo' ≤ lo) (hh : hi ≤ hi') : Rg w lo' hi' A L := by
  rcases h with h | ⟨b, o, ha, h1, h2, hc⟩
  · exact .inl h
  · exact .inr ⟨b, o, ha, by omega, by omega, hc⟩
theorem Rg.drewN (h : Rg w lo hi A L) (k : Nat) : Rg (w.drewN k) lo hi A L := h
theorem Rg.take (h : Rg w lo hi A L) (k : Nat) : Rg w lo hi A (L.take k) := by
  rcases h with h | ⟨b, o, ha, h1, h2, hc⟩
  · exact .inl (by rw [h]; simp)
  · refine .inr ⟨b, o, ha, h1, h2, fun j p hp => hc j p ?_⟩
    rw [List.getElem?_take] at hp
    split at hp
    · exact hp
    · cases hp
theorem Rg.at_ (h : Rg w lo hi A L) (hn : L ≠ []) : ∃ b o, A = some ⟨b, o, none⟩ ∧ lo ≤ b ∧ b < hi ∧ ∀ k (hk : k < L.length), w.cell? ⟨b, o + k * 2, none⟩ = some (.int .u16 (L[k].1 : Nat)) ∧ w.cell? ⟨b, o + k * 2 + 1, none⟩ = some (.int .u16 (L[k].2 : Nat)) := by
  rcases h with h | ⟨b, o, ha, h1, h2, hc⟩
  · exact absurd h hn
  · exact ⟨b, o, ha, h1, h2, fun k hk => hc k _ (List.getElem?_eq_getElem hk)⟩

/-- Gaps as cells. -/
def flat (L : List (Nat × Nat)) : List Value := L.flatMap fun p => [.int .u16 (p.1 : Nat), .int .u16 (p.2 : Nat)]
theorem length_flat (L : List (Nat × Nat)) : (flat L).length = L.length * 2 := by
  induction L with
  | nil => rfl
  | cons p L ih => simp only [flat, List.flatMap_cons, List.length_append, List.length_cons, List.length_nil] at ih ⊢; omega
theorem get_flat (L : List (Nat × Nat)) (j : Nat) (p : Nat × Nat) (h : L[j]? = some p) : (flat L)[j * 2]? = some (.int .u16 (p.1 : Nat)) ∧ (flat L)[j * 2 + 1]? = some (.int .u16 (p.2 : Nat)) := by
  induction L generalizing j with
  | nil => simp at h
  | cons x L ih =>
    have e : flat (x :: L) = .int .u16 (x.1 : Nat) :: .int .u16 (x.2 : Nat) :: flat L := rfl
    rw [e]
    cases j with
    | zero => simp at h; subst h; exact ⟨rfl, rfl⟩
    | succ j =>
      have := ih j (by simpa using h)
      rw [show (j + 1) * 2 = j * 2 + 1 + 1 by omega, show j * 2 + 1 + 1 + 1 = (j * 2 + 1) + 1 + 1 by omega]
      simp only [List.getElem?_cons_succ]
      exact this
theorem flat_snoc (L : List (Nat × Nat)) (p : Nat × Nat) : flat (L ++ [p]) = flat L ++ [.int .u16 (p.1 : Nat), .int .u16 (p.2 : Nat)] := by simp [flat]
theorem flat_one (u : Value) (h : u ∈ flat L) : u.oneCell' = true := by
  unfold flat at h
  rw [List.mem_flatMap] at h
  obtain ⟨p, _, h⟩ := h
  simp at h
  rcases h with rfl | rfl <;> rfl

/-- A slice of gaps of the call's own. -/
def Og (w : World) (t : TypeId) (base : Nat) (v : Value) (L : List (Nat × Nat)) : Prop := w.ownsRow base t 2 v L.length (flat L)
variable {t : TypeId} {base : Nat} {v : Value}
theorem Og.form (h : Og w t base v L) : ∃ A c, v = .slice A L.length c ∧ L.length ≤ c ∧ c ≤ maxLen ∧ Rg w base w.heap.size A L := by
  rcases h.2 with ⟨rfl, hn⟩ | ⟨g, cap, cur, rfl, hb, hg, hnc, hcm, hcs, htake⟩
  · have : L = [] := List.eq_nil_of_length_eq_zero hn
    subst this
    exact ⟨none, 0, rfl, Nat.le_refl _, Nat.zero_le _, Rg.nil _ _ _ _⟩
  · have hlt : g < w.heap.size := (Array.getElem?_eq_some_iff.1 hg).1
    have hcell : ∀ j u, (flat L)[j]? = some u → w.cell? ⟨g, 0 + j, none⟩ = some u := fun j u hu => by
      have := h.cells (g := g) rfl j u hu
      rwa [Addr.add_lit] at this
    exact ⟨_, _, rfl, hnc, hcm, .inr ⟨g, 0, rfl, hb, hlt, fun j p hp => ⟨hcell _ _ (get_flat L j p hp).1, hcell _ _ (get_flat L j p hp).2⟩⟩⟩
theorem Og.tw (h : Og w t base v L) (ht : Tw S w w') (hS : ∀ k ∈ S, k < base) : Og w' t base v L := by
  refine ⟨h.1, ?_⟩
  rcases h.2 with hn | ⟨g, cap, cur, rfl, hb, hg, rest⟩
  · exact .inl hn
  · have hlt : g < w.heap.size := (Array.getElem?_eq_some_iff.1 hg).1
    exact .inr ⟨g, cap, cur, rfl, hb, (ht.block g hlt (fun hk => by have := hS g hk; omega)).trans hg, rest⟩
end
end Go.Proofs.Ytlkppgdeaphoeaa
