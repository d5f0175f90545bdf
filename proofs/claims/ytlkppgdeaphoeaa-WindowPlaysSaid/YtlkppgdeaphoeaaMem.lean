/-
  Words on memory and plain lemmas, over any program: a slice that reads as bytes; a row of bytes that is known whole.
-/
import Derived.WalkKit
import Derived.WalkSpells
import Derived.WalkLawsBesides
import Derived.Deep.QuietTactic
import Derived.BigQuiet
import Derived.Lib.Hide
namespace Go.Proofs.Ytlkppgdeaphoeaa
open Go.RowKit
set_option linter.unusedVariables false

/-- A slice's address reads as the bytes xs (its length is theirs), below block B. -/
def Rd (w : World) (B : Nat) (A : Option Addr) (xs : List UInt8) : Prop :=
  xs = [] ∨ ∃ b o, A = some ⟨b, o, none⟩ ∧ b < B ∧ ∀ j x, xs[j]? = some x → w.cell? ⟨b, o + j, none⟩ = some (.int .u8 (x.toNat : Int))

section
variable {w w' : World} {B B' : Nat} {A : Option Addr} {xs : List UInt8}
theorem Rd.nil (w : World) (B : Nat) (A : Option Addr) : Rd w B A [] := .inl rfl
theorem Rd.keep (h : Rd w B A xs) (hk : ∀ p : Addr, p.block < B → w'.cell? p = w.cell? p) : Rd w' B A xs := by
  rcases h with h | ⟨b, o, ha, hb, hc⟩
  · exact .inl h
  · exact .inr ⟨b, o, ha, hb, fun j x hx => (hk _ hb).trans (hc j x hx)⟩
theorem Rd.more (h : Rd w B A xs) (hB : B ≤ B') : Rd w B' A xs := by
  rcases h with h | ⟨b, o, ha, hb, hc⟩
  · exact .inl h
  · exact .inr ⟨b, o, ha, by omega, hc⟩
theorem Rd.below (h : Rd w B A xs) (hb : Below B w w') : Rd w' B A xs := h.keep fun _ hp => hb.cell hp
theorem Rd.drewN (h : Rd w B A xs) (k : Nat) : Rd (w.drewN k) B A xs := h
theorem Rd.alloc (h : Rd w B A xs) (hB : B ≤ w.heap.size) (o : Obj) : Rd (w.alloc o) B A xs := h.keep fun p hp => World.cell?_alloc_lt w o p (by omega)
theorem Rd.at_ (h : Rd w B A xs) (hn : xs ≠ []) : ∃ b o, A = some ⟨b, o, none⟩ ∧ b < B ∧ ∀ k (hk : k < xs.length), w.cell? ⟨b, o + k, none⟩ = some (.int .u8 ((xs[k]).toNat : Int)) := by
  rcases h with h | ⟨b, o, ha, hb, hc⟩
  · exact absurd h hn
  · exact ⟨b, o, ha, hb, fun k hk => hc k _ (List.getElem?_eq_getElem hk)⟩
end

theorem below_drewN {B : Nat} {a w : World} (h : Below B a w) (n : Nat) : Below B a (w.drewN n) := ⟨h.os, h.tape, h.output, h.size, h.block⟩

/-- What goes on from where one has come. -/
theorem below_then {B : Nat} {w a b : World} (h : Below B w a) (hB : B ≤ w.heap.size) (k : Below a.heap.size a b) : Below B w b := h.trans (k.mono (Nat.le_trans hB h.size))
theorem below_new (w : World) (o : Obj) : Below w.heap.size w (w.alloc o) := (Below.refl _ _).alloc (Nat.le_refl _) o

theorem ret_bool {a b : Bool} (h : a = b) : Ending.returned (.bool a) = .returned (.bool b) := by rw [h]
theorem ret_int {k : IntKind} {a b : Int} (h : a = b) : Ending.returned (.int k a) = .returned (.int k b) := by rw [h]

/-! ### A row of bytes that is known whole -/
/-- Bytes as cells. A definition of its own, so that the walk leaves it. -/
def row8 (ys : List UInt8) : Array Value := (ys.map fun x => Value.int .u8 (x.toNat : Int)).toArray
theorem size_row8 (ys : List UInt8) : (row8 ys).size = ys.length := by simp [row8]
theorem get_row8 (ys : List UInt8) (k : Nat) : (row8 ys)[k]? = (ys[k]?).map fun x => Value.int .u8 (x.toNat : Int) := by simp [row8]
theorem set_row8 (ys : List UInt8) (k : Nat) (x : UInt8) : (row8 ys).setIfInBounds k (.int .u8 (x.toNat : Int)) = row8 (ys.set k x) := by
  apply Array.ext_getElem?
  intro i
  rw [Array.getElem?_setIfInBounds, get_row8, get_row8, List.getElem?_set, size_row8]
  by_cases h : k = i
  · subst h
    by_cases h' : k < ys.length <;> simp [h']
  · simp [h]
theorem made_row8 (n : Nat) : madeCells (Value.int .u8 0).cells n = row8 (List.replicate n 0) := by
  apply Array.toList_inj.1
  show (madeCells #[Value.int .u8 0] n).toList = _
  rw [toList_madeCells_one]
  simp [row8]

/-- Block g is just these bytes, none frozen; t is the number of their type. -/
def RowAt (w : World) (t : TypeId) (g : Nat) (ys : List UInt8) : Prop := w.heap[g]? = some (.cells (row8 ys) t (0, 0))

section
variable {w w' : World} {t : TypeId} {g : Nat} {ys : List UInt8} {B : Nat}
theorem RowAt.lt (h : RowAt w t g ys) : g < w.heap.size := (Array.getElem?_eq_some_iff.1 h).1
theorem RowAt.cell (h : RowAt w t g ys) (k : Nat) (hk : k < ys.length) : w.cell? ⟨g, k, none⟩ = some (.int .u8 ((ys[k]).toNat : Int)) := by
  rw [cell_of_row w g k (row8 ys) t (0, 0) h, get_row8, List.getElem?_eq_getElem hk]; rfl
theorem RowAt.frozen (h : RowAt w t g ys) (k : Nat) : w.frozen? ⟨g, k, none⟩ = false := by
  unfold RowAt at h
  simp [World.frozen?, h]
theorem RowAt.new (w : World) (t : TypeId) (ys : List UInt8) : RowAt (w.alloc (.cells (row8 ys) t)) t w.heap.size ys := heap_alloc_new w _
theorem RowAt.drewN (h : RowAt w t g ys) (n : Nat) : RowAt (w.drewN n) t g ys := h
theorem RowAt.alloc (h : RowAt w t g ys) (o : Obj) : RowAt (w.alloc o) t g ys := (Below.heap_alloc w o g h.lt).trans h
theorem RowAt.far (h : RowAt w t g ys) {p : Addr} (hp : g ≠ p.block) (u : Value) : RowAt (w.setCell p u) t g ys := (Below.heap_setCell w p u g hp).trans h
theorem RowAt.below (h : RowAt w t g ys) (hb : Below B w w') (hg : g < B) : RowAt w' t g ys := (hb.block g hg).trans h
theorem RowAt.set_ (h : RowAt w t g ys) (k : Nat) (x : UInt8) : RowAt (w.setCell ⟨g, k, none⟩ (.int .u8 (x.toNat : Int))) t g (ys.set k x) := by
  unfold RowAt at h ⊢
  simp [World.setCell, Array.getElem?_modify, h, set_row8]
theorem RowAt.ne_ {g' : Nat} {ys' : List UInt8} (h : RowAt w t g ys) (h' : w.heap.size ≤ g') : g ≠ g' := by have := h.lt; omega
/-- What lies in a row reads as its bytes. -/
theorem RowAt.rd (h : RowAt w t g ys) (o : Nat) (xs : List UInt8) (hx : ∀ j, j < xs.length → xs[j]? = ys[o + j]?) : Rd w w.heap.size (some ⟨g, o, none⟩) xs := by
  refine .inr ⟨g, o, rfl, h.lt, fun j x hj => ?_⟩
  rw [cell_of_row w g (o + j) (row8 ys) t (0, 0) h, get_row8, ← hx j (by
    rcases Nat.lt_or_ge j xs.length with hl | hl
    · exact hl
    · rw [List.getElem?_eq_none hl] at hj; cases hj), hj]
  rfl
end

/-- Block g is just these cells, none frozen. -/
def Blk (w : World) (g : Nat) (t : TypeId) (cs : Array Value) : Prop := w.heap[g]? = some (.cells cs t (0, 0))
section
variable {w w' : World} {g : Nat} {t : TypeId} {cs : Array Value} {B : Nat}
theorem Blk.lt (h : Blk w g t cs) : g < w.heap.size := (Array.getElem?_eq_some_iff.1 h).1
theorem Blk.cell (h : Blk w g t cs) (i : Nat) : w.cell? ⟨g, i, none⟩ = cs[i]? := cell_of_row w g i cs t (0, 0) h
theorem Blk.frozen (h : Blk w g t cs) (i : Nat) : w.frozen? ⟨g, i, none⟩ = false := by
  unfold Blk at h
  simp [World.frozen?, h]
theorem Blk.new (w : World) (t : TypeId) (cs : Array Value) : Blk (w.alloc (.cells cs t)) w.heap.size t cs := heap_alloc_new w _
theorem Blk.drewN (h : Blk w g t cs) (n : Nat) : Blk (w.drewN n) g t cs := h
theorem Blk.alloc (h : Blk w g t cs) (o : Obj) : Blk (w.alloc o) g t cs := (Below.heap_alloc w o g h.lt).trans h
theorem Blk.set_ (h : Blk w g t cs) (i : Nat) (u : Value) : Blk (w.setCell ⟨g, i, none⟩ u) g t (cs.setIfInBounds i u) := by
  unfold Blk at h ⊢
  simp [World.setCell, Array.getElem?_modify, h]
theorem Blk.far (h : Blk w g t cs) {p : Addr} (hp : g ≠ p.block) (u : Value) : Blk (w.setCell p u) g t cs := (Below.heap_setCell w p u g hp).trans h
theorem Blk.below (h : Blk w g t cs) (hb : Below B w w') (hg : g < B) : Blk w' g t cs := (hb.block g hg).trans h
theorem Blk.grown (h : Blk w g t cs) {row : Option Nat} (hb : w.grownBy w' row) (hg : some g ≠ row) : Blk w' g t cs := (hb.block g h.lt hg).trans h
end

/-- The marks that Roomy lays behind a row. -/
def marks16 : List UInt8 := List.replicate 16 90
theorem length_marks16 : marks16.length = 16 := rfl
theorem get_marks16 (k : Nat) : marks16[k]? = if k < 16 then some 90 else none := by unfold marks16; rw [List.getElem?_replicate]

/-- make([]byte, n). -/
theorem run_make8 {P : Program} {t e : TypeId} {i : TypeInfo} (ht : P.underlying t = some (.slice e)) (hi : P.info? e = some i) (hz : i.zero = some (.int .u8 0)) (h1 : i.size = 1) (hb : i.bytes = 1)
    (kl kc : IntKind) (l : Int) (n : Nat) (hl : l = n) (hn : n ≤ 281474976710656) (w : World) :
    (Instr.makeSlice t (.int kl l) (.int kc l)).run P w = .ok (.slice (some ⟨w.heap.size, 0, none⟩) n n) (w.alloc (.cells (row8 (List.replicate n 0)) e)) := by
  subst hl
  have h := run_make (P := P) w t e i _ ht hi hz kl kc n n (by omega) (by omega) (by rw [hb]; omega) (by omega)
  simp only [Int.toNat_natCast, h1, Nat.mul_one] at h
  rw [made_row8] at h
  exact h
end Go.Proofs.Ytlkppgdeaphoeaa
