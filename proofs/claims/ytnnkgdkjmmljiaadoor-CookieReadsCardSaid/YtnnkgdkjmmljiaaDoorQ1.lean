/-
  Words on memory and plain lemmas, over any program: a slice that reads as bytes; a row of bytes that is known whole.
  The small functions of package octet and of its reference: sizes, bounds, rounding.
  Roomy: a row of its own, alike, with 16 marks behind it.
  CopyBytes: a row of its own; nil of none.
-/
import Derived.WalkKit
import Derived.WalkSpells
import Derived.WalkLawsBesides
import Derived.Deep.QuietTactic
import Derived.BigQuiet
import Derived.Lib.Hide
import Derived.Test.YtnnkgdkjmmljiaaDoorRows
namespace Go.Proofs.YtnnkgdkjmmljiaaDoor
open Go.RowKit
set_option linter.unusedVariables false

/-- A slice's address reads as the bytes xs (its length is theirs), below block B. -/
def Rd (w : World) (B : Nat) (A : Option Addr) (xs : List UInt8) : Prop :=
  xs = [] ∨ ∃ b o, A = some ⟨b, o, none⟩ ∧ b < B ∧ ∀ j x, xs[j]? = some x → w.cell? ⟨b, o + j, none⟩ = some (.int .u8 (x.toNat : Int))

section
variable {w w' : World} {B B' : Nat} {A : Option Addr} {xs : List UInt8}
theorem Rd.nil (w : World) (B : Nat) (A : Option Addr) : Rd w B A [] := .inl rfl
theorem Rd.keep (h : Rd w B A xs) (hk : ∀ p : Addr, p.block < B → w'.cell? p = w.cell? p) : Rd w' B A xs := by
  rcases h with h | ⟨b, o, ha, hb, hc⟩
  · exact .inl h
  · exact .inr ⟨b, o, ha, hb, fun j x hx => (hk _ hb).trans (hc j x hx)⟩
theorem Rd.more (h : Rd w B A xs) (hB : B ≤ B') : Rd w B' A xs := by
  rcases h with h | ⟨b, o, ha, hb, hc⟩
  · exact .inl h
  · exact .inr ⟨b, o, ha, by omega, hc⟩
theorem Rd.below (h : Rd w B A xs) (hb : Below B w w') : Rd w' B A xs := h.keep fun _ hp => hb.cell hp
theorem Rd.drewN (h : Rd w B A xs) (k : Nat) : Rd (w.drewN k) B A xs := h
theorem Rd.alloc (h : Rd w B A xs) (hB : B ≤ w.heap.size) (o : Obj) : Rd (w.alloc o) B A xs := h.keep fun p hp => World.cell?_alloc_lt w o p (by omega)
theorem Rd.at_ (h : Rd w B A xs) (hn : xs ≠ []) : ∃ b o, A = some ⟨b, o, none⟩ ∧ b < B ∧ ∀ k (hk : k < xs.length), w.cell? ⟨b, o + k, none⟩ = some (.int .u8 ((xs[k]).toNat : Int)) := by
  rcases h with h | ⟨b, o, ha, hb, hc⟩
  · exact absurd h hn
  · exact ⟨b, o, ha, hb, fun k hk => hc k _ (List.getElem?_eq_getElem hk)⟩
end

theorem below_drewN {B : Nat} {a w : World} (h : Below B a w) (n : Nat) : Below B a (w.drewN n) := ⟨h.os, h.tape, h.output, h.size, h.block⟩

/-- What goes on from where one has come. -/
theorem below_then {B : Nat} {w a b : World} (h : Below B w a) (hB : B ≤ w.heap.size) (k : Below a.heap.size a b) : Below B w b := h.trans (k.mono (Nat.le_trans hB h.size))
theorem below_new (w : World) (o : Obj) : Below w.heap.size w (w.alloc o) := (Below.refl _ _).alloc (Nat.le_refl _) o

theorem ret_bool {a b : Bool} (h : a = b) : Ending.returned (.bool a) = .returned (.bool b) := by rw [h]
theorem ret_int {k : IntKind} {a b : Int} (h : a = b) : Ending.returned (.int k a) = .returned (.int k b) := by rw [h]

/-! ### A row of bytes that is known whole -/
/-- Bytes as cells. A definition of its own, so that the walk leaves it. -/
def row8 (ys : List UInt8) : Array Value := (ys.map fun x => Value.int .u8 (x.toNat : Int)).toArray
theorem size_row8 (ys : List UInt8) : (row8 ys).size = ys.length := by simp [row8]
theorem get_row8 (ys : List UInt8) (k : Nat) : (row8 ys)[k]? = (ys[k]?).map fun x => Value.int .u8 (x.toNat : Int) := by simp [row8]
theorem set_row8 (ys : List UInt8) (k : Nat) (x : UInt8) : (row8 ys).setIfInBounds k (.int .u8 (x.toNat : Int)) = row8 (ys.set k x) := by
  apply Array.ext_getElem?
  intro i
  rw [Array.getElem?_setIfInBounds, get_row8, get_row8, List.getElem?_set, size_row8]
  by_cases h : k = i
  · subst h
    by_cases h' : k < ys.length <;> simp [h']
  · simp [h]
theorem made_row8 (n : Nat) : madeCells (Value.int .u8 0).cells n = row8 (List.replicate n 0) := by
  apply Array.toList_inj.1
  show (madeCells #[Value.int .u8 0] n).toList = _
  rw [toList_madeCells_one]
  simp [row8]

/-- Block g is just these bytes, none frozen; t is the number of their type. -/
def RowAt (w : World) (t : TypeId) (g : Nat) (ys : List UInt8) : Prop := w.heap[g]? = some (.cells (row8 ys) t (0, 0))

section
variable {w w' : World} {t : TypeId} {g : Nat} {ys : List UInt8} {B : Nat}
theorem RowAt.lt (h : RowAt w t g ys) : g < w.heap.size := (Array.getElem?_eq_some_iff.1 h).1
theorem RowAt.cell (h : RowAt w t g ys) (k : Nat) (hk : k < ys.length) : w.cell? ⟨g, k, none⟩ = some (.int .u8 ((ys[k]).toNat : Int)) := by
  rw [cell_of_row w g k (row8 ys) t (0, 0) h, get_row8, List.getElem?_eq_getElem hk]; rfl
theorem RowAt.frozen (h : RowAt w t g ys) (k : Nat) : w.frozen? ⟨g, k, none⟩ = false := by
  unfold RowAt at h
  simp [World.frozen?, h]
theorem RowAt.new (w : World) (t : TypeId) (ys : List UInt8) : RowAt (w.alloc (.cells (row8 ys) t)) t w.heap.size ys := heap_alloc_new w _
theorem RowAt.drewN (h : RowAt w t g ys) (n : Nat) : RowAt (w.drewN n) t g ys := h
theorem RowAt.alloc (h : RowAt w t g ys) (o : Obj) : RowAt (w.alloc o) t g ys := (Below.heap_alloc w o g h.lt).trans h
theorem RowAt.far (h : RowAt w t g ys) {p : Addr} (hp : g ≠ p.block) (u : Value) : RowAt (w.setCell p u) t g ys := (Below.heap_setCell w p u g hp).trans h
theorem RowAt.below (h : RowAt w t g ys) (hb : Below B w w') (hg : g < B) : RowAt w' t g ys := (hb.block g hg).trans h
theorem RowAt.set_ (h : RowAt w t g ys) (k : Nat) (x : UInt8) : RowAt (w.setCell ⟨g, k, none⟩ (.int .u8 (x.toNat : Int))) t g (ys.set k x) := by
  unfold RowAt at h ⊢
  simp [World.setCell, Array.getElem?_modify, h, set_row8]
theorem RowAt.ne_ {g' : Nat} {ys' : List UInt8} (h : RowAt w t g ys) (h' : w.heap.size ≤ g') : g ≠ g' := by have := h.lt; omega
/-- What lies in a row reads as its bytes. -/
theorem RowAt.rd (h : RowAt w t g ys) (o : Nat) (xs : List UInt8) (hx : ∀ j, j < xs.length → xs[j]? = ys[o + j]?) : Rd w w.heap.size (some ⟨g, o, none⟩) xs := by
  refine .inr ⟨g, o, rfl, h.lt, fun j x hj => ?_⟩
  rw [cell_of_row w g (o + j) (row8 ys) t (0, 0) h, get_row8, ← hx j (by
    rcases Nat.lt_or_ge j xs.length with hl | hl
    · exact hl
    · rw [List.getElem?_eq_none hl] at hj; cases hj), hj]
  rfl
end

/-- Block g is just these cells, none frozen. -/
def Blk (w : World) (g : Nat) (t : TypeId) (cs : Array Value) : Prop := w.heap[g]? = some (.cells cs t (0, 0))
section
variable {w w' : World} {g : Nat} {t : TypeId} {cs : Array Value} {B : Nat}
theorem Blk.lt (h : Blk w g t cs) : g < w.heap.size := (Array.getElem?_eq_some_iff.1 h).1
theorem Blk.cell (h : Blk w g t cs) (i : Nat) : w.cell? ⟨g, i, none⟩ = cs[i]? := cell_of_row w g i cs t (0, 0) h
theorem Blk.frozen (h : Blk w g t cs) (i : Nat) : w.frozen? ⟨g, i, none⟩ = false := by
  unfold Blk at h
  simp [World.frozen?, h]
theorem Blk.new (w : World) (t : TypeId) (cs : Array Value) : Blk (w.alloc (.cells cs t)) w.heap.size t cs := heap_alloc_new w _
theorem Blk.drewN (h : Blk w g t cs) (n : Nat) : Blk (w.drewN n) g t cs := h
theorem Blk.alloc (h : Blk w g t cs) (o : Obj) : Blk (w.alloc o) g t cs := (Below.heap_alloc w o g h.lt).trans h
theorem Blk.set_ (h : Blk w g t cs) (i : Nat) (u : Value) : Blk (w.setCell ⟨g, i, none⟩ u) g t (cs.setIfInBounds i u) := by
  unfold Blk at h ⊢
  simp [World.setCell, Array.getElem?_modify, h]
theorem Blk.far (h : Blk w g t cs) {p : Addr} (hp : g ≠ p.block) (u : Value) : Blk (w.setCell p u) g t cs := (Below.heap_setCell w p u g hp).trans h
theorem Blk.below (h : Blk w g t cs) (hb : Below B w w') (hg : g < B) : Blk w' g t cs := (hb.block g hg).trans h
theorem Blk.grown (h : Blk w g t cs) {row : Option Nat} (hb : w.grownBy w' row) (hg : some g ≠ row) : Blk w' g t cs := (hb.block g h.lt hg).trans h
end

/-- The marks that Roomy lays behind a row. -/
def marks16 : List UInt8 := List.replicate 16 90
theorem length_marks16 : marks16.length = 16 := rfl
theorem get_marks16 (k : Nat) : marks16[k]? = if k < 16 then some 90 else none := by unfold marks16; rw [List.getElem?_replicate]

/-- make([]byte, n). -/
theorem run_make8 {P : Program} {t e : TypeId} {i : TypeInfo} (ht : P.underlying t = some (.slice e)) (hi : P.info? e = some i) (hz : i.zero = some (.int .u8 0)) (h1 : i.size = 1) (hb : i.bytes = 1)
    (kl kc : IntKind) (l : Int) (n : Nat) (hl : l = n) (hn : n ≤ 281474976710656) (w : World) :
    (Instr.makeSlice t (.int kl l) (.int kc l)).run P w = .ok (.slice (some ⟨w.heap.size, 0, none⟩) n n) (w.alloc (.cells (row8 (List.replicate n 0)) e)) := by
  subst hl
  have h := run_make (P := P) w t e i _ ht hi hz kl kc n n (by omega) (by omega) (by rw [hb]; omega) (by omega)
  simp only [Int.toNat_natCast, h1, Nat.mul_one] at h
  rw [made_row8] at h
  exact h
end Go.Proofs.YtnnkgdkjmmljiaaDoor

namespace Go.Proofs.YtnnkgdkjmmljiaaDoor
open Go.RowKit
set_option linter.unusedVariables false

/-- May a number have so many bytes? -/
def IsSize (n : Int) : Prop := n = 1 ∨ n = 2 ∨ n = 4 ∨ n = 8

set_option maxHeartbeats 400000 in
theorem isSize_yes (n : Int) (h : IsSize n) (w : World) : Calls Tryd.prog 31 #[.int .i64 n] w fun e w' => e = .returned (.bool true) ∧ w = w' := by
  rcases h with rfl | rfl | rfl | rfl
  all_goals
    go_enter Tryd.func31, Tryd.ntmps31
    go_wp2
    go_ret
    exact ⟨rfl, rfl⟩
set_option maxHeartbeats 400000 in
theorem isSize_no (n : Int) (h : ¬ IsSize n) (w : World) : Calls Tryd.prog 31 #[.int .i64 n] w fun e w' => e = .returned (.bool false) ∧ w = w' := by
  unfold IsSize at h
  have h1 : (n == 1) = false := by rw [beq_eq_false_iff_ne]; omega
  have h2 : (n == 2) = false := by rw [beq_eq_false_iff_ne]; omega
  have h3 : (n == 4) = false := by rw [beq_eq_false_iff_ne]; omega
  have h4 : (n == 8) = false := by rw [beq_eq_false_iff_ne]; omega
  clear h
  go_enter Tryd.func31, Tryd.ntmps31
  go_wp2
  go_ret
  exact ⟨rfl, rfl⟩
set_option maxHeartbeats 400000 in
theorem size_yes (n : Int) (h : IsSize n) (w : World) : Calls Tryd.prog 47 #[.int .i64 n] w fun e w' => e = .returned (.bool true) ∧ w = w' := by
  rcases h with rfl | rfl | rfl | rfl
  all_goals
    go_enter Tryd.func47, Tryd.ntmps47
    go_wp2
    go_ret
    exact ⟨rfl, rfl⟩
set_option maxHeartbeats 400000 in
theorem size_no (n : Int) (h : ¬ IsSize n) (w : World) : Calls Tryd.prog 47 #[.int .i64 n] w fun e w' => e = .returned (.bool false) ∧ w = w' := by
  unfold IsSize at h
  have h1 : (n == 1) = false := by rw [beq_eq_false_iff_ne]; omega
  have h2 : (n == 2) = false := by rw [beq_eq_false_iff_ne]; omega
  have h3 : (n == 4) = false := by rw [beq_eq_false_iff_ne]; omega
  have h4 : (n == 8) = false := by rw [beq_eq_false_iff_ne]; omega
  clear h
  go_enter Tryd.func47, Tryd.ntmps47
  go_wp2
  go_ret
  exact ⟨rfl, rfl⟩

/-- Are there k bytes from at on, of n? -/
def Within (n : Nat) (at_ k : Int) : Prop := 0 ≤ at_ ∧ 0 ≤ k ∧ at_ ≤ n ∧ k ≤ n - at_

set_option maxHeartbeats 400000 in
theorem inside_yes (A : Option Addr) (n c : Nat) (at_ k : Int) (w : World) (hn : n ≤ maxLen) (h : Within n at_ k) :
    Calls Tryd.prog 52 #[.slice A n c, .int .i64 at_, .int .i64 k] w fun e w' => e = .returned (.bool true) ∧ w = w' := by
  obtain ⟨h1, h2, h3, h4⟩ := h
  unfold maxLen at hn
  go_enter Tryd.func52, Tryd.ntmps52
  go_wp2
  go_ret
  exact ⟨rfl, rfl⟩
set_option maxHeartbeats 400000 in
theorem inside_no (A : Option Addr) (n c : Nat) (at_ k : Int) (w : World) (hn : n ≤ maxLen) (h : ¬ Within n at_ k) :
    Calls Tryd.prog 52 #[.slice A n c, .int .i64 at_, .int .i64 k] w fun e w' => e = .returned (.bool false) ∧ w = w' := by
  unfold maxLen at hn
  unfold Within at h
  by_cases h1 : 0 ≤ at_
  · by_cases h2 : 0 ≤ k
    · by_cases h3 : at_ ≤ n
      · have h4 : (n : Int) - at_ < k := by omega
        clear h
        go_enter Tryd.func52, Tryd.ntmps52
        go_wp2
        go_ret
        exact ⟨ret_bool (by rw [decide_eq_false_iff_not]; omega), rfl⟩
      · have h4 : (n : Int) < at_ := by omega
        clear h h3
        go_enter Tryd.func52, Tryd.ntmps52
        go_wp2
        go_ret
        exact ⟨rfl, rfl⟩
    · have h4 : k < 0 := by omega
      clear h h2
      go_enter Tryd.func52, Tryd.ntmps52
      go_wp2
      go_ret
      exact ⟨rfl, rfl⟩
  · have h4 : at_ < 0 := by omega
    clear h h1
    go_enter Tryd.func52, Tryd.ntmps52
    go_wp2
    go_ret
    exact ⟨rfl, rfl⟩

end Go.Proofs.YtnnkgdkjmmljiaaDoor

namespace Go.Proofs.YtnnkgdkjmmljiaaDoor
open Go.RowKit
set_option linter.unusedVariables false

theorem Tryd.info8 : (Tryd.prog.info? 5).map (fun i => (i.zero, i.size, i.bytes)) = some (some (.int .u8 0), 1, 1) := by kernel_rfl

theorem roomy_eq (ys xs : List UInt8) (hl : ys.length = xs.length + 16) (h1 : ∀ j, xs.length ≤ j → j < xs.length + 16 → ys[j]? = some 90) (h2 : ∀ j, j < xs.length → ys[j]? = xs[j]?) : ys = xs ++ marks16 := by
  apply List.ext_getElem?
  intro i
  rw [List.getElem?_append]
  split
  · exact h2 i ‹_›
  · rw [get_marks16]
    split
    · exact h1 i (by omega) (by omega)
    · rw [List.getElem?_eq_none (by omega)]

end Go.Proofs.YtnnkgdkjmmljiaaDoor

namespace Go.Proofs.YtnnkgdkjmmljiaaDoor
open Go.RowKit
set_option linter.unusedVariables false

set_option maxHeartbeats 400000 in
theorem copyBytes_none (A : Option Addr) (c : Nat) (w : World) :
    Calls Tryd.prog 46 #[.slice A 0 c] w fun e w' => e = .returned (.slice none 0 0) ∧ w = w' := by
  go_enter Tryd.func46, Tryd.ntmps46
  go_wp2
  go_ret
  exact ⟨rfl, rfl⟩

set_option maxHeartbeats 400000 in
theorem copyBytes_some (A : Option Addr) (n c : Nat) (xs : List UInt8) (w : World) (h0 : n ≠ 0) (hn : n ≤ 281474976710656) (hx : xs.length = n) (hr : Rd w w.heap.size A xs) :
    Calls Tryd.prog 46 #[.slice A n c] w fun e w' => e = .returned (.slice (some ⟨w.heap.size, 0, none⟩) n n) ∧ RowAt w' 5 w.heap.size xs ∧ Below w.heap.size w w' := by
  obtain ⟨i0, hi, hz0, hz1, hz2⟩ := info_parts Tryd.info8
  have hmk := run_make8 (P := Tryd.prog) Tryd.underlying22 hi hz0 hz1 hz2 .i64 .i64 n n rfl hn
  clear hi hz0 hz1 hz2
  have HX := Lib.hid hx
  clear hx
  have hne : ((n : Int) == 0) = false := by rw [beq_eq_false_iff_ne]; omega
  go_enter Tryd.func46, Tryd.ntmps46
  go_wp2
  go_loopw [4] (fun i wr => ∃ (k : Nat) (ys : List UInt8), k ≤ n ∧ i = .int .i64 (k : Int) ∧ Hid (ys.length = n) ∧ Hid (∀ j, j < k → ys[j]? = xs[j]?) ∧ RowAt wr 5 w.heap.size ys ∧ Below w.heap.size w wr) (fun i _ => n - (intOf i).toNat)
  case atStart => exact ⟨0, List.replicate n 0, by omega, rfl, (by simp : _ = _), (fun j h => by omega : ∀ _, _), RowAt.new _ _ _, (Below.refl _ _).alloc (Nat.le_refl _) _⟩
  case round =>
    obtain ⟨k, zs, hk, rfl, hlen, hj, hrow, hb⟩ := hrel
    by_cases hlt : k < n
    · obtain ⟨b, o, rfl, hbl, hcx⟩ := hr.at_ (by rintro rfl; have := HX.out; simp at this; omega)
      have hkx : k < xs.length := by have := HX.out; omega
      have hcb : wr.cell? ⟨b, o + k, none⟩ = some (.int .u8 ((xs[k]).toNat : Int)) := (hb.cell (p := ⟨b, o + k, none⟩) hbl).trans (hcx k hkx)
      have hc := hrow.cell k (by have := hlen.out; omega)
      have hf := hrow.frozen k
      have HR := Lib.hid (hrow.set_ k xs[k])
      have hb' := hb.setCell (p := ⟨w.heap.size, k, none⟩) (Nat.le_refl _) (.int .u8 ((xs[k]).toNat : Int))
      clear hrow hcx
      go_wp2
      go_roundw
      case rel =>
        refine ⟨k + 1, zs.set k xs[k], by omega, by go_num, (show _ = _ by simpa using hlen.out), (show ∀ _, _ from fun j h1 => ?_), HR.out, hb'⟩
        have := hlen.out
        rw [List.getElem?_set]
        split
        · subst_vars
          rw [if_pos (by omega), List.getElem?_eq_getElem hkx]
        · exact hj.out j (by omega)
      case measure => simp [intOf]; omega
    · obtain rfl : k = n := by omega
      go_wp2
      go_ret
      refine ⟨rfl, ?_, hb⟩
      have hx := HX.out
      have hzx : zs = xs := by
        apply List.ext_getElem?
        intro i
        rcases Nat.lt_or_ge i k with hi | hi
        · exact hj.out i hi
        · rw [List.getElem?_eq_none (by rw [hlen.out]; exact hi), List.getElem?_eq_none (by omega)]
      rw [← hzx]
      exact hrow
end Go.Proofs.YtnnkgdkjmmljiaaDoor
