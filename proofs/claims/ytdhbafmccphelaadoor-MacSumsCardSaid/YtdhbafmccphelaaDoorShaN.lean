/-
  Package sha: what a state says of its bytes: plain facts.
-/
import Derived.Test.YtdhbafmccphelaaDoorShaC
namespace Go.Proofs.YtdhbafmccphelaaDoor
open Go.RowKit
set_option linter.unusedVariables false
set_option maxRecDepth 100000

/-- A block, filled from r on. -/
def fill (bs : List UInt8) (r : Nat) (zs : List UInt8) : List UInt8 := bs.take r ++ zs ++ bs.drop (r + zs.length)
theorem length_fill {bs : List UInt8} {r : Nat} {zs : List UInt8} (hb : bs.length = 64) (h : r + zs.length ≤ 64) : (fill bs r zs).length = 64 := by
  simp [fill, hb]; omega
theorem fill_full {bs : List UInt8} {r : Nat} {zs : List UInt8} (hb : bs.length = 64) (h : r + zs.length = 64) : fill bs r zs = bs.take r ++ zs := by
  unfold fill
  rw [List.drop_of_length_le (by omega), List.append_nil]
/-- What the fields say of the bytes. -/
structure Inv (G : List R) (bs xs : List UInt8) : Prop where
  g : G.length = 8
  b : bs.length = 64
  h : add H0 G = hsn xs (xs.length / 64)
  r : bs.take (xs.length % 64) = xs.drop (64 * (xs.length / 64))
theorem Inv.zero : Inv (List.replicate 8 0) (List.replicate 64 0) [] := ⟨rfl, rfl, by decide, rfl⟩
theorem Inv.part {G : List R} {bs xs zs : List UInt8} (i : Inv G bs xs) (h : xs.length % 64 + zs.length < 64) : Inv G (fill bs (xs.length % 64) zs) (xs ++ zs) := by
  have hd : (xs ++ zs).length / 64 = xs.length / 64 := by rw [List.length_append]; omega
  have hm : (xs ++ zs).length % 64 = xs.length % 64 + zs.length := by rw [List.length_append]; omega
  have hle : 64 * (xs.length / 64) ≤ xs.length := by omega
  have hb := i.b
  refine ⟨i.g, length_fill i.b (by omega), by rw [hd, hsn_append _ _ _ hle]; exact i.h, ?_⟩
  rw [hd, hm, List.drop_append_of_le_length hle, ← i.r]
  unfold fill
  rw [List.take_append_of_le_length (by simp [hb]; omega), List.take_of_length_le (by simp [hb]; omega)]
theorem Inv.full {G : List R} {bs xs zs : List UInt8} (i : Inv G bs xs) (h : xs.length % 64 + zs.length = 64) :
    Inv (add G (cmp (add H0 G) (fill bs (xs.length % 64) zs))) (fill bs (xs.length % 64) zs) (xs ++ zs) := by
  have hd : (xs ++ zs).length / 64 = xs.length / 64 + 1 := by rw [List.length_append]; omega
  have hm : (xs ++ zs).length % 64 = 0 := by rw [List.length_append]; omega
  have hle : 64 * (xs.length / 64) ≤ xs.length := by omega
  have hb := i.b
  have hl := length_fill hb (Nat.le_of_eq h)
  refine ⟨length_add i.g (length_cmp _ _ (length_add rfl i.g)), hl, ?_, ?_⟩
  · rw [hd, hsn, hsn_append _ _ _ hle, ← add_assoc, i.h]
    congr 2
    rw [fill_full hb h, List.drop_append_of_le_length hle, ← i.r]
    exact (List.take_of_length_le (by simp [hb]; omega)).symm
  · rw [hd, hm, List.take_zero, List.drop_of_length_le (by rw [List.length_append]; omega)]

theorem stRow_copy {G : List R} {bs : List UInt8} {n r : Nat} {zs : List UInt8} (hG : G.length = 8) (hb : bs.length = 64) (h : r + zs.length ≤ 64) :
    ((stRow G bs n).toList.take (8 + r) ++ (zs.map fun x => Value.int .u8 (x.toNat : Int)) ++ (stRow G bs n).toList.drop (8 + r + (zs.map fun x => Value.int .u8 (x.toNat : Int)).length)).toArray = stRow G (fill bs r zs) n := by
  apply Array.toList_inj.1
  have e : (stRow G bs n).toList = (G.map fun x => rv x) ++ ((bs.map fun x => Value.int .u8 (x.toNat : Int)) ++ [.int .u64 (n : Int)]) := by simp [stRow, wrow, row8]
  have e2 : (stRow G (fill bs r zs) n).toList = (G.map fun x => rv x) ++ (((fill bs r zs).map fun x => Value.int .u8 (x.toNat : Int)) ++ [.int .u64 (n : Int)]) := by simp [stRow, wrow, row8]
  rw [e2, e]
  simp only [List.length_map]
  have hg : (G.map fun x => rv x).length = 8 := by simp [hG]
  have hbl : (bs.map fun x => Value.int .u8 (x.toNat : Int)).length = 64 := by simp [hb]
  rw [List.take_append, List.take_of_length_le (by omega), hg, Nat.add_sub_cancel_left, List.take_append_of_le_length (by omega)]
  rw [List.drop_append, List.drop_of_length_le (by omega), hg, show 8 + r + zs.length - 8 = r + zs.length by omega, List.drop_append_of_le_length (by omega)]
  simp [fill, List.append_assoc]

/-- A state in memory. -/
def St (w : World) (q : Nat) (xs : List UInt8) : Prop := ∃ G bs, Blk w q 44 (stRow G bs xs.length) ∧ Inv G bs xs
theorem St.lt {w : World} {q : Nat} {xs : List UInt8} (h : St w q xs) : q < w.heap.size := let ⟨_, _, hb, _⟩ := h; hb.lt
theorem St.tw {w w' : World} {q : Nat} {xs : List UInt8} {S : List Nat} (h : St w q xs) (ht : Tw S w w') (hn : q ∉ S) : St w' q xs := let ⟨G, bs, hb, hi⟩ := h; ⟨G, bs, hb.tw ht hn, hi⟩
theorem St.below {w w' : World} {q B : Nat} {xs : List UInt8} (h : St w q xs) (ht : Below B w w') (hn : q < B) : St w' q xs := let ⟨G, bs, hb, hi⟩ := h; ⟨G, bs, hb.below ht hn, hi⟩
theorem St.drewN {w : World} {q : Nat} {xs : List UInt8} (h : St w q xs) (n : Nat) : St (w.drewN n) q xs := h

/-- What is read lies apart from block q. -/
def Src (w : World) (q : Nat) (A : Option Addr) (ys : List UInt8) : Prop :=
  ys = [] ∨ ∃ b o, A = some ⟨b, o, none⟩ ∧ b ≠ q ∧ b < w.heap.size ∧ ∀ j x, ys[j]? = some x → w.cell? ⟨b, o + j, none⟩ = some (.int .u8 (x.toNat : Int))
theorem Src.nil (w : World) (q : Nat) (A : Option Addr) : Src w q A [] := .inl rfl
theorem Src.of_rd {w : World} {q B : Nat} {A : Option Addr} {ys : List UInt8} (h : Rd w B A ys) (hB : B ≤ w.heap.size) (hq : B ≤ q) : Src w q A ys := by
  rcases h with h | ⟨b, o, ha, hb, hc⟩
  · exact .inl h
  · exact .inr ⟨b, o, ha, by omega, by omega, hc⟩
theorem Src.tw {w w' : World} {q : Nat} {A : Option Addr} {ys : List UInt8} {S : List Nat} (h : Src w q A ys) (ht : Tw S w w') (hS : ∀ k ∈ S, k = q) : Src w' q A ys := by
  rcases h with h | ⟨b, o, ha, hb, hlt, hc⟩
  · exact .inl h
  · exact .inr ⟨b, o, ha, hb, Nat.lt_of_lt_of_le hlt ht.size, fun j x hx => (ht.cell hlt (fun hm => hb (hS _ hm))).trans (hc j x hx)⟩
end Go.Proofs.YtdhbafmccphelaaDoor
