/-
  Package chunk, plainly: the bytes that are written of a chunk; when bytes begin with one, and which.
  Words on memory: a slice of chunks that came in; the bytes of chunks one behind the other.
-/
import Derived.Test.YtifmhlbeodfpeaaQ3
namespace Go.Proofs.Ytifmhlbeodfpeaa
open Go.RowKit
set_option linter.unusedVariables false

/-- Padded with noughts. -/
def pd (xs : List UInt8) : List UInt8 := xs ++ List.replicate (up4 xs.length - xs.length) 0
theorem length_pd (xs : List UInt8) : (pd xs).length = up4 xs.length := by
  have := up4_bd xs.length
  simp [pd]; omega
/-- A head. -/
def hd (k f : UInt8) (L : Nat) : List UInt8 := [k, f, byteOf L 1, byteOf L 0]
/-- The bytes of a chunk. -/
def wrt (k f : UInt8) (xs : List UInt8) : List UInt8 := if 65531 < xs.length then [] else pd (hd k f (4 + xs.length) ++ xs)
theorem wrt_big {k f : UInt8} {xs : List UInt8} (h : 65531 < xs.length) : wrt k f xs = [] := if_pos h
theorem wrt_small {k f : UInt8} {xs : List UInt8} (h : xs.length ≤ 65531) : wrt k f xs = pd (hd k f (4 + xs.length) ++ xs) := if_neg (by omega)
theorem length_hd (k f : UInt8) (L : Nat) : (hd k f L).length = 4 := rfl
theorem length_wrt {k f : UInt8} {xs : List UInt8} (h : xs.length ≤ 65531) : (wrt k f xs).length = up4 (4 + xs.length) := by
  rw [wrt_small h, length_pd, List.length_append, length_hd]
theorem wrt_le (k f : UInt8) (xs : List UInt8) : (wrt k f xs).length ≤ 65536 := by
  by_cases h : xs.length ≤ 65531
  · rw [length_wrt h]; unfold up4; omega
  · rw [wrt_big (by omega)]; simp

/-- The length that a head tells. -/
def clen (bs : List UInt8) : Nat := num bs 2 2
theorem clen_eq (bs : List UInt8) : clen bs = 256 * (bs[2]?.getD 0).toNat + (bs[3]?.getD 0).toNat := by simp [clen, num]
theorem clen_lt (bs : List UInt8) : clen bs < 65536 := num_lt bs 2 2
/-- Do these bytes begin with a chunk? -/
structure Fits (bs : List UInt8) : Prop where
  four : 4 ≤ bs.length
  lo : 4 ≤ clen bs
  hi : up4 (clen bs) ≤ bs.length
  pad : ∀ j, clen bs ≤ j → j < up4 (clen bs) → bs[j]? = some 0
def kind (bs : List UInt8) : UInt8 := bs[0]?.getD 0
def flag (bs : List UInt8) : UInt8 := bs[1]?.getD 0
def body (bs : List UInt8) : List UInt8 := (bs.drop 4).take (clen bs - 4)
theorem length_body {bs : List UInt8} (h : clen bs ≤ bs.length) : (body bs).length = clen bs - 4 := by
  simp [body]; omega
theorem get_body {bs : List UInt8} (j : Nat) : (body bs)[j]? = if j < clen bs - 4 then bs[4 + j]? else none := by
  rw [body, List.getElem?_take, List.getElem?_drop]

theorem byteOf_back (a b : UInt8) : byteOf (256 * a.toNat + b.toNat) 1 = a ∧ byteOf (256 * a.toNat + b.toNat) 0 = b := by
  have := a.toNat_lt
  have := b.toNat_lt
  constructor
  · apply UInt8.toNat_inj.1; simp [byteOf]; omega
  · apply UInt8.toNat_inj.1; simp [byteOf]
/-- The head and the body that were read are those bytes. -/
theorem head_body {bs : List UInt8} (h4 : 4 ≤ bs.length) (hlo : 4 ≤ clen bs) (hle : clen bs ≤ bs.length) : hd (kind bs) (flag bs) (clen bs) ++ body bs = bs.take (clen bs) := by
  have hb := byteOf_back (bs[2]?.getD 0) (bs[3]?.getD 0)
  rw [← clen_eq] at hb
  have g0 : bs[0]? = some bs[0] := List.getElem?_eq_getElem (by omega)
  have g1 : bs[1]? = some bs[1] := List.getElem?_eq_getElem (by omega)
  have g2 : bs[2]? = some bs[2] := List.getElem?_eq_getElem (by omega)
  have g3 : bs[3]? = some bs[3] := List.getElem?_eq_getElem (by omega)
  apply List.ext_getElem?
  intro i
  rw [List.getElem?_take]
  match i with
  | 0 => rw [if_pos (by omega), g0]; simp [hd, kind, g0]
  | 1 => rw [if_pos (by omega), g1]; simp [hd, flag, g1]
  | 2 => rw [if_pos (by omega), g2]; simp [hd, hb.1, g2]
  | 3 => rw [if_pos (by omega), g3]; simp [hd, hb.2, g3]
  | i + 4 =>
    rw [List.getElem?_append_right (by simp [hd]), length_hd, get_body]
    simp only [Nat.add_sub_cancel]
    by_cases hi : i < clen bs - 4
    · rw [if_pos hi, if_pos (by omega), Nat.add_comm]
    · rw [if_neg hi, if_neg (by omega)]
/-- What is written of what was read. -/
theorem wrt_read {bs : List UInt8} (h4 : 4 ≤ bs.length) (hlo : 4 ≤ clen bs) (hle : clen bs ≤ bs.length) : wrt (kind bs) (flag bs) (body bs) = bs.take (clen bs) ++ List.replicate (up4 (clen bs) - clen bs) 0 := by
  have hc := clen_lt bs
  have hl := length_body hle
  have h := head_body h4 hlo hle
  rw [wrt_small (by omega), hl, show 4 + (clen bs - 4) = clen bs by omega, h, pd, List.length_take, Nat.min_eq_left hle]
theorem pad_iff {bs : List UInt8} (L U : Nat) (hLU : L ≤ U) (hU : U ≤ bs.length) : bs.take L ++ List.replicate (U - L) 0 = bs.take U ↔ ∀ j, L ≤ j → j < U → bs[j]? = some 0 := by
  constructor
  · intro h j hj hu
    have h1 : (bs.take L ++ List.replicate (U - L) 0)[j]? = (bs.take U)[j]? := by rw [h]
    rw [List.getElem?_append_right (by simp; omega), List.getElem?_replicate, List.length_take, if_pos (by omega), List.getElem?_take, if_pos hu] at h1
    exact h1.symm
  · intro h
    apply List.ext_getElem?
    intro i
    rw [List.getElem?_append, List.length_take, List.getElem?_take, List.getElem?_take, List.getElem?_replicate, Nat.min_eq_left (by omega)]
    by_cases h1 : i < L
    · rw [if_pos h1, if_pos h1, if_pos (by omega)]
    · rw [if_neg h1]
      by_cases h2 : i < U
      · rw [if_pos (by omega), if_pos h2, h i (by omega) h2]
      · rw [if_neg (by omega), if_neg h2]
theorem fits_wrt {bs : List UInt8} (h : Fits bs) : wrt (kind bs) (flag bs) (body bs) = bs.take (up4 (clen bs)) := by
  have hb := up4_bd (clen bs)
  have hle := h.hi
  rw [wrt_read h.four h.lo (by omega)]
  exact (pad_iff _ _ hb.1 hle).2 h.pad
theorem wrt_fits {bs : List UInt8} (h4 : 4 ≤ bs.length) (hlo : 4 ≤ clen bs) (hU : up4 (clen bs) ≤ bs.length) (h : wrt (kind bs) (flag bs) (body bs) = bs.take (up4 (clen bs))) : Fits bs := by
  have hb := up4_bd (clen bs)
  rw [wrt_read h4 hlo (by omega)] at h
  exact ⟨h4, hlo, hU, (pad_iff _ _ hb.1 hU).1 h⟩

theorem Fits.zero {bs : List UInt8} (h : Fits bs) : ∀ x ∈ (bs.drop (clen bs)).take (up4 (clen bs) - clen bs), x = 0 := by
  intro x hx
  obtain ⟨j, hj⟩ := List.mem_iff_getElem?.1 hx
  rw [List.getElem?_take, List.getElem?_drop] at hj
  split at hj
  · rw [h.pad (clen bs + j) (by omega) (by omega)] at hj
    exact (Option.some.inj hj).symm
  · cases hj

/-! ### What was written is read -/
section
variable {k f : UInt8} {xs more : List UInt8}
theorem get_wrt (h : xs.length ≤ 65531) : (wrt k f xs ++ more)[0]? = some k ∧ (wrt k f xs ++ more)[1]? = some f ∧ (wrt k f xs ++ more)[2]? = some (byteOf (4 + xs.length) 1) ∧ (wrt k f xs ++ more)[3]? = some (byteOf (4 + xs.length) 0) := by
  rw [wrt_small h]
  exact ⟨rfl, rfl, rfl, rfl⟩
theorem get_wrt4 (h : xs.length ≤ 65531) (j : Nat) : (wrt k f xs)[4 + j]? = if j < xs.length then xs[j]? else if j < up4 (4 + xs.length) - 4 then some 0 else none := by
  have hu := up4_bd (4 + xs.length)
  rw [wrt_small h, pd, List.getElem?_append, List.length_append, length_hd, List.getElem?_append, length_hd, List.getElem?_replicate]
  by_cases h1 : j < xs.length
  · rw [if_pos (by omega), if_neg (by omega), if_pos h1, Nat.add_sub_cancel_left]
  · rw [if_neg (by omega), if_neg h1]
    by_cases h2 : j < up4 (4 + xs.length) - 4
    · rw [if_pos (by omega), if_pos h2]
    · rw [if_neg (by omega), if_neg h2]
theorem clen_of {bs : List UInt8} {n : Nat} (h : n ≤ 65535) (h2 : bs[2]? = some (byteOf n 1)) (h3 : bs[3]? = some (byteOf n 0)) : clen bs = n := by
  rw [clen_eq, h2, h3]
  simp [byteOf]
  omega
theorem clen_wrt (h : xs.length ≤ 65531) : clen (wrt k f xs ++ more) = 4 + xs.length :=
  clen_of (by omega) (get_wrt h).2.2.1 (get_wrt h).2.2.2
theorem read_wrt (h : xs.length ≤ 65531) : Fits (wrt k f xs ++ more) ∧ kind (wrt k f xs ++ more) = k ∧ flag (wrt k f xs ++ more) = f ∧ body (wrt k f xs ++ more) = xs ∧ clen (wrt k f xs ++ more) = 4 + xs.length := by
  have hc := clen_wrt (k := k) (f := f) (more := more) h
  have hu := up4_bd (4 + xs.length)
  have hl := length_wrt (k := k) (f := f) h
  have hg := get_wrt (k := k) (f := f) (more := more) h
  refine ⟨⟨by rw [List.length_append]; omega, by omega, by rw [hc, List.length_append]; omega, fun j h1 h2 => ?_⟩, by rw [kind, hg.1]; rfl, by rw [flag, hg.2.1]; rfl, ?_, hc⟩
  · rw [hc] at h1 h2
    rw [List.getElem?_append_left (by omega)]
    obtain ⟨i, rfl⟩ := Nat.exists_eq_add_of_le (show 4 ≤ j by omega)
    rw [get_wrt4 h, if_neg (by omega), if_pos (by omega)]
  · apply List.ext_getElem?
    intro j
    rw [get_body, hc, Nat.add_sub_cancel_left]
    by_cases hj : j < xs.length
    · rw [if_pos hj, List.getElem?_append_left (by omega), get_wrt4 h, if_pos hj]
    · rw [if_neg hj, List.getElem?_eq_none (by omega)]
theorem clen_take {bs : List UInt8} {j : Nat} (h : 4 ≤ j) : clen (bs.take j) = clen bs := by
  rw [clen_eq, clen_eq, List.getElem?_take, List.getElem?_take, if_pos (by omega), if_pos (by omega)]
/-- A chunk that is cut is none. -/
theorem cut_none {j : Nat} (h : j < (wrt k f xs).length) : ¬ Fits ((wrt k f xs).take j) := by
  intro hf
  by_cases hx : xs.length ≤ 65531
  · have h4 := hf.four
    have hi := hf.hi
    have hc := clen_wrt (k := k) (f := f) (more := []) hx
    rw [List.append_nil] at hc
    rw [List.length_take] at h4 hi
    rw [clen_take (by omega), hc] at hi
    rw [length_wrt hx] at h
    omega
  · rw [wrt_big (by omega)] at h
    simp at h
end
end Go.Proofs.Ytifmhlbeodfpeaa

namespace Go.Proofs.Ytifmhlbeodfpeaa
open Go.RowKit
set_option linter.unusedVariables false

/-- A chunk: kind, flags, body. -/
abbrev Chk := UInt8 × UInt8 × List UInt8
/-- A slice of chunks reads as cs, below block B. -/
def Chunks (w : World) (B : Nat) (A : Option Addr) (cs : List Chk) : Prop :=
  cs = [] ∨ ∃ b o, A = some ⟨b, o, none⟩ ∧ b < B ∧ ∀ (i : Nat) (x : Chk), cs[i]? = some x → w.cell? ⟨b, o + i * 3, none⟩ = some (.int .u8 (x.1.toNat : Int)) ∧ w.cell? ⟨b, o + i * 3 + 1, none⟩ = some (.int .u8 (x.2.1.toNat : Int)) ∧
    ∃ A' n c, w.cell? ⟨b, o + i * 3 + 2, none⟩ = some (.slice A' n c) ∧ n ≤ c ∧ c ≤ maxLen ∧ x.2.2.length = n ∧ Rd w B A' x.2.2

section
variable {w w' : World} {B : Nat} {A : Option Addr} {cs : List Chk}
theorem Chunks.below (h : Chunks w B A cs) (hb : Below B w w') : Chunks w' B A cs := by
  rcases h with h | ⟨b, o, ha, hlt, hc⟩
  · exact .inl h
  · refine .inr ⟨b, o, ha, hlt, fun i x hx => ?_⟩
    obtain ⟨h1, h2, A', n, c, h3, h4, h5, h6, h7⟩ := hc i x hx
    exact ⟨(hb.cell hlt).trans h1, (hb.cell hlt).trans h2, A', n, c, (hb.cell hlt).trans h3, h4, h5, h6, h7.below hb⟩
end

/-- The bytes of chunks one behind the other. -/
def cat (cs : List Chk) : List UInt8 := (cs.map fun x => wrt x.1 x.2.1 x.2.2).flatten
theorem cat_nil : cat [] = [] := rfl
theorem cat_cons (x : Chk) (cs : List Chk) : cat (x :: cs) = wrt x.1 x.2.1 x.2.2 ++ cat cs := rfl
theorem cat_snoc (cs : List Chk) (k : Nat) (x : Chk) (h : cs[k]? = some x) : cat (cs.take (k + 1)) = cat (cs.take k) ++ wrt x.1 x.2.1 x.2.2 := by
  have hk := (List.getElem?_eq_some_iff.1 h).1
  have hx := (List.getElem?_eq_some_iff.1 h).2
  rw [List.take_succ_eq_append_getElem hk, hx, cat, List.map_append, List.flatten_append]
  simp [cat]
theorem cat_drop (cs : List Chk) (k : Nat) (x : Chk) (h : cs[k]? = some x) : cat (cs.drop k) = wrt x.1 x.2.1 x.2.2 ++ cat (cs.drop (k + 1)) := by
  have hk := (List.getElem?_eq_some_iff.1 h).1
  have hx := (List.getElem?_eq_some_iff.1 h).2
  rw [List.drop_eq_getElem_cons hk, hx, cat_cons]
theorem length_cat_take (cs : List Chk) : ∀ k, (cat (cs.take k)).length ≤ k * 65536
  | 0 => by rw [List.take_zero, cat_nil]; exact Nat.zero_le _
  | k + 1 => by
    have ih := length_cat_take cs k
    rcases Nat.lt_or_ge k cs.length with hk | hk
    · rw [cat_snoc cs k _ (List.getElem?_eq_getElem hk), List.length_append]
      have := wrt_le cs[k].1 cs[k].2.1 cs[k].2.2
      rw [Nat.add_mul, Nat.one_mul]
      exact Nat.add_le_add ih this
    · rw [List.take_of_length_le (by omega)]
      rw [List.take_of_length_le hk] at ih
      exact Nat.le_trans ih (Nat.mul_le_mul_right _ (Nat.le_succ k))
theorem length_cat (cs : List Chk) : (cat cs).length ≤ cs.length * 65536 := by
  have := length_cat_take cs cs.length
  rwa [List.take_of_length_le (Nat.le_refl _)] at this
end Go.Proofs.Ytifmhlbeodfpeaa
