/-
  Package bodies, plainly: the chunk of each kind of body; what a chunk says; what is got of what was put.
-/
import Derived.Test.YtifmhlbeodfpeaaQ4
namespace Go.Proofs.Ytifmhlbeodfpeaa
open Go.RowKit
set_option linter.unusedVariables false

/-! ### Numbers in bytes -/
theorem num_drop (xs : List UInt8) (a : Nat) : ∀ k, num xs a k = num (xs.drop a) 0 k
  | 0 => rfl
  | k + 1 => by rw [num, num, num_drop xs a k, List.getElem?_drop, Nat.zero_add]
theorem num_left (xs ys : List UInt8) (a : Nat) : ∀ k, a + k ≤ xs.length → num (xs ++ ys) a k = num xs a k
  | 0, _ => rfl
  | k + 1, h => by rw [num, num, num_left xs ys a k (by omega), List.getElem?_append_left (by omega)]
theorem num_encs (x s : Nat) : ∀ k, k ≤ s → num (enc x s) 0 k = x / 256 ^ (s - k) % 256 ^ k
  | 0, _ => by simp [num, Nat.mod_one]
  | k + 1, h => by
    rw [num, num_encs x s k (by omega), Nat.zero_add, get_enc x s k (by omega), Option.getD_some]
    have hb : (byteOf x (s - 1 - k)).toNat = x / 256 ^ (s - (k + 1)) % 256 := by
      have := toNat_byteOf x (s - 1 - k)
      rw [show s - (k + 1) = s - 1 - k by omega]
      omega
    have hd : x / 256 ^ (s - k) = x / 256 ^ (s - (k + 1)) / 256 := by
      rw [show s - k = s - (k + 1) + 1 by omega, Nat.pow_succ, Nat.div_div_eq_div_mul]
    rw [hb, hd, Nat.pow_succ, Nat.mul_comm (256 ^ k) 256]
    rw [Nat.mod_mul]
    omega
/-- What is put first is got. -/
theorem num_put (x s : Nat) (ys : List UInt8) (h : x < 256 ^ s) : num (enc x s ++ ys) 0 s = x := by
  rw [num_left _ _ _ _ (by rw [length_enc]; omega), num_encs x s s (Nat.le_refl _)]
  simp [Nat.mod_eq_of_lt h]
theorem drop_enc (x s : Nat) (ys : List UInt8) : (enc x s ++ ys).drop s = ys := by
  have h : (enc x s).length = s := length_enc x s
  rw [List.drop_append, List.drop_of_length_le (by omega), h, Nat.sub_self]
  rfl
theorem drop_encs (x s a : Nat) (ys : List UInt8) (h : s ≤ a) : (enc x s ++ ys).drop a = ys.drop (a - s) := by
  have hl : (enc x s).length = s := length_enc x s
  rw [List.drop_append, List.drop_of_length_le (by omega), hl, List.nil_append]
/-- The bytes that a number tells are put again. -/
theorem enc_num (xs : List UInt8) : ∀ s, s ≤ xs.length → enc (num xs 0 s) s = xs.take s := by
  intro s h
  apply List.ext_getElem?
  intro j
  rw [List.getElem?_take]
  by_cases hj : j < s
  · rw [if_pos hj, get_enc _ _ _ hj, List.getElem?_eq_getElem (by omega)]
    congr 1
    have key : ∀ (k : Nat), k ≤ s → num xs 0 s / 256 ^ (s - k) = num xs 0 k := by
      intro k hk
      obtain ⟨d, rfl⟩ : ∃ d, s = k + d := ⟨s - k, by omega⟩
      rw [Nat.add_sub_cancel_left]
      clear h hj hk
      induction d with
      | zero => simp
      | succ d ih =>
        rw [← Nat.add_assoc, num, Nat.pow_succ, Nat.mul_comm (256 ^ d) 256, ← Nat.div_div_eq_div_mul]
        have hb := (xs[0 + (k + d)]?.getD 0).toNat_lt
        rw [show (256 * num xs 0 (k + d) + (xs[0 + (k + d)]?.getD 0).toNat) / 256 = num xs 0 (k + d) by omega]
        exact ih
    apply UInt8.toNat_inj.1
    have h1 := toNat_byteOf (num xs 0 s) (s - 1 - j)
    have h2 := key (j + 1) (by omega)
    rw [show s - (j + 1) = s - 1 - j by omega] at h2
    rw [h2, num, Nat.zero_add, List.getElem?_eq_getElem (by omega), Option.getD_some] at h1
    have hb := (xs[j]'(by omega)).toNat_lt
    omega
  · rw [if_neg hj, List.getElem?_eq_none (by rw [length_enc]; omega)]

/-! ### Data -/
structure BData where
  tsn : Nat
  stream : Nat
  ssn : Nat
  un : Bool
  fi : Bool
  la : Bool
  bytes : List UInt8
structure BData.Ok (d : BData) : Prop where
  tsn : d.tsn < 4294967296
  stream : d.stream < 65536
  ssn : d.ssn < 65536
/-- Kind, flags, body. -/
def flagsD (un fi la : Bool) : UInt8 := (if un then 4 else 0) + (if fi then 2 else 0) + (if la then 1 else 0)
def bodyD (d : BData) : List UInt8 := enc d.tsn 4 ++ (enc d.stream 2 ++ (enc d.ssn 2 ++ (enc 0 4 ++ d.bytes)))
def parseD (f : UInt8) (b : List UInt8) : BData := ⟨num b 0 4, num b 4 2, num b 6 2, decide (f &&& 4 ≠ 0), decide (f &&& 2 ≠ 0), decide (f &&& 1 ≠ 0), b.drop 12⟩
theorem parse_ok (f : UInt8) (b : List UInt8) : (parseD f b).Ok := ⟨num_lt b 0 4, num_lt b 4 2, num_lt b 6 2⟩
theorem length_bodyD (d : BData) : (bodyD d).length = 12 + d.bytes.length := by simp [bodyD, length_enc]; omega
theorem parse_put (d : BData) (h : d.Ok) : parseD (flagsD d.un d.fi d.la) (bodyD d) = d := by
  obtain ⟨tsn, stream, ssn, un, fi, la, bytes⟩ := d
  obtain ⟨h1, h2, h3⟩ := h
  simp only at h1 h2 h3
  have g1 : num (bodyD ⟨tsn, stream, ssn, un, fi, la, bytes⟩) 0 4 = tsn := num_put tsn 4 _ h1
  have g2 : num (bodyD ⟨tsn, stream, ssn, un, fi, la, bytes⟩) 4 2 = stream := by rw [num_drop, bodyD, drop_enc]; exact num_put stream 2 _ h2
  have g3 : num (bodyD ⟨tsn, stream, ssn, un, fi, la, bytes⟩) 6 2 = ssn := by rw [num_drop, bodyD, drop_encs _ _ _ _ (by decide), drop_enc]; exact num_put ssn 2 _ h3
  have g4 : (bodyD ⟨tsn, stream, ssn, un, fi, la, bytes⟩).drop 12 = bytes := by
    rw [bodyD, drop_encs _ _ _ _ (by decide), drop_encs _ _ _ _ (by decide), drop_encs _ _ _ _ (by decide), drop_encs _ _ _ _ (by decide)]
    rfl
  have f1 : decide (flagsD un fi la &&& 4 ≠ 0) = un := by cases un <;> cases fi <;> cases la <;> decide
  have f2 : decide (flagsD un fi la &&& 2 ≠ 0) = fi := by cases un <;> cases fi <;> cases la <;> decide
  have f3 : decide (flagsD un fi la &&& 1 ≠ 0) = la := by cases un <;> cases fi <;> cases la <;> decide
  rw [parseD, g1, g2, g3, g4]
  simp only [f1, f2, f3]
/-- Does that chunk say data? -/
def SaysD (k f : UInt8) (b : List UInt8) : Prop := k = 0 ∧ 13 ≤ b.length ∧ flagsD (parseD f b).un (parseD f b).fi (parseD f b).la = f ∧ bodyD (parseD f b) = b
theorem says_putD (d : BData) (h : d.Ok) : SaysD 0 (flagsD d.un d.fi d.la) (bodyD d) ↔ d.bytes ≠ [] := by
  have hp := parse_put d h
  rw [SaysD, hp, length_bodyD]
  constructor
  · rintro ⟨_, h2, _⟩ h0
    rw [h0] at h2
    simp at h2
  · intro h0
    have : 0 < d.bytes.length := List.length_pos_iff.2 h0
    exact ⟨rfl, by omega, rfl, rfl⟩

/-! ### Beginnings -/
structure BInit where
  tag : Nat
  rwnd : Nat
  out : Nat
  in_ : Nat
  tsn : Nat
  cookie : List UInt8
structure BInit.Ok (d : BInit) : Prop where
  tag : d.tag < 4294967296
  rwnd : d.rwnd < 4294967296
  out : d.out < 65536
  in_ : d.in_ < 65536
  tsn : d.tsn < 4294967296
def headI (d : BInit) : List UInt8 := enc d.tag 4 ++ (enc d.rwnd 4 ++ (enc d.out 2 ++ (enc d.in_ 2 ++ enc d.tsn 4)))
def bodyI (k : UInt8) (d : BInit) : List UInt8 := if k = 2 then pd (headI d ++ (enc 7 2 ++ (enc (4 + d.cookie.length) 2 ++ d.cookie))) else headI d
def parseI (k : UInt8) (b : List UInt8) : BInit := ⟨num b 0 4, num b 4 4, num b 8 2, num b 10 2, num b 12 4, if k = 2 then (b.drop 20).take (num b 18 2 - 4) else []⟩
theorem parseI_ok (k : UInt8) (b : List UInt8) : (parseI k b).Ok := ⟨num_lt b 0 4, num_lt b 4 4, num_lt b 8 2, num_lt b 10 2, num_lt b 12 4⟩
theorem length_headI (d : BInit) : (headI d).length = 16 := by simp [headI, length_enc]
theorem nums_headI (d : BInit) (h : d.Ok) (ys : List UInt8) : num (headI d ++ ys) 0 4 = d.tag ∧ num (headI d ++ ys) 4 4 = d.rwnd ∧ num (headI d ++ ys) 8 2 = d.out ∧ num (headI d ++ ys) 10 2 = d.in_ ∧ num (headI d ++ ys) 12 4 = d.tsn := by
  simp only [headI, List.append_assoc]
  refine ⟨num_put _ 4 _ h.tag, ?_, ?_, ?_, ?_⟩
  · rw [num_drop, drop_enc]; exact num_put _ 4 _ h.rwnd
  · rw [num_drop, drop_encs _ _ _ _ (by decide), drop_enc]; exact num_put _ 2 _ h.out
  · rw [num_drop, drop_encs _ _ _ _ (by decide), drop_encs _ _ _ _ (by decide), drop_enc]; exact num_put _ 2 _ h.in_
  · rw [num_drop, drop_encs _ _ _ _ (by decide), drop_encs _ _ _ _ (by decide), drop_encs _ _ _ _ (by decide), drop_enc]; exact num_put _ 4 _ h.tsn
theorem drop_headI (d : BInit) (ys : List UInt8) (a : Nat) (h : 16 ≤ a) : (headI d ++ ys).drop a = ys.drop (a - 16) := by
  rw [List.drop_append, List.drop_of_length_le (by rw [length_headI]; exact h), length_headI, List.nil_append]
/-- The tail of a cookie's parameter. -/
theorem bodyI_ack (d : BInit) : bodyI 2 d = headI d ++ (enc 7 2 ++ (enc (4 + d.cookie.length) 2 ++ (d.cookie ++ List.replicate (up4 d.cookie.length - d.cookie.length) 0))) := by
  have hl : (headI d ++ (enc 7 2 ++ (enc (4 + d.cookie.length) 2 ++ d.cookie))).length = 20 + d.cookie.length := by simp [length_headI, length_enc]; omega
  have hu : up4 (20 + d.cookie.length) - (20 + d.cookie.length) = up4 d.cookie.length - d.cookie.length := by unfold up4; omega
  rw [bodyI, if_pos rfl, pd, hl, hu]
  simp [List.append_assoc]
theorem length_bodyI (k : UInt8) (d : BInit) : (bodyI k d).length = if k = 2 then 20 + up4 d.cookie.length else 16 := by
  by_cases h : k = 2
  · subst h
    have := up4_bd d.cookie.length
    rw [if_pos rfl, bodyI_ack]
    simp [length_headI, length_enc]
    omega
  · rw [if_neg h, bodyI, if_neg h, length_headI]
theorem parse_putI (k : UInt8) (d : BInit) (h : d.Ok) (hc : k = 2 → d.cookie.length ≤ 65531) : parseI k (bodyI k d) = if k = 2 then d else { d with cookie := [] } := by
  by_cases hk : k = 2
  · subst hk
    rw [if_pos rfl, parseI, bodyI_ack, if_pos rfl]
    obtain ⟨g1, g2, g3, g4, g5⟩ := nums_headI d h (enc 7 2 ++ (enc (4 + d.cookie.length) 2 ++ (d.cookie ++ List.replicate (up4 d.cookie.length - d.cookie.length) 0)))
    have g6 : num (headI d ++ (enc 7 2 ++ (enc (4 + d.cookie.length) 2 ++ (d.cookie ++ List.replicate (up4 d.cookie.length - d.cookie.length) 0)))) 18 2 = 4 + d.cookie.length := by
      rw [num_drop, drop_headI _ _ _ (by decide), drop_enc]
      exact num_put _ 2 _ (by have := hc rfl; omega)
    rw [g1, g2, g3, g4, g5, g6, drop_headI _ _ _ (by decide), drop_encs _ _ _ _ (by decide), drop_encs _ _ _ _ (by decide)]
    have : (List.drop (20 - 16 - 2 - 2) (d.cookie ++ List.replicate (up4 d.cookie.length - d.cookie.length) 0)).take (4 + d.cookie.length - 4) = d.cookie := by
      rw [show 20 - 16 - 2 - 2 = 0 from rfl, List.drop_zero, Nat.add_sub_cancel_left, List.take_left]
    rw [this]
  · rw [if_neg hk, parseI, bodyI, if_neg hk, if_neg hk]
    obtain ⟨g1, g2, g3, g4, g5⟩ := nums_headI d h []
    rw [List.append_nil] at g1 g2 g3 g4 g5
    rw [g1, g2, g3, g4, g5]

/-! ### Acknowledgements -/
def encG (g : Nat × Nat) : List UInt8 := enc g.1 2 ++ enc g.2 2
def gapsB (l : List (Nat × Nat)) : List UInt8 := (l.map encG).flatten
def dupsB (l : List Nat) : List UInt8 := (l.map fun x => enc x 4).flatten
theorem length_gapsB : ∀ l : List (Nat × Nat), (gapsB l).length = 4 * l.length
  | [] => rfl
  | g :: l => by
    have := length_gapsB l
    simp only [gapsB, List.map_cons, List.flatten_cons, List.length_append, List.length_cons] at this ⊢
    rw [this, encG, List.length_append, length_enc, length_enc]
    omega
theorem length_dupsB : ∀ l : List Nat, (dupsB l).length = 4 * l.length
  | [] => rfl
  | g :: l => by
    have := length_dupsB l
    simp only [dupsB, List.map_cons, List.flatten_cons, List.length_append, List.length_cons] at this ⊢
    rw [this, length_enc]
    omega
/-- Entries of two numbers, as many as told. -/
def getG (b : List UInt8) : Nat → Nat → List (Nat × Nat)
  | _, 0 => []
  | a, n + 1 => (num b a 2, num b (a + 2) 2) :: getG b (a + 4) n
def getN (b : List UInt8) : Nat → Nat → List Nat
  | _, 0 => []
  | a, n + 1 => num b a 4 :: getN b (a + 4) n
theorem length_getG (b : List UInt8) : ∀ n a, (getG b a n).length = n
  | 0, _ => rfl
  | n + 1, a => by rw [getG, List.length_cons, length_getG b n]
theorem length_getN (b : List UInt8) : ∀ n a, (getN b a n).length = n
  | 0, _ => rfl
  | n + 1, a => by rw [getN, List.length_cons, length_getN b n]
theorem getG_snoc (b : List UInt8) : ∀ n a, getG b a (n + 1) = getG b a n ++ [(num b (a + 4 * n) 2, num b (a + 4 * n + 2) 2)]
  | 0, a => rfl
  | n + 1, a => by
    rw [getG, getG_snoc b n (a + 4), getG, List.cons_append]
    congr 4
    all_goals congr 1; omega
theorem getN_snoc (b : List UInt8) : ∀ n a, getN b a (n + 1) = getN b a n ++ [num b (a + 4 * n) 4]
  | 0, a => rfl
  | n + 1, a => by
    rw [getN, getN_snoc b n (a + 4), getN, List.cons_append]
    congr 3
    congr 1; omega
theorem num_shift (xs ys : List UInt8) (a k : Nat) : num (xs ++ ys) (xs.length + a) k = num ys a k := by
  rw [num_drop, num_drop ys a k, List.drop_append, List.drop_of_length_le (by omega), Nat.add_sub_cancel_left, List.nil_append]
theorem getG_put : ∀ (l : List (Nat × Nat)) (xs ys : List UInt8), (∀ g ∈ l, g.1 < 65536 ∧ g.2 < 65536) → getG (xs ++ (gapsB l ++ ys)) xs.length l.length = l
  | [], _, _, _ => rfl
  | g :: l, xs, ys, h => by
    have hg := h g List.mem_cons_self
    have ih := getG_put l (xs ++ encG g) ys (fun x hx => h x (List.mem_cons_of_mem _ hx))
    have he : xs ++ (gapsB (g :: l) ++ ys) = (xs ++ encG g) ++ (gapsB l ++ ys) := by simp [gapsB, List.append_assoc]
    have hl : (xs ++ encG g).length = xs.length + 4 := by simp [encG, length_enc]
    rw [hl, ← he] at ih
    rw [List.length_cons, getG, ih]
    congr 1
    have e1 : xs ++ (gapsB (g :: l) ++ ys) = xs ++ (enc g.1 2 ++ (enc g.2 2 ++ (gapsB l ++ ys))) := by simp [gapsB, encG, List.append_assoc]
    have h1 := num_shift xs (enc g.1 2 ++ (enc g.2 2 ++ (gapsB l ++ ys))) 0 2
    have h2 := num_shift xs (enc g.1 2 ++ (enc g.2 2 ++ (gapsB l ++ ys))) 2 2
    rw [Nat.add_zero] at h1
    rw [e1, h1, h2, num_put _ 2 _ hg.1, num_drop, drop_enc, num_put _ 2 _ hg.2]
theorem getN_put : ∀ (l : List Nat) (xs ys : List UInt8), (∀ g ∈ l, g < 4294967296) → getN (xs ++ (dupsB l ++ ys)) xs.length l.length = l
  | [], _, _, _ => rfl
  | g :: l, xs, ys, h => by
    have hg := h g List.mem_cons_self
    have ih := getN_put l (xs ++ enc g 4) ys (fun x hx => h x (List.mem_cons_of_mem _ hx))
    have he : xs ++ (dupsB (g :: l) ++ ys) = (xs ++ enc g 4) ++ (dupsB l ++ ys) := by simp [dupsB, List.append_assoc]
    have hl : (xs ++ enc g 4).length = xs.length + 4 := by simp [length_enc]
    rw [hl, ← he] at ih
    rw [List.length_cons, getN, ih]
    congr 1
    have e1 : xs ++ (dupsB (g :: l) ++ ys) = xs ++ (enc g 4 ++ (dupsB l ++ ys)) := by simp [dupsB, List.append_assoc]
    have h1 := num_shift xs (enc g 4 ++ (dupsB l ++ ys)) 0 4
    rw [Nat.add_zero] at h1
    rw [e1, h1, num_put _ 4 _ hg]
structure BSack where
  cum : Nat
  rwnd : Nat
  gaps : List (Nat × Nat)
  dups : List Nat
structure BSack.Ok (d : BSack) : Prop where
  cum : d.cum < 4294967296
  rwnd : d.rwnd < 4294967296
  gaps : ∀ g ∈ d.gaps, g.1 < 65536 ∧ g.2 < 65536
  dups : ∀ g ∈ d.dups, g < 4294967296
def headS (d : BSack) : List UInt8 := enc d.cum 4 ++ (enc d.rwnd 4 ++ (enc d.gaps.length 2 ++ enc d.dups.length 2))
def bodyS (d : BSack) : List UInt8 := headS d ++ (gapsB d.gaps ++ dupsB d.dups)
theorem length_headS (d : BSack) : (headS d).length = 12 := by simp [headS, length_enc]
theorem length_bodyS (d : BSack) : (bodyS d).length = 12 + 4 * d.gaps.length + 4 * d.dups.length := by
  simp [bodyS, length_headS, length_gapsB, length_dupsB]; omega
def parseS (b : List UInt8) : BSack := ⟨num b 0 4, num b 4 4, getG b 12 (num b 8 2), getN b (12 + 4 * num b 8 2) (num b 10 2)⟩
theorem parse_putS (d : BSack) (h : d.Ok) (hg : d.gaps.length < 65536) (hd : d.dups.length < 65536) : parseS (bodyS d) = d := by
  have g1 : num (bodyS d) 0 4 = d.cum := by simp only [bodyS, headS, List.append_assoc]; exact num_put _ 4 _ h.cum
  have g2 : num (bodyS d) 4 4 = d.rwnd := by simp only [bodyS, headS, List.append_assoc]; rw [num_drop, drop_enc]; exact num_put _ 4 _ h.rwnd
  have g3 : num (bodyS d) 8 2 = d.gaps.length := by simp only [bodyS, headS, List.append_assoc]; rw [num_drop, drop_encs _ _ _ _ (by decide), drop_enc]; exact num_put _ 2 _ hg
  have g4 : num (bodyS d) 10 2 = d.dups.length := by simp only [bodyS, headS, List.append_assoc]; rw [num_drop, drop_encs _ _ _ _ (by decide), drop_encs _ _ _ _ (by decide), drop_enc]; exact num_put _ 2 _ hd
  have g5 : getG (bodyS d) 12 d.gaps.length = d.gaps := by
    have := getG_put d.gaps (headS d) (dupsB d.dups) h.gaps
    rwa [length_headS] at this
  have g6 : getN (bodyS d) (12 + 4 * d.gaps.length) d.dups.length = d.dups := by
    have := getN_put d.dups (headS d ++ gapsB d.gaps) [] h.dups
    rw [List.length_append, length_headS, length_gapsB, List.append_nil, List.append_assoc] at this
    exact this
  rw [parseS, g1, g2, g3, g4, g5, g6]
/-- Do gaps rise, each apart from the last and the one ahead? -/
def apartG : Nat → List (Nat × Nat) → Bool
  | _, [] => true
  | last, g :: l => decide (last + 2 ≤ g.1) && decide (g.1 ≤ g.2) && apartG g.2 l

/-! ### What will not come -/
structure BFwd where
  cum : Nat
  skips : List (Nat × Nat)
structure BFwd.Ok (d : BFwd) : Prop where
  cum : d.cum < 4294967296
  skips : ∀ g ∈ d.skips, g.1 < 65536 ∧ g.2 < 65536
def bodyF (d : BFwd) : List UInt8 := enc d.cum 4 ++ gapsB d.skips
def parseF (b : List UInt8) : BFwd := ⟨num b 0 4, getG b 4 ((b.length - 4) / 4)⟩
theorem length_bodyF (d : BFwd) : (bodyF d).length = 4 + 4 * d.skips.length := by simp [bodyF, length_enc, length_gapsB]
theorem parse_putF (d : BFwd) (h : d.Ok) : parseF (bodyF d) = d := by
  have g1 : num (bodyF d) 0 4 = d.cum := num_put _ 4 _ h.cum
  have g2 : getG (bodyF d) 4 d.skips.length = d.skips := by
    have := getG_put d.skips (enc d.cum 4) [] h.skips
    rwa [length_enc, List.append_nil] at this
  rw [parseF, g1, length_bodyF, show (4 + 4 * d.skips.length - 4) / 4 = d.skips.length by omega, g2]

/-! ### Times, numbers -/
def bodyT (t : Nat) : List UInt8 := enc 1 2 ++ (enc 12 2 ++ enc t 8)
theorem length_bodyT (t : Nat) : (bodyT t).length = 12 := by simp [bodyT, length_enc]
theorem parse_putT (t : Nat) (h : t < 18446744073709551616) : num (bodyT t) 4 8 = t := by
  rw [num_drop, bodyT, drop_encs _ _ _ _ (by decide), drop_enc]
  have := num_put t 8 [] h
  rwa [List.append_nil] at this
theorem parse_putC (x : Nat) (h : x < 4294967296) : num (enc x 4) 0 4 = x := by
  have := num_put x 4 [] h
  rwa [List.append_nil] at this
end Go.Proofs.Ytifmhlbeodfpeaa
