/-
  Package bodies, plainly: the chunk of each kind of body; what a chunk says; what is got of what was put.
  SHA-256: plain mathematics, over no program.
-/
import Derived.Test.YtnnkgdkjmmljiaaDoorQ3
namespace Go.Proofs.YtnnkgdkjmmljiaaDoor
open Go.RowKit
set_option linter.unusedVariables false

/-! ### Numbers in bytes -/
theorem num_drop (xs : List UInt8) (a : Nat) : ∀ k, num xs a k = num (xs.drop a) 0 k
  | 0 => rfl
  | k + 1 => by rw [num, num, num_drop xs a k, List.getElem?_drop, Nat.zero_add]
theorem num_left (xs ys : List UInt8) (a : Nat) : ∀ k, a + k ≤ xs.length → num (xs ++ ys) a k = num xs a k
  | 0, _ => rfl
  | k + 1, h => by rw [num, num, num_left xs ys a k (by omega), List.getElem?_append_left (by omega)]
theorem num_encs (x s : Nat) : ∀ k, k ≤ s → num (enc x s) 0 k = x / 256 ^ (s - k) % 256 ^ k
  | 0, _ => by simp [num, Nat.mod_one]
  | k + 1, h => by
    rw [num, num_encs x s k (by omega), Nat.zero_add, get_enc x s k (by omega), Option.getD_some]
    have hb : (byteOf x (s - 1 - k)).toNat = x / 256 ^ (s - (k + 1)) % 256 := by
      have := toNat_byteOf x (s - 1 - k)
      rw [show s - (k + 1) = s - 1 - k by omega]
      omega
    have hd : x / 256 ^ (s - k) = x / 256 ^ (s - (k + 1)) / 256 := by
      rw [show s - k = s - (k + 1) + 1 by omega, Nat.pow_succ, Nat.div_div_eq_div_mul]
    rw [hb, hd, Nat.pow_succ, Nat.mul_comm (256 ^ k) 256]
    rw [Nat.mod_mul]
    omega
/-- What is put first is got. -/
theorem num_put (x s : Nat) (ys : List UInt8) (h : x < 256 ^ s) : num (enc x s ++ ys) 0 s = x := by
  rw [num_left _ _ _ _ (by rw [length_enc]; omega), num_encs x s s (Nat.le_refl _)]
  simp [Nat.mod_eq_of_lt h]
theorem drop_enc (x s : Nat) (ys : List UInt8) : (enc x s ++ ys).drop s = ys := by
  have h : (enc x s).length = s := length_enc x s
  rw [List.drop_append, List.drop_of_length_le (by omega), h, Nat.sub_self]
  rfl
theorem drop_encs (x s a : Nat) (ys : List UInt8) (h : s ≤ a) : (enc x s ++ ys).drop a = ys.drop (a - s) := by
  have hl : (enc x s).length = s := length_enc x s
  rw [List.drop_append, List.drop_of_length_le (by omega), hl, List.nil_append]
/-- The bytes that a number tells are put again. -/
theorem enc_num (xs : List UInt8) : ∀ s, s ≤ xs.length → enc (num xs 0 s) s = xs.take s := by
  intro s h
  apply List.ext_getElem?
  intro j
  rw [List.getElem?_take]
  by_cases hj : j < s
  · rw [if_pos hj, get_enc _ _ _ hj, List.getElem?_eq_getElem (by omega)]
    congr 1
    have key : ∀ (k : Nat), k ≤ s → num xs 0 s / 256 ^ (s - k) = num xs 0 k := by
      intro k hk
      obtain ⟨d, rfl⟩ : ∃ d, s = k + d := ⟨s - k, by omega⟩
      rw [Nat.add_sub_cancel_left]
      clear h hj hk
      induction d with
      | zero => simp
      | succ d ih =>
        rw [← Nat.add_assoc, num, Nat.pow_succ, Nat.mul_comm (256 ^ d) 256, ← Nat.div_div_eq_div_mul]
        have hb := (xs[0 + (k + d)]?.getD 0).toNat_lt
        rw [show (256 * num xs 0 (k + d) + (xs[0 + (k + d)]?.getD 0).toNat) / 256 = num xs 0 (k + d) by omega]
        exact ih
    apply UInt8.toNat_inj.1
    have h1 := toNat_byteOf (num xs 0 s) (s - 1 - j)
    have h2 := key (j + 1) (by omega)
    rw [show s - (j + 1) = s - 1 - j by omega] at h2
    rw [h2, num, Nat.zero_add, List.getElem?_eq_getElem (by omega), Option.getD_some] at h1
    have hb := (xs[j]'(by omega)).toNat_lt
    omega
  · rw [if_neg hj, List.getElem?_eq_none (by rw [length_enc]; omega)]

/-! ### Data -/
structure BData where
  tsn : Nat
  stream : Nat
  ssn : Nat
  un : Bool
  fi : Bool
  la : Bool
  bytes : List UInt8
structure BData.Ok (d : BData) : Prop where
  tsn : d.tsn < 4294967296
  stream : d.stream < 65536
  ssn : d.ssn < 65536
/-- Kind, flags, body. -/
def flagsD (un fi la : Bool) : UInt8 := (if un then 4 else 0) + (if fi then 2 else 0) + (if la then 1 else 0)
def bodyD (d : BData) : List UInt8 := enc d.tsn 4 ++ (enc d.stream 2 ++ (enc d.ssn 2 ++ (enc 0 4 ++ d.bytes)))
def parseD (f : UInt8) (b : List UInt8) : BData := ⟨num b 0 4, num b 4 2, num b 6 2, decide (f &&& 4 ≠ 0), decide (f &&& 2 ≠ 0), decide (f &&& 1 ≠ 0), b.drop 12⟩
theorem parse_ok (f : UInt8) (b : List UInt8) : (parseD f b).Ok := ⟨num_lt b 0 4, num_lt b 4 2, num_lt b 6 2⟩
theorem length_bodyD (d : BData) : (bodyD d).length = 12 + d.bytes.length := by simp [bodyD, length_enc]; omega
theorem parse_put (d : BData) (h : d.Ok) : parseD (flagsD d.un d.fi d.la) (bodyD d) = d := by
  obtain ⟨tsn, stream, ssn, un, fi, la, bytes⟩ := d
  obtain ⟨h1, h2, h3⟩ := h
  simp only at h1 h2 h3
  have g1 : num (bodyD ⟨tsn, stream, ssn, un, fi, la, bytes⟩) 0 4 = tsn := num_put tsn 4 _ h1
  have g2 : num (bodyD ⟨tsn, stream, ssn, un, fi, la, bytes⟩) 4 2 = stream := by rw [num_drop, bodyD, drop_enc]; exact num_put stream 2 _ h2
  have g3 : num (bodyD ⟨tsn, stream, ssn, un, fi, la, bytes⟩) 6 2 = ssn := by rw [num_drop, bodyD, drop_encs _ _ _ _ (by decide), drop_enc]; exact num_put ssn 2 _ h3
  have g4 : (bodyD ⟨tsn, stream, ssn, un, fi, la, bytes⟩).drop 12 = bytes := by
    rw [bodyD, drop_encs _ _ _ _ (by decide), drop_encs _ _ _ _ (by decide), drop_encs _ _ _ _ (by decide), drop_encs _ _ _ _ (by decide)]
    rfl
  have f1 : decide (flagsD un fi la &&& 4 ≠ 0) = un := by cases un <;> cases fi <;> cases la <;> decide
  have f2 : decide (flagsD un fi la &&& 2 ≠ 0) = fi := by cases un <;> cases fi <;> cases la <;> decide
  have f3 : decide (flagsD un fi la &&& 1 ≠ 0) = la := by cases un <;> cases fi <;> cases la <;> decide
  rw [parseD, g1, g2, g3, g4]
  simp only [f1, f2, f3]
/-- Does that chunk say data? -/
def SaysD (k f : UInt8) (b : List UInt8) : Prop := k = 0 ∧ 13 ≤ b.length ∧ flagsD (parseD f b).un (parseD f b).fi (parseD f b).la = f ∧ bodyD (parseD f b) = b
theorem says_putD (d : BData) (h : d.Ok) : SaysD 0 (flagsD d.un d.fi d.la) (bodyD d) ↔ d.bytes ≠ [] := by
  have hp := parse_put d h
  rw [SaysD, hp, length_bodyD]
  constructor
  · rintro ⟨_, h2, _⟩ h0
    rw [h0] at h2
    simp at h2
  · intro h0
    have : 0 < d.bytes.length := List.length_pos_iff.2 h0
    exact ⟨rfl, by omega, rfl, rfl⟩

/-! ### Beginnings -/
structure BInit where
  tag : Nat
  rwnd : Nat
  out : Nat
  in_ : Nat
  tsn : Nat
  cookie : List UInt8
structure BInit.Ok (d : BInit) : Prop where
  tag : d.tag < 4294967296
  rwnd : d.rwnd < 4294967296
  out : d.out < 65536
  in_ : d.in_ < 65536
  tsn : d.tsn < 4294967296
def headI (d : BInit) : List UInt8 := enc d.tag 4 ++ (enc d.rwnd 4 ++ (enc d.out 2 ++ (enc d.in_ 2 ++ enc d.tsn 4)))
def bodyI (k : UInt8) (d : BInit) : List UInt8 := if k = 2 then pd (headI d ++ (enc 7 2 ++ (enc (4 + d.cookie.length) 2 ++ d.cookie))) else headI d
def parseI (k : UInt8) (b : List UInt8) : BInit := ⟨num b 0 4, num b 4 4, num b 8 2, num b 10 2, num b 12 4, if k = 2 then (b.drop 20).take (num b 18 2 - 4) else []⟩
theorem parseI_ok (k : UInt8) (b : List UInt8) : (parseI k b).Ok := ⟨num_lt b 0 4, num_lt b 4 4, num_lt b 8 2, num_lt b 10 2, num_lt b 12 4⟩
theorem length_headI (d : BInit) : (headI d).length = 16 := by simp [headI, length_enc]
theorem nums_headI (d : BInit) (h : d.Ok) (ys : List UInt8) : num (headI d ++ ys) 0 4 = d.tag ∧ num (headI d ++ ys) 4 4 = d.rwnd ∧ num (headI d ++ ys) 8 2 = d.out ∧ num (headI d ++ ys) 10 2 = d.in_ ∧ num (headI d ++ ys) 12 4 = d.tsn := by
  simp only [headI, List.append_assoc]
  refine ⟨num_put _ 4 _ h.tag, ?_, ?_, ?_, ?_⟩
  · rw [num_drop, drop_enc]; exact num_put _ 4 _ h.rwnd
  · rw [num_drop, drop_encs _ _ _ _ (by decide), drop_enc]; exact num_put _ 2 _ h.out
  · rw [num_drop, drop_encs _ _ _ _ (by decide), drop_encs _ _ _ _ (by decide), drop_enc]; exact num_put _ 2 _ h.in_
  · rw [num_drop, drop_encs _ _ _ _ (by decide), drop_encs _ _ _ _ (by decide), drop_encs _ _ _ _ (by decide), drop_enc]; exact num_put _ 4 _ h.tsn
theorem drop_headI (d : BInit) (ys : List UInt8) (a : Nat) (h : 16 ≤ a) : (headI d ++ ys).drop a = ys.drop (a - 16) := by
  rw [List.drop_append, List.drop_of_length_le (by rw [length_headI]; exact h), length_headI, List.nil_append]
/-- The tail of a cookie's parameter. -/
theorem bodyI_ack (d : BInit) : bodyI 2 d = headI d ++ (enc 7 2 ++ (enc (4 + d.cookie.length) 2 ++ (d.cookie ++ List.replicate (up4 d.cookie.length - d.cookie.length) 0))) := by
  have hl : (headI d ++ (enc 7 2 ++ (enc (4 + d.cookie.length) 2 ++ d.cookie))).length = 20 + d.cookie.length := by simp [length_headI, length_enc]; omega
  have hu : up4 (20 + d.cookie.length) - (20 + d.cookie.length) = up4 d.cookie.length - d.cookie.length := by unfold up4; omega
  rw [bodyI, if_pos rfl, pd, hl, hu]
  simp [List.append_assoc]
theorem length_bodyI (k : UInt8) (d : BInit) : (bodyI k d).length = if k = 2 then 20 + up4 d.cookie.length else 16 := by
  by_cases h : k = 2
  · subst h
    have := up4_bd d.cookie.length
    rw [if_pos rfl, bodyI_ack]
    simp [length_headI, length_enc]
    omega
  · rw [if_neg h, bodyI, if_neg h, length_headI]
theorem parse_putI (k : UInt8) (d : BInit) (h : d.Ok) (hc : k = 2 → d.cookie.length ≤ 65531) : parseI k (bodyI k d) = if k = 2 then d else { d with cookie := [] } := by
  by_cases hk : k = 2
  · subst hk
    rw [if_pos rfl, parseI, bodyI_ack, if_pos rfl]
    obtain ⟨g1, g2, g3, g4, g5⟩ := nums_headI d h (enc 7 2 ++ (enc (4 + d.cookie.length) 2 ++ (d.cookie ++ List.replicate (up4 d.cookie.length - d.cookie.length) 0)))
    have g6 : num (headI d ++ (enc 7 2 ++ (enc (4 + d.cookie.length) 2 ++ (d.cookie ++ List.replicate (up4 d.cookie.length - d.cookie.length) 0)))) 18 2 = 4 + d.cookie.length := by
      rw [num_drop, drop_headI _ _ _ (by decide), drop_enc]
      exact num_put _ 2 _ (by have := hc rfl; omega)
    rw [g1, g2, g3, g4, g5, g6, drop_headI _ _ _ (by decide), drop_encs _ _ _ _ (by decide), drop_encs _ _ _ _ (by decide)]
    have : (List.drop (20 - 16 - 2 - 2) (d.cookie ++ List.replicate (up4 d.cookie.length - d.cookie.length) 0)).take (4 + d.cookie.length - 4) = d.cookie := by
      rw [show 20 - 16 - 2 - 2 = 0 from rfl, List.drop_zero, Nat.add_sub_cancel_left, List.take_left]
    rw [this]
  · rw [if_neg hk, parseI, bodyI, if_neg hk, if_neg hk]
    obtain ⟨g1, g2, g3, g4, g5⟩ := nums_headI d h []
    rw [List.append_nil] at g1 g2 g3 g4 g5
    rw [g1, g2, g3, g4, g5]

/-! ### Acknowledgements -/
def encG (g : Nat × Nat) : List UInt8 := enc g.1 2 ++ enc g.2 2
def gapsB (l : List (Nat × Nat)) : List UInt8 := (l.map encG).flatten
def dupsB (l : List Nat) : List UInt8 := (l.map fun x => enc x 4).flatten
theorem length_gapsB : ∀ l : List (Nat × Nat), (gapsB l).length = 4 * l.length
  | [] => rfl
  | g :: l => by
    have := length_gapsB l
    simp only [gapsB, List.map_cons, List.flatten_cons, List.length_append, List.length_cons] at this ⊢
    rw [this, encG, List.length_append, length_enc, length_enc]
    omega
theorem length_dupsB : ∀ l : List Nat, (dupsB l).length = 4 * l.length
  | [] => rfl
  | g :: l => by
    have := length_dupsB l
    simp only [dupsB, List.map_cons, List.flatten_cons, List.length_append, List.length_cons] at this ⊢
    rw [this, length_enc]
    omega
/-- Entries of two numbers, as many as told. -/
def getG (b : List UInt8) : Nat → Nat → List (Nat × Nat)
  | _, 0 => []
  | a, n + 1 => (num b a 2, num b (a + 2) 2) :: getG b (a + 4) n
def getN (b : List UInt8) : Nat → Nat → List Nat
  | _, 0 => []
  | a, n + 1 => num b a 4 :: getN b (a + 4) n
theorem length_getG (b : List UInt8) : ∀ n a, (getG b a n).length = n
  | 0, _ => rfl
  | n + 1, a => by rw [getG, List.length_cons, length_getG b n]
theorem length_getN (b : List UInt8) : ∀ n a, (getN b a n).length = n
  | 0, _ => rfl
  | n + 1, a => by rw [getN, List.length_cons, length_getN b n]
theorem getG_snoc (b : List UInt8) : ∀ n a, getG b a (n + 1) = getG b a n ++ [(num b (a + 4 * n) 2, num b (a + 4 * n + 2) 2)]
  | 0, a => rfl
  | n + 1, a => by
    rw [getG, getG_snoc b n (a + 4), getG, List.cons_append]
    congr 4
    all_goals congr 1; omega
theorem getN_snoc (b : List UInt8) : ∀ n a, getN b a (n + 1) = getN b a n ++ [num b (a + 4 * n) 4]
  | 0, a => rfl
  | n + 1, a => by
    rw [getN, getN_snoc b n (a + 4), getN, List.cons_append]
    congr 3
    congr 1; omega
theorem num_shift (xs ys : List UInt8) (a k : Nat) : num (xs ++ ys) (xs.length + a) k = num ys a k := by
  rw [num_drop, num_drop ys a k, List.drop_append, List.drop_of_length_le (by omega), Nat.add_sub_cancel_left, List.nil_append]
theorem getG_put : ∀ (l : List (Nat × Nat)) (xs ys : List UInt8), (∀ g ∈ l, g.1 < 65536 ∧ g.2 < 65536) → getG (xs ++ (gapsB l ++ ys)) xs.length l.length = l
  | [], _, _, _ => rfl
  | g :: l, xs, ys, h => by
    have hg := h g List.mem_cons_self
    have ih := getG_put l (xs ++ encG g) ys (fun x hx => h x (List.mem_cons_of_mem _ hx))
    have he : xs ++ (gapsB (g :: l) ++ ys) = (xs ++ encG g) ++ (gapsB l ++ ys) := by simp [gapsB, List.append_assoc]
    have hl : (xs ++ encG g).length = xs.length + 4 := by simp [encG, length_enc]
    rw [hl, ← he] at ih
    rw [List.length_cons, getG, ih]
    congr 1
    have e1 : xs ++ (gapsB (g :: l) ++ ys) = xs ++ (enc g.1 2 ++ (enc g.2 2 ++ (gapsB l ++ ys))) := by simp [gapsB, encG, List.append_assoc]
    have h1 := num_shift xs (enc g.1 2 ++ (enc g.2 2 ++ (gapsB l ++ ys))) 0 2
    have h2 := num_shift xs (enc g.1 2 ++ (enc g.2 2 ++ (gapsB l ++ ys))) 2 2
    rw [Nat.add_zero] at h1
    rw [e1, h1, h2, num_put _ 2 _ hg.1, num_drop, drop_enc, num_put _ 2 _ hg.2]
theorem getN_put : ∀ (l : List Nat) (xs ys : List UInt8), (∀ g ∈ l, g < 4294967296) → getN (xs ++ (dupsB l ++ ys)) xs.length l.length = l
  | [], _, _, _ => rfl
  | g :: l, xs, ys, h => by
    have hg := h g List.mem_cons_self
    have ih := getN_put l (xs ++ enc g 4) ys (fun x hx => h x (List.mem_cons_of_mem _ hx))
    have he : xs ++ (dupsB (g :: l) ++ ys) = (xs ++ enc g 4) ++ (dupsB l ++ ys) := by simp [dupsB, List.append_assoc]
    have hl : (xs ++ enc g 4).length = xs.length + 4 := by simp [length_enc]
    rw [hl, ← he] at ih
    rw [List.length_cons, getN, ih]
    congr 1
    have e1 : xs ++ (dupsB (g :: l) ++ ys) = xs ++ (enc g 4 ++ (dupsB l ++ ys)) := by simp [dupsB, List.append_assoc]
    have h1 := num_shift xs (enc g 4 ++ (dupsB l ++ ys)) 0 4
    rw [Nat.add_zero] at h1
    rw [e1, h1, num_put _ 4 _ hg]
structure BSack where
  cum : Nat
  rwnd : Nat
  gaps : List (Nat × Nat)
  dups : List Nat
structure BSack.Ok (d : BSack) : Prop where
  cum : d.cum < 4294967296
  rwnd : d.rwnd < 4294967296
  gaps : ∀ g ∈ d.gaps, g.1 < 65536 ∧ g.2 < 65536
  dups : ∀ g ∈ d.dups, g < 4294967296
def headS (d : BSack) : List UInt8 := enc d.cum 4 ++ (enc d.rwnd 4 ++ (enc d.gaps.length 2 ++ enc d.dups.length 2))
def bodyS (d : BSack) : List UInt8 := headS d ++ (gapsB d.gaps ++ dupsB d.dups)
theorem length_headS (d : BSack) : (headS d).length = 12 := by simp [headS, length_enc]
theorem length_bodyS (d : BSack) : (bodyS d).length = 12 + 4 * d.gaps.length + 4 * d.dups.length := by
  simp [bodyS, length_headS, length_gapsB, length_dupsB]; omega
def parseS (b : List UInt8) : BSack := ⟨num b 0 4, num b 4 4, getG b 12 (num b 8 2), getN b (12 + 4 * num b 8 2) (num b 10 2)⟩
theorem parse_putS (d : BSack) (h : d.Ok) (hg : d.gaps.length < 65536) (hd : d.dups.length < 65536) : parseS (bodyS d) = d := by
  have g1 : num (bodyS d) 0 4 = d.cum := by simp only [bodyS, headS, List.append_assoc]; exact num_put _ 4 _ h.cum
  have g2 : num (bodyS d) 4 4 = d.rwnd := by simp only [bodyS, headS, List.append_assoc]; rw [num_drop, drop_enc]; exact num_put _ 4 _ h.rwnd
  have g3 : num (bodyS d) 8 2 = d.gaps.length := by simp only [bodyS, headS, List.append_assoc]; rw [num_drop, drop_encs _ _ _ _ (by decide), drop_enc]; exact num_put _ 2 _ hg
  have g4 : num (bodyS d) 10 2 = d.dups.length := by simp only [bodyS, headS, List.append_assoc]; rw [num_drop, drop_encs _ _ _ _ (by decide), drop_encs _ _ _ _ (by decide), drop_enc]; exact num_put _ 2 _ hd
  have g5 : getG (bodyS d) 12 d.gaps.length = d.gaps := by
    have := getG_put d.gaps (headS d) (dupsB d.dups) h.gaps
    rwa [length_headS] at this
  have g6 : getN (bodyS d) (12 + 4 * d.gaps.length) d.dups.length = d.dups := by
    have := getN_put d.dups (headS d ++ gapsB d.gaps) [] h.dups
    rw [List.length_append, length_headS, length_gapsB, List.append_nil, List.append_assoc] at this
    exact this
  rw [parseS, g1, g2, g3, g4, g5, g6]
/-- Do gaps rise, each apart from the last and the one ahead? -/
def apartG : Nat → List (Nat × Nat) → Bool
  | _, [] => true
  | last, g :: l => decide (last + 2 ≤ g.1) && decide (g.1 ≤ g.2) && apartG g.2 l

/-! ### What will not come -/
structure BFwd where
  cum : Nat
  skips : List (Nat × Nat)
structure BFwd.Ok (d : BFwd) : Prop where
  cum : d.cum < 4294967296
  skips : ∀ g ∈ d.skips, g.1 < 65536 ∧ g.2 < 65536
def bodyF (d : BFwd) : List UInt8 := enc d.cum 4 ++ gapsB d.skips
def parseF (b : List UInt8) : BFwd := ⟨num b 0 4, getG b 4 ((b.length - 4) / 4)⟩
theorem length_bodyF (d : BFwd) : (bodyF d).length = 4 + 4 * d.skips.length := by simp [bodyF, length_enc, length_gapsB]
theorem parse_putF (d : BFwd) (h : d.Ok) : parseF (bodyF d) = d := by
  have g1 : num (bodyF d) 0 4 = d.cum := num_put _ 4 _ h.cum
  have g2 : getG (bodyF d) 4 d.skips.length = d.skips := by
    have := getG_put d.skips (enc d.cum 4) [] h.skips
    rwa [length_enc, List.append_nil] at this
  rw [parseF, g1, length_bodyF, show (4 + 4 * d.skips.length - 4) / 4 = d.skips.length by omega, g2]

/-! ### Times, numbers -/
def bodyT (t : Nat) : List UInt8 := enc 1 2 ++ (enc 12 2 ++ enc t 8)
theorem length_bodyT (t : Nat) : (bodyT t).length = 12 := by simp [bodyT, length_enc]
theorem parse_putT (t : Nat) (h : t < 18446744073709551616) : num (bodyT t) 4 8 = t := by
  rw [num_drop, bodyT, drop_encs _ _ _ _ (by decide), drop_enc]
  have := num_put t 8 [] h
  rwa [List.append_nil] at this
theorem parse_putC (x : Nat) (h : x < 4294967296) : num (enc x 4) 0 4 = x := by
  have := num_put x 4 [] h
  rwa [List.append_nil] at this
end Go.Proofs.YtnnkgdkjmmljiaaDoor

namespace Go.Proofs.YtnnkgdkjmmljiaaDoor
set_option linter.unusedVariables false

abbrev R := BitVec 32
def ror (x : R) (n : Nat) : R := (x >>> n) ||| (x <<< (32 - n))
def dwn (x : R) (n : Nat) : R := x >>> n
def low0 (x : R) : R := ror x 7 ^^^ ror x 18 ^^^ dwn x 3
def low1 (x : R) : R := ror x 17 ^^^ ror x 19 ^^^ dwn x 10
def up0 (a : R) : R := ror a 2 ^^^ ror a 13 ^^^ ror a 22
def up1 (e : R) : R := ror e 6 ^^^ ror e 11 ^^^ ror e 25
def chs (e f g : R) : R := (e &&& f) ^^^ (~~~ e &&& g)
def maj (a b c : R) : R := (a &&& b) ||| (a &&& c) ||| (b &&& c)
theorem maj_xor (a b c : R) : (a &&& b) ^^^ (a &&& c) ^^^ (b &&& c) = maj a b c := by
  unfold maj
  ext i hi
  simp
  cases a[i] <;> cases b[i] <;> cases c[i] <;> rfl

def K : List R := [0x428a2f98#32, 0x71374491#32, 0xb5c0fbcf#32, 0xe9b5dba5#32, 0x3956c25b#32, 0x59f111f1#32, 0x923f82a4#32, 0xab1c5ed5#32,
  0xd807aa98#32, 0x12835b01#32, 0x243185be#32, 0x550c7dc3#32, 0x72be5d74#32, 0x80deb1fe#32, 0x9bdc06a7#32, 0xc19bf174#32,
  0xe49b69c1#32, 0xefbe4786#32, 0x0fc19dc6#32, 0x240ca1cc#32, 0x2de92c6f#32, 0x4a7484aa#32, 0x5cb0a9dc#32, 0x76f988da#32,
  0x983e5152#32, 0xa831c66d#32, 0xb00327c8#32, 0xbf597fc7#32, 0xc6e00bf3#32, 0xd5a79147#32, 0x06ca6351#32, 0x14292967#32,
  0x27b70a85#32, 0x2e1b2138#32, 0x4d2c6dfc#32, 0x53380d13#32, 0x650a7354#32, 0x766a0abb#32, 0x81c2c92e#32, 0x92722c85#32,
  0xa2bfe8a1#32, 0xa81a664b#32, 0xc24b8b70#32, 0xc76c51a3#32, 0xd192e819#32, 0xd6990624#32, 0xf40e3585#32, 0x106aa070#32,
  0x19a4c116#32, 0x1e376c08#32, 0x2748774c#32, 0x34b0bcb5#32, 0x391c0cb3#32, 0x4ed8aa4a#32, 0x5b9cca4f#32, 0x682e6ff3#32,
  0x748f82ee#32, 0x78a5636f#32, 0x84c87814#32, 0x8cc70208#32, 0x90befffa#32, 0xa4506ceb#32, 0xbef9a3f7#32, 0xc67178f2#32]
def H0 : List R := [0x6a09e667#32, 0xbb67ae85#32, 0x3c6ef372#32, 0xa54ff53a#32, 0x510e527f#32, 0x9b05688c#32, 0x1f83d9ab#32, 0x5be0cd19#32]
theorem length_K : K.length = 64 := rfl
theorem length_H0 : H0.length = 8 := rfl

/-- The word at a place. -/
def at_ (ws : List R) (i : Nat) : R := ws.getD i 0
theorem at_get {ws : List R} {i : Nat} (h : i < ws.length) : ws[i]? = some (at_ ws i) := by unfold at_; rw [List.getD_eq_getElem?_getD, List.getElem?_eq_getElem h]; rfl

/-- Four bytes as a word. -/
def be4 (x0 x1 x2 x3 : UInt8) : R := BitVec.ofNat 32 (x0.toNat * 2 ^ 24 + x1.toNat * 2 ^ 16 + x2.toNat * 2 ^ 8 + x3.toNat)
def wd (bs : List UInt8) (t : Nat) : R := be4 (bs.getD (4 * t) 0) (bs.getD (4 * t + 1) 0) (bs.getD (4 * t + 2) 0) (bs.getD (4 * t + 3) 0)
/-- The next word. -/
def nxt (ws : List R) (t : Nat) : R := at_ ws (t - 16) + at_ ws (t - 7) + low0 (at_ ws (t - 15)) + low1 (at_ ws (t - 2))
/-- The words of a block, t of them laid. -/
def sch (bs : List UInt8) : Nat → List R
  | 0 => List.replicate 64 0
  | t + 1 => (sch bs t).set t (if t < 16 then wd bs t else nxt (sch bs t) t)
theorem length_sch (bs : List UInt8) (t : Nat) : (sch bs t).length = 64 := by
  induction t with
  | zero => rfl
  | succ t ih => rw [sch, List.length_set, ih]
theorem sch_low {bs : List UInt8} {t : Nat} (h : t < 16) : sch bs (t + 1) = (sch bs t).set t (wd bs t) := by rw [sch, if_pos h]
theorem sch_high {bs : List UInt8} {t : Nat} (h : ¬ t < 16) : sch bs (t + 1) = (sch bs t).set t (nxt (sch bs t) t) := by rw [sch, if_neg h]

/-- One step of the eight. -/
def rnd (k w : R) : List R → List R
  | [a, b, c, d, e, f, g, h] => [(h + up1 e + chs e f g + k + w) + (up0 a + maj a b c), a, b, c, d + (h + up1 e + chs e f g + k + w), e, f, g]
  | vs => vs
theorem length_rnd (k w : R) (vs : List R) (h : vs.length = 8) : (rnd k w vs).length = 8 := by
  match vs, h with
  | [a, b, c, d, e, f, g, h], _ => rfl
/-- The eight behind t steps. -/
def rds (vs ws : List R) : Nat → List R
  | 0 => vs
  | t + 1 => rnd (at_ K t) (at_ ws t) (rds vs ws t)
theorem length_rds (vs ws : List R) (t : Nat) (h : vs.length = 8) : (rds vs ws t).length = 8 := by
  induction t with
  | zero => exact h
  | succ t ih => exact length_rnd _ _ _ ih
theorem eight {vs : List R} (h : vs.length = 8) : ∃ a b c d e f g h, vs = [a, b, c, d, e, f, g, h] := by
  match vs, h with
  | [a, b, c, d, e, f, g, h], _ => exact ⟨a, b, c, d, e, f, g, h, rfl⟩

/-- Two rows, added. -/
def add (xs ys : List R) : List R := List.zipWith (· + ·) xs ys
theorem length_add {xs ys : List R} {n : Nat} (h : xs.length = n) (h' : ys.length = n) : (add xs ys).length = n := by simp [add, h, h']
theorem add_assoc (xs : List R) : ∀ ys zs, add (add xs ys) zs = add xs (add ys zs) := by
  induction xs with
  | nil => intro ys zs; simp [add]
  | cons x xs ih =>
    intro ys zs
    cases ys with
    | nil => simp [add]
    | cons y ys =>
      cases zs with
      | nil => simp [add]
      | cons z zs =>
        have := ih ys zs
        simp only [add, List.zipWith_cons_cons, List.cons.injEq] at this ⊢
        exact ⟨BitVec.add_assoc _ _ _, this⟩
theorem at_add {xs ys : List R} {i : Nat} (h : i < xs.length) (h' : i < ys.length) : at_ (add xs ys) i = at_ xs i + at_ ys i := by
  simp [at_, add, List.getD_eq_getElem?_getD, List.getElem?_zipWith, List.getElem?_eq_getElem h, List.getElem?_eq_getElem h']

/-- Two rows, added one by one. -/
def adl (xs ys : List R) : Nat → List R
  | 0 => xs
  | k + 1 => (adl xs ys k).set k (at_ (adl xs ys k) k + at_ ys k)
theorem length_adl (xs ys : List R) (k : Nat) : (adl xs ys k).length = xs.length := by
  induction k with
  | zero => rfl
  | succ k ih => rw [adl, List.length_set, ih]
theorem adl_end {xs ys : List R} (h : xs.length = 8) (h' : ys.length = 8) : adl xs ys 8 = add xs ys := by
  obtain ⟨a, b, c, d, e, f, g, i, rfl⟩ := eight h
  obtain ⟨a', b', c', d', e', f', g', i', rfl⟩ := eight h'
  rfl

/-- What a block makes of the eight. -/
def cmp (hs : List R) (bs : List UInt8) : List R := rds hs (sch bs 64) 64
theorem length_cmp (hs : List R) (bs : List UInt8) (h : hs.length = 8) : (cmp hs bs).length = 8 := length_rds _ _ _ h
/-- The eight behind n blocks. -/
def hsn (xs : List UInt8) : Nat → List R
  | 0 => H0
  | n + 1 => add (hsn xs n) (cmp (hsn xs n) ((xs.drop (64 * n)).take 64))
theorem length_hsn (xs : List UInt8) (n : Nat) : (hsn xs n).length = 8 := by
  induction n with
  | zero => rfl
  | succ n ih => exact length_add ih (length_cmp _ _ ih)
theorem hsn_append (xs ys : List UInt8) (n : Nat) (h : 64 * n ≤ xs.length) : hsn (xs ++ ys) n = hsn xs n := by
  induction n with
  | zero => rfl
  | succ n ih =>
    rw [hsn, hsn, ih (by omega), List.drop_append_of_le_length (by omega), List.take_append_of_le_length (by simp; omega)]

/-- A number as bytes, the greatest first. -/
def byt (n : Nat) : UInt8 := UInt8.ofNat n
def be8 (n : Nat) : List UInt8 := [byt (n / 2 ^ 56), byt (n / 2 ^ 48), byt (n / 2 ^ 40), byt (n / 2 ^ 32), byt (n / 2 ^ 24), byt (n / 2 ^ 16), byt (n / 2 ^ 8), byt n]
def zer (n : Nat) : Nat := (119 - n % 64) % 64
def pad (n : Nat) : List UInt8 := 128 :: List.replicate (zer n) 0 ++ be8 (8 * n)
theorem zer_lt (n : Nat) : zer n < 64 := by unfold zer; omega
theorem zer_len (n : Nat) : (n + 1 + zer n) % 64 = 56 := by unfold zer; omega
theorem length_pad (n : Nat) : (pad n).length = zer n + 9 := by simp [pad, be8]
theorem length_padded (xs : List UInt8) : (xs ++ pad xs.length).length % 64 = 0 := by
  rw [List.length_append, length_pad]
  have := zer_len xs.length
  omega
/-- The eight of bytes, padded. -/
def fin (xs : List UInt8) : List R := hsn (xs ++ pad xs.length) ((xs ++ pad xs.length).length / 64)
theorem length_fin (xs : List UInt8) : (fin xs).length = 8 := length_hsn _ _

/-- A word's bytes, laid at a place. -/
def putw (ys : List UInt8) (o : Nat) (x : R) : List UInt8 :=
  (((ys.set o (byt (x.toNat / 2 ^ 24))).set (o + 1) (byt (x.toNat / 2 ^ 16))).set (o + 2) (byt (x.toNat / 2 ^ 8))).set (o + 3) (byt x.toNat)
theorem length_putw (ys : List UInt8) (o : Nat) (x : R) : (putw ys o x).length = ys.length := by simp [putw]
/-- The bytes of i words, laid. -/
def out (hs : List R) : Nat → List UInt8
  | 0 => List.replicate 32 0
  | i + 1 => putw (out hs i) (4 * i) (at_ hs i)
theorem length_out (hs : List R) (i : Nat) : (out hs i).length = 32 := by
  induction i with
  | zero => rfl
  | succ i ih => rw [out, length_putw, ih]
/-- Byte by byte. -/
def out1 (hs : List R) : Nat → List UInt8
  | 0 => List.replicate 32 0
  | i + 1 => (out1 hs i).set i (byt ((at_ hs (i / 4)).toNat / 2 ^ (24 - 8 * (i % 4))))
theorem length_out1 (hs : List R) (i : Nat) : (out1 hs i).length = 32 := by
  induction i with
  | zero => rfl
  | succ i ih => rw [out1, List.length_set, ih]
theorem out_out1 (hs : List R) (h : hs.length = 8) : out1 hs 32 = out hs 8 := by
  match hs, h with
  | [a, b, c, d, e, f, g, h], _ =>
    simp [out1, out, putw, at_, List.replicate, List.set]
/-- THE DIGEST. -/
def dig (xs : List UInt8) : List UInt8 := out (fin xs) 8
theorem length_dig (xs : List UInt8) : (dig xs).length = 32 := length_out _ _

theorem abc0 : (dig [97, 98, 99])[0]? = some 0xba := by decide +kernel
theorem abc1 : (dig [97, 98, 99])[1]? = some 0x78 := by decide +kernel
theorem abc31 : (dig [97, 98, 99])[31]? = some 0xad := by decide +kernel
end Go.Proofs.YtnnkgdkjmmljiaaDoor
