/-
  The register of CRC-32C, bit by bit: plain mathematics, over no program.
  Package packet, plainly: the bytes of a packet; which packet any bytes are.
-/
import Derived.Test.YtifmhlbeodfpeaaQ4
import Derived.Test.YtifmhlbeodfpeaaQ5
namespace Go.Proofs.Ytifmhlbeodfpeaa
set_option linter.unusedVariables false

abbrev R := BitVec 32
/-- The divisor, its highest bit lowest. -/
def fb : R := 0x82f63b78#32
/-- A bit as a register. -/
def bitv (b : Bool) : R := if b then 1#32 else 0#32
/-- The divisor, or nothing. -/
def msk (b : Bool) : R := if b then fb else 0#32
theorem msk_xor (a b : Bool) : msk (a ^^ b) = msk a ^^^ msk b := by cases a <;> cases b <;> decide
theorem msk_top (b : Bool) : (msk b)[31] = b := by cases b <;> decide
/-- The register behind a bit. -/
def stp (r : R) (b : Bool) : R := (r >>> 1) ^^^ msk (r.getLsbD 0 ^^ b)

theorem stp_xor (r s : R) (a b : Bool) : stp (r ^^^ s) (a ^^ b) = stp r a ^^^ stp s b := by
  unfold stp
  rw [BitVec.ushiftRight_xor_distrib, BitVec.getLsbD_xor, show ((r.getLsbD 0 ^^ s.getLsbD 0) ^^ (a ^^ b)) = ((r.getLsbD 0 ^^ a) ^^ (s.getLsbD 0 ^^ b)) by cases r.getLsbD 0 <;> cases s.getLsbD 0 <;> cases a <;> cases b <;> rfl, msk_xor]
  ac_rfl

/-- The step, back. -/
def unstp (r : R) (b : Bool) : R := ((r ^^^ msk (r.getLsbD 31)) <<< 1) ||| bitv (r.getLsbD 31 ^^ b)

theorem bitv_high (c : Bool) (i : Nat) : (bitv c).getLsbD (i + 1) = false := by cases c <;> simp [bitv, BitVec.getLsbD_one]
theorem bitv_low (c : Bool) : (bitv c).getLsbD 0 = c := by cases c <;> simp [bitv]
theorem stp_top (r : R) (b : Bool) : (stp r b).getLsbD 31 = (r.getLsbD 0 ^^ b) := by
  unfold stp
  rw [BitVec.getLsbD_xor, BitVec.getLsbD_eq_getElem (show 31 < 32 by omega), BitVec.getLsbD_eq_getElem (show 31 < 32 by omega), msk_top]
  simp
theorem unstp_low (r : R) (b : Bool) : (unstp r b).getLsbD 0 = (r.getLsbD 31 ^^ b) := by
  unfold unstp
  rw [BitVec.getLsbD_or, bitv_low]
  simp
theorem unstp_stp (r : R) (b : Bool) : unstp (stp r b) b = r := by
  have ht := stp_top r b
  unfold unstp
  rw [ht]
  apply BitVec.eq_of_getLsbD_eq
  intro i hi
  rw [BitVec.getLsbD_or]
  cases i with
  | zero =>
    rw [bitv_low]
    simp
  | succ i =>
    rw [bitv_high, Bool.or_false]
    unfold stp
    have h1 : i < 32 := by omega
    simp [Nat.add_comm 1 i, BitVec.xor_assoc, hi]
theorem stp_unstp (r : R) (b : Bool) : stp (unstp r b) b = r := by
  have hl := unstp_low r b
  unfold stp
  rw [hl, show ((r.getLsbD 31 ^^ b) ^^ b) = r.getLsbD 31 by cases r.getLsbD 31 <;> cases b <;> rfl]
  unfold unstp
  apply BitVec.eq_of_getLsbD_eq
  intro i hi
  rw [BitVec.getLsbD_xor, BitVec.getLsbD_ushiftRight, BitVec.getLsbD_or, Nat.add_comm 1 i, bitv_high, Bool.or_false]
  rcases Nat.lt_or_ge i 31 with h | h
  · have h1 : i + 1 < 32 := by omega
    rw [BitVec.getLsbD_shiftLeft]
    simp [h1]
  · obtain rfl : i = 31 := by omega
    rw [BitVec.getLsbD_eq_getElem (show 31 < 32 by omega) (x := msk _), msk_top]
    simp

/-- The register behind n bits. -/
def reg (f : Nat → Bool) (r : R) : Nat → R
  | 0 => r
  | n + 1 => stp (reg f r n) (f n)

theorem reg_xor (f g : Nat → Bool) (r s : R) (n : Nat) : reg (fun i => f i ^^ g i) (r ^^^ s) n = reg f r n ^^^ reg g s n := by
  induction n with
  | zero => rfl
  | succ n ih => rw [reg, reg, reg, ih, stp_xor]
theorem reg_congr {f g : Nat → Bool} (r : R) (n : Nat) (h : ∀ i, i < n → f i = g i) : reg f r n = reg g r n := by
  induction n with
  | zero => rfl
  | succ n ih => rw [reg, reg, ih (fun i hi => h i (by omega)), h n (by omega)]
theorem reg_add (f : Nat → Bool) (r : R) (n m : Nat) : reg f r (n + m) = reg (fun i => f (n + i)) (reg f r n) m := by
  induction m with
  | zero => rfl
  | succ m ih => rw [← Nat.add_assoc, reg, reg, ih]
theorem reg_inj (f : Nat → Bool) (r s : R) (n : Nat) (h : reg f r n = reg f s n) : r = s := by
  induction n with
  | zero => exact h
  | succ n ih =>
    apply ih
    have := congrArg (fun x => unstp x (f n)) h
    simpa [reg, unstp_stp] using this
theorem reg_zero (n : Nat) : reg (fun _ => false) 0#32 n = 0#32 := by
  induction n with
  | zero => rfl
  | succ n ih => rw [reg, ih]; decide
/-- A register whose own bits come in is empty behind them. -/
theorem reg_own (x : R) (n : Nat) : reg (fun i => x.getLsbD i) x n = x >>> n := by
  induction n with
  | zero => rfl
  | succ n ih =>
    rw [reg, ih]
    unfold stp
    simp [BitVec.shiftRight_add, msk]
theorem reg_own32 (x : R) : reg (fun i => x.getLsbD i) x 32 = 0#32 := by
  rw [reg_own]
  ext i hi
  simp
/-- 32 bits that come in change the register as if they had stood in it. -/
theorem reg_word (x r : R) : reg (fun i => x.getLsbD i) r 32 = reg (fun _ => false) (r ^^^ x) 32 := by
  have h := reg_xor (fun i => x.getLsbD i) (fun _ => false) x (r ^^^ x) 32
  rw [reg_own32] at h
  have e1 : x ^^^ (r ^^^ x) = r := by ext i hi; simp; cases x[i] <;> cases r[i] <;> rfl
  have e2 : (fun i => x.getLsbD i ^^ false) = fun i => x.getLsbD i := by funext i; simp
  rw [e1, e2] at h
  rw [h]
  simp
/-- Any bits are a word's. -/
theorem word_of (g : Nat → Bool) : ∀ n : Nat, ∃ x : BitVec n, ∀ i, i < n → x.getLsbD i = g i := by
  intro n
  induction n with
  | zero => exact ⟨0#0, fun i hi => absurd hi (by omega)⟩
  | succ n ih =>
    obtain ⟨x, hx⟩ := ih
    refine ⟨BitVec.cons (g n) x, fun i hi => ?_⟩
    rw [BitVec.getLsbD_cons]
    split
    · subst_vars; rfl
    · exact hx i (by omega)
theorem reg_none (d : Nat → Bool) (n : Nat) (h : ∀ i, i < n → d i = false) : reg d 0#32 n = 0#32 := by
  rw [reg_congr 0#32 n (g := fun _ => false) h, reg_zero]
/-- A burst leaves something in the register. -/
theorem reg_burst (d : Nat → Bool) (f n : Nat) (hf : d f = true) (hfn : f < n) (hlo : ∀ i, i < f → d i = false) (hhi : ∀ i, f + 32 ≤ i → d i = false) (hn : ∀ i, n ≤ i → d i = false) : reg d 0#32 n ≠ 0#32 := by
  intro h0
  have hf0 := reg_none d f hlo
  -- behind n nothing comes in
  have hz : ∀ m, reg d 0#32 (n + m) = 0#32 := by
    intro m
    rw [reg_add, h0]
    exact reg_none _ m (fun i _ => hn _ (by omega))
  have hbig : reg d 0#32 (f + 32 + n) = 0#32 := by
    have := hz (f + 32)
    rwa [Nat.add_comm n] at this
  rw [reg_add, reg_congr _ n (g := fun _ => false) (fun i _ => hhi _ (by omega))] at hbig
  have h32 : reg d 0#32 (f + 32) = 0#32 := reg_inj _ _ _ n (hbig.trans (reg_zero n).symm)
  rw [reg_add, hf0] at h32
  obtain ⟨x, hx⟩ := word_of (fun i => d (f + i)) 32
  rw [reg_congr _ 32 (g := fun i => x.getLsbD i) (fun i hi => (hx i hi).symm), reg_word] at h32
  have hx0 : 0#32 ^^^ x = 0#32 := reg_inj _ _ _ 32 (h32.trans (reg_zero 32).symm)
  have h1 := hx 0 (by omega)
  rw [show x = 0#32 by simpa using hx0] at h1
  simp [hf] at h1

/-- The bit i of bytes, in each byte from the lowest on. -/
def bitAt (xs : List UInt8) (i : Nat) : Bool := (xs[i / 8]?.getD 0).toNat.testBit (i % 8)
theorem bitAt_out (xs : List UInt8) (i : Nat) (h : 8 * xs.length ≤ i) : bitAt xs i = false := by
  unfold bitAt
  rw [List.getElem?_eq_none (by omega)]
  simp
theorem bitAt_at (xs : List UInt8) (j k : Nat) (hj : j < xs.length) (hk : k < 8) : bitAt xs (8 * j + k) = (xs[j]).toNat.testBit k := by
  unfold bitAt
  rw [show (8 * j + k) / 8 = j by omega, show (8 * j + k) % 8 = k by omega, List.getElem?_eq_getElem hj]
  rfl
theorem bitAt_left (xs ys : List UInt8) (i : Nat) (h : i < 8 * xs.length) : bitAt (xs ++ ys) i = bitAt xs i := by
  unfold bitAt
  rw [List.getElem?_append_left (by omega)]
theorem bitAt_right (xs ys : List UInt8) (i : Nat) : bitAt (xs ++ ys) (8 * xs.length + i) = bitAt ys i := by
  unfold bitAt
  rw [List.getElem?_append_right (by omega), show (8 * xs.length + i) / 8 - xs.length = i / 8 by omega, show (8 * xs.length + i) % 8 = i % 8 by omega]

/-- The sum of bytes behind a sum. -/
def ext (s : R) (xs : List UInt8) : R := ~~~ reg (bitAt xs) (~~~ s) (8 * xs.length)
def sum (xs : List UInt8) : R := ext 0#32 xs

theorem ext_nil (s : R) : ext s [] = s := by simp [ext, reg]
theorem ext_append (s : R) (xs ys : List UInt8) : ext (ext s xs) ys = ext s (xs ++ ys) := by
  unfold ext
  rw [BitVec.not_not, List.length_append, Nat.mul_add, reg_add, reg_congr _ _ (f := fun i => bitAt (xs ++ ys) (8 * xs.length + i)) (fun i _ => bitAt_right xs ys i), reg_congr _ _ (f := bitAt (xs ++ ys)) (fun i hi => bitAt_left xs ys i hi)]
theorem not_xor_not (a b : R) : ~~~ a ^^^ ~~~ b = a ^^^ b := by
  ext i hi
  simp
/-- How two sums differ behind the same bytes. -/
theorem ext_differ (s t : R) (xs : List UInt8) : ext s xs ^^^ ext t xs = reg (fun _ => false) (s ^^^ t) (8 * xs.length) := by
  unfold ext
  rw [not_xor_not, ← reg_xor, not_xor_not]
  exact reg_congr _ _ (fun i _ => by simp)
theorem ext_length (s t : R) (xs ys : List UInt8) (h : xs.length = ys.length) : ext s xs ^^^ ext t xs = ext s ys ^^^ ext t ys := by rw [ext_differ, ext_differ, h]
theorem xor_zero_iff (a b : R) : a ^^^ b = 0#32 ↔ a = b := by
  constructor
  · intro h
    have : (a ^^^ b) ^^^ b = 0#32 ^^^ b := by rw [h]
    rw [BitVec.xor_assoc, BitVec.xor_self] at this
    simpa using this
  · rintro rfl; simp
theorem ext_same (s t : R) (xs : List UInt8) : ext s xs ^^^ ext t xs = 0#32 ↔ s = t := by
  rw [ext_differ]
  constructor
  · intro h
    exact (xor_zero_iff s t).1 (reg_inj _ _ _ _ (h.trans (reg_zero _).symm))
  · rintro rfl
    rw [BitVec.xor_self, reg_zero]
/-- Two texts of one length have one sum just where what they differ in leaves nothing. -/
theorem sum_differ (xs ys : List UInt8) (h : xs.length = ys.length) : sum xs ^^^ sum ys = reg (fun i => bitAt xs i ^^ bitAt ys i) 0#32 (8 * xs.length) := by
  unfold sum ext
  rw [not_xor_not, ← h, ← reg_xor, BitVec.xor_self]

/-- The steps, back, from bit n on. -/
def unreg (f : Nat → Bool) (r : R) : Nat → R
  | 0 => r
  | n + 1 => unreg f (unstp r (f n)) n
theorem unreg_reg (f : Nat → Bool) (r : R) (n : Nat) : unreg f (reg f r n) n = r := by
  induction n with
  | zero => rfl
  | succ n ih => rw [reg, unreg, unstp_stp, ih]
theorem reg_unreg (f : Nat → Bool) (r : R) (n : Nat) : reg f (unreg f r n) n = r := by
  induction n generalizing r with
  | zero => rfl
  | succ n ih => rw [unreg, reg, ih, stp_unstp]
/-- The sum ahead of bytes. -/
def unext (s : R) (xs : List UInt8) : R := ~~~ unreg (bitAt xs) (~~~ s) (8 * xs.length)
theorem ext_unext (s : R) (xs : List UInt8) : ext (unext s xs) xs = s := by unfold ext unext; rw [BitVec.not_not, reg_unreg, BitVec.not_not]
theorem unext_ext (s : R) (xs : List UInt8) : unext (ext s xs) xs = s := by unfold ext unext; rw [BitVec.not_not, unreg_reg, BitVec.not_not]

/-- A word's bytes, the lowest first. -/
def low4 (x : R) : List UInt8 := [UInt8.ofNat x.toNat, UInt8.ofNat (x.toNat / 2 ^ 8), UInt8.ofNat (x.toNat / 2 ^ 16), UInt8.ofNat (x.toNat / 2 ^ 24)]
theorem bitAt_low4 (x : R) (i : Nat) (h : i < 32) : bitAt (low4 x) i = x.getLsbD i := by
  have key : ∀ j k, k < 8 → (UInt8.ofNat (x.toNat / 2 ^ (8 * j))).toNat.testBit k = x.getLsbD (8 * j + k) := by
    intro j k hk
    rw [UInt8.toNat_ofNat', show 2 ^ 8 = 2 ^ 8 from rfl, Nat.testBit_mod_two_pow, Nat.testBit_div_two_pow, BitVec.testBit_toNat]
    simp [hk, Nat.add_comm]
  have hk : i % 8 < 8 := Nat.mod_lt _ (by omega)
  have hi : i = 8 * (i / 8) + i % 8 := by omega
  have h4 : i / 8 = 0 ∨ i / 8 = 1 ∨ i / 8 = 2 ∨ i / 8 = 3 := by omega
  unfold bitAt
  conv => rhs; rw [hi]
  rcases h4 with h4 | h4 | h4 | h4 <;> rw [h4]
  · have := key 0 _ hk; simpa [low4] using this
  · have := key 1 _ hk; simpa [low4] using this
  · have := key 2 _ hk; simpa [low4] using this
  · have := key 3 _ hk; simpa [low4] using this
theorem ext_low4 (s x : R) : ext s (low4 x) = ~~~ reg (fun _ => false) (~~~ s ^^^ x) 32 := by
  unfold ext
  rw [← reg_word]
  congr 1
  exact reg_congr _ _ (fun i hi => bitAt_low4 x i hi)
/-- A text with its own sum, turned, behind it. -/
theorem sum_own (xs : List UInt8) (t : R) : sum (xs ++ low4 (sum xs ^^^ t)) = sum (low4 t) := by
  unfold sum
  rw [← ext_append, ext_low4, ext_low4]
  congr 2
  have h : ∀ i, i < 32 → (~~~ (0#32 : R)).getLsbD i = true := by decide
  apply BitVec.eq_of_getLsbD_eq
  intro i hi
  rw [BitVec.getLsbD_xor, BitVec.getLsbD_xor, BitVec.getLsbD_xor, BitVec.getLsbD_not, h i hi]
  cases (reg (bitAt xs) (~~~0#32) (8 * xs.length)).getLsbD i <;> cases t.getLsbD i <;> simp [hi, ext]
theorem sum_four0 : sum (low4 0#32) = 0x48674bc7#32 := by decide +kernel
theorem sum_own0 (xs : List UInt8) : sum (xs ++ low4 (sum xs)) = 0x48674bc7#32 := by
  have h := sum_own xs 0#32
  rw [BitVec.xor_zero] at h
  rw [h, sum_four0]
theorem sum_nine : ext (sum [49, 50, 51, 52]) [53, 54, 55, 56, 57] = 0xe3069283#32 := by decide +kernel
theorem sum_nil : sum [] = 0#32 := ext_nil _
end Go.Proofs.Ytifmhlbeodfpeaa

namespace Go.Proofs.Ytifmhlbeodfpeaa
open Go.RowKit
set_option linter.unusedVariables false

/-- Must such a chunk be alone? -/
def aloneK (k : UInt8) : Bool := decide (k = 1 ∨ k = 2 ∨ k = 14)
def smallC (x : Chk) : Bool := decide (x.2.2.length ≤ 65531)
/-- May these chunks stand in one packet? -/
def mayP (cs : List Chk) : Bool := decide (0 < cs.length) && cs.all fun x => smallC x && !(aloneK x.1 && decide (1 < cs.length))
/-- A packet's bytes, with a sum. -/
def laidP (tag s : Nat) (cs : List Chk) : List UInt8 := enc 5000 2 ++ (enc 5000 2 ++ (enc tag 4 ++ (enc s 4 ++ cat cs)))
def sumP (tag : Nat) (cs : List Chk) : Nat := (sum (laidP tag 0 cs)).toNat
def wrP (tag : Nat) (cs : List Chk) : List UInt8 := if mayP cs then laidP tag (sumP tag cs) cs else []
def sizeC : List Chk → Nat
  | [] => 0
  | x :: cs => 4 + up4 x.2.2.length + sizeC cs
def sizeP (cs : List Chk) : Nat := 12 + sizeC cs

/-- Noughts from a place on, as many as told? -/
def padB (bs : List UInt8) : Nat → Nat → Bool
  | _, 0 => true
  | a, n + 1 => decide (bs[a]? = some 0) && padB bs (a + 1) n
theorem padB_iff (bs : List UInt8) : ∀ n a, padB bs a n = true ↔ ∀ j, a ≤ j → j < a + n → bs[j]? = some 0
  | 0, a => by simp only [padB, true_iff]; intro j h1 h2; omega
  | n + 1, a => by
    rw [padB, Bool.and_eq_true, decide_eq_true_iff, padB_iff bs n (a + 1)]
    constructor
    · rintro ⟨h1, h2⟩ j hj hl
      by_cases h : j = a
      · rw [h]; exact h1
      · exact h2 j (by omega) (by omega)
    · intro h
      exact ⟨h a (Nat.le_refl _) (by omega), fun j h1 h2 => h j (by omega) (by omega)⟩
def fitsB (bs : List UInt8) : Bool := decide (4 ≤ bs.length) && decide (4 ≤ clen bs) && decide (up4 (clen bs) ≤ bs.length) && padB bs (clen bs) (up4 (clen bs) - clen bs)
theorem fitsB_iff (bs : List UInt8) : fitsB bs = true ↔ Fits bs := by
  have hu := up4_bd (clen bs)
  unfold fitsB
  rw [Bool.and_eq_true, Bool.and_eq_true, Bool.and_eq_true, decide_eq_true_iff, decide_eq_true_iff, decide_eq_true_iff, padB_iff]
  constructor
  · rintro ⟨⟨⟨h1, h2⟩, h3⟩, h4⟩
    exact ⟨h1, h2, h3, fun j a b => h4 j a (by omega)⟩
  · intro h
    exact ⟨⟨⟨h.four, h.lo⟩, h.hi⟩, fun j a b => h.pad j a (by omega)⟩

/-- The chunks that stand one behind the other, and nothing else; none: they are no chunks. -/
def parseN : Nat → List UInt8 → Option (List Chk)
  | 0, bs => if bs = [] then some [] else none
  | n + 1, bs => if bs = [] then some [] else if fitsB bs then (parseN n (bs.drop (up4 (clen bs)))).map fun cs => (kind bs, flag bs, body bs) :: cs else none
theorem parseN_nil (n : Nat) : parseN n [] = some [] := by cases n <;> rfl
theorem wrt_ne {k f : UInt8} {xs : List UInt8} (h : xs.length ≤ 65531) (more : List UInt8) : wrt k f xs ++ more ≠ [] := by
  intro e
  have := congrArg List.length e
  have hu := up4_bd (4 + xs.length)
  rw [List.length_append, length_wrt h] at this
  simp at this
  omega
theorem parseN_cat : ∀ (cs : List Chk) (n : Nat), (∀ x ∈ cs, smallC x = true) → cs.length ≤ n → parseN n (cat cs) = some cs
  | [], n, _, _ => parseN_nil n
  | x :: cs, 0, _, h => by simp at h
  | x :: cs, n + 1, hs, h => by
    have hx : x.2.2.length ≤ 65531 := by
      have := hs x List.mem_cons_self
      simpa [smallC] using this
    obtain ⟨h1, h2, h3, h4, h5⟩ := read_wrt (k := x.1) (f := x.2.1) (more := cat cs) hx
    have ih := parseN_cat cs n (fun y hy => hs y (List.mem_cons_of_mem _ hy)) (by simp at h; omega)
    rw [cat_cons, parseN, if_neg (wrt_ne hx _), if_pos ((fitsB_iff _).2 h1), h5, List.drop_append, List.drop_of_length_le (by rw [length_wrt hx]; exact Nat.le_refl _), length_wrt hx, Nat.sub_self, List.drop_zero, List.nil_append, ih, h2, h3, h4]
    rfl
theorem cat_parseN : ∀ (n : Nat) (bs : List UInt8) (cs : List Chk), parseN n bs = some cs → cat cs = bs ∧ (∀ x ∈ cs, smallC x = true) ∧ 4 * cs.length ≤ bs.length
  | 0, bs, cs, h => by
    unfold parseN at h
    split at h
    · rename_i hb
      obtain rfl := Option.some.inj h
      rw [hb]
      exact ⟨rfl, fun x hx => (by cases hx), Nat.le_refl _⟩
    · cases h
  | n + 1, bs, cs, h => by
    unfold parseN at h
    split at h
    · rename_i hb
      obtain rfl := Option.some.inj h
      rw [hb]
      exact ⟨rfl, fun x hx => (by cases hx), Nat.le_refl _⟩
    · split at h
      · rename_i hf
        have hF := (fitsB_iff bs).1 hf
        rw [Option.map_eq_some_iff] at h
        obtain ⟨cs', h1, rfl⟩ := h
        obtain ⟨h2, h3, h4⟩ := cat_parseN n _ cs' h1
        have hu := up4_bd (clen bs)
        have hl := clen_lt bs
        have hhi := hF.hi
        have hlo := hF.lo
        have hb := length_body (bs := bs) (by omega)
        rw [List.length_drop] at h4
        refine ⟨?_, ?_, ?_⟩
        · rw [cat_cons, h2, fits_wrt hF, List.take_append_drop]
        · intro x hx
          rcases List.mem_cons.1 hx with rfl | hx
          · simp only [smallC, decide_eq_true_eq]
            omega
          · exact h3 x hx
        · simp only [List.length_cons]
          omega
      · cases h

theorem length_cat_size : ∀ cs : List Chk, (∀ x ∈ cs, smallC x = true) → (cat cs).length = sizeC cs
  | [], _ => rfl
  | x :: cs, h => by
    have hx : x.2.2.length ≤ 65531 := by
      have := h x List.mem_cons_self
      simpa [smallC] using this
    rw [cat_cons, List.length_append, length_wrt hx, length_cat_size cs (fun y hy => h y (List.mem_cons_of_mem _ hy)), sizeC]
    unfold up4
    omega
theorem length_laidP (tag s : Nat) (cs : List Chk) : (laidP tag s cs).length = 12 + (cat cs).length := by
  simp [laidP, length_enc]; omega
theorem small_may {cs : List Chk} (h : mayP cs = true) : ∀ x ∈ cs, smallC x = true := by
  intro x hx
  unfold mayP at h
  simp only [Bool.and_eq_true, List.all_eq_true] at h
  exact (h.2 x hx).1
theorem length_wrP {tag : Nat} {cs : List Chk} (h : mayP cs = true) : (wrP tag cs).length = sizeP cs := by
  rw [wrP, if_pos h, length_laidP, length_cat_size cs (small_may h), sizeP]

/-- Bytes with four noughts in the sum's place. -/
def bareP (b : List UInt8) : List UInt8 := b.take 8 ++ (List.replicate 4 0 ++ b.drop 12)
theorem enc_zero4 : enc 0 4 = List.replicate 4 0 := by decide
theorem bare_laid (tag s : Nat) (cs : List Chk) : bareP (laidP tag s cs) = laidP tag 0 cs := by
  have h1 : (laidP tag s cs).take 8 = enc 5000 2 ++ (enc 5000 2 ++ enc tag 4) := by
    have : laidP tag s cs = (enc 5000 2 ++ (enc 5000 2 ++ enc tag 4)) ++ (enc s 4 ++ cat cs) := by simp [laidP]
    rw [this, List.take_append, List.take_of_length_le (by simp [length_enc])]
    simp [length_enc]
  have h2 : (laidP tag s cs).drop 12 = cat cs := by
    have : laidP tag s cs = (enc 5000 2 ++ (enc 5000 2 ++ (enc tag 4 ++ enc s 4))) ++ cat cs := by simp [laidP]
    rw [this, List.drop_append, List.drop_of_length_le (by simp [length_enc])]
    simp [length_enc]
  rw [bareP, h1, h2]
  simp [laidP, enc_zero4]
theorem nums_laid (tag s : Nat) (cs : List Chk) (ht : tag < 4294967296) (hs : s < 4294967296) : num (laidP tag s cs) 4 4 = tag ∧ num (laidP tag s cs) 8 4 = s ∧ (laidP tag s cs).drop 12 = cat cs := by
  refine ⟨?_, ?_, ?_⟩
  · rw [num_drop, laidP, drop_encs _ _ _ _ (by decide), drop_enc]; exact num_put _ 4 _ ht
  · rw [num_drop, laidP, drop_encs _ _ _ _ (by decide), drop_encs _ _ _ _ (by decide), drop_enc]; exact num_put _ 4 _ hs
  · rw [laidP, drop_encs _ _ _ _ (by decide), drop_encs _ _ _ _ (by decide), drop_encs _ _ _ _ (by decide), drop_enc]
/-- Which packet bytes are: 7: of no form; 8: of another sum. -/
inductive RdP where
  | err (e : Int)
  | ok (tag : Nat) (cs : List Chk)
def rdP (b : List UInt8) : RdP :=
  if b.length < 12 then .err 7 else if (sum (bareP b)).toNat ≠ num b 8 4 then .err 8 else
    match parseN b.length (b.drop 12) with
    | none => .err 7
    | some cs => if mayP cs = true ∧ laidP (num b 4 4) (num b 8 4) cs = b then .ok (num b 4 4) cs else .err 7
theorem sumP_lt (tag : Nat) (cs : List Chk) : sumP tag cs < 4294967296 := (sum (laidP tag 0 cs)).isLt
/-- What was written is read. -/
theorem rdP_wrP (tag : Nat) (cs : List Chk) (ht : tag < 4294967296) (h : mayP cs = true) : rdP (wrP tag cs) = .ok tag cs := by
  have hl := length_wrP (tag := tag) h
  have hw : wrP tag cs = laidP tag (sumP tag cs) cs := if_pos h
  obtain ⟨h4, h8, h12⟩ := nums_laid tag (sumP tag cs) cs ht (sumP_lt tag cs)
  have hlen : cs.length ≤ (laidP tag (sumP tag cs) cs).length := by
    have h0 := (cat_parseN cs.length (cat cs) cs (parseN_cat cs cs.length (small_may h) (Nat.le_refl _))).2.2
    rw [length_laidP]
    omega
  unfold rdP
  rw [if_neg (by rw [hl, sizeP]; omega), hw, bare_laid, h8, if_neg (by simp [sumP]), h12, parseN_cat cs _ (small_may h) hlen]
  simp only
  rw [h4, if_pos ⟨h, rfl⟩]
/-- What was read is written. -/
theorem wrP_rdP {b : List UInt8} {tag : Nat} {cs : List Chk} (h : rdP b = .ok tag cs) : wrP tag cs = b := by
  unfold rdP at h
  split at h
  · cases h
  · split at h
    · cases h
    · rename_i h12 hs
      split at h
      · cases h
      · rename_i cs' hp
        split at h
        · rename_i hm
          injection h with e1 e2
          subst e1 e2
          have hs2 : (sum (bareP b)).toNat = num b 8 4 := Decidable.not_not.1 hs
          have e : sumP (num b 4 4) cs' = num b 8 4 := by
            unfold sumP
            rw [← bare_laid (num b 4 4) (num b 8 4) cs', hm.2]
            exact hs2
          rw [wrP, if_pos hm.1, e, hm.2]
        · cases h
end Go.Proofs.Ytifmhlbeodfpeaa
