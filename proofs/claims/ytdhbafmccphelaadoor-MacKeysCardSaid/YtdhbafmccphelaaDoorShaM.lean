/-
  SHA-256: plain mathematics, over no program.
-/
namespace Go.Proofs.YtdhbafmccphelaaDoor
set_option linter.unusedVariables false

abbrev R := BitVec 32
def ror (x : R) (n : Nat) : R := (x >>> n) ||| (x <<< (32 - n))
def dwn (x : R) (n : Nat) : R := x >>> n
def low0 (x : R) : R := ror x 7 ^^^ ror x 18 ^^^ dwn x 3
def low1 (x : R) : R := ror x 17 ^^^ ror x 19 ^^^ dwn x 10
def up0 (a : R) : R := ror a 2 ^^^ ror a 13 ^^^ ror a 22
def up1 (e : R) : R := ror e 6 ^^^ ror e 11 ^^^ ror e 25
def chs (e f g : R) : R := (e &&& f) ^^^ (~~~ e &&& g)
def maj (a b c : R) : R := (a &&& b) ||| (a &&& c) ||| (b &&& c)
theorem maj_xor (a b c : R) : (a &&& b) ^^^ (a &&& c) ^^^ (b &&& c) = maj a b c := by
  unfold maj
  ext i hi
  simp
  cases a[i] <;> cases b[i] <;> cases c[i] <;> rfl

def K : List R := [0x428a2f98#32, 0x71374491#32, 0xb5c0fbcf#32, 0xe9b5dba5#32, 0x3956c25b#32, 0x59f111f1#32, 0x923f82a4#32, 0xab1c5ed5#32,
  0xd807aa98#32, 0x12835b01#32, 0x243185be#32, 0x550c7dc3#32, 0x72be5d74#32, 0x80deb1fe#32, 0x9bdc06a7#32, 0xc19bf174#32,
  0xe49b69c1#32, 0xefbe4786#32, 0x0fc19dc6#32, 0x240ca1cc#32, 0x2de92c6f#32, 0x4a7484aa#32, 0x5cb0a9dc#32, 0x76f988da#32,
  0x983e5152#32, 0xa831c66d#32, 0xb00327c8#32, 0xbf597fc7#32, 0xc6e00bf3#32, 0xd5a79147#32, 0x06ca6351#32, 0x14292967#32,
  0x27b70a85#32, 0x2e1b2138#32, 0x4d2c6dfc#32, 0x53380d13#32, 0x650a7354#32, 0x766a0abb#32, 0x81c2c92e#32, 0x92722c85#32,
  0xa2bfe8a1#32, 0xa81a664b#32, 0xc24b8b70#32, 0xc76c51a3#32, 0xd192e819#32, 0xd6990624#32, 0xf40e3585#32, 0x106aa070#32,
  0x19a4c116#32, 0x1e376c08#32, 0x2748774c#32, 0x34b0bcb5#32, 0x391c0cb3#32, 0x4ed8aa4a#32, 0x5b9cca4f#32, 0x682e6ff3#32,
  0x748f82ee#32, 0x78a5636f#32, 0x84c87814#32, 0x8cc70208#32, 0x90befffa#32, 0xa4506ceb#32, 0xbef9a3f7#32, 0xc67178f2#32]
def H0 : List R := [0x6a09e667#32, 0xbb67ae85#32, 0x3c6ef372#32, 0xa54ff53a#32, 0x510e527f#32, 0x9b05688c#32, 0x1f83d9ab#32, 0x5be0cd19#32]
theorem length_K : K.length = 64 := rfl
theorem length_H0 : H0.length = 8 := rfl

/-- The word at a place. -/
def at_ (ws : List R) (i : Nat) : R := ws.getD i 0
theorem at_get {ws : List R} {i : Nat} (h : i < ws.length) : ws[i]? = some (at_ ws i) := by unfold at_; rw [List.getD_eq_getElem?_getD, List.getElem?_eq_getElem h]; rfl

/-- Four bytes as a word. -/
def be4 (x0 x1 x2 x3 : UInt8) : R := BitVec.ofNat 32 (x0.toNat * 2 ^ 24 + x1.toNat * 2 ^ 16 + x2.toNat * 2 ^ 8 + x3.toNat)
def wd (bs : List UInt8) (t : Nat) : R := be4 (bs.getD (4 * t) 0) (bs.getD (4 * t + 1) 0) (bs.getD (4 * t + 2) 0) (bs.getD (4 * t + 3) 0)
/-- The next word. -/
def nxt (ws : List R) (t : Nat) : R := at_ ws (t - 16) + at_ ws (t - 7) + low0 (at_ ws (t - 15)) + low1 (at_ ws (t - 2))
/-- The words of a block, t of them laid. -/
def sch (bs : List UInt8) : Nat → List R
  | 0 => List.replicate 64 0
  | t + 1 => (sch bs t).set t (if t < 16 then wd bs t else nxt (sch bs t) t)
theorem length_sch (bs : List UInt8) (t : Nat) : (sch bs t).length = 64 := by
  induction t with
  | zero => rfl
  | succ t ih => rw [sch, List.length_set, ih]
theorem sch_low {bs : List UInt8} {t : Nat} (h : t < 16) : sch bs (t + 1) = (sch bs t).set t (wd bs t) := by rw [sch, if_pos h]
theorem sch_high {bs : List UInt8} {t : Nat} (h : ¬ t < 16) : sch bs (t + 1) = (sch bs t).set t (nxt (sch bs t) t) := by rw [sch, if_neg h]

/-- One step of the eight. -/
def rnd (k w : R) : List R → List R
  | [a, b, c, d, e, f, g, h] => [(h + up1 e + chs e f g + k + w) + (up0 a + maj a b c), a, b, c, d + (h + up1 e + chs e f g + k + w), e, f, g]
  | vs => vs
theorem length_rnd (k w : R) (vs : List R) (h : vs.length = 8) : (rnd k w vs).length = 8 := by
  match vs, h with
  | [a, b, c, d, e, f, g, h], _ => rfl
/-- The eight behind t steps. -/
def rds (vs ws : List R) : Nat → List R
  | 0 => vs
  | t + 1 => rnd (at_ K t) (at_ ws t) (rds vs ws t)
theorem length_rds (vs ws : List R) (t : Nat) (h : vs.length = 8) : (rds vs ws t).length = 8 := by
  induction t with
  | zero => exact h
  | succ t ih => exact length_rnd _ _ _ ih
theorem eight {vs : List R} (h : vs.length = 8) : ∃ a b c d e f g h, vs = [a, b, c, d, e, f, g, h] := by
  match vs, h with
  | [a, b, c, d, e, f, g, h], _ => exact ⟨a, b, c, d, e, f, g, h, rfl⟩

/-- Two rows, added. -/
def add (xs ys : List R) : List R := List.zipWith (· + ·) xs ys
theorem length_add {xs ys : List R} {n : Nat} (h : xs.length = n) (h' : ys.length = n) : (add xs ys).length = n := by simp [add, h, h']
theorem add_assoc (xs : List R) : ∀ ys zs, add (add xs ys) zs = add xs (add ys zs) := by
  induction xs with
  | nil => intro ys zs; simp [add]
  | cons x xs ih =>
    intro ys zs
    cases ys with
    | nil => simp [add]
    | cons y ys =>
      cases zs with
      | nil => simp [add]
      | cons z zs =>
        have := ih ys zs
        simp only [add, List.zipWith_cons_cons, List.cons.injEq] at this ⊢
        exact ⟨BitVec.add_assoc _ _ _, this⟩
theorem at_add {xs ys : List R} {i : Nat} (h : i < xs.length) (h' : i < ys.length) : at_ (add xs ys) i = at_ xs i + at_ ys i := by
  simp [at_, add, List.getD_eq_getElem?_getD, List.getElem?_zipWith, List.getElem?_eq_getElem h, List.getElem?_eq_getElem h']

/-- Two rows, added one by one. -/
def adl (xs ys : List R) : Nat → List R
  | 0 => xs
  | k + 1 => (adl xs ys k).set k (at_ (adl xs ys k) k + at_ ys k)
theorem length_adl (xs ys : List R) (k : Nat) : (adl xs ys k).length = xs.length := by
  induction k with
  | zero => rfl
  | succ k ih => rw [adl, List.length_set, ih]
theorem adl_end {xs ys : List R} (h : xs.length = 8) (h' : ys.length = 8) : adl xs ys 8 = add xs ys := by
  obtain ⟨a, b, c, d, e, f, g, i, rfl⟩ := eight h
  obtain ⟨a', b', c', d', e', f', g', i', rfl⟩ := eight h'
  rfl

/-- What a block makes of the eight. -/
def cmp (hs : List R) (bs : List UInt8) : List R := rds hs (sch bs 64) 64
theorem length_cmp (hs : List R) (bs : List UInt8) (h : hs.length = 8) : (cmp hs bs).length = 8 := length_rds _ _ _ h
/-- The eight behind n blocks. -/
def hsn (xs : List UInt8) : Nat → List R
  | 0 => H0
  | n + 1 => add (hsn xs n) (cmp (hsn xs n) ((xs.drop (64 * n)).take 64))
theorem length_hsn (xs : List UInt8) (n : Nat) : (hsn xs n).length = 8 := by
  induction n with
  | zero => rfl
  | succ n ih => exact length_add ih (length_cmp _ _ ih)
theorem hsn_append (xs ys : List UInt8) (n : Nat) (h : 64 * n ≤ xs.length) : hsn (xs ++ ys) n = hsn xs n := by
  induction n with
  | zero => rfl
  | succ n ih =>
    rw [hsn, hsn, ih (by omega), List.drop_append_of_le_length (by omega), List.take_append_of_le_length (by simp; omega)]

/-- A number as bytes, the greatest first. -/
def byt (n : Nat) : UInt8 := UInt8.ofNat n
def be8 (n : Nat) : List UInt8 := [byt (n / 2 ^ 56), byt (n / 2 ^ 48), byt (n / 2 ^ 40), byt (n / 2 ^ 32), byt (n / 2 ^ 24), byt (n / 2 ^ 16), byt (n / 2 ^ 8), byt n]
def zer (n : Nat) : Nat := (119 - n % 64) % 64
def pad (n : Nat) : List UInt8 := 128 :: List.replicate (zer n) 0 ++ be8 (8 * n)
theorem zer_lt (n : Nat) : zer n < 64 := by unfold zer; omega
theorem zer_len (n : Nat) : (n + 1 + zer n) % 64 = 56 := by unfold zer; omega
theorem length_pad (n : Nat) : (pad n).length = zer n + 9 := by simp [pad, be8]
theorem length_padded (xs : List UInt8) : (xs ++ pad xs.length).length % 64 = 0 := by
  rw [List.length_append, length_pad]
  have := zer_len xs.length
  omega
/-- The eight of bytes, padded. -/
def fin (xs : List UInt8) : List R := hsn (xs ++ pad xs.length) ((xs ++ pad xs.length).length / 64)
theorem length_fin (xs : List UInt8) : (fin xs).length = 8 := length_hsn _ _

/-- A word's bytes, laid at a place. -/
def putw (ys : List UInt8) (o : Nat) (x : R) : List UInt8 :=
  (((ys.set o (byt (x.toNat / 2 ^ 24))).set (o + 1) (byt (x.toNat / 2 ^ 16))).set (o + 2) (byt (x.toNat / 2 ^ 8))).set (o + 3) (byt x.toNat)
theorem length_putw (ys : List UInt8) (o : Nat) (x : R) : (putw ys o x).length = ys.length := by simp [putw]
/-- The bytes of i words, laid. -/
def out (hs : List R) : Nat → List UInt8
  | 0 => List.replicate 32 0
  | i + 1 => putw (out hs i) (4 * i) (at_ hs i)
theorem length_out (hs : List R) (i : Nat) : (out hs i).length = 32 := by
  induction i with
  | zero => rfl
  | succ i ih => rw [out, length_putw, ih]
/-- Byte by byte. -/
def out1 (hs : List R) : Nat → List UInt8
  | 0 => List.replicate 32 0
  | i + 1 => (out1 hs i).set i (byt ((at_ hs (i / 4)).toNat / 2 ^ (24 - 8 * (i % 4))))
theorem length_out1 (hs : List R) (i : Nat) : (out1 hs i).length = 32 := by
  induction i with
  | zero => rfl
  | succ i ih => rw [out1, List.length_set, ih]
theorem out_out1 (hs : List R) (h : hs.length = 8) : out1 hs 32 = out hs 8 := by
  match hs, h with
  | [a, b, c, d, e, f, g, h], _ =>
    simp [out1, out, putw, at_, List.replicate, List.set]
/-- THE DIGEST. -/
def dig (xs : List UInt8) : List UInt8 := out (fin xs) 8
theorem length_dig (xs : List UInt8) : (dig xs).length = 32 := length_out _ _

theorem abc0 : (dig [97, 98, 99])[0]? = some 0xba := by decide +kernel
theorem abc1 : (dig [97, 98, 99])[1]? = some 0x78 := by decide +kernel
theorem abc31 : (dig [97, 98, 99])[31]? = some 0xad := by decide +kernel
end Go.Proofs.YtdhbafmccphelaaDoor
