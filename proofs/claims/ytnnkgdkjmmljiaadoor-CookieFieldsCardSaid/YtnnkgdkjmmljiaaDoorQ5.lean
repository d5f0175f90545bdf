/-
  HMAC-SHA-256: plain mathematics, over no program.
  Package cookie, plainly: a cookie's 64 bytes, which cookie bytes are, how long one is fresh, what is derived of a text.
  Package cookie: numbers out of bytes, which cookie may be, how long one is fresh: the code and the reference.
-/
import Derived.Test.YtnnkgdkjmmljiaaDoorQ4
import Derived.Test.YtnnkgdkjmmljiaaDoorQ3
import Derived.Test.YtnnkgdkjmmljiaaDoorQ2
namespace Go.Proofs.YtnnkgdkjmmljiaaDoor
set_option linter.unusedVariables false

/-- A key, or its sum where it has more than 64 bytes. -/
def shr (key : List UInt8) : List UInt8 := if 64 < key.length then dig key else key
/-- THE BLOCK OF A KEY. -/
def blk (key : List UInt8) : List UInt8 := shr key ++ List.replicate (64 - (shr key).length) 0
/-- Bytes, each turned. -/
def msk (m : UInt8) (l : List UInt8) : List UInt8 := l.map fun x => x ^^^ m
/-- THE SUM OF A TEXT UNDER A KEY. -/
def mac (key text : List UInt8) : List UInt8 := dig (msk 92 (blk key) ++ dig (msk 54 (blk key) ++ text))

theorem shr_le (key : List UInt8) : (shr key).length ≤ 64 := by
  unfold shr
  split
  · rw [length_dig]; omega
  · omega
theorem length_blk (key : List UInt8) : (blk key).length = 64 := by
  have := shr_le key
  simp [blk]
  omega
theorem length_msk (m : UInt8) (l : List UInt8) : (msk m l).length = l.length := by simp [msk]
theorem length_mac (key text : List UInt8) : (mac key text).length = 32 := length_dig _
theorem shr_long {key : List UInt8} (h : 64 < key.length) : shr key = dig key := if_pos h
theorem shr_short {key : List UInt8} (h : ¬ 64 < key.length) : shr key = key := if_neg h
theorem blk_dig {key : List UInt8} (h : 64 < key.length) : blk (dig key) = blk key := by
  unfold blk
  rw [shr_long h, shr_short (by rw [length_dig]; omega)]
theorem blk_zero {key : List UInt8} {k : Nat} (h : key.length + k ≤ 64) : blk (key ++ List.replicate k 0) = blk key := by
  unfold blk
  rw [shr_short (show ¬ 64 < (key ++ List.replicate k 0).length by rw [List.length_append, List.length_replicate]; omega), shr_short (show ¬ 64 < key.length by omega), List.append_assoc, List.replicate_append_replicate]
  congr 2
  simp
  omega
theorem mac_dig {key : List UInt8} (h : 64 < key.length) (text : List UInt8) : mac (dig key) text = mac key text := by unfold mac; rw [blk_dig h]
theorem mac_zero {key : List UInt8} {k : Nat} (h : key.length + k ≤ 64) (text : List UInt8) : mac (key ++ List.replicate k 0) text = mac key text := by unfold mac; rw [blk_zero h]

/-- The first k bytes turned, the others not. -/
def mskTo (m : UInt8) (l : List UInt8) (k : Nat) : List UInt8 := msk m (l.take k) ++ l.drop k
theorem length_mskTo (m : UInt8) (l : List UInt8) (k : Nat) : (mskTo m l k).length = l.length := by rw [mskTo, List.length_append, length_msk, List.length_take, List.length_drop]; omega
theorem mskTo_zero (m : UInt8) (l : List UInt8) : mskTo m l 0 = l := by simp [mskTo, msk]
theorem mskTo_end {m : UInt8} {l : List UInt8} {k : Nat} (h : l.length ≤ k) : mskTo m l k = msk m l := by simp [mskTo, List.take_of_length_le h, List.drop_of_length_le h]
theorem mskTo_at {m : UInt8} {l : List UInt8} {k : Nat} (h : k < l.length) : (mskTo m l k)[k]? = some l[k] := by
  unfold mskTo
  rw [List.getElem?_append_right (by simp [msk]; omega), List.getElem?_drop]
  simp [msk, Nat.min_eq_left (Nat.le_of_lt h), List.getElem?_eq_getElem h]
theorem mskTo_step {m : UInt8} {l : List UInt8} {k : Nat} (h : k < l.length) : (mskTo m l k).set k (l[k] ^^^ m) = mskTo m l (k + 1) := by
  unfold mskTo
  have e : (msk m (l.take k)).length = k := by simp [msk]; omega
  rw [List.set_append_right _ _ (by omega), e, Nat.sub_self, List.drop_eq_getElem_cons h, List.set_cons_zero, List.take_add_one, List.getElem?_eq_getElem h]
  unfold msk
  rw [List.map_append, List.append_assoc]
  rfl

theorem jefe0 : (mac [74, 101, 102, 101] [119, 104, 97, 116, 32, 100, 111, 32, 121, 97, 32, 119, 97, 110, 116, 32, 102, 111, 114, 32, 110, 111, 116, 104, 105, 110, 103, 63])[0]? = some 0x5b := by decide +kernel
theorem jefe1 : (mac [74, 101, 102, 101] [119, 104, 97, 116, 32, 100, 111, 32, 121, 97, 32, 119, 97, 110, 116, 32, 102, 111, 114, 32, 110, 111, 116, 104, 105, 110, 103, 63])[1]? = some 0xdc := by decide +kernel
theorem jefe31 : (mac [74, 101, 102, 101] [119, 104, 97, 116, 32, 100, 111, 32, 121, 97, 32, 119, 97, 110, 116, 32, 102, 111, 114, 32, 110, 111, 116, 104, 105, 110, 103, 63])[31]? = some 0x43 := by decide +kernel
end Go.Proofs.YtnnkgdkjmmljiaaDoor

namespace Go.Proofs.YtnnkgdkjmmljiaaDoor
open Go.RowKit
set_option linter.unusedVariables false

/-- A cookie: born, own tag, peer's tag, own TSN, peer's TSN, peer's room, out, in. -/
structure Ck where
  b : Int
  ot : Nat
  pt : Nat
  os : Nat
  ps : Nat
  rw : Nat
  ou : Nat
  inn : Nat
/-- What fits its cells. -/
structure Ck.Wf (c : Ck) : Prop where
  b : -9223372036854775808 ≤ c.b ∧ c.b ≤ 9223372036854775807
  ot : c.ot < 4294967296
  pt : c.pt < 4294967296
  os : c.os < 4294967296
  ps : c.ps < 4294967296
  rw : c.rw < 4294967296
  ou : c.ou < 65536
  inn : c.inn < 65536
def Ck.zero : Ck := ⟨0, 0, 0, 0, 0, 0, 0, 0⟩
/-- Its cells. -/
def Ck.vals (c : Ck) : List Value := [.int .i64 c.b, .int .u32 (c.ot : Int), .int .u32 (c.pt : Int), .int .u32 (c.os : Int), .int .u32 (c.ps : Int), .int .u32 (c.rw : Int), .int .u16 (c.ou : Int), .int .u16 (c.inn : Int)]
/-- A number of 64 bits with a sign, as one without, and back. -/
def toU (b : Int) : Nat := (b % 18446744073709551616).toNat
def toI (x : Nat) : Int := if x < 9223372036854775808 then (x : Int) else (x : Int) - 18446744073709551616
theorem toU_lt (b : Int) : toU b < 18446744073709551616 := by unfold toU; omega
theorem toI_toU {b : Int} (h : -9223372036854775808 ≤ b ∧ b ≤ 9223372036854775807) : toI (toU b) = b := by
  unfold toI toU
  split <;> omega
theorem toU_toI {x : Nat} (h : x < 18446744073709551616) : toU (toI x) = x := by
  unfold toI toU
  split <;> omega
theorem toI_range {x : Nat} (h : x < 18446744073709551616) : -9223372036854775808 ≤ toI x ∧ toI x ≤ 9223372036854775807 := by
  unfold toI
  split <;> omega
theorem toU_inj {a b : Int} (ha : -9223372036854775808 ≤ a ∧ a ≤ 9223372036854775807) (hb : -9223372036854775808 ≤ b ∧ b ≤ 9223372036854775807) : toU a = toU b ↔ a = b :=
  ⟨fun h => by rw [← toI_toU ha, ← toI_toU hb, h], fun h => by rw [h]⟩
/-- The first 32 bytes. -/
def encC (c : Ck) : List UInt8 := enc (toU c.b) 8 ++ (enc c.ot 4 ++ (enc c.pt 4 ++ (enc c.os 4 ++ (enc c.ps 4 ++ (enc c.rw 4 ++ (enc c.ou 2 ++ enc c.inn 2))))))
theorem length_encC (c : Ck) : (encC c).length = 32 := by simp [encC, length_enc]
/-- The cookie of the first 32 bytes. -/
def decC (b : List UInt8) : Ck := ⟨toI (num b 0 8), num b 8 4, num b 12 4, num b 16 4, num b 20 4, num b 24 4, num b 28 2, num b 30 2⟩
theorem decC_wf (b : List UInt8) : (decC b).Wf := ⟨toI_range (num_lt b 0 8), num_lt b 8 4, num_lt b 12 4, num_lt b 16 4, num_lt b 20 4, num_lt b 24 4, num_lt b 28 2, num_lt b 30 2⟩
theorem num_skip (x s a k : Nat) (ys : List UInt8) (h : s ≤ a) : num (enc x s ++ ys) a k = num ys (a - s) k := by
  rw [num_drop, drop_encs x s a ys h, ← num_drop]
theorem num_head (x s : Nat) (ys : List UInt8) (h : x < 256 ^ s) : num (enc x s ++ ys) 0 s = x := num_put x s ys h
theorem decC_encC {c : Ck} (h : c.Wf) (more : List UInt8) : decC (encC c ++ more) = c := by
  have e : encC c ++ more = enc (toU c.b) 8 ++ (enc c.ot 4 ++ (enc c.pt 4 ++ (enc c.os 4 ++ (enc c.ps 4 ++ (enc c.rw 4 ++ (enc c.ou 2 ++ (enc c.inn 2 ++ more))))))) := by simp [encC]
  rw [e]
  have e0 := num_head (toU c.b) 8 (enc c.ot 4 ++ (enc c.pt 4 ++ (enc c.os 4 ++ (enc c.ps 4 ++ (enc c.rw 4 ++ (enc c.ou 2 ++ (enc c.inn 2 ++ more))))))) (toU_lt _)
  have e1 := num_head c.ot 4 (enc c.pt 4 ++ (enc c.os 4 ++ (enc c.ps 4 ++ (enc c.rw 4 ++ (enc c.ou 2 ++ (enc c.inn 2 ++ more)))))) h.ot
  have e2 := num_head c.pt 4 (enc c.os 4 ++ (enc c.ps 4 ++ (enc c.rw 4 ++ (enc c.ou 2 ++ (enc c.inn 2 ++ more))))) h.pt
  have e3 := num_head c.os 4 (enc c.ps 4 ++ (enc c.rw 4 ++ (enc c.ou 2 ++ (enc c.inn 2 ++ more)))) h.os
  have e4 := num_head c.ps 4 (enc c.rw 4 ++ (enc c.ou 2 ++ (enc c.inn 2 ++ more))) h.ps
  have e5 := num_head c.rw 4 (enc c.ou 2 ++ (enc c.inn 2 ++ more)) h.rw
  have e6 := num_head c.ou 2 (enc c.inn 2 ++ more) h.ou
  have e7 := num_head c.inn 2 more h.inn
  unfold decC
  rw [e0, toI_toU h.b]
  rw [num_skip _ 8 8 4 _ (by omega), num_skip _ 8 12 4 _ (by omega), num_skip _ 8 16 4 _ (by omega), num_skip _ 8 20 4 _ (by omega), num_skip _ 8 24 4 _ (by omega), num_skip _ 8 28 2 _ (by omega), num_skip _ 8 30 2 _ (by omega)]
  simp only [Nat.reduceSub, Nat.sub_self]
  rw [e1]
  rw [num_skip _ 4 4 4 _ (by omega), num_skip _ 4 8 4 _ (by omega), num_skip _ 4 12 4 _ (by omega), num_skip _ 4 16 4 _ (by omega), num_skip _ 4 20 2 _ (by omega), num_skip _ 4 22 2 _ (by omega)]
  simp only [Nat.reduceSub, Nat.sub_self]
  rw [e2]
  rw [num_skip _ 4 4 4 _ (by omega), num_skip _ 4 8 4 _ (by omega), num_skip _ 4 12 4 _ (by omega), num_skip _ 4 16 2 _ (by omega), num_skip _ 4 18 2 _ (by omega)]
  simp only [Nat.reduceSub, Nat.sub_self]
  rw [e3]
  rw [num_skip _ 4 4 4 _ (by omega), num_skip _ 4 8 4 _ (by omega), num_skip _ 4 12 2 _ (by omega), num_skip _ 4 14 2 _ (by omega)]
  simp only [Nat.reduceSub, Nat.sub_self]
  rw [e4]
  rw [num_skip _ 4 4 4 _ (by omega), num_skip _ 4 8 2 _ (by omega), num_skip _ 4 10 2 _ (by omega)]
  simp only [Nat.reduceSub, Nat.sub_self]
  rw [e5]
  rw [num_skip _ 4 4 2 _ (by omega), num_skip _ 4 6 2 _ (by omega)]
  simp only [Nat.reduceSub, Nat.sub_self]
  rw [e6, num_skip _ 2 2 2 _ (by omega)]
  simp only [Nat.sub_self]
  rw [e7]
/-- A cookie that may be. -/
def Ck.may (c : Ck) : Bool := decide (0 ≤ c.b) && !decide (c.ot = 0) && !decide (c.pt = 0) && !decide (c.ou = 0) && !decide (c.inn = 0)
/-- P11.1. -/
def wrC (key : List UInt8) (c : Ck) : List UInt8 := encC c ++ mac key (encC c)
theorem length_wrC (key : List UInt8) (c : Ck) : (wrC key c).length = 64 := by rw [wrC, List.length_append, length_encC, length_mac]
inductive RdC where
  | err (e : Int)
  | ok (c : Ck)
def rdC (key b : List UInt8) : RdC :=
  if b.length ≠ 64 then .err 7 else if mac key (b.take 32) ≠ b.drop 32 then .err 10 else if (decC b).may then .ok (decC b) else .err 7
theorem take_wrC (key : List UInt8) (c : Ck) : (wrC key c).take 32 = encC c := by
  rw [wrC, List.take_append, List.take_of_length_le (by rw [length_encC]; exact Nat.le_refl _), length_encC, Nat.sub_self, List.take_zero, List.append_nil]
theorem drop_wrC (key : List UInt8) (c : Ck) : (wrC key c).drop 32 = mac key (encC c) := by
  rw [wrC, List.drop_append, List.drop_of_length_le (by rw [length_encC]; exact Nat.le_refl _), length_encC, Nat.sub_self, List.drop_zero, List.nil_append]
theorem rdC_wrC {key : List UInt8} {c : Ck} (h : c.Wf) : rdC key (wrC key c) = if c.may then .ok c else .err 7 := by
  unfold rdC
  rw [if_neg (by rw [length_wrC]; decide), take_wrC, drop_wrC, if_neg (by simp), wrC, decC_encC h]
theorem rdC_len {key b : List UInt8} (h : b.length ≠ 64) : rdC key b = .err 7 := if_pos h
/-- One of the last 32 bytes another. -/
theorem rdC_turn {key : List UInt8} {c : Ck} {k : Nat} (hk : 32 ≤ k) (hk2 : k < 64) (v : UInt8) (hv : (wrC key c)[k]? ≠ some v) : rdC key ((wrC key c).set k v) = .err 10 := by
  have hl := length_wrC key c
  have ht : ((wrC key c).set k v).take 32 = encC c := by
    rw [← take_wrC key c]
    apply List.ext_getElem?
    intro i
    rw [List.getElem?_take, List.getElem?_take]
    by_cases hi : i < 32
    · rw [if_pos hi, if_pos hi, List.getElem?_set, if_neg (by omega)]
    · rw [if_neg hi, if_neg hi]
  unfold rdC
  rw [if_neg (by rw [List.length_set, hl]; decide), ht, if_pos]
  intro e
  rw [← drop_wrC key c] at e
  have h1 : ((wrC key c).drop 32)[k - 32]? = (((wrC key c).set k v).drop 32)[k - 32]? := by rw [e]
  rw [List.getElem?_drop, List.getElem?_drop, show 32 + (k - 32) = k by omega, List.getElem?_set, if_pos rfl, if_pos (by omega)] at h1
  exact hv h1
/-- Each field has its own place. -/
theorem enc_inj {x y s : Nat} (hx : x < 256 ^ s) (hy : y < 256 ^ s) : enc x s = enc y s ↔ x = y :=
  ⟨fun h => by have h1 := num_put x s [] hx; rw [h, num_put y s [] hy] at h1; exact h1.symm, fun h => by rw [h]⟩
/-- P11.2. -/
def freshC (b now life : Int) : Bool := decide (0 ≤ life) && decide (b ≤ now) && decide (now - b ≤ life)
theorem fresh_u64 {b now life : Int} (hb : -9223372036854775808 ≤ b ∧ b ≤ 9223372036854775807) (hn : -9223372036854775808 ≤ now ∧ now ≤ 9223372036854775807) (hl : 0 ≤ life ∧ life ≤ 9223372036854775807) (h : b ≤ now) :
    (now % 18446744073709551616 - b % 18446744073709551616) % 18446744073709551616 ≤ life % 18446744073709551616 ↔ now - b ≤ life := by omega
/-- P11.3. -/
def deriveC (key text : List UInt8) : Nat × Nat := (if num (mac key text) 0 4 = 0 then 1 else num (mac key text) 0 4, num (mac key text) 4 4)
end Go.Proofs.YtnnkgdkjmmljiaaDoor

namespace Go.Proofs.YtnnkgdkjmmljiaaDoor
open Go.RowKit
set_option linter.unusedVariables false

set_option maxRecDepth 100000 in
set_option maxHeartbeats 4000000 in
theorem ck_word_any (B : Nat) (A : Option Addr) (n c a : Nat) (xs : List UInt8) (w : World) (hn : n ≤ maxLen) (hx : xs.length = n) (hr : Rd w B A xs) (hi : a + 4 ≤ n) :
    Calls Tryd.prog 30 #[.slice A n c, .int .i64 a] w fun e w' => e = .returned (.int .u32 (num xs a 4 : Nat)) ∧ w = w' := by
  have hb : num xs a 4 < 4294967296 := num_lt xs a 4
  have hg := get_yes B A n c a 4 xs w hn hx hr (by unfold IsSize; omega) hi
  obtain ⟨x, hX⟩ : ∃ x, x = num xs a 4 := ⟨_, rfl⟩
  rw [← hX] at hb hg
  have HX := Lib.hid hX
  clear hX hr hx
  go_enter Tryd.func30, Tryd.ntmps30
  go_wp2_with fail
  refine hg.mono ?_
  rintro e w1 ⟨rfl, rfl⟩
  go_wp2_with fail
  go_ret
  exact ⟨ret_int (by rw [HX.out]), rfl⟩

set_option maxRecDepth 100000 in
set_option maxHeartbeats 4000000 in
theorem ck_half_any (B : Nat) (A : Option Addr) (n c a : Nat) (xs : List UInt8) (w : World) (hn : n ≤ maxLen) (hx : xs.length = n) (hr : Rd w B A xs) (hi : a + 2 ≤ n) :
    Calls Tryd.prog 40 #[.slice A n c, .int .i64 a] w fun e w' => e = .returned (.int .u16 (num xs a 2 : Nat)) ∧ w = w' := by
  have hb : num xs a 2 < 65536 := num_lt xs a 2
  have hg := get_yes B A n c a 2 xs w hn hx hr (by unfold IsSize; omega) hi
  obtain ⟨x, hX⟩ : ∃ x, x = num xs a 2 := ⟨_, rfl⟩
  rw [← hX] at hb hg
  have HX := Lib.hid hX
  clear hX hr hx
  go_enter Tryd.func40, Tryd.ntmps40
  go_wp2_with fail
  refine hg.mono ?_
  rintro e w1 ⟨rfl, rfl⟩
  go_wp2_with fail
  go_ret
  exact ⟨ret_int (by rw [HX.out]), rfl⟩

set_option maxRecDepth 100000 in
set_option maxHeartbeats 4000000 in
theorem ck_number_any (A : Option Addr) (n c a s : Nat) (xs : List UInt8) (w : World) (hn : n ≤ 1048576) (hc : n ≤ c) (hcm : c ≤ maxLen) (hx : xs.length = n) (hr : Rd w w.heap.size A xs) (hs : IsSize s) (hi : a + s ≤ n) :
    Calls Tryd.prog 28 #[.slice A n c, .int .i64 a, .int .i64 s] w fun e w' => e = .returned (.int .u64 (num xs a s : Nat)) ∧ Below w.heap.size w w' := by
  have hg := refGet_yes A n c a s xs w (by omega) hc hcm hx hr hs hi
  obtain ⟨x, hX⟩ : ∃ x, x = num xs a s := ⟨_, rfl⟩
  rw [← hX] at hg
  have HX := Lib.hid hX
  clear hX hr hx hs
  go_enter Tryd.func28, Tryd.ntmps28
  go_wp2_with fail
  refine hg.mono ?_
  rintro e w1 ⟨rfl, hb⟩
  go_wp2_with fail
  go_ret
  exact ⟨ret_int (by rw [HX.out]), hb⟩

set_option maxRecDepth 100000 in
set_option maxHeartbeats 4000000 in
theorem isValid_any (c : Ck) (w : World) : Calls Tryd.prog 27 #[.agg #[.int .i64 c.b, .int .u32 (c.ot : Int), .int .u32 (c.pt : Int), .int .u32 (c.os : Int), .int .u32 (c.ps : Int), .int .u32 (c.rw : Int), .int .u16 (c.ou : Int), .int .u16 (c.inn : Int)]] w fun e w' => e = .returned (.bool c.may) ∧ Below w.heap.size w w' := by
  have HB := Lib.hid (below_new w (.cells #[.int .i64 c.b, .int .u32 (c.ot : Int), .int .u32 (c.pt : Int), .int .u32 (c.os : Int), .int .u32 (c.ps : Int), .int .u32 (c.rw : Int), .int .u16 (c.ou : Int), .int .u16 (c.inn : Int)] 26))
  by_cases h0 : 0 ≤ c.b
  · skip
    by_cases h1 : ¬ c.ot = 0
    · skip
      by_cases h2 : ¬ c.pt = 0
      · skip
        by_cases h3 : ¬ c.ou = 0
        · skip
          by_cases h4 : ¬ c.inn = 0
          · skip
            have t0 : decide (c.b ≥ 0) = true := by simp; omega
            have t1 : ((c.ot : Int) != 0) = true := by simp; omega
            have t2 : ((c.pt : Int) != 0) = true := by simp; omega
            have t3 : decide ((c.ou : Int) ≥ 1) = true := by simp; omega
            have t4 : decide ((c.inn : Int) ≥ 1) = true := by simp; omega
            have HM : Hid (true = c.may) := Lib.hid (by simp [Ck.may]; omega)
            clear h0 h1 h2 h3 h4
            go_enter Tryd.func27, Tryd.ntmps27
            go_wp2_with fail
            go_ret
            exact ⟨ret_bool HM.out, HB.out⟩
          · skip
            have t0 : decide (c.b ≥ 0) = true := by simp; omega
            have t1 : ((c.ot : Int) != 0) = true := by simp; omega
            have t2 : ((c.pt : Int) != 0) = true := by simp; omega
            have t3 : decide ((c.ou : Int) ≥ 1) = true := by simp; omega
            have t4 : decide ((c.inn : Int) ≥ 1) = false := by simp; omega
            have HM : Hid (false = c.may) := Lib.hid (by simp [Ck.may]; omega)
            clear h0 h1 h2 h3 h4
            go_enter Tryd.func27, Tryd.ntmps27
            go_wp2_with fail
            go_ret
            exact ⟨ret_bool HM.out, HB.out⟩
        · skip
          have t0 : decide (c.b ≥ 0) = true := by simp; omega
          have t1 : ((c.ot : Int) != 0) = true := by simp; omega
          have t2 : ((c.pt : Int) != 0) = true := by simp; omega
          have t3 : decide ((c.ou : Int) ≥ 1) = false := by simp; omega
          have HM : Hid (false = c.may) := Lib.hid (by simp [Ck.may]; omega)
          clear h0 h1 h2 h3
          go_enter Tryd.func27, Tryd.ntmps27
          go_wp2_with fail
          go_ret
          exact ⟨ret_bool HM.out, HB.out⟩
      · skip
        have t0 : decide (c.b ≥ 0) = true := by simp; omega
        have t1 : ((c.ot : Int) != 0) = true := by simp; omega
        have t2 : ((c.pt : Int) != 0) = false := by simp; omega
        have HM : Hid (false = c.may) := Lib.hid (by simp [Ck.may]; omega)
        clear h0 h1 h2
        go_enter Tryd.func27, Tryd.ntmps27
        go_wp2_with fail
        go_ret
        exact ⟨ret_bool HM.out, HB.out⟩
    · skip
      have t0 : decide (c.b ≥ 0) = true := by simp; omega
      have t1 : ((c.ot : Int) != 0) = false := by simp; omega
      have HM : Hid (false = c.may) := Lib.hid (by simp [Ck.may]; omega)
      clear h0 h1
      go_enter Tryd.func27, Tryd.ntmps27
      go_wp2_with fail
      go_ret
      exact ⟨ret_bool HM.out, HB.out⟩
  · skip
    have t0 : decide (c.b ≥ 0) = false := by simp; omega
    have HM : Hid (false = c.may) := Lib.hid (by simp [Ck.may]; omega)
    clear h0
    go_enter Tryd.func27, Tryd.ntmps27
    go_wp2_with fail
    go_ret
    exact ⟨ret_bool HM.out, HB.out⟩

set_option maxRecDepth 100000 in
set_option maxHeartbeats 4000000 in
theorem refMay_any (c : Ck) (w : World) : Calls Tryd.prog 29 #[.agg #[.int .i64 c.b, .int .u32 (c.ot : Int), .int .u32 (c.pt : Int), .int .u32 (c.os : Int), .int .u32 (c.ps : Int), .int .u32 (c.rw : Int), .int .u16 (c.ou : Int), .int .u16 (c.inn : Int)]] w fun e w' => e = .returned (.bool c.may) ∧ Below w.heap.size w w' := by
  have HB := Lib.hid (below_new w (.cells #[.int .i64 c.b, .int .u32 (c.ot : Int), .int .u32 (c.pt : Int), .int .u32 (c.os : Int), .int .u32 (c.ps : Int), .int .u32 (c.rw : Int), .int .u16 (c.ou : Int), .int .u16 (c.inn : Int)] 26))
  by_cases h0 : 0 ≤ c.b
  · skip
    by_cases h1 : ¬ c.ot = 0
    · skip
      by_cases h2 : ¬ c.pt = 0
      · skip
        by_cases h3 : ¬ c.ou = 0
        · skip
          by_cases h4 : ¬ c.inn = 0
          · skip
            have t0 : decide (c.b ≥ 0) = true := by simp; omega
            have t1 : ((c.ot : Int) != 0) = true := by simp; omega
            have t2 : ((c.pt : Int) != 0) = true := by simp; omega
            have t3 : decide ((c.ou : Int) ≥ 1) = true := by simp; omega
            have t4 : decide ((c.inn : Int) ≥ 1) = true := by simp; omega
            have HM : Hid (true = c.may) := Lib.hid (by simp [Ck.may]; omega)
            clear h0 h1 h2 h3 h4
            go_enter Tryd.func29, Tryd.ntmps29
            go_wp2_with fail
            go_ret
            exact ⟨ret_bool HM.out, HB.out⟩
          · skip
            have t0 : decide (c.b ≥ 0) = true := by simp; omega
            have t1 : ((c.ot : Int) != 0) = true := by simp; omega
            have t2 : ((c.pt : Int) != 0) = true := by simp; omega
            have t3 : decide ((c.ou : Int) ≥ 1) = true := by simp; omega
            have t4 : decide ((c.inn : Int) ≥ 1) = false := by simp; omega
            have HM : Hid (false = c.may) := Lib.hid (by simp [Ck.may]; omega)
            clear h0 h1 h2 h3 h4
            go_enter Tryd.func29, Tryd.ntmps29
            go_wp2_with fail
            go_ret
            exact ⟨ret_bool HM.out, HB.out⟩
        · skip
          have t0 : decide (c.b ≥ 0) = true := by simp; omega
          have t1 : ((c.ot : Int) != 0) = true := by simp; omega
          have t2 : ((c.pt : Int) != 0) = true := by simp; omega
          have t3 : decide ((c.ou : Int) ≥ 1) = false := by simp; omega
          have HM : Hid (false = c.may) := Lib.hid (by simp [Ck.may]; omega)
          clear h0 h1 h2 h3
          go_enter Tryd.func29, Tryd.ntmps29
          go_wp2_with fail
          go_ret
          exact ⟨ret_bool HM.out, HB.out⟩
      · skip
        have t0 : decide (c.b ≥ 0) = true := by simp; omega
        have t1 : ((c.ot : Int) != 0) = true := by simp; omega
        have t2 : ((c.pt : Int) != 0) = false := by simp; omega
        have HM : Hid (false = c.may) := Lib.hid (by simp [Ck.may]; omega)
        clear h0 h1 h2
        go_enter Tryd.func29, Tryd.ntmps29
        go_wp2_with fail
        go_ret
        exact ⟨ret_bool HM.out, HB.out⟩
    · skip
      have t0 : decide (c.b ≥ 0) = true := by simp; omega
      have t1 : ((c.ot : Int) != 0) = false := by simp; omega
      have HM : Hid (false = c.may) := Lib.hid (by simp [Ck.may]; omega)
      clear h0 h1
      go_enter Tryd.func29, Tryd.ntmps29
      go_wp2_with fail
      go_ret
      exact ⟨ret_bool HM.out, HB.out⟩
  · skip
    have t0 : decide (c.b ≥ 0) = false := by simp; omega
    have HM : Hid (false = c.may) := Lib.hid (by simp [Ck.may]; omega)
    clear h0
    go_enter Tryd.func29, Tryd.ntmps29
    go_wp2_with fail
    go_ret
    exact ⟨ret_bool HM.out, HB.out⟩

set_option maxRecDepth 100000 in
set_option maxHeartbeats 4000000 in
theorem fresh_any (c : Ck) (now life : Int) (w : World) (hb : -9223372036854775808 ≤ c.b ∧ c.b ≤ 9223372036854775807) (hn : -9223372036854775808 ≤ now ∧ now ≤ 9223372036854775807) (hl : -9223372036854775808 ≤ life ∧ life ≤ 9223372036854775807) :
    Calls Tryd.prog 16 #[.agg #[.int .i64 c.b, .int .u32 (c.ot : Int), .int .u32 (c.pt : Int), .int .u32 (c.os : Int), .int .u32 (c.ps : Int), .int .u32 (c.rw : Int), .int .u16 (c.ou : Int), .int .u16 (c.inn : Int)], .int .i64 now, .int .i64 life] w fun e w' => e = .returned (.bool (freshC c.b now life)) ∧ Below w.heap.size w w' := by
  have HB := Lib.hid (below_new w (.cells #[.int .i64 c.b, .int .u32 (c.ot : Int), .int .u32 (c.pt : Int), .int .u32 (c.os : Int), .int .u32 (c.ps : Int), .int .u32 (c.rw : Int), .int .u16 (c.ou : Int), .int .u16 (c.inn : Int)] 26))
  have HLB := Lib.hid hb
  have HLN := Lib.hid hn
  have HLL := Lib.hid hl
  obtain ⟨b, hbb⟩ : ∃ b, b = c.b := ⟨_, rfl⟩
  have HE : Hid (freshC c.b now life = freshC b now life) := Lib.hid (by rw [hbb])
  clear hb hn hl
  by_cases h0 : life < 0
  · have t0 : decide (life < 0) = true := by simp; omega
    have HM : Hid (false = freshC c.b now life) := Lib.hid (by simp [freshC]; omega)
    clear h0 hbb
    go_enter Tryd.func16, Tryd.ntmps16
    go_wp2_with fail
    go_ret
    exact ⟨ret_bool HM.out, HB.out⟩
  · have t0 : decide (life < 0) = false := by simp; omega
    by_cases h1 : now < c.b
    · have t1 : decide (now < c.b) = true := by simp; omega
      have HM : Hid (false = freshC c.b now life) := Lib.hid (by simp [freshC]; omega)
      clear h0 h1 hbb
      go_enter Tryd.func16, Tryd.ntmps16
      go_wp2_with fail
      go_ret
      exact ⟨ret_bool HM.out, HB.out⟩
    · have t1 : decide (now < c.b) = false := by simp; omega
      have HM : Hid (decide (now - c.b ≤ life) = freshC c.b now life) := Lib.hid (by simp [freshC]; omega)
      have hw : decide ((now % 18446744073709551616 - c.b % 18446744073709551616) % 18446744073709551616 ≤ life % 18446744073709551616) = decide (now - c.b ≤ life) := decide_eq_decide.2 (fresh_u64 HLB.out HLN.out ⟨by omega, HLL.out.2⟩ (by omega))
      have HW := Lib.hid hw
      clear h0 h1 hbb hw
      go_enter Tryd.func16, Tryd.ntmps16
      go_wp2_with fail
      go_ret
      exact ⟨ret_bool (by first | exact HW.out.trans HM.out | (simp only [Int.sub_emod_emod, Int.emod_sub_emod] ; exact (by simpa using HW.out.trans HM.out))), HB.out⟩

set_option maxRecDepth 100000 in
set_option maxHeartbeats 4000000 in
theorem refFresh_any (c : Ck) (now life : Int) (w : World) (hb : -9223372036854775808 ≤ c.b ∧ c.b ≤ 9223372036854775807) (hn : -9223372036854775808 ≤ now ∧ now ≤ 9223372036854775807) (hl : -9223372036854775808 ≤ life ∧ life ≤ 9223372036854775807) :
    Calls Tryd.prog 17 #[.agg #[.int .i64 c.b, .int .u32 (c.ot : Int), .int .u32 (c.pt : Int), .int .u32 (c.os : Int), .int .u32 (c.ps : Int), .int .u32 (c.rw : Int), .int .u16 (c.ou : Int), .int .u16 (c.inn : Int)], .int .i64 now, .int .i64 life] w fun e w' => e = .returned (.bool (freshC c.b now life)) ∧ Below w.heap.size w w' := by
  have HB := Lib.hid (below_new w (.cells #[.int .i64 c.b, .int .u32 (c.ot : Int), .int .u32 (c.pt : Int), .int .u32 (c.os : Int), .int .u32 (c.ps : Int), .int .u32 (c.rw : Int), .int .u16 (c.ou : Int), .int .u16 (c.inn : Int)] 26))
  have HLB := Lib.hid hb
  have HLN := Lib.hid hn
  have HLL := Lib.hid hl
  obtain ⟨b, hbb⟩ : ∃ b, b = c.b := ⟨_, rfl⟩
  have HE : Hid (freshC c.b now life = freshC b now life) := Lib.hid (by rw [hbb])
  clear hb hn hl
  by_cases h0 : life < 0
  · have t0 : decide (life ≥ 0) = false := by simp; omega
    have HM : Hid (false = freshC c.b now life) := Lib.hid (by simp [freshC]; omega)
    clear h0 hbb
    go_enter Tryd.func17, Tryd.ntmps17
    go_wp2_with fail
    go_ret
    exact ⟨ret_bool HM.out, HB.out⟩
  · have t0 : decide (life ≥ 0) = true := by simp; omega
    by_cases h1 : now < c.b
    · have t1 : decide (now ≥ c.b) = false := by simp; omega
      have HM : Hid (false = freshC c.b now life) := Lib.hid (by simp [freshC]; omega)
      clear h0 h1 hbb
      go_enter Tryd.func17, Tryd.ntmps17
      go_wp2_with fail
      go_ret
      exact ⟨ret_bool HM.out, HB.out⟩
    · have t1 : decide (now ≥ c.b) = true := by simp; omega
      have HM : Hid (decide (now - c.b ≤ life) = freshC c.b now life) := Lib.hid (by simp [freshC]; omega)
      have hw : decide ((now % 18446744073709551616 - c.b % 18446744073709551616) % 18446744073709551616 ≤ life % 18446744073709551616) = decide (now - c.b ≤ life) := decide_eq_decide.2 (fresh_u64 HLB.out HLN.out ⟨by omega, HLL.out.2⟩ (by omega))
      have HW := Lib.hid hw
      clear h0 h1 hbb hw
      go_enter Tryd.func17, Tryd.ntmps17
      go_wp2_with fail
      go_ret
      exact ⟨ret_bool (by first | exact HW.out.trans HM.out | (simp only [Int.sub_emod_emod, Int.emod_sub_emod] ; exact (by simpa using HW.out.trans HM.out))), HB.out⟩

end Go.Proofs.YtnnkgdkjmmljiaaDoor
