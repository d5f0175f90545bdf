/-
  HMAC-SHA-256: plain mathematics, over no program.
-/
import Derived.Test.YtdhbafmccphelaaDoorShaM
namespace Go.Proofs.YtdhbafmccphelaaDoor
set_option linter.unusedVariables false

/-- A key, or its sum where it has more than 64 bytes. -/
def shr (key : List UInt8) : List UInt8 := if 64 < key.length then dig key else key
/-- THE BLOCK OF A KEY. -/
def blk (key : List UInt8) : List UInt8 := shr key ++ List.replicate (64 - (shr key).length) 0
/-- Bytes, each turned. -/
def msk (m : UInt8) (l : List UInt8) : List UInt8 := l.map fun x => x ^^^ m
/-- THE SUM OF A TEXT UNDER A KEY. -/
def mac (key text : List UInt8) : List UInt8 := dig (msk 92 (blk key) ++ dig (msk 54 (blk key) ++ text))

theorem shr_le (key : List UInt8) : (shr key).length ≤ 64 := by
  unfold shr
  split
  · rw [length_dig]; omega
  · omega
theorem length_blk (key : List UInt8) : (blk key).length = 64 := by
  have := shr_le key
  simp [blk]
  omega
theorem length_msk (m : UInt8) (l : List UInt8) : (msk m l).length = l.length := by simp [msk]
theorem length_mac (key text : List UInt8) : (mac key text).length = 32 := length_dig _
theorem shr_long {key : List UInt8} (h : 64 < key.length) : shr key = dig key := if_pos h
theorem shr_short {key : List UInt8} (h : ¬ 64 < key.length) : shr key = key := if_neg h
theorem blk_dig {key : List UInt8} (h : 64 < key.length) : blk (dig key) = blk key := by
  unfold blk
  rw [shr_long h, shr_short (by rw [length_dig]; omega)]
theorem blk_zero {key : List UInt8} {k : Nat} (h : key.length + k ≤ 64) : blk (key ++ List.replicate k 0) = blk key := by
  unfold blk
  rw [shr_short (show ¬ 64 < (key ++ List.replicate k 0).length by rw [List.length_append, List.length_replicate]; omega), shr_short (show ¬ 64 < key.length by omega), List.append_assoc, List.replicate_append_replicate]
  congr 2
  simp
  omega
theorem mac_dig {key : List UInt8} (h : 64 < key.length) (text : List UInt8) : mac (dig key) text = mac key text := by unfold mac; rw [blk_dig h]
theorem mac_zero {key : List UInt8} {k : Nat} (h : key.length + k ≤ 64) (text : List UInt8) : mac (key ++ List.replicate k 0) text = mac key text := by unfold mac; rw [blk_zero h]

/-- The first k bytes turned, the others not. -/
def mskTo (m : UInt8) (l : List UInt8) (k : Nat) : List UInt8 := msk m (l.take k) ++ l.drop k
theorem length_mskTo (m : UInt8) (l : List UInt8) (k : Nat) : (mskTo m l k).length = l.length := by rw [mskTo, List.length_append, length_msk, List.length_take, List.length_drop]; omega
theorem mskTo_zero (m : UInt8) (l : List UInt8) : mskTo m l 0 = l := by simp [mskTo, msk]
theorem mskTo_end {m : UInt8} {l : List UInt8} {k : Nat} (h : l.length ≤ k) : mskTo m l k = msk m l := by simp [mskTo, List.take_of_length_le h, List.drop_of_length_le h]
theorem mskTo_at {m : UInt8} {l : List UInt8} {k : Nat} (h : k < l.length) : (mskTo m l k)[k]? = some l[k] := by
  unfold mskTo
  rw [List.getElem?_append_right (by simp [msk]; omega), List.getElem?_drop]
  simp [msk, Nat.min_eq_left (Nat.le_of_lt h), List.getElem?_eq_getElem h]
theorem mskTo_step {m : UInt8} {l : List UInt8} {k : Nat} (h : k < l.length) : (mskTo m l k).set k (l[k] ^^^ m) = mskTo m l (k + 1) := by
  unfold mskTo
  have e : (msk m (l.take k)).length = k := by simp [msk]; omega
  rw [List.set_append_right _ _ (by omega), e, Nat.sub_self, List.drop_eq_getElem_cons h, List.set_cons_zero, List.take_add_one, List.getElem?_eq_getElem h]
  unfold msk
  rw [List.map_append, List.append_assoc]
  rfl

theorem jefe0 : (mac [74, 101, 102, 101] [119, 104, 97, 116, 32, 100, 111, 32, 121, 97, 32, 119, 97, 110, 116, 32, 102, 111, 114, 32, 110, 111, 116, 104, 105, 110, 103, 63])[0]? = some 0x5b := by decide +kernel
theorem jefe1 : (mac [74, 101, 102, 101] [119, 104, 97, 116, 32, 100, 111, 32, 121, 97, 32, 119, 97, 110, 116, 32, 102, 111, 114, 32, 110, 111, 116, 104, 105, 110, 103, 63])[1]? = some 0xdc := by decide +kernel
theorem jefe31 : (mac [74, 101, 102, 101] [119, 104, 97, 116, 32, 100, 111, 32, 121, 97, 32, 119, 97, 110, 116, 32, 102, 111, 114, 32, 110, 111, 116, 104, 105, 110, 103, 63])[31]? = some 0x43 := by decide +kernel
end Go.Proofs.YtdhbafmccphelaaDoor
