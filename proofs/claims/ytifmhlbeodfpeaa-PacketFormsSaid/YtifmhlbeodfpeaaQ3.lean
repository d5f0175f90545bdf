/-
  octet.Cut, the reference's Cut and Get.
  The reference's Get; octet.Put and the reference's.
  octet.Pad and the reference's.
-/
import Derived.Test.YtifmhlbeodfpeaaQ2
import Derived.WalkSpells
namespace Go.Proofs.Ytifmhlbeodfpeaa
open Go.RowKit
set_option linter.unusedVariables false

set_option maxHeartbeats 400000 in
theorem cut_yes (A : Option Addr) (n c a k : Nat) (xs : List UInt8) (w : World) (hn : n ≤ 140737488355328) (hc : n ≤ c) (hcm : c ≤ maxLen) (hx : xs.length = n) (hr : Rd w w.heap.size A xs) (hak : a + k ≤ n) :
    Calls Try.prog 66 #[.slice A n c, .int .i64 a, .int .i64 k] w fun e w' =>
      ∃ A2 c2, e = .returned (.tuple #[.slice A2 k c2, .bool true]) ∧ Own8 w' 5 w.heap.size A2 k c2 ((xs.drop a).take k) ∧ Below w.heap.size w w' := by
  have H1 : Hid (Within n a k) := ⟨by omega, by omega, by omega, by omega⟩
  have H2 : Hid (Rd w w.heap.size (A.map (·.add a)) ((xs.drop a).take k)) := hr.cut a k
  have H2b : Hid (c = a → Rd w w.heap.size A ((xs.drop a).take k)) := (fun h => .inl (by rw [show k = 0 by omega]; rfl) : _ → _)
  have H3 : Hid (((xs.drop a).take k).length = k) := (by simp; omega : _ = _)
  unfold maxLen at hcm
  have H4 : Hid (n ≤ maxLen) := (by unfold maxLen; omega : _ ≤ _)
  clear hx hr
  go_enter Try.func66, Try.ntmps66
  go_wp2_with (first | (go_at_call 58; refine (inside_yes _ _ _ _ _ _ H4.out H1.out).mono ?_; rintro e w' ⟨rfl, rfl⟩) | (go_at_call 52; refine (clone_any _ _ _ _ _ (by omega) H3.out (by first | exact H2.out | exact H2b.out ‹c = a›)).mono ?_; rintro e w' ⟨A2, c2, rfl, ho, hb⟩))
  all_goals
    go_ret2
    exact ⟨_, _, rfl, ho, hb⟩

set_option maxHeartbeats 400000 in
theorem refCut_yes (A : Option Addr) (n c a k : Nat) (xs : List UInt8) (w : World) (hn : n ≤ 140737488355328) (hc : n ≤ c) (hcm : c ≤ maxLen) (hx : xs.length = n) (hr : Rd w w.heap.size A xs) (hak : a + k ≤ n) :
    Calls Try.prog 61 #[.slice A n c, .int .i64 a, .int .i64 k] w fun e w' =>
      ∃ A2 c2, e = .returned (.tuple #[.slice A2 k c2, .bool true]) ∧ Own8 w' 5 w.heap.size A2 k c2 ((xs.drop a).take k) ∧ Below w.heap.size w w' := by
  have H2 : Hid (Rd w w.heap.size (A.map (·.add a)) ((xs.drop a).take k)) := hr.cut a k
  have H2b : Hid (c = a → Rd w w.heap.size A ((xs.drop a).take k)) := (fun h => .inl (by rw [show k = 0 by omega]; rfl) : _ → _)
  have H3 : Hid (((xs.drop a).take k).length = k) := (by simp; omega : _ = _)
  unfold maxLen at hcm
  clear hx hr
  go_enter Try.func61, Try.ntmps61
  go_wp2_with (go_at_call 30; refine (copyBytes_any _ _ _ _ _ (by omega) H3.out (by first | exact H2.out | exact H2b.out ‹c = a›)).mono ?_; rintro e w' ⟨A2, c2, rfl, ho, hb⟩)
  all_goals
    go_ret2
    exact ⟨_, _, rfl, ho, hb⟩
end Go.Proofs.Ytifmhlbeodfpeaa

namespace Go.Proofs.Ytifmhlbeodfpeaa
open Go.RowKit
set_option linter.unusedVariables false

theorem refMul (m b : Nat) (hm : m < 72057594037927936) (hb : b < 256) : (256 * (m : Int) + (b : Int)) = ((256 * m + b : Nat) : Int) := by omega

set_option maxHeartbeats 400000 in
theorem refGet_yes (A : Option Addr) (n c a s : Nat) (xs : List UInt8) (w : World) (hn : n ≤ 140737488355328) (hc : n ≤ c) (hcm : c ≤ maxLen) (hx : xs.length = n) (hr : Rd w w.heap.size A xs) (hs : IsSize s) (hi : a + s ≤ n) :
    Calls Try.prog 47 #[.slice A n c, .int .i64 a, .int .i64 s] w fun e w' => e = .returned (.tuple #[.int .u64 (num xs a s), .int .i64 0]) ∧ Below w.heap.size w w' := by
  have hs8 : 1 ≤ s ∧ s ≤ 8 := by unfold IsSize at hs; omega
  have H1 := Lib.hid hs
  have HX := Lib.hid hx
  have HR := Lib.hid hr
  clear hs hr hx
  go_enter Try.func47, Try.ntmps47
  go_wp2_with (first | (go_at_call 62; refine (size_yes _ H1.out _).mono ?_; rintro e w' ⟨rfl, rfl⟩) | (go_at_call 61; refine (refCut_yes _ _ _ _ _ _ _ hn hc hcm HX.out HR.out hi).mono ?_; rintro e w1 ⟨A2, c2, rfl, ho, hb⟩))
  obtain ⟨b, o, rfl, hbl, hcx⟩ := ho.rd.at_ (by intro h; have := ho.len; rw [h] at this; simp at this; omega)
  have HL := Lib.hid ho.len
  clear ho
  go_loop [10, 11] (fun x i => ∃ k : Nat, k ≤ s ∧ i = .int .i64 k ∧ x = .int .u64 (num xs a k)) (fun _ i => s - (intOf i).toNat)
  case atStart => exact ⟨0, Nat.zero_le _, rfl, rfl⟩
  case round =>
    obtain ⟨k, hk, rfl, rfl⟩ := hrel
    by_cases hlt : k < s
    · have hkx : a + k < xs.length := by have := HX.out; omega
      have hkl : k < ((xs.drop a).take s).length := by rw [HL.out]; exact hlt
      have hc := hcx k hkl
      have hval : ((xs.drop a).take s)[k] = xs[a + k] := by simp
      rw [hval] at hc
      have hm := num_small xs a k (by omega)
      have hb := (xs[a + k]).toNat_lt
      clear hcx hval
      go_wp2
      go_round
      case rel =>
        refine ⟨k + 1, by omega, by go_num, ?_⟩
        rw [refMul _ _ hm hb, num, List.getElem?_eq_getElem hkx]
        rfl
      case measure => simp [intOf]; omega
    · obtain rfl : k = s := by omega
      go_wp2
      go_ret2
      exact ⟨rfl, hb⟩

set_option maxHeartbeats 400000 in
theorem refGet_size (A : Option Addr) (n c a s : Nat) (xs : List UInt8) (w : World) (hn : n ≤ 140737488355328) (hc : n ≤ c) (hcm : c ≤ maxLen) (hx : xs.length = n) (hr : Rd w w.heap.size A xs) (hs : ¬ IsSize s) (hi : a + s ≤ n) :
    Calls Try.prog 47 #[.slice A n c, .int .i64 a, .int .i64 s] w fun e w' => e = .returned (.tuple #[.int .u64 0, .int .i64 1]) ∧ Below w.heap.size w w' := by
  have H1 := Lib.hid hs
  have HX := Lib.hid hx
  have HR := Lib.hid hr
  clear hs hr hx
  go_enter Try.func47, Try.ntmps47
  go_wp2_with (first | (go_at_call 62; refine (size_no _ H1.out _).mono ?_; rintro e w' ⟨rfl, rfl⟩) | (go_at_call 61; refine (refCut_yes _ _ _ _ _ _ _ hn hc hcm HX.out HR.out hi).mono ?_; rintro e w1 ⟨A2, c2, rfl, ho, hb⟩))
  go_ret2
  exact ⟨rfl, hb⟩

set_option maxHeartbeats 400000 in
theorem refGet_out (A : Option Addr) (n c : Nat) (at_ s : Int) (w : World) (hn : n ≤ maxLen) (h : ¬ Within n at_ s) :
    Calls Try.prog 47 #[.slice A n c, .int .i64 at_, .int .i64 s] w fun e w' => e = .returned (.tuple #[.int .u64 0, .int .i64 1]) ∧ Below w.heap.size w w' := by
  have H1 := Lib.hid h
  clear h
  by_cases hs : IsSize s
  · have H2 := Lib.hid hs
    clear hs
    go_enter Try.func47, Try.ntmps47
    go_wp2_with (first | (go_at_call 62; refine (size_yes _ H2.out _).mono ?_; rintro e w' ⟨rfl, rfl⟩) | (go_at_call 61; refine (refCutNo _ _ _ _ _ _ hn H1.out).mono ?_; rintro e w1 ⟨rfl, rfl⟩))
    go_ret2
    exact ⟨rfl, Below.refl _ _⟩
  · have H2 := Lib.hid hs
    clear hs
    go_enter Try.func47, Try.ntmps47
    go_wp2_with (first | (go_at_call 62; refine (size_no _ H2.out _).mono ?_; rintro e w' ⟨rfl, rfl⟩) | (go_at_call 61; refine (refCutNo _ _ _ _ _ _ hn H1.out).mono ?_; rintro e w1 ⟨rfl, rfl⟩))
    go_ret2
    exact ⟨rfl, Below.refl _ _⟩

/-! ### Put -/
/-- The byte of x that 256, k times, divides out. -/
def byteOf (x k : Nat) : UInt8 := UInt8.ofNat (x / 256 ^ k)
/-- The encoding of x in s bytes, the highest one first. -/
def enc (x s : Nat) : List UInt8 := (List.range s).map fun j => byteOf x (s - 1 - j)
theorem length_enc (x s : Nat) : (enc x s).length = s := by simp [enc]
theorem get_enc (x s j : Nat) (h : j < s) : (enc x s)[j]? = some (byteOf x (s - 1 - j)) := by simp [enc, h]
theorem toNat_byteOf (x k : Nat) : ((byteOf x k).toNat : Int) = (x / 256 ^ k % 256 : Nat) := by simp [byteOf]

theorem shr_byte (x k : Nat) : ((x : Int) / 2 ^ (8 * k) % 256) = ((byteOf x k).toNat : Int) := by
  have h : (256 : Nat) ^ k = 2 ^ (8 * k) := by rw [Nat.pow_mul]
  rw [toNat_byteOf, h, Int.natCast_emod, Int.natCast_ediv, Int.natCast_pow]
  rfl
theorem rd_one (w : World) (t : TypeId) (v : Int) (b : UInt8) (h : v = (b.toNat : Int)) : Rd (w.alloc (.cells #[.int .u8 v] t)) (w.heap.size + 1) (some ⟨w.heap.size, 0, none⟩) [b] := by
  subst h
  exact ((RowAt.new w t [b]).rd 0 [b] (fun j hj => by simp)).more (by simp)

theorem put_eq (x s : Nat) (xs ys : List UInt8) (hl : ys.length = xs.length + s) (h1 : ∀ j, j < xs.length → ys[j]? = xs[j]?) (h2 : ∀ j, j < s → ys[xs.length + j]? = some (byteOf x (s - 1 - j))) : ys = xs ++ enc x s := by
  apply List.ext_getElem?
  intro i
  rw [List.getElem?_append]
  split
  · exact h1 i ‹_›
  · rcases Nat.lt_or_ge (i - xs.length) s with hi | hi
    · rw [get_enc _ _ _ hi, ← h2 _ hi]
      congr 1
      omega
    · rw [List.getElem?_eq_none (by omega), List.getElem?_eq_none (by rw [length_enc]; omega)]

set_option maxHeartbeats 400000 in
theorem put_no (A : Option Addr) (n c : Nat) (x : Nat) (s : Int) (xs : List UInt8) (w : World) (hn : n ≤ 140737488355328) (hx : xs.length = n) (hr : Rd w w.heap.size A xs) (hs : ¬ IsSize s) :
    Calls Try.prog 32 #[.slice A n c, .int .u64 x, .int .i64 s] w fun e w' => ∃ A2 c2, e = .returned (.slice A2 n c2) ∧ Own8 w' 5 w.heap.size A2 n c2 xs ∧ Below w.heap.size w w' := by
  have H1 := Lib.hid hs
  have HX := Lib.hid hx
  clear hs hx
  go_enter Try.func32, Try.ntmps32
  go_wp2_with (first | (go_at_call 51; refine (isSize_no _ H1.out _).mono ?_; rintro e w' ⟨rfl, rfl⟩) | (go_at_call 52; refine (clone_any _ _ _ _ _ hn HX.out hr).mono ?_; rintro e w' ⟨A2, c2, rfl, ho, hb⟩))
  go_ret
  exact ⟨_, _, rfl, ho, hb⟩

set_option maxHeartbeats 400000 in
theorem put_yes (A : Option Addr) (n c : Nat) (x s : Nat) (xs : List UInt8) (w : World) (hn : n ≤ 140737488355300) (hxb : x < 18446744073709551616) (hx : xs.length = n) (hr : Rd w w.heap.size A xs) (hs : IsSize s) :
    Calls Try.prog 32 #[.slice A n c, .int .u64 x, .int .i64 s] w fun e w' => ∃ g, e = .returned (.slice (some ⟨g, 0, none⟩) (n + s) (n + s)) ∧ w.heap.size ≤ g ∧ RowAt w' 5 g (xs ++ enc x s) ∧ Below w.heap.size w w' := by
  have hs8 : 1 ≤ s ∧ s ≤ 8 := by unfold IsSize at hs; omega
  obtain ⟨i, h8⟩ := Try.ty8
  have hmk := run_make8 (P := Try.prog) h8.slice h8.info h8.zero h8.size h8.bytes .i64 .i64 (n + s) (n + s) (by omega) (by omega)
  have H1 := Lib.hid hs
  have HX := Lib.hid hx
  have HXB := Lib.hid hxb
  have hr1 := hr.alloc (Nat.le_refl _) (.cells (row8 (List.replicate (n + s) 0)) 5)
  clear hs hx hr hxb
  go_enter Try.func32, Try.ntmps32
  go_wp2_with (first | (go_at_call 51; refine (isSize_yes _ H1.out _).mono ?_; rintro e w' ⟨rfl, rfl⟩) | (with_reducible refine wpList_copy8 h8 _ rfl (.tmp 19) (.tmp 20) rfl w.heap.size 0 (n + s) (n + s) _ rfl (RowAt.new _ _ _) _ _ _ _ _ rfl HX.out hr1 (by omega) (by simp) ?_; intro w1 hrow hg1))
  have hbl1 : Below w.heap.size w w1 := ((Below.refl _ _).alloc (Nat.le_refl _) _).grown hg1 (by simp) (fun k hk => by injection hk with hk; omega)
  have hrow1 : RowAt w1 5 w.heap.size (xs ++ List.replicate s 0) := by
    have h := hrow
    have hx := HX.out
    rwa [List.take_zero, List.nil_append, Nat.zero_add, List.drop_replicate, Nat.add_sub_cancel_left] at h
  clear hrow hg1 hmk
  go_loopw [23] (fun i wr => ∃ (k : Nat) (ys : List UInt8), k ≤ s ∧ i = .int .i64 k ∧ Hid (ys.length = n + s) ∧ Hid (∀ j, j < n → ys[j]? = xs[j]?) ∧ Hid (∀ j, s - k ≤ j → j < s → ys[n + j]? = some (byteOf x (s - 1 - j))) ∧ RowAt wr 5 w.heap.size ys ∧ Below w.heap.size w wr) (fun i _ => s - (intOf i).toNat)
  case atStart =>
    refine ⟨0, _, Nat.zero_le _, rfl, (show _ = _ by have := HX.out; simp [this]), (show ∀ _, _ from fun j hj => ?_), (fun j h1 h2 => by omega : ∀ _, _), hrow1, hbl1⟩
    rw [List.getElem?_append_left (by have := HX.out; omega)]
  case round =>
    clear hrow1 hbl1
    obtain ⟨k, ys, hk, rfl, hlen, hj, he, hrow, hb⟩ := hrel
    by_cases hlt : k < s
    · have hc := hrow.cell (n + s - 1 - k) (by have := hlen.out; omega)
      have hf := hrow.frozen (n + s - 1 - k)
      have HR := Lib.hid (hrow.set_ (n + s - 1 - k) (byteOf x k))
      have hb' := hb.setCell (p := ⟨w.heap.size, n + s - 1 - k, none⟩) (Nat.le_refl _) (.int .u8 ((byteOf x k).toNat : Int))
      have hxb := HXB.out
      clear hrow
      go_wp2
      rw [shr_byte]
      go_roundw
      case rel =>
        refine ⟨k + 1, ys.set (n + s - 1 - k) (byteOf x k), by omega, by go_num, (show _ = _ by simpa using hlen.out), (show ∀ _, _ from fun j h1 => ?_), (show ∀ _, _ from fun j h1 h2 => ?_), HR.out, hb'⟩
        · rw [List.getElem?_set, if_neg (by omega)]
          exact hj.out j h1
        · have := hlen.out
          rw [List.getElem?_set]
          split
          · rw [if_pos (by omega), show s - 1 - j = k by omega]
          · exact he.out j (by omega) h2
      case measure => simp [intOf]; omega
    · obtain rfl : k = s := by omega
      go_wp2
      go_ret
      refine ⟨_, rfl, Nat.le_refl _, ?_, hb⟩
      have hx := HX.out
      rw [← put_eq x k xs ys (by rw [hlen.out, hx]) (fun j h => hj.out j (by omega)) (fun j h => by rw [hx]; exact he.out j (by omega) h)]
      exact hrow

set_option maxHeartbeats 400000 in
theorem refPut_no (A : Option Addr) (n c : Nat) (x : Nat) (s : Int) (xs : List UInt8) (w : World) (hn : n ≤ 140737488355328) (hx : xs.length = n) (hr : Rd w w.heap.size A xs) (hs : ¬ IsSize s) :
    Calls Try.prog 50 #[.slice A n c, .int .u64 x, .int .i64 s] w fun e w' => ∃ A2 c2, e = .returned (.slice A2 n c2) ∧ Own8 w' 5 w.heap.size A2 n c2 xs ∧ Below w.heap.size w w' := by
  have H1 := Lib.hid hs
  have HX := Lib.hid hx
  clear hs hx
  go_enter Try.func50, Try.ntmps50
  go_wp2_with (first | (go_at_call 62; refine (size_no _ H1.out _).mono ?_; rintro e w' ⟨rfl, rfl⟩) | (go_at_call 30; refine (copyBytes_any _ _ _ _ _ hn HX.out hr).mono ?_; rintro e w' ⟨A2, c2, rfl, ho, hb⟩))
  go_ret
  exact ⟨_, _, rfl, ho, hb⟩

theorem enc_snoc (x s k : Nat) (hk : k < s) : (enc x s).take k ++ [byteOf x (s - 1 - k)] = (enc x s).take (k + 1) := by
  apply List.ext_getElem?
  intro j
  rw [List.getElem?_append, List.getElem?_take, List.getElem?_take, List.length_take, length_enc, Nat.min_eq_left (by omega)]
  by_cases h1 : j < k
  · rw [if_pos h1, if_pos h1, if_pos (by omega)]
  · rw [if_neg h1]
    by_cases h2 : j = k
    · subst h2
      rw [if_pos (by omega), get_enc _ _ _ hk]; simp
    · rw [if_neg (by omega)]; simp; omega

set_option maxHeartbeats 400000 in
theorem refPut_yes (A : Option Addr) (n c : Nat) (x s : Nat) (xs : List UInt8) (w : World) (hn : n ≤ 140737488355300) (hxb : x < 18446744073709551616) (hx : xs.length = n) (hr : Rd w w.heap.size A xs) (hs : IsSize s) :
    Calls Try.prog 50 #[.slice A n c, .int .u64 x, .int .i64 s] w fun e w' => ∃ A2 c2, e = .returned (.slice A2 (n + s) c2) ∧ Own8 w' 5 w.heap.size A2 (n + s) c2 (xs ++ enc x s) ∧ Below w.heap.size w w' := by
  have hs8 : 1 ≤ s ∧ s ≤ 8 := by unfold IsSize at hs; omega
  obtain ⟨i, h8⟩ := Try.ty8
  have H1 := Lib.hid hs
  have HX := Lib.hid hx
  have HXB := Lib.hid hxb
  clear hs hx hxb
  go_enter Try.func50, Try.ntmps50
  go_wp2_with (first | (go_at_call 62; refine (size_yes _ H1.out _).mono ?_; rintro e w' ⟨rfl, rfl⟩) | (go_at_call 30; refine (copyBytes_any _ _ _ _ _ (by omega) HX.out hr).mono ?_; rintro e w1 ⟨A2, c2, rfl, ho, hb⟩))
  go_loopw [7, 8] (fun v i wr => ∃ (k : Nat) (A3 : Option Addr) (c3 : Nat), k ≤ s ∧ i = .int .i64 ((s : Int) - 1 - k) ∧ v = .slice A3 (n + k) c3 ∧ Own8 wr 5 w.heap.size A3 (n + k) c3 (xs ++ (enc x s).take k) ∧ Below w.heap.size w wr) (fun _ i _ => (intOf i + 1).toNat)
  case atStart => exact ⟨0, A2, c2, Nat.zero_le _, by go_num, rfl, by simpa using ho, hb⟩
  case round =>
    clear ho hb
    obtain ⟨k, A3, c3, hk, rfl, rfl, ho, hb⟩ := hrel
    by_cases hlt : k < s
    · have hz := hb.size
      have h1 := rd_one wr 5 _ _ (shr_byte x (s - 1 - k))
      have h2 := ho.alloc (.cells #[.int .u8 ((x : Int) / 2 ^ (8 * (s - 1 - k)) % 256)] 5)
      clear ho
      go_wp2_with (at_builtin; refine wpList_append8 h8 _ rfl _ _ rfl w.heap.size _ _ _ _ rfl h2 _ _ _ _ _ rfl rfl h1 (by omega) (by simp; omega) ?_; intro A4 c4 w4 h4 hg4 ho4)
      go_roundw
      case rel =>
        refine ⟨k + 1, A4, c4, by omega, by go_num, rfl, ?_, (hb.alloc hz _).grown hg4 (by simp; omega) h2.blk⟩
        rw [List.append_assoc, enc_snoc x s k hlt] at h4
        exact h4
      case measure => simp [intOf]; omega
    · obtain rfl : k = s := by omega
      go_wp2
      go_ret
      refine ⟨_, _, rfl, ?_, hb⟩
      rw [List.take_of_length_le (by rw [length_enc]; omega)] at ho
      exact ho
end Go.Proofs.Ytifmhlbeodfpeaa

namespace Go.Proofs.Ytifmhlbeodfpeaa
open Go.RowKit
set_option linter.unusedVariables false

/-- What n is rounded up to. -/
def up4 (n : Nat) : Nat := (n + 3) / 4 * 4
theorem up4_int (n : Nat) : ((n : Int) + 3) / 4 * 4 = (up4 n : Int) := by unfold up4; omega
theorem up4_bd (n : Nat) : n ≤ up4 n ∧ up4 n ≤ n + 3 := by unfold up4; omega

set_option maxHeartbeats 400000 in
theorem pad_any (A : Option Addr) (n c : Nat) (xs : List UInt8) (w : World) (hn : n ≤ 140737488355300) (hx : xs.length = n) (hr : Rd w w.heap.size A xs) :
    Calls Try.prog 53 #[.slice A n c] w fun e w' => ∃ g, e = .returned (.slice (some ⟨g, 0, none⟩) (up4 n) (up4 n)) ∧ w.heap.size ≤ g ∧ RowAt w' 5 g (xs ++ List.replicate (up4 n - n) 0) ∧ Below w.heap.size w w' := by
  obtain ⟨i, h8⟩ := Try.ty8
  have hu := up4_bd n
  have hmk := run_make8 (P := Try.prog) h8.slice h8.info h8.zero h8.size h8.bytes .i64 .i64 (up4 n : Int) (up4 n) rfl (by omega)
  have HX := Lib.hid hx
  have HU : Hid (((n : Int) + 3) / 4 * 4 = (up4 n : Int)) := up4_int n
  have hr1 := hr.alloc (Nat.le_refl _) (.cells (row8 (List.replicate (up4 n) 0)) 5)
  clear hx hr
  go_enter Try.func53, Try.ntmps53
  go_wp2_with (first | (go_at_call 36; refine (round_yes _ (by omega) (by omega) _).mono ?_; rintro e w' ⟨rfl, rfl⟩; rw [HU.out]) | (with_reducible refine wpList_copy8 h8 _ rfl (.tmp 8) (.tmp 9) rfl w.heap.size 0 (up4 n) (up4 n) _ rfl (RowAt.new _ _ _) _ _ _ _ _ rfl HX.out hr1 (by omega) (by simp) ?_; intro w1 hrow hg1))
  go_ret
  refine ⟨_, rfl, Nat.le_refl _, ?_, ((Below.refl _ _).alloc (Nat.le_refl _) _).grown hg1 (by simp) (fun k hk => by injection hk with hk; omega)⟩
  have h := hrow
  rwa [List.take_zero, List.nil_append, Nat.zero_add, List.drop_replicate] at h

set_option maxHeartbeats 400000 in
theorem refPad_any (A : Option Addr) (n c : Nat) (xs : List UInt8) (w : World) (hn : n ≤ 140737488355300) (hx : xs.length = n) (hr : Rd w w.heap.size A xs) :
    Calls Try.prog 64 #[.slice A n c] w fun e w' => ∃ A2 c2, e = .returned (.slice A2 (up4 n) c2) ∧ Own8 w' 5 w.heap.size A2 (up4 n) c2 (xs ++ List.replicate (up4 n - n) 0) ∧ Below w.heap.size w w' := by
  obtain ⟨i, h8⟩ := Try.ty8
  have hu := up4_bd n
  have HX := Lib.hid hx
  have HU : Hid (((n : Int) + 3) / 4 * 4 = (up4 n : Int)) := up4_int n
  clear hx
  go_enter Try.func64, Try.ntmps64
  go_wp2_with (first | (go_at_call 30; refine (copyBytes_any _ _ _ _ _ (by omega) HX.out hr).mono ?_; rintro e w1 ⟨A2, c2, rfl, ho, hb⟩))
  go_loopw [3] (fun v wr => ∃ (k : Nat) (A3 : Option Addr) (c3 : Nat), n + k ≤ up4 n ∧ v = .slice A3 (n + k) c3 ∧ Own8 wr 5 w.heap.size A3 (n + k) c3 (xs ++ List.replicate k 0) ∧ Below w.heap.size w wr) (fun v _ => match v with | .slice _ m _ => up4 n - m | _ => 0)
  case atStart => exact ⟨0, A2, c2, by omega, rfl, by simpa using ho, hb⟩
  case round =>
    clear ho hb
    obtain ⟨k, A3, c3, hk, rfl, ho, hb⟩ := hrel
    by_cases hlt : n + k < up4 n
    · have hz := hb.size
      have h1 := rd_one wr 5 0 0 rfl
      have h2 := ho.alloc (.cells #[.int .u8 0] 5)
      clear ho
      go_wp2_with (first | (go_at_call 40; refine (refRound_yes _ (by omega) (by omega) _).mono ?_; rintro e w' ⟨rfl, rfl⟩; rw [HU.out]) | (at_builtin; refine wpList_append8 h8 _ rfl _ _ rfl w.heap.size _ _ _ _ rfl h2 _ _ _ _ _ rfl rfl h1 (by omega) (by simp; omega) ?_; intro A4 c4 w4 h4 hg4 ho4))
      go_roundw
      case rel =>
        refine ⟨k + 1, A4, c4, by omega, rfl, ?_, (hb.alloc hz _).grown hg4 (by simp; omega) h2.blk⟩
        rw [List.append_assoc, ← List.replicate_succ'] at h4
        exact h4
      case measure => simp; omega
    · have hk2 : up4 n - n = k := by omega
      have hk3 : n + k = up4 n := by omega
      have HK := Lib.hid hk3
      have HK2 := Lib.hid hk2
      clear hk2 hk3
      go_wp2_with (first | (go_at_call 40; refine (refRound_yes _ (by omega) (by omega) _).mono ?_; rintro e w' ⟨rfl, rfl⟩; rw [HU.out]))
      go_ret
      rw [HK2.out, ← HK.out]
      exact ⟨_, _, rfl, ho, hb⟩
end Go.Proofs.Ytifmhlbeodfpeaa
