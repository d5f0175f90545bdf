/-
  The reference's Get; octet.Put and the reference's.
  octet.Pad and the reference's.
  Package chunk, plainly: the bytes that are written of a chunk; when bytes begin with one, and which.
-/
import Derived.Test.YtnnkgdkjmmljiaaDoorQ2
namespace Go.Proofs.YtnnkgdkjmmljiaaDoor
open Go.RowKit
set_option linter.unusedVariables false

theorem refMul (m b : Nat) (hm : m < 72057594037927936) (hb : b < 256) : (256 * (m : Int) + (b : Int)) = ((256 * m + b : Nat) : Int) := by omega

set_option maxHeartbeats 400000 in
theorem refGet_yes (A : Option Addr) (n c a s : Nat) (xs : List UInt8) (w : World) (hn : n ≤ 140737488355328) (hc : n ≤ c) (hcm : c ≤ maxLen) (hx : xs.length = n) (hr : Rd w w.heap.size A xs) (hs : IsSize s) (hi : a + s ≤ n) :
    Calls Tryd.prog 41 #[.slice A n c, .int .i64 a, .int .i64 s] w fun e w' => e = .returned (.tuple #[.int .u64 (num xs a s), .int .i64 0]) ∧ Below w.heap.size w w' := by
  have hs8 : 1 ≤ s ∧ s ≤ 8 := by unfold IsSize at hs; omega
  have H1 := Lib.hid hs
  have HX := Lib.hid hx
  have HR := Lib.hid hr
  clear hs hr hx
  go_enter Tryd.func41, Tryd.ntmps41
  go_wp2_with (first | (go_at_call 47; refine (size_yes _ H1.out _).mono ?_; rintro e w' ⟨rfl, rfl⟩) | (go_at_call 53; refine (refCut_yes _ _ _ _ _ _ _ hn hc hcm HX.out HR.out hi).mono ?_; rintro e w1 ⟨A2, c2, rfl, ho, hb⟩))
  obtain ⟨b, o, rfl, hbl, hcx⟩ := ho.rd.at_ (by intro h; have := ho.len; rw [h] at this; simp at this; omega)
  have HL := Lib.hid ho.len
  clear ho
  go_loop [10, 11] (fun x i => ∃ k : Nat, k ≤ s ∧ i = .int .i64 k ∧ x = .int .u64 (num xs a k)) (fun _ i => s - (intOf i).toNat)
  case atStart => exact ⟨0, Nat.zero_le _, rfl, rfl⟩
  case round =>
    obtain ⟨k, hk, rfl, rfl⟩ := hrel
    by_cases hlt : k < s
    · have hkx : a + k < xs.length := by have := HX.out; omega
      have hkl : k < ((xs.drop a).take s).length := by rw [HL.out]; exact hlt
      have hc := hcx k hkl
      have hval : ((xs.drop a).take s)[k] = xs[a + k] := by simp
      rw [hval] at hc
      have hm := num_small xs a k (by omega)
      have hb := (xs[a + k]).toNat_lt
      clear hcx hval
      go_wp2
      go_round
      case rel =>
        refine ⟨k + 1, by omega, by go_num, ?_⟩
        rw [refMul _ _ hm hb, num, List.getElem?_eq_getElem hkx]
        rfl
      case measure => simp [intOf]; omega
    · obtain rfl : k = s := by omega
      go_wp2
      go_ret2
      exact ⟨rfl, hb⟩

set_option maxHeartbeats 400000 in
theorem refGet_size (A : Option Addr) (n c a s : Nat) (xs : List UInt8) (w : World) (hn : n ≤ 140737488355328) (hc : n ≤ c) (hcm : c ≤ maxLen) (hx : xs.length = n) (hr : Rd w w.heap.size A xs) (hs : ¬ IsSize s) (hi : a + s ≤ n) :
    Calls Tryd.prog 41 #[.slice A n c, .int .i64 a, .int .i64 s] w fun e w' => e = .returned (.tuple #[.int .u64 0, .int .i64 1]) ∧ Below w.heap.size w w' := by
  have H1 := Lib.hid hs
  have HX := Lib.hid hx
  have HR := Lib.hid hr
  clear hs hr hx
  go_enter Tryd.func41, Tryd.ntmps41
  go_wp2_with (first | (go_at_call 47; refine (size_no _ H1.out _).mono ?_; rintro e w' ⟨rfl, rfl⟩) | (go_at_call 53; refine (refCut_yes _ _ _ _ _ _ _ hn hc hcm HX.out HR.out hi).mono ?_; rintro e w1 ⟨A2, c2, rfl, ho, hb⟩))
  go_ret2
  exact ⟨rfl, hb⟩

set_option maxHeartbeats 400000 in
theorem refGet_out (A : Option Addr) (n c : Nat) (at_ s : Int) (w : World) (hn : n ≤ maxLen) (h : ¬ Within n at_ s) :
    Calls Tryd.prog 41 #[.slice A n c, .int .i64 at_, .int .i64 s] w fun e w' => e = .returned (.tuple #[.int .u64 0, .int .i64 1]) ∧ Below w.heap.size w w' := by
  have H1 := Lib.hid h
  clear h
  by_cases hs : IsSize s
  · have H2 := Lib.hid hs
    clear hs
    go_enter Tryd.func41, Tryd.ntmps41
    go_wp2_with (first | (go_at_call 47; refine (size_yes _ H2.out _).mono ?_; rintro e w' ⟨rfl, rfl⟩) | (go_at_call 53; refine (refCutNo _ _ _ _ _ _ hn H1.out).mono ?_; rintro e w1 ⟨rfl, rfl⟩))
    go_ret2
    exact ⟨rfl, Below.refl _ _⟩
  · have H2 := Lib.hid hs
    clear hs
    go_enter Tryd.func41, Tryd.ntmps41
    go_wp2_with (first | (go_at_call 47; refine (size_no _ H2.out _).mono ?_; rintro e w' ⟨rfl, rfl⟩) | (go_at_call 53; refine (refCutNo _ _ _ _ _ _ hn H1.out).mono ?_; rintro e w1 ⟨rfl, rfl⟩))
    go_ret2
    exact ⟨rfl, Below.refl _ _⟩

/-! ### Put -/
/-- The byte of x that 256, k times, divides out. -/
def byteOf (x k : Nat) : UInt8 := UInt8.ofNat (x / 256 ^ k)
/-- The encoding of x in s bytes, the highest one first. -/
def enc (x s : Nat) : List UInt8 := (List.range s).map fun j => byteOf x (s - 1 - j)
theorem length_enc (x s : Nat) : (enc x s).length = s := by simp [enc]
theorem get_enc (x s j : Nat) (h : j < s) : (enc x s)[j]? = some (byteOf x (s - 1 - j)) := by simp [enc, h]
theorem toNat_byteOf (x k : Nat) : ((byteOf x k).toNat : Int) = (x / 256 ^ k % 256 : Nat) := by simp [byteOf]

theorem shr_byte (x k : Nat) : ((x : Int) / 2 ^ (8 * k) % 256) = ((byteOf x k).toNat : Int) := by
  have h : (256 : Nat) ^ k = 2 ^ (8 * k) := by rw [Nat.pow_mul]
  rw [toNat_byteOf, h, Int.natCast_emod, Int.natCast_ediv, Int.natCast_pow]
  rfl
theorem rd_one (w : World) (t : TypeId) (v : Int) (b : UInt8) (h : v = (b.toNat : Int)) : Rd (w.alloc (.cells #[.int .u8 v] t)) (w.heap.size + 1) (some ⟨w.heap.size, 0, none⟩) [b] := by
  subst h
  exact ((RowAt.new w t [b]).rd 0 [b] (fun j hj => by simp)).more (by simp)

theorem put_eq (x s : Nat) (xs ys : List UInt8) (hl : ys.length = xs.length + s) (h1 : ∀ j, j < xs.length → ys[j]? = xs[j]?) (h2 : ∀ j, j < s → ys[xs.length + j]? = some (byteOf x (s - 1 - j))) : ys = xs ++ enc x s := by
  apply List.ext_getElem?
  intro i
  rw [List.getElem?_append]
  split
  · exact h1 i ‹_›
  · rcases Nat.lt_or_ge (i - xs.length) s with hi | hi
    · rw [get_enc _ _ _ hi, ← h2 _ hi]
      congr 1
      omega
    · rw [List.getElem?_eq_none (by omega), List.getElem?_eq_none (by rw [length_enc]; omega)]

set_option maxHeartbeats 400000 in
theorem put_no (A : Option Addr) (n c : Nat) (x : Nat) (s : Int) (xs : List UInt8) (w : World) (hn : n ≤ 140737488355328) (hx : xs.length = n) (hr : Rd w w.heap.size A xs) (hs : ¬ IsSize s) :
    Calls Tryd.prog 20 #[.slice A n c, .int .u64 x, .int .i64 s] w fun e w' => ∃ A2 c2, e = .returned (.slice A2 n c2) ∧ Own8 w' 5 w.heap.size A2 n c2 xs ∧ Below w.heap.size w w' := by
  have H1 := Lib.hid hs
  have HX := Lib.hid hx
  clear hs hx
  go_enter Tryd.func20, Tryd.ntmps20
  go_wp2_with (first | (go_at_call 31; refine (isSize_no _ H1.out _).mono ?_; rintro e w' ⟨rfl, rfl⟩) | (go_at_call 32; refine (clone_any _ _ _ _ _ hn HX.out hr).mono ?_; rintro e w' ⟨A2, c2, rfl, ho, hb⟩))
  go_ret
  exact ⟨_, _, rfl, ho, hb⟩

set_option maxHeartbeats 400000 in
theorem put_yes (A : Option Addr) (n c : Nat) (x s : Nat) (xs : List UInt8) (w : World) (hn : n ≤ 140737488355300) (hxb : x < 18446744073709551616) (hx : xs.length = n) (hr : Rd w w.heap.size A xs) (hs : IsSize s) :
    Calls Tryd.prog 20 #[.slice A n c, .int .u64 x, .int .i64 s] w fun e w' => ∃ g, e = .returned (.slice (some ⟨g, 0, none⟩) (n + s) (n + s)) ∧ w.heap.size ≤ g ∧ RowAt w' 5 g (xs ++ enc x s) ∧ Below w.heap.size w w' := by
  have hs8 : 1 ≤ s ∧ s ≤ 8 := by unfold IsSize at hs; omega
  obtain ⟨i, h8⟩ := Tryd.ty8
  have hmk := run_make8 (P := Tryd.prog) h8.slice h8.info h8.zero h8.size h8.bytes .i64 .i64 (n + s) (n + s) (by omega) (by omega)
  have H1 := Lib.hid hs
  have HX := Lib.hid hx
  have HXB := Lib.hid hxb
  have hr1 := hr.alloc (Nat.le_refl _) (.cells (row8 (List.replicate (n + s) 0)) 5)
  clear hs hx hr hxb
  go_enter Tryd.func20, Tryd.ntmps20
  go_wp2_with (first | (go_at_call 31; refine (isSize_yes _ H1.out _).mono ?_; rintro e w' ⟨rfl, rfl⟩) | (with_reducible refine wpList_copy8 h8 _ rfl (.tmp 19) (.tmp 20) rfl w.heap.size 0 (n + s) (n + s) _ rfl (RowAt.new _ _ _) _ _ _ _ _ rfl HX.out hr1 (by omega) (by simp) ?_; intro w1 hrow hg1))
  have hbl1 : Below w.heap.size w w1 := ((Below.refl _ _).alloc (Nat.le_refl _) _).grown hg1 (by simp) (fun k hk => by injection hk with hk; omega)
  have hrow1 : RowAt w1 5 w.heap.size (xs ++ List.replicate s 0) := by
    have h := hrow
    have hx := HX.out
    rwa [List.take_zero, List.nil_append, Nat.zero_add, List.drop_replicate, Nat.add_sub_cancel_left] at h
  clear hrow hg1 hmk
  go_loopw [23] (fun i wr => ∃ (k : Nat) (ys : List UInt8), k ≤ s ∧ i = .int .i64 k ∧ Hid (ys.length = n + s) ∧ Hid (∀ j, j < n → ys[j]? = xs[j]?) ∧ Hid (∀ j, s - k ≤ j → j < s → ys[n + j]? = some (byteOf x (s - 1 - j))) ∧ RowAt wr 5 w.heap.size ys ∧ Below w.heap.size w wr) (fun i _ => s - (intOf i).toNat)
  case atStart =>
    refine ⟨0, _, Nat.zero_le _, rfl, (show _ = _ by have := HX.out; simp [this]), (show ∀ _, _ from fun j hj => ?_), (fun j h1 h2 => by omega : ∀ _, _), hrow1, hbl1⟩
    rw [List.getElem?_append_left (by have := HX.out; omega)]
  case round =>
    clear hrow1 hbl1
    obtain ⟨k, ys, hk, rfl, hlen, hj, he, hrow, hb⟩ := hrel
    by_cases hlt : k < s
    · have hc := hrow.cell (n + s - 1 - k) (by have := hlen.out; omega)
      have hf := hrow.frozen (n + s - 1 - k)
      have HR := Lib.hid (hrow.set_ (n + s - 1 - k) (byteOf x k))
      have hb' := hb.setCell (p := ⟨w.heap.size, n + s - 1 - k, none⟩) (Nat.le_refl _) (.int .u8 ((byteOf x k).toNat : Int))
      have hxb := HXB.out
      clear hrow
      go_wp2
      rw [shr_byte]
      go_roundw
      case rel =>
        refine ⟨k + 1, ys.set (n + s - 1 - k) (byteOf x k), by omega, by go_num, (show _ = _ by simpa using hlen.out), (show ∀ _, _ from fun j h1 => ?_), (show ∀ _, _ from fun j h1 h2 => ?_), HR.out, hb'⟩
        · rw [List.getElem?_set, if_neg (by omega)]
          exact hj.out j h1
        · have := hlen.out
          rw [List.getElem?_set]
          split
          · rw [if_pos (by omega), show s - 1 - j = k by omega]
          · exact he.out j (by omega) h2
      case measure => simp [intOf]; omega
    · obtain rfl : k = s := by omega
      go_wp2
      go_ret
      refine ⟨_, rfl, Nat.le_refl _, ?_, hb⟩
      have hx := HX.out
      rw [← put_eq x k xs ys (by rw [hlen.out, hx]) (fun j h => hj.out j (by omega)) (fun j h => by rw [hx]; exact he.out j (by omega) h)]
      exact hrow

set_option maxHeartbeats 400000 in
theorem refPut_no (A : Option Addr) (n c : Nat) (x : Nat) (s : Int) (xs : List UInt8) (w : World) (hn : n ≤ 140737488355328) (hx : xs.length = n) (hr : Rd w w.heap.size A xs) (hs : ¬ IsSize s) :
    Calls Tryd.prog 36 #[.slice A n c, .int .u64 x, .int .i64 s] w fun e w' => ∃ A2 c2, e = .returned (.slice A2 n c2) ∧ Own8 w' 5 w.heap.size A2 n c2 xs ∧ Below w.heap.size w w' := by
  have H1 := Lib.hid hs
  have HX := Lib.hid hx
  clear hs hx
  go_enter Tryd.func36, Tryd.ntmps36
  go_wp2_with (first | (go_at_call 47; refine (size_no _ H1.out _).mono ?_; rintro e w' ⟨rfl, rfl⟩) | (go_at_call 46; refine (copyBytes_any _ _ _ _ _ hn HX.out hr).mono ?_; rintro e w' ⟨A2, c2, rfl, ho, hb⟩))
  go_ret
  exact ⟨_, _, rfl, ho, hb⟩

theorem enc_snoc (x s k : Nat) (hk : k < s) : (enc x s).take k ++ [byteOf x (s - 1 - k)] = (enc x s).take (k + 1) := by
  apply List.ext_getElem?
  intro j
  rw [List.getElem?_append, List.getElem?_take, List.getElem?_take, List.length_take, length_enc, Nat.min_eq_left (by omega)]
  by_cases h1 : j < k
  · rw [if_pos h1, if_pos h1, if_pos (by omega)]
  · rw [if_neg h1]
    by_cases h2 : j = k
    · subst h2
      rw [if_pos (by omega), get_enc _ _ _ hk]; simp
    · rw [if_neg (by omega)]; simp; omega

set_option maxHeartbeats 400000 in
theorem refPut_yes (A : Option Addr) (n c : Nat) (x s : Nat) (xs : List UInt8) (w : World) (hn : n ≤ 140737488355300) (hxb : x < 18446744073709551616) (hx : xs.length = n) (hr : Rd w w.heap.size A xs) (hs : IsSize s) :
    Calls Tryd.prog 36 #[.slice A n c, .int .u64 x, .int .i64 s] w fun e w' => ∃ A2 c2, e = .returned (.slice A2 (n + s) c2) ∧ Own8 w' 5 w.heap.size A2 (n + s) c2 (xs ++ enc x s) ∧ Below w.heap.size w w' := by
  have hs8 : 1 ≤ s ∧ s ≤ 8 := by unfold IsSize at hs; omega
  obtain ⟨i, h8⟩ := Tryd.ty8
  have H1 := Lib.hid hs
  have HX := Lib.hid hx
  have HXB := Lib.hid hxb
  clear hs hx hxb
  go_enter Tryd.func36, Tryd.ntmps36
  go_wp2_with (first | (go_at_call 47; refine (size_yes _ H1.out _).mono ?_; rintro e w' ⟨rfl, rfl⟩) | (go_at_call 46; refine (copyBytes_any _ _ _ _ _ (by omega) HX.out hr).mono ?_; rintro e w1 ⟨A2, c2, rfl, ho, hb⟩))
  go_loopw [7, 8] (fun v i wr => ∃ (k : Nat) (A3 : Option Addr) (c3 : Nat), k ≤ s ∧ i = .int .i64 ((s : Int) - 1 - k) ∧ v = .slice A3 (n + k) c3 ∧ Own8 wr 5 w.heap.size A3 (n + k) c3 (xs ++ (enc x s).take k) ∧ Below w.heap.size w wr) (fun _ i _ => (intOf i + 1).toNat)
  case atStart => exact ⟨0, A2, c2, Nat.zero_le _, by go_num, rfl, by simpa using ho, hb⟩
  case round =>
    clear ho hb
    obtain ⟨k, A3, c3, hk, rfl, rfl, ho, hb⟩ := hrel
    by_cases hlt : k < s
    · have hz := hb.size
      have h1 := rd_one wr 5 _ _ (shr_byte x (s - 1 - k))
      have h2 := ho.alloc (.cells #[.int .u8 ((x : Int) / 2 ^ (8 * (s - 1 - k)) % 256)] 5)
      clear ho
      go_wp2_with (at_builtin; refine wpList_append8 h8 _ rfl _ _ rfl w.heap.size _ _ _ _ rfl h2 _ _ _ _ _ rfl rfl h1 (by omega) (by simp; omega) ?_; intro A4 c4 w4 h4 hg4 ho4)
      go_roundw
      case rel =>
        refine ⟨k + 1, A4, c4, by omega, by go_num, rfl, ?_, (hb.alloc hz _).grown hg4 (by simp; omega) h2.blk⟩
        rw [List.append_assoc, enc_snoc x s k hlt] at h4
        exact h4
      case measure => simp [intOf]; omega
    · obtain rfl : k = s := by omega
      go_wp2
      go_ret
      refine ⟨_, _, rfl, ?_, hb⟩
      rw [List.take_of_length_le (by rw [length_enc]; omega)] at ho
      exact ho
end Go.Proofs.YtnnkgdkjmmljiaaDoor

namespace Go.Proofs.YtnnkgdkjmmljiaaDoor
open Go.RowKit
set_option linter.unusedVariables false

/-- What n is rounded up to. -/
def up4 (n : Nat) : Nat := (n + 3) / 4 * 4
theorem up4_int (n : Nat) : ((n : Int) + 3) / 4 * 4 = (up4 n : Int) := by unfold up4; omega
theorem up4_bd (n : Nat) : n ≤ up4 n ∧ up4 n ≤ n + 3 := by unfold up4; omega

end Go.Proofs.YtnnkgdkjmmljiaaDoor

namespace Go.Proofs.YtnnkgdkjmmljiaaDoor
open Go.RowKit
set_option linter.unusedVariables false

/-- Padded with noughts. -/
def pd (xs : List UInt8) : List UInt8 := xs ++ List.replicate (up4 xs.length - xs.length) 0
theorem length_pd (xs : List UInt8) : (pd xs).length = up4 xs.length := by
  have := up4_bd xs.length
  simp [pd]; omega
/-- A head. -/
def hd (k f : UInt8) (L : Nat) : List UInt8 := [k, f, byteOf L 1, byteOf L 0]
/-- The bytes of a chunk. -/
def wrt (k f : UInt8) (xs : List UInt8) : List UInt8 := if 65531 < xs.length then [] else pd (hd k f (4 + xs.length) ++ xs)
theorem wrt_big {k f : UInt8} {xs : List UInt8} (h : 65531 < xs.length) : wrt k f xs = [] := if_pos h
theorem wrt_small {k f : UInt8} {xs : List UInt8} (h : xs.length ≤ 65531) : wrt k f xs = pd (hd k f (4 + xs.length) ++ xs) := if_neg (by omega)
theorem length_hd (k f : UInt8) (L : Nat) : (hd k f L).length = 4 := rfl
theorem length_wrt {k f : UInt8} {xs : List UInt8} (h : xs.length ≤ 65531) : (wrt k f xs).length = up4 (4 + xs.length) := by
  rw [wrt_small h, length_pd, List.length_append, length_hd]
theorem wrt_le (k f : UInt8) (xs : List UInt8) : (wrt k f xs).length ≤ 65536 := by
  by_cases h : xs.length ≤ 65531
  · rw [length_wrt h]; unfold up4; omega
  · rw [wrt_big (by omega)]; simp

/-- The length that a head tells. -/
def clen (bs : List UInt8) : Nat := num bs 2 2
theorem clen_eq (bs : List UInt8) : clen bs = 256 * (bs[2]?.getD 0).toNat + (bs[3]?.getD 0).toNat := by simp [clen, num]
theorem clen_lt (bs : List UInt8) : clen bs < 65536 := num_lt bs 2 2
/-- Do these bytes begin with a chunk? -/
structure Fits (bs : List UInt8) : Prop where
  four : 4 ≤ bs.length
  lo : 4 ≤ clen bs
  hi : up4 (clen bs) ≤ bs.length
  pad : ∀ j, clen bs ≤ j → j < up4 (clen bs) → bs[j]? = some 0
def kind (bs : List UInt8) : UInt8 := bs[0]?.getD 0
def flag (bs : List UInt8) : UInt8 := bs[1]?.getD 0
def body (bs : List UInt8) : List UInt8 := (bs.drop 4).take (clen bs - 4)
theorem length_body {bs : List UInt8} (h : clen bs ≤ bs.length) : (body bs).length = clen bs - 4 := by
  simp [body]; omega
theorem get_body {bs : List UInt8} (j : Nat) : (body bs)[j]? = if j < clen bs - 4 then bs[4 + j]? else none := by
  rw [body, List.getElem?_take, List.getElem?_drop]

theorem byteOf_back (a b : UInt8) : byteOf (256 * a.toNat + b.toNat) 1 = a ∧ byteOf (256 * a.toNat + b.toNat) 0 = b := by
  have := a.toNat_lt
  have := b.toNat_lt
  constructor
  · apply UInt8.toNat_inj.1; simp [byteOf]; omega
  · apply UInt8.toNat_inj.1; simp [byteOf]
/-- The head and the body that were read are those bytes. -/
theorem head_body {bs : List UInt8} (h4 : 4 ≤ bs.length) (hlo : 4 ≤ clen bs) (hle : clen bs ≤ bs.length) : hd (kind bs) (flag bs) (clen bs) ++ body bs = bs.take (clen bs) := by
  have hb := byteOf_back (bs[2]?.getD 0) (bs[3]?.getD 0)
  rw [← clen_eq] at hb
  have g0 : bs[0]? = some bs[0] := List.getElem?_eq_getElem (by omega)
  have g1 : bs[1]? = some bs[1] := List.getElem?_eq_getElem (by omega)
  have g2 : bs[2]? = some bs[2] := List.getElem?_eq_getElem (by omega)
  have g3 : bs[3]? = some bs[3] := List.getElem?_eq_getElem (by omega)
  apply List.ext_getElem?
  intro i
  rw [List.getElem?_take]
  match i with
  | 0 => rw [if_pos (by omega), g0]; simp [hd, kind, g0]
  | 1 => rw [if_pos (by omega), g1]; simp [hd, flag, g1]
  | 2 => rw [if_pos (by omega), g2]; simp [hd, hb.1, g2]
  | 3 => rw [if_pos (by omega), g3]; simp [hd, hb.2, g3]
  | i + 4 =>
    rw [List.getElem?_append_right (by simp [hd]), length_hd, get_body]
    simp only [Nat.add_sub_cancel]
    by_cases hi : i < clen bs - 4
    · rw [if_pos hi, if_pos (by omega), Nat.add_comm]
    · rw [if_neg hi, if_neg (by omega)]
/-- What is written of what was read. -/
theorem wrt_read {bs : List UInt8} (h4 : 4 ≤ bs.length) (hlo : 4 ≤ clen bs) (hle : clen bs ≤ bs.length) : wrt (kind bs) (flag bs) (body bs) = bs.take (clen bs) ++ List.replicate (up4 (clen bs) - clen bs) 0 := by
  have hc := clen_lt bs
  have hl := length_body hle
  have h := head_body h4 hlo hle
  rw [wrt_small (by omega), hl, show 4 + (clen bs - 4) = clen bs by omega, h, pd, List.length_take, Nat.min_eq_left hle]
theorem pad_iff {bs : List UInt8} (L U : Nat) (hLU : L ≤ U) (hU : U ≤ bs.length) : bs.take L ++ List.replicate (U - L) 0 = bs.take U ↔ ∀ j, L ≤ j → j < U → bs[j]? = some 0 := by
  constructor
  · intro h j hj hu
    have h1 : (bs.take L ++ List.replicate (U - L) 0)[j]? = (bs.take U)[j]? := by rw [h]
    rw [List.getElem?_append_right (by simp; omega), List.getElem?_replicate, List.length_take, if_pos (by omega), List.getElem?_take, if_pos hu] at h1
    exact h1.symm
  · intro h
    apply List.ext_getElem?
    intro i
    rw [List.getElem?_append, List.length_take, List.getElem?_take, List.getElem?_take, List.getElem?_replicate, Nat.min_eq_left (by omega)]
    by_cases h1 : i < L
    · rw [if_pos h1, if_pos h1, if_pos (by omega)]
    · rw [if_neg h1]
      by_cases h2 : i < U
      · rw [if_pos (by omega), if_pos h2, h i (by omega) h2]
      · rw [if_neg (by omega), if_neg h2]
theorem fits_wrt {bs : List UInt8} (h : Fits bs) : wrt (kind bs) (flag bs) (body bs) = bs.take (up4 (clen bs)) := by
  have hb := up4_bd (clen bs)
  have hle := h.hi
  rw [wrt_read h.four h.lo (by omega)]
  exact (pad_iff _ _ hb.1 hle).2 h.pad
theorem wrt_fits {bs : List UInt8} (h4 : 4 ≤ bs.length) (hlo : 4 ≤ clen bs) (hU : up4 (clen bs) ≤ bs.length) (h : wrt (kind bs) (flag bs) (body bs) = bs.take (up4 (clen bs))) : Fits bs := by
  have hb := up4_bd (clen bs)
  rw [wrt_read h4 hlo (by omega)] at h
  exact ⟨h4, hlo, hU, (pad_iff _ _ hb.1 hU).1 h⟩

theorem Fits.zero {bs : List UInt8} (h : Fits bs) : ∀ x ∈ (bs.drop (clen bs)).take (up4 (clen bs) - clen bs), x = 0 := by
  intro x hx
  obtain ⟨j, hj⟩ := List.mem_iff_getElem?.1 hx
  rw [List.getElem?_take, List.getElem?_drop] at hj
  split at hj
  · rw [h.pad (clen bs + j) (by omega) (by omega)] at hj
    exact (Option.some.inj hj).symm
  · cases hj

/-! ### What was written is read -/
section
variable {k f : UInt8} {xs more : List UInt8}
theorem get_wrt (h : xs.length ≤ 65531) : (wrt k f xs ++ more)[0]? = some k ∧ (wrt k f xs ++ more)[1]? = some f ∧ (wrt k f xs ++ more)[2]? = some (byteOf (4 + xs.length) 1) ∧ (wrt k f xs ++ more)[3]? = some (byteOf (4 + xs.length) 0) := by
  rw [wrt_small h]
  exact ⟨rfl, rfl, rfl, rfl⟩
theorem get_wrt4 (h : xs.length ≤ 65531) (j : Nat) : (wrt k f xs)[4 + j]? = if j < xs.length then xs[j]? else if j < up4 (4 + xs.length) - 4 then some 0 else none := by
  have hu := up4_bd (4 + xs.length)
  rw [wrt_small h, pd, List.getElem?_append, List.length_append, length_hd, List.getElem?_append, length_hd, List.getElem?_replicate]
  by_cases h1 : j < xs.length
  · rw [if_pos (by omega), if_neg (by omega), if_pos h1, Nat.add_sub_cancel_left]
  · rw [if_neg (by omega), if_neg h1]
    by_cases h2 : j < up4 (4 + xs.length) - 4
    · rw [if_pos (by omega), if_pos h2]
    · rw [if_neg (by omega), if_neg h2]
theorem clen_of {bs : List UInt8} {n : Nat} (h : n ≤ 65535) (h2 : bs[2]? = some (byteOf n 1)) (h3 : bs[3]? = some (byteOf n 0)) : clen bs = n := by
  rw [clen_eq, h2, h3]
  simp [byteOf]
  omega
theorem clen_wrt (h : xs.length ≤ 65531) : clen (wrt k f xs ++ more) = 4 + xs.length :=
  clen_of (by omega) (get_wrt h).2.2.1 (get_wrt h).2.2.2
theorem read_wrt (h : xs.length ≤ 65531) : Fits (wrt k f xs ++ more) ∧ kind (wrt k f xs ++ more) = k ∧ flag (wrt k f xs ++ more) = f ∧ body (wrt k f xs ++ more) = xs ∧ clen (wrt k f xs ++ more) = 4 + xs.length := by
  have hc := clen_wrt (k := k) (f := f) (more := more) h
  have hu := up4_bd (4 + xs.length)
  have hl := length_wrt (k := k) (f := f) h
  have hg := get_wrt (k := k) (f := f) (more := more) h
  refine ⟨⟨by rw [List.length_append]; omega, by omega, by rw [hc, List.length_append]; omega, fun j h1 h2 => ?_⟩, by rw [kind, hg.1]; rfl, by rw [flag, hg.2.1]; rfl, ?_, hc⟩
  · rw [hc] at h1 h2
    rw [List.getElem?_append_left (by omega)]
    obtain ⟨i, rfl⟩ := Nat.exists_eq_add_of_le (show 4 ≤ j by omega)
    rw [get_wrt4 h, if_neg (by omega), if_pos (by omega)]
  · apply List.ext_getElem?
    intro j
    rw [get_body, hc, Nat.add_sub_cancel_left]
    by_cases hj : j < xs.length
    · rw [if_pos hj, List.getElem?_append_left (by omega), get_wrt4 h, if_pos hj]
    · rw [if_neg hj, List.getElem?_eq_none (by omega)]
theorem clen_take {bs : List UInt8} {j : Nat} (h : 4 ≤ j) : clen (bs.take j) = clen bs := by
  rw [clen_eq, clen_eq, List.getElem?_take, List.getElem?_take, if_pos (by omega), if_pos (by omega)]
/-- A chunk that is cut is none. -/
theorem cut_none {j : Nat} (h : j < (wrt k f xs).length) : ¬ Fits ((wrt k f xs).take j) := by
  intro hf
  by_cases hx : xs.length ≤ 65531
  · have h4 := hf.four
    have hi := hf.hi
    have hc := clen_wrt (k := k) (f := f) (more := []) hx
    rw [List.append_nil] at hc
    rw [List.length_take] at h4 hi
    rw [clen_take (by omega), hc] at hi
    rw [length_wrt hx] at h
    omega
  · rw [wrt_big (by omega)] at h
    simp at h
end
end Go.Proofs.YtnnkgdkjmmljiaaDoor
