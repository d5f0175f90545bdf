/-
  EqBytes: two rows of bytes are told alike just if they are.
  fairleadref08.Same: whether two chunks are alike.
-/
import Derived.Test.YtifmhlbeodfpeaaRows
import Derived.Test.YtifmhlbeodfpeaaQ1
namespace Go.Proofs.Ytifmhlbeodfpeaa
open Go.RowKit
set_option linter.unusedVariables false

/-- What the bytes so far differ in. -/
def unl (xs ys : List UInt8) : Nat → UInt8
  | 0 => 0
  | k + 1 => unl xs ys k ||| ((xs[k]?.getD 0) ^^^ (ys[k]?.getD 0))

theorem or_zero8 (a b : UInt8) : a ||| b = 0 ↔ a = 0 ∧ b = 0 := by
  rw [← UInt8.toNat_inj, ← UInt8.toNat_inj, ← UInt8.toNat_inj, UInt8.toNat_or]
  exact Nat.or_eq_zero_iff
theorem xor_zero8 (a b : UInt8) : a ^^^ b = 0 ↔ a = b := UInt8.xor_eq_zero_iff

theorem unl_zero (xs ys : List UInt8) (n : Nat) : unl xs ys n = 0 ↔ ∀ k, k < n → xs[k]?.getD 0 = ys[k]?.getD 0 := by
  induction n with
  | zero => simp [unl]
  | succ n ih =>
    rw [unl, or_zero8, xor_zero8, ih]
    constructor
    · rintro ⟨h, h'⟩ k hk
      rcases Nat.lt_succ_iff_lt_or_eq.1 hk with hk | rfl
      · exact h k hk
      · exact h'
    · intro h
      exact ⟨fun k hk => h k (by omega), h n (by omega)⟩

theorem unl_eq (xs ys : List UInt8) (h : xs.length = ys.length) : (unl xs ys xs.length == 0) = decide (xs = ys) := by
  rw [Bool.eq_iff_iff, beq_iff_eq, decide_eq_true_iff, unl_zero]
  constructor
  · intro hk
    apply List.ext_getElem h
    intro i h1 h2
    have := hk i h1
    rw [List.getElem?_eq_getElem h1, List.getElem?_eq_getElem h2] at this
    exact this
  · rintro rfl k _
    rfl

theorem bits_or_u8 (a b : UInt8) : bits .or .u8 (a.toNat : Int) (b.toNat : Int) = ((a ||| b).toNat : Int) := by
  rw [u8_or_nat _ _ a.toNat_lt b.toNat_lt, UInt8.toNat_or]
theorem bits_xor_u8 (a b : UInt8) : bits .xor .u8 (a.toNat : Int) (b.toNat : Int) = ((a ^^^ b).toNat : Int) := by
  rw [u8_xor_nat _ _ a.toNat_lt b.toNat_lt, UInt8.toNat_xor]

set_option maxHeartbeats 400000 in
theorem eqBytes_other (A A' : Option Addr) (n n' c c' : Nat) (w : World) (hn : n ≤ maxLen) (hn' : n' ≤ maxLen) (h : n ≠ n') :
    Calls Try.prog 16 #[.slice A n c, .slice A' n' c'] w fun e w' => e = .returned (.bool false) ∧ w = w' := by
  unfold maxLen at hn hn'
  have hne : ((n : Int) != (n' : Int)) = true := by rw [bne_iff_ne]; omega
  go_enter Try.func16, Try.ntmps16
  go_wp2
  go_ret
  exact ⟨rfl, rfl⟩

set_option maxHeartbeats 400000 in
theorem eqBytes_none (A A' : Option Addr) (c c' : Nat) (w : World) :
    Calls Try.prog 16 #[.slice A 0 c, .slice A' 0 c'] w fun e w' => e = .returned (.bool true) ∧ w = w' := by
  go_enter Try.func16, Try.ntmps16
  go_wp2
  refine wp_loop_rounds 1 ?_
  rw [rounds_succ]
  go_wp2
  go_ret
  exact ⟨rfl, rfl⟩

set_option maxHeartbeats 400000 in
theorem eqBytes_loop (b o b' o' : Nat) (n c c' : Nat) (xs ys : List UInt8) (w : World) (hn : n ≤ maxLen) (hx : xs.length = n) (hy : ys.length = n)
    (hcx : ∀ k (hk : k < xs.length), w.cell? ⟨b, o + k, none⟩ = some (.int .u8 ((xs[k]).toNat : Int)))
    (hcy : ∀ k (hk : k < ys.length), w.cell? ⟨b', o' + k, none⟩ = some (.int .u8 ((ys[k]).toNat : Int))) :
    Calls Try.prog 16 #[.slice (some ⟨b, o, none⟩) n c, .slice (some ⟨b', o', none⟩) n c'] w fun e w' => e = .returned (.bool (unl xs ys n == 0)) ∧ ∃ q, w.drewN q = w' := by
  unfold maxLen at hn
  have HX := Lib.hid hx
  have HY := Lib.hid hy
  clear hx hy
  go_enter Try.func16, Try.ntmps16
  go_wp2
  go_loopw [6, 7] (fun u i wr => ∃ k q : Nat, k ≤ n ∧ i = .int .i64 k ∧ u = .int .u8 ((unl xs ys k).toNat : Int) ∧ wr = w.drewN q) (fun _ i _ => n - (intOf i).toNat)
  case atStart => exact ⟨0, 0, Nat.zero_le _, rfl, rfl, rfl⟩
  case round =>
    obtain ⟨k, q, hk, rfl, rfl, rfl⟩ := hrel
    by_cases hlt : k < n
    · have hx0 := hcx k (by rw [HX.out]; exact hlt)
      have hy0 := hcy k (by rw [HY.out]; exact hlt)
      clear hcx hcy
      go_wp2
      go_quiet (fail)
      go_wp2
      go_roundw
      case rel =>
        refine ⟨k + 1, _, by omega, by go_num, ?_, rfl⟩
        rw [bits_xor_u8, bits_or_u8, unl, List.getElem?_eq_getElem (by rw [HX.out]; exact hlt), List.getElem?_eq_getElem (by rw [HY.out]; exact hlt)]
        rfl
      case measure => simp [intOf]; omega
    · go_wp2
      have hkn : k = n := by omega
      go_ret
      refine ⟨ret_bool ?_, q, rfl⟩
      rw [hkn, Bool.eq_iff_iff, beq_iff_eq, beq_iff_eq, ← UInt8.toNat_inj]
      simp

/-- EqBytes over any two rows. -/
theorem eqBytes_any (B B' : Nat) (A A' : Option Addr) (n n' c c' : Nat) (xs ys : List UInt8) (w : World) (hx : xs.length = n) (hy : ys.length = n') (hn : n ≤ maxLen) (hn' : n' ≤ maxLen) (rx : Rd w B A xs) (ry : Rd w B' A' ys) :
    Calls Try.prog 16 #[.slice A n c, .slice A' n' c'] w fun e w' => e = .returned (.bool (decide (xs = ys))) ∧ ∃ q, w.drewN q = w' := by
  by_cases h : n = n'
  · subst h
    by_cases h0 : n = 0
    · subst h0
      obtain rfl := List.eq_nil_of_length_eq_zero hx
      obtain rfl := List.eq_nil_of_length_eq_zero hy
      exact (eqBytes_none A A' c c' w).mono fun e w' ⟨he, hw⟩ => ⟨he, 0, hw⟩
    · obtain ⟨b, o, rfl, _, hcx⟩ := rx.at_ (by rintro rfl; simp at hx; omega)
      obtain ⟨b', o', rfl, _, hcy⟩ := ry.at_ (by rintro rfl; simp at hy; omega)
      refine (eqBytes_loop b o b' o' n c c' xs ys w hn hx hy hcx hcy).mono fun e w' ⟨he, hw⟩ => ⟨?_, hw⟩
      rw [he, ← unl_eq xs ys (hx.trans hy.symm), hx]
  · refine (eqBytes_other A A' n n' c c' w hn hn' h).mono fun e w' ⟨he, hw⟩ => ⟨?_, 0, hw⟩
    rw [he]
    exact ret_bool (by simp; rintro rfl; omega)
end Go.Proofs.Ytifmhlbeodfpeaa

namespace Go.Proofs.Ytifmhlbeodfpeaa
open Go.RowKit
set_option linter.unusedVariables false

theorem byte_ne {a b : UInt8} (h : a ≠ b) : ((a.toNat : Int) == (b.toNat : Int)) = false := by
  rw [beq_eq_false_iff_ne]
  intro he
  exact h (UInt8.toNat_inj.1 (by omega))

set_option maxHeartbeats 1000000 in
theorem same_any (k f k' f' : UInt8) (A A' : Option Addr) (n n' c c' : Nat) (xs ys : List UInt8) (w : World) (hx : xs.length = n) (hy : ys.length = n') (hn : n ≤ maxLen) (hn' : n' ≤ maxLen) (hr : Rd w w.heap.size A xs) (hr' : Rd w w.heap.size A' ys) :
    Calls Try.prog 41 #[.agg #[.int .u8 (k.toNat : Int), .int .u8 (f.toNat : Int), .slice A n c], .agg #[.int .u8 (k'.toNat : Int), .int .u8 (f'.toNat : Int), .slice A' n' c']] w fun e w' => e = .returned (.bool (decide (k = k' ∧ f = f' ∧ xs = ys))) ∧ Below w.heap.size w w' := by
  have HC : Hid (∀ W : World, Below w.heap.size w W → Calls Try.prog 16 #[.slice A n c, .slice A' n' c'] W fun e w' => e = .returned (.bool (decide (xs = ys))) ∧ ∃ q, W.drewN q = w') := Lib.hid fun W hW => eqBytes_any w.heap.size w.heap.size A A' n n' c c' xs ys W hx hy hn hn' (hr.below hW) (hr'.below hW)
  have HB := Lib.hid ((below_new w (.cells #[.int .u8 (k.toNat : Int), .int .u8 (f.toNat : Int), .slice A n c] 41)).alloc (by simp) (.cells #[.int .u8 (k'.toNat : Int), .int .u8 (f'.toNat : Int), .slice A' n' c'] 41))
  clear hx hy hr hr'
  by_cases hk : k = k'
  · subst hk
    by_cases hf : f = f'
    · subst hf
      obtain ⟨d, hd⟩ : ∃ d, d = decide (xs = ys) := ⟨_, rfl⟩
      have hdd : decide (k = k ∧ f = f ∧ xs = ys) = d := by rw [hd]; simp
      rw [hdd]
      rw [← hd] at HC
      clear hd hdd
      go_enter Try.func41, Try.ntmps41
      go_wp2_with fail
      refine (HC.out _ HB.out).mono ?_
      rintro e w1 ⟨rfl, q, rfl⟩
      go_wp2_with fail
      go_ret
      exact ⟨rfl, below_drewN HB.out q⟩
    · have hb := byte_ne hf
      have hdd : decide (k = k ∧ f = f' ∧ xs = ys) = false := by simp [hf]
      rw [hdd]
      clear hdd hf
      go_enter Try.func41, Try.ntmps41
      go_wp2_with fail
      go_ret
      exact ⟨rfl, HB.out⟩
  · have hb := byte_ne hk
    have hdd : decide (k = k' ∧ f = f' ∧ xs = ys) = false := by simp [hk]
    rw [hdd]
    clear hdd hk
    go_enter Try.func41, Try.ntmps41
    go_wp2_with fail
    go_ret
    exact ⟨rfl, HB.out⟩
end Go.Proofs.Ytifmhlbeodfpeaa
