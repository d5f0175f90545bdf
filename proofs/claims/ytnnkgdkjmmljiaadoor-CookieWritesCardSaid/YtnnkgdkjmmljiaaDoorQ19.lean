/-
  Package mac: Same, over any two rows.
  A plain region, hidden from the walk.
  Numbers that come in: their plain values; a slice's head.
-/
import Derived.Test.YtnnkgdkjmmljiaaDoorQ13
import Derived.WalkKit
import Derived.Test.YtnnkgdkjmmljiaaDoorQ1
namespace Go.Proofs.YtnnkgdkjmmljiaaDoor
open Go.RowKit
set_option linter.unusedVariables false

set_option maxHeartbeats 400000 in
theorem same_other (A A' : Option Addr) (n n' c c' : Nat) (w : World) (hn : n ≤ maxLen) (hn' : n' ≤ maxLen) (h : n ≠ n') :
    Calls Tryd.prog 25 #[.slice A n c, .slice A' n' c'] w fun e w' => e = .returned (.bool false) ∧ w = w' := by
  unfold maxLen at hn hn'
  have hne : ((n : Int) != (n' : Int)) = true := by rw [bne_iff_ne]; omega
  go_enter Tryd.func25, Tryd.ntmps25
  go_wp2
  go_ret
  exact ⟨rfl, rfl⟩
set_option maxHeartbeats 400000 in
theorem same_none (A A' : Option Addr) (c c' : Nat) (w : World) :
    Calls Tryd.prog 25 #[.slice A 0 c, .slice A' 0 c'] w fun e w' => e = .returned (.bool true) ∧ w = w' := by
  go_enter Tryd.func25, Tryd.ntmps25
  go_wp2
  refine wp_loop_rounds 1 ?_
  rw [rounds_succ]
  go_wp2
  go_ret
  exact ⟨rfl, rfl⟩

set_option maxHeartbeats 400000 in
theorem same_loop (b o b' o' : Nat) (n c c' : Nat) (xs ys : List UInt8) (w : World) (hn : n ≤ maxLen) (hx : xs.length = n) (hy : ys.length = n)
    (hcx : ∀ k (hk : k < xs.length), w.cell? ⟨b, o + k, none⟩ = some (.int .u8 ((xs[k]).toNat : Int)))
    (hcy : ∀ k (hk : k < ys.length), w.cell? ⟨b', o' + k, none⟩ = some (.int .u8 ((ys[k]).toNat : Int))) :
    Calls Tryd.prog 25 #[.slice (some ⟨b, o, none⟩) n c, .slice (some ⟨b', o', none⟩) n c'] w fun e w' => e = .returned (.bool (unl xs ys n == 0)) ∧ w = w' := by
  unfold maxLen at hn
  have HX := Lib.hid hx
  have HY := Lib.hid hy
  clear hx hy
  go_enter Tryd.func25, Tryd.ntmps25
  go_wp2
  go_loopw [5, 15] (fun u i wr => ∃ k : Nat, k ≤ n ∧ i = .int .i64 k ∧ u = .int .u8 ((unl xs ys k).toNat : Int) ∧ w = wr) (fun _ i _ => n - (intOf i).toNat)
  case atStart => exact ⟨0, Nat.zero_le _, rfl, rfl, rfl⟩
  case round =>
    obtain ⟨k, hk, rfl, rfl, rfl⟩ := hrel
    by_cases hlt : k < n
    · have hx0 := hcx k (by rw [HX.out]; exact hlt)
      have hy0 := hcy k (by rw [HY.out]; exact hlt)
      clear hcx hcy
      go_wp2
      go_roundw
      case rel =>
        refine ⟨k + 1, by omega, by go_num, ?_, trivial⟩
        rw [bits_xor_u8, bits_or_u8, unl, List.getElem?_eq_getElem (by rw [HX.out]; exact hlt), List.getElem?_eq_getElem (by rw [HY.out]; exact hlt)]
        rfl
      case measure => simp [intOf]; omega
    · go_wp2
      have hkn : k = n := by omega
      go_ret
      refine ⟨ret_bool ?_, rfl⟩
      rw [hkn, Bool.eq_iff_iff, beq_iff_eq, beq_iff_eq, ← UInt8.toNat_inj]
      simp

/-- Same over any two rows. -/
theorem same_any (B B' : Nat) (A A' : Option Addr) (n n' c c' : Nat) (xs ys : List UInt8) (w : World) (hx : xs.length = n) (hy : ys.length = n') (hn : n ≤ maxLen) (hn' : n' ≤ maxLen) (rx : Rd w B A xs) (ry : Rd w B' A' ys) :
    Calls Tryd.prog 25 #[.slice A n c, .slice A' n' c'] w fun e w' => e = .returned (.bool (decide (xs = ys))) ∧ w = w' := by
  by_cases h : n = n'
  · subst h
    by_cases h0 : n = 0
    · subst h0
      obtain rfl := List.eq_nil_of_length_eq_zero hx
      obtain rfl := List.eq_nil_of_length_eq_zero hy
      exact (same_none A A' c c' w).mono fun e w' ⟨he, hw⟩ => ⟨he, hw⟩
    · obtain ⟨b, o, rfl, _, hcx⟩ := rx.at_ (by rintro rfl; simp at hx; omega)
      obtain ⟨b', o', rfl, _, hcy⟩ := ry.at_ (by rintro rfl; simp at hy; omega)
      refine (same_loop b o b' o' n c c' xs ys w hn hx hy hcx hcy).mono fun e w' ⟨he, hw⟩ => ⟨?_, hw⟩
      rw [he, ← unl_eq xs ys (hx.trans hy.symm), hx]
  · refine (same_other A A' n n' c c' w hn hn' h).mono fun e w' ⟨he, hw⟩ => ⟨?_, hw⟩
    rw [he]
    exact ret_bool (by simp; rintro rfl; omega)
end Go.Proofs.YtnnkgdkjmmljiaaDoor

namespace Go.Proofs.YtnnkgdkjmmljiaaDoor
open Go.RowKit
set_option linter.unusedVariables false

/-- A region, a range over a function whose walk stops ahead of it. -/
def Held (id : Nat) (ops : Array Oper) : Code := .region id ops false
theorem held_eq (id : Nat) (ops : Array Oper) : Code.region id ops false = Held id ops := rfl
/-- A region that draws its order; the walk stops ahead of it. -/
def Drawn (id : Nat) (ops : Array Oper) : Code := .region id ops true
theorem drawn_eq (id : Nat) (ops : Array Oper) : Code.region id ops true = Drawn id ops := rfl
end Go.Proofs.YtnnkgdkjmmljiaaDoor

namespace Go.Proofs.YtnnkgdkjmmljiaaDoor
open Go.RowKit
set_option linter.unusedVariables false

theorem nat_of_u16 {a : Int} (h : (Lit.int .u16 a).wf = true) : ∃ n : Nat, a = n ∧ n < 65536 := by
  have hb : 0 ≤ a ∧ a ≤ 65535 := by simpa [Lit.wf, IntKind.min, IntKind.max, IntKind.signed, IntKind.bits] using h
  exact ⟨a.toNat, by omega, by omega⟩
theorem Rd.take_ {w : World} {B : Nat} {A : Option Addr} {xs : List UInt8} (h : Rd w B A xs) (k : Nat) : Rd w B A (xs.take k) := by
  rcases h with rfl | ⟨b, o, ha, hb, hc⟩
  · exact .inl (by simp)
  · refine .inr ⟨b, o, ha, hb, fun j x hx => hc j x ?_⟩
    rw [List.getElem?_take] at hx
    split at hx
    · exact hx
    · cases hx
theorem mod_nat (c n : Nat) : (c : Int) % ((n : Int) + 1) = ((c % (n + 1) : Nat) : Int) := by rw [Int.natCast_emod]; rfl
theorem byte_of {a : Int} (h : (Lit.int .u8 a).wf = true) : ∃ t : UInt8, a = (t.toNat : Int) := by
  have hb : 0 ≤ a ∧ a ≤ 255 := by simpa [Lit.wf, IntKind.min, IntKind.max, IntKind.signed, IntKind.bits] using h
  exact ⟨UInt8.ofNat a.toNat, by rw [UInt8.toNat_ofNat']; omega⟩
end Go.Proofs.YtnnkgdkjmmljiaaDoor
