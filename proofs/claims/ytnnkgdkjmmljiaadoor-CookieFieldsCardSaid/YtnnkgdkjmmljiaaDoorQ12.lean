/-
  Package sha: Write.
  Package sha: padding, Sum of a state, Sum, New.
-/
import Derived.Test.YtnnkgdkjmmljiaaDoorQ11
import Derived.Deep.WholeRow
namespace Go.Proofs.YtnnkgdkjmmljiaaDoor
open Go.RowKit
set_option linter.unusedVariables false
set_option maxRecDepth 100000

theorem write_nil (A : Option Addr) (n c : Nat) (w : World) :
    Calls Tryd.prog 44 #[.pointer none, .slice A n c] w fun e w' => e = .returned (.tuple #[]) ∧ w = w' := by
  go_enter Tryd.func44, Tryd.ntmps44
  go_wp2_with fail
  exact bodyPost_ret (v := .tuple #[]) (results_none rfl _ _ _) rfl ⟨rfl, rfl⟩

/-- A slice's length. -/
def lenOf_ : Value → Nat
  | .slice _ l _ => l
  | _ => 0

theorem copy_b {w : World} {q : Nat} {t : TypeId} {G : List R} {bs zs : List UInt8} {L r b o sl sc : Nat} (hs : Blk w q t (stRow G bs L)) (hG : G.length = 8) (hb : bs.length = 64) (hr : r < 64) (hz : zs.length = Nat.min sl (64 - r))
    (hc : ∀ j x, zs[j]? = some x → w.cell? ⟨b, o + j, none⟩ = some (.int .u8 (x.toNat : Int))) (ty : TypeId) :
    (Builtin.copy_ #[22, 22] ty #[.slice (some ⟨q, 8 + r, none⟩) (64 - r) (64 - r), .slice (some ⟨b, o, none⟩) sl sc]).run Tryd.prog w = .ok (.int .i64 (zs.length : Int)) (w.setRow q (stRow G (fill bs r zs) L)) := by
  have hle : r + zs.length ≤ 64 := by
    have : zs.length ≤ 64 - r := by rw [hz]; exact Nat.min_le_right _ _
    omega
  have h := run_copy_row (P := Tryd.prog) w 22 22 ty 5 q (8 + r) (64 - r) (64 - r) ⟨b, o, none⟩ sl sc (stRow G bs L) t (zs.map fun x => Value.int .u8 (x.toNat : Int)) Tryd.underlying22 (by kernel_rfl) hs (by rw [List.length_map]; exact hz)
    (fun j v hv => by
      rw [List.getElem?_map, Option.map_eq_some_iff] at hv
      obtain ⟨x, hx, rfl⟩ := hv
      rw [Addr.add_mid]
      exact hc j x hx) (by rw [size_stRow hG hb]; simp; omega) (by simp [Value.oneCell'])
  rw [stRow_copy hG hb hle] at h
  rw [h]
  simp [goInt]

set_option maxHeartbeats 2000000 in
theorem write_any (q : Nat) (A : Option Addr) (n c : Nat) (xs ys : List UInt8) (w : World) (hs : St w q xs) (hT : Tabs w) (h2 : 2 ≤ q) (hn : n ≤ c) (hc : c ≤ maxLen) (hy : ys.length = n) (hr : Src w q A ys) (hl : xs.length + n ≤ 1152921504606846976) :
    Calls Tryd.prog 44 #[.pointer (some ⟨q, 0, none⟩), .slice A n c] w fun e w' => e = .returned (.tuple #[]) ∧ St w' q (xs ++ ys) ∧ Tw [q] w w' := by
  unfold maxLen at hc
  obtain ⟨b, o, hA⟩ : ∃ b o, 0 < n → A = some ⟨b, o, none⟩ ∧ b ≠ q ∧ b < w.heap.size ∧ ∀ j x, ys[j]? = some x → w.cell? ⟨b, o + j, none⟩ = some (.int .u8 (x.toNat : Int)) := by
    rcases hr with rfl | ⟨b, o, ha, hb, hlt, hc⟩
    · exact ⟨0, 0, fun h => by simp at hy; omega⟩
    · exact ⟨b, o, fun _ => ⟨ha, hb, hlt, hc⟩⟩
  obtain ⟨G, bs, hs0, i0⟩ := hs
  have hq := hs0.lt
  have HA := Lib.hid hA
  have HY := Lib.hid hy
  have I0 := Lib.hid i0
  clear hA hy hr i0
  go_enter Tryd.func44, Tryd.ntmps44
  go_wp2_with fail
  go_loopw [1] (fun sl wr => ∃ (j : Nat) (A' : Option Addr) (G : List R) (bs : List UInt8), j ≤ n ∧ sl = .slice A' (n - j) (c - j) ∧ Hid (j < n → A' = some ⟨b, o + j, none⟩) ∧ Blk wr q 77 (stRow G bs (xs.length + j)) ∧ Hid (Inv G bs (xs ++ ys.take j)) ∧ Tw [q] w wr) (fun sl _ => lenOf_ sl)
  case atStart => exact ⟨0, A, G, bs, by omega, rfl, Lib.hid (fun h => (HA.out h).1), hs0, Lib.hid (by simpa using I0.out), Tw.refl _ _⟩
  case round =>
    clear hs0 I0
    obtain ⟨j, A', G, bs, hj, rfl, HA', hs, HI, ht⟩ := hrel
    by_cases hlt : j < n
    · obtain rfl := HA'.out hlt
      obtain ⟨-, hbq, hbl, hcell⟩ := HA.out (by omega)
      obtain ⟨L, hL⟩ : ∃ L, L = xs.length + j := ⟨_, rfl⟩
      have hLl : (xs ++ ys.take j).length = L := by rw [List.length_append, List.length_take, HY.out, hL]; omega
      have hLb : L ≤ 1152921504606846976 := by omega
      rw [← hL] at hs
      obtain ⟨r, hr⟩ : ∃ r, r = L % 64 := ⟨_, rfl⟩
      obtain ⟨zs, hz⟩ : ∃ zs, zs = (ys.drop j).take (64 - r) := ⟨_, rfl⟩
      obtain ⟨k, hk⟩ : ∃ k, k = zs.length := ⟨_, rfl⟩
      have hzl : k = Nat.min (n - j) (64 - r) := by rw [hk, hz, List.length_take, List.length_drop, HY.out]; exact Nat.min_comm _ _
      have hk0 : 0 < k := by rw [hzl]; exact Nat.lt_min.2 ⟨by omega, by omega⟩
      have hkn : k ≤ n - j := by rw [hzl]; exact Nat.min_le_left _ _
      have hkr : k ≤ 64 - r := by rw [hzl]; exact Nat.min_le_right _ _
      have hr64 : r < 64 := by omega
      have c72 := (hs.cell 72).trans (stRow_n HI.out.g HI.out.b)
      have hsl : ∀ W : World, (Instr.sliceAt 55 (.pointer (some ⟨q, 8, none⟩)) (some (.int .u64 ((L : Int).tmod 64))) none none).run Tryd.prog W = .ok (.slice (some ⟨q, 8 + r, none⟩) (64 - r) (64 - r)) W :=
        fun W => slice_arr Tryd.underlying55 (by kernel_rfl) _ _ r _ _ _ _ _ hr64 (by rw [Int.tmod_eq_emod_of_nonneg (by omega)]; omega) rfl rfl
      have HCP := Lib.hid (copy_b (w := wr.drewN 1) (zs := zs) (b := b) (o := o + j) (sl := n - j) (sc := c - j) hs HI.out.g HI.out.b hr64 (by rw [← hk]; exact hzl) (fun i x hx => by
        have h1 : ys[j + i]? = some x := by
          have hi : i < 64 - r := by have := (List.getElem?_eq_some_iff.1 hx).1; omega
          rw [hz, List.getElem?_take_of_lt hi, List.getElem?_drop] at hx
          exact hx
        have h2 := hcell (j + i) x h1
        rw [Nat.add_assoc]
        exact (ht.cell hbl (by simpa using hbq)).trans h2))
      have HZ := Lib.hid hz
      have HK := Lib.hid hk
      have HR := Lib.hid hr
      have HL := Lib.hid hL
      have HC := Lib.hid hcell
      have HLl := Lib.hid hLl
      clear hz hk hr hL hcell hzl hLl
      rw [← HK.out] at HCP
      go_wp2_with fail
      go_still_tail 10, (by kernel_rfl)
      refine wpList_copy_run rfl _ _ 22 rfl (.slice (some ⟨q, 8 + r, none⟩) (64 - r) (64 - r)) (.slice (some ⟨b, o + j, none⟩) (n - j) (c - j)) (.int .i64 (k : Int)) rfl rfl _ rfl (HCP.out _) ?_
      have hs1 : Blk ((wr.drewN 1).setRow q (stRow G (fill bs r zs) L)) q 77 (stRow G (fill bs r zs) L) := Blk.setRow (hs.drewN 1) _
      have ht1 : Tw [q] w ((wr.drewN 1).setRow q (stRow G (fill bs r zs) L)) := (ht.drewN 1).setRow q _ (by simp)
      clear hs ht c72 HCP
      generalize (wr.drewN 1).setRow q (stRow G (fill bs r zs) L) = w2 at hs1 ht1 ⊢
      have hb' : (fill bs r zs).length = 64 := length_fill HI.out.b (by rw [← HK.out]; omega)
      have c72 := (hs1.cell 72).trans (stRow_n HI.out.g hb')
      have f72 := hs1.frozen 72
      have hs2 : Blk (w2.setCell ⟨q, 72, none⟩ (.int .u64 ((L : Int) + (k : Int)))) q 77 (stRow G (fill bs r zs) (L + k)) := by
        rw [show (L : Int) + (k : Int) = ((L + k : Nat) : Int) from by omega, ← set_n HI.out.g hb']
        exact hs1.set_ 72 _
      have ht2 : Tw [q] w (w2.setCell ⟨q, 72, none⟩ (.int .u64 ((L : Int) + (k : Int)))) := ht1.trans (Tw.setCell _ _ _ (by simp))
      have HT2 := Lib.hid (hT.tw ht2 (by simp; omega))
      have HS2 := Lib.hid hs2
      have HTW := Lib.hid ht2
      have HX : Hid (xs ++ ys.take (j + k) = (xs ++ ys.take j) ++ zs) := Lib.hid (by
        have e : (ys.drop j).take k = zs := by
          have h1 : zs.take k = zs := by rw [HK.out]; exact List.take_length
          rw [← h1, HZ.out, List.take_take, Nat.min_eq_left hkr]
        rw [List.take_add, e, List.append_assoc])
      have HLK : Hid (xs.length + (j + k) = L + k) := Lib.hid (by rw [HL.out]; omega)
      have HLR : Hid ((xs ++ ys.take j).length % 64 = r) := Lib.hid (by rw [HLl.out]; exact HR.out.symm)
      have HB := Lib.hid hb'
      have hmod : ((L : Int) + (k : Int)) % 64 = ((r + k) % 64 : Nat) := by have := HR.out; omega
      clear hs1 ht1 hs2 ht2 hb'
      by_cases hf : r + k = 64
      · have hbool : (((L : Int) + (k : Int)) % 64 == 0) = true := by rw [hmod, hf]; rfl
        have HF := Lib.hid hf
        clear hmod hf
        by_cases ha : c - j = k
        · go_wp2_with (go_at_call 54; refine (absorb_any q (L + k) G (fill bs r zs) _ HI.out.g HB.out HS2.out HT2.out).mono ?_; rintro e w3 ⟨rfl, hs3, ht3⟩)
          go_roundw
          case rel => exact ⟨j + k, _, _, _, by omega, by rw [Nat.sub_sub, show c - (j + k) = 0 by omega], Lib.hid (fun h => by omega), by rw [HLK.out]; exact hs3, Lib.hid (by have := HI.out.full (zs := zs) (by rw [HLR.out, ← HK.out]; exact HF.out); rw [HLR.out] at this; rw [HX.out]; exact this), HTW.out.trans ht3⟩
          case measure => simp [lenOf_]; omega
        · go_wp2_with (go_at_call 54; refine (absorb_any q (L + k) G (fill bs r zs) _ HI.out.g HB.out HS2.out HT2.out).mono ?_; rintro e w3 ⟨rfl, hs3, ht3⟩)
          go_roundw
          case rel => exact ⟨j + k, _, _, _, by omega, by rw [Nat.sub_sub, Nat.sub_sub], Lib.hid (fun h => by rw [Nat.add_assoc]), by rw [HLK.out]; exact hs3, Lib.hid (by have := HI.out.full (zs := zs) (by rw [HLR.out, ← HK.out]; exact HF.out); rw [HLR.out] at this; rw [HX.out]; exact this), HTW.out.trans ht3⟩
          case measure => simp [lenOf_]; omega
      · have hbool : (((L : Int) + (k : Int)) % 64 == 0) = false := by rw [hmod, beq_eq_false_iff_ne]; omega
        have HF := Lib.hid (show r + k < 64 by omega)
        clear hmod hf
        by_cases ha : c - j = k
        · go_wp2_with fail
          go_roundw
          case rel => exact ⟨j + k, _, _, _, by omega, by rw [Nat.sub_sub, show c - (j + k) = 0 by omega], Lib.hid (fun h => by omega), by rw [HLK.out]; exact HS2.out, Lib.hid (by have := HI.out.part (zs := zs) (by rw [HLR.out, ← HK.out]; exact HF.out); rw [HLR.out] at this; rw [HX.out]; exact this), HTW.out⟩
          case measure => simp [lenOf_]; omega
        · go_wp2_with fail
          go_roundw
          case rel => exact ⟨j + k, _, _, _, by omega, by rw [Nat.sub_sub, Nat.sub_sub], Lib.hid (fun h => by rw [Nat.add_assoc]), by rw [HLK.out]; exact HS2.out, Lib.hid (by have := HI.out.part (zs := zs) (by rw [HLR.out, ← HK.out]; exact HF.out); rw [HLR.out] at this; rw [HX.out]; exact this), HTW.out⟩
          case measure => simp [lenOf_]; omega
    · have hjn : j = n := by omega
      have hn0 : decide ((((n - j : Nat) : Nat) : Int) > 0) = false := by simp; omega
      have HJ := Lib.hid hjn
      clear hjn
      go_wp2_with fail
      go_end0
      refine ⟨rfl, ⟨G, bs, ?_, ?_⟩, ht⟩
      · rw [List.length_append, HY.out, ← HJ.out]
        exact hs
      · have := HI.out
        rwa [HJ.out, List.take_of_length_le (by rw [HY.out]; exact Nat.le_refl _)] at this
end Go.Proofs.YtnnkgdkjmmljiaaDoor

namespace Go.Proofs.YtnnkgdkjmmljiaaDoor
open Go.RowKit
set_option linter.unusedVariables false
set_option maxRecDepth 100000

theorem byt_eq {a b : Nat} (h : a % 256 = b % 256) : byt a = byt b := by
  apply UInt8.toNat_inj.1
  unfold byt
  rw [UInt8.toNat_ofNat', UInt8.toNat_ofNat']
  exact h
theorem putw_app (A B : List UInt8) (a b c d : UInt8) (x : R) (o : Nat) (ho : o = A.length) :
    putw (A ++ a :: b :: c :: d :: B) o x = A ++ byt (x.toNat / 2 ^ 24) :: byt (x.toNat / 2 ^ 16) :: byt (x.toNat / 2 ^ 8) :: byt x.toNat :: B := by
  subst ho
  simp [putw]
theorem pad_eq (n z : Nat) (x1 x2 : R) (hz : z = zer n) (h1 : x1.toNat = 8 * n / 4294967296 % 4294967296) (h2 : x2.toNat = 8 * n % 4294967296) :
    putw (putw ((List.replicate (z + 9) 0).set 0 128) (1 + z) x1) (1 + z + 4) x2 = pad n := by
  have e0 : (List.replicate (z + 9) (0 : UInt8)).set 0 128 = (128 :: List.replicate z 0) ++ 0 :: 0 :: 0 :: 0 :: [0, 0, 0, 0] := by
    rw [show z + 9 = (z + 8) + 1 by omega, List.replicate_succ, List.set_cons_zero, ← List.replicate_append_replicate]
    rfl
  rw [e0, putw_app _ _ _ _ _ _ _ _ (by simp; omega)]
  have e1 : ∀ a b c d : UInt8, (128 :: List.replicate z (0 : UInt8)) ++ a :: b :: c :: d :: [0, 0, 0, 0] = ((128 :: List.replicate z 0) ++ [a, b, c, d]) ++ 0 :: 0 :: 0 :: 0 :: [] := fun a b c d => by simp
  rw [e1, putw_app _ _ _ _ _ _ _ _ (by simp; omega)]
  unfold pad be8
  rw [← hz]
  rw [byt_eq (show x1.toNat / 2 ^ 24 % 256 = 8 * n / 2 ^ 56 % 256 by omega), byt_eq (show x1.toNat / 2 ^ 16 % 256 = 8 * n / 2 ^ 48 % 256 by omega), byt_eq (show x1.toNat / 2 ^ 8 % 256 = 8 * n / 2 ^ 40 % 256 by omega), byt_eq (show x1.toNat % 256 = 8 * n / 2 ^ 32 % 256 by omega),
    byt_eq (show x2.toNat / 2 ^ 24 % 256 = 8 * n / 2 ^ 24 % 256 by omega), byt_eq (show x2.toNat / 2 ^ 16 % 256 = 8 * n / 2 ^ 16 % 256 by omega), byt_eq (show x2.toNat / 2 ^ 8 % 256 = 8 * n / 2 ^ 8 % 256 by omega), byt_eq (show x2.toNat % 256 = 8 * n % 256 by omega)]
  simp

theorem word_ex (m : Nat) : ∃ x : R, x.toNat = m % 4294967296 := ⟨BitVec.ofNat 32 m, by rw [BitVec.toNat_ofNat]⟩
set_option maxHeartbeats 1000000 in
theorem padding_any (n : Nat) (w : World) (hn : n ≤ 1152921504606846976) :
    Calls Tryd.prog 55 #[.int .u64 (n : Int)] w fun e w' => e = .returned (.slice (some ⟨w.heap.size, 0, none⟩) (zer n + 9) (zer n + 9)) ∧ RowAt w' 5 w.heap.size (pad n) ∧ Below w.heap.size w w' := by
  obtain ⟨z, hz⟩ : ∃ z, z = zer n := ⟨_, rfl⟩
  have hz64 : z < 64 := by rw [hz]; exact zer_lt n
  have hzn : ((119 : Int) - (n : Int) % 64) % 64 = (z : Int) := by rw [hz]; unfold zer; omega
  have hmk := fun W : World => run_make8 (P := Tryd.prog) (t := 22) (e := 5) (i := (Tryd.prog.info? 5).get (by kernel_rfl)) Tryd.underlying22 (by kernel_rfl) (by kernel_rfl) (by kernel_rfl) (by kernel_rfl) .u64 .u64 (1 + (z : Int) + 8) (z + 9) (by omega) (by omega) W
  obtain ⟨x1, h1⟩ := word_ex (8 * n / 4294967296)
  obtain ⟨x2, h2⟩ := word_ex (8 * n)
  have hx1 : (8 * (n : Int)) / 4294967296 = (x1.toNat : Int) := by omega
  have hx2 : (8 * (n : Int)) % 4294967296 = (x2.toNat : Int) := by omega
  have HPAD := Lib.hid (pad_eq n z x1 x2 hz h1 h2)
  obtain ⟨P0, hP0⟩ : ∃ P0, P0 = (List.replicate (z + 9) (0 : UInt8)).set 0 128 := ⟨_, rfl⟩
  have hlen : P0.length = z + 9 := by rw [hP0]; simp
  have hset : (row8 (List.replicate (z + 9) 0)).setIfInBounds 0 (.int .u8 128) = row8 P0 := by rw [hP0]; exact set_row8 _ 0 128
  have h00 : (row8 (List.replicate (z + 9) 0))[0]? = some (.int .u8 0) := by rw [get_row8, List.getElem?_replicate, if_pos (by omega)]; rfl
  rw [← hP0] at HPAD
  rw [← hz]
  have HZ := Lib.hid hz
  have HL := Lib.hid hlen
  have hr0 : RowAt (w.alloc (.cells (row8 P0) 5)) 5 w.heap.size P0 := RowAt.new _ _ _
  clear hz h1 h2 hP0 hlen
  have l1 : x1.toNat < 4294967296 := x1.isLt
  have l2 : x2.toNat < 4294967296 := x2.isLt
  go_enter Tryd.func55, Tryd.ntmps55
  have hB0 : Below w.heap.size w (w.alloc (.cells (row8 P0) 5)) := below_new _ _
  go_wp2_with fail
  generalize w.alloc (.cells (row8 P0) 5) = w1 at hr0 hB0 ⊢
  refine (putWord_any _ _ _ _ _ _ x1 _ (by omega) hr0 (by rw [HL.out]; omega)).mono ?_
  rintro e w2 ⟨rfl, hr1, ht1⟩
  go_wp2_with fail
  refine (putWord_any _ _ _ _ _ _ x2 _ (by omega) hr1 (by rw [length_putw, HL.out]; omega)).mono ?_
  rintro e w3 ⟨rfl, hr2, ht2⟩
  go_wp2_with fail
  go_ret
  rw [HPAD.out] at hr2
  exact ⟨rfl, hr2, tw_below hB0 (ht1.trans ht2) (by simp) (Nat.le_refl _)⟩

theorem wpList_nilCheck_ {P : Program} {ops : Array Oper} {rest : List Oper} {o : Oper} {a : Act} {w : World} {Q : Exit → Act → World → Prop} (hg : o.guard = none) (x : Operand) (ho : o.op = .nilCheck x) (p : Addr) (hx : a.eval x = .pointer (some p))
    (h : wpList P ops Q rest (a.put o.dst (.pointer (some p))) w) : wpList P ops Q (o :: rest) a w :=
  wpList_plain hg fun _ hK => by
    unfold Oper.wp execOp
    rw [ho]
    simp only [hx]
    exact hK _ _ h
theorem wpList_end_ {P : Program} {ops : Array Oper} {a : Act} {w : World} {Q : Exit → Act → World → Prop} (h : Q .normal a w) : wpList P ops Q [] a w := h
theorem stRow_one (G : List R) (bs : List UInt8) (n : Nat) : (stRow G bs n).all (·.oneCell') = true := by
  rw [Array.all_eq_true']
  intro x hx
  simp only [stRow, Array.mem_append] at hx
  rcases hx with (hx | hx) | hx
  · exact Array.all_eq_true'.1 (wrow_one G) x hx
  · exact Array.all_eq_true'.1 (row8_one bs) x hx
  · simp at hx; subst hx; rfl
theorem wpList_alloc_ {P : Program} {ops : Array Oper} {rest : List Oper} {o : Oper} {a : Act} {w : World} {Q : Exit → Act → World → Prop} (hg : o.guard = none) (t : TypeId) (ho : o.op = .alloc t) (v : Value) (hz : (zeroValue t).run P w = .ok v w)
    (h : wpList P ops Q rest (a.put o.dst (.pointer (some ⟨w.heap.size, 0, none⟩))) (w.alloc (.cells v.cells t))) : wpList P ops Q (o :: rest) a w :=
  wpList_plain hg fun _ hK => by
    unfold Oper.wp execOp
    simp [ho, hz, go_sem]
    exact hK _ _ h
/-- A state of no bytes, as the type's zero value. -/
theorem zero_state (w : World) : (zeroValue 77).run Tryd.prog w = .ok (.agg (stRow (List.replicate 8 0) (List.replicate 64 0) 0)) w :=
  (zero_of_info (P := Tryd.prog) (t := 77) (v := .agg (stRow (List.replicate 8 0) (List.replicate 64 0) 0)) (n := 73) (by kernel_rfl)).1 w
theorem St.new (w : World) : St (w.alloc (.cells (stRow (List.replicate 8 0) (List.replicate 64 0) 0) 77)) w.heap.size [] := ⟨_, _, Blk.new _ _ _, Inv.zero⟩

theorem new_any (w : World) :
    Calls Tryd.prog 43 #[] w fun e w' => e = .returned (.pointer (some ⟨w.heap.size, 0, none⟩)) ∧ St w' w.heap.size [] ∧ Below w.heap.size w w' := by
  have HST := Lib.hid (St.new w)
  have hz := zero_state
  go_enter Tryd.func43, Tryd.ntmps43
  go_wp2_with fail
  go_ret
  exact ⟨rfl, HST.out, below_new _ _⟩

set_option maxHeartbeats 2000000 in
theorem sumState_any (q : Nat) (xs : List UInt8) (w : World) (hs : St w q xs) (hT : Tabs w) (hl : xs.length ≤ 1152921504606846000) :
    Calls Tryd.prog 45 #[.pointer (some ⟨q, 0, none⟩)] w fun e w' => e = .returned (.agg (row8 (dig xs))) ∧ Below w.heap.size w w' := by
  obtain ⟨S, hS⟩ : ∃ S, S = dig xs := ⟨_, rfl⟩
  have HS := Lib.hid hS
  rw [← hS]
  clear hS
  have h2 := hT.2.2
  have hq := hs.lt
  obtain ⟨G, bs, hb, i⟩ := hs
  have HI := Lib.hid i
  clear i
  have hz := zero_state
  have hb32 : Blk (w.alloc (.cells #[.int .u8 0, .int .u8 0, .int .u8 0, .int .u8 0, .int .u8 0, .int .u8 0, .int .u8 0, .int .u8 0, .int .u8 0, .int .u8 0, .int .u8 0, .int .u8 0, .int .u8 0, .int .u8 0, .int .u8 0, .int .u8 0, .int .u8 0, .int .u8 0, .int .u8 0, .int .u8 0, .int .u8 0, .int .u8 0, .int .u8 0, .int .u8 0, .int .u8 0, .int .u8 0, .int .u8 0, .int .u8 0, .int .u8 0, .int .u8 0, .int .u8 0, .int .u8 0] 46)) w.heap.size 46 (row8 (List.replicate 32 0)) := Blk.new _ _ _
  have hb1 := hb.alloc (.cells #[.int .u8 0, .int .u8 0, .int .u8 0, .int .u8 0, .int .u8 0, .int .u8 0, .int .u8 0, .int .u8 0, .int .u8 0, .int .u8 0, .int .u8 0, .int .u8 0, .int .u8 0, .int .u8 0, .int .u8 0, .int .u8 0, .int .u8 0, .int .u8 0, .int .u8 0, .int .u8 0, .int .u8 0, .int .u8 0, .int .u8 0, .int .u8 0, .int .u8 0, .int .u8 0, .int .u8 0, .int .u8 0, .int .u8 0, .int .u8 0, .int .u8 0, .int .u8 0] 46)
  have hB1 : Below w.heap.size w (w.alloc (.cells #[.int .u8 0, .int .u8 0, .int .u8 0, .int .u8 0, .int .u8 0, .int .u8 0, .int .u8 0, .int .u8 0, .int .u8 0, .int .u8 0, .int .u8 0, .int .u8 0, .int .u8 0, .int .u8 0, .int .u8 0, .int .u8 0, .int .u8 0, .int .u8 0, .int .u8 0, .int .u8 0, .int .u8 0, .int .u8 0, .int .u8 0, .int .u8 0, .int .u8 0, .int .u8 0, .int .u8 0, .int .u8 0, .int .u8 0, .int .u8 0, .int .u8 0, .int .u8 0] 46)) := below_new _ _
  have hz1 : (w.alloc (.cells #[.int .u8 0, .int .u8 0, .int .u8 0, .int .u8 0, .int .u8 0, .int .u8 0, .int .u8 0, .int .u8 0, .int .u8 0, .int .u8 0, .int .u8 0, .int .u8 0, .int .u8 0, .int .u8 0, .int .u8 0, .int .u8 0, .int .u8 0, .int .u8 0, .int .u8 0, .int .u8 0, .int .u8 0, .int .u8 0, .int .u8 0, .int .u8 0, .int .u8 0, .int .u8 0, .int .u8 0, .int .u8 0, .int .u8 0, .int .u8 0, .int .u8 0, .int .u8 0] 46)).heap.size = w.heap.size + 1 := by simp
  go_enter Tryd.func45, Tryd.ntmps45
  rw [whole_eq 3, whole_eq 6, whole_eq 11]
  go_wp2_with fail
  generalize w.alloc (.cells #[.int .u8 0, .int .u8 0, .int .u8 0, .int .u8 0, .int .u8 0, .int .u8 0, .int .u8 0, .int .u8 0, .int .u8 0, .int .u8 0, .int .u8 0, .int .u8 0, .int .u8 0, .int .u8 0, .int .u8 0, .int .u8 0, .int .u8 0, .int .u8 0, .int .u8 0, .int .u8 0, .int .u8 0, .int .u8 0, .int .u8 0, .int .u8 0, .int .u8 0, .int .u8 0, .int .u8 0, .int .u8 0, .int .u8 0, .int .u8 0, .int .u8 0, .int .u8 0] 46) = w1 at hb32 hb1 hB1 hz1 ⊢
  refine whole_list ?_
  refine wpList_move_ rfl _ rfl ?_
  refine wpList_nilCheck_ rfl _ rfl _ rfl ?_
  refine wpList_load_blk hb1 73 (size_stRow HI.out.g HI.out.b) rfl _ _ rfl rfl _ Tryd.underlying77 rfl (by kernel_rfl) ?_
  refine wpList_alloc_ rfl _ rfl _ (zero_state _) ?_
  refine wpList_store_blk (Blk.new _ _ _) 73 (size_stRow rfl rfl) (size_stRow HI.out.g HI.out.b) (stRow_one _ _ _) rfl _ _ _ rfl rfl rfl (by kernel_rfl) ?_
  refine wpList_end_ ?_
  rw [show (Value.agg (stRow (List.replicate 8 0) (List.replicate 64 0) 0)).cells = stRow (List.replicate 8 0) (List.replicate 64 0) 0 from rfl, World.setRow_alloc_new]
  have hp : Blk (w1.alloc (.cells (stRow G bs xs.length) 77)) w1.heap.size 77 (stRow G bs xs.length) := Blk.new _ _ _
  rw [hz1] at hp
  have hb2 := hb1.alloc (.cells (stRow G bs xs.length) 77)
  have hb32' := hb32.alloc (.cells (stRow G bs xs.length) 77)
  have hB2 : Below w.heap.size w (w1.alloc (.cells (stRow G bs xs.length) 77)) := hB1.alloc (by omega) _
  have hz2 : (w1.alloc (.cells (stRow G bs xs.length) 77)).heap.size = w.heap.size + 2 := by simp [hz1]
  rw [hz1]
  clear hb1 hb32 hB1
  generalize w1.alloc (.cells (stRow G bs xs.length) 77) = w2 at hp hb2 hb32' hB2 hz2 ⊢
  clear hz1
  obtain ⟨n, hn⟩ : ∃ n, n = xs.length := ⟨_, rfl⟩
  rw [← hn] at hb2 hp ⊢
  have HN := Lib.hid hn
  have hnl : n ≤ 1152921504606846000 := by omega
  have c72 := (hb2.cell 72).trans (stRow_n HI.out.g HI.out.b)
  clear hn
  go_frame
  go_wp2_with (go_at_call 55; refine (padding_any n w2 (by omega)).mono ?_; rintro e w3 ⟨rfl, hr3, hB3⟩)
  have hst3 : St w3 (w.heap.size + 1) xs := ⟨G, bs, by rw [← HN.out]; exact hp.below hB3 (by omega), HI.out⟩
  have hT3 : Tabs w3 := hT.below (hB2.trans (hB3.mono (by omega))) h2
  have hsrc : Src w3 (w.heap.size + 1) (some ⟨w.heap.size + 2, 0, none⟩) (pad n) := by
    rw [hz2] at hr3
    refine .inr ⟨_, _, rfl, by omega, hr3.lt, fun j x hx => ?_⟩
    obtain ⟨hj, rfl⟩ := List.getElem?_eq_some_iff.1 hx
    rw [Nat.zero_add]
    exact hr3.cell j hj
  have hz64 := zer_lt n
  refine (write_any (w.heap.size + 1) _ (zer n + 9) (zer n + 9) xs (pad n) w3 hst3 hT3 (by omega) (Nat.le_refl _) (by unfold maxLen; omega) (length_pad n) hsrc (by rw [← HN.out]; omega)).mono ?_
  rintro e w4 ⟨rfl, hst4, ht4⟩
  have h32 : Blk w4 w.heap.size 46 (row8 (List.replicate 32 0)) := Blk.tw (hb32'.below hB3 (by omega)) ht4 (by simp)
  have hB4 : Below w.heap.size w w4 := tw_below (hB2.trans (hB3.mono (by omega))) ht4 (by simp) (Nat.le_refl _)
  have hs4 : w.heap.size + 1 < w4.heap.size := hst4.lt
  clear hr3 hB3 hst3 hT3 hsrc ht4 hp hb2 hb32' hB2 c72
  go_wp2_with fail
  have hz4 : (w4.alloc (.cells #[.int .u8 0, .int .u8 0, .int .u8 0, .int .u8 0, .int .u8 0, .int .u8 0, .int .u8 0, .int .u8 0, .int .u8 0, .int .u8 0, .int .u8 0, .int .u8 0, .int .u8 0, .int .u8 0, .int .u8 0, .int .u8 0, .int .u8 0, .int .u8 0, .int .u8 0, .int .u8 0, .int .u8 0, .int .u8 0, .int .u8 0, .int .u8 0, .int .u8 0, .int .u8 0, .int .u8 0, .int .u8 0, .int .u8 0, .int .u8 0, .int .u8 0, .int .u8 0] 46)).heap.size = w4.heap.size + 1 := by simp
  have hd5 : RowAt (w4.alloc (.cells #[.int .u8 0, .int .u8 0, .int .u8 0, .int .u8 0, .int .u8 0, .int .u8 0, .int .u8 0, .int .u8 0, .int .u8 0, .int .u8 0, .int .u8 0, .int .u8 0, .int .u8 0, .int .u8 0, .int .u8 0, .int .u8 0, .int .u8 0, .int .u8 0, .int .u8 0, .int .u8 0, .int .u8 0, .int .u8 0, .int .u8 0, .int .u8 0, .int .u8 0, .int .u8 0, .int .u8 0, .int .u8 0, .int .u8 0, .int .u8 0, .int .u8 0, .int .u8 0] 46)) 46 w4.heap.size (List.replicate 32 0) := Blk.new _ _ _
  have h325 := h32.alloc (.cells #[.int .u8 0, .int .u8 0, .int .u8 0, .int .u8 0, .int .u8 0, .int .u8 0, .int .u8 0, .int .u8 0, .int .u8 0, .int .u8 0, .int .u8 0, .int .u8 0, .int .u8 0, .int .u8 0, .int .u8 0, .int .u8 0, .int .u8 0, .int .u8 0, .int .u8 0, .int .u8 0, .int .u8 0, .int .u8 0, .int .u8 0, .int .u8 0, .int .u8 0, .int .u8 0, .int .u8 0, .int .u8 0, .int .u8 0, .int .u8 0, .int .u8 0, .int .u8 0] 46)
  have hB5 : Below w.heap.size w (w4.alloc (.cells #[.int .u8 0, .int .u8 0, .int .u8 0, .int .u8 0, .int .u8 0, .int .u8 0, .int .u8 0, .int .u8 0, .int .u8 0, .int .u8 0, .int .u8 0, .int .u8 0, .int .u8 0, .int .u8 0, .int .u8 0, .int .u8 0, .int .u8 0, .int .u8 0, .int .u8 0, .int .u8 0, .int .u8 0, .int .u8 0, .int .u8 0, .int .u8 0, .int .u8 0, .int .u8 0, .int .u8 0, .int .u8 0, .int .u8 0, .int .u8 0, .int .u8 0, .int .u8 0] 46)) := hB4.alloc (by omega) _
  have hst5 := hst4.below (below_new w4 (.cells #[.int .u8 0, .int .u8 0, .int .u8 0, .int .u8 0, .int .u8 0, .int .u8 0, .int .u8 0, .int .u8 0, .int .u8 0, .int .u8 0, .int .u8 0, .int .u8 0, .int .u8 0, .int .u8 0, .int .u8 0, .int .u8 0, .int .u8 0, .int .u8 0, .int .u8 0, .int .u8 0, .int .u8 0, .int .u8 0, .int .u8 0, .int .u8 0, .int .u8 0, .int .u8 0, .int .u8 0, .int .u8 0, .int .u8 0, .int .u8 0, .int .u8 0, .int .u8 0] 46)) hst4.lt
  obtain ⟨g, hg⟩ : ∃ g, g = w4.heap.size := ⟨_, rfl⟩
  rw [← hg] at hd5 hz4 hs4 ⊢
  clear hst4 h32 hB4
  generalize w4.alloc (.cells #[.int .u8 0, .int .u8 0, .int .u8 0, .int .u8 0, .int .u8 0, .int .u8 0, .int .u8 0, .int .u8 0, .int .u8 0, .int .u8 0, .int .u8 0, .int .u8 0, .int .u8 0, .int .u8 0, .int .u8 0, .int .u8 0, .int .u8 0, .int .u8 0, .int .u8 0, .int .u8 0, .int .u8 0, .int .u8 0, .int .u8 0, .int .u8 0, .int .u8 0, .int .u8 0, .int .u8 0, .int .u8 0, .int .u8 0, .int .u8 0, .int .u8 0, .int .u8 0] 46) = w5 at hz4 hd5 h325 hB5 hst5 ⊢
  clear hg
  obtain ⟨G', bs', hp5, hi5⟩ := hst5
  have hT5 : Tabs w5 := hT.below hB5 h2
  have hF : add H0 G' = fin xs := by rw [hi5.h, HN.out]; rfl
  have HI5 := Lib.hid hi5
  clear hi5
  rw [← whole_eq 6]
  go_wp2_with (go_at_call 56; refine (hashes_any _ _ G' bs' w5 HI5.out.g hp5 hT5).mono ?_; rintro e w6 ⟨rfl, hB6⟩)
  obtain ⟨F, hFF⟩ : ∃ F, F = fin xs := ⟨_, rfl⟩
  rw [← hFF]
  have HF := Lib.hid hFF
  have HFL := Lib.hid (show F.length = 8 by rw [hFF]; exact length_fin xs)
  clear hF hFF
  have hd6 : RowAt w6 46 g (List.replicate 32 0) := hd5.below hB6 hd5.lt
  have h326 := h325.below hB6 h325.lt
  have hB6' : Below w.heap.size w w6 := hB5.trans (hB6.mono hB5.size)
  clear hd5 h325 hB5 hB6 hp5 hT5
  go_wp2_with fail
  go_loopw [20] (fun i wr => ∃ k : Nat, k ≤ 8 ∧ i = .int .i64 k ∧ RowAt wr 46 g (out F k) ∧ Blk wr w.heap.size 46 (row8 (List.replicate 32 0)) ∧ Below w.heap.size w wr) (fun i _ => 8 - (intOf i).toNat)
  case atStart => exact ⟨0, by omega, rfl, hd6, h326, hB6'⟩
  case round =>
    clear hd6 h326 hB6'
    obtain ⟨k, hk, rfl, hd, h32, hB⟩ := hrel
    by_cases hlt : k < 8
    · have lk : (k : Int) < 8 := by omega
      have hix := fun w : World => index_arr (P := Tryd.prog) Tryd.underlying75 Tryd.underlying23 rfl (by kernel_rfl) (wrow F) .i64 k hlt _ (wrow_at (by rw [HFL.out]; exact hlt)) w
      have hsl : ∀ wr : World, (Instr.sliceAt 46 (.pointer (some ⟨g, 0, none⟩)) (some (.int .i64 (4 * (k : Int)))) none none).run Tryd.prog wr = .ok (.slice (some ⟨g, 4 * k, none⟩) (32 - 4 * k) (32 - 4 * k)) wr :=
        fun wr => slice_arr Tryd.underlying46 (by kernel_rfl) _ _ (4 * k) _ _ _ _ _ (by omega) (by omega) (by omega) rfl
      go_wp2_with (go_at_call 57; refine (putWord_any g (4 * k) (32 - 4 * k) (32 - 4 * k) _ (out F k) (at_ F k) _ (by omega) hd (by rw [length_out]; omega)).mono ?_; rintro e w7 ⟨rfl, hd7, ht7⟩)
      go_roundw
      case rel => exact ⟨k + 1, by omega, by go_num, hd7, h32.tw ht7 (by simp; omega), tw_below hB ht7 (by simp; omega) (Nat.le_refl _)⟩
      case measure => simp [intOf]; omega
    · have hk8 : k = 8 := by omega
      have hk9 : decide ((k : Int) < 8) = false := by simp; omega
      rw [show out F k = S by rw [HS.out, hk8, HF.out]; rfl] at hd
      have hsz : (row8 S).size = 32 := by rw [size_row8, HS.out, length_dig]
      clear hk8
      go_wp2_with fail
      refine whole_list ?_
      refine wpList_load_blk (show Blk wr g 46 (row8 S) from hd) 32 hsz rfl _ _ rfl rfl _ Tryd.underlying46 rfl (by kernel_rfl) ?_
      refine wpList_store_blk h32 32 rfl hsz (row8_one _) rfl _ _ _ rfl rfl rfl (by kernel_rfl) ?_
      go_wp2_with fail
      exact bodyPost_ret (v := .agg (row8 S)) (results_cell_row rfl _ _ _ _ _ _ _ rfl (h32.setRow (row8 S)) Tryd.underlying46 rfl ((show (Tryd.prog.info? 46).map (·.size) = some 32 by kernel_rfl).trans (by rw [hsz]))) rfl ⟨rfl, Below.setRow_ hB _ _ (Nat.le_refl _)⟩
end Go.Proofs.YtnnkgdkjmmljiaaDoor
