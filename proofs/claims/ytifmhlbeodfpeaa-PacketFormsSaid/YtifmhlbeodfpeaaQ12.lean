/-
  Apart: rows of bytes in blocks of their own are told to be apart, and are left as they were.
  Kept: a row that Roomy made is told to be as it was.
  Apart at three rows of the call's own.
  Apart at two rows of the call's own.
-/
import Derived.Test.YtifmhlbeodfpeaaQ3
import Derived.Test.YtifmhlbeodfpeaaQ7
import Derived.Laws.IdiomStrings
import Derived.Laws.BytesArg
import Derived.Test.YtifmhlbeodfpeaaQ1
namespace Go.Proofs.Ytifmhlbeodfpeaa
open Go.RowKit
set_option linter.unusedVariables false

def strOf (xs : List UInt8) : ByteArray := ⟨xs.toArray⟩
theorem run_str8 {P : Program} {w : World} {B : Nat} {A : Option Addr} {n : Nat} {xs : List UInt8} (h : Rd w B A xs) (hn : xs.length = n) (c : Nat) {src dst e : TypeId}
    (hs : P.underlying src = some (.slice e)) (he : P.underlying e = some (.int .u8)) (hd : P.underlying dst = some .string) :
    (convert src dst (.slice A n c)).run P w = .ok (.string (strOf xs)) w := by
  subst hn
  rcases A with _ | ad
  · rcases h with rfl | ⟨_, _, h, _⟩
    · exact run_convert_bytes_nil w src e hs he 0 c dst hd
    · cases h
  · exact run_convert_bytes_back w src dst e ad c xs hs he hd fun j hj => h.cells j _ (by simp [List.getElem?_eq_getElem hj])

set_option maxHeartbeats 400000 in
theorem whole_any (A : Option Addr) (n c : Nat) (w : World) (hc : n ≤ c) :
    Calls Try.prog 42 #[.slice A n c] w fun e w' => e = .returned (.slice A c c) ∧ w = w' := by
  go_enter Try.func42, Try.ntmps42
  go_wp2
  go_ret
  exact ⟨rfl, rfl⟩

/-- The rows that are handed over: m slices from a block's place on, each of the call's own, no two in one block. -/
structure Rows8 (w : World) (t base rb ro m : Nat) (A : Nat → Option Addr) (n c : Nat → Nat) (xs : Nat → List UInt8) : Prop where
  cell : ∀ k, k < m → w.cell? ⟨rb, ro + k, none⟩ = some (.slice (A k) (n k) (c k))
  own : ∀ k, k < m → Own8 w t base (A k) (n k) (c k) (xs k)
  dist : ∀ j k, j < m → k < m → j ≠ k → ∀ g, A j = some ⟨g, 0, none⟩ → A k ≠ some ⟨g, 0, none⟩
  far : ∀ k, k < m → A k ≠ some ⟨rb, 0, none⟩
  lt : rb < w.heap.size

theorem Rows8.below {w w' : World} {t base rb ro m : Nat} {A : Nat → Option Addr} {n c : Nat → Nat} {xs : Nat → List UInt8} (h : Rows8 w t base rb ro m A n c xs) (hb : Below w.heap.size w w') : Rows8 w' t base rb ro m A n c xs :=
  ⟨fun k hk => (hb.cell (p := ⟨rb, ro + k, none⟩) h.lt).trans (h.cell k hk), fun k hk => (h.own k hk).below hb (Nat.le_refl _), h.dist, h.far, Nat.lt_of_lt_of_le h.lt hb.size⟩

theorem Try.info9 : (Try.prog.info? 9).map (fun i => (i.zero, i.size, i.bytes)) = some (some (.string ByteArray.empty), 1, 16) := by kernel_rfl

theorem grown_self (w : World) (row : Option Nat) : w.grownBy w row := ⟨rfl, rfl, rfl, Nat.le_refl _, fun _ _ _ => rfl⟩
theorem grown_set {a w : World} {g : Nat} (h : a.grownBy w (some g)) (k : Nat) (u : Value) : a.grownBy (w.setCell ⟨g, k, none⟩ u) (some g) :=
  ⟨h.os, h.tape, h.output, by simpa [World.setCell] using h.size, fun j hj hne => (Below.heap_setCell w ⟨g, k, none⟩ u j (fun e => hne (by rw [e]))).trans (h.block j hj hne)⟩
theorem grown_drewN {a w : World} {row : Option Nat} (h : a.grownBy w row) (q : Nat) : a.grownBy (w.drewN q) row := ⟨h.os, h.tape, h.output, h.size, h.block⟩
theorem news_one (w : World) (u : Value) (t : TypeId) : ∀ j v, [u][j]? = some v → (w.alloc (.cells #[u] t)).cell? ((⟨w.heap.size, 0, none⟩ : Addr).add j) = some v := by
  intro j v hj
  match j, hj with
  | 0, hj => simp at hj; subst hj; simp [Addr.add]

theorem not_u8 (b : UInt8) : bits .xor .u8 (if IntKind.u8.signed = true then -1 else IntKind.u8.max) (b.toNat : Int) = ((~~~ b).toNat : Int) := by
  have h : (255 : UInt8) ^^^ b = ~~~ b := by
    apply UInt8.toBitVec_inj.1
    exact BitVec.allOnes_xor
  have h2 := bits_xor_u8 255 b
  rw [h] at h2
  exact h2

/-- The first k bytes turned. -/
def Turned (ys zs : List UInt8) (k : Nat) : Prop := ∀ j, zs[j]? = if j < k then (ys[j]?).map (~~~ ·) else ys[j]?
theorem Turned.zero (ys : List UInt8) : Turned ys ys 0 := fun j => by simp
theorem Turned.len {ys zs : List UInt8} {k : Nat} (h : Turned ys zs k) : zs.length = ys.length := by
  have h1 := h ys.length
  have h2 := h zs.length
  rw [List.getElem?_eq_none (Nat.le_refl _)] at h1 h2
  rcases Nat.lt_trichotomy zs.length ys.length with hl | hl | hl
  · rw [List.getElem?_eq_getElem hl] at h2
    split at h2 <;> simp at h2
  · exact hl
  · rw [List.getElem?_eq_getElem hl] at h1
    split at h1 <;> simp at h1
theorem Turned.at_ {ys zs : List UInt8} {k : Nat} (h : Turned ys zs k) (hk : k < zs.length) : ys[k]? = some zs[k] := by
  have h1 := h k
  rw [if_neg (by omega), List.getElem?_eq_getElem hk] at h1
  exact h1.symm
theorem Turned.step {ys zs : List UInt8} {k : Nat} (h : Turned ys zs k) (hk : k < zs.length) : Turned ys (zs.set k (~~~ zs[k])) (k + 1) := by
  intro j
  rw [List.getElem?_set]
  by_cases hj : k = j
  · subst hj
    rw [if_pos rfl, if_pos hk, if_pos (by omega), h.at_ hk]; rfl
  · rw [if_neg hj, h j]
    by_cases hl : j < k
    · rw [if_pos hl, if_pos (by omega)]
    · rw [if_neg hl, if_neg (by omega)]
theorem Turned.back {ys zs vs : List UInt8} {k : Nat} (h : Turned ys zs k) (hv : Turned zs vs k) : vs = ys := by
  apply List.ext_getElem?
  intro j
  rw [hv j, h j]
  by_cases hl : j < k
  · rw [if_pos hl, if_pos hl]
    cases ys[j]? <;> simp
  · rw [if_neg hl, if_neg hl]

set_option maxRecDepth 100000 in
set_option maxHeartbeats 1000000 in
theorem apart_any (rb ro m cap base : Nat) (A : Nat → Option Addr) (n c : Nat → Nat) (xs : Nat → List UInt8) (w : World) (hm : m ≤ 1048576) (hw : Rows8 w 5 base rb ro m A n c xs) :
    Calls Try.prog 20 #[.slice (some ⟨rb, ro, none⟩) m cap] w fun e w' => e = .returned (.bool true) ∧ Below w.heap.size w w' := by
  obtain ⟨is, hi, hz0, hz1, hz2⟩ := info_parts Try.info9
  have HI := Lib.hid hi
  have HZ0 := Lib.hid hz0
  have HZ1 := Lib.hid hz1
  have HZ2 := Lib.hid hz2
  have HW := Lib.hid hw
  clear hi hz0 hz1 hz2 hw
  go_enter Try.func20, Try.ntmps20
  go_wp2
  go_loopw [3, 4] (fun f i wr => ∃ k : Nat, k ≤ m ∧ i = .int .i64 k ∧ f = .bool true ∧ Below w.heap.size w wr) (fun _ i _ => m - (intOf i).toNat)
  case atStart => exact ⟨0, Nat.zero_le _, rfl, rfl, Below.refl _ _⟩
  case round =>
    obtain ⟨i, hi, rfl, rfl, hb⟩ := hrel
    by_cases hlt : i < m
    · obtain ⟨wo, hwo⟩ : ∃ wo : World, wo = wr := ⟨_, rfl⟩
      subst hwo
      go_wp2
      have hzo := hb.size
      have HO := Lib.hid (HW.out.below hb)
      go_loopw [5, 6] (fun v q wr => ∃ k : Nat, k ≤ m ∧ q = .int .i64 k ∧ wr.ownsRow wo.heap.size 9 1 v k ((List.range k).map fun j => Value.string (strOf (xs j))) ∧ Below wo.heap.size wo wr) (fun _ q _ => m - (intOf q).toNat)
      case atStart => exact ⟨0, Nat.zero_le _, rfl, World.ownsRow_nil _ _ _ _, Below.refl _ _⟩
      case round =>
        obtain ⟨k, hk, rfl, hown, hb1⟩ := hrel
        by_cases hkm : k < m
        · have hR := HO.out.below hb1
          have hcell := hR.cell k hkm
          have hst := run_str8 (P := Try.prog) (w := wr) (hR.own k hkm).rd (hR.own k hkm).len (c k) Try.underlying29 Try.underlying5 Try.underlying9
          have hnews := news_one wr (.string (strOf (xs k))) 9
          have hz1 := hb1.size
          clear hR
          go_wp2_with (at_builtin; refine wpList_append_own _ rfl _ _ 64 rfl wo.heap.size 9 is (.string ByteArray.empty) 1 16 Try.underlying64 HI.out HZ0.out HZ1.out HZ2.out rfl (by decide) _ _ _ rfl (hown.alloc _) ⟨wr.heap.size, 0, none⟩ 1 1 [.string (strOf (xs k))] rfl rfl hnews (by intro u hu; simp at hu; subst hu; rfl) (by unfold maxLen; omega) (by omega) (by simp; omega) ?_; intro v2 w2 hown2 hgrow2 hnn2)
          go_roundw
          case rel =>
            refine ⟨k + 1, by omega, by go_num, ?_, (hb1.alloc hz1 _).grown hgrow2 (by simp; omega) fun g hg => ((hown.alloc (.cells #[.string (strOf (xs k))] 9)).lt g hg).1⟩
            rw [List.range_succ, List.map_append]
            exact hown2
          case measure => simp [intOf]; omega
        · obtain rfl : m = k := by omega
          have hRi := HO.out.below hb1
          have hcell := hRi.cell i hlt
          have hle := (hRi.own i hlt).cap.1
          clear hRi
          go_wp2_with (go_at_call 42; refine (whole_any _ _ _ _ hle).mono ?_; rintro e w' ⟨rfl, rfl⟩)
          obtain ⟨g, ys, hys, hgy⟩ : ∃ (g : Nat) (ys : List UInt8), ys.length = c i ∧ ((A i = none ∧ c i = 0 ∧ g = wr.heap.size) ∨ (A i = some ⟨g, 0, none⟩ ∧ RowAt wr 5 g ys)) := by
            rcases ((HO.out.below hb1).own i hlt).2 with ⟨ha, _, hc⟩ | ⟨g, zs, ha, _, hr, hl, _⟩
            · exact ⟨_, [], by simp [hc], .inl ⟨ha, hc, rfl⟩⟩
            · refine ⟨g, _, ?_, .inr ⟨ha, hr⟩⟩
              rw [List.length_append, ((HO.out.below hb1).own i hlt).len]; exact hl
          obtain ⟨gw, cw, cur, rfl, hgw, _, _⟩ : ∃ gw cw cur, u5 = .slice (some ⟨gw, 0, none⟩) m cw ∧ wo.heap.size ≤ gw ∧ wr.heap[gw]? = some (.cells cur 9 (0, 0)) ∧ m ≤ cw := by
            rcases hown.2 with ⟨_, h⟩ | ⟨gw, cw, cur, hv, h1, h2, h3, _⟩
            · omega
            · exact ⟨gw, cw, cur, hv, h1, h2, h3⟩
          have hgne : ∀ b', b' < wr.heap.size → (A i ≠ some ⟨b', 0, none⟩) → b' ≠ g := by
            intro b' hb' hne he
            subst he
            rcases hgy with ⟨_, _, h⟩ | ⟨h, _⟩
            · omega
            · exact hne h
          have hglt : A i = some ⟨g, 0, none⟩ → g < wo.heap.size := fun h => ((HO.out.own i hlt).lt g h).2
          have HG := Lib.hid hgy
          have HGN := Lib.hid hgne
          have HGL := Lib.hid hglt
          have HYS := Lib.hid hys
          have HWS := Lib.hid hown
          have hcm := ((HO.out.below hb1).own i hlt).cap.2
          unfold maxLen at hcm
          clear hgy hys hgne hglt hown hcell
          obtain ⟨w3, hw3⟩ : ∃ w3 : World, w3 = wr := ⟨_, rfl⟩
          subst hw3
          go_loopw [8] (fun q wr => ∃ (k : Nat) (zs : List UInt8), k ≤ c i ∧ q = .int .i64 k ∧ Hid (Turned ys zs k) ∧ Hid (A i = some ⟨g, 0, none⟩ → RowAt wr 5 g zs) ∧ w3.grownBy wr (some g)) (fun q _ => c i - (intOf q).toNat)
          case atStart =>
            refine ⟨0, ys, Nat.zero_le _, rfl, Turned.zero ys, (fun h => ?_ : _ → _), grown_self _ _⟩
            rcases HG.out with ⟨ha, _⟩ | ⟨_, hr⟩
            · rw [ha] at h; cases h
            · exact hr
          case round =>
            obtain ⟨k, zs, hk, rfl, ht, hrow, hgr⟩ := hrel
            by_cases hkc : k < c i
            · have hA : A i = some ⟨g, 0, none⟩ := by
                rcases HG.out with ⟨_, h, _⟩ | ⟨h, _⟩
                · omega
                · exact h
              have hkz : k < zs.length := by rw [ht.out.len, HYS.out]; exact hkc
              have hr := hrow.out hA
              have hc1 := hr.cell k hkz
              have hf1 := hr.frozen k
              have HR := Lib.hid (hr.set_ k (~~~ zs[k]))
              have hgr' := grown_set hgr k (.int .u8 ((~~~ zs[k]).toNat : Int))
              clear hr
              go_wp2
              rw [not_u8]
              go_roundw
              case rel => exact ⟨k + 1, zs.set k (~~~ zs[k]), by omega, by go_num, ht.out.step hkz, (fun _ => HR.out : _ → _), hgr'⟩
              case measure => simp [intOf]; omega
            · obtain rfl : c i = k := by omega
              go_wp2
              obtain ⟨w4, hw4⟩ : ∃ w4 : World, w4 = wr := ⟨_, rfl⟩
              subst hw4
              go_loopw [3, 9] (fun f q wr => ∃ k p : Nat, k ≤ m ∧ q = .int .i64 k ∧ f = .bool true ∧ wr = w4.drewN p) (fun _ q _ => m - (intOf q).toNat)
              case atStart => exact ⟨0, 0, Nat.zero_le _, rfl, rfl, rfl⟩
              case round =>
                obtain ⟨k, p, hk, rfl, rfl, rfl⟩ := hrel
                by_cases hkm : k < m
                · by_cases hki : k = i
                  · subst hki
                    go_wp2
                    go_quiet (fail)
                    go_wp2
                    go_roundw
                    case rel => exact ⟨k + 1, _, by omega, by go_num, rfl, rfl⟩
                    case measure => simp [intOf]; omega
                  · have hkb : ((k : Int) == (i : Int)) = false := by rw [beq_eq_false_iff_ne]; omega
                    have hR3 := HO.out.below hb1
                    have hrb : rb ≠ g := HGN.out rb hR3.lt (hR3.far i hlt)
                    have hc4 : w4.cell? ⟨rb, ro + k, none⟩ = some (.slice (A k) (n k) (c k)) := hgr.cell (hR3.cell k hkm) (by simpa using hrb)
                    have ho4 : Own8 w4 5 base (A k) (n k) (c k) (xs k) := (hR3.own k hkm).keep fun g' hg' => hgr.block g' ((hR3.own k hkm).lt g' hg').2
                      (fun e => HGN.out g' ((hR3.own k hkm).lt g' hg').2 (hR3.dist k i hkm hlt hki g' hg') (by injection e))
                    have hst : ∀ q, (convert 29 9 (.slice (A k) (n k) (c k))).run Try.prog (w4.drewN q) = .ok (.string (strOf (xs k))) (w4.drewN q) := fun q =>
                      run_str8 (P := Try.prog) (w := w4.drewN q) (ho4.drewN q).rd ho4.len (c k) Try.underlying29 Try.underlying5 Try.underlying9
                    have hw4 : w4.cell? ⟨gw, k, none⟩ = some (.string (strOf (xs k))) := by
                      have hk3 := HWS.out.cellAt k (by omega)
                      rw [List.getElem?_map, List.getElem?_range hkm] at hk3
                      exact hgr.cell hk3 (by
                        have hl := (HWS.out.lt gw rfl).2
                        rcases HG.out with ⟨_, _, h⟩ | ⟨h, _⟩
                        · simp; omega
                        · have := HGL.out h; simp; omega)
                    clear hR3 ho4
                    go_wp2
                    go_quiet (fail)
                    go_wp2
                    go_roundw
                    case rel => exact ⟨k + 1, _, by omega, by go_num, rfl, rfl⟩
                    case measure => simp [intOf]; omega
                · obtain rfl : m = k := by omega
                  go_wp2
                  go_loopw [10] (fun q wr => ∃ (k : Nat) (us : List UInt8), k ≤ c i ∧ q = .int .i64 k ∧ Hid (Turned zs us k) ∧ Hid (A i = some ⟨g, 0, none⟩ → RowAt wr 5 g us) ∧ w3.grownBy wr (some g)) (fun q _ => c i - (intOf q).toNat)
                  case atStart => exact ⟨0, zs, Nat.zero_le _, rfl, Turned.zero zs, (fun h => hrow.out h : _ → _), grown_drewN hgr p⟩
                  case round =>
                    have HT := Lib.hid ht
                    clear hrow hgr ht
                    obtain ⟨k, us, hk, rfl, ht, hrow, hgr⟩ := hrel
                    by_cases hkc : k < c i
                    · have hA : A i = some ⟨g, 0, none⟩ := by
                        rcases HG.out with ⟨_, h, _⟩ | ⟨h, _⟩
                        · omega
                        · exact h
                      have hkz : k < us.length := by rw [ht.out.len, HT.out.out.len, HYS.out]; exact hkc
                      have hr := hrow.out hA
                      have hc1 := hr.cell k hkz
                      have hf1 := hr.frozen k
                      have HR := Lib.hid (hr.set_ k (~~~ us[k]))
                      have hgr' := grown_set hgr k (.int .u8 ((~~~ us[k]).toNat : Int))
                      clear hr
                      go_wp2
                      rw [not_u8]
                      go_roundw
                      case rel => exact ⟨k + 1, us.set k (~~~ us[k]), by omega, by go_num, ht.out.step hkz, (fun _ => HR.out : _ → _), hgr'⟩
                      case measure => simp [intOf]; omega
                    · obtain rfl : c i = k := by omega
                      go_wp2
                      go_roundw
                      case rel =>
                        refine ⟨i + 1, by omega, by go_num, rfl, hgr.os.trans (hb1.os.trans hb.os), hgr.tape.trans (hb1.tape.trans hb.tape), hgr.output.trans (hb1.output.trans hb.output), Nat.le_trans hb.size (Nat.le_trans hb1.size hgr.size), fun j hj => ?_⟩
                        have hj1 : j < wo.heap.size := Nat.lt_of_lt_of_le hj hzo
                        refine Eq.trans ?_ ((hb1.block j hj1).trans (hb.block j hj))
                        by_cases hjg : j = g
                        · subst hjg
                          rcases HG.out with ⟨_, _, h⟩ | ⟨h, hr⟩
                          · have := hb1.size; omega
                          · have h2 := hrow.out h
                            rw [HT.out.out.back ht.out] at h2
                            exact h2.trans hr.symm
                        · exact hgr.block j (Nat.lt_of_lt_of_le hj1 hb1.size) (by intro e; injection e with e; exact hjg e)
                      case measure => simp [intOf]; omega
    · obtain rfl : i = m := by omega
      go_wp2
      go_ret
      exact ⟨rfl, hb⟩
end Go.Proofs.Ytifmhlbeodfpeaa

namespace Go.Proofs.Ytifmhlbeodfpeaa
open Go.RowKit
set_option linter.unusedVariables false

set_option maxHeartbeats 400000 in
theorem kept_any (B : Nat) (A : Option Addr) (n c g : Nat) (xs : List UInt8) (w : World) (hn : n ≤ 1048576) (hx : xs.length = n) (hr : Rd w B A xs) (hg : RowAt w 5 g (xs ++ marks16)) :
    Calls Try.prog 24 #[.slice (some ⟨g, 0, none⟩) n (n + 16), .slice A n c] w fun e w' => e = .returned (.bool true) ∧ ∃ q, w.drewN q = w' := by
  have hin : Rd w w.heap.size (some ⟨g, 0, none⟩) xs := hg.rd 0 xs (fun j hj => by rw [Nat.zero_add, List.getElem?_append_left hj])
  have H1 : ∀ c, Calls Try.prog 16 #[.slice (some ⟨g, 0, none⟩) n (n + 16), .slice A n c] w fun e w' => e = .returned (.bool true) ∧ ∃ q, w.drewN q = w' := fun c =>
    (eqBytes_any w.heap.size B _ A n n (n + 16) c xs xs w hx hx (by unfold maxLen; omega) (by unfold maxLen; omega) hin hr).mono fun e w' ⟨he, hw⟩ => ⟨by rw [he]; simp, hw⟩
  have hcell : ∀ k, k < 16 → w.cell? ⟨g, n + k, none⟩ = some (.int .u8 90) := fun k hk => by
    have hl : n + k < (xs ++ marks16).length := by rw [List.length_append, length_marks16]; omega
    have h90 : (xs ++ marks16)[n + k]? = some 90 := by rw [List.getElem?_append_right (by omega), get_marks16, if_pos (by omega)]
    rw [hg.cell (n + k) hl, List.getElem_eq_iff _ |>.2 h90]; rfl
  clear hin hg hr hx
  have HH := Lib.hid H1
  have HC := Lib.hid hcell
  clear H1 hcell
  go_enter Try.func24, Try.ntmps24
  go_wp2_with (go_at_call 16; refine (HH.out _).mono ?_; rintro e w' ⟨rfl, q, rfl⟩)
  go_loopw [6] (fun i wr => ∃ k q : Nat, k ≤ 16 ∧ i = .int .i64 k ∧ wr = w.drewN q) (fun i _ => 16 - (intOf i).toNat)
  case atStart => exact ⟨0, q, Nat.zero_le _, rfl, rfl⟩
  case round =>
    obtain ⟨k, q, hk, rfl, rfl⟩ := hrel
    by_cases hlt : k < 16
    · have hc := HC.out k hlt
      go_wp2
      go_roundw
      case rel => exact ⟨k + 1, _, by omega, by go_num, rfl⟩
      case measure => simp [intOf]; omega
    · obtain rfl : k = 16 := by omega
      go_wp2
      go_ret
      exact ⟨rfl, q, rfl⟩
end Go.Proofs.Ytifmhlbeodfpeaa

namespace Go.Proofs.Ytifmhlbeodfpeaa
open Go.RowKit
set_option linter.unusedVariables false

def pick3 {α : Type} (a b c : α) : Nat → α | 0 => a | 1 => b | _ => c

/-- No block is shared. -/
def Far (A A' : Option Addr) : Prop := ∀ g, A = some ⟨g, 0, none⟩ → A' ≠ some ⟨g, 0, none⟩
theorem Far.symm {A A' : Option Addr} (h : Far A A') : Far A' A := fun g hg hg' => h g hg' hg
theorem far_of {w w' : World} {t base base' : Nat} {A A' : Option Addr} {n c n' c' : Nat} {xs xs' : List UInt8} (h : Own8 w t base A n c xs) (h' : Own8 w' t base' A' n' c' xs') (hb : w.heap.size ≤ base') : Far A A' := by
  intro g hg hg'
  have h1 := h.lt g hg
  have h2 := h'.lt g hg'
  omega

theorem rows3 {w : World} {t b1 b2 b3 : Nat} (e : TypeId) {A1 A2 A3 : Option Addr} {n1 n2 n3 c1 c2 c3 : Nat} {x1 x2 x3 : List UInt8} (h1 : Own8 w t b1 A1 n1 c1 x1) (h2 : Own8 w t b2 A2 n2 c2 x2) (h3 : Own8 w t b3 A3 n3 c3 x3)
    (f12 : Far A1 A2) (f13 : Far A1 A3) (f23 : Far A2 A3) :
    Rows8 (w.alloc (.cells #[.slice A1 n1 c1, .slice A2 n2 c2, .slice A3 n3 c3] e)) t 0 w.heap.size 0 3 (pick3 A1 A2 A3) (pick3 n1 n2 n3) (pick3 c1 c2 c3) (pick3 x1 x2 x3) := by
  refine ⟨fun k hk => ?_, fun k hk => ?_, fun j k hj hk hne => ?_, fun k hk => ?_, by simp⟩
  · rw [World.cell?_alloc_at _ _ _ _ rfl, Nat.zero_add]
    match k, hk with
    | 0, _ => rfl
    | 1, _ => rfl
    | 2, _ => rfl
  · match k, hk with
    | 0, _ => exact (h1.more (Nat.zero_le _)).alloc _
    | 1, _ => exact (h2.more (Nat.zero_le _)).alloc _
    | 2, _ => exact (h3.more (Nat.zero_le _)).alloc _
  · match j, hj, k, hk, hne with
    | 0, _, 1, _, _ => exact f12
    | 0, _, 2, _, _ => exact f13
    | 1, _, 0, _, _ => exact f12.symm
    | 1, _, 2, _, _ => exact f23
    | 2, _, 0, _, _ => exact f13.symm
    | 2, _, 1, _, _ => exact f23.symm
    | 2, _, 2, _, hne => exact absurd rfl hne
  · intro he
    match k, hk with
    | 0, _ => have := (h1.lt _ he).2; omega
    | 1, _ => have := (h2.lt _ he).2; omega
    | 2, _ => have := (h3.lt _ he).2; omega

theorem apart3 {w : World} {b1 b2 b3 : Nat} {A1 A2 A3 : Option Addr} {n1 n2 n3 c1 c2 c3 : Nat} {x1 x2 x3 : List UInt8} (h1 : Own8 w 5 b1 A1 n1 c1 x1) (h2 : Own8 w 5 b2 A2 n2 c2 x2) (h3 : Own8 w 5 b3 A3 n3 c3 x3)
    (f12 : Far A1 A2) (f13 : Far A1 A3) (f23 : Far A2 A3) (cap : Nat) :
    Calls Try.prog 20 #[.slice (some ⟨w.heap.size, 0, none⟩) 3 cap] (w.alloc (.cells #[.slice A1 n1 c1, .slice A2 n2 c2, .slice A3 n3 c3] 29)) fun e w' => e = .returned (.bool true) ∧ Below w.heap.size w w' :=
  (apart_any w.heap.size 0 3 cap 0 _ _ _ _ _ (by omega) (rows3 29 h1 h2 h3 f12 f13 f23)).mono fun e w' ⟨he, hb⟩ => ⟨he, (below_new w _).trans (hb.mono (by simp))⟩

/-- The row that Roomy made, as one of the call's own. -/
theorem own_in {w : World} {g n base : Nat} {xs : List UInt8} (h : RowAt w 5 g (xs ++ marks16)) (hn : xs.length = n) (hb : base ≤ g) (hm : n ≤ 1048576) : Own8 w 5 base (some ⟨g, 0, none⟩) n (n + 16) xs :=
  ⟨hn, .inr ⟨g, marks16, rfl, hb, h, by rw [length_marks16], by unfold maxLen; omega⟩⟩

/-- EqBytes at two rows that are alike. -/
theorem eqBytes_same (B B' : Nat) (A A' : Option Addr) (n c c' : Nat) (xs : List UInt8) (w : World) (hx : xs.length = n) (hn : n ≤ maxLen) (rx : Rd w B A xs) (ry : Rd w B' A' xs) :
    Calls Try.prog 16 #[.slice A n c, .slice A' n c'] w fun e w' => e = .returned (.bool true) ∧ ∃ q, w.drewN q = w' :=
  (eqBytes_any B B' A A' n n c c' xs xs w hx hx hn hn rx ry).mono fun e w' ⟨he, hw⟩ => ⟨by rw [he]; simp, hw⟩
end Go.Proofs.Ytifmhlbeodfpeaa

namespace Go.Proofs.Ytifmhlbeodfpeaa
open Go.RowKit
set_option linter.unusedVariables false

theorem rows2 {w : World} {t b1 b2 : Nat} (e : TypeId) {A1 A2 : Option Addr} {n1 n2 c1 c2 : Nat} {x1 x2 : List UInt8} (h1 : Own8 w t b1 A1 n1 c1 x1) (h2 : Own8 w t b2 A2 n2 c2 x2) (f12 : Far A1 A2) :
    Rows8 (w.alloc (.cells #[.slice A1 n1 c1, .slice A2 n2 c2] e)) t 0 w.heap.size 0 2 (pick3 A1 A2 A2) (pick3 n1 n2 n2) (pick3 c1 c2 c2) (pick3 x1 x2 x2) := by
  refine ⟨fun k hk => ?_, fun k hk => ?_, fun j k hj hk hne => ?_, fun k hk => ?_, by simp⟩
  · rw [World.cell?_alloc_at _ _ _ _ rfl, Nat.zero_add]
    match k, hk with
    | 0, _ => rfl
    | 1, _ => rfl
  · match k, hk with
    | 0, _ => exact (h1.more (Nat.zero_le _)).alloc _
    | 1, _ => exact (h2.more (Nat.zero_le _)).alloc _
  · match j, hj, k, hk, hne with
    | 0, _, 1, _, _ => exact f12
    | 1, _, 0, _, _ => exact f12.symm
    | 1, _, 1, _, hne => exact absurd rfl hne
  · intro he
    match k, hk with
    | 0, _ => have := (h1.lt _ he).2; omega
    | 1, _ => have := (h2.lt _ he).2; omega

theorem apart2 {w : World} {b1 b2 : Nat} {A1 A2 : Option Addr} {n1 n2 c1 c2 : Nat} {x1 x2 : List UInt8} (h1 : Own8 w 5 b1 A1 n1 c1 x1) (h2 : Own8 w 5 b2 A2 n2 c2 x2) (f12 : Far A1 A2) (cap : Nat) :
    Calls Try.prog 20 #[.slice (some ⟨w.heap.size, 0, none⟩) 2 cap] (w.alloc (.cells #[.slice A1 n1 c1, .slice A2 n2 c2] 29)) fun e w' => e = .returned (.bool true) ∧ Below w.heap.size w w' :=
  (apart_any w.heap.size 0 2 cap 0 _ _ _ _ _ (by omega) (rows2 29 h1 h2 f12)).mono fun e w' ⟨he, hb⟩ => ⟨he, (below_new w _).trans (hb.mono (by simp))⟩
/-- The row that Roomy made, as it reads. -/
theorem rd_room {w : World} {g : Nat} {xs : List UInt8} (h : RowAt w 5 g (xs ++ marks16)) : Rd w w.heap.size (some ⟨g, 0, none⟩) xs := h.rd 0 xs (fun j hj => by rw [Nat.zero_add, List.getElem?_append_left hj])
end Go.Proofs.Ytifmhlbeodfpeaa
