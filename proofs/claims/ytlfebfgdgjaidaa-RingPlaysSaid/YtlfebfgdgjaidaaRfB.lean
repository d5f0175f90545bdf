/-
  Layer 5 (ring): contracts of the reference: Push.
-/
import Derived.Test.YtlfebfgdgjaidaaRfA
namespace Go.Proofs.Ytlfebfgdgjaidaa
open Go.RowKit
set_option linter.unusedVariables false

section
variable {w w' : World} {h : Nat} {A : Option Addr} {b n c most : Nat} {l : List ByteArray} {S : List Nat} {x : ByteArray}
theorem refPush_end {w3 : World} {b' o c' : Nat} {cs : Array Value} {sl : Value} (hb : Blk w3 h 39 #[.int .i64 (most : Nat), sl]) (hcs : Blk w3 b' 9 cs) (h1 : n + 1 ≤ c') (h2 : c' ≤ maxLen) (h3 : o + c' ≤ cs.size)
    (h4 : ∀ j, j < n + 1 → cs[o + j]? = ((l ++ [x])[j]?).map Value.string) (hl : l.length = n) (hle : n < most) (hm : most ≤ 1048576) :
    RefQ (w3.setCell ⟨h, 1, none⟩ (.slice (some ⟨b', o, none⟩) (n + 1) c')) h (some ⟨b', o, none⟩) b' (n + 1) c' most (l ++ [x]) := by
  have hne := hcs.ne_ hb (by decide)
  have ht : Tw [h] w3 (w3.setCell ⟨h, 1, none⟩ (.slice (some ⟨b', o, none⟩) (n + 1) c')) := Tw.setCell w3 _ _ (by simp)
  refine ⟨?_, by simp [hl], ⟨h1, h2⟩, .inr ⟨o, cs, rfl, hcs.tw ht (by simpa using hne), h3, h4⟩, by omega, hm⟩
  have := hb.set_ 1 (.slice (some ⟨b', o, none⟩) (n + 1) c')
  simpa using this

theorem Try.infoStr : (Try.prog.info? 9).map (fun i => (i.zero, i.size, i.bytes)) = some (some (.string { data := #[] }), 1, 16) := by kernel_rfl

/-- append onto the list, where a new row is made. -/
theorem refAppend_new (x : ByteArray) (q : RefQ w h A b n c most l) (hg : c < n + 1) (hlt : n < most) (ty : TypeId) : ∃ c' b' w3 cs,
    (Builtin.append_ #[37, 37] ty #[.slice A n c, .slice (some ⟨w.heap.size, 0, none⟩) 1 1]).run Try.prog (w.alloc (.cells #[.string x] 9)) = .ok (.slice (some ⟨b', 0, none⟩) (n + 1) c') w3 ∧
    Blk w3 b' 9 cs ∧ w.heap.size ≤ b' ∧ n + 1 ≤ c' ∧ c' ≤ maxLen ∧ c' ≤ cs.size ∧ (∀ j, j < n + 1 → cs[0 + j]? = ((l ++ [x])[j]?).map Value.string) ∧ Tw [] w w3 := by
  obtain ⟨i0, hi, hz0, hz1, hz2⟩ := info_parts Try.infoStr
  have hm := q.most
  have hl := q.len
  have q2 := q.below (below_new w (.cells #[.string x] 9))
  have main : ∃ v' w3, (Builtin.append_ #[37, 37] ty #[.slice A n c, .slice (some ⟨w.heap.size, 0, none⟩) 1 1]).run Try.prog (w.alloc (.cells #[.string x] 9)) = .ok v' w3 ∧
      w3.ownsRow (w.alloc (.cells #[.string x] 9)).heap.size 9 1 v' (n + 1) (l.map Value.string ++ [.string x]) ∧ (w.alloc (.cells #[.string x] 9)).grownBy w3 none := by
    rcases q.mem with ⟨rfl, rfl, rfl, rfl⟩ | ⟨o, cs, rfl, e2, e3, e4⟩
    · have hl0 : l = [] := List.eq_nil_of_length_eq_zero hl
      subst hl0
      obtain ⟨v', w3, h1, h2, h3, h4, h5⟩ := run_append_own_at (P := Try.prog) (w.alloc (.cells #[.string x] 9)) (w.alloc (.cells #[.string x] 9)).heap.size 37 ty 9 i0 _ 1 16 Try.underlying37 hi hz0 hz1 hz2 rfl (by decide)
        (.slice none 0 0) 0 [] (World.ownsRow_nil _ _ _ _) ⟨w.heap.size, 0, none⟩ 1 1 [.string x] rfl (cell_one_new w _ _) (by intro u hu; simp at hu; rw [hu]; rfl) (by unfold maxLen; omega) (by omega) (Nat.le_refl _)
      exact ⟨v', w3, h1, h2, h3⟩
    · exact run_append_arg_grows (P := Try.prog) (w.alloc (.cells #[.string x] 9)) 37 ty 9 i0 _ 1 16 Try.underlying37 hi hz0 hz1 hz2 rfl (by decide) ⟨b, o, none⟩ n c (l.map Value.string) (by simp [hl])
        (by
          intro j u hu
          obtain ⟨o', cs', f1, f2, f3, f4⟩ := q2.some_ (by
            rcases Nat.eq_zero_or_pos n with h0 | h0
            · subst h0
              have hl0 : l = [] := List.eq_nil_of_length_eq_zero hl
              rw [hl0] at hu; simp at hu
            · exact h0)
          injection f1 with f1
          injection f1 with _ f1
          subst f1
          have hj : j < n := by
            rcases Nat.lt_or_ge j n with h | h
            · exact h
            · rw [List.getElem?_eq_none (by simp [hl]; exact h)] at hu; cases hu
          rw [Addr.add_lit, f2.cell, f4 j hj]
          rw [List.getElem?_map] at hu
          exact hu)
        ⟨w.heap.size, 0, none⟩ 1 1 [.string x] rfl (cell_one_new w _ _) (by omega) (by unfold maxLen; omega) (by omega)
  obtain ⟨v', w3, hrun, hown, hgrow⟩ := main
  rcases hown.2 with ⟨_, e⟩ | ⟨g, cap, cur, rfl, hb, hgb, hnc, hcm, hcs, htake⟩
  · omega
  · refine ⟨cap, g, w3, cur, hrun, hgb, by simp at hb; omega, hnc, hcm, by omega, fun j hj => ?_, ⟨hgrow.os, hgrow.tape, hgrow.output, ?_, fun k hk _ => ?_⟩⟩
    · have h1 : (cur.toList.take ((n + 1) * 1))[j]? = ((l ++ [x])[j]?).map Value.string := by rw [htake, ← List.getElem?_map, List.map_append]; rfl
      rw [List.getElem?_take_of_lt (by omega)] at h1
      rw [Nat.zero_add]
      simpa using h1
    · have := hgrow.size; simp at this; omega
    · rw [hgrow.block k (by simp; omega) (by simp), Below.heap_alloc w _ k hk]

/-- .. and where there is room. -/
theorem refAppend_room (x : ByteArray) (q : RefQ w h A b n c most l) (hr : n + 1 ≤ c) (ty : TypeId) : ∃ o w3 cs, A = some ⟨b, o, none⟩ ∧
    (Builtin.append_ #[37, 37] ty #[.slice A n c, .slice (some ⟨w.heap.size, 0, none⟩) 1 1]).run Try.prog (w.alloc (.cells #[.string x] 9)) = .ok (.slice (some ⟨b, o, none⟩) (n + 1) c) w3 ∧
    Blk w3 b 9 cs ∧ o + c ≤ cs.size ∧ (∀ j, j < n + 1 → cs[o + j]? = ((l ++ [x])[j]?).map Value.string) ∧ Tw [b] w w3 := by
  obtain ⟨i0, hi, hz0, hz1, hz2⟩ := info_parts Try.infoStr
  have hl := q.len
  have q2 := q.below (below_new w (.cells #[.string x] 9))
  obtain ⟨o, cs, rfl, e2, e3, e4⟩ : ∃ o cs, A = some ⟨b, o, none⟩ ∧ Blk (w.alloc (.cells #[.string x] 9)) b 9 cs ∧ o + c ≤ cs.size ∧ ∀ j, j < n → cs[o + j]? = (l[j]?).map Value.string := by
    rcases q2.mem with ⟨_, _, e, _⟩ | h
    · omega
    · exact h
  have hrun := run_append_room_cells (P := Try.prog) (w.alloc (.cells #[.string x] 9)) 37 ty 9 i0 Try.underlying37 hi b o n c ⟨w.heap.size, 0, none⟩ 1 1 [.string x] (by rw [hz1]; rfl) (cell_one_new w _ _) (by intro u hu; simp at hu; rw [hu]; rfl) hr
    (by
      intro j hj
      simp at hj
      subst hj
      rw [hz1, e2.cell, Array.getElem?_eq_getElem (by omega)]
      rfl)
    (fun j hj => e2.frozen _)
  have hw : (w.alloc (.cells #[.string x] 9)).setCells b (o + n * i0.size) [.string x] = (w.alloc (.cells #[.string x] 9)).setCell ⟨b, o + n, none⟩ (.string x) := by rw [hz1, Nat.mul_one]; rfl
  rw [hw] at hrun
  refine ⟨o, _, _, rfl, hrun, e2.set_ (o + n) (.string x), by simpa using e3, fun j hj => ?_, (Tw.alloc w _ [b]).trans (Tw.setCell _ _ _ (by simp))⟩
  rw [Array.getElem?_setIfInBounds]
  rcases Nat.lt_or_ge j n with hjn | hjn
  · rw [if_neg (by omega), e4 j hjn, List.getElem?_append_left (by omega)]
  · obtain rfl : j = n := by omega
    rw [if_pos rfl, if_pos (by omega), List.getElem?_append_right (by omega), hl, Nat.sub_self]
    rfl

set_option maxHeartbeats 800000 in
theorem refPush_full (x : ByteArray) (q : RefQ w h A b n c most l) (hq : l.length = most) :
    Calls Try.prog 14 #[.pointer (some ⟨h, 0, none⟩), .string x] w fun e w' => e = .returned (.bool false) ∧ ∃ k, w' = w.drewN k := by
  have hn := q.len
  obtain rfl : n = most := by omega
  have c0 := q.c0
  have c1 := q.c1
  clear hn hq
  go_enter Try.func14, Try.ntmps14
  go_wp2
  go_quiet (fail)
  go_wp2
  go_ret
  exact ⟨rfl, _, rfl⟩

set_option maxHeartbeats 800000 in
theorem refPush_room (x : ByteArray) (q : RefQ w h A b n c most l) (hq : l.length < most) :
    Calls Try.prog 14 #[.pointer (some ⟨h, 0, none⟩), .string x] w fun e w' => e = .returned (.bool true) ∧ ∃ A' b' n' c', RefQ w' h A' b' n' c' most (l ++ [x]) ∧ (b' = b ∨ w.heap.size ≤ b') ∧ Tw [h, b] w w' := by
  have hn := q.len
  have hnm : n < most := by omega
  have c0 := q.c0
  have c1 := q.c1
  have hne : ((n : Int) == (most : Int)) = false := by rw [beq_eq_false_iff_ne]; omega
  clear hq
  rcases (show c < n + 1 ∨ n + 1 ≤ c by omega) with hg | hg
  · go_enter Try.func14, Try.ntmps14
    go_wp2
    go_quiet (fail)
    have q := q.drewN nq
    have hsz : (w.drewN nq).heap.size = w.heap.size := rfl
    have ht : Tw [h, b] w (w.drewN nq) := (Tw.refl _ w).drewN nq
    clear c0 c1
    generalize w.drewN nq = w1 at q hsz ht ⊢
    have c1 := q.c1
    obtain ⟨c', b', w3, cs, hrun, hcs, hb', h1, h2, h3, h4, htw⟩ := refAppend_new x q hg hnm 37
    have d1 := (q.blk.tw htw (by simp)).cell 1
    have e1 := (q.blk.tw htw (by simp)).frozen 1
    have d1' : w3.cell? ⟨h, 1, none⟩ = some (.slice A n c) := d1.trans rfl
    have HR := Lib.hid (refPush_end (q.blk.tw htw (by simp)) hcs h1 h2 (by omega) h4 q.len hnm q.most)
    have HT := Lib.hid ((ht.trans (htw.sub (T := [h, b]) (by simp))).trans (Tw.setCell w3 ⟨h, 1, none⟩ (.slice (some ⟨b', 0, none⟩) (n + 1) c') (by simp)))
    have HB : Hid (b' = b ∨ w.heap.size ≤ b') := Lib.hid (.inr (by omega))
    have HRUN := Lib.hid hrun
    clear hrun hcs h1 h2 h3 h4 htw d1 hb' q ht hsz
    go_wp2_with (at_builtin; refine wpList_append_run rfl _ _ 37 rfl (.slice A n c) (.slice (some ⟨w1.heap.size, 0, none⟩) 1 1) (.slice (some ⟨b', 0, none⟩) (n + 1) c') rfl rfl _ rfl HRUN.out ?_)
    go_ret
    exact ⟨rfl, _, _, _, _, HR.out, HB.out, HT.out⟩
  · go_enter Try.func14, Try.ntmps14
    go_wp2
    go_quiet (fail)
    have q := q.drewN nq
    have ht : Tw [h, b] w (w.drewN nq) := (Tw.refl _ w).drewN nq
    clear c0 c1
    generalize w.drewN nq = w1 at q ht ⊢
    have c1 := q.c1
    have hcap := q.cap.2
    obtain ⟨o, w3, cs, hA, hrun, hcs, h3, h4, htw⟩ := refAppend_room x q hg 37
    have hbh := q.bh (by rw [hA]; simp)
    have hblk := q.blk.tw htw (by simpa using hbh.symm)
    have d1 : w3.cell? ⟨h, 1, none⟩ = some (.slice A n c) := (hblk.cell 1).trans rfl
    have e1 := hblk.frozen 1
    have HR := Lib.hid (refPush_end hblk hcs hg hcap h3 h4 q.len hnm q.most)
    have HT := Lib.hid ((ht.trans (htw.sub (T := [h, b]) (by simp))).trans (Tw.setCell w3 ⟨h, 1, none⟩ (.slice (some ⟨b, o, none⟩) (n + 1) c) (by simp)))
    have HRUN := Lib.hid hrun
    clear hrun hcs h3 h4 htw q ht hblk hA hbh hcap
    go_wp2_with (at_builtin; refine wpList_append_run rfl _ _ 37 rfl (.slice A n c) (.slice (some ⟨w1.heap.size, 0, none⟩) 1 1) (.slice (some ⟨b, o, none⟩) (n + 1) c) rfl rfl _ rfl HRUN.out ?_)
    go_ret
    exact ⟨rfl, _, _, _, _, HR.out, .inl rfl, HT.out⟩
end
end Go.Proofs.Ytlfebfgdgjaidaa
