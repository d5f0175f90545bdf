/-
  Package window: Fast, Timeout, Acked of the reference over a state.
-/
import Derived.Test.YtlkppgdeaphoeaaWnC
namespace Go.Proofs.Ytlkppgdeaphoeaa
open Go.RowKit
set_option linter.unusedVariables false

set_option maxRecDepth 100000 in
set_option maxHeartbeats 4000000 in
theorem refFast (s : Wn) (Q : Int) (g : Nat) (w : World) (h : s.Ok Q) (K : Blk w g 48 #[.int .i64 s.mtu, .int .i64 s.most, .int .i64 s.size, .int .i64 s.thr, .int .i64 s.part]) : Calls Try.prog 23 #[.pointer (some ⟨g, 0, none⟩)] w fun e w' => e = .returned (.tuple #[]) ∧ Blk w' g 48 #[.int .i64 s.fast.mtu, .int .i64 s.fast.most, .int .i64 s.fast.size, .int .i64 s.fast.thr, .int .i64 s.fast.part] ∧ Tw [g] w w' := by
  have hh := half_of h
  obtain ⟨a1, a2, a3, a4, a5, a6, a7, a8, a9, a10⟩ := h
  obtain ⟨m, x, z, t, p⟩ := s
  change 128 ≤ m at a1
  change m ≤ 1500 at a2
  change 4 * m ≤ x at a3
  change x ≤ 16777216 at a4
  change m ≤ z at a5
  change z ≤ x at a6
  change 4 * m ≤ t at a7
  change t ≤ x at a8
  change 0 ≤ p at a9
  change p ≤ Q at a10
  obtain ⟨H, hH⟩ : ∃ H, H = Wn.half ⟨m, x, z, t, p⟩ := ⟨_, rfl⟩
  have hH2 : H = max (z / 2) (4 * m) := hH
  rw [← hH] at hh
  obtain ⟨hh1, hh2⟩ := hh
  change 4 * m ≤ H at hh1
  change H ≤ x at hh2
  obtain ⟨V, hV⟩ : ∃ V, V = min z H := ⟨_, rfl⟩
  have HS : Hid (Wn.fast ⟨m, x, z, t, p⟩ = (⟨m, x, V, H, 0⟩ : Wn)) := Lib.hid (by unfold Wn.fast; rw [← hH]; rw [← hV])
  have HM : Hid ((if z / 2 < 4 * m then 4 * m else z / 2) = H) := Lib.hid (by rw [hH2]; split <;> omega)
  have HM2 : Hid ((if H < z then H else z) = V) := Lib.hid (by rw [hV]; split <;> omega)
  have HR : Hid (Blk (w.setCell ⟨g, 3, none⟩ (.int .i64 H)).drew g 48 #[.int .i64 m, .int .i64 x, .int .i64 z, .int .i64 H, .int .i64 p]) := Lib.hid ((K.set_ 3 _).drewN 1)
  have HT : Hid (Tw [g] w (w.setCell ⟨g, 3, none⟩ (.int .i64 H)).drew) := Lib.hid ((Tw.setCell w ⟨g, 3, none⟩ _ (by simp)).drewN 1)
  change Blk w g 48 #[.int .i64 m, .int .i64 x, .int .i64 z, .int .i64 t, .int .i64 p] at K
  have j0 : w.cell? ⟨g, 0, none⟩ = some (.int .i64 m) := K.cell 0
  have jz0 := K.frozen 0
  have j1 : w.cell? ⟨g, 1, none⟩ = some (.int .i64 x) := K.cell 1
  have jz1 := K.frozen 1
  have j2 : w.cell? ⟨g, 2, none⟩ = some (.int .i64 z) := K.cell 2
  have jz2 := K.frozen 2
  have j3 : w.cell? ⟨g, 3, none⟩ = some (.int .i64 t) := K.cell 3
  have jz3 := K.frozen 3
  have j4 : w.cell? ⟨g, 4, none⟩ = some (.int .i64 p) := K.cell 4
  have jz4 := K.frozen 4
  clear hH hH2 hV K
  go_enter Try.func23, Try.ntmps23
  rw [drawn_eq 2, held_eq 3]
  go_wp2_with fail
  go_region
  rw [HM.out]
  clear j0 j1 j2 j3 j4 jz0 jz1 jz2 jz3 jz4
  generalize (w.setCell ⟨g, 3, none⟩ (.int .i64 H)).drew = w1 at HR HT ⊢
  have j0 : w1.cell? ⟨g, 0, none⟩ = some (.int .i64 m) := HR.out.cell 0
  have jz0 := HR.out.frozen 0
  have j1 : w1.cell? ⟨g, 1, none⟩ = some (.int .i64 x) := HR.out.cell 1
  have jz1 := HR.out.frozen 1
  have j2 : w1.cell? ⟨g, 2, none⟩ = some (.int .i64 z) := HR.out.cell 2
  have jz2 := HR.out.frozen 2
  have j3 : w1.cell? ⟨g, 3, none⟩ = some (.int .i64 H) := HR.out.cell 3
  have jz3 := HR.out.frozen 3
  have j4 : w1.cell? ⟨g, 4, none⟩ = some (.int .i64 p) := HR.out.cell 4
  have jz4 := HR.out.frozen 4
  have K3 : Hid (Blk ((w1.setCell ⟨g, 2, none⟩ (.int .i64 V)).drew.setCell ⟨g, 4, none⟩ (.int .i64 0)) g 48 #[.int .i64 m, .int .i64 x, .int .i64 V, .int .i64 H, .int .i64 0]) := Lib.hid (((HR.out.set_ 2 _).drewN 1).set_ 4 _)
  have T3 : Hid (Tw [g] w ((w1.setCell ⟨g, 2, none⟩ (.int .i64 V)).drew.setCell ⟨g, 4, none⟩ (.int .i64 0))) := Lib.hid (((HT.out.trans (Tw.setCell _ ⟨g, 2, none⟩ _ (by simp))).drewN 1).trans (Tw.setCell _ ⟨g, 4, none⟩ _ (by simp)))
  have K2 : Hid (Blk (w1.setCell ⟨g, 2, none⟩ (.int .i64 V)).drew g 48 #[.int .i64 m, .int .i64 x, .int .i64 V, .int .i64 H, .int .i64 p]) := Lib.hid ((HR.out.set_ 2 _).drewN 1)
  clear HR HT
  go_wp2_with fail
  rw [← drawn_eq 2]
  go_region
  rw [HM2.out]
  clear j0 j1 j2 j3 j4 jz0 jz1 jz2 jz3 jz4
  generalize (w1.setCell ⟨g, 2, none⟩ (.int .i64 V)).drew = w2 at K2 K3 T3 ⊢
  have j4 : w2.cell? ⟨g, 4, none⟩ = some (.int .i64 p) := K2.out.cell 4
  have jz4 := K2.out.frozen 4
  go_wp2_with fail
  rw [← held_eq 3]
  go_wp2_with fail
  go_end0
  refine ⟨rfl, ?_, T3.out⟩
  rw [HS.out]
  exact K3.out
theorem refFast_nil (w : World) : Calls Try.prog 23 #[.pointer none] w fun e w' => e = .returned (.tuple #[]) ∧ w' = w := by
  go_enter Try.func23, Try.ntmps23
  go_wp2_with fail
  refine bodyPost_ret (results_none rfl _ _ _) rfl ?_
  exact ⟨rfl, rfl⟩
set_option maxRecDepth 100000 in
set_option maxHeartbeats 4000000 in
theorem refTimeout (s : Wn) (Q : Int) (g : Nat) (w : World) (h : s.Ok Q) (K : Blk w g 48 #[.int .i64 s.mtu, .int .i64 s.most, .int .i64 s.size, .int .i64 s.thr, .int .i64 s.part]) : Calls Try.prog 24 #[.pointer (some ⟨g, 0, none⟩)] w fun e w' => e = .returned (.tuple #[]) ∧ Blk w' g 48 #[.int .i64 s.out.mtu, .int .i64 s.out.most, .int .i64 s.out.size, .int .i64 s.out.thr, .int .i64 s.out.part] ∧ Tw [g] w w' := by
  have hh := half_of h
  obtain ⟨a1, a2, a3, a4, a5, a6, a7, a8, a9, a10⟩ := h
  obtain ⟨m, x, z, t, p⟩ := s
  change 128 ≤ m at a1
  change m ≤ 1500 at a2
  change 4 * m ≤ x at a3
  change x ≤ 16777216 at a4
  change m ≤ z at a5
  change z ≤ x at a6
  change 4 * m ≤ t at a7
  change t ≤ x at a8
  change 0 ≤ p at a9
  change p ≤ Q at a10
  obtain ⟨H, hH⟩ : ∃ H, H = Wn.half ⟨m, x, z, t, p⟩ := ⟨_, rfl⟩
  have hH2 : H = max (z / 2) (4 * m) := hH
  rw [← hH] at hh
  obtain ⟨hh1, hh2⟩ := hh
  change 4 * m ≤ H at hh1
  change H ≤ x at hh2
  obtain ⟨V, hV⟩ : ∃ V, V = min z H := ⟨_, rfl⟩
  have HS : Hid (Wn.out ⟨m, x, z, t, p⟩ = (⟨m, x, m, H, 0⟩ : Wn)) := Lib.hid (by unfold Wn.out; rw [← hH])
  have HM : Hid ((if z / 2 < 4 * m then 4 * m else z / 2) = H) := Lib.hid (by rw [hH2]; split <;> omega)
  have HM2 : Hid ((if H < z then H else z) = V) := Lib.hid (by rw [hV]; split <;> omega)
  have HR : Hid (Blk (w.setCell ⟨g, 3, none⟩ (.int .i64 H)).drew g 48 #[.int .i64 m, .int .i64 x, .int .i64 z, .int .i64 H, .int .i64 p]) := Lib.hid ((K.set_ 3 _).drewN 1)
  have HT : Hid (Tw [g] w (w.setCell ⟨g, 3, none⟩ (.int .i64 H)).drew) := Lib.hid ((Tw.setCell w ⟨g, 3, none⟩ _ (by simp)).drewN 1)
  change Blk w g 48 #[.int .i64 m, .int .i64 x, .int .i64 z, .int .i64 t, .int .i64 p] at K
  have j0 : w.cell? ⟨g, 0, none⟩ = some (.int .i64 m) := K.cell 0
  have jz0 := K.frozen 0
  have j1 : w.cell? ⟨g, 1, none⟩ = some (.int .i64 x) := K.cell 1
  have jz1 := K.frozen 1
  have j2 : w.cell? ⟨g, 2, none⟩ = some (.int .i64 z) := K.cell 2
  have jz2 := K.frozen 2
  have j3 : w.cell? ⟨g, 3, none⟩ = some (.int .i64 t) := K.cell 3
  have jz3 := K.frozen 3
  have j4 : w.cell? ⟨g, 4, none⟩ = some (.int .i64 p) := K.cell 4
  have jz4 := K.frozen 4
  clear hH hH2 hV K
  go_enter Try.func24, Try.ntmps24
  rw [held_eq 2, held_eq 3]
  go_wp2_with fail
  go_region
  rw [HM.out]
  clear j0 j1 j2 j3 j4 jz0 jz1 jz2 jz3 jz4
  generalize (w.setCell ⟨g, 3, none⟩ (.int .i64 H)).drew = w1 at HR HT ⊢
  have j0 : w1.cell? ⟨g, 0, none⟩ = some (.int .i64 m) := HR.out.cell 0
  have jz0 := HR.out.frozen 0
  have j1 : w1.cell? ⟨g, 1, none⟩ = some (.int .i64 x) := HR.out.cell 1
  have jz1 := HR.out.frozen 1
  have j2 : w1.cell? ⟨g, 2, none⟩ = some (.int .i64 z) := HR.out.cell 2
  have jz2 := HR.out.frozen 2
  have j3 : w1.cell? ⟨g, 3, none⟩ = some (.int .i64 H) := HR.out.cell 3
  have jz3 := HR.out.frozen 3
  have j4 : w1.cell? ⟨g, 4, none⟩ = some (.int .i64 p) := HR.out.cell 4
  have jz4 := HR.out.frozen 4
  have K3 : Hid (Blk ((w1.setCell ⟨g, 2, none⟩ (.int .i64 m)).setCell ⟨g, 4, none⟩ (.int .i64 0)) g 48 #[.int .i64 m, .int .i64 x, .int .i64 m, .int .i64 H, .int .i64 0]) := Lib.hid ((HR.out.set_ 2 _).set_ 4 _)
  have T3 : Hid (Tw [g] w ((w1.setCell ⟨g, 2, none⟩ (.int .i64 m)).setCell ⟨g, 4, none⟩ (.int .i64 0))) := Lib.hid ((HT.out.trans (Tw.setCell _ ⟨g, 2, none⟩ _ (by simp))).trans (Tw.setCell _ ⟨g, 4, none⟩ _ (by simp)))
  clear HR HT
  go_wp2_with fail
  rw [← held_eq 2]
  go_wp2_with fail
  rw [← held_eq 3]
  go_wp2_with fail
  go_end0
  refine ⟨rfl, ?_, T3.out⟩
  rw [HS.out]
  exact K3.out
theorem refTimeout_nil (w : World) : Calls Try.prog 24 #[.pointer none] w fun e w' => e = .returned (.tuple #[]) ∧ w' = w := by
  go_enter Try.func24, Try.ntmps24
  go_wp2_with fail
  refine bodyPost_ret (results_none rfl _ _ _) rfl ?_
  exact ⟨rfl, rfl⟩
set_option maxRecDepth 100000 in
set_option maxHeartbeats 4000000 in
theorem refAcked (s : Wn) (n : Int) (full : Bool) (Q : Int) (g : Nat) (w : World) (h : s.Ok Q) (hq : Q ≤ 1125899906842624) (K : Blk w g 48 #[.int .i64 s.mtu, .int .i64 s.most, .int .i64 s.size, .int .i64 s.thr, .int .i64 s.part]) : Calls Try.prog 22 #[.pointer (some ⟨g, 0, none⟩), .int .i64 n, .bool full] w fun e w' => e = .returned (.tuple #[]) ∧ Blk w' g 48 #[.int .i64 (s.ack n full).mtu, .int .i64 (s.ack n full).most, .int .i64 (s.ack n full).size, .int .i64 (s.ack n full).thr, .int .i64 (s.ack n full).part] ∧ Tw [g] w w' := by
  by_cases n1 : 1 ≤ n
  · have HA : Hid (s.ack n full = (s.grow n full).clip) := Lib.hid (by unfold Wn.ack; rw [if_neg (by omega)])
    have HT := Lib.hid (Tw.refl [g] w)
    have n2 : ¬ n < 1 := by omega
    by_cases hs : s.size ≤ s.thr
    · have E1 := Lib.hid (grow_up (n := n) hs)
      have E0 := Lib.hid (grow_no (n := n) hs)
      obtain ⟨a1, a2, a3, a4, a5, a6, a7, a8, a9, a10⟩ := h
      obtain ⟨m, x, z, t, p⟩ := s
      change 128 ≤ m at a1
      change m ≤ 1500 at a2
      change 4 * m ≤ x at a3
      change x ≤ 16777216 at a4
      change m ≤ z at a5
      change z ≤ x at a6
      change 4 * m ≤ t at a7
      change t ≤ x at a8
      change 0 ≤ p at a9
      change p ≤ Q at a10
      change z ≤ t at hs
      have HR : Hid (Blk w g 48 #[.int .i64 m, .int .i64 x, .int .i64 z, .int .i64 t, .int .i64 p]) := Lib.hid K
      clear K
      cases full
      · have HG : Hid (Wn.grow ⟨m, x, z, t, p⟩ n false = ⟨m, x, z, t, p⟩) := Lib.hid E0.out
        clear E0 E1
        have j2 : w.cell? ⟨g, 2, none⟩ = some (.int .i64 z) := HR.out.cell 2
        have jz2 := HR.out.frozen 2
        have j3 : w.cell? ⟨g, 3, none⟩ = some (.int .i64 t) := HR.out.cell 3
        have jz3 := HR.out.frozen 3
        go_enter Try.func22, Try.ntmps22
        rw [drawn_eq 3, drawn_eq 4, drawn_eq 5, drawn_eq 6, drawn_eq 7, drawn_eq 8]
        go_wp2_with fail
        go_quiet (fail)
        have K1 := Lib.hid (HR.out.drewN nq)
        have T1 := Lib.hid (HT.out.drewN nq)
        clear HR HT j2 j3 jz2 jz3 hs
        generalize w.drewN nq = w0 at K1 T1 ⊢
        have HR := K1
        have HT := T1
        clear K1 T1
        have HE : Hid (Wn.ack ⟨m, x, z, t, p⟩ n false = ⟨m, x, z, t, p⟩) := Lib.hid (by rw [HA.out, HG.out]; unfold Wn.clip; rw [show min z x = z from by omega])
        have j1 : w0.cell? ⟨g, 1, none⟩ = some (.int .i64 x) := HR.out.cell 1
        have jz1 := HR.out.frozen 1
        have j2 : w0.cell? ⟨g, 2, none⟩ = some (.int .i64 z) := HR.out.cell 2
        have jz2 := HR.out.frozen 2
        have HR2 : Hid (Blk (w0.setCell ⟨g, 2, none⟩ (.int .i64 z)).drew g 48 #[.int .i64 m, .int .i64 x, .int .i64 z, .int .i64 t, .int .i64 p]) := Lib.hid ((HR.out.set_ 2 _).drewN 1)
        have HT2 : Hid (Tw [g] w (w0.setCell ⟨g, 2, none⟩ (.int .i64 z)).drew) := Lib.hid ((HT.out.trans (Tw.setCell _ ⟨g, 2, none⟩ _ (by simp))).drewN 1)
        clear HR HT
        go_wp2_with fail
        rw [← drawn_eq 8]
        go_region
        clear j1 jz1 j2 jz2
        generalize (w0.setCell ⟨g, 2, none⟩ (.int .i64 z)).drew = w9 at HR2 HT2 ⊢
        have HR := HR2
        have HT := HT2
        clear HR2 HT2
        go_wp2_with fail
        go_end0
        refine ⟨rfl, ?_, HT.out⟩
        rw [HE.out]
        exact HR.out
      · obtain ⟨M, hM⟩ : ∃ M, M = min n m := ⟨_, rfl⟩
        have HM : Hid ((if m < n then m else n) = M) := Lib.hid (by rw [hM]; split <;> omega)
        have m0 : 1 ≤ M := by omega
        have m1 : M ≤ m := by omega
        have HG : Hid (Wn.grow ⟨m, x, z, t, p⟩ n true = ⟨m, x, z + M, t, p⟩) := Lib.hid (by rw [hM]; exact E1.out)
        clear E0 E1 hM
        have j2 : w.cell? ⟨g, 2, none⟩ = some (.int .i64 z) := HR.out.cell 2
        have jz2 := HR.out.frozen 2
        have j3 : w.cell? ⟨g, 3, none⟩ = some (.int .i64 t) := HR.out.cell 3
        have jz3 := HR.out.frozen 3
        go_enter Try.func22, Try.ntmps22
        rw [drawn_eq 3, drawn_eq 4, drawn_eq 5, drawn_eq 6, drawn_eq 7, drawn_eq 8]
        go_wp2_with fail
        go_quiet (fail)
        have K1 := Lib.hid (HR.out.drewN nq)
        have T1 := Lib.hid (HT.out.drewN nq)
        clear HR HT j2 j3 jz2 jz3 hs
        generalize w.drewN nq = w0 at K1 T1 ⊢
        have HR := K1
        have HT := T1
        clear K1 T1
        have j0 : w0.cell? ⟨g, 0, none⟩ = some (.int .i64 m) := HR.out.cell 0
        have jz0 := HR.out.frozen 0
        have j2 : w0.cell? ⟨g, 2, none⟩ = some (.int .i64 z) := HR.out.cell 2
        have jz2 := HR.out.frozen 2
        have HR2 : Hid (Blk (w0.setCell ⟨g, 2, none⟩ (.int .i64 (z + M))).drew g 48 #[.int .i64 m, .int .i64 x, .int .i64 (z + M), .int .i64 t, .int .i64 p]) := Lib.hid ((HR.out.set_ 2 _).drewN 1)
        have HT2 : Hid (Tw [g] w (w0.setCell ⟨g, 2, none⟩ (.int .i64 (z + M))).drew) := Lib.hid ((HT.out.trans (Tw.setCell _ ⟨g, 2, none⟩ _ (by simp))).drewN 1)
        clear HR HT
        go_wp2_with fail
        rw [← drawn_eq 3]
        go_region
        rw [HM.out]
        clear j0 jz0 j2 jz2
        generalize (w0.setCell ⟨g, 2, none⟩ (.int .i64 (z + M))).drew = w1 at HR2 HT2 ⊢
        have HR := HR2
        have HT := HT2
        clear HR2 HT2
        obtain ⟨V, hV⟩ : ∃ V, V = min (z + M) x := ⟨_, rfl⟩
        have HV : Hid ((if x < z + M then x else z + M) = V) := Lib.hid (by rw [hV]; split <;> omega)
        have HE : Hid (Wn.ack ⟨m, x, z, t, p⟩ n true = ⟨m, x, V, t, p⟩) := Lib.hid (by rw [HA.out, HG.out, hV]; rfl)
        clear hV
        have j1 : w1.cell? ⟨g, 1, none⟩ = some (.int .i64 x) := HR.out.cell 1
        have jz1 := HR.out.frozen 1
        have j2 : w1.cell? ⟨g, 2, none⟩ = some (.int .i64 (z + M)) := HR.out.cell 2
        have jz2 := HR.out.frozen 2
        have HR2 : Hid (Blk (w1.setCell ⟨g, 2, none⟩ (.int .i64 V)).drew g 48 #[.int .i64 m, .int .i64 x, .int .i64 V, .int .i64 t, .int .i64 p]) := Lib.hid ((HR.out.set_ 2 _).drewN 1)
        have HT2 : Hid (Tw [g] w (w1.setCell ⟨g, 2, none⟩ (.int .i64 V)).drew) := Lib.hid ((HT.out.trans (Tw.setCell _ ⟨g, 2, none⟩ _ (by simp))).drewN 1)
        clear HR HT
        go_wp2_with fail
        rw [← drawn_eq 8]
        go_region
        rw [HV.out]
        clear j1 jz1 j2 jz2
        generalize (w1.setCell ⟨g, 2, none⟩ (.int .i64 V)).drew = w9 at HR2 HT2 ⊢
        have HR := HR2
        have HT := HT2
        clear HR2 HT2
        go_wp2_with fail
        go_end0
        refine ⟨rfl, ?_, HT.out⟩
        rw [HE.out]
        exact HR.out
    · have hs : s.thr < s.size := by omega
      have E0 := Lib.hid (grow_part0 (n := n) hs)
      have E1 := Lib.hid (fun h2 => grow_part1 (s := s) (n := n) (b := true) hs h2)
      have E2 := Lib.hid (fun h2 => grow_on (s := s) (n := n) hs h2)
      obtain ⟨a1, a2, a3, a4, a5, a6, a7, a8, a9, a10⟩ := h
      obtain ⟨m, x, z, t, p⟩ := s
      change 128 ≤ m at a1
      change m ≤ 1500 at a2
      change 4 * m ≤ x at a3
      change x ≤ 16777216 at a4
      change m ≤ z at a5
      change z ≤ x at a6
      change 4 * m ≤ t at a7
      change t ≤ x at a8
      change 0 ≤ p at a9
      change p ≤ Q at a10
      change t < z at hs
      have HR : Hid (Blk w g 48 #[.int .i64 m, .int .i64 x, .int .i64 z, .int .i64 t, .int .i64 p]) := Lib.hid K
      clear K
      obtain ⟨M, hM⟩ : ∃ M, M = min n x := ⟨_, rfl⟩
      obtain ⟨u, hu⟩ : ∃ u, u = p + M := ⟨_, rfl⟩
      have HM : Hid ((if x < n then x else n) = M) := Lib.hid (by rw [hM]; split <;> omega)
      have HU : Hid (p + M = u) := Lib.hid hu.symm
      have m0 : 1 ≤ M := by omega
      have m1 : M ≤ x := by omega
      have u0 : 0 ≤ u := by omega
      have u1 : u ≤ 1125899923619840 := by omega
      change Hid (Wn.grow ⟨m, x, z, t, p⟩ n false = ⟨m, x, z, t, p + min n x⟩) at E0
      change Hid (¬ z ≤ p + min n x → Wn.grow ⟨m, x, z, t, p⟩ n true = ⟨m, x, z, t, p + min n x⟩) at E1
      change Hid (z ≤ p + min n x → Wn.grow ⟨m, x, z, t, p⟩ n true = ⟨m, x, z + m, t, p + min n x - z⟩) at E2
      rw [← hM, ← hu] at E0 E1 E2
      clear hM hu
      have j2 : w.cell? ⟨g, 2, none⟩ = some (.int .i64 z) := HR.out.cell 2
      have jz2 := HR.out.frozen 2
      have j3 : w.cell? ⟨g, 3, none⟩ = some (.int .i64 t) := HR.out.cell 3
      have jz3 := HR.out.frozen 3
      go_enter Try.func22, Try.ntmps22
      rw [drawn_eq 3, drawn_eq 4, drawn_eq 5, drawn_eq 6, drawn_eq 7, drawn_eq 8]
      go_wp2_with fail
      go_quiet (fail)
      have K1 := Lib.hid (HR.out.drewN nq)
      have T1 := Lib.hid (HT.out.drewN nq)
      clear HR HT j2 j3 jz2 jz3 hs
      generalize w.drewN nq = w0 at K1 T1 ⊢
      have HR := K1
      have HT := T1
      clear K1 T1
      have j1 : w0.cell? ⟨g, 1, none⟩ = some (.int .i64 x) := HR.out.cell 1
      have jz1 := HR.out.frozen 1
      have j4 : w0.cell? ⟨g, 4, none⟩ = some (.int .i64 p) := HR.out.cell 4
      have jz4 := HR.out.frozen 4
      have HR2 : Hid (Blk (w0.setCell ⟨g, 4, none⟩ (.int .i64 u)).drew g 48 #[.int .i64 m, .int .i64 x, .int .i64 z, .int .i64 t, .int .i64 u]) := Lib.hid ((HR.out.set_ 4 _).drewN 1)
      have HT2 : Hid (Tw [g] w (w0.setCell ⟨g, 4, none⟩ (.int .i64 u)).drew) := Lib.hid ((HT.out.trans (Tw.setCell _ ⟨g, 4, none⟩ _ (by simp))).drewN 1)
      clear HR HT
      go_wp2_with fail
      rw [← drawn_eq 4]
      go_region
      rw [HM.out, HU.out]
      clear j1 jz1 j4 jz4
      generalize (w0.setCell ⟨g, 4, none⟩ (.int .i64 u)).drew = w1 at HR2 HT2 ⊢
      have HR := HR2
      have HT := HT2
      clear HR2 HT2
      cases full
      · have HG : Hid (Wn.grow ⟨m, x, z, t, p⟩ n false = ⟨m, x, z, t, u⟩) := E0
        clear E0 E1 E2
        have j2 : w1.cell? ⟨g, 2, none⟩ = some (.int .i64 z) := HR.out.cell 2
        have jz2 := HR.out.frozen 2
        have j4 : w1.cell? ⟨g, 4, none⟩ = some (.int .i64 u) := HR.out.cell 4
        have jz4 := HR.out.frozen 4
        go_wp2_with fail
        rw [← drawn_eq 5]
        go_quiet (fail)
        have K1 := Lib.hid (HR.out.drewN nq)
        have T1 := Lib.hid (HT.out.drewN nq)
        clear HR HT j2 j4 jz2 jz4
        generalize w1.drewN nq = w2 at K1 T1 ⊢
        have HR := K1
        have HT := T1
        clear K1 T1
        have HE : Hid (Wn.ack ⟨m, x, z, t, p⟩ n false = ⟨m, x, z, t, u⟩) := Lib.hid (by rw [HA.out, HG.out]; unfold Wn.clip; rw [show min z x = z from by omega])
        have j1 : w2.cell? ⟨g, 1, none⟩ = some (.int .i64 x) := HR.out.cell 1
        have jz1 := HR.out.frozen 1
        have j2 : w2.cell? ⟨g, 2, none⟩ = some (.int .i64 z) := HR.out.cell 2
        have jz2 := HR.out.frozen 2
        have HR2 : Hid (Blk (w2.setCell ⟨g, 2, none⟩ (.int .i64 z)).drew g 48 #[.int .i64 m, .int .i64 x, .int .i64 z, .int .i64 t, .int .i64 u]) := Lib.hid ((HR.out.set_ 2 _).drewN 1)
        have HT2 : Hid (Tw [g] w (w2.setCell ⟨g, 2, none⟩ (.int .i64 z)).drew) := Lib.hid ((HT.out.trans (Tw.setCell _ ⟨g, 2, none⟩ _ (by simp))).drewN 1)
        clear HR HT
        go_wp2_with fail
        rw [← drawn_eq 8]
        go_region
        clear j1 jz1 j2 jz2
        generalize (w2.setCell ⟨g, 2, none⟩ (.int .i64 z)).drew = w9 at HR2 HT2 ⊢
        have HR := HR2
        have HT := HT2
        clear HR2 HT2
        go_wp2_with fail
        go_end0
        refine ⟨rfl, ?_, HT.out⟩
        rw [HE.out]
        exact HR.out
      · by_cases hz : z ≤ u
        · have hd : decide (z ≤ u) = true := decide_eq_true hz
          obtain ⟨v, hv⟩ : ∃ v, v = u - z := ⟨_, rfl⟩
          have HV0 : Hid (u - z = v) := Lib.hid hv.symm
          have HG : Hid (Wn.grow ⟨m, x, z, t, p⟩ n true = ⟨m, x, z + m, t, v⟩) := Lib.hid (by rw [hv]; exact E2.out hz)
          clear E0 E1 E2 hv
          have j2 : w1.cell? ⟨g, 2, none⟩ = some (.int .i64 z) := HR.out.cell 2
          have jz2 := HR.out.frozen 2
          have j4 : w1.cell? ⟨g, 4, none⟩ = some (.int .i64 u) := HR.out.cell 4
          have jz4 := HR.out.frozen 4
          go_wp2_with fail
          rw [← drawn_eq 5]
          go_quiet (fail)
          have K1 := Lib.hid (HR.out.drewN nq)
          have T1 := Lib.hid (HT.out.drewN nq)
          clear HR HT j2 j4 jz2 jz4
          generalize w1.drewN nq = w2 at K1 T1 ⊢
          have HR := K1
          have HT := T1
          clear K1 T1
          have j2 : w2.cell? ⟨g, 2, none⟩ = some (.int .i64 z) := HR.out.cell 2
          have jz2 := HR.out.frozen 2
          have j4 : w2.cell? ⟨g, 4, none⟩ = some (.int .i64 u) := HR.out.cell 4
          have jz4 := HR.out.frozen 4
          have HR2 : Hid (Blk (w2.setCell ⟨g, 4, none⟩ (.int .i64 v)).drew g 48 #[.int .i64 m, .int .i64 x, .int .i64 z, .int .i64 t, .int .i64 v]) := Lib.hid ((HR.out.set_ 4 _).drewN 1)
          have HT2 : Hid (Tw [g] w (w2.setCell ⟨g, 4, none⟩ (.int .i64 v)).drew) := Lib.hid ((HT.out.trans (Tw.setCell _ ⟨g, 4, none⟩ _ (by simp))).drewN 1)
          clear HR HT
          go_wp2_with fail
          rw [← drawn_eq 6]
          go_region
          rw [HV0.out]
          clear j2 jz2 j4 jz4
          generalize (w2.setCell ⟨g, 4, none⟩ (.int .i64 v)).drew = w3 at HR2 HT2 ⊢
          have HR := HR2
          have HT := HT2
          clear HR2 HT2
          have j0 : w3.cell? ⟨g, 0, none⟩ = some (.int .i64 m) := HR.out.cell 0
          have jz0 := HR.out.frozen 0
          have j2 : w3.cell? ⟨g, 2, none⟩ = some (.int .i64 z) := HR.out.cell 2
          have jz2 := HR.out.frozen 2
          have HR2 : Hid (Blk (w3.setCell ⟨g, 2, none⟩ (.int .i64 (z + m))).drew g 48 #[.int .i64 m, .int .i64 x, .int .i64 (z + m), .int .i64 t, .int .i64 v]) := Lib.hid ((HR.out.set_ 2 _).drewN 1)
          have HT2 : Hid (Tw [g] w (w3.setCell ⟨g, 2, none⟩ (.int .i64 (z + m))).drew) := Lib.hid ((HT.out.trans (Tw.setCell _ ⟨g, 2, none⟩ _ (by simp))).drewN 1)
          clear HR HT
          go_wp2_with fail
          rw [← drawn_eq 7]
          go_region
          clear j0 jz0 j2 jz2
          generalize (w3.setCell ⟨g, 2, none⟩ (.int .i64 (z + m))).drew = w4 at HR2 HT2 ⊢
          have HR := HR2
          have HT := HT2
          clear HR2 HT2
          obtain ⟨V, hV⟩ : ∃ V, V = min (z + m) x := ⟨_, rfl⟩
          have HV : Hid ((if x < z + m then x else z + m) = V) := Lib.hid (by rw [hV]; split <;> omega)
          have HE : Hid (Wn.ack ⟨m, x, z, t, p⟩ n true = ⟨m, x, V, t, v⟩) := Lib.hid (by rw [HA.out, HG.out, hV]; rfl)
          clear hV
          have j1 : w4.cell? ⟨g, 1, none⟩ = some (.int .i64 x) := HR.out.cell 1
          have jz1 := HR.out.frozen 1
          have j2 : w4.cell? ⟨g, 2, none⟩ = some (.int .i64 (z + m)) := HR.out.cell 2
          have jz2 := HR.out.frozen 2
          have HR2 : Hid (Blk (w4.setCell ⟨g, 2, none⟩ (.int .i64 V)).drew g 48 #[.int .i64 m, .int .i64 x, .int .i64 V, .int .i64 t, .int .i64 v]) := Lib.hid ((HR.out.set_ 2 _).drewN 1)
          have HT2 : Hid (Tw [g] w (w4.setCell ⟨g, 2, none⟩ (.int .i64 V)).drew) := Lib.hid ((HT.out.trans (Tw.setCell _ ⟨g, 2, none⟩ _ (by simp))).drewN 1)
          clear HR HT
          go_wp2_with fail
          rw [← drawn_eq 8]
          go_region
          rw [HV.out]
          clear j1 jz1 j2 jz2
          generalize (w4.setCell ⟨g, 2, none⟩ (.int .i64 V)).drew = w9 at HR2 HT2 ⊢
          have HR := HR2
          have HT := HT2
          clear HR2 HT2
          go_wp2_with fail
          go_end0
          refine ⟨rfl, ?_, HT.out⟩
          rw [HE.out]
          exact HR.out
        · have hd : decide (z ≤ u) = false := decide_eq_false hz
          have HG : Hid (Wn.grow ⟨m, x, z, t, p⟩ n true = ⟨m, x, z, t, u⟩) := Lib.hid (E1.out (by omega))
          clear E0 E1 E2
          have j2 : w1.cell? ⟨g, 2, none⟩ = some (.int .i64 z) := HR.out.cell 2
          have jz2 := HR.out.frozen 2
          have j4 : w1.cell? ⟨g, 4, none⟩ = some (.int .i64 u) := HR.out.cell 4
          have jz4 := HR.out.frozen 4
          go_wp2_with fail
          rw [← drawn_eq 5]
          go_quiet (fail)
          have K1 := Lib.hid (HR.out.drewN nq)
          have T1 := Lib.hid (HT.out.drewN nq)
          clear HR HT j2 j4 jz2 jz4
          generalize w1.drewN nq = w2 at K1 T1 ⊢
          have HR := K1
          have HT := T1
          clear K1 T1
          have HE : Hid (Wn.ack ⟨m, x, z, t, p⟩ n true = ⟨m, x, z, t, u⟩) := Lib.hid (by rw [HA.out, HG.out]; unfold Wn.clip; rw [show min z x = z from by omega])
          have j1 : w2.cell? ⟨g, 1, none⟩ = some (.int .i64 x) := HR.out.cell 1
          have jz1 := HR.out.frozen 1
          have j2 : w2.cell? ⟨g, 2, none⟩ = some (.int .i64 z) := HR.out.cell 2
          have jz2 := HR.out.frozen 2
          have HR2 : Hid (Blk (w2.setCell ⟨g, 2, none⟩ (.int .i64 z)).drew g 48 #[.int .i64 m, .int .i64 x, .int .i64 z, .int .i64 t, .int .i64 u]) := Lib.hid ((HR.out.set_ 2 _).drewN 1)
          have HT2 : Hid (Tw [g] w (w2.setCell ⟨g, 2, none⟩ (.int .i64 z)).drew) := Lib.hid ((HT.out.trans (Tw.setCell _ ⟨g, 2, none⟩ _ (by simp))).drewN 1)
          clear HR HT
          go_wp2_with fail
          rw [← drawn_eq 8]
          go_region
          clear j1 jz1 j2 jz2
          generalize (w2.setCell ⟨g, 2, none⟩ (.int .i64 z)).drew = w9 at HR2 HT2 ⊢
          have HR := HR2
          have HT := HT2
          clear HR2 HT2
          go_wp2_with fail
          go_end0
          refine ⟨rfl, ?_, HT.out⟩
          rw [HE.out]
          exact HR.out
  · have HE : Hid (s.ack n full = s) := Lib.hid (by unfold Wn.ack; rw [if_pos (by omega)])
    have n2 : n < 1 := by omega
    clear n1
    go_enter Try.func22, Try.ntmps22
    go_wp2_with fail
    refine bodyPost_ret (results_none rfl _ _ _) rfl ?_
    refine ⟨rfl, ?_, Tw.refl _ _⟩
    rw [HE.out]
    exact K
theorem refAcked_nil (n : Int) (full : Bool) (w : World) : Calls Try.prog 22 #[.pointer none, .int .i64 n, .bool full] w fun e w' => e = .returned (.tuple #[]) ∧ w' = w := by
  go_enter Try.func22, Try.ntmps22
  go_wp2_with fail
  refine bodyPost_ret (results_none rfl _ _ _) rfl ?_
  exact ⟨rfl, rfl⟩
end Go.Proofs.Ytlkppgdeaphoeaa
