/-
  Package window: quickly, slowly, Acked of the code over a state.
-/
import Derived.Test.YtlkppgdeaphoeaaWnB
import Derived.BigQuiet
namespace Go.Proofs.Ytlkppgdeaphoeaa
open Go.RowKit
set_option linter.unusedVariables false

theorem grow_up {s : Wn} {n : Int} (h : s.size ≤ s.thr) : s.grow n true = { s with size := s.size + min n s.mtu } := by unfold Wn.grow; rw [if_pos h, if_pos rfl]
theorem grow_no {s : Wn} {n : Int} (h : s.size ≤ s.thr) : s.grow n false = s := by unfold Wn.grow; rw [if_pos h, if_neg (by decide)]
theorem grow_on {s : Wn} {n : Int} (h : s.thr < s.size) (h2 : s.size ≤ s.part + min n s.most) : s.grow n true = { s with size := s.size + s.mtu, part := s.part + min n s.most - s.size } := by unfold Wn.grow; rw [if_neg (by omega), if_pos ⟨rfl, h2⟩]
theorem grow_part1 {s : Wn} {n : Int} (h : s.thr < s.size) (h2 : ¬ s.size ≤ s.part + min n s.most) {b : Bool} : s.grow n b = { s with part := s.part + min n s.most } := by unfold Wn.grow; rw [if_neg (by omega), if_neg (fun c => h2 c.2)]
theorem grow_part0 {s : Wn} {n : Int} (h : s.thr < s.size) : s.grow n false = { s with part := s.part + min n s.most } := by unfold Wn.grow; rw [if_neg (by omega), if_neg (fun c => by simp at c)]
set_option maxRecDepth 100000 in
set_option maxHeartbeats 4000000 in
theorem codeQuick (s : Wn) (n : Int) (full : Bool) (Q : Int) (g : Nat) (w : World) (h : s.Ok Q) (n1 : 1 ≤ n) (hs : s.size ≤ s.thr) (K : Blk w g 46 #[.int .i64 s.mtu, .int .i64 s.most, .int .i64 s.size, .int .i64 s.thr, .int .i64 s.part]) : Calls Try.prog 28 #[.pointer (some ⟨g, 0, none⟩), .int .i64 n, .bool full] w fun e w' => e = .returned (.tuple #[]) ∧ Blk w' g 46 #[.int .i64 (s.grow n full).mtu, .int .i64 (s.grow n full).most, .int .i64 (s.grow n full).size, .int .i64 (s.grow n full).thr, .int .i64 (s.grow n full).part] ∧ Tw [g] w w' := by
  cases full
  · have E := Lib.hid (grow_no (n := n) hs)
    go_enter Try.func28, Try.ntmps28
    go_wp2_with fail
    go_end0
    rw [E.out]
    exact ⟨rfl, K, Tw.refl _ _⟩
  · have E := Lib.hid (grow_up (n := n) hs)
    obtain ⟨a1, a2, a3, a4, a5, a6, a7, a8, a9, a10⟩ := h
    obtain ⟨m, x, z, t, p⟩ := s
    change 128 ≤ m at a1
    change m ≤ 1500 at a2
    change 4 * m ≤ x at a3
    change x ≤ 16777216 at a4
    change m ≤ z at a5
    change z ≤ x at a6
    change 4 * m ≤ t at a7
    change t ≤ x at a8
    change 0 ≤ p at a9
    change p ≤ Q at a10
    change z ≤ t at hs
    obtain ⟨M, hM⟩ : ∃ M, M = min n m := ⟨_, rfl⟩
    have HM : Hid ((if m < n then m else n) = M) := Lib.hid (by rw [hM]; split <;> omega)
    have m0 : 1 ≤ M := by omega
    have m1 : M ≤ m := by omega
    have HE : Hid (Wn.grow ⟨m, x, z, t, p⟩ n true = ⟨m, x, z + M, t, p⟩) := Lib.hid (by rw [E.out, hM])
    have HR : Hid (Blk (w.setCell ⟨g, 2, none⟩ (.int .i64 (z + M))).drew g 46 #[.int .i64 m, .int .i64 x, .int .i64 (z + M), .int .i64 t, .int .i64 p]) := Lib.hid ((K.set_ 2 _).drewN 1)
    have HT : Hid (Tw [g] w (w.setCell ⟨g, 2, none⟩ (.int .i64 (z + M))).drew) := Lib.hid ((Tw.setCell w ⟨g, 2, none⟩ _ (by simp)).drewN 1)
    change Blk w g 46 #[.int .i64 m, .int .i64 x, .int .i64 z, .int .i64 t, .int .i64 p] at K
    have j0 : w.cell? ⟨g, 0, none⟩ = some (.int .i64 m) := K.cell 0
    have jz0 := K.frozen 0
    have j1 : w.cell? ⟨g, 1, none⟩ = some (.int .i64 x) := K.cell 1
    have jz1 := K.frozen 1
    have j2 : w.cell? ⟨g, 2, none⟩ = some (.int .i64 z) := K.cell 2
    have jz2 := K.frozen 2
    have j3 : w.cell? ⟨g, 3, none⟩ = some (.int .i64 t) := K.cell 3
    have jz3 := K.frozen 3
    have j4 : w.cell? ⟨g, 4, none⟩ = some (.int .i64 p) := K.cell 4
    have jz4 := K.frozen 4
    clear K hM E hs
    go_enter Try.func28, Try.ntmps28
    go_wp2_with fail
    go_region
    rw [HM.out]
    go_wp2_with fail
    go_end0
    refine ⟨rfl, ?_, HT.out⟩
    rw [HE.out]
    exact HR.out
set_option maxRecDepth 100000 in
set_option maxHeartbeats 4000000 in
theorem codeSlow (s : Wn) (n : Int) (full : Bool) (Q : Int) (g : Nat) (w : World) (h : s.Ok Q) (hq : Q ≤ 1125899906842624) (n1 : 1 ≤ n) (hs : s.thr < s.size) (K : Blk w g 46 #[.int .i64 s.mtu, .int .i64 s.most, .int .i64 s.size, .int .i64 s.thr, .int .i64 s.part]) : Calls Try.prog 27 #[.pointer (some ⟨g, 0, none⟩), .int .i64 n, .bool full] w fun e w' => e = .returned (.tuple #[]) ∧ Blk w' g 46 #[.int .i64 (s.grow n full).mtu, .int .i64 (s.grow n full).most, .int .i64 (s.grow n full).size, .int .i64 (s.grow n full).thr, .int .i64 (s.grow n full).part] ∧ Tw [g] w w' := by
  have E0 := Lib.hid (grow_part0 (n := n) hs)
  have E1 := Lib.hid (fun h2 => grow_part1 (s := s) (n := n) (b := true) hs h2)
  have E2 := Lib.hid (fun h2 => grow_on (s := s) (n := n) hs h2)
  obtain ⟨a1, a2, a3, a4, a5, a6, a7, a8, a9, a10⟩ := h
  obtain ⟨m, x, z, t, p⟩ := s
  change 128 ≤ m at a1
  change m ≤ 1500 at a2
  change 4 * m ≤ x at a3
  change x ≤ 16777216 at a4
  change m ≤ z at a5
  change z ≤ x at a6
  change 4 * m ≤ t at a7
  change t ≤ x at a8
  change 0 ≤ p at a9
  change p ≤ Q at a10
  change t < z at hs
  obtain ⟨M, hM⟩ : ∃ M, M = min n x := ⟨_, rfl⟩
  obtain ⟨u, hu⟩ : ∃ u, u = p + M := ⟨_, rfl⟩
  have HM : Hid ((if x < n then x else n) = M) := Lib.hid (by rw [hM]; split <;> omega)
  have HU : Hid (p + M = u) := Lib.hid hu.symm
  have m0 : 1 ≤ M := by omega
  have m1 : M ≤ x := by omega
  have u0 : 0 ≤ u := by omega
  have u1 : u ≤ 1125899923619840 := by omega
  change Hid (Wn.grow ⟨m, x, z, t, p⟩ n false = ⟨m, x, z, t, p + min n x⟩) at E0
  change Hid (¬ z ≤ p + min n x → Wn.grow ⟨m, x, z, t, p⟩ n true = ⟨m, x, z, t, p + min n x⟩) at E1
  change Hid (z ≤ p + min n x → Wn.grow ⟨m, x, z, t, p⟩ n true = ⟨m, x, z + m, t, p + min n x - z⟩) at E2
  rw [← hM, ← hu] at E0 E1 E2
  clear hM hu hs
  cases full
  · skip
    have HR : Hid (Blk (w.setCell ⟨g, 4, none⟩ (.int .i64 u)).drew g 46 #[.int .i64 m, .int .i64 x, .int .i64 z, .int .i64 t, .int .i64 u]) := Lib.hid ((K.set_ 4 _).drewN 1)
    have HT : Hid (Tw [g] w (w.setCell ⟨g, 4, none⟩ (.int .i64 u)).drew) := Lib.hid ((Tw.setCell w ⟨g, 4, none⟩ _ (by simp)).drewN 1)
    change Blk w g 46 #[.int .i64 m, .int .i64 x, .int .i64 z, .int .i64 t, .int .i64 p] at K
    have j0 : w.cell? ⟨g, 0, none⟩ = some (.int .i64 m) := K.cell 0
    have jz0 := K.frozen 0
    have j1 : w.cell? ⟨g, 1, none⟩ = some (.int .i64 x) := K.cell 1
    have jz1 := K.frozen 1
    have j2 : w.cell? ⟨g, 2, none⟩ = some (.int .i64 z) := K.cell 2
    have jz2 := K.frozen 2
    have j3 : w.cell? ⟨g, 3, none⟩ = some (.int .i64 t) := K.cell 3
    have jz3 := K.frozen 3
    have j4 : w.cell? ⟨g, 4, none⟩ = some (.int .i64 p) := K.cell 4
    have jz4 := K.frozen 4
    clear K
    go_enter Try.func27, Try.ntmps27
    rw [drawn_eq 1, drawn_eq 2, drawn_eq 3]
    go_wp2_with fail
    go_region
    rw [HM.out, HU.out]
    generalize (w.setCell ⟨g, 4, none⟩ (.int .i64 u)).drew = w1 at HR HT ⊢
    clear j0 j1 j2 j3 j4 jz0 jz1 jz2 jz3 jz4
    go_wp2_with fail
    rw [← drawn_eq 1]
    go_quiet (fail)
    go_wp2_with fail
    go_end0
    refine ⟨rfl, ?_, (HT.out.drewN _)⟩
    rw [E0.out]
    exact HR.out.drewN _
  · by_cases hz : z ≤ u
    · skip
      have HR : Hid (Blk (w.setCell ⟨g, 4, none⟩ (.int .i64 u)).drew g 46 #[.int .i64 m, .int .i64 x, .int .i64 z, .int .i64 t, .int .i64 u]) := Lib.hid ((K.set_ 4 _).drewN 1)
      have HT : Hid (Tw [g] w (w.setCell ⟨g, 4, none⟩ (.int .i64 u)).drew) := Lib.hid ((Tw.setCell w ⟨g, 4, none⟩ _ (by simp)).drewN 1)
      change Blk w g 46 #[.int .i64 m, .int .i64 x, .int .i64 z, .int .i64 t, .int .i64 p] at K
      have j0 : w.cell? ⟨g, 0, none⟩ = some (.int .i64 m) := K.cell 0
      have jz0 := K.frozen 0
      have j1 : w.cell? ⟨g, 1, none⟩ = some (.int .i64 x) := K.cell 1
      have jz1 := K.frozen 1
      have j2 : w.cell? ⟨g, 2, none⟩ = some (.int .i64 z) := K.cell 2
      have jz2 := K.frozen 2
      have j3 : w.cell? ⟨g, 3, none⟩ = some (.int .i64 t) := K.cell 3
      have jz3 := K.frozen 3
      have j4 : w.cell? ⟨g, 4, none⟩ = some (.int .i64 p) := K.cell 4
      have jz4 := K.frozen 4
      clear K
      go_enter Try.func27, Try.ntmps27
      rw [drawn_eq 1, drawn_eq 2, drawn_eq 3]
      go_wp2_with fail
      go_region
      rw [HM.out, HU.out]
      generalize (w.setCell ⟨g, 4, none⟩ (.int .i64 u)).drew = w1 at HR HT ⊢
      clear j0 j1 j2 j3 j4 jz0 jz1 jz2 jz3 jz4
      have E := Lib.hid (E2.out hz)
      have j2 : w1.cell? ⟨g, 2, none⟩ = some (.int .i64 z) := HR.out.cell 2
      have jz2 := HR.out.frozen 2
      have j4 : w1.cell? ⟨g, 4, none⟩ = some (.int .i64 u) := HR.out.cell 4
      have jz4 := HR.out.frozen 4
      have hd : decide (z ≤ u) = true := decide_eq_true hz
      go_wp2_with fail
      rw [← drawn_eq 1]
      go_quiet (fail)
      obtain ⟨v, hv⟩ : ∃ v, v = u - z := ⟨_, rfl⟩
      have HV : Hid (u - z = v) := Lib.hid hv.symm
      have HE : Hid (Wn.grow ⟨m, x, z, t, p⟩ n true = ⟨m, x, z + m, t, v⟩) := Lib.hid (by rw [E.out, hv])
      clear hv E
      have K1 := Lib.hid (HR.out.drewN nq)
      have T1 := Lib.hid (HT.out.drewN nq)
      clear HR HT j2 j4 jz2 jz4
      generalize w1.drewN nq = w2 at K1 T1 ⊢
      have j0 : w2.cell? ⟨g, 0, none⟩ = some (.int .i64 m) := K1.out.cell 0
      have jz0 := K1.out.frozen 0
      have j2 : w2.cell? ⟨g, 2, none⟩ = some (.int .i64 z) := K1.out.cell 2
      have jz2 := K1.out.frozen 2
      have j4 : w2.cell? ⟨g, 4, none⟩ = some (.int .i64 u) := K1.out.cell 4
      have jz4 := K1.out.frozen 4
      have HR : Hid (Blk (w2.setCell ⟨g, 4, none⟩ (.int .i64 v)).drew g 46 #[.int .i64 m, .int .i64 x, .int .i64 z, .int .i64 t, .int .i64 v]) := Lib.hid ((K1.out.set_ 4 _).drewN 1)
      have HT : Hid (Tw [g] w (w2.setCell ⟨g, 4, none⟩ (.int .i64 v)).drew) := Lib.hid ((T1.out.trans (Tw.setCell _ ⟨g, 4, none⟩ _ (by simp))).drewN 1)
      clear K1 T1
      go_wp2_with fail
      rw [← drawn_eq 2]
      go_region
      rw [HV.out]
      clear j0 j2 j4 jz0 jz2 jz4
      generalize (w2.setCell ⟨g, 4, none⟩ (.int .i64 v)).drew = w3 at HR HT ⊢
      have j0 : w3.cell? ⟨g, 0, none⟩ = some (.int .i64 m) := HR.out.cell 0
      have jz0 := HR.out.frozen 0
      have j2 : w3.cell? ⟨g, 2, none⟩ = some (.int .i64 z) := HR.out.cell 2
      have jz2 := HR.out.frozen 2
      have j4 : w3.cell? ⟨g, 4, none⟩ = some (.int .i64 v) := HR.out.cell 4
      have jz4 := HR.out.frozen 4
      have HR2 : Hid (Blk (w3.setCell ⟨g, 2, none⟩ (.int .i64 (z + m))).drew g 46 #[.int .i64 m, .int .i64 x, .int .i64 (z + m), .int .i64 t, .int .i64 v]) := Lib.hid ((HR.out.set_ 2 _).drewN 1)
      have HT2 : Hid (Tw [g] w (w3.setCell ⟨g, 2, none⟩ (.int .i64 (z + m))).drew) := Lib.hid ((HT.out.trans (Tw.setCell _ ⟨g, 2, none⟩ _ (by simp))).drewN 1)
      clear HR HT
      go_wp2_with fail
      rw [← drawn_eq 3]
      go_region
      go_wp2_with fail
      go_end0
      refine ⟨rfl, ?_, HT2.out⟩
      rw [HE.out]
      exact HR2.out
    · skip
      have HR : Hid (Blk (w.setCell ⟨g, 4, none⟩ (.int .i64 u)).drew g 46 #[.int .i64 m, .int .i64 x, .int .i64 z, .int .i64 t, .int .i64 u]) := Lib.hid ((K.set_ 4 _).drewN 1)
      have HT : Hid (Tw [g] w (w.setCell ⟨g, 4, none⟩ (.int .i64 u)).drew) := Lib.hid ((Tw.setCell w ⟨g, 4, none⟩ _ (by simp)).drewN 1)
      change Blk w g 46 #[.int .i64 m, .int .i64 x, .int .i64 z, .int .i64 t, .int .i64 p] at K
      have j0 : w.cell? ⟨g, 0, none⟩ = some (.int .i64 m) := K.cell 0
      have jz0 := K.frozen 0
      have j1 : w.cell? ⟨g, 1, none⟩ = some (.int .i64 x) := K.cell 1
      have jz1 := K.frozen 1
      have j2 : w.cell? ⟨g, 2, none⟩ = some (.int .i64 z) := K.cell 2
      have jz2 := K.frozen 2
      have j3 : w.cell? ⟨g, 3, none⟩ = some (.int .i64 t) := K.cell 3
      have jz3 := K.frozen 3
      have j4 : w.cell? ⟨g, 4, none⟩ = some (.int .i64 p) := K.cell 4
      have jz4 := K.frozen 4
      clear K
      go_enter Try.func27, Try.ntmps27
      rw [drawn_eq 1, drawn_eq 2, drawn_eq 3]
      go_wp2_with fail
      go_region
      rw [HM.out, HU.out]
      generalize (w.setCell ⟨g, 4, none⟩ (.int .i64 u)).drew = w1 at HR HT ⊢
      clear j0 j1 j2 j3 j4 jz0 jz1 jz2 jz3 jz4
      have E := Lib.hid (E1.out (by omega))
      have hd : decide (z ≤ u) = false := decide_eq_false (by omega)
      have j2 : w1.cell? ⟨g, 2, none⟩ = some (.int .i64 z) := HR.out.cell 2
      have jz2 := HR.out.frozen 2
      have j4 : w1.cell? ⟨g, 4, none⟩ = some (.int .i64 u) := HR.out.cell 4
      have jz4 := HR.out.frozen 4
      go_wp2_with fail
      rw [← drawn_eq 1]
      go_quiet (fail)
      go_wp2_with fail
      go_end0
      refine ⟨rfl, ?_, HT.out.drewN _⟩
      rw [E.out]
      exact HR.out.drewN _
set_option maxRecDepth 100000 in
set_option maxHeartbeats 4000000 in
theorem codeAcked (s : Wn) (n : Int) (full : Bool) (Q : Int) (g : Nat) (w : World) (h : s.Ok Q) (hq : Q ≤ 1125899906842624) (K : Blk w g 46 #[.int .i64 s.mtu, .int .i64 s.most, .int .i64 s.size, .int .i64 s.thr, .int .i64 s.part]) : Calls Try.prog 19 #[.pointer (some ⟨g, 0, none⟩), .int .i64 n, .bool full] w fun e w' => e = .returned (.tuple #[]) ∧ Blk w' g 46 #[.int .i64 (s.ack n full).mtu, .int .i64 (s.ack n full).most, .int .i64 (s.ack n full).size, .int .i64 (s.ack n full).thr, .int .i64 (s.ack n full).part] ∧ Tw [g] w w' := by
  by_cases n1 : 1 ≤ n
  · by_cases hs : s.size ≤ s.thr
    · skip
      have HG := Lib.hid (codeGrowth_up s g w hs K)
      have HC : Hid (∀ d, Calls Try.prog 28 #[.pointer (some ⟨g, 0, none⟩), .int .i64 n, .bool full] (w.drewN d) fun e w' => e = .returned (.tuple #[]) ∧ Blk w' g 46 #[.int .i64 (s.grow n full).mtu, .int .i64 (s.grow n full).most, .int .i64 (s.grow n full).size, .int .i64 (s.grow n full).thr, .int .i64 (s.grow n full).part] ∧ Tw [g] (w.drewN d) w') := Lib.hid fun d => codeQuick s n full Q g (w.drewN d) h n1 hs (K.drewN d)
      clear K hs
      go_enter Try.func19, Try.ntmps19
      go_wp2_with fail
      refine HG.out.mono ?_
      rintro e w1 ⟨rfl, d, rfl⟩
      go_wp2_with fail
      refine (HC.out d).mono ?_
      rintro e w2 ⟨rfl, K2, T2⟩
      have T2 : Hid (Tw [g] w w2) := Lib.hid (((Tw.refl [g] w).drewN d).trans T2)
      obtain ⟨r, hr⟩ : ∃ r, r = s.grow n full := ⟨_, rfl⟩
      have HA : Hid (s.ack n full = r.clip) := Lib.hid (by rw [hr]; unfold Wn.ack; rw [if_neg (by omega)])
      rw [← hr] at K2
      clear hr
      obtain ⟨m, x, z, t, p⟩ := r
      obtain ⟨V, hV⟩ : ∃ V, V = min z x := ⟨_, rfl⟩
      have HV : Hid ((if x < z then x else z) = V) := Lib.hid (by rw [hV]; split <;> omega)
      have HE : Hid (s.ack n full = ⟨m, x, V, t, p⟩) := Lib.hid (by rw [HA.out, hV]; rfl)
      have HR : Hid (Blk (w2.setCell ⟨g, 2, none⟩ (.int .i64 V)).drew g 46 #[.int .i64 m, .int .i64 x, .int .i64 V, .int .i64 t, .int .i64 p]) := Lib.hid ((K2.set_ 2 _).drewN 1)
      have HT : Hid (Tw [g] w (w2.setCell ⟨g, 2, none⟩ (.int .i64 V)).drew) := Lib.hid ((T2.out.trans (Tw.setCell _ ⟨g, 2, none⟩ _ (by simp))).drewN 1)
      change Blk w2 g 46 #[.int .i64 m, .int .i64 x, .int .i64 z, .int .i64 t, .int .i64 p] at K2
      have j1 : w2.cell? ⟨g, 1, none⟩ = some (.int .i64 x) := K2.cell 1
      have jz1 := K2.frozen 1
      have j2 : w2.cell? ⟨g, 2, none⟩ = some (.int .i64 z) := K2.cell 2
      have jz2 := K2.frozen 2
      clear HC HG T2 hV HA K2
      go_wp2_with fail
      go_region
      rw [HV.out]
      go_wp2_with fail
      go_end0
      refine ⟨rfl, ?_, HT.out⟩
      rw [HE.out]
      exact HR.out
    · skip
      have HG := Lib.hid (codeGrowth_on s g w (by omega) K)
      have HC : Hid (∀ d, Calls Try.prog 27 #[.pointer (some ⟨g, 0, none⟩), .int .i64 n, .bool full] (w.drewN d) fun e w' => e = .returned (.tuple #[]) ∧ Blk w' g 46 #[.int .i64 (s.grow n full).mtu, .int .i64 (s.grow n full).most, .int .i64 (s.grow n full).size, .int .i64 (s.grow n full).thr, .int .i64 (s.grow n full).part] ∧ Tw [g] (w.drewN d) w') := Lib.hid fun d => codeSlow s n full Q g (w.drewN d) h hq n1 (by omega) (K.drewN d)
      clear K hs
      go_enter Try.func19, Try.ntmps19
      go_wp2_with fail
      refine HG.out.mono ?_
      rintro e w1 ⟨rfl, d, rfl⟩
      go_wp2_with fail
      refine (HC.out d).mono ?_
      rintro e w2 ⟨rfl, K2, T2⟩
      have T2 : Hid (Tw [g] w w2) := Lib.hid (((Tw.refl [g] w).drewN d).trans T2)
      obtain ⟨r, hr⟩ : ∃ r, r = s.grow n full := ⟨_, rfl⟩
      have HA : Hid (s.ack n full = r.clip) := Lib.hid (by rw [hr]; unfold Wn.ack; rw [if_neg (by omega)])
      rw [← hr] at K2
      clear hr
      obtain ⟨m, x, z, t, p⟩ := r
      obtain ⟨V, hV⟩ : ∃ V, V = min z x := ⟨_, rfl⟩
      have HV : Hid ((if x < z then x else z) = V) := Lib.hid (by rw [hV]; split <;> omega)
      have HE : Hid (s.ack n full = ⟨m, x, V, t, p⟩) := Lib.hid (by rw [HA.out, hV]; rfl)
      have HR : Hid (Blk (w2.setCell ⟨g, 2, none⟩ (.int .i64 V)).drew g 46 #[.int .i64 m, .int .i64 x, .int .i64 V, .int .i64 t, .int .i64 p]) := Lib.hid ((K2.set_ 2 _).drewN 1)
      have HT : Hid (Tw [g] w (w2.setCell ⟨g, 2, none⟩ (.int .i64 V)).drew) := Lib.hid ((T2.out.trans (Tw.setCell _ ⟨g, 2, none⟩ _ (by simp))).drewN 1)
      change Blk w2 g 46 #[.int .i64 m, .int .i64 x, .int .i64 z, .int .i64 t, .int .i64 p] at K2
      have j1 : w2.cell? ⟨g, 1, none⟩ = some (.int .i64 x) := K2.cell 1
      have jz1 := K2.frozen 1
      have j2 : w2.cell? ⟨g, 2, none⟩ = some (.int .i64 z) := K2.cell 2
      have jz2 := K2.frozen 2
      clear HC HG T2 hV HA K2
      go_wp2_with fail
      go_region
      rw [HV.out]
      go_wp2_with fail
      go_end0
      refine ⟨rfl, ?_, HT.out⟩
      rw [HE.out]
      exact HR.out
  · have HE : Hid (s.ack n full = s) := Lib.hid (by unfold Wn.ack; rw [if_pos (by omega)])
    have n2 : n < 1 := by omega
    clear n1
    go_enter Try.func19, Try.ntmps19
    go_wp2_with fail
    refine bodyPost_ret (results_none rfl _ _ _) rfl ?_
    refine ⟨rfl, ?_, Tw.refl _ _⟩
    rw [HE.out]
    exact K
theorem codeAcked_nil (n : Int) (full : Bool) (w : World) : Calls Try.prog 19 #[.pointer none, .int .i64 n, .bool full] w fun e w' => e = .returned (.tuple #[]) ∧ w' = w := by
  go_enter Try.func19, Try.ntmps19
  go_wp2_with fail
  refine bodyPost_ret (results_none rfl _ _ _) rfl ?_
  exact ⟨rfl, rfl⟩
end Go.Proofs.Ytlkppgdeaphoeaa
