/-
  Package window: the code's functions that turn a state.
-/
import Derived.Test.YtlkppgdeaphoeaaWnA
import Derived.BigQuiet
namespace Go.Proofs.Ytlkppgdeaphoeaa
open Go.RowKit
set_option linter.unusedVariables false

def Wn.shrunk (s : Wn) (u : Int) : Wn := { s with thr := s.half, size := min u s.half, part := 0 }
theorem shrunk_fast (s : Wn) : s.shrunk s.size = s.fast := rfl
theorem shrunk_out {s : Wn} {Q : Int} (h : s.Ok Q) : s.shrunk s.mtu = s.out := by
  have h1 := (half_of h).1
  have h2 := h.m0
  have e : min s.mtu s.half = s.mtu := by omega
  show ({ s with thr := s.half, size := min s.mtu s.half, part := 0 } : Wn) = _
  rw [e]
  rfl
set_option maxRecDepth 100000 in
set_option maxHeartbeats 4000000 in
theorem codeShrink (s : Wn) (u : Int) (Q : Int) (g : Nat) (w : World) (h : s.Ok Q) (K : Blk w g 46 #[.int .i64 s.mtu, .int .i64 s.most, .int .i64 s.size, .int .i64 s.thr, .int .i64 s.part]) : Calls Try.prog 25 #[.pointer (some ⟨g, 0, none⟩), .int .i64 u] w fun e w' => e = .returned (.tuple #[]) ∧ Blk w' g 46 #[.int .i64 (s.shrunk u).mtu, .int .i64 (s.shrunk u).most, .int .i64 (s.shrunk u).size, .int .i64 (s.shrunk u).thr, .int .i64 (s.shrunk u).part] ∧ Tw [g] w w' := by
  have hh := half_of h
  obtain ⟨a1, a2, a3, a4, a5, a6, a7, a8, a9, a10⟩ := h
  obtain ⟨m, x, z, t, p⟩ := s
  change 128 ≤ m at a1
  change m ≤ 1500 at a2
  change 4 * m ≤ x at a3
  change x ≤ 16777216 at a4
  change m ≤ z at a5
  change z ≤ x at a6
  change 4 * m ≤ t at a7
  change t ≤ x at a8
  change 0 ≤ p at a9
  change p ≤ Q at a10
  obtain ⟨H, hH⟩ : ∃ H, H = Wn.half ⟨m, x, z, t, p⟩ := ⟨_, rfl⟩
  have hH2 : H = max (z / 2) (4 * m) := hH
  rw [← hH] at hh
  obtain ⟨hh1, hh2⟩ := hh
  change 4 * m ≤ H at hh1
  change H ≤ x at hh2
  obtain ⟨V, hV⟩ : ∃ V, V = min u H := ⟨_, rfl⟩
  have HS : Hid (Wn.shrunk ⟨m, x, z, t, p⟩ u = (⟨m, x, V, H, 0⟩ : Wn)) := Lib.hid (by unfold Wn.shrunk; rw [← hH, ← hV])
  have HF : Hid (∀ W : World, Calls Try.prog 21 #[.int .i64 m] W fun e w' => e = .returned (.int .i64 (4 * m)) ∧ ∃ k, w' = W.drewN k) := Lib.hid fun W => (floor_any m W a1 a2).mono fun e W' h => ⟨h.1, 0, h.2⟩
  have HR : Hid (∀ d, Blk ((w.drewN d).setCell ⟨g, 3, none⟩ (.int .i64 H)) g 46 #[.int .i64 m, .int .i64 x, .int .i64 z, .int .i64 H, .int .i64 p]) := Lib.hid fun d => (K.drewN d).set_ 3 _
  have HT : Hid (∀ d, Tw [g] w ((w.drewN d).setCell ⟨g, 3, none⟩ (.int .i64 H))) := Lib.hid fun d => ((Tw.refl [g] w).drewN d).trans (Tw.setCell _ ⟨g, 3, none⟩ _ (by simp))
  change Blk w g 46 #[.int .i64 m, .int .i64 x, .int .i64 z, .int .i64 t, .int .i64 p] at K
  have j0 : w.cell? ⟨g, 0, none⟩ = some (.int .i64 m) := K.cell 0
  have jz0 := K.frozen 0
  have j1 : w.cell? ⟨g, 1, none⟩ = some (.int .i64 x) := K.cell 1
  have jz1 := K.frozen 1
  have j2 : w.cell? ⟨g, 2, none⟩ = some (.int .i64 z) := K.cell 2
  have jz2 := K.frozen 2
  have j3 : w.cell? ⟨g, 3, none⟩ = some (.int .i64 t) := K.cell 3
  have jz3 := K.frozen 3
  have j4 : w.cell? ⟨g, 4, none⟩ = some (.int .i64 p) := K.cell 4
  have jz4 := K.frozen 4
  obtain ⟨q, hq⟩ : ∃ q, q = z / 2 := ⟨_, rfl⟩
  have hq1 : z.tdiv 2 = q := by rw [hq]; exact Int.tdiv_eq_ediv_of_nonneg (by omega)
  have hq2 : IntKind.i64.wrap q = q := wrap_i64 (by omega) (by omega)
  have HM : Hid ((if q < 4 * m then 4 * m else q) = H) := Lib.hid (by rw [hH2, hq]; split <;> omega)
  have HM2 : Hid ((if H < u then H else u) = V) := Lib.hid (by rw [hV]; split <;> omega)
  clear hH hH2 hq hV K
  go_enter Try.func25, Try.ntmps25
  rw [held_eq 1]
  go_wp2_with fail
  refine wp_region_quiet_tail 12 (by kernel_rfl) (by kernel_rfl) ?_
  simp only [List.take_succ_cons, List.take_zero, List.drop_succ_cons, List.drop_zero]
  repeat (go_big_quiet_step ((go_at_call 21; exact still_any (v := .int .i64 (4 * m)) (HF.out _))))
  refine wpQuiet_nil ?_
  rintro _ ⟨n, rfl⟩
  rw [HM.out]
  go_wp2_with fail
  have K := Lib.hid (HR.out n)
  have T1 := Lib.hid (HT.out n)
  clear HR HT HF HM hq1 hq2 j0 jz0 j1 jz1 j2 jz2 j3 jz3 j4 jz4
  generalize ((w.drewN n).setCell ⟨g, 3, none⟩ (.int .i64 H)) = w1 at K T1 ⊢
  have j0 : w1.cell? ⟨g, 0, none⟩ = some (.int .i64 m) := K.out.cell 0
  have jz0 := K.out.frozen 0
  have j1 : w1.cell? ⟨g, 1, none⟩ = some (.int .i64 x) := K.out.cell 1
  have jz1 := K.out.frozen 1
  have j2 : w1.cell? ⟨g, 2, none⟩ = some (.int .i64 z) := K.out.cell 2
  have jz2 := K.out.frozen 2
  have j3 : w1.cell? ⟨g, 3, none⟩ = some (.int .i64 H) := K.out.cell 3
  have jz3 := K.out.frozen 3
  have j4 : w1.cell? ⟨g, 4, none⟩ = some (.int .i64 p) := K.out.cell 4
  have jz4 := K.out.frozen 4
  have K3 : Hid (Blk ((w1.setCell ⟨g, 2, none⟩ (.int .i64 V)).setCell ⟨g, 4, none⟩ (.int .i64 0)) g 46 #[.int .i64 m, .int .i64 x, .int .i64 V, .int .i64 H, .int .i64 0]) := Lib.hid ((K.out.set_ 2 _).set_ 4 _)
  have T3 : Hid (Tw [g] w ((w1.setCell ⟨g, 2, none⟩ (.int .i64 V)).setCell ⟨g, 4, none⟩ (.int .i64 0))) := Lib.hid ((T1.out.trans (Tw.setCell _ ⟨g, 2, none⟩ _ (by simp))).trans (Tw.setCell _ ⟨g, 4, none⟩ _ (by simp)))
  rw [← held_eq 1]
  by_cases hu : u ≤ H
  · have E : Hid (V = u) := Lib.hid (by have := HM2.out; split at this <;> omega)
    rw [E.out] at K3 T3
    clear K T1 HM2
    go_wp2_with fail
    go_end0
    refine ⟨rfl, ?_, T3.out⟩
    rw [HS.out, E.out]
    exact K3.out
  · have E : Hid (V = H) := Lib.hid (by have := HM2.out; split at this <;> omega)
    rw [E.out] at K3 T3
    clear K T1 HM2
    go_wp2_with fail
    go_end0
    refine ⟨rfl, ?_, T3.out⟩
    rw [HS.out, E.out]
    exact K3.out
theorem codeFast (s : Wn) (Q : Int) (g : Nat) (w : World) (h : s.Ok Q) (K : Blk w g 46 #[.int .i64 s.mtu, .int .i64 s.most, .int .i64 s.size, .int .i64 s.thr, .int .i64 s.part]) : Calls Try.prog 20 #[.pointer (some ⟨g, 0, none⟩)] w fun e w' => e = .returned (.tuple #[]) ∧ Blk w' g 46 #[.int .i64 s.fast.mtu, .int .i64 s.fast.most, .int .i64 s.fast.size, .int .i64 s.fast.thr, .int .i64 s.fast.part] ∧ Tw [g] w w' := by
  have HS := Lib.hid (codeShrink s s.size Q g w h K)
  have E : Hid (s.shrunk s.size = s.fast) := Lib.hid (rfl)
  have j2 : w.cell? ⟨g, 2, none⟩ = some (.int .i64 s.size) := K.cell 2
  have jz2 := K.frozen 2
  go_enter Try.func20, Try.ntmps20
  go_wp2_with fail
  refine HS.out.mono ?_
  rintro e w1 ⟨rfl, K1, T1⟩
  go_wp2_with fail
  go_end0
  refine ⟨rfl, ?_, T1⟩
  rw [← E.out]
  exact K1
theorem codeFast_nil (w : World) : Calls Try.prog 20 #[.pointer none] w fun e w' => e = .returned (.tuple #[]) ∧ w' = w := by
  go_enter Try.func20, Try.ntmps20
  go_wp2_with fail
  refine bodyPost_ret (results_none rfl _ _ _) rfl ?_
  exact ⟨rfl, rfl⟩
theorem codeTimeout (s : Wn) (Q : Int) (g : Nat) (w : World) (h : s.Ok Q) (K : Blk w g 46 #[.int .i64 s.mtu, .int .i64 s.most, .int .i64 s.size, .int .i64 s.thr, .int .i64 s.part]) : Calls Try.prog 18 #[.pointer (some ⟨g, 0, none⟩)] w fun e w' => e = .returned (.tuple #[]) ∧ Blk w' g 46 #[.int .i64 s.out.mtu, .int .i64 s.out.most, .int .i64 s.out.size, .int .i64 s.out.thr, .int .i64 s.out.part] ∧ Tw [g] w w' := by
  have HS := Lib.hid (codeShrink s s.mtu Q g w h K)
  have E : Hid (s.shrunk s.mtu = s.out) := Lib.hid (shrunk_out h)
  have j0 : w.cell? ⟨g, 0, none⟩ = some (.int .i64 s.mtu) := K.cell 0
  have jz0 := K.frozen 0
  go_enter Try.func18, Try.ntmps18
  go_wp2_with fail
  refine HS.out.mono ?_
  rintro e w1 ⟨rfl, K1, T1⟩
  go_wp2_with fail
  go_end0
  refine ⟨rfl, ?_, T1⟩
  rw [← E.out]
  exact K1
theorem codeTimeout_nil (w : World) : Calls Try.prog 18 #[.pointer none] w fun e w' => e = .returned (.tuple #[]) ∧ w' = w := by
  go_enter Try.func18, Try.ntmps18
  go_wp2_with fail
  refine bodyPost_ret (results_none rfl _ _ _) rfl ?_
  exact ⟨rfl, rfl⟩
set_option maxRecDepth 100000 in
set_option maxHeartbeats 4000000 in
theorem codeGrowth_up (s : Wn) (g : Nat) (w : World) (hs : s.size ≤ s.thr) (K : Blk w g 46 #[.int .i64 s.mtu, .int .i64 s.most, .int .i64 s.size, .int .i64 s.thr, .int .i64 s.part]) : Calls Try.prog 26 #[.pointer (some ⟨g, 0, none⟩)] w fun e w' => e = .returned (.func (.func 28) #[.pointer (some ⟨g, 0, none⟩)] #[]) ∧ ∃ n, w' = w.drewN n := by
  have hmf : ∀ (fn : Fn) (first cap : Array Value) (w : World), (Instr.makeFunc fn first cap).run Try.prog w = .ok (.func fn first cap) w := fun _ _ _ _ => rfl
  have j2 : w.cell? ⟨g, 2, none⟩ = some (.int .i64 s.size) := K.cell 2
  have jz2 := K.frozen 2
  have j3 : w.cell? ⟨g, 3, none⟩ = some (.int .i64 s.thr) := K.cell 3
  have jz3 := K.frozen 3
  go_enter Try.func26, Try.ntmps26
  go_wp2_with fail
  go_quiet (fail)
  go_wp2_with fail
  go_ret
  exact ⟨rfl, _, rfl⟩
set_option maxRecDepth 100000 in
set_option maxHeartbeats 4000000 in
theorem codeGrowth_on (s : Wn) (g : Nat) (w : World) (hs : s.thr < s.size) (K : Blk w g 46 #[.int .i64 s.mtu, .int .i64 s.most, .int .i64 s.size, .int .i64 s.thr, .int .i64 s.part]) : Calls Try.prog 26 #[.pointer (some ⟨g, 0, none⟩)] w fun e w' => e = .returned (.func (.func 27) #[.pointer (some ⟨g, 0, none⟩)] #[]) ∧ ∃ n, w' = w.drewN n := by
  have hmf : ∀ (fn : Fn) (first cap : Array Value) (w : World), (Instr.makeFunc fn first cap).run Try.prog w = .ok (.func fn first cap) w := fun _ _ _ _ => rfl
  have j2 : w.cell? ⟨g, 2, none⟩ = some (.int .i64 s.size) := K.cell 2
  have jz2 := K.frozen 2
  have j3 : w.cell? ⟨g, 3, none⟩ = some (.int .i64 s.thr) := K.cell 3
  have jz3 := K.frozen 3
  go_enter Try.func26, Try.ntmps26
  go_wp2_with fail
  go_quiet (fail)
  go_wp2_with fail
  go_ret
  exact ⟨rfl, _, rfl⟩
end Go.Proofs.Ytlkppgdeaphoeaa
