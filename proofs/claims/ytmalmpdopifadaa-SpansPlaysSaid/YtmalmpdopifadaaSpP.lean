/-
  Layer 4 (spans): SpansPlays, walked.
-/
import Derived.Test.YtmalmpdopifadaaSpT
import Derived.Test.YtmalmpdopifadaaSpL5
import Derived.Deep.RegionWith
namespace Go.Proofs.Ytmalmpdopifadaa
open Go.RowKit
set_option linter.unusedVariables false

/-- A slice of steps (a kind, a distance, a number), below block B. -/
def Rst (w : World) (B : Nat) (A : Option Addr) (L : List (Int × Int × Int)) : Prop :=
  L = [] ∨ ∃ b o, A = some ⟨b, o, none⟩ ∧ b < B ∧ ∀ (j : Nat) (s : Int × Int × Int), L[j]? = some s →
    w.cell? ⟨b, o + j * 3, none⟩ = some (.int .i64 s.1) ∧ w.cell? ⟨b, o + j * 3 + 1, none⟩ = some (.int .u32 s.2.1) ∧ w.cell? ⟨b, o + j * 3 + 2, none⟩ = some (.int .i64 s.2.2)
section
variable {w w' : World} {B : Nat} {A : Option Addr} {L : List (Int × Int × Int)}
theorem Rst.below (h : Rst w B A L) (hb : Below B w w') : Rst w' B A L := by
  rcases h with h | ⟨b, o, ha, hl, hc⟩
  · exact .inl h
  · have e : ∀ i, w'.cell? ⟨b, i, none⟩ = w.cell? ⟨b, i, none⟩ := fun i => hb.cell (p := ⟨b, i, none⟩) hl
    exact .inr ⟨b, o, ha, hl, fun j s hs => ⟨(e _).trans (hc j s hs).1, (e _).trans (hc j s hs).2.1, (e _).trans (hc j s hs).2.2⟩⟩
theorem Rst.at_ (h : Rst w B A L) (hn : L ≠ []) : ∃ b o, A = some ⟨b, o, none⟩ ∧ b < B ∧ ∀ k (hk : k < L.length),
    w.cell? ⟨b, o + k * 3, none⟩ = some (.int .i64 L[k].1) ∧ w.cell? ⟨b, o + k * 3 + 1, none⟩ = some (.int .u32 L[k].2.1) ∧ w.cell? ⟨b, o + k * 3 + 2, none⟩ = some (.int .i64 L[k].2.2) := by
  rcases h with h | ⟨b, o, ha, hl, hc⟩
  · exact absurd h hn
  · exact ⟨b, o, ha, hl, fun k hk => hc k _ (List.getElem?_eq_getElem hk)⟩
end

set_option maxHeartbeats 1600000 in
theorem spansPlays_big (base : Int) (A : Option Addr) (n c : Nat) (w : World) (h : 200 < n) (hm : n ≤ maxLen) :
    Calls Try.prog 3 #[.int .u32 base, .slice A n c] w fun e w' => e = .returned (.bool true) ∧ Below w.heap.size w w' := by
  unfold maxLen at hm
  go_enter Try.func3, Try.ntmps3
  go_wp2_with fail
  refine (works_any w).mono ?_
  rintro e w1 ⟨rfl, hb1⟩
  go_wp2_with fail
  go_ret
  exact ⟨rfl, hb1⟩

theorem wpList_buildRef {ops : Array Oper} {rest : List Oper} {a : Act} {Q : Exit → Act → World → Prop} {w : World} {d : Option Tmp} {ty : TypeId} {pos : String} {after : Array Edge} (x : Operand) (B : Int) (hx : a.eval x = .int .u32 B)
    (hK : wpList Try.prog ops Q rest (a.put d (.agg (refCells B noF))) w) :
    wpList Try.prog ops Q ({ dst := d, op := Op.build 30 #[(0, x)], type := ty, pos := pos, after := after, guard := none } :: rest) a w := by
  refine wpList_plain rfl fun K' hK' => ?_
  unfold Oper.wp
  simp only [execOp, List.map_toArray, List.map_cons, List.map_nil, hx, Sem.run_bind, ref_build, Result.andThen_ok, Sem.run_pure]
  exact hK' _ _ hK

/-- The two sets are one: what the code has and what the reference has. -/
structure Both (w : World) (N : Nat) (B : Int) (f : Nat → Bool) : Prop where
  set : SpSet w (N + 1) N B f
  ref : RefS w (N + 2) B f
theorem Both.drewN {w : World} {N : Nat} {B : Int} {f : Nat → Bool} (h : Both w N B f) (q : Nat) : Both (w.drewN q) N B f := ⟨h.set.drewN q, h.ref.drewN q⟩
theorem Both.below {w w' : World} {N : Nat} {B : Int} {f : Nat → Bool} (h : Both w N B f) (hb : Below w.heap.size w w') : Both w' N B f := ⟨h.set.below hb, h.ref.below hb⟩

set_option maxRecDepth 100000 in
set_option maxHeartbeats 6400000 in
theorem spansPlays_small (base : Int) (A : Option Addr) (n c : Nat) (L : List (Int × Int × Int)) (w : World) (hn : L.length = n) (h : n ≤ 200) (hr : Rst w w.heap.size A L) (hx : ∀ s ∈ L, (0 ≤ s.2.1 ∧ s.2.1 < 4294967296) ∧ (-9223372036854775808 ≤ s.2.2 ∧ s.2.2 ≤ 9223372036854775807)) (hB : 0 ≤ base ∧ base < 4294967296) :
    Calls Try.prog 3 #[.int .u32 base, .slice A n c] w fun e w' => e = .returned (.bool true) ∧ Below w.heap.size w w' := by
  have HN := Lib.hid hn
  have HX := Lib.hid hx
  clear hn hx
  go_enter Try.func3, Try.ntmps3
  go_wp2_with fail
  refine (new_any base w hB).mono ?_
  rintro e w1 ⟨rfl, hset1, hb1, hs1⟩
  have hboth : Both (w1.alloc (.cells (refCells base noF) 30)) w.heap.size base noF := ⟨hset1.tw (Tw.alloc w1 _ []) (by simp) (by simp), ⟨by rw [← hs1]; exact Blk.new w1 30 (refCells base noF), win_no, hB⟩⟩
  have hb2 : Below w.heap.size w (w1.alloc (.cells (refCells base noF) 30)) := hb1.alloc hb1.size _
  clear hset1 hb1
  go_wp2_with ((with_reducible refine wpList_buildRef _ base ?_ ?_); rfl)
  generalize w1.alloc (.cells (refCells base noF) 30) = w2 at hboth hb2 ⊢
  go_loopw [7] (fun i wr => ∃ (k : Nat) (B : Int) (f : Nat → Bool), k ≤ n ∧ i = .int .i64 k ∧ Both wr w.heap.size B f ∧ Below w.heap.size w wr) (fun i _ => n - (intOf i).toNat)
  case atStart => exact ⟨0, base, noF, Nat.zero_le _, rfl, hboth, hb2⟩
  case round =>
    obtain ⟨k, B, f, hk, rfl, hbo, hbel⟩ := hrel
    by_cases hlt : k < n
    · have hl : L ≠ [] := by intro e; have := HN.out; rw [e] at this; simp at this; omega
      obtain ⟨b, o, rfl, hblo, hc⟩ := (hr.below hbel).at_ hl
      have hkl : k < L.length := by rw [HN.out]; exact hlt
      obtain ⟨a1, a2, a3⟩ := hc k hkl
      have hel := HX.out _ (List.getElem_mem hkl)
      obtain ⟨kd, hkd⟩ : ∃ y, y = L[k].1 := ⟨_, rfl⟩
      obtain ⟨y, hy⟩ : ∃ y, y = L[k].2.1 := ⟨_, rfl⟩
      obtain ⟨m, hm⟩ : ∃ y, y = L[k].2.2 := ⟨_, rfl⟩
      rw [← hkd] at a1
      rw [← hy] at a2 hel
      rw [← hm] at a3 hel
      obtain ⟨hy32, hm64⟩ := hel
      have c0 := hbo.ref.c0
      have hB32 := hbo.ref.base
      obtain ⟨x, hx32, hu⟩ : ∃ x : Int, (0 ≤ x ∧ x < 4294967296) ∧ IntKind.u32.wrap (B + y) = x := ⟨(B + y) % 4294967296, by omega, wrap_u32 _⟩
      clear hc hkd hy hm hl hkl
      go_wp2_with fail
      go_quiet (fail)
      have hbo := hbo.drewN nq
      have hbel := below_drewN hbel nq
      have a1' : (wr.drewN nq).cell? ⟨b, o + k * 3, none⟩ = some (.int .i64 kd) := a1
      have a3' : (wr.drewN nq).cell? ⟨b, o + k * 3 + 2, none⟩ = some (.int .i64 m) := a3
      clear hu c0 a1 a2 a3
      generalize wr.drewN nq = w3 at hbo hbel a1' a3' ⊢
      have a3 := a3'
      have hrs := trivial
      clear a3'
      rcases (show kd = 0 ∨ kd = 1 ∨ kd = 2 ∨ kd = 3 ∨ kd = 4 ∨ (kd ≠ 0 ∧ kd ≠ 1 ∧ kd ≠ 2 ∧ kd ≠ 3 ∧ kd ≠ 4) by omega) with rfl | rfl | rfl | rfl | rfl | ⟨n0, n1, n2, n3, n4⟩
      · -- Add
        go_wp2_with fail
        refine (add_any x hbo.set hx32).mono ?_
        rintro e w4 ⟨rfl, hset4, ht4⟩
        have href4 := hbo.ref.tw ht4 (by simp)
        have hbel4 := hbel.trans (ht4.below (B := w.heap.size) (by simp) hbel.size)
        obtain ⟨res, hres⟩ : ∃ res, res = addOk f (dst B x) := ⟨_, rfl⟩
        rw [← hres]
        have HRES := Lib.hid hres
        clear hres
        go_wp2_with fail
        refine (refAdd_any x href4 hx32).mono ?_
        rintro e w5 ⟨rfl, href5, ht5⟩
        rw [← HRES.out]
        have hset5 := hset4.tw ht5 (by simp) (by simp)
        have hbel5 := hbel4.trans (ht5.below (B := w.heap.size) (by simp) hbel4.size)
        have hbo5 : Both w5 w.heap.size _ _ := ⟨hset5, href5⟩
        have cB := hbo5.ref.c0
        clear ht4 ht5 href4 hbel4 hset4 a3 hrs hr
        go_wp2_with fail
        go_quiet ((go_at_call 23; exact still_left (base_any (hbo5.set.drewN _))))
        clear cB
        go_wp2_with fail
        go_roundw
        case rel => exact ⟨k + 1, _, _, by omega, by go_num, hbo5.drewN _, below_drewN hbel5 _⟩
        case measure => simp [intOf]; omega
      · -- Has
        go_wp2_with fail
        refine (has_any x hbo.set hx32).mono ?_
        rintro e w4 ⟨rfl, rfl⟩
        obtain ⟨res, hres⟩ : ∃ res, res = f (dst B x) := ⟨_, rfl⟩
        rw [← hres]
        have HRES := Lib.hid hres
        clear hres
        go_wp2_with fail
        refine (refHas_any x hbo.ref hx32).mono ?_
        rintro e w5 ⟨rfl, q, rfl⟩
        rw [← HRES.out]
        have hbo5 := hbo.drewN q
        have hbel5 := below_drewN hbel q
        obtain ⟨w5, hw5⟩ : ∃ w5, w5 = w3.drewN q := ⟨_, rfl⟩
        rw [← hw5] at hbo5 hbel5 ⊢
        have cB := hbo5.ref.c0
        clear hw5 a3 hrs hr
        go_wp2_with fail
        go_quiet ((go_at_call 23; exact still_left (base_any (hbo5.set.drewN _))))
        clear cB
        go_wp2_with fail
        go_roundw
        case rel => exact ⟨k + 1, _, _, by omega, by go_num, hbo5.drewN _, below_drewN hbel5 _⟩
        case measure => simp [intOf]; omega
      · -- Settle
        go_wp2_with fail
        refine (settle_any hbo.set).mono ?_
        rintro e w4 ⟨rfl, hset4, ht4⟩
        have href4 := hbo.ref.tw ht4 (by simp)
        have hbel4 := hbel.trans (ht4.below (B := w.heap.size) (by simp) hbel.size)
        obtain ⟨res, hres⟩ : ∃ res, res = rnl f := ⟨_, rfl⟩
        rw [← hres]
        have HRES := Lib.hid hres
        clear hres
        go_wp2_with fail
        refine (refSettle_any href4).mono ?_
        rintro e w5 ⟨rfl, href5, ht5⟩
        rw [← HRES.out]
        have hset5 := hset4.tw ht5 (by simp) (by simp)
        have hbel5 := hbel4.trans (ht5.below (B := w.heap.size) (by simp) hbel4.size)
        have hbo5 : Both w5 w.heap.size _ _ := ⟨hset5, href5⟩
        have cB := hbo5.ref.c0
        clear ht4 ht5 href4 hbel4 hset4 a3 hrs hr
        go_wp2_with fail
        go_quiet ((go_at_call 23; exact still_left (base_any (hbo5.set.drewN _))))
        clear cB
        go_wp2_with fail
        go_roundw
        case rel => exact ⟨k + 1, _, _, by omega, by go_num, hbo5.drewN _, below_drewN hbel5 _⟩
        case measure => simp [intOf]; omega
      · -- Move
        go_wp2_with fail
        refine (move_any x hbo.set hx32).mono ?_
        rintro e w4 ⟨rfl, hset4, ht4⟩
        have href4 := hbo.ref.tw ht4 (by simp)
        have hbel4 := hbel.trans (ht4.below (B := w.heap.size) (by simp) hbel.size)
        obtain ⟨res, hres⟩ : ∃ res, res = mvN f (dst B x) := ⟨_, rfl⟩
        rw [← hres]
        have HRES := Lib.hid hres
        clear hres
        go_wp2_with fail
        refine (refMove_any x href4 hx32).mono ?_
        rintro e w5 ⟨rfl, href5, ht5⟩
        rw [← HRES.out]
        have hset5 := hset4.tw ht5 (by simp) (by simp)
        have hbel5 := hbel4.trans (ht5.below (B := w.heap.size) (by simp) hbel4.size)
        have hbo5 : Both w5 w.heap.size _ _ := ⟨hset5, href5⟩
        have cB := hbo5.ref.c0
        clear ht4 ht5 href4 hbel4 hset4 a3 hrs hr
        go_wp2_with fail
        go_quiet ((go_at_call 23; exact still_left (base_any (hbo5.set.drewN _))))
        clear cB
        go_wp2_with fail
        go_roundw
        case rel => exact ⟨k + 1, _, _, by omega, by go_num, hbo5.drewN _, below_drewN hbel5 _⟩
        case measure => simp [intOf]; omega
      · -- Gaps
        have hl4 := runs_len f (win_zero hbo.set.win) 4096
        have hgl : (gapsF f m).length ≤ 4096 := by unfold gapsF; rw [List.length_take]; omega
        obtain ⟨G, hG⟩ : ∃ G, G = gapsF f m := ⟨_, rfl⟩
        obtain ⟨l, hll⟩ : ∃ l, l = G.length := ⟨_, rfl⟩
        rw [← hG, ← hll] at hgl
        have HG := Lib.hid hG
        have HLL := Lib.hid hll
        have hsetd := hbo.set.drewN 1
        have hrefd := hbo.ref.drewN 1
        clear hl4 hG hll
        go_wp2_with fail
        go_region_with (first
          | (go_at_call 21; refine (gaps_any m hsetd hm64).mono ?_; rintro e w4 ⟨v, rfl, hog, hb4⟩; rw [← HG.out] at hog; obtain ⟨A2, c2, rfl, _, _, hrg2⟩ := hog.form; rw [← HLL.out]; have hrefd4 := hrefd.below hb4; have a34 := (hb4.cell (World.block_lt_of_cell? _ _ a3)).trans a3; clear hog)
          | (go_at_call 22; refine (refGaps_any m hrefd4 hm64).mono ?_; rintro e w5 ⟨v, rfl, hog, hb5⟩; rw [← HG.out] at hog; obtain ⟨A5, c5, rfl, _, _, hrg5⟩ := hog.form; rw [← HLL.out]; clear hog; have hrg2' := hrg2.tw (Tw.of_below hb5 []) (by simp) (Nat.le_refl _))
          | (go_at_call 20; refine (same_any A2 A5 l c2 c5 _ _ _ _ G w5 HLL.out.symm hgl hrg2' hrg5).mono ?_; rintro e w6 ⟨rfl, q, rfl⟩; have hbo5 : Both (w5.drewN q) w.heap.size B f := ⟨((hsetd.below hb4).below hb5).drewN q, (hrefd4.below hb5).drewN q⟩; have hbel5 := below_drewN (below_then (below_then (below_drewN hbel 1) (Nat.le_refl _) hb4) (Nat.le_refl _) hb5) q))
        all_goals
          generalize w5.drewN q = w7 at hbo5 hbel5 ⊢
          have cB := hbo5.ref.c0
          clear hrs hr hbo hbel hsetd hrefd hb4 hb5 hrefd4 a34 a3 hrg2 hrg2' hrg5
          go_wp2_with fail
          go_quiet ((go_at_call 23; exact still_left (base_any (hbo5.set.drewN _))))
          clear cB
          go_wp2_with fail
          go_roundw
          case rel => exact ⟨k + 1, _, _, by omega, by go_num, hbo5.drewN _, below_drewN hbel5 _⟩
          case measure => simp [intOf]; omega
      · -- nothing
        have m0 : (kd == 0) = false := by simpa using n0
        have m1 : (kd == 1) = false := by simpa using n1
        have m2 : (kd == 2) = false := by simpa using n2
        have m3 : (kd == 3) = false := by simpa using n3
        have m4 : (kd == 4) = false := by simpa using n4
        have hbo5 := hbo
        have hbel5 := hbel
        have cB := hbo5.ref.c0
        clear n0 n1 n2 n3 n4 a3 hrs hr hbo hbel
        go_wp2_with fail
        go_quiet ((go_at_call 23; exact still_left (base_any (hbo5.set.drewN _))))
        clear cB
        go_wp2_with fail
        go_roundw
        case rel => exact ⟨k + 1, _, _, by omega, by go_num, hbo5.drewN _, below_drewN hbel5 _⟩
        case measure => simp [intOf]; omega
    · obtain rfl : k = n := by omega
      have hw := hbo.set.win
      have hl4 := runs_len f (win_zero hw) 4096
      have HGA := Lib.hid (gaps_all hw)
      obtain ⟨G, hG⟩ : ∃ G, G = runsTo f 4096 := ⟨_, rfl⟩
      obtain ⟨l, hll⟩ : ∃ l, l = G.length := ⟨_, rfl⟩
      rw [← hG] at hl4 HGA
      rw [← hll] at hl4
      have HLL := Lib.hid hll
      clear hG hll hr
      go_wp2_with fail
      refine (count_any hbo.set).mono ?_
      rintro e w3 ⟨rfl, rfl⟩
      obtain ⟨res, hres⟩ : ∃ res, res = cnt f 4096 := ⟨_, rfl⟩
      rw [← hres]
      have HRES := Lib.hid hres
      clear hres
      go_wp2_with fail
      refine (refCount_any hbo.ref).mono ?_
      rintro e w3 ⟨rfl, rfl⟩
      rw [← HRES.out]
      go_wp2_with fail
      refine (last_any hbo.set).mono ?_
      rintro e w3 ⟨rfl, hb3⟩
      have hbo3 := hbo.below hb3
      have hbel3 := below_then hbel (Nat.le_refl _) hb3
      obtain ⟨p, hp⟩ : ∃ p : Int, p = (B + (lst f 4096 : Nat)) % 4294967296 := ⟨_, rfl⟩
      rw [← hp]
      have HP := Lib.hid hp
      clear hp hb3 hbo hbel
      go_wp2_with fail
      refine (refLast_any hbo3.ref).mono ?_
      rintro e w4 ⟨rfl, rfl⟩
      rw [← HP.out]
      go_wp2_with fail
      refine (gaps_any 4096 hbo3.set (by omega)).mono ?_
      rintro e w4 ⟨v, rfl, hog, hb4⟩
      rw [HGA.out] at hog
      obtain ⟨A4, c4, rfl, _, _, hrg4⟩ := hog.form
      rw [← HLL.out]
      have hbo4 := hbo3.below hb4
      have hbel4 := below_then hbel3 (Nat.le_refl _) hb4
      clear hog hb4 hbo3 hbel3
      go_wp2_with fail
      refine (refGaps_any 4096 hbo4.ref (by omega)).mono ?_
      rintro e w5 ⟨v, rfl, hog, hb5⟩
      rw [HGA.out] at hog
      obtain ⟨A5, c5, rfl, _, _, hrg5⟩ := hog.form
      rw [← HLL.out]
      have hrg4 := hrg4.tw (Tw.of_below hb5 []) (by simp) (Nat.le_refl _)
      have hbel5 := below_then hbel4 (Nat.le_refl _) hb5
      clear hog hb5
      go_wp2_with fail
      refine (same_any A4 A5 l c4 c5 _ _ _ _ G w5 HLL.out.symm hl4 hrg4 hrg5).mono ?_
      rintro e w6 ⟨rfl, q, rfl⟩
      go_wp2_with fail
      refine (works_any _).mono ?_
      rintro e w7 ⟨rfl, hb7⟩
      go_wp2_with fail
      go_ret
      exact ⟨rfl, below_then (below_drewN hbel5 q) (Nat.le_refl _) hb7⟩
end Go.Proofs.Ytmalmpdopifadaa
