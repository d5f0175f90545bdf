/-
  Package mac: the block of a key.
-/
import Derived.Test.YtdhbafmccphelaaDoorMacC
import Derived.Test.YtdhbafmccphelaaDoorTy
namespace Go.Proofs.YtdhbafmccphelaaDoor
open Go.RowKit
set_option linter.unusedVariables false
set_option maxRecDepth 100000

/-- copy into a block that reads as bytes, of whatever type; the source nil, empty or not. -/
theorem wpList_copy8t {P : Program} {T e : TypeId} {i : TypeInfo} {ops : Array Oper} {rest : List Oper} {o : Oper} {a : Act} {Q : Exit → Act → World → Prop} (h8 : Ty8 P T e i) (w : World) (hgd : o.guard = none) (d s : Operand)
    (ho : o.op = .call { callee := .builtin .copy, args := #[d, s], argTypes := #[T, T] })
    (g off dLen dCap : Nat) (t : TypeId) (cur : List UInt8) (hd : a.eval d = .slice (some ⟨g, off, none⟩) dLen dCap) (hg : Blk w g t (row8 cur))
    (B : Nat) (A' : Option Addr) (m c' : Nat) (ys : List UInt8) (hs : a.eval s = .slice A' m c') (hy : ys.length = m) (hr : Rd w B A' ys) (hle : m ≤ dLen) (hfit : off + dLen ≤ cur.length)
    (h : ∀ w', Blk w' g t (row8 (cur.take off ++ ys ++ cur.drop (off + m))) → w.grownBy w' (some g) → wpList P ops Q rest (a.put o.dst (goInt m)) w') :
    wpList P ops Q (o :: rest) a w := by
  have hsz : (P.info? e).map (·.size) = some 1 := by rw [h8.info]; simp [h8.size]
  by_cases h0 : m = 0
  · subst h0
    obtain rfl := List.eq_nil_of_length_eq_zero hy
    refine wpList_copy_nothing hgd d s T T ho e h8.slice hsz _ _ _ _ _ _ hd hs (by simp) ?_
    exact h w (by simpa using hg) (World.grownBy.refl _ _)
  · rcases A' with _ | ad
    · rcases hr with rfl | ⟨_, _, h, _⟩
      · simp at hy; omega
      · cases h
    · have hl : (ys.map fun x => Value.int .u8 (x.toNat : Int)).length = m := by rw [List.length_map, hy]
      refine wpList_copy_own hgd d s T T ho e h8.slice hsz g off dLen dCap ad m c' hd hs (row8 cur) t hg (ys.map fun x => Value.int .u8 (x.toNat : Int)) (by rw [hl]; exact (Nat.min_eq_left hle).symm) hr.cells (by rw [hl, size_row8]; omega) (one_row8 ys) ?_
      rw [hl]
      refine h _ ?_ ⟨rfl, rfl, rfl, by simp [World.setRow], fun k hk hne => setRow_other w g k _ (fun e => hne (by rw [e]))⟩
      have := setRow_heap w g _ ((row8 cur).toList.take off ++ (ys.map (fun x => Value.int .u8 (x.toNat : Int)) ++ (row8 cur).toList.drop (off + m))).toArray t _ hg
      unfold Blk
      rw [this]
      congr 2
      simp [row8]
theorem Blk.below_grown {w w' : World} {g q : Nat} {t : TypeId} {cs : Array Value} (h : Blk w g t cs) (hb : w.grownBy w' (some q)) (hg : g ≠ q) : Blk w' g t cs := h.grown hb (by simpa using hg)

set_option maxHeartbeats 1000000 in
theorem blockOf_any (A : Option Addr) (n c : Nat) (xs : List UInt8) (w : World) (hT : Tabs w) (hn : n ≤ c) (hc : c ≤ maxLen) (hx : xs.length = n) (hr : Rd w w.heap.size A xs) (hl : n ≤ 1152921504606846000) :
    Calls Tryd.prog 16 #[.slice A n c] w fun e w' => e = .returned (.agg (row8 (blk xs))) ∧ Below w.heap.size w w' := by
  obtain ⟨i8, h8⟩ := Tryd.ty8
  have h2 := hT.2.2
  obtain ⟨S, hS⟩ : ∃ S, S = blk xs := ⟨_, rfl⟩
  have HS := Lib.hid hS
  have hsz : (row8 S).size = 64 := by rw [size_row8, hS, length_blk]
  rw [← hS]
  clear hS
  have k1 : Blk ((w.alloc (.cells #[.int .u8 0, .int .u8 0, .int .u8 0, .int .u8 0, .int .u8 0, .int .u8 0, .int .u8 0, .int .u8 0, .int .u8 0, .int .u8 0, .int .u8 0, .int .u8 0, .int .u8 0, .int .u8 0, .int .u8 0, .int .u8 0, .int .u8 0, .int .u8 0, .int .u8 0, .int .u8 0, .int .u8 0, .int .u8 0, .int .u8 0, .int .u8 0, .int .u8 0, .int .u8 0, .int .u8 0, .int .u8 0, .int .u8 0, .int .u8 0, .int .u8 0, .int .u8 0, .int .u8 0, .int .u8 0, .int .u8 0, .int .u8 0, .int .u8 0, .int .u8 0, .int .u8 0, .int .u8 0, .int .u8 0, .int .u8 0, .int .u8 0, .int .u8 0, .int .u8 0, .int .u8 0, .int .u8 0, .int .u8 0, .int .u8 0, .int .u8 0, .int .u8 0, .int .u8 0, .int .u8 0, .int .u8 0, .int .u8 0, .int .u8 0, .int .u8 0, .int .u8 0, .int .u8 0, .int .u8 0, .int .u8 0, .int .u8 0, .int .u8 0, .int .u8 0] 35)).alloc (.cells #[.int .u8 0, .int .u8 0, .int .u8 0, .int .u8 0, .int .u8 0, .int .u8 0, .int .u8 0, .int .u8 0, .int .u8 0, .int .u8 0, .int .u8 0, .int .u8 0, .int .u8 0, .int .u8 0, .int .u8 0, .int .u8 0, .int .u8 0, .int .u8 0, .int .u8 0, .int .u8 0, .int .u8 0, .int .u8 0, .int .u8 0, .int .u8 0, .int .u8 0, .int .u8 0, .int .u8 0, .int .u8 0, .int .u8 0, .int .u8 0, .int .u8 0, .int .u8 0, .int .u8 0, .int .u8 0, .int .u8 0, .int .u8 0, .int .u8 0, .int .u8 0, .int .u8 0, .int .u8 0, .int .u8 0, .int .u8 0, .int .u8 0, .int .u8 0, .int .u8 0, .int .u8 0, .int .u8 0, .int .u8 0, .int .u8 0, .int .u8 0, .int .u8 0, .int .u8 0, .int .u8 0, .int .u8 0, .int .u8 0, .int .u8 0, .int .u8 0, .int .u8 0, .int .u8 0, .int .u8 0, .int .u8 0, .int .u8 0, .int .u8 0, .int .u8 0] 35)) w.heap.size 35 (row8 (List.replicate 64 0)) := (Blk.new w 35 (row8 (List.replicate 64 0))).alloc _
  have k2 : Blk ((w.alloc (.cells #[.int .u8 0, .int .u8 0, .int .u8 0, .int .u8 0, .int .u8 0, .int .u8 0, .int .u8 0, .int .u8 0, .int .u8 0, .int .u8 0, .int .u8 0, .int .u8 0, .int .u8 0, .int .u8 0, .int .u8 0, .int .u8 0, .int .u8 0, .int .u8 0, .int .u8 0, .int .u8 0, .int .u8 0, .int .u8 0, .int .u8 0, .int .u8 0, .int .u8 0, .int .u8 0, .int .u8 0, .int .u8 0, .int .u8 0, .int .u8 0, .int .u8 0, .int .u8 0, .int .u8 0, .int .u8 0, .int .u8 0, .int .u8 0, .int .u8 0, .int .u8 0, .int .u8 0, .int .u8 0, .int .u8 0, .int .u8 0, .int .u8 0, .int .u8 0, .int .u8 0, .int .u8 0, .int .u8 0, .int .u8 0, .int .u8 0, .int .u8 0, .int .u8 0, .int .u8 0, .int .u8 0, .int .u8 0, .int .u8 0, .int .u8 0, .int .u8 0, .int .u8 0, .int .u8 0, .int .u8 0, .int .u8 0, .int .u8 0, .int .u8 0, .int .u8 0] 35)).alloc (.cells #[.int .u8 0, .int .u8 0, .int .u8 0, .int .u8 0, .int .u8 0, .int .u8 0, .int .u8 0, .int .u8 0, .int .u8 0, .int .u8 0, .int .u8 0, .int .u8 0, .int .u8 0, .int .u8 0, .int .u8 0, .int .u8 0, .int .u8 0, .int .u8 0, .int .u8 0, .int .u8 0, .int .u8 0, .int .u8 0, .int .u8 0, .int .u8 0, .int .u8 0, .int .u8 0, .int .u8 0, .int .u8 0, .int .u8 0, .int .u8 0, .int .u8 0, .int .u8 0, .int .u8 0, .int .u8 0, .int .u8 0, .int .u8 0, .int .u8 0, .int .u8 0, .int .u8 0, .int .u8 0, .int .u8 0, .int .u8 0, .int .u8 0, .int .u8 0, .int .u8 0, .int .u8 0, .int .u8 0, .int .u8 0, .int .u8 0, .int .u8 0, .int .u8 0, .int .u8 0, .int .u8 0, .int .u8 0, .int .u8 0, .int .u8 0, .int .u8 0, .int .u8 0, .int .u8 0, .int .u8 0, .int .u8 0, .int .u8 0, .int .u8 0, .int .u8 0] 35)) (w.heap.size + 1) 35 (row8 (List.replicate 64 0)) := by
    have := Blk.new (w.alloc (.cells #[.int .u8 0, .int .u8 0, .int .u8 0, .int .u8 0, .int .u8 0, .int .u8 0, .int .u8 0, .int .u8 0, .int .u8 0, .int .u8 0, .int .u8 0, .int .u8 0, .int .u8 0, .int .u8 0, .int .u8 0, .int .u8 0, .int .u8 0, .int .u8 0, .int .u8 0, .int .u8 0, .int .u8 0, .int .u8 0, .int .u8 0, .int .u8 0, .int .u8 0, .int .u8 0, .int .u8 0, .int .u8 0, .int .u8 0, .int .u8 0, .int .u8 0, .int .u8 0, .int .u8 0, .int .u8 0, .int .u8 0, .int .u8 0, .int .u8 0, .int .u8 0, .int .u8 0, .int .u8 0, .int .u8 0, .int .u8 0, .int .u8 0, .int .u8 0, .int .u8 0, .int .u8 0, .int .u8 0, .int .u8 0, .int .u8 0, .int .u8 0, .int .u8 0, .int .u8 0, .int .u8 0, .int .u8 0, .int .u8 0, .int .u8 0, .int .u8 0, .int .u8 0, .int .u8 0, .int .u8 0, .int .u8 0, .int .u8 0, .int .u8 0, .int .u8 0] 35)) 35 (row8 (List.replicate 64 0))
    rwa [show (w.alloc (.cells #[.int .u8 0, .int .u8 0, .int .u8 0, .int .u8 0, .int .u8 0, .int .u8 0, .int .u8 0, .int .u8 0, .int .u8 0, .int .u8 0, .int .u8 0, .int .u8 0, .int .u8 0, .int .u8 0, .int .u8 0, .int .u8 0, .int .u8 0, .int .u8 0, .int .u8 0, .int .u8 0, .int .u8 0, .int .u8 0, .int .u8 0, .int .u8 0, .int .u8 0, .int .u8 0, .int .u8 0, .int .u8 0, .int .u8 0, .int .u8 0, .int .u8 0, .int .u8 0, .int .u8 0, .int .u8 0, .int .u8 0, .int .u8 0, .int .u8 0, .int .u8 0, .int .u8 0, .int .u8 0, .int .u8 0, .int .u8 0, .int .u8 0, .int .u8 0, .int .u8 0, .int .u8 0, .int .u8 0, .int .u8 0, .int .u8 0, .int .u8 0, .int .u8 0, .int .u8 0, .int .u8 0, .int .u8 0, .int .u8 0, .int .u8 0, .int .u8 0, .int .u8 0, .int .u8 0, .int .u8 0, .int .u8 0, .int .u8 0, .int .u8 0, .int .u8 0] 35)).heap.size = w.heap.size + 1 by simp] at this
  have HBW : Below w.heap.size w ((w.alloc (.cells #[.int .u8 0, .int .u8 0, .int .u8 0, .int .u8 0, .int .u8 0, .int .u8 0, .int .u8 0, .int .u8 0, .int .u8 0, .int .u8 0, .int .u8 0, .int .u8 0, .int .u8 0, .int .u8 0, .int .u8 0, .int .u8 0, .int .u8 0, .int .u8 0, .int .u8 0, .int .u8 0, .int .u8 0, .int .u8 0, .int .u8 0, .int .u8 0, .int .u8 0, .int .u8 0, .int .u8 0, .int .u8 0, .int .u8 0, .int .u8 0, .int .u8 0, .int .u8 0, .int .u8 0, .int .u8 0, .int .u8 0, .int .u8 0, .int .u8 0, .int .u8 0, .int .u8 0, .int .u8 0, .int .u8 0, .int .u8 0, .int .u8 0, .int .u8 0, .int .u8 0, .int .u8 0, .int .u8 0, .int .u8 0, .int .u8 0, .int .u8 0, .int .u8 0, .int .u8 0, .int .u8 0, .int .u8 0, .int .u8 0, .int .u8 0, .int .u8 0, .int .u8 0, .int .u8 0, .int .u8 0, .int .u8 0, .int .u8 0, .int .u8 0, .int .u8 0] 35)).alloc (.cells #[.int .u8 0, .int .u8 0, .int .u8 0, .int .u8 0, .int .u8 0, .int .u8 0, .int .u8 0, .int .u8 0, .int .u8 0, .int .u8 0, .int .u8 0, .int .u8 0, .int .u8 0, .int .u8 0, .int .u8 0, .int .u8 0, .int .u8 0, .int .u8 0, .int .u8 0, .int .u8 0, .int .u8 0, .int .u8 0, .int .u8 0, .int .u8 0, .int .u8 0, .int .u8 0, .int .u8 0, .int .u8 0, .int .u8 0, .int .u8 0, .int .u8 0, .int .u8 0, .int .u8 0, .int .u8 0, .int .u8 0, .int .u8 0, .int .u8 0, .int .u8 0, .int .u8 0, .int .u8 0, .int .u8 0, .int .u8 0, .int .u8 0, .int .u8 0, .int .u8 0, .int .u8 0, .int .u8 0, .int .u8 0, .int .u8 0, .int .u8 0, .int .u8 0, .int .u8 0, .int .u8 0, .int .u8 0, .int .u8 0, .int .u8 0, .int .u8 0, .int .u8 0, .int .u8 0, .int .u8 0, .int .u8 0, .int .u8 0, .int .u8 0, .int .u8 0] 35)) := ((Below.refl _ _).alloc (Nat.le_refl _) _).alloc (by simp) _
  have hz : ((w.alloc (.cells #[.int .u8 0, .int .u8 0, .int .u8 0, .int .u8 0, .int .u8 0, .int .u8 0, .int .u8 0, .int .u8 0, .int .u8 0, .int .u8 0, .int .u8 0, .int .u8 0, .int .u8 0, .int .u8 0, .int .u8 0, .int .u8 0, .int .u8 0, .int .u8 0, .int .u8 0, .int .u8 0, .int .u8 0, .int .u8 0, .int .u8 0, .int .u8 0, .int .u8 0, .int .u8 0, .int .u8 0, .int .u8 0, .int .u8 0, .int .u8 0, .int .u8 0, .int .u8 0, .int .u8 0, .int .u8 0, .int .u8 0, .int .u8 0, .int .u8 0, .int .u8 0, .int .u8 0, .int .u8 0, .int .u8 0, .int .u8 0, .int .u8 0, .int .u8 0, .int .u8 0, .int .u8 0, .int .u8 0, .int .u8 0, .int .u8 0, .int .u8 0, .int .u8 0, .int .u8 0, .int .u8 0, .int .u8 0, .int .u8 0, .int .u8 0, .int .u8 0, .int .u8 0, .int .u8 0, .int .u8 0, .int .u8 0, .int .u8 0, .int .u8 0, .int .u8 0] 35)).alloc (.cells #[.int .u8 0, .int .u8 0, .int .u8 0, .int .u8 0, .int .u8 0, .int .u8 0, .int .u8 0, .int .u8 0, .int .u8 0, .int .u8 0, .int .u8 0, .int .u8 0, .int .u8 0, .int .u8 0, .int .u8 0, .int .u8 0, .int .u8 0, .int .u8 0, .int .u8 0, .int .u8 0, .int .u8 0, .int .u8 0, .int .u8 0, .int .u8 0, .int .u8 0, .int .u8 0, .int .u8 0, .int .u8 0, .int .u8 0, .int .u8 0, .int .u8 0, .int .u8 0, .int .u8 0, .int .u8 0, .int .u8 0, .int .u8 0, .int .u8 0, .int .u8 0, .int .u8 0, .int .u8 0, .int .u8 0, .int .u8 0, .int .u8 0, .int .u8 0, .int .u8 0, .int .u8 0, .int .u8 0, .int .u8 0, .int .u8 0, .int .u8 0, .int .u8 0, .int .u8 0, .int .u8 0, .int .u8 0, .int .u8 0, .int .u8 0, .int .u8 0, .int .u8 0, .int .u8 0, .int .u8 0, .int .u8 0, .int .u8 0, .int .u8 0, .int .u8 0] 35)).heap.size = w.heap.size + 1 + 1 := by simp
  have hsl : ∀ W : World, (Instr.sliceAt 35 (.pointer (some ⟨w.heap.size + 1, 0, none⟩)) none none none).run Tryd.prog W = .ok (.slice (some ⟨w.heap.size + 1, 0, none⟩) 64 64) W := fun W => slice_whole Tryd.underlying35 (by kernel_rfl) _ _ W
  by_cases h64 : 64 < n
  · have hb : decide ((n : Int) > 64) = true := by simp; omega
    have hdig : shr xs = dig xs := shr_long (by omega)
    obtain ⟨D, hD⟩ : ∃ D, D = dig xs := ⟨_, rfl⟩
    have hDl : D.length = 32 := by rw [hD, length_dig]
    have HSE : Hid ((List.replicate 64 (0 : UInt8)).take 0 ++ D ++ (List.replicate 64 0).drop (0 + 32) = S) := Lib.hid (by rw [HS.out, blk, hdig, hD]; simp [length_dig])
    have HD := Lib.hid hD
    have HDL := Lib.hid hDl
    have hszd : (row8 D).size = 32 := by rw [size_row8, hDl]
    have hst := fun W : World => run_storeCells_new (P := Tryd.prog) W 25 #[.int .u8 0, .int .u8 0, .int .u8 0, .int .u8 0, .int .u8 0, .int .u8 0, .int .u8 0, .int .u8 0, .int .u8 0, .int .u8 0, .int .u8 0, .int .u8 0, .int .u8 0, .int .u8 0, .int .u8 0, .int .u8 0, .int .u8 0, .int .u8 0, .int .u8 0, .int .u8 0, .int .u8 0, .int .u8 0, .int .u8 0, .int .u8 0, .int .u8 0, .int .u8 0, .int .u8 0, .int .u8 0, .int .u8 0, .int .u8 0, .int .u8 0, .int .u8 0] (row8 D) ((show (Tryd.prog.info? 25).map (·.size) = some 32 by kernel_rfl).trans (by rw [hszd])) (by rw [hszd]; rfl) (row8_one _)
    clear hdig hD hDl
    go_enter Tryd.func16, Tryd.ntmps16
    rw [whole_eq 6]
    go_wp2_with fail
    generalize (w.alloc (.cells #[.int .u8 0, .int .u8 0, .int .u8 0, .int .u8 0, .int .u8 0, .int .u8 0, .int .u8 0, .int .u8 0, .int .u8 0, .int .u8 0, .int .u8 0, .int .u8 0, .int .u8 0, .int .u8 0, .int .u8 0, .int .u8 0, .int .u8 0, .int .u8 0, .int .u8 0, .int .u8 0, .int .u8 0, .int .u8 0, .int .u8 0, .int .u8 0, .int .u8 0, .int .u8 0, .int .u8 0, .int .u8 0, .int .u8 0, .int .u8 0, .int .u8 0, .int .u8 0, .int .u8 0, .int .u8 0, .int .u8 0, .int .u8 0, .int .u8 0, .int .u8 0, .int .u8 0, .int .u8 0, .int .u8 0, .int .u8 0, .int .u8 0, .int .u8 0, .int .u8 0, .int .u8 0, .int .u8 0, .int .u8 0, .int .u8 0, .int .u8 0, .int .u8 0, .int .u8 0, .int .u8 0, .int .u8 0, .int .u8 0, .int .u8 0, .int .u8 0, .int .u8 0, .int .u8 0, .int .u8 0, .int .u8 0, .int .u8 0, .int .u8 0, .int .u8 0] 35)).alloc (.cells #[.int .u8 0, .int .u8 0, .int .u8 0, .int .u8 0, .int .u8 0, .int .u8 0, .int .u8 0, .int .u8 0, .int .u8 0, .int .u8 0, .int .u8 0, .int .u8 0, .int .u8 0, .int .u8 0, .int .u8 0, .int .u8 0, .int .u8 0, .int .u8 0, .int .u8 0, .int .u8 0, .int .u8 0, .int .u8 0, .int .u8 0, .int .u8 0, .int .u8 0, .int .u8 0, .int .u8 0, .int .u8 0, .int .u8 0, .int .u8 0, .int .u8 0, .int .u8 0, .int .u8 0, .int .u8 0, .int .u8 0, .int .u8 0, .int .u8 0, .int .u8 0, .int .u8 0, .int .u8 0, .int .u8 0, .int .u8 0, .int .u8 0, .int .u8 0, .int .u8 0, .int .u8 0, .int .u8 0, .int .u8 0, .int .u8 0, .int .u8 0, .int .u8 0, .int .u8 0, .int .u8 0, .int .u8 0, .int .u8 0, .int .u8 0, .int .u8 0, .int .u8 0, .int .u8 0, .int .u8 0, .int .u8 0, .int .u8 0, .int .u8 0, .int .u8 0] 35) = w2 at k1 k2 HBW hz ⊢
    refine (sum_any A n c xs w2 (hT.below HBW h2) hn hc hx ((hr.below HBW).more HBW.size) hl).mono ?_
    rintro e w3 ⟨rfl, hB3⟩
    rw [← HD.out]
    have e1 := (k1.below hB3 k1.lt).alloc (.cells (row8 D) 25)
    have e2 := (k2.below hB3 k2.lt).alloc (.cells (row8 D) 25)
    have hw3 := hB3.size
    have eB := ((HBW.trans (hB3.mono HBW.size))).alloc (Nat.le_trans HBW.size hB3.size) (.cells (row8 D) 25)
    have eD : Blk (w3.alloc (.cells (row8 D) 25)) w3.heap.size 25 (row8 D) := Blk.new _ _ _
    have eR : Rd (w3.alloc (.cells (row8 D) 25)) (w3.heap.size + 1) (some ⟨w3.heap.size, 0, none⟩) D := (RowAt.rd eD 0 D (fun j hj => by simp)).more (by simp)
    have hsd : ∀ W : World, (Instr.sliceAt 25 (.pointer (some ⟨w3.heap.size, 0, none⟩)) none none none).run Tryd.prog W = .ok (.slice (some ⟨w3.heap.size, 0, none⟩) 32 32) W := fun W => slice_whole Tryd.underlying25 (by kernel_rfl) _ _ W
    clear k1 k2 HBW hr
    go_wp2_with (with_reducible refine wpList_copy8t h8 _ rfl (.tmp 11) (.tmp 12) rfl (w.heap.size + 1) 0 64 64 _ (List.replicate 64 0) rfl e2 _ _ 32 32 D rfl HDL.out eR (by omega) (by simp) ?_; intro w5 hcp hgr)
    have g1 := e1.below_grown hgr (by omega)
    have gB := eB.grown hgr eB.size (by simp)
    rw [HSE.out] at hcp
    refine whole_list ?_
    refine wpList_load_blk hcp 64 hsz rfl _ _ rfl rfl _ Tryd.underlying35 rfl (by kernel_rfl) ?_
    refine wpList_store_blk g1 64 rfl hsz (row8_one _) rfl _ _ _ rfl rfl rfl (by kernel_rfl) ?_
    go_wp2_with fail
    exact bodyPost_ret (v := .agg (row8 S)) (results_cell_row rfl _ _ _ _ _ _ _ rfl (g1.setRow (row8 S)) Tryd.underlying35 rfl ((show (Tryd.prog.info? 35).map (·.size) = some 64 by kernel_rfl).trans (by rw [hsz]))) rfl ⟨rfl, Below.setRow_ gB _ _ (Nat.le_refl _)⟩
  · have hb : decide ((n : Int) > 64) = false := by simp; omega
    have hsh : shr xs = xs := shr_short (by omega)
    have HSE : Hid ((List.replicate 64 (0 : UInt8)).take 0 ++ xs ++ (List.replicate 64 0).drop (0 + n) = S) := Lib.hid (by rw [HS.out, blk, hsh, hx, List.take_zero, List.nil_append, List.drop_replicate, Nat.zero_add])
    clear hsh
    have hn64 : n ≤ 64 := by omega
    have eR := hr.below HBW
    have HX := Lib.hid hx
    clear hx
    go_enter Tryd.func16, Tryd.ntmps16
    rw [whole_eq 6]
    go_wp2_with (with_reducible refine wpList_copy8t h8 _ rfl (.tmp 11) (.tmp 12) rfl (w.heap.size + 1) 0 64 64 _ (List.replicate 64 0) rfl k2 _ _ n c xs rfl HX.out eR (by omega) (by simp) ?_; intro w5 hcp hgr)
    have g1 := k1.below_grown hgr (by omega)
    have gB := HBW.grown hgr HBW.size (by simp)
    rw [HSE.out] at hcp
    refine whole_list ?_
    refine wpList_load_blk hcp 64 hsz rfl _ _ rfl rfl _ Tryd.underlying35 rfl (by kernel_rfl) ?_
    refine wpList_store_blk g1 64 rfl hsz (row8_one _) rfl _ _ _ rfl rfl rfl (by kernel_rfl) ?_
    go_wp2_with fail
    exact bodyPost_ret (v := .agg (row8 S)) (results_cell_row rfl _ _ _ _ _ _ _ rfl (g1.setRow (row8 S)) Tryd.underlying35 rfl ((show (Tryd.prog.info? 35).map (·.size) = some 64 by kernel_rfl).trans (by rw [hsz]))) rfl ⟨rfl, Below.setRow_ gB _ _ (Nat.le_refl _)⟩
end Go.Proofs.YtdhbafmccphelaaDoor
