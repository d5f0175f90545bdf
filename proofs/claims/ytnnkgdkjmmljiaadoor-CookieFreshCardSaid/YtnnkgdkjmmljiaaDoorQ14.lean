/-
  Package mac: the block of a key.
  Package mac: the digest of a block with bytes behind it.
-/
import Derived.Test.YtnnkgdkjmmljiaaDoorQ13
import Derived.Test.YtnnkgdkjmmljiaaDoorQ2
namespace Go.Proofs.YtnnkgdkjmmljiaaDoor
open Go.RowKit
set_option linter.unusedVariables false
set_option maxRecDepth 100000

/-- copy into a block that reads as bytes, of whatever type; the source nil, empty or not. -/
theorem wpList_copy8t {P : Program} {T e : TypeId} {i : TypeInfo} {ops : Array Oper} {rest : List Oper} {o : Oper} {a : Act} {Q : Exit → Act → World → Prop} (h8 : Ty8 P T e i) (w : World) (hgd : o.guard = none) (d s : Operand)
    (ho : o.op = .call { callee := .builtin .copy, args := #[d, s], argTypes := #[T, T] })
    (g off dLen dCap : Nat) (t : TypeId) (cur : List UInt8) (hd : a.eval d = .slice (some ⟨g, off, none⟩) dLen dCap) (hg : Blk w g t (row8 cur))
    (B : Nat) (A' : Option Addr) (m c' : Nat) (ys : List UInt8) (hs : a.eval s = .slice A' m c') (hy : ys.length = m) (hr : Rd w B A' ys) (hle : m ≤ dLen) (hfit : off + dLen ≤ cur.length)
    (h : ∀ w', Blk w' g t (row8 (cur.take off ++ ys ++ cur.drop (off + m))) → w.grownBy w' (some g) → wpList P ops Q rest (a.put o.dst (goInt m)) w') :
    wpList P ops Q (o :: rest) a w := by
  have hsz : (P.info? e).map (·.size) = some 1 := by rw [h8.info]; simp [h8.size]
  by_cases h0 : m = 0
  · subst h0
    obtain rfl := List.eq_nil_of_length_eq_zero hy
    refine wpList_copy_nothing hgd d s T T ho e h8.slice hsz _ _ _ _ _ _ hd hs (by simp) ?_
    exact h w (by simpa using hg) (World.grownBy.refl _ _)
  · rcases A' with _ | ad
    · rcases hr with rfl | ⟨_, _, h, _⟩
      · simp at hy; omega
      · cases h
    · have hl : (ys.map fun x => Value.int .u8 (x.toNat : Int)).length = m := by rw [List.length_map, hy]
      refine wpList_copy_own hgd d s T T ho e h8.slice hsz g off dLen dCap ad m c' hd hs (row8 cur) t hg (ys.map fun x => Value.int .u8 (x.toNat : Int)) (by rw [hl]; exact (Nat.min_eq_left hle).symm) hr.cells (by rw [hl, size_row8]; omega) (one_row8 ys) ?_
      rw [hl]
      refine h _ ?_ ⟨rfl, rfl, rfl, by simp [World.setRow], fun k hk hne => setRow_other w g k _ (fun e => hne (by rw [e]))⟩
      have := setRow_heap w g _ ((row8 cur).toList.take off ++ (ys.map (fun x => Value.int .u8 (x.toNat : Int)) ++ (row8 cur).toList.drop (off + m))).toArray t _ hg
      unfold Blk
      rw [this]
      congr 2
      simp [row8]
theorem Blk.below_grown {w w' : World} {g q : Nat} {t : TypeId} {cs : Array Value} (h : Blk w g t cs) (hb : w.grownBy w' (some q)) (hg : g ≠ q) : Blk w' g t cs := h.grown hb (by simpa using hg)

set_option maxHeartbeats 1000000 in
theorem blockOf_any (A : Option Addr) (n c : Nat) (xs : List UInt8) (w : World) (hT : Tabs w) (hn : n ≤ c) (hc : c ≤ maxLen) (hx : xs.length = n) (hr : Rd w w.heap.size A xs) (hl : n ≤ 1152921504606846000) :
    Calls Tryd.prog 33 #[.slice A n c] w fun e w' => e = .returned (.agg (row8 (blk xs))) ∧ Below w.heap.size w w' := by
  obtain ⟨i8, h8⟩ := Tryd.ty8
  have h2 := hT.2.2
  obtain ⟨S, hS⟩ : ∃ S, S = blk xs := ⟨_, rfl⟩
  have HS := Lib.hid hS
  have hsz : (row8 S).size = 64 := by rw [size_row8, hS, length_blk]
  rw [← hS]
  clear hS
  have k1 : Blk ((w.alloc (.cells #[.int .u8 0, .int .u8 0, .int .u8 0, .int .u8 0, .int .u8 0, .int .u8 0, .int .u8 0, .int .u8 0, .int .u8 0, .int .u8 0, .int .u8 0, .int .u8 0, .int .u8 0, .int .u8 0, .int .u8 0, .int .u8 0, .int .u8 0, .int .u8 0, .int .u8 0, .int .u8 0, .int .u8 0, .int .u8 0, .int .u8 0, .int .u8 0, .int .u8 0, .int .u8 0, .int .u8 0, .int .u8 0, .int .u8 0, .int .u8 0, .int .u8 0, .int .u8 0, .int .u8 0, .int .u8 0, .int .u8 0, .int .u8 0, .int .u8 0, .int .u8 0, .int .u8 0, .int .u8 0, .int .u8 0, .int .u8 0, .int .u8 0, .int .u8 0, .int .u8 0, .int .u8 0, .int .u8 0, .int .u8 0, .int .u8 0, .int .u8 0, .int .u8 0, .int .u8 0, .int .u8 0, .int .u8 0, .int .u8 0, .int .u8 0, .int .u8 0, .int .u8 0, .int .u8 0, .int .u8 0, .int .u8 0, .int .u8 0, .int .u8 0, .int .u8 0] 55)).alloc (.cells #[.int .u8 0, .int .u8 0, .int .u8 0, .int .u8 0, .int .u8 0, .int .u8 0, .int .u8 0, .int .u8 0, .int .u8 0, .int .u8 0, .int .u8 0, .int .u8 0, .int .u8 0, .int .u8 0, .int .u8 0, .int .u8 0, .int .u8 0, .int .u8 0, .int .u8 0, .int .u8 0, .int .u8 0, .int .u8 0, .int .u8 0, .int .u8 0, .int .u8 0, .int .u8 0, .int .u8 0, .int .u8 0, .int .u8 0, .int .u8 0, .int .u8 0, .int .u8 0, .int .u8 0, .int .u8 0, .int .u8 0, .int .u8 0, .int .u8 0, .int .u8 0, .int .u8 0, .int .u8 0, .int .u8 0, .int .u8 0, .int .u8 0, .int .u8 0, .int .u8 0, .int .u8 0, .int .u8 0, .int .u8 0, .int .u8 0, .int .u8 0, .int .u8 0, .int .u8 0, .int .u8 0, .int .u8 0, .int .u8 0, .int .u8 0, .int .u8 0, .int .u8 0, .int .u8 0, .int .u8 0, .int .u8 0, .int .u8 0, .int .u8 0, .int .u8 0] 55)) w.heap.size 55 (row8 (List.replicate 64 0)) := (Blk.new w 55 (row8 (List.replicate 64 0))).alloc _
  have k2 : Blk ((w.alloc (.cells #[.int .u8 0, .int .u8 0, .int .u8 0, .int .u8 0, .int .u8 0, .int .u8 0, .int .u8 0, .int .u8 0, .int .u8 0, .int .u8 0, .int .u8 0, .int .u8 0, .int .u8 0, .int .u8 0, .int .u8 0, .int .u8 0, .int .u8 0, .int .u8 0, .int .u8 0, .int .u8 0, .int .u8 0, .int .u8 0, .int .u8 0, .int .u8 0, .int .u8 0, .int .u8 0, .int .u8 0, .int .u8 0, .int .u8 0, .int .u8 0, .int .u8 0, .int .u8 0, .int .u8 0, .int .u8 0, .int .u8 0, .int .u8 0, .int .u8 0, .int .u8 0, .int .u8 0, .int .u8 0, .int .u8 0, .int .u8 0, .int .u8 0, .int .u8 0, .int .u8 0, .int .u8 0, .int .u8 0, .int .u8 0, .int .u8 0, .int .u8 0, .int .u8 0, .int .u8 0, .int .u8 0, .int .u8 0, .int .u8 0, .int .u8 0, .int .u8 0, .int .u8 0, .int .u8 0, .int .u8 0, .int .u8 0, .int .u8 0, .int .u8 0, .int .u8 0] 55)).alloc (.cells #[.int .u8 0, .int .u8 0, .int .u8 0, .int .u8 0, .int .u8 0, .int .u8 0, .int .u8 0, .int .u8 0, .int .u8 0, .int .u8 0, .int .u8 0, .int .u8 0, .int .u8 0, .int .u8 0, .int .u8 0, .int .u8 0, .int .u8 0, .int .u8 0, .int .u8 0, .int .u8 0, .int .u8 0, .int .u8 0, .int .u8 0, .int .u8 0, .int .u8 0, .int .u8 0, .int .u8 0, .int .u8 0, .int .u8 0, .int .u8 0, .int .u8 0, .int .u8 0, .int .u8 0, .int .u8 0, .int .u8 0, .int .u8 0, .int .u8 0, .int .u8 0, .int .u8 0, .int .u8 0, .int .u8 0, .int .u8 0, .int .u8 0, .int .u8 0, .int .u8 0, .int .u8 0, .int .u8 0, .int .u8 0, .int .u8 0, .int .u8 0, .int .u8 0, .int .u8 0, .int .u8 0, .int .u8 0, .int .u8 0, .int .u8 0, .int .u8 0, .int .u8 0, .int .u8 0, .int .u8 0, .int .u8 0, .int .u8 0, .int .u8 0, .int .u8 0] 55)) (w.heap.size + 1) 55 (row8 (List.replicate 64 0)) := by
    have := Blk.new (w.alloc (.cells #[.int .u8 0, .int .u8 0, .int .u8 0, .int .u8 0, .int .u8 0, .int .u8 0, .int .u8 0, .int .u8 0, .int .u8 0, .int .u8 0, .int .u8 0, .int .u8 0, .int .u8 0, .int .u8 0, .int .u8 0, .int .u8 0, .int .u8 0, .int .u8 0, .int .u8 0, .int .u8 0, .int .u8 0, .int .u8 0, .int .u8 0, .int .u8 0, .int .u8 0, .int .u8 0, .int .u8 0, .int .u8 0, .int .u8 0, .int .u8 0, .int .u8 0, .int .u8 0, .int .u8 0, .int .u8 0, .int .u8 0, .int .u8 0, .int .u8 0, .int .u8 0, .int .u8 0, .int .u8 0, .int .u8 0, .int .u8 0, .int .u8 0, .int .u8 0, .int .u8 0, .int .u8 0, .int .u8 0, .int .u8 0, .int .u8 0, .int .u8 0, .int .u8 0, .int .u8 0, .int .u8 0, .int .u8 0, .int .u8 0, .int .u8 0, .int .u8 0, .int .u8 0, .int .u8 0, .int .u8 0, .int .u8 0, .int .u8 0, .int .u8 0, .int .u8 0] 55)) 55 (row8 (List.replicate 64 0))
    rwa [show (w.alloc (.cells #[.int .u8 0, .int .u8 0, .int .u8 0, .int .u8 0, .int .u8 0, .int .u8 0, .int .u8 0, .int .u8 0, .int .u8 0, .int .u8 0, .int .u8 0, .int .u8 0, .int .u8 0, .int .u8 0, .int .u8 0, .int .u8 0, .int .u8 0, .int .u8 0, .int .u8 0, .int .u8 0, .int .u8 0, .int .u8 0, .int .u8 0, .int .u8 0, .int .u8 0, .int .u8 0, .int .u8 0, .int .u8 0, .int .u8 0, .int .u8 0, .int .u8 0, .int .u8 0, .int .u8 0, .int .u8 0, .int .u8 0, .int .u8 0, .int .u8 0, .int .u8 0, .int .u8 0, .int .u8 0, .int .u8 0, .int .u8 0, .int .u8 0, .int .u8 0, .int .u8 0, .int .u8 0, .int .u8 0, .int .u8 0, .int .u8 0, .int .u8 0, .int .u8 0, .int .u8 0, .int .u8 0, .int .u8 0, .int .u8 0, .int .u8 0, .int .u8 0, .int .u8 0, .int .u8 0, .int .u8 0, .int .u8 0, .int .u8 0, .int .u8 0, .int .u8 0] 55)).heap.size = w.heap.size + 1 by simp] at this
  have HBW : Below w.heap.size w ((w.alloc (.cells #[.int .u8 0, .int .u8 0, .int .u8 0, .int .u8 0, .int .u8 0, .int .u8 0, .int .u8 0, .int .u8 0, .int .u8 0, .int .u8 0, .int .u8 0, .int .u8 0, .int .u8 0, .int .u8 0, .int .u8 0, .int .u8 0, .int .u8 0, .int .u8 0, .int .u8 0, .int .u8 0, .int .u8 0, .int .u8 0, .int .u8 0, .int .u8 0, .int .u8 0, .int .u8 0, .int .u8 0, .int .u8 0, .int .u8 0, .int .u8 0, .int .u8 0, .int .u8 0, .int .u8 0, .int .u8 0, .int .u8 0, .int .u8 0, .int .u8 0, .int .u8 0, .int .u8 0, .int .u8 0, .int .u8 0, .int .u8 0, .int .u8 0, .int .u8 0, .int .u8 0, .int .u8 0, .int .u8 0, .int .u8 0, .int .u8 0, .int .u8 0, .int .u8 0, .int .u8 0, .int .u8 0, .int .u8 0, .int .u8 0, .int .u8 0, .int .u8 0, .int .u8 0, .int .u8 0, .int .u8 0, .int .u8 0, .int .u8 0, .int .u8 0, .int .u8 0] 55)).alloc (.cells #[.int .u8 0, .int .u8 0, .int .u8 0, .int .u8 0, .int .u8 0, .int .u8 0, .int .u8 0, .int .u8 0, .int .u8 0, .int .u8 0, .int .u8 0, .int .u8 0, .int .u8 0, .int .u8 0, .int .u8 0, .int .u8 0, .int .u8 0, .int .u8 0, .int .u8 0, .int .u8 0, .int .u8 0, .int .u8 0, .int .u8 0, .int .u8 0, .int .u8 0, .int .u8 0, .int .u8 0, .int .u8 0, .int .u8 0, .int .u8 0, .int .u8 0, .int .u8 0, .int .u8 0, .int .u8 0, .int .u8 0, .int .u8 0, .int .u8 0, .int .u8 0, .int .u8 0, .int .u8 0, .int .u8 0, .int .u8 0, .int .u8 0, .int .u8 0, .int .u8 0, .int .u8 0, .int .u8 0, .int .u8 0, .int .u8 0, .int .u8 0, .int .u8 0, .int .u8 0, .int .u8 0, .int .u8 0, .int .u8 0, .int .u8 0, .int .u8 0, .int .u8 0, .int .u8 0, .int .u8 0, .int .u8 0, .int .u8 0, .int .u8 0, .int .u8 0] 55)) := ((Below.refl _ _).alloc (Nat.le_refl _) _).alloc (by simp) _
  have hz : ((w.alloc (.cells #[.int .u8 0, .int .u8 0, .int .u8 0, .int .u8 0, .int .u8 0, .int .u8 0, .int .u8 0, .int .u8 0, .int .u8 0, .int .u8 0, .int .u8 0, .int .u8 0, .int .u8 0, .int .u8 0, .int .u8 0, .int .u8 0, .int .u8 0, .int .u8 0, .int .u8 0, .int .u8 0, .int .u8 0, .int .u8 0, .int .u8 0, .int .u8 0, .int .u8 0, .int .u8 0, .int .u8 0, .int .u8 0, .int .u8 0, .int .u8 0, .int .u8 0, .int .u8 0, .int .u8 0, .int .u8 0, .int .u8 0, .int .u8 0, .int .u8 0, .int .u8 0, .int .u8 0, .int .u8 0, .int .u8 0, .int .u8 0, .int .u8 0, .int .u8 0, .int .u8 0, .int .u8 0, .int .u8 0, .int .u8 0, .int .u8 0, .int .u8 0, .int .u8 0, .int .u8 0, .int .u8 0, .int .u8 0, .int .u8 0, .int .u8 0, .int .u8 0, .int .u8 0, .int .u8 0, .int .u8 0, .int .u8 0, .int .u8 0, .int .u8 0, .int .u8 0] 55)).alloc (.cells #[.int .u8 0, .int .u8 0, .int .u8 0, .int .u8 0, .int .u8 0, .int .u8 0, .int .u8 0, .int .u8 0, .int .u8 0, .int .u8 0, .int .u8 0, .int .u8 0, .int .u8 0, .int .u8 0, .int .u8 0, .int .u8 0, .int .u8 0, .int .u8 0, .int .u8 0, .int .u8 0, .int .u8 0, .int .u8 0, .int .u8 0, .int .u8 0, .int .u8 0, .int .u8 0, .int .u8 0, .int .u8 0, .int .u8 0, .int .u8 0, .int .u8 0, .int .u8 0, .int .u8 0, .int .u8 0, .int .u8 0, .int .u8 0, .int .u8 0, .int .u8 0, .int .u8 0, .int .u8 0, .int .u8 0, .int .u8 0, .int .u8 0, .int .u8 0, .int .u8 0, .int .u8 0, .int .u8 0, .int .u8 0, .int .u8 0, .int .u8 0, .int .u8 0, .int .u8 0, .int .u8 0, .int .u8 0, .int .u8 0, .int .u8 0, .int .u8 0, .int .u8 0, .int .u8 0, .int .u8 0, .int .u8 0, .int .u8 0, .int .u8 0, .int .u8 0] 55)).heap.size = w.heap.size + 1 + 1 := by simp
  have hsl : ∀ W : World, (Instr.sliceAt 55 (.pointer (some ⟨w.heap.size + 1, 0, none⟩)) none none none).run Tryd.prog W = .ok (.slice (some ⟨w.heap.size + 1, 0, none⟩) 64 64) W := fun W => slice_whole Tryd.underlying55 (by kernel_rfl) _ _ W
  by_cases h64 : 64 < n
  · have hb : decide ((n : Int) > 64) = true := by simp; omega
    have hdig : shr xs = dig xs := shr_long (by omega)
    obtain ⟨D, hD⟩ : ∃ D, D = dig xs := ⟨_, rfl⟩
    have hDl : D.length = 32 := by rw [hD, length_dig]
    have HSE : Hid ((List.replicate 64 (0 : UInt8)).take 0 ++ D ++ (List.replicate 64 0).drop (0 + 32) = S) := Lib.hid (by rw [HS.out, blk, hdig, hD]; simp [length_dig])
    have HD := Lib.hid hD
    have HDL := Lib.hid hDl
    have hszd : (row8 D).size = 32 := by rw [size_row8, hDl]
    have hst := fun W : World => run_storeCells_new (P := Tryd.prog) W 46 #[.int .u8 0, .int .u8 0, .int .u8 0, .int .u8 0, .int .u8 0, .int .u8 0, .int .u8 0, .int .u8 0, .int .u8 0, .int .u8 0, .int .u8 0, .int .u8 0, .int .u8 0, .int .u8 0, .int .u8 0, .int .u8 0, .int .u8 0, .int .u8 0, .int .u8 0, .int .u8 0, .int .u8 0, .int .u8 0, .int .u8 0, .int .u8 0, .int .u8 0, .int .u8 0, .int .u8 0, .int .u8 0, .int .u8 0, .int .u8 0, .int .u8 0, .int .u8 0] (row8 D) ((show (Tryd.prog.info? 46).map (·.size) = some 32 by kernel_rfl).trans (by rw [hszd])) (by rw [hszd]; rfl) (row8_one _)
    clear hdig hD hDl
    go_enter Tryd.func33, Tryd.ntmps33
    rw [whole_eq 6]
    go_wp2_with fail
    generalize (w.alloc (.cells #[.int .u8 0, .int .u8 0, .int .u8 0, .int .u8 0, .int .u8 0, .int .u8 0, .int .u8 0, .int .u8 0, .int .u8 0, .int .u8 0, .int .u8 0, .int .u8 0, .int .u8 0, .int .u8 0, .int .u8 0, .int .u8 0, .int .u8 0, .int .u8 0, .int .u8 0, .int .u8 0, .int .u8 0, .int .u8 0, .int .u8 0, .int .u8 0, .int .u8 0, .int .u8 0, .int .u8 0, .int .u8 0, .int .u8 0, .int .u8 0, .int .u8 0, .int .u8 0, .int .u8 0, .int .u8 0, .int .u8 0, .int .u8 0, .int .u8 0, .int .u8 0, .int .u8 0, .int .u8 0, .int .u8 0, .int .u8 0, .int .u8 0, .int .u8 0, .int .u8 0, .int .u8 0, .int .u8 0, .int .u8 0, .int .u8 0, .int .u8 0, .int .u8 0, .int .u8 0, .int .u8 0, .int .u8 0, .int .u8 0, .int .u8 0, .int .u8 0, .int .u8 0, .int .u8 0, .int .u8 0, .int .u8 0, .int .u8 0, .int .u8 0, .int .u8 0] 55)).alloc (.cells #[.int .u8 0, .int .u8 0, .int .u8 0, .int .u8 0, .int .u8 0, .int .u8 0, .int .u8 0, .int .u8 0, .int .u8 0, .int .u8 0, .int .u8 0, .int .u8 0, .int .u8 0, .int .u8 0, .int .u8 0, .int .u8 0, .int .u8 0, .int .u8 0, .int .u8 0, .int .u8 0, .int .u8 0, .int .u8 0, .int .u8 0, .int .u8 0, .int .u8 0, .int .u8 0, .int .u8 0, .int .u8 0, .int .u8 0, .int .u8 0, .int .u8 0, .int .u8 0, .int .u8 0, .int .u8 0, .int .u8 0, .int .u8 0, .int .u8 0, .int .u8 0, .int .u8 0, .int .u8 0, .int .u8 0, .int .u8 0, .int .u8 0, .int .u8 0, .int .u8 0, .int .u8 0, .int .u8 0, .int .u8 0, .int .u8 0, .int .u8 0, .int .u8 0, .int .u8 0, .int .u8 0, .int .u8 0, .int .u8 0, .int .u8 0, .int .u8 0, .int .u8 0, .int .u8 0, .int .u8 0, .int .u8 0, .int .u8 0, .int .u8 0, .int .u8 0] 55) = w2 at k1 k2 HBW hz ⊢
    refine (sum_any A n c xs w2 (hT.below HBW h2) hn hc hx ((hr.below HBW).more HBW.size) hl).mono ?_
    rintro e w3 ⟨rfl, hB3⟩
    rw [← HD.out]
    have e1 := (k1.below hB3 k1.lt).alloc (.cells (row8 D) 46)
    have e2 := (k2.below hB3 k2.lt).alloc (.cells (row8 D) 46)
    have hw3 := hB3.size
    have eB := ((HBW.trans (hB3.mono HBW.size))).alloc (Nat.le_trans HBW.size hB3.size) (.cells (row8 D) 46)
    have eD : Blk (w3.alloc (.cells (row8 D) 46)) w3.heap.size 46 (row8 D) := Blk.new _ _ _
    have eR : Rd (w3.alloc (.cells (row8 D) 46)) (w3.heap.size + 1) (some ⟨w3.heap.size, 0, none⟩) D := (RowAt.rd eD 0 D (fun j hj => by simp)).more (by simp)
    have hsd : ∀ W : World, (Instr.sliceAt 46 (.pointer (some ⟨w3.heap.size, 0, none⟩)) none none none).run Tryd.prog W = .ok (.slice (some ⟨w3.heap.size, 0, none⟩) 32 32) W := fun W => slice_whole Tryd.underlying46 (by kernel_rfl) _ _ W
    clear k1 k2 HBW hr
    go_wp2_with (with_reducible refine wpList_copy8t h8 _ rfl (.tmp 11) (.tmp 12) rfl (w.heap.size + 1) 0 64 64 _ (List.replicate 64 0) rfl e2 _ _ 32 32 D rfl HDL.out eR (by omega) (by simp) ?_; intro w5 hcp hgr)
    have g1 := e1.below_grown hgr (by omega)
    have gB := eB.grown hgr eB.size (by simp)
    rw [HSE.out] at hcp
    refine whole_list ?_
    refine wpList_load_blk hcp 64 hsz rfl _ _ rfl rfl _ Tryd.underlying55 rfl (by kernel_rfl) ?_
    refine wpList_store_blk g1 64 rfl hsz (row8_one _) rfl _ _ _ rfl rfl rfl (by kernel_rfl) ?_
    go_wp2_with fail
    exact bodyPost_ret (v := .agg (row8 S)) (results_cell_row rfl _ _ _ _ _ _ _ rfl (g1.setRow (row8 S)) Tryd.underlying55 rfl ((show (Tryd.prog.info? 55).map (·.size) = some 64 by kernel_rfl).trans (by rw [hsz]))) rfl ⟨rfl, Below.setRow_ gB _ _ (Nat.le_refl _)⟩
  · have hb : decide ((n : Int) > 64) = false := by simp; omega
    have hsh : shr xs = xs := shr_short (by omega)
    have HSE : Hid ((List.replicate 64 (0 : UInt8)).take 0 ++ xs ++ (List.replicate 64 0).drop (0 + n) = S) := Lib.hid (by rw [HS.out, blk, hsh, hx, List.take_zero, List.nil_append, List.drop_replicate, Nat.zero_add])
    clear hsh
    have hn64 : n ≤ 64 := by omega
    have eR := hr.below HBW
    have HX := Lib.hid hx
    clear hx
    go_enter Tryd.func33, Tryd.ntmps33
    rw [whole_eq 6]
    go_wp2_with (with_reducible refine wpList_copy8t h8 _ rfl (.tmp 11) (.tmp 12) rfl (w.heap.size + 1) 0 64 64 _ (List.replicate 64 0) rfl k2 _ _ n c xs rfl HX.out eR (by omega) (by simp) ?_; intro w5 hcp hgr)
    have g1 := k1.below_grown hgr (by omega)
    have gB := HBW.grown hgr HBW.size (by simp)
    rw [HSE.out] at hcp
    refine whole_list ?_
    refine wpList_load_blk hcp 64 hsz rfl _ _ rfl rfl _ Tryd.underlying55 rfl (by kernel_rfl) ?_
    refine wpList_store_blk g1 64 rfl hsz (row8_one _) rfl _ _ _ rfl rfl rfl (by kernel_rfl) ?_
    go_wp2_with fail
    exact bodyPost_ret (v := .agg (row8 S)) (results_cell_row rfl _ _ _ _ _ _ _ rfl (g1.setRow (row8 S)) Tryd.underlying55 rfl ((show (Tryd.prog.info? 55).map (·.size) = some 64 by kernel_rfl).trans (by rw [hsz]))) rfl ⟨rfl, Below.setRow_ gB _ _ (Nat.le_refl _)⟩
end Go.Proofs.YtnnkgdkjmmljiaaDoor

namespace Go.Proofs.YtnnkgdkjmmljiaaDoor
open Go.RowKit
set_option linter.unusedVariables false
set_option maxRecDepth 100000

set_option maxHeartbeats 400000 in
theorem digest_any (bs : List UInt8) (A : Option Addr) (n c : Nat) (xs : List UInt8) (w : World) (hb : bs.length = 64) (hT : Tabs w) (hn : n ≤ c) (hc : c ≤ maxLen) (hx : xs.length = n) (hr : Rd w w.heap.size A xs) (hl : n ≤ 1152921504606800000) :
    Calls Tryd.prog 35 #[.agg (row8 bs), .slice A n c] w fun e w' => e = .returned (.agg (row8 (dig (bs ++ xs)))) ∧ Below w.heap.size w w' := by
  have h2 := hT.2.2
  obtain ⟨S, hS⟩ : ∃ S, S = dig (bs ++ xs) := ⟨_, rfl⟩
  have HS := Lib.hid hS
  have hsz : (row8 S).size = 32 := by rw [size_row8, hS, length_dig]
  rw [← hS]
  clear hS
  have k1 : Blk ((w.alloc (.cells (row8 bs) 55)).alloc (.cells #[.int .u8 0, .int .u8 0, .int .u8 0, .int .u8 0, .int .u8 0, .int .u8 0, .int .u8 0, .int .u8 0, .int .u8 0, .int .u8 0, .int .u8 0, .int .u8 0, .int .u8 0, .int .u8 0, .int .u8 0, .int .u8 0, .int .u8 0, .int .u8 0, .int .u8 0, .int .u8 0, .int .u8 0, .int .u8 0, .int .u8 0, .int .u8 0, .int .u8 0, .int .u8 0, .int .u8 0, .int .u8 0, .int .u8 0, .int .u8 0, .int .u8 0, .int .u8 0] 46)) w.heap.size 55 (row8 bs) := (Blk.new w 55 (row8 bs)).alloc _
  have k2 : Blk ((w.alloc (.cells (row8 bs) 55)).alloc (.cells #[.int .u8 0, .int .u8 0, .int .u8 0, .int .u8 0, .int .u8 0, .int .u8 0, .int .u8 0, .int .u8 0, .int .u8 0, .int .u8 0, .int .u8 0, .int .u8 0, .int .u8 0, .int .u8 0, .int .u8 0, .int .u8 0, .int .u8 0, .int .u8 0, .int .u8 0, .int .u8 0, .int .u8 0, .int .u8 0, .int .u8 0, .int .u8 0, .int .u8 0, .int .u8 0, .int .u8 0, .int .u8 0, .int .u8 0, .int .u8 0, .int .u8 0, .int .u8 0] 46)) (w.heap.size + 1) 46 (row8 (List.replicate 32 0)) := by
    have := Blk.new (w.alloc (.cells (row8 bs) 55)) 46 (row8 (List.replicate 32 0))
    rwa [show (w.alloc (.cells (row8 bs) 55)).heap.size = w.heap.size + 1 by simp] at this
  have HBW : Below w.heap.size w ((w.alloc (.cells (row8 bs) 55)).alloc (.cells #[.int .u8 0, .int .u8 0, .int .u8 0, .int .u8 0, .int .u8 0, .int .u8 0, .int .u8 0, .int .u8 0, .int .u8 0, .int .u8 0, .int .u8 0, .int .u8 0, .int .u8 0, .int .u8 0, .int .u8 0, .int .u8 0, .int .u8 0, .int .u8 0, .int .u8 0, .int .u8 0, .int .u8 0, .int .u8 0, .int .u8 0, .int .u8 0, .int .u8 0, .int .u8 0, .int .u8 0, .int .u8 0, .int .u8 0, .int .u8 0, .int .u8 0, .int .u8 0] 46)) := ((Below.refl _ _).alloc (Nat.le_refl _) _).alloc (by simp) _
  have hz : ((w.alloc (.cells (row8 bs) 55)).alloc (.cells #[.int .u8 0, .int .u8 0, .int .u8 0, .int .u8 0, .int .u8 0, .int .u8 0, .int .u8 0, .int .u8 0, .int .u8 0, .int .u8 0, .int .u8 0, .int .u8 0, .int .u8 0, .int .u8 0, .int .u8 0, .int .u8 0, .int .u8 0, .int .u8 0, .int .u8 0, .int .u8 0, .int .u8 0, .int .u8 0, .int .u8 0, .int .u8 0, .int .u8 0, .int .u8 0, .int .u8 0, .int .u8 0, .int .u8 0, .int .u8 0, .int .u8 0, .int .u8 0] 46)).heap.size = w.heap.size + 1 + 1 := by simp
  have hsl : ∀ W : World, (Instr.sliceAt 55 (.pointer (some ⟨w.heap.size, 0, none⟩)) none none none).run Tryd.prog W = .ok (.slice (some ⟨w.heap.size, 0, none⟩) 64 64) W := fun W => slice_whole Tryd.underlying55 (by kernel_rfl) _ _ W
  have HX := Lib.hid hx
  have HBL := Lib.hid hb
  clear hx hb
  go_enter Tryd.func35, Tryd.ntmps35
  go_wp2_with fail
  generalize (w.alloc (.cells (row8 bs) 55)).alloc (.cells #[.int .u8 0, .int .u8 0, .int .u8 0, .int .u8 0, .int .u8 0, .int .u8 0, .int .u8 0, .int .u8 0, .int .u8 0, .int .u8 0, .int .u8 0, .int .u8 0, .int .u8 0, .int .u8 0, .int .u8 0, .int .u8 0, .int .u8 0, .int .u8 0, .int .u8 0, .int .u8 0, .int .u8 0, .int .u8 0, .int .u8 0, .int .u8 0, .int .u8 0, .int .u8 0, .int .u8 0, .int .u8 0, .int .u8 0, .int .u8 0, .int .u8 0, .int .u8 0] 46) = w2 at k1 k2 HBW hz ⊢
  refine (new_any w2).mono ?_
  rintro e w3 ⟨rfl, hst, hB3⟩
  have e1 := k1.below hB3 k1.lt
  have e2 := k2.below hB3 k2.lt
  have eB := HBW.trans (hB3.mono HBW.size)
  have e3 := hB3.size
  rw [hz] at hst ⊢
  have eR : Rd w3 w3.heap.size (some ⟨w.heap.size, 0, none⟩) bs := RowAt.rd e1 0 bs (fun j hj => by simp)
  have hsrc : Src w3 (w.heap.size + 1 + 1) (some ⟨w.heap.size, 0, none⟩) bs := .inr ⟨w.heap.size, 0, rfl, by omega, e1.lt, fun j x hx => by have := RowAt.cell e1 j (by have := (List.getElem?_eq_some_iff.1 hx).1; exact this); rw [Nat.zero_add, this, (List.getElem?_eq_some_iff.1 hx).2]⟩
  clear k1 k2 HBW hB3 eR
  have hw1 := write_any (w.heap.size + 1 + 1) (some ⟨w.heap.size, 0, none⟩) 64 64 [] bs w3 hst (hT.below eB h2) (by omega) (by omega) (by unfold maxLen; omega) HBL.out hsrc (by show 0 + 64 ≤ 1152921504606846976; omega)
  clear hsrc hst
  go_wp2_with fail
  refine hw1.mono ?_
  rintro e w4 ⟨rfl, hst4, ht4⟩
  have f2 := e2.tw ht4 (by simp)
  have fB : Below w.heap.size w w4 := tw_below eB ht4 (by simp; omega) (Nat.le_refl _)
  have fr : Src w4 (w.heap.size + 1 + 1) A xs := Src.of_rd (hr.below fB) fB.size (by omega)
  clear e1 e2 eB hw1 ht4
  go_wp2_with fail
  refine (write_any _ A n c _ xs _ hst4 (hT.below fB h2) (by omega) hn hc HX.out fr (by rw [List.nil_append, HBL.out]; omega)).mono ?_
  rintro e w5 ⟨rfl, hst5, ht5⟩
  have g2 := f2.tw ht5 (by simp)
  have gB : Below w.heap.size w w5 := tw_below fB ht5 (by simp; omega) (Nat.le_refl _)
  clear f2 fB fr hst4 ht5
  rw [List.nil_append] at hst5
  go_wp2_with fail
  refine (sumState_any _ _ _ hst5 (hT.below gB h2) (by rw [List.length_append, HBL.out, HX.out]; omega)).mono ?_
  rintro e w6 ⟨rfl, hB6⟩
  rw [← HS.out]
  have i2 := g2.below hB6 g2.lt
  have iB := gB.trans (hB6.mono gB.size)
  have hstr := run_storeCells_blk (P := Tryd.prog) i2 (cs := row8 S) (by rw [hsz]; rfl) (row8_one _)
  clear g2 gB hst5 hB6
  go_wp2_with fail
  exact bodyPost_ret (v := .agg (row8 S)) (results_cell_row rfl _ _ _ _ _ _ _ rfl (i2.setRow (row8 S)) Tryd.underlying46 rfl ((show (Tryd.prog.info? 46).map (·.size) = some 32 by kernel_rfl).trans (by rw [hsz]))) rfl ⟨rfl, Below.setRow_ iB _ _ (by omega)⟩
end Go.Proofs.YtnnkgdkjmmljiaaDoor
