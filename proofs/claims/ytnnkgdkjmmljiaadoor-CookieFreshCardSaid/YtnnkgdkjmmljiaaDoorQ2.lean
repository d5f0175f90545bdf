/-
  A slice of bytes of the call's own, and append onto it.
  octet.Get, octet.Cut and those of the reference.
  The type []byte, for the laws of append and copy.
  bytes.Clone.
  CopyBytes over any row: a slice of the call's own.
  octet.Cut, the reference's Cut and Get.
-/
import Derived.Test.YtnnkgdkjmmljiaaDoorQ1
import Derived.Laws.Append
import Derived.Laws.AppendOwn
import Derived.Laws.CopyOwn
import Derived.WalkSpells
namespace Go.Proofs.YtnnkgdkjmmljiaaDoor
open Go.RowKit
set_option linter.unusedVariables false

/-- The slice with address A, length n, capacity c is the call's own (its block is not below base): it is nil, or lies at the head of a row of bytes, of which the first n are xs. -/
def Own8 (w : World) (t : TypeId) (base : Nat) (A : Option Addr) (n c : Nat) (xs : List UInt8) : Prop :=
  xs.length = n ∧ ((A = none ∧ n = 0 ∧ c = 0) ∨ ∃ g zs, A = some ⟨g, 0, none⟩ ∧ base ≤ g ∧ RowAt w t g (xs ++ zs) ∧ n + zs.length = c ∧ c ≤ maxLen)

section
variable {w w' : World} {t : TypeId} {base B : Nat} {A : Option Addr} {n c : Nat} {xs : List UInt8}
theorem Own8.nil (w : World) (t : TypeId) (base : Nat) : Own8 w t base none 0 0 [] := ⟨rfl, .inl ⟨rfl, rfl, rfl⟩⟩
theorem Own8.len (h : Own8 w t base A n c xs) : xs.length = n := h.1
theorem Own8.cap (h : Own8 w t base A n c xs) : n ≤ c ∧ c ≤ maxLen := by
  rcases h.2 with ⟨_, rfl, rfl⟩ | ⟨g, zs, _, _, _, hc, hm⟩
  · exact ⟨Nat.le_refl _, Nat.zero_le _⟩
  · exact ⟨by omega, hm⟩
theorem Own8.keep (h : Own8 w t base A n c xs) (hk : ∀ g, A = some ⟨g, 0, none⟩ → w'.heap[g]? = w.heap[g]?) : Own8 w' t base A n c xs := by
  refine ⟨h.1, ?_⟩
  rcases h.2 with h | ⟨g, zs, ha, hb, hr, hc, hm⟩
  · exact .inl h
  · exact .inr ⟨g, zs, ha, hb, (hk g ha).trans hr, hc, hm⟩
theorem Own8.lt (h : Own8 w t base A n c xs) : ∀ g, A = some ⟨g, 0, none⟩ → base ≤ g ∧ g < w.heap.size := by
  intro g hg
  rcases h.2 with ⟨rfl, _⟩ | ⟨g', zs, rfl, hb, hr, _⟩
  · cases hg
  · injection hg with hg
    injection hg with hg
    subst hg
    exact ⟨hb, hr.lt⟩
theorem Own8.blk (h : Own8 w t base A n c xs) : ∀ q, A.map (·.block) = some q → base ≤ q := by
  intro q hq
  rcases h.2 with ⟨rfl, _⟩ | ⟨g, zs, rfl, hb, _⟩
  · cases hq
  · injection hq with hq
    have : g = q := hq
    omega
theorem Own8.below (h : Own8 w t base A n c xs) (hb : Below B w w') (hB : w.heap.size ≤ B) : Own8 w' t base A n c xs :=
  h.keep fun g hg => hb.block g (by have := (h.lt g hg).2; omega)
theorem Own8.drewN (h : Own8 w t base A n c xs) (k : Nat) : Own8 (w.drewN k) t base A n c xs := h
theorem Own8.alloc (h : Own8 w t base A n c xs) (o : Obj) : Own8 (w.alloc o) t base A n c xs := h.keep fun g hg => Below.heap_alloc w o g (h.lt g hg).2
theorem Own8.more (h : Own8 w t base A n c xs) {base' : Nat} (hb : base' ≤ base) : Own8 w t base' A n c xs := by
  refine ⟨h.1, ?_⟩
  rcases h.2 with h | ⟨g, zs, ha, hg, r⟩
  · exact .inl h
  · exact .inr ⟨g, zs, ha, by omega, r⟩
theorem Own8.rd (h : Own8 w t base A n c xs) : Rd w w.heap.size A xs := by
  rcases h.2 with ⟨rfl, rfl, _⟩ | ⟨g, zs, rfl, _, hr, _⟩
  · exact .inl (List.eq_nil_of_length_eq_zero h.1)
  · exact hr.rd 0 xs fun j hj => by rw [Nat.zero_add, List.getElem?_append_left hj]
theorem Own8.of_row {g : Nat} (hr : RowAt w t g xs) (hb : base ≤ g) (hn : xs.length = n) (hm : n ≤ maxLen) : Own8 w t base (some ⟨g, 0, none⟩) n n xs :=
  ⟨hn, .inr ⟨g, [], rfl, hb, by simpa using hr, by simp, hm⟩⟩
end

/-- The numbers T, e are those of []byte and byte. -/
structure Ty8 (P : Program) (T e : TypeId) (i : TypeInfo) : Prop where
  slice : P.underlying T = some (.slice e)
  info : P.info? e = some i
  zero : i.zero = some (.int .u8 0)
  size : i.size = 1
  bytes : i.bytes = 1

theorem toList_row8 (ys : List UInt8) : (row8 ys).toList = ys.map fun x => Value.int .u8 (x.toNat : Int) := rfl
theorem toArray_row8 (ys : List UInt8) : (ys.map fun x => Value.int .u8 (x.toNat : Int)).toArray = row8 ys := rfl
theorem append_row8 (xs ys : List UInt8) : row8 xs ++ row8 ys = row8 (xs ++ ys) := by simp [row8]
theorem zero_row8 (n : Nat) : Builtin.zeroCells (Value.cells (.int .u8 0)) n = row8 (List.replicate n 0) := by
  rw [← made_row8]
  simp [Builtin.zeroCells, madeCells, Value.cells]
theorem one_row8 (ys : List UInt8) : ∀ u ∈ ys.map (fun x => Value.int .u8 (x.toNat : Int)), u.oneCell' = true := by
  intro u hu
  obtain ⟨x, _, rfl⟩ := List.mem_map.1 hu
  rfl
theorem Rd.cells {w : World} {B : Nat} {a : Addr} {ys : List UInt8} (h : Rd w B (some a) ys) : ∀ j u, (ys.map fun x => Value.int .u8 (x.toNat : Int))[j]? = some u → w.cell? (a.add j) = some u := by
  intro j u hu
  rw [List.getElem?_map, Option.map_eq_some_iff] at hu
  obtain ⟨x, hx, rfl⟩ := hu
  rcases h with rfl | ⟨b, o, ha, _, hc⟩
  · cases hx
  · injection ha with ha
    subst ha
    rw [Addr.add_lit]
    exact hc j x hx

section
variable {P : Program} {T e : TypeId} {i : TypeInfo}
theorem run_append8 (h8 : Ty8 P T e i) (w : World) (ty : TypeId) (base : Nat) (A : Option Addr) (n c : Nat) (xs : List UInt8) (hown : Own8 w e base A n c xs)
    (B : Nat) (A' : Option Addr) (m c' : Nat) (ys : List UInt8) (hy : ys.length = m) (hr : Rd w B A' ys) (hb : n + m ≤ 140737488355328) (hbase : base ≤ w.heap.size) :
    ∃ A2 c2 w', (Builtin.append_ #[T, T] ty #[.slice A n c, .slice A' m c']).run P w = .ok (.slice A2 (n + m) c2) w' ∧ Own8 w' e base A2 (n + m) c2 (xs ++ ys) ∧
      w.grownBy w' (A.map (·.block)) ∧ (A2 = A ∨ A2 = some ⟨w.heap.size, 0, none⟩) := by
  obtain ⟨ht, hi, hz, h1, hbt⟩ := h8
  have hx : xs.length = n := hown.1
  have hmem : ∀ k, n + m ≤ grownCap w (n + m) k e ∧ grownCap w (n + m) k e ≤ maxLen := fun k => ⟨grownCap_ge _ _ _ _, grownCap_le_maxLen _ _ _ _ (by unfold maxLen; omega)⟩
  have hgrown : ∀ k, Own8 (w.drew.alloc (.cells (row8 (xs ++ ys ++ List.replicate (grownCap w (n + m) k e - (n + m)) 0)) e)) e base (some ⟨w.heap.size, 0, none⟩) (n + m) (grownCap w (n + m) k e) (xs ++ ys) := fun k =>
    ⟨by simp [hx, hy], .inr ⟨w.heap.size, List.replicate (grownCap w (n + m) k e - (n + m)) 0, rfl, hbase, RowAt.new w.drew e _, by have := hmem k; simp; omega, (hmem k).2⟩⟩
  have hgr : ∀ k row, w.grownBy (w.drew.alloc (.cells (row8 (xs ++ ys ++ List.replicate (grownCap w (n + m) k e - (n + m)) 0)) e)) row := fun k row =>
    ⟨rfl, rfl, rfl, by simp, fun k hk _ => Below.heap_alloc w.drew _ k hk⟩
  by_cases hm0 : m = 0
  · subst hm0
    obtain rfl := List.eq_nil_of_length_eq_zero hy
    have hc := hown.cap
    refine ⟨A, c, w, ?_, by simpa using hown, World.grownBy.refl w _, .inl rfl⟩
    rcases A' with _ | ad <;> rcases A with _ | a <;> simp [Builtin.append_, run_underlying ht, sizeOf, typeInfo, hi, Builtin.lenOf, Builtin.firstCells, loadCells, loadCellsFrom, hc.1, storeCells]
  · rcases A' with _ | ad
    · rcases hr with rfl | ⟨_, _, h, _⟩
      · simp at hy; omega
      · cases h
    · have hnews := hr.cells
      have hl : (ys.map fun x => Value.int .u8 (x.toNat : Int)).length = m * i.size := by rw [List.length_map, hy, h1, Nat.mul_one]
      rcases hown.2 with ⟨rfl, rfl, rfl⟩ | ⟨g, zs, rfl, hbg, hrow, hnc, hcm⟩
      · obtain rfl := List.eq_nil_of_length_eq_zero hx
        have hrun := run_append_nil (P := P) w T ty e i _ ht hi hz ad m c' _ hl hnews (by omega) (by omega) (by rw [hbt]; omega)
        rw [toArray_row8, zero_row8, append_row8] at hrun
        have h2 := hgrown 0
        have h3 := hgr 0
        simp only [Nat.zero_add, List.nil_append] at h2 h3 ⊢
        exact ⟨_, _, _, hrun, h2, h3 _, .inr rfl⟩
      · by_cases hroom : n + m ≤ c
        · have hsz : (row8 (xs ++ zs)).size = c := by rw [size_row8, List.length_append]; omega
          have hrun := run_append_room (P := P) w T ty e i ht hi g n c (row8 (xs ++ zs)) hrow ad m c' _ hl hnews (one_row8 ys) hroom (by rw [hsz, List.length_map, hy, h1]; omega)
          have hrow2 : (List.take (n * i.size) (row8 (xs ++ zs)).toList ++ ys.map (fun x => Value.int .u8 (x.toNat : Int)) ++ List.drop (n * i.size + (ys.map fun x => Value.int .u8 (x.toNat : Int)).length) (row8 (xs ++ zs)).toList).toArray = row8 (xs ++ ys ++ zs.drop m) := by
            rw [h1, Nat.mul_one, List.length_map, hy, toList_row8, List.map_append, List.take_append_of_le_length (by simp; omega), List.take_of_length_le (by simp; omega),
              List.drop_append, List.drop_of_length_le (by simp; omega), List.length_map, hx, Nat.add_sub_cancel_left]
            simp [row8]
          rw [hrow2] at hrun
          refine ⟨_, _, _, hrun, ⟨by simp [hx, hy], .inr ⟨g, zs.drop m, rfl, hbg, setRow_heap w g _ _ e _ hrow, by simp; omega, hcm⟩⟩, ⟨rfl, rfl, rfl, by simp, fun k hk hne => setRow_other w g k _ (fun e => hne (by simp [e]))⟩, .inl rfl⟩
        · have hrun := run_append_grow (P := P) w T ty e i _ ht hi hz ⟨g, 0, none⟩ n c (xs.map fun x => Value.int .u8 (x.toNat : Int)) (by rw [List.length_map, hx, h1, Nat.mul_one])
            (by have hrd : Rd w w.heap.size (some ⟨g, 0, none⟩) xs := hown.rd
                exact hrd.cells) ad m c' _ hl hnews (by omega) (by omega) (growslice_fits (by omega) (by rw [hbt]; omega))
          rw [toArray_row8, toArray_row8, zero_row8, append_row8, append_row8] at hrun
          exact ⟨_, _, _, hrun, hgrown c, hgr c _, .inr rfl⟩

/-- append as a law of the walk. -/
theorem wpList_append8 {ops : Array Oper} {rest : List Oper} {o : Oper} {a : Act} {Q : Exit → Act → World → Prop} (h8 : Ty8 P T e i) (w : World) (hgd : o.guard = none) (s x : Operand)
    (ho : o.op = .call { callee := .builtin .append, args := #[s, x], argTypes := #[T, T] })
    (base : Nat) (A : Option Addr) (n c : Nat) (xs : List UInt8) (hs : a.eval s = .slice A n c) (hown : Own8 w e base A n c xs)
    (B : Nat) (A' : Option Addr) (m c' : Nat) (ys : List UInt8) (hx : a.eval x = .slice A' m c') (hy : ys.length = m) (hr : Rd w B A' ys) (hb : n + m ≤ 140737488355328) (hbase : base ≤ w.heap.size)
    (h : ∀ A2 c2 w', Own8 w' e base A2 (n + m) c2 (xs ++ ys) → w.grownBy w' (A.map (·.block)) → Hid (A2 = A ∨ A2 = some ⟨w.heap.size, 0, none⟩) → wpList P ops Q rest (a.put o.dst (.slice A2 (n + m) c2)) w') :
    wpList P ops Q (o :: rest) a w := by
  refine wpList_plain hgd fun K hK => ?_
  obtain ⟨A2, c2, w', hrun, h2, h3, h4⟩ := run_append8 h8 w o.type base A n c xs hown B A' m c' ys hy hr hb hbase
  unfold Oper.wp execOp
  simp only [ho, resolve, invoke, builtin, Sem.run_bind, Sem.run_pure, Result.andThen_ok, List.map_toArray, List.map_cons, List.map_nil, hs, hx, hrun]
  exact hK _ _ (h A2 c2 w' h2 h3 h4)

/-- The same, where the operation has a guard that lets it by. -/
theorem wpList_append8g {ops : Array Oper} {rest : List Oper} {o : Oper} {a : Act} {Q : Exit → Act → World → Prop} (h8 : Ty8 P T e i) (w : World) (hgd : Region.wanted o (yielded ops a.tmps) = true) (s x : Operand)
    (ho : o.op = .call { callee := .builtin .append, args := #[s, x], argTypes := #[T, T] })
    (base : Nat) (A : Option Addr) (n c : Nat) (xs : List UInt8) (hs : a.eval s = .slice A n c) (hown : Own8 w e base A n c xs)
    (B : Nat) (A' : Option Addr) (m c' : Nat) (ys : List UInt8) (hx : a.eval x = .slice A' m c') (hy : ys.length = m) (hr : Rd w B A' ys) (hb : n + m ≤ 140737488355328) (hbase : base ≤ w.heap.size)
    (h : ∀ A2 c2 w', Own8 w' e base A2 (n + m) c2 (xs ++ ys) → w.grownBy w' (A.map (·.block)) → Hid (A2 = A ∨ A2 = some ⟨w.heap.size, 0, none⟩) → wpList P ops Q rest (a.put o.dst (.slice A2 (n + m) c2)) w') :
    wpList P ops Q (o :: rest) a w := by
  refine wpList_step fun K hK => ?_
  rw [if_pos hgd]
  obtain ⟨A2, c2, w', hrun, h2, h3, h4⟩ := run_append8 h8 w o.type base A n c xs hown B A' m c' ys hy hr hb hbase
  unfold Oper.wp execOp
  simp only [ho, resolve, invoke, builtin, Sem.run_bind, Sem.run_pure, Result.andThen_ok, List.map_toArray, List.map_cons, List.map_nil, hs, hx, hrun]
  exact hK _ _ (h A2 c2 w' h2 h3 h4)

/-- copy into a row that is known whole, the source nil, empty or not. -/
theorem wpList_copy8 {ops : Array Oper} {rest : List Oper} {o : Oper} {a : Act} {Q : Exit → Act → World → Prop} (h8 : Ty8 P T e i) (w : World) (hgd : o.guard = none) (d s : Operand)
    (ho : o.op = .call { callee := .builtin .copy, args := #[d, s], argTypes := #[T, T] })
    (g off dLen dCap : Nat) (cur : List UInt8) (hd : a.eval d = .slice (some ⟨g, off, none⟩) dLen dCap) (hg : RowAt w e g cur)
    (B : Nat) (A' : Option Addr) (m c' : Nat) (ys : List UInt8) (hs : a.eval s = .slice A' m c') (hy : ys.length = m) (hr : Rd w B A' ys) (hle : m ≤ dLen) (hfit : off + dLen ≤ cur.length)
    (h : ∀ w', RowAt w' e g (cur.take off ++ ys ++ cur.drop (off + m)) → w.grownBy w' (some g) → wpList P ops Q rest (a.put o.dst (goInt m)) w') :
    wpList P ops Q (o :: rest) a w := by
  have hsz : (P.info? e).map (·.size) = some 1 := by rw [h8.info]; simp [h8.size]
  by_cases h0 : m = 0
  · subst h0
    obtain rfl := List.eq_nil_of_length_eq_zero hy
    refine wpList_copy_nothing hgd d s T T ho e h8.slice hsz _ _ _ _ _ _ hd hs (by simp) ?_
    exact h w (by simpa using hg) (World.grownBy.refl _ _)
  · rcases A' with _ | ad
    · rcases hr with rfl | ⟨_, _, h, _⟩
      · simp at hy; omega
      · cases h
    · have hl : (ys.map fun x => Value.int .u8 (x.toNat : Int)).length = m := by rw [List.length_map, hy]
      refine wpList_copy_own hgd d s T T ho e h8.slice hsz g off dLen dCap ad m c' hd hs (row8 cur) e hg (ys.map fun x => Value.int .u8 (x.toNat : Int)) (by rw [hl]; exact (Nat.min_eq_left hle).symm) hr.cells (by rw [hl, size_row8]; omega) (one_row8 ys) ?_
      rw [hl]
      refine h _ ?_ ⟨rfl, rfl, rfl, by simp [World.setRow], fun k hk hne => setRow_other w g k _ (fun e => hne (by rw [e]))⟩
      have := setRow_heap w g _ ((row8 cur).toList.take off ++ (ys.map (fun x => Value.int .u8 (x.toNat : Int)) ++ (row8 cur).toList.drop (off + m))).toArray e _ hg
      unfold RowAt
      rw [this]
      congr 2
      simp [row8]
end
end Go.Proofs.YtnnkgdkjmmljiaaDoor

namespace Go.Proofs.YtnnkgdkjmmljiaaDoor
open Go.RowKit
set_option linter.unusedVariables false

/-- The number that k bytes tell from place a on, the highest one first. -/
def num (xs : List UInt8) (a : Nat) : Nat → Nat
  | 0 => 0
  | k + 1 => 256 * num xs a k + (xs[a + k]?.getD 0).toNat
theorem num_lt (xs : List UInt8) (a k : Nat) : num xs a k < 256 ^ k := by
  induction k with
  | zero => simp [num]
  | succ k ih =>
    rw [num, Nat.pow_succ]
    have := (xs[a + k]?.getD 0).toNat_lt
    omega
theorem num_small (xs : List UInt8) (a k : Nat) (h : k ≤ 7) : num xs a k < 72057594037927936 :=
  Nat.lt_of_lt_of_le (num_lt xs a k) (Nat.le_trans (Nat.pow_le_pow_right (by decide) h) (by decide))

theorem shl_or (m b : Nat) (hm : m < 72057594037927936) (hb : b < 256) : bits .or .u64 ((m : Int) * 256) (b : Int) = ((256 * m + b : Nat) : Int) := by
  have h : ((m : Int) * 256) = ((m * 256 : Nat) : Int) := by omega
  rw [h, u64_or_nat _ _ (by omega) (by omega), nat_join 8 _ _ (by omega) hb]
  omega

set_option maxHeartbeats 400000 in
theorem get_no (A : Option Addr) (n c : Nat) (at_ s : Int) (w : World) (hn : n ≤ maxLen) (h : ¬ (IsSize s ∧ Within n at_ s)) :
    Calls Tryd.prog 39 #[.slice A n c, .int .i64 at_, .int .i64 s] w fun e w' => e = .returned (.tuple #[.int .u64 0, .int .i64 1]) ∧ w = w' := by
  by_cases h1 : IsSize s
  · have h2 : ¬ Within n at_ s := fun h2 => h ⟨h1, h2⟩
    have H1 := Lib.hid h1
    have H2 := Lib.hid h2
    clear h h1 h2
    go_enter Tryd.func39, Tryd.ntmps39
    go_wp2_with (first | (go_at_call 31; refine (isSize_yes _ H1.out _).mono ?_; rintro e w' ⟨rfl, rfl⟩) | (go_at_call 52; refine (inside_no _ _ _ _ _ _ hn H2.out).mono ?_; rintro e w' ⟨rfl, rfl⟩))
    go_ret2
    exact ⟨rfl, rfl⟩
  · have H1 := Lib.hid h1
    clear h h1
    go_enter Tryd.func39, Tryd.ntmps39
    go_wp2_with (first | (go_at_call 31; refine (isSize_no _ H1.out _).mono ?_; rintro e w' ⟨rfl, rfl⟩))
    go_ret2
    exact ⟨rfl, rfl⟩

set_option maxHeartbeats 400000 in
theorem get_yes (B : Nat) (A : Option Addr) (n c a s : Nat) (xs : List UInt8) (w : World) (hn : n ≤ maxLen) (hx : xs.length = n) (hr : Rd w B A xs) (hs : IsSize s) (hi : a + s ≤ n) :
    Calls Tryd.prog 39 #[.slice A n c, .int .i64 a, .int .i64 s] w fun e w' => e = .returned (.tuple #[.int .u64 (num xs a s), .int .i64 0]) ∧ w = w' := by
  have hs8 : 1 ≤ s ∧ s ≤ 8 := by unfold IsSize at hs; omega
  obtain ⟨b, o, rfl, hbl, hcx⟩ := hr.at_ (by rintro rfl; simp at hx; omega)
  have H1 := Lib.hid hs
  have H2 : Hid (Within n a s) := ⟨by omega, by omega, by omega, by omega⟩
  have HX := Lib.hid hx
  have HN := Lib.hid hn
  unfold maxLen at hn
  clear hs hr hx
  go_enter Tryd.func39, Tryd.ntmps39
  go_wp2_with (first | (go_at_call 31; refine (isSize_yes _ H1.out _).mono ?_; rintro e w' ⟨rfl, rfl⟩) | (go_at_call 52; refine (inside_yes _ _ _ _ _ _ HN.out H2.out).mono ?_; rintro e w' ⟨rfl, rfl⟩))
  go_loop [8, 21] (fun x i => ∃ k : Nat, k ≤ s ∧ i = .int .i64 k ∧ x = .int .u64 (num xs a k)) (fun _ i => s - (intOf i).toNat)
  case atStart => exact ⟨0, Nat.zero_le _, rfl, rfl⟩
  case round =>
    obtain ⟨k, hk, rfl, rfl⟩ := hrel
    by_cases hlt : k < s
    · have hkx : a + k < xs.length := by have := HX.out; omega
      have hc := hcx (a + k) hkx
      have hm := num_small xs a k (by omega)
      have hb := (xs[a + k]).toNat_lt
      clear hcx
      go_wp2
      go_round
      case rel =>
        refine ⟨k + 1, by omega, by go_num, ?_⟩
        rw [shl_or _ _ hm hb, num, List.getElem?_eq_getElem hkx]
        rfl
      case measure => simp [intOf]; omega
    · obtain rfl : k = s := by omega
      go_wp2
      go_ret2
      exact ⟨rfl, rfl⟩

/-! ### Cut -/
theorem drop_take_get (xs : List UInt8) (a k j : Nat) (hj : j < ((xs.drop a).take k).length) : ((xs.drop a).take k)[j]? = xs[a + j]? := by
  rw [List.getElem?_take, List.getElem?_drop]
  split
  · rfl
  · simp at hj; omega
theorem Rd.cut {w : World} {B : Nat} {A : Option Addr} {xs : List UInt8} (h : Rd w B A xs) (a k : Nat) : Rd w B (A.map (·.add a)) ((xs.drop a).take k) := by
  rcases h with rfl | ⟨b, o, rfl, hb, hc⟩
  · exact .inl (by simp)
  · refine .inr ⟨b, o + a, by simp [Addr.add_lit], hb, fun j x hx => ?_⟩
    have hj : j < ((xs.drop a).take k).length := by
      rcases Nat.lt_or_ge j ((xs.drop a).take k).length with h | h
      · exact h
      · rw [List.getElem?_eq_none h] at hx; cases hx
    rw [drop_take_get _ _ _ _ hj] at hx
    rw [Nat.add_assoc]
    exact hc _ x hx

theorem refCutNo (A : Option Addr) (n c : Nat) (at_ k : Int) (w : World) (hn : n ≤ maxLen) (h : ¬ Within n at_ k) :
    Calls Tryd.prog 53 #[.slice A n c, .int .i64 at_, .int .i64 k] w fun e w' => e = .returned (.tuple #[.slice none 0 0, .bool false]) ∧ w = w' := by
  unfold maxLen at hn
  unfold Within at h
  by_cases h1 : 0 ≤ at_
  · by_cases h2 : 0 ≤ k
    · by_cases h3 : at_ ≤ n
      · have h4 : (n : Int) - at_ < k := by omega
        clear h
        go_enter Tryd.func53, Tryd.ntmps53
        go_wp2
        go_ret2
        exact ⟨rfl, rfl⟩
      · have h4 : (n : Int) < at_ := by omega
        clear h h3
        go_enter Tryd.func53, Tryd.ntmps53
        go_wp2
        go_ret2
        exact ⟨rfl, rfl⟩
    · have h4 : k < 0 := by omega
      clear h h2
      go_enter Tryd.func53, Tryd.ntmps53
      go_wp2
      go_ret2
      exact ⟨rfl, rfl⟩
  · have h4 : at_ < 0 := by omega
    clear h h1
    go_enter Tryd.func53, Tryd.ntmps53
    go_wp2
    go_ret2
    exact ⟨rfl, rfl⟩
end Go.Proofs.YtnnkgdkjmmljiaaDoor

namespace Go.Proofs.YtnnkgdkjmmljiaaDoor
open Go.RowKit
set_option linter.unusedVariables false

theorem Tryd.ty8 : ∃ i, Ty8 Tryd.prog 22 5 i := by
  obtain ⟨i0, hi, hz0, hz1, hz2⟩ := info_parts Tryd.info8
  exact ⟨i0, ⟨Tryd.underlying22, hi, hz0, hz1, hz2⟩⟩
end Go.Proofs.YtnnkgdkjmmljiaaDoor

namespace Go.Proofs.YtnnkgdkjmmljiaaDoor
open Go.RowKit
set_option linter.unusedVariables false

set_option maxHeartbeats 400000 in
theorem clone_none (n c : Nat) (w : World) :
    Calls Tryd.prog 32 #[.slice none n c] w fun e w' => e = .returned (.slice none 0 0) ∧ w = w' := by
  have he := Lib.run_eql_slice_nil (P := Tryd.prog) w 22 5 none n c 0 0 Tryd.underlying22
  go_enter Tryd.func32, Tryd.ntmps32
  go_wp2
  go_ret
  exact ⟨rfl, rfl⟩

set_option maxHeartbeats 400000 in
theorem clone_some (ad : Addr) (n c : Nat) (xs : List UInt8) (w : World) (hn : n ≤ 140737488355328) (hx : xs.length = n) (hr : Rd w w.heap.size (some ad) xs) :
    Calls Tryd.prog 32 #[.slice (some ad) n c] w fun e w' => ∃ A2 c2, e = .returned (.slice A2 n c2) ∧ Own8 w' 5 w.heap.size A2 n c2 xs ∧ Below w.heap.size w w' := by
  obtain ⟨i, h8⟩ := Tryd.ty8
  have HX := Lib.hid hx
  clear hx
  have he := Lib.run_eql_slice_nil (P := Tryd.prog) w 22 5 (some ad) n c 0 0 Tryd.underlying22
  have hown : Own8 (w.alloc (.cells #[] 5)) 5 w.heap.size (some ⟨w.heap.size, 0, none⟩) 0 0 [] := Own8.of_row (RowAt.new w 5 []) (Nat.le_refl _) rfl (Nat.zero_le _)
  have hr1 := hr.alloc (Nat.le_refl _) (.cells #[] 5)
  have hb : 0 + n ≤ 140737488355328 := by omega
  go_enter Tryd.func32, Tryd.ntmps32
  go_wp2_with (at_builtin; refine wpList_append8 h8 _ rfl _ _ rfl w.heap.size _ _ _ _ rfl hown _ _ _ _ _ rfl HX.out hr1 hb (by simp) ?_; intro A2 c2 w2 h2 hg2 ho2; simp only [Nat.zero_add, List.nil_append] at h2)
  go_ret
  exact ⟨_, _, rfl, h2, ((Below.refl _ _).alloc (Nat.le_refl _) _).grown hg2 (by simp) (by simp)⟩

/-- bytes.Clone. -/
theorem clone_any (A : Option Addr) (n c : Nat) (xs : List UInt8) (w : World) (hn : n ≤ 140737488355328) (hx : xs.length = n) (hr : Rd w w.heap.size A xs) :
    Calls Tryd.prog 32 #[.slice A n c] w fun e w' => ∃ A2 c2, e = .returned (.slice A2 n c2) ∧ Own8 w' 5 w.heap.size A2 n c2 xs ∧ Below w.heap.size w w' := by
  rcases A with _ | ad
  · rcases hr with rfl | ⟨_, _, h, _⟩
    · simp at hx
      subst hx
      exact (clone_none 0 c w).mono fun e w' ⟨he, hw⟩ => ⟨none, 0, he, Own8.nil _ _ _, hw ▸ Below.refl _ _⟩
    · cases h
  · exact clone_some ad n c xs w hn hx hr
end Go.Proofs.YtnnkgdkjmmljiaaDoor

namespace Go.Proofs.YtnnkgdkjmmljiaaDoor
open Go.RowKit
set_option linter.unusedVariables false

/-- CopyBytes over any row. -/
theorem copyBytes_any (A : Option Addr) (n c : Nat) (xs : List UInt8) (w : World) (hn : n ≤ 140737488355328) (hx : xs.length = n) (hr : Rd w w.heap.size A xs) :
    Calls Tryd.prog 46 #[.slice A n c] w fun e w' => ∃ A2 c2, e = .returned (.slice A2 n c2) ∧ Own8 w' 5 w.heap.size A2 n c2 xs ∧ Below w.heap.size w w' := by
  by_cases h0 : n = 0
  · subst h0
    obtain rfl := List.eq_nil_of_length_eq_zero hx
    exact (copyBytes_none A c w).mono fun e w' ⟨he, hw⟩ => ⟨none, 0, he, Own8.nil _ _ _, hw ▸ Below.refl _ _⟩
  · exact (copyBytes_some A n c xs w h0 (by omega) hx hr).mono fun e w' ⟨he, hrow, hb⟩ => ⟨_, n, he, Own8.of_row hrow (Nat.le_refl _) hx (by unfold maxLen; omega), hb⟩
end Go.Proofs.YtnnkgdkjmmljiaaDoor

namespace Go.Proofs.YtnnkgdkjmmljiaaDoor
open Go.RowKit
set_option linter.unusedVariables false

set_option maxHeartbeats 400000 in
theorem refCut_yes (A : Option Addr) (n c a k : Nat) (xs : List UInt8) (w : World) (hn : n ≤ 140737488355328) (hc : n ≤ c) (hcm : c ≤ maxLen) (hx : xs.length = n) (hr : Rd w w.heap.size A xs) (hak : a + k ≤ n) :
    Calls Tryd.prog 53 #[.slice A n c, .int .i64 a, .int .i64 k] w fun e w' =>
      ∃ A2 c2, e = .returned (.tuple #[.slice A2 k c2, .bool true]) ∧ Own8 w' 5 w.heap.size A2 k c2 ((xs.drop a).take k) ∧ Below w.heap.size w w' := by
  have H2 : Hid (Rd w w.heap.size (A.map (·.add a)) ((xs.drop a).take k)) := hr.cut a k
  have H2b : Hid (c = a → Rd w w.heap.size A ((xs.drop a).take k)) := (fun h => .inl (by rw [show k = 0 by omega]; rfl) : _ → _)
  have H3 : Hid (((xs.drop a).take k).length = k) := (by simp; omega : _ = _)
  unfold maxLen at hcm
  clear hx hr
  go_enter Tryd.func53, Tryd.ntmps53
  go_wp2_with (go_at_call 46; refine (copyBytes_any _ _ _ _ _ (by omega) H3.out (by first | exact H2.out | exact H2b.out ‹c = a›)).mono ?_; rintro e w' ⟨A2, c2, rfl, ho, hb⟩)
  all_goals
    go_ret2
    exact ⟨_, _, rfl, ho, hb⟩
end Go.Proofs.YtnnkgdkjmmljiaaDoor
