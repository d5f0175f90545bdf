/-
  Package window, plain: a window's state, what is done with it, and what is always so.
-/
import Derived.Test.YtlkppgdeaphoeaaSpM
namespace Go.Proofs.Ytlkppgdeaphoeaa
open Go.RowKit
set_option linter.unusedVariables false

/-- A window: the mtu, the most, the size, the threshold, the part. -/
structure Wn where
  mtu : Int
  most : Int
  size : Int
  thr : Int
  part : Int
/-- So many bytes were acknowledged (at least one): ahead of the last word, that the size is the most at most. -/
def Wn.grow (s : Wn) (n : Int) (full : Bool) : Wn :=
  if s.size ≤ s.thr then (if full then { s with size := s.size + min n s.mtu } else s)
  else if full = true ∧ s.size ≤ s.part + min n s.most then { s with size := s.size + s.mtu, part := s.part + min n s.most - s.size }
  else { s with part := s.part + min n s.most }
def Wn.clip (s : Wn) : Wn := { s with size := min s.size s.most }
def Wn.ack (s : Wn) (n : Int) (full : Bool) : Wn := if n < 1 then s else (s.grow n full).clip
def Wn.half (s : Wn) : Int := max (s.size / 2) (4 * s.mtu)
def Wn.fast (s : Wn) : Wn := { s with thr := s.half, size := min s.size s.half, part := 0 }
def Wn.out (s : Wn) : Wn := { s with thr := s.half, size := s.mtu, part := 0 }
/-- What is done: kinds 0, 1, 2; another does nothing. -/
def Wn.act (s : Wn) (k n : Int) (full : Bool) : Wn := if k = 0 then s.ack n full else if k = 1 then s.fast else if k = 2 then s.out else s
/-- The numbers that a window may be made of. -/
def winOk (mtu most : Int) : Prop := 128 ≤ mtu ∧ mtu ≤ 1500 ∧ 4 * mtu ≤ most ∧ most ≤ 16777216
def newW (mtu most : Int) : Wn := ⟨mtu, most, 2 * mtu, most, 0⟩

/-- What is always so; the part is P at most. -/
structure Wn.Ok (s : Wn) (P : Int) : Prop where
  m0 : 128 ≤ s.mtu
  m1 : s.mtu ≤ 1500
  f1 : 4 * s.mtu ≤ s.most
  x1 : s.most ≤ 16777216
  z0 : s.mtu ≤ s.size
  z1 : s.size ≤ s.most
  t0 : 4 * s.mtu ≤ s.thr
  t1 : s.thr ≤ s.most
  p0 : 0 ≤ s.part
  p1 : s.part ≤ P
theorem newW_ok {mtu most : Int} (h : winOk mtu most) : (newW mtu most).Ok 0 := by
  obtain ⟨h1, h2, h3, h4⟩ := h
  exact ⟨h1, h2, h3, h4, by show mtu ≤ 2 * mtu; omega, by show 2 * mtu ≤ most; omega, h3, Int.le_refl _, Int.le_refl _, Int.le_refl _⟩
section
variable {s : Wn} {P Q n : Int} {full : Bool}
theorem Wn.Ok.more (h : s.Ok P) (hq : P ≤ Q) : s.Ok Q := { h with p1 := Int.le_trans h.p1 hq }
theorem grow_mtu : (s.grow n full).mtu = s.mtu := by unfold Wn.grow; split <;> split <;> rfl
theorem grow_most : (s.grow n full).most = s.most := by unfold Wn.grow; split <;> split <;> rfl
theorem grow_thr : (s.grow n full).thr = s.thr := by unfold Wn.grow; split <;> split <;> rfl
theorem grow_size (h : s.Ok P) (h1 : 1 ≤ n) : s.size ≤ (s.grow n full).size ∧ (s.grow n full).size ≤ s.size + s.mtu ∧ (full = false → (s.grow n full).size = s.size) := by
  obtain ⟨a1, a2, a3, a4, a5, a6, a7, a8, a9, a10⟩ := h
  unfold Wn.grow
  cases full <;> simp <;> split <;> (try split) <;> simp <;> omega
theorem grow_part (h : s.Ok P) (h1 : 1 ≤ n) : 0 ≤ (s.grow n full).part ∧ (s.grow n full).part ≤ P + 16777216 := by
  obtain ⟨a1, a2, a3, a4, a5, a6, a7, a8, a9, a10⟩ := h
  unfold Wn.grow
  cases full <;> simp <;> split <;> (try split) <;> (try simp) <;> omega
theorem ack_mtu : (s.ack n full).mtu = s.mtu := by
  unfold Wn.ack
  split
  · rfl
  · exact grow_mtu
theorem ack_most : (s.ack n full).most = s.most := by
  unfold Wn.ack
  split
  · rfl
  · exact grow_most
theorem ack_thr : (s.ack n full).thr = s.thr := by
  unfold Wn.ack
  split
  · rfl
  · exact grow_thr
theorem Wn.Ok.ack (h : s.Ok P) : (s.ack n full).Ok (P + 16777216) := by
  unfold Wn.ack
  split
  · exact h.more (by omega)
  · have h1 := grow_size (full := full) h (n := n) (by omega)
    have h2 := grow_part (full := full) h (n := n) (by omega)
    have h3 := grow_mtu (s := s) (n := n) (full := full)
    have h4 := grow_most (s := s) (n := n) (full := full)
    have h5 := grow_thr (s := s) (n := n) (full := full)
    obtain ⟨a1, a2, a3, a4, a5, a6, a7, a8, a9, a10⟩ := h
    obtain ⟨r, hr⟩ : ∃ r, r = s.grow n full := ⟨_, rfl⟩
    rw [← hr] at h1 h2 h3 h4 h5 ⊢
    exact ⟨by show 128 ≤ r.mtu; omega, by show r.mtu ≤ 1500; omega, by show 4 * r.mtu ≤ r.most; omega, by show r.most ≤ _; omega, by show r.mtu ≤ min r.size r.most; omega, by show min r.size r.most ≤ r.most; omega,
      by show 4 * r.mtu ≤ r.thr; omega, by show r.thr ≤ r.most; omega, h2.1, h2.2⟩
/-- What is acknowledged makes the size not less, an mtu greater at most; if the window was not full, neither. -/
theorem ack_size (h : s.Ok P) : s.size ≤ (s.ack n full).size ∧ (s.ack n full).size ≤ s.size + s.mtu ∧ (full = false → (s.ack n full).size = s.size) := by
  unfold Wn.ack
  split
  · have := h.m0
    exact ⟨Int.le_refl _, by omega, fun _ => rfl⟩
  · have h1 := grow_size (full := full) h (n := n) (by omega)
    have h4 := grow_most (s := s) (n := n) (full := full)
    have := h.z1
    show s.size ≤ min (s.grow n full).size (s.grow n full).most ∧ min (s.grow n full).size (s.grow n full).most ≤ s.size + s.mtu ∧ (full = false → min (s.grow n full).size (s.grow n full).most = s.size)
    refine ⟨by omega, by omega, fun hf => ?_⟩
    have := h1.2.2 hf
    omega
theorem half_of (h : s.Ok P) : 4 * s.mtu ≤ s.half ∧ s.half ≤ s.most := by
  obtain ⟨a1, a2, a3, a4, a5, a6, a7, a8, a9, a10⟩ := h
  unfold Wn.half
  omega
theorem Wn.Ok.fast (h : s.Ok P) : s.fast.Ok 0 := by
  have h2 := half_of h
  obtain ⟨a1, a2, a3, a4, a5, a6, a7, a8, a9, a10⟩ := h
  exact ⟨a1, a2, a3, a4, by show s.mtu ≤ min s.size s.half; omega, by show min s.size s.half ≤ s.most; omega, h2.1, h2.2, Int.le_refl _, Int.le_refl _⟩
theorem Wn.Ok.out (h : s.Ok P) : s.out.Ok 0 := by
  have h2 := half_of h
  obtain ⟨a1, a2, a3, a4, a5, a6, a7, a8, a9, a10⟩ := h
  exact ⟨a1, a2, a3, a4, Int.le_refl _, by show s.mtu ≤ s.most; omega, h2.1, h2.2, Int.le_refl _, Int.le_refl _⟩
theorem fast_size : s.fast.size ≤ s.size ∧ s.fast.size ≤ s.fast.thr := by
  show min s.size s.half ≤ s.size ∧ min s.size s.half ≤ s.half
  omega
theorem out_size : s.out.size = s.mtu := rfl
theorem act_mtu {k : Int} : (s.act k n full).mtu = s.mtu := by
  unfold Wn.act
  split
  · exact ack_mtu
  · split
    · rfl
    · split <;> rfl
theorem act_most {k : Int} : (s.act k n full).most = s.most := by
  unfold Wn.act
  split
  · exact ack_most
  · split
    · rfl
    · split <;> rfl
theorem Wn.Ok.act {k : Int} (h : s.Ok P) : (s.act k n full).Ok (P + 16777216) := by
  have := Int.le_trans h.p0 h.p1
  unfold Wn.act
  split
  · exact h.ack
  · split
    · exact h.fast.more (by omega)
    · split
      · exact h.out.more (by omega)
      · exact h.more (by omega)
end

/-! ### WindowSlow -/
/-- Behind two timeouts and i full acknowledgements of an mtu, if the size grew by an mtu each time, or is the most. -/
structure Slow (s : Wn) (mtu most : Int) (i : Int) : Prop where
  ok : s.Ok (i * 16777216)
  mt : s.mtu = mtu
  ms : s.most = most
  th : s.thr = 4 * mtu
  i0 : 0 ≤ i
  sz : s.size = min (mtu + i * mtu) most
  or_ : (i ≤ 4 ∧ s.part = 0) ∨ most ≤ mtu + i * mtu
theorem Slow.start {mtu most : Int} (h : winOk mtu most) : Slow (newW mtu most).out.out mtu most 0 := by
  have h1 := (newW_ok h).out.out
  obtain ⟨a1, a2, a3, a4⟩ := h
  refine ⟨h1, rfl, rfl, ?_, Int.le_refl _, ?_, .inl ⟨by omega, rfl⟩⟩
  · show max (mtu / 2) (4 * mtu) = 4 * mtu
    omega
  · show mtu = min (mtu + 0 * mtu) most
    omega
theorem Slow.next {s : Wn} {mtu most i : Int} (h : Slow s mtu most i) :
    ((s.ack mtu true).size = min (mtu + (i + 1) * mtu) most → Slow (s.ack mtu true) mtu most (i + 1)) ∧
    ((s.ack mtu true).size ≠ min (mtu + (i + 1) * mtu) most → 4 * mtu < (s.ack mtu true).size ∧ (s.ack mtu true).size ≤ min (mtu + (i + 1) * mtu) most) := by
  have h0 := h.ok.ack (n := mtu) (full := true)
  have e1 := ack_mtu (s := s) (n := mtu) (full := true)
  have e2 := ack_most (s := s) (n := mtu) (full := true)
  have e3 := ack_thr (s := s) (n := mtu) (full := true)
  have e4 := ack_size (n := mtu) (full := true) h.ok
  have hm : (i + 1) * mtu = i * mtu + mtu := by rw [Int.add_mul, Int.one_mul]
  have hp : (i + 1) * 16777216 = i * 16777216 + 16777216 := by rw [Int.add_mul, Int.one_mul]
  obtain ⟨x, hx⟩ : ∃ x, x = i * mtu := ⟨_, rfl⟩
  have k4 : i ≤ 3 → x ≤ 3 * mtu := by
    intro hi
    rw [hx]
    exact Int.mul_le_mul_of_nonneg_right hi (by have := h.ok.m0; have := h.mt; omega)
  have k5 : i = 4 → x = 4 * mtu := by intro hi; rw [hx, hi]
  have hsz := h.sz
  have hor := h.or_
  have hmt := h.mt
  have hms := h.ms
  have hth := h.th
  have hi0 := h.i0
  obtain ⟨a1, a2, a3, a4, a5, a6, a7, a8, a9, a10⟩ := h.ok
  rw [hm, ← hx]
  rw [← hx] at hsz hor
  have core : ((s.ack mtu true).size = min (mtu + (x + mtu)) most ∧ ((i + 1 ≤ 4 ∧ (s.ack mtu true).part = 0) ∨ most ≤ mtu + (x + mtu))) ∨ (4 * mtu < (s.ack mtu true).size ∧ (s.ack mtu true).size ≤ min (mtu + (x + mtu)) most ∧ (s.ack mtu true).size ≠ min (mtu + (x + mtu)) most) := by
    unfold Wn.ack
    rw [if_neg (by omega)]
    show ((min (s.grow mtu true).size (s.grow mtu true).most) = _ ∧ ((i + 1 ≤ 4 ∧ (s.grow mtu true).part = 0) ∨ _)) ∨ (4 * mtu < min (s.grow mtu true).size (s.grow mtu true).most ∧ min (s.grow mtu true).size (s.grow mtu true).most ≤ _ ∧ min (s.grow mtu true).size (s.grow mtu true).most ≠ _)
    rw [grow_most, hms]
    unfold Wn.grow
    split
    · rw [if_pos rfl]
      simp only
      omega
    · split
      · simp only
        omega
      · simp only
        omega
  rcases core with ⟨c1, c2⟩ | ⟨c1, c2, c3⟩
  · refine ⟨fun _ => ⟨by rw [hp]; exact h0, by rw [e1, hmt], by rw [e2, hms], by rw [e3, hth], by omega, by rw [hm, ← hx]; exact c1, by rw [hm, ← hx]; exact c2⟩, fun hne => absurd c1 hne⟩
  · exact ⟨fun he => absurd he c3, fun _ => ⟨c1, c2⟩⟩

/-! ### WindowAvoids -/
/-- Beyond the threshold: so many bytes are told, the size is 'size'. -/
structure Avoid (s : Wn) (mtu told size P : Int) : Prop where
  ok : s.Ok P
  mt : s.mtu = mtu
  ms : s.most = 40 * mtu
  th : s.thr = 4 * mtu
  sz : s.size = size
  t0 : 0 ≤ told
  tp : told ≤ P
  j : ∃ j : Int, 5 ≤ j ∧ j ≤ 40 ∧ size = j * mtu
  pt : size < 40 * mtu → told = s.part ∧ told < size
/-- What n bytes do (n less than an mtu): told ahead of the law's own loop is told + n; behind it, and with the size grown or not, the same is so. -/
theorem Avoid.next {s : Wn} {mtu told size P n : Int} (h : Avoid s mtu told size P) (n0 : 0 ≤ n) (nm : n < mtu) :
    (size ≤ told + n ∧ size < 40 * mtu → told + n - size < size + mtu ∧ Avoid (s.ack n true) mtu (told + n - size) (size + mtu) (P + 16777216)) ∧
    (¬ (size ≤ told + n ∧ size < 40 * mtu) → Avoid (s.ack n true) mtu (told + n) size (P + 16777216)) := by
  have h0 := h.ok.ack (n := n) (full := true)
  have e1 := ack_mtu (s := s) (n := n) (full := true)
  have e2 := ack_most (s := s) (n := n) (full := true)
  have e3 := ack_thr (s := s) (n := n) (full := true)
  obtain ⟨j, j5, j40, hj⟩ := h.j
  have hmt := h.mt
  have hms := h.ms
  have hth := h.th
  have hsz := h.sz
  have ht0 := h.t0
  have htp := h.tp
  have hpt := h.pt
  obtain ⟨a1, a2, a3, a4, a5, a6, a7, a8, a9, a10⟩ := h.ok
  have s5 : 5 * mtu ≤ size := by rw [hj]; exact Int.mul_le_mul_of_nonneg_right j5 (by omega)
  have hjj : (j + 1) * mtu = size + mtu := by rw [Int.add_mul, Int.one_mul, ← hj]
  have hn : size < 40 * mtu → j + 1 ≤ 40 := by
    intro hlt
    rcases Int.lt_or_le j 40 with h1 | h1
    · omega
    · have := Int.mul_le_mul_of_nonneg_right h1 (show 0 ≤ mtu by omega)
      omega
  have s40 : size < 40 * mtu → size + mtu ≤ 40 * mtu := by
    intro hlt
    rw [← hjj]
    exact Int.mul_le_mul_of_nonneg_right (hn hlt) (by omega)
  have core : (size ≤ told + n ∧ size < 40 * mtu → (s.ack n true).size = size + mtu ∧ (s.ack n true).part = told + n - size) ∧ (¬ (size ≤ told + n ∧ size < 40 * mtu) → (s.ack n true).size = size ∧ (size < 40 * mtu → (s.ack n true).part = told + n)) := by
    unfold Wn.ack
    split
    · have n00 : n = 0 := by omega
      refine ⟨fun ⟨c1, c2⟩ => ?_, fun _ => ⟨hsz, fun c => ?_⟩⟩
      · have := hpt c2
        omega
      · have := hpt c
        omega
    · show (_ → min (s.grow n true).size (s.grow n true).most = _ ∧ (s.grow n true).part = _) ∧ (_ → min (s.grow n true).size (s.grow n true).most = _ ∧ (_ → (s.grow n true).part = _))
      rw [grow_most, hms]
      unfold Wn.grow
      rw [if_neg (by omega)]
      split
      · rename_i hh
        obtain ⟨-, hh⟩ := hh
        simp only
        refine ⟨fun ⟨c1, c2⟩ => ?_, fun c => ⟨?_, fun c2 => ?_⟩⟩
        · have := hpt c2
          have := s40 c2
          omega
        · rcases Int.lt_or_le size (40 * mtu) with c2 | c2
          · have := hpt c2
            omega
          · omega
        · have := hpt c2
          omega
      · rename_i hh
        have hh : ¬ s.size ≤ s.part + min n s.most := fun c => hh ⟨rfl, c⟩
        simp only
        refine ⟨fun ⟨c1, c2⟩ => ?_, fun c => ⟨?_, fun c2 => ?_⟩⟩
        · have := hpt c2
          omega
        · omega
        · have := hpt c2
          omega
  constructor
  · intro c
    have d := core.1 c
    have p := hpt c.2
    exact ⟨by omega, h0, by rw [e1, hmt], by rw [e2, hms], by rw [e3, hth], d.1, by omega, by omega, ⟨j + 1, by omega, hn c.2, hjj.symm⟩, fun _ => ⟨d.2.symm, by omega⟩⟩
  · intro c
    have d := core.2 c
    exact ⟨h0, by rw [e1, hmt], by rw [e2, hms], by rw [e3, hth], d.1, by omega, by omega, ⟨j, j5, j40, hj⟩, fun c2 => ⟨(d.2 c2).symm, by omega⟩⟩
/-- The way up to the threshold: the size is j mtu, the part nothing. -/
structure Up (s : Wn) (mtu j : Int) : Prop where
  ok : s.Ok 0
  mt : s.mtu = mtu
  ms : s.most = 40 * mtu
  th : s.thr = 4 * mtu
  sz : s.size = j * mtu
  j1 : 1 ≤ j
  j5 : j ≤ 5
theorem Up.start {mtu : Int} (h : winOk mtu (40 * mtu)) : Up (newW mtu (40 * mtu)).out.out mtu 1 := by
  have h1 := (newW_ok h).out.out
  obtain ⟨a1, a2, a3, a4⟩ := h
  refine ⟨h1, rfl, rfl, ?_, ?_, by decide, by decide⟩
  · show max (mtu / 2) (4 * mtu) = 4 * mtu
    omega
  · show mtu = 1 * mtu
    omega
theorem Up.le {s : Wn} {mtu j : Int} (h : Up s mtu j) : (s.size ≤ s.thr → j ≤ 4) ∧ (j ≤ 4 → s.size ≤ s.thr) := by
  have m0 := h.ok.m0
  have hmt := h.mt
  rw [h.sz, h.th]
  refine ⟨fun c => ?_, fun c => Int.mul_le_mul_of_nonneg_right c (by omega)⟩
  rcases Int.lt_or_le j 5 with h1 | h1
  · omega
  · have := Int.mul_le_mul_of_nonneg_right h1 (show 0 ≤ mtu by omega)
    omega
theorem Up.next {s : Wn} {mtu j : Int} (h : Up s mtu j) (c : s.size ≤ s.thr) : Up (s.ack mtu true) mtu (j + 1) ∧ s.size < (s.ack mtu true).size := by
  have hj := h.le.1 c
  have h0 := h.ok
  have hmt := h.mt
  have hms := h.ms
  have hth := h.th
  have hm : (j + 1) * mtu = s.size + mtu := by rw [Int.add_mul, Int.one_mul, h.sz]
  obtain ⟨a1, a2, a3, a4, a5, a6, a7, a8, a9, a10⟩ := h.ok
  have e1 := ack_mtu (s := s) (n := mtu) (full := true)
  have e2 := ack_most (s := s) (n := mtu) (full := true)
  have e3 := ack_thr (s := s) (n := mtu) (full := true)
  have hk := h.ok.ack (n := mtu) (full := true)
  have core : (s.ack mtu true).size = s.size + mtu ∧ (s.ack mtu true).part = s.part := by
    unfold Wn.ack
    rw [if_neg (by omega)]
    show min (s.grow mtu true).size (s.grow mtu true).most = _ ∧ (s.grow mtu true).part = _
    rw [grow_most]
    unfold Wn.grow
    rw [if_pos c, if_pos rfl]
    show min (s.size + min mtu s.mtu) s.most = s.size + mtu ∧ s.part = s.part
    exact ⟨by omega, rfl⟩
  refine ⟨⟨⟨hk.m0, hk.m1, hk.f1, hk.x1, hk.z0, hk.z1, hk.t0, hk.t1, hk.p0, by omega⟩, by rw [e1, hmt], by rw [e2, hms], by rw [e3, hth], by omega, by have := h.j1; omega, by omega⟩, by omega⟩
theorem Up.end_ {s : Wn} {mtu j : Int} (h : Up s mtu j) (c : ¬ s.size ≤ s.thr) : Avoid s mtu 0 s.size 0 := by
  have hj : j = 5 := by
    have h1 := h.le.2
    have := h.j5
    have : ¬ j ≤ 4 := fun x => c (h1 x)
    omega
  have hsz := h.sz
  have hok := h.ok
  have hmt := h.mt
  rw [hj] at hsz
  exact ⟨h.ok, h.mt, h.ms, h.th, rfl, Int.le_refl _, Int.le_refl _, ⟨5, by decide, by decide, hsz⟩, fun _ => ⟨by have := hok.p0; have := hok.p1; omega, by have := hok.m0; have := hok.z0; omega⟩⟩

/-! ### WindowHalves -/
theorem half_max {s : Wn} {P : Int} (h : s.Ok P) : s.half = max (s.size / 2) (4 * s.mtu) := rfl
/-- A timeout at once behind a loss: the threshold from four mtu to what it was. -/
theorem again_thr {s : Wn} {P : Int} (h : s.Ok P) (hs : s.size ≤ s.thr) : 4 * s.mtu ≤ s.out.thr ∧ s.out.thr ≤ s.thr := by
  obtain ⟨a1, a2, a3, a4, a5, a6, a7, a8, a9, a10⟩ := h
  show 4 * s.mtu ≤ max (s.size / 2) (4 * s.mtu) ∧ max (s.size / 2) (4 * s.mtu) ≤ s.thr
  omega
end Go.Proofs.Ytlkppgdeaphoeaa
