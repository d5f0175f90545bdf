/-
  Layer 4 (spans): plain mathematics. A set is which distances 1 to 4096 are in.
-/
import Derived.Test.YtlkppgdeaphoeaaMem
namespace Go.Proofs.Ytlkppgdeaphoeaa
set_option linter.unusedVariables false

/-- All that is in lies within the window. -/
def Win (f : Nat → Bool) : Prop := ∀ d, f d = true → 1 ≤ d ∧ d ≤ 4096
def noF : Nat → Bool := fun _ => false
def inW (d : Nat) : Bool := decide (1 ≤ d) && decide (d ≤ 4096)
def addF (f : Nat → Bool) (d : Nat) : Nat → Bool := fun i => f i || (i == d && inW d)
def shF (f : Nat → Bool) (n : Nat) : Nat → Bool := fun i => decide (1 ≤ i) && f (i + n)
def cnt (f : Nat → Bool) : Nat → Nat
  | 0 => 0
  | n + 1 => cnt f n + if f (n + 1) = true then 1 else 0
def lst (f : Nat → Bool) : Nat → Nat
  | 0 => 0
  | n + 1 => if f (n + 1) = true then n + 1 else lst f n
def rn (f : Nat → Bool) : Nat → Nat → Nat
  | k, 0 => k
  | k, u + 1 => if f (k + 1) = true then rn f (k + 1) u else k
/-- How many follow the base one behind the other. -/
def rnl (f : Nat → Bool) : Nat := rn f 0 4096
/-- The last run goes on to d. -/
def stretch (L : List (Nat × Nat)) (d : Nat) : List (Nat × Nat) := L.dropLast ++ [((L.getLast?.getD (0, 0)).1, d)]
def runsTo (f : Nat → Bool) : Nat → List (Nat × Nat)
  | 0 => []
  | n + 1 => if f (n + 1) = true then (if f n = true then stretch (runsTo f n) (n + 1) else runsTo f n ++ [(n + 1, n + 1)]) else runsTo f n
def gapsF (f : Nat → Bool) (most : Int) : List (Nat × Nat) := (runsTo f 4096).take most.toNat
/-- How far x is ahead of B. -/
def dst (B x : Int) : Nat := ((x - B) % 4294967296).toNat

section
variable {f : Nat → Bool}

theorem dst_lt (B x : Int) : dst B x < 4294967296 := by unfold dst; omega
theorem dst_add {B : Int} (hB : 0 ≤ B ∧ B < 4294967296) (d : Nat) (hd : d < 4294967296) : dst B ((B + d) % 4294967296) = d := by unfold dst; omega
theorem dst_inv {B x : Int} (hx : 0 ≤ x ∧ x < 4294967296) : (B + (dst B x : Nat)) % 4294967296 = x := by unfold dst; omega
theorem dst_eq {B x y : Int} (hx : 0 ≤ x ∧ x < 4294967296) (hy : 0 ≤ y ∧ y < 4294967296) : dst B x = dst B y ↔ x = y := by unfold dst; omega

theorem win_no : Win noF := fun d h => by cases h
theorem win_zero (h : Win f) : f 0 = false := by
  cases e : f 0
  · rfl
  · have := (h 0 e).1; omega
theorem win_far (h : Win f) {d : Nat} (hd : 4096 < d) : f d = false := by
  cases e : f d
  · rfl
  · have := (h d e).2; omega
theorem win_add (h : Win f) (d : Nat) : Win (addF f d) := by
  intro i hi
  unfold addF inW at hi
  simp only [Bool.or_eq_true, Bool.and_eq_true, beq_iff_eq, decide_eq_true_eq] at hi
  rcases hi with hi | ⟨rfl, hi⟩
  · exact h i hi
  · exact hi
theorem win_sh (h : Win f) (n : Nat) : Win (shF f n) := by
  intro i hi
  unfold shF at hi
  simp only [Bool.and_eq_true, decide_eq_true_eq] at hi
  have := h _ hi.2
  omega
theorem sh_zero (h : Win f) : shF f 0 = f := by
  funext i
  unfold shF
  by_cases hi : 1 ≤ i
  · simp [hi]
  · obtain rfl : i = 0 := by omega
    simp [win_zero h]
theorem sh_sh (a b : Nat) : shF (shF f a) b = shF f (b + a) := by
  funext i
  unfold shF
  by_cases hi : 1 ≤ i
  · have : 1 ≤ i + b := by omega
    simp [hi, this, Nat.add_assoc]
  · simp [hi]
theorem add_same {d : Nat} (hd : f d = true ∨ inW d = false) : addF f d = f := by
  funext i
  unfold addF
  rcases hd with hd | hd
  · by_cases e : i = d
    · subst e; simp [hd]
    · simp [e]
  · simp [hd]

/-! ### cnt -/
theorem cnt_le (n : Nat) : cnt f n ≤ n := by
  induction n with
  | zero => exact Nat.le_refl _
  | succ n ih => unfold cnt; split <;> omega
theorem cnt_mono {a b : Nat} (h : a ≤ b) : cnt f a ≤ cnt f b := by
  induction b with
  | zero => obtain rfl : a = 0 := by omega
            exact Nat.le_refl _
  | succ b ih =>
    by_cases e : a = b + 1
    · rw [e]; exact Nat.le_refl _
    · have := ih (by omega)
      simp only [cnt]; omega
theorem cnt_no (n : Nat) : cnt noF n = 0 := by
  induction n with
  | zero => rfl
  | succ n ih => simp only [cnt, ih, noF]; rfl
theorem cnt_add {d : Nat} (hf : f d = false) (hd : inW d = true) (n : Nat) : cnt (addF f d) n = cnt f n + if d ≤ n then 1 else 0 := by
  have h1 : 1 ≤ d := by unfold inW at hd; simp at hd; omega
  induction n with
  | zero => simp only [cnt]; rw [if_neg (by omega)]
  | succ n ih =>
    simp only [cnt, ih]
    by_cases e : d = n + 1
    · subst e
      have h2 : addF f (n + 1) (n + 1) = true := by unfold addF; simp [hd]
      rw [if_neg (show ¬ n + 1 ≤ n by omega), h2, hf]; simp
    · have h2 : addF f d (n + 1) = f (n + 1) := by unfold addF; simp [show (n + 1 == d) = false by simp; omega]
      rw [h2]
      by_cases hn : d ≤ n
      · rw [if_pos hn, if_pos (show d ≤ n + 1 by omega)]; omega
      · rw [if_neg hn, if_neg (show ¬ d ≤ n + 1 by omega)]; omega
theorem cnt_sh1 (n : Nat) : cnt (shF f 1) n + (if f 1 = true then 1 else 0) = cnt f (n + 1) := by
  induction n with
  | zero => simp [cnt]
  | succ n ih =>
    have h2 : shF f 1 (n + 1) = f (n + 1 + 1) := by unfold shF; simp
    simp only [cnt, h2] at ih ⊢
    omega
theorem cnt_succ (n : Nat) : cnt f (n + 1) = cnt f n + if f (n + 1) = true then 1 else 0 := rfl
theorem cnt_step (h : Win f) : cnt (shF f 1) 4096 + (if f 1 = true then 1 else 0) = cnt f 4096 := by
  rw [cnt_sh1, cnt_succ, win_far h (show 4096 < 4096 + 1 by omega)]
  simp

/-! ### lst -/
theorem lst_le (n : Nat) : lst f n ≤ n := by
  induction n with
  | zero => exact Nat.le_refl _
  | succ n ih => unfold lst; split <;> omega
/-- The greatest one. -/
theorem lst_spec (h0 : f 0 = false) (n : Nat) : (lst f n = 0 ∨ f (lst f n) = true) ∧ ∀ d, d ≤ n → f d = true → d ≤ lst f n := by
  induction n with
  | zero => exact ⟨.inl rfl, fun d hd hf => hd⟩
  | succ n ih =>
    unfold lst
    split
    · rename_i h; exact ⟨.inr h, fun d hd _ => hd⟩
    · rename_i h
      refine ⟨ih.1, fun d hd hf => ih.2 d ?_ hf⟩
      rcases Nat.lt_or_ge d (n + 1) with hl | hl
      · omega
      · obtain rfl : d = n + 1 := by omega
        exact absurd hf h
/-- What is in, and below which all that is in is, is the greatest one. -/
theorem lst_is (h : Win f) {d : Nat} (hd : d = 0 ∨ f d = true) (hm : ∀ i, f i = true → i ≤ d) : lst f 4096 = d := by
  have hs := lst_spec (win_zero h) 4096
  have h1 : lst f 4096 ≤ d := by
    rcases hs.1 with e | e
    · omega
    · exact hm _ e
  rcases hd with rfl | hd
  · omega
  · have := hs.2 d (h d hd).2 hd
    omega

/-! ### rnl -/
theorem rn_spec (u : Nat) : ∀ k, (∀ j, 1 ≤ j → j ≤ k → f j = true) → k ≤ rn f k u ∧ rn f k u ≤ k + u ∧ (∀ j, 1 ≤ j → j ≤ rn f k u → f j = true) ∧ (f (rn f k u + 1) = false ∨ rn f k u = k + u) := by
  induction u with
  | zero => intro k hk; exact ⟨Nat.le_refl _, Nat.le_refl _, hk, .inr rfl⟩
  | succ u ih =>
    intro k hk
    unfold rn
    split
    · rename_i h
      have := ih (k + 1) (fun j h1 h2 => by
        rcases Nat.lt_or_ge j (k + 1) with hl | hl
        · exact hk j h1 (by omega)
        · obtain rfl : j = k + 1 := by omega
          exact h)
      exact ⟨by omega, by omega, this.2.2.1, this.2.2.2.imp id (fun e => by omega)⟩
    · rename_i h
      exact ⟨Nat.le_refl _, by omega, hk, .inl (by simpa using h)⟩
theorem rnl_spec (h : Win f) : rnl f ≤ 4096 ∧ (∀ j, 1 ≤ j → j ≤ rnl f → f j = true) ∧ f (rnl f + 1) = false := by
  have := rn_spec (f := f) 4096 0 (fun j h1 h2 => by omega)
  refine ⟨by unfold rnl; omega, this.2.2.1, ?_⟩
  rcases this.2.2.2 with e | e
  · exact e
  · unfold rnl; rw [e]; exact win_far h (by omega)
theorem rnl_is (h : Win f) {n : Nat} (h1 : ∀ j, 1 ≤ j → j ≤ n → f j = true) (h2 : f (n + 1) = false) : n = rnl f := by
  have hs := rnl_spec h
  rcases Nat.lt_trichotomy n (rnl f) with hl | he | hg
  · have := hs.2.1 (n + 1) (by omega) (by omega); rw [h2] at this; cases this
  · exact he
  · have := h1 (rnl f + 1) (by omega) (by omega); rw [hs.2.2] at this; cases this

/-! ### runs -/
theorem length_stretch {L : List (Nat × Nat)} (h : L ≠ []) (d : Nat) : (stretch L d).length = L.length := by
  unfold stretch
  have := List.length_pos_iff.2 h
  simp; omega
theorem stretch_snoc (A : List (Nat × Nat)) (p : Nat × Nat) (d : Nat) : stretch (A ++ [p]) d = A ++ [(p.1, d)] := by simp [stretch]
theorem snoc_of {L : List (Nat × Nat)} (h : L ≠ []) : ∃ A p, L = A ++ [p] := ⟨L.dropLast, L.getLast h, (List.dropLast_concat_getLast h).symm⟩
theorem stretch_append {A M : List (Nat × Nat)} (h : M ≠ []) (d : Nat) : stretch (A ++ M) d = A ++ stretch M d := by
  obtain ⟨M', p, rfl⟩ := snoc_of h
  rw [← List.append_assoc, stretch_snoc, stretch_snoc, List.append_assoc]
theorem runs_succ (n : Nat) : runsTo f (n + 1) = if f (n + 1) = true then (if f n = true then stretch (runsTo f n) (n + 1) else runsTo f n ++ [(n + 1, n + 1)]) else runsTo f n := rfl
theorem runs_ne (h0 : f 0 = false) : ∀ n, f n = true → runsTo f n ≠ [] := by
  intro n hn
  cases n with
  | zero => rw [h0] at hn; cases hn
  | succ n =>
    rw [runs_succ, if_pos hn]
    split
    · simp [stretch]
    · simp
/-- Where nothing stands at a, what comes behind a goes behind its runs. -/
theorem runs_prefix (a : Nat) (ha : f a = false) : ∀ j, ∃ M, runsTo f (a + j) = runsTo f a ++ M ∧ (f (a + j) = true → M ≠ []) := by
  intro j
  induction j with
  | zero => exact ⟨[], by simp, fun h => by rw [Nat.add_zero, ha] at h; cases h⟩
  | succ j ih =>
    obtain ⟨M, hM, hn⟩ := ih
    show ∃ M, runsTo f (a + j + 1) = runsTo f a ++ M ∧ (f (a + j + 1) = true → M ≠ [])
    rw [runs_succ]
    by_cases h1 : f (a + j + 1) = true
    · rw [if_pos h1]
      by_cases h2 : f (a + j) = true
      · rw [if_pos h2, hM, stretch_append (hn h2)]
        exact ⟨_, rfl, fun _ => by simp [stretch]⟩
      · rw [if_neg h2, hM]
        exact ⟨M ++ [(a + j + 1, a + j + 1)], by simp, fun _ => by simp⟩
    · rw [if_neg h1]
      exact ⟨M, hM, fun h => absurd h h1⟩
theorem runs_take (a b : Nat) (hab : a ≤ b) (ha : f a = false) (k : Nat) (hk : (runsTo f a).length = k) : (runsTo f b).take k = runsTo f a := by
  obtain ⟨M, hM, _⟩ := runs_prefix a ha (b - a)
  rw [show a + (b - a) = b by omega] at hM
  rw [hM, ← hk, List.take_left']
  rfl
theorem runs_same (a : Nat) : ∀ j, cnt f (a + j) = cnt f a → runsTo f (a + j) = runsTo f a := by
  intro j
  induction j with
  | zero => intro _; rfl
  | succ j ih =>
    intro h
    have hm := cnt_mono (f := f) (show a ≤ a + j by omega)
    have h2 : cnt f (a + j + 1) = cnt f (a + j) + if f (a + j + 1) = true then 1 else 0 := rfl
    have h3 : cnt f (a + j + 1) = cnt f a := h
    have hf : ¬ f (a + j + 1) = true := by
      intro e
      rw [if_pos e] at h2
      omega
    rw [if_neg hf] at h2
    show runsTo f (a + j + 1) = _
    rw [runs_succ, if_neg hf]
    exact ih (by omega)
/-- One whole run. -/
theorem runs_whole (i : Nat) (hi : f i = false) : ∀ j, (∀ k, i + 1 ≤ k → k ≤ i + 1 + j → f k = true) → runsTo f (i + 1 + j) = runsTo f i ++ [(i + 1, i + 1 + j)] := by
  intro j
  induction j with
  | zero =>
    intro h
    show runsTo f (i + 1) = _
    rw [runs_succ, if_pos (h (i + 1) (by omega) (by omega)), if_neg (by rw [hi]; decide)]
  | succ j ih =>
    intro h
    show runsTo f (i + 1 + j + 1) = _
    rw [runs_succ, if_pos (h _ (by omega) (by omega)), if_pos (h _ (by omega) (by omega)), ih (fun k h1 h2 => h k h1 (by omega)), stretch_snoc]
    rfl

/-- What is asked of runs. -/
def sumR (L : List (Nat × Nat)) : Nat := (L.map fun p => p.2 + 1 - p.1).sum
def Apt (f : Nat → Bool) (e : Nat) (L : List (Nat × Nat)) : Prop :=
  (∀ (i : Nat) (p : Nat × Nat), L[i]? = some p → 1 ≤ p.1 ∧ p.1 ≤ p.2 ∧ p.2 ≤ e ∧ ∀ k, p.1 ≤ k → k ≤ p.2 → f k = true) ∧
  (∀ (i : Nat) (p q : Nat × Nat), L[i]? = some p → L[i + 1]? = some q → p.2 + 2 ≤ q.1) ∧
  (L.getLast?.getD (0, 0)).2 = lst f e ∧ sumR L = cnt f e
theorem sumR_snoc (A : List (Nat × Nat)) (p : Nat × Nat) : sumR (A ++ [p]) = sumR A + (p.2 + 1 - p.1) := by simp [sumR]
theorem get_snoc {A : List (Nat × Nat)} {p x : Nat × Nat} {i : Nat} (h : (A ++ [p])[i]? = some x) : (i < A.length ∧ A[i]? = some x) ∨ (i = A.length ∧ x = p) := by
  rcases Nat.lt_trichotomy i A.length with hl | he | hg
  · rw [List.getElem?_append_left hl] at h
    exact .inl ⟨hl, h⟩
  · subst he
    rw [List.getElem?_append_right (by omega)] at h
    simp at h
    exact .inr ⟨rfl, h.symm⟩
  · rw [List.getElem?_eq_none (by simp; omega)] at h
    cases h
theorem apt (h0 : f 0 = false) (e : Nat) : Apt f e (runsTo f e) := by
  induction e with
  | zero => exact ⟨fun i p hp => by simp [runsTo] at hp, fun i p q hp => by simp [runsTo] at hp, rfl, rfl⟩
  | succ e ih =>
    obtain ⟨h1, h2, h3, h4⟩ := ih
    rw [runs_succ]
    by_cases hf : f (e + 1) = true
    · rw [if_pos hf]
      have hl : lst f (e + 1) = e + 1 := by simp [lst, hf]
      have hc : cnt f (e + 1) = cnt f e + 1 := by simp [cnt, hf]
      by_cases hg : f e = true
      · rw [if_pos hg]
        obtain ⟨A, p, hL⟩ := snoc_of (runs_ne h0 e hg)
        rw [hL] at h1 h2 h3 h4 ⊢
        rw [stretch_snoc]
        have he : lst f e = e := by
          cases e with
          | zero => rw [h0] at hg; cases hg
          | succ e => simp [lst, hg]
        have hp2 : p.2 = e := by simpa [he] using h3
        have hp := h1 A.length p (by simp)
        refine ⟨fun i x hx => ?_, fun i x y hx hy => ?_, by simpa using hl.symm, ?_⟩
        · rcases get_snoc hx with ⟨hi, hx⟩ | ⟨rfl, rfl⟩
          · have := h1 i x (by rw [List.getElem?_append_left hi]; exact hx)
            exact ⟨this.1, this.2.1, by omega, this.2.2.2⟩
          · refine ⟨hp.1, by show p.1 ≤ e + 1; omega, Nat.le_refl _, fun k k1 k2 => ?_⟩
            rcases Nat.lt_or_ge k (e + 1) with hk | hk
            · exact hp.2.2.2 k k1 (by omega)
            · obtain rfl : k = e + 1 := by have : k ≤ e + 1 := k2; omega
              exact hf
        · rcases get_snoc hx with ⟨hi, hx⟩ | ⟨rfl, rfl⟩
          · have hx' : (A ++ [p])[i]? = some x := by rw [List.getElem?_append_left hi]; exact hx
            rcases get_snoc hy with ⟨hj, hy⟩ | ⟨hj, rfl⟩
            · exact h2 i x y hx' (by rw [List.getElem?_append_left hj]; exact hy)
            · exact h2 i x p hx' (by rw [hj]; simp)
          · rw [List.getElem?_eq_none (by simp)] at hy
            cases hy
        · rw [sumR_snoc] at h4 ⊢
          show sumR A + (e + 1 + 1 - p.1) = _
          have := hp.2.1
          omega
      · rw [if_neg hg]
        refine ⟨fun i x hx => ?_, fun i x y hx hy => ?_, by simpa using hl.symm, ?_⟩
        · rcases get_snoc hx with ⟨hi, hx⟩ | ⟨rfl, rfl⟩
          · have := h1 i x hx
            exact ⟨this.1, this.2.1, by omega, this.2.2.2⟩
          · refine ⟨by show 1 ≤ e + 1; omega, Nat.le_refl _, Nat.le_refl _, fun k k1 k2 => ?_⟩
            obtain rfl : k = e + 1 := by
              have a1 : e + 1 ≤ k := k1
              have a2 : k ≤ e + 1 := k2
              omega
            exact hf
        · rcases get_snoc hx with ⟨hi, hx⟩ | ⟨rfl, rfl⟩
          · rcases get_snoc hy with ⟨hj, hy⟩ | ⟨hj, rfl⟩
            · exact h2 i x y hx hy
            · have a := h1 i x hx
              have b := a.2.2.2 x.2 a.2.1 (Nat.le_refl _)
              have : x.2 ≠ e := fun e' => hg (e' ▸ b)
              show x.2 + 2 ≤ e + 1
              have := a.2.2.1
              omega
          · rw [List.getElem?_eq_none (by simp)] at hy
            cases hy
        · rw [sumR_snoc, h4, hc]
          show _ + (e + 1 + 1 - (e + 1)) = _
          omega
    · rw [if_neg hf]
      refine ⟨fun i x hx => ?_, h2, by rw [h3]; simp [lst, hf], by rw [h4]; simp [cnt, hf]⟩
      have := h1 i x hx
      exact ⟨this.1, this.2.1, by omega, this.2.2.2⟩
end

/-! ### numbers told as distances -/
/-- What a base with numbers so far beyond it has in. -/
def inB (by_ : List Int) (d : Nat) : Bool := inW d && by_.any fun x => x == (d : Int)
theorem win_inB (l : List Int) : Win (inB l) := by
  intro d h
  unfold inB inW at h
  simp only [Bool.and_eq_true, decide_eq_true_eq] at h
  exact h.1
theorem inB_nil : inB [] = noF := by funext d; simp [inB, noF]
theorem inB_snoc (l : List Int) (x : Int) (hx : 0 ≤ x) : inB (l ++ [x]) = addF (inB l) x.toNat := by
  funext d
  unfold addF inB
  rw [List.any_append]
  by_cases e : (d : Int) = x
  · have e' : x.toNat = d := by omega
    rw [e', ← e]
    cases inW d <;> simp
  · have h1 : (x == (d : Int)) = false := by simp; omega
    have h2 : (d == x.toNat) = false := by simp; omega
    simp [h1, h2]
theorem inB_ext {l m : List Int} (h : ∀ x, x ∈ l ↔ x ∈ m) : inB l = inB m := by
  funext d
  unfold inB
  congr 1
  rw [Bool.eq_iff_iff, List.any_eq_true, List.any_eq_true]
  exact ⟨fun ⟨x, hx, e⟩ => ⟨x, (h x).1 hx, e⟩, fun ⟨x, hx, e⟩ => ⟨x, (h x).2 hx, e⟩⟩
end Go.Proofs.Ytlkppgdeaphoeaa
