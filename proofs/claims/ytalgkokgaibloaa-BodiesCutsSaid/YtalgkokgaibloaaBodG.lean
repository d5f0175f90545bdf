/-
  Package bodies, plainly: what each Get answers.
-/
import Derived.Test.YtalgkokgaibloaaBodW
import Derived.Test.YtalgkokgaibloaaBodM
namespace Go.Proofs.Ytalgkokgaibloaa
open Go.RowKit
set_option linter.unusedVariables false

/-- The error that is told. -/
def errOf (o : Bool) : Int := if o then 0 else 7
/-! ### Data -/
def noD : BData := ⟨0, 0, 0, false, false, false, []⟩
def okD (k f : UInt8) (b : List UInt8) : Bool := decide (13 ≤ b.length) && decide (k = 0 ∧ f = flagsD (parseD f b).un (parseD f b).fi (parseD f b).la ∧ b = bodyD (parseD f b))
def ansD (k f : UInt8) (b : List UInt8) : BData := if okD k f b then parseD f b else noD
/-! ### Beginnings -/
def noI : BInit := ⟨0, 0, 0, 0, 0, []⟩
def cookieOf (k : UInt8) (b : List UInt8) : List UInt8 := if k = 2 ∧ 4 ≤ numO b 18 2 ∧ 20 + (numO b 18 2 - 4) ≤ b.length then (b.drop 20).take (numO b 18 2 - 4) else []
def PI (k : UInt8) (b : List UInt8) : BInit := ⟨numO b 0 4, numO b 4 4, numO b 8 2, numO b 10 2, numO b 12 4, cookieOf k b⟩
def validI (k : UInt8) (i : BInit) : Bool := decide (i.tag ≠ 0 ∧ i.out ≠ 0 ∧ i.in_ ≠ 0 ∧ (k = 1 ∨ (k = 2 ∧ 0 < i.cookie.length)))
def okI (k f : UInt8) (b : List UInt8) : Bool := validI k (PI k b) && decide (k = k ∧ f = 0 ∧ b = bodyI k (PI k b))
def ansI (k f : UInt8) (b : List UInt8) : BInit := if okI k f b then PI k b else noI
theorem PI_ok (k : UInt8) (b : List UInt8) : (PI k b).Ok := ⟨numO_lt b 0 4, numO_lt b 4 4, numO_lt b 8 2, numO_lt b 10 2, numO_lt b 12 4⟩
theorem cookieOf_le (k : UInt8) (b : List UInt8) : (cookieOf k b).length ≤ 65531 ∧ (cookieOf k b).length ≤ b.length := by
  unfold cookieOf
  split
  · have := numO_lt b 18 2
    simp
    omega
  · simp
theorem okI_short {k f : UInt8} {b : List UInt8} (h : b.length < 16) : okI k f b = false := by
  unfold okI
  have : b ≠ bodyI k (PI k b) := fun e => by
    have h2 := length_bodyI k (PI k b)
    rw [← e] at h2
    split at h2 <;> omega
  simp [this]
/-! ### Acknowledgements -/
def noS : BSack := ⟨0, 0, [], []⟩
/-- Entries, 0 where they are not within. -/
def getGO (b : List UInt8) : Nat → Nat → List (Nat × Nat)
  | _, 0 => []
  | a, n + 1 => (numO b a 2, numO b (a + 2) 2) :: getGO b (a + 4) n
def getNO (b : List UInt8) : Nat → Nat → List Nat
  | _, 0 => []
  | a, n + 1 => numO b a 4 :: getNO b (a + 4) n
theorem length_getGO (b : List UInt8) : ∀ n a, (getGO b a n).length = n
  | 0, _ => rfl
  | n + 1, a => by rw [getGO, List.length_cons, length_getGO b n]
theorem length_getNO (b : List UInt8) : ∀ n a, (getNO b a n).length = n
  | 0, _ => rfl
  | n + 1, a => by rw [getNO, List.length_cons, length_getNO b n]
theorem getGO_snoc (b : List UInt8) : ∀ n a, getGO b a (n + 1) = getGO b a n ++ [(numO b (a + 4 * n) 2, numO b (a + 4 * n + 2) 2)]
  | 0, a => rfl
  | n + 1, a => by
    rw [getGO, getGO_snoc b n (a + 4), getGO, List.cons_append]
    congr 4
    all_goals congr 1; omega
theorem getNO_snoc (b : List UInt8) : ∀ n a, getNO b a (n + 1) = getNO b a n ++ [numO b (a + 4 * n) 4]
  | 0, a => rfl
  | n + 1, a => by
    rw [getNO, getNO_snoc b n (a + 4), getNO, List.cons_append]
    congr 3
    congr 1; omega
theorem getGO_in (b : List UInt8) : ∀ n a, a + 4 * n ≤ b.length → getGO b a n = getG b a n
  | 0, _, _ => rfl
  | n + 1, a, h => by rw [getGO, getG, getGO_in b n (a + 4) (by omega), numO_in (by omega), numO_in (by omega)]
theorem getNO_in (b : List UInt8) : ∀ n a, a + 4 * n ≤ b.length → getNO b a n = getN b a n
  | 0, _, _ => rfl
  | n + 1, a, h => by rw [getNO, getN, getNO_in b n (a + 4) (by omega), numO_in (by omega)]
theorem getGO_bd (b : List UInt8) : ∀ n a, ∀ g ∈ getGO b a n, g.1 < 65536 ∧ g.2 < 65536
  | 0, _, g, h => by cases h
  | n + 1, a, g, h => by
    rw [getGO, List.mem_cons] at h
    rcases h with rfl | h
    · exact ⟨numO_lt b a 2, numO_lt b (a + 2) 2⟩
    · exact getGO_bd b n (a + 4) g h
theorem getNO_bd (b : List UInt8) : ∀ n a, ∀ g ∈ getNO b a n, g < 4294967296
  | 0, _, g, h => by cases h
  | n + 1, a, g, h => by
    rw [getNO, List.mem_cons] at h
    rcases h with rfl | h
    · exact numO_lt b a 4
    · exact getNO_bd b n (a + 4) g h
theorem getG_bd (b : List UInt8) : ∀ n a, ∀ g ∈ getG b a n, g.1 < 65536 ∧ g.2 < 65536
  | 0, _, g, h => by cases h
  | n + 1, a, g, h => by
    rw [getG, List.mem_cons] at h
    rcases h with rfl | h
    · exact ⟨num_lt b a 2, num_lt b (a + 2) 2⟩
    · exact getG_bd b n (a + 4) g h
theorem getN_bd (b : List UInt8) : ∀ n a, ∀ g ∈ getN b a n, g < 4294967296
  | 0, _, g, h => by cases h
  | n + 1, a, g, h => by
    rw [getN, List.mem_cons] at h
    rcases h with rfl | h
    · exact num_lt b a 4
    · exact getN_bd b n (a + 4) g h
theorem parseS_ok (b : List UInt8) : (parseS b).Ok := ⟨num_lt b 0 4, num_lt b 4 4, getG_bd b _ _, getN_bd b _ _⟩
def okS (k f : UInt8) (b : List UInt8) : Bool := apartG 0 (parseS b).gaps && decide (k = 3 ∧ f = 0 ∧ b = bodyS (parseS b))
def ansS (k f : UInt8) (b : List UInt8) : BSack := if okS k f b then parseS b else noS
/-- Where, as the code reads it, the gaps end; how many entries there are from a place to another one. -/
def endG (b : List UInt8) : Nat := min (12 + 4 * numO b 8 2) b.length
def cntE (a e : Nat) : Nat := (e - a + 3) / 4
def PS (b : List UInt8) : BSack := ⟨numO b 0 4, numO b 4 4, getGO b 12 (cntE 12 (endG b)), getNO b (endG b) (cntE (endG b) b.length)⟩
theorem PS_ok (b : List UInt8) : (PS b).Ok := ⟨numO_lt b 0 4, numO_lt b 4 4, getGO_bd b _ _, getNO_bd b _ _⟩
theorem PS_of_put {b : List UInt8} (hb : b.length ≤ 131072) (h : b = bodyS (PS b)) : parseS b = PS b := by
  have hl := length_bodyS (PS b)
  rw [← h] at hl
  have := parse_putS (PS b) (PS_ok b) (by omega) (by omega)
  rw [← h] at this
  exact this
theorem PS_of_parse {b : List UInt8} (h : b = bodyS (parseS b)) : PS b = parseS b := by
  have hl := length_bodyS (parseS b)
  rw [← h] at hl
  simp only [parseS, length_getG, length_getN] at hl
  have e1 : numO b 0 4 = num b 0 4 := numO_in (by omega)
  have e2 : numO b 4 4 = num b 4 4 := numO_in (by omega)
  have e3 : numO b 8 2 = num b 8 2 := numO_in (by omega)
  have e4 : endG b = 12 + 4 * num b 8 2 := by unfold endG; rw [e3]; omega
  have e5 : cntE 12 (endG b) = num b 8 2 := by unfold cntE; rw [e4]; omega
  have e6 : cntE (endG b) b.length = num b 10 2 := by unfold cntE; rw [e4]; omega
  rw [PS, e5, e6, e1, e2, e4, getGO_in _ _ _ (by omega), getNO_in _ _ _ (by omega), parseS]
theorem okS_code {k f : UInt8} {b : List UInt8} (hb : b.length ≤ 131072) : (apartG 0 (PS b).gaps && decide (k = 3 ∧ f = 0 ∧ b = bodyS (PS b))) = okS k f b := by
  unfold okS
  by_cases h : b = bodyS (parseS b)
  · rw [PS_of_parse h]
  · by_cases h2 : b = bodyS (PS b)
    · rw [PS_of_put hb h2] at h
      exact absurd h2 h
    · simp [h, h2]
theorem ansS_code {k f : UInt8} {b : List UInt8} (h : okS k f b = true) : PS b = parseS b := by
  unfold okS at h
  simp only [Bool.and_eq_true, decide_eq_true_eq] at h
  exact PS_of_parse h.2.2.2
/-! ### What will not come -/
def noFw : BFwd := ⟨0, []⟩
theorem parseF_ok (b : List UInt8) : (parseF b).Ok := ⟨num_lt b 0 4, getG_bd b _ _⟩
def okF (k f : UInt8) (b : List UInt8) : Bool := decide (k = 192 ∧ f = 0 ∧ b = bodyF (parseF b))
def ansF (k f : UInt8) (b : List UInt8) : BFwd := if okF k f b then parseF b else noFw
def PF (b : List UInt8) : BFwd := ⟨numO b 0 4, getGO b 4 (cntE 4 b.length)⟩
theorem PF_ok (b : List UInt8) : (PF b).Ok := ⟨numO_lt b 0 4, getGO_bd b _ _⟩
theorem PF_of_put {b : List UInt8} (h : b = bodyF (PF b)) : parseF b = PF b := by
  have := parse_putF (PF b) (PF_ok b)
  rw [← h] at this
  exact this
theorem PF_of_parse {b : List UInt8} (h : b = bodyF (parseF b)) : PF b = parseF b := by
  have hl := length_bodyF (parseF b)
  rw [← h] at hl
  simp only [parseF, length_getG] at hl
  have e1 : numO b 0 4 = num b 0 4 := numO_in (by omega)
  have e2 : cntE 4 b.length = (b.length - 4) / 4 := by unfold cntE; omega
  rw [PF, e1, e2, getGO_in _ _ _ (by omega), parseF]
theorem okF_code {k f : UInt8} {b : List UInt8} : decide (k = 192 ∧ f = 0 ∧ b = bodyF (PF b)) = okF k f b := by
  unfold okF
  by_cases h : b = bodyF (parseF b)
  · rw [PF_of_parse h]
  · by_cases h2 : b = bodyF (PF b)
    · rw [PF_of_put h2] at h
      exact absurd h2 h
    · simp [h, h2]
theorem ansF_code {k f : UInt8} {b : List UInt8} (h : okF k f b = true) : PF b = parseF b := by
  unfold okF at h
  simp only [decide_eq_true_eq] at h
  exact PF_of_parse h.2.2
theorem okF_short {k f : UInt8} {b : List UInt8} (h : b.length < 4) : okF k f b = false := by
  unfold okF
  have : b ≠ bodyF (parseF b) := fun e => by
    have h2 := length_bodyF (parseF b)
    rw [← e] at h2
    omega
  simp [this]
theorem okS_short {k f : UInt8} {b : List UInt8} (h : b.length ≠ 12 + 4 * num b 8 2 + 4 * num b 10 2) : okS k f b = false := by
  unfold okS
  have : b ≠ bodyS (parseS b) := fun e => by
    have h2 := length_bodyS (parseS b)
    rw [← e] at h2
    simp only [parseS, length_getG, length_getN] at h2
    omega
  simp [this]
/-! ### Times, numbers -/
def okT (k f : UInt8) (b : List UInt8) : Bool := decide (k = 4 ∨ k = 5) && decide (k = k ∧ f = 0 ∧ b = bodyT (numO b 4 8))
/-- A number of 64 bits with its sign. -/
def s64 (x : Nat) : Int := if x < 9223372036854775808 then x else (x : Int) - 18446744073709551616
theorem s64_bd {x : Nat} (h : x < 18446744073709551616) : -9223372036854775808 ≤ s64 x ∧ s64 x < 9223372036854775808 := by unfold s64; split <;> omega
theorem s64_back {x : Nat} (h : x < 18446744073709551616) : (s64 x % 18446744073709551616).toNat = x := by unfold s64; split <;> omega
theorem s64_of {t : Int} (h : -9223372036854775808 ≤ t ∧ t < 9223372036854775808) : s64 (t % 18446744073709551616).toNat = t := by unfold s64; split <;> omega
def ansT (k f : UInt8) (b : List UInt8) : Int := if okT k f b then s64 (numO b 4 8) else 0
def okC (k f : UInt8) (b : List UInt8) : Bool := decide (k = 7 ∧ f = 0 ∧ b = enc (numO b 0 4) 4)
def ansC (k f : UInt8) (b : List UInt8) : Nat := if okC k f b then numO b 0 4 else 0
end Go.Proofs.Ytalgkokgaibloaa
