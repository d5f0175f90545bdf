/-
  Package bodies, plainly: what each Get answers of what each Put wrote.
  Package bodies, plainly: what is got of a body that is cut, or with other flags.
  A region that draws its order, whose head makes memory and holds a store into a block that it makes itself ('x, e := f(..)' where the store may come ahead of what is read besides): blocks of one type from base on may turn, no others; one look at each operation serves every order.
  BodiesCuts, walked.
-/
import Derived.Test.YtalgkokgaibloaaBodG
import Derived.Test.YtalgkokgaibloaaBodL7
import Derived.Test.YtalgkokgaibloaaGrowO
import Derived.Test.YtalgkokgaibloaaBodW
import Derived.Test.YtalgkokgaibloaaBodAll
namespace Go.Proofs.Ytalgkokgaibloaa
open Go.RowKit
set_option linter.unusedVariables false

theorem okD_put (d : BData) (h : d.Ok) : okD 0 (flagsD d.un d.fi d.la) (bodyD d) = decide (0 < d.bytes.length) := by
  unfold okD
  rw [parse_put d h, length_bodyD, Bool.eq_iff_iff, Bool.and_eq_true, decide_eq_true_iff, decide_eq_true_iff, decide_eq_true_iff]
  constructor
  · rintro ⟨h1, _⟩; omega
  · intro h1; exact ⟨by omega, rfl, rfl, rfl⟩
theorem ansD_put (d : BData) (h : d.Ok) (h0 : 0 < d.bytes.length) : ansD 0 (flagsD d.un d.fi d.la) (bodyD d) = d := by
  unfold ansD
  rw [okD_put d h, decide_eq_true h0, if_pos rfl, parse_put d h]

theorem PI_put (k : UInt8) (hk : k = 1 ∨ k = 2) (d : BInit) (h : d.Ok) (hc : d.cookie.length ≤ 65531) : PI k (bodyI k d) = if k = 2 then d else { d with cookie := [] } := by
  have hp := parse_putI k d h (fun _ => hc)
  have hl := length_bodyI k d
  have hl16 : 16 ≤ (bodyI k d).length := by rw [hl]; split <;> omega
  rw [← hp]
  unfold PI parseI
  rw [numO_in (by omega), numO_in (by omega), numO_in (by omega), numO_in (by omega), numO_in (by omega)]
  congr 1
  rcases hk with rfl | rfl
  · rfl
  · have h18 : num (bodyI 2 d) 18 2 = 4 + d.cookie.length := by
      rw [bodyI_ack, num_drop, drop_headI _ _ _ (by decide), drop_enc]
      exact num_put _ 2 _ (by omega)
    have hu := up4_bd d.cookie.length
    rw [if_pos rfl] at hl
    have hle : 20 ≤ (bodyI 2 d).length := by omega
    unfold cookieOf
    rw [numO_in (by omega), h18, if_pos ⟨rfl, by omega, by omega⟩, if_pos rfl]
theorem okI_put (k : UInt8) (hk : k = 1 ∨ k = 2) (d : BInit) (h : d.Ok) (hc : d.cookie.length ≤ 65531) : okI k 0 (bodyI k d) = decide (d.tag ≠ 0 ∧ d.out ≠ 0 ∧ d.in_ ≠ 0 ∧ (k = 1 ∨ 0 < d.cookie.length)) := by
  unfold okI
  have hp := PI_put k hk d h hc
  have hb : bodyI k (PI k (bodyI k d)) = bodyI k d := by
    rw [hp]
    rcases hk with rfl | rfl
    · rw [if_neg (by decide)]
      rfl
    · rw [if_pos rfl]
  have e2 : decide (k = k ∧ (0 : UInt8) = 0 ∧ bodyI k d = bodyI k (PI k (bodyI k d))) = true := by rw [hb]; simp
  rw [e2, Bool.and_true, hp]
  rcases hk with rfl | rfl
  · rw [if_neg (by decide)]
    simp [validI]
  · rw [if_pos rfl]
    simp [validI]
theorem ansI_put (k : UInt8) (hk : k = 1 ∨ k = 2) (d : BInit) (h : d.Ok) (hc : d.cookie.length ≤ 65531) (ho : okI k 0 (bodyI k d) = true) : ansI k 0 (bodyI k d) = if k = 2 then d else { d with cookie := [] } := by
  unfold ansI
  rw [ho, if_pos rfl, PI_put k hk d h hc]

theorem okS_put (d : BSack) (h : d.Ok) (hg : d.gaps.length < 65536) (hd : d.dups.length < 65536) : okS 3 0 (bodyS d) = apartG 0 d.gaps := by
  unfold okS
  rw [parse_putS d h hg hd]
  simp
theorem ansS_put (d : BSack) (h : d.Ok) (hg : d.gaps.length < 65536) (hd : d.dups.length < 65536) (ha : apartG 0 d.gaps = true) : ansS 3 0 (bodyS d) = d := by
  unfold ansS
  rw [okS_put d h hg hd, ha, if_pos rfl, parse_putS d h hg hd]

theorem okF_put (d : BFwd) (h : d.Ok) : okF 192 0 (bodyF d) = true := by
  unfold okF
  rw [parse_putF d h]
  simp
theorem ansF_put (d : BFwd) (h : d.Ok) : ansF 192 0 (bodyF d) = d := by
  unfold ansF
  rw [okF_put d h, if_pos rfl, parse_putF d h]

theorem numO_bodyT (q : Nat) (h : q < 18446744073709551616) : numO (bodyT q) 4 8 = q := by
  rw [numO_in (by rw [length_bodyT]; decide), parse_putT q h]
theorem okT_put (k : UInt8) (hk : k = 4 ∨ k = 5) (q : Nat) (h : q < 18446744073709551616) : okT k 0 (bodyT q) = true := by
  unfold okT
  rw [numO_bodyT q h]
  simp [hk]
theorem ansT_put (k : UInt8) (hk : k = 4 ∨ k = 5) (t : Int) (ht : -9223372036854775808 ≤ t ∧ t < 9223372036854775808) : ansT k 0 (bodyT (t % 18446744073709551616).toNat) = t := by
  have h : (t % 18446744073709551616).toNat < 18446744073709551616 := by omega
  unfold ansT
  rw [okT_put k hk _ h, if_pos rfl, numO_bodyT _ h, s64_of ht]
theorem numO_enc4 (x : Nat) (h : x < 4294967296) : numO (enc x 4) 0 4 = x := by
  rw [numO_in (by rw [length_enc]; decide), parse_putC x h]
theorem okC_put (x : Nat) (h : x < 4294967296) : okC 7 0 (enc x 4) = true := by
  unfold okC
  rw [numO_enc4 x h]
  simp
theorem ansC_put (x : Nat) (h : x < 4294967296) : ansC 7 0 (enc x 4) = x := by
  unfold ansC
  rw [okC_put x h, if_pos rfl, numO_enc4 x h]
end Go.Proofs.Ytalgkokgaibloaa

namespace Go.Proofs.Ytalgkokgaibloaa
open Go.RowKit
set_option linter.unusedVariables false

theorem num_take {xs : List UInt8} {a s m : Nat} (h : a + s ≤ m) (hm : m ≤ xs.length) : num (xs.take m) a s = num xs a s := by
  have := num_left (xs.take m) (xs.drop m) a s (by rw [List.length_take]; omega)
  rwa [List.take_append_drop, eq_comm] at this
theorem len_take {xs : List UInt8} {m : Nat} (hm : m ≤ xs.length) : (xs.take m).length = m := by rw [List.length_take]; omega
theorem cnt2 (f : UInt8) (xs : List UInt8) : cntG 2 f xs = if okI 2 f xs then 1 else 0 := by
  have hD : okD 2 f xs = false := not_of fun h => absurd (kindD h) (by decide)
  have hS : okS 2 f xs = false := not_of fun h => absurd (kindS h) (by decide)
  have hF : okF 2 f xs = false := not_of fun h => absurd (kindF h) (by decide)
  have hT : okT 2 f xs = false := not_of fun h => by rcases kindT h with h | h <;> exact absurd h (by decide)
  have hC : okC 2 f xs = false := not_of fun h => absurd (kindC h) (by decide)
  simp [cntG, hD, hS, hF, hT, hC]
theorem cnt3 (f : UInt8) (xs : List UInt8) : cntG 3 f xs = if okS 3 f xs then 1 else 0 := by
  have hD : okD 3 f xs = false := not_of fun h => absurd (kindD h) (by decide)
  have hI : okI 3 f xs = false := not_of fun h => by rcases kindI h with h | h <;> exact absurd h (by decide)
  have hF : okF 3 f xs = false := not_of fun h => absurd (kindF h) (by decide)
  have hT : okT 3 f xs = false := not_of fun h => by rcases kindT h with h | h <;> exact absurd h (by decide)
  have hC : okC 3 f xs = false := not_of fun h => absurd (kindC h) (by decide)
  simp [cntG, hD, hI, hF, hT, hC]
theorem cnt192 (f : UInt8) (xs : List UInt8) : cntG 192 f xs = if okF 192 f xs then 1 else 0 := by
  have hD : okD 192 f xs = false := not_of fun h => absurd (kindD h) (by decide)
  have hI : okI 192 f xs = false := not_of fun h => by rcases kindI h with h | h <;> exact absurd h (by decide)
  have hS : okS 192 f xs = false := not_of fun h => absurd (kindS h) (by decide)
  have hT : okT 192 f xs = false := not_of fun h => by rcases kindT h with h | h <;> exact absurd h (by decide)
  have hC : okC 192 f xs = false := not_of fun h => absurd (kindC h) (by decide)
  simp [cntG, hD, hI, hS, hT, hC]
theorem cnt4 (f : UInt8) (xs : List UInt8) : cntG 4 f xs = if okT 4 f xs then 1 else 0 := by
  have hD : okD 4 f xs = false := not_of fun h => absurd (kindD h) (by decide)
  have hI : okI 4 f xs = false := not_of fun h => by rcases kindI h with h | h <;> exact absurd h (by decide)
  have hS : okS 4 f xs = false := not_of fun h => absurd (kindS h) (by decide)
  have hF : okF 4 f xs = false := not_of fun h => absurd (kindF h) (by decide)
  have hC : okC 4 f xs = false := not_of fun h => absurd (kindC h) (by decide)
  simp [cntG, hD, hI, hS, hF, hC]
theorem cnt7 (f : UInt8) (xs : List UInt8) : cntG 7 f xs = if okC 7 f xs then 1 else 0 := by
  have hD : okD 7 f xs = false := not_of fun h => absurd (kindD h) (by decide)
  have hI : okI 7 f xs = false := not_of fun h => by rcases kindI h with h | h <;> exact absurd h (by decide)
  have hS : okS 7 f xs = false := not_of fun h => absurd (kindS h) (by decide)
  have hF : okF 7 f xs = false := not_of fun h => absurd (kindF h) (by decide)
  have hT : okT 7 f xs = false := not_of fun h => by rcases kindT h with h | h <;> exact absurd h (by decide)
  simp [cntG, hD, hI, hS, hF, hT]

/-- Is so much of it whole entries? -/
def wholeB (k : UInt8) (m n : Nat) : Bool := if k = 192 then decide (4 ≤ m ∧ m % 4 = 0) else decide (m = n)
/-- What the law asks of a chunk. -/
structure CutFine (k : UInt8) (Y : List UInt8) : Prop where
  size : Y.length ≤ 131072
  cut : ∀ m, m ≤ Y.length → cntG k 0 (Y.take m) = if wholeB k m Y.length then cntG k 0 Y else 0
  flags : ∀ f, f ≠ 0 → cntG k f Y = 0

theorem flag0I {k f : UInt8} {xs : List UInt8} (h : f ≠ 0) : okI k f xs = false := not_of fun e => by
  unfold okI at e; simp only [Bool.and_eq_true, decide_eq_true_eq] at e; exact h e.2.2.1
theorem flag0S {k f : UInt8} {xs : List UInt8} (h : f ≠ 0) : okS k f xs = false := not_of fun e => by
  unfold okS at e; simp only [Bool.and_eq_true, decide_eq_true_eq] at e; exact h e.2.2.1
theorem flag0F {k f : UInt8} {xs : List UInt8} (h : f ≠ 0) : okF k f xs = false := not_of fun e => by
  unfold okF at e; simp only [decide_eq_true_eq] at e; exact h e.2.1
theorem flag0T {k f : UInt8} {xs : List UInt8} (h : f ≠ 0) : okT k f xs = false := not_of fun e => by
  unfold okT at e; simp only [Bool.and_eq_true, decide_eq_true_eq] at e; exact h e.2.2.1
theorem flag0C {k f : UInt8} {xs : List UInt8} (h : f ≠ 0) : okC k f xs = false := not_of fun e => by
  unfold okC at e; simp only [decide_eq_true_eq] at e; exact h e.2.1

theorem fine2 (d : BInit) (h : d.Ok) (hc : d.cookie.length ≤ 8192) : CutFine 2 (bodyI 2 d) := by
  have hl := length_bodyI 2 d
  rw [if_pos rfl] at hl
  have hu := up4_bd d.cookie.length
  refine ⟨by omega, fun m hm => ?_, fun f hf => by rw [cnt2, flag0I hf]; rfl⟩
  by_cases hw : m = (bodyI 2 d).length
  · have e : (bodyI 2 d).take m = bodyI 2 d := List.take_of_length_le (by omega)
    have w : wholeB 2 m (bodyI 2 d).length = true := by unfold wholeB; rw [if_neg (by decide)]; exact decide_eq_true hw
    rw [e, w, if_pos rfl]
  · have w : wholeB 2 m (bodyI 2 d).length = false := by unfold wholeB; rw [if_neg (by decide)]; exact decide_eq_false hw
    rw [w, if_neg (by decide), cnt2]
    have : okI 2 0 ((bodyI 2 d).take m) = false := not_of fun e => by
      have hlm := len_take (xs := bodyI 2 d) hm
      unfold okI at e
      simp only [Bool.and_eq_true, decide_eq_true_eq] at e
      obtain ⟨hv, _, _, hb⟩ := e
      have hl2 := length_bodyI 2 (PI 2 ((bodyI 2 d).take m))
      rw [← hb, if_pos rfl, hlm] at hl2
      unfold validI at hv
      simp only [decide_eq_true_eq] at hv
      obtain ⟨_, _, _, hv⟩ := hv
      have hpos : 0 < (PI 2 ((bodyI 2 d).take m)).cookie.length := by
        rcases hv with hv | hv
        · exact absurd hv (by decide)
        · exact hv.2
      have hck : (PI 2 ((bodyI 2 d).take m)).cookie = cookieOf 2 ((bodyI 2 d).take m) := rfl
      rw [hck] at hpos hl2
      unfold cookieOf at hpos hl2
      split at hpos
      · rename_i hg
        rw [if_pos hg] at hl2
        obtain ⟨_, hg1, hg2⟩ := hg
        rw [hlm] at hg2
        have h18 : numO ((bodyI 2 d).take m) 18 2 = 4 + d.cookie.length := by
          rw [numO_in (by omega), num_take (by omega) hm, bodyI_ack, num_drop, drop_headI _ _ _ (by decide), drop_enc]
          exact num_put _ 2 _ (by omega)
        rw [h18] at hl2
        have hln : (((bodyI 2 d).take m).drop 20).length = m - 20 := by rw [List.length_drop, hlm]
        rw [List.length_take, hln] at hl2
        rw [h18] at hg2
        have : min (4 + d.cookie.length - 4) (m - 20) = d.cookie.length := by omega
        rw [this] at hl2
        omega
      · simp at hpos
    rw [this]
    rfl
theorem fine3 (d : BSack) (h : d.Ok) (hg : d.gaps.length ≤ 2048) (hd : d.dups.length ≤ 2048) : CutFine 3 (bodyS d) := by
  have hl := length_bodyS d
  refine ⟨by omega, fun m hm => ?_, fun f hf => by rw [cnt3, flag0S hf]; rfl⟩
  by_cases hw : m = (bodyS d).length
  · have e : (bodyS d).take m = bodyS d := List.take_of_length_le (by omega)
    have w : wholeB 3 m (bodyS d).length = true := by unfold wholeB; rw [if_neg (by decide)]; exact decide_eq_true hw
    rw [e, w, if_pos rfl]
  · have w : wholeB 3 m (bodyS d).length = false := by unfold wholeB; rw [if_neg (by decide)]; exact decide_eq_false hw
    rw [w, if_neg (by decide), cnt3]
    have hlm := len_take (xs := bodyS d) hm
    have hp := parse_putS d h (by omega) (by omega)
    have h8 : num (bodyS d) 8 2 = d.gaps.length := by
      have := congrArg (fun x => x.gaps.length) hp
      simpa [parseS, length_getG] using this
    have h10 : num (bodyS d) 10 2 = d.dups.length := by
      have := congrArg (fun x => x.dups.length) hp
      simpa [parseS, length_getN] using this
    have : okS 3 0 ((bodyS d).take m) = false := okS_short (by
      rw [hlm]
      by_cases h12 : 12 ≤ m
      · rw [num_take (by omega) hm, num_take (by omega) hm, h8, h10]
        omega
      · omega)
    rw [this]
    rfl
theorem gapsB_take4 (l : List (Nat × Nat)) (j : Nat) : (gapsB l).take (4 * j) = gapsB (l.take j) := by
  induction l generalizing j with
  | nil => simp [gapsB]
  | cons g l ih =>
    rcases j with _ | j
    · simp [gapsB]
    · have e : gapsB (g :: l) = encG g ++ gapsB l := by simp [gapsB]
      have e2 : gapsB ((g :: l).take (j + 1)) = encG g ++ gapsB (l.take j) := by simp [gapsB]
      have hl : (encG g).length = 4 := by simp [encG, length_enc]
      rw [e, e2, List.take_append, List.take_of_length_le (by omega), hl, show 4 * (j + 1) - 4 = 4 * j by omega, ih]
theorem fine192 (d : BFwd) (h : d.Ok) (hs : d.skips.length ≤ 2048) : CutFine 192 (bodyF d) := by
  have hl := length_bodyF d
  refine ⟨by omega, fun m hm => ?_, fun f hf => by rw [cnt192, flag0F hf]; rfl⟩
  have hlm := len_take (xs := bodyF d) hm
  by_cases hw : 4 ≤ m ∧ m % 4 = 0
  · have w : wholeB 192 m (bodyF d).length = true := by unfold wholeB; rw [if_pos rfl]; exact decide_eq_true hw
    have e : (bodyF d).take m = bodyF ⟨d.cum, d.skips.take (m / 4 - 1)⟩ := by
      have hm4 : m = 4 + 4 * (m / 4 - 1) := by omega
      unfold bodyF
      rw [List.take_append, List.take_of_length_le (by rw [length_enc]; omega), length_enc, show m - 4 = 4 * (m / 4 - 1) by omega, gapsB_take4]
    rw [w, if_pos rfl, cnt192, cnt192, okF_put d h, e, okF_put ⟨d.cum, d.skips.take (m / 4 - 1)⟩ ⟨h.cum, fun g hg => h.skips g (List.mem_of_mem_take hg)⟩]
  · have w : wholeB 192 m (bodyF d).length = false := by unfold wholeB; rw [if_pos rfl]; exact decide_eq_false hw
    rw [w, if_neg (by decide), cnt192]
    have : okF 192 0 ((bodyF d).take m) = false := not_of fun e => by
      unfold okF at e
      simp only [decide_eq_true_eq] at e
      have h2 := length_bodyF (parseF ((bodyF d).take m))
      rw [← e.2.2, hlm] at h2
      omega
    rw [this]
    rfl
theorem fine4 (q : Nat) (h : q < 18446744073709551616) : CutFine 4 (bodyT q) := by
  have hl := length_bodyT q
  refine ⟨by omega, fun m hm => ?_, fun f hf => by rw [cnt4, flag0T hf]; rfl⟩
  by_cases hw : m = (bodyT q).length
  · have e : (bodyT q).take m = bodyT q := List.take_of_length_le (by omega)
    have w : wholeB 4 m (bodyT q).length = true := by unfold wholeB; rw [if_neg (by decide)]; exact decide_eq_true hw
    rw [e, w, if_pos rfl]
  · have w : wholeB 4 m (bodyT q).length = false := by unfold wholeB; rw [if_neg (by decide)]; exact decide_eq_false hw
    rw [w, if_neg (by decide), cnt4]
    have hlm := len_take (xs := bodyT q) hm
    have : okT 4 0 ((bodyT q).take m) = false := not_of fun e => by
      unfold okT at e
      simp only [Bool.and_eq_true, decide_eq_true_eq] at e
      have h2 := length_bodyT (numO ((bodyT q).take m) 4 8)
      rw [← e.2.2.2, hlm] at h2
      omega
    rw [this]
    rfl
theorem fine7 (x : Nat) (h : x < 4294967296) : CutFine 7 (enc x 4) := by
  have hl := length_enc x 4
  refine ⟨by omega, fun m hm => ?_, fun f hf => by rw [cnt7, flag0C hf]; rfl⟩
  by_cases hw : m = (enc x 4).length
  · have e : (enc x 4).take m = enc x 4 := List.take_of_length_le (by omega)
    have w : wholeB 7 m (enc x 4).length = true := by unfold wholeB; rw [if_neg (by decide)]; exact decide_eq_true hw
    rw [e, w, if_pos rfl]
  · have w : wholeB 7 m (enc x 4).length = false := by unfold wholeB; rw [if_neg (by decide)]; exact decide_eq_false hw
    rw [w, if_neg (by decide), cnt7]
    have hlm := len_take (xs := enc x 4) hm
    have : okC 7 0 ((enc x 4).take m) = false := not_of fun e => by
      unfold okC at e
      simp only [decide_eq_true_eq] at e
      have h2 := length_enc (numO ((enc x 4).take m) 0 4) 4
      rw [← e.2.2, hlm] at h2
      omega
    rw [this]
    rfl

theorem flags_small (f : UInt8) : f = flagsD (decide (f &&& 4 ≠ 0)) (decide (f &&& 2 ≠ 0)) (decide (f &&& 1 ≠ 0)) ↔ f.toNat < 8 := by
  have key : ∀ n : Fin 256, (UInt8.ofNat n.1 = flagsD (decide (UInt8.ofNat n.1 &&& 4 ≠ 0)) (decide (UInt8.ofNat n.1 &&& 2 ≠ 0)) (decide (UInt8.ofNat n.1 &&& 1 ≠ 0)) ↔ (UInt8.ofNat n.1).toNat < 8) := by decide +kernel
  have := key ⟨f.toNat, f.toNat_lt⟩
  rwa [show UInt8.ofNat f.toNat = f by simp] at this
/-- Data that is cut, with any flags. -/
theorem okD_cut (d : BData) (h : d.Ok) (un fi la : Bool) (f : UInt8) (m : Nat) (hm : m ≤ (bodyD d).length) : okD 0 f ((bodyD d).take m) = decide (f.toNat < 8 ∧ 12 < m) := by
  have hlm := len_take (xs := bodyD d) hm
  have hl := length_bodyD d
  unfold okD
  rw [hlm, Bool.eq_iff_iff, Bool.and_eq_true, decide_eq_true_iff, decide_eq_true_iff, decide_eq_true_iff]
  constructor
  · rintro ⟨h1, _, h2, _⟩
    exact ⟨(flags_small f).1 h2, by omega⟩
  · rintro ⟨h1, h2⟩
    refine ⟨by omega, rfl, (flags_small f).2 h1, ?_⟩
    have hp := parse_put d h
    have e1 : num (bodyD d) 0 4 = d.tsn := congrArg BData.tsn hp
    have e2 : num (bodyD d) 4 2 = d.stream := congrArg BData.stream hp
    have e3 : num (bodyD d) 6 2 = d.ssn := congrArg BData.ssn hp
    have e4 : (bodyD d).drop 12 = d.bytes := by
      have := congrArg BData.bytes hp
      exact this
    unfold bodyD parseD
    simp only
    rw [show enc d.tsn 4 ++ (enc d.stream 2 ++ (enc d.ssn 2 ++ (enc 0 4 ++ d.bytes))) = bodyD d from rfl, num_take (by omega) hm, num_take (by omega) hm, num_take (by omega) hm, e1, e2, e3]
    have hh : bodyD d = (enc d.tsn 4 ++ (enc d.stream 2 ++ (enc d.ssn 2 ++ enc 0 4))) ++ d.bytes := by simp [bodyD]
    have hl12 : (enc d.tsn 4 ++ (enc d.stream 2 ++ (enc d.ssn 2 ++ enc 0 4))).length = 12 := by simp [length_enc]
    have e5 : ((bodyD d).take m).drop 12 = d.bytes.take (m - 12) := by rw [List.drop_take, e4]
    rw [e5]
    conv => lhs; rw [hh, List.take_append, List.take_of_length_le (by omega), hl12]
    simp
end Go.Proofs.Ytalgkokgaibloaa

namespace Go.Proofs.Ytalgkokgaibloaa
open Go.RowKit
set_option linter.unusedVariables false

/-- Blocks of type t from base on may have turned; each is a block of so many cells still. -/
structure Ws (t : TypeId) (base : Nat) (w w' : World) : Prop where
  wr : Wr t base w w'
  kept : ∀ g cs, Blk w g t cs → ∃ cs', Blk w' g t cs' ∧ cs'.size = cs.size
theorem Ws.refl (t : TypeId) (base : Nat) (w : World) : Ws t base w w := ⟨Wr.refl t base w, fun g cs h => ⟨cs, h, rfl⟩⟩
theorem Ws.trans {t : TypeId} {base : Nat} {a b c : World} (h : Ws t base a b) (k : Ws t base b c) : Ws t base a c :=
  ⟨h.wr.trans k.wr, fun g cs hb => by
    obtain ⟨c1, h1, e1⟩ := h.kept g cs hb
    obtain ⟨c2, h2, e2⟩ := k.kept g c1 h1
    exact ⟨c2, h2, e2.trans e1⟩⟩
theorem Ws.of_below {t : TypeId} {base : Nat} {w w' : World} (h : Below w.heap.size w w') : Ws t base w w' := ⟨Wr.of_below h t base, fun g cs hb => ⟨cs, hb.below h hb.lt, rfl⟩⟩
theorem Wr.setBlkT {t : TypeId} {base : Nat} {w : World} {g : Nat} {cs : Array Value} (hb : Blk w g t cs) (hg : base ≤ g) (i : Nat) (u : Value) : Wr t base w (w.setCell ⟨g, i, none⟩ u) :=
  have h0 := (Below.refl 0 w).setCell (p := ⟨g, i, none⟩) (Nat.zero_le _) u
  ⟨h0.os, h0.tape, h0.output, h0.size, fun k hk hn => Below.heap_setCell w ⟨g, i, none⟩ u k (fun e => by
    rcases hn with hn | hn
    · simp at e; omega
    · have e2 : k = g := e
      subst e2
      have h2 : w.heap[k]? = _ := hb
      exact hn _ _ h2)⟩
theorem Ws.setBlk {t : TypeId} {base : Nat} {w : World} {g : Nat} {cs : Array Value} (hb : Blk w g t cs) (hg : base ≤ g) (i : Nat) (u : Value) : Ws t base w (w.setCell ⟨g, i, none⟩ u) :=
  ⟨Wr.setBlkT hb hg i u, fun q cs' hq => by
    by_cases h : q = g
    · subst h
      have e : cs' = cs := by
        have h1 : w.heap[q]? = _ := hq
        have h2 : w.heap[q]? = _ := hb
        rw [h1] at h2
        injection h2 with h2
        injection h2
      subst e
      exact ⟨_, hb.set_ i u, by simp⟩
    · exact ⟨cs', hq.far (p := ⟨g, i, none⟩) h u, rfl⟩⟩
theorem Blk.ws_lt {t t' : TypeId} {base : Nat} {w w' : World} {g : Nat} {cs : Array Value} (h : Blk w g t' cs) (hW : Ws t base w w') (hg : g < base) : Blk w' g t' cs :=
  (hW.wr.block g h.lt (.inl hg)).trans h
theorem RowAt.ws {t e : TypeId} {base : Nat} {w w' : World} {g : Nat} {ys : List UInt8} (h : RowAt w e g ys) (hW : Ws t base w w') (ht : e ≠ t) : RowAt w' e g ys := by
  have hlt : g < w.heap.size := (Array.getElem?_eq_some_iff.1 h).1
  exact (hW.wr.block g hlt (.inr fun cs fr hh => by
    have h2 : w.heap[g]? = _ := h
    rw [h2] at hh
    injection hh with hh
    injection hh with _ hh
    exact ht hh)).trans h
theorem Own8.ws {t e : TypeId} {base b : Nat} {w w' : World} {A : Option Addr} {n c : Nat} {xs : List UInt8} (h : Own8 w e b A n c xs) (hW : Ws t base w w') (ht : e ≠ t) : Own8 w' e b A n c xs := by
  refine ⟨h.1, ?_⟩
  rcases h.2 with hn | ⟨g, zs, e1, e2, hr, rest⟩
  · exact .inl hn
  · exact .inr ⟨g, zs, e1, e2, hr.ws hW ht, rest⟩
/-- A new block of so many cells. -/
def NewBlkW (base : Nat) (t : TypeId) (m : Nat) : Tell := fun v w => ∃ g cs, v = .pointer (some ⟨g, 0, none⟩) ∧ base ≤ g ∧ Blk w g t cs ∧ cs.size = m
def LastsS (t : TypeId) (base : Nat) (p : Tell) : Prop := ∀ v x y, Ws t base x y → p v x → p v y
theorem LastsS.is (t : TypeId) (base : Nat) (x : Value) : LastsS t base (Is x) := fun _ _ _ _ h => h
theorem LastsS.any (t : TypeId) (base : Nat) : LastsS t base Any_ := fun _ _ _ _ h => h
theorem LastsS.newAgg (t : TypeId) (base : Nat) (e : TypeId) (b n : Nat) (xs : List UInt8) (F : Value → Value) (ht : e ≠ t) : LastsS t base (NewAgg e b n xs F) := fun v x y hg ⟨A, c, h1, h2⟩ => ⟨A, c, h1, h2.ws hg ht⟩
theorem LastsS.newBlkW (t : TypeId) (base b m : Nat) : LastsS t base (NewBlkW b t m) := fun v x y hg ⟨g, cs, h1, h2, h3, h4⟩ => by
  obtain ⟨c2, h5, h6⟩ := hg.kept g cs h3
  exact ⟨g, c2, h1, h2, h5, h6.trans h4⟩

section
variable {P : Program} {Q : Exit → Act → World → Prop} {md : Region.Mode} {l : List Oper} {n : Nat}
theorem does_store {ops : Array Oper} {V : Nat → Value → World → Prop} {G : World → World → Prop} {i : Nat} {o : Oper} {a : Act} {w : World} (hi : ops[i]? = some o) (hw : Region.wanted o (yielded ops a.tmps) = true) (w' : World)
    (hrun : (execOp a.eval o).run P w = .ok .skip w') (hd : o.dst = none) (hg : G w w') (hv : V i undef w') : wpOp P ops Q i (fun a' w' => ∃ v, a' = a.put o.dst v ∧ G w w' ∧ V i v w') a w := by
  unfold wpOp
  simp only [hi, hw, if_true]
  refine .inl ?_
  unfold Oper.wp
  rw [hrun]
  exact ⟨undef, by rw [hd], hg, hv⟩

def tailS (md : Region.Mode) (l : List Oper) (n : Nat) : Bool :=
  decide (n < l.length) && Region.sinkB md l.toArray n && Region.chainB md l.toArray n && Region.seqB md l.toArray (l.length - n) n (headAll n l.length)

theorem come_tailS {V : Nat → Value → World → Prop} {G : World → World → Prop} (hG : ∀ x y z, G x y → G y z → G x z) (hV : ∀ i v x y, G x y → V i v x → V i v y) {a0 : Act} {w0 : World}
    (hb : growsB md l.toArray a0.tmps.size = true) (hT : tailS md l n = true) (hdo : ∀ (i : Nat) o, i < n → l.toArray[i]? = some o → Does P md l.toArray Q V G a0 w0 i o)
    (hQ : ∀ a w, Come l.toArray V G a0 w0 (headAll n l.length) a w → wpList P l.toArray Q (l.drop n) a w) :
    ∀ (fuel : Nat) (listed H : Array Bool) (a : Act) (w : World), HeadInv md l.toArray n listed → H.size = n → (∀ i, i < n → H[i]? = listed[i]?) → H.toList.countP (fun b => !b) = fuel → Come l.toArray V G a0 w0 listed a w →
      wpAny P md l.toArray Q (fuel + (l.length - n)) listed a w := by
  simp only [tailS, Bool.and_eq_true, decide_eq_true_eq] at hT
  obtain ⟨⟨⟨hn, hs⟩, hc⟩, hseq⟩ := hT
  intro fuel
  induction fuel with
  | zero =>
    intro listed H a w inv hz hrel hf hcm
    rw [List.countP_eq_zero] at hf
    have hall : listed = headAll n l.length := by
      have hsz := inv.size
      simp only [List.size_toArray] at hsz
      apply Array.ext_getElem?
      intro i
      unfold headAll
      simp only [List.getElem?_toArray]
      rcases Nat.lt_or_ge i n with hi | hi
      · rw [← hrel i hi, List.getElem?_append_left (by simpa using hi), List.getElem?_replicate, if_pos hi]
        have hiH : i < H.size := by omega
        rw [Array.getElem?_eq_getElem hiH]
        have := hf H[i] (by simp)
        simpa using this
      · rw [List.getElem?_append_right (by simpa using hi), List.getElem?_replicate, List.length_replicate]
        rcases Nat.lt_or_ge i l.length with hi' | hi'
        · rw [if_pos (by omega)]
          have := inv.tail i hi (by simpa using hi')
          have hil : i < listed.size := by omega
          simp [Array.getD, hil] at this
          rw [Array.getElem?_eq_getElem hil, this]
        · rw [if_neg (by omega), Array.getElem?_eq_none (by omega)]
    subst hall
    have := wpAny_of_seq (md := md) (P := P) (Q' := Q) (l.drop n) n (headAll n l.length) a w (fun j => by simp [List.getElem?_drop]) (by rw [List.length_drop]; exact hseq) (hQ a w hcm)
    rw [List.length_drop] at this
    rw [Nat.zero_add]
    exact this
  | succ fuel ih =>
    intro listed H a w inv hz hrel hf hcm
    obtain ⟨i, hi, hun⟩ : ∃ i, i < n ∧ listed.getD i true = false := by
      have hpos : 0 < H.toList.countP (fun b => !b) := by omega
      rw [List.countP_pos_iff] at hpos
      obtain ⟨b, hb, hb2⟩ := hpos
      obtain ⟨i, hi⟩ := List.mem_iff_getElem?.1 hb
      have hlt := (List.getElem?_eq_some_iff.1 hi).1
      refine ⟨i, by simp at hlt; omega, ?_⟩
      rw [Array.getD_eq_getD_getElem?, ← hrel i (by simp at hlt; omega)]
      rw [Array.getElem?_toList] at hi
      rw [hi]
      simpa using hb2
    have hsz := inv.size
    simp only [List.size_toArray] at hsz
    have hnone := tail_waits hs hc (by simpa using hn) inv (n - i) i rfl hi hun
    rw [show fuel + 1 + (l.length - n) = (fuel + (l.length - n)) + 1 by omega]
    refine ⟨fun h0 => ?_, fun j hj => ?_⟩
    · have := ready_none hb (by simpa using inv.size) h0 i (by simp; omega)
      have hil : i < listed.size := by omega
      simp [Array.getD, hil] at this hun
      rw [this] at hun
      cases hun
    · have hjn : j < n := by
        rcases Nat.lt_or_ge j n with h' | h'
        · exact h'
        · exact absurd hj (hnone j h')
      obtain ⟨o, ho, hil, hl, hd⟩ := ready_mem hj
      have hjH : j < H.size := by omega
      have hfalse : H[j] = false := by
        have h1 := hrel j hjn
        rw [Array.getElem?_eq_getElem hjH, Array.getElem?_eq_getElem hil] at h1
        simp [Array.getD, hil] at hl
        rw [Option.some.inj h1, hl]
      have hcount : (H.setIfInBounds j true).toList.countP (fun b => !b) = fuel := by
        rw [Array.toList_setIfInBounds, List.countP_set (by simpa using hjH)]
        simp [hfalse, hf]
      refine wpOp_mono ?_ (hdo j o hjn ho listed a w hd hcm)
      rintro a' w' ⟨v, rfl, hg, hv⟩
      refine ih (listed.setIfInBounds j true) (H.setIfInBounds j true) _ _ (inv.set hj hjn) (by simp [hz]) (fun k hk => ?_) hcount (hcm.step hG hV hb ho hil hg hv)
      rw [Array.getElem?_setIfInBounds, Array.getElem?_setIfInBounds, hrel k hk]
      simp [hjH, hil]

/-- A region whose head makes memory, in whatever order, and whose tail is forced. -/
theorem wp_region_grow_store {id : Nat} {a0 : Act} {w0 : World} (n pS : Nat) (hm : P.follows .mixedOrders = true) (Vs : List Tell) (hlen : Vs.length = n) (t : TypeId) (B : Nat) (hlast : ∀ p ∈ Vs, LastsS t B p) (hnone : (List.range n).all (fun i => match l[i]? with | some o => o.dst.isSome || (i == pS) | none => true) = true) (hpS : tellAt Vs pS = Any_) (hb : growsB .any l.toArray a0.tmps.size = true) (hT : tailS .any l n = true)
    (hdo : DoAll P .any l.toArray Q (tellAt Vs) (fun x y => Ws t B x y) a0 w0 0 (l.take n))
    (hQ : ∀ w, Ws t B w0 w → Thus w (fun vs => wpList P l.toArray Q (l.drop n) (lay (l.take n) vs a0) w) Vs []) : (Code.region id l.toArray true).wp P Q a0 w0 := by
  have hn : n < l.length := by
    simp only [tailS, Bool.and_eq_true, decide_eq_true_eq] at hT
    exact hT.1.1.1
  have hT' := hT
  simp only [tailS, Bool.and_eq_true, decide_eq_true_eq] at hT'
  refine wp_region_any hm ?_
  have hV : ∀ i v x y, Ws t B x y → tellAt Vs i v x → tellAt Vs i v y := fun i v x y hg h => by
    unfold tellAt at h ⊢
    rcases Nat.lt_or_ge i Vs.length with hi | hi
    · have e : Vs.getD i Any_ = Vs[i] := by simp [List.getD, hi]
      rw [e] at h ⊢
      exact hlast _ (List.getElem_mem hi) v x y hg h
    · have e : Vs.getD i Any_ = Any_ := by simp [List.getD, hi]
      rw [e] at h ⊢
      exact h
  have hfin := come_tailS (P := P) (Q := Q) (md := .any) (l := l) (n := n) (V := tellAt Vs) (G := fun x y => Ws t B x y) (fun x y z h k => h.trans k) hV (a0 := a0) (w0 := w0) hb hT
    (fun i o hi ho => by
      have := doAll_at (l.take n) 0 hdo i o (by rw [List.getElem?_take, if_pos hi]; simpa using ho)
      rwa [Nat.zero_add] at this)
    (fun a w hc => by
      have hval : ∀ i, i < n → ∃ o, l[i]? = some o ∧ (o.dst.isSome = true ∨ i = pS) := fun i hi => by
        have h1 : l[i]? = some l[i] := List.getElem?_eq_getElem (by omega)
        have h2 := List.all_eq_true.1 hnone i (List.mem_range.2 hi)
        rw [h1] at h2
        simp only [Bool.or_eq_true, beq_iff_eq] at h2
        exact ⟨_, h1, h2⟩
      let vs : List Value := (List.range n).map fun i => match (l[i]?).bind (·.dst) with | some d => a.tmps.getD d undef | none => undef
      have hvl : vs.length = n := by simp [vs]
      have hvi : ∀ (i : Nat) o d, i < n → l[i]? = some o → o.dst = some d → vs.getD i undef = a.tmps.getD d undef := fun i o d hi ho hd => by
        have : vs[i]? = some (a.tmps.getD d undef) := by
          simp only [vs]
          rw [List.getElem?_map, List.getElem?_range hi]
          simp [ho, hd]
        simp [List.getD, this]
      have key := thus_at (w := w) (K := fun vs => wpList P l.toArray Q (l.drop n) (lay (l.take n) vs a0) w) Vs [] vs (hQ w hc.g) (by rw [hvl, hlen]) (fun i hi => by
        obtain ⟨o, ho, hd | hd⟩ := hval i (by omega)
        · obtain ⟨d, hd⟩ := Option.isSome_iff_exists.1 hd
          rw [hvi i o d (by omega) ho hd]
          exact hc.new i o d (by simpa using ho) (headAll_lt (by omega)) hd
        · rw [hd, hpS]
          trivial)
      rw [List.reverse_nil, List.nil_append] at key
      rw [lay_head (by omega) hb hc vs hvl hvi]
      exact key)
  have := hfin n (Array.replicate l.toArray.size false) (Array.replicate n false) a0 { w0 with drawn := w0.drawn + 1 }
    ⟨by simp, fun j oj _ hl => (by rw [getD_replicate_false] at hl; cases hl), fun t _ ht => getD_in (by simpa using ht) (getD_replicate_false _ _)⟩ (by simp)
    (fun i hi => by rw [Array.getElem?_replicate, Array.getElem?_replicate, if_pos hi, if_pos (by simp; omega)]) (by simp [List.countP_replicate])
    ⟨Ws.of_below (below_drewN (Below.refl _ _) 1), rfl, rfl, fun k _ => rfl, fun i o d ho hl => by
      exfalso
      have hi : i < l.toArray.size := (Array.getElem?_eq_some_iff.1 ho).1
      simp at hi
      simp [Array.getD, hi] at hl⟩
  rw [show n + (l.length - n) = l.toArray.size by simp; omega] at this
  exact this
end

end Go.Proofs.Ytalgkokgaibloaa

namespace Go.Proofs.Ytalgkokgaibloaa
open Go.RowKit
set_option linter.unusedVariables false

theorem array7 {α : Type} {cs : Array α} (h : cs.size = 7) : ∃ a0 a1 a2 a3 a4 a5 a6, cs = #[a0, a1, a2, a3, a4, a5, a6] := by
  obtain ⟨l⟩ := cs
  rcases l with _ | ⟨a0, _ | ⟨a1, _ | ⟨a2, _ | ⟨a3, _ | ⟨a4, _ | ⟨a5, _ | ⟨a6, _ | ⟨b, l⟩⟩⟩⟩⟩⟩⟩⟩ <;> simp at h
  exact ⟨a0, a1, a2, a3, a4, a5, a6, rfl⟩
theorem flag_eq0 {f : UInt8} (h : f = 0) : ((f.toNat : Int) == 0) = true := by rw [h]; rfl
theorem flag_ne0 {f : UInt8} (h : f ≠ 0) : ((f.toNat : Int) == 0) = false := kind_ne (m := 0) h
theorem eq_byte {k : UInt8} (m : Nat) (h : k.toNat = m) : ((k.toNat : Int) == (m : Int)) = true := by rw [h]; simp
theorem int_eq {a b : Nat} (h : a = b) : ((a : Int) == (b : Int)) = true := by rw [h]; simp
theorem int_ne {a b : Nat} (h : a ≠ b) : ((a : Int) == (b : Int)) = false := by rw [beq_eq_false_iff_ne]; omega
set_option maxRecDepth 100000 in
set_option maxHeartbeats 40000000 in
theorem bodiesCuts_many (x : AX) (cutn : Nat) (fl : UInt8) (w : World) (hx : x.In w) (hb : 2048 < x.ng ∨ 2048 < x.nu ∨ 2048 < x.ns) :
    Calls Try.prog 10 #[.agg #[.bool x.ack, .int .u32 (x.tsn : Int), .int .u16 (x.stream : Int), .int .u16 (x.ssn : Int), .bool x.un, .bool x.fi, .bool x.la, .slice x.Ad x.nd x.cd, .int .u32 (x.tag : Int), .int .u32 (x.rwnd : Int), .int .u16 (x.out : Int), .int .u16 (x.in_ : Int), .int .u32 (x.tsn2 : Int), .slice x.Ai x.ni x.ci, .int .u32 (x.cum : Int), .int .u32 (x.rwnd2 : Int), .slice x.Ag x.ng x.cg, .slice x.Au x.nu x.cu, .int .u32 (x.fcum : Int), .slice x.As x.ns x.cs, .int .i64 x.t, .int .u32 (x.cum2 : Int)], .int .u16 (cutn : Int), .int .u8 (fl.toNat : Int)] w fun e w' => e = .returned (.bool true) ∧ Below w.heap.size w w' := by
  obtain ⟨ack, tsn, stream, ssn, un, fi, la, Ad, nd, cd, ds, tag, rwnd, out, in_, tsn2, Ai, ni, ci, ck, cum, rwnd2, Ag, ng, cg, gaps, Au, nu, cu, dups, fcum, As, ns, cs, skips, t, cum2⟩ := x
  obtain ⟨h1, h2, h3, h4, h5, h6, h7, h8, h9, h10, h11, ht, h12, ⟨hd1, hd2, hdl, hdr⟩, ⟨hi1, hi2, hil, hir⟩, ⟨hg1, hg2, hgl, hgr, hgb⟩, ⟨hu1, hu2, hul, hur, hub⟩, ⟨hs1, hs2, hsl, hsr, hsb⟩⟩ := hx
  simp only at h1 h2 h3 h4 h5 h6 h7 h8 h9 h10 h11 h12 ht hd1 hd2 hdl hdr hi1 hi2 hil hir hg1 hg2 hgl hgr hgb hu1 hu2 hul hur hub hs1 hs2 hsl hsr hsb hb ⊢
  have HMN : Hid (∀ W, Calls Try.prog 28 #[.agg #[.int .u32 (cum : Int), .int .u32 (rwnd2 : Int), .slice Ag ng cg, .slice Au nu cu], .agg #[.int .u32 (fcum : Int), .slice As ns cs]] W fun e w' => e = .returned (.bool true) ∧ Below W.heap.size W w') := Lib.hid fun W => by
    have := many_any (cum : Int) (rwnd2 : Int) (fcum : Int) Ag Au As ng cg nu cu ns cs W (Nat.le_trans hg1 hg2) (Nat.le_trans hu1 hu2) (Nat.le_trans hs1 hs2)
    rwa [decide_eq_true hb] at this
  have hnd := Nat.le_trans hd1 hd2
  have hni := Nat.le_trans hi1 hi2
  unfold maxLen at hnd hni
  clear hd1 hd2 hi1 hi2 hg1 hg2 hu1 hu2 hs1 hs2 hdl hdr hil hir hgl hgr hgb hul hur hub hsl hsr hsb hb
  have b0 : Blk (w.alloc (.cells #[.bool ack, .int .u32 (tsn : Int), .int .u16 (stream : Int), .int .u16 (ssn : Int), .bool un, .bool fi, .bool la, .slice Ad nd cd, .int .u32 (tag : Int), .int .u32 (rwnd : Int), .int .u16 (out : Int), .int .u16 (in_ : Int), .int .u32 (tsn2 : Int), .slice Ai ni ci, .int .u32 (cum : Int), .int .u32 (rwnd2 : Int), .slice Ag ng cg, .slice Au nu cu, .int .u32 (fcum : Int), .slice As ns cs, .int .i64 t, .int .u32 (cum2 : Int)] 77)) w.heap.size 77 #[.bool ack, .int .u32 (tsn : Int), .int .u16 (stream : Int), .int .u16 (ssn : Int), .bool un, .bool fi, .bool la, .slice Ad nd cd, .int .u32 (tag : Int), .int .u32 (rwnd : Int), .int .u16 (out : Int), .int .u16 (in_ : Int), .int .u32 (tsn2 : Int), .slice Ai ni ci, .int .u32 (cum : Int), .int .u32 (rwnd2 : Int), .slice Ag ng cg, .slice Au nu cu, .int .u32 (fcum : Int), .slice As ns cs, .int .i64 t, .int .u32 (cum2 : Int)] := Blk.new w 77 #[.bool ack, .int .u32 (tsn : Int), .int .u16 (stream : Int), .int .u16 (ssn : Int), .bool un, .bool fi, .bool la, .slice Ad nd cd, .int .u32 (tag : Int), .int .u32 (rwnd : Int), .int .u16 (out : Int), .int .u16 (in_ : Int), .int .u32 (tsn2 : Int), .slice Ai ni ci, .int .u32 (cum : Int), .int .u32 (rwnd2 : Int), .slice Ag ng cg, .slice Au nu cu, .int .u32 (fcum : Int), .slice As ns cs, .int .i64 t, .int .u32 (cum2 : Int)]
  have K0 := Lib.hid b0
  have B0 : Hid (Below w.heap.size w (w.alloc (.cells #[.bool ack, .int .u32 (tsn : Int), .int .u16 (stream : Int), .int .u16 (ssn : Int), .bool un, .bool fi, .bool la, .slice Ad nd cd, .int .u32 (tag : Int), .int .u32 (rwnd : Int), .int .u16 (out : Int), .int .u16 (in_ : Int), .int .u32 (tsn2 : Int), .slice Ai ni ci, .int .u32 (cum : Int), .int .u32 (rwnd2 : Int), .slice Ag ng cg, .slice Au nu cu, .int .u32 (fcum : Int), .slice As ns cs, .int .i64 t, .int .u32 (cum2 : Int)] 77))) := Lib.hid (Wr.below_ ((Wr.refl 5 w.heap.size w).alloc (.cells #[.bool ack, .int .u32 (tsn : Int), .int .u16 (stream : Int), .int .u16 (ssn : Int), .bool un, .bool fi, .bool la, .slice Ad nd cd, .int .u32 (tag : Int), .int .u32 (rwnd : Int), .int .u16 (out : Int), .int .u16 (in_ : Int), .int .u32 (tsn2 : Int), .slice Ai ni ci, .int .u32 (cum : Int), .int .u32 (rwnd2 : Int), .slice Ag ng cg, .slice Au nu cu, .int .u32 (fcum : Int), .slice As ns cs, .int .i64 t, .int .u32 (cum2 : Int)] 77)) (Nat.le_refl _))
  clear b0
  go_enter Try.func10, Try.ntmps10
  rw [drawn_eq 3, drawn_eq 10, drawn_eq 21]
  go_wp2_with fail
  generalize (w.alloc (.cells #[.bool ack, .int .u32 (tsn : Int), .int .u16 (stream : Int), .int .u16 (ssn : Int), .bool un, .bool fi, .bool la, .slice Ad nd cd, .int .u32 (tag : Int), .int .u32 (rwnd : Int), .int .u16 (out : Int), .int .u16 (in_ : Int), .int .u32 (tsn2 : Int), .slice Ai ni ci, .int .u32 (cum : Int), .int .u32 (rwnd2 : Int), .slice Ag ng cg, .slice Au nu cu, .int .u32 (fcum : Int), .slice As ns cs, .int .i64 t, .int .u32 (cum2 : Int)] 77)) = v0 at K0 B0 ⊢
  refine (HMN.out v0).mono ?_
  rintro e w1 ⟨rfl, hb⟩
  have K1 := Lib.hid (K0.out.below hb K0.out.lt)
  have B1 := Lib.hid (below_then B0.out (Nat.le_refl _) hb)
  have x7 : w1.cell? ⟨w.heap.size, 7, none⟩ = some (.slice Ad nd cd) := K1.out.cell 7
  have x13 : w1.cell? ⟨w.heap.size, 13, none⟩ = some (.slice Ai ni ci) := K1.out.cell 13
  clear hb K0 B0
  go_wp2_with fail
  refine (works_any _).mono ?_
  rintro e w2 ⟨rfl, hb⟩
  go_wp2_with fail
  go_ret
  exact ⟨rfl, below_then B1.out (Nat.le_refl _) hb⟩
set_option maxRecDepth 100000 in
set_option maxHeartbeats 40000000 in
theorem bodiesCuts_init (x : AX) (cutn : Nat) (fl : UInt8) (w : World) (hx : x.In w) (hb : ¬ (2048 < x.ng ∨ 2048 < x.nu ∨ 2048 < x.ns)) (hb2 : 8192 < x.ni) :
    Calls Try.prog 10 #[.agg #[.bool x.ack, .int .u32 (x.tsn : Int), .int .u16 (x.stream : Int), .int .u16 (x.ssn : Int), .bool x.un, .bool x.fi, .bool x.la, .slice x.Ad x.nd x.cd, .int .u32 (x.tag : Int), .int .u32 (x.rwnd : Int), .int .u16 (x.out : Int), .int .u16 (x.in_ : Int), .int .u32 (x.tsn2 : Int), .slice x.Ai x.ni x.ci, .int .u32 (x.cum : Int), .int .u32 (x.rwnd2 : Int), .slice x.Ag x.ng x.cg, .slice x.Au x.nu x.cu, .int .u32 (x.fcum : Int), .slice x.As x.ns x.cs, .int .i64 x.t, .int .u32 (x.cum2 : Int)], .int .u16 (cutn : Int), .int .u8 (fl.toNat : Int)] w fun e w' => e = .returned (.bool true) ∧ Below w.heap.size w w' := by
  obtain ⟨ack, tsn, stream, ssn, un, fi, la, Ad, nd, cd, ds, tag, rwnd, out, in_, tsn2, Ai, ni, ci, ck, cum, rwnd2, Ag, ng, cg, gaps, Au, nu, cu, dups, fcum, As, ns, cs, skips, t, cum2⟩ := x
  obtain ⟨h1, h2, h3, h4, h5, h6, h7, h8, h9, h10, h11, ht, h12, ⟨hd1, hd2, hdl, hdr⟩, ⟨hi1, hi2, hil, hir⟩, ⟨hg1, hg2, hgl, hgr, hgb⟩, ⟨hu1, hu2, hul, hur, hub⟩, ⟨hs1, hs2, hsl, hsr, hsb⟩⟩ := hx
  simp only at h1 h2 h3 h4 h5 h6 h7 h8 h9 h10 h11 h12 ht hd1 hd2 hdl hdr hi1 hi2 hil hir hg1 hg2 hgl hgr hgb hu1 hu2 hul hur hub hs1 hs2 hsl hsr hsb hb hb2 ⊢
  have HMN : Hid (∀ W, Calls Try.prog 28 #[.agg #[.int .u32 (cum : Int), .int .u32 (rwnd2 : Int), .slice Ag ng cg, .slice Au nu cu], .agg #[.int .u32 (fcum : Int), .slice As ns cs]] W fun e w' => e = .returned (.bool false) ∧ Below W.heap.size W w') := Lib.hid fun W => by
    have := many_any (cum : Int) (rwnd2 : Int) (fcum : Int) Ag Au As ng cg nu cu ns cs W (Nat.le_trans hg1 hg2) (Nat.le_trans hu1 hu2) (Nat.le_trans hs1 hs2)
    rwa [decide_eq_false hb] at this
  have hnd := Nat.le_trans hd1 hd2
  have hni := Nat.le_trans hi1 hi2
  unfold maxLen at hnd hni
  clear hd1 hd2 hi1 hi2 hg1 hg2 hu1 hu2 hs1 hs2 hdl hdr hil hir hgl hgr hgb hul hur hub hsl hsr hsb hb
  have b0 : Blk (w.alloc (.cells #[.bool ack, .int .u32 (tsn : Int), .int .u16 (stream : Int), .int .u16 (ssn : Int), .bool un, .bool fi, .bool la, .slice Ad nd cd, .int .u32 (tag : Int), .int .u32 (rwnd : Int), .int .u16 (out : Int), .int .u16 (in_ : Int), .int .u32 (tsn2 : Int), .slice Ai ni ci, .int .u32 (cum : Int), .int .u32 (rwnd2 : Int), .slice Ag ng cg, .slice Au nu cu, .int .u32 (fcum : Int), .slice As ns cs, .int .i64 t, .int .u32 (cum2 : Int)] 77)) w.heap.size 77 #[.bool ack, .int .u32 (tsn : Int), .int .u16 (stream : Int), .int .u16 (ssn : Int), .bool un, .bool fi, .bool la, .slice Ad nd cd, .int .u32 (tag : Int), .int .u32 (rwnd : Int), .int .u16 (out : Int), .int .u16 (in_ : Int), .int .u32 (tsn2 : Int), .slice Ai ni ci, .int .u32 (cum : Int), .int .u32 (rwnd2 : Int), .slice Ag ng cg, .slice Au nu cu, .int .u32 (fcum : Int), .slice As ns cs, .int .i64 t, .int .u32 (cum2 : Int)] := Blk.new w 77 #[.bool ack, .int .u32 (tsn : Int), .int .u16 (stream : Int), .int .u16 (ssn : Int), .bool un, .bool fi, .bool la, .slice Ad nd cd, .int .u32 (tag : Int), .int .u32 (rwnd : Int), .int .u16 (out : Int), .int .u16 (in_ : Int), .int .u32 (tsn2 : Int), .slice Ai ni ci, .int .u32 (cum : Int), .int .u32 (rwnd2 : Int), .slice Ag ng cg, .slice Au nu cu, .int .u32 (fcum : Int), .slice As ns cs, .int .i64 t, .int .u32 (cum2 : Int)]
  have K0 := Lib.hid b0
  have B0 : Hid (Below w.heap.size w (w.alloc (.cells #[.bool ack, .int .u32 (tsn : Int), .int .u16 (stream : Int), .int .u16 (ssn : Int), .bool un, .bool fi, .bool la, .slice Ad nd cd, .int .u32 (tag : Int), .int .u32 (rwnd : Int), .int .u16 (out : Int), .int .u16 (in_ : Int), .int .u32 (tsn2 : Int), .slice Ai ni ci, .int .u32 (cum : Int), .int .u32 (rwnd2 : Int), .slice Ag ng cg, .slice Au nu cu, .int .u32 (fcum : Int), .slice As ns cs, .int .i64 t, .int .u32 (cum2 : Int)] 77))) := Lib.hid (Wr.below_ ((Wr.refl 5 w.heap.size w).alloc (.cells #[.bool ack, .int .u32 (tsn : Int), .int .u16 (stream : Int), .int .u16 (ssn : Int), .bool un, .bool fi, .bool la, .slice Ad nd cd, .int .u32 (tag : Int), .int .u32 (rwnd : Int), .int .u16 (out : Int), .int .u16 (in_ : Int), .int .u32 (tsn2 : Int), .slice Ai ni ci, .int .u32 (cum : Int), .int .u32 (rwnd2 : Int), .slice Ag ng cg, .slice Au nu cu, .int .u32 (fcum : Int), .slice As ns cs, .int .i64 t, .int .u32 (cum2 : Int)] 77)) (Nat.le_refl _))
  clear b0
  go_enter Try.func10, Try.ntmps10
  rw [drawn_eq 3, drawn_eq 10, drawn_eq 21]
  go_wp2_with fail
  generalize (w.alloc (.cells #[.bool ack, .int .u32 (tsn : Int), .int .u16 (stream : Int), .int .u16 (ssn : Int), .bool un, .bool fi, .bool la, .slice Ad nd cd, .int .u32 (tag : Int), .int .u32 (rwnd : Int), .int .u16 (out : Int), .int .u16 (in_ : Int), .int .u32 (tsn2 : Int), .slice Ai ni ci, .int .u32 (cum : Int), .int .u32 (rwnd2 : Int), .slice Ag ng cg, .slice Au nu cu, .int .u32 (fcum : Int), .slice As ns cs, .int .i64 t, .int .u32 (cum2 : Int)] 77)) = v0 at K0 B0 ⊢
  refine (HMN.out v0).mono ?_
  rintro e w1 ⟨rfl, hb⟩
  have K1 := Lib.hid (K0.out.below hb K0.out.lt)
  have B1 := Lib.hid (below_then B0.out (Nat.le_refl _) hb)
  have x7 : w1.cell? ⟨w.heap.size, 7, none⟩ = some (.slice Ad nd cd) := K1.out.cell 7
  have x13 : w1.cell? ⟨w.heap.size, 13, none⟩ = some (.slice Ai ni ci) := K1.out.cell 13
  clear hb K0 B0
  go_wp2_with fail
  refine (works_any _).mono ?_
  rintro e w2 ⟨rfl, hb⟩
  go_wp2_with fail
  go_ret
  exact ⟨rfl, below_then B1.out (Nat.le_refl _) hb⟩
set_option maxRecDepth 100000 in
set_option maxHeartbeats 40000000 in
theorem bodiesCuts_data (x : AX) (cutn : Nat) (fl : UInt8) (w : World) (hx : x.In w) (hb : ¬ (2048 < x.ng ∨ 2048 < x.nu ∨ 2048 < x.ns)) (hb2 : x.ni ≤ 8192) (hb3 : 8192 < x.nd) :
    Calls Try.prog 10 #[.agg #[.bool x.ack, .int .u32 (x.tsn : Int), .int .u16 (x.stream : Int), .int .u16 (x.ssn : Int), .bool x.un, .bool x.fi, .bool x.la, .slice x.Ad x.nd x.cd, .int .u32 (x.tag : Int), .int .u32 (x.rwnd : Int), .int .u16 (x.out : Int), .int .u16 (x.in_ : Int), .int .u32 (x.tsn2 : Int), .slice x.Ai x.ni x.ci, .int .u32 (x.cum : Int), .int .u32 (x.rwnd2 : Int), .slice x.Ag x.ng x.cg, .slice x.Au x.nu x.cu, .int .u32 (x.fcum : Int), .slice x.As x.ns x.cs, .int .i64 x.t, .int .u32 (x.cum2 : Int)], .int .u16 (cutn : Int), .int .u8 (fl.toNat : Int)] w fun e w' => e = .returned (.bool true) ∧ Below w.heap.size w w' := by
  obtain ⟨ack, tsn, stream, ssn, un, fi, la, Ad, nd, cd, ds, tag, rwnd, out, in_, tsn2, Ai, ni, ci, ck, cum, rwnd2, Ag, ng, cg, gaps, Au, nu, cu, dups, fcum, As, ns, cs, skips, t, cum2⟩ := x
  obtain ⟨h1, h2, h3, h4, h5, h6, h7, h8, h9, h10, h11, ht, h12, ⟨hd1, hd2, hdl, hdr⟩, ⟨hi1, hi2, hil, hir⟩, ⟨hg1, hg2, hgl, hgr, hgb⟩, ⟨hu1, hu2, hul, hur, hub⟩, ⟨hs1, hs2, hsl, hsr, hsb⟩⟩ := hx
  simp only at h1 h2 h3 h4 h5 h6 h7 h8 h9 h10 h11 h12 ht hd1 hd2 hdl hdr hi1 hi2 hil hir hg1 hg2 hgl hgr hgb hu1 hu2 hul hur hub hs1 hs2 hsl hsr hsb hb hb2 hb3 ⊢
  have HMN : Hid (∀ W, Calls Try.prog 28 #[.agg #[.int .u32 (cum : Int), .int .u32 (rwnd2 : Int), .slice Ag ng cg, .slice Au nu cu], .agg #[.int .u32 (fcum : Int), .slice As ns cs]] W fun e w' => e = .returned (.bool false) ∧ Below W.heap.size W w') := Lib.hid fun W => by
    have := many_any (cum : Int) (rwnd2 : Int) (fcum : Int) Ag Au As ng cg nu cu ns cs W (Nat.le_trans hg1 hg2) (Nat.le_trans hu1 hu2) (Nat.le_trans hs1 hs2)
    rwa [decide_eq_false hb] at this
  have hnd := Nat.le_trans hd1 hd2
  have hni := Nat.le_trans hi1 hi2
  unfold maxLen at hnd hni
  clear hd1 hd2 hi1 hi2 hg1 hg2 hu1 hu2 hs1 hs2 hdl hdr hil hir hgl hgr hgb hul hur hub hsl hsr hsb hb
  have b0 : Blk (w.alloc (.cells #[.bool ack, .int .u32 (tsn : Int), .int .u16 (stream : Int), .int .u16 (ssn : Int), .bool un, .bool fi, .bool la, .slice Ad nd cd, .int .u32 (tag : Int), .int .u32 (rwnd : Int), .int .u16 (out : Int), .int .u16 (in_ : Int), .int .u32 (tsn2 : Int), .slice Ai ni ci, .int .u32 (cum : Int), .int .u32 (rwnd2 : Int), .slice Ag ng cg, .slice Au nu cu, .int .u32 (fcum : Int), .slice As ns cs, .int .i64 t, .int .u32 (cum2 : Int)] 77)) w.heap.size 77 #[.bool ack, .int .u32 (tsn : Int), .int .u16 (stream : Int), .int .u16 (ssn : Int), .bool un, .bool fi, .bool la, .slice Ad nd cd, .int .u32 (tag : Int), .int .u32 (rwnd : Int), .int .u16 (out : Int), .int .u16 (in_ : Int), .int .u32 (tsn2 : Int), .slice Ai ni ci, .int .u32 (cum : Int), .int .u32 (rwnd2 : Int), .slice Ag ng cg, .slice Au nu cu, .int .u32 (fcum : Int), .slice As ns cs, .int .i64 t, .int .u32 (cum2 : Int)] := Blk.new w 77 #[.bool ack, .int .u32 (tsn : Int), .int .u16 (stream : Int), .int .u16 (ssn : Int), .bool un, .bool fi, .bool la, .slice Ad nd cd, .int .u32 (tag : Int), .int .u32 (rwnd : Int), .int .u16 (out : Int), .int .u16 (in_ : Int), .int .u32 (tsn2 : Int), .slice Ai ni ci, .int .u32 (cum : Int), .int .u32 (rwnd2 : Int), .slice Ag ng cg, .slice Au nu cu, .int .u32 (fcum : Int), .slice As ns cs, .int .i64 t, .int .u32 (cum2 : Int)]
  have K0 := Lib.hid b0
  have B0 : Hid (Below w.heap.size w (w.alloc (.cells #[.bool ack, .int .u32 (tsn : Int), .int .u16 (stream : Int), .int .u16 (ssn : Int), .bool un, .bool fi, .bool la, .slice Ad nd cd, .int .u32 (tag : Int), .int .u32 (rwnd : Int), .int .u16 (out : Int), .int .u16 (in_ : Int), .int .u32 (tsn2 : Int), .slice Ai ni ci, .int .u32 (cum : Int), .int .u32 (rwnd2 : Int), .slice Ag ng cg, .slice Au nu cu, .int .u32 (fcum : Int), .slice As ns cs, .int .i64 t, .int .u32 (cum2 : Int)] 77))) := Lib.hid (Wr.below_ ((Wr.refl 5 w.heap.size w).alloc (.cells #[.bool ack, .int .u32 (tsn : Int), .int .u16 (stream : Int), .int .u16 (ssn : Int), .bool un, .bool fi, .bool la, .slice Ad nd cd, .int .u32 (tag : Int), .int .u32 (rwnd : Int), .int .u16 (out : Int), .int .u16 (in_ : Int), .int .u32 (tsn2 : Int), .slice Ai ni ci, .int .u32 (cum : Int), .int .u32 (rwnd2 : Int), .slice Ag ng cg, .slice Au nu cu, .int .u32 (fcum : Int), .slice As ns cs, .int .i64 t, .int .u32 (cum2 : Int)] 77)) (Nat.le_refl _))
  clear b0
  go_enter Try.func10, Try.ntmps10
  rw [drawn_eq 3, drawn_eq 10, drawn_eq 21]
  go_wp2_with fail
  generalize (w.alloc (.cells #[.bool ack, .int .u32 (tsn : Int), .int .u16 (stream : Int), .int .u16 (ssn : Int), .bool un, .bool fi, .bool la, .slice Ad nd cd, .int .u32 (tag : Int), .int .u32 (rwnd : Int), .int .u16 (out : Int), .int .u16 (in_ : Int), .int .u32 (tsn2 : Int), .slice Ai ni ci, .int .u32 (cum : Int), .int .u32 (rwnd2 : Int), .slice Ag ng cg, .slice Au nu cu, .int .u32 (fcum : Int), .slice As ns cs, .int .i64 t, .int .u32 (cum2 : Int)] 77)) = v0 at K0 B0 ⊢
  refine (HMN.out v0).mono ?_
  rintro e w1 ⟨rfl, hb⟩
  have K1 := Lib.hid (K0.out.below hb K0.out.lt)
  have B1 := Lib.hid (below_then B0.out (Nat.le_refl _) hb)
  have x7 : w1.cell? ⟨w.heap.size, 7, none⟩ = some (.slice Ad nd cd) := K1.out.cell 7
  have x13 : w1.cell? ⟨w.heap.size, 13, none⟩ = some (.slice Ai ni ci) := K1.out.cell 13
  clear hb K0 B0
  go_wp2_with fail
  refine (works_any _).mono ?_
  rintro e w2 ⟨rfl, hb⟩
  go_wp2_with fail
  go_ret
  exact ⟨rfl, below_then B1.out (Nat.le_refl _) hb⟩
end Go.Proofs.Ytalgkokgaibloaa
