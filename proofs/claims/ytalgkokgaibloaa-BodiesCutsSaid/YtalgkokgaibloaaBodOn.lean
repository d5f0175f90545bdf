/-
  Layer 9: what a Get takes is put again as that chunk.
-/
import Derived.Test.YtalgkokgaibloaaBodZ
import Derived.Test.YtalgkokgaibloaaBodI
namespace Go.Proofs.Ytalgkokgaibloaa
open Go.RowKit
set_option linter.unusedVariables false

theorem onD (k f : UInt8) (A : Option Addr) (n c : Nat) (xs : List UInt8) (hn : n ≤ 131072) (hc : n ≤ c) (hcm : c ≤ maxLen) (hx : xs.length = n) (hok : okD k f xs = true) : ∃ (d0 d1 d2 : Nat) (d3 d4 d5 : Bool) (DS : List UInt8), (∀ W : World, Rd W W.heap.size A xs → Calls Try.prog 16 #[.agg #[.int .u8 (k.toNat : Int), .int .u8 (f.toNat : Int), .slice A n c]] W fun e w' => ∃ AD mD cD, e = .returned (.tuple #[.agg #[.int .u32 (d0 : Int), .int .u16 (d1 : Int), .int .u16 (d2 : Int), .bool d3, .bool d4, .bool d5, .slice AD mD cD], .int .i64 0]) ∧ (Own8 w' 5 W.heap.size AD mD cD DS) ∧ Below W.heap.size W w') ∧ (∀ (W : World) (AD : Option Addr) (mD cD : Nat) (b : Nat), (Own8 W 5 b AD mD cD DS) → Puts 15 #[.agg #[.int .u32 (d0 : Int), .int .u16 (d1 : Int), .int .u16 (d2 : Int), .bool d3, .bool d4, .bool d5, .slice AD mD cD]] k f xs W) := by
  have h := hok
  unfold okD at h
  simp only [Bool.and_eq_true, decide_eq_true_eq] at h
  obtain ⟨h13, hk, hf, hb⟩ := h
  subst hk
  have h2 : ansD 0 f xs = parseD f xs := by unfold ansD; rw [hok]; rfl
  have hl := length_bodyD (parseD f xs)
  rw [← hb] at hl
  refine ⟨(parseD f xs).tsn, (parseD f xs).stream, (parseD f xs).ssn, (parseD f xs).un, (parseD f xs).fi, (parseD f xs).la, (parseD f xs).bytes, fun W hr => ?_, ?_⟩
  · exact (getData_any 0 f A n c xs W (by omega) hc hcm hx hr).mono fun e w' ⟨A, m, c, he, ho, hbw⟩ => by
      rw [hok, h2] at he
      rw [h2] at ho
      exact ⟨A, m, c, he, ho, hbw⟩
  · intro W AD mD cD b ho
    have hlen := ho.len
    have hp := putData_any (parseD f xs).tsn (parseD f xs).stream (parseD f xs).ssn (parseD f xs).un (parseD f xs).fi (parseD f xs).la (parseD f xs).bytes (parse_ok f xs).tsn (parse_ok f xs).stream (parse_ok f xs).ssn AD mD cD W (by omega) hlen ho.rd
    have hb2 : bodyD ⟨(parseD f xs).tsn, (parseD f xs).stream, (parseD f xs).ssn, (parseD f xs).un, (parseD f xs).fi, (parseD f xs).la, (parseD f xs).bytes⟩ = xs := hb.symm
    rw [← hf, hb2] at hp
    exact hp
theorem onI (k f : UInt8) (A : Option Addr) (n c : Nat) (xs : List UInt8) (hn : n ≤ 131072) (hc : n ≤ c) (hcm : c ≤ maxLen) (hx : xs.length = n) (hok : okI k f xs = true) : ∃ (i0 i1 i2 i3 i4 : Nat) (IS : List UInt8), (∀ W : World, Rd W W.heap.size A xs → Calls Try.prog 24 #[.agg #[.int .u8 (k.toNat : Int), .int .u8 (f.toNat : Int), .slice A n c]] W fun e w' => ∃ AI mI cI, e = .returned (.tuple #[.agg #[.int .u32 (i0 : Int), .int .u32 (i1 : Int), .int .u16 (i2 : Int), .int .u16 (i3 : Int), .int .u32 (i4 : Int), .slice AI mI cI], .int .i64 0]) ∧ (Own8 w' 5 W.heap.size AI mI cI IS) ∧ Below W.heap.size W w') ∧ (∀ (W : World) (AI : Option Addr) (mI cI : Nat) (b : Nat), (Own8 W 5 b AI mI cI IS) → Puts 23 #[.int .u8 (k.toNat : Int), .agg #[.int .u32 (i0 : Int), .int .u32 (i1 : Int), .int .u16 (i2 : Int), .int .u16 (i3 : Int), .int .u32 (i4 : Int), .slice AI mI cI]] k f xs W) := by
  have h := hok
  unfold okI at h
  simp only [Bool.and_eq_true, decide_eq_true_eq] at h
  obtain ⟨hv, _, hf, hb⟩ := h
  subst hf
  have h2 : ansI k 0 xs = PI k xs := by unfold ansI; rw [hok]; rfl
  have hl := (cookieOf_le k xs).1
  refine ⟨(PI k xs).tag, (PI k xs).rwnd, (PI k xs).out, (PI k xs).in_, (PI k xs).tsn, (PI k xs).cookie, fun W hr => ?_, ?_⟩
  · exact (getInit_any k 0 A n c xs W (by omega) hc hcm hx hr).mono fun e w' ⟨A, m, c, he, ho, hbw⟩ => by
      rw [hok, h2] at he
      rw [h2] at ho
      exact ⟨A, m, c, he, ho, hbw⟩
  · intro W AI mI cI b ho
    have hlen := ho.len
    have hl2 : (PI k xs).cookie.length ≤ 65531 := hl
    have hp := putInit_any k (PI k xs).tag (PI k xs).rwnd (PI k xs).out (PI k xs).in_ (PI k xs).tsn (PI k xs).cookie (PI_ok k xs).tag (PI_ok k xs).rwnd (PI_ok k xs).out (PI_ok k xs).in_ (PI_ok k xs).tsn AI mI cI W (by omega) hlen ho.rd
    have hb2 : bodyI k ⟨(PI k xs).tag, (PI k xs).rwnd, (PI k xs).out, (PI k xs).in_, (PI k xs).tsn, (PI k xs).cookie⟩ = xs := hb.symm
    rw [hb2] at hp
    exact hp
theorem onS (k f : UInt8) (A : Option Addr) (n c : Nat) (xs : List UInt8) (hn : n ≤ 131072) (hc : n ≤ c) (hcm : c ≤ maxLen) (hx : xs.length = n) (hok : okS k f xs = true) : ∃ (s0 s1 : Nat) (GS : List (Nat × Nat)) (US : List Nat), (∀ W : World, Rd W W.heap.size A xs → Calls Try.prog 30 #[.agg #[.int .u8 (k.toNat : Int), .int .u8 (f.toNat : Int), .slice A n c]] W fun e w' => ∃ AS mS cS AU mU cU, e = .returned (.tuple #[.agg #[.int .u32 (s0 : Int), .int .u32 (s1 : Int), .slice AS mS cS, .slice AU mU cU], .int .i64 0]) ∧ (Og w' 79 W.heap.size (.slice AS mS cS) GS ∧ mS = GS.length ∧ Ow w' 22 W.heap.size (.slice AU mU cU) (ints US) ∧ mU = US.length) ∧ Below W.heap.size W w') ∧ (∀ (W : World) (AS : Option Addr) (mS cS : Nat) (AU : Option Addr) (mU cU : Nat) (b : Nat), (Og W 79 b (.slice AS mS cS) GS ∧ mS = GS.length ∧ Ow W 22 b (.slice AU mU cU) (ints US) ∧ mU = US.length) → Puts 29 #[.agg #[.int .u32 (s0 : Int), .int .u32 (s1 : Int), .slice AS mS cS, .slice AU mU cU]] k f xs W) := by
  have h := hok
  unfold okS at h
  simp only [Bool.and_eq_true, decide_eq_true_eq] at h
  obtain ⟨hv, hk, hf, hb⟩ := h
  subst hk hf
  have h2 : ansS 3 0 xs = parseS xs := by unfold ansS; rw [hok]; rfl
  have hl := length_bodyS (parseS xs)
  rw [← hb] at hl
  refine ⟨(parseS xs).cum, (parseS xs).rwnd, (parseS xs).gaps, (parseS xs).dups, fun W hr => ?_, ?_⟩
  · exact (getSack_any 3 0 A n c xs W (by omega) hc hcm hx hr).mono fun e w' ⟨A, m, c, A', m', c', he, ho, hm, hp, hm', hbw⟩ => by
      rw [hok, h2] at he
      rw [h2] at ho hm hp hm'
      exact ⟨A, m, c, A', m', c', he, ⟨ho, hm, hp, hm'⟩, hbw⟩
  · rintro W AS mS cS AU mU cU b ⟨ho, hm, hp, hm2⟩
    have hp := putSack_any (parseS xs).cum (parseS xs).rwnd (parseS xs).gaps (parseS xs).dups (parseS_ok xs).cum (parseS_ok xs).rwnd (parseS_ok xs).gaps (parseS_ok xs).dups AS AU mS cS mU cU W (by omega) (by omega) hm.symm hm2.symm ho.rg hp.ri
    have hb2 : bodyS ⟨(parseS xs).cum, (parseS xs).rwnd, (parseS xs).gaps, (parseS xs).dups⟩ = xs := hb.symm
    rw [hb2] at hp
    exact hp
theorem onF (k f : UInt8) (A : Option Addr) (n c : Nat) (xs : List UInt8) (hn : n ≤ 131072) (hc : n ≤ c) (hcm : c ≤ maxLen) (hx : xs.length = n) (hok : okF k f xs = true) : ∃ (f0 : Nat) (FS : List (Nat × Nat)), (∀ W : World, Rd W W.heap.size A xs → Calls Try.prog 35 #[.agg #[.int .u8 (k.toNat : Int), .int .u8 (f.toNat : Int), .slice A n c]] W fun e w' => ∃ AF mF cF, e = .returned (.tuple #[.agg #[.int .u32 (f0 : Int), .slice AF mF cF], .int .i64 0]) ∧ (Og w' 104 W.heap.size (.slice AF mF cF) FS ∧ mF = FS.length) ∧ Below W.heap.size W w') ∧ (∀ (W : World) (AF : Option Addr) (mF cF : Nat) (b : Nat), (Og W 104 b (.slice AF mF cF) FS ∧ mF = FS.length) → Puts 34 #[.agg #[.int .u32 (f0 : Int), .slice AF mF cF]] k f xs W) := by
  have h := hok
  unfold okF at h
  simp only [decide_eq_true_eq] at h
  obtain ⟨hk, hf, hb⟩ := h
  subst hk hf
  have h2 : ansF 192 0 xs = parseF xs := by unfold ansF; rw [hok]; rfl
  have hl := length_bodyF (parseF xs)
  rw [← hb] at hl
  refine ⟨(parseF xs).cum, (parseF xs).skips, fun W hr => ?_, ?_⟩
  · exact (getForward_any 192 0 A n c xs W (by omega) hc hcm hx hr).mono fun e w' ⟨A, m, c, he, ho, hm, hbw⟩ => by
      rw [hok, h2] at he
      rw [h2] at ho hm
      exact ⟨A, m, c, he, ⟨ho, hm⟩, hbw⟩
  · rintro W AF mF cF b ⟨ho, hm⟩
    have hp := putForward_any (parseF xs).cum (parseF xs).skips (parseF_ok xs).cum (parseF_ok xs).skips AF mF cF W (by omega) hm.symm ho.rg
    have hb2 : bodyF ⟨(parseF xs).cum, (parseF xs).skips⟩ = xs := hb.symm
    rw [hb2] at hp
    exact hp
theorem onT (k f : UInt8) (A : Option Addr) (n c : Nat) (xs : List UInt8) (hn : n ≤ 131072) (hc : n ≤ c) (hcm : c ≤ maxLen) (hx : xs.length = n) (hok : okT k f xs = true) : ∃ (t0 : Int), (∀ W : World, Rd W W.heap.size A xs → Calls Try.prog 39 #[.agg #[.int .u8 (k.toNat : Int), .int .u8 (f.toNat : Int), .slice A n c]] W fun e w' => e = .returned (.tuple #[.int .i64 t0, .int .i64 0]) ∧ Below W.heap.size W w') ∧ (∀ (W : World) , Puts 43 #[.int .u8 (k.toNat : Int), .int .i64 t0] k f xs W) := by
  have h := hok
  unfold okT at h
  simp only [Bool.and_eq_true, decide_eq_true_eq] at h
  obtain ⟨hv, _, hf, hb⟩ := h
  subst hf
  have h2 : ansT k 0 xs = s64 (numO xs 4 8) := by unfold ansT; rw [hok]; rfl
  refine ⟨s64 (numO xs 4 8), fun W hr => ?_, fun W => ?_⟩
  · exact (getTime_any k 0 A n c xs W (by omega) hc hcm hx hr).mono fun e w' ⟨he, hbw⟩ => by
      rw [hok, h2] at he
      exact ⟨he, hbw⟩
  · have hp := putTime_any k (s64 (numO xs 4 8)) (s64_bd (numO_lt xs 4 8)) W
    rw [s64_back (numO_lt xs 4 8), ← hb] at hp
    exact hp
theorem onC (k f : UInt8) (A : Option Addr) (n c : Nat) (xs : List UInt8) (hn : n ≤ 131072) (hc : n ≤ c) (hcm : c ≤ maxLen) (hx : xs.length = n) (hok : okC k f xs = true) : ∃ (c0 : Nat), (∀ W : World, Rd W W.heap.size A xs → Calls Try.prog 41 #[.agg #[.int .u8 (k.toNat : Int), .int .u8 (f.toNat : Int), .slice A n c]] W fun e w' => e = .returned (.tuple #[.int .u32 (c0 : Int), .int .i64 0]) ∧ Below W.heap.size W w') ∧ (∀ (W : World) , Puts 45 #[.int .u32 (c0 : Int)] k f xs W) := by
  have h := hok
  unfold okC at h
  simp only [decide_eq_true_eq] at h
  obtain ⟨hk, hf, hb⟩ := h
  subst hk hf
  have h2 : ansC 7 0 xs = numO xs 0 4 := by unfold ansC; rw [hok]; rfl
  refine ⟨numO xs 0 4, fun W hr => ?_, fun W => ?_⟩
  · exact (getCum_any 7 0 A n c xs W (by omega) hc hcm hx hr).mono fun e w' ⟨he, hbw⟩ => by
      rw [hok, h2] at he
      exact ⟨he, hbw⟩
  · have hp := putCum_any (numO xs 0 4) (numO_lt xs 0 4) W
    rw [← hb] at hp
    exact hp
end Go.Proofs.Ytalgkokgaibloaa
