/-
  The statement 'BodiesBack' holds: for every input the law returns true, and each argument reads behind the call as it did. Conditions: none but the row's own.
-/
import Derived.Test.YtalgkokgaibloaaBodL6d
import Derived.Test.YtalgkokgaibloaaFrameAll
namespace Go.Proofs.Ytalgkokgaibloaa
open Go.RowKit
set_option linter.unusedVariables false

set_option maxRecDepth 100000 in
theorem bodiesBack_walk (x : AX) (w : World) (hx : x.In w) :
    Calls Try.prog 8 #[.agg #[.bool x.ack, .int .u32 (x.tsn : Int), .int .u16 (x.stream : Int), .int .u16 (x.ssn : Int), .bool x.un, .bool x.fi, .bool x.la, .slice x.Ad x.nd x.cd, .int .u32 (x.tag : Int), .int .u32 (x.rwnd : Int), .int .u16 (x.out : Int), .int .u16 (x.in_ : Int), .int .u32 (x.tsn2 : Int), .slice x.Ai x.ni x.ci, .int .u32 (x.cum : Int), .int .u32 (x.rwnd2 : Int), .slice x.Ag x.ng x.cg, .slice x.Au x.nu x.cu, .int .u32 (x.fcum : Int), .slice x.As x.ns x.cs, .int .i64 x.t, .int .u32 (x.cum2 : Int)]] w fun e w' => e = .returned (.bool true) ∧ Below w.heap.size w w' := by
  by_cases hb : 2048 < x.ng ∨ 2048 < x.nu ∨ 2048 < x.ns
  · exact bodiesBack_many x w hx hb
  · by_cases hb2 : 8192 < x.nd
    · exact bodiesBack_data x w hx hb hb2
    · by_cases hb3 : 8192 < x.ni
      · exact bodiesBack_init x w hx hb (by omega) hb3
      · rcases Bool.eq_false_or_eq_true x.ack with hv | hv
        rotate_left
        · by_cases h0 : x.ni = 0
          · exact bodiesBack_no0 x w hx hb (by omega) (by omega) hv h0
          · exact bodiesBack_no1 x w hx hb (by omega) (by omega) hv (by omega)
        · by_cases h0 : x.ni = 0
          · exact bodiesBack_ack0 x w hx hb (by omega) (by omega) hv h0
          · exact bodiesBack_ack1 x w hx hb (by omega) (by omega) hv (by omega)
end Go.Proofs.Ytalgkokgaibloaa

namespace Go.Proofs.Ytalgkokgaibloaa.bodiesBack
open Go.ChangeShapes Go.WideShapes Go.ChangeAt Go.RowKit
open Go.ChangeMaps (open_string shut_string)
open Go.Joins
set_option linter.unusedVariables false

theorem own : ownKnob Try.prog.godebug = none := by kernel_rfl
theorem laidOut : laidOutB Try.prog = true := by kernel_rfl

set_option maxRecDepth 100000 in
theorem lifted (os : Os) (started : os.Started) (H : Type) (enc : TypeId × Value → H) :
    ReturnsInHanded {} Try.checked os 8 .any (Rows.bodiesBackSpec.pre6 enc Try.prog Try.f8 Rows.bodiesBackRow.domain false) (Rows.bodiesBackSpec.post enc Try.prog Try.f8 false true false false) := by
  refine returnsInHanded_of_change (C := Try.checked) own started (by kernel_rfl) Try.func8
    (ChangeSpec.witness6 (enc := enc) (C := Try.checked) false ⟨#[], #[.agg #[.bool false, .int .u32 0, .int .u16 0, .int .u16 0, .bool false, .bool false, .bool false, .slice none 0 0, .int .u32 0, .int .u32 0, .int .u16 0, .int .u16 0, .int .u32 0, .slice none 0 0, .int .u32 0, .int .u32 0, .slice none 0 0, .slice none 0 0, .int .u32 0, .slice none 0 0, .int .i64 0, .int .u32 0]], []⟩ 8 (by kernel_rfl) (by kernel_rfl) (by kernel_rfl) (by kernel_rfl)) ?_
  intro W base args ds gs before hval0 hW hcnd _
  have hval : ∀ (j : Nat) t v, Try.f8.params[j]? = some t → args[j]? = some v → Value.okWide Try.prog W .any base t v := hval0
  have hW' := hW
  obtain ⟨p, q, hA0, hV, rfl, hfz, hnd⟩ := hW
  have hA : DataW.TrodAll enc Try.prog W 0 (fun _ => true) true Try.f8.params.toList args.toList ds p := hA0
  rw [Try.params8] at hA hval
  obtain ⟨v0, vs0, d0, ds0, p0, q0, hargs, rfl, rfl, h0, r0⟩ := trodAll_cons hA
  obtain ⟨rfl, rfl, rfl⟩ := trodAll_nil r0
  obtain rfl : args = #[v0] := by cases args; simp_all
  obtain ⟨rfl, rfl⟩ := trodVars_none hV
  have k0 := h0
  have lt0 : ∀ x ∈ p0, x.block < W.heap.size := by obtain ⟨m, hm⟩ := k0; exact DataW.trod_lt m _ _ _ hm
  obtain ⟨x0, rfl, w0⟩ := open_all (hval 0 77 v0 rfl rfl) h0
  clear hA0 hval0
  refine (bodiesBack_walk x0 W w0).mono fun e W' ⟨he, bel⟩ => ?_
  subst he
  exact ⟨_, rfl, _, _, _, [], _, [], hW', trodAll_mk1 (shut_bool Try.underlying4 _), (trodAll_cons_mk (Below.trod laidOut (by kernel_rfl) (of_decide_eq_true (by kernel_rfl)) k0 bel lt0) trodAll_mk0), rfl, bel.frame _, fun h => by cases h⟩

theorem over : Rows.bodiesBackRow.holds Try.pinned (OpenSpec.ofChange Rows.bodiesBackSpec) :=
  OpenClaim.holds_of_wide 8 Try.f8 rfl rfl rfl rfl rfl rfl rfl ⟨rfl, rfl, rfl, rfl, rfl⟩ rfl rfl rfl rfl rfl (by kernel_rfl) Try.func8 (by kernel_rfl)
    (of_decide_eq_true (by kernel_rfl)) (by unfold Func.isWrapper; first | (rw [if_pos (by decide +kernel)]; kernel_rfl) | (rw [if_neg (by decide +kernel)]; exact ⟨rfl, rfl⟩))
    (fun os started H enc _ => lifted os started H enc)

theorem proved : Rows.BodiesBackSaid := over
end Go.Proofs.Ytalgkokgaibloaa.bodiesBack
