/-
  Package bodies: what a Put answers, said in one word; the flags; zero values; two chunks alike, by the code.
-/
import Derived.Test.YtalgkokgaibloaaBodB
import Derived.Test.YtalgkokgaibloaaSame
import Derived.Test.YtalgkokgaibloaaPad
import Derived.Laws.IdiomStrings
namespace Go.Proofs.Ytalgkokgaibloaa
open Go.RowKit
set_option linter.unusedVariables false

theorem zero_chunk (w : World) : (zeroValue 28).run Try.prog w = .ok (.agg #[.int .u8 0, .int .u8 0, .slice none 0 0]) w := by kernel_rfl
theorem zero_data (w : World) : (zeroValue 26).run Try.prog w = .ok (.agg #[.int .u32 0, .int .u16 0, .int .u16 0, .bool false, .bool false, .bool false, .slice none 0 0]) w := by kernel_rfl
theorem zero_init (w : World) : (zeroValue 43).run Try.prog w = .ok (.agg #[.int .u32 0, .int .u32 0, .int .u16 0, .int .u16 0, .int .u32 0, .slice none 0 0]) w := by kernel_rfl
theorem zero_sack (w : World) : (zeroValue 52).run Try.prog w = .ok (.agg #[.int .u32 0, .int .u32 0, .slice none 0 0, .slice none 0 0]) w := by kernel_rfl
theorem zero_fwd (w : World) : (zeroValue 56).run Try.prog w = .ok (.agg #[.int .u32 0, .slice none 0 0]) w := by kernel_rfl
theorem zero_gap (w : World) : (zeroValue 79).run Try.prog w = .ok (.agg #[.int .u16 0, .int .u16 0]) w := by kernel_rfl
theorem zero_skip (w : World) : (zeroValue 104).run Try.prog w = .ok (.agg #[.int .u16 0, .int .u16 0]) w := by kernel_rfl

/-- That call answers a chunk of that kind, those flags, that body, in new memory. -/
def Puts (f : FuncId) (args : Array Value) (k fl : UInt8) (ys : List UInt8) (w : World) : Prop :=
  Calls Try.prog f args w fun e w' => ∃ A c, e = .returned (.agg #[.int .u8 (k.toNat : Int), .int .u8 (fl.toNat : Int), .slice A ys.length c]) ∧ Own8 w' 5 w.heap.size A ys.length c ys ∧ Below w.heap.size w w'

/-- Data by value. -/
def vD (d : BData) (A : Option Addr) (n c : Nat) : Value := .agg #[.int .u32 d.tsn, .int .u16 d.stream, .int .u16 d.ssn, .bool d.un, .bool d.fi, .bool d.la, .slice A n c]
def vI (d : BInit) (A : Option Addr) (n c : Nat) : Value := .agg #[.int .u32 d.tag, .int .u32 d.rwnd, .int .u16 d.out, .int .u16 d.in_, .int .u32 d.tsn, .slice A n c]

set_option maxHeartbeats 1000000 in
theorem flagsOf_any (tsn stream ssn : Int) (un fi la : Bool) (A : Option Addr) (n c : Nat) (w : World) :
    Calls Try.prog 51 #[.agg #[.int .u32 tsn, .int .u16 stream, .int .u16 ssn, .bool un, .bool fi, .bool la, .slice A n c]] w fun e w' => e = .returned (.int .u8 ((flagsD un fi la).toNat : Int)) ∧ Below w.heap.size w w' := by
  have HB := Lib.hid (below_new w (.cells #[.int .u32 tsn, .int .u16 stream, .int .u16 ssn, .bool un, .bool fi, .bool la, .slice A n c] 26))
  cases un <;> cases fi <;> cases la
  all_goals
    go_enter Try.func51, Try.ntmps51
    go_wp2_with fail
    go_ret
    exact ⟨rfl, HB.out⟩

theorem conv_str (w : World) (B : Nat) (A : Option Addr) (n c : Nat) (xs : List UInt8) (hx : xs.length = n) (hr : Rd w B A xs) :
    (convert 24 9 (.slice A n c)).run Try.prog w = .ok (.string ⟨xs.toArray⟩) w := by
  subst hx
  rcases A with _ | ad
  · rcases hr with rfl | ⟨_, _, h, _⟩
    · exact run_convert_bytes_nil w _ _ Try.underlying24 Try.underlying5 0 c _ Try.underlying9
    · cases h
  · exact run_convert_bytes_back w _ _ _ ad c xs Try.underlying24 Try.underlying5 Try.underlying9 fun j hj => hr.cells j _ (by simp [List.getElem?_eq_getElem hj])

set_option maxHeartbeats 1000000 in
theorem bytesEqual_any (A A' : Option Addr) (n n' c c' : Nat) (xs ys : List UInt8) (w : World) (hx : xs.length = n) (hy : ys.length = n') (B B' : Nat) (hr : Rd w B A xs) (hr' : Rd w B' A' ys) :
    Calls Try.prog 85 #[.slice A n c, .slice A' n' c'] w fun e w' => e = .returned (.bool (decide (xs = ys))) ∧ w = w' := by
  have h1 := conv_str w B A n c xs hx hr
  have h2 := conv_str w B' A' n' c' ys hy hr'
  have HE : Hid ((xs == ys) = decide (xs = ys)) := Lib.hid (by rw [Bool.eq_iff_iff, beq_iff_eq, decide_eq_true_iff])
  clear hr hr' hx hy
  go_enter Try.func85, Try.ntmps85
  go_wp2_with fail
  go_ret
  exact ⟨ret_bool HE.out, rfl⟩
end Go.Proofs.Ytalgkokgaibloaa
