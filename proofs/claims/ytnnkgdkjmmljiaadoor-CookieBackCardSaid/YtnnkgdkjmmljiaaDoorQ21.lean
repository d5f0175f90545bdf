/-
  Bytes of any row as a text.
-/
import Derived.Test.YtnnkgdkjmmljiaaDoorRows
import Derived.Test.YtnnkgdkjmmljiaaDoorQ1
import Derived.Laws.IdiomStrings
namespace Go.Proofs.YtnnkgdkjmmljiaaDoor
open Go.RowKit
set_option linter.unusedVariables false

theorem Rd.cells_ {w : World} {B : Nat} {a : Addr} {ys : List UInt8} (h : Rd w B (some a) ys) : ∀ j u, (ys.map fun x => Value.int .u8 (x.toNat : Int))[j]? = some u → w.cell? (a.add j) = some u := by
  intro j u hu
  rw [List.getElem?_map, Option.map_eq_some_iff] at hu
  obtain ⟨x, hx, rfl⟩ := hu
  rcases h with rfl | ⟨b, o, ha, _, hc⟩
  · cases hx
  · injection ha with ha
    subst ha
    rw [Addr.add_lit]
    exact hc j x hx
theorem conv_str (w : World) (B : Nat) (A : Option Addr) (n c : Nat) (xs : List UInt8) (hx : xs.length = n) (hr : Rd w B A xs) :
    (convert 22 9 (.slice A n c)).run Tryd.prog w = .ok (.string ⟨xs.toArray⟩) w := by
  subst hx
  rcases A with _ | ad
  · rcases hr with rfl | ⟨_, _, h, _⟩
    · exact run_convert_bytes_nil w _ _ Tryd.underlying22 Tryd.underlying5 0 c _ Tryd.underlying9
    · cases h
  · exact run_convert_bytes_back w _ _ _ ad c xs Tryd.underlying22 Tryd.underlying5 Tryd.underlying9 fun j hj => hr.cells_ j _ (by simp [List.getElem?_eq_getElem hj])

end Go.Proofs.YtnnkgdkjmmljiaaDoor
