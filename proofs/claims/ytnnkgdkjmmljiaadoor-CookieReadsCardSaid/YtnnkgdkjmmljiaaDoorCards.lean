/-
  DERIVED. GIVEN WITH THE SEED: THE CARDS: each row of YtnnkgdkjmmljiaaDoorRows.lean that lists a variable, with what it lists TIED to the program's text (the seventh form; the later family's looks); each row that meets fmt, with fmt's text TOLD by the authors' own Lean function (tested against real Go, not proved from fmt's source: count such statements apart). THE CARD IS WHAT COUNTS. Prove the row's statement (the work); the ties are given (YtnnkgdkjmmljiaaDoorTie.lean); close each card by the builder's one call (the guide's Derived/Test/ToyasCard.lean, 'card_holds'). Laid BY PROGRAM, IN A SANDBOX (cutbox-door.mjs). By AI agents, Wed Nov 11 2026. No macro, syntax, notation, axiom, sorry.
-/
import Derived.Test.YtnnkgdkjmmljiaaDoorRows
import GoSem.ClaimSeven
namespace Go.Proofs.YtnnkgdkjmmljiaaDoor
namespace Rows

/-- THE TIED CARD OF 'fairleadlaw11.CookieWrites'. -/
def cookieWritesCard : Claim7 := { stood := { row := cookieWritesRow, standIns := [], harness := (true, "b4d66c0dccc6a7b87281ee430e52e5d958a45ea5305a85ca6066d5c7f11ec356"), looks := false }, kinds := [], alts := [], laidByText := true, laidKinds := [.data, .data], laidTests := true, laidLooks := .later }
def CookieWritesCardSaid : Prop := Claim7.holds Tryd.pinned (.plain (OpenSpec.ofChange cookieWritesSpec)) cookieWritesCard

/-- THE TIED CARD OF 'fairleadlaw11.CookieReads'. -/
def cookieReadsCard : Claim7 := { stood := { row := cookieReadsRow, standIns := [], harness := (true, "b4d66c0dccc6a7b87281ee430e52e5d958a45ea5305a85ca6066d5c7f11ec356"), looks := false }, kinds := [], alts := [], laidByText := true, laidKinds := [.data, .data], laidTests := true, laidLooks := .later }
def CookieReadsCardSaid : Prop := Claim7.holds Tryd.pinned (.plain (OpenSpec.ofChange cookieReadsSpec)) cookieReadsCard

/-- THE TIED CARD OF 'fairleadlaw11.CookieBack'. -/
def cookieBackCard : Claim7 := { stood := { row := cookieBackRow, standIns := [], harness := (true, "b4d66c0dccc6a7b87281ee430e52e5d958a45ea5305a85ca6066d5c7f11ec356"), looks := false }, kinds := [], alts := [], laidByText := true, laidKinds := [.data, .data], laidTests := true, laidLooks := .later }
def CookieBackCardSaid : Prop := Claim7.holds Tryd.pinned (.plain (OpenSpec.ofChange cookieBackSpec)) cookieBackCard

/-- THE TIED CARD OF 'fairleadlaw11.CookieFields'. -/
def cookieFieldsCard : Claim7 := { stood := { row := cookieFieldsRow, standIns := [], harness := (true, "b4d66c0dccc6a7b87281ee430e52e5d958a45ea5305a85ca6066d5c7f11ec356"), looks := false }, kinds := [], alts := [], laidByText := true, laidKinds := [.data, .data], laidTests := true, laidLooks := .later }
def CookieFieldsCardSaid : Prop := Claim7.holds Tryd.pinned (.plain (OpenSpec.ofChange cookieFieldsSpec)) cookieFieldsCard

/-- THE TIED CARD OF 'fairleadlaw11.CookieFresh'. -/
def cookieFreshCard : Claim7 := { stood := { row := cookieFreshRow, standIns := [], harness := (true, "b4d66c0dccc6a7b87281ee430e52e5d958a45ea5305a85ca6066d5c7f11ec356"), looks := false }, kinds := [], alts := [], laidByText := true, laidKinds := [.data, .data], laidTests := true, laidLooks := .later }
def CookieFreshCardSaid : Prop := Claim7.holds Tryd.pinned (.plain (OpenSpec.ofChange cookieFreshSpec)) cookieFreshCard

/-- THE TIED CARD OF 'fairleadlaw11.CookieDerives'. -/
def cookieDerivesCard : Claim7 := { stood := { row := cookieDerivesRow, standIns := [], harness := (true, "b4d66c0dccc6a7b87281ee430e52e5d958a45ea5305a85ca6066d5c7f11ec356"), looks := false }, kinds := [], alts := [], laidByText := true, laidKinds := [.data, .data], laidTests := true, laidLooks := .later }
def CookieDerivesCardSaid : Prop := Claim7.holds Tryd.pinned (.plain (OpenSpec.ofChange cookieDerivesSpec)) cookieDerivesCard

/-- THE SECOND FORM's CARD OF 'fairleadlaw11.CookieWrites'. -/
def cookieWritesUptoCard : Claim7 := { stood := { row := cookieWritesUptoRow, standIns := [], harness := (true, "b4d66c0dccc6a7b87281ee430e52e5d958a45ea5305a85ca6066d5c7f11ec356"), looks := false }, kinds := [], alts := [], laidByText := true, laidKinds := [.data, .data], laidTests := true, laidLooks := .later }
def CookieWritesUptoCardSaid : Prop := Claim7.holds Tryd.pinned (.plain (OpenSpec.upto cookieWritesSpec)) cookieWritesUptoCard

/-- THE SECOND FORM's CARD OF 'fairleadlaw11.CookieReads'. -/
def cookieReadsUptoCard : Claim7 := { stood := { row := cookieReadsUptoRow, standIns := [], harness := (true, "b4d66c0dccc6a7b87281ee430e52e5d958a45ea5305a85ca6066d5c7f11ec356"), looks := false }, kinds := [], alts := [], laidByText := true, laidKinds := [.data, .data], laidTests := true, laidLooks := .later }
def CookieReadsUptoCardSaid : Prop := Claim7.holds Tryd.pinned (.plain (OpenSpec.upto cookieReadsSpec)) cookieReadsUptoCard

/-- THE SECOND FORM's CARD OF 'fairleadlaw11.CookieBack'. -/
def cookieBackUptoCard : Claim7 := { stood := { row := cookieBackUptoRow, standIns := [], harness := (true, "b4d66c0dccc6a7b87281ee430e52e5d958a45ea5305a85ca6066d5c7f11ec356"), looks := false }, kinds := [], alts := [], laidByText := true, laidKinds := [.data, .data], laidTests := true, laidLooks := .later }
def CookieBackUptoCardSaid : Prop := Claim7.holds Tryd.pinned (.plain (OpenSpec.upto cookieBackSpec)) cookieBackUptoCard

/-- THE SECOND FORM's CARD OF 'fairleadlaw11.CookieFields'. -/
def cookieFieldsUptoCard : Claim7 := { stood := { row := cookieFieldsUptoRow, standIns := [], harness := (true, "b4d66c0dccc6a7b87281ee430e52e5d958a45ea5305a85ca6066d5c7f11ec356"), looks := false }, kinds := [], alts := [], laidByText := true, laidKinds := [.data, .data], laidTests := true, laidLooks := .later }
def CookieFieldsUptoCardSaid : Prop := Claim7.holds Tryd.pinned (.plain (OpenSpec.upto cookieFieldsSpec)) cookieFieldsUptoCard

/-- THE SECOND FORM's CARD OF 'fairleadlaw11.CookieFresh'. -/
def cookieFreshUptoCard : Claim7 := { stood := { row := cookieFreshUptoRow, standIns := [], harness := (true, "b4d66c0dccc6a7b87281ee430e52e5d958a45ea5305a85ca6066d5c7f11ec356"), looks := false }, kinds := [], alts := [], laidByText := true, laidKinds := [.data, .data], laidTests := true, laidLooks := .later }
def CookieFreshUptoCardSaid : Prop := Claim7.holds Tryd.pinned (.plain (OpenSpec.upto cookieFreshSpec)) cookieFreshUptoCard

/-- THE SECOND FORM's CARD OF 'fairleadlaw11.CookieDerives'. -/
def cookieDerivesUptoCard : Claim7 := { stood := { row := cookieDerivesUptoRow, standIns := [], harness := (true, "b4d66c0dccc6a7b87281ee430e52e5d958a45ea5305a85ca6066d5c7f11ec356"), looks := false }, kinds := [], alts := [], laidByText := true, laidKinds := [.data, .data], laidTests := true, laidLooks := .later }
def CookieDerivesUptoCardSaid : Prop := Claim7.holds Tryd.pinned (.plain (OpenSpec.upto cookieDerivesSpec)) cookieDerivesUptoCard
end Rows
end Go.Proofs.YtnnkgdkjmmljiaaDoor
