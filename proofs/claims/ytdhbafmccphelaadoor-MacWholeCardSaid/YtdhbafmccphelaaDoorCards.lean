/-
  DERIVED. GIVEN WITH THE SEED: THE CARDS: each row of YtdhbafmccphelaaDoorRows.lean that lists a variable, with what it lists TIED to the program's text (the seventh form; the later family's looks); each row that meets fmt, with fmt's text TOLD by the authors' own Lean function (tested against real Go, not proved from fmt's source: count such statements apart). THE CARD IS WHAT COUNTS. Prove the row's statement (the work); the ties are given (YtdhbafmccphelaaDoorTie.lean); close each card by the builder's one call (the guide's Derived/Test/ToyasCard.lean, 'card_holds'). Laid BY PROGRAM, IN A SANDBOX (cutbox-door.mjs). By AI agents, Wed Nov 11 2026. No macro, syntax, notation, axiom, sorry.
-/
import Derived.Test.YtdhbafmccphelaaDoorRows
import GoSem.ClaimSeven
namespace Go.Proofs.YtdhbafmccphelaaDoor
namespace Rows

/-- THE TIED CARD OF 'fairleadlaw07.MacSums'. -/
def macSumsCard : Claim7 := { stood := { row := macSumsRow, standIns := [], harness := (true, "1af4ae1e0b5ba610f7ace29c7c38072816bf2b47956db11423a651582a39a495"), looks := false }, kinds := [], alts := [], laidByText := true, laidKinds := [.data, .data], laidTests := true, laidLooks := .later }
def MacSumsCardSaid : Prop := Claim7.holds Tryd.pinned (.plain (OpenSpec.ofChange macSumsSpec)) macSumsCard

/-- THE TIED CARD OF 'fairleadlaw07.MacWhole'. -/
def macWholeCard : Claim7 := { stood := { row := macWholeRow, standIns := [], harness := (true, "1af4ae1e0b5ba610f7ace29c7c38072816bf2b47956db11423a651582a39a495"), looks := false }, kinds := [], alts := [], laidByText := true, laidKinds := [.data, .data], laidTests := true, laidLooks := .later }
def MacWholeCardSaid : Prop := Claim7.holds Tryd.pinned (.plain (OpenSpec.ofChange macWholeSpec)) macWholeCard

/-- THE TIED CARD OF 'fairleadlaw07.MacKeys'. -/
def macKeysCard : Claim7 := { stood := { row := macKeysRow, standIns := [], harness := (true, "1af4ae1e0b5ba610f7ace29c7c38072816bf2b47956db11423a651582a39a495"), looks := false }, kinds := [], alts := [], laidByText := true, laidKinds := [.data, .data], laidTests := true, laidLooks := .later }
def MacKeysCardSaid : Prop := Claim7.holds Tryd.pinned (.plain (OpenSpec.ofChange macKeysSpec)) macKeysCard

/-- THE TIED CARD OF 'fairleadlaw07.MacAlike'. -/
def macAlikeCard : Claim7 := { stood := { row := macAlikeRow, standIns := [], harness := (true, "1af4ae1e0b5ba610f7ace29c7c38072816bf2b47956db11423a651582a39a495"), looks := false }, kinds := [], alts := [], laidByText := true, laidKinds := [.data, .data], laidTests := true, laidLooks := .later }
def MacAlikeCardSaid : Prop := Claim7.holds Tryd.pinned (.plain (OpenSpec.ofChange macAlikeSpec)) macAlikeCard

/-- THE TIED CARD OF 'fairleadlaw07.MacOnce'. -/
def macOnceCard : Claim7 := { stood := { row := macOnceRow, standIns := [], harness := (true, "1af4ae1e0b5ba610f7ace29c7c38072816bf2b47956db11423a651582a39a495"), looks := false }, kinds := [], alts := [], laidByText := true, laidKinds := [.data, .data], laidTests := true, laidLooks := .later }
def MacOnceCardSaid : Prop := Claim7.holds Tryd.pinned (.plain (OpenSpec.ofChange macOnceSpec)) macOnceCard

/-- THE SECOND FORM's CARD OF 'fairleadlaw07.MacSums'. -/
def macSumsUptoCard : Claim7 := { stood := { row := macSumsUptoRow, standIns := [], harness := (true, "1af4ae1e0b5ba610f7ace29c7c38072816bf2b47956db11423a651582a39a495"), looks := false }, kinds := [], alts := [], laidByText := true, laidKinds := [.data, .data], laidTests := true, laidLooks := .later }
def MacSumsUptoCardSaid : Prop := Claim7.holds Tryd.pinned (.plain (OpenSpec.upto macSumsSpec)) macSumsUptoCard

/-- THE SECOND FORM's CARD OF 'fairleadlaw07.MacWhole'. -/
def macWholeUptoCard : Claim7 := { stood := { row := macWholeUptoRow, standIns := [], harness := (true, "1af4ae1e0b5ba610f7ace29c7c38072816bf2b47956db11423a651582a39a495"), looks := false }, kinds := [], alts := [], laidByText := true, laidKinds := [.data, .data], laidTests := true, laidLooks := .later }
def MacWholeUptoCardSaid : Prop := Claim7.holds Tryd.pinned (.plain (OpenSpec.upto macWholeSpec)) macWholeUptoCard

/-- THE SECOND FORM's CARD OF 'fairleadlaw07.MacKeys'. -/
def macKeysUptoCard : Claim7 := { stood := { row := macKeysUptoRow, standIns := [], harness := (true, "1af4ae1e0b5ba610f7ace29c7c38072816bf2b47956db11423a651582a39a495"), looks := false }, kinds := [], alts := [], laidByText := true, laidKinds := [.data, .data], laidTests := true, laidLooks := .later }
def MacKeysUptoCardSaid : Prop := Claim7.holds Tryd.pinned (.plain (OpenSpec.upto macKeysSpec)) macKeysUptoCard

/-- THE SECOND FORM's CARD OF 'fairleadlaw07.MacAlike'. -/
def macAlikeUptoCard : Claim7 := { stood := { row := macAlikeUptoRow, standIns := [], harness := (true, "1af4ae1e0b5ba610f7ace29c7c38072816bf2b47956db11423a651582a39a495"), looks := false }, kinds := [], alts := [], laidByText := true, laidKinds := [.data, .data], laidTests := true, laidLooks := .later }
def MacAlikeUptoCardSaid : Prop := Claim7.holds Tryd.pinned (.plain (OpenSpec.upto macAlikeSpec)) macAlikeUptoCard

/-- THE SECOND FORM's CARD OF 'fairleadlaw07.MacOnce'. -/
def macOnceUptoCard : Claim7 := { stood := { row := macOnceUptoRow, standIns := [], harness := (true, "1af4ae1e0b5ba610f7ace29c7c38072816bf2b47956db11423a651582a39a495"), looks := false }, kinds := [], alts := [], laidByText := true, laidKinds := [.data, .data], laidTests := true, laidLooks := .later }
def MacOnceUptoCardSaid : Prop := Claim7.holds Tryd.pinned (.plain (OpenSpec.upto macOnceSpec)) macOnceUptoCard
end Rows
end Go.Proofs.YtdhbafmccphelaaDoor
