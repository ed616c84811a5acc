/-
  DERIVED. GIVEN WITH THE SEED: THE CARDS: each row of YtdoegipkfjndbaaGreatDoorRows.lean that lists a variable, with what it lists TIED to the program's text (the seventh form; the later family's looks); each row that meets fmt, with fmt's text TOLD by the authors' own Lean function (tested against real Go, not proved from fmt's source: count such statements apart). THE CARD IS WHAT COUNTS. Prove the row's statement (the work); the ties are given (YtdoegipkfjndbaaGreatDoorTie.lean); close each card by the builder's one call (the guide's Derived/Test/ToyasCard.lean, 'card_holds'). Laid BY PROGRAM, IN A SANDBOX (cutbox-door.mjs). By AI agents, Wed Nov 11 2026. No macro, syntax, notation, axiom, sorry.
-/
import Derived.Test.YtdoegipkfjndbaaGreatDoorRows
import GoSem.ClaimSeven
namespace Go.Proofs.YtdoegipkfjndbaaGreatDoor
namespace Rows

/-- THE TIED CARD OF 'selfsamelaw13.ScopeNil'. -/
def scopeNilCard : Claim7 := { stood := { row := scopeNilRow, standIns := [], harness := (true, "2d21f392caec566e1169913e59fa5453bddea4b65e65288583686cc713792a0b"), looks := false }, kinds := [], alts := [], laidByText := true, laidKinds := [.data, .data, .data, .data, .listed, .data, .pinned, .pinned], laidTests := true, laidLooks := .later }
def ScopeNilCardSaid : Prop := Claim7.holds Tryz.pinned (.plain (OpenSpec.ofChange scopeNilSpec)) scopeNilCard

/-- THE SECOND FORM's CARD OF 'selfsamelaw13.ScopeNil'. -/
def scopeNilUptoCard : Claim7 := { stood := { row := scopeNilUptoRow, standIns := [], harness := (true, "2d21f392caec566e1169913e59fa5453bddea4b65e65288583686cc713792a0b"), looks := false }, kinds := [], alts := [], laidByText := true, laidKinds := [.data, .data, .data, .data, .listed, .data, .pinned, .pinned], laidTests := true, laidLooks := .later }
def ScopeNilUptoCardSaid : Prop := Claim7.holds Tryz.pinned (.plain (OpenSpec.upto scopeNilSpec)) scopeNilUptoCard
end Rows
end Go.Proofs.YtdoegipkfjndbaaGreatDoor
