/-
  DERIVED. GIVEN WITH THE SEED: THE CARDS: each row of YtpnohekidpphfaaGreatDoorRows.lean that lists a variable, with what it lists TIED to the program's text (the seventh form; the later family's looks); each row that meets fmt, with fmt's text TOLD by the authors' own Lean function (tested against real Go, not proved from fmt's source: count such statements apart). THE CARD IS WHAT COUNTS. Prove the row's statement (the work); the ties are given (YtpnohekidpphfaaGreatDoorTie.lean); close each card by the builder's one call (the guide's Derived/Test/ToyasCard.lean, 'card_holds'). Laid BY PROGRAM, IN A SANDBOX (cutbox-door.mjs). By AI agents, Wed Nov 11 2026. No macro, syntax, notation, axiom, sorry.
-/
import Derived.Test.YtpnohekidpphfaaGreatDoorRows
import GoSem.ClaimSeven
namespace Go.Proofs.YtpnohekidpphfaaGreatDoor
namespace Rows

/-- THE TIED CARD OF 'selfsamelaw13.ScopeFull'. -/
def scopeFullCard : Claim7 := { stood := { row := scopeFullRow, standIns := [], harness := (true, "2897f3a88eeaa0f90f8f6106aa3ce7064d712f8a2da63cca479d8cf300d89e10"), looks := false }, kinds := [], alts := [], laidByText := true, laidKinds := [.data, .data, .data, .data, .listed, .data, .pinned, .pinned], laidTests := true, laidLooks := .later }
def ScopeFullCardSaid : Prop := Claim7.holds Tryz.pinned (.plain (OpenSpec.ofChange scopeFullSpec)) scopeFullCard

/-- THE TIED CARD OF 'selfsamelaw13.ScopeShadows'. -/
def scopeShadowsCard : Claim7 := { stood := { row := scopeShadowsRow, standIns := [], harness := (true, "2897f3a88eeaa0f90f8f6106aa3ce7064d712f8a2da63cca479d8cf300d89e10"), looks := false }, kinds := [], alts := [], laidByText := true, laidKinds := [.data, .data, .data, .data, .listed, .data, .pinned, .pinned], laidTests := true, laidLooks := .later }
def ScopeShadowsCardSaid : Prop := Claim7.holds Tryz.pinned (.plain (OpenSpec.ofChange scopeShadowsSpec)) scopeShadowsCard

/-- THE SECOND FORM's CARD OF 'selfsamelaw13.ScopeFull'. -/
def scopeFullUptoCard : Claim7 := { stood := { row := scopeFullUptoRow, standIns := [], harness := (true, "2897f3a88eeaa0f90f8f6106aa3ce7064d712f8a2da63cca479d8cf300d89e10"), looks := false }, kinds := [], alts := [], laidByText := true, laidKinds := [.data, .data, .data, .data, .listed, .data, .pinned, .pinned], laidTests := true, laidLooks := .later }
def ScopeFullUptoCardSaid : Prop := Claim7.holds Tryz.pinned (.plain (OpenSpec.upto scopeFullSpec)) scopeFullUptoCard

/-- THE SECOND FORM's CARD OF 'selfsamelaw13.ScopeShadows'. -/
def scopeShadowsUptoCard : Claim7 := { stood := { row := scopeShadowsUptoRow, standIns := [], harness := (true, "2897f3a88eeaa0f90f8f6106aa3ce7064d712f8a2da63cca479d8cf300d89e10"), looks := false }, kinds := [], alts := [], laidByText := true, laidKinds := [.data, .data, .data, .data, .listed, .data, .pinned, .pinned], laidTests := true, laidLooks := .later }
def ScopeShadowsUptoCardSaid : Prop := Claim7.holds Tryz.pinned (.plain (OpenSpec.upto scopeShadowsSpec)) scopeShadowsUptoCard
end Rows
end Go.Proofs.YtpnohekidpphfaaGreatDoor
