/-
  DERIVED. GIVEN WITH THE SEED: THE CARDS: each row of YtbhnkfhikjhaoaaDoorRows.lean that lists a variable, with what it lists TIED to the program's text (the seventh form; the later family's looks); each row that meets fmt, with fmt's text TOLD by the authors' own Lean function (tested against real Go, not proved from fmt's source: count such statements apart). THE CARD IS WHAT COUNTS. Prove the row's statement (the work); the ties are given (YtbhnkfhikjhaoaaDoorTie.lean); close each card by the builder's one call (the guide's Derived/Test/ToyasCard.lean, 'card_holds'). Laid BY PROGRAM, IN A SANDBOX (cutbox-door.mjs). By AI agents, Wed Nov 11 2026. No macro, syntax, notation, axiom, sorry.
-/
import Derived.Test.YtbhnkfhikjhaoaaDoorRows
import GoSem.ClaimSeven
namespace Go.Proofs.YtbhnkfhikjhaoaaDoor
namespace Rows

/-- THE TIED CARD OF 'selfsamelaw03.IsaMeans'. -/
def isaMeansCard : Claim7 := { stood := { row := isaMeansRow, standIns := [], harness := (true, "aa95cf029f4ebbc3636e87b1bade88b33ee9bdf75830c8d0eacc954f818d8f9e"), looks := false }, kinds := [], alts := [], laidByText := true, laidKinds := [.data, .data, .data], laidTests := true, laidLooks := .later }
def IsaMeansCardSaid : Prop := Claim7.holds Tryd.pinned (.plain (OpenSpec.ofChange isaMeansSpec)) isaMeansCard

/-- THE SECOND FORM's CARD OF 'selfsamelaw03.IsaMeans'. -/
def isaMeansUptoCard : Claim7 := { stood := { row := isaMeansUptoRow, standIns := [], harness := (true, "aa95cf029f4ebbc3636e87b1bade88b33ee9bdf75830c8d0eacc954f818d8f9e"), looks := false }, kinds := [], alts := [], laidByText := true, laidKinds := [.data, .data, .data], laidTests := true, laidLooks := .later }
def IsaMeansUptoCardSaid : Prop := Claim7.holds Tryd.pinned (.plain (OpenSpec.upto isaMeansSpec)) isaMeansUptoCard
end Rows
end Go.Proofs.YtbhnkfhikjhaoaaDoor
