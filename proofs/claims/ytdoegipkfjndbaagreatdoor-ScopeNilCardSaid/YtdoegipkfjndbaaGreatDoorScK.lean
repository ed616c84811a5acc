/-
  The chapter's rows of layer 13, reckoned by the kernel; a new table of the document.
-/
import Derived.Test.YtdoegipkfjndbaaGreatDoorScC
namespace Go.Proofs.YtdoegipkfjndbaaGreatDoor
open Go.ChangeShapes Go.WideShapes Go.ChangeAt Go.RowKit
set_option linter.unusedVariables false
noncomputable section
set_option maxRecDepth 1000000 in
theorem run13 (φ : Ev.Val → Prop) : Ev.outV ((Ev.evO Tryz.prog ⟨[], φ, spaceG⟩ (Ev.orcL []) 1000 30 (.fn 20) []).go .e 0) = some (.bool (.lit true)) := by kernel_rfl
theorem known13 (w : World) (hT : SpTab w) : Calls Tryz.prog 20 #[] w fun e w' => e = .returned (.bool true) ∧ Below w.heap.size w w' :=
  Ev.law_trueG (l := []) (es := []) 1000 30 run13 tabVal0 (spaceG_ok _ _ _ _) (fun q hq => by cases hq) Ev.ents_nil rfl [] w (tab_base hT _ _ _ _) trivial
end
end Go.Proofs.YtdoegipkfjndbaaGreatDoor
