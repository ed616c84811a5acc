/-
  The chapter's rows of layer 13, reckoned by the kernel; a new table of the document.
-/
import Derived.Test.YtpnohekidpphfaaGreatDoorScC
namespace Go.Proofs.YtpnohekidpphfaaGreatDoor
open Go.ChangeShapes Go.WideShapes Go.ChangeAt Go.RowKit
set_option linter.unusedVariables false
noncomputable section
set_option maxRecDepth 1000000 in
theorem run13 (φ : Ev.Val → Prop) : Ev.outV ((Ev.evO Tryz.prog ⟨[], φ, spaceG⟩ (Ev.orcL []) 1000 30 (.fn 5) []).go .e 0) = some (.bool (.lit true)) := by kernel_rfl
theorem known13 (w : World) (hT : SpTab w) : Calls Tryz.prog 5 #[] w fun e w' => e = .returned (.bool true) ∧ Below w.heap.size w w' :=
  Ev.law_trueG (l := []) (es := []) 1000 30 run13 tabVal0 (spaceG_ok _ _ _ _) (fun q hq => by cases hq) Ev.ents_nil rfl [] w (tab_base hT _ _ _ _) trivial
set_option maxRecDepth 1000000 in
theorem run12 : Ev.outF (fun H => H.atP 1 0) ((Ev.evO Tryz.prog scA Ev.noOrc 1000 30 (.fn 12) []).go .e 0) = some (.ptr 1 0, 2, some (.slice 0 0 7 7)) := by kernel_rfl
theorem ref12_new (w : World) (hT : SpTab w) : Calls Tryz.prog 12 #[] w fun e w' => ∃ b f a, e = .returned (.pointer (some ⟨b, f, none⟩)) ∧ w'.cell? ⟨b, f, none⟩ = some (.slice (some a) 7 7) ∧ Below w.heap.size w w' :=
  (Ev.calls_memF (Ev.noOrc_ok _ _) 1000 30 run12 (Ev.St.start tabVal0 w (tab_base hT _ _ _ _)) scHas [] trivial).mono fun e w' he => by
    obtain ⟨x, μ, rfl, ⟨b, f, hm, rfl⟩, _, hS, hl, hb⟩ := he
    have k : (Ev.memOf ((Ev.evO Tryz.prog scA Ev.noOrc 1000 30 (.fn 12) []).go .e 0)).at 1 0 = some (.slice 0 0 7 7) := by rw [← Ev.Mem.atP_eq]; exact hl
    obtain ⟨y, _, hc, ⟨b2, f2, _, rfl⟩, _⟩ := hS.cell k hm
    exact ⟨b, f, _, rfl, hc, hb⟩
end
end Go.Proofs.YtpnohekidpphfaaGreatDoor
