/-
  A new table, a scope of nothing: what the evaluator tells.
-/
import Derived.Test.YtdoegipkfjndbaaGreatDoorScK
namespace Go.Proofs.YtdoegipkfjndbaaGreatDoor
open Go.ChangeShapes Go.WideShapes Go.ChangeAt Go.RowKit
set_option linter.unusedVariables false
noncomputable section
set_option maxRecDepth 1000000 in
theorem run5 : Ev.outF (fun _ => ()) ((Ev.evO Tryz.prog scA Ev.noOrc 1000 30 (.fn 18) []).go .e 0) = some (.ptr 1 0, 2, ()) := by kernel_rfl
theorem types_new0 (w : World) (hT : SpTab w) : Calls Tryz.prog 18 #[] w fun e w' => ∃ b f, e = .returned (.pointer (some ⟨b, f, none⟩)) ∧ Below w.heap.size w w' :=
  (Ev.calls_memF (Ev.noOrc_ok _ _) 1000 30 run5 (Ev.St.start tabVal0 w (tab_base hT _ _ _ _)) scHas [] trivial).mono fun e w' he => by
    obtain ⟨x, μ, rfl, ⟨b, f, hm, rfl⟩, _, hS, hl, hb⟩ := he
    exact ⟨b, f, rfl, hb⟩
set_option maxRecDepth 1000000 in
theorem run6 : Ev.outF (fun _ => ()) ((Ev.evO Tryz.prog scA Ev.noOrc 1000 30 (.fn 17) [.ptr 2 0, .nilPtr]).go (Ev.memOf sr1) 119) = some (.nilPtr, 119, ()) := by kernel_rfl
theorem scope_new0 {μ : Ev.Names} {B b f : Nat} {w : World} (hS : Ev.St tabVal0 μ B (Ev.memOf sr1) 119 w) (hm : μ 2 = some (b, f)) :
    Calls Tryz.prog 17 #[.pointer (some ⟨b, f, none⟩), .pointer none] w fun e w' => e = .returned (.pointer none) ∧ Below B w w' :=
  (Ev.calls_memF (Ev.noOrc_ok _ _) 1000 30 run6 hS scHas [.pointer (some ⟨b, f, none⟩), .pointer none] ⟨⟨b, f, hm, rfl⟩, rfl, trivial⟩).mono fun e w' he => by
    obtain ⟨x, μ1, rfl, hx, _, h3, hl, hb⟩ := he
    obtain rfl : x = .pointer none := hx
    exact ⟨rfl, hb⟩
end
end Go.Proofs.YtdoegipkfjndbaaGreatDoor
