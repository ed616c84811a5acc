/-
  The contracts of the reference's functions on numbers (selfsameref01).
-/
import Derived.Test.YtlodoilihminaaaDoorWordA

namespace Go.Proofs.YtlodoilihminaaaDoor
open Go.ChangeShapes Go.WideShapes Go.ChangeAt Go.RowKit
set_option linter.unusedVariables false

theorem signed_any (a : Int) (a0 : 0 ≤ a) (a1 : a ≤ 4294967295) (w : World) : Calls Tryd.prog 62 #[.int .u32 a] w fun e w' => e = .returned (.int .i64 (wrap32 a)) ∧ w = w' := by
  by_cases h : 2147483648 ≤ a
  · go_enter Tryd.func62, Tryd.ntmps62
    go_wp2
    go_ret
    exact ⟨ret_int (wrap32_hi a h a1).symm, rfl⟩
  · go_enter Tryd.func62, Tryd.ntmps62
    go_wp2
    go_ret
    exact ⟨ret_int (wrap32_lo a a0 (by omega)).symm, rfl⟩
end Go.Proofs.YtlodoilihminaaaDoor
