/-
  The library's table of blanks, as the evaluator reads it; a reading of the numbers over a world that has the table.
-/
import Derived.Test.YtkeehdaeanmiiaaEvD
import Derived.Test.YtkeehdaeanmiiaaRows
import Derived.Lib.LaidTab
import Derived.KernelRfl
namespace Go.Proofs.Ytkeehdaeanmiiaa
set_option linter.unusedVariables false
noncomputable section
def spAt (o : Nat) : Nat := bif Nat.beq o 32 || (Nat.ble 9 o && Nat.ble o 13) then 1 else 0
def spaceTab : List Int := [0, 0, 0, 0, 0, 0, 0, 0, 0, 1, 1, 1, 1, 1, 0, 0, 0, 0, 0, 0, 0, 0, 0, 0, 0, 0, 0, 0, 0, 0, 0, 0, 1] ++ List.replicate 223 0
structure SpTab (w : World) : Prop where
  space : Lib.TabIs Try.prog w "strings.asciiSpace" .u8 spaceTab
theorem spaceTab_all : ((List.range 256).all fun o => spaceTab.getD o 0 == (spAt o : Int)) = true := by kernel_rfl
theorem spaceTab_len : spaceTab.length = 256 := by kernel_rfl
theorem spaceTab_at (o : Nat) (h : o < 256) : spaceTab.getD o 0 = (spAt o : Int) := by simpa using List.all_eq_true.1 spaceTab_all o (List.mem_range.2 h)
end
end Go.Proofs.Ytkeehdaeanmiiaa
