/-
  The law's chapter's rows, and how many a node is with all below it.
-/
import Derived.Test.YtkhbmamgfkpdbaaTreeMD
import Derived.Test.YtkhbmamgfkpdbaaTreeV
import Derived.Test.YtkhbmamgfkpdbaaEvD
namespace Go.Proofs.Ytkhbmamgfkpdbaa
open Go.ChangeShapes Go.WideShapes Go.ChangeAt Go.RowKit
set_option linter.unusedVariables false
set_option maxRecDepth 1000000 in
theorem known15_any (w : World) : Calls Try.prog 9 #[] w fun e w' => e = .returned (.bool true) ∧ Below w.heap.size w w' :=
  Ev.closed_true 1000 30 (by kernel_rfl) w
theorem few_any {w W : World} {t : Tr} {k : Int} {s : ByteArray} {v : Int} {m : Bool} {a : Option Addr} {l c : Nat} (h : Reads w t (nd k s v m a l c)) (hb : Below w.heap.size w W) : Calls Try.prog 8 #[nd k s v m a l c] W fun e W' => e = .returned (.bool (decide (0 ≤ t.big 400))) ∧ Below W.heap.size W W' := by
  have HX := Lib.hid (bigT_all t _ h)
  have HB := Lib.hid (hb.trans ((below1 W (.cells #[.int .i64 k, .string s, .int .u32 v, .bool m, .slice a l c] 26)).mono hb.size))
  have H1 := Lib.hid (below1 W (.cells #[.int .i64 k, .string s, .int .u32 v, .bool m, .slice a l c] 26))
  clear h hb
  unfold nd at *
  go_enter Try.func8, Try.ntmps8
  go_wp2_with (go_at_call 25; (with_reducible refine (BigT.call HX.out HB.out 400 (by omega) (by omega)).mono ?_); rintro e w1 ⟨rfl, hb1⟩)
  go_ret
  exact ⟨ret_bool (by simp), H1.out.trans (hb1.mono H1.out.size)⟩
theorem nd_of {w : World} {t : Tr} {u : Value} (h : Reads w t u) : ∃ k s v m a l c, u = nd k s v m a l c := by
  cases t
  unfold Reads at h
  obtain ⟨a, len, cap, rfl, -⟩ := h
  exact ⟨_, _, _, _, _, _, _, rfl⟩
end Go.Proofs.Ytkhbmamgfkpdbaa
