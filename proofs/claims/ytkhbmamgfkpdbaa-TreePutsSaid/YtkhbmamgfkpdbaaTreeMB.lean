/-
  tree.Walk: a copy is kept, the iterator handed back.
-/
import Derived.Test.YtkhbmamgfkpdbaaTreeMA
namespace Go.Proofs.Ytkhbmamgfkpdbaa
open Go.ChangeShapes Go.WideShapes Go.ChangeAt Go.RowKit Go.Shelf
set_option linter.unusedVariables false
set_option maxHeartbeats 4000000 in
theorem walk_any {w0 : World} {t : Tr} {k : Int} {s : ByteArray} {v : Int} {m : Bool} {a : Option Addr} {len cap : Nat} (h : Reads w0 t (nd k s v m a len cap)) (hc : t.count ≤ 1000) (V : World) (hV : Below w0.heap.size w0 V) :
    Calls Try.prog 20 #[nd k s v m a len cap] V fun e V' => ∃ Bk k' s' v' m' a' l' c', e = .returned (.func (.func 35) #[] #[.pointer (some ⟨Bk, 0, none⟩)]) ∧ V'.heap[Bk]? = some (.cells #[.int .i64 k', .string s', .int .u32 v', .bool m', .slice a' l' c'] 26 (0, 0)) ∧ Reads V' t (nd k' s' v' m' a' l' c') ∧ Below V.heap.size V V' := by
  have HCC := Lib.hid (fun W hW => CopyT.call (copyT_all t _ h) (W := W) hW (by omega))
  unfold nd at *
  go_enter Try.func20, Try.ntmps20
  have hV1 : Below w0.heap.size w0 (V.alloc (.cells #[.int .i64 k, .string s, .int .u32 v, .bool m, .slice a len cap] 26)) := hV.trans ((below1 V _).mono hV.size)
  go_wp2_with (go_at_call 17; refine (HCC.out _ hV1).mono ?_; rintro e w2 ⟨k', s', v', m', a', l', c', rfl, hb, hro⟩; have HR := Lib.hid hro.reads; have HB2 := Lib.hid ((below1 V (.cells #[.int .i64 k, .string s, .int .u32 v, .bool m, .slice a len cap] 26)).trans (hb.mono (Nat.le_of_lt (by simp)))); clear hb hro)
  go_ret
  exact ⟨w2.heap.size, k', s', v', m', a', l', c', rfl, heap_alloc_new _ _, reads_below (below1 w2 _) t _ HR.out, HB2.out.alloc HB2.out.size _⟩
end Go.Proofs.Ytkhbmamgfkpdbaa
