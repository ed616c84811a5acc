/-
  tree.Names of a node, told: the call.
-/
import Derived.Test.YtkhbmamgfkpdbaaTreeJ
namespace Go.Proofs.Ytkhbmamgfkpdbaa
open Go.ChangeShapes Go.WideShapes Go.ChangeAt Go.RowKit
set_option linter.unusedVariables false
theorem five_blocks (w : World) (N : Array Value) (u : Value) : (((((w.alloc (.cells N 26)).alloc (.cells #[.slice none 0 0] 32)).alloc (.map #[] 0)).alloc (.cells #[.map (some (w.heap.size + 1 + 1))] 51)).alloc (.cells #[u] 52)).heap[w.heap.size]? = some (.cells N 26 (0, 0)) ∧ (((((w.alloc (.cells N 26)).alloc (.cells #[.slice none 0 0] 32)).alloc (.map #[] 0)).alloc (.cells #[.map (some (w.heap.size + 1 + 1))] 51)).alloc (.cells #[u] 52)).heap[w.heap.size + 1]? = some (.cells #[.slice none 0 0] 32 (0, 0)) ∧ (((((w.alloc (.cells N 26)).alloc (.cells #[.slice none 0 0] 32)).alloc (.map #[] 0)).alloc (.cells #[.map (some (w.heap.size + 1 + 1))] 51)).alloc (.cells #[u] 52)).heap[w.heap.size + 1 + 1]? = some (.map #[] 0) ∧ (((((w.alloc (.cells N 26)).alloc (.cells #[.slice none 0 0] 32)).alloc (.map #[] 0)).alloc (.cells #[.map (some (w.heap.size + 1 + 1))] 51)).alloc (.cells #[u] 52)).heap[w.heap.size + 1 + 1 + 1]? = some (.cells #[.map (some (w.heap.size + 1 + 1))] 51 (0, 0)) ∧ (((((w.alloc (.cells N 26)).alloc (.cells #[.slice none 0 0] 32)).alloc (.map #[] 0)).alloc (.cells #[.map (some (w.heap.size + 1 + 1))] 51)).alloc (.cells #[u] 52)).heap[w.heap.size + 1 + 1 + 1 + 1]? = some (.cells #[u] 52 (0, 0)) := by
  have e : ∀ (X : World) (o : Obj) (n : Nat), X.heap.size = n → (X.alloc o).heap[n]? = some o := fun X o n hn => by subst hn; exact heap_alloc_new X o
  have f : ∀ (X : World) (o : Obj) (n : Nat), n < X.heap.size → (X.alloc o).heap[n]? = X.heap[n]? := fun X o n hn => Below.heap_alloc X o _ hn
  refine ⟨?_, ?_, ?_, ?_, ?_⟩
  · rw [f _ _ _ (by first | (simp; done) | (simp; omega)), f _ _ _ (by first | (simp; done) | (simp; omega)), f _ _ _ (by first | (simp; done) | (simp; omega)), f _ _ _ (by first | (simp; done) | (simp; omega))]; exact e _ _ _ rfl
  · rw [f _ _ _ (by first | (simp; done) | (simp; omega)), f _ _ _ (by first | (simp; done) | (simp; omega)), f _ _ _ (by first | (simp; done) | (simp; omega))]; exact e _ _ _ (by simp)
  · rw [f _ _ _ (by first | (simp; done) | (simp; omega)), f _ _ _ (by first | (simp; done) | (simp; omega))]; exact e _ _ _ (by simp)
  · rw [f _ _ _ (by first | (simp; done) | (simp; omega))]; exact e _ _ _ (by simp)
  · exact e _ _ _ (by simp)
theorem names_start (w : World) (N : Array Value) : NamesAt w.heap.size (((((w.alloc (.cells N 26)).alloc (.cells #[.slice none 0 0] 32)).alloc (.map #[] 0)).alloc (.cells #[.map (some (w.heap.size + 1 + 1))] 51)).alloc (.cells #[(.func (.func 29) #[] #[.pointer (some ⟨w.heap.size + 1 + 1 + 1, 0, none⟩), .pointer (some ⟨w.heap.size + 1, 0, none⟩), .pointer (some ⟨w.heap.size + 1 + 1 + 1 + 1, 0, none⟩)])] 52)) (w.heap.size + 1) (w.heap.size + 1 + 1 + 1) (w.heap.size + 1 + 1 + 1 + 1) (w.heap.size + 1 + 1) (.slice none 0 0) 0 (.map []) [] ∧ (((((w.alloc (.cells N 26)).alloc (.cells #[.slice none 0 0] 32)).alloc (.map #[] 0)).alloc (.cells #[.map (some (w.heap.size + 1 + 1))] 51)).alloc (.cells #[(.func (.func 29) #[] #[.pointer (some ⟨w.heap.size + 1 + 1 + 1, 0, none⟩), .pointer (some ⟨w.heap.size + 1, 0, none⟩), .pointer (some ⟨w.heap.size + 1 + 1 + 1 + 1, 0, none⟩)])] 52)).heap[w.heap.size]? = some (.cells N 26 (0, 0)) ∧ Below w.heap.size w (((((w.alloc (.cells N 26)).alloc (.cells #[.slice none 0 0] 32)).alloc (.map #[] 0)).alloc (.cells #[.map (some (w.heap.size + 1 + 1))] 51)).alloc (.cells #[(.func (.func 29) #[] #[.pointer (some ⟨w.heap.size + 1 + 1 + 1, 0, none⟩), .pointer (some ⟨w.heap.size + 1, 0, none⟩), .pointer (some ⟨w.heap.size + 1 + 1 + 1 + 1, 0, none⟩)])] 52)) := by
  obtain ⟨b0, b1, b2, b3, b4⟩ := five_blocks w N (.func (.func 29) #[] #[.pointer (some ⟨w.heap.size + 1 + 1 + 1, 0, none⟩), .pointer (some ⟨w.heap.size + 1, 0, none⟩), .pointer (some ⟨w.heap.size + 1 + 1 + 1 + 1, 0, none⟩)])
  have hb : Below w.heap.size w (((((w.alloc (.cells N 26)).alloc (.cells #[.slice none 0 0] 32)).alloc (.map #[] 0)).alloc (.cells #[.map (some (w.heap.size + 1 + 1))] 51)).alloc (.cells #[(.func (.func 29) #[] #[.pointer (some ⟨w.heap.size + 1 + 1 + 1, 0, none⟩), .pointer (some ⟨w.heap.size + 1, 0, none⟩), .pointer (some ⟨w.heap.size + 1 + 1 + 1 + 1, 0, none⟩)])] 52)) := ((((below1 w _).alloc (by first | (simp; done) | (simp; omega)) _).alloc (by first | (simp; done) | (simp; omega)) _).alloc (by first | (simp; done) | (simp; omega)) _).alloc (by first | (simp; done) | (simp; omega)) _
  generalize (((((w.alloc (.cells N 26)).alloc (.cells #[.slice none 0 0] 32)).alloc (.map #[] 0)).alloc (.cells #[.map (some (w.heap.size + 1 + 1))] 51)).alloc (.cells #[(.func (.func 29) #[] #[.pointer (some ⟨w.heap.size + 1 + 1 + 1, 0, none⟩), .pointer (some ⟨w.heap.size + 1, 0, none⟩), .pointer (some ⟨w.heap.size + 1 + 1 + 1 + 1, 0, none⟩)])] 52)) = Z at *
  have hm : World.ownsMap Z Try.prog 9 intE (w.heap.size + 1 + 1) 0 (.map []) := by
    obtain ⟨es, clock, hb', F, hs, hD⟩ := World.ownsMap_made (H := Unit) w Try.prog 9 intE
    have hes : (w.alloc (.map #[] 0)).heap[w.heap.size]? = some (.map #[] 0) := heap_alloc_new w _
    rw [hes] at hb'
    cases hb'
    exact ⟨#[], 0, b2, F, hs, hD⟩
  exact ⟨⟨b1, World.ownsRow_nil _ _ _ _, b3, b4, hm, Nat.le_refl _, fun s hs => by simp at hs, fun s hs => rfl, fun b hb => by simp [Value.ownBlock] at hb, by omega, by omega, by omega, by omega, by omega, by omega, by omega, by omega⟩, b0, hb⟩
theorem store_fn (W : World) (a : Addr) (x : Value) (h : W.cell? a = some x) (hf : W.frozen? a = false) (f : Fn) (b c : Array Value) : (store a (.func f b c)).run Try.prog W = .ok () (W.setCell a (.func f b c)) := by
  rw [run_store _ _ _ _ _ rfl, h]
  simp [hf]
set_option maxHeartbeats 1000000 in
theorem names_any {w0 : World} {t : Tr} {k : Int} {s : ByteArray} {v : Int} {m : Bool} {a : Option Addr} {len cap : Nat} (h : Reads w0 t (nd k s v m a len cap)) (w : World) (hw : Below w0.heap.size w0 w) (hc : t.count ≤ 100000) :
    Calls Try.prog 11 #[nd k s v m a len cap] w fun e W' => ∃ lv, e = .returned lv ∧ W'.ownsRow w.heap.size 9 1 lv (t.names []).length ((t.names []).map Value.string) ∧ Below w.heap.size w W' := by
  have HL := Lib.hid (lookT_all t _ h)
  have hmm := @run_makeMap Try.prog
  obtain ⟨hN, hO, hB⟩ := names_start w #[.int .i64 k, .string s, .int .u32 v, .bool m, .slice a len cap]
  obtain ⟨-, -, -, -, b4⟩ := five_blocks w #[.int .i64 k, .string s, .int .u32 v, .bool m, .slice a len cap] .nilFunc
  have z4 := cell0 b4
  have zf := frz0 0 b4
  have rs := store_fn _ _ _ z4 zf
  have y4 := cell0 hN.hk
  have x0 : ∀ j x, (#[.int .i64 k, .string s, .int .u32 v, .bool m, .slice a len cap] : Array Value)[j]? = some x → (((((w.alloc (.cells #[.int .i64 k, .string s, .int .u32 v, .bool m, .slice a len cap] 26)).alloc (.cells #[.slice none 0 0] 32)).alloc (.map #[] 0)).alloc (.cells #[.map (some (w.heap.size + 1 + 1))] 51)).alloc (.cells #[(.func (.func 29) #[] #[.pointer (some ⟨w.heap.size + 1 + 1 + 1, 0, none⟩), .pointer (some ⟨w.heap.size + 1, 0, none⟩), .pointer (some ⟨w.heap.size + 1 + 1 + 1 + 1, 0, none⟩)])] 52)).cell? ⟨w.heap.size, j, none⟩ = some x := fun j x hj => by simp only [World.cell?, hO]; exact hj
  have y0 := x0 0 _ rfl
  have y1 := x0 1 _ rfl
  have y2 := x0 2 _ rfl
  have y3 := x0 3 _ rfl
  have y5 := x0 4 _ rfl
  have HN := Lib.hid hN
  have HB := Lib.hid hB
  have HCT : Hid (([] : List ByteArray).length + t.count ≤ 100000) := Lib.hid (by simpa using hc)
  clear h hN hO hB b4 x0
  unfold nd at *
  go_enter Try.func11, Try.ntmps11
  go_wp2_with (go_at_call 29; refine (LookT.call HL.out hw.size (hw.trans (HB.out.mono hw.size)) HN.out HCT.out).mono ?_; rintro e w2 ⟨rfl, hN2, hb2⟩; obtain ⟨lv, n2, D2, hN2⟩ := hN2; have HN2 := Lib.hid hN2; have HB2 := Lib.hid (HB.out.trans hb2); have q4 := cell0 hN2.hl; clear hN2 hb2)
  go_ret
  exact ⟨lv, rfl, HN2.out.row, HB2.out⟩
end Go.Proofs.Ytkhbmamgfkpdbaa
