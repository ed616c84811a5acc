/-
  A scope that is not there, or a zero one: what each of its functions answers.
-/
import Derived.Test.YtdoegipkfjndbaaGreatDoorScA
import Derived.WalkKit
import Derived.ProofKit
import Derived.KernelRfl
namespace Go.Proofs.YtdoegipkfjndbaaGreatDoor
open Go.ChangeShapes Go.WideShapes Go.ChangeAt Go.RowKit
set_option linter.unusedVariables false
set_option linter.unusedSimpArgs false
theorem nlb1 (w : World) (a : Obj) : Below w.heap.size w (w.alloc a) := (Below.refl _ _).alloc (Nat.le_refl _) _
def Nl (W : World) (c : Value) : Prop := c = .pointer none ∨ ∃ z, c = .pointer (some ⟨z, 0, none⟩) ∧ z < W.heap.size ∧ W.cell? ⟨z, 1, none⟩ = some (.pointer none)
theorem Nl.next {W V : World} {c : Value} (h : Nl W c) (hb : Below W.heap.size W V) : Nl V c := by
  rcases h with h | ⟨z, e, hz, hc⟩
  · exact .inl h
  · exact .inr ⟨z, e, Nat.lt_of_lt_of_le hz hb.size, (hb.cell hz).trans hc⟩
theorem results_ct {P : Program} {fn : Func} {p q : Tmp} {ty : TypeId} (h : fn.results = #[.cell p ty, .tmp q]) (tmps : Array Value) (w : World) (g : Nat) (t : TypeId) (cs : Array Value) (fr : Nat × Nat) (d : TypeDesc) (v : Value)
    (hp : tmps.getD p undef = .pointer (some ⟨g, 0, none⟩)) (hq : tmps.getD q undef = v) (hg : w.heap[g]? = some (.cells cs t fr))
    (hu : P.underlying ty = some d) (hd : (match d with | .struct _ | .array _ _ => true | _ => false) = true) (hi : (P.info? ty).map (·.size) = some cs.size) :
    (results fn tmps).run P w = .ok (.tuple #[.agg cs, v]) w := by
  have hp' : tmps[p]?.getD undef = .pointer (some ⟨g, 0, none⟩) := by simpa using hp
  have hq' : tmps[q]?.getD undef = v := by simpa using hq
  simp [results, h, hp', hq', asAddr, run_loadVar_row w g t ty cs fr d hg hu hd hi]
theorem nl_sizeT : Tryz.prog.cellsOf 36 = 9 ∧ Tryz.prog.cellsOf 51 = 4 := by constructor <;> kernel_rfl
theorem nl_is {W : World} {c : Value} (h : Nl W c) : Calls Tryz.prog 21 #[c] W fun e w' => e = .returned (.bool false) ∧ W = w' := by
  rcases h with rfl | ⟨z, rfl, hz, hc⟩
  · go_enter Tryz.func21, Tryz.ntmps21
    go_wp2
    go_ret
    exact ⟨rfl, rfl⟩
  · go_enter Tryz.func21, Tryz.ntmps21
    go_wp2
    go_ret
    exact ⟨rfl, rfl⟩
theorem nl_has {W : World} {c : Value} (h : Nl W c) (n : Int) : Calls Tryz.prog 22 #[c, .int .i64 n] W fun e w' => e = .returned (.bool false) ∧ W = w' := by
  have HI := Lib.hid (nl_is h)
  clear h
  go_enter Tryz.func22, Tryz.ntmps22
  go_wp2_with (go_at_call 21; (with_reducible refine HI.out.mono ?_); rintro e w' ⟨rfl, hw⟩; subst hw)
  go_ret
  exact ⟨rfl, rfl⟩
theorem nl_level {W : World} {c : Value} (h : Nl W c) : Calls Tryz.prog 14 #[c] W fun e w' => e = .returned (.int .i64 0) ∧ W = w' := by
  have HI := Lib.hid (nl_is h)
  clear h
  go_enter Tryz.func14, Tryz.ntmps14
  go_wp2_with (go_at_call 21; (with_reducible refine HI.out.mono ?_); rintro e w' ⟨rfl, hw⟩; subst hw)
  go_ret
  exact ⟨rfl, rfl⟩
theorem nl_Open {W : World} {c : Value} (h : Nl W c) : Calls Tryz.prog 4 #[c] W fun e w' => e = .returned (.tuple #[]) ∧ Below W.heap.size W w' := by
  have HI := Lib.hid fun (V : World) (hV : Below W.heap.size W V) => (nl_is (h.next hV))
  have HS := Lib.hid (nlb1 W)
  clear h
  go_enter Tryz.func4, Tryz.ntmps4
  go_wp2_with ((go_at_call 21; (with_reducible refine (HI.out _ (by first | exact Below.refl _ _ | exact HS.out _)).mono ?_); rintro e w' ⟨rfl, hw⟩; subst hw))
  go_end0
  exact ⟨rfl, by first | exact Below.refl _ _ | exact HS.out _⟩
theorem nl_Close {W : World} {c : Value} (h : Nl W c) : Calls Tryz.prog 5 #[c] W fun e w' => e = .returned (.tuple #[]) ∧ Below W.heap.size W w' := by
  have HI := Lib.hid fun (V : World) (hV : Below W.heap.size W V) => (nl_level (h.next hV))
  have HS := Lib.hid (nlb1 W)
  clear h
  go_enter Tryz.func5, Tryz.ntmps5
  go_wp2_with ((go_at_call 14; (with_reducible refine (HI.out _ (by first | exact Below.refl _ _ | exact HS.out _)).mono ?_); rintro e w' ⟨rfl, hw⟩; subst hw))
  go_end0
  exact ⟨rfl, by first | exact Below.refl _ _ | exact HS.out _⟩
theorem nl_Set {W : World} {c : Value} (h : Nl W c) : Calls Tryz.prog 6 #[c, .int .i64 1, .agg #[.int .i64 0, .int .i64 0, .int .i64 0, .int .i64 0, .int .i32 0, .int .i64 0, .bool false, .bool false, .slice none 0 0]] W fun e w' => e = .returned (.tuple #[]) ∧ Below W.heap.size W w' := by
  have HI := Lib.hid fun (V : World) (hV : Below W.heap.size W V) => (nl_has (h.next hV) 1)
  have HS := Lib.hid (nlb1 W)
  clear h
  go_enter Tryz.func6, Tryz.ntmps6
  go_wp2_with ((go_at_call 22; (with_reducible refine (HI.out _ (by first | exact Below.refl _ _ | exact HS.out _)).mono ?_); rintro e w' ⟨rfl, hw⟩; subst hw))
  go_end0
  exact ⟨rfl, by first | exact Below.refl _ _ | exact HS.out _⟩
theorem nl_Declare {W : World} {c : Value} (h : Nl W c) : Calls Tryz.prog 7 #[c, .agg #[.int .i64 0, .int .i64 0, .int .i64 0, .int .i64 0, .int .i32 0, .int .i64 0, .bool false, .bool false, .slice none 0 0]] W fun e w' => e = .returned (.tuple #[.int .i64 0, .int .i64 63]) ∧ Below W.heap.size W w' := by
  have HI := Lib.hid fun (V : World) (hV : Below W.heap.size W V) => (nl_is (h.next hV))
  have HS := Lib.hid (nlb1 W)
  clear h
  go_enter Tryz.func7, Tryz.ntmps7
  go_wp2_with ((go_at_call 21; (with_reducible refine (HI.out _ (by first | exact Below.refl _ _ | exact HS.out _)).mono ?_); rintro e w' ⟨rfl, hw⟩; subst hw))
  go_ret2
  exact ⟨rfl, by first | exact Below.refl _ _ | exact HS.out _⟩
theorem nl_Find {W : World} {c : Value} (h : Nl W c) : Calls Tryz.prog 8 #[c, .int .i64 1] W fun e w' => e = .returned (.tuple #[.int .i64 0, .bool false]) ∧ Below W.heap.size W w' := by
  have HI := Lib.hid fun (V : World) (hV : Below W.heap.size W V) => (nl_is (h.next hV))
  have HS := Lib.hid (nlb1 W)
  clear h
  go_enter Tryz.func8, Tryz.ntmps8
  go_wp2_with ((go_at_call 21; (with_reducible refine (HI.out _ (by first | exact Below.refl _ _ | exact HS.out _)).mono ?_); rintro e w' ⟨rfl, hw⟩; subst hw))
  go_ret2
  exact ⟨rfl, by first | exact Below.refl _ _ | exact HS.out _⟩
theorem nl_Get {W : World} {c : Value} (h : Nl W c) : Calls Tryz.prog 9 #[c, .int .i64 1] W fun e w' => e = .returned (.tuple #[.agg #[.int .i64 0, .int .i64 0, .int .i64 0, .int .i64 0, .int .i32 0, .int .i64 0, .bool false, .bool false, .slice none 0 0], .bool false]) ∧ Below W.heap.size W w' := by
  have HI := Lib.hid fun (V : World) (hV : Below W.heap.size W V) => (nl_has (h.next hV) 1)
  have HS := Lib.hid (nlb1 W)
  clear h
  go_enter Tryz.func9, Tryz.ntmps9
  go_wp2_with ((go_at_call 22; (with_reducible refine (HI.out _ (by first | exact Below.refl _ _ | exact HS.out _)).mono ?_); rintro e w' ⟨rfl, hw⟩; subst hw))
  exact bodyPost_ret (results_ct rfl _ _ W.heap.size 36 #[.int .i64 0, .int .i64 0, .int .i64 0, .int .i64 0, .int .i32 0, .int .i64 0, .bool false, .bool false, .slice none 0 0] (0, 0) _ _ rfl rfl (heap_alloc_new W _) Tryz.underlying36 rfl (by kernel_rfl)) rfl ⟨rfl, HS.out _⟩
theorem nl_Import {W : World} {c : Value} (h : Nl W c) (f : Value) : Calls Tryz.prog 10 #[c, .int .i64 1, f] W fun e w' => e = .returned (.tuple #[.int .i64 0, .int .i64 26]) ∧ Below W.heap.size W w' := by
  have HI := Lib.hid fun (V : World) (hV : Below W.heap.size W V) => (nl_is (h.next hV))
  have HS := Lib.hid (nlb1 W)
  clear h
  go_enter Tryz.func10, Tryz.ntmps10
  go_wp2_with ((go_at_call 21; (with_reducible refine (HI.out _ (by first | exact Below.refl _ _ | exact HS.out _)).mono ?_); rintro e w' ⟨rfl, hw⟩; subst hw))
  go_ret2
  exact ⟨rfl, by first | exact Below.refl _ _ | exact HS.out _⟩
theorem nl_FindIn {W : World} {c : Value} (h : Nl W c) : Calls Tryz.prog 12 #[c, .int .i64 1, .int .i64 1] W fun e w' => e = .returned (.tuple #[.int .i64 0, .bool false]) ∧ Below W.heap.size W w' := by
  have HI := Lib.hid fun (V : World) (hV : Below W.heap.size W V) => (nl_is (h.next hV))
  have HS := Lib.hid (nlb1 W)
  clear h
  go_enter Tryz.func12, Tryz.ntmps12
  go_wp2_with ((go_at_call 21; (with_reducible refine (HI.out _ (by first | exact Below.refl _ _ | exact HS.out _)).mono ?_); rintro e w' ⟨rfl, hw⟩; subst hw))
  go_ret2
  exact ⟨rfl, by first | exact Below.refl _ _ | exact HS.out _⟩
theorem nl_Face {W : World} {c : Value} (h : Nl W c) : Calls Tryz.prog 13 #[c, .int .i64 1] W fun e w' => e = .returned (.tuple #[.agg #[.string ⟨#[]⟩, .slice none 0 0, .slice none 0 0, .slice none 0 0], .bool false]) ∧ Below W.heap.size W w' := by
  have HI := Lib.hid fun (V : World) (hV : Below W.heap.size W V) => (nl_is (h.next hV))
  have HS := Lib.hid (nlb1 W)
  clear h
  go_enter Tryz.func13, Tryz.ntmps13
  go_wp2_with ((go_at_call 21; (with_reducible refine (HI.out _ (by first | exact Below.refl _ _ | exact HS.out _)).mono ?_); rintro e w' ⟨rfl, hw⟩; subst hw))
  exact bodyPost_ret (results_ct rfl _ _ W.heap.size 51 #[.string ⟨#[]⟩, .slice none 0 0, .slice none 0 0, .slice none 0 0] (0, 0) _ _ rfl rfl (heap_alloc_new W _) Tryz.underlying51 rfl (by kernel_rfl)) rfl ⟨rfl, HS.out _⟩
theorem nl_Imports {W : World} {c : Value} (h : Nl W c) : Calls Tryz.prog 15 #[c] W fun e w' => e = .returned (.slice none 0 0) ∧ Below W.heap.size W w' := by
  have HI := Lib.hid fun (V : World) (hV : Below W.heap.size W V) => (nl_is (h.next hV))
  have HS := Lib.hid (nlb1 W)
  clear h
  go_enter Tryz.func15, Tryz.ntmps15
  go_wp2_with ((go_at_call 21; (with_reducible refine (HI.out _ (by first | exact Below.refl _ _ | exact HS.out _)).mono ?_); rintro e w' ⟨rfl, hw⟩; subst hw))
  go_ret
  exact ⟨rfl, by first | exact Below.refl _ _ | exact HS.out _⟩
theorem nl_Len {W : World} {c : Value} (h : Nl W c) : Calls Tryz.prog 16 #[c] W fun e w' => e = .returned (.int .i64 0) ∧ Below W.heap.size W w' := by
  have HI := Lib.hid fun (V : World) (hV : Below W.heap.size W V) => (nl_is (h.next hV))
  have HS := Lib.hid (nlb1 W)
  clear h
  go_enter Tryz.func16, Tryz.ntmps16
  go_wp2_with ((go_at_call 21; (with_reducible refine (HI.out _ (by first | exact Below.refl _ _ | exact HS.out _)).mono ?_); rintro e w' ⟨rfl, hw⟩; subst hw))
  go_ret
  exact ⟨rfl, by first | exact Below.refl _ _ | exact HS.out _⟩
theorem telling_any (W : World) : Calls Tryz.prog 11 #[.slice none 0 0] W fun e w' => ∃ f, e = .returned f ∧ Below W.heap.size W w' := by
  have HS := Lib.hid (nlb1 W)
  go_enter Tryz.func11, Tryz.ntmps11
  go_wp2
  go_ret
  exact ⟨_, rfl, by first | exact Below.refl _ _ | exact HS.out _⟩
theorem nsetRow_heap (w : World) (b : Nat) (cs ds : Array Value) (t : TypeId) (fr : Nat × Nat) (h : w.heap[b]? = some (.cells ds t fr)) : (w.setRow b cs).heap[b]? = some (.cells cs t fr) := by
  have hlt : b < w.heap.size := (Array.getElem?_eq_some_iff.1 h).1
  have h' : w.heap[b] = .cells ds t fr := by simpa [Array.getElem?_eq_getElem hlt] using h
  show (w.heap.modify b _)[b]? = _
  simp [Array.getElem_modify, hlt, h']
theorem nbelow_setRow {B g : Nat} {w0 w : World} (hb : Below B w0 w) (hBg : B ≤ g) (cs : Array Value) : Below B w0 (w.setRow g cs) :=
  ⟨hb.os, hb.tape, hb.output, by simpa using hb.size, fun k hk => (setRow_other w g k cs (by omega)).trans (hb.block k hk)⟩
theorem nl_size9 : (Tryz.prog.info? 36).map (·.size) = some 9 := by kernel_rfl
theorem nl_size4 : (Tryz.prog.info? 51).map (·.size) = some 4 := by kernel_rfl
theorem nl_zero (w : World) (V : World) (z : Nat) (cs : Array Value) (t : TypeId) (h : V.heap[z]? = some (.cells cs t (0, 0))) (h1 : cs[1]? = some (.pointer none)) : Nl V (.pointer (some ⟨z, 0, none⟩)) :=
  .inr ⟨z, rfl, (Array.getElem?_eq_some_iff.1 h).1, by rw [World.cell?, h]; exact h1⟩
theorem new_nil (W : World) (v : Value) : Calls Tryz.prog 17 #[.pointer none, v] W fun e w' => e = .returned (.pointer none) ∧ Below W.heap.size W w' := by
  go_enter Tryz.func17, Tryz.ntmps17
  go_wp2
  go_ret
  exact ⟨rfl, Below.refl _ _⟩
end Go.Proofs.YtdoegipkfjndbaaGreatDoor
