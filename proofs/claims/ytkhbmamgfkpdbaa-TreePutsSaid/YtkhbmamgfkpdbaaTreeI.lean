/-
  A node that came in, read as data, is one with all below it.
-/
import Derived.Test.YtkhbmamgfkpdbaaTreeA
import Derived.ChangeArms
import Derived.OpenShut
namespace Go.Proofs.Ytkhbmamgfkpdbaa
open Go.ChangeShapes Go.WideShapes Go.ChangeAt Go.RowKit
set_option linter.unusedVariables false
theorem At.succ {w : World} : ∀ (d : Nat) (u : Value), At w d u → At w (d + 1) u
  | 0, _, h => h.elim
  | d + 1, u, h => by
    obtain ⟨k, s, v, m, a, len, cap, rfl, hs, h1, h2, hl, hc, hk⟩ := h
    refine ⟨k, s, v, m, a, len, cap, rfl, hs, h1, h2, hl, hc, fun h0 => ?_⟩
    obtain ⟨x, hx, hb, hK⟩ := hk h0
    refine ⟨x, hx, hb, fun j hj => ?_⟩
    obtain ⟨k, s, v, m, a, l, c, h3, h4⟩ := hK j hj
    exact ⟨k, s, v, m, a, l, c, h3, At.succ d _ h4⟩
theorem cells5 : Try.prog.cellsOf 26 = 5 := by kernel_rfl
theorem cells1 : Try.prog.cellsOf 3 = 1 ∧ Try.prog.cellsOf 9 = 1 ∧ Try.prog.cellsOf 23 = 1 ∧ Try.prog.cellsOf 4 = 1 ∧ Try.prog.cellsOf 24 = 1 ∧ Try.prog.cellsOf 22 = 1 := by
  refine ⟨?_, ?_, ?_, ?_, ?_, ?_⟩ <;> kernel_rfl
theorem five {cs : List Value} (h : cs.length = 5) : ∃ a b c d e, cs = [a, b, c, d, e] := by
  match cs, h with
  | [a, b, c, d, e], _ => exact ⟨a, b, c, d, e, rfl⟩
section
variable {H : Type} {enc : TypeId × Value → H} {W : World} {held : Bool}
theorem at_of : ∀ (fuel : Nat) (cs : List Value) (x : DataW H × List MemPlace), DataW.trod enc Try.prog W 0 (fun _ => true) held fuel 26 cs = some x → At W fuel (.agg cs.toArray) := by
  intro fuel
  induction fuel using Nat.strongRecOn with
  | ind fuel ih =>
    intro cs x h
    obtain ⟨xs, n, rfl, -, hcl, hxl, hf⟩ := DataW.trod_struct Try.underlying26 h
    rw [cells5] at hcl
    obtain ⟨c0, c1, c2, c3, c4, rfl⟩ := five hcl
    have hx5 : xs.length = 5 := hxl
    obtain ⟨k1, k2, k3, k4, k5, k6⟩ := cells1
    have f0 := hf 0 _ rfl
    change DataW.trod enc Try.prog W 0 (fun _ => true) held n 22 ((List.drop 0 [c0, c1, c2, c3, c4]).take (Try.prog.cellsOf 22)) = _ at f0
    rw [k6, List.getElem?_eq_getElem (by omega)] at f0
    change DataW.trod enc Try.prog W 0 (fun _ => true) held n 22 [c0] = _ at f0
    have f1 := hf 1 _ rfl
    change DataW.trod enc Try.prog W 0 (fun _ => true) held n 9 ((List.drop 1 [c0, c1, c2, c3, c4]).take (Try.prog.cellsOf 9)) = _ at f1
    rw [k2, List.getElem?_eq_getElem (by omega)] at f1
    change DataW.trod enc Try.prog W 0 (fun _ => true) held n 9 [c1] = _ at f1
    have f2 := hf 2 _ rfl
    change DataW.trod enc Try.prog W 0 (fun _ => true) held n 23 ((List.drop 2 [c0, c1, c2, c3, c4]).take (Try.prog.cellsOf 23)) = _ at f2
    rw [k3, List.getElem?_eq_getElem (by omega)] at f2
    change DataW.trod enc Try.prog W 0 (fun _ => true) held n 23 [c2] = _ at f2
    have f3 := hf 3 _ rfl
    change DataW.trod enc Try.prog W 0 (fun _ => true) held n 4 ((List.drop 3 [c0, c1, c2, c3, c4]).take (Try.prog.cellsOf 4)) = _ at f3
    rw [k4, List.getElem?_eq_getElem (by omega)] at f3
    change DataW.trod enc Try.prog W 0 (fun _ => true) held n 4 [c3] = _ at f3
    have f4 := hf 4 _ rfl
    change DataW.trod enc Try.prog W 0 (fun _ => true) held n 24 ((List.drop 4 [c0, c1, c2, c3, c4]).take (Try.prog.cellsOf 24)) = _ at f4
    rw [k5, List.getElem?_eq_getElem (by omega)] at f4
    change DataW.trod enc Try.prog W 0 (fun _ => true) held n 24 [c4] = _ at f4
    obtain ⟨k, e0, -, w0⟩ := DataW.trod_int Try.underlying22 f0
    obtain ⟨s, e1, -, w1⟩ := DataW.trod_string Try.underlying9 f1
    obtain ⟨v, e2, -, w2⟩ := DataW.trod_int Try.underlying23 f2
    obtain ⟨m, e3, -⟩ := DataW.trod_bool Try.underlying4 f3
    cases e0; cases e1; cases e2; cases e3
    rcases DataW.trod_slice Try.underlying24 f4 with ⟨e4, -⟩ | ⟨a, len, cap, elems, rest, n', rfl, e4, -, -, hl, hc, hel, hE, -, -⟩
    · cases e4
      exact ⟨k, s, v, m, none, 0, 0, rfl, w1, w0, w2, Nat.le_refl _, Nat.zero_le _, fun h => absurd h (by omega)⟩
    · cases e4
      have hj : ∀ j, j < len → ∃ k s v m a' l c, Kid W a.block (a.off + j * 5) (if j = 0 then a.spot else none) k s v m a' l c ∧ At W (n' + 1) (nd k s v m a' l c) := fun j hj => by
        have h1 := hE j hj
        rw [List.getElem?_eq_getElem (by omega), Option.bind_eq_some_iff, cells5] at h1
        obtain ⟨cs', hcs, hy⟩ := h1
        obtain ⟨-, hlen, hcell⟩ := World.cells?_some hcs
        have hA := At.succ _ _ (ih n' (by omega) cs' _ hy)
        obtain ⟨k, s, v, m, a', l, c, he, h3⟩ := hA
        have he5 : cs' = [.int .i64 k, .string s, .int .u32 v, .bool m, .slice a' l c] := by
          have := (Value.agg.inj he)
          simpa using congrArg Array.toList this
        subst he5
        have hA2 : At W (n' + 1) (nd k s v m a' l c) := ⟨k, s, v, m, a', l, c, rfl, h3⟩
        have ea : a.add (j * 5) = ⟨a.block, a.off + j * 5, if j = 0 then a.spot else none⟩ := add_at a.block a.off a.spot j
        rw [ea] at hcell
        exact ⟨k, s, v, m, a', l, c, ⟨hcell 0 (by omega), hcell 1 (by omega), hcell 2 (by omega), hcell 3 (by omega), hcell 4 (by omega)⟩, hA2⟩
      refine ⟨k, s, v, m, some a, len, cap, rfl, w1, w0, w2, hl, hc, fun h0 => ⟨a, rfl, ?_, hj⟩⟩
      obtain ⟨k', s', v', m', a', l', c', hkid, -⟩ := hj 0 h0
      have := World.block_lt_of_cell? _ _ hkid.g1
      simpa using this
theorem node_of {v : Value} {r : Reach} {base : Nat} {d : DataW H} {p : List MemPlace} (hv : Value.okWide Try.prog W r base 26 v ∨ ∃ cs, v = .agg cs) (h : DataW.Trod enc Try.prog W 0 (fun _ => true) held 26 v d p) : ∃ n, At W n v := by
  have : ∃ cs, v = .agg cs := by
    rcases hv with h | h
    · obtain ⟨cs, rfl, -⟩ := okWide_struct Try.underlying26 h
      exact ⟨cs, rfl⟩
    · exact h
  obtain ⟨cs, rfl⟩ := this
  obtain ⟨fuel, hf⟩ := h
  have := at_of fuel _ _ hf
  exact ⟨fuel, by simpa [Value.cells] using this⟩
end
end Go.Proofs.Ytkhbmamgfkpdbaa
