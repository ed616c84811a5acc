/-
  ScanInterns: rows of texts as they come in; the document's words; what stays apart; the chapter's rows.
-/
import Derived.Test.YthpdgghjaglhnaaGreatDoorSnO
import Derived.Test.YthpdgghjaglhnaaGreatDoorShelf
namespace Go.Proofs.YthpdgghjaglhnaaGreatDoor
open Go.ChangeShapes Go.WideShapes Go.ChangeAt Go.RowKit
open Ev (WRow)
set_option linter.unusedVariables false
set_option linter.unusedSimpArgs false
theorem strRow_of {P : Program} {H : Type} {enc : TypeId × Value → H} {W : World} {base : Nat} {held : Bool} {t e : TypeId} {a : Option Addr} {len cap : Nat} {d : DataW H} {p : List MemPlace}
    (ht : P.underlying t = some (.slice e)) (he : P.underlying e = some .string) (hc : P.cellsOf e = 1)
    (h : DataW.Trod enc P W base (fun _ => true) held t (.slice a len cap) d p) : len ≤ maxLen ∧ ∀ k, k < len → ∃ x s, a = some x ∧ x.block < W.heap.size ∧ W.cell? (x.add k) = some (.string s) ∧ s.size ≤ maxLen := by
  obtain ⟨fuel, hf⟩ := h
  rcases DataW.trod_slice ht hf with ⟨hcs, _⟩ | ⟨a', len', cap', elems, rest, n, _, hcs, _, hb, hl, hm, hlen, hel, hsp, hns⟩
  · simp [Value.cells] at hcs
    obtain ⟨rfl, rfl, rfl⟩ := hcs
    exact ⟨Nat.zero_le _, fun k hk => by omega⟩
  · simp [Value.cells] at hcs
    obtain ⟨rfl, rfl, rfl⟩ := hcs
    refine ⟨Nat.le_trans hl hm, fun k hk => ?_⟩
    have hk2 := hel k hk
    rw [List.getElem?_eq_getElem (by omega), hc, Nat.mul_one, Option.bind_eq_some_iff] at hk2
    obtain ⟨cs', hcs', hy⟩ := hk2
    obtain ⟨s, rfl, _, hs⟩ := DataW.trod_string he hy
    have hcell := cell_of_cells?_one hcs'
    have hlt := World.block_lt_of_cell? _ _ hcell
    rw [block_add] at hlt
    exact ⟨a', s, rfl, hlt, hcell, hs⟩
/-- a block of someone else -/
def ApS (z : Nat) (q : Sp) : Prop := z ≠ q.p ∧ z ≠ q.ib ∧ z ≠ q.gb ∧ q.nv.ownBlock ≠ some z ∧ q.sv.ownBlock ≠ some z
section
variable {w W : World} {B : Nat} {q q' : Sp} {s : Sn}
theorem ApS.sf {z : Nat} (h : ApS z q) (hf : Sf q q' w W) (hz : z < w.heap.size) : ApS z q' ∧ W.heap[z]? = w.heap[z]? := by
  obtain ⟨h1, h2, h3, h4, h5⟩ := h
  refine ⟨⟨by rw [hf.p]; exact h1, by rw [hf.ib]; exact h2, by rw [hf.gb]; exact h3, ?_, by rw [hf.sv]; exact h5⟩, hf.block z hz h1 h4 h2⟩
  rcases hf.nv with e | e
  · rw [e]; exact h4
  · intro e2; have := e z e2; omega
theorem SnAt.far (h : SnAt w B q s) {z : Nat} (hz : w.heap.size ≤ z) : ApS z q :=
  ⟨by have := h.lt; omega, by have := h.li; omega, by have := h.lg; omega, fun e => by have := (h.nms.lt z e).2; omega, fun e => by have := (h.src.lt z e).2; omega⟩
theorem SnAt.grown {row : Option Nat} (h : SnAt w B q s) (hg : w.grownBy W row) (hz : ∀ z, row = some z → ApS z q) : SnAt W B q s :=
  h.keep hg.size fun k hk _ hc => hg.block k hk fun e => by
    obtain ⟨h1, h2, h3, h4, h5⟩ := hz k e.symm
    rcases hc with e | e | e | e | e
    · exact h1 e
    · exact h2 e
    · exact h3 e
    · exact h4 e
    · exact h5 e
theorem newF_nil : newF [] = begF (wsF 57 29) 0 := by
  have e : bl ([] : List Int) = (true, []) := by rw [bl]; rfl
  unfold newF
  rw [if_neg (by simp)]
  unfold getF
  rw [if_neg (by simp [wsF])]
  show (if (bl ([].drop _)).1 = true then _ else _) = _
  rw [List.drop_nil, e, if_pos rfl]
  show tokF (begF { wsF 57 29 with src := [] } 0) = _
  unfold tokF
  rw [if_pos (by simp [begF])]
  rfl
theorem kwords_any (w : World) : Calls Tryz.prog 17 #[] w fun e w' => e = .returned (.slice (some ⟨w.heap.size, 0, none⟩) 29 29) ∧ w' = w.alloc (.cells (kwL.map fun k => Value.string (bs k)).toArray 9) := by
  go_enter Tryz.func17, Tryz.ntmps17
  go_wp2
  go_ret
  exact ⟨rfl, rfl⟩
theorem kout_any (w : World) : Calls Tryz.prog 18 #[] w fun e w' => e = .returned (.slice (some ⟨w.heap.size, 0, none⟩) 28 28) ∧ w' = w.alloc (.cells (pdL.map fun k => Value.string (bs k)).toArray 9) := by
  go_enter Tryz.func18, Tryz.ntmps18
  go_wp2
  go_ret
  exact ⟨rfl, rfl⟩
end
noncomputable section
theorem lower_FF (w : World) : Calls Tryz.prog 46 #[.string (Ev.bytesOf [70, 70])] w fun e w' => e = .returned (.string (Ev.bytesOf [102, 102])) ∧ Below w.heap.size w w' :=
  (Tryz.strings_ToLower_ascii (Ev.bytesOf [70, 70]) w (by decide) (fun j b h => by
    have : b ∈ [(70 : UInt8), 70] := List.mem_of_getElem? (show [(70 : UInt8), 70][j]? = some b from h)
    simp only [List.mem_cons, List.not_mem_nil, or_false, or_self] at this
    subst this; decide)).mono fun e w' ⟨he, hb⟩ => ⟨he, hb⟩
set_option maxRecDepth 1000000 in
theorem run11 (φ : Ev.Val → Prop) : Ev.outV ((Ev.evO Tryz.prog ⟨[], φ, spaceG⟩ (Ev.orcL [⟨46, [.str [70, 70]], .str [102, 102]⟩]) 1000 30 (.fn 5) []).go .e 0) = some (.bool (.lit true)) := by kernel_rfl
theorem known11 (w : World) (hT : SpTab w) : Calls Tryz.prog 5 #[] w fun e w' => e = .returned (.bool true) ∧ Below w.heap.size w w' :=
  Ev.law_trueG (l := []) 1000 30 run11 tabVal0 (spaceG_ok _ _ _ _) (fun q hq => by cases hq)
    (Ev.ents_cons (Ev.EntOk.of rfl [.string (Ev.bytesOf [70, 70])] ⟨⟨by decide, rfl⟩, trivial⟩ (v := .string (Ev.bytesOf [102, 102])) (fun _ => ⟨by decide, rfl⟩) fun w => lower_FF w) Ev.ents_nil) rfl [] w (tab_base hT _ _ _ _) trivial
end
end Go.Proofs.YthpdgghjaglhnaaGreatDoor
