/-
  The library's table of blanks, as the evaluator reads it; a reading of the numbers over a world that has the table.
-/
import Derived.Test.YtdoegipkfjndbaaGreatDoorEvD
import Derived.Test.YtdoegipkfjndbaaGreatDoorRows
import Derived.Lib.LaidTab
import Derived.KernelRfl
namespace Go.Proofs.YtdoegipkfjndbaaGreatDoor
set_option linter.unusedVariables false
noncomputable section
def spAt (o : Nat) : Nat := bif Nat.beq o 32 || (Nat.ble 9 o && Nat.ble o 13) then 1 else 0
def spaceTab : List Int := [0, 0, 0, 0, 0, 0, 0, 0, 0, 1, 1, 1, 1, 1, 0, 0, 0, 0, 0, 0, 0, 0, 0, 0, 0, 0, 0, 0, 0, 0, 0, 0, 1] ++ List.replicate 223 0
structure SpTab (w : World) : Prop where
  space : Lib.TabIs Tryz.prog w "strings.asciiSpace" .u8 spaceTab
theorem gSpace : Tryz.prog.globalNamed "strings.asciiSpace" = some 0 := by kernel_rfl
def spaceG : Ev.Base → Nat → Option (IntKind × Ev.SI)
  | .glob g, o => bif Nat.beq g 0 && Nat.blt o 256 then some (.u8, .lit (.ofNat (spAt o))) else none
  | .arg _, _ => none
theorem spaceTab_all : ((List.range 256).all fun o => spaceTab.getD o 0 == (spAt o : Int)) = true := by kernel_rfl
theorem spaceTab_len : spaceTab.length = 256 := by kernel_rfl
theorem spaceTab_at (o : Nat) (h : o < 256) : spaceTab.getD o 0 = (spAt o : Int) := by simpa using List.all_eq_true.1 spaceTab_all o (List.mem_range.2 h)
theorem SpTab.cell {w : World} (hT : SpTab w) (o : Nat) (h : o < 256) : w.cell? ⟨0, o, none⟩ = some (.int .u8 (spAt o)) := by
  have := hT.space.cell gSpace o (by rw [spaceTab_len]; exact h)
  rwa [spaceTab_at o h] at this
theorem SpTab.stab {w w' : World} (h : ∀ k, k < 0 + 1 → w'.heap[k]? = w.heap[k]?) (hT : SpTab w) : SpTab w' := by
  have hs := hT.space
  refine ⟨?_⟩
  unfold Lib.TabIs World.var? at *
  rw [gSpace] at hs ⊢
  simp only [Option.bind_some] at hs ⊢
  rw [h _ (Nat.lt_succ_self _)]
  exact hs
def tabVal (i : Nat → Int) (b : Nat → Bool) (s : Nat → List UInt8) (sz : ∀ i, (s i).length ≤ 1099511627776) : Ev.Val := ⟨i, b, 0 + 1, SpTab, fun w w' h hT => hT.stab h, s, sz, fun _ => (0, 0), fun _ => undef⟩
def tabVal0 : Ev.Val := tabVal (fun _ => 0) (fun _ => false) (fun _ => []) (fun _ => Nat.zero_le _)
theorem tab_base {w : World} (hT : SpTab w) (i : Nat → Int) (b : Nat → Bool) (s : Nat → List UInt8) (sz : ∀ i, (s i).length ≤ 1099511627776) : (tabVal i b s sz).J w ∧ (tabVal i b s sz).N ≤ w.heap.size := ⟨hT, World.block_lt_of_cell? _ _ (hT.cell 0 (by omega))⟩
theorem spaceG_ok (i : Nat → Int) (b : Nat → Bool) (s : Nat → List UInt8) (sz : ∀ i, (s i).length ≤ 1099511627776) : Ev.GOk spaceG (tabVal i b s sz) := by
  intro bb o k x h w hJ
  cases bb with
  | arg j => cases h
  | glob g =>
    simp only [spaceG] at h
    cases hb : (Nat.beq g 0 && Nat.blt o 256) with
    | false => rw [hb] at h; cases h
    | true =>
      rw [hb, cond_true] at h
      cases h
      rw [Bool.and_eq_true, Nat.beq_eq, Ev.blt_iff] at hb
      obtain ⟨rfl, ho⟩ := hb
      have := SpTab.cell (w := w) hJ o ho
      simpa [Ev.Base.at, Ev.SI.den] using this
end
end Go.Proofs.YtdoegipkfjndbaaGreatDoor
