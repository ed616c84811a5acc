/-
  The acts' names, one by one; what an act's text is put together by.
-/
import Derived.Test.YtlodoilihminaaaGreatDoorRf
import Derived.Shelf.Abstract
import Derived.Shelf.RegionOpen
import Derived.OwnWalkIn
import Derived.TacticsInMore
import Derived.LoopNIn
import Derived.LoopIn
import Derived.Lib.Fields
namespace Go.Proofs.YtlodoilihminaaaGreatDoor
open Go.ChangeShapes Go.WideShapes Go.ChangeAt Go.RowKit Go.Shelf
set_option linter.unusedVariables false
set_option linter.unusedSimpArgs false
attribute [local go_sem] Oper.semAt_some
def actB : ByteArray := ⟨#[112, 117, 116, 32, 97, 100, 100, 32, 100, 114, 111, 112, 32, 98, 117, 105, 108, 100, 32, 114, 117, 110, 32, 109, 101, 97, 110, 32, 111, 119, 110]⟩
theorem fields_acts : Lib.fields actB.data.toList = actWs := by decide +kernel
def SpT (w : World) : Prop := Lib.TabIs Tryz.prog w "strings.asciiSpace" .u8 Lib.asciiSpaceTab
theorem fields_any (w : World) (hT : SpT w) : Calls Tryz.prog 54 #[.string actB] w fun e w' => e = .returned (.slice (some ⟨w.heap.size, 0, none⟩) 7 7) ∧ w' = w.alloc (.cells (actWs.map fun l => Value.string (S l)).toArray 9) := by
  have h := Tryz.strings_Fields_laid actB w (by decide) (by
    intro j b hb
    have : ∀ c ∈ actB.data.toList, c.toNat < 128 := by decide +kernel
    exact this b (List.mem_of_getElem? hb)) hT
  rw [fields_acts] at h
  exact h
/-- what a round over the names is handed -/
def encN (x : Nat) : Array Value := #[.int .i64 (1 + (x : Int)), .string (S (actWs.getD x []))]
theorem acts_cell (w : World) {V : World} (hb : Below (w.heap.size + 1) (w.alloc (.cells (actWs.map fun l => Value.string (S l)).toArray 9)) V) (j : Nat) (hj : j < 7) : V.cell? ⟨w.heap.size, j, none⟩ = some (.string (S (actWs.getD j []))) := by
  rw [hb.cell (show w.heap.size < w.heap.size + 1 by omega), World.cell?_alloc_new w _ _ _]
  match j, hj with
  | 0, _ => rfl
  | 1, _ => rfl
  | 2, _ => rfl
  | 3, _ => rfl
  | 4, _ => rfl
  | 5, _ => rfl
  | 6, _ => rfl
set_option maxHeartbeats 4000000 in
set_option maxRecDepth 100000 in
theorem names1_seq {W : World} (hT : SpT W) : SeqT Tryz.prog 53 #[] encN (fun pre x A => x = pre.length) 7 (fun xs => xs.length = 7) W := by
  intro l J Jx hJ hY h0
  have HF := Lib.hid (fields_any W hT)
  have HJ := Lib.hid hJ
  have HY := Lib.hid hY
  have HB1 := Lib.hid (sbelow1 W (.cells (actWs.map fun l => Value.string (S l)).toArray 9))
  have HJ0 := Lib.hid (hJ _ _ _ h0 HB1.out)
  have hsz : (W.alloc (.cells (actWs.map fun l => Value.string (S l)).toArray 9)).heap.size = W.heap.size + 1 := by simp
  have HCW : Hid (∀ V, Stay W.heap.size (W.alloc (.cells (actWs.map fun l => Value.string (S l)).toArray 9)) V → ∀ j, j < 7 → V.cell? ⟨W.heap.size, j, none⟩ = some (.string (S (actWs.getD j [])))) := Lib.hid fun V hV j hj => by
    rw [World.cell?_of_block (w := W.alloc (.cells (actWs.map fun l => Value.string (S l)).toArray 9)) (hV.2 _ (Nat.le_refl _) (by show W.heap.size < _; rw [hsz]; omega))]
    exact acts_cell W (Below.refl _ _) j hj
  have HSZ := Lib.hid hsz
  clear hT hJ hY h0 hsz
  refine callsIn_of_wp Tryz.func53 rfl trivial ?_ rfl
  simp only [Tryz.ntmps53, List.size_toArray, List.length_cons, List.length_nil, Nat.reduceAdd, Nat.reduceSub, Array.replicate_succ, Array.replicate_zero, List.push_toArray, List.append_toArray, List.nil_append, List.cons_append]
  gi_wp2
  refine ⟨trivial, rfl, callsIn_wide.2 ((HF.out).mono ?_)⟩
  rintro e w1 ⟨rfl, hw1⟩
  have HW1 := Lib.hid hw1
  rw [← hw1] at HJ0 HCW HSZ
  clear hw1 HF HB1
  gi_wp2
  gi_loopw [6] (fun p wr => ∃ (j : Nat) (ys : List Nat), p = .int .i64 j ∧ j ≤ 7 ∧ Hid (ys.length = j ∧ J ys wr ∧ Stay W.heap.size w1 wr)) (fun p _ => 7 - (intOf p).toNat)
  case atStart => exact ⟨0, [], rfl, Nat.zero_le _, Lib.hid ⟨rfl, HJ0.out, Stay.refl _ _⟩⟩
  case round =>
    obtain ⟨j, ys, rfl, hj, HR⟩ := hrel
    clear HJ0
    by_cases hlt : j < 7
    · have hc := HCW.out wr HR.out.2.2 j hlt
      have hws : W.heap.size ≤ wr.heap.size := Nat.le_trans (by have := HSZ.out; omega) HR.out.2.2.1
      obtain ⟨fn, tmps, assign, body, hy, hRR⟩ := HY.out ys j wr HR.out.2.1 hws (by have := HR.out.1; omega) HR.out.1.symm
      have hy' : (Instr.yield l #[.int .i64 (1 + (j : Int)), .string (S (actWs.getD j []))]).run Tryz.prog wr = _ := hy
      have HRR := Lib.hid hRR
      have HST := Lib.hid HR.out.2.2
      have HYL := Lib.hid HR.out.1
      clear hy hRR hws HR
      generalize S (actWs.getD j []) = nm at hc hy'
      gi_wp2
      refine ⟨rfl, HRR.out.mono ?_⟩
      rintro e B (⟨rfl, hj1, hs1⟩ | ⟨rfl, hx1⟩)
      · have HN : Hid ((ys ++ [j]).length = j + 1 ∧ J (ys ++ [j]) B ∧ Stay W.heap.size w1 B) := Lib.hid ⟨by simp [HYL.out], hj1, HST.out.trans hs1⟩
        clear hj1 hs1 hc hy' HRR
        gi_wp2
        go_roundw
        case rel => exact ⟨j + 1, ys ++ [j], by simp, by omega, HN⟩
        case measure => simp [intOf]; omega
      · have HX := Lib.hid hx1
        clear hx1 hc hy' HRR
        gi_wp2
        refine bodyPost_ret (results_none rfl _ _ _) rfl ?_
        exact ⟨⟨_, rfl⟩, .inr ⟨_, HX.out⟩⟩
    · have hj7 : j = 7 := by omega
      have HE : Hid (ys.length = 7 ∧ J ys wr) := Lib.hid ⟨by rw [HR.out.1, hj7], HR.out.2.1⟩
      gi_wp2
      go_end0
      exact ⟨⟨_, rfl⟩, .inl ⟨ys, HE.out⟩⟩
theorem sNames_any (w : World) : Calls Tryz.prog 23 #[] w fun e w' => e = .returned (.func (.func 53) #[] #[]) ∧ w' = w := by
  go_enter Tryz.func23, Tryz.ntmps23
  go_wp2
  go_ret
  exact ⟨rfl, rfl⟩
/-- a word more, behind a blank -/
def sep (L l : List UInt8) : List UInt8 := if L = [] then l else L ++ 32 :: l
theorem put_any {W : World} {b : Nat} {p v : Value} {L : List UInt8} (h : Bd W b p v L) (l : List UInt8) (hl : L.length + l.length ≤ 10000000) : Calls Tryz.prog 49 #[.string (S l), .pointer (some ⟨b, 0, none⟩)] W fun e w' => e = .returned (.tuple #[]) ∧ ∃ p' v', Bd w' b p' v' (sep L l) ∧ Bf b W w' ∧ (L = [] → Bk b v W w') := by
  have HH := Lib.hid h
  by_cases h0 : L = []
  · subst h0
    go_enter Tryz.func49, Tryz.ntmps49
    go_wp2_with (first
      | (go_at_call 40; (with_reducible refine (len_any HH.out).mono ?_); rintro e w' ⟨rfl, rfl⟩)
      | (go_at_call 38; (with_reducible refine (wstr_any HH.out l (by simp at hl ⊢; omega)).mono ?_); rintro e w' ⟨rfl, v', hb, hf, hk⟩; have HB := Lib.hid hb; have HF := Lib.hid hf; have HK := Lib.hid hk; clear hb hf hk))
    go_end0
    exact ⟨rfl, _, _, HB.out, HF.out, fun _ => HK.out⟩
  · have hn : 0 < L.length := List.length_pos_iff.2 h0
    have hs : sep L l = (L ++ [32]) ++ l := by unfold sep; rw [if_neg h0]; simp
    rw [hs]
    have HC := Lib.hid (wbyte_any h 32 (by omega))
    clear hs
    go_enter Tryz.func49, Tryz.ntmps49
    go_wp2_with (first
      | (go_at_call 40; (with_reducible refine (len_any HH.out).mono ?_); rintro e w' ⟨rfl, rfl⟩)
      | (go_at_call 39; refine HC.out.mono ?_; rintro e w1 ⟨rfl, v1, hb1, hf1⟩; have HB1 := Lib.hid hb1; have HF1 := Lib.hid hf1; clear hb1 hf1)
      | (go_at_call 38; (with_reducible refine (wstr_any HB1.out l (by simp; omega)).mono ?_); rintro e w' ⟨rfl, v', hb, hf, hk⟩; have HB := Lib.hid hb; have HF := Lib.hid (HF1.out.trans hf); clear hb hf hk))
    go_end0
    exact ⟨rfl, _, _, HB.out, HF.out, fun e => absurd e h0⟩
end Go.Proofs.YtlodoilihminaaaGreatDoor
