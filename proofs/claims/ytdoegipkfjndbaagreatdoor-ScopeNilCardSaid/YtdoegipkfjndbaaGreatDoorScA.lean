/-
  The contracts of a scope (layer 13's scope.Scope): its things, its lists; the calls that only look.
-/
import Derived.Test.YtdoegipkfjndbaaGreatDoorBase
import Derived.Test.YtdoegipkfjndbaaGreatDoorEvE
import Derived.OwnWalk
import Derived.Tactics
import Derived.Deep.QuietTactic
import Derived.BigQuiet
import Derived.Deep.Cut
import Derived.Deep.RegionHeld3
import Derived.Deep.RegionLaw
import Derived.Deep.RegionWith
namespace Go.Proofs.YtdoegipkfjndbaaGreatDoor
open Go.ChangeShapes Go.WideShapes Go.ChangeAt Go.RowKit
open Ev (WRow)
set_option linter.unusedVariables false
set_option linter.unusedSimpArgs false
/-- a list's numbers, as cells -/
def numsV (ns : List Nat) : List Value := ns.map fun j : Nat => .int .i64 (j : Int)
/-- a scope: so many things, nine cells each; its lists, each with its numbers -/
structure ScAt (w : World) (B p o : Nat) (tv lv : Value) (n : Nat) (xs : List Value) (ls : List (Value × List Nat)) : Prop where
  c1 : ∃ a, w.cell? ⟨p, o + 1, none⟩ = some (.pointer (some a))
  c2 : w.cell? ⟨p, o + 2, none⟩ = some tv
  z2 : w.frozen? ⟨p, o + 2, none⟩ = false
  c3 : w.cell? ⟨p, o + 3, none⟩ = some (.int .i64 29)
  c4 : w.cell? ⟨p, o + 4, none⟩ = some lv
  z4 : w.frozen? ⟨p, o + 4, none⟩ = false
  th : WRow w B 9 tv n xs
  li : WRow w B 1 lv ls.length (ls.map (·.1))
  row : ∀ (i : Nat) (v : Value) (ns : List Nat), ls[i]? = some (v, ns) → WRow w B 1 v ns.length (numsV ns) ∧ v.ownBlock ≠ some p ∧ (v.ownBlock = none ∨ v.ownBlock ≠ tv.ownBlock) ∧ (v.ownBlock = none ∨ v.ownBlock ≠ lv.ownBlock)
  apart : ∀ (i j : Nat) (v : Value) (ns : List Nat) (v' : Value) (ns' : List Nat), i ≠ j → ls[i]? = some (v, ns) → ls[j]? = some (v', ns') → v.ownBlock = none ∨ v.ownBlock ≠ v'.ownBlock
  tp : tv.ownBlock ≠ some p
  lp : lv.ownBlock ≠ some p
  tl : tv.ownBlock ≠ lv.ownBlock
  bp : B ≤ p
  lt : p < w.heap.size
  n0 : 29 ≤ n
  n1 : n ≤ 929
  l0 : 2 ≤ ls.length
  l1 : ls.length ≤ 100000
/-- a block of someone else -/
def Ap (z p : Nat) (tv lv : Value) (ls : List (Value × List Nat)) : Prop := z ≠ p ∧ tv.ownBlock ≠ some z ∧ lv.ownBlock ≠ some z ∧ ∀ (i : Nat) (v : Value) (ns : List Nat), ls[i]? = some (v, ns) → v.ownBlock ≠ some z
/-- a thing's name -/
def Nm (xs : List Value) (j : Nat) (x : Int) : Prop := xs[j * 9 + 1]? = some (.int .i64 x)
section
variable {w : World} {B p o n : Nat} {tv lv : Value} {xs : List Value} {ls : List (Value × List Nat)}
theorem ScAt.below {w' : World} (h : ScAt w B p o tv lv n xs ls) (hb : Below w.heap.size w w') : ScAt w' B p o tv lv n xs ls :=
  ⟨by rw [hb.cell h.lt]; exact h.c1, by rw [hb.cell h.lt]; exact h.c2, by rw [hb.frozen h.lt]; exact h.z2, by rw [hb.cell h.lt]; exact h.c3, by rw [hb.cell h.lt]; exact h.c4, by rw [hb.frozen h.lt]; exact h.z4,
    h.th.below hb, h.li.below hb, fun i v ns hi => ⟨(h.row i v ns hi).1.below hb, (h.row i v ns hi).2⟩, h.apart, h.tp, h.lp, h.tl, h.bp, Nat.lt_of_lt_of_le h.lt hb.size, h.n0, h.n1, h.l0, h.l1⟩
theorem ScAt.drew (h : ScAt w B p o tv lv n xs ls) : ScAt w.drew B p o tv lv n xs ls := h.below (Below.refl _ _).drew
theorem scdrewN (w : World) (n : Nat) : Below w.heap.size w (w.drewN n) := ⟨rfl, rfl, rfl, Nat.le_refl _, fun _ _ => rfl⟩
theorem ptr_neq (p o : Nat) (W : World) : (binOp .neq 30 (.pointer (some ⟨p, o, none⟩)) (.pointer none)).run Tryz.prog W = .ok (.bool true) W := by
  obtain ⟨d, hd⟩ : ∃ d, Op.maxDepth = d + 1 := ⟨9999, rfl⟩
  rw [show binOp .neq 30 (.pointer (some ⟨p, o, none⟩)) (.pointer none) = (do pure (.bool (!(← Op.equal 30 (.pointer (some ⟨p, o, none⟩)) (.pointer none)))) : Sem Value) from rfl, Op.equal, hd]
  simp [Op.equalIn, run_underlying Tryz.underlying30]
theorem scis_any (h : ScAt w B p o tv lv n xs ls) : Calls Tryz.prog 21 #[.pointer (some ⟨p, o, none⟩)] w fun e w' => e = .returned (.bool true) ∧ w = w' := by
  obtain ⟨a, c1⟩ := h.c1
  go_enter Tryz.func21, Tryz.ntmps21
  go_wp2
  go_ret
  exact ⟨rfl, rfl⟩
theorem sclevel_any (h : ScAt w B p o tv lv n xs ls) : Calls Tryz.prog 14 #[.pointer (some ⟨p, o, none⟩)] w fun e w' => e = .returned (.int .i64 ((ls.length : Int) - 2)) ∧ w = w' := by
  have c4 := h.c4
  obtain ⟨b, f, c, hv, _, _⟩ := h.li.form (by have := h.l0; omega)
  subst hv
  have l0 := h.l0
  have l1 := h.l1
  have HI := Lib.hid (scis_any h)
  go_enter Tryz.func14, Tryz.ntmps14
  go_wp2_with (go_at_call 21; (refine HI.out.mono ?_); rintro e w' ⟨rfl, rfl⟩)
  go_ret
  exact ⟨rfl, rfl⟩
theorem sclen_any (h : ScAt w B p o tv lv n xs ls) : Calls Tryz.prog 16 #[.pointer (some ⟨p, o, none⟩)] w fun e w' => e = .returned (.int .i64 ((n : Int) - 29)) ∧ Below w.heap.size w w' := by
  have c2 := h.c2
  have c3 := h.c3
  have n0 := h.n0
  have n1 := h.n1
  obtain ⟨b, f, c, hv, _, _⟩ := h.th.form (by omega)
  subst hv
  have HI := Lib.hid (scis_any h)
  go_enter Tryz.func16, Tryz.ntmps16
  go_wp2_with (go_at_call 21; (refine HI.out.mono ?_); rintro e w' ⟨rfl, rfl⟩)
  go_quiet (fail)
  go_wp2
  go_ret
  exact ⟨rfl, scdrewN _ _⟩
theorem scfull_any (h : ScAt w B p o tv lv n xs ls) : Calls Tryz.prog 25 #[.pointer (some ⟨p, o, none⟩)] w fun e w' => e = .returned (.bool (decide (929 ≤ n))) ∧ Below w.heap.size w w' := by
  have HI := Lib.hid (sclen_any h)
  go_enter Tryz.func25, Tryz.ntmps25
  go_wp2_with (go_at_call 16; (refine HI.out.mono ?_); rintro e w' ⟨rfl, hb⟩)
  go_ret
  exact ⟨ret_bool (by simp; omega), hb⟩
/-- a list in which no name is that one -/
theorem in_no (h : ScAt w B p o tv lv n xs ls) (i : Nat) (v : Value) (ns : List Nat) (hi : ls[i]? = some (v, ns)) (hl : ns.length ≤ 1000) (x : Int) (hno : ∀ j ∈ ns, ∃ y, Nm xs j y ∧ y ≠ x) : Calls Tryz.prog 24 #[.pointer (some ⟨p, o, none⟩), v, .int .i64 x] w fun e w' => e = .returned (.tuple #[.int .i64 0, .bool false]) ∧ w = w' := by
  have n0 := h.n0
  have c2 := h.c2
  obtain ⟨b, f, c, hv, _, _⟩ := h.th.form (by omega)
  subst hv
  obtain ⟨hr, _⟩ := h.row i v ns hi
  have HT := Lib.hid h.th
  have HNO := Lib.hid hno
  have HX := Lib.hid h.th.1
  clear hno
  obtain ⟨A, c', hv, HA⟩ : ∃ A c', v = .slice A ns.length c' ∧ Hid (∀ k, k < ns.length → ∃ b' f', A = some ⟨b', f', none⟩ ∧ w.cell? ⟨b', f' + k, none⟩ = (numsV ns)[k]?) := by
    rcases hr.2 with ⟨e, e0⟩ | ⟨b', f', c', e, _⟩
    · exact ⟨none, 0, by rw [e, e0], Lib.hid fun k hk => by omega⟩
    · subst e
      exact ⟨_, c', rfl, Lib.hid fun k hk => ⟨b', f', rfl, (hr.cell k (by omega)).1⟩⟩
  subst hv
  clear hr
  go_enter Tryz.func24, Tryz.ntmps24
  go_wp2_with fail
  go_loopw [9, 12] (fun a i wr => ∃ k : Nat, i = .int .i64 (k : Int) ∧ k ≤ ns.length ∧ w = wr) (fun _ i _ => ns.length - (intOf i).toNat)
  case atStart => exact ⟨0, rfl, by omega, rfl⟩
  case round =>
    obtain ⟨k, rfl, hk, rfl⟩ := hrel
    by_cases hlt : k < ns.length
    · obtain ⟨y, hy, hne⟩ := HNO.out _ (List.getElem_mem hlt)
      obtain ⟨j, hj⟩ : ∃ j, j = ns[k] := ⟨_, rfl⟩
      rw [← hj] at hy
      have hjn : j * 9 + 1 < n * 9 := by rw [← HX.out]; exact (List.getElem?_eq_some_iff.1 hy).1
      obtain ⟨b', f', rfl, c50⟩ := HA.out k hlt
      have c5 : w.cell? ⟨b', f' + k, none⟩ = some (.int .i64 (j : Int)) := by
        rw [c50, hj]
        unfold numsV
        rw [List.getElem?_map, List.getElem?_eq_getElem hlt]; rfl
      have c6 : w.cell? ⟨b, f + j * 9 + 1, none⟩ = some (.int .i64 y) := by rw [Nat.add_assoc, (HT.out.cell (j * 9 + 1) (by omega)).1]; exact hy
      clear hj hy c50
      have hxy : (y == x) = false := by simpa using hne
      go_wp2_with fail
      exact ⟨⟨k + 1, by simp, by omega, trivial⟩, by simp [intOf]; omega⟩
    · obtain rfl : k = ns.length := by omega
      go_wp2_with fail
      go_ret2
      exact ⟨rfl, rfl⟩
end
theorem infoTh : (Tryz.prog.info? 36).map (fun i => (i.zero, i.size, i.bytes)) = some (some (.agg #[.int .i64 0, .int .i64 0, .int .i64 0, .int .i64 0, .int .i32 0, .int .i64 0, .bool false, .bool false, .slice none 0 0]), 9, 80) := by kernel_rfl
theorem infoI : (Tryz.prog.info? 3).map (fun i => (i.zero, i.size, i.bytes)) = some (some (.int .i64 0), 1, 8) := by kernel_rfl
theorem infoLs : (Tryz.prog.info? 65).map (fun i => (i.zero, i.size, i.bytes)) = some (some (.slice none 0 0), 1, 24) := by kernel_rfl
theorem scclone_any (w : World) : Calls Tryz.prog 23 #[.slice none 0 0] w fun e w' => e = .returned (.slice none 0 0) ∧ w = w' := by
  have heq : (binOp .eql 34 (.slice none 0 0) (.slice none 0 0)).run Tryz.prog w = .ok (.bool true) w := by kernel_rfl
  go_enter Tryz.func23, Tryz.ntmps23
  go_wp2
  go_ret
  exact ⟨rfl, rfl⟩
/-! ### what an append leaves -/
theorem far_of {x lv : Value} {g N : Nat} (hx : x.ownBlock = none ∨ x.ownBlock ≠ lv.ownBlock) (hlt : ∀ k, x.ownBlock = some k → k < N) (hat : lv.ownBlock = some g ∨ g = N) : x.ownBlock = none ∨ x.ownBlock ≠ some g := by
  rcases hat with e | e
  · rw [← e]; exact hx
  · cases hb : x.ownBlock with
    | none => exact .inl rfl
    | some k => right; intro e2; have := hlt k hb; have := Option.some.inj e2; omega
theorem far_p {lv : Value} {g N p : Nat} (hx : lv.ownBlock ≠ some p) (hp : p < N) (hat : lv.ownBlock = some g ∨ g = N) : p ≠ g := by
  rcases hat with e | e
  · intro e2; exact hx (by rw [e, e2])
  · omega
section
variable {w w1 : World} {B p o n : Nat} {tv lv : Value} {xs : List Value} {ls : List (Value × List Nat)}
theorem ScAt.listed (h : ScAt w B p o tv lv n xs ls) (hL : ls.length < 100000) {g f cap : Nat} (hown : WRow w1 B 1 (.slice (some ⟨g, f, none⟩) (ls.length + 1) cap) (ls.length + 1) (ls.map (·.1) ++ [.slice none 0 0])) (hg : w.grownBy w1 lv.ownBlock) (hat : lv.ownBlock = some g ∨ g = w.heap.size) :
    ScAt (w1.setCell ⟨p, o + 4, none⟩ (.slice (some ⟨g, f, none⟩) (ls.length + 1) cap)) B p o tv (.slice (some ⟨g, f, none⟩) (ls.length + 1) cap) n xs (ls ++ [(.slice none 0 0, [])]) := by
  have hp : w1.heap[p]? = w.heap[p]? := hg.block p h.lt (fun e => h.lp e.symm)
  have hpg := far_p h.lp h.lt hat
  have hc : ∀ k, w1.cell? ⟨p, k, none⟩ = w.cell? ⟨p, k, none⟩ := fun k => World.cell?_of_block hp
  have hf : ∀ k, w1.frozen? ⟨p, k, none⟩ = w.frozen? ⟨p, k, none⟩ := fun k => World.frozen?_of_block hp
  have ho : ∀ k, k ≠ o + 4 → (w1.setCell ⟨p, o + 4, none⟩ (.slice (some ⟨g, f, none⟩) (ls.length + 1) cap)).cell? ⟨p, k, none⟩ = w.cell? ⟨p, k, none⟩ := fun k hk => by
    rw [World.cell?_setCell_other _ _ _ _ (fun e => hk (by injection e with _ e2 _; omega)), hc]
  have hk : ∀ (i : Nat) (v : Value) (ns : List Nat), ls[i]? = some (v, ns) → v.ownBlock = none ∨ v.ownBlock ≠ some g := fun i v ns hi => far_of (h.row i v ns hi).2.2.2 (fun k hk => ((h.row i v ns hi).1.lt k hk).2) hat
  have hb : (Value.slice (some ⟨g, f, none⟩) (ls.length + 1) cap).ownBlock = some g := rfl
  have hbp : (Value.slice (some ⟨g, f, none⟩) (ls.length + 1) cap).ownBlock ≠ some p := by rw [hb]; intro e; exact hpg (Option.some.inj e).symm
  have e1 : (ls ++ [((.slice none 0 0 : Value), ([] : List Nat))]).length = ls.length + 1 := by simp
  have e2 : (ls ++ [((.slice none 0 0 : Value), ([] : List Nat))]).map (·.1) = ls.map (·.1) ++ [.slice none 0 0] := by simp
  generalize hlv : Value.slice (some ⟨g, f, none⟩) (ls.length + 1) cap = lv1 at *
  have d1 : ∃ a, (w1.setCell ⟨p, o + 4, none⟩ lv1).cell? ⟨p, o + 1, none⟩ = some (.pointer (some a)) := by rw [ho _ (by omega)]; exact h.c1
  have d2 : (w1.setCell ⟨p, o + 4, none⟩ lv1).cell? ⟨p, o + 2, none⟩ = some tv := by rw [ho _ (by omega)]; exact h.c2
  have d3 : (w1.setCell ⟨p, o + 4, none⟩ lv1).cell? ⟨p, o + 3, none⟩ = some (.int .i64 29) := by rw [ho _ (by omega)]; exact h.c3
  have d4 : (w1.setCell ⟨p, o + 4, none⟩ lv1).cell? ⟨p, o + 4, none⟩ = some lv1 := World.cell?_setCell_same _ _ _ ((hc (o + 4)).trans h.c4)
  have d5 : p < (w1.setCell ⟨p, o + 4, none⟩ lv1).heap.size := by simpa [World.setCell] using Nat.lt_of_lt_of_le h.lt hg.size
  have l0 := h.l0
  refine ⟨d1, d2, by rw [World.frozen?_setCell, hf]; exact h.z2, d3, d4, by rw [World.frozen?_setCell, hf]; exact h.z4,
    (h.th.kept hg (.inr h.tl)).other _ h.tp, ?_, fun i v ns hi => ?_, fun i j v ns v' ns' hij hi hj => ?_, h.tp, hbp, ?_, h.bp, d5, h.n0, h.n1, by rw [e1]; omega, by rw [e1]; omega⟩
  · rw [e1, e2]
    exact hown.other _ hbp
  · rw [List.getElem?_append] at hi
    split at hi
    · obtain ⟨a, b, c, d⟩ := h.row i v ns hi
      exact ⟨(a.kept hg d).other _ b, b, c, by rw [hb]; exact hk i v ns hi⟩
    · rename_i hlt
      have : i - ls.length = 0 := by
        have := (List.getElem?_eq_some_iff.1 hi).1
        simp at this; omega
      rw [this] at hi
      cases hi
      exact ⟨⟨rfl, .inl ⟨rfl, rfl⟩⟩, by simp [Value.ownBlock], .inl rfl, .inl rfl⟩
  · have last : ∀ (i : Nat) (v : Value) (ns : List Nat), (ls ++ [((.slice none 0 0 : Value), ([] : List Nat))])[i]? = some (v, ns) → ls[i]? = some (v, ns) ∨ v.ownBlock = none := fun i v ns hi => by
      rw [List.getElem?_append] at hi
      split at hi
      · exact .inl hi
      · have : i - ls.length = 0 := by
          have := (List.getElem?_eq_some_iff.1 hi).1
          simp at this; omega
        rw [this] at hi
        cases hi
        exact .inr rfl
    rcases last i v ns hi with hi | e
    · rcases last j v' ns' hj with hj | e
      · exact h.apart i j v ns v' ns' hij hi hj
      · cases hv : v.ownBlock with
        | none => exact .inl rfl
        | some k => right; rw [e]; simp
    · exact .inl e
  · rcases far_of (.inr h.tl) (fun k hk => (h.th.lt k hk).2) hat with e | e
    · rw [e, hb]; intro e2; cases e2
    · rw [hb]; exact e
theorem ScAt.put1 {lb lf lc : Nat} (h : ScAt w B p o tv (.slice (some ⟨lb, lf, none⟩) ls.length lc) n xs ls) (i : Nat) (v : Value) (ns : List Nat) (hi : ls[i]? = some (v, ns)) {g f cap : Nat} (hown : WRow w1 B 1 (.slice (some ⟨g, f, none⟩) (ns.length + 1) cap) (ns.length + 1) (numsV ns ++ [.int .i64 (n : Int)])) (hg : w.grownBy w1 v.ownBlock) (hat : v.ownBlock = some g ∨ g = w.heap.size) :
    ScAt (w1.setCell ⟨lb, lf + i, none⟩ (.slice (some ⟨g, f, none⟩) (ns.length + 1) cap)) B p o tv (.slice (some ⟨lb, lf, none⟩) ls.length lc) n xs (ls.set i (.slice (some ⟨g, f, none⟩) (ns.length + 1) cap, ns ++ [n])) := by
  obtain ⟨ri, rp, rt, rl⟩ := h.row i v ns hi
  have hlb : (Value.slice (some ⟨lb, lf, none⟩) ls.length lc).ownBlock = some lb := rfl
  have hlp := h.lp
  have htl := h.tl
  have hli := h.li
  have hll := (h.li.lt lb hlb).2
  have hrow := h.row
  rw [hlb] at hlp htl rl
  have hlpne : lb ≠ p := fun e => hlp (by rw [e])
  have hb : (Value.slice (some ⟨g, f, none⟩) (ns.length + 1) cap).ownBlock = some g := rfl
  have hpg : p ≠ g := far_p rp h.lt hat
  have hlg : lb ≠ g := far_p (fun e => by rcases rl with e2 | e2; rw [e2] at e; cases e; exact e2 e) hll hat
  have htg : tv.ownBlock ≠ some g := by
    obtain ⟨tb, tf, tc, rfl, _, htt⟩ := h.th.form (by have := h.n0; omega)
    intro e
    have e1 : tb = g := Option.some.inj e
    rcases hat with e2 | e2
    · rcases rt with e3 | e3
      · rw [e3] at e2; cases e2
      · exact e3 (by rw [e2, ← e1]; rfl)
    · omega
  have htv : tv.ownBlock ≠ v.ownBlock := by
    obtain ⟨tb, tf, tc, rfl, _, htt⟩ := h.th.form (by have := h.n0; omega)
    intro e
    rcases rt with e3 | e3
    · rw [e3] at e; cases e
    · exact e3 e.symm
  have hlv : some lb ≠ v.ownBlock := by
    intro e
    rcases rl with e3 | e3
    · rw [e3] at e; cases e
    · exact e3 e.symm
  generalize hvv : Value.slice (some ⟨g, f, none⟩) (ns.length + 1) cap = vv at *
  have hp : (w1.setCell ⟨lb, lf + i, none⟩ vv).heap[p]? = w.heap[p]? := (Below.heap_setCell _ _ _ _ (fun e => hlpne e.symm)).trans (hg.block p h.lt (fun e => rp e.symm))
  have hil : i < ls.length := (List.getElem?_eq_some_iff.1 hi).1
  have hgi : ∀ k, (ls.set i (vv, ns ++ [n]))[k]? = if i = k then some (vv, ns ++ [n]) else ls[k]? := fun k => by
    rw [List.getElem?_set]
    by_cases e : i = k
    · rw [if_pos e, if_pos e, if_pos (by omega)]
    · rw [if_neg e, if_neg e]
  have d5 : p < (w1.setCell ⟨lb, lf + i, none⟩ vv).heap.size := by simpa [World.setCell] using Nat.lt_of_lt_of_le h.lt hg.size
  have eL : (ls.set i (vv, ns ++ [n])).length = ls.length := List.length_set ..
  have eM : (ls.set i (vv, ns ++ [n])).map (·.1) = (ls.map (·.1)).set i vv := List.map_set ..
  refine ⟨by rw [World.cell?_of_block hp]; exact h.c1, by rw [World.cell?_of_block hp]; exact h.c2, by rw [World.frozen?_of_block hp]; exact h.z2, by rw [World.cell?_of_block hp]; exact h.c3, by rw [World.cell?_of_block hp]; exact h.c4, by rw [World.frozen?_of_block hp]; exact h.z4,
    (h.th.kept hg (.inr htv)).other _ htl, ?_, fun k u ms hk => ?_, fun k j u ms u' ms' hkj hk hj => ?_, h.tp, h.lp, h.tl, h.bp, d5, h.n0, h.n1, by rw [eL]; exact h.l0, by rw [eL]; exact h.l1⟩
  · rw [eL, eM]
    exact (hli.kept hg (.inr (by rw [hlb]; exact hlv))).set i (by omega) vv
  · rw [hgi] at hk
    split at hk
    · obtain ⟨rfl, rfl⟩ := Prod.mk.inj (Option.some.inj hk)
      refine ⟨?_, by rw [hb]; exact fun e => hpg (Option.some.inj e).symm, .inr (by rw [hb]; exact fun e => htg e.symm), .inr (by rw [hb, hlb]; exact fun e => hlg (Option.some.inj e).symm)⟩
      have := hown.other (b := lb) (o := lf + i) vv (by rw [hb]; exact fun e => hlg (Option.some.inj e).symm)
      rw [List.length_append]
      unfold numsV at this ⊢
      rw [List.map_append]
      exact this
    · rename_i hne
      obtain ⟨a, b, c, d⟩ := hrow k u ms hk
      refine ⟨(a.kept hg (h.apart k i u ms v ns (fun e => hne e.symm) hk hi)).other _ ?_, b, c, d⟩
      rw [hlb] at d
      rcases d with d | d
      · rw [d]; intro e; cases e
      · exact d
  · rw [hgi] at hk hj
    split at hk
    · obtain ⟨rfl, rfl⟩ := Prod.mk.inj (Option.some.inj hk)
      split at hj
      · omega
      · rename_i hne
        rw [hb]
        have := far_of (h.apart j i u' ms' v ns (fun e => hne e.symm) hj hi) (fun k hk => ((hrow j u' ms' hj).1.lt k hk).2) hat
        rcases this with e | e
        · right; rw [e]; intro e2; cases e2
        · right; exact fun e2 => e e2.symm
    · rename_i hnk
      split at hj
      · obtain ⟨rfl, rfl⟩ := Prod.mk.inj (Option.some.inj hj)
        rw [hb]
        exact far_of (h.apart k i u ms v ns (fun e => hnk e.symm) hk hi) (fun q hq => ((hrow k u ms hk).1.lt q hq).2) hat
      · exact h.apart k j u ms u' ms' hkj hk hj
theorem ScAt.put2 (h : ScAt w B p o tv lv n xs ls) (hn : n < 929) {g f cap : Nat} {cs : List Value} (hown : WRow w1 B 9 (.slice (some ⟨g, f, none⟩) (n + 1) cap) (n + 1) (xs ++ cs)) (hg : w.grownBy w1 tv.ownBlock) (hat : tv.ownBlock = some g ∨ g = w.heap.size) :
    ScAt (w1.setCell ⟨p, o + 2, none⟩ (.slice (some ⟨g, f, none⟩) (n + 1) cap)) B p o (.slice (some ⟨g, f, none⟩) (n + 1) cap) lv (n + 1) (xs ++ cs) ls := by
  have hp : w1.heap[p]? = w.heap[p]? := hg.block p h.lt (fun e => h.tp e.symm)
  have hpg := far_p h.tp h.lt hat
  have hc : ∀ k, w1.cell? ⟨p, k, none⟩ = w.cell? ⟨p, k, none⟩ := fun k => World.cell?_of_block hp
  have hf : ∀ k, w1.frozen? ⟨p, k, none⟩ = w.frozen? ⟨p, k, none⟩ := fun k => World.frozen?_of_block hp
  have hb : (Value.slice (some ⟨g, f, none⟩) (n + 1) cap).ownBlock = some g := rfl
  have hbp : (Value.slice (some ⟨g, f, none⟩) (n + 1) cap).ownBlock ≠ some p := by rw [hb]; intro e; exact hpg (Option.some.inj e).symm
  generalize hlv : Value.slice (some ⟨g, f, none⟩) (n + 1) cap = tv1 at *
  have ho : ∀ k, k ≠ o + 2 → (w1.setCell ⟨p, o + 2, none⟩ tv1).cell? ⟨p, k, none⟩ = w.cell? ⟨p, k, none⟩ := fun k hk => by
    rw [World.cell?_setCell_other _ _ _ _ (fun e => hk (by injection e with _ e2 _; omega)), hc]
  have d1 : ∃ a, (w1.setCell ⟨p, o + 2, none⟩ tv1).cell? ⟨p, o + 1, none⟩ = some (.pointer (some a)) := by rw [ho _ (by omega)]; exact h.c1
  have d2 : (w1.setCell ⟨p, o + 2, none⟩ tv1).cell? ⟨p, o + 2, none⟩ = some tv1 := World.cell?_setCell_same _ _ _ ((hc (o + 2)).trans h.c2)
  have d3 : (w1.setCell ⟨p, o + 2, none⟩ tv1).cell? ⟨p, o + 3, none⟩ = some (.int .i64 29) := by rw [ho _ (by omega)]; exact h.c3
  have d4 : (w1.setCell ⟨p, o + 2, none⟩ tv1).cell? ⟨p, o + 4, none⟩ = some lv := by rw [ho _ (by omega)]; exact h.c4
  have d5 : p < (w1.setCell ⟨p, o + 2, none⟩ tv1).heap.size := by simpa [World.setCell] using Nat.lt_of_lt_of_le h.lt hg.size
  have n0 := h.n0
  refine ⟨d1, d2, by rw [World.frozen?_setCell, hf]; exact h.z2, d3, d4, by rw [World.frozen?_setCell, hf]; exact h.z4,
    hown.other _ hbp, (h.li.kept hg (.inr (fun e => h.tl e.symm))).other _ h.lp, fun i v ns hi => ?_, h.apart, hbp, h.lp, ?_, h.bp, d5, by omega, by omega, h.l0, h.l1⟩
  · obtain ⟨a, b, c, d⟩ := h.row i v ns hi
    exact ⟨(a.kept hg c).other _ b, b, by rw [hb]; exact far_of c (fun k hk => (a.lt k hk).2) hat, d⟩
  · rw [hb]
    obtain ⟨lb, lf, lc, rfl, _, hll⟩ := h.li.form (by have := h.l0; omega)
    intro e
    have e1 : g = lb := Option.some.inj e
    rcases hat with e2 | e2
    · exact h.tl (by rw [e2, e1]; rfl)
    · omega
end
end Go.Proofs.YtdoegipkfjndbaaGreatDoor
