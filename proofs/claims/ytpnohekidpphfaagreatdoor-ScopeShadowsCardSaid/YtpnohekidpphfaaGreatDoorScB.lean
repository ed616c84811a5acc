/-
  The contracts of a scope: Open, put, Declare.
-/
import Derived.Test.YtpnohekidpphfaaGreatDoorScA
import Derived.Test.YtpnohekidpphfaaGreatDoorInv
import Derived.Deep.AppendLies
namespace Go.Proofs.YtpnohekidpphfaaGreatDoor
open Go.ChangeShapes Go.WideShapes Go.ChangeAt Go.RowKit
open Ev (WRow)
set_option linter.unusedVariables false
set_option linter.unusedSimpArgs false
theorem scb1 (w : World) (a : Obj) : Below w.heap.size w (w.alloc a) := (Below.refl _ _).alloc (Nat.le_refl _) _
section
variable {w : World} {B p o n : Nat} {tv lv : Value} {xs : List Value} {ls : List (Value × List Nat)}
set_option maxRecDepth 100000 in
set_option maxHeartbeats 1000000 in
theorem open_any (h : ScAt w B p o tv lv n xs ls) (hL : ls.length < 100000) (hB : B ≤ w.heap.size) : Calls Tryz.prog 9 #[.pointer (some ⟨p, o, none⟩)] w fun e w' => e = .returned (.tuple #[]) ∧ Below B w w' ∧ ∃ lv', ScAt w' B p o tv lv' n xs (ls ++ [(.slice none 0 0, [])]) ∧ (∀ z, z < w.heap.size → Ap z p tv lv ls → w'.heap[z]? = w.heap[z]? ∧ Ap z p tv lv' (ls ++ [(.slice none 0 0, [])])) := by
  obtain ⟨i0, hi, hz0, hz1, hz2⟩ : ∃ i, Tryz.prog.info? 22 = some i ∧ i.zero = some (.slice none 0 0) ∧ i.size = 1 ∧ i.bytes = 24 := by
    obtain ⟨i, e1, e2⟩ := Option.map_eq_some_iff.1 infoLs
    exact ⟨i, e1, (Prod.mk.inj e2).1, (Prod.mk.inj (Prod.mk.inj e2).2).1, (Prod.mk.inj (Prod.mk.inj e2).2).2⟩
  obtain ⟨lb, lf, lc, hlv, hlbB, hlbl⟩ := h.li.form (by have := h.l0; omega)
  subst hlv
  have c4 := h.c4
  have hb0 := scb1 w (.cells #[.slice none 0 0] 22)
  have H1 := Lib.hid (h.below hb0)
  have HB0 := Lib.hid hb0
  have HI := Lib.hid (scis_any h)
  have hlt := h.lt
  have hlp := h.lp
  have hbp := h.bp
  have l0 := h.l0
  have HL := Lib.hid hL
  have l1 : ls.length + 1 ≤ 4611686018427387904 := by omega
  have l2 : (ls.length + 1) * 24 ≤ 140737488355328 := by omega
  clear h hb0 hL
  go_enter Tryz.func9, Tryz.ntmps9
  go_upto_region 1 with (go_at_call 29; (refine HI.out.mono ?_); rintro e w' ⟨rfl, rfl⟩)
  go_wp2_with (at_builtin; refine Ev.wpList_append_w rfl (.tmp 8) (.tmp 9) 64 64 rfl 22 i0 (.slice none 0 0) 24 Tryz.underlying64 Tryz.underlying64 hi hz0 hz1 hz2 rfl rfl H1.out.li ⟨w.heap.size, 0, none⟩ 1 1 [.slice none 0 0] rfl rfl ?c1 ?c2 ?c3 ?c4 ?c5 ?c6 _ rfl ?_)
  case c1 => exact World.news_of_block (cs := #[.slice none 0 0]) (t := 22) (fr := (0, 0)) (heap_alloc_new w _)
  case c2 => simp [Value.oneCell']
  case c3 => omega
  case c4 => exact l1
  case c5 => exact l2
  case c6 => simp; omega
  intro g f cap w1 hown hgrow hat hlt1
  have hsz : (w.alloc (.cells #[.slice none 0 0] 22)).heap.size = w.heap.size + 1 := by simp
  have P := H1.out.listed HL.out hown hgrow (by rw [hsz]; exact hat)
  have hp : w1.heap[p]? = (w.alloc (.cells #[.slice none 0 0] 22)).heap[p]? := hgrow.block p (by rw [hsz]; omega) (fun e => hlp e.symm)
  have k4 : w1.cell? ⟨p, o + 4, none⟩ = some (.slice (some ⟨lb, lf, none⟩) ls.length lc) := by rw [World.cell?_of_block hp]; exact H1.out.c4
  have y4 : w1.frozen? ⟨p, o + 4, none⟩ = false := by rw [World.frozen?_of_block hp]; exact H1.out.z4
  have HP := Lib.hid P
  have HBE : Hid (Below B w (w1.setCell ⟨p, o + 4, none⟩ (.slice (some ⟨g, f, none⟩) (ls.length + 1) cap))) := Lib.hid (((HB0.out.mono hB).grown hgrow (by rw [hsz]; omega) (fun k hk => by cases hk; exact hlbB)).setCell hbp _)
  have HF : Hid (∀ z, z < w.heap.size → Ap z p tv (.slice (some ⟨lb, lf, none⟩) ls.length lc) ls → (w1.setCell ⟨p, o + 4, none⟩ (.slice (some ⟨g, f, none⟩) (ls.length + 1) cap)).heap[z]? = w.heap[z]? ∧ Ap z p tv (.slice (some ⟨g, f, none⟩) (ls.length + 1) cap) (ls ++ [(.slice none 0 0, [])])) := Lib.hid (by
    intro z hz ⟨z1, z2, z3, z4⟩
    refine ⟨?_, z1, z2, ?_, fun i v ns hi => ?_⟩
    · rw [Below.heap_setCell _ _ _ _ z1, hgrow.block z (by rw [hsz]; omega) (fun e => z3 e.symm)]
      exact HB0.out.block z hz
    · intro e
      have e1 : g = z := Option.some.inj e
      rcases hat with e2 | e2
      · exact z3 (by rw [e2, e1])
      · omega
    · rw [List.getElem?_append] at hi
      split at hi
      · exact z4 i v ns hi
      · have h9 := (List.getElem?_eq_some_iff.1 hi).1
        simp at h9
        rw [show i - ls.length = 0 by omega] at hi
        cases hi
        simp [Value.ownBlock])
  clear P hown hgrow hat hlt1 hp
  go_wp2
  go_end0
  exact ⟨rfl, HBE.out, _, HP.out, HF.out⟩
/-- a thing more, in the last list -/
def cells9 (x0 x1 x2 x3 x4 x5 x6 x7 : Value) : List Value := [x0, x1, x2, x3, x4, x5, x6, x7, .slice none 0 0]
set_option maxRecDepth 100000 in
set_option maxHeartbeats 40000000 in
theorem put_any (h : ScAt w B p o tv lv n xs ls) (hn : n < 929) (hB : B ≤ w.heap.size) (i : Nat) (v : Value) (ns : List Nat) (hi : ls[i]? = some (v, ns)) (hns : ns.length ≤ 1000) (x0 x1 x2 x3 x4 x5 x6 x7 : Value) (h1 : ∀ u ∈ cells9 x0 x1 x2 x3 x4 x5 x6 x7, u.oneCell' = true) :
    Calls Tryz.prog 27 #[.pointer (some ⟨p, o, none⟩), .int .i64 (i : Int), .agg (cells9 x0 x1 x2 x3 x4 x5 x6 x7).toArray] w fun e w' => e = .returned (.int .i64 (n : Int)) ∧ Below B w w' ∧ ∃ tv' v', ScAt w' B p o tv' lv (n + 1) (xs ++ cells9 x0 x1 x2 x3 x4 x5 x6 x7) (ls.set i (v', ns ++ [n])) ∧ (∀ z, z < w.heap.size → Ap z p tv lv ls → w'.heap[z]? = w.heap[z]? ∧ Ap z p tv' lv (ls.set i (v', ns ++ [n]))) := by
  obtain ⟨lb, lf, lc, hlv, hlbB, hlbl⟩ := h.li.form (by have := h.l0; omega)
  subst hlv
  obtain ⟨tb, tf, tc, htv, htbB, htbl⟩ := h.th.form (by have := h.n0; omega)
  subst htv
  obtain ⟨ri, rp, rt, rl⟩ := h.row i v ns hi
  have hil : i < ls.length := (List.getElem?_eq_some_iff.1 hi).1
  have l1 := h.l1
  have hb0 := scb1 w (.cells (cells9 x0 x1 x2 x3 x4 x5 x6 x7).toArray 35)
  have H1 := Lib.hid h
  have HB0 := Lib.hid hb0
  have hsz : (w.alloc (.cells (cells9 x0 x1 x2 x3 x4 x5 x6 x7).toArray 35)).heap.size = w.heap.size + 1 := by simp
  clear h hb0
  go_enter Tryz.func27, Tryz.ntmps27
  go_upto_region 1 with fail
  have E0 : ∀ k x, (cells9 x0 x1 x2 x3 x4 x5 x6 x7)[k]? = some x → (w.alloc (.cells (cells9 x0 x1 x2 x3 x4 x5 x6 x7).toArray 35)).cell? ⟨w.heap.size, k, none⟩ = some x := fun k x hx => by
    rw [World.cell?_alloc_new w _ _ _]; simpa using hx
  have F0 : ∀ k, (w.alloc (.cells (cells9 x0 x1 x2 x3 x4 x5 x6 x7).toArray 35)).frozen? ⟨w.heap.size, k, none⟩ = false := fun k => World.frozen?_alloc_new w _ _ _
  generalize hW0 : w.alloc (.cells (cells9 x0 x1 x2 x3 x4 x5 x6 x7).toArray 35) = W0 at *
  generalize hqq : w.heap.size = q at *
  have e8 := E0 8 _ rfl
  have f8 := F0 8
  go_upto_region 2 with (go_at_call 37; (refine (scclone_any _).mono ?_); rintro e w' ⟨rfl, rfl⟩)
  have HE : Hid (∀ k x, (cells9 x0 x1 x2 x3 x4 x5 x6 x7)[k]? = some x → (W0.setCell ⟨q, 8, none⟩ (.slice none 0 0)).cell? ⟨q, k, none⟩ = some x) := Lib.hid fun k x hx => by
    by_cases hk : k = 8
    · subst hk
      rw [World.cell?_setCell_same _ _ _ e8]
      exact hx
    · rw [World.cell?_setCell_other _ _ _ _ (fun e => hk (by injection e with _ e2 _; omega))]
      exact E0 k x hx
  have hbW : Below q W0 (W0.setCell ⟨q, 8, none⟩ (.slice none 0 0)) := (Below.refl q W0).setCell (show q ≤ (⟨q, 8, none⟩ : Addr).block from Nat.le_refl q) _
  have hszW : (W0.setCell ⟨q, 8, none⟩ (.slice none 0 0)).heap.size = q + 1 := by simp [World.setCell]; exact hsz
  have HBV : Hid (Below q w (W0.setCell ⟨q, 8, none⟩ (.slice none 0 0))) := Lib.hid (HB0.out.trans hbW)
  have HV : Hid (ScAt (W0.setCell ⟨q, 8, none⟩ (.slice none 0 0)) B p o (.slice (some ⟨tb, tf, none⟩) n tc) (.slice (some ⟨lb, lf, none⟩) ls.length lc) n xs ls) := Lib.hid (H1.out.below (by rw [hqq]; exact HBV.out))
  clear hbW E0 F0 e8 f8 hW0 HB0
  generalize W0.setCell ⟨q, 8, none⟩ (.slice none 0 0) = V at *
  obtain ⟨i1, hi1, hz0, hz1, hz2⟩ : ∃ i, Tryz.prog.info? 3 = some i ∧ i.zero = some (.int .i64 0) ∧ i.size = 1 ∧ i.bytes = 8 := by
    obtain ⟨i, e1, e2⟩ := Option.map_eq_some_iff.1 infoI
    exact ⟨i, e1, (Prod.mk.inj e2).1, (Prod.mk.inj (Prod.mk.inj e2).2).1, (Prod.mk.inj (Prod.mk.inj e2).2).2⟩
  have c2 := HV.out.c2
  have c4 := HV.out.c4
  have cl : V.cell? ⟨lb, lf + i, none⟩ = some v := by
    rw [(HV.out.li.cell i (by omega)).1, List.getElem?_map, hi]; rfl
  have fl : V.frozen? ⟨lb, lf + i, none⟩ = false := (HV.out.li.cell i (by omega)).2
  have hA : Below V.heap.size V (V.drew.alloc (.cells #[.int .i64 (n : Int)] 3)) := (Below.refl _ V).drew.alloc (Nat.le_refl _) _
  have HA := Lib.hid (HV.out.below hA)
  have HROW := (HA.out.row i v ns hi).1
  have clA : (V.drew.alloc (.cells #[.int .i64 (n : Int)] 3)).cell? ⟨lb, lf + i, none⟩ = some v := by rw [hA.cell (by simp; omega)]; exact cl
  have flA : (V.drew.alloc (.cells #[.int .i64 (n : Int)] 3)).frozen? ⟨lb, lf + i, none⟩ = false := by rw [hA.frozen (by simp; omega)]; exact fl
  have c4A : (V.drew.alloc (.cells #[.int .i64 (n : Int)] 3)).cell? ⟨p, o + 4, none⟩ = some (.slice (some ⟨lb, lf, none⟩) ls.length lc) := HA.out.c4
  have c2A : (V.drew.alloc (.cells #[.int .i64 (n : Int)] 3)).cell? ⟨p, o + 2, none⟩ = some (.slice (some ⟨tb, tf, none⟩) n tc) := HA.out.c2
  have hpV : p < V.heap.size := HV.out.lt
  have c4B : (V.alloc (.cells #[.int .i64 (n : Int)] 3)).cell? ⟨p, o + 4, none⟩ = some (.slice (some ⟨lb, lf, none⟩) ls.length lc) := c4A
  have c2B : (V.alloc (.cells #[.int .i64 (n : Int)] 3)).cell? ⟨p, o + 2, none⟩ = some (.slice (some ⟨tb, tf, none⟩) n tc) := c2A
  have clB : (V.alloc (.cells #[.int .i64 (n : Int)] 3)).cell? ⟨lb, lf + i, none⟩ = some v := clA
  have hsA : (V.drew.alloc (.cells #[.int .i64 (n : Int)] 3)).heap.size = q + 2 := by simp; exact hszW
  have hsA2 : (V.alloc (.cells #[.int .i64 (n : Int)] 3)).drew.heap.size = q + 2 := by simp; exact hszW
  have hlbv : v.ownBlock ≠ some lb := by
    rcases rl with e | e
    · rw [e]; intro e2; cases e2
    · exact e
  clear hA
  have hHE : ∀ k x, (cells9 x0 x1 x2 x3 x4 x5 x6 x7)[k]? = some x → V.cell? ⟨q, k, none⟩ = some x := HE.out
  have HQ := Lib.hid hHE
  clear hHE
  have HK : Hid (∀ (g f cap : Nat) (w1 : World), Ev.WRow w1 B 1 (.slice (some ⟨g, f, none⟩) (ns.length + 1) cap) (ns.length + 1) (numsV ns ++ [.int .i64 (n : Int)]) → (V.alloc (.cells #[.int .i64 (n : Int)] 3)).drew.grownBy w1 v.ownBlock → (v.ownBlock = some g ∨ g = q + 2) → g < w1.heap.size →
      ScAt (w1.setCell ⟨lb, lf + i, none⟩ (.slice (some ⟨g, f, none⟩) (ns.length + 1) cap)) B p o (.slice (some ⟨tb, tf, none⟩) n tc) (.slice (some ⟨lb, lf, none⟩) ls.length lc) n xs (ls.set i (.slice (some ⟨g, f, none⟩) (ns.length + 1) cap, ns ++ [n])) ∧ Below B w (w1.setCell ⟨lb, lf + i, none⟩ (.slice (some ⟨g, f, none⟩) (ns.length + 1) cap)) ∧ q + 1 ≤ (w1.setCell ⟨lb, lf + i, none⟩ (.slice (some ⟨g, f, none⟩) (ns.length + 1) cap)).heap.size ∧ (∀ k x, (cells9 x0 x1 x2 x3 x4 x5 x6 x7)[k]? = some x → (w1.setCell ⟨lb, lf + i, none⟩ (.slice (some ⟨g, f, none⟩) (ns.length + 1) cap)).cell? ⟨q, k, none⟩ = some x) ∧ (∀ z, z < q → Ap z p (.slice (some ⟨tb, tf, none⟩) n tc) (.slice (some ⟨lb, lf, none⟩) ls.length lc) ls → (w1.setCell ⟨lb, lf + i, none⟩ (.slice (some ⟨g, f, none⟩) (ns.length + 1) cap)).heap[z]? = w.heap[z]? ∧ Ap z p (.slice (some ⟨tb, tf, none⟩) n tc) (.slice (some ⟨lb, lf, none⟩) ls.length lc) (ls.set i (.slice (some ⟨g, f, none⟩) (ns.length + 1) cap, ns ++ [n])))) := Lib.hid (by
    intro g f cap w1 hown hgrow hat hlt1
    have P := HA.out.put1 i v ns hi hown hgrow (by rw [hsA]; exact hat)
    have hqv : v.ownBlock ≠ some q := fun e => by have := (ri.lt q e).2; omega
    have hqb : w1.heap[q]? = V.heap[q]? := (hgrow.block q (by rw [hsA2]; omega) (fun e => hqv e.symm)).trans (((Below.refl (q + 1) V).drew.alloc (by show q + 1 ≤ V.heap.size; omega) (.cells #[.int .i64 (n : Int)] 3)).block q (by omega))
    have hsz1 := hgrow.size
    rw [hsA2] at hsz1
    refine ⟨P, (((HBV.out.mono hB).trans ((Below.refl B V).drew.alloc (by show B ≤ V.heap.size; omega) _)).grown hgrow (by rw [hsA]; omega) (fun k hk => (ri.lt k hk).1)).setCell hlbB _, ?_, fun k x hx => ?_, fun z hz ⟨z1, z2, z3, z4⟩ => ?_⟩
    · have : (w1.setCell ⟨lb, lf + i, none⟩ (.slice (some ⟨g, f, none⟩) (ns.length + 1) cap)).heap.size = w1.heap.size := by simp [World.setCell]
      rw [this]; omega
    · rw [World.cell?_of_block (Below.heap_setCell _ _ _ _ (show q ≠ lb by omega)), World.cell?_of_block hqb]; exact HQ.out k x hx
    · have zl : z ≠ lb := fun e => z3 (by rw [e]; rfl)
      refine ⟨?_, z1, z2, z3, fun k u ms hk => ?_⟩
      · rw [Below.heap_setCell _ _ _ _ zl, hgrow.block z (by rw [hsA2]; omega) (fun e => z4 i v ns hi e.symm)]
        exact (((Below.refl q V).drew.alloc (by show q ≤ V.heap.size; omega) (.cells #[.int .i64 (n : Int)] 3)).block z hz).trans (HBV.out.block z hz)
      · rw [List.getElem?_set] at hk
        split at hk
        · rename_i e
          subst e
          try rw [if_pos hil] at hk
          obtain ⟨rfl, _⟩ := Prod.mk.inj (Option.some.inj hk)
          intro e
          have e1 : g = z := Option.some.inj e
          rcases hat with e2 | e2
          · exact z4 i v ns hi (by rw [e2, e1])
          · omega
        · exact z4 k u ms hk)
  clear HBV HQ HA HV
  obtain ⟨Post, hin, hout⟩ : ∃ Post : Act → World → Prop, Hid (∀ a' W', (∃ g f cap, a' = { tmps := List.toArray ((.pointer (some ⟨p, o, none⟩)) :: (.int .i64 (i : Int)) :: (.agg (cells9 x0 x1 x2 x3 x4 x5 x6 x7).toArray) :: undef :: undef :: (.pointer (some ⟨q, 0, none⟩)) :: (.int .i64 0) :: (.pointer (some ⟨q, 8, none⟩)) :: (.slice none 0 0) :: (.slice none 0 0) :: (.pointer (some ⟨q, 8, none⟩)) :: (.pointer (some ⟨p, o, none⟩)) :: (.pointer (some ⟨p, o, none⟩)) :: (.pointer (some ⟨p, o + 4, none⟩)) :: (.slice (some ⟨lb, lf, none⟩) ls.length lc) :: (.int .i64 (i : Int)) :: (.pointer (some ⟨p, o, none⟩)) :: (.pointer (some ⟨p, o, none⟩)) :: (.pointer (some ⟨p, o + 4, none⟩)) :: (.slice (some ⟨lb, lf, none⟩) ls.length lc) :: (.int .i64 (i : Int)) :: (.pointer (some ⟨lb, lf + i, none⟩)) :: v :: (.pointer (some ⟨p, o, none⟩)) :: (.pointer (some ⟨p, o, none⟩)) :: (.pointer (some ⟨p, o + 2, none⟩)) :: (.slice (some ⟨tb, tf, none⟩) n tc) :: (.int .i64 (n : Int)) :: (.slice (some ⟨q + 1, 0, none⟩) 1 1) :: (.slice (some ⟨g, f, none⟩) (ns.length + 1) cap) :: (.pointer (some ⟨lb, lf + i, none⟩)) :: undef :: undef :: undef :: undef :: undef :: undef :: undef :: undef :: undef :: undef :: undef :: undef :: undef :: undef :: undef :: undef :: []), defers := [] } ∧ ScAt W' B p o (.slice (some ⟨tb, tf, none⟩) n tc) (.slice (some ⟨lb, lf, none⟩) ls.length lc) n xs (ls.set i (.slice (some ⟨g, f, none⟩) (ns.length + 1) cap, ns ++ [n])) ∧ Below B w W' ∧ q + 1 ≤ W'.heap.size ∧ (∀ k x, (cells9 x0 x1 x2 x3 x4 x5 x6 x7)[k]? = some x → W'.cell? ⟨q, k, none⟩ = some x) ∧ (∀ z, z < q → Ap z p (.slice (some ⟨tb, tf, none⟩) n tc) (.slice (some ⟨lb, lf, none⟩) ls.length lc) ls → W'.heap[z]? = w.heap[z]? ∧ Ap z p (.slice (some ⟨tb, tf, none⟩) n tc) (.slice (some ⟨lb, lf, none⟩) ls.length lc) (ls.set i (.slice (some ⟨g, f, none⟩) (ns.length + 1) cap, ns ++ [n])))) → Post a' W') ∧ Hid (∀ a' W', Post a' W' → (∃ g f cap, a' = { tmps := List.toArray ((.pointer (some ⟨p, o, none⟩)) :: (.int .i64 (i : Int)) :: (.agg (cells9 x0 x1 x2 x3 x4 x5 x6 x7).toArray) :: undef :: undef :: (.pointer (some ⟨q, 0, none⟩)) :: (.int .i64 0) :: (.pointer (some ⟨q, 8, none⟩)) :: (.slice none 0 0) :: (.slice none 0 0) :: (.pointer (some ⟨q, 8, none⟩)) :: (.pointer (some ⟨p, o, none⟩)) :: (.pointer (some ⟨p, o, none⟩)) :: (.pointer (some ⟨p, o + 4, none⟩)) :: (.slice (some ⟨lb, lf, none⟩) ls.length lc) :: (.int .i64 (i : Int)) :: (.pointer (some ⟨p, o, none⟩)) :: (.pointer (some ⟨p, o, none⟩)) :: (.pointer (some ⟨p, o + 4, none⟩)) :: (.slice (some ⟨lb, lf, none⟩) ls.length lc) :: (.int .i64 (i : Int)) :: (.pointer (some ⟨lb, lf + i, none⟩)) :: v :: (.pointer (some ⟨p, o, none⟩)) :: (.pointer (some ⟨p, o, none⟩)) :: (.pointer (some ⟨p, o + 2, none⟩)) :: (.slice (some ⟨tb, tf, none⟩) n tc) :: (.int .i64 (n : Int)) :: (.slice (some ⟨q + 1, 0, none⟩) 1 1) :: (.slice (some ⟨g, f, none⟩) (ns.length + 1) cap) :: (.pointer (some ⟨lb, lf + i, none⟩)) :: undef :: undef :: undef :: undef :: undef :: undef :: undef :: undef :: undef :: undef :: undef :: undef :: undef :: undef :: undef :: undef :: []), defers := [] } ∧ ScAt W' B p o (.slice (some ⟨tb, tf, none⟩) n tc) (.slice (some ⟨lb, lf, none⟩) ls.length lc) n xs (ls.set i (.slice (some ⟨g, f, none⟩) (ns.length + 1) cap, ns ++ [n])) ∧ Below B w W' ∧ q + 1 ≤ W'.heap.size ∧ (∀ k x, (cells9 x0 x1 x2 x3 x4 x5 x6 x7)[k]? = some x → W'.cell? ⟨q, k, none⟩ = some x) ∧ (∀ z, z < q → Ap z p (.slice (some ⟨tb, tf, none⟩) n tc) (.slice (some ⟨lb, lf, none⟩) ls.length lc) ls → W'.heap[z]? = w.heap[z]? ∧ Ap z p (.slice (some ⟨tb, tf, none⟩) n tc) (.slice (some ⟨lb, lf, none⟩) ls.length lc) (ls.set i (.slice (some ⟨g, f, none⟩) (ns.length + 1) cap, ns ++ [n]))))) := ⟨_, Lib.hid fun _ _ h => h, Lib.hid fun _ _ h => h⟩
  refine Code.wp_mono (Q := Exit.then Post (fun _ _ _ => False)) ?_ ?_
  rotate_left
  · as_aux_lemma =>
    have c4X := Lib.hid c4A
    have c2X := Lib.hid c2A
    have clX := Lib.hid clA
    have flX := Lib.hid flA
    have HSZ := Lib.hid hszW
    have HNW : Hid ((V.drew.alloc (.cells #[.int .i64 (n : Int)] 3)).heap[q + 1]? = some (.cells #[.int .i64 (n : Int)] 3 (0, 0))) := Lib.hid (by rw [← hszW]; exact heap_alloc_new V.drew _)
    refine wp_region_inv' 21 rfl (fun L a' w' => ∃ y0 y1 y2 y3 y4 y5 y6 y7 y8 y9 y10 y11 y12 y13 y14 y15 y16 y17 y18 y19 : Value, a' = { tmps := #[.pointer (some ⟨p, o, none⟩), .int .i64 (i : Int), .agg (cells9 x0 x1 x2 x3 x4 x5 x6 x7).toArray, undef, undef, .pointer (some ⟨q, 0, none⟩), .int .i64 0, .pointer (some ⟨q, 8, none⟩), .slice none 0 0, .slice none 0 0, .pointer (some ⟨q, 8, none⟩), y0, y1, y2, y3, y4, y5, y6, y7, y8, y9, y10, y11, y12, y13, y14, y15, y16, y17, y18, y19, undef, undef, undef, undef, undef, undef, undef, undef, undef, undef, undef, undef, undef, undef, undef, undef], defers := [] } ∧ (L 0 = true → y0 = .pointer (some ⟨p, o, none⟩)) ∧ (L 1 = true → y1 = .pointer (some ⟨p, o, none⟩)) ∧ (L 2 = true → y2 = .pointer (some ⟨p, o + 4, none⟩)) ∧ (L 3 = true → y3 = .slice (some ⟨lb, lf, none⟩) ls.length lc) ∧ (L 4 = true → y4 = .int .i64 (i : Int)) ∧ (L 5 = true → y5 = .pointer (some ⟨p, o, none⟩)) ∧ (L 6 = true → y6 = .pointer (some ⟨p, o, none⟩)) ∧ (L 7 = true → y7 = .pointer (some ⟨p, o + 4, none⟩)) ∧ (L 8 = true → y8 = .slice (some ⟨lb, lf, none⟩) ls.length lc) ∧ (L 9 = true → y9 = .int .i64 (i : Int)) ∧ (L 10 = true → y10 = .pointer (some ⟨lb, lf + i, none⟩)) ∧ (L 11 = true → y11 = v) ∧ (L 12 = true → y12 = .pointer (some ⟨p, o, none⟩)) ∧ (L 13 = true → y13 = .pointer (some ⟨p, o, none⟩)) ∧ (L 14 = true → y14 = .pointer (some ⟨p, o + 2, none⟩)) ∧ (L 15 = true → y15 = .slice (some ⟨tb, tf, none⟩) n tc) ∧ (L 16 = true → y16 = .int .i64 (n : Int)) ∧ (L 17 = true → y17 = .slice (some ⟨q + 1, 0, none⟩) 1 1) ∧ (L 19 = true → y19 = .pointer (some ⟨lb, lf + i, none⟩)) ∧ (L 20 = false → (w'.cell? ⟨p, o + 4, none⟩ = some (.slice (some ⟨lb, lf, none⟩) ls.length lc) ∧ w'.cell? ⟨p, o + 2, none⟩ = some (.slice (some ⟨tb, tf, none⟩) n tc) ∧ w'.cell? ⟨lb, lf + i, none⟩ = some v ∧ w'.frozen? ⟨lb, lf + i, none⟩ = false)) ∧ (L 17 = false → w' = V.drew) ∧ (L 17 = true → L 18 = false → w' = (V.drew.alloc (.cells #[.int .i64 (n : Int)] 3))) ∧ (L 18 = true → L 20 = false → (∃ g f cap, y18 = .slice (some ⟨g, f, none⟩) (ns.length + 1) cap ∧ Ev.WRow w' B 1 (.slice (some ⟨g, f, none⟩) (ns.length + 1) cap) (ns.length + 1) (numsV ns ++ [.int .i64 (n : Int)]) ∧ (V.drew.alloc (.cells #[.int .i64 (n : Int)] 3)).grownBy w' v.ownBlock ∧ (v.ownBlock = some g ∨ g = q + 2) ∧ g < w'.heap.size)) ∧ (L 20 = true → (∃ g f cap, y18 = .slice (some ⟨g, f, none⟩) (ns.length + 1) cap ∧ ScAt w' B p o (.slice (some ⟨tb, tf, none⟩) n tc) (.slice (some ⟨lb, lf, none⟩) ls.length lc) n xs (ls.set i (.slice (some ⟨g, f, none⟩) (ns.length + 1) cap, ns ++ [n])) ∧ Below B w w' ∧ q + 1 ≤ w'.heap.size ∧ (∀ k x, (cells9 x0 x1 x2 x3 x4 x5 x6 x7)[k]? = some x → w'.cell? ⟨q, k, none⟩ = some x) ∧ (∀ z, z < q → Ap z p (.slice (some ⟨tb, tf, none⟩) n tc) (.slice (some ⟨lb, lf, none⟩) ls.length lc) ls → w'.heap[z]? = w.heap[z]? ∧ Ap z p (.slice (some ⟨tb, tf, none⟩) n tc) (.slice (some ⟨lb, lf, none⟩) ls.length lc) (ls.set i (.slice (some ⟨g, f, none⟩) (ns.length + 1) cap, ns ++ [n])))))) (by kernel_rfl) (by kernel_rfl) ?h0 ?step ?fin
    case h0 => exact ⟨undef, undef, undef, undef, undef, undef, undef, undef, undef, undef, undef, undef, undef, undef, undef, undef, undef, undef, undef, undef, rfl, (fun e => by simp at e), (fun e => by simp at e), (fun e => by simp at e), (fun e => by simp at e), (fun e => by simp at e), (fun e => by simp at e), (fun e => by simp at e), (fun e => by simp at e), (fun e => by simp at e), (fun e => by simp at e), (fun e => by simp at e), (fun e => by simp at e), (fun e => by simp at e), (fun e => by simp at e), (fun e => by simp at e), (fun e => by simp at e), (fun e => by simp at e), (fun e => by simp at e), (fun e => by simp at e), fun _ => ⟨c4, c2, cl, fl⟩, fun _ => rfl, fun e => by simp at e, fun e => by simp at e, fun e => by simp at e⟩
    case step =>
      clear c4A c2A c4B c2B clB HE hszW hsz
      rintro i' hi' L a' w' hLi hcl hdp ⟨y0, y1, y2, y3, y4, y5, y6, y7, y8, y9, y10, y11, y12, y13, y14, y15, y16, y17, y18, y19, rfl, e0, e1, e2, e3, e4, e5, e6, e7, e8, e9, e10, e11, e12, e13, e14, e15, e16, e17, e19, hC, hw0, hw1, hw2, hw3⟩
      have hi2 : i' = 0 ∨ i' = 1 ∨ i' = 2 ∨ i' = 3 ∨ i' = 4 ∨ i' = 5 ∨ i' = 6 ∨ i' = 7 ∨ i' = 8 ∨ i' = 9 ∨ i' = 10 ∨ i' = 11 ∨ i' = 12 ∨ i' = 13 ∨ i' = 14 ∨ i' = 15 ∨ i' = 16 ∨ i' = 17 ∨ i' = 18 ∨ i' = 19 ∨ i' = 20 := by omega
      rcases hi2 with rfl | rfl | rfl | rfl | rfl | rfl | rfl | rfl | rfl | rfl | rfl | rfl | rfl | rfl | rfl | rfl | rfl | rfl | rfl | rfl | rfl
      · have l20 : L 20 = false := by
          cases h : L 20
          · rfl
          · exact absurd (hcl 1 0 (hcl 2 1 (hcl 3 2 (hcl 19 3 (hcl 20 19 h (by kernel_rfl)) (by kernel_rfl)) (by kernel_rfl)) (by kernel_rfl)) (by kernel_rfl)) (by rw [hLi]; decide)
        obtain ⟨k4, k2, kl, zl⟩ := hC l20
        have HW0 := Lib.hid hw0; have HW1 := Lib.hid hw1; have HW2 := Lib.hid hw2
        have HC := Lib.hid hC
        clear hcl hw0 hw1 hw2 hw3 hC
        have E1 := Lib.hid e1; have E2 := Lib.hid e2; have E3 := Lib.hid e3; have E4 := Lib.hid e4; have E5 := Lib.hid e5; have E6 := Lib.hid e6; have E7 := Lib.hid e7; have E8 := Lib.hid e8; have E9 := Lib.hid e9; have E10 := Lib.hid e10; have E11 := Lib.hid e11; have E12 := Lib.hid e12; have E13 := Lib.hid e13; have E14 := Lib.hid e14; have E15 := Lib.hid e15; have E16 := Lib.hid e16; have E17 := Lib.hid e17; have E19 := Lib.hid e19
        clear hdp e0 e1 e2 e3 e4 e5 e6 e7 e8 e9 e10 e11 e12 e13 e14 e15 e16 e17 e19
        refine wpOp_step rfl (fun K hK => ?_)
        go_simp
        exact hK _ _ ⟨_, _, _, _, _, _, _, _, _, _, _, _, _, _, _, _, _, _, _, _, rfl, (fun _ => rfl), (fun h => E1.out (by simpa [upOn] using h)), (fun h => E2.out (by simpa [upOn] using h)), (fun h => E3.out (by simpa [upOn] using h)), (fun h => E4.out (by simpa [upOn] using h)), (fun h => E5.out (by simpa [upOn] using h)), (fun h => E6.out (by simpa [upOn] using h)), (fun h => E7.out (by simpa [upOn] using h)), (fun h => E8.out (by simpa [upOn] using h)), (fun h => E9.out (by simpa [upOn] using h)), (fun h => E10.out (by simpa [upOn] using h)), (fun h => E11.out (by simpa [upOn] using h)), (fun h => E12.out (by simpa [upOn] using h)), (fun h => E13.out (by simpa [upOn] using h)), (fun h => E14.out (by simpa [upOn] using h)), (fun h => E15.out (by simpa [upOn] using h)), (fun h => E16.out (by simpa [upOn] using h)), (fun h => E17.out (by simpa [upOn] using h)), (fun h => E19.out (by simpa [upOn] using h)), (fun _ => ⟨k4, k2, kl, zl⟩), (fun h => HW0.out (by simpa [upOn] using h)), (fun h k => HW1.out (by simpa [upOn] using h) (by simpa [upOn] using k)), (fun h k => HW2.out (by simpa [upOn] using h) l20), (fun h => by simp [upOn, l20] at h)⟩
      · have l20 : L 20 = false := by
          cases h : L 20
          · rfl
          · exact absurd (hcl 2 1 (hcl 3 2 (hcl 19 3 (hcl 20 19 h (by kernel_rfl)) (by kernel_rfl)) (by kernel_rfl)) (by kernel_rfl)) (by rw [hLi]; decide)
        obtain ⟨k4, k2, kl, zl⟩ := hC l20
        have HW0 := Lib.hid hw0; have HW1 := Lib.hid hw1; have HW2 := Lib.hid hw2
        have HC := Lib.hid hC
        clear hcl hw0 hw1 hw2 hw3 hC
        obtain rfl := e0 (hdp 0 (by kernel_rfl))
        have E2 := Lib.hid e2; have E3 := Lib.hid e3; have E4 := Lib.hid e4; have E5 := Lib.hid e5; have E6 := Lib.hid e6; have E7 := Lib.hid e7; have E8 := Lib.hid e8; have E9 := Lib.hid e9; have E10 := Lib.hid e10; have E11 := Lib.hid e11; have E12 := Lib.hid e12; have E13 := Lib.hid e13; have E14 := Lib.hid e14; have E15 := Lib.hid e15; have E16 := Lib.hid e16; have E17 := Lib.hid e17; have E19 := Lib.hid e19
        clear hdp e0 e1 e2 e3 e4 e5 e6 e7 e8 e9 e10 e11 e12 e13 e14 e15 e16 e17 e19
        refine wpOp_step rfl (fun K hK => ?_)
        go_simp
        exact hK _ _ ⟨_, _, _, _, _, _, _, _, _, _, _, _, _, _, _, _, _, _, _, _, rfl, (fun _ => rfl), (fun _ => rfl), (fun h => E2.out (by simpa [upOn] using h)), (fun h => E3.out (by simpa [upOn] using h)), (fun h => E4.out (by simpa [upOn] using h)), (fun h => E5.out (by simpa [upOn] using h)), (fun h => E6.out (by simpa [upOn] using h)), (fun h => E7.out (by simpa [upOn] using h)), (fun h => E8.out (by simpa [upOn] using h)), (fun h => E9.out (by simpa [upOn] using h)), (fun h => E10.out (by simpa [upOn] using h)), (fun h => E11.out (by simpa [upOn] using h)), (fun h => E12.out (by simpa [upOn] using h)), (fun h => E13.out (by simpa [upOn] using h)), (fun h => E14.out (by simpa [upOn] using h)), (fun h => E15.out (by simpa [upOn] using h)), (fun h => E16.out (by simpa [upOn] using h)), (fun h => E17.out (by simpa [upOn] using h)), (fun h => E19.out (by simpa [upOn] using h)), (fun _ => ⟨k4, k2, kl, zl⟩), (fun h => HW0.out (by simpa [upOn] using h)), (fun h k => HW1.out (by simpa [upOn] using h) (by simpa [upOn] using k)), (fun h k => HW2.out (by simpa [upOn] using h) l20), (fun h => by simp [upOn, l20] at h)⟩
      · have l20 : L 20 = false := by
          cases h : L 20
          · rfl
          · exact absurd (hcl 3 2 (hcl 19 3 (hcl 20 19 h (by kernel_rfl)) (by kernel_rfl)) (by kernel_rfl)) (by rw [hLi]; decide)
        obtain ⟨k4, k2, kl, zl⟩ := hC l20
        have HW0 := Lib.hid hw0; have HW1 := Lib.hid hw1; have HW2 := Lib.hid hw2
        have HC := Lib.hid hC
        clear hcl hw0 hw1 hw2 hw3 hC
        obtain rfl := e1 (hdp 1 (by kernel_rfl))
        have E0 := Lib.hid e0; have E3 := Lib.hid e3; have E4 := Lib.hid e4; have E5 := Lib.hid e5; have E6 := Lib.hid e6; have E7 := Lib.hid e7; have E8 := Lib.hid e8; have E9 := Lib.hid e9; have E10 := Lib.hid e10; have E11 := Lib.hid e11; have E12 := Lib.hid e12; have E13 := Lib.hid e13; have E14 := Lib.hid e14; have E15 := Lib.hid e15; have E16 := Lib.hid e16; have E17 := Lib.hid e17; have E19 := Lib.hid e19
        clear hdp e0 e1 e2 e3 e4 e5 e6 e7 e8 e9 e10 e11 e12 e13 e14 e15 e16 e17 e19
        refine wpOp_step rfl (fun K hK => ?_)
        go_simp
        exact hK _ _ ⟨_, _, _, _, _, _, _, _, _, _, _, _, _, _, _, _, _, _, _, _, rfl, (fun h => E0.out (by simpa [upOn] using h)), (fun _ => rfl), (fun _ => rfl), (fun h => E3.out (by simpa [upOn] using h)), (fun h => E4.out (by simpa [upOn] using h)), (fun h => E5.out (by simpa [upOn] using h)), (fun h => E6.out (by simpa [upOn] using h)), (fun h => E7.out (by simpa [upOn] using h)), (fun h => E8.out (by simpa [upOn] using h)), (fun h => E9.out (by simpa [upOn] using h)), (fun h => E10.out (by simpa [upOn] using h)), (fun h => E11.out (by simpa [upOn] using h)), (fun h => E12.out (by simpa [upOn] using h)), (fun h => E13.out (by simpa [upOn] using h)), (fun h => E14.out (by simpa [upOn] using h)), (fun h => E15.out (by simpa [upOn] using h)), (fun h => E16.out (by simpa [upOn] using h)), (fun h => E17.out (by simpa [upOn] using h)), (fun h => E19.out (by simpa [upOn] using h)), (fun _ => ⟨k4, k2, kl, zl⟩), (fun h => HW0.out (by simpa [upOn] using h)), (fun h k => HW1.out (by simpa [upOn] using h) (by simpa [upOn] using k)), (fun h k => HW2.out (by simpa [upOn] using h) l20), (fun h => by simp [upOn, l20] at h)⟩
      · have l20 : L 20 = false := by
          cases h : L 20
          · rfl
          · exact absurd (hcl 19 3 (hcl 20 19 h (by kernel_rfl)) (by kernel_rfl)) (by rw [hLi]; decide)
        obtain ⟨k4, k2, kl, zl⟩ := hC l20
        have HW0 := Lib.hid hw0; have HW1 := Lib.hid hw1; have HW2 := Lib.hid hw2
        have HC := Lib.hid hC
        clear hcl hw0 hw1 hw2 hw3 hC
        obtain rfl := e2 (hdp 2 (by kernel_rfl))
        have E0 := Lib.hid e0; have E1 := Lib.hid e1; have E4 := Lib.hid e4; have E5 := Lib.hid e5; have E6 := Lib.hid e6; have E7 := Lib.hid e7; have E8 := Lib.hid e8; have E9 := Lib.hid e9; have E10 := Lib.hid e10; have E11 := Lib.hid e11; have E12 := Lib.hid e12; have E13 := Lib.hid e13; have E14 := Lib.hid e14; have E15 := Lib.hid e15; have E16 := Lib.hid e16; have E17 := Lib.hid e17; have E19 := Lib.hid e19
        clear hdp e0 e1 e2 e3 e4 e5 e6 e7 e8 e9 e10 e11 e12 e13 e14 e15 e16 e17 e19
        refine wpOp_step rfl (fun K hK => ?_)
        go_simp
        exact hK _ _ ⟨_, _, _, _, _, _, _, _, _, _, _, _, _, _, _, _, _, _, _, _, rfl, (fun h => E0.out (by simpa [upOn] using h)), (fun h => E1.out (by simpa [upOn] using h)), (fun _ => rfl), (fun _ => rfl), (fun h => E4.out (by simpa [upOn] using h)), (fun h => E5.out (by simpa [upOn] using h)), (fun h => E6.out (by simpa [upOn] using h)), (fun h => E7.out (by simpa [upOn] using h)), (fun h => E8.out (by simpa [upOn] using h)), (fun h => E9.out (by simpa [upOn] using h)), (fun h => E10.out (by simpa [upOn] using h)), (fun h => E11.out (by simpa [upOn] using h)), (fun h => E12.out (by simpa [upOn] using h)), (fun h => E13.out (by simpa [upOn] using h)), (fun h => E14.out (by simpa [upOn] using h)), (fun h => E15.out (by simpa [upOn] using h)), (fun h => E16.out (by simpa [upOn] using h)), (fun h => E17.out (by simpa [upOn] using h)), (fun h => E19.out (by simpa [upOn] using h)), (fun _ => ⟨k4, k2, kl, zl⟩), (fun h => HW0.out (by simpa [upOn] using h)), (fun h k => HW1.out (by simpa [upOn] using h) (by simpa [upOn] using k)), (fun h k => HW2.out (by simpa [upOn] using h) l20), (fun h => by simp [upOn, l20] at h)⟩
      · have l20 : L 20 = false := by
          cases h : L 20
          · rfl
          · exact absurd (hcl 19 4 (hcl 20 19 h (by kernel_rfl)) (by kernel_rfl)) (by rw [hLi]; decide)
        obtain ⟨k4, k2, kl, zl⟩ := hC l20
        have HW0 := Lib.hid hw0; have HW1 := Lib.hid hw1; have HW2 := Lib.hid hw2
        have HC := Lib.hid hC
        clear hcl hw0 hw1 hw2 hw3 hC
        have E0 := Lib.hid e0; have E1 := Lib.hid e1; have E2 := Lib.hid e2; have E3 := Lib.hid e3; have E5 := Lib.hid e5; have E6 := Lib.hid e6; have E7 := Lib.hid e7; have E8 := Lib.hid e8; have E9 := Lib.hid e9; have E10 := Lib.hid e10; have E11 := Lib.hid e11; have E12 := Lib.hid e12; have E13 := Lib.hid e13; have E14 := Lib.hid e14; have E15 := Lib.hid e15; have E16 := Lib.hid e16; have E17 := Lib.hid e17; have E19 := Lib.hid e19
        clear hdp e0 e1 e2 e3 e4 e5 e6 e7 e8 e9 e10 e11 e12 e13 e14 e15 e16 e17 e19
        refine wpOp_step rfl (fun K hK => ?_)
        go_simp
        exact hK _ _ ⟨_, _, _, _, _, _, _, _, _, _, _, _, _, _, _, _, _, _, _, _, rfl, (fun h => E0.out (by simpa [upOn] using h)), (fun h => E1.out (by simpa [upOn] using h)), (fun h => E2.out (by simpa [upOn] using h)), (fun h => E3.out (by simpa [upOn] using h)), (fun _ => rfl), (fun h => E5.out (by simpa [upOn] using h)), (fun h => E6.out (by simpa [upOn] using h)), (fun h => E7.out (by simpa [upOn] using h)), (fun h => E8.out (by simpa [upOn] using h)), (fun h => E9.out (by simpa [upOn] using h)), (fun h => E10.out (by simpa [upOn] using h)), (fun h => E11.out (by simpa [upOn] using h)), (fun h => E12.out (by simpa [upOn] using h)), (fun h => E13.out (by simpa [upOn] using h)), (fun h => E14.out (by simpa [upOn] using h)), (fun h => E15.out (by simpa [upOn] using h)), (fun h => E16.out (by simpa [upOn] using h)), (fun h => E17.out (by simpa [upOn] using h)), (fun h => E19.out (by simpa [upOn] using h)), (fun _ => ⟨k4, k2, kl, zl⟩), (fun h => HW0.out (by simpa [upOn] using h)), (fun h k => HW1.out (by simpa [upOn] using h) (by simpa [upOn] using k)), (fun h k => HW2.out (by simpa [upOn] using h) l20), (fun h => by simp [upOn, l20] at h)⟩
      · have l20 : L 20 = false := by
          cases h : L 20
          · rfl
          · exact absurd (hcl 6 5 (hcl 7 6 (hcl 8 7 (hcl 10 8 (hcl 11 10 (hcl 18 11 (hcl 20 18 h (by kernel_rfl)) (by kernel_rfl)) (by kernel_rfl)) (by kernel_rfl)) (by kernel_rfl)) (by kernel_rfl)) (by kernel_rfl)) (by rw [hLi]; decide)
        obtain ⟨k4, k2, kl, zl⟩ := hC l20
        have HW0 := Lib.hid hw0; have HW1 := Lib.hid hw1; have HW2 := Lib.hid hw2
        have HC := Lib.hid hC
        clear hcl hw0 hw1 hw2 hw3 hC
        have E0 := Lib.hid e0; have E1 := Lib.hid e1; have E2 := Lib.hid e2; have E3 := Lib.hid e3; have E4 := Lib.hid e4; have E6 := Lib.hid e6; have E7 := Lib.hid e7; have E8 := Lib.hid e8; have E9 := Lib.hid e9; have E10 := Lib.hid e10; have E11 := Lib.hid e11; have E12 := Lib.hid e12; have E13 := Lib.hid e13; have E14 := Lib.hid e14; have E15 := Lib.hid e15; have E16 := Lib.hid e16; have E17 := Lib.hid e17; have E19 := Lib.hid e19
        clear hdp e0 e1 e2 e3 e4 e5 e6 e7 e8 e9 e10 e11 e12 e13 e14 e15 e16 e17 e19
        refine wpOp_step rfl (fun K hK => ?_)
        go_simp
        exact hK _ _ ⟨_, _, _, _, _, _, _, _, _, _, _, _, _, _, _, _, _, _, _, _, rfl, (fun h => E0.out (by simpa [upOn] using h)), (fun h => E1.out (by simpa [upOn] using h)), (fun h => E2.out (by simpa [upOn] using h)), (fun h => E3.out (by simpa [upOn] using h)), (fun h => E4.out (by simpa [upOn] using h)), (fun _ => rfl), (fun h => E6.out (by simpa [upOn] using h)), (fun h => E7.out (by simpa [upOn] using h)), (fun h => E8.out (by simpa [upOn] using h)), (fun h => E9.out (by simpa [upOn] using h)), (fun h => E10.out (by simpa [upOn] using h)), (fun h => E11.out (by simpa [upOn] using h)), (fun h => E12.out (by simpa [upOn] using h)), (fun h => E13.out (by simpa [upOn] using h)), (fun h => E14.out (by simpa [upOn] using h)), (fun h => E15.out (by simpa [upOn] using h)), (fun h => E16.out (by simpa [upOn] using h)), (fun h => E17.out (by simpa [upOn] using h)), (fun h => E19.out (by simpa [upOn] using h)), (fun _ => ⟨k4, k2, kl, zl⟩), (fun h => HW0.out (by simpa [upOn] using h)), (fun h k => HW1.out (by simpa [upOn] using h) (by simpa [upOn] using k)), (fun h k => HW2.out (by simpa [upOn] using h) l20), (fun h => by simp [upOn, l20] at h)⟩
      · have l20 : L 20 = false := by
          cases h : L 20
          · rfl
          · exact absurd (hcl 7 6 (hcl 8 7 (hcl 10 8 (hcl 11 10 (hcl 18 11 (hcl 20 18 h (by kernel_rfl)) (by kernel_rfl)) (by kernel_rfl)) (by kernel_rfl)) (by kernel_rfl)) (by kernel_rfl)) (by rw [hLi]; decide)
        obtain ⟨k4, k2, kl, zl⟩ := hC l20
        have HW0 := Lib.hid hw0; have HW1 := Lib.hid hw1; have HW2 := Lib.hid hw2
        have HC := Lib.hid hC
        clear hcl hw0 hw1 hw2 hw3 hC
        obtain rfl := e5 (hdp 5 (by kernel_rfl))
        have E0 := Lib.hid e0; have E1 := Lib.hid e1; have E2 := Lib.hid e2; have E3 := Lib.hid e3; have E4 := Lib.hid e4; have E7 := Lib.hid e7; have E8 := Lib.hid e8; have E9 := Lib.hid e9; have E10 := Lib.hid e10; have E11 := Lib.hid e11; have E12 := Lib.hid e12; have E13 := Lib.hid e13; have E14 := Lib.hid e14; have E15 := Lib.hid e15; have E16 := Lib.hid e16; have E17 := Lib.hid e17; have E19 := Lib.hid e19
        clear hdp e0 e1 e2 e3 e4 e5 e6 e7 e8 e9 e10 e11 e12 e13 e14 e15 e16 e17 e19
        refine wpOp_step rfl (fun K hK => ?_)
        go_simp
        exact hK _ _ ⟨_, _, _, _, _, _, _, _, _, _, _, _, _, _, _, _, _, _, _, _, rfl, (fun h => E0.out (by simpa [upOn] using h)), (fun h => E1.out (by simpa [upOn] using h)), (fun h => E2.out (by simpa [upOn] using h)), (fun h => E3.out (by simpa [upOn] using h)), (fun h => E4.out (by simpa [upOn] using h)), (fun _ => rfl), (fun _ => rfl), (fun h => E7.out (by simpa [upOn] using h)), (fun h => E8.out (by simpa [upOn] using h)), (fun h => E9.out (by simpa [upOn] using h)), (fun h => E10.out (by simpa [upOn] using h)), (fun h => E11.out (by simpa [upOn] using h)), (fun h => E12.out (by simpa [upOn] using h)), (fun h => E13.out (by simpa [upOn] using h)), (fun h => E14.out (by simpa [upOn] using h)), (fun h => E15.out (by simpa [upOn] using h)), (fun h => E16.out (by simpa [upOn] using h)), (fun h => E17.out (by simpa [upOn] using h)), (fun h => E19.out (by simpa [upOn] using h)), (fun _ => ⟨k4, k2, kl, zl⟩), (fun h => HW0.out (by simpa [upOn] using h)), (fun h k => HW1.out (by simpa [upOn] using h) (by simpa [upOn] using k)), (fun h k => HW2.out (by simpa [upOn] using h) l20), (fun h => by simp [upOn, l20] at h)⟩
      · have l20 : L 20 = false := by
          cases h : L 20
          · rfl
          · exact absurd (hcl 8 7 (hcl 10 8 (hcl 11 10 (hcl 18 11 (hcl 20 18 h (by kernel_rfl)) (by kernel_rfl)) (by kernel_rfl)) (by kernel_rfl)) (by kernel_rfl)) (by rw [hLi]; decide)
        obtain ⟨k4, k2, kl, zl⟩ := hC l20
        have HW0 := Lib.hid hw0; have HW1 := Lib.hid hw1; have HW2 := Lib.hid hw2
        have HC := Lib.hid hC
        clear hcl hw0 hw1 hw2 hw3 hC
        obtain rfl := e6 (hdp 6 (by kernel_rfl))
        have E0 := Lib.hid e0; have E1 := Lib.hid e1; have E2 := Lib.hid e2; have E3 := Lib.hid e3; have E4 := Lib.hid e4; have E5 := Lib.hid e5; have E8 := Lib.hid e8; have E9 := Lib.hid e9; have E10 := Lib.hid e10; have E11 := Lib.hid e11; have E12 := Lib.hid e12; have E13 := Lib.hid e13; have E14 := Lib.hid e14; have E15 := Lib.hid e15; have E16 := Lib.hid e16; have E17 := Lib.hid e17; have E19 := Lib.hid e19
        clear hdp e0 e1 e2 e3 e4 e5 e6 e7 e8 e9 e10 e11 e12 e13 e14 e15 e16 e17 e19
        refine wpOp_step rfl (fun K hK => ?_)
        go_simp
        exact hK _ _ ⟨_, _, _, _, _, _, _, _, _, _, _, _, _, _, _, _, _, _, _, _, rfl, (fun h => E0.out (by simpa [upOn] using h)), (fun h => E1.out (by simpa [upOn] using h)), (fun h => E2.out (by simpa [upOn] using h)), (fun h => E3.out (by simpa [upOn] using h)), (fun h => E4.out (by simpa [upOn] using h)), (fun h => E5.out (by simpa [upOn] using h)), (fun _ => rfl), (fun _ => rfl), (fun h => E8.out (by simpa [upOn] using h)), (fun h => E9.out (by simpa [upOn] using h)), (fun h => E10.out (by simpa [upOn] using h)), (fun h => E11.out (by simpa [upOn] using h)), (fun h => E12.out (by simpa [upOn] using h)), (fun h => E13.out (by simpa [upOn] using h)), (fun h => E14.out (by simpa [upOn] using h)), (fun h => E15.out (by simpa [upOn] using h)), (fun h => E16.out (by simpa [upOn] using h)), (fun h => E17.out (by simpa [upOn] using h)), (fun h => E19.out (by simpa [upOn] using h)), (fun _ => ⟨k4, k2, kl, zl⟩), (fun h => HW0.out (by simpa [upOn] using h)), (fun h k => HW1.out (by simpa [upOn] using h) (by simpa [upOn] using k)), (fun h k => HW2.out (by simpa [upOn] using h) l20), (fun h => by simp [upOn, l20] at h)⟩
      · have l20 : L 20 = false := by
          cases h : L 20
          · rfl
          · exact absurd (hcl 10 8 (hcl 11 10 (hcl 18 11 (hcl 20 18 h (by kernel_rfl)) (by kernel_rfl)) (by kernel_rfl)) (by kernel_rfl)) (by rw [hLi]; decide)
        obtain ⟨k4, k2, kl, zl⟩ := hC l20
        have HW0 := Lib.hid hw0; have HW1 := Lib.hid hw1; have HW2 := Lib.hid hw2
        have HC := Lib.hid hC
        clear hcl hw0 hw1 hw2 hw3 hC
        obtain rfl := e7 (hdp 7 (by kernel_rfl))
        have E0 := Lib.hid e0; have E1 := Lib.hid e1; have E2 := Lib.hid e2; have E3 := Lib.hid e3; have E4 := Lib.hid e4; have E5 := Lib.hid e5; have E6 := Lib.hid e6; have E9 := Lib.hid e9; have E10 := Lib.hid e10; have E11 := Lib.hid e11; have E12 := Lib.hid e12; have E13 := Lib.hid e13; have E14 := Lib.hid e14; have E15 := Lib.hid e15; have E16 := Lib.hid e16; have E17 := Lib.hid e17; have E19 := Lib.hid e19
        clear hdp e0 e1 e2 e3 e4 e5 e6 e7 e8 e9 e10 e11 e12 e13 e14 e15 e16 e17 e19
        refine wpOp_step rfl (fun K hK => ?_)
        go_simp
        exact hK _ _ ⟨_, _, _, _, _, _, _, _, _, _, _, _, _, _, _, _, _, _, _, _, rfl, (fun h => E0.out (by simpa [upOn] using h)), (fun h => E1.out (by simpa [upOn] using h)), (fun h => E2.out (by simpa [upOn] using h)), (fun h => E3.out (by simpa [upOn] using h)), (fun h => E4.out (by simpa [upOn] using h)), (fun h => E5.out (by simpa [upOn] using h)), (fun h => E6.out (by simpa [upOn] using h)), (fun _ => rfl), (fun _ => rfl), (fun h => E9.out (by simpa [upOn] using h)), (fun h => E10.out (by simpa [upOn] using h)), (fun h => E11.out (by simpa [upOn] using h)), (fun h => E12.out (by simpa [upOn] using h)), (fun h => E13.out (by simpa [upOn] using h)), (fun h => E14.out (by simpa [upOn] using h)), (fun h => E15.out (by simpa [upOn] using h)), (fun h => E16.out (by simpa [upOn] using h)), (fun h => E17.out (by simpa [upOn] using h)), (fun h => E19.out (by simpa [upOn] using h)), (fun _ => ⟨k4, k2, kl, zl⟩), (fun h => HW0.out (by simpa [upOn] using h)), (fun h k => HW1.out (by simpa [upOn] using h) (by simpa [upOn] using k)), (fun h k => HW2.out (by simpa [upOn] using h) l20), (fun h => by simp [upOn, l20] at h)⟩
      · have l20 : L 20 = false := by
          cases h : L 20
          · rfl
          · exact absurd (hcl 10 9 (hcl 11 10 (hcl 18 11 (hcl 20 18 h (by kernel_rfl)) (by kernel_rfl)) (by kernel_rfl)) (by kernel_rfl)) (by rw [hLi]; decide)
        obtain ⟨k4, k2, kl, zl⟩ := hC l20
        have HW0 := Lib.hid hw0; have HW1 := Lib.hid hw1; have HW2 := Lib.hid hw2
        have HC := Lib.hid hC
        clear hcl hw0 hw1 hw2 hw3 hC
        have E0 := Lib.hid e0; have E1 := Lib.hid e1; have E2 := Lib.hid e2; have E3 := Lib.hid e3; have E4 := Lib.hid e4; have E5 := Lib.hid e5; have E6 := Lib.hid e6; have E7 := Lib.hid e7; have E8 := Lib.hid e8; have E10 := Lib.hid e10; have E11 := Lib.hid e11; have E12 := Lib.hid e12; have E13 := Lib.hid e13; have E14 := Lib.hid e14; have E15 := Lib.hid e15; have E16 := Lib.hid e16; have E17 := Lib.hid e17; have E19 := Lib.hid e19
        clear hdp e0 e1 e2 e3 e4 e5 e6 e7 e8 e9 e10 e11 e12 e13 e14 e15 e16 e17 e19
        refine wpOp_step rfl (fun K hK => ?_)
        go_simp
        exact hK _ _ ⟨_, _, _, _, _, _, _, _, _, _, _, _, _, _, _, _, _, _, _, _, rfl, (fun h => E0.out (by simpa [upOn] using h)), (fun h => E1.out (by simpa [upOn] using h)), (fun h => E2.out (by simpa [upOn] using h)), (fun h => E3.out (by simpa [upOn] using h)), (fun h => E4.out (by simpa [upOn] using h)), (fun h => E5.out (by simpa [upOn] using h)), (fun h => E6.out (by simpa [upOn] using h)), (fun h => E7.out (by simpa [upOn] using h)), (fun h => E8.out (by simpa [upOn] using h)), (fun _ => rfl), (fun h => E10.out (by simpa [upOn] using h)), (fun h => E11.out (by simpa [upOn] using h)), (fun h => E12.out (by simpa [upOn] using h)), (fun h => E13.out (by simpa [upOn] using h)), (fun h => E14.out (by simpa [upOn] using h)), (fun h => E15.out (by simpa [upOn] using h)), (fun h => E16.out (by simpa [upOn] using h)), (fun h => E17.out (by simpa [upOn] using h)), (fun h => E19.out (by simpa [upOn] using h)), (fun _ => ⟨k4, k2, kl, zl⟩), (fun h => HW0.out (by simpa [upOn] using h)), (fun h k => HW1.out (by simpa [upOn] using h) (by simpa [upOn] using k)), (fun h k => HW2.out (by simpa [upOn] using h) l20), (fun h => by simp [upOn, l20] at h)⟩
      · have l20 : L 20 = false := by
          cases h : L 20
          · rfl
          · exact absurd (hcl 11 10 (hcl 18 11 (hcl 20 18 h (by kernel_rfl)) (by kernel_rfl)) (by kernel_rfl)) (by rw [hLi]; decide)
        obtain ⟨k4, k2, kl, zl⟩ := hC l20
        have HW0 := Lib.hid hw0; have HW1 := Lib.hid hw1; have HW2 := Lib.hid hw2
        have HC := Lib.hid hC
        clear hcl hw0 hw1 hw2 hw3 hC
        obtain rfl := e8 (hdp 8 (by kernel_rfl))
        obtain rfl := e9 (hdp 9 (by kernel_rfl))
        have E0 := Lib.hid e0; have E1 := Lib.hid e1; have E2 := Lib.hid e2; have E3 := Lib.hid e3; have E4 := Lib.hid e4; have E5 := Lib.hid e5; have E6 := Lib.hid e6; have E7 := Lib.hid e7; have E11 := Lib.hid e11; have E12 := Lib.hid e12; have E13 := Lib.hid e13; have E14 := Lib.hid e14; have E15 := Lib.hid e15; have E16 := Lib.hid e16; have E17 := Lib.hid e17; have E19 := Lib.hid e19
        clear hdp e0 e1 e2 e3 e4 e5 e6 e7 e8 e9 e10 e11 e12 e13 e14 e15 e16 e17 e19
        refine wpOp_step rfl (fun K hK => ?_)
        go_simp
        exact hK _ _ ⟨_, _, _, _, _, _, _, _, _, _, _, _, _, _, _, _, _, _, _, _, rfl, (fun h => E0.out (by simpa [upOn] using h)), (fun h => E1.out (by simpa [upOn] using h)), (fun h => E2.out (by simpa [upOn] using h)), (fun h => E3.out (by simpa [upOn] using h)), (fun h => E4.out (by simpa [upOn] using h)), (fun h => E5.out (by simpa [upOn] using h)), (fun h => E6.out (by simpa [upOn] using h)), (fun h => E7.out (by simpa [upOn] using h)), (fun _ => rfl), (fun _ => rfl), (fun _ => rfl), (fun h => E11.out (by simpa [upOn] using h)), (fun h => E12.out (by simpa [upOn] using h)), (fun h => E13.out (by simpa [upOn] using h)), (fun h => E14.out (by simpa [upOn] using h)), (fun h => E15.out (by simpa [upOn] using h)), (fun h => E16.out (by simpa [upOn] using h)), (fun h => E17.out (by simpa [upOn] using h)), (fun h => E19.out (by simpa [upOn] using h)), (fun _ => ⟨k4, k2, kl, zl⟩), (fun h => HW0.out (by simpa [upOn] using h)), (fun h k => HW1.out (by simpa [upOn] using h) (by simpa [upOn] using k)), (fun h k => HW2.out (by simpa [upOn] using h) l20), (fun h => by simp [upOn, l20] at h)⟩
      · have l20 : L 20 = false := by
          cases h : L 20
          · rfl
          · exact absurd (hcl 18 11 (hcl 20 18 h (by kernel_rfl)) (by kernel_rfl)) (by rw [hLi]; decide)
        obtain ⟨k4, k2, kl, zl⟩ := hC l20
        have HW0 := Lib.hid hw0; have HW1 := Lib.hid hw1; have HW2 := Lib.hid hw2
        have HC := Lib.hid hC
        clear hcl hw0 hw1 hw2 hw3 hC
        obtain rfl := e10 (hdp 10 (by kernel_rfl))
        have E0 := Lib.hid e0; have E1 := Lib.hid e1; have E2 := Lib.hid e2; have E3 := Lib.hid e3; have E4 := Lib.hid e4; have E5 := Lib.hid e5; have E6 := Lib.hid e6; have E7 := Lib.hid e7; have E8 := Lib.hid e8; have E9 := Lib.hid e9; have E12 := Lib.hid e12; have E13 := Lib.hid e13; have E14 := Lib.hid e14; have E15 := Lib.hid e15; have E16 := Lib.hid e16; have E17 := Lib.hid e17; have E19 := Lib.hid e19
        clear hdp e0 e1 e2 e3 e4 e5 e6 e7 e8 e9 e10 e11 e12 e13 e14 e15 e16 e17 e19
        refine wpOp_step rfl (fun K hK => ?_)
        go_simp
        exact hK _ _ ⟨_, _, _, _, _, _, _, _, _, _, _, _, _, _, _, _, _, _, _, _, rfl, (fun h => E0.out (by simpa [upOn] using h)), (fun h => E1.out (by simpa [upOn] using h)), (fun h => E2.out (by simpa [upOn] using h)), (fun h => E3.out (by simpa [upOn] using h)), (fun h => E4.out (by simpa [upOn] using h)), (fun h => E5.out (by simpa [upOn] using h)), (fun h => E6.out (by simpa [upOn] using h)), (fun h => E7.out (by simpa [upOn] using h)), (fun h => E8.out (by simpa [upOn] using h)), (fun h => E9.out (by simpa [upOn] using h)), (fun _ => rfl), (fun _ => rfl), (fun h => E12.out (by simpa [upOn] using h)), (fun h => E13.out (by simpa [upOn] using h)), (fun h => E14.out (by simpa [upOn] using h)), (fun h => E15.out (by simpa [upOn] using h)), (fun h => E16.out (by simpa [upOn] using h)), (fun h => E17.out (by simpa [upOn] using h)), (fun h => E19.out (by simpa [upOn] using h)), (fun _ => ⟨k4, k2, kl, zl⟩), (fun h => HW0.out (by simpa [upOn] using h)), (fun h k => HW1.out (by simpa [upOn] using h) (by simpa [upOn] using k)), (fun h k => HW2.out (by simpa [upOn] using h) l20), (fun h => by simp [upOn, l20] at h)⟩
      · have l20 : L 20 = false := by
          cases h : L 20
          · rfl
          · exact absurd (hcl 13 12 (hcl 14 13 (hcl 15 14 (hcl 16 15 (hcl 17 16 (hcl 18 17 (hcl 20 18 h (by kernel_rfl)) (by kernel_rfl)) (by kernel_rfl)) (by kernel_rfl)) (by kernel_rfl)) (by kernel_rfl)) (by kernel_rfl)) (by rw [hLi]; decide)
        obtain ⟨k4, k2, kl, zl⟩ := hC l20
        have HW0 := Lib.hid hw0; have HW1 := Lib.hid hw1; have HW2 := Lib.hid hw2
        have HC := Lib.hid hC
        clear hcl hw0 hw1 hw2 hw3 hC
        have E0 := Lib.hid e0; have E1 := Lib.hid e1; have E2 := Lib.hid e2; have E3 := Lib.hid e3; have E4 := Lib.hid e4; have E5 := Lib.hid e5; have E6 := Lib.hid e6; have E7 := Lib.hid e7; have E8 := Lib.hid e8; have E9 := Lib.hid e9; have E10 := Lib.hid e10; have E11 := Lib.hid e11; have E13 := Lib.hid e13; have E14 := Lib.hid e14; have E15 := Lib.hid e15; have E16 := Lib.hid e16; have E17 := Lib.hid e17; have E19 := Lib.hid e19
        clear hdp e0 e1 e2 e3 e4 e5 e6 e7 e8 e9 e10 e11 e12 e13 e14 e15 e16 e17 e19
        refine wpOp_step rfl (fun K hK => ?_)
        go_simp
        exact hK _ _ ⟨_, _, _, _, _, _, _, _, _, _, _, _, _, _, _, _, _, _, _, _, rfl, (fun h => E0.out (by simpa [upOn] using h)), (fun h => E1.out (by simpa [upOn] using h)), (fun h => E2.out (by simpa [upOn] using h)), (fun h => E3.out (by simpa [upOn] using h)), (fun h => E4.out (by simpa [upOn] using h)), (fun h => E5.out (by simpa [upOn] using h)), (fun h => E6.out (by simpa [upOn] using h)), (fun h => E7.out (by simpa [upOn] using h)), (fun h => E8.out (by simpa [upOn] using h)), (fun h => E9.out (by simpa [upOn] using h)), (fun h => E10.out (by simpa [upOn] using h)), (fun h => E11.out (by simpa [upOn] using h)), (fun _ => rfl), (fun h => E13.out (by simpa [upOn] using h)), (fun h => E14.out (by simpa [upOn] using h)), (fun h => E15.out (by simpa [upOn] using h)), (fun h => E16.out (by simpa [upOn] using h)), (fun h => E17.out (by simpa [upOn] using h)), (fun h => E19.out (by simpa [upOn] using h)), (fun _ => ⟨k4, k2, kl, zl⟩), (fun h => HW0.out (by simpa [upOn] using h)), (fun h k => HW1.out (by simpa [upOn] using h) (by simpa [upOn] using k)), (fun h k => HW2.out (by simpa [upOn] using h) l20), (fun h => by simp [upOn, l20] at h)⟩
      · have l20 : L 20 = false := by
          cases h : L 20
          · rfl
          · exact absurd (hcl 14 13 (hcl 15 14 (hcl 16 15 (hcl 17 16 (hcl 18 17 (hcl 20 18 h (by kernel_rfl)) (by kernel_rfl)) (by kernel_rfl)) (by kernel_rfl)) (by kernel_rfl)) (by kernel_rfl)) (by rw [hLi]; decide)
        obtain ⟨k4, k2, kl, zl⟩ := hC l20
        have HW0 := Lib.hid hw0; have HW1 := Lib.hid hw1; have HW2 := Lib.hid hw2
        have HC := Lib.hid hC
        clear hcl hw0 hw1 hw2 hw3 hC
        obtain rfl := e12 (hdp 12 (by kernel_rfl))
        have E0 := Lib.hid e0; have E1 := Lib.hid e1; have E2 := Lib.hid e2; have E3 := Lib.hid e3; have E4 := Lib.hid e4; have E5 := Lib.hid e5; have E6 := Lib.hid e6; have E7 := Lib.hid e7; have E8 := Lib.hid e8; have E9 := Lib.hid e9; have E10 := Lib.hid e10; have E11 := Lib.hid e11; have E14 := Lib.hid e14; have E15 := Lib.hid e15; have E16 := Lib.hid e16; have E17 := Lib.hid e17; have E19 := Lib.hid e19
        clear hdp e0 e1 e2 e3 e4 e5 e6 e7 e8 e9 e10 e11 e12 e13 e14 e15 e16 e17 e19
        refine wpOp_step rfl (fun K hK => ?_)
        go_simp
        exact hK _ _ ⟨_, _, _, _, _, _, _, _, _, _, _, _, _, _, _, _, _, _, _, _, rfl, (fun h => E0.out (by simpa [upOn] using h)), (fun h => E1.out (by simpa [upOn] using h)), (fun h => E2.out (by simpa [upOn] using h)), (fun h => E3.out (by simpa [upOn] using h)), (fun h => E4.out (by simpa [upOn] using h)), (fun h => E5.out (by simpa [upOn] using h)), (fun h => E6.out (by simpa [upOn] using h)), (fun h => E7.out (by simpa [upOn] using h)), (fun h => E8.out (by simpa [upOn] using h)), (fun h => E9.out (by simpa [upOn] using h)), (fun h => E10.out (by simpa [upOn] using h)), (fun h => E11.out (by simpa [upOn] using h)), (fun _ => rfl), (fun _ => rfl), (fun h => E14.out (by simpa [upOn] using h)), (fun h => E15.out (by simpa [upOn] using h)), (fun h => E16.out (by simpa [upOn] using h)), (fun h => E17.out (by simpa [upOn] using h)), (fun h => E19.out (by simpa [upOn] using h)), (fun _ => ⟨k4, k2, kl, zl⟩), (fun h => HW0.out (by simpa [upOn] using h)), (fun h k => HW1.out (by simpa [upOn] using h) (by simpa [upOn] using k)), (fun h k => HW2.out (by simpa [upOn] using h) l20), (fun h => by simp [upOn, l20] at h)⟩
      · have l20 : L 20 = false := by
          cases h : L 20
          · rfl
          · exact absurd (hcl 15 14 (hcl 16 15 (hcl 17 16 (hcl 18 17 (hcl 20 18 h (by kernel_rfl)) (by kernel_rfl)) (by kernel_rfl)) (by kernel_rfl)) (by kernel_rfl)) (by rw [hLi]; decide)
        obtain ⟨k4, k2, kl, zl⟩ := hC l20
        have HW0 := Lib.hid hw0; have HW1 := Lib.hid hw1; have HW2 := Lib.hid hw2
        have HC := Lib.hid hC
        clear hcl hw0 hw1 hw2 hw3 hC
        obtain rfl := e13 (hdp 13 (by kernel_rfl))
        have E0 := Lib.hid e0; have E1 := Lib.hid e1; have E2 := Lib.hid e2; have E3 := Lib.hid e3; have E4 := Lib.hid e4; have E5 := Lib.hid e5; have E6 := Lib.hid e6; have E7 := Lib.hid e7; have E8 := Lib.hid e8; have E9 := Lib.hid e9; have E10 := Lib.hid e10; have E11 := Lib.hid e11; have E12 := Lib.hid e12; have E15 := Lib.hid e15; have E16 := Lib.hid e16; have E17 := Lib.hid e17; have E19 := Lib.hid e19
        clear hdp e0 e1 e2 e3 e4 e5 e6 e7 e8 e9 e10 e11 e12 e13 e14 e15 e16 e17 e19
        refine wpOp_step rfl (fun K hK => ?_)
        go_simp
        exact hK _ _ ⟨_, _, _, _, _, _, _, _, _, _, _, _, _, _, _, _, _, _, _, _, rfl, (fun h => E0.out (by simpa [upOn] using h)), (fun h => E1.out (by simpa [upOn] using h)), (fun h => E2.out (by simpa [upOn] using h)), (fun h => E3.out (by simpa [upOn] using h)), (fun h => E4.out (by simpa [upOn] using h)), (fun h => E5.out (by simpa [upOn] using h)), (fun h => E6.out (by simpa [upOn] using h)), (fun h => E7.out (by simpa [upOn] using h)), (fun h => E8.out (by simpa [upOn] using h)), (fun h => E9.out (by simpa [upOn] using h)), (fun h => E10.out (by simpa [upOn] using h)), (fun h => E11.out (by simpa [upOn] using h)), (fun h => E12.out (by simpa [upOn] using h)), (fun _ => rfl), (fun _ => rfl), (fun h => E15.out (by simpa [upOn] using h)), (fun h => E16.out (by simpa [upOn] using h)), (fun h => E17.out (by simpa [upOn] using h)), (fun h => E19.out (by simpa [upOn] using h)), (fun _ => ⟨k4, k2, kl, zl⟩), (fun h => HW0.out (by simpa [upOn] using h)), (fun h k => HW1.out (by simpa [upOn] using h) (by simpa [upOn] using k)), (fun h k => HW2.out (by simpa [upOn] using h) l20), (fun h => by simp [upOn, l20] at h)⟩
      · have l20 : L 20 = false := by
          cases h : L 20
          · rfl
          · exact absurd (hcl 16 15 (hcl 17 16 (hcl 18 17 (hcl 20 18 h (by kernel_rfl)) (by kernel_rfl)) (by kernel_rfl)) (by kernel_rfl)) (by rw [hLi]; decide)
        obtain ⟨k4, k2, kl, zl⟩ := hC l20
        have HW0 := Lib.hid hw0; have HW1 := Lib.hid hw1; have HW2 := Lib.hid hw2
        have HC := Lib.hid hC
        clear hcl hw0 hw1 hw2 hw3 hC
        obtain rfl := e14 (hdp 14 (by kernel_rfl))
        have E0 := Lib.hid e0; have E1 := Lib.hid e1; have E2 := Lib.hid e2; have E3 := Lib.hid e3; have E4 := Lib.hid e4; have E5 := Lib.hid e5; have E6 := Lib.hid e6; have E7 := Lib.hid e7; have E8 := Lib.hid e8; have E9 := Lib.hid e9; have E10 := Lib.hid e10; have E11 := Lib.hid e11; have E12 := Lib.hid e12; have E13 := Lib.hid e13; have E16 := Lib.hid e16; have E17 := Lib.hid e17; have E19 := Lib.hid e19
        clear hdp e0 e1 e2 e3 e4 e5 e6 e7 e8 e9 e10 e11 e12 e13 e14 e15 e16 e17 e19
        refine wpOp_step rfl (fun K hK => ?_)
        go_simp
        exact hK _ _ ⟨_, _, _, _, _, _, _, _, _, _, _, _, _, _, _, _, _, _, _, _, rfl, (fun h => E0.out (by simpa [upOn] using h)), (fun h => E1.out (by simpa [upOn] using h)), (fun h => E2.out (by simpa [upOn] using h)), (fun h => E3.out (by simpa [upOn] using h)), (fun h => E4.out (by simpa [upOn] using h)), (fun h => E5.out (by simpa [upOn] using h)), (fun h => E6.out (by simpa [upOn] using h)), (fun h => E7.out (by simpa [upOn] using h)), (fun h => E8.out (by simpa [upOn] using h)), (fun h => E9.out (by simpa [upOn] using h)), (fun h => E10.out (by simpa [upOn] using h)), (fun h => E11.out (by simpa [upOn] using h)), (fun h => E12.out (by simpa [upOn] using h)), (fun h => E13.out (by simpa [upOn] using h)), (fun _ => rfl), (fun _ => rfl), (fun h => E16.out (by simpa [upOn] using h)), (fun h => E17.out (by simpa [upOn] using h)), (fun h => E19.out (by simpa [upOn] using h)), (fun _ => ⟨k4, k2, kl, zl⟩), (fun h => HW0.out (by simpa [upOn] using h)), (fun h k => HW1.out (by simpa [upOn] using h) (by simpa [upOn] using k)), (fun h k => HW2.out (by simpa [upOn] using h) l20), (fun h => by simp [upOn, l20] at h)⟩
      · have l20 : L 20 = false := by
          cases h : L 20
          · rfl
          · exact absurd (hcl 17 16 (hcl 18 17 (hcl 20 18 h (by kernel_rfl)) (by kernel_rfl)) (by kernel_rfl)) (by rw [hLi]; decide)
        obtain ⟨k4, k2, kl, zl⟩ := hC l20
        have HW0 := Lib.hid hw0; have HW1 := Lib.hid hw1; have HW2 := Lib.hid hw2
        have HC := Lib.hid hC
        clear hcl hw0 hw1 hw2 hw3 hC
        obtain rfl := e15 (hdp 15 (by kernel_rfl))
        have E0 := Lib.hid e0; have E1 := Lib.hid e1; have E2 := Lib.hid e2; have E3 := Lib.hid e3; have E4 := Lib.hid e4; have E5 := Lib.hid e5; have E6 := Lib.hid e6; have E7 := Lib.hid e7; have E8 := Lib.hid e8; have E9 := Lib.hid e9; have E10 := Lib.hid e10; have E11 := Lib.hid e11; have E12 := Lib.hid e12; have E13 := Lib.hid e13; have E14 := Lib.hid e14; have E17 := Lib.hid e17; have E19 := Lib.hid e19
        clear hdp e0 e1 e2 e3 e4 e5 e6 e7 e8 e9 e10 e11 e12 e13 e14 e15 e16 e17 e19
        refine wpOp_step rfl (fun K hK => ?_)
        go_simp
        exact hK _ _ ⟨_, _, _, _, _, _, _, _, _, _, _, _, _, _, _, _, _, _, _, _, rfl, (fun h => E0.out (by simpa [upOn] using h)), (fun h => E1.out (by simpa [upOn] using h)), (fun h => E2.out (by simpa [upOn] using h)), (fun h => E3.out (by simpa [upOn] using h)), (fun h => E4.out (by simpa [upOn] using h)), (fun h => E5.out (by simpa [upOn] using h)), (fun h => E6.out (by simpa [upOn] using h)), (fun h => E7.out (by simpa [upOn] using h)), (fun h => E8.out (by simpa [upOn] using h)), (fun h => E9.out (by simpa [upOn] using h)), (fun h => E10.out (by simpa [upOn] using h)), (fun h => E11.out (by simpa [upOn] using h)), (fun h => E12.out (by simpa [upOn] using h)), (fun h => E13.out (by simpa [upOn] using h)), (fun h => E14.out (by simpa [upOn] using h)), (fun _ => rfl), (fun _ => rfl), (fun h => E17.out (by simpa [upOn] using h)), (fun h => E19.out (by simpa [upOn] using h)), (fun _ => ⟨k4, k2, kl, zl⟩), (fun h => HW0.out (by simpa [upOn] using h)), (fun h k => HW1.out (by simpa [upOn] using h) (by simpa [upOn] using k)), (fun h k => HW2.out (by simpa [upOn] using h) l20), (fun h => by simp [upOn, l20] at h)⟩
      · have l20 : L 20 = false := by
          cases h : L 20
          · rfl
          · exact absurd (hcl 18 17 (hcl 20 18 h (by kernel_rfl)) (by kernel_rfl)) (by rw [hLi]; decide)
        have l18 : L 18 = false := by
          cases h : L 18
          · rfl
          · exact absurd (hcl 18 17 h (by kernel_rfl)) (by rw [hLi]; decide)
        obtain ⟨k4, k2, kl, zl⟩ := hC l20
        have HW0 := Lib.hid hw0; have HW1 := Lib.hid hw1; have HW2 := Lib.hid hw2
        obtain rfl := hw0 hLi
        have HC := Lib.hid hC
        clear hcl hw0 hw1 hw2 hw3 hC
        obtain rfl := e16 (hdp 16 (by kernel_rfl))
        have E0 := Lib.hid e0; have E1 := Lib.hid e1; have E2 := Lib.hid e2; have E3 := Lib.hid e3; have E4 := Lib.hid e4; have E5 := Lib.hid e5; have E6 := Lib.hid e6; have E7 := Lib.hid e7; have E8 := Lib.hid e8; have E9 := Lib.hid e9; have E10 := Lib.hid e10; have E11 := Lib.hid e11; have E12 := Lib.hid e12; have E13 := Lib.hid e13; have E14 := Lib.hid e14; have E15 := Lib.hid e15; have E19 := Lib.hid e19
        clear hdp e0 e1 e2 e3 e4 e5 e6 e7 e8 e9 e10 e11 e12 e13 e14 e15 e16 e17 e19
        refine wpOp_step rfl (fun K hK => ?_)
        have hqs : V.heap.size = q + 1 := HSZ.out
        go_simp
        exact hK _ _ ⟨_, _, _, _, _, _, _, _, _, _, _, _, _, _, _, _, _, _, _, _, rfl, (fun h => E0.out (by simpa [upOn] using h)), (fun h => E1.out (by simpa [upOn] using h)), (fun h => E2.out (by simpa [upOn] using h)), (fun h => E3.out (by simpa [upOn] using h)), (fun h => E4.out (by simpa [upOn] using h)), (fun h => E5.out (by simpa [upOn] using h)), (fun h => E6.out (by simpa [upOn] using h)), (fun h => E7.out (by simpa [upOn] using h)), (fun h => E8.out (by simpa [upOn] using h)), (fun h => E9.out (by simpa [upOn] using h)), (fun h => E10.out (by simpa [upOn] using h)), (fun h => E11.out (by simpa [upOn] using h)), (fun h => E12.out (by simpa [upOn] using h)), (fun h => E13.out (by simpa [upOn] using h)), (fun h => E14.out (by simpa [upOn] using h)), (fun h => E15.out (by simpa [upOn] using h)), (fun _ => rfl), (fun _ => rfl), (fun h => E19.out (by simpa [upOn] using h)), (fun _ => ⟨c4X.out, c2X.out, clX.out, flX.out⟩), (fun h => by simp [upOn] at h), (fun _ _ => rfl), (fun h => by simp [upOn, l18] at h), (fun h => by simp [upOn, l20] at h)⟩
      · have l20 : L 20 = false := by
          cases h : L 20
          · rfl
          · exact absurd (hcl 20 18 h (by kernel_rfl)) (by rw [hLi]; decide)
        obtain ⟨k4, k2, kl, zl⟩ := hC l20
        have HW0 := Lib.hid hw0; have HW1 := Lib.hid hw1; have HW2 := Lib.hid hw2
        have l17 := hdp 17 (by kernel_rfl)
        obtain rfl := hw1 l17 hLi
        have HC := Lib.hid hC
        clear hcl hw0 hw1 hw2 hw3 hC
        obtain rfl := (e11 (hdp 11 (by kernel_rfl))).symm
        obtain rfl := e17 (hdp 17 (by kernel_rfl))
        have E0 := Lib.hid e0; have E1 := Lib.hid e1; have E2 := Lib.hid e2; have E3 := Lib.hid e3; have E4 := Lib.hid e4; have E5 := Lib.hid e5; have E6 := Lib.hid e6; have E7 := Lib.hid e7; have E8 := Lib.hid e8; have E9 := Lib.hid e9; have E10 := Lib.hid e10; have E12 := Lib.hid e12; have E13 := Lib.hid e13; have E14 := Lib.hid e14; have E15 := Lib.hid e15; have E16 := Lib.hid e16; have E19 := Lib.hid e19
        clear hdp e0 e1 e2 e3 e4 e5 e6 e7 e8 e9 e10 e11 e12 e13 e14 e15 e16 e17 e19
        refine wpOp_step rfl (fun K hK => ?_)
        rw [if_pos (by rfl)]
        refine Ev.wp_append_w _ _ 22 22 (by rfl) 3 i1 (.int .i64 0) 8 Tryz.underlying22 Tryz.underlying22 hi1 hz0 hz1 hz2 rfl (by rfl) HROW ⟨q + 1, 0, none⟩ 1 1 [.int .i64 (n : Int)] (by rfl) (by rfl) (World.news_of_block (cs := #[.int .i64 (n : Int)]) (t := 3) (fr := (0, 0)) HNW.out) (by simp [Value.oneCell']) (by omega) (by omega) (by omega) (by rw [hsA]; omega) (q + 2) hsA ?_
        intro g f cap w1 hown hgrow hat hlt1
        have hqs : V.heap.size = q + 1 := HSZ.out
        have C4 : w1.cell? ⟨p, o + 4, none⟩ = some (.slice (some ⟨lb, lf, none⟩) ls.length lc) := by rw [World.cell?_of_block (hgrow.block p (by rw [hsA]; omega) (fun e => rp e.symm))]; exact k4
        have C2 : w1.cell? ⟨p, o + 2, none⟩ = some (.slice (some ⟨tb, tf, none⟩) n tc) := by rw [World.cell?_of_block (hgrow.block p (by rw [hsA]; omega) (fun e => rp e.symm))]; exact k2
        have C1 : w1.cell? ⟨lb, lf + i, none⟩ = some v := by rw [World.cell?_of_block (hgrow.block lb (by rw [hsA]; omega) (fun e => hlbv e.symm))]; exact kl
        have F1 : w1.frozen? ⟨lb, lf + i, none⟩ = false := by rw [World.frozen?_of_block (hgrow.block lb (by rw [hsA]; omega) (fun e => hlbv e.symm))]; exact zl
        exact hK _ _ ⟨_, _, _, _, _, _, _, _, _, _, _, _, _, _, _, _, _, _, _, _, rfl, (fun h => E0.out (by simpa [upOn] using h)), (fun h => E1.out (by simpa [upOn] using h)), (fun h => E2.out (by simpa [upOn] using h)), (fun h => E3.out (by simpa [upOn] using h)), (fun h => E4.out (by simpa [upOn] using h)), (fun h => E5.out (by simpa [upOn] using h)), (fun h => E6.out (by simpa [upOn] using h)), (fun h => E7.out (by simpa [upOn] using h)), (fun h => E8.out (by simpa [upOn] using h)), (fun h => E9.out (by simpa [upOn] using h)), (fun h => E10.out (by simpa [upOn] using h)), (fun _ => rfl), (fun h => E12.out (by simpa [upOn] using h)), (fun h => E13.out (by simpa [upOn] using h)), (fun h => E14.out (by simpa [upOn] using h)), (fun h => E15.out (by simpa [upOn] using h)), (fun h => E16.out (by simpa [upOn] using h)), (fun _ => rfl), (fun h => E19.out (by simpa [upOn] using h)), (fun _ => ⟨C4, C2, C1, F1⟩), (fun h => by simp [upOn, l17] at h), (fun _ h => by simp [upOn] at h), (fun _ _ => ⟨g, f, cap, rfl, hown, hgrow, hat, hlt1⟩), (fun h => by simp [upOn, l20] at h)⟩
      · have l20 : L 20 = false := by
          cases h : L 20
          · rfl
          · exact absurd (hcl 20 19 h (by kernel_rfl)) (by rw [hLi]; decide)
        obtain ⟨k4, k2, kl, zl⟩ := hC l20
        have HW0 := Lib.hid hw0; have HW1 := Lib.hid hw1; have HW2 := Lib.hid hw2
        have HC := Lib.hid hC
        clear hcl hw0 hw1 hw2 hw3 hC
        obtain rfl := e3 (hdp 3 (by kernel_rfl))
        obtain rfl := e4 (hdp 4 (by kernel_rfl))
        have E0 := Lib.hid e0; have E1 := Lib.hid e1; have E2 := Lib.hid e2; have E5 := Lib.hid e5; have E6 := Lib.hid e6; have E7 := Lib.hid e7; have E8 := Lib.hid e8; have E9 := Lib.hid e9; have E10 := Lib.hid e10; have E11 := Lib.hid e11; have E12 := Lib.hid e12; have E13 := Lib.hid e13; have E14 := Lib.hid e14; have E15 := Lib.hid e15; have E16 := Lib.hid e16; have E17 := Lib.hid e17
        clear hdp e0 e1 e2 e3 e4 e5 e6 e7 e8 e9 e10 e11 e12 e13 e14 e15 e16 e17 e19
        refine wpOp_step rfl (fun K hK => ?_)
        go_simp
        exact hK _ _ ⟨_, _, _, _, _, _, _, _, _, _, _, _, _, _, _, _, _, _, _, _, rfl, (fun h => E0.out (by simpa [upOn] using h)), (fun h => E1.out (by simpa [upOn] using h)), (fun h => E2.out (by simpa [upOn] using h)), (fun _ => rfl), (fun _ => rfl), (fun h => E5.out (by simpa [upOn] using h)), (fun h => E6.out (by simpa [upOn] using h)), (fun h => E7.out (by simpa [upOn] using h)), (fun h => E8.out (by simpa [upOn] using h)), (fun h => E9.out (by simpa [upOn] using h)), (fun h => E10.out (by simpa [upOn] using h)), (fun h => E11.out (by simpa [upOn] using h)), (fun h => E12.out (by simpa [upOn] using h)), (fun h => E13.out (by simpa [upOn] using h)), (fun h => E14.out (by simpa [upOn] using h)), (fun h => E15.out (by simpa [upOn] using h)), (fun h => E16.out (by simpa [upOn] using h)), (fun h => E17.out (by simpa [upOn] using h)), (fun _ => rfl), (fun _ => ⟨k4, k2, kl, zl⟩), (fun h => HW0.out (by simpa [upOn] using h)), (fun h k => HW1.out (by simpa [upOn] using h) (by simpa [upOn] using k)), (fun h k => HW2.out (by simpa [upOn] using h) l20), (fun h => by simp [upOn, l20] at h)⟩
      · have l20 : L 20 = false := by
          exact hLi
        obtain ⟨k4, k2, kl, zl⟩ := hC l20
        have HW0 := Lib.hid hw0; have HW1 := Lib.hid hw1; have HW2 := Lib.hid hw2
        have l18 := hdp 18 (by kernel_rfl)
        obtain ⟨g, f, cap, rfl, hown, hgrow, hat, hlt1⟩ := hw2 l18 hLi
        have L17 := Lib.hid (hcl 18 17 l18 (by kernel_rfl))
        have HKK := Lib.hid (HK.out g f cap w' hown hgrow hat hlt1)
        clear hown hgrow hat hlt1
        have HC := Lib.hid hC
        clear hcl hw0 hw1 hw2 hw3 hC
        obtain rfl := e19 (hdp 19 (by kernel_rfl))
        have E0 := Lib.hid e0; have E1 := Lib.hid e1; have E2 := Lib.hid e2; have E3 := Lib.hid e3; have E4 := Lib.hid e4; have E5 := Lib.hid e5; have E6 := Lib.hid e6; have E7 := Lib.hid e7; have E8 := Lib.hid e8; have E9 := Lib.hid e9; have E10 := Lib.hid e10; have E11 := Lib.hid e11; have E12 := Lib.hid e12; have E13 := Lib.hid e13; have E14 := Lib.hid e14; have E15 := Lib.hid e15; have E16 := Lib.hid e16; have E17 := Lib.hid e17
        clear hdp e0 e1 e2 e3 e4 e5 e6 e7 e8 e9 e10 e11 e12 e13 e14 e15 e16 e17 e19
        refine wpOp_step rfl (fun K hK => ?_)
        go_simp
        exact hK _ _ ⟨_, _, _, _, _, _, _, _, _, _, _, _, _, _, _, _, _, _, _, _, rfl, (fun h => E0.out (by simpa [upOn] using h)), (fun h => E1.out (by simpa [upOn] using h)), (fun h => E2.out (by simpa [upOn] using h)), (fun h => E3.out (by simpa [upOn] using h)), (fun h => E4.out (by simpa [upOn] using h)), (fun h => E5.out (by simpa [upOn] using h)), (fun h => E6.out (by simpa [upOn] using h)), (fun h => E7.out (by simpa [upOn] using h)), (fun h => E8.out (by simpa [upOn] using h)), (fun h => E9.out (by simpa [upOn] using h)), (fun h => E10.out (by simpa [upOn] using h)), (fun h => E11.out (by simpa [upOn] using h)), (fun h => E12.out (by simpa [upOn] using h)), (fun h => E13.out (by simpa [upOn] using h)), (fun h => E14.out (by simpa [upOn] using h)), (fun h => E15.out (by simpa [upOn] using h)), (fun h => E16.out (by simpa [upOn] using h)), (fun h => E17.out (by simpa [upOn] using h)), (fun _ => rfl), (fun h => by simp [upOn] at h), (fun h => by have := HW0.out (by simpa [upOn] using h); simp [upOn] at h; exact absurd (L17.out) (by rw [h]; decide)), (fun _ h => by simp [upOn, l18] at h), (fun _ h => by simp [upOn] at h), (fun _ => ⟨g, f, cap, rfl, HKK.out⟩)⟩
    case fin =>
      rintro L a' w' hall ⟨y0, y1, y2, y3, y4, y5, y6, y7, y8, y9, y10, y11, y12, y13, y14, y15, y16, y17, y18, y19, rfl, e0, e1, e2, e3, e4, e5, e6, e7, e8, e9, e10, e11, e12, e13, e14, e15, e16, e17, e19, -, -, -, -, hw3⟩
      obtain rfl := (e0 (hall 0 (by omega)))
      obtain rfl := (e1 (hall 1 (by omega)))
      obtain rfl := (e2 (hall 2 (by omega)))
      obtain rfl := (e3 (hall 3 (by omega)))
      obtain rfl := (e4 (hall 4 (by omega)))
      obtain rfl := (e5 (hall 5 (by omega)))
      obtain rfl := (e6 (hall 6 (by omega)))
      obtain rfl := (e7 (hall 7 (by omega)))
      obtain rfl := (e8 (hall 8 (by omega)))
      obtain rfl := (e9 (hall 9 (by omega)))
      obtain rfl := (e10 (hall 10 (by omega)))
      obtain rfl := (e11 (hall 11 (by omega))).symm
      obtain rfl := (e12 (hall 12 (by omega)))
      obtain rfl := (e13 (hall 13 (by omega)))
      obtain rfl := (e14 (hall 14 (by omega)))
      obtain rfl := (e15 (hall 15 (by omega)))
      obtain rfl := (e16 (hall 16 (by omega)))
      obtain rfl := (e17 (hall 17 (by omega)))
      obtain rfl := (e19 (hall 19 (by omega)))
      obtain ⟨g, f, cap, rfl, hfin⟩ := hw3 (hall 20 (by omega))
      exact hin.out _ _ ⟨g, f, cap, rfl, hfin⟩
  · intro e a' W' hE0
    have hen : e = Exit.normal := by cases e <;> first | rfl | exact hE0.elim
    subst hen
    obtain ⟨g, f, cap, rfl, hS, hBW, hsW, hE, hAz⟩ := hout.out _ _ hE0
    have HAZ := Lib.hid hAz
    clear hAz
    clear hin hout HK
    have hHE : ∀ k x, (cells9 x0 x1 x2 x3 x4 x5 x6 x7)[k]? = some x → W'.cell? ⟨q, k, none⟩ = some x := hE
    have e0 := hE 0 _ rfl
    have e1 := hE 1 _ rfl
    have e2 := hE 2 _ rfl
    have e3 := hE 3 _ rfl
    have e4 := hE 4 _ rfl
    have e5 := hE 5 _ rfl
    have e6 := hE 6 _ rfl
    have e7 := hE 7 _ rfl
    have e8 := hE 8 _ rfl
    clear hE hHE
    have d2 := hS.c2
    have HS := Lib.hid hS
    have hpW := hS.lt
    have hbpB := hS.bp
    have htp := hS.tp
    obtain ⟨i2, hi2, hy0, hy1, hy2⟩ : ∃ i, Tryz.prog.info? 35 = some i ∧ i.zero = some (.agg #[.int .i64 0, .int .i64 0, .int .i64 0, .int .i64 0, .int .i32 0, .int .i64 0, .bool false, .bool false, .slice none 0 0]) ∧ i.size = 9 ∧ i.bytes = 80 := by
      obtain ⟨i, e1, e2⟩ := Option.map_eq_some_iff.1 infoTh
      exact ⟨i, e1, (Prod.mk.inj e2).1, (Prod.mk.inj (Prod.mk.inj e2).2).1, (Prod.mk.inj (Prod.mk.inj e2).2).2⟩
    have hA : Below W'.heap.size W' (W'.drew.alloc (.cells #[x0, x1, x2, x3, x4, x5, x6, x7, .slice none 0 0] 35)) := (Below.refl _ W').drew.alloc (Nat.le_refl _) _
    have HTH := (hS.below hA).th
    have dA : (W'.alloc (.cells #[x0, x1, x2, x3, x4, x5, x6, x7, .slice none 0 0] 35)).cell? ⟨p, o + 2, none⟩ = some (.slice (some ⟨tb, tf, none⟩) n tc) := (hS.below hA).c2
    have zA : (W'.alloc (.cells #[x0, x1, x2, x3, x4, x5, x6, x7, .slice none 0 0] 35)).frozen? ⟨p, o + 2, none⟩ = false := (hS.below hA).z2
    have HAS := Lib.hid (hS.below hA)
    have hsB : (W'.alloc (.cells #[x0, x1, x2, x3, x4, x5, x6, x7, .slice none 0 0] 35)).drew.heap.size = W'.heap.size + 1 := by simp
    have hBs : B ≤ W'.heap.size := by omega
    have htb : tb ≠ p := fun e => htp (by rw [e]; rfl)
    have HBA := Lib.hid ((hBW.trans (hA.mono hBs)))
    clear hA hS
    generalize hQ : W'.heap.size = Q at *
    go_upto_region 3 with fail
    go_region_law (refine Ev.step_append_w rfl _ _ 63 63 (by rfl) 35 i2 _ 80 Tryz.underlying63 Tryz.underlying63 hi2 hy0 hy1 hy2 rfl (by rfl) HTH ⟨Q, 0, none⟩ 1 1 (cells9 x0 x1 x2 x3 x4 x5 x6 x7) (by rfl) (by rfl) (World.news_of_block (cs := #[x0, x1, x2, x3, x4, x5, x6, x7, .slice none 0 0]) (t := 35) (fr := (0, 0)) (by rw [← hQ]; exact heap_alloc_new W'.drew _)) h1 (by omega) (by omega) (by omega) (by rw [hsB]; omega) (Q + 1) hsB ?_; intro g2 f2 cap2 w1 hown hgrow hat hlt1; have C1 : w1.cell? ⟨p, o + 2, none⟩ = some (.slice (some ⟨tb, tf, none⟩) n tc) := (by rw [World.cell?_of_block (hgrow.block p (by rw [hsB]; omega) (fun e => htp e.symm))]; exact dA); have F1 : w1.frozen? ⟨p, o + 2, none⟩ = false := (by rw [World.frozen?_of_block (hgrow.block p (by rw [hsB]; omega) (fun e => htp e.symm))]; exact zA))
    all_goals
      have P := HAS.out.put2 hn hown hgrow (by rw [show (W'.drew.alloc (.cells #[x0, x1, x2, x3, x4, x5, x6, x7, .slice none 0 0] 35)).heap.size = Q + 1 from hsB]; exact hat)
      have HP := Lib.hid P
      have k2 := P.c2
      have HBE : Hid (Below B w (w1.setCell ⟨p, o + 2, none⟩ (.slice (some ⟨g2, f2, none⟩) (n + 1) cap2))) := Lib.hid ((HBA.out.grown hgrow (by rw [show (W'.drew.alloc (.cells #[x0, x1, x2, x3, x4, x5, x6, x7, .slice none 0 0] 35)).heap.size = Q + 1 from hsB]; omega) (fun k hk => by cases hk; exact htbB)).setCell hbpB _)
      have HF : Hid (∀ z, z < q → Ap z p (.slice (some ⟨tb, tf, none⟩) n tc) (.slice (some ⟨lb, lf, none⟩) ls.length lc) ls → (w1.setCell ⟨p, o + 2, none⟩ (.slice (some ⟨g2, f2, none⟩) (n + 1) cap2)).heap[z]? = w.heap[z]? ∧ Ap z p (.slice (some ⟨g2, f2, none⟩) (n + 1) cap2) (.slice (some ⟨lb, lf, none⟩) ls.length lc) (ls.set i (.slice (some ⟨g, f, none⟩) (ns.length + 1) cap, ns ++ [n]))) := Lib.hid (by
        intro z hz hz9
        obtain ⟨k1, z1, z2, z3, z4⟩ := HAZ.out z hz hz9
        refine ⟨?_, z1, ?_, z3, z4⟩
        · rw [Below.heap_setCell _ _ _ _ z1, hgrow.block z (by rw [hsB]; omega) (fun e => z2 e.symm)]
          exact (((Below.refl q W').drew.alloc (by show q ≤ W'.heap.size; omega) (.cells #[x0, x1, x2, x3, x4, x5, x6, x7, .slice none 0 0] 35)).block z hz).trans k1
        · intro e
          have e1 : g2 = z := Option.some.inj e
          rcases hat with e2 | e2
          · exact z2 (by rw [e2, e1])
          · omega)
      clear P hown hgrow hat hlt1 C1 F1
      generalize w1.setCell ⟨p, o + 2, none⟩ (.slice (some ⟨g2, f2, none⟩) (n + 1) cap2) = w3 at *
      go_wp2
      go_ret
      exact ⟨rfl, HBE.out, _, _, HP.out, fun z hz => HF.out z (by rw [← hqq]; exact hz)⟩
set_option maxRecDepth 100000 in
set_option maxHeartbeats 4000000 in
theorem declare_any (h : ScAt w B p o tv lv n xs ls) (hB : B ≤ w.heap.size) (i : Nat) (hL : ls.length = i + 1) (v : Value) (ns : List Nat) (hi : ls[i]? = some (v, ns)) (hns : ns.length ≤ 1000) (x0 : Value) (x : Int) (x2 x4 x5 x6 x7 : Value) (h0 : x0.oneCell' = true) (h2 : x2.oneCell' = true) (h4 : x4.oneCell' = true) (h5 : x5.oneCell' = true) (h6 : x6.oneCell' = true) (h7 : x7.oneCell' = true) (hno : ∀ j ∈ ns, ∃ y, Nm xs j y ∧ y ≠ x) (hn : n < 929) :
    Calls Tryz.prog 10 #[.pointer (some ⟨p, o, none⟩), .agg #[x0, .int .i64 x, x2, .int .i64 0, x4, x5, x6, x7, .slice none 0 0]] w fun e w' => e = .returned (.tuple #[.int .i64 (n : Int), .int .i64 0]) ∧ Below B w w' ∧ ∃ tv' v', ScAt w' B p o tv' lv (n + 1) (xs ++ cells9 x0 (.int .i64 x) x2 (.int .i64 ((i : Int) + 1 - 2)) x4 x5 x6 x7) (ls.set i (v', ns ++ [n])) ∧ (∀ z, z < w.heap.size → Ap z p tv lv ls → w'.heap[z]? = w.heap[z]? ∧ Ap z p tv' lv (ls.set i (v', ns ++ [n]))) := by
  obtain ⟨lb, lf, lc, hlv, hlbB, hlbl⟩ := h.li.form (by have := h.l0; omega)
  subst hlv
  have l0 := h.l0
  have l1 := h.l1
  have hb0 := scb1 w (.cells #[x0, .int .i64 x, x2, .int .i64 0, x4, x5, x6, x7, .slice none 0 0] 35)
  have H1 := Lib.hid h
  have HB0 := Lib.hid hb0
  have E0 : ∀ k u, [x0, .int .i64 x, x2, .int .i64 0, x4, x5, x6, x7, .slice none 0 0][k]? = some u → (w.alloc (.cells #[x0, .int .i64 x, x2, .int .i64 0, x4, x5, x6, x7, .slice none 0 0] 35)).cell? ⟨w.heap.size, k, none⟩ = some u := fun k u hx => by
    rw [World.cell?_alloc_new w _ _ _]; simpa using hx
  have F0 : ∀ k, (w.alloc (.cells #[x0, .int .i64 x, x2, .int .i64 0, x4, x5, x6, x7, .slice none 0 0] 35)).frozen? ⟨w.heap.size, k, none⟩ = false := fun k => World.frozen?_alloc_new w _ _ _
  have hsz : (w.alloc (.cells #[x0, .int .i64 x, x2, .int .i64 0, x4, x5, x6, x7, .slice none 0 0] 35)).heap.size = w.heap.size + 1 := by simp
  have HS := Lib.hid (h.below hb0)
  clear h hb0
  go_enter Tryz.func10, Tryz.ntmps10
  go_upto_region 1 with fail
  generalize w.alloc (.cells #[x0, .int .i64 x, x2, .int .i64 0, x4, x5, x6, x7, .slice none 0 0] 35) = W0 at *
  have c4 := HS.out.c4
  go_upto_region 4 with (go_at_call 29; (refine (scis_any HS.out).mono ?_); rintro e w' ⟨rfl, rfl⟩)
  have cl : W0.cell? ⟨lb, lf + i, none⟩ = some v := by
    rw [(HS.out.li.cell i (by omega)).1, List.getElem?_map, hi]; rfl
  have hq1 : W0.cell? ⟨w.heap.size, 1, none⟩ = some (.int .i64 x) := E0 1 _ rfl
  have HIN : Hid (∀ V, Below W0.heap.size W0 V → Calls Tryz.prog 30 #[.pointer (some ⟨p, o, none⟩), v, .int .i64 x] V fun e w' => e = .returned (.tuple #[.int .i64 0, .bool false]) ∧ V = w') := Lib.hid fun V hV => in_no (HS.out.below hV) i v ns hi hns x hno
  have HE := Lib.hid E0
  have HF := Lib.hid F0
  have hbD : Below W0.heap.size W0 W0.drew := (Below.refl _ _).drew
  have hi0 : (0 : Int) ≤ (i : Int) := by omega
  have hi1 : (i : Int) < (i : Int) + 1 := by omega
  have hi2 : (i : Int) < ((i + 1 : Nat) : Int) := by omega
  rw [hL] at c4
  clear E0 F0 hno
  go_region_held3 (fun V => V.cell? ⟨p, o + 4, none⟩ = some (.slice (some ⟨lb, lf, none⟩) (i + 1) lc) ∧ V.cell? ⟨lb, lf + i, none⟩ = some v ∧ V.cell? ⟨w.heap.size, 1, none⟩ = some (.int .i64 x) ∧ Below W0.heap.size W0 V)
    (first | exact ⟨by assumption, by assumption, by assumption, by assumption⟩ | go_keep)
    ((go_at_call 30; (with_reducible refine (HIN.out _ (by assumption)).mono ?_); rintro e w' ⟨rfl, rfl⟩))
  have hfull : decide (929 ≤ n) = false := by simp; omega
  have HB1 : Hid (Below w.heap.size w W0.drew) := Lib.hid HB0.out.drew
  have HS1 := Lib.hid HS.out.drew
  have hqW : w.heap.size < W0.heap.size := by omega
  go_upto_region 9 with (go_at_call 31; (refine (scfull_any HS1.out).mono ?_); rintro e v2 ⟨he, hb2⟩; rw [hfull] at he; subst he; have HB2 := Lib.hid (HB1.out.trans (hb2.mono (by show w.heap.size ≤ W0.heap.size; omega))); have HS2 := Lib.hid (HS1.out.below hb2); have hbk : v2.heap[w.heap.size]? = W0.heap[w.heap.size]? := hb2.block _ (by show w.heap.size < W0.heap.size; omega); clear hb2)
  have G : ∀ k u, [x0, .int .i64 x, x2, .int .i64 0, x4, x5, x6, x7, .slice none 0 0][k]? = some u → v2.cell? ⟨w.heap.size, k, none⟩ = some u := fun k u hx => by rw [World.cell?_of_block hbk]; exact HE.out k u hx
  have g0 := G 0 _ rfl
  have g1 := G 1 _ rfl
  have g2 := G 2 _ rfl
  have g3 := G 3 _ rfl
  have g4 := G 4 _ rfl
  have g5 := G 5 _ rfl
  have g6 := G 6 _ rfl
  have g7 := G 7 _ rfl
  have g8 := G 8 _ rfl
  have z3 : v2.frozen? ⟨w.heap.size, 3, none⟩ = false := by rw [World.frozen?_of_block hbk]; exact HF.out 3
  have HB3 : Hid (Below w.heap.size w (v2.setCell ⟨w.heap.size, 3, none⟩ (.int .i64 ((i : Int) + 1 - 2)))) := Lib.hid (HB2.out.setCell (show w.heap.size ≤ (⟨w.heap.size, 3, none⟩ : Addr).block from Nat.le_refl _) _)
  have HPT : Hid (Calls Tryz.prog 27 #[.pointer (some ⟨p, o, none⟩), .int .i64 (i : Int), .agg #[x0, .int .i64 x, x2, .int .i64 ((i : Int) + 1 - 2), x4, x5, x6, x7, .slice none 0 0]] (v2.setCell ⟨w.heap.size, 3, none⟩ (.int .i64 ((i : Int) + 1 - 2))) fun e w' => e = .returned (.int .i64 (n : Int)) ∧ Below B (v2.setCell ⟨w.heap.size, 3, none⟩ (.int .i64 ((i : Int) + 1 - 2))) w' ∧ ∃ tv' v', ScAt w' B p o tv' (.slice (some ⟨lb, lf, none⟩) ls.length lc) (n + 1) (xs ++ cells9 x0 (.int .i64 x) x2 (.int .i64 ((i : Int) + 1 - 2)) x4 x5 x6 x7) (ls.set i (v', ns ++ [n])) ∧ (∀ z, z < (v2.setCell ⟨w.heap.size, 3, none⟩ (.int .i64 ((i : Int) + 1 - 2))).heap.size → Ap z p tv (.slice (some ⟨lb, lf, none⟩) ls.length lc) ls → w'.heap[z]? = (v2.setCell ⟨w.heap.size, 3, none⟩ (.int .i64 ((i : Int) + 1 - 2))).heap[z]? ∧ Ap z p tv' (.slice (some ⟨lb, lf, none⟩) ls.length lc) (ls.set i (v', ns ++ [n])))) :=
    Lib.hid (put_any (H1.out.below HB3.out) hn (Nat.le_trans hB HB3.out.size) i v ns hi hns x0 (.int .i64 x) x2 (.int .i64 ((i : Int) + 1 - 2)) x4 x5 x6 x7 (by
      intro u hu
      simp only [cells9, List.mem_cons, List.not_mem_nil, or_false] at hu
      rcases hu with rfl | rfl | rfl | rfl | rfl | rfl | rfl | rfl | rfl <;> first | assumption | rfl))
  clear G hbk HE HF HB1 HS1 HS HIN
  have HLV := Lib.hid (sclevel_any HS2.out)
  go_upto_region 10 with (go_at_call 19; (with_reducible refine HLV.out.mono ?_); rintro e w' ⟨rfl, rfl⟩)
  clear HB2 HS2 HLV
  go_wp2_with (go_at_call 27; (refine HPT.out.mono ?_); rintro e v4 ⟨rfl, hb4, tv', v', hs4, hz4⟩; have HB4 := Lib.hid hb4; have HS4 := Lib.hid hs4; have HZ4 := Lib.hid hz4; clear hb4 hs4 hz4)
  go_ret2
  exact ⟨rfl, (HB3.out.mono hB).trans HB4.out, tv', v', HS4.out, fun z hz hz9 => by
    obtain ⟨k1, k2⟩ := HZ4.out z (Nat.lt_of_lt_of_le hz HB3.out.size) hz9
    exact ⟨k1.trans (HB3.out.block z hz), k2⟩⟩
set_option maxRecDepth 100000 in
set_option maxHeartbeats 4000000 in
theorem declare_full (h : ScAt w B p o tv lv n xs ls) (hn : n = 929) (i : Nat) (hL : ls.length = i + 1) (v : Value) (ns : List Nat) (hi : ls[i]? = some (v, ns)) (hns : ns.length ≤ 1000) (x0 : Value) (x : Int) (x2 x4 x5 x6 x7 : Value) (hno : ∀ j ∈ ns, ∃ y, Nm xs j y ∧ y ≠ x) :
    Calls Tryz.prog 10 #[.pointer (some ⟨p, o, none⟩), .agg #[x0, .int .i64 x, x2, .int .i64 0, x4, x5, x6, x7, .slice none 0 0]] w fun e w' => e = .returned (.tuple #[.int .i64 0, .int .i64 63]) ∧ Below w.heap.size w w' := by
  obtain ⟨lb, lf, lc, hlv, hlbB, hlbl⟩ := h.li.form (by have := h.l0; omega)
  subst hlv
  have l0 := h.l0
  have l1 := h.l1
  have hb0 := scb1 w (.cells #[x0, .int .i64 x, x2, .int .i64 0, x4, x5, x6, x7, .slice none 0 0] 35)
  have HB0 := Lib.hid hb0
  have hq1 : (w.alloc (.cells #[x0, .int .i64 x, x2, .int .i64 0, x4, x5, x6, x7, .slice none 0 0] 35)).cell? ⟨w.heap.size, 1, none⟩ = some (.int .i64 x) := by
    rw [World.cell?_alloc_new w _ _ _]; rfl
  have hsz : (w.alloc (.cells #[x0, .int .i64 x, x2, .int .i64 0, x4, x5, x6, x7, .slice none 0 0] 35)).heap.size = w.heap.size + 1 := by simp
  have HS := Lib.hid (h.below hb0)
  clear h hb0
  go_enter Tryz.func10, Tryz.ntmps10
  go_upto_region 1 with fail
  generalize w.alloc (.cells #[x0, .int .i64 x, x2, .int .i64 0, x4, x5, x6, x7, .slice none 0 0] 35) = W0 at *
  have c4 := HS.out.c4
  go_upto_region 4 with (go_at_call 29; (refine (scis_any HS.out).mono ?_); rintro e w' ⟨rfl, rfl⟩)
  have cl : W0.cell? ⟨lb, lf + i, none⟩ = some v := by
    rw [(HS.out.li.cell i (by omega)).1, List.getElem?_map, hi]; rfl
  have HIN : Hid (∀ V, Below W0.heap.size W0 V → Calls Tryz.prog 30 #[.pointer (some ⟨p, o, none⟩), v, .int .i64 x] V fun e w' => e = .returned (.tuple #[.int .i64 0, .bool false]) ∧ V = w') := Lib.hid fun V hV => in_no (HS.out.below hV) i v ns hi hns x hno
  have hbD : Below W0.heap.size W0 W0.drew := (Below.refl _ _).drew
  have hi0 : (0 : Int) ≤ (i : Int) := by omega
  have hi1 : (i : Int) < (i : Int) + 1 := by omega
  have hi2 : (i : Int) < ((i + 1 : Nat) : Int) := by omega
  rw [hL] at c4
  clear hno
  go_region_held3 (fun V => V.cell? ⟨p, o + 4, none⟩ = some (.slice (some ⟨lb, lf, none⟩) (i + 1) lc) ∧ V.cell? ⟨lb, lf + i, none⟩ = some v ∧ V.cell? ⟨w.heap.size, 1, none⟩ = some (.int .i64 x) ∧ Below W0.heap.size W0 V)
    (first | exact ⟨by assumption, by assumption, by assumption, by assumption⟩ | go_keep)
    ((go_at_call 30; (with_reducible refine (HIN.out _ (by assumption)).mono ?_); rintro e w' ⟨rfl, rfl⟩))
  have hfull : decide (929 ≤ n) = true := by simp; omega
  have HB1 : Hid (Below w.heap.size w W0.drew) := Lib.hid HB0.out.drew
  have HS1 := Lib.hid HS.out.drew
  go_wp2_with (go_at_call 31; (refine (scfull_any HS1.out).mono ?_); rintro e v2 ⟨he, hb2⟩; rw [hfull] at he; subst he; have HB2 := Lib.hid (HB1.out.trans (hb2.mono (by show w.heap.size ≤ W0.heap.size; omega))); clear hb2)
  go_ret2
  exact ⟨rfl, HB2.out⟩
end
end Go.Proofs.YtpnohekidpphfaaGreatDoor
