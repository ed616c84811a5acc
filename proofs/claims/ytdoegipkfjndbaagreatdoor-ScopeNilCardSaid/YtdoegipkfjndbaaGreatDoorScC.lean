/-
  A new scope, over a new scanner and a new table: reckoned by the kernel; what then lies in memory.
-/
import Derived.Test.YtdoegipkfjndbaaGreatDoorScA
import Derived.Test.YtdoegipkfjndbaaGreatDoorScTab
import Derived.KernelRfl
namespace Go.Proofs.YtdoegipkfjndbaaGreatDoor
open Go.ChangeShapes Go.WideShapes Go.ChangeAt Go.RowKit
open Ev (WRow)
set_option linter.unusedVariables false
set_option linter.unusedSimpArgs false
namespace Ev
noncomputable section
/-- what a run yields, how many names there are behind it, and what a look at its memory says -/
def outF {β : Type} (f : Mem → β) : Run → Option (AV × Nat × β)
  | some (o, H, n) => some (o.v, n, f H)
  | none => none
theorem calls_memF {β : Type} {P : Program} {A : Ass} {o : Orc} (ho : OrcOk P A o) {g : FuncId} {args : List AV} {H : Mem} {n : Nat} {v : AV} {n1 : Nat} {f : Mem → β} {b : β} (fuel d : Nat)
    (h : outF f ((evO P A o fuel d (.fn g) args).go H n) = some (v, n1, b)) {ρ : Val} {μ : Names} {B : Nat} {w : World} (hS : St ρ μ B H n w) (hA : A.has ρ) (xs : List Value) (hr : relL ρ μ args xs) :
    Calls P g xs.toArray w fun e w' => ∃ x μ1, e = .returned x ∧ rel ρ μ1 v x ∧ μ.le μ1 ∧ St ρ μ1 B (memOf ((evO P A o fuel d (.fn g) args).go H n)) n1 w' ∧
      f (memOf ((evO P A o fuel d (.fn g) args).go H n)) = b ∧ Below B w w' := by
  cases hg : (evO P A o fuel d (.fn g) args).go H n with
  | none => rw [hg] at h; cases h
  | some r =>
    obtain ⟨out, H1, n2⟩ := r
    rw [hg] at h
    have h3 := Option.some.inj h
    obtain rfl : out.v = v := congrArg (·.1) h3
    obtain rfl : n2 = n1 := congrArg (·.2.1) h3
    have hv : f H1 = b := congrArg (·.2.2) h3
    obtain ⟨l, hr'⟩ := AM.go_run _ _ _ [] _ _ _ hg
    obtain ⟨hle, q⟩ := evO_ok P A B ho fuel d (.fn g) args H n [] _ _ _ _ hr'
    refine (q ρ μ xs w hA hr hS.r hS.le (fun i hi _ => hS.no i hi)).mono fun e w1 he => ?_
    obtain ⟨x, μ1, rfl, hx, hs, hR, hb⟩ := he
    refine ⟨x, μ1, rfl, hx, hs.le, ⟨hR, fun i hi => ?_, Nat.le_trans hS.le hb.size⟩, hv, hb⟩
    rw [hs.same i (by omega)]; exact hS.no i (by omega)
/-- a row whose room is not known is one that may be written -/
theorem St.wrowS {ρ : Val} {μ : Names} {B : Nat} {H : Mem} {n : Nat} {w : World} (h : St ρ μ B H n w) {id len size : Nat} {v : Value} (hv : rel ρ μ (.rowS id 0 len size) v) {us : List AV} (hu : ∀ j u, us[j]? = some u → H.at id j = some u) (hl : us.length = len * size) (h0 : 0 < us.length) :
    ∃ xs b f c, v = .slice (some ⟨b, f, none⟩) len c ∧ μ id = some (b, f) ∧ WRow w B size v len xs ∧ relL ρ μ us xs := by
  obtain ⟨b, f, N, c, hg, rfl, hN, hlc, hcm⟩ := hv
  have hm : μ id = some (b, f) := Names.cell_of hg rfl
  obtain ⟨xs, p, q, s⟩ := h.r.cells1 hm us 0 (fun j u e => by rw [Nat.zero_add]; exact hu j u e)
  have hat : (H.at id 0).isSome = true := by
    rw [hu 0 _ (List.getElem?_eq_getElem h0)]; rfl
  have hpl := h.r.place id 0 _ hat hg
  obtain ⟨x, hB, _⟩ := h.cell (hu 0 _ (List.getElem?_eq_getElem h0)) hm
  refine ⟨xs, b, f, c, rfl, hm, ⟨by rw [← p.length, hl], .inr ⟨b, f, c, rfl, hB, h.r.lt id _ hg, hlc, hcm, fun j x hx => ?_, fun j hj => hpl.2 j (by omega)⟩⟩, p⟩
  have := q j x hx
  rw [add_at] at this
  simpa using this
/-- so is one whose room is all used -/
theorem St.wslice {ρ : Val} {μ : Names} {B : Nat} {H : Mem} {n : Nat} {w : World} (h : St ρ μ B H n w) {id len size : Nat} {v : Value} (hv : rel ρ μ (.slice id 0 len len) v) {us : List AV} (hu : ∀ j u, us[j]? = some u → H.at id j = some u) (hl : us.length = len * size) (h0 : 0 < us.length) (hm : len ≤ maxLen) :
    ∃ xs b f, v = .slice (some ⟨b, f, none⟩) len len ∧ μ id = some (b, f) ∧ WRow w B size v len xs ∧ relL ρ μ us xs := by
  obtain ⟨b, f, hm2, rfl⟩ := hv
  obtain ⟨xs, p, q, s⟩ := h.r.cells1 hm2 us 0 (fun j u e => by rw [Nat.zero_add]; exact hu j u e)
  obtain ⟨x, hB, _⟩ := h.cell (hu 0 _ (List.getElem?_eq_getElem h0)) hm2
  obtain ⟨pl, hg, ha⟩ := Names.at_get hm2
  have hlt : b < w.heap.size := by
    have := h.r.lt id _ hg
    rwa [Place.at_block ha] at this
  refine ⟨xs, b, f, rfl, hm2, ⟨by rw [← p.length, hl], .inr ⟨b, f, len, rfl, hB, hlt, Nat.le_refl _, hm, fun j x hx => ?_, fun j hj => ?_⟩⟩, p⟩
  · have := q j x hx
    rw [add_at] at this
    simpa using this
  · have hj2 : j < us.length := by omega
    obtain ⟨x, _, hc, _, hf⟩ := h.cell (hu j _ (List.getElem?_eq_getElem hj2)) hm2
    exact ⟨⟨x, hc⟩, hf⟩
theorem St.nb {ρ : Val} {μ : Names} {B : Nat} {H : Mem} {n : Nat} {w : World} (h : St ρ μ B H n w) {i o i' o' : Nat} {v v' : AV} (hv : H.at i o = some v) (hv' : H.at i' o' = some v') {b f b' f' : Nat} (hm : μ i = some (b, f)) (hm' : μ i' = some (b', f')) (hne : i ≠ i') : b ≠ b' := by
  obtain ⟨p, hg, ha⟩ := Names.at_get hm
  obtain ⟨p', hg', ha'⟩ := Names.at_get hm'
  have := h.ne hv hv' hg hg' hne
  rwa [Place.at_block ha, Place.at_block ha'] at this
theorem St.blt {ρ : Val} {μ : Names} {B : Nat} {H : Mem} {n : Nat} {w : World} (h : St ρ μ B H n w) {i b f : Nat} (hm : μ i = some (b, f)) : b < w.heap.size := by
  obtain ⟨p, hg, ha⟩ := Names.at_get hm
  have := h.r.lt i _ hg
  rwa [Place.at_block ha] at this
theorem relL_nums {ρ : Val} {μ : Names} : ∀ (ns : List Nat) (xs : List Value), relL ρ μ (ns.map fun j : Nat => .int .i64 (.lit (j : Int))) xs → xs = ns.map fun j : Nat => .int .i64 (j : Int)
  | [], xs, h => by
    cases xs with
    | nil => rfl
    | cons x xs => exact h.elim
  | a :: ns, xs, h => by
    cases xs with
    | nil => exact h.elim
    | cons x xs =>
      obtain ⟨h1, h2⟩ := h
      simp only [rel, SI.den] at h1
      rw [relL_nums ns xs h2, h1]; rfl
end
end Ev
noncomputable section
def scA : Ev.Ass := ⟨[], fun _ => True, spaceG⟩
theorem scHas : scA.has tabVal0 := ⟨(fun p hp => by cases hp), trivial, spaceG_ok _ _ _ _⟩
def sr1 : Ev.Run := (Ev.evO Tryz.prog scA Ev.noOrc 1000 30 (.fn 19) [.nilSlice]).go .e 0
def sr2 : Ev.Run := (Ev.evO Tryz.prog scA Ev.noOrc 1000 30 (.fn 18) []).go (Ev.memOf sr1) 119
def sr3 : Ev.Run := (Ev.evO Tryz.prog scA Ev.noOrc 1000 30 (.fn 17) [.ptr 2 0, .ptr 120 0]).go (Ev.memOf sr2) 121
/-- what is looked at of a new scope -/
def look3 (H : Ev.Mem) : (Option Ev.AV × Option Ev.AV × Option Ev.AV × Option Ev.AV) × (Option Ev.AV × Option Ev.AV) × List (Option Ev.AV) × Bool :=
  ((H.atP 125 1, H.atP 125 2, H.atP 125 3, H.atP 125 4), (H.atP 122 0, H.atP 122 1), (List.range 28).map (fun j => H.atP 265 j), (List.range 261).all fun j => (H.atP 267 j).isSome)
def seen3 : (Option Ev.AV × Option Ev.AV × Option Ev.AV × Option Ev.AV) × (Option Ev.AV × Option Ev.AV) × List (Option Ev.AV) × Bool :=
  ((some (.ptr 120 0), some (.rowS 267 0 29 9), some (.int .i64 (.lit 29)), some (.slice 122 0 2 2)), (some (.rowS 265 0 28 1), some .nilSlice), (List.range 28).map (fun j => some (.int .i64 (.lit ((j + 1 : Nat) : Int)))), true)
set_option maxRecDepth 1000000 in
theorem run1 : Ev.outF (fun _ => ()) sr1 = some (.ptr 2 0, 119, ()) := by kernel_rfl
set_option maxRecDepth 1000000 in
theorem run2 : Ev.outF (fun _ => ()) sr2 = some (.ptr 120 0, 121, ()) := by kernel_rfl
set_option maxRecDepth 1000000 in
theorem run3 : Ev.outF look3 sr3 = some (.ptr 125 0, 268, seen3) := by kernel_rfl
theorem scan_new (w : World) (hT : SpTab w) : Calls Tryz.prog 19 #[.slice none 0 0] w fun e w' => ∃ μ b f, e = .returned (.pointer (some ⟨b, f, none⟩)) ∧ Ev.St tabVal0 μ w.heap.size (Ev.memOf sr1) 119 w' ∧ μ 2 = some (b, f) ∧ Below w.heap.size w w' :=
  (Ev.calls_memF (Ev.noOrc_ok _ _) 1000 30 run1 (Ev.St.start tabVal0 w (tab_base hT _ _ _ _)) scHas [.slice none 0 0] ⟨rfl, trivial⟩).mono fun e w' he => by
    obtain ⟨x, μ, rfl, ⟨b, f, hm, rfl⟩, _, hS, _, hb⟩ := he
    exact ⟨μ, b, f, rfl, hS, hm, hb⟩
theorem types_new {μ : Ev.Names} {B : Nat} {w : World} (hS : Ev.St tabVal0 μ B (Ev.memOf sr1) 119 w) : Calls Tryz.prog 18 #[] w fun e w' => ∃ μ1 b f, e = .returned (.pointer (some ⟨b, f, none⟩)) ∧ μ.le μ1 ∧ Ev.St tabVal0 μ1 B (Ev.memOf sr2) 121 w' ∧ μ1 120 = some (b, f) ∧ Below B w w' :=
  (Ev.calls_memF (Ev.noOrc_ok _ _) 1000 30 run2 hS scHas [] trivial).mono fun e w' he => by
    obtain ⟨x, μ1, rfl, ⟨b, f, hm, rfl⟩, hle, hS, _, hb⟩ := he
    exact ⟨μ1, b, f, rfl, hle, hS, hm, hb⟩
set_option maxHeartbeats 1000000 in
theorem scope_new {μ : Ev.Names} {B b f b2 f2 : Nat} {w : World} (hS : Ev.St tabVal0 μ B (Ev.memOf sr2) 121 w) (hm : μ 2 = some (b, f)) (hm2 : μ 120 = some (b2, f2)) :
    Calls Tryz.prog 17 #[.pointer (some ⟨b, f, none⟩), .pointer (some ⟨b2, f2, none⟩)] w fun e w' => ∃ p o tv lv xs v0, e = .returned (.pointer (some ⟨p, o, none⟩)) ∧ Below B w w' ∧ ScAt w' B p o tv lv 29 xs [(v0, List.range' 1 28), (.slice none 0 0, [])] :=
  (Ev.calls_memF (Ev.noOrc_ok _ _) 1000 30 run3 hS scHas [.pointer (some ⟨b, f, none⟩), .pointer (some ⟨b2, f2, none⟩)] ⟨⟨b, f, hm, rfl⟩, ⟨b2, f2, hm2, rfl⟩, trivial⟩).mono fun e w' he => by
    obtain ⟨x, μ1, rfl, ⟨p, o, hp, rfl⟩, _, h3, hl, hb⟩ := he
    change look3 (Ev.memOf sr3) = seen3 at hl
    change Ev.St tabVal0 μ1 B (Ev.memOf sr3) 268 w' at h3
    generalize Ev.memOf sr3 = H at h3 hl
    have k1 : H.at 125 1 = some (.ptr 120 0) := by rw [← Ev.Mem.atP_eq]; exact congrArg (·.1.1) hl
    have k2 : H.at 125 2 = some (.rowS 267 0 29 9) := by rw [← Ev.Mem.atP_eq]; exact congrArg (·.1.2.1) hl
    have k3 : H.at 125 3 = some (.int .i64 (.lit 29)) := by rw [← Ev.Mem.atP_eq]; exact congrArg (·.1.2.2.1) hl
    have k4 : H.at 125 4 = some (.slice 122 0 2 2) := by rw [← Ev.Mem.atP_eq]; exact congrArg (·.1.2.2.2) hl
    have k5 : H.at 122 0 = some (.rowS 265 0 28 1) := by rw [← Ev.Mem.atP_eq]; exact congrArg (·.2.1.1) hl
    have k6 : H.at 122 1 = some .nilSlice := by rw [← Ev.Mem.atP_eq]; exact congrArg (·.2.1.2) hl
    have k7 : (List.range 28).map (fun j => H.atP 265 j) = (List.range 28).map (fun j => some (Ev.AV.int .i64 (.lit ((j + 1 : Nat) : Int)))) := congrArg (·.2.2.1) hl
    have k8 : ((List.range 261).all fun j => (H.atP 267 j).isSome) = true := congrArg (·.2.2.2) hl
    have k9 : ∀ j, j < 261 → (H.at 267 j).isSome = true := fun j hj => by rw [← Ev.Mem.atP_eq]; exact List.all_eq_true.1 k8 j (List.mem_range.2 hj)
    have k10 : ∀ j, j < 28 → H.at 265 j = some (.int .i64 (.lit ((j + 1 : Nat) : Int))) := fun j hj => by
      have := congrArg (·[j]?) k7
      simp only [List.getElem?_map, List.getElem?_range hj, Option.map_some] at this
      rw [← Ev.Mem.atP_eq]; exact Option.some.inj this
    obtain ⟨x1, hBp, c1, ⟨ta, tf0, _, e1⟩, _⟩ := h3.cell k1 hp
    obtain ⟨tv, _, c2, r2, z2⟩ := h3.cell k2 hp
    obtain ⟨x3, _, c3, r3, _⟩ := h3.cell k3 hp
    obtain ⟨lv, _, c4, r4, z4⟩ := h3.cell k4 hp
    have r3' : x3 = .int .i64 29 := r3
    subst r3' e1
    obtain ⟨xs, tb, tf, tc, rfl, hm267, hT, _⟩ := h3.wrowS r2 (us := (List.range 261).map fun j => (H.at 267 j).getD .any) (fun j u hu => by
      rw [List.getElem?_map] at hu
      obtain ⟨y, hy, rfl⟩ := Option.map_eq_some_iff.1 hu
      obtain ⟨hlt, rfl⟩ := List.getElem?_eq_some_iff.1 hy
      simp only [List.length_range] at hlt
      rw [List.getElem_range]
      have := k9 j hlt
      cases hh : H.at 267 j with
      | none => rw [hh] at this; cases this
      | some u => rfl) (by simp) (by simp)
    obtain ⟨ls, lb, lf, rfl, hm122, hL, hLr⟩ := h3.wslice r4 (us := [.rowS 265 0 28 1, .nilSlice]) (size := 1) (fun j u hu => by
      match j, hu with
      | 0, hu => obtain rfl := Option.some.inj hu; exact k5
      | 1, hu => obtain rfl := Option.some.inj hu; exact k6) rfl (by decide) (by decide)
    obtain ⟨y0, ls1, rfl, hr0, hls1⟩ : ∃ y0 ls1, ls = y0 :: ls1 ∧ Ev.rel tabVal0 μ1 (.rowS 265 0 28 1) y0 ∧ Ev.relL tabVal0 μ1 [.nilSlice] ls1 := by
      cases ls with
      | nil => exact hLr.elim
      | cons y ls1 => exact ⟨y, ls1, rfl, hLr.1, hLr.2⟩
    obtain rfl : ls1 = [.slice none 0 0] := by
      cases ls1 with
      | nil => exact hls1.elim
      | cons y l2 =>
        obtain ⟨e, h⟩ := hls1
        cases l2 with
        | nil => have e' : y = .slice none 0 0 := e; rw [e']
        | cons _ _ => exact h.elim
    obtain ⟨ys, vb, vf, vc, rfl, hm265, hV, hVr⟩ := h3.wrowS hr0 (us := (List.range' 1 28).map fun j : Nat => .int .i64 (.lit (j : Int))) (fun j u hu => by
      rw [List.getElem?_map] at hu
      obtain ⟨y, hy, rfl⟩ := Option.map_eq_some_iff.1 hu
      obtain ⟨hlt, rfl⟩ := List.getElem?_eq_some_iff.1 hy
      simp only [List.length_range'] at hlt
      rw [List.getElem_range', k10 j hlt]
      congr 3
      omega) (by simp) (by simp)
    obtain rfl := Ev.relL_nums _ _ hVr
    have n1 := h3.nb k2 (k10 0 (by omega)) hp hm265 (by omega)
    have n2 := h3.nb k2 k5 hp hm122 (by omega)
    obtain ⟨u0, hu0⟩ := Option.isSome_iff_exists.1 (k9 0 (by omega))
    have n3 := h3.nb k2 hu0 hp hm267 (by omega)
    have n4 := h3.nb hu0 (k10 0 (by omega)) hm267 hm265 (by omega)
    have n5 := h3.nb k5 (k10 0 (by omega)) hm122 hm265 (by omega)
    have n6 := h3.nb hu0 k5 hm267 hm122 (by omega)
    refine ⟨p, o, _, _, xs, _, rfl, hb, ⟨⟨_, c1⟩, c2, z2, c3, c4, z4, hT, hL, fun i v ns hi => ?_, fun i j v ns v' ns' hij hi hj => ?_, fun e => n3 (Option.some.inj e).symm, fun e => n2 (Option.some.inj e).symm, fun e => n6 (Option.some.inj e), hBp, h3.blt hp, by omega, by omega, by simp, by simp⟩⟩
    · match i, hi with
      | 0, hi =>
        cases hi
        exact ⟨hV, fun e => n1 (Option.some.inj e).symm, .inr (fun e => n4 (Option.some.inj e).symm), .inr (fun e => n5 (Option.some.inj e).symm)⟩
      | 1, hi =>
        cases hi
        exact ⟨⟨rfl, .inl ⟨rfl, rfl⟩⟩, by simp [Value.ownBlock], .inl rfl, .inl rfl⟩
    · match i, j, hi, hj with
      | 0, 0, _, _ => exact absurd rfl hij
      | 1, _, hi, _ => cases hi; exact .inl rfl
      | 0, 1, hi, hj => cases hi; cases hj; right; simp [Value.ownBlock]
end
end Go.Proofs.YtdoegipkfjndbaaGreatDoor
