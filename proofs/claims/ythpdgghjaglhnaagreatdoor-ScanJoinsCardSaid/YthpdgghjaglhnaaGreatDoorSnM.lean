/-
  A new scanner: the words that it begins with.
-/
import Derived.Test.YthpdgghjaglhnaaGreatDoorSnL
import Derived.Test.YthpdgghjaglhnaaGreatDoorOwnA
namespace Go.Proofs.YthpdgghjaglhnaaGreatDoor
open Go.ChangeShapes Go.WideShapes Go.ChangeAt Go.RowKit
open Ev (WRow)
set_option linter.unusedVariables false
set_option linter.unusedSimpArgs false
namespace Ev
noncomputable section
/-- what a run yields, how many names there are behind it, and what a look at its memory says -/
def outF {β : Type} (f : Mem → β) : Run → Option (AV × Nat × β)
  | some (o, H, n) => some (o.v, n, f H)
  | none => none
theorem calls_memF {β : Type} {P : Program} {A : Ass} {o : Orc} (ho : OrcOk P A o) {g : FuncId} {args : List AV} {H : Mem} {n : Nat} {v : AV} {n1 : Nat} {f : Mem → β} {b : β} (fuel d : Nat)
    (h : outF f ((evO P A o fuel d (.fn g) args).go H n) = some (v, n1, b)) {ρ : Val} {μ : Names} {B : Nat} {w : World} (hS : St ρ μ B H n w) (hA : A.has ρ) (xs : List Value) (hr : relL ρ μ args xs) :
    Calls P g xs.toArray w fun e w' => ∃ x μ1, e = .returned x ∧ rel ρ μ1 v x ∧ μ.le μ1 ∧ St ρ μ1 B (memOf ((evO P A o fuel d (.fn g) args).go H n)) n1 w' ∧
      f (memOf ((evO P A o fuel d (.fn g) args).go H n)) = b ∧ Below B w w' := by
  cases hg : (evO P A o fuel d (.fn g) args).go H n with
  | none => rw [hg] at h; cases h
  | some r =>
    obtain ⟨out, H1, n2⟩ := r
    rw [hg] at h
    have h3 := Option.some.inj h
    obtain rfl : out.v = v := congrArg (·.1) h3
    obtain rfl : n2 = n1 := congrArg (·.2.1) h3
    have hv : f H1 = b := congrArg (·.2.2) h3
    obtain ⟨l, hr'⟩ := AM.go_run _ _ _ [] _ _ _ hg
    obtain ⟨hle, q⟩ := evO_ok P A B ho fuel d (.fn g) args H n [] _ _ _ _ hr'
    refine (q ρ μ xs w hA hr hS.r hS.le (fun i hi _ => hS.no i hi)).mono fun e w1 he => ?_
    obtain ⟨x, μ1, rfl, hx, hs, hR, hb⟩ := he
    refine ⟨x, μ1, rfl, hx, hs.le, ⟨hR, fun i hi => ?_, Nat.le_trans hS.le hb.size⟩, hv, hb⟩
    rw [hs.same i (by omega)]; exact hS.no i (by omega)
/-- a row whose room is not known is one that may be written -/
theorem St.wrowS {ρ : Val} {μ : Names} {B : Nat} {H : Mem} {n : Nat} {w : World} (h : St ρ μ B H n w) {id len size : Nat} {v : Value} (hv : rel ρ μ (.rowS id 0 len size) v) {us : List AV} (hu : ∀ j u, us[j]? = some u → H.at id j = some u) (hl : us.length = len * size) (h0 : 0 < us.length) :
    ∃ xs b f c, v = .slice (some ⟨b, f, none⟩) len c ∧ μ id = some (b, f) ∧ WRow w B size v len xs ∧ relL ρ μ us xs := by
  obtain ⟨b, f, N, c, hg, rfl, hN, hlc, hcm⟩ := hv
  have hm : μ id = some (b, f) := Names.cell_of hg rfl
  obtain ⟨xs, p, q, s⟩ := h.r.cells1 hm us 0 (fun j u e => by rw [Nat.zero_add]; exact hu j u e)
  have hat : (H.at id 0).isSome = true := by
    rw [hu 0 _ (List.getElem?_eq_getElem h0)]; rfl
  have hpl := h.r.place id 0 _ hat hg
  obtain ⟨x, hB, _⟩ := h.cell (hu 0 _ (List.getElem?_eq_getElem h0)) hm
  refine ⟨xs, b, f, c, rfl, hm, ⟨by rw [← p.length, hl], .inr ⟨b, f, c, rfl, hB, h.r.lt id _ hg, hlc, hcm, fun j x hx => ?_, fun j hj => hpl.2 j (by omega)⟩⟩, p⟩
  have := q j x hx
  rw [add_at] at this
  simpa using this
/-- so is one whose room is all used -/
theorem St.wslice {ρ : Val} {μ : Names} {B : Nat} {H : Mem} {n : Nat} {w : World} (h : St ρ μ B H n w) {id len size : Nat} {v : Value} (hv : rel ρ μ (.slice id 0 len len) v) {us : List AV} (hu : ∀ j u, us[j]? = some u → H.at id j = some u) (hl : us.length = len * size) (h0 : 0 < us.length) (hm : len ≤ maxLen) :
    ∃ xs b f, v = .slice (some ⟨b, f, none⟩) len len ∧ μ id = some (b, f) ∧ WRow w B size v len xs ∧ relL ρ μ us xs := by
  obtain ⟨b, f, hm2, rfl⟩ := hv
  obtain ⟨xs, p, q, s⟩ := h.r.cells1 hm2 us 0 (fun j u e => by rw [Nat.zero_add]; exact hu j u e)
  obtain ⟨x, hB, _⟩ := h.cell (hu 0 _ (List.getElem?_eq_getElem h0)) hm2
  obtain ⟨pl, hg, ha⟩ := Names.at_get hm2
  have hlt : b < w.heap.size := by
    have := h.r.lt id _ hg
    rwa [Place.at_block ha] at this
  refine ⟨xs, b, f, rfl, hm2, ⟨by rw [← p.length, hl], .inr ⟨b, f, len, rfl, hB, hlt, Nat.le_refl _, hm, fun j x hx => ?_, fun j hj => ?_⟩⟩, p⟩
  · have := q j x hx
    rw [add_at] at this
    simpa using this
  · have hj2 : j < us.length := by omega
    obtain ⟨x, _, hc, _, hf⟩ := h.cell (hu j _ (List.getElem?_eq_getElem hj2)) hm2
    exact ⟨⟨x, hc⟩, hf⟩
theorem St.nb {ρ : Val} {μ : Names} {B : Nat} {H : Mem} {n : Nat} {w : World} (h : St ρ μ B H n w) {i o i' o' : Nat} {v v' : AV} (hv : H.at i o = some v) (hv' : H.at i' o' = some v') {b f b' f' : Nat} (hm : μ i = some (b, f)) (hm' : μ i' = some (b', f')) (hne : i ≠ i') : b ≠ b' := by
  obtain ⟨p, hg, ha⟩ := Names.at_get hm
  obtain ⟨p', hg', ha'⟩ := Names.at_get hm'
  have := h.ne hv hv' hg hg' hne
  rwa [Place.at_block ha, Place.at_block ha'] at this
theorem St.blt {ρ : Val} {μ : Names} {B : Nat} {H : Mem} {n : Nat} {w : World} (h : St ρ μ B H n w) {i b f : Nat} (hm : μ i = some (b, f)) : b < w.heap.size := by
  obtain ⟨p, hg, ha⟩ := Names.at_get hm
  have := h.r.lt i _ hg
  rwa [Place.at_block ha] at this
theorem relL_nums {ρ : Val} {μ : Names} : ∀ (ns : List Nat) (xs : List Value), relL ρ μ (ns.map fun j : Nat => .int .i64 (.lit (j : Int))) xs → xs = ns.map fun j : Nat => .int .i64 (j : Int)
  | [], xs, h => by
    cases xs with
    | nil => rfl
    | cons x xs => exact h.elim
  | a :: ns, xs, h => by
    cases xs with
    | nil => exact h.elim
    | cons x xs =>
      obtain ⟨h1, h2⟩ := h
      simp only [rel, SI.den] at h1
      rw [relL_nums ns xs h2, h1]; rfl
end
end Ev
def kwN : List Nat := [65, 82, 82, 65, 89, 32, 66, 69, 71, 73, 78, 32, 67, 79, 78, 83, 84, 32, 68, 73, 86, 32, 68, 79, 32, 69, 76, 83, 69, 32, 69, 76, 83, 73, 70, 32, 69, 78, 68, 32, 70, 65, 76, 83, 69, 32, 73, 70, 32, 73, 77, 80, 79, 82, 84, 32, 73, 78, 32, 77, 79, 68, 32, 77, 79, 68, 85, 76, 69, 32, 78, 73, 76, 32, 79, 70, 32, 79, 82, 32, 80, 79, 73, 78, 84, 69, 82, 32, 80, 82, 79, 67, 69, 68, 85, 82, 69, 32, 82, 69, 67, 79, 82, 68, 32, 82, 69, 80, 69, 65, 84, 32, 82, 69, 84, 85, 82, 78, 32, 84, 72, 69, 78, 32, 84, 79, 32, 84, 82, 85, 69, 32, 84, 89, 80, 69, 32, 85, 78, 84, 73, 76, 32, 86, 65, 82, 32, 87, 72, 73, 76, 69]
def pdN : List Nat := [73, 78, 84, 69, 71, 69, 82, 32, 66, 79, 79, 76, 69, 65, 78, 32, 67, 72, 65, 82, 32, 66, 89, 84, 69, 32, 83, 69, 84, 32, 65, 66, 83, 32, 79, 68, 68, 32, 79, 82, 68, 32, 67, 72, 82, 32, 76, 83, 76, 32, 65, 83, 82, 32, 76, 69, 78, 32, 79, 76, 68, 32, 70, 82, 69, 83, 72, 32, 69, 79, 70, 32, 76, 69, 78, 71, 84, 72, 32, 73, 78, 67, 32, 68, 69, 67, 32, 78, 69, 87, 32, 65, 83, 83, 69, 82, 84, 32, 72, 65, 76, 84, 32, 82, 69, 65, 68, 32, 87, 82, 73, 84, 69, 32, 82, 69, 65, 68, 87, 32, 87, 82, 73, 84, 69, 87, 32, 83, 69, 69, 75, 32, 82, 69, 71, 73, 83, 84, 69, 82, 32, 68, 69, 76, 69, 84, 69]
def kwL : List (List UInt8) := [[65, 82, 82, 65, 89], [66, 69, 71, 73, 78], [67, 79, 78, 83, 84], [68, 73, 86], [68, 79], [69, 76, 83, 69], [69, 76, 83, 73, 70], [69, 78, 68], [70, 65, 76, 83, 69], [73, 70], [73, 77, 80, 79, 82, 84], [73, 78], [77, 79, 68], [77, 79, 68, 85, 76, 69], [78, 73, 76], [79, 70], [79, 82], [80, 79, 73, 78, 84, 69, 82], [80, 82, 79, 67, 69, 68, 85, 82, 69], [82, 69, 67, 79, 82, 68], [82, 69, 80, 69, 65, 84], [82, 69, 84, 85, 82, 78], [84, 72, 69, 78], [84, 79], [84, 82, 85, 69], [84, 89, 80, 69], [85, 78, 84, 73, 76], [86, 65, 82], [87, 72, 73, 76, 69]]
def pdL : List (List UInt8) := [[73, 78, 84, 69, 71, 69, 82], [66, 79, 79, 76, 69, 65, 78], [67, 72, 65, 82], [66, 89, 84, 69], [83, 69, 84], [65, 66, 83], [79, 68, 68], [79, 82, 68], [67, 72, 82], [76, 83, 76], [65, 83, 82], [76, 69, 78], [79, 76, 68], [70, 82, 69, 83, 72], [69, 79, 70], [76, 69, 78, 71, 84, 72], [73, 78, 67], [68, 69, 67], [78, 69, 87], [65, 83, 83, 69, 82, 84], [72, 65, 76, 84], [82, 69, 65, 68], [87, 82, 73, 84, 69], [82, 69, 65, 68, 87], [87, 82, 73, 84, 69, 87], [83, 69, 69, 75], [82, 69, 71, 73, 83, 84, 69, 82], [68, 69, 76, 69, 84, 69]]
def wsL : List (List UInt8) := kwL ++ pdL
def kwB : ByteArray := { data := (([65, 82, 82, 65, 89, 32, 66, 69, 71, 73, 78, 32, 67, 79, 78, 83, 84, 32, 68, 73, 86, 32, 68, 79, 32, 69, 76, 83, 69, 32, 69, 76, 83, 73, 70, 32, 69, 78].append [68, 32, 70, 65, 76, 83, 69, 32, 73, 70, 32, 73, 77, 80, 79, 82, 84, 32, 73, 78, 32, 77, 79, 68, 32, 77, 79, 68, 85, 76, 69, 32, 78, 73, 76, 32, 79, 70]).append ([32, 79, 82, 32, 80, 79, 73, 78, 84, 69, 82, 32, 80, 82, 79, 67, 69, 68, 85, 82, 69, 32, 82, 69, 67, 79, 82, 68, 32, 82, 69, 80, 69, 65, 84, 32, 82, 69].append [84, 85, 82, 78, 32, 84, 72, 69, 78, 32, 84, 79, 32, 84, 82, 85, 69, 32, 84, 89, 80, 69, 32, 85, 78, 84, 73, 76, 32, 86, 65, 82, 32, 87, 72, 73, 76, 69])).toArray }
def pdB : ByteArray := { data := (([73, 78, 84, 69, 71, 69, 82, 32, 66, 79, 79, 76, 69, 65, 78, 32, 67, 72, 65, 82, 32, 66, 89, 84, 69, 32, 83, 69, 84, 32, 65, 66, 83, 32, 79, 68].append [68, 32, 79, 82, 68, 32, 67, 72, 82, 32, 76, 83, 76, 32, 65, 83, 82, 32, 76, 69, 78, 32, 79, 76, 68, 32, 70, 82, 69, 83, 72, 32, 69, 79, 70, 32, 76]).append ([69, 78, 71, 84, 72, 32, 73, 78, 67, 32, 68, 69, 67, 32, 78, 69, 87, 32, 65, 83, 83, 69, 82, 84, 32, 72, 65, 76, 84, 32, 82, 69, 65, 68, 32, 87, 82].append [73, 84, 69, 32, 82, 69, 65, 68, 87, 32, 87, 82, 73, 84, 69, 87, 32, 83, 69, 69, 75, 32, 82, 69, 71, 73, 83, 84, 69, 82, 32, 68, 69, 76, 69, 84, 69])).toArray }
theorem kwB_eq : kwB = Ev.bytesOf kwN := by kernel_rfl
theorem pdB_eq : pdB = Ev.bytesOf pdN := by kernel_rfl
theorem bytesOf_bs (l : List UInt8) : Ev.bytesOf (l.map (·.toNat)) = bs l := by
  unfold Ev.bytesOf bs
  have h : (l.map (·.toNat)).map UInt8.ofNat = l := by
    rw [List.map_map]
    conv => rhs; rw [← List.map_id l]
    exact List.map_congr_left fun c _ => by simp
  rw [h]
noncomputable section
def scA : Ev.Ass := ⟨[], fun _ => True, spaceG⟩
theorem scHas : scA.has tabVal0 := ⟨(fun p hp => by cases hp), trivial, spaceG_ok _ _ _ _⟩
def kwV : List Ev.AV := [.str [65, 82, 82, 65, 89], .str [66, 69, 71, 73, 78], .str [67, 79, 78, 83, 84], .str [68, 73, 86], .str [68, 79], .str [69, 76, 83, 69], .str [69, 76, 83, 73, 70], .str [69, 78, 68], .str [70, 65, 76, 83, 69], .str [73, 70], .str [73, 77, 80, 79, 82, 84], .str [73, 78], .str [77, 79, 68], .str [77, 79, 68, 85, 76, 69], .str [78, 73, 76], .str [79, 70], .str [79, 82], .str [80, 79, 73, 78, 84, 69, 82], .str [80, 82, 79, 67, 69, 68, 85, 82, 69], .str [82, 69, 67, 79, 82, 68], .str [82, 69, 80, 69, 65, 84], .str [82, 69, 84, 85, 82, 78], .str [84, 72, 69, 78], .str [84, 79], .str [84, 82, 85, 69], .str [84, 89, 80, 69], .str [85, 78, 84, 73, 76], .str [86, 65, 82], .str [87, 72, 73, 76, 69]]
def fldkw : Ev.Run := (Ev.evO Tryz.prog scA Ev.noOrc 1000 30 (.fn 14) [.str kwN]).go .e 0
set_option maxRecDepth 1000000 in
theorem runkw : Ev.outF (fun H => (List.range 29).map (H.atP 0)) fldkw = some (.slice 0 0 29 29, 1, kwV.map some) := by kernel_rfl
set_option maxRecDepth 100000 in
theorem fields_kw (w : World) (hT : SpTab w) : Calls Tryz.prog 14 #[.string kwB] w fun e w' => ∃ b f, e = .returned (.slice (some ⟨b, f, none⟩) 29 29) ∧ (∀ j l, kwL[j]? = some l → w'.cell? ⟨b, f + j, none⟩ = some (.string (bs l))) ∧ w.heap.size ≤ b ∧ b < w'.heap.size ∧ Below w.heap.size w w' :=
  (Ev.calls_memF (Ev.noOrc_ok _ _) 1000 30 runkw (Ev.St.start tabVal0 w (tab_base hT _ _ _ _)) scHas [.string kwB] ⟨⟨by decide, congrArg Value.string kwB_eq⟩, trivial⟩).mono fun e w' he => by
    obtain ⟨x, μ, rfl, ⟨b, f, hm, rfl⟩, _, hS, hl, hb⟩ := he
    change (List.range 29).map ((Ev.memOf fldkw).atP 0) = kwV.map some at hl
    have hS : Ev.St tabVal0 μ w.heap.size (Ev.memOf fldkw) 1 w' := hS
    generalize Ev.memOf fldkw = H at hl hS
    have hat : ∀ j v, kwV[j]? = some v → H.at 0 j = some v := fun j v hv => by
      have hj : j < 29 := (List.getElem?_eq_some_iff.1 hv).1
      have := congrArg (·[j]?) hl
      simp only [List.getElem?_map, List.getElem?_range hj, Option.map_some, hv] at this
      rw [← Ev.Mem.atP_eq]; exact Option.some.inj this
    refine ⟨b, f, rfl, fun j l hj => ?_, ?_, hS.blt hm, hb⟩
    · have hv : kwV[j]? = some (.str (l.map (·.toNat))) := by
        rw [show kwV = kwL.map (fun l => Ev.AV.str (l.map (·.toNat))) from rfl, List.getElem?_map, hj]; rfl
      obtain ⟨y, _, hc, hr, _⟩ := hS.cell (hat j _ hv) hm
      rw [hc]
      obtain ⟨_, e⟩ := hr
      rw [e, bytesOf_bs]
    · obtain ⟨y, hB, _⟩ := hS.cell (hat 0 _ rfl) hm
      exact hB
def pdV : List Ev.AV := [.str [73, 78, 84, 69, 71, 69, 82], .str [66, 79, 79, 76, 69, 65, 78], .str [67, 72, 65, 82], .str [66, 89, 84, 69], .str [83, 69, 84], .str [65, 66, 83], .str [79, 68, 68], .str [79, 82, 68], .str [67, 72, 82], .str [76, 83, 76], .str [65, 83, 82], .str [76, 69, 78], .str [79, 76, 68], .str [70, 82, 69, 83, 72], .str [69, 79, 70], .str [76, 69, 78, 71, 84, 72], .str [73, 78, 67], .str [68, 69, 67], .str [78, 69, 87], .str [65, 83, 83, 69, 82, 84], .str [72, 65, 76, 84], .str [82, 69, 65, 68], .str [87, 82, 73, 84, 69], .str [82, 69, 65, 68, 87], .str [87, 82, 73, 84, 69, 87], .str [83, 69, 69, 75], .str [82, 69, 71, 73, 83, 84, 69, 82], .str [68, 69, 76, 69, 84, 69]]
def fldpd : Ev.Run := (Ev.evO Tryz.prog scA Ev.noOrc 1000 30 (.fn 14) [.str pdN]).go .e 0
set_option maxRecDepth 1000000 in
theorem runpd : Ev.outF (fun H => (List.range 28).map (H.atP 0)) fldpd = some (.slice 0 0 28 28, 1, pdV.map some) := by kernel_rfl
set_option maxRecDepth 100000 in
theorem fields_pd (w : World) (hT : SpTab w) : Calls Tryz.prog 14 #[.string pdB] w fun e w' => ∃ b f, e = .returned (.slice (some ⟨b, f, none⟩) 28 28) ∧ (∀ j l, pdL[j]? = some l → w'.cell? ⟨b, f + j, none⟩ = some (.string (bs l))) ∧ w.heap.size ≤ b ∧ b < w'.heap.size ∧ Below w.heap.size w w' :=
  (Ev.calls_memF (Ev.noOrc_ok _ _) 1000 30 runpd (Ev.St.start tabVal0 w (tab_base hT _ _ _ _)) scHas [.string pdB] ⟨⟨by decide, congrArg Value.string pdB_eq⟩, trivial⟩).mono fun e w' he => by
    obtain ⟨x, μ, rfl, ⟨b, f, hm, rfl⟩, _, hS, hl, hb⟩ := he
    change (List.range 28).map ((Ev.memOf fldpd).atP 0) = pdV.map some at hl
    have hS : Ev.St tabVal0 μ w.heap.size (Ev.memOf fldpd) 1 w' := hS
    generalize Ev.memOf fldpd = H at hl hS
    have hat : ∀ j v, pdV[j]? = some v → H.at 0 j = some v := fun j v hv => by
      have hj : j < 28 := (List.getElem?_eq_some_iff.1 hv).1
      have := congrArg (·[j]?) hl
      simp only [List.getElem?_map, List.getElem?_range hj, Option.map_some, hv] at this
      rw [← Ev.Mem.atP_eq]; exact Option.some.inj this
    refine ⟨b, f, rfl, fun j l hj => ?_, ?_, hS.blt hm, hb⟩
    · have hv : pdV[j]? = some (.str (l.map (·.toNat))) := by
        rw [show pdV = pdL.map (fun l => Ev.AV.str (l.map (·.toNat))) from rfl, List.getElem?_map, hj]; rfl
      obtain ⟨y, _, hc, hr, _⟩ := hS.cell (hat j _ hv) hm
      rw [hc]
      obtain ⟨_, e⟩ := hr
      rw [e, bytesOf_bs]
    · obtain ⟨y, hB, _⟩ := hS.cell (hat 0 _ rfl) hm
      exact hB
end
theorem wsL_nodup : wsL.Nodup := by decide
theorem wsL_len : wsL.length = 57 := rfl
theorem wsL_15 : ∀ l ∈ wsL, l.length ≤ 15 := by decide
theorem ws_new {i : Nat} {l : List UInt8} (h : wsL[i]? = some l) : l ∉ wsL.take i := by
  obtain ⟨hi, rfl⟩ := List.getElem?_eq_some_iff.1 h
  intro hm
  obtain ⟨j, hj, e⟩ := List.getElem_of_mem hm
  have hj2 : j < i := by rw [List.length_take] at hj; omega
  rw [List.getElem_take] at e
  exact List.pairwise_iff_getElem.1 wsL_nodup j i (by omega) hi hj2 e
theorem ws_succ {i : Nat} {l : List UInt8} (h : wsL[i]? = some l) : wsL.take (i + 1) = wsL.take i ++ [l] := by
  obtain ⟨hi, rfl⟩ := List.getElem?_eq_some_iff.1 h
  exact List.take_succ_eq_append_getElem hi
/-- a scanner that knows the first words -/
def wsF (i : Nat) (kw : Int) : Sn := { src := [], at_ := 0, sym := 0, pos := 0, val := 0, id := 0, txt := bs [], code := 0, epos := 0, nms := wsL.take i, kw := kw }
/-- a new one -/
def newF (zs : List Int) : Sn := if 65535 < zs.length then markF (wsF 57 29) 60 0 else getF { wsF 57 29 with src := zs }
theorem SnAt.made {w : World} {B p ib gb : Nat} {V : World} (hp : p = V.heap.size) (hpi : ib < V.heap.size) (hpg : gb < V.heap.size) (hig : gb ≠ ib) (hi : V.ownsMap Tryz.prog 9 sheld ib 0 (.map [])) (hg : V.ownsMap Tryz.prog 5 sheld gb 21 sgD) (hBi : B ≤ ib) (hBg : B ≤ gb) {t : TypeId} :
    SnAt (V.alloc (.cells #[.slice none 0 0, .int .i64 0, .int .i64 0, .int .i64 0, .int .i32 0, .int .i64 0, .string (bs []), .int .i64 0, .int .i64 0, .slice none 0 0, .map (some ib), .int .i64 0, .map (some gb)] t)) B ⟨p, .slice none 0 0, .slice none 0 0, ib, gb⟩ (wsF 0 0) := by
  subst hp
  have hn := heap_alloc_new V (.cells #[.slice none 0 0, .int .i64 0, .int .i64 0, .int .i64 0, .int .i32 0, .int .i64 0, .string (bs []), .int .i64 0, .int .i64 0, .slice none 0 0, .map (some ib), .int .i64 0, .map (some gb)] t)
  have hc := World.news_of_block hn
  have hold : ∀ k, k < V.heap.size → (V.alloc (.cells #[.slice none 0 0, .int .i64 0, .int .i64 0, .int .i64 0, .int .i32 0, .int .i64 0, .string (bs []), .int .i64 0, .int .i64 0, .slice none 0 0, .map (some ib), .int .i64 0, .map (some gb)] t)).heap[k]? = V.heap[k]? := fun k hk => heap_alloc_old V _ hk
  refine ⟨by show B ≤ V.heap.size; omega, by simp, fun j v hv => ?_, fun j hj => ⟨?_, World.frozen?_alloc_new V _ _ _⟩, ⟨rfl, .inl ⟨rfl, rfl⟩⟩, ⟨rfl, .inl ⟨rfl, rfl⟩⟩, ⟨.map [], ownsMap_below hi (hold _ hpi), fun l => by simp [Maps.has, wsF], fun l hl => by simp [wsF] at hl⟩, ⟨sgD, ownsMap_below hg (hold _ hpg), sgD_ok⟩, hBi, hBg, by simp [Value.ownBlock], by simp [Value.ownBlock], .inl rfl, by show ib ≠ V.heap.size; omega, by simp [Value.ownBlock], by simp [Value.ownBlock], by show gb ≠ V.heap.size; omega, hig, by simp [Value.ownBlock], by simp [Value.ownBlock], by simp [wsF], by simp [wsF], by simp [wsF], by simp [wsF], by simp [wsF], Nat.le_refl _⟩
  · rw [← hc j v hv, Ev.add_at]
  · have hj2 : j < (snL ⟨V.heap.size, .slice none 0 0, .slice none 0 0, ib, gb⟩ (wsF 0 0)).length := hj
    have := hc j _ (List.getElem?_eq_getElem hj2)
    rw [Ev.add_at] at this
    rw [this]; rfl
theorem ownsRow_wrow {w : World} {B sz n : Nat} {e : TypeId} {v : Value} {xs : List Value} (h : w.ownsRow B e sz v n xs) : WRow w B sz v n xs := by
  refine ⟨h.1, ?_⟩
  rcases h.2 with hn | ⟨g, cap, cur, rfl, hb, hg, h1, h2, h3, h4⟩
  · exact .inl hn
  · have hlt : g < w.heap.size := (Array.getElem?_eq_some_iff.1 hg).1
    refine .inr ⟨g, 0, cap, rfl, hb, hlt, h1, h2, fun j x hx => ?_, fun j hj => ?_⟩
    · rw [Nat.zero_add, cell_of_row w g j cur _ (0, 0) hg, ← Array.getElem?_toList]
      rw [← h4, List.getElem?_take] at hx
      split at hx
      · exact hx
      · cases hx
    · rw [Nat.zero_add]
      refine ⟨⟨cur[j]'(by omega), ?_⟩, ?_⟩
      · rw [cell_of_row w g j cur _ (0, 0) hg, Array.getElem?_eq_getElem (by omega)]
      · simp [World.frozen?, hg]
/-- the source is laid in -/
theorem SnAt.sourced {w w2 : World} {B : Nat} {q : Sp} {s : Sn} (h : SnAt w B q s) (hq : q.sv = .slice none 0 0) (zs : List Int) (hz : zs.length ≤ 65535) (hb : ∀ x ∈ zs, 0 ≤ x ∧ x < 256) {v : Value} (hr : WRow w2 w.heap.size 1 v zs.length (zs.map fun x => .int .u8 x)) (hg : w.grownBy w2 none) (hat : s.at_ = 0) (hB : B ≤ w.heap.size) :
    SnAt (w2.setCell ⟨q.p, 0, none⟩ v) B { q with sv := v } { s with src := zs } ∧ Below B w (w2.setCell ⟨q.p, 0, none⟩ v) := by
  have K : ∀ k, k < w.heap.size → w2.heap[k]? = w.heap[k]? := fun k hk => hg.block k hk (by simp)
  have hbl : ∀ k, k ≠ q.p → (w2.setCell ⟨q.p, 0, none⟩ v).heap[k]? = w2.heap[k]? := fun k hk => Below.heap_setCell _ _ _ _ hk
  have kp := K q.p h.lt
  have e1 : ∀ i, w2.cell? ⟨q.p, i, none⟩ = w.cell? ⟨q.p, i, none⟩ := fun i => World.cell?_of_block kp
  have e3 : ∀ i, w2.frozen? ⟨q.p, i, none⟩ = w.frozen? ⟨q.p, i, none⟩ := fun i => World.frozen?_of_block kp
  have far : ∀ k, k < w.heap.size → v.ownBlock ≠ some k := fun k hk e => by have := (hr.lt k e).1; omega
  have hlt := h.lt
  have hli := h.li
  have hlg := h.lg
  have s1 := hg.size
  obtain ⟨D, d1, d2⟩ := h.ids
  obtain ⟨D', d3, d4⟩ := h.sgn
  have row : ∀ {B' n : Nat} {v' : Value} {xs : List Value}, WRow w B' 1 v' n xs → v'.ownBlock ≠ some q.p → WRow (w2.setCell ⟨q.p, 0, none⟩ v) B' 1 v' n xs := by
    intro B' n v' xs hr hz
    refine WRow.other ⟨hr.1, ?_⟩ _ hz
    rcases hr.2 with hn | ⟨b, f, c, rfl, hb, hl, h1, h2, h3, h4⟩
    · exact .inl hn
    · have hk2 := K b hl
      exact .inr ⟨b, f, c, rfl, hb, by omega, h1, h2, fun j x hx => by rw [World.cell?_of_block (w := w) hk2]; exact h3 j x hx, fun j hj => by rw [World.cell?_of_block (w := w) hk2, World.frozen?_of_block (w := w) hk2]; exact h4 j hj⟩
  have hvp := far _ hlt
  refine ⟨⟨h.bp, by rw [snsize_setCell]; show q.p < _; omega, fun j u hu => ?_, fun j hj => ?_, ?_, row h.nms h.np, ⟨D, ownsMap_below d1 (by rw [hbl _ h.ip]; exact K _ hli), d2⟩, ⟨D', ownsMap_below d3 (by rw [hbl _ h.gp]; exact K _ hlg), d4⟩, h.bi, h.bg, hvp, h.np, ?_, h.ip, far _ hli, h.ni, h.gp, h.gi, far _ hlg, h.ng, h.nd, h.n1, h.ns, hz, hb, by show s.at_ ≤ _; omega⟩, ⟨?_, ?_, ?_, ?_, fun k hk => ?_⟩⟩
  · rw [Nat.zero_add]
    by_cases hj : j = 0
    · subst hj
      have hv2 : v = u := Option.some.inj hu
      rw [← hv2]
      exact World.cell?_setCell_same _ _ _ (by rw [e1]; exact h.c0)
    · rw [World.cell?_setCell_other _ _ _ _ (fun e => hj (by injection e with _ e2 _; omega)), e1]
      refine h.c j u ?_
      match j, hu with
      | 1, hv | 2, hv | 3, hv | 4, hv | 5, hv | 6, hv | 7, hv | 8, hv | 9, hv | 10, hv | 11, hv | 12, hv => exact hv
      | 0, hv => exact absurd rfl hj
      | n + 13, hv => cases hv
  · have hj2 := h.bt j hj
    rw [Nat.zero_add] at *
    refine ⟨?_, by rw [World.frozen?_setCell, e3]; exact hj2.2⟩
    by_cases hj9 : j = 0
    · subst hj9
      rw [World.cell?_setCell_same _ _ _ (by rw [e1]; exact h.c0)]; rfl
    · rw [World.cell?_setCell_other _ _ _ _ (fun e => hj9 (by injection e with _ e2 _; omega)), e1]; exact hj2.1
  · have := hr.other (b := q.p) (o := 0) v hvp
    refine ⟨this.1, ?_⟩
    rcases this.2 with hn | ⟨b, f, c, e, hb, hl, h1, h2, h3, h4⟩
    · exact .inl hn
    · exact .inr ⟨b, f, c, e, by omega, hl, h1, h2, h3, h4⟩
  · cases hv : v.ownBlock with
    | none => exact .inl rfl
    | some k =>
      right
      intro e
      have h1 := (hr.lt k hv).1
      have h2 := (h.nms.lt k e.symm).2
      omega
  · exact hg.os
  · exact hg.tape
  · exact hg.output
  · rw [snsize_setCell]; omega
  · rw [hbl _ (by have := h.bp; omega)]; exact K k (by omega)
end Go.Proofs.YthpdgghjaglhnaaGreatDoor
