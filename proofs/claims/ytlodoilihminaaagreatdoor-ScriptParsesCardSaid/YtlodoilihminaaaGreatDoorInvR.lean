/-
  A region that draws, inside a fence (the body of a loop over a function), by one invariant. Nothing of the program.
-/
import Derived.Test.YtlodoilihminaaaGreatDoorInv
import Derived.OrdersIn
import Derived.RangeFuncNested
import Derived.RangeFuncBound
import Derived.RangeFuncCalls
namespace Go.Proofs.YtlodoilihminaaaGreatDoor
open Go.ChangeShapes Go.WideShapes Go.ChangeAt Go.RowKit
set_option linter.unusedVariables false
section
variable {P : Program} {F : Fence} {ops : Array Oper} {Q : Exit → Act → World → Prop} {md : Region.Mode}
theorem getD_set_trueF {listed : Array Bool} {i j : Nat} (h : listed.getD j true = true) : (listed.setIfInBounds i true).getD j true = true := by
  by_cases hj : i = j
  · subst hj
    by_cases hi : i < listed.size
    · simp [Array.getD, hi]
    · simp [Array.getD, hi]
  · rw [getD_set_ne true hj]
    exact h
theorem wpAnyIn_inv {I : (Nat → Bool) → Act → World → Prop} (hs : sorted md ops = true)
    (hstep : ∀ i, i < ops.size → ∀ (L : Nat → Bool) a w, L i = false → (∀ k d, L k = true → (depsOf md ops k).contains d = true → L d = true) → (∀ d, (depsOf md ops i).contains d = true → L d = true) → I L a w → wpOpIn F 0 P ops Q i (I (upOn L i)) a w)
    (hend : ∀ (L : Nat → Bool) a w, (∀ k, k < ops.size → L k = true) → I L a w → Q .normal a w) :
    ∀ (fuel : Nat) (listed : Array Bool) (a : Act) (w : World), listed.size = ops.size → openIn ops.size (fun k => listed.getD k true) ≤ fuel → (∀ k d, listed.getD k true = true → (depsOf md ops k).contains d = true → listed.getD d true = true) → I (fun k => listed.getD k true) a w → wpAnyIn F 0 P md ops Q fuel listed a w := by
  have hnone : ∀ (listed : Array Bool), listed.size = ops.size → Region.ready md ops listed = [] → ∀ k, k < ops.size → listed.getD k true = true := by
    intro listed hsz hr k
    induction k using Nat.strongRecOn with
    | _ k ih =>
      intro hk
      by_cases h : listed.getD k true = true
      · exact h
      · exfalso
        have h0 : listed.getD k true = false := by simpa using h
        have hm : k ∈ Region.ready md ops listed := by
          rw [mem_ready]
          refine ⟨h0, ops[k], Array.getElem?_eq_getElem hk, fun e he hb => ?_⟩
          have hd : (depsOf md ops k).contains e.on = true := by
            unfold depsOf
            rw [Array.getElem?_eq_getElem hk]
            simp only [Option.map_some, Option.getD_some, List.contains_iff_mem, List.mem_map, List.mem_filter]
            exact ⟨e, ⟨by simpa using he, hb⟩, rfl⟩
          have hlt : e.on < k := by
            unfold sorted at hs
            rw [List.all_eq_true] at hs
            have h1 := hs k (by simpa using hk)
            rw [List.all_eq_true] at h1
            simpa using h1 e.on (by simpa using hd)
          have := ih e.on hlt (by omega)
          have hin : e.on < listed.size := by omega
          simpa [Array.getD, hin] using this
        rw [hr] at hm
        exact absurd hm (by simp)
  intro fuel
  induction fuel with
  | zero =>
    intro listed a w hsz hf hc hI
    have hall : ∀ k, k < ops.size → listed.getD k true = true := by
      intro k hk
      by_cases h : listed.getD k true = true
      · exact h
      · exfalso
        have : k ∈ (List.range ops.size).filter (fun k => !listed.getD k true) := by
          rw [List.mem_filter]
          exact ⟨by simpa using hk, by simpa using h⟩
        have h1 := List.length_pos_of_mem this
        exact absurd (Nat.lt_of_lt_of_le h1 hf) (by omega)
    refine ⟨?_, hend _ a w hall hI⟩
    unfold Region.ready
    rw [List.filter_eq_nil_iff]
    intro k hk
    have := hall k (by simpa using hk)
    simp only [this]
    simp
  | succ fuel ih =>
    intro listed a w hsz hf hc hI
    refine ⟨fun hr => hend _ a w (hnone listed hsz hr) hI, fun i hi => ?_⟩
    rw [mem_ready] at hi
    obtain ⟨h0, o, ho, hd⟩ := hi
    have hlt : i < ops.size := (Array.getElem?_eq_some_iff.1 ho).1
    have hdeps : ∀ d, (depsOf md ops i).contains d = true → listed.getD d true = true := by
      intro d hdd
      unfold depsOf at hdd
      rw [ho] at hdd
      simp only [Option.map_some, Option.getD_some, List.contains_iff_mem, List.mem_map, List.mem_filter] at hdd
      obtain ⟨e, ⟨he, hb⟩, rfl⟩ := hdd
      have := hd e (by simpa using he) hb
      have hlt2 : e.on < listed.size := by
        rcases Nat.lt_or_ge e.on listed.size with h | h
        · exact h
        · simp [Array.getD, Nat.not_lt.2 h] at this
      simpa [Array.getD, hlt2] using this
    have hst := hstep i hlt (fun k => listed.getD k true) a w h0 hc hdeps hI
    refine wpOpIn_mono (fun a' w' h => ?_) hst
    have e : (fun k => (listed.setIfInBounds i true).getD k true) = upOn (fun k => listed.getD k true) i := by
      funext k
      unfold upOn
      by_cases hk : k = i
      · subst hk
        rw [if_pos rfl]
        have : k < listed.size := by omega
        simp [Array.getD, this]
      · rw [if_neg hk]
        exact getD_set_ne true (fun e => hk e.symm)
    refine ih _ a' w' (by simpa using hsz) ?_ ?_ (by rw [e]; exact h)
    · rw [e]
      have := openIn_up ops.size (fun k => listed.getD k true) i hlt h0
      omega
    · intro k d hk hkd
      by_cases hki : k = i
      · subst hki
        exact getD_set_trueF (hdeps d hkd)
      · have h1 : listed.getD k true = true := by rw [← getD_set_ne true (fun e => hki e.symm)]; exact hk
        exact getD_set_trueF (hc k d h1 hkd)
/-- A region that draws, by one invariant. -/
theorem wpIn_region_inv {id : Nat} {a : Act} {w : World} (I : (Nat → Bool) → Act → World → Prop) (hm : P.follows .mixedOrders = true) (hs : sorted .any ops = true)
    (h0 : I (fun k => decide (ops.size ≤ k)) a w.drew)
    (hstep : ∀ i, i < ops.size → ∀ (L : Nat → Bool) a w, L i = false → (∀ k d, L k = true → (depsOf .any ops k).contains d = true → L d = true) → (∀ d, (depsOf .any ops i).contains d = true → L d = true) → I L a w → wpOpIn F 0 P ops Q i (I (upOn L i)) a w)
    (hend : ∀ (L : Nat → Bool) a w, (∀ k, k < ops.size → L k = true) → I L a w → Q .normal a w) : (Code.region id ops true).wpIn F 0 P Q a w := by
  refine wpIn_region_any hm ?_
  refine wpAnyIn_inv hs hstep hend ops.size _ a _ (by simp) ?_ ?_ ?_
  · unfold openIn
    exact Nat.le_trans (List.length_filter_le _ _) (by simp)
  · intro k d hk hkd
    exfalso
    by_cases h : k < ops.size
    · simp [Array.getD, h] at hk
    · unfold depsOf at hkd
      rw [Array.getElem?_eq_none (by omega)] at hkd
      simp at hkd
  · have e : (fun k => (Array.replicate ops.size false).getD k true) = fun k => decide (ops.size ≤ k) := by
      funext k
      by_cases hk : k < ops.size
      · simp [Array.getD, hk]
      · simp [Array.getD, hk]
        omega
    rw [e]
    exact h0
/-- The same, the number of its operations a numeral. -/
theorem wpIn_region_inv' {id : Nat} {a : Act} {w : World} (n : Nat) (hn : ops.size = n) (I : (Nat → Bool) → Act → World → Prop) (hm : P.follows .mixedOrders = true) (hs : sorted .any ops = true)
    (h0 : I (fun k => decide (n ≤ k)) a w.drew)
    (hstep : ∀ i, i < n → ∀ (L : Nat → Bool) a w, L i = false → (∀ k d, L k = true → (depsOf .any ops k).contains d = true → L d = true) → (∀ d, (depsOf .any ops i).contains d = true → L d = true) → I L a w → wpOpIn F 0 P ops Q i (I (upOn L i)) a w)
    (hend : ∀ (L : Nat → Bool) a w, (∀ k, k < n → L k = true) → I L a w → Q .normal a w) : (Code.region id ops true).wpIn F 0 P Q a w := by
  subst hn
  exact wpIn_region_inv I hm hs h0 hstep hend
end
theorem op_any {F : Fence} {n : Nat} {P : Program} {ops : Array Oper} {Q : Exit → Act → World → Prop} {i : Nat} {I : Act → World → Prop} {a : Act} {w : World} {o : Oper} (hi : ops[i]? = some o) (h : ∀ K : Act → World → Prop, (∀ a w, I a w → K a w) → if Region.wanted o (yielded ops a.tmps) then o.wpIn F n P a w K Q else (∀ f, o.about P w a.eval = some f → F.fn f) ∧ K (a.put o.dst undef) w) : wpOpIn F n P ops Q i I a w := by
  unfold wpOpIn
  rw [hi]
  exact h I fun _ _ h => h
end Go.Proofs.YtlodoilihminaaaGreatDoor
