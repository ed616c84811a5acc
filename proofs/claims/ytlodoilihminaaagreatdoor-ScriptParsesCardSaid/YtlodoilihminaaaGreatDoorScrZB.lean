/-
  ref25.SameAct of any two acts.
-/
import Derived.Test.YtlodoilihminaaaGreatDoorScrZA
namespace Go.Proofs.YtlodoilihminaaaGreatDoor
open Go.ChangeShapes Go.WideShapes Go.ChangeAt Go.RowKit
set_option linter.unusedVariables false
set_option linter.unusedSimpArgs false
def sameAB (a b : Ac) : Bool := decide (a.kind = b.kind) && (decide (a.name = b.name) && (decide (a.bytes = b.bytes) && (decide (a.mem = b.mem) && (decide (a.fuel = b.fuel) && decide (a.names = b.names)))))
theorem sameAB_iff (a b : Ac) : sameAB a b = true ↔ a = b := by
  obtain ⟨k, n, bs, ns, m, f⟩ := a
  obtain ⟨k', n', bs', ns', m', f'⟩ := b
  unfold sameAB
  simp only [Bool.and_eq_true, decide_eq_true_eq, Ac.mk.injEq]
  constructor
  · rintro ⟨h1, h2, h3, h4, h5, h6⟩; exact ⟨h1, h2, h3, h6, h4, h5⟩
  · rintro ⟨h1, h2, h3, h4, h5, h6⟩; exact ⟨h1, h2, h3, h5, h6, h4⟩
theorem sameAB_no {a b : Ac} (h : a ≠ b) : sameAB a b = false := by
  cases e : sameAB a b with
  | false => rfl
  | true => exact absurd ((sameAB_iff a b).1 e) h
theorem sameAB_refl (a : Ac) : sameAB a a = true := (sameAB_iff a a).2 rfl
theorem bytes_chs (b c : List Int) (hb : ∀ x ∈ b, 0 ≤ x ∧ x < 256) (hc : ∀ x ∈ c, 0 ≤ x ∧ x < 256) : strOf b = strOf c ↔ b = c := by
  constructor
  · intro h
    rw [strOf_list, strOf_list] at h
    have h2 : chs b = chs c := by
      have := congrArg (fun s : ByteArray => s.data.toList) h
      simpa [chs] using this
    rw [← chs_chs b hb, ← chs_chs c hc, h2]
  · rintro rfl; rfl
theorem S_ne {l m : List UInt8} : ((S l).toList == (S m).toList) = decide (l = m) := by
  rw [ByteArray.toList_eq, ByteArray.toList_eq]
  show (l == m) = _
  by_cases h : l = m
  · subst h; simp
  · simp [h]
theorem strOf_ne {b c : List Int} (hb : ∀ x ∈ b, 0 ≤ x ∧ x < 256) (hc : ∀ x ∈ c, 0 ≤ x ∧ x < 256) : ((strOf b).toList == (strOf c).toList) = decide (b = c) := by
  by_cases h : b = c
  · subst h; simp
  · have h2 : strOf b ≠ strOf c := fun e => h ((bytes_chs b c hb hc).1 e)
    have h3 : (strOf b).toList ≠ (strOf c).toList := by
      rw [ByteArray.toList_eq, ByteArray.toList_eq]
      intro e
      apply h2
      apply ByteArray.ext
      exact Array.toList_inj.1 e
    simp [h, h3]
theorem eq_of_all {l m : List (List UInt8)} (hl : l.length = m.length) (h : ∀ (j : Nat) (x y : List UInt8), l[j]? = some x → m[j]? = some y → x = y) : l = m := by
  apply List.ext_getElem? 
  intro i
  by_cases hi : i < l.length
  · rw [List.getElem?_eq_getElem hi, List.getElem?_eq_getElem (by omega)]
    rw [h i _ _ (List.getElem?_eq_getElem hi) (List.getElem?_eq_getElem (by omega))]
  · rw [List.getElem?_eq_none (by omega), List.getElem?_eq_none (by omega)]
set_option maxHeartbeats 4000000 in
set_option maxRecDepth 100000 in
theorem rsameact_any (w : World) (a : Ac) (bA : Option Addr) (bn bc : Nat) (nA : Option Addr) (nn nc : Nat) (h : ActAt w a bA bn bc nA nn nc) (b : Ac) (bA' : Option Addr) (bn' bc' : Nat) (nA' : Option Addr) (nn' nc' : Nat) (h' : ActAt w b bA' bn' bc' nA' nn' nc') :
    Calls Tryz.prog 10 #[.agg (actC a.kind a.name bA bn bc nA nn nc a.mem a.fuel), .agg (actC b.kind b.name bA' bn' bc' nA' nn' nc' b.mem b.fuel)] w fun e w' => e = .returned (.bool (sameAB a b)) ∧ Below w.heap.size w w' := by
  by_cases hab : a = b
  · subst hab
    rw [sameAB_refl]
    exact rsame_same w a bA bn bc nA nn nc h bA' bn' bc' nA' nn' nc' h'
  rw [sameAB_no hab]
  have HAB := Lib.hid hab
  have hmx := h.hnn
  have hmx' := h'.hnn
  unfold maxLen at hmx hmx'
  have HA := Lib.hid h
  have HA' := Lib.hid h'
  have HLN := Lib.hid (⟨h.hnr.1, h'.hnr.1⟩ : _ ∧ _)
  have hs1' := S_ne (l := a.name) (m := b.name)
  have hs2' := strOf_ne h.hbb h'.hbb
  obtain ⟨n1, hn1⟩ : ∃ n1, decide (a.name = b.name) = n1 := ⟨_, rfl⟩
  obtain ⟨n2, hn2⟩ : ∃ n2, decide (a.bytes = b.bytes) = n2 := ⟨_, rfl⟩
  rw [hn1] at hs1'
  rw [hn2] at hs2'
  have HN1 := Lib.hid hn1
  have HN2 := Lib.hid hn2
  clear h h' hab hn1 hn2
  unfold actC at *
  obtain ⟨kd, hkd⟩ : ∃ kd, kd = a.kind := ⟨_, rfl⟩
  obtain ⟨kd', hkd'⟩ : ∃ kd', kd' = b.kind := ⟨_, rfl⟩
  rw [← hkd, ← hkd']
  have HKD := Lib.hid (And.intro hkd hkd')
  clear hkd hkd'
  go_enter Tryz.func10, Tryz.ntmps10
  go_upto_region 1 with fail
  have hq1 := heap_alloc_new w (.cells #[.int .i64 kd, .string (S a.name), .slice bA bn bc, .slice nA nn nc, .int .i64 a.mem, .int .i64 a.fuel] 27)
  have hs1 : (w.alloc (.cells #[.int .i64 kd, .string (S a.name), .slice bA bn bc, .slice nA nn nc, .int .i64 a.mem, .int .i64 a.fuel] 27)).heap.size = w.heap.size + 1 := by simp
  have hb1 := sbelow1 w (.cells #[.int .i64 kd, .string (S a.name), .slice bA bn bc, .slice nA nn nc, .int .i64 a.mem, .int .i64 a.fuel] 27)
  generalize w.alloc (.cells #[.int .i64 kd, .string (S a.name), .slice bA bn bc, .slice nA nn nc, .int .i64 a.mem, .int .i64 a.fuel] 27) = W1 at hq1 hs1 hb1 ⊢
  have hq2 := heap_alloc_new W1 (.cells #[.int .i64 kd', .string (S b.name), .slice bA' bn' bc', .slice nA' nn' nc', .int .i64 b.mem, .int .i64 b.fuel] 27)
  have hb2 := hb1.trans ((sbelow1 W1 (.cells #[.int .i64 kd', .string (S b.name), .slice bA' bn' bc', .slice nA' nn' nc', .int .i64 b.mem, .int .i64 b.fuel] 27)).mono hb1.size)
  have hq3 := (Below.heap_alloc W1 (.cells #[.int .i64 kd', .string (S b.name), .slice bA' bn' bc', .slice nA' nn' nc', .int .i64 b.mem, .int .i64 b.fuel] 27) _ (Array.getElem?_eq_some_iff.1 hq1).1).trans hq1
  generalize W1.alloc (.cells #[.int .i64 kd', .string (S b.name), .slice bA' bn' bc', .slice nA' nn' nc', .int .i64 b.mem, .int .i64 b.fuel] 27) = W2 at hq2 hb2 hq3 ⊢
  rw [hs1] at hq2
  have k0 : W2.cell? ⟨w.heap.size, 0, none⟩ = some (.int .i64 kd) := by rw [World.cell?, hq3]; rfl
  have k1 : W2.cell? ⟨w.heap.size, 1, none⟩ = some (.string (S a.name)) := by rw [World.cell?, hq3]; rfl
  have k2 : W2.cell? ⟨w.heap.size, 2, none⟩ = some (.slice bA bn bc) := by rw [World.cell?, hq3]; rfl
  have k3 : W2.cell? ⟨w.heap.size, 3, none⟩ = some (.slice nA nn nc) := by rw [World.cell?, hq3]; rfl
  have k4 : W2.cell? ⟨w.heap.size, 4, none⟩ = some (.int .i64 a.mem) := by rw [World.cell?, hq3]; rfl
  have k5 : W2.cell? ⟨w.heap.size, 5, none⟩ = some (.int .i64 a.fuel) := by rw [World.cell?, hq3]; rfl
  have j0 : W2.cell? ⟨w.heap.size + 1, 0, none⟩ = some (.int .i64 kd') := by rw [World.cell?, hq2]; rfl
  have j1 : W2.cell? ⟨w.heap.size + 1, 1, none⟩ = some (.string (S b.name)) := by rw [World.cell?, hq2]; rfl
  have j2 : W2.cell? ⟨w.heap.size + 1, 2, none⟩ = some (.slice bA' bn' bc') := by rw [World.cell?, hq2]; rfl
  have j3 : W2.cell? ⟨w.heap.size + 1, 3, none⟩ = some (.slice nA' nn' nc') := by rw [World.cell?, hq2]; rfl
  have j4 : W2.cell? ⟨w.heap.size + 1, 4, none⟩ = some (.int .i64 b.mem) := by rw [World.cell?, hq2]; rfl
  have j5 : W2.cell? ⟨w.heap.size + 1, 5, none⟩ = some (.int .i64 b.fuel) := by rw [World.cell?, hq2]; rfl
  have HB := Lib.hid hb2
  have HX := Lib.hid (HA.out.below hb2)
  have HX' := Lib.hid (HA'.out.below hb2)
  have hc1 := conv_rd HX.out.hbr bc
  have hc2 := conv_rd HX'.out.hbr bc'
  clear hq1 hs1 hb1 hq2 hb2 hq3 HA HA'
  obtain ⟨m1, hm1⟩ : ∃ m1, m1 = a.mem := ⟨_, rfl⟩
  obtain ⟨m2, hm2⟩ : ∃ m2, m2 = b.mem := ⟨_, rfl⟩
  obtain ⟨f1, hf1⟩ : ∃ f1, f1 = a.fuel := ⟨_, rfl⟩
  obtain ⟨f2, hf2⟩ : ∃ f2, f2 = b.fuel := ⟨_, rfl⟩
  have HMF := Lib.hid (⟨hm1, hm2, hf1, hf2⟩ : _ ∧ _ ∧ _ ∧ _)
  rw [← hm1] at k4
  rw [← hm2] at j4
  rw [← hf1] at k5
  rw [← hf2] at j5
  clear hm1 hm2 hf1 hf2
  generalize S a.name = nm at *
  generalize S b.name = nm' at *
  generalize strOf a.bytes = bs at *
  generalize strOf b.bytes = bs' at *
  have hk : kd ≠ kd' ∨ kd = kd' := by omega
  have hl : nn ≠ nn' ∨ nn = nn' := by omega
  have hm : m1 ≠ m2 ∨ m1 = m2 := by omega
  have hf : f1 ≠ f2 ∨ f1 = f2 := by omega
  rcases hk with hk | rfl
  · have e1 : (kd != kd') = true := by simpa using hk
    clear hk hl hm hf
    go_wp2_with fail
    go_ret
    exact ⟨rfl, HB.out⟩
  cases n1 with
  | false =>
    clear hl hm hf
    go_wp2_with fail
    go_ret
    exact ⟨rfl, HB.out⟩
  | true =>
  cases n2 with
  | false =>
    clear hl hm hf
    go_wp2_with fail
    go_ret
    exact ⟨rfl, HB.out⟩
  | true =>
  rcases hl with hl | rfl
  · have e1 : ((nn : Int) != (nn' : Int)) = true := by simp; omega
    clear hl hm hf
    go_wp2_with fail
    go_ret
    exact ⟨rfl, HB.out⟩
  rcases hm with hm | rfl
  · have e1 : (m1 != m2) = true := by simpa using hm
    clear hm hf
    go_wp2_with fail
    go_ret
    exact ⟨rfl, HB.out⟩
  rcases hf with hf | rfl
  · have e1 : (f1 != f2) = true := by simpa using hf
    clear hf
    go_wp2_with fail
    go_ret
    exact ⟨rfl, HB.out⟩
  have HNE : Hid (a.names ≠ b.names) := Lib.hid fun e => HAB.out (by
    have h1 := HKD.out
    have h2 := HN1.out
    have h3 := HN2.out
    have h4 := HMF.out
    rw [decide_eq_true_eq] at h2 h3
    exact (sameAB_iff a b).1 (by unfold sameAB; simp only [Bool.and_eq_true, decide_eq_true_eq]; exact ⟨by rw [← h1.1, ← h1.2], h2, h3, by rw [← h4.1, ← h4.2.1], by rw [← h4.2.2.1, ← h4.2.2.2], e⟩))
  go_wp2_with fail
  have HK3 := Lib.hid k3
  have HJ3 := Lib.hid j3
  have HLB := Lib.hid (⟨World.block_lt_of_cell? _ _ k3, World.block_lt_of_cell? _ _ j3⟩ : _ ∧ _)
  clear k0 k1 k2 k4 k5 j0 j1 j2 j4 j5 hc1 hc2 k3 j3 hs1' hs2'
  go_loopw [5] (fun iv wr => ∃ k : Nat, k ≤ nn ∧ iv = .int .i64 (k : Int) ∧ Hid (Below W2.heap.size W2 wr) ∧ Hid (∀ (j : Nat) (x y : List UInt8), j < k → a.names[j]? = some x → b.names[j]? = some y → x = y)) (fun iv _ => nn - (intOf iv).toNat)
  case atStart => exact ⟨0, Nat.zero_le _, rfl, Lib.hid (Below.refl _ _), Lib.hid fun j x y hj => absurd hj (by omega)⟩
  case round =>
    obtain ⟨k, hk, rfl, HBR, HEQ⟩ := hrel
    have k3 : wr.cell? ⟨w.heap.size, 3, none⟩ = some (.slice nA nn nc) := (HBR.out.cell HLB.out.1).trans HK3.out
    have j3 : wr.cell? ⟨w.heap.size + 1, 3, none⟩ = some (.slice nA' nn nc') := (HBR.out.cell HLB.out.2).trans HJ3.out
    by_cases hlt : k < nn
    · obtain ⟨x, l, rfl, hx, hl, hm2, hc⟩ := (HX.out.below HBR.out).hnr.at hlt
      obtain ⟨x', l', rfl, hx', hl', hm2', hc'⟩ := (HX'.out.below HBR.out).hnr.at hlt
      have hsn := S_ne (l := l) (m := l')
      by_cases hll : l = l'
      · subst hll
        have HE2 : Hid (∀ (j : Nat) (x y : List UInt8), j < k + 1 → a.names[j]? = some x → b.names[j]? = some y → x = y) := Lib.hid fun j x y hj h1 h2 => by
          by_cases hjk : j = k
          · subst hjk
            rw [hl] at h1; rw [hl'] at h2
            rw [← Option.some.inj h1, ← Option.some.inj h2]
          · exact HEQ.out j x y (by omega) h1 h2
        clear hl hl' hm2 hm2' hx hx' hsn
        generalize S l = nl at *
        go_wp2_with fail
        go_quiet (fail)
        go_wp2_with fail
        go_roundw
        case rel => exact ⟨k + 1, by omega, by go_num, Lib.hid (HBR.out.trans ⟨rfl, rfl, rfl, Nat.le_refl _, fun _ _ => rfl⟩), HE2⟩
        case measure => simp [intOf]; omega
      · rw [decide_eq_false hll] at hsn
        clear hl hl' hm2 hm2' hx hx' hll
        generalize S l = nl at *
        generalize S l' = nl' at *
        go_wp2_with fail
        go_quiet (fail)
        go_wp2_with fail
        go_ret
        refine ⟨rfl, HB.out.trans (Below.mono (HBR.out.trans ?_) HB.out.size)⟩
        exact ⟨rfl, rfl, rfl, Nat.le_refl _, fun _ _ => rfl⟩
    · exfalso
      have hjn : k = nn := by omega
      refine HNE.out (eq_of_all (by rw [HLN.out.1, HLN.out.2]) fun j x y h1 h2 => HEQ.out j x y ?_ h1 h2)
      have := (List.getElem?_eq_some_iff.1 h1).1
      have := HLN.out.1
      omega
end Go.Proofs.YtlodoilihminaaaGreatDoor
