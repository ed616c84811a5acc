/-
  script.Same: of two scripts: are they one?
-/
import Derived.Test.YtlodoilihminaaaGreatDoorScrZI
import Derived.BigQuiet
import Derived.Deep.QuietTactic
namespace Go.Proofs.YtlodoilihminaaaGreatDoor
open Go.ChangeShapes Go.WideShapes Go.ChangeAt Go.RowKit
set_option linter.unusedVariables false
set_option linter.unusedSimpArgs false
theorem stake_eq {α : Type} {x y : List α} {j : Nat} (h : x.take j = y.take j) (h1 : j < x.length) (h2 : j < y.length) (e : x[j] = y[j]) : x.take (j + 1) = y.take (j + 1) := by
  rw [List.take_succ_eq_append_getElem h1, List.take_succ_eq_append_getElem h2, h, e]
theorem snth_get (x : List Int) (j : Nat) (h : j < x.length) : nth x j = x[j] := by simp [nth, h]
set_option maxHeartbeats 1000000 in
theorem seqb_any (w : World) {a b : Option Addr} {n m c d : Nat} {x y : List Int} (hx : Rd w w.heap.size .u8 a n x) (hn : n ≤ maxLen) (hy : Rd w w.heap.size .u8 b m y) (hm : m ≤ maxLen) :
    Calls Tryz.prog 45 #[.slice a n c, .slice b m d] w fun e w' => e = .returned (.bool (decide (x = y))) ∧ Below w.heap.size w w' := by
  have hlx := hx.1
  have hly := hy.1
  have HX := Lib.hid hx
  have HY := Lib.hid hy
  clear hx hy
  unfold maxLen at hn hm
  by_cases hne : n = m
  rotate_left
  · have hno : decide (x = y) = false := by
      rw [decide_eq_false_iff_not]
      rintro rfl
      omega
    have hc : ((n : Int) == (m : Int)) = false := by simp; omega
    have hc2 : ((n : Int) != (m : Int)) = true := by simp; omega
    rw [hno]
    go_enter Tryz.func45, Tryz.ntmps45
    go_wp2_with fail
    go_ret
    exact ⟨rfl, Below.refl _ _⟩
  subst hne
  go_enter Tryz.func45, Tryz.ntmps45
  go_wp2_with fail
  go_loopw [13] (fun i wr => ∃ j : Nat, j ≤ n ∧ i = .int .i64 j ∧ Hid (x.take j = y.take j) ∧ Hid (Below w.heap.size w wr)) (fun i _ => n - (intOf i).toNat)
  case atStart => exact ⟨0, Nat.zero_le _, rfl, Lib.hid rfl, Lib.hid (Below.refl _ _)⟩
  case round =>
    obtain ⟨j, hj, rfl, HE, HB⟩ := hrel
    by_cases hlt : j < n
    · have h1 : j < x.length := by omega
      have h2 : j < y.length := by omega
      have hbb := HB.out
      obtain ⟨p, rfl, hpb, hp⟩ := HX.out.2 (by omega)
      obtain ⟨q, rfl, hqb, hq⟩ := HY.out.2 (by omega)
      have c1 := (hbb.cell (p := p.add j) (by rw [block_add]; exact hpb)).trans (hp j hlt)
      have c2 := (hbb.cell (p := q.add j) (by rw [block_add]; exact hqb)).trans (hq j hlt)
      rw [snth_get x j h1] at c1
      rw [snth_get y j h2] at c2
      clear hp hq hbb
      have HT := Lib.hid (fun e : x[j] = y[j] => stake_eq HE.out h1 h2 e)
      have HNO : Hid (x[j] ≠ y[j] → decide (x = y) = false) := Lib.hid fun h => by
        rw [decide_eq_false_iff_not]
        rintro rfl
        exact h rfl
      generalize hxe : x[j] = xj at *
      generalize hye : y[j] = yj at *
      by_cases he : xj = yj
      · have e1 : (xj == yj) = true := by simpa using he
        have e2 : (xj != yj) = false := by simpa using he
        clear HX HY
        go_wp2_with fail
        go_quiet (fail)
        go_wp2_with fail
        exact ⟨⟨j + 1, by omega, by simp, Lib.hid (HT.out he), Lib.hid (by first | exact HB.out.drew | exact HB.out.trans ((drewN_below _ _).mono HB.out.size))⟩, by simp [intOf]; omega⟩
      · have e1 : (xj == yj) = false := by simpa using he
        have e2 : (xj != yj) = true := by simpa using he
        clear HX HY
        go_wp2_with fail
        go_quiet (fail)
        go_wp2_with fail
        go_ret
        exact ⟨ret_bool (HNO.out he).symm, by first | exact HB.out.drew | exact HB.out.trans ((drewN_below _ _).mono HB.out.size)⟩

    · obtain rfl : j = n := by omega
      have HD : Hid (decide (x = y) = true) := Lib.hid (by
        have := HE.out
        rw [List.take_of_length_le (by omega), List.take_of_length_le (by omega)] at this
        rw [this]
        simp)
      go_wp2_with fail
      go_ret
      exact ⟨ret_bool HD.out.symm, HB.out⟩
set_option maxHeartbeats 1000000 in
theorem seqn_any (w : World) {a b : Option Addr} {n m c d : Nat} {x y : List (List UInt8)} (hx : NmRow w w.heap.size a n x) (hn : n ≤ maxLen) (hy : NmRow w w.heap.size b m y) (hm : m ≤ maxLen) :
    Calls Tryz.prog 46 #[.slice a n c, .slice b m d] w fun e w' => e = .returned (.bool (decide (x = y))) ∧ Below w.heap.size w w' := by
  have hlx := hx.1
  have hly := hy.1
  have HX := Lib.hid hx
  have HY := Lib.hid hy
  clear hx hy
  unfold maxLen at hn hm
  by_cases hne : n = m
  rotate_left
  · have hno : decide (x = y) = false := by
      rw [decide_eq_false_iff_not]
      rintro rfl
      omega
    have hc : ((n : Int) == (m : Int)) = false := by simp; omega
    have hc2 : ((n : Int) != (m : Int)) = true := by simp; omega
    rw [hno]
    go_enter Tryz.func46, Tryz.ntmps46
    go_wp2_with fail
    go_ret
    exact ⟨rfl, Below.refl _ _⟩
  subst hne
  go_enter Tryz.func46, Tryz.ntmps46
  go_wp2_with fail
  go_loopw [13] (fun i wr => ∃ j : Nat, j ≤ n ∧ i = .int .i64 j ∧ Hid (x.take j = y.take j) ∧ Hid (Below w.heap.size w wr)) (fun i _ => n - (intOf i).toNat)
  case atStart => exact ⟨0, Nat.zero_le _, rfl, Lib.hid rfl, Lib.hid (Below.refl _ _)⟩
  case round =>
    obtain ⟨j, hj, rfl, HE, HB⟩ := hrel
    by_cases hlt : j < n
    · have h1 : j < x.length := by omega
      have h2 : j < y.length := by omega
      have hbb := HB.out
      obtain ⟨p, rfl, hpb, hp⟩ := HX.out.2.2 (by omega)
      obtain ⟨q, rfl, hqb, hq⟩ := HY.out.2.2 (by omega)
      have c1 := (hbb.cell (p := p.add j) (by rw [block_add]; exact hpb)).trans (hp j _ (List.getElem?_eq_getElem h1))
      have c2 := (hbb.cell (p := q.add j) (by rw [block_add]; exact hqb)).trans (hq j _ (List.getElem?_eq_getElem h2))
      clear hp hq hbb
      have HT := Lib.hid (fun e : x[j] = y[j] => stake_eq HE.out h1 h2 e)
      have HNO : Hid (x[j] ≠ y[j] → decide (x = y) = false) := Lib.hid fun h => by
        rw [decide_eq_false_iff_not]
        rintro rfl
        exact h rfl
      generalize hxe : x[j] = xj at *
      generalize hye : y[j] = yj at *
      have e1 := S_ne (l := xj) (m := yj)
      by_cases he : xj = yj
      · rw [decide_eq_true he] at e1
        clear HX HY
        go_wp2_with fail
        go_quiet (fail)
        go_wp2_with fail
        exact ⟨⟨j + 1, by omega, by simp, Lib.hid (HT.out he), Lib.hid (by first | exact HB.out.drew | exact HB.out.trans ((drewN_below _ _).mono HB.out.size))⟩, by simp [intOf]; omega⟩
      · rw [decide_eq_false he] at e1
        clear HX HY
        go_wp2_with fail
        go_quiet (fail)
        go_wp2_with fail
        go_ret
        exact ⟨ret_bool (HNO.out he).symm, by first | exact HB.out.drew | exact HB.out.trans ((drewN_below _ _).mono HB.out.size)⟩

    · obtain rfl : j = n := by omega
      have HD : Hid (decide (x = y) = true) := Lib.hid (by
        have := HE.out
        rw [List.take_of_length_le (by omega), List.take_of_length_le (by omega)] at this
        rw [this]
        simp)
      go_wp2_with fail
      go_ret
      exact ⟨ret_bool HD.out.symm, HB.out⟩
theorem sameAB_if (a b : Ac) (h1 : a.kind = b.kind) (h2 : a.name = b.name) (h3 : a.mem = b.mem) (h4 : a.fuel = b.fuel) : sameAB a b = (decide (a.bytes = b.bytes) && decide (a.names = b.names)) := by
  unfold sameAB
  rw [decide_eq_true h1, decide_eq_true h2, decide_eq_true h3, decide_eq_true h4]
  simp
set_option maxHeartbeats 4000000 in
set_option maxRecDepth 100000 in
theorem ssame1_any (w : World) (a : Ac) (bA : Option Addr) (bn bc : Nat) (nA : Option Addr) (nn nc : Nat) (h : ActAt w a bA bn bc nA nn nc) (b : Ac) (bA' : Option Addr) (bn' bc' : Nat) (nA' : Option Addr) (nn' nc' : Nat) (h' : ActAt w b bA' bn' bc' nA' nn' nc') :
    Calls Tryz.prog 44 #[.agg (actC a.kind a.name bA bn bc nA nn nc a.mem a.fuel), .agg (actC b.kind b.name bA' bn' bc' nA' nn' nc' b.mem b.fuel)] w fun e w' => e = .returned (.bool (sameAB a b)) ∧ Below w.heap.size w w' := by
  have HA := Lib.hid h
  have HA' := Lib.hid h'
  have HN : Hid ((a.kind ≠ b.kind ∨ a.name ≠ b.name ∨ a.mem ≠ b.mem ∨ a.fuel ≠ b.fuel) → sameAB a b = false) := Lib.hid fun h => sameAB_no (by rintro rfl; simp at h)
  have HY := Lib.hid (sameAB_if a b)
  have e1 := S_ne (l := a.name) (m := b.name)
  clear h h'
  unfold actC at *
  obtain ⟨kd, hkd⟩ : ∃ kd, kd = a.kind := ⟨_, rfl⟩
  obtain ⟨kd', hkd'⟩ : ∃ kd', kd' = b.kind := ⟨_, rfl⟩
  obtain ⟨m1, hm1⟩ : ∃ m1, m1 = a.mem := ⟨_, rfl⟩
  obtain ⟨m2, hm2⟩ : ∃ m2, m2 = b.mem := ⟨_, rfl⟩
  obtain ⟨f1, hf1⟩ : ∃ f1, f1 = a.fuel := ⟨_, rfl⟩
  obtain ⟨f2, hf2⟩ : ∃ f2, f2 = b.fuel := ⟨_, rfl⟩
  rw [← hkd, ← hkd', ← hm1, ← hm2, ← hf1, ← hf2] at HN HY
  rw [← hkd, ← hkd', ← hm1, ← hm2, ← hf1, ← hf2]
  obtain ⟨sr, hsr⟩ : ∃ sr, sr = sameAB a b := ⟨_, rfl⟩
  rw [← hsr] at HN HY ⊢
  clear hkd hkd' hm1 hm2 hf1 hf2 hsr
  go_enter Tryz.func44, Tryz.ntmps44
  go_upto_region 1 with fail
  have hq1 := heap_alloc_new w (.cells #[.int .i64 kd, .string (S a.name), .slice bA bn bc, .slice nA nn nc, .int .i64 m1, .int .i64 f1] 27)
  have hs1 : (w.alloc (.cells #[.int .i64 kd, .string (S a.name), .slice bA bn bc, .slice nA nn nc, .int .i64 m1, .int .i64 f1] 27)).heap.size = w.heap.size + 1 := by simp
  have hb1 := sbelow1 w (.cells #[.int .i64 kd, .string (S a.name), .slice bA bn bc, .slice nA nn nc, .int .i64 m1, .int .i64 f1] 27)
  generalize w.alloc (.cells #[.int .i64 kd, .string (S a.name), .slice bA bn bc, .slice nA nn nc, .int .i64 m1, .int .i64 f1] 27) = W1 at hq1 hs1 hb1 ⊢
  have hq2 := heap_alloc_new W1 (.cells #[.int .i64 kd', .string (S b.name), .slice bA' bn' bc', .slice nA' nn' nc', .int .i64 m2, .int .i64 f2] 27)
  have hb2 := hb1.trans ((sbelow1 W1 (.cells #[.int .i64 kd', .string (S b.name), .slice bA' bn' bc', .slice nA' nn' nc', .int .i64 m2, .int .i64 f2] 27)).mono hb1.size)
  have hq3 := (Below.heap_alloc W1 (.cells #[.int .i64 kd', .string (S b.name), .slice bA' bn' bc', .slice nA' nn' nc', .int .i64 m2, .int .i64 f2] 27) _ (Array.getElem?_eq_some_iff.1 hq1).1).trans hq1
  generalize W1.alloc (.cells #[.int .i64 kd', .string (S b.name), .slice bA' bn' bc', .slice nA' nn' nc', .int .i64 m2, .int .i64 f2] 27) = W2 at hq2 hb2 hq3 ⊢
  rw [hs1] at hq2
  have HQ : Hid (∀ V : World, Below W2.heap.size W2 V → (V.cell? ⟨w.heap.size, 0, none⟩ = some (.int .i64 kd) ∧ V.cell? ⟨w.heap.size, 1, none⟩ = some (.string (S a.name)) ∧ V.cell? ⟨w.heap.size, 2, none⟩ = some (.slice bA bn bc) ∧ V.cell? ⟨w.heap.size, 3, none⟩ = some (.slice nA nn nc) ∧ V.cell? ⟨w.heap.size, 4, none⟩ = some (.int .i64 m1) ∧ V.cell? ⟨w.heap.size, 5, none⟩ = some (.int .i64 f1)) ∧ (V.cell? ⟨w.heap.size + 1, 0, none⟩ = some (.int .i64 kd') ∧ V.cell? ⟨w.heap.size + 1, 1, none⟩ = some (.string (S b.name)) ∧ V.cell? ⟨w.heap.size + 1, 2, none⟩ = some (.slice bA' bn' bc') ∧ V.cell? ⟨w.heap.size + 1, 3, none⟩ = some (.slice nA' nn' nc') ∧ V.cell? ⟨w.heap.size + 1, 4, none⟩ = some (.int .i64 m2) ∧ V.cell? ⟨w.heap.size + 1, 5, none⟩ = some (.int .i64 f2))) := Lib.hid fun V hV => by
    have h1 := (hV.block _ (Array.getElem?_eq_some_iff.1 hq3).1).trans hq3
    have h2 := (hV.block _ (Array.getElem?_eq_some_iff.1 hq2).1).trans hq2
    refine ⟨⟨?_, ?_, ?_, ?_, ?_, ?_⟩, ?_, ?_, ?_, ?_, ?_, ?_⟩ <;> (rw [World.cell?]; first | (rw [h1]; rfl) | (rw [h2]; rfl))
  have HB := Lib.hid hb2
  have HE1 : Hid (∀ V : World, Below W2.heap.size W2 V → Calls Tryz.prog 45 #[.slice bA bn bc, .slice bA' bn' bc'] V fun e v => e = .returned (.bool (decide (a.bytes = b.bytes))) ∧ Below W2.heap.size W2 v) := Lib.hid fun V hV =>
    (seqb_any V ((HA.out.below hb2).below hV).hbr HA.out.hbn ((HA'.out.below hb2).below hV).hbr HA'.out.hbn).mono fun e v ⟨h1, h2⟩ => ⟨h1, hV.trans (h2.mono hV.size)⟩
  have HE2 : Hid (∀ V : World, Below W2.heap.size W2 V → Calls Tryz.prog 46 #[.slice nA nn nc, .slice nA' nn' nc'] V fun e v => e = .returned (.bool (decide (a.names = b.names))) ∧ Below W2.heap.size W2 v) := Lib.hid fun V hV =>
    (seqn_any V ((HA.out.below hb2).below hV).hnr HA.out.hnn ((HA'.out.below hb2).below hV).hnr HA'.out.hnn).mono fun e v ⟨h1, h2⟩ => ⟨h1, hV.trans (h2.mono hV.size)⟩
  have HR := Lib.hid (Below.refl W2.heap.size W2)
  obtain ⟨⟨k0, k1, k2, k3, k4, k5⟩, j0, j1, j2, j3, j4, j5⟩ := HQ.out W2 (Below.refl _ _)
  clear hq1 hs1 hb1 hq2 hb2 hq3 HA HA'
  by_cases hk : kd = kd'
  rotate_left
  · have q1 : (kd == kd') = false := by simpa using hk
    have HF := Lib.hid (HN.out (.inl hk))
    clear hk HN HY
    go_wp2_with fail
    go_ret
    exact ⟨ret_bool HF.out.symm, HB.out⟩
  subst hk
  by_cases hn : a.name = b.name
  rotate_left
  · rw [decide_eq_false hn] at e1
    have HF := Lib.hid (HN.out (.inr (.inl hn)))
    clear hn HN HY
    generalize S a.name = s1 at *
    generalize S b.name = s2 at *
    go_wp2_with fail
    go_ret
    exact ⟨ret_bool HF.out.symm, HB.out⟩
  rw [decide_eq_true hn] at e1
  have HNN := Lib.hid hn
  clear hn
  generalize S a.name = s1 at *
  generalize S b.name = s2 at *
  by_cases hm : m1 = m2
  rotate_left
  · have q1 : (m1 == m2) = false := by simpa using hm
    have HF := Lib.hid (HN.out (.inr (.inr (.inl hm))))
    clear hm HN HY HNN
    go_wp2_with fail
    go_ret
    exact ⟨ret_bool HF.out.symm, HB.out⟩
  subst hm
  by_cases hf : f1 = f2
  rotate_left
  · have q1 : (f1 == f2) = false := by simpa using hf
    have HF := Lib.hid (HN.out (.inr (.inr (.inr hf))))
    clear hf HN HY HNN
    go_wp2_with fail
    go_ret
    exact ⟨ret_bool HF.out.symm, HB.out⟩
  subst hf
  have HF := Lib.hid (HY.out rfl HNN.out rfl rfl)
  obtain ⟨b1, hb1⟩ : ∃ b1, b1 = decide (a.bytes = b.bytes) := ⟨_, rfl⟩
  obtain ⟨b2, hb2⟩ : ∃ b2, b2 = decide (a.names = b.names) := ⟨_, rfl⟩
  rw [← hb1] at HE1 HF
  rw [← hb2] at HE2 HF
  clear hb1 hb2 HN HY HNN
  cases b1 with
  | false =>
    rw [Bool.false_and] at HF
    go_wp2_with (go_at_call 45; (with_reducible refine (HE1.out _ HR.out).mono ?_); rintro e w3 ⟨rfl, hb⟩; have HB3 := Lib.hid hb; clear hb)
    go_ret
    exact ⟨ret_bool HF.out.symm, HB.out.trans (HB3.out.mono HB.out.size)⟩
  | true =>
    rw [Bool.true_and] at HF
    go_wp2_with (first
      | (go_at_call 45; (with_reducible refine (HE1.out _ HR.out).mono ?_); rintro e w3 ⟨rfl, hb⟩; have HB3 := Lib.hid hb; obtain ⟨⟨k0, k1, k2, k3, k4, k5⟩, j0, j1, j2, j3, j4, j5⟩ := HQ.out _ hb; clear hb)
      | (go_at_call 46; (with_reducible refine (HE2.out _ HB3.out).mono ?_); rintro e w4 ⟨rfl, hb⟩; have HB4 := Lib.hid hb; clear hb))
    go_ret
    exact ⟨ret_bool HF.out.symm, HB.out.trans (HB4.out.mono HB.out.size)⟩
set_option maxHeartbeats 4000000 in
set_option maxRecDepth 100000 in
theorem seqf_any (w : World) (l : List Ac) (A : Option Addr) (n cc : Nat) (h : ScRow w l A n) (hn : n ≤ maxLen) (l' : List Ac) (A' : Option Addr) (n' cc' : Nat) (h' : ScRow w l' A' n') (hn' : n' ≤ maxLen) :
    Calls Tryz.prog 43 #[.slice A n cc, .slice A' n' cc', .func (.func 44) #[] #[]] w fun e w' => e = .returned (.bool (sameLB l l')) ∧ Below w.heap.size w w' := by
  have hnl := h.1
  have hnl' := h'.1
  unfold maxLen at hn hn'
  have HS := Lib.hid h
  have HS' := Lib.hid h'
  clear h h'
  by_cases hne : n = n'
  rotate_left
  · have hno : sameLB l l' = false := by
      cases hh : sameLB l l' with
      | false => rfl
      | true => have := (sameLB_iff l l').1 hh; subst this; omega
    have hc : ((n : Int) == (n' : Int)) = false := by simp; omega
    have hc2 : ((n : Int) != (n' : Int)) = true := by simp; omega
    rw [hno]
    go_enter Tryz.func43, Tryz.ntmps43
    go_wp2_with fail
    go_ret
    exact ⟨rfl, Below.refl _ _⟩
  subst hne
  have HLN := Lib.hid (And.intro hnl hnl')
  clear hnl hnl'
  go_enter Tryz.func43, Tryz.ntmps43
  go_wp2_with fail
  go_loopw [17] (fun iv wr => ∃ k : Nat, k ≤ n ∧ iv = .int .i64 (k : Int) ∧ Hid (Below w.heap.size w wr) ∧ Hid (∀ (j : Nat) (x y : Ac), j < k → l[j]? = some x → l'[j]? = some y → x = y)) (fun iv _ => n - (intOf iv).toNat)
  case atStart => exact ⟨0, Nat.zero_le _, rfl, Lib.hid (Below.refl _ _), Lib.hid fun j x y hj => absurd hj (by omega)⟩
  case round =>
    obtain ⟨k, hk, rfl, HBR, HEQ⟩ := hrel
    by_cases hlt : k < n
    · obtain ⟨x, a, bA, bn, bc, nA, nn, nc, rfl, hx, ha, hc, hat, hkw⟩ := (HS.out.below HBR.out).at hlt
      obtain ⟨x', b, bA', bn', bc', nA', nn', nc', rfl, hx', ha', hc', hat', hkw'⟩ := (HS'.out.below HBR.out).at hlt
      have HXX := Lib.hid (And.intro hx hx')
      have HCC := Lib.hid (And.intro hc hc')
      have HAT := Lib.hid (And.intro hat hat')
      have HAB := Lib.hid (And.intro ha ha')
      obtain ⟨a0, a1, a2, a3, a4, a5⟩ := hc
      clear hat hat' hkw hkw' ha ha' hx hx' hc'
      go_upto_region 6 with fail
      have hq1 := heap_alloc_new wr (.cells #[.int .i64 a.kind, .string (S a.name), .slice bA bn bc, .slice nA nn nc, .int .i64 a.mem, .int .i64 a.fuel] 27)
      have hs1 : (wr.alloc (.cells #[.int .i64 a.kind, .string (S a.name), .slice bA bn bc, .slice nA nn nc, .int .i64 a.mem, .int .i64 a.fuel] 27)).heap.size = wr.heap.size + 1 := by simp
      have hb1 := sbelow1 wr (.cells #[.int .i64 a.kind, .string (S a.name), .slice bA bn bc, .slice nA nn nc, .int .i64 a.mem, .int .i64 a.fuel] 27)
      generalize wr.alloc (.cells #[.int .i64 a.kind, .string (S a.name), .slice bA bn bc, .slice nA nn nc, .int .i64 a.mem, .int .i64 a.fuel] 27) = W1 at hq1 hs1 hb1 ⊢
      clear a0 a1 a2 a3 a4 a5
      obtain ⟨b0, b1, b2, b3, b4, b5⟩ := HCC.out.2.below (by rw [block_add]; exact HXX.out.2) hb1
      go_upto_region 7 with fail
      have hq2 := heap_alloc_new W1 (.cells #[.int .i64 b.kind, .string (S b.name), .slice bA' bn' bc', .slice nA' nn' nc', .int .i64 b.mem, .int .i64 b.fuel] 27)
      have hb2 := hb1.trans ((sbelow1 W1 (.cells #[.int .i64 b.kind, .string (S b.name), .slice bA' bn' bc', .slice nA' nn' nc', .int .i64 b.mem, .int .i64 b.fuel] 27)).mono hb1.size)
      have hq3 := (Below.heap_alloc W1 (.cells #[.int .i64 b.kind, .string (S b.name), .slice bA' bn' bc', .slice nA' nn' nc', .int .i64 b.mem, .int .i64 b.fuel] 27) _ (Array.getElem?_eq_some_iff.1 hq1).1).trans hq1
      generalize W1.alloc (.cells #[.int .i64 b.kind, .string (S b.name), .slice bA' bn' bc', .slice nA' nn' nc', .int .i64 b.mem, .int .i64 b.fuel] 27) = W2 at hq2 hb2 hq3 ⊢
      rw [hs1] at hq2
      clear b0 b1 b2 b3 b4 b5
      have k0 : W2.cell? ⟨wr.heap.size, 0, none⟩ = some (.int .i64 a.kind) := by rw [World.cell?, hq3]; rfl
      have k1 : W2.cell? ⟨wr.heap.size, 1, none⟩ = some (.string (S a.name)) := by rw [World.cell?, hq3]; rfl
      have k2 : W2.cell? ⟨wr.heap.size, 2, none⟩ = some (.slice bA bn bc) := by rw [World.cell?, hq3]; rfl
      have k3 : W2.cell? ⟨wr.heap.size, 3, none⟩ = some (.slice nA nn nc) := by rw [World.cell?, hq3]; rfl
      have k4 : W2.cell? ⟨wr.heap.size, 4, none⟩ = some (.int .i64 a.mem) := by rw [World.cell?, hq3]; rfl
      have k5 : W2.cell? ⟨wr.heap.size, 5, none⟩ = some (.int .i64 a.fuel) := by rw [World.cell?, hq3]; rfl
      have j0 : W2.cell? ⟨wr.heap.size + 1, 0, none⟩ = some (.int .i64 b.kind) := by rw [World.cell?, hq2]; rfl
      have j1 : W2.cell? ⟨wr.heap.size + 1, 1, none⟩ = some (.string (S b.name)) := by rw [World.cell?, hq2]; rfl
      have j2 : W2.cell? ⟨wr.heap.size + 1, 2, none⟩ = some (.slice bA' bn' bc') := by rw [World.cell?, hq2]; rfl
      have j3 : W2.cell? ⟨wr.heap.size + 1, 3, none⟩ = some (.slice nA' nn' nc') := by rw [World.cell?, hq2]; rfl
      have j4 : W2.cell? ⟨wr.heap.size + 1, 4, none⟩ = some (.int .i64 b.mem) := by rw [World.cell?, hq2]; rfl
      have j5 : W2.cell? ⟨wr.heap.size + 1, 5, none⟩ = some (.int .i64 b.fuel) := by rw [World.cell?, hq2]; rfl
      have HC := Lib.hid (ssame1_any W2 a bA bn bc nA nn nc (HAT.out.1.below hb2) b bA' bn' bc' nA' nn' nc' (HAT.out.2.below hb2))
      have HB2 := Lib.hid (HBR.out.trans (hb2.mono HBR.out.size))
      unfold actC at HC
      clear hq1 hs1 hb1 hq2 hb2 hq3
      obtain ⟨sb, hsb⟩ : ∃ sb, sb = sameAB a b := ⟨_, rfl⟩
      rw [← hsb] at HC
      have HSB := Lib.hid hsb
      clear hsb
      cases sb with
      | false =>
        have HNO : Hid (sameLB l l' = false) := Lib.hid (by
          cases hh : sameLB l l' with
          | false => rfl
          | true =>
            have e := (sameLB_iff l l').1 hh
            subst e
            have h1 := HAB.out.1
            rw [HAB.out.2] at h1
            have h2 := Option.some.inj h1
            have h3 := HSB.out
            rw [h2, sameAB_refl] at h3
            cases h3)
        go_wp2_with (go_at_call 44; (with_reducible refine HC.out.mono ?_); rintro e w3 ⟨rfl, hb⟩; have HB3 := Lib.hid (HB2.out.trans (hb.mono HB2.out.size)); clear hb)
        go_ret
        exact ⟨ret_bool HNO.out.symm, HB3.out⟩
      | true =>
        have HE2 : Hid (∀ (j : Nat) (x y : Ac), j < k + 1 → l[j]? = some x → l'[j]? = some y → x = y) := Lib.hid fun j x y hj h1 h2 => by
          by_cases hjk : j = k
          · subst hjk
            rw [HAB.out.1] at h1
            rw [HAB.out.2] at h2
            rw [← Option.some.inj h1, ← Option.some.inj h2]
            exact (sameAB_iff a b).1 HSB.out.symm
          · exact HEQ.out j x y (by omega) h1 h2
        go_wp2_with (go_at_call 44; (with_reducible refine HC.out.mono ?_); rintro e w3 ⟨rfl, hb⟩; have HB3 := Lib.hid (HB2.out.trans (hb.mono HB2.out.size)); clear hb)
        exact ⟨⟨k + 1, by omega, by go_num, HB3, HE2⟩, by simp [intOf]; omega⟩
    · obtain rfl : k = n := by omega
      have HD : Hid (sameLB l l' = true) := Lib.hid ((sameLB_iff l l').2 (acs_eq (by rw [HLN.out.1, HLN.out.2]) fun j x y h1 h2 => HEQ.out j x y (by rw [← HLN.out.1]; exact (List.getElem?_eq_some_iff.1 h1).1) h1 h2))
      go_wp2_with fail
      go_ret
      exact ⟨ret_bool HD.out.symm, HBR.out⟩
set_option maxHeartbeats 4000000 in
set_option maxRecDepth 100000 in
theorem ssame_any (w : World) (c : Int) (l : List Ac) (A : Option Addr) (n cc : Nat) (h : ScAt w c l A n cc) (c' : Int) (l' : List Ac) (A' : Option Addr) (n' cc' : Nat) (h' : ScAt w c' l' A' n' cc') :
    Calls Tryz.prog 15 #[.agg (scC c A n cc), .agg (scC c' A' n' cc')] w fun e w' => e = .returned (.bool (sameSB c l c' l')) ∧ Below w.heap.size w w' := by
  have HS := Lib.hid h
  have HS' := Lib.hid h'
  clear h h'
  unfold scC
  go_enter Tryz.func15, Tryz.ntmps15
  go_upto_region 1 with fail
  have hq1 := heap_alloc_new w (.cells #[.int .i64 c, .slice A n cc] 38)
  have hs1 : (w.alloc (.cells #[.int .i64 c, .slice A n cc] 38)).heap.size = w.heap.size + 1 := by simp
  have hb1 := sbelow1 w (.cells #[.int .i64 c, .slice A n cc] 38)
  generalize w.alloc (.cells #[.int .i64 c, .slice A n cc] 38) = W1 at hq1 hs1 hb1 ⊢
  have hq2 := heap_alloc_new W1 (.cells #[.int .i64 c', .slice A' n' cc'] 38)
  have hb2 := hb1.trans ((sbelow1 W1 (.cells #[.int .i64 c', .slice A' n' cc'] 38)).mono hb1.size)
  have hq3 := (Below.heap_alloc W1 (.cells #[.int .i64 c', .slice A' n' cc'] 38) _ (Array.getElem?_eq_some_iff.1 hq1).1).trans hq1
  generalize W1.alloc (.cells #[.int .i64 c', .slice A' n' cc'] 38) = W2 at hq2 hb2 hq3 ⊢
  rw [hs1] at hq2
  have k0 : W2.cell? ⟨w.heap.size, 0, none⟩ = some (.int .i64 c) := by rw [World.cell?, hq3]; rfl
  have k1 : W2.cell? ⟨w.heap.size, 1, none⟩ = some (.slice A n cc) := by rw [World.cell?, hq3]; rfl
  have j0 : W2.cell? ⟨w.heap.size + 1, 0, none⟩ = some (.int .i64 c') := by rw [World.cell?, hq2]; rfl
  have j1 : W2.cell? ⟨w.heap.size + 1, 1, none⟩ = some (.slice A' n' cc') := by rw [World.cell?, hq2]; rfl
  have HB := Lib.hid hb2
  have HC := Lib.hid (seqf_any W2 l A n cc (HS.out.below hb2).row (Nat.le_trans HS.out.hn HS.out.hm) l' A' n' cc' (HS'.out.below hb2).row (Nat.le_trans HS'.out.hn HS'.out.hm))
  have HF : Hid (sameSB c l c' l' = (decide (c = c') && sameLB l l')) := Lib.hid rfl
  clear hq1 hs1 hb1 hq2 hb2 hq3 HS HS'
  by_cases hc : c = c'
  · have q1 : (c == c') = true := by simpa using hc
    rw [decide_eq_true hc, Bool.true_and] at HF
    clear hc
    go_wp2_with (go_at_call 43; (with_reducible refine HC.out.mono ?_); rintro e w3 ⟨rfl, hb⟩; have HB3 := Lib.hid (HB.out.trans (hb.mono HB.out.size)); clear hb)
    go_ret
    exact ⟨ret_bool HF.out.symm, HB3.out⟩
  · have q1 : (c == c') = false := by simpa using hc
    rw [decide_eq_false hc, Bool.false_and] at HF
    clear hc HC
    go_wp2_with fail
    go_ret
    exact ⟨ret_bool HF.out.symm, HB.out⟩
end Go.Proofs.YtlodoilihminaaaGreatDoor
