/-
  ref25.Cut, ref25.digit, ref25.Number.
-/
import Derived.Test.YtlodoilihminaaaGreatDoorScrZL
namespace Go.Proofs.YtlodoilihminaaaGreatDoor
open Go.ChangeShapes Go.WideShapes Go.ChangeAt Go.RowKit
set_option linter.unusedVariables false
set_option linter.unusedSimpArgs false
/-- words that are whole, and the one under way -/
def wdF : List UInt8 → List (List UInt8) × List UInt8
  | [] => ([], [])
  | c :: t => if c = 32 then ([] :: (wdF t).1, (wdF t).2) else match (wdF t).1 with
    | [] => ([], c :: (wdF t).2)
    | w :: r => ((c :: w) :: r, (wdF t).2)
theorem wdF_spl (t : List UInt8) : spl t = (wdF t).1 ++ [(wdF t).2] := by
  induction t with
  | nil => rfl
  | cons c t ih =>
    rw [spl, wdF]
    split
    · rw [ih]; rfl
    · rw [ih]
      cases h : (wdF t).1 with
      | nil => rfl
      | cons w r => rfl
theorem wdF_snoc (a : List UInt8) (c : UInt8) : wdF (a ++ [c]) = if c = 32 then ((wdF a).1 ++ [(wdF a).2], []) else ((wdF a).1, (wdF a).2 ++ [c]) := by
  induction a with
  | nil =>
    by_cases hc : c = 32
    · subst hc; rfl
    · rw [if_neg hc]
      show wdF [c] = _
      unfold wdF
      rw [if_neg hc]
      rfl
  | cons x a ih =>
    by_cases hx : x = 32
    · subst hx
      have e : ∀ b, wdF (32 :: b) = ([] :: (wdF b).1, (wdF b).2) := fun b => by rw [wdF, if_pos rfl]
      rw [List.cons_append, e, e, ih]
      split <;> rfl
    · have e : ∀ b, wdF (x :: b) = match (wdF b).1 with | [] => ([], x :: (wdF b).2) | w :: r => ((x :: w) :: r, (wdF b).2) := fun b => by rw [wdF, if_neg hx]
      rw [List.cons_append, e, e, ih]
      by_cases hc : c = 32
      · rw [if_pos hc, if_pos hc]
        cases h : (wdF a).1 with
        | nil => rfl
        | cons w r => rfl
      · rw [if_neg hc, if_neg hc]
        cases h : (wdF a).1 with
        | nil => rfl
        | cons w r => rfl
theorem wdF_count (t : List UInt8) : (wdF t).1.length ≤ t.length := by
  have h := spl_count t
  rw [wdF_spl, List.length_append, List.length_singleton] at h
  omega
/-- what has been cut at i -/
def cutR (t : List UInt8) (i : Nat) : List (List UInt8) := if i ≤ t.length then (wdF (t.take i)).1 else spl t
set_option maxHeartbeats 4000000 in
set_option maxRecDepth 100000 in
theorem rcut_any (w : World) (t : List UInt8) (ht : t.length ≤ 1000000) :
    Calls Tryz.prog 29 #[.string (S t)] w fun e w' => ∃ A n c, e = .returned (.slice A n c) ∧ n = (spl t).length ∧ n ≤ c ∧ NmRow w' w'.heap.size A n (spl t) ∧ RLo w.heap.size A n ∧ Below w.heap.size w w' := by
  have hsz := S_size t
  obtain ⟨ist, hist, hy0, hy1, hy2⟩ := info_parts str_info
  have HSS : Hid (∀ j (h : j < t.length) (h2 : j < (S t).size), (S t)[j]'h2 = t[j]'h) := Lib.hid fun j h h2 => rfl
  have HEX := Lib.hid (S_extract t)
  obtain ⟨st, hst⟩ : ∃ st, st = S t := ⟨_, rfl⟩
  have HST := Lib.hid hst
  rw [← hst] at hsz HEX ⊢
  have HSS2 : Hid (∀ j (h : j < t.length) (h2 : j < st.size), st[j]'h2 = t[j]'h) := Lib.hid (by subst hst; exact HSS.out)
  clear hst HSS
  go_enter Tryz.func29, Tryz.ntmps29
  go_wp2_with fail
  go_loopw [3, 4, 5] (fun v fv iv wr => ∃ (i f : Nat), i ≤ t.length + 1 ∧ f ≤ i ∧ iv = .int .i64 (i : Int) ∧ fv = .int .i64 (f : Int) ∧ Hid (i ≤ t.length → (wdF (t.take i)).2 = (t.take i).drop f) ∧ Hid (wr.ownsRow w.heap.size 9 1 v (cutR t i).length (strV (cutR t i))) ∧ Hid (Below w.heap.size w wr)) (fun _ _ iv _ => t.length + 1 - (intOf iv).toNat)
  case atStart => exact ⟨0, 0, Nat.zero_le _, Nat.zero_le _, rfl, rfl, Lib.hid fun _ => rfl, Lib.hid (World.ownsRow_nil _ _ _ _), Lib.hid (Below.refl _ _)⟩
  case round =>
    obtain ⟨i, f, hi, hf, rfl, rfl, HF, HO, HB⟩ := hrel
    by_cases hlt : i < t.length
    · have hq : i < st.size := by omega
      have g1 := HSS2.out i hlt hq
      have htk : t.take (i + 1) = t.take i ++ [t[i]] := List.take_succ_eq_append_getElem hlt
      have hsn := wdF_snoc (t.take i) t[i]
      rw [← htk] at hsn
      have hdr : f ≤ (t.take i).length := by rw [List.length_take]; omega
      have hc1 := wdF_count (t.take i)
      have hti : (t.take i).length ≤ i := by rw [List.length_take]; omega
      have hcl : (wdF (t.take i)).1.length ≤ 1000000 := by omega
      have hex := HEX.out f i
      have hFi := HF.out (by omega)
      rw [← hFi] at hex
      have hR0 : cutR t i = (wdF (t.take i)).1 := by unfold cutR; rw [if_pos (by omega)]
      have hR1 : cutR t (i + 1) = (wdF (t.take (i + 1))).1 := by unfold cutR; rw [if_pos (by omega)]
      have hO0 := HO.out
      rw [hR0] at hO0
      have HHO := Lib.hid hO0
      have HR1 := Lib.hid hR1
      have HFI := Lib.hid hFi
      obtain ⟨ch, hch⟩ : ∃ ch, ch = t[i] := ⟨_, rfl⟩
      rw [← hch] at g1 htk hsn
      have HTK := Lib.hid htk
      have HDR := Lib.hid hdr
      have hne : ((i : Int) == (t.length : Int)) = false := by simp; omega
      by_cases h10 : ch = 32
      · rw [if_pos h10] at hsn
        have HSN := Lib.hid hsn
        have h10' : ((ch.toNat : Int) == 32) = true := by rw [h10]; decide
        have ri1 : ∀ V : World, (Instr.index 9 (.string st) (.int .i64 (i : Int))).run Tryz.prog V = .ok (.int .u8 (ch.toNat : Int)) V := fun V => by
          rw [run_index_string (P := Tryz.prog) V 9 st .i64 (i : Int) Tryz.underlying9]
          simp [hq, g1]
        have hs1 : f ≤ st.size := by omega
        clear hch hsn htk hdr g1 h10 hc1 hR0 hR1 hO0 hFi
        have HBW := Lib.hid HB.out
        have hsB := HB.out.size
        go_wp2_with (at_builtin; refine wpList_append_any rfl _ _ 25 rfl w.heap.size 9 ist (.string .empty) 16 Tryz.underlying25 hist hy0 hy1 hy2 rfl _ (wdF (t.take i)).1.length (strV (wdF (t.take i)).1) rfl (HHO.out.alloc _) (some ⟨wr.heap.size, 0, none⟩) 1 1 [.string (S (wdF (t.take i)).2)] rfl rfl (fun _ => ⟨_, rfl, World.news_of_block (cs := #[.string (S (wdF (t.take i)).2)]) (t := 9) (fr := (0, 0)) (heap_alloc_new wr _)⟩) (by intro u hu; simp at hu; subst hu; rfl) (by unfold maxLen; omega) (by omega) (by simp; omega) ?_; intro v4 w4 ho hg; have HO4 := Lib.hid ho; have HB4 : Hid (Below w.heap.size w w4) := Lib.hid ((HBW.out.alloc HBW.out.size _).grown hg (by simp; omega) (fun k e => (HHO.out.lt k e).1)); clear ho hg)
        refine ⟨⟨i + 1, i + 1, by omega, Nat.le_refl _, by go_num, by go_num, Lib.hid fun _ => ?_, Lib.hid ?_, HB4⟩, by simp [intOf]; omega⟩
        · rw [HSN.out]
          simp
        · rw [HR1.out, HSN.out]
          simp only [List.length_append, List.length_singleton]
          rw [strV_snoc]
          exact HO4.out
      · rw [if_neg h10] at hsn
        have HSN := Lib.hid hsn
        have h10' : ((ch.toNat : Int) == 32) = false := by
          simp
          intro e
          apply h10
          apply UInt8.toNat_inj.1
          have : (32 : UInt8).toNat = 32 := rfl
          omega
        have ri1 : ∀ V : World, (Instr.index 9 (.string st) (.int .i64 (i : Int))).run Tryz.prog V = .ok (.int .u8 (ch.toNat : Int)) V := fun V => by
          rw [run_index_string (P := Tryz.prog) V 9 st .i64 (i : Int) Tryz.underlying9]
          simp [hq, g1]
        have HF2 : Hid (i + 1 ≤ t.length → (wdF (t.take (i + 1))).2 = (t.take (i + 1)).drop f) := Lib.hid fun _ => (by
          rw [HSN.out, HTK.out]
          show (wdF (t.take i)).2 ++ [ch] = _
          rw [HFI.out, List.drop_append_of_le_length HDR.out])
        have HO2 : Hid (wr.ownsRow w.heap.size 9 1 u3 (cutR t (i + 1)).length (strV (cutR t (i + 1)))) := Lib.hid (by rw [HR1.out, HSN.out]; exact HHO.out)
        clear hch hsn htk hdr g1 h10 hc1 hR0 hR1 hO0 hFi
        go_wp2_with fail
        exact ⟨⟨i + 1, f, by omega, by omega, by go_num, rfl, HF2, HO2, HB⟩, by simp [intOf]; omega⟩
    · by_cases hle : i ≤ t.length
      · have hil : i = t.length := by omega
        subst hil
        have htk : t.take t.length = t := List.take_length
        have hex := HEX.out f t.length
        have hFi := HF.out (Nat.le_refl _)
        rw [← hFi, htk] at hex
        have hR0 : cutR t t.length = (wdF t).1 := by unfold cutR; rw [if_pos (Nat.le_refl _), htk]
        have hR1 : cutR t (t.length + 1) = (wdF t).1 ++ [(wdF t).2] := by unfold cutR; rw [if_neg (by omega), wdF_spl]
        have hO0 := HO.out
        rw [hR0] at hO0
        have HHO := Lib.hid hO0
        have HR1 := Lib.hid hR1
        have hcl : (wdF t).1.length ≤ 1000000 := by have := wdF_count t; omega
        have hs1 : f ≤ st.size := by omega
        have hsq : t.length ≤ st.size := by omega
        have HBW := Lib.hid HB.out
        have hsB := HB.out.size
        clear htk hFi hR0 hR1 hO0 hlt hle
        go_wp2_with (at_builtin; refine wpList_append_any rfl _ _ 25 rfl w.heap.size 9 ist (.string .empty) 16 Tryz.underlying25 hist hy0 hy1 hy2 rfl _ (wdF t).1.length (strV (wdF t).1) rfl (HHO.out.alloc _) (some ⟨wr.heap.size, 0, none⟩) 1 1 [.string (S (wdF t).2)] rfl rfl (fun _ => ⟨_, rfl, World.news_of_block (cs := #[.string (S (wdF t).2)]) (t := 9) (fr := (0, 0)) (heap_alloc_new wr _)⟩) (by intro u hu; simp at hu; subst hu; rfl) (by unfold maxLen; omega) (by omega) (by simp; omega) ?_; intro v4 w4 ho hg; have HO4 := Lib.hid ho; have HB4 : Hid (Below w.heap.size w w4) := Lib.hid ((HBW.out.alloc HBW.out.size _).grown hg (by simp; omega) (fun k e => (HHO.out.lt k e).1)); clear ho hg)
        refine ⟨⟨t.length + 1, t.length + 1, Nat.le_refl _, Nat.le_refl _, by go_num, by go_num, Lib.hid fun h => absurd h (by omega), Lib.hid ?_, HB4⟩, by simp [intOf]⟩
        rw [HR1.out]
        simp only [List.length_append, List.length_singleton]
        rw [strV_snoc]
        exact HO4.out
      · have hR : cutR t i = spl t := by unfold cutR; rw [if_neg hle]
        have hO := HO.out
        rw [hR] at hO
        obtain ⟨A, c, rfl, hc, hnm, hlo⟩ := nm_own hO (fun x hx => by have := spl_mem t x hx; unfold maxLen; omega)
        have HNM := Lib.hid (⟨hc, hnm, hlo⟩ : _ ∧ _ ∧ _)
        clear hO hR hc hnm hlo HO HF
        go_wp2_with fail
        go_ret
        exact ⟨A, _, c, rfl, rfl, HNM.out.1, HNM.out.2.1, HNM.out.2.2, HB.out⟩
theorem ret_i {k : IntKind} {a b : Int} (h : a = b) : Ending.returned (.int k a) = Ending.returned (.int k b) := by rw [h]
theorem digit_any (w : World) (x : UInt8) : Calls Tryz.prog 31 #[.int .u8 (x.toNat : Int)] w fun e w' => e = .returned (.int .u8 ((hv x : Nat) : Int)) ∧ w = w' := by
  have hx := x.toNat_lt
  have HV : Hid (hv x = if 97 ≤ x.toNat ∧ x.toNat ≤ 102 then x.toNat - 87 else if 48 ≤ x.toNat ∧ x.toNat ≤ 57 then x.toNat - 48 else 0) := Lib.hid rfl
  generalize hv x = h at *
  generalize x.toNat = n at *
  have hc : 97 ≤ n ∧ n ≤ 102 ∨ 48 ≤ n ∧ n ≤ 57 ∨ n < 48 ∨ (58 ≤ n ∧ n < 97) ∨ 102 < n := by omega
  rcases hc with ⟨h1, h2⟩ | ⟨h1, h2⟩ | h1 | ⟨h1, h2⟩ | h1
  · have hv2 := HV.out
    rw [if_pos ⟨h1, h2⟩] at hv2
    have hw1 : IntKind.u8.wrap ((n : Int) - 97) = (n : Int) - 97 := by rw [IntKind.wrap_u8]; omega
    have hw2 : IntKind.u8.wrap ((n : Int) - 97 + 10) = (n : Int) - 97 + 10 := by rw [IntKind.wrap_u8]; omega
    have g1 : ¬ (n : Int) < 97 := by omega
    have g2 : (n : Int) ≤ 102 := by omega
    have g3 : (97 : Int) ≤ n := by omega
    have HV2 := Lib.hid hv2
    clear hv2
    go_enter Tryz.func31, Tryz.ntmps31
    go_wp2_with fail
    go_ret
    exact ⟨ret_i (by rw [HV2.out]; omega), rfl⟩
  · have hv2 := HV.out
    rw [if_neg (by omega), if_pos ⟨h1, h2⟩] at hv2
    have hw1 : IntKind.u8.wrap ((n : Int) - 48) = (n : Int) - 48 := by rw [IntKind.wrap_u8]; omega
    have g1 : (n : Int) < 97 := by omega
    have g2 : (n : Int) ≤ 57 := by omega
    have g3 : (48 : Int) ≤ n := by omega
    have g4 : ¬ (97 : Int) ≤ n := by omega
    have HV2 := Lib.hid hv2
    clear hv2
    go_enter Tryz.func31, Tryz.ntmps31
    go_wp2_with fail
    go_ret
    exact ⟨ret_i (by rw [HV2.out]; omega), rfl⟩
  all_goals
    have hv2 := HV.out
    rw [if_neg (by omega), if_neg (by omega)] at hv2
    have HV2 := Lib.hid hv2
    clear hv2
    go_enter Tryz.func31, Tryz.ntmps31
    go_wp2_with fail
    go_ret
    exact ⟨ret_i (by rw [HV2.out]; rfl), rfl⟩
set_option maxHeartbeats 4000000 in
set_option maxRecDepth 100000 in
theorem rnumber_any (w : World) (t : List UInt8) (ht : t.length ≤ 1000000) (hT : Tb w) :
    Calls Tryz.prog 32 #[.string (S t)] w fun e w' => e = .returned (.int .i64 (numR t)) ∧ Below w.heap.size w w' := by
  have hsz := S_size t
  have HT := Lib.hid hT
  have HSS : Hid (∀ j (h : j < t.length) (h2 : j < (S t).size), (S t)[j]'h2 = t[j]'h) := Lib.hid fun j h h2 => rfl
  have HNE := Lib.hid (fun l : List UInt8 => S_ne (l := l) (m := t))
  obtain ⟨st, hst⟩ : ∃ st, st = S t := ⟨_, rfl⟩
  rw [← hst] at hsz HNE ⊢
  have HSS2 : Hid (∀ j (h : j < t.length) (h2 : j < st.size), st[j]'h2 = t[j]'h) := Lib.hid (by subst hst; exact HSS.out)
  have HNO : Hid ((t.take 14).all isD = false → numR t = -1) := Lib.hid fun h => by unfold numR; rw [if_neg (by rw [h]; decide)]
  have HYES : Hid ((t.take 14).all isD = true → numR t = if Lib.itoa (nrV (t.take 14) : Nat) = t then ((nrV (t.take 14) : Nat) : Int) else (-1 : Int)) := Lib.hid fun h => by unfold numR; rw [if_pos h]
  clear hst HSS hT
  go_enter Tryz.func32, Tryz.ntmps32
  go_wp2_with fail
  go_loopw [3, 4] (fun nv iv wr => ∃ (i : Nat), i ≤ t.length ∧ i ≤ 14 ∧ iv = .int .i64 (i : Int) ∧ nv = .int .i64 ((nrV (t.take i) : Nat) : Int) ∧ Hid ((t.take i).all isD = true) ∧ wr = w) (fun _ iv _ => 14 - (intOf iv).toNat)
  case atStart => exact ⟨0, Nat.zero_le _, by omega, rfl, rfl, Lib.hid rfl, rfl⟩
  case round =>
    obtain ⟨i, hi, h14, rfl, rfl, HA, rfl⟩ := hrel
    have hlt2 : nrV (t.take i) < 100000000000000 := by
      have h1 := nrV_lt (t.take i) fun c hc => List.all_eq_true.1 HA.out c hc
      have h2 : (t.take i).length ≤ 14 := by rw [List.length_take]; omega
      have h3 : 10 ^ (t.take i).length ≤ 10 ^ 14 := Nat.pow_le_pow_right (by omega) h2
      omega
    by_cases hlt : i < t.length ∧ i < 14
    · obtain ⟨hlt, hl14⟩ := hlt
      have hq : i < st.size := by omega
      have g1 := HSS2.out i hlt hq
      have htk : t.take (i + 1) = t.take i ++ [t[i]] := List.take_succ_eq_append_getElem hlt
      obtain ⟨ch, hch⟩ : ∃ ch, ch = t[i] := ⟨_, rfl⟩
      rw [← hch] at g1 htk
      have ri1 : ∀ V : World, (Instr.index 9 (.string st) (.int .i64 (i : Int))).run Tryz.prog V = .ok (.int .u8 (ch.toNat : Int)) V := fun V => by
        rw [run_index_string (P := Tryz.prog) V 9 st .i64 (i : Int) Tryz.underlying9]
        simp [hq, g1]
      have HCH := Lib.hid hch
      have HTK := Lib.hid htk
      clear hch htk g1
      have hI : (i : Int) < (t.length : Int) := by omega
      have hI2 : (i : Int) < 14 := by omega
      by_cases hd : isD ch = true
      · have hd2 : 48 ≤ ch.toNat ∧ ch.toNat ≤ 57 := by unfold isD at hd; simpa using hd
        have hb1 : ¬ (ch.toNat : Int) < 48 := by omega
        have hb2 : ¬ (57 : Int) < (ch.toNat : Int) := by omega
        have HN : Hid (nrV (t.take (i + 1)) = 10 * nrV (t.take i) + (ch.toNat - 48)) := Lib.hid (by rw [HTK.out, nrV_snoc])
        have HA2 : Hid ((t.take (i + 1)).all isD = true) := Lib.hid (by rw [HTK.out, List.all_append, HA.out]; simp [hd])
        generalize nrV (t.take i) = N at *
        have hw1 : IntKind.u8.wrap ((ch.toNat : Int) - 48) = (ch.toNat : Int) - 48 := by rw [IntKind.wrap_u8]; omega
        have hw2 : IntKind.i64.wrap (10 * (N : Int)) = 10 * (N : Int) := by rw [IntKind.wrap_i64]; omega
        have hw3 : IntKind.i64.wrap ((ch.toNat : Int) - 48) = (ch.toNat : Int) - 48 := by rw [IntKind.wrap_i64]; omega
        have hw4 : IntKind.i64.wrap (10 * (N : Int) + ((ch.toNat : Int) - 48)) = 10 * (N : Int) + ((ch.toNat : Int) - 48) := by rw [IntKind.wrap_i64]; omega
        have HD2 := Lib.hid hd2
        clear hd hd2 hlt2 hi h14
        go_wp2_with fail
        refine ⟨⟨i + 1, by omega, by omega, by go_num, ?_, HA2, by first | rfl | trivial⟩, by simp [intOf]; omega⟩
        rw [HN.out]
        have := HD2.out
        congr 1
        first | omega | (simp only [IntKind.wrap_i64, IntKind.wrap_u8]; omega)
      · have hd2 : ¬ (48 ≤ ch.toNat ∧ ch.toNat ≤ 57) := by unfold isD at hd; simpa using hd
        have HR : Hid (numR t = -1) := Lib.hid (HNO.out (by
          rw [Bool.eq_false_iff]
          intro h
          refine hd (List.all_eq_true.1 h ch ?_)
          have : ch ∈ t.take (i + 1) := by rw [HTK.out]; simp
          exact List.mem_of_mem_take (by rw [List.take_take, Nat.min_eq_left (by omega)]; exact this : ch ∈ (t.take 14).take (i + 1))))
        clear hd hlt2
        by_cases hb1 : (ch.toNat : Int) < 48
        · clear hd2
          go_wp2_with fail
          go_ret
          exact ⟨ret_i HR.out.symm, Below.refl _ _⟩
        · have hb2 : (57 : Int) < (ch.toNat : Int) := by omega
          clear hd2
          go_wp2_with fail
          go_ret
          exact ⟨ret_i HR.out.symm, Below.refl _ _⟩
    · have htk : t.take i = t.take 14 := by
        by_cases h1 : i < t.length
        · have : i = 14 := by omega
          rw [this]
        · rw [List.take_of_length_le (by omega), List.take_of_length_le (by omega)]
      have hyes := HYES.out (by rw [← htk]; exact HA.out)
      rw [← htk] at hyes
      have hne := HNE.out (Lib.itoa (nrV (t.take i) : Nat))
      generalize nrV (t.take i) = N at *
      have HIT : Hid (Calls Tryz.prog 41 #[.int .i64 (N : Int)] wr fun e w' => e = .returned (.string (S (Lib.itoa (N : Int)))) ∧ Below wr.heap.size wr w') := Lib.hid ((Tryz.strconv_Itoa (N : Int) (by omega) (by omega) wr HT.out.t).mono fun e w' ⟨h1, k, os, h2⟩ => ⟨h1, by rw [h2]; exact grow_below _ _ _⟩)
      by_cases he : Lib.itoa (N : Int) = t
      · rw [decide_eq_true he] at hne
        rw [if_pos he] at hyes
        have HR := Lib.hid hyes
        generalize S (Lib.itoa (N : Int)) = si at *
        clear he hyes htk hlt2 HA
        by_cases h1 : (i : Int) < (t.length : Int)
        · have h2 : ¬ (i : Int) < 14 := by omega
          clear hlt
          go_wp2_with (go_at_call 41; (with_reducible refine HIT.out.mono ?_); rintro e w2 ⟨rfl, hb⟩; have HB := Lib.hid hb; clear hb)
          go_ret
          exact ⟨ret_i HR.out.symm, HB.out⟩
        · clear hlt
          go_wp2_with (go_at_call 41; (with_reducible refine HIT.out.mono ?_); rintro e w2 ⟨rfl, hb⟩; have HB := Lib.hid hb; clear hb)
          go_ret
          exact ⟨ret_i HR.out.symm, HB.out⟩
      · rw [decide_eq_false he] at hne
        rw [if_neg he] at hyes
        have HR := Lib.hid hyes
        generalize S (Lib.itoa (N : Int)) = si at *
        clear he hyes htk hlt2 HA
        by_cases h1 : (i : Int) < (t.length : Int)
        · have h2 : ¬ (i : Int) < 14 := by omega
          clear hlt
          go_wp2_with (go_at_call 41; (with_reducible refine HIT.out.mono ?_); rintro e w2 ⟨rfl, hb⟩; have HB := Lib.hid hb; clear hb)
          go_ret
          exact ⟨ret_i HR.out.symm, HB.out⟩
        · clear hlt
          go_wp2_with (go_at_call 41; (with_reducible refine HIT.out.mono ?_); rintro e w2 ⟨rfl, hb⟩; have HB := Lib.hid hb; clear hb)
          go_ret
          exact ⟨ret_i HR.out.symm, HB.out⟩
end Go.Proofs.YtlodoilihminaaaGreatDoor
