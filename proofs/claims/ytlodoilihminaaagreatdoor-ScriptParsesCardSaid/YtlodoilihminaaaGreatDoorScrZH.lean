/-
  ref25.Lines.
-/
import Derived.Test.YtlodoilihminaaaGreatDoorScrZG
namespace Go.Proofs.YtlodoilihminaaaGreatDoor
open Go.ChangeShapes Go.WideShapes Go.ChangeAt Go.RowKit
set_option linter.unusedVariables false
set_option linter.unusedSimpArgs false
theorem lnF_snoc (a : List UInt8) (c : UInt8) : lnF (a ++ [c]) = if c = 10 then ((lnF a).1 ++ [(lnF a).2], []) else ((lnF a).1, (lnF a).2 ++ [c]) := by
  induction a with
  | nil =>
    by_cases hc : c = 10
    · subst hc; rfl
    · rw [if_neg hc]
      show lnF [c] = _
      unfold lnF
      rw [if_neg hc]
      rfl
  | cons x a ih =>
    by_cases hx : x = 10
    · subst hx
      have e : ∀ b, lnF (10 :: b) = ([] :: (lnF b).1, (lnF b).2) := fun b => by rw [lnF, if_pos rfl]
      rw [List.cons_append, e, e, ih]
      split <;> rfl
    · have e : ∀ b, lnF (x :: b) = match (lnF b).1 with | [] => ([], x :: (lnF b).2) | w :: r => ((x :: w) :: r, (lnF b).2) := fun b => by rw [lnF, if_neg hx]; cases (lnF b).1 <;> rfl
      rw [List.cons_append, e, e, ih]
      by_cases hc : c = 10
      · rw [if_pos hc, if_pos hc]
        cases h : (lnF a).1 with
        | nil => rfl
        | cons w r => rfl
      · rw [if_neg hc, if_neg hc]
        cases h : (lnF a).1 with
        | nil => rfl
        | cons w r => rfl
theorem lnF_lens (t : List UInt8) : ((lnF t).1.map fun x => x.length + 1).sum + (lnF t).2.length = t.length := by
  induction t with
  | nil => rfl
  | cons c t ih =>
    by_cases hc : c = 10
    · have e : lnF (c :: t) = ([] :: (lnF t).1, (lnF t).2) := by rw [lnF, if_pos hc]
      rw [e]
      simp only [List.map_cons, List.sum_cons, List.length_nil, List.length_cons]
      omega
    · have e : lnF (c :: t) = match (lnF t).1 with | [] => ([], c :: (lnF t).2) | w :: r => ((c :: w) :: r, (lnF t).2) := by rw [lnF, if_neg hc]; cases (lnF t).1 <;> rfl
      rw [e]
      cases h : (lnF t).1 with
      | nil => rw [h] at ih; simp at ih ⊢; omega
      | cons w r => rw [h] at ih; simp only [List.map_cons, List.sum_cons, List.length_cons] at ih ⊢; omega
theorem lnF_count (t : List UInt8) : (lnF t).1.length ≤ t.length := by
  have h := lnF_lens t
  have : ∀ l : List (List UInt8), l.length ≤ (l.map fun x => x.length + 1).sum := fun l => by
    induction l with
    | nil => simp
    | cons x l ih => simp only [List.map_cons, List.sum_cons, List.length_cons]; omega
  have := this (lnF t).1
  omega
theorem lnF_mem (t : List UInt8) : ∀ x ∈ (lnF t).1, x.length ≤ t.length := by
  intro x hx
  have h := lnF_lens t
  have : ∀ l : List (List UInt8), x ∈ l → x.length ≤ (l.map fun x => x.length + 1).sum := fun l => by
    induction l with
    | nil => intro h; cases h
    | cons y l ih =>
      intro h
      rw [List.mem_cons] at h
      simp only [List.map_cons, List.sum_cons]
      rcases h with rfl | h
      · omega
      · have := ih h; omega
  have := this _ hx
  omega
theorem S_extract (t : List UInt8) (f i : Nat) : (S t).extract f i = S ((t.take i).drop f) := by
  apply ByteArray.ext
  rw [ByteArray.data_extract]
  apply Array.toList_inj.1
  simp [S, List.drop_take, List.extract]
theorem strV_snoc (ls : List (List UInt8)) (x : List UInt8) : strV (ls ++ [x]) = strV ls ++ [.string (S x)] := by unfold strV; simp
set_option maxHeartbeats 4000000 in
set_option maxRecDepth 100000 in
theorem rlines_any (w : World) (t : List UInt8) (ht : t.length ≤ 1000000) :
    Calls Tryz.prog 48 #[.string (S t)] w fun e w' => ∃ A n c, e = .returned (.tuple #[.slice A n c, .string (S (lnF t).2)]) ∧ NmRow w' w'.heap.size A n (lnF t).1 ∧ Below w.heap.size w w' := by
  have hsz := S_size t
  obtain ⟨ist, hist, hy0, hy1, hy2⟩ := info_parts str_info
  have HSS : Hid (∀ j (h : j < t.length) (h2 : j < (S t).size), (S t)[j]'h2 = t[j]'h) := Lib.hid fun j h h2 => rfl
  have HEX := Lib.hid (S_extract t)
  obtain ⟨st, hst⟩ : ∃ st, st = S t := ⟨_, rfl⟩
  have HST := Lib.hid hst
  rw [← hst] at hsz HEX ⊢
  have HSS2 : Hid (∀ j (h : j < t.length) (h2 : j < st.size), st[j]'h2 = t[j]'h) := Lib.hid (by subst hst; exact HSS.out)
  clear hst HSS
  go_enter Tryz.func48, Tryz.ntmps48
  go_wp2_with fail
  go_loopw [4, 5, 6] (fun v fv iv wr => ∃ (i f : Nat), i ≤ t.length ∧ f ≤ i ∧ iv = .int .i64 (i : Int) ∧ fv = .int .i64 (f : Int) ∧ Hid ((lnF (t.take i)).2 = (t.take i).drop f) ∧ Hid (wr.ownsRow w.heap.size 9 1 v (lnF (t.take i)).1.length (strV (lnF (t.take i)).1)) ∧ Hid (Below w.heap.size w wr)) (fun _ _ iv _ => t.length - (intOf iv).toNat)
  case atStart => exact ⟨0, 0, Nat.zero_le _, Nat.zero_le _, rfl, rfl, Lib.hid rfl, Lib.hid (World.ownsRow_nil _ _ _ _), Lib.hid (Below.refl _ _)⟩
  case round =>
    obtain ⟨i, f, hi, hf, rfl, rfl, HF, HO, HB⟩ := hrel
    by_cases hlt : i < t.length
    · have hq : i < st.size := by omega
      have g1 := HSS2.out i hlt hq
      have htk : t.take (i + 1) = t.take i ++ [t[i]] := List.take_succ_eq_append_getElem hlt
      have hsn := lnF_snoc (t.take i) t[i]
      rw [← htk] at hsn
      have hdr : f ≤ (t.take i).length := by rw [List.length_take]; omega
      have hc1 := lnF_count (t.take i)
      have hti : (t.take i).length ≤ i := by rw [List.length_take]; omega
      have hcl : (lnF (t.take i)).1.length ≤ 1000000 := by omega
      have hex := HEX.out f i
      rw [← HF.out] at hex
      obtain ⟨ch, hch⟩ : ∃ ch, ch = t[i] := ⟨_, rfl⟩
      rw [← hch] at g1 htk hsn
      have HTK := Lib.hid htk
      have HDR := Lib.hid hdr
      by_cases h10 : ch = 10
      · rw [if_pos h10] at hsn
        have HSN := Lib.hid hsn
        have h10' : ((ch.toNat : Int) == 10) = true := by rw [h10]; decide
        have ri1 : ∀ V : World, (Instr.index 9 (.string st) (.int .i64 (i : Int))).run Tryz.prog V = .ok (.int .u8 (ch.toNat : Int)) V := fun V => by
          rw [run_index_string (P := Tryz.prog) V 9 st .i64 (i : Int) Tryz.underlying9]
          simp [hq, g1]
        have hs1 : f ≤ st.size := by omega
        clear hch hsn htk hdr g1 h10 hc1
        have HHO := Lib.hid HO.out
        have HBW := Lib.hid HB.out
        have hsB := HB.out.size
        go_wp2_with (at_builtin; refine wpList_append_any rfl _ _ 25 rfl w.heap.size 9 ist (.string .empty) 16 Tryz.underlying25 hist hy0 hy1 hy2 rfl _ (lnF (t.take i)).1.length (strV (lnF (t.take i)).1) rfl (HHO.out.alloc _) (some ⟨wr.heap.size, 0, none⟩) 1 1 [.string (S (lnF (t.take i)).2)] rfl rfl (fun _ => ⟨_, rfl, World.news_of_block (cs := #[.string (S (lnF (t.take i)).2)]) (t := 9) (fr := (0, 0)) (heap_alloc_new wr _)⟩) (by intro u hu; simp at hu; subst hu; rfl) (by unfold maxLen; omega) (by omega) (by simp; omega) ?_; intro v4 w4 ho hg; have HO4 := Lib.hid ho; have HB4 : Hid (Below w.heap.size w w4) := Lib.hid ((HBW.out.alloc HBW.out.size _).grown hg (by simp; omega) (fun k e => (HHO.out.lt k e).1)); clear ho hg)
        refine ⟨⟨i + 1, i + 1, by omega, Nat.le_refl _, by go_num, by go_num, Lib.hid ?_, Lib.hid ?_, HB4⟩, by simp [intOf]; omega⟩
        · rw [HSN.out]
          simp
        · rw [HSN.out]
          simp only [List.length_append, List.length_singleton]
          rw [strV_snoc]
          exact HO4.out
      · rw [if_neg h10] at hsn
        have HSN := Lib.hid hsn
        have h10' : ((ch.toNat : Int) == 10) = false := by
          simp
          intro e
          apply h10
          apply UInt8.toNat_inj.1
          have : (10 : UInt8).toNat = 10 := rfl
          omega
        have ri1 : ∀ V : World, (Instr.index 9 (.string st) (.int .i64 (i : Int))).run Tryz.prog V = .ok (.int .u8 (ch.toNat : Int)) V := fun V => by
          rw [run_index_string (P := Tryz.prog) V 9 st .i64 (i : Int) Tryz.underlying9]
          simp [hq, g1]
        have HF2 : Hid ((lnF (t.take (i + 1))).2 = (t.take (i + 1)).drop f) := Lib.hid (by
          rw [HSN.out, HTK.out]
          show (lnF (t.take i)).2 ++ [ch] = _
          rw [HF.out, List.drop_append_of_le_length HDR.out])
        have HO2 : Hid (wr.ownsRow w.heap.size 9 1 u4 (lnF (t.take (i + 1))).1.length (strV (lnF (t.take (i + 1))).1)) := Lib.hid (by rw [HSN.out]; exact HO.out)
        clear hch hsn htk hdr g1 h10 hc1
        go_wp2_with fail
        exact ⟨⟨i + 1, f, by omega, by omega, by go_num, rfl, HF2, HO2, HB⟩, by simp [intOf]; omega⟩
    · have hin : i = t.length := by omega
      have htk : t.take i = t := List.take_of_length_le (by omega)
      have HF2 := HF.out
      have HO2 := HO.out
      rw [htk] at HF2 HO2
      have hex : st.extract f st.size = S (lnF t).2 := by rw [HEX.out, HF2, List.take_of_length_le (by omega)]
      obtain ⟨A, c, rfl, hc, hnm, -⟩ := nm_own HO2 (fun x hx => by have := lnF_mem t x hx; unfold maxLen; omega)
      have HNM := Lib.hid hnm
      have hfs : f ≤ st.size := by omega
      clear hnm HF2 HO2 htk HF HO
      have hex2 : st.extract f t.length = S (lnF t).2 := by rw [← hsz]; exact hex
      have HX2 := Lib.hid hex2
      clear hex hex2
      go_wp2_with fail
      go_quiet (fail)
      go_wp2_with fail
      go_ret2
      exact ⟨A, _, c, by first | rfl | (rw [← HX2.out]; rfl), HNM.out.below (drewN_below wr _), HB.out.trans ((drewN_below wr _).mono HB.out.size)⟩
end Go.Proofs.YtlodoilihminaaaGreatDoor
