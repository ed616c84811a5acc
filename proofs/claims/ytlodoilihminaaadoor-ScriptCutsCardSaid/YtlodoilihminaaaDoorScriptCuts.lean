/-
  For every script, and any place: its text, cut there, is read as the document says; whatever the world holds.
-/
import Derived.Test.YtlodoilihminaaaDoorScrZI
import Derived.Test.YtlodoilihminaaaDoorCards
import Derived.Test.YtlodoilihminaaaDoorTie
import Derived.Deep.DeepHandedRow
import Derived.Lib.LaidTab
import Derived.SevenTiedAt
import Derived.Stop.Joined
namespace Go.Proofs.YtlodoilihminaaaDoor.scriptCuts
open Go.ChangeShapes Go.WideShapes Go.ChangeAt Go.RowKit
open Go.ChangeMaps (open_string shut_string)
set_option linter.unusedVariables false
set_option linter.unusedSimpArgs false
theorem acts_bytes {w : World} {l : List Ac} {A : Option Addr} {n : Nat} (h : ScRow w l A n) : ∀ a ∈ l, ∀ x ∈ a.bytes, 0 ≤ x ∧ x < 256 := by
  intro a ha x hx
  obtain ⟨k, hk, rfl⟩ := List.getElem_of_mem ha
  obtain ⟨x', a', bA, bn, bc, nA, nn, nc, -, -, h1, -, h2, -⟩ := h.at (k := k) (by rw [← h.1]; exact hk)
  rw [List.getElem?_eq_getElem hk] at h1
  cases h1
  exact h2.hbb x hx
set_option maxHeartbeats 4000000 in
set_option maxRecDepth 100000 in
theorem walk (c : Int) (l : List Ac) (A : Option Addr) (n cc : Nat) (m : Int) (w : World) (ws : ScAt w c l A n cc) (_ : True) (wm : (Lit.int .i64 m).wf = true) (hT : Tb w) :
    Calls Tryd.prog 5 #[.agg (scC c A n cc), .int .i64 m] w fun e w' => e = .returned (.bool true) ∧ Below w.heap.size w w' := by
  have hm := bd_i64 wm
  have hq0 := heap_alloc_new w (.cells #[.int .i64 c, .slice A n cc] 46)
  have hb0 := sbelow1 w (.cells #[.int .i64 c, .slice A n cc] 46)
  have HT := Lib.hid hT
  have HS := Lib.hid ws
  clear hT ws wm
  unfold scC
  go_enter Tryd.func5, Tryd.ntmps5
  go_upto_region 1 with fail
  generalize w.alloc (.cells #[.int .i64 c, .slice A n cc] 46) = W1 at hq0 hb0 ⊢
  have HC : Hid (∀ V : World, Below W1.heap.size W1 V → Below w.heap.size w V ∧ V.cell? ⟨w.heap.size, 0, none⟩ = some (.int .i64 c) ∧ V.cell? ⟨w.heap.size, 1, none⟩ = some (.slice A n cc)) := Lib.hid fun V hV => by
    have hq := (hV.block _ (Array.getElem?_eq_some_iff.1 hq0).1).trans hq0
    refine ⟨hb0.trans (hV.mono hb0.size), ?_, ?_⟩ <;> (rw [World.cell?, hq]; rfl)
  have HMU : Hid (∀ V : World, Below W1.heap.size W1 V → Calls Tryd.prog 18 #[.agg #[.int .i64 c, .slice A n cc]] V fun e v => e = .returned (.bool (muchB l)) ∧ Below W1.heap.size W1 v) := Lib.hid fun V hV =>
    (much_any V c l A n cc (HS.out.below (HC.out V hV).1)).mono fun e v ⟨h1, h2⟩ => ⟨h1, hV.trans (h2.mono hV.size)⟩
  have HTX : Hid (∀ V : World, Below W1.heap.size W1 V → Calls Tryd.prog 19 #[.agg #[.int .i64 c, .slice A n cc]] V fun e v => e = .returned (.tuple #[.string (S (scR c l)), .int .i64 (scE c l)]) ∧ Below W1.heap.size W1 v) := Lib.hid fun V hV =>
    (stext_any V c l A n cc (HS.out.below (HC.out V hV).1) (HT.out.below (HC.out V hV).1)).mono fun e v ⟨h1, h2⟩ => ⟨h1, hV.trans (h2.mono hV.size)⟩
  have HK : Hid (∀ V : World, Below W1.heap.size W1 V → Calls Tryd.prog 8 #[] V fun e v => e = .returned (.bool true) ∧ Below W1.heap.size W1 v) := Lib.hid fun V hV =>
    (known_any V (HT.out.below (HC.out V hV).1)).mono fun e v ⟨h1, h2⟩ => ⟨h1, hV.trans (h2.mono hV.size)⟩
  have HB : Hid (∀ V : World, Below W1.heap.size W1 V → Below w.heap.size w V) := Lib.hid fun V hV => (HC.out V hV).1
  have HR := Lib.hid (Below.refl W1.heap.size W1)
  obtain ⟨-, k0, k1⟩ := HC.out W1 (Below.refl _ _)
  clear hq0 hb0
  cases hmu : muchB l with
  | true =>
    rw [hmu] at HMU
    clear hmu
    go_wp2_with (first
      | (go_at_call 18; (with_reducible refine (HMU.out _ HR.out).mono ?_); rintro e w2 ⟨rfl, hb⟩; have HB2 := Lib.hid hb; clear hb)
      | (go_at_call 8; (with_reducible refine (HK.out _ HB2.out).mono ?_); rintro e w3 ⟨rfl, hb⟩; have HB3 := Lib.hid hb; clear hb))
    go_ret
    exact ⟨rfl, HB.out _ HB3.out⟩
  | false =>
  rw [hmu] at HMU
  clear hmu
  go_upto_region 3 with (go_at_call 18; (with_reducible refine (HMU.out _ HR.out).mono ?_); rintro e w2 ⟨rfl, hb⟩; have HB2 := Lib.hid hb; clear hb)
  clear k0 k1
  obtain ⟨-, k0, k1⟩ := HC.out _ HB2.out
  obtain ⟨E, hE⟩ : ∃ E, E = scE c l := ⟨_, rfl⟩
  obtain ⟨tx, htx⟩ : ∃ tx, tx = scR c l := ⟨_, rfl⟩
  have htl : tx.length ≤ 4194304 := by
    rw [htx]
    unfold scR
    split
    · rename_i h; exact (scE_parts h).2.2.2
    · exact Nat.zero_le _
  have HE := Lib.hid hE
  have HX := Lib.hid htx
  rw [← hE, ← htx] at HTX
  clear hE htx
  have hsz := S_size tx
  by_cases he0 : E = 0
  rotate_left
  · have he1 : (E != 0) = true := by simpa using he0
    go_wp2_with (first
      | (go_at_call 19; (with_reducible refine (HTX.out _ HB2.out).mono ?_); rintro e w3 ⟨rfl, hb⟩; have HB3 := Lib.hid hb; clear hb)
      | (go_at_call 13; (with_reducible refine (num_any _ _).mono ?_); rintro e w' ⟨rfl, rfl⟩)
      | (go_at_call 8; (with_reducible refine (HK.out _ HB3.out).mono ?_); rintro e w4 ⟨rfl, hb⟩; have HB4 := Lib.hid hb; clear hb))
    go_ret
    exact ⟨rfl, HB.out _ HB4.out⟩
  subst he0
  go_upto_region 4 with (go_at_call 19; (with_reducible refine (HTX.out _ HB2.out).mono ?_); rintro e w3 ⟨rfl, hb⟩; have HB3 := Lib.hid hb; clear hb)
  clear k0 k1 HTX
  have HTL := Lib.hid htl
  clear htl
  by_cases hneg : m < 0
  · go_wp2_with (first
      | (go_at_call 13; (with_reducible refine (num_any _ _).mono ?_); rintro e w' ⟨rfl, rfl⟩)
      | (go_at_call 8; (with_reducible refine (HK.out _ HB3.out).mono ?_); rintro e w4 ⟨rfl, hb⟩; have HB4 := Lib.hid hb; clear hb))
    go_ret
    exact ⟨rfl, HB.out _ HB4.out⟩
  by_cases hbig : ((tx.length : Nat) : Int) < m
  · go_wp2_with (first
      | (go_at_call 13; (with_reducible refine (num_any _ _).mono ?_); rintro e w' ⟨rfl, rfl⟩)
      | (go_at_call 8; (with_reducible refine (HK.out _ HB3.out).mono ?_); rintro e w4 ⟨rfl, hb⟩; have HB4 := Lib.hid hb; clear hb))
    go_ret
    exact ⟨rfl, HB.out _ HB4.out⟩
  by_cases hlong : (262144 : Int) < ((tx.length : Nat) : Int)
  · go_wp2_with (first
      | (go_at_call 13; (with_reducible refine (num_any _ _).mono ?_); rintro e w' ⟨rfl, rfl⟩)
      | (go_at_call 8; (with_reducible refine (HK.out _ HB3.out).mono ?_); rintro e w4 ⟨rfl, hb⟩; have HB4 := Lib.hid hb; clear hb))
    go_ret
    exact ⟨rfl, HB.out _ HB4.out⟩
  go_upto_region 6 with (go_at_call 13; (with_reducible refine (num_any _ _).mono ?_); rintro e w' ⟨rfl, rfl⟩)
  obtain ⟨cut, rfl⟩ : ∃ cut : Nat, m = (cut : Int) := ⟨m.toNat, by omega⟩
  have hcl : cut ≤ tx.length := by omega
  have htl : tx.length ≤ 262144 := by omega
  have hex := S_extract tx 0 cut
  rw [List.drop_zero] at hex
  obtain ⟨p, hp⟩ : ∃ p, p = tx.take cut := ⟨_, rfl⟩
  rw [← hp] at hex
  have hpl : p.length ≤ 262144 := by rw [hp, List.length_take]; omega
  have hcs : cut ≤ (S tx).size := by rw [hsz]; exact hcl
  have HCR := Lib.hid (cut_reads HE.out.symm (acts_bytes HS.out.row) cut)
  have htt : scT c l = tx := by rw [HX.out]; unfold scR; rw [if_pos HE.out.symm]
  rw [htt, ← hp] at HCR
  clear hneg hbig hlong htl hcl htt hp
  have HPL := Lib.hid hpl
  clear hpl
  go_upto_region 8 with (go_at_call 20; (with_reducible refine (rlines_any _ p (by have := HPL.out; omega)).mono ?_); rintro e w7 ⟨A1, n1, c1, rfl, hnm, hb⟩; have HB7 := Lib.hid (HB3.out.trans (hb.mono HB3.out.size)); have HNM := Lib.hid hnm.1; clear hb hnm)
  have HTT := Lib.hid fun (V : World) (hV : Below W1.heap.size W1 V) => HT.out.below (HC.out V hV).1
  go_upto_region 9 with (go_at_call 21; (with_reducible refine (sparse_any _ p (by have := HPL.out; omega) (HTT.out _ HB7.out)).mono ?_); rintro e w8 ⟨A2, n2, c2, rfl, hat, hb⟩; have HB8 := Lib.hid (HB7.out.trans (hb.mono HB7.out.size)); have HAT := Lib.hid hat; unfold scC; clear hb hat)
  have hq9 := heap_alloc_new w8 (.cells #[.int .i64 (parC p), .slice A2 n2 c2] 46)
  have hb9 := HB8.out.alloc HB8.out.size (.cells #[.int .i64 (parC p), .slice A2 n2 c2] 46)
  have HAT9 := Lib.hid (HAT.out.below (sbelow1 w8 (.cells #[.int .i64 (parC p), .slice A2 n2 c2] 46)))
  have hlt9 : w8.heap.size < (w8.alloc (.cells #[.int .i64 (parC p), .slice A2 n2 c2] 46)).heap.size := by simp
  generalize w8.alloc (.cells #[.int .i64 (parC p), .slice A2 n2 c2] 46) = W9 at hq9 hb9 HAT9 hlt9 ⊢
  obtain ⟨q8, hq8⟩ : ∃ q8, q8 = w8.heap.size := ⟨_, rfl⟩
  rw [← hq8] at hq9 hlt9 ⊢
  obtain ⟨ks, r, hl, hk, hno, hyes⟩ := HCR.out
  have hl2 : (lnF p).2 = r := by rw [hl]
  have hn1 : n1 = ks.length := by have := HNM.out; rw [hl] at this; exact this.symm
  rw [hl2]
  have hre : ((S r).toList == ([] : List UInt8)) = decide (r = []) := by
    rw [ByteArray.toList_eq]
    show (r == []) = _
    by_cases h : r = [] <;> simp [h]
  have HB9 := Lib.hid hb9
  have HN1 := Lib.hid hn1
  have HKL := Lib.hid hk
  have HQ9 := Lib.hid (And.intro hq9 hlt9)
  obtain ⟨pn, hpn⟩ : ∃ pn, pn = parN p := ⟨_, rfl⟩
  obtain ⟨px, hpx⟩ : ∃ px, px = parX p := ⟨_, rfl⟩
  obtain ⟨pc, hpc⟩ : ∃ pc, pc = parC p := ⟨_, rfl⟩
  rw [← hpn, ← hpx] at hno hyes ⊢
  have HPC := Lib.hid hpc
  clear hl hl2 hn1 hk hb9 hpn hpx hpc hq8 HB8 HAT HTT HNM HCR HPL hq9 hlt9 hex hcs
  by_cases hr0 : r = []
  rotate_left
  · rw [decide_eq_false hr0] at hre
    obtain ⟨e1, e2⟩ := hno (.inl hr0)
    rw [← HN1.out] at e1
    subst e1
    subst e2
    clear hno hyes hr0
    go_wp2_with (first
      | (go_at_call 13; (with_reducible refine (num_any _ _).mono ?_); rintro e w' ⟨rfl, rfl⟩)
      | (go_at_call 8; (with_reducible refine (HK.out _ HB9.out).mono ?_); rintro e w10 ⟨rfl, hb⟩; have HB10 := Lib.hid hb; clear hb))
    go_ret
    exact ⟨rfl, HB.out _ HB10.out⟩
  by_cases hk0 : ks.length = 0
  · rw [decide_eq_true hr0] at hre
    obtain ⟨e1, e2⟩ := hno (.inr hk0)
    rw [hk0] at e1
    have hn0 : n1 = 0 := by rw [HN1.out, hk0]
    subst e1
    subst e2
    subst hn0
    clear hno hyes hr0 hk0
    go_wp2_with (first
      | (go_at_call 13; (with_reducible refine (num_any _ _).mono ?_); rintro e w' ⟨rfl, rfl⟩)
      | (go_at_call 8; (with_reducible refine (HK.out _ HB9.out).mono ?_); rintro e w10 ⟨rfl, hb⟩; have HB10 := Lib.hid hb; clear hb))
    go_ret
    exact ⟨rfl, HB.out _ HB10.out⟩
  rw [decide_eq_true hr0] at hre
  obtain ⟨e1, e2, e3, e4⟩ := hyes hr0 hk0
  subst e1
  subst e2
  have hn0 : ((n1 : Int) == 0) = false := by rw [HN1.out]; simpa using hk0
  have HE3 := Lib.hid (And.intro e3 e4)
  have HN0 := Lib.hid (show n1 ≠ 0 by rw [HN1.out]; exact hk0)
  clear hno hyes hr0 hk0 e3 e4
  go_upto_region 11 with fail
  have HCC : Hid (∀ V : World, Below W9.heap.size W9 V → V.cell? ⟨w.heap.size, 0, none⟩ = some (.int .i64 c) ∧ V.cell? ⟨w.heap.size, 1, none⟩ = some (.slice A n cc) ∧ V.cell? ⟨q8, 0, none⟩ = some (.int .i64 pc) ∧ V.cell? ⟨q8, 1, none⟩ = some (.slice A2 n2 c2)) := Lib.hid fun V hV => by
    obtain ⟨-, k0, k1⟩ := HC.out V (HB9.out.trans (hV.mono HB9.out.size))
    have hq := (hV.block _ HQ9.out.2).trans HQ9.out.1
    refine ⟨k0, k1, ?_, ?_⟩
    · rw [World.cell?, hq, HPC.out]; rfl
    · rw [World.cell?, hq]; rfl
  have HSM : Hid (∀ V : World, Below W9.heap.size W9 V → Calls Tryd.prog 22 #[.agg #[.int .i64 pc, .slice A2 n2 c2], .agg #[.int .i64 c, .slice A (n1 - 1) cc]] V fun e v => e = .returned (.bool true) ∧ Below W9.heap.size W9 v) := Lib.hid fun V hV => by
    have h1 : ScAt V c (l.take (n1 - 1)) A (n1 - 1) cc := by
      have h := HS.out.below (HC.out V (HB9.out.trans (hV.mono HB9.out.size))).1
      have hkl := HKL.out
      rw [← HN1.out] at hkl
      have hln := h.row.1
      have hle : n1 - 1 ≤ n := by omega
      exact ⟨h.hc, h.row.front hle, Nat.le_trans hle h.hn, h.hm⟩
    have h2 : ScAt V pc (parL p) A2 n2 c2 := by rw [HPC.out]; exact HAT9.out.below hV
    refine (rsc_any V pc (parL p) A2 n2 c2 h2 c (l.take (n1 - 1)) A (n1 - 1) cc h1).mono ?_
    rintro e v ⟨rfl, hb⟩
    refine ⟨ret_bool ((sameSB_iff _ _ _ _).2 ⟨?_, ?_⟩), hV.trans (hb.mono hV.size)⟩
    · rw [HPC.out]; exact HE3.out.1
    · rw [HE3.out.2, HN1.out]
  have HKN : Hid (∀ V : World, Below W9.heap.size W9 V → Calls Tryd.prog 8 #[] V fun e v => e = .returned (.bool true) ∧ Below W9.heap.size W9 v) := Lib.hid fun V hV =>
    (known_any V (HT.out.below (HC.out V (HB9.out.trans (hV.mono HB9.out.size))).1)).mono fun e v ⟨h1, h2⟩ => ⟨h1, hV.trans (h2.mono hV.size)⟩
  have HWR : Hid (IntKind.i64.wrap ((n1 : Int) - 1) = (n1 : Int) - 1) := Lib.hid (by
    have h1 := HKL.out
    have h2 := HS.out.row.1
    have h3 := HS.out.hn
    have h4 := HS.out.hm
    rw [← HN1.out] at h1
    unfold maxLen at h4
    rw [IntKind.wrap_i64]
    omega)
  have HCUT : Hid (∀ W : World, (Instr.slice 44 (.slice A n cc) none (some (.int .i64 ((n1 : Int) - 1))) none).run Tryd.prog W = .ok (.slice A (n1 - 1) cc) W) := Lib.hid fun W => by
    have h1 := HKL.out
    have h2 := HS.out.row.1
    have h3 := HS.out.hn
    have h4 := HN0.out
    rw [← HN1.out] at h1
    have h5 : (0 : Int) ≤ (n1 : Int) - 1 := by omega
    have h6 : ((n1 : Int) - 1).toNat = n1 - 1 := by omega
    have h7 : n1 - 1 ≤ cc := by omega
    have h8 : (1 : Int) ≤ (n1 : Int) ∧ (n1 : Int) - 1 ≤ (cc : Int) := by omega
    obtain ⟨i0, hi0, -⟩ := inf_parts act_info
    simp [Instr.slice, Instr.sliceBounds, Instr.sliceBound, asIntOf, run_underlying (Tryd.underlying44), go_sem, h5, h6, h7, h8, hi0, sizeOf, typeInfo]
  clear HE3 HN1 HKL
  refine wp_region_inv' 24 rfl (fun L a' w' => ∃ y0 y1 y2 y3 y4 y5 y6 y7 y8 y9 y10 y11 y12 y13 y14 y15 y16 y17 y18 y19 y20 y21 y22 y23 : Value, a' = { tmps := List.toArray ((.agg #[.int .i64 c, .slice A n cc]) :: (.int .i64 (cut : Int)) :: (.pointer (some ⟨w.heap.size, 0, none⟩)) :: undef :: y23 :: (.string (S tx)) :: (.int .i64 0) :: (.string (S p)) :: (.slice A1 n1 c1) :: (.string (S r)) :: (.pointer (some ⟨q8, 0, none⟩)) :: (.int .i64 0) :: (.int .i64 0) :: (.agg #[.int .i64 c, .slice A n cc]) :: (.bool false) :: undef :: (.tuple #[.string (S tx), .int .i64 0]) :: (.agg #[.int .i64 c, .slice A n cc]) :: (.tuple #[.string (S tx), .int .i64 0]) :: (.string (S tx)) :: (.int .i64 0) :: (.int .i64 0) :: (.int .i64 0) :: (.bool false) :: (.bool false) :: (.int .i64 (cut : Int)) :: (.bool (decide ((cut : Int) < 0))) :: (.bool (decide ((cut : Int) < 0))) :: (.bool (decide ((cut : Int) < 0))) :: (.int .i64 (cut : Int)) :: (.string (S tx)) :: (.int .i64 (tx.length : Int)) :: (.bool (decide (tx.length < cut))) :: (.bool (decide ((cut : Int) < 0) || decide (tx.length < cut))) :: (.bool (decide ((cut : Int) < 0) || decide (tx.length < cut))) :: (.string (S tx)) :: (.int .i64 (tx.length : Int)) :: (.bool (decide (262144 < (tx.length : Int)))) :: (.bool (decide ((cut : Int) < 0) || decide (tx.length < cut) || decide (262144 < (tx.length : Int)))) :: undef :: (.string (S tx)) :: (.int .i64 (cut : Int)) :: (.string (S p)) :: (.tuple #[.slice A1 n1 c1, .string (S r)]) :: (.string (S p)) :: (.tuple #[.slice A1 n1 c1, .string (S r)]) :: (.slice A1 n1 c1) :: (.string (S r)) :: (.tuple #[.agg #[.int .i64 (parC p), .slice A2 n2 c2], .int .i64 0, .int .i64 0]) :: (.string (S p)) :: (.tuple #[.agg #[.int .i64 (parC p), .slice A2 n2 c2], .int .i64 0, .int .i64 0]) :: (.agg #[.int .i64 (parC p), .slice A2 n2 c2]) :: (.int .i64 0) :: (.int .i64 0) :: (.string (S r)) :: (.bool false) :: (.bool false) :: (.slice A1 n1 c1) :: (.int .i64 (n1 : Int)) :: (.bool false) :: (.bool false) :: undef :: undef :: undef :: undef :: undef :: undef :: undef :: undef :: undef :: undef :: undef :: undef :: y0 :: y1 :: y2 :: y3 :: y4 :: y5 :: y6 :: y7 :: y8 :: y9 :: y10 :: y11 :: y12 :: y13 :: y14 :: y15 :: y16 :: y17 :: y18 :: y19 :: y20 :: y21 :: y22 :: []), defers := [] } ∧ (L 0 = true → y0 = .int .i64 0) ∧ (L 1 = true → y1 = .int .i64 0) ∧ (L 2 = true → y2 = .bool true) ∧ (L 3 = true → y3 = .bool true) ∧ (L 4 = true → y4 = .int .i64 0) ∧ (L 5 = true → y5 = .bool true) ∧ (L 6 = true → y6 = .bool true) ∧ (L 7 = true → y7 = .bool true) ∧ (L 8 = true → y8 = .agg #[.int .i64 pc, .slice A2 n2 c2]) ∧ (L 9 = true → y9 = .pointer (some ⟨w.heap.size, 0, none⟩)) ∧ (L 10 = true → y10 = .int .i64 c) ∧ (L 11 = true → y11 = .pointer (some ⟨w.heap.size, 1, none⟩)) ∧ (L 12 = true → y12 = .slice A n cc) ∧ (L 13 = true → y13 = .slice A1 n1 c1) ∧ (L 14 = true → y14 = .int .i64 (n1 : Int)) ∧ (L 15 = true → y15 = .int .i64 ((n1 : Int) - 1)) ∧ (L 16 = true → y16 = .slice A (n1 - 1) cc) ∧ (L 17 = true → y17 = .agg #[.int .i64 c, .slice A (n1 - 1) cc]) ∧ (L 18 = true → y18 = .bool true) ∧ (L 19 = true → y19 = .bool true) ∧ (L 20 = true → y20 = .bool true) ∧ (L 21 = true → y21 = .bool true) ∧ (L 22 = true → y22 = .bool true) ∧ (L 23 = true → y23 = .bool true) ∧ (Below W9.heap.size W9 w')) (by kernel_rfl) (by kernel_rfl) ?h0 ?step ?fin
  case h0 => exact ⟨undef, undef, undef, undef, undef, undef, undef, undef, undef, undef, undef, undef, undef, undef, undef, undef, undef, undef, undef, undef, undef, undef, undef, .bool false, rfl, (fun e => by simp at e), (fun e => by simp at e), (fun e => by simp at e), (fun e => by simp at e), (fun e => by simp at e), (fun e => by simp at e), (fun e => by simp at e), (fun e => by simp at e), (fun e => by simp at e), (fun e => by simp at e), (fun e => by simp at e), (fun e => by simp at e), (fun e => by simp at e), (fun e => by simp at e), (fun e => by simp at e), (fun e => by simp at e), (fun e => by simp at e), (fun e => by simp at e), (fun e => by simp at e), (fun e => by simp at e), (fun e => by simp at e), (fun e => by simp at e), (fun e => by simp at e), (fun e => by simp at e), (Below.refl _ _).drew⟩
  case step =>
    rintro i hi L a' w' hLi hcl hdp ⟨y0, y1, y2, y3, y4, y5, y6, y7, y8, y9, y10, y11, y12, y13, y14, y15, y16, y17, y18, y19, y20, y21, y22, y23, rfl, e0, e1, e2, e3, e4, e5, e6, e7, e8, e9, e10, e11, e12, e13, e14, e15, e16, e17, e18, e19, e20, e21, e22, e23, hw0⟩
    have hi2 : i = 0 ∨ i = 1 ∨ i = 2 ∨ i = 3 ∨ i = 4 ∨ i = 5 ∨ i = 6 ∨ i = 7 ∨ i = 8 ∨ i = 9 ∨ i = 10 ∨ i = 11 ∨ i = 12 ∨ i = 13 ∨ i = 14 ∨ i = 15 ∨ i = 16 ∨ i = 17 ∨ i = 18 ∨ i = 19 ∨ i = 20 ∨ i = 21 ∨ i = 22 ∨ i = 23 := by omega
    rcases hi2 with rfl | rfl | rfl | rfl | rfl | rfl | rfl | rfl | rfl | rfl | rfl | rfl | rfl | rfl | rfl | rfl | rfl | rfl | rfl | rfl | rfl | rfl | rfl | rfl
    · have HF0 := Lib.hid hw0
      have E1 := Lib.hid e1; have E2 := Lib.hid e2; have E3 := Lib.hid e3; have E4 := Lib.hid e4; have E5 := Lib.hid e5; have E6 := Lib.hid e6; have E7 := Lib.hid e7; have E8 := Lib.hid e8; have E9 := Lib.hid e9; have E10 := Lib.hid e10; have E11 := Lib.hid e11; have E12 := Lib.hid e12; have E13 := Lib.hid e13; have E14 := Lib.hid e14; have E15 := Lib.hid e15; have E16 := Lib.hid e16; have E17 := Lib.hid e17; have E18 := Lib.hid e18; have E19 := Lib.hid e19; have E20 := Lib.hid e20; have E21 := Lib.hid e21; have E22 := Lib.hid e22; have E23 := Lib.hid e23
      clear e0 e1 e2 e3 e4 e5 e6 e7 e8 e9 e10 e11 e12 e13 e14 e15 e16 e17 e18 e19 e20 e21 e22 e23 hw0
      refine wpOp_step rfl (fun K hK => ?_)
      go_simp
      exact hK _ _ ⟨_, _, _, _, _, _, _, _, _, _, _, _, _, _, _, _, _, _, _, _, _, _, _, _, rfl, (fun _ => rfl), (fun h => E1.out (by simpa [upOn] using h)), (fun h => E2.out (by simpa [upOn] using h)), (fun h => E3.out (by simpa [upOn] using h)), (fun h => E4.out (by simpa [upOn] using h)), (fun h => E5.out (by simpa [upOn] using h)), (fun h => E6.out (by simpa [upOn] using h)), (fun h => E7.out (by simpa [upOn] using h)), (fun h => E8.out (by simpa [upOn] using h)), (fun h => E9.out (by simpa [upOn] using h)), (fun h => E10.out (by simpa [upOn] using h)), (fun h => E11.out (by simpa [upOn] using h)), (fun h => E12.out (by simpa [upOn] using h)), (fun h => E13.out (by simpa [upOn] using h)), (fun h => E14.out (by simpa [upOn] using h)), (fun h => E15.out (by simpa [upOn] using h)), (fun h => E16.out (by simpa [upOn] using h)), (fun h => E17.out (by simpa [upOn] using h)), (fun h => E18.out (by simpa [upOn] using h)), (fun h => E19.out (by simpa [upOn] using h)), (fun h => E20.out (by simpa [upOn] using h)), (fun h => E21.out (by simpa [upOn] using h)), (fun h => E22.out (by simpa [upOn] using h)), (fun h => E23.out (by simpa [upOn] using h)), HF0.out⟩
    · have HF0 := Lib.hid hw0
      have l0 := (hdp 0 (by kernel_rfl))
      obtain rfl := e0 l0
      have E2 := Lib.hid e2; have E3 := Lib.hid e3; have E4 := Lib.hid e4; have E5 := Lib.hid e5; have E6 := Lib.hid e6; have E7 := Lib.hid e7; have E8 := Lib.hid e8; have E9 := Lib.hid e9; have E10 := Lib.hid e10; have E11 := Lib.hid e11; have E12 := Lib.hid e12; have E13 := Lib.hid e13; have E14 := Lib.hid e14; have E15 := Lib.hid e15; have E16 := Lib.hid e16; have E17 := Lib.hid e17; have E18 := Lib.hid e18; have E19 := Lib.hid e19; have E20 := Lib.hid e20; have E21 := Lib.hid e21; have E22 := Lib.hid e22; have E23 := Lib.hid e23
      clear e0 e1 e2 e3 e4 e5 e6 e7 e8 e9 e10 e11 e12 e13 e14 e15 e16 e17 e18 e19 e20 e21 e22 e23 hw0
      refine wpOp_step rfl (fun K hK => ?_)
      go_simp
      refine (num_any _ _).mono ?_
      rintro e v1 ⟨rfl, rfl⟩
      exact hK _ _ ⟨_, _, _, _, _, _, _, _, _, _, _, _, _, _, _, _, _, _, _, _, _, _, _, _, rfl, (fun _ => rfl), (fun _ => rfl), (fun h => E2.out (by simpa [upOn] using h)), (fun h => E3.out (by simpa [upOn] using h)), (fun h => E4.out (by simpa [upOn] using h)), (fun h => E5.out (by simpa [upOn] using h)), (fun h => E6.out (by simpa [upOn] using h)), (fun h => E7.out (by simpa [upOn] using h)), (fun h => E8.out (by simpa [upOn] using h)), (fun h => E9.out (by simpa [upOn] using h)), (fun h => E10.out (by simpa [upOn] using h)), (fun h => E11.out (by simpa [upOn] using h)), (fun h => E12.out (by simpa [upOn] using h)), (fun h => E13.out (by simpa [upOn] using h)), (fun h => E14.out (by simpa [upOn] using h)), (fun h => E15.out (by simpa [upOn] using h)), (fun h => E16.out (by simpa [upOn] using h)), (fun h => E17.out (by simpa [upOn] using h)), (fun h => E18.out (by simpa [upOn] using h)), (fun h => E19.out (by simpa [upOn] using h)), (fun h => E20.out (by simpa [upOn] using h)), (fun h => E21.out (by simpa [upOn] using h)), (fun h => E22.out (by simpa [upOn] using h)), (fun h => E23.out (by simpa [upOn] using h)), HF0.out⟩
    · have HF0 := Lib.hid hw0
      have l1 := (hdp 1 (by kernel_rfl))
      obtain rfl := e1 l1
      have E0 := Lib.hid e0; have E3 := Lib.hid e3; have E4 := Lib.hid e4; have E5 := Lib.hid e5; have E6 := Lib.hid e6; have E7 := Lib.hid e7; have E8 := Lib.hid e8; have E9 := Lib.hid e9; have E10 := Lib.hid e10; have E11 := Lib.hid e11; have E12 := Lib.hid e12; have E13 := Lib.hid e13; have E14 := Lib.hid e14; have E15 := Lib.hid e15; have E16 := Lib.hid e16; have E17 := Lib.hid e17; have E18 := Lib.hid e18; have E19 := Lib.hid e19; have E20 := Lib.hid e20; have E21 := Lib.hid e21; have E22 := Lib.hid e22; have E23 := Lib.hid e23
      clear e0 e1 e2 e3 e4 e5 e6 e7 e8 e9 e10 e11 e12 e13 e14 e15 e16 e17 e18 e19 e20 e21 e22 e23 hw0
      refine wpOp_step rfl (fun K hK => ?_)
      go_simp
      exact hK _ _ ⟨_, _, _, _, _, _, _, _, _, _, _, _, _, _, _, _, _, _, _, _, _, _, _, _, rfl, (fun h => E0.out (by simpa [upOn] using h)), (fun _ => rfl), (fun _ => rfl), (fun h => E3.out (by simpa [upOn] using h)), (fun h => E4.out (by simpa [upOn] using h)), (fun h => E5.out (by simpa [upOn] using h)), (fun h => E6.out (by simpa [upOn] using h)), (fun h => E7.out (by simpa [upOn] using h)), (fun h => E8.out (by simpa [upOn] using h)), (fun h => E9.out (by simpa [upOn] using h)), (fun h => E10.out (by simpa [upOn] using h)), (fun h => E11.out (by simpa [upOn] using h)), (fun h => E12.out (by simpa [upOn] using h)), (fun h => E13.out (by simpa [upOn] using h)), (fun h => E14.out (by simpa [upOn] using h)), (fun h => E15.out (by simpa [upOn] using h)), (fun h => E16.out (by simpa [upOn] using h)), (fun h => E17.out (by simpa [upOn] using h)), (fun h => E18.out (by simpa [upOn] using h)), (fun h => E19.out (by simpa [upOn] using h)), (fun h => E20.out (by simpa [upOn] using h)), (fun h => E21.out (by simpa [upOn] using h)), (fun h => E22.out (by simpa [upOn] using h)), (fun h => E23.out (by simpa [upOn] using h)), HF0.out⟩
    · have HF0 := Lib.hid hw0
      have l2 := (hdp 2 (by kernel_rfl))
      obtain rfl := e2 l2
      have E0 := Lib.hid e0; have E1 := Lib.hid e1; have E4 := Lib.hid e4; have E5 := Lib.hid e5; have E6 := Lib.hid e6; have E7 := Lib.hid e7; have E8 := Lib.hid e8; have E9 := Lib.hid e9; have E10 := Lib.hid e10; have E11 := Lib.hid e11; have E12 := Lib.hid e12; have E13 := Lib.hid e13; have E14 := Lib.hid e14; have E15 := Lib.hid e15; have E16 := Lib.hid e16; have E17 := Lib.hid e17; have E18 := Lib.hid e18; have E19 := Lib.hid e19; have E20 := Lib.hid e20; have E21 := Lib.hid e21; have E22 := Lib.hid e22; have E23 := Lib.hid e23
      clear e0 e1 e2 e3 e4 e5 e6 e7 e8 e9 e10 e11 e12 e13 e14 e15 e16 e17 e18 e19 e20 e21 e22 e23 hw0
      refine wpOp_step rfl (fun K hK => ?_)
      go_simp
      exact hK _ _ ⟨_, _, _, _, _, _, _, _, _, _, _, _, _, _, _, _, _, _, _, _, _, _, _, _, rfl, (fun h => E0.out (by simpa [upOn] using h)), (fun h => E1.out (by simpa [upOn] using h)), (fun _ => rfl), (fun _ => rfl), (fun h => E4.out (by simpa [upOn] using h)), (fun h => E5.out (by simpa [upOn] using h)), (fun h => E6.out (by simpa [upOn] using h)), (fun h => E7.out (by simpa [upOn] using h)), (fun h => E8.out (by simpa [upOn] using h)), (fun h => E9.out (by simpa [upOn] using h)), (fun h => E10.out (by simpa [upOn] using h)), (fun h => E11.out (by simpa [upOn] using h)), (fun h => E12.out (by simpa [upOn] using h)), (fun h => E13.out (by simpa [upOn] using h)), (fun h => E14.out (by simpa [upOn] using h)), (fun h => E15.out (by simpa [upOn] using h)), (fun h => E16.out (by simpa [upOn] using h)), (fun h => E17.out (by simpa [upOn] using h)), (fun h => E18.out (by simpa [upOn] using h)), (fun h => E19.out (by simpa [upOn] using h)), (fun h => E20.out (by simpa [upOn] using h)), (fun h => E21.out (by simpa [upOn] using h)), (fun h => E22.out (by simpa [upOn] using h)), (fun h => E23.out (by simpa [upOn] using h)), HF0.out⟩
    · have HF0 := Lib.hid hw0
      have l3 := (hdp 3 (by kernel_rfl))
      obtain rfl := e3 l3
      have E0 := Lib.hid e0; have E1 := Lib.hid e1; have E2 := Lib.hid e2; have E5 := Lib.hid e5; have E6 := Lib.hid e6; have E7 := Lib.hid e7; have E8 := Lib.hid e8; have E9 := Lib.hid e9; have E10 := Lib.hid e10; have E11 := Lib.hid e11; have E12 := Lib.hid e12; have E13 := Lib.hid e13; have E14 := Lib.hid e14; have E15 := Lib.hid e15; have E16 := Lib.hid e16; have E17 := Lib.hid e17; have E18 := Lib.hid e18; have E19 := Lib.hid e19; have E20 := Lib.hid e20; have E21 := Lib.hid e21; have E22 := Lib.hid e22; have E23 := Lib.hid e23
      clear e0 e1 e2 e3 e4 e5 e6 e7 e8 e9 e10 e11 e12 e13 e14 e15 e16 e17 e18 e19 e20 e21 e22 e23 hw0
      refine wpOp_step rfl (fun K hK => ?_)
      go_simp
      exact hK _ _ ⟨_, _, _, _, _, _, _, _, _, _, _, _, _, _, _, _, _, _, _, _, _, _, _, _, rfl, (fun h => E0.out (by simpa [upOn] using h)), (fun h => E1.out (by simpa [upOn] using h)), (fun h => E2.out (by simpa [upOn] using h)), (fun _ => rfl), (fun _ => rfl), (fun h => E5.out (by simpa [upOn] using h)), (fun h => E6.out (by simpa [upOn] using h)), (fun h => E7.out (by simpa [upOn] using h)), (fun h => E8.out (by simpa [upOn] using h)), (fun h => E9.out (by simpa [upOn] using h)), (fun h => E10.out (by simpa [upOn] using h)), (fun h => E11.out (by simpa [upOn] using h)), (fun h => E12.out (by simpa [upOn] using h)), (fun h => E13.out (by simpa [upOn] using h)), (fun h => E14.out (by simpa [upOn] using h)), (fun h => E15.out (by simpa [upOn] using h)), (fun h => E16.out (by simpa [upOn] using h)), (fun h => E17.out (by simpa [upOn] using h)), (fun h => E18.out (by simpa [upOn] using h)), (fun h => E19.out (by simpa [upOn] using h)), (fun h => E20.out (by simpa [upOn] using h)), (fun h => E21.out (by simpa [upOn] using h)), (fun h => E22.out (by simpa [upOn] using h)), (fun h => E23.out (by simpa [upOn] using h)), HF0.out⟩
    · have HF0 := Lib.hid hw0
      have l3 := (hdp 3 (by kernel_rfl))
      have l4 := (hdp 4 (by kernel_rfl))
      obtain rfl := e3 l3
      obtain rfl := e4 l4
      have E0 := Lib.hid e0; have E1 := Lib.hid e1; have E2 := Lib.hid e2; have E6 := Lib.hid e6; have E7 := Lib.hid e7; have E8 := Lib.hid e8; have E9 := Lib.hid e9; have E10 := Lib.hid e10; have E11 := Lib.hid e11; have E12 := Lib.hid e12; have E13 := Lib.hid e13; have E14 := Lib.hid e14; have E15 := Lib.hid e15; have E16 := Lib.hid e16; have E17 := Lib.hid e17; have E18 := Lib.hid e18; have E19 := Lib.hid e19; have E20 := Lib.hid e20; have E21 := Lib.hid e21; have E22 := Lib.hid e22; have E23 := Lib.hid e23
      clear e0 e1 e2 e3 e4 e5 e6 e7 e8 e9 e10 e11 e12 e13 e14 e15 e16 e17 e18 e19 e20 e21 e22 e23 hw0
      refine wpOp_step rfl (fun K hK => ?_)
      go_simp
      exact hK _ _ ⟨_, _, _, _, _, _, _, _, _, _, _, _, _, _, _, _, _, _, _, _, _, _, _, _, rfl, (fun h => E0.out (by simpa [upOn] using h)), (fun h => E1.out (by simpa [upOn] using h)), (fun h => E2.out (by simpa [upOn] using h)), (fun _ => rfl), (fun _ => rfl), (fun _ => rfl), (fun h => E6.out (by simpa [upOn] using h)), (fun h => E7.out (by simpa [upOn] using h)), (fun h => E8.out (by simpa [upOn] using h)), (fun h => E9.out (by simpa [upOn] using h)), (fun h => E10.out (by simpa [upOn] using h)), (fun h => E11.out (by simpa [upOn] using h)), (fun h => E12.out (by simpa [upOn] using h)), (fun h => E13.out (by simpa [upOn] using h)), (fun h => E14.out (by simpa [upOn] using h)), (fun h => E15.out (by simpa [upOn] using h)), (fun h => E16.out (by simpa [upOn] using h)), (fun h => E17.out (by simpa [upOn] using h)), (fun h => E18.out (by simpa [upOn] using h)), (fun h => E19.out (by simpa [upOn] using h)), (fun h => E20.out (by simpa [upOn] using h)), (fun h => E21.out (by simpa [upOn] using h)), (fun h => E22.out (by simpa [upOn] using h)), (fun h => E23.out (by simpa [upOn] using h)), HF0.out⟩
    · have HF0 := Lib.hid hw0
      have l3 := (hdp 3 (by kernel_rfl))
      have l5 := (hdp 5 (by kernel_rfl))
      obtain rfl := e3 l3
      obtain rfl := e5 l5
      have E0 := Lib.hid e0; have E1 := Lib.hid e1; have E2 := Lib.hid e2; have E4 := Lib.hid e4; have E7 := Lib.hid e7; have E8 := Lib.hid e8; have E9 := Lib.hid e9; have E10 := Lib.hid e10; have E11 := Lib.hid e11; have E12 := Lib.hid e12; have E13 := Lib.hid e13; have E14 := Lib.hid e14; have E15 := Lib.hid e15; have E16 := Lib.hid e16; have E17 := Lib.hid e17; have E18 := Lib.hid e18; have E19 := Lib.hid e19; have E20 := Lib.hid e20; have E21 := Lib.hid e21; have E22 := Lib.hid e22; have E23 := Lib.hid e23
      clear e0 e1 e2 e3 e4 e5 e6 e7 e8 e9 e10 e11 e12 e13 e14 e15 e16 e17 e18 e19 e20 e21 e22 e23 hw0
      refine wpOp_step rfl (fun K hK => ?_)
      go_simp
      exact hK _ _ ⟨_, _, _, _, _, _, _, _, _, _, _, _, _, _, _, _, _, _, _, _, _, _, _, _, rfl, (fun h => E0.out (by simpa [upOn] using h)), (fun h => E1.out (by simpa [upOn] using h)), (fun h => E2.out (by simpa [upOn] using h)), (fun _ => rfl), (fun h => E4.out (by simpa [upOn] using h)), (fun _ => rfl), (fun _ => rfl), (fun h => E7.out (by simpa [upOn] using h)), (fun h => E8.out (by simpa [upOn] using h)), (fun h => E9.out (by simpa [upOn] using h)), (fun h => E10.out (by simpa [upOn] using h)), (fun h => E11.out (by simpa [upOn] using h)), (fun h => E12.out (by simpa [upOn] using h)), (fun h => E13.out (by simpa [upOn] using h)), (fun h => E14.out (by simpa [upOn] using h)), (fun h => E15.out (by simpa [upOn] using h)), (fun h => E16.out (by simpa [upOn] using h)), (fun h => E17.out (by simpa [upOn] using h)), (fun h => E18.out (by simpa [upOn] using h)), (fun h => E19.out (by simpa [upOn] using h)), (fun h => E20.out (by simpa [upOn] using h)), (fun h => E21.out (by simpa [upOn] using h)), (fun h => E22.out (by simpa [upOn] using h)), (fun h => E23.out (by simpa [upOn] using h)), HF0.out⟩
    · have HF0 := Lib.hid hw0
      have l6 := (hdp 6 (by kernel_rfl))
      obtain rfl := e6 l6
      have E0 := Lib.hid e0; have E1 := Lib.hid e1; have E2 := Lib.hid e2; have E3 := Lib.hid e3; have E4 := Lib.hid e4; have E5 := Lib.hid e5; have E8 := Lib.hid e8; have E9 := Lib.hid e9; have E10 := Lib.hid e10; have E11 := Lib.hid e11; have E12 := Lib.hid e12; have E13 := Lib.hid e13; have E14 := Lib.hid e14; have E15 := Lib.hid e15; have E16 := Lib.hid e16; have E17 := Lib.hid e17; have E18 := Lib.hid e18; have E19 := Lib.hid e19; have E20 := Lib.hid e20; have E21 := Lib.hid e21; have E22 := Lib.hid e22; have E23 := Lib.hid e23
      clear e0 e1 e2 e3 e4 e5 e6 e7 e8 e9 e10 e11 e12 e13 e14 e15 e16 e17 e18 e19 e20 e21 e22 e23 hw0
      refine wpOp_step rfl (fun K hK => ?_)
      go_simp
      exact hK _ _ ⟨_, _, _, _, _, _, _, _, _, _, _, _, _, _, _, _, _, _, _, _, _, _, _, _, rfl, (fun h => E0.out (by simpa [upOn] using h)), (fun h => E1.out (by simpa [upOn] using h)), (fun h => E2.out (by simpa [upOn] using h)), (fun h => E3.out (by simpa [upOn] using h)), (fun h => E4.out (by simpa [upOn] using h)), (fun h => E5.out (by simpa [upOn] using h)), (fun _ => rfl), (fun _ => rfl), (fun h => E8.out (by simpa [upOn] using h)), (fun h => E9.out (by simpa [upOn] using h)), (fun h => E10.out (by simpa [upOn] using h)), (fun h => E11.out (by simpa [upOn] using h)), (fun h => E12.out (by simpa [upOn] using h)), (fun h => E13.out (by simpa [upOn] using h)), (fun h => E14.out (by simpa [upOn] using h)), (fun h => E15.out (by simpa [upOn] using h)), (fun h => E16.out (by simpa [upOn] using h)), (fun h => E17.out (by simpa [upOn] using h)), (fun h => E18.out (by simpa [upOn] using h)), (fun h => E19.out (by simpa [upOn] using h)), (fun h => E20.out (by simpa [upOn] using h)), (fun h => E21.out (by simpa [upOn] using h)), (fun h => E22.out (by simpa [upOn] using h)), (fun h => E23.out (by simpa [upOn] using h)), HF0.out⟩
    · have HF0 := Lib.hid hw0
      have l7 := (hdp 7 (by kernel_rfl))
      obtain rfl := e7 l7
      have E0 := Lib.hid e0; have E1 := Lib.hid e1; have E2 := Lib.hid e2; have E3 := Lib.hid e3; have E4 := Lib.hid e4; have E5 := Lib.hid e5; have E6 := Lib.hid e6; have E9 := Lib.hid e9; have E10 := Lib.hid e10; have E11 := Lib.hid e11; have E12 := Lib.hid e12; have E13 := Lib.hid e13; have E14 := Lib.hid e14; have E15 := Lib.hid e15; have E16 := Lib.hid e16; have E17 := Lib.hid e17; have E18 := Lib.hid e18; have E19 := Lib.hid e19; have E20 := Lib.hid e20; have E21 := Lib.hid e21; have E22 := Lib.hid e22; have E23 := Lib.hid e23
      clear e0 e1 e2 e3 e4 e5 e6 e7 e8 e9 e10 e11 e12 e13 e14 e15 e16 e17 e18 e19 e20 e21 e22 e23 hw0
      obtain ⟨k0, k1, m0, m1⟩ := HCC.out _ HF0.out
      refine wpOp_step rfl (fun K hK => ?_)
      go_simp
      exact hK _ _ ⟨_, _, _, _, _, _, _, _, _, _, _, _, _, _, _, _, _, _, _, _, _, _, _, _, rfl, (fun h => E0.out (by simpa [upOn] using h)), (fun h => E1.out (by simpa [upOn] using h)), (fun h => E2.out (by simpa [upOn] using h)), (fun h => E3.out (by simpa [upOn] using h)), (fun h => E4.out (by simpa [upOn] using h)), (fun h => E5.out (by simpa [upOn] using h)), (fun h => E6.out (by simpa [upOn] using h)), (fun _ => rfl), (fun _ => rfl), (fun h => E9.out (by simpa [upOn] using h)), (fun h => E10.out (by simpa [upOn] using h)), (fun h => E11.out (by simpa [upOn] using h)), (fun h => E12.out (by simpa [upOn] using h)), (fun h => E13.out (by simpa [upOn] using h)), (fun h => E14.out (by simpa [upOn] using h)), (fun h => E15.out (by simpa [upOn] using h)), (fun h => E16.out (by simpa [upOn] using h)), (fun h => E17.out (by simpa [upOn] using h)), (fun h => E18.out (by simpa [upOn] using h)), (fun h => E19.out (by simpa [upOn] using h)), (fun h => E20.out (by simpa [upOn] using h)), (fun h => E21.out (by simpa [upOn] using h)), (fun h => E22.out (by simpa [upOn] using h)), (fun h => E23.out (by simpa [upOn] using h)), HF0.out⟩
    · have HF0 := Lib.hid hw0
      have l7 := (hdp 7 (by kernel_rfl))
      obtain rfl := e7 l7
      have E0 := Lib.hid e0; have E1 := Lib.hid e1; have E2 := Lib.hid e2; have E3 := Lib.hid e3; have E4 := Lib.hid e4; have E5 := Lib.hid e5; have E6 := Lib.hid e6; have E8 := Lib.hid e8; have E10 := Lib.hid e10; have E11 := Lib.hid e11; have E12 := Lib.hid e12; have E13 := Lib.hid e13; have E14 := Lib.hid e14; have E15 := Lib.hid e15; have E16 := Lib.hid e16; have E17 := Lib.hid e17; have E18 := Lib.hid e18; have E19 := Lib.hid e19; have E20 := Lib.hid e20; have E21 := Lib.hid e21; have E22 := Lib.hid e22; have E23 := Lib.hid e23
      clear e0 e1 e2 e3 e4 e5 e6 e7 e8 e9 e10 e11 e12 e13 e14 e15 e16 e17 e18 e19 e20 e21 e22 e23 hw0
      refine wpOp_step rfl (fun K hK => ?_)
      go_simp
      exact hK _ _ ⟨_, _, _, _, _, _, _, _, _, _, _, _, _, _, _, _, _, _, _, _, _, _, _, _, rfl, (fun h => E0.out (by simpa [upOn] using h)), (fun h => E1.out (by simpa [upOn] using h)), (fun h => E2.out (by simpa [upOn] using h)), (fun h => E3.out (by simpa [upOn] using h)), (fun h => E4.out (by simpa [upOn] using h)), (fun h => E5.out (by simpa [upOn] using h)), (fun h => E6.out (by simpa [upOn] using h)), (fun _ => rfl), (fun h => E8.out (by simpa [upOn] using h)), (fun _ => rfl), (fun h => E10.out (by simpa [upOn] using h)), (fun h => E11.out (by simpa [upOn] using h)), (fun h => E12.out (by simpa [upOn] using h)), (fun h => E13.out (by simpa [upOn] using h)), (fun h => E14.out (by simpa [upOn] using h)), (fun h => E15.out (by simpa [upOn] using h)), (fun h => E16.out (by simpa [upOn] using h)), (fun h => E17.out (by simpa [upOn] using h)), (fun h => E18.out (by simpa [upOn] using h)), (fun h => E19.out (by simpa [upOn] using h)), (fun h => E20.out (by simpa [upOn] using h)), (fun h => E21.out (by simpa [upOn] using h)), (fun h => E22.out (by simpa [upOn] using h)), (fun h => E23.out (by simpa [upOn] using h)), HF0.out⟩
    · have HF0 := Lib.hid hw0
      have l7 := (hdp 7 (by kernel_rfl))
      have l9 := (hdp 9 (by kernel_rfl))
      obtain rfl := e7 l7
      obtain rfl := e9 l9
      have E0 := Lib.hid e0; have E1 := Lib.hid e1; have E2 := Lib.hid e2; have E3 := Lib.hid e3; have E4 := Lib.hid e4; have E5 := Lib.hid e5; have E6 := Lib.hid e6; have E8 := Lib.hid e8; have E11 := Lib.hid e11; have E12 := Lib.hid e12; have E13 := Lib.hid e13; have E14 := Lib.hid e14; have E15 := Lib.hid e15; have E16 := Lib.hid e16; have E17 := Lib.hid e17; have E18 := Lib.hid e18; have E19 := Lib.hid e19; have E20 := Lib.hid e20; have E21 := Lib.hid e21; have E22 := Lib.hid e22; have E23 := Lib.hid e23
      clear e0 e1 e2 e3 e4 e5 e6 e7 e8 e9 e10 e11 e12 e13 e14 e15 e16 e17 e18 e19 e20 e21 e22 e23 hw0
      obtain ⟨k0, k1, m0, m1⟩ := HCC.out _ HF0.out
      refine wpOp_step rfl (fun K hK => ?_)
      go_simp
      exact hK _ _ ⟨_, _, _, _, _, _, _, _, _, _, _, _, _, _, _, _, _, _, _, _, _, _, _, _, rfl, (fun h => E0.out (by simpa [upOn] using h)), (fun h => E1.out (by simpa [upOn] using h)), (fun h => E2.out (by simpa [upOn] using h)), (fun h => E3.out (by simpa [upOn] using h)), (fun h => E4.out (by simpa [upOn] using h)), (fun h => E5.out (by simpa [upOn] using h)), (fun h => E6.out (by simpa [upOn] using h)), (fun _ => rfl), (fun h => E8.out (by simpa [upOn] using h)), (fun _ => rfl), (fun _ => rfl), (fun h => E11.out (by simpa [upOn] using h)), (fun h => E12.out (by simpa [upOn] using h)), (fun h => E13.out (by simpa [upOn] using h)), (fun h => E14.out (by simpa [upOn] using h)), (fun h => E15.out (by simpa [upOn] using h)), (fun h => E16.out (by simpa [upOn] using h)), (fun h => E17.out (by simpa [upOn] using h)), (fun h => E18.out (by simpa [upOn] using h)), (fun h => E19.out (by simpa [upOn] using h)), (fun h => E20.out (by simpa [upOn] using h)), (fun h => E21.out (by simpa [upOn] using h)), (fun h => E22.out (by simpa [upOn] using h)), (fun h => E23.out (by simpa [upOn] using h)), HF0.out⟩
    · have HF0 := Lib.hid hw0
      have l7 := (hdp 7 (by kernel_rfl))
      obtain rfl := e7 l7
      have E0 := Lib.hid e0; have E1 := Lib.hid e1; have E2 := Lib.hid e2; have E3 := Lib.hid e3; have E4 := Lib.hid e4; have E5 := Lib.hid e5; have E6 := Lib.hid e6; have E8 := Lib.hid e8; have E9 := Lib.hid e9; have E10 := Lib.hid e10; have E12 := Lib.hid e12; have E13 := Lib.hid e13; have E14 := Lib.hid e14; have E15 := Lib.hid e15; have E16 := Lib.hid e16; have E17 := Lib.hid e17; have E18 := Lib.hid e18; have E19 := Lib.hid e19; have E20 := Lib.hid e20; have E21 := Lib.hid e21; have E22 := Lib.hid e22; have E23 := Lib.hid e23
      clear e0 e1 e2 e3 e4 e5 e6 e7 e8 e9 e10 e11 e12 e13 e14 e15 e16 e17 e18 e19 e20 e21 e22 e23 hw0
      refine wpOp_step rfl (fun K hK => ?_)
      go_simp
      exact hK _ _ ⟨_, _, _, _, _, _, _, _, _, _, _, _, _, _, _, _, _, _, _, _, _, _, _, _, rfl, (fun h => E0.out (by simpa [upOn] using h)), (fun h => E1.out (by simpa [upOn] using h)), (fun h => E2.out (by simpa [upOn] using h)), (fun h => E3.out (by simpa [upOn] using h)), (fun h => E4.out (by simpa [upOn] using h)), (fun h => E5.out (by simpa [upOn] using h)), (fun h => E6.out (by simpa [upOn] using h)), (fun _ => rfl), (fun h => E8.out (by simpa [upOn] using h)), (fun h => E9.out (by simpa [upOn] using h)), (fun h => E10.out (by simpa [upOn] using h)), (fun _ => rfl), (fun h => E12.out (by simpa [upOn] using h)), (fun h => E13.out (by simpa [upOn] using h)), (fun h => E14.out (by simpa [upOn] using h)), (fun h => E15.out (by simpa [upOn] using h)), (fun h => E16.out (by simpa [upOn] using h)), (fun h => E17.out (by simpa [upOn] using h)), (fun h => E18.out (by simpa [upOn] using h)), (fun h => E19.out (by simpa [upOn] using h)), (fun h => E20.out (by simpa [upOn] using h)), (fun h => E21.out (by simpa [upOn] using h)), (fun h => E22.out (by simpa [upOn] using h)), (fun h => E23.out (by simpa [upOn] using h)), HF0.out⟩
    · have HF0 := Lib.hid hw0
      have l7 := (hdp 7 (by kernel_rfl))
      have l11 := (hdp 11 (by kernel_rfl))
      obtain rfl := e7 l7
      obtain rfl := e11 l11
      have E0 := Lib.hid e0; have E1 := Lib.hid e1; have E2 := Lib.hid e2; have E3 := Lib.hid e3; have E4 := Lib.hid e4; have E5 := Lib.hid e5; have E6 := Lib.hid e6; have E8 := Lib.hid e8; have E9 := Lib.hid e9; have E10 := Lib.hid e10; have E13 := Lib.hid e13; have E14 := Lib.hid e14; have E15 := Lib.hid e15; have E16 := Lib.hid e16; have E17 := Lib.hid e17; have E18 := Lib.hid e18; have E19 := Lib.hid e19; have E20 := Lib.hid e20; have E21 := Lib.hid e21; have E22 := Lib.hid e22; have E23 := Lib.hid e23
      clear e0 e1 e2 e3 e4 e5 e6 e7 e8 e9 e10 e11 e12 e13 e14 e15 e16 e17 e18 e19 e20 e21 e22 e23 hw0
      obtain ⟨k0, k1, m0, m1⟩ := HCC.out _ HF0.out
      refine wpOp_step rfl (fun K hK => ?_)
      go_simp
      exact hK _ _ ⟨_, _, _, _, _, _, _, _, _, _, _, _, _, _, _, _, _, _, _, _, _, _, _, _, rfl, (fun h => E0.out (by simpa [upOn] using h)), (fun h => E1.out (by simpa [upOn] using h)), (fun h => E2.out (by simpa [upOn] using h)), (fun h => E3.out (by simpa [upOn] using h)), (fun h => E4.out (by simpa [upOn] using h)), (fun h => E5.out (by simpa [upOn] using h)), (fun h => E6.out (by simpa [upOn] using h)), (fun _ => rfl), (fun h => E8.out (by simpa [upOn] using h)), (fun h => E9.out (by simpa [upOn] using h)), (fun h => E10.out (by simpa [upOn] using h)), (fun _ => rfl), (fun _ => rfl), (fun h => E13.out (by simpa [upOn] using h)), (fun h => E14.out (by simpa [upOn] using h)), (fun h => E15.out (by simpa [upOn] using h)), (fun h => E16.out (by simpa [upOn] using h)), (fun h => E17.out (by simpa [upOn] using h)), (fun h => E18.out (by simpa [upOn] using h)), (fun h => E19.out (by simpa [upOn] using h)), (fun h => E20.out (by simpa [upOn] using h)), (fun h => E21.out (by simpa [upOn] using h)), (fun h => E22.out (by simpa [upOn] using h)), (fun h => E23.out (by simpa [upOn] using h)), HF0.out⟩
    · have HF0 := Lib.hid hw0
      have l7 := (hdp 7 (by kernel_rfl))
      obtain rfl := e7 l7
      have E0 := Lib.hid e0; have E1 := Lib.hid e1; have E2 := Lib.hid e2; have E3 := Lib.hid e3; have E4 := Lib.hid e4; have E5 := Lib.hid e5; have E6 := Lib.hid e6; have E8 := Lib.hid e8; have E9 := Lib.hid e9; have E10 := Lib.hid e10; have E11 := Lib.hid e11; have E12 := Lib.hid e12; have E14 := Lib.hid e14; have E15 := Lib.hid e15; have E16 := Lib.hid e16; have E17 := Lib.hid e17; have E18 := Lib.hid e18; have E19 := Lib.hid e19; have E20 := Lib.hid e20; have E21 := Lib.hid e21; have E22 := Lib.hid e22; have E23 := Lib.hid e23
      clear e0 e1 e2 e3 e4 e5 e6 e7 e8 e9 e10 e11 e12 e13 e14 e15 e16 e17 e18 e19 e20 e21 e22 e23 hw0
      refine wpOp_step rfl (fun K hK => ?_)
      go_simp
      exact hK _ _ ⟨_, _, _, _, _, _, _, _, _, _, _, _, _, _, _, _, _, _, _, _, _, _, _, _, rfl, (fun h => E0.out (by simpa [upOn] using h)), (fun h => E1.out (by simpa [upOn] using h)), (fun h => E2.out (by simpa [upOn] using h)), (fun h => E3.out (by simpa [upOn] using h)), (fun h => E4.out (by simpa [upOn] using h)), (fun h => E5.out (by simpa [upOn] using h)), (fun h => E6.out (by simpa [upOn] using h)), (fun _ => rfl), (fun h => E8.out (by simpa [upOn] using h)), (fun h => E9.out (by simpa [upOn] using h)), (fun h => E10.out (by simpa [upOn] using h)), (fun h => E11.out (by simpa [upOn] using h)), (fun h => E12.out (by simpa [upOn] using h)), (fun _ => rfl), (fun h => E14.out (by simpa [upOn] using h)), (fun h => E15.out (by simpa [upOn] using h)), (fun h => E16.out (by simpa [upOn] using h)), (fun h => E17.out (by simpa [upOn] using h)), (fun h => E18.out (by simpa [upOn] using h)), (fun h => E19.out (by simpa [upOn] using h)), (fun h => E20.out (by simpa [upOn] using h)), (fun h => E21.out (by simpa [upOn] using h)), (fun h => E22.out (by simpa [upOn] using h)), (fun h => E23.out (by simpa [upOn] using h)), HF0.out⟩
    · have HF0 := Lib.hid hw0
      have l7 := (hdp 7 (by kernel_rfl))
      have l13 := (hdp 13 (by kernel_rfl))
      obtain rfl := e7 l7
      obtain rfl := e13 l13
      have E0 := Lib.hid e0; have E1 := Lib.hid e1; have E2 := Lib.hid e2; have E3 := Lib.hid e3; have E4 := Lib.hid e4; have E5 := Lib.hid e5; have E6 := Lib.hid e6; have E8 := Lib.hid e8; have E9 := Lib.hid e9; have E10 := Lib.hid e10; have E11 := Lib.hid e11; have E12 := Lib.hid e12; have E15 := Lib.hid e15; have E16 := Lib.hid e16; have E17 := Lib.hid e17; have E18 := Lib.hid e18; have E19 := Lib.hid e19; have E20 := Lib.hid e20; have E21 := Lib.hid e21; have E22 := Lib.hid e22; have E23 := Lib.hid e23
      clear e0 e1 e2 e3 e4 e5 e6 e7 e8 e9 e10 e11 e12 e13 e14 e15 e16 e17 e18 e19 e20 e21 e22 e23 hw0
      refine wpOp_step rfl (fun K hK => ?_)
      go_simp
      exact hK _ _ ⟨_, _, _, _, _, _, _, _, _, _, _, _, _, _, _, _, _, _, _, _, _, _, _, _, rfl, (fun h => E0.out (by simpa [upOn] using h)), (fun h => E1.out (by simpa [upOn] using h)), (fun h => E2.out (by simpa [upOn] using h)), (fun h => E3.out (by simpa [upOn] using h)), (fun h => E4.out (by simpa [upOn] using h)), (fun h => E5.out (by simpa [upOn] using h)), (fun h => E6.out (by simpa [upOn] using h)), (fun _ => rfl), (fun h => E8.out (by simpa [upOn] using h)), (fun h => E9.out (by simpa [upOn] using h)), (fun h => E10.out (by simpa [upOn] using h)), (fun h => E11.out (by simpa [upOn] using h)), (fun h => E12.out (by simpa [upOn] using h)), (fun _ => rfl), (fun _ => rfl), (fun h => E15.out (by simpa [upOn] using h)), (fun h => E16.out (by simpa [upOn] using h)), (fun h => E17.out (by simpa [upOn] using h)), (fun h => E18.out (by simpa [upOn] using h)), (fun h => E19.out (by simpa [upOn] using h)), (fun h => E20.out (by simpa [upOn] using h)), (fun h => E21.out (by simpa [upOn] using h)), (fun h => E22.out (by simpa [upOn] using h)), (fun h => E23.out (by simpa [upOn] using h)), HF0.out⟩
    · have HF0 := Lib.hid hw0
      have l7 := (hdp 7 (by kernel_rfl))
      have l14 := (hdp 14 (by kernel_rfl))
      obtain rfl := e7 l7
      obtain rfl := e14 l14
      have E0 := Lib.hid e0; have E1 := Lib.hid e1; have E2 := Lib.hid e2; have E3 := Lib.hid e3; have E4 := Lib.hid e4; have E5 := Lib.hid e5; have E6 := Lib.hid e6; have E8 := Lib.hid e8; have E9 := Lib.hid e9; have E10 := Lib.hid e10; have E11 := Lib.hid e11; have E12 := Lib.hid e12; have E13 := Lib.hid e13; have E16 := Lib.hid e16; have E17 := Lib.hid e17; have E18 := Lib.hid e18; have E19 := Lib.hid e19; have E20 := Lib.hid e20; have E21 := Lib.hid e21; have E22 := Lib.hid e22; have E23 := Lib.hid e23
      clear e0 e1 e2 e3 e4 e5 e6 e7 e8 e9 e10 e11 e12 e13 e14 e15 e16 e17 e18 e19 e20 e21 e22 e23 hw0
      have hw := HWR.out
      refine wpOp_step rfl (fun K hK => ?_)
      go_simp
      exact hK _ _ ⟨_, _, _, _, _, _, _, _, _, _, _, _, _, _, _, _, _, _, _, _, _, _, _, _, rfl, (fun h => E0.out (by simpa [upOn] using h)), (fun h => E1.out (by simpa [upOn] using h)), (fun h => E2.out (by simpa [upOn] using h)), (fun h => E3.out (by simpa [upOn] using h)), (fun h => E4.out (by simpa [upOn] using h)), (fun h => E5.out (by simpa [upOn] using h)), (fun h => E6.out (by simpa [upOn] using h)), (fun _ => rfl), (fun h => E8.out (by simpa [upOn] using h)), (fun h => E9.out (by simpa [upOn] using h)), (fun h => E10.out (by simpa [upOn] using h)), (fun h => E11.out (by simpa [upOn] using h)), (fun h => E12.out (by simpa [upOn] using h)), (fun h => E13.out (by simpa [upOn] using h)), (fun _ => rfl), (fun _ => rfl), (fun h => E16.out (by simpa [upOn] using h)), (fun h => E17.out (by simpa [upOn] using h)), (fun h => E18.out (by simpa [upOn] using h)), (fun h => E19.out (by simpa [upOn] using h)), (fun h => E20.out (by simpa [upOn] using h)), (fun h => E21.out (by simpa [upOn] using h)), (fun h => E22.out (by simpa [upOn] using h)), (fun h => E23.out (by simpa [upOn] using h)), HF0.out⟩
    · have HF0 := Lib.hid hw0
      have l7 := (hdp 7 (by kernel_rfl))
      have l12 := (hdp 12 (by kernel_rfl))
      have l15 := (hdp 15 (by kernel_rfl))
      obtain rfl := e7 l7
      obtain rfl := e12 l12
      obtain rfl := e15 l15
      have E0 := Lib.hid e0; have E1 := Lib.hid e1; have E2 := Lib.hid e2; have E3 := Lib.hid e3; have E4 := Lib.hid e4; have E5 := Lib.hid e5; have E6 := Lib.hid e6; have E8 := Lib.hid e8; have E9 := Lib.hid e9; have E10 := Lib.hid e10; have E11 := Lib.hid e11; have E13 := Lib.hid e13; have E14 := Lib.hid e14; have E17 := Lib.hid e17; have E18 := Lib.hid e18; have E19 := Lib.hid e19; have E20 := Lib.hid e20; have E21 := Lib.hid e21; have E22 := Lib.hid e22; have E23 := Lib.hid e23
      clear e0 e1 e2 e3 e4 e5 e6 e7 e8 e9 e10 e11 e12 e13 e14 e15 e16 e17 e18 e19 e20 e21 e22 e23 hw0
      have hcut := HCUT.out
      refine wpOp_step rfl (fun K hK => ?_)
      go_simp
      exact hK _ _ ⟨_, _, _, _, _, _, _, _, _, _, _, _, _, _, _, _, _, _, _, _, _, _, _, _, rfl, (fun h => E0.out (by simpa [upOn] using h)), (fun h => E1.out (by simpa [upOn] using h)), (fun h => E2.out (by simpa [upOn] using h)), (fun h => E3.out (by simpa [upOn] using h)), (fun h => E4.out (by simpa [upOn] using h)), (fun h => E5.out (by simpa [upOn] using h)), (fun h => E6.out (by simpa [upOn] using h)), (fun _ => rfl), (fun h => E8.out (by simpa [upOn] using h)), (fun h => E9.out (by simpa [upOn] using h)), (fun h => E10.out (by simpa [upOn] using h)), (fun h => E11.out (by simpa [upOn] using h)), (fun _ => rfl), (fun h => E13.out (by simpa [upOn] using h)), (fun h => E14.out (by simpa [upOn] using h)), (fun _ => rfl), (fun _ => rfl), (fun h => E17.out (by simpa [upOn] using h)), (fun h => E18.out (by simpa [upOn] using h)), (fun h => E19.out (by simpa [upOn] using h)), (fun h => E20.out (by simpa [upOn] using h)), (fun h => E21.out (by simpa [upOn] using h)), (fun h => E22.out (by simpa [upOn] using h)), (fun h => E23.out (by simpa [upOn] using h)), HF0.out⟩
    · have HF0 := Lib.hid hw0
      have l7 := (hdp 7 (by kernel_rfl))
      have l10 := (hdp 10 (by kernel_rfl))
      have l16 := (hdp 16 (by kernel_rfl))
      obtain rfl := e7 l7
      obtain rfl := e10 l10
      obtain rfl := e16 l16
      have E0 := Lib.hid e0; have E1 := Lib.hid e1; have E2 := Lib.hid e2; have E3 := Lib.hid e3; have E4 := Lib.hid e4; have E5 := Lib.hid e5; have E6 := Lib.hid e6; have E8 := Lib.hid e8; have E9 := Lib.hid e9; have E11 := Lib.hid e11; have E12 := Lib.hid e12; have E13 := Lib.hid e13; have E14 := Lib.hid e14; have E15 := Lib.hid e15; have E18 := Lib.hid e18; have E19 := Lib.hid e19; have E20 := Lib.hid e20; have E21 := Lib.hid e21; have E22 := Lib.hid e22; have E23 := Lib.hid e23
      clear e0 e1 e2 e3 e4 e5 e6 e7 e8 e9 e10 e11 e12 e13 e14 e15 e16 e17 e18 e19 e20 e21 e22 e23 hw0
      refine wpOp_step rfl (fun K hK => ?_)
      go_simp
      exact hK _ _ ⟨_, _, _, _, _, _, _, _, _, _, _, _, _, _, _, _, _, _, _, _, _, _, _, _, rfl, (fun h => E0.out (by simpa [upOn] using h)), (fun h => E1.out (by simpa [upOn] using h)), (fun h => E2.out (by simpa [upOn] using h)), (fun h => E3.out (by simpa [upOn] using h)), (fun h => E4.out (by simpa [upOn] using h)), (fun h => E5.out (by simpa [upOn] using h)), (fun h => E6.out (by simpa [upOn] using h)), (fun _ => rfl), (fun h => E8.out (by simpa [upOn] using h)), (fun h => E9.out (by simpa [upOn] using h)), (fun _ => rfl), (fun h => E11.out (by simpa [upOn] using h)), (fun h => E12.out (by simpa [upOn] using h)), (fun h => E13.out (by simpa [upOn] using h)), (fun h => E14.out (by simpa [upOn] using h)), (fun h => E15.out (by simpa [upOn] using h)), (fun _ => rfl), (fun _ => rfl), (fun h => E18.out (by simpa [upOn] using h)), (fun h => E19.out (by simpa [upOn] using h)), (fun h => E20.out (by simpa [upOn] using h)), (fun h => E21.out (by simpa [upOn] using h)), (fun h => E22.out (by simpa [upOn] using h)), (fun h => E23.out (by simpa [upOn] using h)), HF0.out⟩
    · have HF0 := Lib.hid hw0
      have l7 := (hdp 7 (by kernel_rfl))
      have l8 := (hdp 8 (by kernel_rfl))
      have l17 := (hdp 17 (by kernel_rfl))
      obtain rfl := e7 l7
      obtain rfl := e8 l8
      obtain rfl := e17 l17
      have E0 := Lib.hid e0; have E1 := Lib.hid e1; have E2 := Lib.hid e2; have E3 := Lib.hid e3; have E4 := Lib.hid e4; have E5 := Lib.hid e5; have E6 := Lib.hid e6; have E9 := Lib.hid e9; have E10 := Lib.hid e10; have E11 := Lib.hid e11; have E12 := Lib.hid e12; have E13 := Lib.hid e13; have E14 := Lib.hid e14; have E15 := Lib.hid e15; have E16 := Lib.hid e16; have E19 := Lib.hid e19; have E20 := Lib.hid e20; have E21 := Lib.hid e21; have E22 := Lib.hid e22; have E23 := Lib.hid e23
      clear e0 e1 e2 e3 e4 e5 e6 e7 e8 e9 e10 e11 e12 e13 e14 e15 e16 e17 e18 e19 e20 e21 e22 e23 hw0
      refine wpOp_step rfl (fun K hK => ?_)
      go_simp
      refine (HSM.out _ HF0.out).mono ?_
      rintro e v1 ⟨rfl, hb⟩
      exact hK _ _ ⟨_, _, _, _, _, _, _, _, _, _, _, _, _, _, _, _, _, _, _, _, _, _, _, _, rfl, (fun h => E0.out (by simpa [upOn] using h)), (fun h => E1.out (by simpa [upOn] using h)), (fun h => E2.out (by simpa [upOn] using h)), (fun h => E3.out (by simpa [upOn] using h)), (fun h => E4.out (by simpa [upOn] using h)), (fun h => E5.out (by simpa [upOn] using h)), (fun h => E6.out (by simpa [upOn] using h)), (fun _ => rfl), (fun _ => rfl), (fun h => E9.out (by simpa [upOn] using h)), (fun h => E10.out (by simpa [upOn] using h)), (fun h => E11.out (by simpa [upOn] using h)), (fun h => E12.out (by simpa [upOn] using h)), (fun h => E13.out (by simpa [upOn] using h)), (fun h => E14.out (by simpa [upOn] using h)), (fun h => E15.out (by simpa [upOn] using h)), (fun h => E16.out (by simpa [upOn] using h)), (fun _ => rfl), (fun _ => rfl), (fun h => E19.out (by simpa [upOn] using h)), (fun h => E20.out (by simpa [upOn] using h)), (fun h => E21.out (by simpa [upOn] using h)), (fun h => E22.out (by simpa [upOn] using h)), (fun h => E23.out (by simpa [upOn] using h)), hb⟩
    · have HF0 := Lib.hid hw0
      have l7 := (hdp 7 (by kernel_rfl))
      have l18 := (hdp 18 (by kernel_rfl))
      obtain rfl := e7 l7
      obtain rfl := e18 l18
      have E0 := Lib.hid e0; have E1 := Lib.hid e1; have E2 := Lib.hid e2; have E3 := Lib.hid e3; have E4 := Lib.hid e4; have E5 := Lib.hid e5; have E6 := Lib.hid e6; have E8 := Lib.hid e8; have E9 := Lib.hid e9; have E10 := Lib.hid e10; have E11 := Lib.hid e11; have E12 := Lib.hid e12; have E13 := Lib.hid e13; have E14 := Lib.hid e14; have E15 := Lib.hid e15; have E16 := Lib.hid e16; have E17 := Lib.hid e17; have E20 := Lib.hid e20; have E21 := Lib.hid e21; have E22 := Lib.hid e22; have E23 := Lib.hid e23
      clear e0 e1 e2 e3 e4 e5 e6 e7 e8 e9 e10 e11 e12 e13 e14 e15 e16 e17 e18 e19 e20 e21 e22 e23 hw0
      refine wpOp_step rfl (fun K hK => ?_)
      go_simp
      exact hK _ _ ⟨_, _, _, _, _, _, _, _, _, _, _, _, _, _, _, _, _, _, _, _, _, _, _, _, rfl, (fun h => E0.out (by simpa [upOn] using h)), (fun h => E1.out (by simpa [upOn] using h)), (fun h => E2.out (by simpa [upOn] using h)), (fun h => E3.out (by simpa [upOn] using h)), (fun h => E4.out (by simpa [upOn] using h)), (fun h => E5.out (by simpa [upOn] using h)), (fun h => E6.out (by simpa [upOn] using h)), (fun _ => rfl), (fun h => E8.out (by simpa [upOn] using h)), (fun h => E9.out (by simpa [upOn] using h)), (fun h => E10.out (by simpa [upOn] using h)), (fun h => E11.out (by simpa [upOn] using h)), (fun h => E12.out (by simpa [upOn] using h)), (fun h => E13.out (by simpa [upOn] using h)), (fun h => E14.out (by simpa [upOn] using h)), (fun h => E15.out (by simpa [upOn] using h)), (fun h => E16.out (by simpa [upOn] using h)), (fun h => E17.out (by simpa [upOn] using h)), (fun _ => rfl), (fun _ => rfl), (fun h => E20.out (by simpa [upOn] using h)), (fun h => E21.out (by simpa [upOn] using h)), (fun h => E22.out (by simpa [upOn] using h)), (fun h => E23.out (by simpa [upOn] using h)), HF0.out⟩
    · have HF0 := Lib.hid hw0
      have l19 := (hdp 19 (by kernel_rfl))
      obtain rfl := e19 l19
      have E0 := Lib.hid e0; have E1 := Lib.hid e1; have E2 := Lib.hid e2; have E3 := Lib.hid e3; have E4 := Lib.hid e4; have E5 := Lib.hid e5; have E6 := Lib.hid e6; have E7 := Lib.hid e7; have E8 := Lib.hid e8; have E9 := Lib.hid e9; have E10 := Lib.hid e10; have E11 := Lib.hid e11; have E12 := Lib.hid e12; have E13 := Lib.hid e13; have E14 := Lib.hid e14; have E15 := Lib.hid e15; have E16 := Lib.hid e16; have E17 := Lib.hid e17; have E18 := Lib.hid e18; have E21 := Lib.hid e21; have E22 := Lib.hid e22; have E23 := Lib.hid e23
      clear e0 e1 e2 e3 e4 e5 e6 e7 e8 e9 e10 e11 e12 e13 e14 e15 e16 e17 e18 e19 e20 e21 e22 e23 hw0
      refine wpOp_step rfl (fun K hK => ?_)
      go_simp
      exact hK _ _ ⟨_, _, _, _, _, _, _, _, _, _, _, _, _, _, _, _, _, _, _, _, _, _, _, _, rfl, (fun h => E0.out (by simpa [upOn] using h)), (fun h => E1.out (by simpa [upOn] using h)), (fun h => E2.out (by simpa [upOn] using h)), (fun h => E3.out (by simpa [upOn] using h)), (fun h => E4.out (by simpa [upOn] using h)), (fun h => E5.out (by simpa [upOn] using h)), (fun h => E6.out (by simpa [upOn] using h)), (fun h => E7.out (by simpa [upOn] using h)), (fun h => E8.out (by simpa [upOn] using h)), (fun h => E9.out (by simpa [upOn] using h)), (fun h => E10.out (by simpa [upOn] using h)), (fun h => E11.out (by simpa [upOn] using h)), (fun h => E12.out (by simpa [upOn] using h)), (fun h => E13.out (by simpa [upOn] using h)), (fun h => E14.out (by simpa [upOn] using h)), (fun h => E15.out (by simpa [upOn] using h)), (fun h => E16.out (by simpa [upOn] using h)), (fun h => E17.out (by simpa [upOn] using h)), (fun h => E18.out (by simpa [upOn] using h)), (fun _ => rfl), (fun _ => rfl), (fun h => E21.out (by simpa [upOn] using h)), (fun h => E22.out (by simpa [upOn] using h)), (fun h => E23.out (by simpa [upOn] using h)), HF0.out⟩
    · have HF0 := Lib.hid hw0
      have l20 := (hdp 20 (by kernel_rfl))
      obtain rfl := e20 l20
      have E0 := Lib.hid e0; have E1 := Lib.hid e1; have E2 := Lib.hid e2; have E3 := Lib.hid e3; have E4 := Lib.hid e4; have E5 := Lib.hid e5; have E6 := Lib.hid e6; have E7 := Lib.hid e7; have E8 := Lib.hid e8; have E9 := Lib.hid e9; have E10 := Lib.hid e10; have E11 := Lib.hid e11; have E12 := Lib.hid e12; have E13 := Lib.hid e13; have E14 := Lib.hid e14; have E15 := Lib.hid e15; have E16 := Lib.hid e16; have E17 := Lib.hid e17; have E18 := Lib.hid e18; have E19 := Lib.hid e19; have E22 := Lib.hid e22; have E23 := Lib.hid e23
      clear e0 e1 e2 e3 e4 e5 e6 e7 e8 e9 e10 e11 e12 e13 e14 e15 e16 e17 e18 e19 e20 e21 e22 e23 hw0
      refine wpOp_step rfl (fun K hK => ?_)
      go_simp
      refine (HKN.out _ HF0.out).mono ?_
      rintro e v1 ⟨rfl, hb⟩
      exact hK _ _ ⟨_, _, _, _, _, _, _, _, _, _, _, _, _, _, _, _, _, _, _, _, _, _, _, _, rfl, (fun h => E0.out (by simpa [upOn] using h)), (fun h => E1.out (by simpa [upOn] using h)), (fun h => E2.out (by simpa [upOn] using h)), (fun h => E3.out (by simpa [upOn] using h)), (fun h => E4.out (by simpa [upOn] using h)), (fun h => E5.out (by simpa [upOn] using h)), (fun h => E6.out (by simpa [upOn] using h)), (fun h => E7.out (by simpa [upOn] using h)), (fun h => E8.out (by simpa [upOn] using h)), (fun h => E9.out (by simpa [upOn] using h)), (fun h => E10.out (by simpa [upOn] using h)), (fun h => E11.out (by simpa [upOn] using h)), (fun h => E12.out (by simpa [upOn] using h)), (fun h => E13.out (by simpa [upOn] using h)), (fun h => E14.out (by simpa [upOn] using h)), (fun h => E15.out (by simpa [upOn] using h)), (fun h => E16.out (by simpa [upOn] using h)), (fun h => E17.out (by simpa [upOn] using h)), (fun h => E18.out (by simpa [upOn] using h)), (fun h => E19.out (by simpa [upOn] using h)), (fun _ => rfl), (fun _ => rfl), (fun h => E22.out (by simpa [upOn] using h)), (fun h => E23.out (by simpa [upOn] using h)), hb⟩
    · have HF0 := Lib.hid hw0
      have l20 := (hdp 20 (by kernel_rfl))
      have l21 := (hdp 21 (by kernel_rfl))
      obtain rfl := e20 l20
      obtain rfl := e21 l21
      have E0 := Lib.hid e0; have E1 := Lib.hid e1; have E2 := Lib.hid e2; have E3 := Lib.hid e3; have E4 := Lib.hid e4; have E5 := Lib.hid e5; have E6 := Lib.hid e6; have E7 := Lib.hid e7; have E8 := Lib.hid e8; have E9 := Lib.hid e9; have E10 := Lib.hid e10; have E11 := Lib.hid e11; have E12 := Lib.hid e12; have E13 := Lib.hid e13; have E14 := Lib.hid e14; have E15 := Lib.hid e15; have E16 := Lib.hid e16; have E17 := Lib.hid e17; have E18 := Lib.hid e18; have E19 := Lib.hid e19; have E23 := Lib.hid e23
      clear e0 e1 e2 e3 e4 e5 e6 e7 e8 e9 e10 e11 e12 e13 e14 e15 e16 e17 e18 e19 e20 e21 e22 e23 hw0
      refine wpOp_step rfl (fun K hK => ?_)
      go_simp
      exact hK _ _ ⟨_, _, _, _, _, _, _, _, _, _, _, _, _, _, _, _, _, _, _, _, _, _, _, _, rfl, (fun h => E0.out (by simpa [upOn] using h)), (fun h => E1.out (by simpa [upOn] using h)), (fun h => E2.out (by simpa [upOn] using h)), (fun h => E3.out (by simpa [upOn] using h)), (fun h => E4.out (by simpa [upOn] using h)), (fun h => E5.out (by simpa [upOn] using h)), (fun h => E6.out (by simpa [upOn] using h)), (fun h => E7.out (by simpa [upOn] using h)), (fun h => E8.out (by simpa [upOn] using h)), (fun h => E9.out (by simpa [upOn] using h)), (fun h => E10.out (by simpa [upOn] using h)), (fun h => E11.out (by simpa [upOn] using h)), (fun h => E12.out (by simpa [upOn] using h)), (fun h => E13.out (by simpa [upOn] using h)), (fun h => E14.out (by simpa [upOn] using h)), (fun h => E15.out (by simpa [upOn] using h)), (fun h => E16.out (by simpa [upOn] using h)), (fun h => E17.out (by simpa [upOn] using h)), (fun h => E18.out (by simpa [upOn] using h)), (fun h => E19.out (by simpa [upOn] using h)), (fun _ => rfl), (fun _ => rfl), (fun _ => rfl), (fun h => E23.out (by simpa [upOn] using h)), HF0.out⟩
    · have HF0 := Lib.hid hw0
      have l22 := (hdp 22 (by kernel_rfl))
      obtain rfl := e22 l22
      have E0 := Lib.hid e0; have E1 := Lib.hid e1; have E2 := Lib.hid e2; have E3 := Lib.hid e3; have E4 := Lib.hid e4; have E5 := Lib.hid e5; have E6 := Lib.hid e6; have E7 := Lib.hid e7; have E8 := Lib.hid e8; have E9 := Lib.hid e9; have E10 := Lib.hid e10; have E11 := Lib.hid e11; have E12 := Lib.hid e12; have E13 := Lib.hid e13; have E14 := Lib.hid e14; have E15 := Lib.hid e15; have E16 := Lib.hid e16; have E17 := Lib.hid e17; have E18 := Lib.hid e18; have E19 := Lib.hid e19; have E20 := Lib.hid e20; have E21 := Lib.hid e21
      clear e0 e1 e2 e3 e4 e5 e6 e7 e8 e9 e10 e11 e12 e13 e14 e15 e16 e17 e18 e19 e20 e21 e22 e23 hw0
      refine wpOp_step rfl (fun K hK => ?_)
      go_simp
      exact hK _ _ ⟨_, _, _, _, _, _, _, _, _, _, _, _, _, _, _, _, _, _, _, _, _, _, _, _, rfl, (fun h => E0.out (by simpa [upOn] using h)), (fun h => E1.out (by simpa [upOn] using h)), (fun h => E2.out (by simpa [upOn] using h)), (fun h => E3.out (by simpa [upOn] using h)), (fun h => E4.out (by simpa [upOn] using h)), (fun h => E5.out (by simpa [upOn] using h)), (fun h => E6.out (by simpa [upOn] using h)), (fun h => E7.out (by simpa [upOn] using h)), (fun h => E8.out (by simpa [upOn] using h)), (fun h => E9.out (by simpa [upOn] using h)), (fun h => E10.out (by simpa [upOn] using h)), (fun h => E11.out (by simpa [upOn] using h)), (fun h => E12.out (by simpa [upOn] using h)), (fun h => E13.out (by simpa [upOn] using h)), (fun h => E14.out (by simpa [upOn] using h)), (fun h => E15.out (by simpa [upOn] using h)), (fun h => E16.out (by simpa [upOn] using h)), (fun h => E17.out (by simpa [upOn] using h)), (fun h => E18.out (by simpa [upOn] using h)), (fun h => E19.out (by simpa [upOn] using h)), (fun h => E20.out (by simpa [upOn] using h)), (fun h => E21.out (by simpa [upOn] using h)), (fun _ => rfl), (fun _ => rfl), HF0.out⟩
  case fin =>
    rintro L a' w' hall ⟨y0, y1, y2, y3, y4, y5, y6, y7, y8, y9, y10, y11, y12, y13, y14, y15, y16, y17, y18, y19, y20, y21, y22, y23, rfl, e0, e1, e2, e3, e4, e5, e6, e7, e8, e9, e10, e11, e12, e13, e14, e15, e16, e17, e18, e19, e20, e21, e22, e23, hw0⟩
    obtain rfl := e0 (hall 0 (by omega))
    obtain rfl := e1 (hall 1 (by omega))
    obtain rfl := e2 (hall 2 (by omega))
    obtain rfl := e3 (hall 3 (by omega))
    obtain rfl := e4 (hall 4 (by omega))
    obtain rfl := e5 (hall 5 (by omega))
    obtain rfl := e6 (hall 6 (by omega))
    obtain rfl := e7 (hall 7 (by omega))
    obtain rfl := e8 (hall 8 (by omega))
    obtain rfl := e9 (hall 9 (by omega))
    obtain rfl := e10 (hall 10 (by omega))
    obtain rfl := e11 (hall 11 (by omega))
    obtain rfl := e12 (hall 12 (by omega))
    obtain rfl := e13 (hall 13 (by omega))
    obtain rfl := e14 (hall 14 (by omega))
    obtain rfl := e15 (hall 15 (by omega))
    obtain rfl := e16 (hall 16 (by omega))
    obtain rfl := e17 (hall 17 (by omega))
    obtain rfl := e18 (hall 18 (by omega))
    obtain rfl := e19 (hall 19 (by omega))
    obtain rfl := e20 (hall 20 (by omega))
    obtain rfl := e21 (hall 21 (by omega))
    obtain rfl := e22 (hall 22 (by omega))
    obtain rfl := e23 (hall 23 (by omega))
    have HB12 := Lib.hid hw0
    clear hw0 hall
    go_wp2_with fail
    go_ret
    exact ⟨rfl, HB.out _ (HB9.out.trans (HB12.out.mono HB9.out.size))⟩
theorem own : ownKnob Tryd.prog.godebug = none := by kernel_rfl
theorem laidOut : laidOutB Tryd.prog = true := by kernel_rfl
theorem gTab2 : Tryd.prog.globalNamed "internal/strconv.uint64pow10" = some 3 := by kernel_rfl
theorem gTab7 : Tryd.prog.globalNamed "strings.asciiSpace" = some 0 := by kernel_rfl
set_option maxRecDepth 1000000 in
theorem tables {W : World} (h0 : laidMetH Tryd.prog Rows.scriptCutsRow.laid W) (hsh : W.ShapedOpen Tryd.prog) : Tb W := by
  rw [MakeChecks.laidMetH_plain _ _ _ (by kernel_rfl)] at h0
  have h : laidMet Tryd.prog Rows.scriptCutsRow.laid W := h0
  exact ⟨Lib.tabIs_of_head (rest := _) gTab2 (by kernel_rfl) Tryd.underlying140 Tryd.underlying114 (by kernel_rfl) (by kernel_rfl) (laidMet.tail (laidMet.tail h)), Lib.tabIs_of_head (rest := _) gTab7 (by kernel_rfl) Tryd.underlying101 Tryd.underlying5 (by kernel_rfl) (by kernel_rfl) (laidMet.tail (laidMet.tail (laidMet.tail (laidMet.tail (laidMet.tail (laidMet.tail (laidMet.tail h))))))), mx_of hsh, ⟨errS_of (laidMet.tail (laidMet.tail (laidMet.tail (laidMet.tail (laidMet.tail h))))), errR_of (laidMet.tail (laidMet.tail (laidMet.tail (laidMet.tail h))))⟩⟩
set_option maxRecDepth 1000000 in
theorem contract (H : Type) (enc : TypeId × Value → H) (W : World) (base : Nat) (args : Array Value) (ds gs : List (DataW H)) (before : List MemPlace)
    (hval : ∀ (j : Nat) t v, Tryd.f5.params[j]? = some t → args[j]? = some v → Value.okWide Tryd.prog W .any base t v)
    (hW : DataW.Whole enc Tryd.prog Tryd.f5.params.toList Rows.scriptCutsSpec.vars false W args.toList ds gs before) (hL : laidMetH Tryd.prog Rows.scriptCutsRow.laid W) (hsh : W.ShapedOpen Tryd.prog) :
    Calls Tryd.prog 5 args W fun e W' => ∃ v, e = .returned v ∧ Rows.scriptCutsSpec.post enc Tryd.prog Tryd.f5 false true false false W args v W' := by
  have hW' := hW
  obtain ⟨p, q, hA0, hV, rfl, hfz, hnd⟩ := hW
  have hA : DataW.TrodAll enc Tryd.prog W 0 (fun _ => true) true Tryd.f5.params.toList args.toList ds p := hA0
  rw [Tryd.params5] at hA hval
  obtain ⟨v0, vs0, d0, ds0, p0, q0, hargs, rfl, rfl, h0, r0⟩ := trodAll_cons hA
  obtain ⟨v1, vs1, d1, ds1, p1, q1, rfl, rfl, rfl, h1, r1⟩ := trodAll_cons r0
  obtain ⟨rfl, rfl, rfl⟩ := trodAll_nil r1
  obtain rfl : args = #[v0, v1] := by cases args; simp_all
  obtain ⟨rfl, rfl⟩ := trodVars_none hV
  obtain ⟨o0, l0, a0, n0, c0, rfl, w0, u0⟩ := script_of (.inl (hval 0 46 v0 rfl rfl)) h0
  have kk0 := h0
  have lt0 : ∀ x ∈ p0, x.block < W.heap.size := by obtain ⟨m, hm⟩ := kk0; exact DataW.trod_lt m _ _ _ hm
  obtain ⟨a1, rfl, rfl, rfl, w1⟩ := open_int Tryd.underlying3 (hval 1 3 v1 rfl rfl) h1
  clear hA0
  have hT := tables hL hsh
  refine (walk o0 l0 a0 n0 c0 a1 W w0 u0 w1 hT).mono fun e W' ⟨he, bel⟩ => ?_
  subst he
  exact ⟨_, rfl, _, _, _, [], _, [], hW', trodAll_mk1 (shut_bool Tryd.underlying4 _), (trodAll_cons_mk (Below.trod laidOut (by kernel_rfl) (of_decide_eq_true (by kernel_rfl)) kk0 bel lt0) (trodAll_cons_mk (shut_int Tryd.underlying3 w1) trodAll_mk0)), rfl, bel.frame _, fun h => by cases h⟩
theorem witness_shaped {H : Type} {enc : TypeId × Value → H} {C : Checked} {os : Os} {f : FuncId} {fn : Func} {s : OpenSpec} {conds : List PathCond} {apart : Bool} {laid : List (String × DataW Unit)} (modest : Bool) (w0 : World) (args : Array Value) (hos : w0.os = os)
    (hsh : (w0.forCall (fun _ _ => 0) ⟨#[], args, []⟩).Shaped C.prog) (hok : Input.okWideB C.prog (w0.forCall (fun _ _ => 0) ⟨#[], args, []⟩) f ⟨#[], args, []⟩ = true)
    (hrow : s.preRow enc C.prog fn conds apart laid (w0.forCall (fun _ _ => 0) ⟨#[], args, []⟩).memory args) :
    ∃ (w : World) (tape : Tape) (i : Input), w.os = os ∧ (w.forCall tape i).Shaped C.prog ∧ i.vars = [] ∧ Input.okWide C.prog (w.forCall tape i) .any w.heap.size f i ∧
      s.preRow enc C.prog fn conds apart laid (w.forCall tape i).memory i.args ∧ ({ modest := modest } : Assume).holds C.prog (lone (Frame.enter C.prog f i.args .normal) [] (w.forCall tape i)) :=
  ⟨w0, fun _ _ => 0, ⟨#[], args, []⟩, hos, hsh, (Input.okWide_of_okWideB (base := 0) hok).1, (Input.okWide_of_okWideB hok).2, hrow, by
    simp only [Assume.holds]
    exact ⟨by simp, by simp, fun _ => Modest.zero, by simp, by simp⟩⟩
set_option maxRecDepth 1000000 in
theorem laid_met (os : Os) : laidMetH Tryd.prog Rows.scriptCutsRow.laid ((World.laidAll Tryd.prog os Rows.scriptCutsRow.laid).forCall (fun _ _ => 0) ⟨#[], #[.agg #[.int .i64 0, .slice none 0 0], .int .i64 0], []⟩).memory := by
  rw [MakeChecks.laidMetH_plain _ _ _ (by kernel_rfl)]
  exact laidMet_laidAll _ (by kernel_rfl) (by kernel_rfl)
set_option maxRecDepth 1000000 in
theorem reads (os : Os) {H : Type} (enc : TypeId × Value → H) : ∃ places, DataW.whole enc Tryd.prog ((World.laidAll Tryd.prog os Rows.scriptCutsRow.laid).forCall (fun _ _ => 0) ⟨#[], #[.agg #[.int .i64 0, .slice none 0 0], .int .i64 0], []⟩).memory Tryd.f5.params.toList Rows.scriptCutsSpec.vars false (#[.agg #[.int .i64 0, .slice none 0 0], .int .i64 0] : Array Value).toList 8 = some ([.agg [.lit (.int .i64 0), .nil], .lit (.int .i64 0)], [], places) := ⟨[], by kernel_rfl⟩
set_option maxRecDepth 1000000 in
theorem lifted (os : Os) (started : os.Started) (H : Type) (enc : TypeId × Value → H) (F : Stop.Interp) :
    ReturnsInHanded {} Tryd.checked os 5 .any ((OpenSpec.ofChange Rows.scriptCutsSpec).preRow enc Tryd.prog Tryd.f5 Rows.scriptCutsRow.domain false Rows.scriptCutsRow.laid) (((OpenSpec.ofChange Rows.scriptCutsSpec).at F).post enc Tryd.prog Tryd.f5 false true false false) := by
  obtain ⟨places, hx⟩ := reads os enc
  refine returnsInHanded_of_row (C := Tryd.checked) (s := OpenSpec.ofChange Rows.scriptCutsSpec) own started (by kernel_rfl) Tryd.func5
    (witness_shaped (enc := enc) (C := Tryd.checked) false (World.laidAll Tryd.prog os Rows.scriptCutsRow.laid) #[.agg #[.int .i64 0, .slice none 0 0], .int .i64 0] (World.laidAll_os _ _ _) (World.shaped_of_ZipB (by kernel_rfl) (by kernel_rfl)) (by kernel_rfl)
      (OpenSpec.preRow_of_cond 8 hx (by kernel_rfl) (fun k hk => by cases hk) (by kernel_rfl) (laid_met os))) ?_
  intro W base args ds gs before hval hW _ _ _ hL hsh _
  exact contract H enc W base args ds gs before hval hW hL hsh
theorem said : Rows.ScriptCutsSaid :=
  OpenClaim.holds_of_cond 5 Tryd.f5 rfl rfl rfl rfl rfl rfl rfl ⟨rfl, rfl, rfl, rfl, rfl⟩ rfl rfl rfl rfl rfl (by kernel_rfl) Tryd.func5 (by kernel_rfl)
    (of_decide_eq_true (by kernel_rfl)) (by unfold Func.isWrapper; first | (rw [if_pos (by decide +kernel)]; kernel_rfl) | (rw [if_neg (by decide +kernel)]; exact ⟨rfl, rfl⟩))
    (fun os started H enc _ F => by rw [OpenClaim.pre_eq_preRow]; exact lifted os started H enc F)
theorem plain (f : FuncId) (fn : Func) (hf : Tryd.pinned.checked.prog.funcNamed "selfsame/selfsamelaw25.ScriptCuts" = some f) (hfn : Tryd.pinned.checked.prog.funcs[f]? = some fn) :
    true = Tryd.pinned.checked.prog.looks [] ∧ ∀ (j : Nat) t, fn.params[j]? = some t → Tryd.pinned.checked.prog.wantsStandIn t = false := by
  obtain rfl : f = 5 := Option.some.inj ((show Tryd.prog.funcNamed "selfsame/selfsamelaw25.ScriptCuts" = some 5 by kernel_rfl).symm.trans hf) |>.symm
  obtain rfl : fn = Tryd.f5 := (Option.some.inj (Tryd.func5.symm.trans hfn)).symm
  refine ⟨by kernel_rfl, fun j t ht => ?_⟩
  rw [Tryd.params5] at ht
  have hm := Array.mem_of_getElem? ht
  simp only [List.mem_toArray, List.mem_cons, List.not_mem_nil, or_false] at hm
  rcases hm with rfl | rfl
  · exact (show Tryd.prog.wantsStandIn 46 = false by kernel_rfl)
  · exact (show Tryd.prog.wantsStandIn 3 = false by kernel_rfl)
theorem proved : Rows.ScriptCutsCardSaid :=
  Claim7.holds_tied_plain_at .later [] _ _ _ _ said (fun _ h => by cases h) (by kernel_rfl) (fun _ h => by cases h) scriptCuts_row_tie rfl ⟨rfl, rfl⟩ (by kernel_rfl) rfl plain (by kernel_rfl)
end Go.Proofs.YtlodoilihminaaaDoor.scriptCuts
