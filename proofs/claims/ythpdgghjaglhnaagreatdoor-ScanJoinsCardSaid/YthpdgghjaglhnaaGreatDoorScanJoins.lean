/-
  ScanJoins: two sources with a blank between are the symbols of the one and then those of the other one. No condition but the laid tables'.
-/
import Derived.Test.YthpdgghjaglhnaaGreatDoorSqF
import Derived.Test.YthpdgghjaglhnaaGreatDoorSqK
import Derived.Test.YthpdgghjaglhnaaGreatDoorRows
import Derived.Test.YthpdgghjaglhnaaGreatDoorCards
import Derived.Test.YthpdgghjaglhnaaGreatDoorTie
import Derived.Deep.DeepHandedRow
import Derived.Stop.LaidErr
import Derived.WalkKit
import Derived.ProofKit
import Derived.OpenShut
import Derived.LaidMore
import Derived.Lay
import Derived.SevenTiedAt
import Derived.Stop.Joined
import Derived.BigQuiet
namespace Go.Proofs.YthpdgghjaglhnaaGreatDoor.scanJoins
open Go.ChangeShapes Go.WideShapes Go.ChangeAt Go.RowKit
open Ev (WRow)
set_option linter.unusedVariables false
set_option linter.unusedSimpArgs false
structure Tab (w : World) : Prop where
  space : Lib.TabIs Tryz.prog w "strings.asciiSpace" .u8 spaceTab
  pow : Lib.TabIs Tryz.prog w "internal/strconv.uint64pow10" .u64 Lib.pow10Tab
theorem rows_form {W : World} {B M : Nat} {v : Value} {u : Sn} (h : WRow W B 5 v M (rowL u M)) : ∃ A c, v = .slice A M c ∧ ∀ i, i < M → ∃ g f, A = some ⟨g, f, none⟩ ∧ B ≤ g ∧ g < W.heap.size ∧ ∀ o, o < 5 → W.cell? ⟨g, f + (i * 5 + o), none⟩ = (symC (stp u (i + 1)))[o]? := by
  rcases h.2 with ⟨rfl, e⟩ | ⟨b, f, c, rfl, hb, hl, h1, h2, h3, h4⟩
  · exact ⟨none, 0, by rw [e], fun i hi => by omega⟩
  · refine ⟨_, c, rfl, fun i hi => ⟨b, f, rfl, hb, hl, fun o ho => ?_⟩⟩
    have e := rowL_get u M i o hi ho
    obtain ⟨x, hx⟩ : ∃ x, (symC (stp u (i + 1)))[o]? = some x := by
      have : o < (symC (stp u (i + 1))).size := by show o < 5; exact ho
      exact ⟨_, Array.getElem?_eq_getElem this⟩
    rw [hx] at e ⊢
    exact h3 _ x e
theorem names_rows {W : World} {B : Nat} {v : Value} {nms : List (List UInt8)} (h : WRow W B 1 v nms.length (nms.map fun l => .string (bs l))) : ∃ A c, v = .slice A nms.length c ∧ ∀ i l, nms[i]? = some l → ∃ g f, A = some ⟨g, f, none⟩ ∧ B ≤ g ∧ g < W.heap.size ∧ W.cell? ⟨g, f + i, none⟩ = some (.string (bs l)) := by
  rcases h.2 with ⟨rfl, e⟩ | ⟨b, f, c, rfl, hb, hl, h1, h2, h3, h4⟩
  · exact ⟨none, 0, by rw [e], fun i l hi => by
      have := (List.getElem?_eq_some_iff.1 hi).1
      omega⟩
  · exact ⟨_, c, rfl, fun i l hi => ⟨b, f, rfl, hb, hl, h3 i _ (by rw [List.getElem?_map, hi]; rfl)⟩⟩
theorem one_rd (w : World) (x : Int) : Rd (w.alloc (.cells #[.int .u8 x] 5)) (w.alloc (.cells #[.int .u8 x] 5)).heap.size .u8 (some ⟨w.heap.size, 0, none⟩) 1 [x] := by
  refine ⟨rfl, fun _ => ⟨_, rfl, by simp, fun i hi => ?_⟩⟩
  obtain rfl : i = 0 := by omega
  exact World.news_of_block (heap_alloc_new w (.cells #[.int .u8 x] 5)) 0 _ rfl
theorem own_below {w w' : World} {b sz n : Nat} {e : TypeId} {v : Value} {xs : List Value} (h : w.ownsRow b e sz v n xs) (hb : Below w.heap.size w w') : w'.ownsRow b e sz v n xs := by
  refine ⟨h.1, ?_⟩
  rcases h.2 with hn | ⟨g, cap, cur, e, hB, hc, h1, h2, h3, h4⟩
  · exact .inl hn
  · exact .inr ⟨g, cap, cur, e, hB, (hb.block g (Array.getElem?_eq_some_iff.1 hc).1).trans hc, h1, h2, h3, h4⟩
theorem two_mid (w : World) (z A : Array Value) (t : TypeId) : (((w.alloc (.cells z t)).alloc (.cells z t)).setRow w.heap.size A).heap[w.heap.size + 1]? = some (.cells z t (0, 0)) := by
  rw [setRow_other _ _ _ _ (by omega)]
  have h := heap_alloc_new (w.alloc (.cells z t)) (.cells z t)
  have e : (w.alloc (.cells z t)).heap.size = w.heap.size + 1 := by simp
  rw [e] at h
  exact h
theorem two_fst (w : World) (z : Array Value) (t : TypeId) : ((w.alloc (.cells z t)).alloc (.cells z t)).heap[w.heap.size]? = some (.cells z t (0, 0)) :=
  (((Below.refl (w.heap.size + 1) (w.alloc (.cells z t))).alloc (by simp) (.cells z t)).block w.heap.size (Nat.lt_succ_self _)).trans (heap_alloc_new w (.cells z t))
structure Two (w : World) (A B : Array Value) (t : TypeId) (W : World) : Prop where
  a : W.heap[w.heap.size]? = some (.cells A t (0, 0))
  b : W.heap[w.heap.size + 1]? = some (.cells B t (0, 0))
  sz : W.heap.size = w.heap.size + 2
  old : ∀ k, k < w.heap.size → W.heap[k]? = w.heap[k]?
  below : ∀ b, b ≤ w.heap.size → Below b w W
theorem two_rows (w : World) (z A B : Array Value) (t : TypeId) : Two w A B t ((((w.alloc (.cells z t)).alloc (.cells z t)).setRow w.heap.size A).setRow (w.heap.size + 1) B) := by
  have hA := snsetRow_heap _ _ A _ _ _ (two_fst w z t)
  have hB := snsetRow_heap _ _ B _ _ _ (two_mid w z A t)
  refine ⟨?_, hB, by simp, fun k hk => ?_, fun b hb => ?_⟩
  · rw [setRow_other _ _ _ _ (by omega)]; exact hA
  · rw [setRow_other _ _ _ _ (by omega), setRow_other _ _ _ _ (by omega)]
    exact (((Below.refl w.heap.size w).alloc (Nat.le_refl _) _).alloc (by simp) _).block k hk
  · exact snbelow_setRow (snbelow_setRow (((Below.refl b w).alloc hb _).alloc (by simp; omega) _) hb _) (by omega) _
set_option maxHeartbeats 16000000 in
set_option maxRecDepth 100000 in
theorem walk (a0 : Option Addr) (len0 cap0 : Nat) (z0 : List Int) (a1 : Option Addr) (len1 cap1 : Nat) (z1 : List Int) (w : World) (w0 : IsRow .u8 w a0 len0 cap0 z0) (w1 : IsRow .u8 w a1 len1 cap1 z1) (hT : Tab w) :
    Calls Tryz.prog 4 #[.slice a0 len0 cap0, .slice a1 len1 cap1] w fun e w' => e = .returned (.bool true) ∧ Below w.heap.size w w' := by
  have hl0 : len0 ≤ maxLen := Nat.le_trans w0.2.1 w0.2.2.1
  have hcap0 := w0.2.1
  have hl1 : len1 ≤ maxLen := Nat.le_trans w1.2.1 w1.2.2.1
  have hcap1 := w1.2.1
  have HSP : SpTab w := ⟨hT.space⟩
  have HTT : Hid (∀ V, Below w.heap.size w V → SpTab V ∧ Proofs.YthpdgghjaglhnaaGreatDoor.Tab V) := Lib.hid fun V hV => ⟨HSP.stab fun k hk => hV.block k (Nat.lt_of_lt_of_le hk (tab_base HSP (fun _ => 0) (fun _ => false) (fun _ => []) (fun _ => Nat.zero_le _)).2), Proofs.YthpdgghjaglhnaaGreatDoor.Tab.below (w := w) hT.pow hV⟩
  have KN : Hid (∀ W, Below w.heap.size w W → Calls Tryz.prog 5 #[] W fun e w' => e = .returned (.bool true) ∧ Below W.heap.size W w') := Lib.hid fun W hW => known11 W (HTT.out W hW).1
  have HRD0 : Hid (Rd w w.heap.size .u8 a0 len0 z0) := Lib.hid w0.2.2.2.2
  have HBY0 : Hid (∀ x ∈ z0, 0 ≤ x ∧ x < 256) := Lib.hid (fun x hx => by have := bd_u8 (w0.2.2.2.1 x hx); omega)
  have HRD1 : Hid (Rd w w.heap.size .u8 a1 len1 z1) := Lib.hid w1.2.2.2.2
  have HBY1 : Hid (∀ x ∈ z1, 0 ≤ x ∧ x < 256) := Lib.hid (fun x hx => by have := bd_u8 (w1.2.2.2.1 x hx); omega)
  clear hT HSP w0 w1
  unfold maxLen at hl0 hl1
  by_cases h0 : len0 ≤ 1000
  rotate_left
  · go_enter Tryz.func4, Tryz.ntmps4
    go_wp2_with (go_at_call 5; (refine (KN.out _ (Below.refl _ _)).mono ?_); rintro e w' ⟨rfl, hb⟩)
    go_ret
    exact ⟨rfl, hb⟩
  by_cases h1 : len1 ≤ 1000
  rotate_left
  · go_enter Tryz.func4, Tryz.ntmps4
    go_wp2_with (go_at_call 5; (refine (KN.out _ (Below.refl _ _)).mono ?_); rintro e w' ⟨rfl, hb⟩)
    go_ret
    exact ⟨rfl, hb⟩
  have HZ0 := Lib.hid HRD0.out.1
  have HZ1 := Lib.hid HRD1.out.1
  obtain ⟨U, hU⟩ : ∃ u, u = ({ wsF 57 29 with src := z0 } : Sn) := ⟨_, rfl⟩
  obtain ⟨V, hV⟩ : ∃ u, u = ({ wsF 57 29 with src := z1 } : Sn) := ⟨_, rfl⟩
  have HFT : Hid (Fit U) := Lib.hid (by rw [hU]; exact fit_start z0)
  have HFT' : Hid (Fit V) := Lib.hid (by rw [hV]; exact fit_start z1)
  have HU := Lib.hid hU
  have HV := Lib.hid hV
  clear hU hV
  have HSC0 : Hid (Calls Tryz.prog 7 #[.slice a0 len0 cap0] w (Told11 U w)) := Lib.hid (by have h := qscan_any (c := cap0) HRD0.out (by omega) hcap0 HBY0.out; rw [← HU.out] at h; exact h)
  have HSC1 : Hid (∀ W, Below w.heap.size w W → Calls Tryz.prog 7 #[.slice a1 len1 cap1] W (Told11 V W)) := Lib.hid fun W hW => by have h := qscan_any (c := cap1) ((HRD1.out.below hW).more hW.size) (by omega) hcap1 HBY1.out; rw [← HV.out] at h; exact h
  obtain ⟨ib, hib, hbz, hb1, hb2⟩ := info_parts infoB0
  go_enter Tryz.func4, Tryz.ntmps4
  go_upto_region 4 with (first
    | (go_at_call 7; (with_reducible refine HSC0.out.mono ?_); rintro e w7 ⟨m, v, nv, hsc, rfl, hqf⟩; obtain ⟨fc, hfc⟩ : ∃ fc, fc = (stp U (m + 1)).code := ⟨_, rfl⟩; obtain ⟨fe, hfe⟩ : ∃ fe, fe = (stp U (m + 1)).epos := ⟨_, rfl⟩; rw [← hfc, ← hfe]; have HFC := Lib.hid hfc; have HSD := Lib.hid hsc; have HQF := Lib.hid hqf; have HON : Hid ((#[v, nv, .int .i64 fc, .int .i64 fe] : Array Value).all (·.oneCell') = true) := Lib.hid (by simp [wrow_one hqf.all, wrow_one hqf.nm]; exact ⟨rfl, rfl⟩); clear hsc hqf hfc hfe)
    | (go_at_call 7; (with_reducible refine (HSC1.out _ HQF.out.b).mono ?_); rintro e w8 ⟨m', v', nv', hsc, rfl, hqf⟩; obtain ⟨fc', hfc⟩ : ∃ fc, fc = (stp V (m' + 1)).code := ⟨_, rfl⟩; obtain ⟨fe', hfe⟩ : ∃ fe, fe = (stp V (m' + 1)).epos := ⟨_, rfl⟩; rw [← hfc, ← hfe]; have HFC' := Lib.hid hfc; have HSD' := Lib.hid hsc; have HQF' := Lib.hid hqf; have HON' : Hid ((#[v', nv', .int .i64 fc', .int .i64 fe'] : Array Value).all (·.oneCell') = true) := Lib.hid (by simp [wrow_one hqf.all, wrow_one hqf.nm]; exact ⟨rfl, rfl⟩); clear hsc hqf hfc hfe)
    | (with_reducible refine wpList_store_row rfl 29 _ _ rfl w8.heap.size #[v, nv, .int .i64 fc, .int .i64 fe] rfl rfl 29 _ (two_fst w8 _ _) (rsize v nv fc fe) rfl HON.out ?_)
    | (with_reducible refine wpList_store_row rfl 29 _ _ rfl (w8.heap.size + 1) #[v', nv', .int .i64 fc', .int .i64 fe'] rfl rfl 29 (#[.slice none 0 0, .slice none 0 0, .int .i64 0, .int .i64 0]) (two_mid w8 _ _ _) (rsize v' nv' fc' fe') rfl HON'.out ?_))
  have HTW : Hid (Two w8 #[v, nv, .int .i64 fc, .int .i64 fe] #[v', nv', .int .i64 fc', .int .i64 fe'] 29 ((((w8.alloc (.cells #[.slice none 0 0, .slice none 0 0, .int .i64 0, .int .i64 0] 29)).alloc (.cells #[.slice none 0 0, .slice none 0 0, .int .i64 0, .int .i64 0] 29)).setRow w8.heap.size #[v, nv, .int .i64 fc, .int .i64 fe]).setRow (w8.heap.size + 1) #[v', nv', .int .i64 fc', .int .i64 fe'])) := Lib.hid (two_rows _ _ _ _ _)
  generalize (((w8.alloc (.cells #[.slice none 0 0, .slice none 0 0, .int .i64 0, .int .i64 0] 29)).alloc (.cells #[.slice none 0 0, .slice none 0 0, .int .i64 0, .int .i64 0] 29)).setRow w8.heap.size #[v, nv, .int .i64 fc, .int .i64 fe]).setRow (w8.heap.size + 1) #[v', nv', .int .i64 fc', .int .i64 fe'] = W2 at HTW ⊢
  have HW2 : Hid (Below w.heap.size w W2) := Lib.hid ((HQF.out.b.trans (HQF'.out.b.mono HQF.out.b.size)).trans (HTW.out.below _ (Nat.le_trans HQF.out.b.size HQF'.out.b.size)))
  have HP0 := Lib.hid HTW.out.a
  have HP1 := Lib.hid HTW.out.b
  have hsz2 := HTW.out.sz
  have h78 := HQF'.out.b.size
  have h07 := HQF.out.b.size
  have HALL := Lib.hid (wrow_keep HQF.out.all (W := W2) (by omega) fun k hk => (HTW.out.old k (by have := (HQF.out.all.lt k hk).2; omega)).trans (HQF'.out.b.block k (HQF.out.all.lt k hk).2))
  have HNMS := Lib.hid (wrow_keep HQF.out.nm (W := W2) (by omega) fun k hk => (HTW.out.old k (by have := (HQF.out.nm.lt k hk).2; omega)).trans (HQF'.out.b.block k (HQF.out.nm.lt k hk).2))
  have HALL' := Lib.hid (wrow_keep HQF'.out.all (W := W2) (by omega) fun k hk => HTW.out.old k (HQF'.out.all.lt k hk).2)
  have HNMS' := Lib.hid (wrow_keep HQF'.out.nm (W := W2) (by omega) fun k hk => HTW.out.old k (HQF'.out.nm.lt k hk).2)
  obtain ⟨AV, cv, hv, hvc⟩ := rows_form HALL.out
  obtain ⟨AN, cn, hnv, hnc⟩ := names_rows HNMS.out
  obtain ⟨AV', cv', hv', hvc'⟩ := rows_form HALL'.out
  obtain ⟨AN', cn', hnv', hnc'⟩ := names_rows HNMS'.out
  subst hv
  subst hnv
  subst hv'
  subst hnv'
  have HVC := Lib.hid hvc
  have HNC := Lib.hid hnc
  have HVC' := Lib.hid hvc'
  have HNC' := Lib.hid hnc'
  clear hvc hnc hvc' hnc'
  have c00 : W2.cell? ⟨w8.heap.size, 0, none⟩ = some (.slice AV (allN U m) cv) := (qblock_cell HP0.out rfl).1
  have c01 : W2.cell? ⟨w8.heap.size, 1, none⟩ = some (.slice AN (stp U (m + 1)).nms.length cn) := (qblock_cell HP0.out rfl).1
  have c02 : W2.cell? ⟨w8.heap.size, 2, none⟩ = some (.int .i64 fc) := (qblock_cell HP0.out rfl).1
  have c10 : W2.cell? ⟨w8.heap.size + 1, 0, none⟩ = some (.slice AV' (allN V m') cv') := (qblock_cell HP1.out rfl).1
  have c11 : W2.cell? ⟨w8.heap.size + 1, 1, none⟩ = some (.slice AN' (stp V (m' + 1)).nms.length cn') := (qblock_cell HP1.out rfl).1
  have c12 : W2.cell? ⟨w8.heap.size + 1, 2, none⟩ = some (.int .i64 fc') := (qblock_cell HP1.out rfl).1
  obtain ⟨L, hL⟩ : ∃ L, L = (stp U (m + 1)).nms.length := ⟨_, rfl⟩
  obtain ⟨L', hL'⟩ : ∃ L, L = (stp V (m' + 1)).nms.length := ⟨_, rfl⟩
  rw [← hL] at c01
  rw [← hL'] at c11
  have hLb : L ≤ 1000000 := by rw [hL]; have := (HFT.out.stp (m + 1)).n1; omega
  have hLb' : L' ≤ 1000000 := by rw [hL']; have := (HFT'.out.stp (m' + 1)).n1; omega
  have HLE := Lib.hid hL
  have HLE' := Lib.hid hL'
  clear hL hL'
  by_cases q0 : fc = 0
  rotate_left
  · go_upto_region 5 with (fail)
    go_wp2_with (go_at_call 5; (with_reducible refine (KN.out _ HW2.out).mono ?_); rintro e w' ⟨rfl, hb⟩)
    go_ret
    exact ⟨rfl, HW2.out.trans (hb.mono HW2.out.size)⟩
  by_cases q1 : fc' = 0
  rotate_left
  · go_upto_region 5 with (fail)
    go_wp2_with (go_at_call 5; (with_reducible refine (KN.out _ HW2.out).mono ?_); rintro e w' ⟨rfl, hb⟩)
    go_ret
    exact ⟨rfl, HW2.out.trans (hb.mono HW2.out.size)⟩
  by_cases q2 : L + L' ≤ 700
  rotate_left
  · go_upto_region 5 with (fail)
    go_wp2_with (go_at_call 5; (with_reducible refine (KN.out _ HW2.out).mono ?_); rintro e w' ⟨rfl, hb⟩)
    go_ret
    exact ⟨rfl, HW2.out.trans (hb.mono HW2.out.size)⟩
  go_upto_region 6 with (fail)
  have HR0 : Hid (Rd W2 W2.heap.size .u8 a0 len0 z0) := Lib.hid ((HRD0.out.below HW2.out).more HW2.out.size)
  obtain ⟨J, hJe⟩ : ∃ J, J = ({ wsF 57 29 with src := z0 ++ 32 :: z1 } : Sn) := ⟨_, rfl⟩
  have hJ := joined_any HU.out HV.out hJe HSD.out HSD'.out (by rw [← HFC.out]; exact q0) (by rw [← HFC'.out]; exact q1) (by rw [← HLE.out, ← HLE'.out]; exact q2)
  have HJ := Lib.hid hJ
  have hzl : (z0 ++ 32 :: z1).length = len0 + 1 + len1 := by rw [jlen, HZ0.out, HZ1.out]
  have hnf : newF (z0 ++ 32 :: z1) = stp J 1 := by
    unfold newF
    rw [if_neg (by omega), ← hJe]
    rfl
  have HNF := Lib.hid hnf
  have HFJ : Hid (Fit J) := Lib.hid (by rw [hJe]; exact fit_start _)
  have HA0U : Hid (At0 U U 0) := Lib.hid (by have h := HU.out; subst h; exact ⟨rfl, Nat.zero_le _, (by decide : (0 : Int) ≤ 29), rfl, Nat.le_refl _⟩)
  have HA0V : Hid (At0 V V 0) := Lib.hid (by have h := HV.out; subst h; exact ⟨rfl, Nat.zero_le _, (by decide : (0 : Int) ≤ 29), rfl, Nat.le_refl _⟩)
  have hUs : U.src = z0 := by rw [HU.out]
  have hVs : V.src = z1 := by rw [HV.out]
  have hm1 : m ≤ 1000 := by have h1 := all_len HA0U.out HSD.out; rw [hUs, HZ0.out] at h1; omega
  have hm2 : m' ≤ 1000 := by have h1 := all_len HA0V.out HSD'.out; rw [hVs, HZ1.out] at h1; omega
  have HC0 : Hid ((stp U (m + 1)).code = 0) := Lib.hid (by rw [← HFC.out]; exact q0)
  have HC1 : Hid ((stp V (m' + 1)).code = 0) := Lib.hid (by rw [← HFC'.out]; exact q1)
  have hVs2 : ((V.src.length : Nat) : Int) = (len1 : Int) := by rw [hVs, HZ1.out]
  have HVL := Lib.hid hVs2
  have hBYJ : ∀ x ∈ z0 ++ 32 :: z1, 0 ≤ x ∧ x < 256 := fun x hx => by
    rw [List.mem_append, List.mem_cons] at hx
    rcases hx with h | h | h
    · exact HBY0.out x h
    · omega
    · exact HBY1.out x h
  have HBYJ := Lib.hid hBYJ
  obtain ⟨M, hM⟩ : ∃ M, M = m + 1 := ⟨_, rfl⟩
  obtain ⟨M', hM'⟩ : ∃ M, M = m' + 1 := ⟨_, rfl⟩
  rw [allN_ok HC0.out, ← hM] at c00 HVC
  rw [allN_ok HC1.out, ← hM'] at c10 HVC'
  have hMb : M ≤ 1001 := by omega
  have hMb' : M' ≤ 1001 := by omega
  have HM := Lib.hid hM
  have HM' := Lib.hid hM'
  have HCW : Hid (W2.cell? ⟨w8.heap.size, 0, none⟩ = some (.slice AV M cv) ∧ W2.cell? ⟨w8.heap.size + 1, 0, none⟩ = some (.slice AV' M' cv') ∧ W2.cell? ⟨w8.heap.size + 1, 1, none⟩ = some (.slice AN' L' cn')) := Lib.hid ⟨c00, c10, c11⟩
  clear hJ hJe hzl hnf hUs hVs hVs2 hM hM' hm1 hm2 hBYJ c00 c01 c02 c10 c11 c12 HALL HNMS HALL' HNMS' HTW HP0 HP1 HNC HQF HQF' HON HON' HSC0 HSC1 q0 q1 q2 HLE hLb
  go_upto_region 7 with (first
    | (at_builtin; refine wpList_append_rd rfl (.const (.slice none 0 0)) (.tmp 46) 22 rfl W2.heap.size 5 ib (.int .u8 0) 1 Tryz.underlying22 hib hbz hb1 hb2 rfl _ _ _ rfl (World.ownsRow_nil _ _ _ _) W2.heap.size .u8 a0 len0 cap0 z0 rfl HR0.out (by unfold maxLen; omega) (by omega) (Nat.le_refl _) ?_; intro v3 w3 ho hg0; have hg : W2.grownBy w3 none := hg0; clear hg0; have HO3 := Lib.hid ho; have HG3 := Lib.hid hg; have HX3 : Hid (Below W2.heap.size W2 w3) := Lib.hid ((Below.refl _ _).grown hg (Nat.le_refl _) (fun z e => by cases e)); clear ho hg)
    | (at_builtin; refine wpList_append_rd rfl (.tmp 47) (.tmp 48) 22 rfl W2.heap.size 5 ib (.int .u8 0) 1 Tryz.underlying22 hib hbz hb1 hb2 rfl _ _ _ rfl (own_below HO3.out ((Below.refl _ _).alloc (Nat.le_refl _) _)) (w3.alloc (.cells #[.int .u8 32] 5)).heap.size .u8 _ _ _ [32] rfl (one_rd w3 32) (by unfold maxLen; omega) (by omega) (by have := HG3.out.size; simp; omega) ?_; intro v4 w4 ho hg; have HO4 := Lib.hid ho; have hw2 := HW2.out.size; have hg3 := HG3.out.size; have HB4 : Hid (Below w.heap.size w w4) := Lib.hid ((HW2.out.trans (((Below.refl _ _).grown HG3.out hw2 (fun z e => by cases e)).alloc (by omega) _)).trans ((Below.refl _ _).grown hg (by simp; omega) (fun z e => by have := (HO3.out.lt z e).1; omega))); have HX4 : Hid (Below W2.heap.size W2 w4) := Lib.hid ((HX3.out.alloc HX3.out.size _).grown hg (by simp; omega) (fun z e => by have := (HO3.out.lt z e).1; omega)); have HR4 : Hid (Rd w4 w4.heap.size .u8 a1 len1 z1) := Lib.hid ((HRD1.out.below HB4.out).more HB4.out.size); have hg4 : W2.heap.size ≤ w4.heap.size := (by have := hg.size; simp at this; omega); clear ho hg)
    | (at_builtin; refine wpList_append_rd rfl (.tmp 49) (.tmp 50) 22 rfl W2.heap.size 5 ib (.int .u8 0) 1 Tryz.underlying22 hib hbz hb1 hb2 rfl _ _ _ rfl HO4.out w4.heap.size .u8 _ _ _ _ rfl HR4.out (by unfold maxLen; omega) (by omega) hg4 ?_; intro v5 w5 ho hg; have HO5 := Lib.hid ho; have HG5 := Lib.hid hg; clear ho hg))
  have HX5 : Hid (Below W2.heap.size W2 w5) := Lib.hid (HX4.out.grown HG5.out (by omega) (fun z e => by have := (HO4.out.lt z e).1; omega))
  have HB5 : Hid (Below w.heap.size w w5) := Lib.hid (HW2.out.trans (HX5.out.mono HW2.out.size))
  obtain ⟨N, hN, ho4⟩ : ∃ N, N = len0 + 1 + len1 ∧ w5.ownsRow W2.heap.size 5 1 v5 N (valsOf .u8 (z0 ++ 32 :: z1)) := ⟨_, by omega, one_own HO5.out⟩
  obtain ⟨A5, c5, hv5⟩ := owns_form ho4
  subst hv5
  replace HO5 := Lib.hid ho4
  have hNb : N ≤ 2001 := by omega
  have HNE := Lib.hid hN
  have HRD5 : Hid (Rd w5 w5.heap.size .u8 A5 N (z0 ++ 32 :: z1)) := Lib.hid (by obtain ⟨A, c, e, h1, h2⟩ := rd_own HO5.out; obtain ⟨rfl, -⟩ : A5 = A ∧ c5 = c := (by injection e with e1 e2 e3; exact ⟨e1, e3⟩); exact h2)
  have HNEW := Lib.hid (new_any w5 A5 N c5 (z0 ++ 32 :: z1) HRD5.out (by unfold maxLen; omega) HBYJ.out (fun V hV => HTT.out V (HB5.out.trans (hV.mono HB5.out.size))))
  rw [HNF.out] at HNEW
  clear ho4 hN HG5
  go_upto_region 7 with (go_at_call 6; (with_reducible refine HNEW.out.mono ?_); rintro e w6 ⟨q, rfl, hs, hb⟩; have HS6 := Lib.hid hs; have HB6 := Lib.hid hb; clear hs hb)
  have h25 := HX5.out.size
  have HJs : Hid (Js w5 w6 q (stp J 1)) := Lib.hid ⟨HB6.out, HS6.out⟩
  have HC : Hid (∀ V, Below w5.heap.size w5 V → V.cell? ⟨w8.heap.size, 0, none⟩ = some (.slice AV M cv) ∧ V.cell? ⟨w8.heap.size + 1, 0, none⟩ = some (.slice AV' M' cv') ∧ V.cell? ⟨w8.heap.size + 1, 1, none⟩ = some (.slice AN' L' cn')) := Lib.hid fun V hV =>
    ⟨(hV.cell (show w8.heap.size < w5.heap.size by omega)).trans ((HX5.out.cell (show w8.heap.size < W2.heap.size by omega)).trans HCW.out.1), (hV.cell (show w8.heap.size + 1 < w5.heap.size by omega)).trans ((HX5.out.cell (show w8.heap.size + 1 < W2.heap.size by omega)).trans HCW.out.2.1), (hV.cell (show w8.heap.size + 1 < w5.heap.size by omega)).trans ((HX5.out.cell (show w8.heap.size + 1 < W2.heap.size by omega)).trans HCW.out.2.2)⟩
  have HWB : Hid (∀ V, Below w5.heap.size w5 V → Below w.heap.size w V) := Lib.hid fun V hV => HB5.out.trans (hV.mono HB5.out.size)
  obtain ⟨P, hP⟩ : ∃ P, P = w8.heap.size := ⟨_, rfl⟩
  rw [← hP] at HC ⊢
  clear hP HCW HO3 HO4 HO5 HG3 HX3 HX4 HR0 HR4 HB4 HNEW HS6 HB6 HRD5 HB5 HRD0 HRD1 hg4
  go_wp2_with fail
  go_loopw [8] (fun iv wr => ∃ (i : Nat) (q' : Sp), iv = .int .i64 (i : Int) ∧ i + 1 ≤ M ∧ q'.p = q.p ∧ Hid (Js w5 wr q' (stp J (i + 1)))) (fun iv _ => M - (intOf iv).toNat)
  case atStart => exact ⟨0, q, rfl, by have := HM.out; omega, rfl, HJs⟩
  case round =>
    clear HJs
    obtain ⟨i, q', rfl, hi, hqp, HS⟩ := hrel
    obtain ⟨p', sv, nv', ibq, gbq⟩ := q'
    obtain rfl : p' = q.p := hqp
    have hwr : w5.heap.size ≤ wr.heap.size := HS.out.b.size
    by_cases hlt : i + 1 < M
    · obtain ⟨c00, -, -⟩ := HC.out wr HS.out.b
      have hiM : i < M := by omega
      obtain ⟨g, f, hav, hg1, hg2, hcell⟩ := HVC.out i hiM
      subst hav
      have hfst := HJ.out.fst (i + 1) (by have := HM.out; omega)
      have hsy : symC (stp U (i + 1)) = symC (stp J (i + 1)) := by rw [hfst]; rfl
      rw [hsy] at hcell
      have hg3 : g < wr.heap.size := by omega
      obtain ⟨x0, x1, x2, x3, x4⟩ := sym_cells (fun o ho => ((HS.out.b.cell (show g < w5.heap.size by omega)).trans ((HX5.out.cell hg2).trans (hcell o ho))))
      have hkw := (HFJ.out.stp (i + 1)).kw
      obtain ⟨s, hs⟩ : ∃ s, s = stp J (i + 1) := ⟨_, rfl⟩
      rw [← hs] at HS x0 x1 x2 x3 x4 hkw
      have HSE := Lib.hid hs
      have HKW := Lib.hid hkw
      have HCX : Hid (∀ V, Below wr.heap.size wr V → V.cell? ⟨P, 0, none⟩ = some (.slice (some ⟨g, f, none⟩) M cv) ∧ V.cell? ⟨g, f + i * 5, none⟩ = some (.int .i64 s.sym) ∧ V.cell? ⟨g, f + i * 5 + 1, none⟩ = some (.int .i64 s.pos) ∧ V.cell? ⟨g, f + i * 5 + 2, none⟩ = some (.int .i32 s.val) ∧ V.cell? ⟨g, f + i * 5 + 3, none⟩ = some (.int .i64 s.id) ∧ V.cell? ⟨g, f + i * 5 + 4, none⟩ = some (.string s.txt)) := Lib.hid fun V hV =>
        ⟨(HC.out V (HS.out.b.trans (hV.mono hwr))).1, (hV.cell hg3).trans x0, (hV.cell hg3).trans x1, (hV.cell hg3).trans x2, (hV.cell hg3).trans x3, (hV.cell hg3).trans x4⟩
      have HSd := Lib.hid (HS.out.next (Below.refl _ _).drew)
      have B3 : Below wr.heap.size wr wr.drew := (Below.refl _ _).drew
      obtain ⟨d0, d1, d2, d3, d4, d5⟩ := HCX.out _ B3
      have hes := eq_sym s.sym s.pos s.val s.id s.txt
      have hgs := guard_sym
      clear hs hkw hcell hfst hsy
      go_upto_region 10 with (fail)
      go_region_held3 (fun V => Below wr.heap.size wr V ∧ V.cell? ⟨P, 0, none⟩ = some (.slice (some ⟨g, f, none⟩) M cv) ∧ V.cell? ⟨g, f + i * 5, none⟩ = some (.int .i64 s.sym) ∧ V.cell? ⟨g, f + i * 5 + 1, none⟩ = some (.int .i64 s.pos) ∧ V.cell? ⟨g, f + i * 5 + 2, none⟩ = some (.int .i32 s.val) ∧ V.cell? ⟨g, f + i * 5 + 3, none⟩ = some (.int .i64 s.id) ∧ V.cell? ⟨g, f + i * 5 + 4, none⟩ = some (.string s.txt))
        (first | exact ⟨by assumption, by assumption, by assumption, by assumption, by assumption, by assumption, by assumption⟩ | go_keep)
        ((go_at_call 8; refine (js_sym HSd.out rfl).mono ?_; rintro e v1 ⟨he, hb⟩; subst he; have B4 : Below wr.heap.size wr v1 := B3.trans hb; have HS1 := Lib.hid (HS.out.next B4); obtain ⟨e0, e1, e2, e3, e4, e5⟩ := HCX.out _ B4; clear hb))
      go_wp2_with (go_at_call 10; (with_reducible refine (js_get HS1.out HKW.out (fun V hV => (HTT.out V (HWB.out V hV)).2) rfl).mono ?_); rintro e w9 ⟨rfl, q9, hq9, hs9⟩; have HS9 := Lib.hid hs9; clear hs9)
      have HS10 := HS9.out
      rw [HSE.out] at HS10
      exact ⟨⟨i + 1, q9, by simp, by omega, hq9, Lib.hid HS10⟩, by simp [intOf]; omega⟩
    · have hi2 : i + 1 = M := by omega
      rw [hi2] at HS
      obtain ⟨c00, -, -⟩ := HC.out wr HS.out.b
      have hlt2 : ¬ (i : Int) + 1 < (M : Int) := by omega
      have HI2 := Lib.hid hi2
      clear hi2 hlt
      go_wp2_with fail
      clear hi hlt2 HI2 c00 HVC
      go_loopw [9] (fun iv wr => ∃ (i : Nat) (q' : Sp), iv = .int .i64 (i : Int) ∧ i ≤ M' ∧ q'.p = q.p ∧ Hid (Js w5 wr q' (stp J (M + i)))) (fun iv _ => M' - (intOf iv).toNat)
      case atStart => exact ⟨0, ⟨q.p, sv, nv', ibq, gbq⟩, rfl, by omega, rfl, HS⟩
      case round =>
        clear HS
        obtain ⟨i, q', rfl, hi, hqp, HS⟩ := hrel
        obtain ⟨p', sv, nv', ibq, gbq⟩ := q'
        obtain rfl : p' = q.p := hqp
        have hwr : w5.heap.size ≤ wr.heap.size := HS.out.b.size
        by_cases hlt : i < M'
        · obtain ⟨-, c10, -⟩ := HC.out wr HS.out.b
          obtain ⟨g, f, hav, hg1, hg2, hcell⟩ := HVC'.out i hlt
          subst hav
          have hg3 : g < w5.heap.size := by omega
          have him : i ≤ m' := by have := HM'.out; omega
          obtain ⟨hal, hcd⟩ := HJ.out.snd i him
          have eM : M + i = m + 1 + i := by rw [HM.out]
          rw [← eM] at hal hcd
          obtain ⟨hp0, hp1⟩ := pos_bd HA0V.out HSD'.out HC1.out i him
          have hkw := (HFJ.out.stp (M + i)).kw
          obtain ⟨vs, hvs⟩ : ∃ s, s = stp V (i + 1) := ⟨_, rfl⟩
          obtain ⟨s, hs⟩ : ∃ s, s = stp J (M + i) := ⟨_, rfl⟩
          rw [← hvs] at hal hp0 hp1 hcell
          rw [← hs] at HS hal hkw
          have hvl := HVL.out
          have hp2 : vs.pos ≤ 1000 := by omega
          have hps : s.pos = vs.pos + (len0 : Int) + 1 := by rw [hal.pos, HZ0.out]; omega
          have HSE := Lib.hid hs
          have HKW := Lib.hid hkw
          have HVS := Lib.hid hvs
          have HAL := Lib.hid hal
          have hwp1 : IntKind.i64.wrap (vs.pos + (len0 : Int)) = vs.pos + (len0 : Int) := by unfold IntKind.wrap IntKind.signed IntKind.bits; simp; omega
          have hwp2 : IntKind.i64.wrap (vs.pos + (len0 : Int) + 1) = vs.pos + (len0 : Int) + 1 := by unfold IntKind.wrap IntKind.signed IntKind.bits; simp; omega
          have HCX : Hid (∀ V, Below w5.heap.size w5 V → V.cell? ⟨g, f + i * 5, none⟩ = some (.int .i64 vs.sym) ∧ V.cell? ⟨g, f + i * 5 + 1, none⟩ = some (.int .i64 vs.pos) ∧ V.cell? ⟨g, f + i * 5 + 2, none⟩ = some (.int .i32 vs.val) ∧ V.cell? ⟨g, f + i * 5 + 3, none⟩ = some (.int .i64 vs.id) ∧ V.cell? ⟨g, f + i * 5 + 4, none⟩ = some (.string vs.txt)) := Lib.hid fun V hV => sym_cells (fun o ho => ((hV.cell hg3).trans ((HX5.out.cell hg2).trans (hcell o ho))))
          have HSYM : Hid (Calls Tryz.prog 8 #[.pointer (some ⟨q.p, 0, none⟩)] wr fun e w' => e = .returned (.agg #[.int .i64 vs.sym, .int .i64 (vs.pos + (len0 : Int) + 1), .int .i32 vs.val, .int .i64 s.id, .string vs.txt]) ∧ Below wr.heap.size wr w') := Lib.hid (by
            have h := js_sym HS.out (p := q.p) rfl
            rw [hal.sym, hps, hal.val, hal.txt] at h
            exact h)
          clear hs hvs hkw hcell hal hcd hps eM him hvl
          go_upto_region 17 with (first
            | (go_at_call 8; (with_reducible refine HSYM.out.mono ?_); rintro e w9 ⟨rfl, hb⟩; have HS9 := Lib.hid (HS.out.next hb); clear hb)
            | (with_reducible refine wpList_store_row rfl 32 _ _ rfl w9.heap.size #[.int .i64 vs.sym, .int .i64 (vs.pos + (len0 : Int) + 1), .int .i32 vs.val, .int .i64 s.id, .string vs.txt] rfl rfl 32 _ (heap_alloc_new w9 _) (ysize vs.sym (vs.pos + (len0 : Int) + 1) vs.val s.id vs.txt) rfl (by simp [Value.oneCell']) ?_))
          have HY : Hid (((w9.alloc (.cells #[.int .i64 0, .int .i64 0, .int .i32 0, .int .i64 0, .string ⟨#[]⟩] 32)).setRow w9.heap.size #[.int .i64 vs.sym, .int .i64 (vs.pos + (len0 : Int) + 1), .int .i32 vs.val, .int .i64 s.id, .string vs.txt]).heap[w9.heap.size]? = some (.cells #[.int .i64 vs.sym, .int .i64 (vs.pos + (len0 : Int) + 1), .int .i32 vs.val, .int .i64 s.id, .string vs.txt] 32 (0, 0))) := Lib.hid (snsetRow_heap _ _ _ _ _ _ (heap_alloc_new w9 _))
          have HB9 : Hid (Below w9.heap.size w9 ((w9.alloc (.cells #[.int .i64 0, .int .i64 0, .int .i32 0, .int .i64 0, .string ⟨#[]⟩] 32)).setRow w9.heap.size #[.int .i64 vs.sym, .int .i64 (vs.pos + (len0 : Int) + 1), .int .i32 vs.val, .int .i64 s.id, .string vs.txt])) := Lib.hid (snbelow_setRow ((Below.refl _ _).alloc (Nat.le_refl _) _) (Nat.le_refl _) _)
          have hyW : w9.heap.size < ((w9.alloc (.cells #[.int .i64 0, .int .i64 0, .int .i32 0, .int .i64 0, .string ⟨#[]⟩] 32)).setRow w9.heap.size #[.int .i64 vs.sym, .int .i64 (vs.pos + (len0 : Int) + 1), .int .i32 vs.val, .int .i64 s.id, .string vs.txt]).heap.size := by simp
          generalize (w9.alloc (.cells #[.int .i64 0, .int .i64 0, .int .i32 0, .int .i64 0, .string ⟨#[]⟩] 32)).setRow w9.heap.size #[.int .i64 vs.sym, .int .i64 (vs.pos + (len0 : Int) + 1), .int .i32 vs.val, .int .i64 s.id, .string vs.txt] = W9 at HY HB9 hyW ⊢
          replace HS9 := Lib.hid (HS9.out.next HB9.out)
          generalize w9.heap.size = y at HY hyW ⊢
          clear HB9 c10 HS HSYM
          obtain ⟨x0, x1, x2, x3, x4⟩ := HCX.out W9 HS9.out.b
          obtain ⟨-, c10, -⟩ := HC.out W9 HS9.out.b
          go_upto_region 18 with (with_reducible refine wpList_store_row rfl 32 _ _ rfl W9.heap.size #[.int .i64 vs.sym, .int .i64 vs.pos, .int .i32 vs.val, .int .i64 vs.id, .string vs.txt] rfl rfl 32 _ (heap_alloc_new W9 _) (ysize vs.sym vs.pos vs.val vs.id vs.txt) rfl (by simp [Value.oneCell']) ?_)
          have HZ : Hid (((W9.alloc (.cells #[.int .i64 0, .int .i64 0, .int .i32 0, .int .i64 0, .string ⟨#[]⟩] 32)).setRow W9.heap.size #[.int .i64 vs.sym, .int .i64 vs.pos, .int .i32 vs.val, .int .i64 vs.id, .string vs.txt]).heap[W9.heap.size]? = some (.cells #[.int .i64 vs.sym, .int .i64 vs.pos, .int .i32 vs.val, .int .i64 vs.id, .string vs.txt] 32 (0, 0))) := Lib.hid (snsetRow_heap _ _ _ _ _ _ (heap_alloc_new W9 _))
          have HB9 : Hid (Below W9.heap.size W9 ((W9.alloc (.cells #[.int .i64 0, .int .i64 0, .int .i32 0, .int .i64 0, .string ⟨#[]⟩] 32)).setRow W9.heap.size #[.int .i64 vs.sym, .int .i64 vs.pos, .int .i32 vs.val, .int .i64 vs.id, .string vs.txt])) := Lib.hid (snbelow_setRow ((Below.refl _ _).alloc (Nat.le_refl _) _) (Nat.le_refl _) _)
          generalize (W9.alloc (.cells #[.int .i64 0, .int .i64 0, .int .i32 0, .int .i64 0, .string ⟨#[]⟩] 32)).setRow W9.heap.size #[.int .i64 vs.sym, .int .i64 vs.pos, .int .i32 vs.val, .int .i64 vs.id, .string vs.txt] = W10 at HZ HB9 ⊢
          have HY2 : Hid (W10.heap[y]? = some (.cells #[.int .i64 vs.sym, .int .i64 (vs.pos + (len0 : Int) + 1), .int .i32 vs.val, .int .i64 s.id, .string vs.txt] 32 (0, 0))) := Lib.hid ((HB9.out.block y hyW).trans HY.out)
          have HS10 := Lib.hid (HS9.out.next HB9.out)
          generalize W9.heap.size = z at HZ ⊢
          clear HB9 c10 x0 x1 x2 x3 x4 HS9 HY hyW
          obtain ⟨-, -, c11⟩ := HC.out W10 HS10.out.b
          have y0 : W10.cell? ⟨y, 0, none⟩ = some (.int .i64 vs.sym) := (qblock_cell HY2.out rfl).1
          have y1 : W10.cell? ⟨y, 1, none⟩ = some (.int .i64 (vs.pos + (len0 : Int) + 1)) := (qblock_cell HY2.out rfl).1
          have y2 : W10.cell? ⟨y, 2, none⟩ = some (.int .i32 vs.val) := (qblock_cell HY2.out rfl).1
          have y3 : W10.cell? ⟨y, 3, none⟩ = some (.int .i64 s.id) := (qblock_cell HY2.out rfl).1
          have y4 : W10.cell? ⟨y, 4, none⟩ = some (.string vs.txt) := (qblock_cell HY2.out rfl).1
          have u0 : W10.cell? ⟨z, 0, none⟩ = some (.int .i64 vs.sym) := (qblock_cell HZ.out rfl).1
          have u1 : W10.cell? ⟨z, 1, none⟩ = some (.int .i64 vs.pos) := (qblock_cell HZ.out rfl).1
          have u2 : W10.cell? ⟨z, 2, none⟩ = some (.int .i32 vs.val) := (qblock_cell HZ.out rfl).1
          have u3 : W10.cell? ⟨z, 3, none⟩ = some (.int .i64 vs.id) := (qblock_cell HZ.out rfl).1
          have u4 : W10.cell? ⟨z, 4, none⟩ = some (.string vs.txt) := (qblock_cell HZ.out rfl).1
          have HEND : Hid (∀ (w9 : World) (q9 : Sp), q9.p = q.p → Js w5 w9 q9 (getF s) → ((∃ (k : Nat) (q2 : Sp), Value.int .i64 ((i : Int) + 1) = .int .i64 (k : Int) ∧ k ≤ M' ∧ q2.p = q.p ∧ Hid (Js w5 w9 q2 (stp J (M + k)))))) := Lib.hid fun w9 q9 h1 h2 => ⟨i + 1, q9, by simp, by omega, h1, Lib.hid (by rw [HSE.out] at h2; exact h2)⟩
          by_cases h25 : vs.sym = 25
          · obtain ⟨ii, jj, l, e1, e2, l1, l2⟩ := HAL.out.nam h25
            have l3 : (stp V (m' + 1)).nms[ii]? = some l := by
              have h := jkeep_stp V (i := i + 1) (j := ii) (x := l) (by rw [← HVS.out]; exact l1) (m' - i)
              rwa [show i + 1 + (m' - i) = m' + 1 by have := HM'.out; omega] at h
            obtain ⟨gn, fn, han, n1, n2, hcn⟩ := HNC'.out ii l l3
            subst han
            have hii : ii < L' := by rw [HLE'.out]; exact (List.getElem?_eq_some_iff.1 l3).1
            have hcl : W10.cell? ⟨gn, fn + ii, none⟩ = some (.string (bs l)) := (HS10.out.b.cell (show gn < w5.heap.size by omega)).trans ((HX5.out.cell n2).trans hcn)
            have HNM : Hid (∀ n, Calls Tryz.prog 12 #[.pointer (some ⟨q.p, 0, none⟩), .int .i64 (jj : Int)] (W10.drewN n) fun e w' => e = .returned (.string (bs l)) ∧ w' = W10.drewN n) := Lib.hid fun n => (js_name (HS10.out.next (below_drewN W10 n)) jj l2 rfl).mono fun e w' ⟨he, hw⟩ => ⟨he, hw.symm⟩
            rw [e2] at y3
            rw [e1] at u3
            rw [h25] at y0 u0
            have hi0 : (0 : Int) ≤ (ii : Int) := by omega
            have hi1 : (ii : Int) < (L' : Int) := by omega
            clear l1 l2 l3 e1 e2 hcn h25 HCX HAL
            go_quiet ((go_at_call 12; exact Calls.quiet_of_same (HNM.out _)))
            go_wp2_with (go_at_call 10; (with_reducible refine (js_get (HS10.out.next (below_drewN W10 _)) HKW.out (fun V hV => (HTT.out V (HWB.out V hV)).2) rfl).mono ?_); rintro e w11 ⟨rfl, q9, hq9, hs9⟩; have HS11 := Lib.hid hs9; clear hs9)
            exact ⟨HEND.out _ q9 hq9 HS11.out, by simp [intOf]; omega⟩
          · skip
            clear HCX HAL
            go_quiet (fail)
            go_wp2_with (go_at_call 10; (with_reducible refine (js_get (HS10.out.next (below_drewN W10 _)) HKW.out (fun V hV => (HTT.out V (HWB.out V hV)).2) rfl).mono ?_); rintro e w11 ⟨rfl, q9, hq9, hs9⟩; have HS11 := Lib.hid hs9; clear hs9)
            exact ⟨HEND.out _ q9 hq9 HS11.out, by simp [intOf]; omega⟩
        · have hi2 : i = M' := by omega
          obtain ⟨-, c10, -⟩ := HC.out wr HS.out.b
          have hcd : (stp J (M + i)).code = 0 := by
            have := HJ.out.fin
            rwa [show m + 1 + m' + 1 = M + i by rw [hi2, HM.out, HM'.out]; omega] at this
          obtain ⟨s, hs⟩ : ∃ s, s = stp J (M + i) := ⟨_, rfl⟩
          rw [← hs] at HS hcd
          have HERR : Hid (Calls Tryz.prog 9 #[.pointer (some ⟨q.p, 0, none⟩)] wr fun e w' => e = .returned (.tuple #[.int .i64 0, .int .i64 s.epos]) ∧ Below wr.heap.size wr w') := Lib.hid (by
            have h := js_err HS.out (p := q.p) rfl
            rw [hcd] at h
            exact h)
          have hlt2 : ¬ (i : Int) < (M' : Int) := by omega
          clear hi2 hcd hs hlt
          go_wp2_with (first
            | (go_at_call 9; (with_reducible refine HERR.out.mono ?_); rintro e w8 ⟨rfl, hb⟩; have HS8 := Lib.hid (HS.out.next hb); clear hb)
            | (go_at_call 5; (with_reducible refine (KN.out _ (HWB.out _ HS8.out.b)).mono ?_); rintro e w9 ⟨rfl, hb⟩; have HBB := Lib.hid ((HWB.out _ HS8.out.b).trans (hb.mono (HWB.out _ HS8.out.b).size)); clear hb))
          go_ret
          exact ⟨rfl, HBB.out⟩
theorem own : ownKnob Tryz.prog.godebug = none := by kernel_rfl
theorem laidOut : laidOutB Tryz.prog = true := by kernel_rfl
theorem gTab5 : Tryz.prog.globalNamed "strings.asciiSpace" = some 0 := by kernel_rfl
theorem gTab2 : Tryz.prog.globalNamed "internal/strconv.uint64pow10" = some 6 := by kernel_rfl
set_option maxRecDepth 1000000 in
theorem tables {W : World} (h0 : laidMetH Tryz.prog Rows.scanJoinsRow.laid W) : Tab W := by
  rw [MakeChecks.laidMetH_plain _ _ _ (by kernel_rfl)] at h0
  have h : laidMet Tryz.prog Rows.scanJoinsRow.laid W := h0
  exact ⟨Lib.tabIs_of_head (rest := _) gTab5 (by kernel_rfl) Tryz.underlying57 Tryz.underlying5 (by kernel_rfl) (by kernel_rfl) (laidMet.tail (laidMet.tail (laidMet.tail (laidMet.tail (laidMet.tail h))))), Lib.tabIs_of_head (rest := _) gTab2 (by kernel_rfl) Tryz.underlying153 Tryz.underlying118 (by kernel_rfl) (by kernel_rfl) (laidMet.tail (laidMet.tail h))⟩
set_option maxRecDepth 1000000 in
theorem contract (H : Type) (enc : TypeId × Value → H) (W : World) (base : Nat) (args : Array Value) (ds gs : List (DataW H)) (before : List MemPlace)
    (hval : ∀ (j : Nat) t v, Tryz.f4.params[j]? = some t → args[j]? = some v → Value.okWide Tryz.prog W .any base t v)
    (hW : DataW.Whole enc Tryz.prog Tryz.f4.params.toList Rows.scanJoinsSpec.vars false W args.toList ds gs before) (hL : laidMetH Tryz.prog Rows.scanJoinsRow.laid W) :
    Calls Tryz.prog 4 args W fun e W' => ∃ v, e = .returned v ∧ Rows.scanJoinsSpec.post enc Tryz.prog Tryz.f4 false true false false W args v W' := by
  have hW' := hW
  obtain ⟨p, q, hA0, hV, rfl, hfz, hnd⟩ := hW
  have hA : DataW.TrodAll enc Tryz.prog W 0 (fun _ => true) true Tryz.f4.params.toList args.toList ds p := hA0
  rw [Tryz.params4] at hA hval
  obtain ⟨v0, vs0, d0, ds0, p0, q0, hargs, rfl, rfl, h0, r0⟩ := trodAll_cons hA
  obtain ⟨v1, vs1, d1, ds1, p1, q1, rfl, rfl, rfl, h1, r1⟩ := trodAll_cons r0
  obtain ⟨rfl, rfl, rfl⟩ := trodAll_nil r1
  obtain rfl : args = #[v0, v1] := by cases args; simp_all
  obtain ⟨rfl, rfl⟩ := trodVars_none hV
  obtain ⟨a0, len0, cap0, rfl⟩ := okWide_slice Tryz.underlying22 (hval 0 22 v0 rfl rfl)
  have k0 := h0
  have lt0 : ∀ x ∈ p0, x.block < W.heap.size := by obtain ⟨m, hm⟩ := k0; exact DataW.trod_lt m _ _ _ hm
  obtain ⟨z0, w0⟩ := isRow_of Tryz.underlying22 Tryz.underlying5 (by kernel_rfl) h0
  obtain ⟨a1, len1, cap1, rfl⟩ := okWide_slice Tryz.underlying22 (hval 1 22 v1 rfl rfl)
  have k1 := h1
  have lt1 : ∀ x ∈ p1, x.block < W.heap.size := by obtain ⟨m, hm⟩ := k1; exact DataW.trod_lt m _ _ _ hm
  obtain ⟨z1, w1⟩ := isRow_of Tryz.underlying22 Tryz.underlying5 (by kernel_rfl) h1
  clear hA0
  have hT := tables hL
  refine (walk a0 len0 cap0 z0 a1 len1 cap1 z1 W w0 w1 hT).mono fun e W' ⟨he, bel⟩ => ?_
  subst he
  exact ⟨_, rfl, _, _, _, [], _, [], hW', trodAll_mk1 (shut_bool Tryz.underlying4 _), (trodAll_cons_mk (Below.trod laidOut (by kernel_rfl) (of_decide_eq_true (by kernel_rfl)) k0 bel lt0) (trodAll_cons_mk (Below.trod laidOut (by kernel_rfl) (of_decide_eq_true (by kernel_rfl)) k1 bel lt1) trodAll_mk0)), rfl, bel.frame _, fun h => by cases h⟩
theorem witness_shaped {H : Type} {enc : TypeId × Value → H} {C : Checked} {os : Os} {f : FuncId} {fn : Func} {s : OpenSpec} {conds : List PathCond} {apart : Bool} {laid : List (String × DataW Unit)} (modest : Bool) (w0 : World) (args : Array Value) (hos : w0.os = os)
    (hsh : (w0.forCall (fun _ _ => 0) ⟨#[], args, []⟩).Shaped C.prog) (hok : Input.okWideB C.prog (w0.forCall (fun _ _ => 0) ⟨#[], args, []⟩) f ⟨#[], args, []⟩ = true)
    (hrow : s.preRow enc C.prog fn conds apart laid (w0.forCall (fun _ _ => 0) ⟨#[], args, []⟩).memory args) :
    ∃ (w : World) (tape : Tape) (i : Input), w.os = os ∧ (w.forCall tape i).Shaped C.prog ∧ i.vars = [] ∧ Input.okWide C.prog (w.forCall tape i) .any w.heap.size f i ∧
      s.preRow enc C.prog fn conds apart laid (w.forCall tape i).memory i.args ∧ ({ modest := modest } : Assume).holds C.prog (lone (Frame.enter C.prog f i.args .normal) [] (w.forCall tape i)) :=
  ⟨w0, fun _ _ => 0, ⟨#[], args, []⟩, hos, hsh, (Input.okWide_of_okWideB (base := 0) hok).1, (Input.okWide_of_okWideB hok).2, hrow, by
    simp only [Assume.holds]
    exact ⟨by simp, by simp, fun _ => Modest.zero, by simp, by simp⟩⟩
set_option maxRecDepth 1000000 in
theorem laid_met (os : Os) : laidMetH Tryz.prog Rows.scanJoinsRow.laid ((World.laidAll Tryz.prog os Rows.scanJoinsRow.laid).forCall (fun _ _ => 0) ⟨#[], #[.slice none 0 0, .slice none 0 0], []⟩).memory := by
  rw [MakeChecks.laidMetH_plain _ _ _ (by kernel_rfl)]
  exact laidMet_laidAll _ (by kernel_rfl) (by kernel_rfl)
set_option maxRecDepth 1000000 in
theorem reads (os : Os) {H : Type} (enc : TypeId × Value → H) : ∃ places, DataW.whole enc Tryz.prog ((World.laidAll Tryz.prog os Rows.scanJoinsRow.laid).forCall (fun _ _ => 0) ⟨#[], #[.slice none 0 0, .slice none 0 0], []⟩).memory Tryz.f4.params.toList Rows.scanJoinsSpec.vars false (#[.slice none 0 0, .slice none 0 0] : Array Value).toList 8 = some ([.nil, .nil], [], places) := ⟨[], by kernel_rfl⟩
set_option maxRecDepth 1000000 in
theorem lifted (os : Os) (started : os.Started) (H : Type) (enc : TypeId × Value → H) (F : Stop.Interp) :
    ReturnsInHanded {} Tryz.checked os 4 .any ((OpenSpec.ofChange Rows.scanJoinsSpec).preRow enc Tryz.prog Tryz.f4 Rows.scanJoinsRow.domain false Rows.scanJoinsRow.laid) (((OpenSpec.ofChange Rows.scanJoinsSpec).at F).post enc Tryz.prog Tryz.f4 false true false false) := by
  obtain ⟨places, hx⟩ := reads os enc
  refine returnsInHanded_of_row (C := Tryz.checked) (s := OpenSpec.ofChange Rows.scanJoinsSpec) own started (by kernel_rfl) Tryz.func4
    (witness_shaped (enc := enc) (C := Tryz.checked) false (World.laidAll Tryz.prog os Rows.scanJoinsRow.laid) #[.slice none 0 0, .slice none 0 0] (World.laidAll_os _ _ _) (World.shaped_of_ZipB (by kernel_rfl) (by kernel_rfl)) (by kernel_rfl)
      (OpenSpec.preRow_of_cond 8 hx (by kernel_rfl) (fun k hk => by cases hk) (by kernel_rfl) (laid_met os))) ?_
  intro W base args ds gs before hval hW _ _ _ hL _ _
  exact contract H enc W base args ds gs before hval hW hL
theorem said : Rows.ScanJoinsSaid :=
  OpenClaim.holds_of_cond 4 Tryz.f4 rfl rfl rfl rfl rfl rfl rfl ⟨rfl, rfl, rfl, rfl, rfl⟩ rfl rfl rfl rfl rfl (by kernel_rfl) Tryz.func4 (by kernel_rfl)
    (of_decide_eq_true (by kernel_rfl)) (by unfold Func.isWrapper; first | (rw [if_pos (by decide +kernel)]; kernel_rfl) | (rw [if_neg (by decide +kernel)]; exact ⟨rfl, rfl⟩))
    (fun os started H enc _ F => by rw [OpenClaim.pre_eq_preRow]; exact lifted os started H enc F)
theorem plain (f : FuncId) (fn : Func) (hf : Tryz.pinned.checked.prog.funcNamed "selfsame/selfsamelaw11.ScanJoins" = some f) (hfn : Tryz.pinned.checked.prog.funcs[f]? = some fn) :
    false = Tryz.pinned.checked.prog.looks [] ∧ ∀ (j : Nat) t, fn.params[j]? = some t → Tryz.pinned.checked.prog.wantsStandIn t = false := by
  obtain rfl : f = 4 := Option.some.inj ((show Tryz.prog.funcNamed "selfsame/selfsamelaw11.ScanJoins" = some 4 by kernel_rfl).symm.trans hf) |>.symm
  obtain rfl : fn = Tryz.f4 := (Option.some.inj (Tryz.func4.symm.trans hfn)).symm
  refine ⟨by kernel_rfl, fun j t ht => ?_⟩
  rw [Tryz.params4] at ht
  have hm := Array.mem_of_getElem? ht
  simp only [List.mem_toArray, List.mem_cons, List.not_mem_nil, or_false] at hm
  rcases hm with rfl | rfl
  · exact (show Tryz.prog.wantsStandIn 22 = false by kernel_rfl)
  · exact (show Tryz.prog.wantsStandIn 22 = false by kernel_rfl)
theorem proved : Rows.ScanJoinsCardSaid :=
  Claim7.holds_tied_plain_at .later [] _ _ _ _ said (fun _ h => by cases h) (by kernel_rfl) (fun _ h => by cases h) scanJoins_row_tie rfl ⟨rfl, rfl⟩ (by kernel_rfl) rfl plain (by kernel_rfl)
end Go.Proofs.YthpdgghjaglhnaaGreatDoor.scanJoins
