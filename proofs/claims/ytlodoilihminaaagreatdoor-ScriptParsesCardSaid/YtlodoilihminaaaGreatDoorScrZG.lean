/-
  script.Parse.
-/
import Derived.Test.YtlodoilihminaaaGreatDoorScrZF
import Derived.WalkMore
namespace Go.Proofs.YtlodoilihminaaaGreatDoor
open Go.ChangeShapes Go.WideShapes Go.ChangeAt Go.RowKit
set_option linter.unusedVariables false
set_option linter.unusedSimpArgs false
/-- the number of the first line that is wrong -/
def goL : Nat → List (List UInt8) → List UInt8 → Option Nat
  | i, [], rest => if rest = [] ∧ i ≠ 0 then none else some i
  | i, x :: ls, rest => if lineOk i x = true then goL (i + 1) ls rest else some i
def goR : Nat → Int → List Ac → List (List UInt8) → Int × List Ac
  | _, c, l, [] => (c, l)
  | i, c, l, x :: ls => goR (i + 1) (tkC i c x) (tkL i l x) ls
def parE (t : List UInt8) : Option Nat := goL 0 (lnF t).1 (lnF t).2
def parR (t : List UInt8) : Int × List Ac := goR 0 0 [] (lnF t).1
def parC (t : List UInt8) : Int := if parE t = none then (parR t).1 else 0
def parL (t : List UInt8) : List Ac := if parE t = none then (parR t).2 else []
def parN (t : List UInt8) : Int := match parE t with | none => 0 | some i => (i : Int)
def parX (t : List UInt8) : Int := if parE t = none then 0 else 4
theorem par_ok {t : List UInt8} (h : parE t = none) : parC t = (parR t).1 ∧ parL t = (parR t).2 ∧ parN t = 0 ∧ parX t = 0 := by
  unfold parC parL parN parX
  rw [h]
  exact ⟨rfl, rfl, rfl, rfl⟩
theorem par_no {t : List UInt8} {i : Nat} (h : parE t = some i) : parC t = 0 ∧ parL t = [] ∧ parN t = i ∧ parX t = 4 := by
  unfold parC parL parN parX
  rw [h]
  exact ⟨rfl, rfl, rfl, rfl⟩
theorem k2_len (d : UInt8) (l : List UInt8) (h : d ∈ l) : (k2 d l).length + 1 ≤ l.length := by
  unfold k2
  rw [List.length_tail]
  have h1 := List.IsSuffix.length_le (List.dropWhile_suffix (fun c : UInt8 => c != d) (l := l))
  have h2 : (l.dropWhile fun c => c != d) ≠ [] := by
    intro e
    have h4 := List.takeWhile_append_dropWhile (p := fun c : UInt8 => c != d) (l := l)
    rw [e, List.append_nil] at h4
    have h5 := List.all_takeWhile (p := fun c : UInt8 => c != d) (l := l)
    rw [h4] at h5
    have := List.all_eq_true.1 h5 d h
    simp at this
  have h3 := List.length_pos_iff.2 h2
  omega
theorem k1_len (d : UInt8) (l : List UInt8) : (k1 d l).length ≤ l.length := by unfold k1; exact List.IsPrefix.length_le (List.takeWhile_prefix _)
theorem take_any {W : World} {q M : Nat} {c : Int} {l : List Ac} (hb : ∃ v xs, W.heap[q]? = some (.cells #[.int .i64 c, v] 38 (0, 0)) ∧ OA W M v l xs) (hqM : q < M) (hM : M ≤ W.heap.size) (i : Nat) (hi2 : i ≤ 10000000) (hl : l.length ≤ 1000000) (x : List UInt8) (hx : x.length ≤ 1000000) (hT : Tb W) :
    Calls Tryz.prog 47 #[.pointer (some ⟨q, 0, none⟩), .int .i64 (i : Int), .string (S x)] W fun e w' => e = .returned (.bool (lineOk i x)) ∧ Tk W w' q M (tkC i c x) (tkL i l x) := by
  obtain ⟨v, xs, hbox, ho⟩ := hb
  by_cases h : i = 0
  · subst h
    exact take0_any hbox ho hqM x hx hT
  · have h2 : tkC i c x = c := by unfold tkC; rw [if_neg h]
    rw [h2]
    exact take1_any hbox ho hqM hM i (by omega) hi2 hl x hx hT
theorem parse_fin {W2 : World} {r : Nat} {u0 u1 : Value} {k m : Int} (h : W2.heap[r]? = some (.cells #[u0, u1] 38 (0, 0))) (a : Act) (h2 : a.tmps[2]? = some (.pointer (some ⟨r, 0, none⟩))) (h3 : a.tmps[3]? = some (.int .i64 k)) (h4 : a.tmps[4]? = some (.int .i64 m)) (hd : a.defers = [])
    (R : Ending → World → Prop) (hR : R (.returned (.tuple #[.agg #[u0, u1], .int .i64 k, .int .i64 m])) W2) :
    bodyPost Tryz.prog Tryz.f17 R .ret a W2 := by
  obtain ⟨tm, ds⟩ := a
  simp only at h2 h3 h4 hd
  subst hd
  have q0 : W2.cell? ⟨r, 0, none⟩ = some u0 := by rw [World.cell?, h]; rfl
  have q1 : W2.cell? ⟨r, 1, none⟩ = some u1 := by rw [World.cell?, h]; rfl
  refine bodyPost_ret ?_ rfl hR
  simp [results, Tryz.f17, go_sem, h2, h3, h4, q0, q1]
def rbB (t : List UInt8) (i : Nat) : Bool := !decide (t = []) || !decide (i = 0)
theorem rbB_no : rbB [] 0 = false := rfl
theorem rbB_i {t : List UInt8} {i : Nat} (h : i ≠ 0) : rbB t i = true := by unfold rbB; simp [h]
theorem rbB_t {t : List UInt8} {i : Nat} (h : t ≠ []) : rbB t i = true := by unfold rbB; simp [h]
def lenOf : Value → Nat
  | .string s => s.size
  | _ => 0
/-- between two lines -/
structure PS (w W : World) (c : Int) (l : List Ac) : Prop where
  bel : Below w.heap.size w W
  res : W.heap[w.heap.size]? = some (.cells #[.int .i64 0, .slice none 0 0] 38 (0, 0))
  box : ∃ v xs, W.heap[w.heap.size + 1]? = some (.cells #[.int .i64 c, v] 38 (0, 0)) ∧ OA W (w.heap.size + 2) v l xs
  sz : w.heap.size + 2 ≤ W.heap.size
theorem zero_at (W : World) : ScAt W 0 [] none 0 0 := ⟨by decide, ⟨rfl, fun h => absurd h (by omega)⟩, Nat.le_refl _, Nat.zero_le _⟩
theorem PS.zero {w W : World} {c : Int} {l : List Ac} (h : PS w W c l) : W.cell? ⟨w.heap.size, 0, none⟩ = some (.int .i64 0) ∧ W.frozen? ⟨w.heap.size, 0, none⟩ = false ∧ W.cell? ⟨w.heap.size, 1, none⟩ = some (.slice none 0 0) ∧ W.frozen? ⟨w.heap.size, 1, none⟩ = false := by
  refine ⟨?_, ?_, ?_, ?_⟩
  · rw [World.cell?, h.res]; rfl
  · rw [World.frozen?, h.res]; simp
  · rw [World.cell?, h.res]; rfl
  · rw [World.frozen?, h.res]; simp
theorem PS.next {w W W' : World} {c c' : Int} {l l' : List Ac} (h : PS w W c l) (k : Tk W W' (w.heap.size + 1) (w.heap.size + 2) c' l') : PS w W' c' l' :=
  ⟨h.bel.trans (k.bel.mono (by omega)), (k.bel.block _ (by omega)).trans h.res, k.box, Nat.le_trans h.sz k.bel.size⟩
theorem PS.below {w W W' : World} {c : Int} {l : List Ac} (h : PS w W c l) (k : Below W.heap.size W W') : PS w W' c l := by
  obtain ⟨v, xs, h1, h2⟩ := h.box
  have := h.sz
  exact ⟨h.bel.trans (k.mono h.bel.size), (k.block _ (by omega)).trans h.res, ⟨v, xs, (k.block _ (by omega)).trans h1, h2.below k⟩, Nat.le_trans h.sz k.size⟩
set_option maxHeartbeats 4000000 in
set_option maxRecDepth 100000 in
theorem sparse_any (w : World) (t : List UInt8) (ht : t.length ≤ 1000000) (hT : Tb w) :
    Calls Tryz.prog 17 #[.string (S t)] w fun e w' => ∃ A n cc, e = .returned (.tuple #[.agg (scC (parC t) A n cc), .int .i64 (parN t), .int .i64 (parX t)]) ∧ ScAt w' (parC t) (parL t) A n cc ∧ Below w.heap.size w w' := by
  have HT := Lib.hid hT
  have hq0 := heap_alloc_new w (.cells #[.int .i64 0, .slice none 0 0] 38)
  have hb0 := sbelow1 w (.cells #[.int .i64 0, .slice none 0 0] 38)
  have hs0 : (w.alloc (.cells #[.int .i64 0, .slice none 0 0] 38)).heap.size = w.heap.size + 1 := by simp
  have hsz := S_size t
  clear hT
  go_enter Tryz.func17, Tryz.ntmps17
  go_upto_region 1 with fail
  generalize w.alloc (.cells #[.int .i64 0, .slice none 0 0] 38) = W1 at hq0 hb0 hs0 ⊢
  have hq1 := heap_alloc_new W1 (.cells #[.int .i64 0, .slice none 0 0] 38)
  have hr1 := (Below.heap_alloc W1 (.cells #[.int .i64 0, .slice none 0 0] 38) _ (Array.getElem?_eq_some_iff.1 hq0).1).trans hq0
  have hb1 := hb0.alloc hb0.size (.cells #[.int .i64 0, .slice none 0 0] 38)
  have hs1 : (W1.alloc (.cells #[.int .i64 0, .slice none 0 0] 38)).heap.size = w.heap.size + 2 := by simp [hs0]
  rw [hs0] at hq1
  go_step3
  go_upto_region 4 with fail
  generalize W1.alloc (.cells #[.int .i64 0, .slice none 0 0] 38) = W2 at hq1 hr1 hb1 hs1 ⊢
  clear hq0 hb0 hs0
  have HR0 := Lib.hid hr1
  have HB2 := Lib.hid hb1
  have HS2 := Lib.hid hs1
  have HQ2 := Lib.hid hq1
  obtain ⟨r0, hr0⟩ : ∃ r0, ((S t).toList == ([] : List UInt8)) = r0 := ⟨_, rfl⟩
  have hr0' : r0 = decide (t = []) := by
    rw [← hr0, ByteArray.toList_eq]
    show (t == []) = _
    by_cases h : t = [] <;> simp [h]
  have HRZ := Lib.hid hr0'
  clear hr1 hb1 hs1 hq1 hr0'
  go_wp2_with fail
  go_step3
  go_wp2_with fail
  go_loopw [0, 6, 7, 8] (fun tv iv rv _ wr => ∃ (t' : List UInt8) (i : Nat) (c : Int) (l : List Ac), tv = .string (S t') ∧ iv = .int .i64 (i : Int) ∧ rv = .bool (rbB t' i) ∧ Hid (i + t'.length ≤ t.length ∧ l.length ≤ i) ∧ Hid (parE t = goL i (lnF t').1 (lnF t').2 ∧ parR t = goR i c l (lnF t').1) ∧ Hid ((Lit.int .i64 c).wf = true) ∧ Hid (PS w wr c l)) (fun tv _ _ _ _ => lenOf tv)
  case atStart =>
    refine ⟨t, 0, 0, [], rfl, rfl, ?_, Lib.hid ⟨by omega, by simp⟩, Lib.hid ⟨rfl, rfl⟩, Lib.hid (by decide), Lib.hid ⟨HB2.out, HR0.out, ⟨.slice none 0 0, [], HQ2.out, OA.nil _ _⟩, by have := HS2.out; omega⟩⟩
    rw [HRZ.out]
    refine congrArg Value.bool ?_
    unfold rbB
    by_cases h : t = [] <;> simp [h]
  case round =>
    obtain ⟨t', i, c, l, rfl, rfl, rfl, HLE, HGO, HCW, HPS⟩ := hrel
    clear HQ2 HRZ HR0 HS2
    have hil : i ≤ 1000000 := by have := HLE.out.1; omega
    have htl : t'.length ≤ 1000000 := by have := HLE.out.1; omega
    have hll : l.length ≤ 1000000 := by have := HLE.out.2; omega
    have hne : ((S t').toList == ([] : List UInt8)) = decide (t' = []) := by
      rw [ByteArray.toList_eq]
      show (t' == []) = _
      by_cases h : t' = [] <;> simp [h]
    by_cases h0 : t' = []
    · subst h0
      rw [decide_eq_true rfl] at hne
      by_cases hi0 : i = 0
      · subst hi0
        have HE := Lib.hid (par_no (i := 0) (show parE t = some 0 from HGO.out.1))
        rw [rbB_no]
        obtain ⟨z0, z1, z2, z3⟩ := HPS.out.zero
        clear htl hll
        go_wp2_with fail
        rw [Exit.noGoto_ret]
        have hz := HPS.out.res
        refine parse_fin ((heap_setCell_same _ _ 1 (.slice none 0 0) (heap_setCell_same wr _ 0 (.int .i64 0) hz)).trans rfl) _ rfl rfl rfl rfl _ ?_
        rw [HE.out.1, HE.out.2.1, HE.out.2.2.1, HE.out.2.2.2]
        exact ⟨none, 0, 0, rfl, zero_at _, (HPS.out.bel.setCell (Nat.le_refl _) _).setCell (Nat.le_refl _) _⟩
      · have hpe : parE t = none := by
          rw [HGO.out.1]
          show goL i [] [] = none
          unfold goL
          rw [if_pos ⟨rfl, hi0⟩]
        have HE := Lib.hid (par_ok hpe)
        have HR := Lib.hid (show parR t = (c, l) from HGO.out.2)
        rw [rbB_i hi0]
        obtain ⟨z0, z1, z2, z3⟩ := HPS.out.zero
        obtain ⟨v, xs, hb, ho⟩ := HPS.out.box
        have y0 : wr.cell? ⟨w.heap.size + 1, 0, none⟩ = some (.int .i64 c) := by rw [World.cell?, hb]; rfl
        have y1 : wr.cell? ⟨w.heap.size + 1, 1, none⟩ = some v := by rw [World.cell?, hb]; rfl
        obtain ⟨A, cc, rfl, hcc, hcm, hrow, -⟩ := ho.row
        have HRW := Lib.hid (⟨hcc, hcm, ho, hb⟩ : _ ∧ _ ∧ _ ∧ _)
        have HI0 := Lib.hid hi0
        clear htl hll hpe hcc hcm hrow ho hb hi0
        go_wp2_with fail
        rw [Exit.noGoto_ret]
        have hz := HPS.out.res
        refine parse_fin ((heap_setCell_same _ _ 1 (.slice A l.length cc) (heap_setCell_same wr _ 0 (.int .i64 c) hz)).trans rfl) _ rfl rfl rfl rfl _ ?_
        rw [HE.out.1, HE.out.2.1, HE.out.2.2.1, HE.out.2.2.2, HR.out]
        have ho2 : OA ((wr.setCell ⟨w.heap.size, 0, none⟩ (.int .i64 c)).setCell ⟨w.heap.size, 1, none⟩ (.slice A l.length cc)) (w.heap.size + 2) (.slice A l.length cc) l xs := HRW.out.2.2.1.keep (by simp) fun z hz1 _ => by rw [setCell_kept _ _ _ _ _ (by omega), setCell_kept _ _ _ _ _ (by omega)]
        obtain ⟨A2, cc2, he2, -, -, hrow2, -⟩ := ho2.row
        cases he2
        exact ⟨A, l.length, cc, rfl, ⟨HCW.out, hrow2, HRW.out.1, HRW.out.2.1⟩, (HPS.out.bel.setCell (Nat.le_refl _) _).setCell (Nat.le_refl _) _⟩
    · rw [decide_eq_false h0] at hne
      rw [rbB_t h0]
      have HN0 := Lib.hid h0
      have HCUT := Lib.hid (cut_any 10 t' (by omega) wr (HT.out.below HPS.out.bel).m)
      have hlc := lnF_cut t'
      by_cases hm : 10 ∈ t'
      · rw [if_pos hm] at hlc
        rw [decide_eq_true hm] at HCUT
        have HK2 := Lib.hid (k2_len 10 t' hm)
        have HK1 := Lib.hid (k1_len 10 t')
        have HTA := Lib.hid fun (V : World) (hV : Below wr.heap.size wr V) => take_any (HPS.out.below hV).box (Nat.lt_succ_self _) (HPS.out.below hV).sz i (by omega) hll (k1 10 t') (by have := HK1.out; omega) (HT.out.below (HPS.out.below hV).bel)
        have HPN := Lib.hid fun (V V' : World) (hV : Below wr.heap.size wr V) (hk : Tk V V' (w.heap.size + 1) (w.heap.size + 2) (tkC i c (k1 10 t')) (tkL i l (k1 10 t'))) => (HPS.out.below hV).next hk
        have HLC := Lib.hid hlc
        clear hlc hm h0
        obtain ⟨x, hx⟩ : ∃ x, x = k1 10 t' := ⟨_, rfl⟩
        obtain ⟨t2, ht2⟩ : ∃ t2, t2 = k2 10 t' := ⟨_, rfl⟩
        rw [← hx] at HCUT HTA HPN HLC HK1
        rw [← ht2] at HCUT HLC HK2
        clear hx ht2
        cases hok : lineOk i x with
        | true =>
          rw [hok] at HTA
          have HGO2 : Hid (parE t = goL (i + 1) (lnF t2).1 (lnF t2).2 ∧ parR t = goR (i + 1) (tkC i c x) (tkL i l x) (lnF t2).1) := Lib.hid (by
            rw [HGO.out.1, HGO.out.2, HLC.out]
            refine ⟨?_, rfl⟩
            show goL i (x :: _) _ = _
            conv => lhs; unfold goL
            rw [if_pos hok])
          have HLL : Hid ((tkL i l x).length ≤ i + 1) := Lib.hid (by have := HLE.out.2; unfold tkL; rw [hok]; split; omega; first | (rw [if_pos rfl, List.length_append, List.length_singleton]; omega) | (rw [List.length_append, List.length_singleton]; omega))
          have HCW2 : Hid ((Lit.int .i64 (tkC i c x)).wf = true) := Lib.hid (by
            unfold tkC
            split
            · have h := numOf_fits (c2 x)
              simp [Lit.wf, IntKind.min, IntKind.max, IntKind.signed, IntKind.bits]
              omega
            · exact HCW.out)
          have hsx : (S t2).size < (S t').size := by rw [S_size, S_size]; have := HK2.out; omega
          have HSX := Lib.hid hsx
          clear hok hsx
          go_wp2_with (first
            | (go_at_call 22; (with_reducible refine HCUT.out.mono ?_); rintro e w1 ⟨rfl, n1, hw1⟩; have HB1 : Hid (Below wr.heap.size wr w1) := Lib.hid (by rw [hw1]; exact drewN_below wr n1); clear hw1)
            | (go_at_call 47; (with_reducible refine (HTA.out _ HB1.out).mono ?_); rintro e w2 ⟨rfl, hk⟩; have HP2 := Lib.hid (HPN.out _ _ HB1.out hk); clear hk))
          refine ⟨⟨t2, i + 1, tkC i c x, tkL i l x, rfl, by go_num, by rw [rbB_i (by omega)], Lib.hid ⟨by have := HLE.out.1; have := HK2.out; omega, HLL.out⟩, HGO2, HCW2, HP2⟩, HSX.out⟩
        | false =>
          rw [hok] at HTA
          have hpe : parE t = some i := by
            rw [HGO.out.1, HLC.out]
            show goL i (x :: _) _ = _
            unfold goL
            rw [if_neg (by rw [hok]; decide)]
          have HE := Lib.hid (par_no hpe)
          clear hok hpe
          go_wp2_with (first
            | (go_at_call 22; (with_reducible refine HCUT.out.mono ?_); rintro e w1 ⟨rfl, n1, hw1⟩; have HB1 : Hid (Below wr.heap.size wr w1) := Lib.hid (by rw [hw1]; exact drewN_below wr n1); clear hw1)
            | (go_at_call 47; (with_reducible refine (HTA.out _ HB1.out).mono ?_); rintro e w2 ⟨rfl, hk⟩; have HP2 := Lib.hid (HPN.out _ _ HB1.out hk); obtain ⟨z0, z1, z2, z3⟩ := HP2.out.zero; clear hk))
          rw [Exit.noGoto_ret]
          have hz := HP2.out.res
          refine parse_fin ((heap_setCell_same _ _ 1 (.slice none 0 0) (heap_setCell_same w2 _ 0 (.int .i64 0) hz)).trans rfl) _ rfl rfl rfl rfl _ ?_
          rw [HE.out.1, HE.out.2.1, HE.out.2.2.1, HE.out.2.2.2]
          exact ⟨none, 0, 0, rfl, zero_at _, (HP2.out.bel.setCell (Nat.le_refl _) _).setCell (Nat.le_refl _) _⟩
      · rw [if_neg hm] at hlc
        rw [decide_eq_false hm] at HCUT
        have hpe : parE t = some i := by
          rw [HGO.out.1, hlc]
          show goL i [] t' = _
          unfold goL
          rw [if_neg (fun e => HN0.out e.1)]
        have HE := Lib.hid (par_no hpe)
        clear hlc hm hpe h0
        go_wp2_with (go_at_call 22; (with_reducible refine HCUT.out.mono ?_); rintro e w1 ⟨rfl, n1, hw1⟩; have HP2 : Hid (PS w w1 c l) := Lib.hid (by rw [hw1]; exact HPS.out.below (drewN_below wr n1)); obtain ⟨z0, z1, z2, z3⟩ := HP2.out.zero; clear hw1)
        rw [Exit.noGoto_ret]
        have hz := HP2.out.res
        refine parse_fin ((heap_setCell_same _ _ 1 (.slice none 0 0) (heap_setCell_same w1 _ 0 (.int .i64 0) hz)).trans rfl) _ rfl rfl rfl rfl _ ?_
        rw [HE.out.1, HE.out.2.1, HE.out.2.2.1, HE.out.2.2.2]
        exact ⟨none, 0, 0, rfl, zero_at _, (HP2.out.bel.setCell (Nat.le_refl _) _).setCell (Nat.le_refl _) _⟩
end Go.Proofs.YtlodoilihminaaaGreatDoor
