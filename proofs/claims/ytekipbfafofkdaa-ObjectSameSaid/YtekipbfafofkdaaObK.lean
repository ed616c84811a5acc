/-
  selfsameref07.May: which objects may be; such an object is told by its bytes.
-/
import Derived.Test.YtekipbfafofkdaaObM
namespace Go.Proofs.Ytekipbfafofkdaa
open Go.ChangeShapes Go.WideShapes Go.ChangeAt Go.RowKit
set_option linter.unusedVariables false
structure MayB (o : Ob) : Prop where
  v0 : 0 ≤ o.vars
  v1 : o.vars ≤ 262144
  v4 : o.vars % 4 = 0
  t1 : o.text.length ≤ 8192
  t4 : (o.text.length : Int) % 4 = 0
  vt : o.vars + o.text.length ≤ 262144
structure MayC (o : Ob) : Prop where
  c : o.code.length ≤ 16384
  e0 : 1 ≤ o.ents.length
  e1 : o.ents.length ≤ 201
  f : o.fixs.length ≤ 8192
def entsP (o : Ob) (j : Nat) : Prop := ∀ i, i < j → ∀ x, o.ents[i]? = some x → 0 ≤ x ∧ x < o.code.length
def fixOK (o : Ob) (i : Nat) (p q r : Int) : Prop := (0 ≤ p ∧ p < o.code.length) ∧ (0 ≤ r ∧ r ≤ 200) ∧ (0 ≤ q ∧ q ≤ o.imps.length) ∧ ¬ (r = 0 ∧ p = (o.code.length : Int) - 1) ∧ ¬ (0 < r ∧ q = 0) ∧ ∀ x, 0 < i → o.fixs[i - 1]? = some x → x.1 < p
def fixsP (o : Ob) (j : Nat) : Prop := ∀ i, i < j → ∀ x, o.fixs[i]? = some x → fixOK o i x.1 x.2.1 x.2.2
def mayP (o : Ob) : Prop := mayIB o.name o.imps = true ∧ MayB o ∧ MayC o ∧ entsP o o.ents.length ∧ fixsP o o.fixs.length
open Classical in
noncomputable def mayO (o : Ob) : Bool := decide (mayP o)
theorem mayO_no {o : Ob} (h : ¬ mayP o) : mayO o = false := by unfold mayO; simp [h]
theorem mayO_yes {o : Ob} (h : mayP o) : mayO o = true := by unfold mayO; simp [h]
theorem mayO_iff {o : Ob} : mayO o = true ↔ mayP o := by unfold mayO; simp
theorem name_size {s : ByteArray} (h : nameB s = true) : s.size ≤ 15 := by
  unfold nameB at h
  simp only [Bool.and_eq_true, decide_eq_true_eq] at h
  exact h.1.2
theorem wf_u32 {x : Int} (h : (Lit.int .u32 x).wf = true) : 0 ≤ x ∧ x < 4294967296 := by
  have h : (decide ((0 : Int) ≤ x) && decide (x ≤ 4294967295)) = true := h
  simp only [Bool.and_eq_true, decide_eq_true_eq] at h
  omega
theorem tells_of {w : World} {o : Ob} {ai : Option Addr} {li ci : Nat} {at_ : Option Addr} {lt ct : Nat} {ac : Option Addr} {lc cc : Nat} {ae : Option Addr} {le ce : Nat} {af : Option Addr} {lf cf : Nat} (ho : ObRows w o ai li ci at_ lt ct ac lc cc ae le ce af lf cf) (h : mayO o = true) : o.Tells := by
  obtain ⟨hI, hB, hC, hE, hF⟩ := mayO_iff.1 h
  unfold mayIB at hI
  simp only [Bool.and_eq_true, decide_eq_true_eq] at hI
  obtain ⟨hI, hn, h12⟩ := hI
  have hns := name_size hn
  refine ⟨by omega, wf_u32 ho.hk, by omega, fun p hp => ?_, ⟨hB.v0, by have := hB.v1; omega⟩, by have := hB.t1; omega, by have := hC.c; omega, fun x hx => wf_u32 (ho.code.2.2.2.1 x hx), by have := hC.e1; omega, fun x hx => ?_, by have := hC.f; omega, fun p hp => ?_⟩
  · obtain ⟨i, hi⟩ := List.getElem?_of_mem hp
    have h1 := (List.getElem?_eq_some_iff.1 hi).1
    have := name_size (hI i h1 p hi).1
    exact ⟨by omega, wf_u32 (ho.imps.2.2.2.1 p hp).2⟩
  · obtain ⟨i, hi⟩ := List.getElem?_of_mem hx
    have h1 := (List.getElem?_eq_some_iff.1 hi).1
    have := hE i h1 x hi
    have := hC.c
    omega
  · obtain ⟨i, hi⟩ := List.getElem?_of_mem hp
    have h1 := (List.getElem?_eq_some_iff.1 hi).1
    obtain ⟨g1, g2, g3, -⟩ := hF i h1 p hi
    have := hC.c
    omega
set_option maxHeartbeats 8000000 in
set_option maxRecDepth 100000 in
theorem omay_any {w0 w : World} {o : Ob} {ai : Option Addr} {li ci : Nat} {at_ : Option Addr} {lt ct : Nat} {ac : Option Addr} {lc cc : Nat} {ae : Option Addr} {le ce : Nat} {af : Option Addr} {lf cf : Nat} (ho : ObRows w0 o ai li ci at_ lt ct ac lc cc ae le ce af lf cf) (hw : Below w0.heap.size w0 w) :
    Calls Try.prog 11 #[ob o.name o.key ai li ci o.vars at_ lt ct ac lc cc ae le ce af lf cf] w fun e w' => e = .returned (.bool (mayO o)) ∧ Below w.heap.size w w' := by
  have HR := Lib.hid ho
  have HW := Lib.hid hw
  have hli := ho.imps.1
  have hlt := ho.text.1
  have hlc := ho.code.1
  have hle := ho.ents.1
  have hlf := ho.fixs.1
  have cli : li ≤ maxLen := Nat.le_trans ho.imps.2.1 ho.imps.2.2.1
  have clt : lt ≤ maxLen := Nat.le_trans ho.text.2.1 ho.text.2.2.1
  have clc : lc ≤ maxLen := Nat.le_trans ho.code.2.1 ho.code.2.2.1
  have cle : le ≤ maxLen := Nat.le_trans ho.ents.2.1 ho.ents.2.2.1
  have clf : lf ≤ maxLen := Nat.le_trans ho.fixs.2.1 ho.fixs.2.2.1
  have HI := Lib.hid (fun W hW => mayImps_any (w0 := w0) (w := W) ho.hn ho.imps hW)
  have HO := Lib.hid (Ob8.new w o.name o.key ai li ci o.vars at_ lt ct ac lc cc ae le ce af lf cf rfl)
  have HB := Lib.hid (below1 w (.cells #[.string o.name, .int .u32 o.key, .slice ai li ci, .int .i64 o.vars, .slice at_ lt ct, .slice ac lc cc, .slice ae le ce, .slice af lf cf] 29))
  obtain ⟨x0, x1, x2, x3, x4, x5, x6, x7, -⟩ := HO.out
  have hvw : -9223372036854775808 ≤ o.vars ∧ o.vars ≤ 9223372036854775807 := by
    have h : (decide ((-9223372036854775808 : Int) ≤ o.vars) && decide (o.vars ≤ 9223372036854775807)) = true := ho.hv
    simpa using h
  clear ho hw
  unfold maxLen at cli clt clc cle clf
  have HMP : Hid (∀ h : mayP o, mayIB o.name o.imps = true ∧ (0 ≤ o.vars ∧ o.vars ≤ 262144 ∧ o.vars % 4 = 0 ∧ lt ≤ 8192 ∧ (lt : Int) % 4 = 0 ∧ o.vars + lt ≤ 262144) ∧ (lc ≤ 16384 ∧ 1 ≤ le ∧ le ≤ 201 ∧ lf ≤ 8192)) := Lib.hid fun h => by
    obtain ⟨h1, h2, h3, -, -⟩ := h
    obtain ⟨a1, a2, a3, a4, a5, a6⟩ := h2
    obtain ⟨b1, b2, b3, b4⟩ := h3
    rw [hlt] at a4 a5 a6
    rw [hlc] at b1
    rw [hle] at b2 b3
    rw [hlf] at b4
    exact ⟨h1, ⟨a1, a2, a3, a4, a5, a6⟩, b1, b2, b3, b4⟩
  have HLN : Hid (o.imps.length = li ∧ o.text.length = lt ∧ o.code.length = lc ∧ o.ents.length = le ∧ o.fixs.length = lf) := Lib.hid ⟨hli, hlt, hlc, hle, hlf⟩
  clear hli hlt hlc hle hlf
  have HMAY : Hid (∀ b, mayO o = b → mayO o = b) := Lib.hid fun _ h => h
  generalize hib : mayIB o.name o.imps = ib at *
  have HIB := Lib.hid hib
  obtain ⟨nn, hnn⟩ : ∃ x, x = o.name := ⟨_, rfl⟩
  obtain ⟨kk, hkk⟩ : ∃ x, x = o.key := ⟨_, rfl⟩
  obtain ⟨vv, hvv⟩ : ∃ x, x = o.vars := ⟨_, rfl⟩
  rw [← hvv] at HMP hvw HO HB x3 ⊢
  rw [← hkk] at HO HB x1 ⊢
  rw [← hnn] at HI HO HB x0 ⊢
  have HVV := Lib.hid hvv
  clear hvv hkk hnn hib
  unfold ob at *
  cases ib with
  | false =>
    have hv : Hid (mayO o = false) := Lib.hid (mayO_no fun h => by have := (HMP.out h).1; cases this)
    go_enter Try.func11, Try.ntmps11
    go_wp2_with (go_at_call 22; refine (HI.out _ (HW.out.trans (HB.out.mono HW.out.size))).mono ?_; rintro e w' ⟨rfl, hb⟩; replace HO := Lib.hid (HO.out.next hb); replace HB := Lib.hid (HB.out.trans (hb.mono HB.out.size)); clear x0 x1 x2 x3 x4 x5 x6 x7; obtain ⟨x0, x1, x2, x3, x4, x5, x6, x7, -⟩ := HO.out; clear hb)
    go_ret
    exact ⟨ret_bool hv.out.symm, HB.out⟩
  | true =>
    have htl : ((lt : Int)).tmod 4 = (lt : Int) % 4 := Int.tmod_eq_emod_of_nonneg (by omega)
    by_cases hv0 : vv < 0
    · have hv : Hid (mayO o = false) := Lib.hid (mayO_no fun h => by have := (HMP.out h).2.1.1; omega)
      go_enter Try.func11, Try.ntmps11
      go_wp2_with (go_at_call 22; refine (HI.out _ (HW.out.trans (HB.out.mono HW.out.size))).mono ?_; rintro e w' ⟨rfl, hb⟩; replace HO := Lib.hid (HO.out.next hb); replace HB := Lib.hid (HB.out.trans (hb.mono HB.out.size)); clear x0 x1 x2 x3 x4 x5 x6 x7; obtain ⟨x0, x1, x2, x3, x4, x5, x6, x7, -⟩ := HO.out; clear hb)
      go_ret
      exact ⟨ret_bool hv.out.symm, HB.out⟩
    have htv : vv.tmod 4 = vv % 4 := Int.tmod_eq_emod_of_nonneg (by omega)
    by_cases hBB : vv ≤ 262144 ∧ vv % 4 = 0 ∧ lt ≤ 8192 ∧ (lt : Int) % 4 = 0 ∧ vv + lt ≤ 262144
    rotate_left
    · have hv : Hid (mayO o = false) := Lib.hid (mayO_no fun h => hBB (HMP.out h).2.1.2)
      go_enter Try.func11, Try.ntmps11
      go_wp2_with (go_at_call 22; refine (HI.out _ (HW.out.trans (HB.out.mono HW.out.size))).mono ?_; rintro e w' ⟨rfl, hb⟩; replace HO := Lib.hid (HO.out.next hb); replace HB := Lib.hid (HB.out.trans (hb.mono HB.out.size)); clear x0 x1 x2 x3 x4 x5 x6 x7; obtain ⟨x0, x1, x2, x3, x4, x5, x6, x7, -⟩ := HO.out; clear hb)
      all_goals
        go_ret
        exact ⟨ret_bool hv.out.symm, HB.out⟩
    obtain ⟨b1, b2, b3, b4, b5⟩ := hBB
    by_cases hCC : lc ≤ 16384 ∧ 1 ≤ le ∧ le ≤ 201 ∧ lf ≤ 8192
    rotate_left
    · have hv : Hid (mayO o = false) := Lib.hid (mayO_no fun h => hCC (HMP.out h).2.2)
      go_enter Try.func11, Try.ntmps11
      go_wp2_with (go_at_call 22; refine (HI.out _ (HW.out.trans (HB.out.mono HW.out.size))).mono ?_; rintro e w' ⟨rfl, hb⟩; replace HO := Lib.hid (HO.out.next hb); replace HB := Lib.hid (HB.out.trans (hb.mono HB.out.size)); clear x0 x1 x2 x3 x4 x5 x6 x7; obtain ⟨x0, x1, x2, x3, x4, x5, x6, x7, -⟩ := HO.out; clear hb)
      all_goals
        go_ret
        exact ⟨ret_bool hv.out.symm, HB.out⟩
    obtain ⟨c1, c2, c3, c4⟩ := hCC
    have HFULL : Hid (entsP o le → fixsP o lf → mayO o = true) := Lib.hid fun h1 h2 => by
      obtain ⟨e1, e2, e3, e4, e5⟩ := HLN.out
      refine mayO_yes ⟨HIB.out, ⟨by rw [← HVV.out]; omega, by rw [← HVV.out]; omega, by rw [← HVV.out]; exact b2, by omega, by rw [e2]; exact b4, by rw [← HVV.out, e2]; omega⟩, ⟨by omega, by omega, by omega, by omega⟩, by rw [e4]; exact h1, by rw [e5]; exact h2⟩
    have HNE : Hid (∀ j, j < le → ¬ entsP o (j + 1) → mayO o = false) := Lib.hid fun j hj h => mayO_no fun g => h fun i hi x hx => g.2.2.2.1 i (by have := HLN.out.2.2.2.1; omega) x hx
    have HNF : Hid (∀ j, j < lf → ¬ fixsP o (j + 1) → mayO o = false) := Lib.hid fun j hj h => mayO_no fun g => h fun i hi x hx => g.2.2.2.2 i (by have := HLN.out.2.2.2.2; omega) x hx
    clear HMP HIB HVV
    go_enter Try.func11, Try.ntmps11
    go_wp2_with (go_at_call 22; refine (HI.out _ (HW.out.trans (HB.out.mono HW.out.size))).mono ?_; rintro e w' ⟨rfl, hb⟩; replace HO := Lib.hid (HO.out.next hb); replace HB := Lib.hid (HB.out.trans (hb.mono HB.out.size)); clear x0 x1 x2 x3 x4 x5 x6 x7; obtain ⟨x0, x1, x2, x3, x4, x5, x6, x7, -⟩ := HO.out; clear hb)
    go_loopw [3] (fun i wr => ∃ j : Nat, j ≤ le ∧ i = .int .i64 j ∧ Hid (entsP o j) ∧ Hid (Below w'.heap.size w' wr)) (fun i _ => le - (intOf i).toNat)
    case atStart => exact ⟨0, Nat.zero_le _, rfl, Lib.hid (fun i hi => by omega), Lib.hid (Below.refl _ _)⟩
    case round =>
      obtain ⟨j, hj, rfl, HE, HWR⟩ := hrel
      clear x0 x1 x2 x3 x4 x5 x6 x7
      obtain ⟨x0, x1, x2, x3, x4, x5, x6, x7, -⟩ := HO.out.next HWR.out
      by_cases hlt : j < le
      · have hjl : j < o.ents.length := by have := HLN.out.2.2.2.1; omega
        have hbb := HW.out.trans ((HB.out.trans (HWR.out.mono HB.out.size)).mono HW.out.size)
        obtain ⟨p, rfl, hpb, hp⟩ := HR.out.ents.2.2.2.2.2 (by omega)
        have cc := (hbb.cell (p := p.add j) (by rw [block_add]; exact hpb)).trans (hp j hlt)
        rw [nth_get _ j hjl] at cc
        have HGJ := Lib.hid (List.getElem?_eq_getElem hjl)
        clear hp hbb
        generalize o.ents[j] = ej at *
        have HEJ : Hid (0 ≤ ej ∧ ej < lc → entsP o (j + 1)) := Lib.hid fun h i hi x hx => by
          by_cases hij : i < j
          · exact HE.out i hij x hx
          · obtain rfl : i = j := by omega
            rw [HGJ.out] at hx
            cases hx
            have := HLN.out.2.2.1
            omega
        have HEN : Hid (¬ (0 ≤ ej ∧ ej < lc) → mayO o = false) := Lib.hid fun h => HNE.out j hlt fun g => h (by
          have := g j (by omega) _ HGJ.out
          have e3 := HLN.out.2.2.1
          omega)
        by_cases g1 : ej < 0
        · have hv := Lib.hid (HEN.out (by omega))
          go_wp2_with fail
          go_quiet (fail)
          go_wp2_with fail
          go_ret
          exact ⟨ret_bool hv.out.symm, HB.out.trans ((by first | exact HWR.out.drew | exact below_drewN HWR.out _ : Below w'.heap.size w' _).mono HB.out.size)⟩
        by_cases g2 : ej < lc
        · have HN := Lib.hid (HEJ.out ⟨by omega, g2⟩)
          go_wp2_with fail
          go_quiet (fail)
          go_wp2_with fail
          exact ⟨⟨j + 1, by omega, by simp, HN, Lib.hid (by first | exact HWR.out.drew | exact below_drewN HWR.out _)⟩, by simp [intOf]; omega⟩
        · have hv := Lib.hid (HEN.out (by omega))
          go_wp2_with fail
          go_quiet (fail)
          go_wp2_with fail
          go_ret
          exact ⟨ret_bool hv.out.symm, HB.out.trans ((by first | exact HWR.out.drew | exact below_drewN HWR.out _ : Below w'.heap.size w' _).mono HB.out.size)⟩
      · obtain rfl : j = le := by omega
        obtain ⟨W2, hW2⟩ : ∃ W2, W2 = wr := ⟨wr, rfl⟩
        subst hW2
        have HO2 := Lib.hid (HO.out.next HWR.out)
        have HB2 := Lib.hid (HB.out.trans (HWR.out.mono HB.out.size))
        clear x0 x1 x2 x3 x4 x5 x6 x7
        obtain ⟨x0, x1, x2, x3, x4, x5, x6, x7, -⟩ := HO2.out
        have HFUL2 := Lib.hid (HFULL.out HE.out)
        clear HNE HFULL HE
        go_wp2_with fail
        go_loopw [4] (fun i wr => ∃ j : Nat, j ≤ lf ∧ i = .int .i64 j ∧ Hid (fixsP o j) ∧ Hid (Below W2.heap.size W2 wr)) (fun i _ => lf - (intOf i).toNat)
        case atStart => exact ⟨0, Nat.zero_le _, rfl, Lib.hid (fun i hi => by omega), Lib.hid (Below.refl _ _)⟩
        case round =>
          obtain ⟨j, hj, rfl, HF, HWQ⟩ := hrel
          clear x0 x1 x2 x3 x4 x5 x6 x7
          by_cases hlt : j < lf
          · have hjl : j < o.fixs.length := by have := HLN.out.2.2.2.2; omega
            have HLF := Lib.hid HLN.out.2.2.2.2
            obtain ⟨p, rfl, hpb, hp⟩ := HR.out.fixs.2.2.2.2 (by omega)
            have hbr := HW.out.trans ((HB2.out.trans (HWQ.out.mono HB2.out.size)).mono HW.out.size)
            obtain ⟨y0, y1, y2⟩ := (hp j o.fixs[j] (List.getElem?_eq_getElem hjl)).below (by rw [add_sz]; exact hpb) hbr
            have HGJ := Lib.hid (List.getElem?_eq_getElem hjl)
            generalize o.fixs[j] = fj at *
            obtain ⟨P, Q, R⟩ := fj
            simp only at y0 y1 y2
            have HX : Hid (Below W2.heap.size W2 (wr.alloc (.cells #[.int .i64 P, .int .i64 Q, .int .i64 R] 51))) := Lib.hid (HWQ.out.alloc HWQ.out.size _)
            have HBQ := Lib.hid (HW.out.trans ((HB2.out.trans (HX.out.mono HB2.out.size)).mono HW.out.size))
            obtain ⟨x0, x1, x2, x3, x4, x5, x6, x7, -⟩ := HO2.out.next HWQ.out
            obtain ⟨u0, u1, u2, u3, u4, u5, u6, u7, -⟩ := HO2.out.next HX.out
            have z0 : (wr.alloc (.cells #[.int .i64 P, .int .i64 Q, .int .i64 R] 51)).cell? ⟨wr.heap.size, 0, none⟩ = some (.int .i64 P) := by rw [World.cell?_alloc_new wr _ _ _]; rfl
            have z1 : (wr.alloc (.cells #[.int .i64 P, .int .i64 Q, .int .i64 R] 51)).cell? ⟨wr.heap.size, 1, none⟩ = some (.int .i64 Q) := by rw [World.cell?_alloc_new wr _ _ _]; rfl
            have z2 : (wr.alloc (.cells #[.int .i64 P, .int .i64 Q, .int .i64 R] 51)).cell? ⟨wr.heap.size, 2, none⟩ = some (.int .i64 R) := by rw [World.cell?_alloc_new wr _ _ _]; rfl
            have HPP := Lib.hid hp
            have HPB := Lib.hid hpb
            have HFN : Hid (¬ fixOK o j P Q R → mayO o = false) := Lib.hid fun h => HNF.out j hlt fun g => h (g j (by omega) _ HGJ.out)
            have HFY : Hid ((((0 ≤ P ∧ P < lc) ∧ (0 ≤ R ∧ R ≤ 200) ∧ 0 ≤ Q ∧ Q ≤ li) ∧ ¬ (R = 0 ∧ P = (lc : Int) - 1) ∧ ¬ (0 < R ∧ Q = 0)) → (∀ x : Int × Int × Int, 0 < j → o.fixs[j - 1]? = some x → x.1 < P) → fixsP o (j + 1)) := Lib.hid fun h h2 i hi x hx => by
              by_cases hij : i < j
              · exact HF.out i hij x hx
              · obtain rfl : i = j := by omega
                rw [HGJ.out] at hx
                cases hx
                obtain ⟨e1, -, e3, -, -⟩ := HLN.out
                obtain ⟨⟨h3, h4, h5⟩, h6, h7⟩ := h
                show fixOK o i P Q R
                exact ⟨by omega, h4, by omega, by rw [e3]; exact h6, h7, h2⟩
            have HLI := Lib.hid HLN.out
            clear hp hbr
            by_cases gg : (0 ≤ P ∧ P < lc) ∧ (0 ≤ R ∧ R ≤ 200) ∧ 0 ≤ Q ∧ Q ≤ li
            rotate_left
            · have hv := Lib.hid (HFN.out fun h => gg (by
                obtain ⟨e1, -, e3, -, -⟩ := HLI.out
                obtain ⟨h3, h4, h5, -⟩ := h
                exact ⟨by omega, h4, by omega⟩))
              go_wp2_with fail
              all_goals
                go_ret
                exact ⟨ret_bool hv.out.symm, HB2.out.trans (HX.out.mono HB2.out.size)⟩
            obtain ⟨⟨P0, P9⟩, ⟨R0, R9⟩, Q0, Q9⟩ := gg
            have gg : (0 ≤ P ∧ P < lc) ∧ (0 ≤ R ∧ R ≤ 200) ∧ 0 ≤ Q ∧ Q ≤ li := ⟨⟨P0, P9⟩, ⟨R0, R9⟩, Q0, Q9⟩
            by_cases g2 : R = 0 ∧ P = (lc : Int) - 1
            · have hv := Lib.hid (HFN.out fun h => h.2.2.2.1 (by rw [HLI.out.2.2.1]; exact g2))
              obtain ⟨rfl, rfl⟩ := g2
              go_wp2_with fail
              go_quiet (fail)
              go_wp2_with fail
              go_ret
              exact ⟨ret_bool hv.out.symm, HB2.out.trans ((by first | exact HX.out.drew | exact below_drewN HX.out _ : Below W2.heap.size W2 _).mono HB2.out.size)⟩
            have ng2 := g2
            by_cases g3 : 0 < R ∧ Q = 0
            · have hv := Lib.hid (HFN.out fun h => h.2.2.2.2.1 g3)
              obtain ⟨r1, rfl⟩ := g3
              have e1 : (R == 0) = false := by simp; omega
              go_wp2_with fail
              go_quiet (fail)
              go_wp2_with fail
              go_ret
              exact ⟨ret_bool hv.out.symm, HB2.out.trans ((by first | exact HX.out.drew | exact below_drewN HX.out _ : Below W2.heap.size W2 _).mono HB2.out.size)⟩
            have ng3 := g3
            by_cases g4 : R = 0
            · subst g4
              have e1 : (P == (lc : Int) - 1) = false := by simp; omega
              cases j with
              | zero =>
                have a0 : p.add (0 * 3) = p := by unfold Addr.add; simp
                rw [a0] at y0 y1 y2
                have HN := Lib.hid (HFY.out ⟨gg, ng2, ng3⟩ (fun x h => by omega))
                go_wp2_with fail
                go_quiet (fail)
                go_wp2_with fail
                exact ⟨⟨0 + 1, by omega, by simp, HN, Lib.hid (by first | exact HX.out.drew | exact below_drewN HX.out _)⟩, by simp [intOf]; omega⟩
              | succ i =>
                have hil : i < o.fixs.length := by omega
                obtain ⟨d0, d1, d2⟩ := (HPP.out i o.fixs[i] (List.getElem?_eq_getElem hil)).below (by rw [add_sz]; exact HPB.out) HBQ.out
                have HGI := Lib.hid (List.getElem?_eq_getElem hil)
                generalize o.fixs[i] = fi at *
                obtain ⟨P1, Q1, R1⟩ := fi
                simp only at d0 d1 d2
                by_cases g5 : P1 < P
                · have HN := Lib.hid (HFY.out ⟨gg, ng2, ng3⟩ (fun x _ h => by
                    rw [show i + 1 - 1 = i from rfl, HGI.out] at h
                    cases h
                    exact g5))
                  go_wp2_with fail
                  go_quiet (fail)
                  go_wp2_with fail
                  exact ⟨⟨i + 1 + 1, by omega, by simp, HN, Lib.hid (by first | exact HX.out.drew | exact below_drewN HX.out _)⟩, by simp [intOf]; omega⟩
                · have hv := Lib.hid (HFN.out fun h => g5 (h.2.2.2.2.2 (P1, Q1, R1) (by omega) HGI.out))
                  go_wp2_with fail
                  go_quiet (fail)
                  go_wp2_with fail
                  go_ret
                  exact ⟨ret_bool hv.out.symm, HB2.out.trans ((by first | exact HX.out.drew | exact below_drewN HX.out _ : Below W2.heap.size W2 _).mono HB2.out.size)⟩
            · have e1 : (R == 0) = false := by simpa using g4
              have e2 : 0 < R := by omega
              have e3 : (Q == 0) = false := by simp; omega
              cases j with
              | zero =>
                have a0 : p.add (0 * 3) = p := by unfold Addr.add; simp
                rw [a0] at y0 y1 y2
                have HN := Lib.hid (HFY.out ⟨gg, ng2, ng3⟩ (fun x h => by omega))
                go_wp2_with fail
                go_quiet (fail)
                go_wp2_with fail
                exact ⟨⟨0 + 1, by omega, by simp, HN, Lib.hid (by first | exact HX.out.drew | exact below_drewN HX.out _)⟩, by simp [intOf]; omega⟩
              | succ i =>
                have hil : i < o.fixs.length := by omega
                obtain ⟨d0, d1, d2⟩ := (HPP.out i o.fixs[i] (List.getElem?_eq_getElem hil)).below (by rw [add_sz]; exact HPB.out) HBQ.out
                have HGI := Lib.hid (List.getElem?_eq_getElem hil)
                generalize o.fixs[i] = fi at *
                obtain ⟨P1, Q1, R1⟩ := fi
                simp only at d0 d1 d2
                by_cases g5 : P1 < P
                · have HN := Lib.hid (HFY.out ⟨gg, ng2, ng3⟩ (fun x _ h => by
                    rw [show i + 1 - 1 = i from rfl, HGI.out] at h
                    cases h
                    exact g5))
                  go_wp2_with fail
                  go_quiet (fail)
                  go_wp2_with fail
                  exact ⟨⟨i + 1 + 1, by omega, by simp, HN, Lib.hid (by first | exact HX.out.drew | exact below_drewN HX.out _)⟩, by simp [intOf]; omega⟩
                · have hv := Lib.hid (HFN.out fun h => g5 (h.2.2.2.2.2 (P1, Q1, R1) (by omega) HGI.out))
                  go_wp2_with fail
                  go_quiet (fail)
                  go_wp2_with fail
                  go_ret
                  exact ⟨ret_bool hv.out.symm, HB2.out.trans ((by first | exact HX.out.drew | exact below_drewN HX.out _ : Below W2.heap.size W2 _).mono HB2.out.size)⟩
          · obtain rfl : j = lf := by omega
            obtain ⟨x0, x1, x2, x3, x4, x5, x6, x7, -⟩ := HO2.out.next HWQ.out
            have hv := Lib.hid (HFUL2.out HF.out)
            go_wp2_with fail
            go_ret
            exact ⟨ret_bool hv.out.symm, HB2.out.trans (HWQ.out.mono HB2.out.size)⟩
end Go.Proofs.Ytekipbfafofkdaa
