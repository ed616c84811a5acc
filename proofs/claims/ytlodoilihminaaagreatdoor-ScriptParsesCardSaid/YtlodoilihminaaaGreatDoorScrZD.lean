/-
  script.Text.
-/
import Derived.Test.YtlodoilihminaaaGreatDoorScrZC
namespace Go.Proofs.YtlodoilihminaaaGreatDoor
open Go.ChangeShapes Go.WideShapes Go.ChangeAt Go.RowKit
set_option linter.unusedVariables false
set_option linter.unusedSimpArgs false
theorem tput_any {W : World} {b : Nat} {p v : Value} {L : List UInt8} (h : Bd W b p v L) (l : List UInt8) (hl : L.length + l.length ≤ 10000000) : Calls Tryz.prog 37 #[.string (S l), .pointer (some ⟨b, 0, none⟩)] W fun e w' => e = .returned (.bool (decide (L.length + l.length + 1 ≤ 4194304))) ∧ ∃ p' v', Bd w' b p' v' (L ++ l ++ [10]) ∧ Bf b W w' := by
  have HH := Lib.hid h
  have hlen : (L ++ l ++ [10]).length = L.length + l.length + 1 := by simp; omega
  have HLEN := Lib.hid hlen
  obtain ⟨N, hN⟩ : ∃ N, N = L.length + l.length + 1 := ⟨_, rfl⟩
  have HN := Lib.hid hN
  rw [← hN]
  clear h hlen hN
  have hcase : N ≤ 4194304 ∨ 4194304 < N := by omega
  rcases hcase with hcase | hcase
  all_goals
    go_enter Tryz.func37, Tryz.ntmps37
    go_wp2_with (first
      | (go_at_call 38; (with_reducible refine (wstr_any HH.out l (by omega)).mono ?_); rintro e w1 ⟨rfl, v1, hb1, hf1, -⟩; have HB1 := Lib.hid hb1; have HF1 := Lib.hid hf1; clear hb1 hf1)
      | (go_at_call 39; refine (wbyte_any HB1.out 10 (by rw [List.length_append]; omega)).mono ?_; rintro e w2 ⟨rfl, v2, hb2, hf2⟩; have HB2 := Lib.hid hb2; have HF2 := Lib.hid (HF1.out.trans hf2); clear hb2 hf2)
      | (go_at_call 40; (with_reducible refine (len_any HB2.out).mono ?_); rintro e w' ⟨rfl, rfl⟩; rw [HLEN.out, ← HN.out]))
    go_ret
    exact ⟨ret_bool (by rw [Bool.eq_iff_iff]; simp only [decide_eq_true_eq]; omega), _, _, HB2.out, HF2.out⟩
theorem scE_cap {c : Int} {l : List Ac} (h : capB c = false) : scE c l = 2 := by unfold scE; rw [h]; rfl
theorem scE_may {c : Int} {l : List Ac} {k : Nat} {a : Ac} (h : l[k]? = some a) (hm : a.may = false) : scE c l = 2 := by
  unfold scE
  have : l.all Ac.may = false := by
    rw [List.all_eq_false]
    exact ⟨a, List.mem_of_getElem? h, by simp [hm]⟩
  rw [this, Bool.and_false]
  rfl
theorem scE_all {c : Int} {l : List Ac} (hc : capB c = true) (h : l.all Ac.may = true) : scE c l = if l.length ≤ 4096 ∧ (scT c l).length ≤ 4194304 then 0 else 3 := by
  unfold scE
  rw [hc, h]
  rfl
theorem all_may_succ (l : List Ac) (k : Nat) (a : Ac) (h : l[k]? = some a) : (l.take (k + 1)).all Ac.may = ((l.take k).all Ac.may && a.may) := by
  rw [List.take_add_one, h, List.all_append]
  simp
theorem scT_succ (c : Int) (l : List Ac) (k : Nat) (a : Ac) (h : l[k]? = some a) : scT c (l.take (k + 1)) = scT c (l.take k) ++ a.txt ++ [10] := by
  unfold scT
  rw [linesT_snoc l k a h]
  simp
theorem scT_le (c : Int) (l : List Ac) (k : Nat) : (scT c (l.take k)).length ≤ (scT c l).length := by
  unfold scT
  conv => rhs; rw [← List.take_append_drop k l, linesT_app]
  simp only [List.length_append]
  omega
theorem capT_eq (c : Int) : capT c = [99, 97, 112, 97, 99, 105, 116, 121, 32] ++ Lib.itoa c ++ [10] := by
  unfold capT wCap
  simp
theorem bd_next {W V : World} {b : Nat} {p v : Value} {L : List UInt8} (h : Bd W b p v L) (hb : Below W.heap.size W V) : Bd V b p v L :=
  h.next (hb.block _ h.lt) (fun k e => hb.block _ (h.vlt k e).2)
set_option maxHeartbeats 4000000 in
set_option maxRecDepth 100000 in
theorem stext_any (w : World) (c : Int) (l : List Ac) (A : Option Addr) (n cc : Nat) (h : ScAt w c l A n cc) (hT : Tb w) :
    Calls Tryz.prog 13 #[.agg (scC c A n cc)] w fun e w' => e = .returned (.tuple #[.string (S (scR c l)), .int .i64 (scE c l)]) ∧ Below w.heap.size w w' := by
  have HS := Lib.hid h
  have HT := Lib.hid hT
  have hnm : n ≤ 9223372036854775807 := by have := h.hn; have q := h.hm; unfold maxLen at q; omega
  have hcw := bd_i64 h.hc
  have HLN := Lib.hid h.row.1
  have hq0 := heap_alloc_new w (.cells #[.int .i64 c, .slice A n cc] 38)
  have hb0 := sbelow1 w (.cells #[.int .i64 c, .slice A n cc] 38)
  have hret : ∀ (s : List UInt8) (e : Int), scR c l = s → scE c l = e → Ending.returned (.tuple #[.string (S s), .int .i64 e]) = Ending.returned (.tuple #[.string (S (scR c l)), .int .i64 (scE c l)]) := fun s e h1 h2 => by rw [h1, h2]
  have hret0 : ∀ (e : Int), scE c l = e → e ≠ 0 → Ending.returned (.tuple #[.string ⟨#[]⟩, .int .i64 e]) = Ending.returned (.tuple #[.string (S (scR c l)), .int .i64 (scE c l)]) := fun e h2 h3 => hret [] e (by unfold scR; rw [if_neg (by rw [h2]; exact h3)]) h2
  have HRET := Lib.hid hret
  have HRET0 := Lib.hid hret0
  have HCW := Lib.hid hcw
  clear h hT hret hret0 hcw
  unfold scC
  go_enter Tryz.func13, Tryz.ntmps13
  go_upto_region 1 with fail
  generalize w.alloc (.cells #[.int .i64 c, .slice A n cc] 38) = W1 at hq0 hb0 ⊢
  have HK : Hid (∀ V, Below W1.heap.size W1 V → V.cell? ⟨w.heap.size, 0, none⟩ = some (.int .i64 c) ∧ V.cell? ⟨w.heap.size, 1, none⟩ = some (.slice A n cc)) := Lib.hid fun V hV => by
    have hq := (hV.block _ (Array.getElem?_eq_some_iff.1 hq0).1).trans hq0
    constructor <;> (rw [World.cell?, hq]; rfl)
  have HB := Lib.hid hb0
  have HQL := Lib.hid (Array.getElem?_eq_some_iff.1 hq0).1
  clear hq0 hb0
  obtain ⟨k0, k1⟩ := HK.out W1 (Below.refl _ _)
  have HCA := Lib.hid (cap_any c)
  cases hcap : capB c with
  | false =>
    rw [hcap] at HCA
    have HE := Lib.hid (scE_cap (l := l) hcap)
    clear hcap
    go_wp2_with (go_at_call 35; (with_reducible refine (HCA.out _).mono ?_); rintro e w' ⟨rfl, rfl⟩)
    go_ret2
    exact ⟨HRET0.out 2 HE.out (by omega), HB.out⟩
  | true =>
  rw [hcap] at HCA
  have HCAP := Lib.hid hcap
  clear hcap
  go_wp2_with (go_at_call 35; (with_reducible refine (HCA.out _).mono ?_); rintro e w' ⟨rfl, rfl⟩)
  clear k0 k1
  go_loopw [5, 19] (fun _ iv wr => ∃ k : Nat, k ≤ n ∧ iv = .int .i64 (k : Int) ∧ Hid ((l.take k).all Ac.may = true) ∧ Hid (Below W1.heap.size W1 wr)) (fun _ iv _ => n - (intOf iv).toNat)
  case atStart => exact ⟨0, Nat.zero_le _, rfl, Lib.hid rfl, Lib.hid (Below.refl _ _)⟩
  case round =>
    obtain ⟨k, hk, rfl, HM, HBR⟩ := hrel
    by_cases hlt : k < n
    · have hbw : Below w.heap.size w wr := HB.out.trans (HBR.out.mono HB.out.size)
      obtain ⟨x, a, bA, bn, bc, nA, nn, nc, rfl, hx, ha, hc, hat, hkw⟩ := (HS.out.row.below hbw).at hlt
      obtain ⟨c0, c1', c2', c3, c4, c5⟩ := hc
      have HMA := Lib.hid (fun (V : World) (hV : Below wr.heap.size wr V) => mayact_any V a bA bn bc nA nn nc (hat.below hV) hkw)
      have HA := Lib.hid ha
      have hq := heap_alloc_new wr (.cells #[.int .i64 a.kind, .string (S a.name), .slice bA bn bc, .slice nA nn nc, .int .i64 a.mem, .int .i64 a.fuel] 27)
      have HB5 := Lib.hid (sbelow1 wr (.cells #[.int .i64 a.kind, .string (S a.name), .slice bA bn bc, .slice nA nn nc, .int .i64 a.mem, .int .i64 a.fuel] 27))
      clear hat hkw ha hx
      unfold actC at HMA
      go_upto_region 6 with fail
      generalize wr.alloc (.cells #[.int .i64 a.kind, .string (S a.name), .slice bA bn bc, .slice nA nn nc, .int .i64 a.mem, .int .i64 a.fuel] 27) = W5 at hq HB5 ⊢
      have d0 : W5.cell? ⟨wr.heap.size, 0, none⟩ = some (.int .i64 a.kind) := by rw [World.cell?, hq]; rfl
      have d1 : W5.cell? ⟨wr.heap.size, 1, none⟩ = some (.string (S a.name)) := by rw [World.cell?, hq]; rfl
      have d2 : W5.cell? ⟨wr.heap.size, 2, none⟩ = some (.slice bA bn bc) := by rw [World.cell?, hq]; rfl
      have d3 : W5.cell? ⟨wr.heap.size, 3, none⟩ = some (.slice nA nn nc) := by rw [World.cell?, hq]; rfl
      have d4 : W5.cell? ⟨wr.heap.size, 4, none⟩ = some (.int .i64 a.mem) := by rw [World.cell?, hq]; rfl
      have d5 : W5.cell? ⟨wr.heap.size, 5, none⟩ = some (.int .i64 a.fuel) := by rw [World.cell?, hq]; rfl
      have HMB := Lib.hid (HMA.out W5 HB5.out)
      clear hq c0 c1' c2' c3 c4 c5
      cases hm : a.may with
      | false =>
        rw [hm] at HMB
        have HE := Lib.hid (scE_may (c := c) HA.out hm)
        clear hm
        go_wp2_with (go_at_call 36; (with_reducible refine HMB.out.mono ?_); rintro e w6 ⟨rfl, hb⟩; have HB6 := Lib.hid (HBR.out.trans ((HB5.out.trans (hb.mono HB5.out.size)).mono HBR.out.size)); clear hb)
        go_ret2
        exact ⟨HRET0.out 2 HE.out (by omega), HB.out.trans (HB6.out.mono HB.out.size)⟩
      | true =>
        rw [hm] at HMB
        have HM2 : Hid ((l.take (k + 1)).all Ac.may = true) := Lib.hid (by rw [all_may_succ l k a HA.out, HM.out, hm]; rfl)
        clear hm
        go_wp2_with (go_at_call 36; (with_reducible refine HMB.out.mono ?_); rintro e w6 ⟨rfl, hb⟩; have HB6 := Lib.hid (HBR.out.trans ((HB5.out.trans (hb.mono HB5.out.size)).mono HBR.out.size)); clear hb)
        go_roundw
        case rel => exact ⟨k + 1, by omega, by go_num, HM2, HB6⟩
        case measure => simp [intOf]; omega
    · have hall : l.all Ac.may = true := by
        have h := HM.out
        rw [List.take_of_length_le (by rw [HLN.out]; omega)] at h
        exact h
      have HALL := Lib.hid hall
      obtain ⟨k0, k1⟩ := HK.out wr HBR.out
      clear hall HM
      by_cases h4 : 4096 < n
      · have HE : Hid (scE c l = 3) := Lib.hid (by rw [scE_all HCAP.out HALL.out, if_neg (fun e => by have := e.1; rw [HLN.out] at this; omega)])
        go_wp2_with fail
        go_ret2
        exact ⟨HRET0.out 3 HE.out (by omega), HB.out.trans (HBR.out.mono HB.out.size)⟩
      · have h4' : n ≤ 4096 := by omega
        clear h4
        go_upto_region 12 with fail
        have hd9 := heap_alloc_new wr (.cells #[.pointer none, .slice none 0 0] 79)
        have hb9 := HBR.out.alloc HBR.out.size (.cells #[.pointer none, .slice none 0 0] 79)
        have hs9 : (wr.alloc (.cells #[.pointer none, .slice none 0 0] 79)).heap.size = wr.heap.size + 1 := by simp
        have hbw9 : W1.heap.size ≤ wr.heap.size := HBR.out.size
        generalize wr.alloc (.cells #[.pointer none, .slice none 0 0] 79) = W9 at hd9 hb9 hs9 ⊢
        generalize wr.heap.size = b at hd9 hs9 hbw9 ⊢
        have hbd : Bd W9 b (.pointer none) (.slice none 0 0) [] := ⟨hd9, World.ownsRow_nil _ _ _ _, by simp [Value.ownBlock], .inl rfl⟩
        have HBD := Lib.hid hbd
        have HB9 := Lib.hid hb9
        have HBW := Lib.hid hbw9
        obtain ⟨k0, k1⟩ := HK.out W9 hb9
        have HIT : Hid (∀ V : World, Below w.heap.size w V → Calls Tryz.prog 41 #[.int .i64 c] V fun e w' => e = .returned (.string (S (Lib.itoa c))) ∧ Below V.heap.size V w') := Lib.hid fun (V : World) (hV : Below w.heap.size w V) => (Tryz.strconv_Itoa c HCW.out.1 HCW.out.2 V (HT.out.t.below hV)).mono fun e w' ⟨h1, k, os, h2⟩ => ⟨h1, by rw [h2]; exact grow_below _ _ _⟩
        have si : (S (Lib.itoa c)).size ≤ 21 := by rw [S_size]; exact Lib.itoa_length_le c HCW.out.1 HCW.out.2
        have ns : ¬ 9223372036854775807 < 9 + (S (Lib.itoa c)).size := by omega
        have HST : Hid ((⟨#[99, 97, 112, 97, 99, 105, 116, 121, 32]⟩ : ByteArray) ++ S (Lib.itoa c) = S ([99, 97, 112, 97, 99, 105, 116, 121, 32] ++ Lib.itoa c)) := Lib.hid (by rw [S_app]; rfl)
        have HIL : Hid ((Lib.itoa c).length ≤ 21) := Lib.hid (Lib.itoa_length_le c HCW.out.1 HCW.out.2)
        have HP1 : Hid (∀ V, Below W9.heap.size W9 V → Calls Tryz.prog 37 #[.string ((⟨#[99, 97, 112, 97, 99, 105, 116, 121, 32]⟩ : ByteArray) ++ S (Lib.itoa c)), .pointer (some ⟨b, 0, none⟩)] V fun e w' => e = .returned (.bool true) ∧ ∃ p' v', Bd w' b p' v' (scT c (l.take 0)) ∧ Bf b W9 w') := Lib.hid fun V hV => by
          rw [HST.out]
          refine (tput_any (bd_next HBD.out hV) ([99, 97, 112, 97, 99, 105, 116, 121, 32] ++ Lib.itoa c) (by have := HIL.out; simp; omega)).mono ?_
          rintro e w' ⟨rfl, p', v', h1, h2⟩
          refine ⟨ret_bool (by rw [decide_eq_true_eq]; have := HIL.out; simp; omega), p', v', ?_, (Bf.of_below hV (Nat.le_of_lt HBD.out.lt)).trans h2⟩
          have e : scT c (l.take 0) = [] ++ ([99, 97, 112, 97, 99, 105, 116, 121, 32] ++ Lib.itoa c) ++ [10] := by unfold scT; rw [List.take_zero, linesT_nil, capT_eq]; simp
          rw [e]
          exact h1
        have HKB : Hid (∀ V, Bf b W9 V → Below W1.heap.size W1 V) := Lib.hid fun V hV => HB9.out.trans (hV.below.mono HBW.out)
        have HALL2 := Lib.hid HALL.out
        clear hd9 hb9 hs9 hbw9 hbd HALL HBR
        go_wp2_with (first
          | (go_at_call 41; (with_reducible refine (HIT.out _ (HB.out.trans (HB9.out.mono HB.out.size))).mono ?_); rintro e w10 ⟨rfl, hw10⟩; have HB10 : Hid (Below W9.heap.size W9 w10) := Lib.hid hw10; clear hw10)
          | (go_at_call 37; (with_reducible refine (HP1.out _ HB10.out).mono ?_); rintro e w11 ⟨rfl, p11, v11, hb11, hf11⟩; have HD11 := Lib.hid hb11; have HF11 := Lib.hid hf11; clear hb11 hf11))
        clear k0 k1 ns
        go_loopw [8, 9] (fun sv iv wq => ∃ j : Nat, j ≤ n ∧ iv = .int .i64 (j : Int) ∧ sv = .bool (decide ((scT c (l.take j)).length ≤ 4194304)) ∧ Hid (∃ p v, Bd wq b p v (scT c (l.take j))) ∧ Hid (Bf b W9 wq)) (fun _ iv _ => n - (intOf iv).toNat)
        case atStart =>
          refine ⟨0, Nat.zero_le _, rfl, ?_, Lib.hid ⟨_, _, HD11.out⟩, HF11⟩
          have e : (scT c (l.take 0)).length ≤ 4194304 := by unfold scT; rw [List.take_zero, linesT_nil, capT_eq]; have := HIL.out; simp; omega
          rw [decide_eq_true e]
        case round =>
          obtain ⟨j, hj, rfl, rfl, HBJ, HFJ⟩ := hrel
          clear HD11 HF11 HB10
          obtain ⟨k0, k1⟩ := HK.out _ (HKB.out _ HFJ.out)
          have HBJ1 := Lib.hid (HB.out.trans ((HKB.out _ HFJ.out).mono HB.out.size))
          by_cases hsz : (scT c (l.take j)).length ≤ 4194304
          · rw [decide_eq_true hsz]
            have HSZ := Lib.hid hsz
            clear hsz
            by_cases hjn : j < n
            · obtain ⟨x, a, bA, bn, bc, nA, nn, nc, rfl, hx, ha, hc, hat, hkw⟩ := (HS.out.row.below HBJ1.out).at hjn
              obtain ⟨c0, c1', c2', c3, c4, c5⟩ := hc
              have hmay : a.may = true := List.all_eq_true.1 HALL2.out a (List.mem_of_getElem? ha)
              have HTX := Lib.hid (acttext_yes wr a bA bn bc nA nn nc hat hkw hmay (HT.out.below HBJ1.out).t (HT.out.below HBJ1.out).s)
              have HTL := Lib.hid (txt_len hmay hat.hm hat.hf)
              obtain ⟨p, v, hbd⟩ := HBJ.out
              have HBD2 := Lib.hid hbd
              have HSU := Lib.hid (scT_succ c l j a ha)
              clear hat hkw ha hx hmay hbd
              unfold actC at HTX
              have HPU : Hid (∀ V, Below wr.heap.size wr V → Calls Tryz.prog 37 #[.string (S a.txt), .pointer (some ⟨b, 0, none⟩)] V fun e w' => e = .returned (.bool (decide ((scT c (l.take (j + 1))).length ≤ 4194304))) ∧ ∃ p' v', Bd w' b p' v' (scT c (l.take (j + 1))) ∧ Bf b V w') := Lib.hid fun V hV => by
                refine (tput_any (bd_next HBD2.out hV) a.txt (by have := HSZ.out; have := HTL.out; omega)).mono ?_
                rintro e w' ⟨rfl, p', v', h1, h2⟩
                refine ⟨ret_bool (by rw [HSU.out]; simp [Nat.add_assoc]), p', v', ?_, h2⟩
                rw [HSU.out]
                exact h1
              generalize S a.txt = tx at HTX HPU
              go_wp2_with (first
                | (go_at_call 20; (with_reducible refine HTX.out.mono ?_); rintro e w12 ⟨rfl, hb12⟩; have HB12 := Lib.hid hb12; clear hb12)
                | (go_at_call 37; (with_reducible refine (HPU.out _ HB12.out).mono ?_); rintro e w13 ⟨rfl, p13, v13, hb13, hf13⟩; have HD13 := Lib.hid hb13; have HF13 := Lib.hid (HFJ.out.trans ((Bf.of_below HB12.out (Nat.le_of_lt HBD2.out.lt)).trans hf13)); clear hb13 hf13))
              go_roundw
              case rel => exact ⟨j + 1, by omega, by go_num, rfl, Lib.hid ⟨_, _, HD13.out⟩, HF13⟩
              case measure => simp [intOf]; omega
            · have hje : j = n := by omega
              have htk : l.take j = l := List.take_of_length_le (by rw [HLN.out]; omega)
              have HE : Hid (scE c l = 0) := Lib.hid (by rw [scE_all HCAP.out HALL2.out, if_pos ⟨by rw [HLN.out]; exact h4', by have := HSZ.out; rw [htk] at this; exact this⟩])
              have HR : Hid (scR c l = scT c l) := Lib.hid (by unfold scR; rw [if_pos HE.out])
              obtain ⟨p, v, hbd⟩ := HBJ.out
              rw [htk] at hbd
              have HSTR := Lib.hid (string_any hbd)
              clear htk hbd
              go_wp2_with (go_at_call 42; (with_reducible refine HSTR.out.mono ?_); rintro e w14 ⟨rfl, hb14⟩; have HB14 := Lib.hid hb14; clear hb14)
              go_ret2
              exact ⟨HRET.out _ _ HR.out HE.out, HBJ1.out.trans (HB14.out.mono (Nat.le_trans HB.out.size HBW.out))⟩
          · rw [decide_eq_false hsz]
            have HE : Hid (scE c l = 3) := Lib.hid (by
              rw [scE_all HCAP.out HALL2.out, if_neg]
              intro e
              have := scT_le c l j
              omega)
            clear hsz
            go_wp2_with fail
            go_ret2
            exact ⟨HRET0.out 3 HE.out (by omega), HBJ1.out⟩
end Go.Proofs.YtlodoilihminaaaGreatDoor
