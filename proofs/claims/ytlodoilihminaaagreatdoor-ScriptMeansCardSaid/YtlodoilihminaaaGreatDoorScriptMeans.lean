/-
  For every act, script and text: what has a text is read as it by that, and what is taken for a script has that text; whatever the world holds.
-/
import Derived.Test.YtlodoilihminaaaGreatDoorScrZP
import Derived.Test.YtlodoilihminaaaGreatDoorScrZJ
import Derived.Test.YtlodoilihminaaaGreatDoorCards
import Derived.Test.YtlodoilihminaaaGreatDoorTie
import Derived.Deep.DeepHandedRow
import Derived.Lib.LaidTab
import Derived.SevenTiedAt
import Derived.Stop.Joined
namespace Go.Proofs.YtlodoilihminaaaGreatDoor.scriptMeans
open Go.ChangeShapes Go.WideShapes Go.ChangeAt Go.RowKit
open Go.ChangeMaps (open_string shut_string)
set_option linter.unusedVariables false
set_option linter.unusedSimpArgs false
theorem acts_all {w : World} {l : List Ac} {A : Option Addr} {n : Nat} (h : ScRow w l A n) : ∀ a ∈ l, (∀ x ∈ a.bytes, 0 ≤ x ∧ x < 256) ∧ (-9223372036854775808 ≤ a.mem ∧ a.mem ≤ 9223372036854775807) ∧ (-9223372036854775808 ≤ a.fuel ∧ a.fuel ≤ 9223372036854775807) := by
  intro a ha
  obtain ⟨k, hk, rfl⟩ := List.getElem_of_mem ha
  obtain ⟨x', a', bA, bn, bc, nA, nn, nc, -, -, h1, -, h2, -⟩ := h.at (k := k) (by rw [← h.1]; exact hk)
  rw [List.getElem?_eq_getElem hk] at h1
  cases h1
  exact ⟨h2.hbb, h2.hm, h2.hf⟩
theorem scAt_same {w W : World} {c : Int} {l : List Ac} {A : Option Addr} {n cc : Nat} {d : Int} {m : List Ac} (h : ScAt w c l A n cc) (hc : c = d) (hl : l = m) : ScAt w d m A n cc := by subst hc; subst hl; exact h
set_option maxHeartbeats 4000000 in
set_option maxRecDepth 100000 in
theorem walk (a : Ac) (bA : Option Addr) (bn bc : Nat) (nA : Option Addr) (nn nc : Nat) (c : Int) (l : List Ac) (A : Option Addr) (n cc : Nat) (t0 : ByteArray) (w : World) (wa : ActAt w a bA bn bc nA nn nc) (wk : (Lit.int .i64 a.kind).wf = true) (ws : ScAt w c l A n cc) (_ : True) (wt : t0.size ≤ maxLen) (hT : Tb w) :
    Calls Tryz.prog 6 #[.agg (actC a.kind a.name bA bn bc nA nn nc a.mem a.fuel), .agg (scC c A n cc), .string t0] w fun e w' => e = .returned (.bool true) ∧ Below w.heap.size w w' := by
  obtain ⟨t, rfl⟩ : ∃ t, t0 = S t := ⟨t0.data.toList, (S_list t0).symm⟩
  have hsz := S_size t
  have HT := Lib.hid hT
  have HA := Lib.hid wa
  have HS := Lib.hid ws
  have HKW := Lib.hid wk
  have htm : t.length ≤ 9223372036854775807 := by rw [← hsz]; unfold maxLen at wt; omega
  clear hT wa ws wk wt
  unfold actC scC
  go_enter Tryz.func6, Tryz.ntmps6
  go_upto_region 1 with fail
  have hq1 := heap_alloc_new w (.cells #[.int .i64 a.kind, .string (S a.name), .slice bA bn bc, .slice nA nn nc, .int .i64 a.mem, .int .i64 a.fuel] 27)
  have hs1 : (w.alloc (.cells #[.int .i64 a.kind, .string (S a.name), .slice bA bn bc, .slice nA nn nc, .int .i64 a.mem, .int .i64 a.fuel] 27)).heap.size = w.heap.size + 1 := by simp
  have hb1 := sbelow1 w (.cells #[.int .i64 a.kind, .string (S a.name), .slice bA bn bc, .slice nA nn nc, .int .i64 a.mem, .int .i64 a.fuel] 27)
  generalize w.alloc (.cells #[.int .i64 a.kind, .string (S a.name), .slice bA bn bc, .slice nA nn nc, .int .i64 a.mem, .int .i64 a.fuel] 27) = W1 at hq1 hs1 hb1 ⊢
  have hq2 := heap_alloc_new W1 (.cells #[.int .i64 c, .slice A n cc] 38)
  have hb2 := hb1.trans ((sbelow1 W1 (.cells #[.int .i64 c, .slice A n cc] 38)).mono hb1.size)
  have hq3 := (Below.heap_alloc W1 (.cells #[.int .i64 c, .slice A n cc] 38) _ (Array.getElem?_eq_some_iff.1 hq1).1).trans hq1
  generalize W1.alloc (.cells #[.int .i64 c, .slice A n cc] 38) = W2 at hq2 hb2 hq3 ⊢
  rw [hs1] at hq2
  have HQ : Hid (∀ V : World, Below W2.heap.size W2 V → (V.cell? ⟨w.heap.size, 0, none⟩ = some (.int .i64 a.kind) ∧ V.cell? ⟨w.heap.size, 1, none⟩ = some (.string (S a.name)) ∧ V.cell? ⟨w.heap.size, 2, none⟩ = some (.slice bA bn bc) ∧ V.cell? ⟨w.heap.size, 3, none⟩ = some (.slice nA nn nc) ∧ V.cell? ⟨w.heap.size, 4, none⟩ = some (.int .i64 a.mem) ∧ V.cell? ⟨w.heap.size, 5, none⟩ = some (.int .i64 a.fuel)) ∧ (V.cell? ⟨w.heap.size + 1, 0, none⟩ = some (.int .i64 c) ∧ V.cell? ⟨w.heap.size + 1, 1, none⟩ = some (.slice A n cc))) := Lib.hid fun V hV => by
    have h1 := (hV.block _ (Array.getElem?_eq_some_iff.1 hq3).1).trans hq3
    have h2 := (hV.block _ (Array.getElem?_eq_some_iff.1 hq2).1).trans hq2
    refine ⟨⟨?_, ?_, ?_, ?_, ?_, ?_⟩, ?_, ?_⟩ <;> (rw [World.cell?]; first | (rw [h1]; rfl) | (rw [h2]; rfl))
  have HW : Hid (∀ V : World, Below W2.heap.size W2 V → Below w.heap.size w V) := Lib.hid fun V hV => hb2.trans (hV.mono hb2.size)
  have HR := Lib.hid (Below.refl W2.heap.size W2)
  have HK : Hid (∀ V : World, Below W2.heap.size W2 V → Calls Tryz.prog 7 #[] V fun e v => e = .returned (.bool true) ∧ Below W2.heap.size W2 v) := Lib.hid fun V hV =>
    (known_any V (HT.out.below (HW.out V hV))).mono fun e v ⟨h1, h2⟩ => ⟨h1, hV.trans (h2.mono hV.size)⟩
  have HBG : Hid (∀ V : World, Below W2.heap.size W2 V → Calls Tryz.prog 19 #[.agg #[.int .i64 a.kind, .string (S a.name), .slice bA bn bc, .slice nA nn nc, .int .i64 a.mem, .int .i64 a.fuel]] V fun e v => e = .returned (.bool (bigB a)) ∧ Below W2.heap.size W2 v) := Lib.hid fun V hV =>
    (rbig_any V a bA bn bc nA nn nc (HA.out.below (HW.out V hV))).mono fun e v ⟨h1, h2⟩ => ⟨h1, hV.trans (h2.mono hV.size)⟩
  have HMU : Hid (∀ V : World, Below W2.heap.size W2 V → Calls Tryz.prog 12 #[.agg #[.int .i64 c, .slice A n cc]] V fun e v => e = .returned (.bool (muchB l)) ∧ Below W2.heap.size W2 v) := Lib.hid fun V hV =>
    (much_any V c l A n cc (HS.out.below (HW.out V hV))).mono fun e v ⟨h1, h2⟩ => ⟨h1, hV.trans (h2.mono hV.size)⟩
  obtain ⟨ax, ae, hae, HTA⟩ : ∃ ax ae, (ae = 0 ∧ a.may = true ∧ ax = a.txt ∨ ae = 2) ∧ Hid (∀ V : World, Below W2.heap.size W2 V → Calls Tryz.prog 20 #[.agg #[.int .i64 a.kind, .string (S a.name), .slice bA bn bc, .slice nA nn nc, .int .i64 a.mem, .int .i64 a.fuel]] V fun e v => e = .returned (.tuple #[.string (S ax), .int .i64 ae]) ∧ Below W2.heap.size W2 v) := by
    cases hm : a.may with
    | true => exact ⟨a.txt, 0, .inl ⟨rfl, rfl, rfl⟩, Lib.hid fun V hV => (acttext_yes V a bA bn bc nA nn nc (HA.out.below (HW.out V hV)) HKW.out hm (HT.out.below (HW.out V hV)).t (HT.out.below (HW.out V hV)).s).mono fun e v ⟨h1, h2⟩ => ⟨h1, hV.trans (h2.mono hV.size)⟩⟩
    | false => exact ⟨[], 2, .inr rfl, Lib.hid fun V hV => (acttext_no V a bA bn bc nA nn nc (HA.out.below (HW.out V hV)) HKW.out hm).mono fun e v ⟨h1, h2⟩ => ⟨h1, hV.trans (h2.mono hV.size)⟩⟩
  have HAE := Lib.hid hae
  obtain ⟨E, hE⟩ : ∃ E, E = scE c l := ⟨_, rfl⟩
  obtain ⟨tx, htx⟩ : ∃ tx, tx = scR c l := ⟨_, rfl⟩
  have HTX : Hid (∀ V : World, Below W2.heap.size W2 V → Calls Tryz.prog 13 #[.agg #[.int .i64 c, .slice A n cc]] V fun e v => e = .returned (.tuple #[.string (S tx), .int .i64 E]) ∧ Below W2.heap.size W2 v) := Lib.hid fun V hV => by
    rw [hE, htx]
    exact (stext_any V c l A n cc (HS.out.below (HW.out V hV)) (HT.out.below (HW.out V hV))).mono fun e v ⟨h1, h2⟩ => ⟨h1, hV.trans (h2.mono hV.size)⟩
  have HEX := Lib.hid (And.intro hE htx)
  obtain ⟨⟨k0, k1, k2, k3, k4, k5⟩, j0, j1⟩ := HQ.out W2 (Below.refl _ _)
  clear hq1 hs1 hb1 hq2 hb2 hq3 hae hE htx
  go_upto_region 3 with (go_at_call 7; (with_reducible refine (HK.out _ HR.out).mono ?_); rintro e w3 ⟨rfl, hb⟩; have HB3 := Lib.hid hb; clear hb)
  clear k0 k1 k2 k3 k4 k5 j0 j1
  obtain ⟨⟨k0, k1, k2, k3, k4, k5⟩, j0, j1⟩ := HQ.out _ HB3.out
  cases hbg : bigB a with
  | true =>
    rw [hbg] at HBG
    clear hbg
    go_wp2_with (go_at_call 19; (with_reducible refine (HBG.out _ HB3.out).mono ?_); rintro e w4 ⟨rfl, hb⟩; have HB4 := Lib.hid hb; clear hb)
    go_ret
    exact ⟨rfl, HW.out _ HB4.out⟩
  | false =>
  rw [hbg] at HBG
  clear hbg
  cases hmu : muchB l with
  | true =>
    rw [hmu] at HMU
    clear hmu
    go_wp2_with (first
      | (go_at_call 19; (with_reducible refine (HBG.out _ HB3.out).mono ?_); rintro e w4 ⟨rfl, hb⟩; have HB4 := Lib.hid hb; obtain ⟨-, j0, j1⟩ := HQ.out _ hb; clear hb)
      | (go_at_call 12; (with_reducible refine (HMU.out _ HB4.out).mono ?_); rintro e w5 ⟨rfl, hb⟩; have HB5 := Lib.hid hb; clear hb))
    go_ret
    exact ⟨rfl, HW.out _ HB5.out⟩
  | false =>
  rw [hmu] at HMU
  have HMN := Lib.hid hmu
  clear hmu
  by_cases hlong : (20000 : Int) < (t.length : Int)
  · go_wp2_with (first
      | (go_at_call 19; (with_reducible refine (HBG.out _ HB3.out).mono ?_); rintro e w4 ⟨rfl, hb⟩; have HB4 := Lib.hid hb; obtain ⟨-, j0, j1⟩ := HQ.out _ hb; clear hb)
      | (go_at_call 12; (with_reducible refine (HMU.out _ HB4.out).mono ?_); rintro e w5 ⟨rfl, hb⟩; have HB5 := Lib.hid hb; clear hb))
    go_ret
    exact ⟨rfl, HW.out _ HB5.out⟩
  go_upto_region 5 with (first
      | (go_at_call 19; (with_reducible refine (HBG.out _ HB3.out).mono ?_); rintro e w4 ⟨rfl, hb⟩; have HB4 := Lib.hid hb; obtain ⟨-, j0, j1⟩ := HQ.out _ hb; clear hb)
      | (go_at_call 12; (with_reducible refine (HMU.out _ HB4.out).mono ?_); rintro e w5 ⟨rfl, hb⟩; have HB5 := Lib.hid hb; clear hb))
  have htl : t.length ≤ 20000 := by omega
  have HTL := Lib.hid htl
  clear k0 k1 k2 k3 k4 k5 j0 j1 hlong htl htm HBG HMU
  obtain ⟨⟨k0, k1, k2, k3, k4, k5⟩, j0, j1⟩ := HQ.out _ HB5.out
  go_upto_if 41 with (first
    | (go_at_call 20; (with_reducible refine (HTA.out _ HB5.out).mono ?_); rintro e w6 ⟨rfl, hb⟩; have HB6 := Lib.hid hb; clear hb)
    | (go_at_call 11; (with_reducible refine (num_any _ _).mono ?_); rintro e w' ⟨rfl, rfl⟩))
  clear k0 k1 k2 k3 k4 k5 j0 j1
  go_cut [9, 10] from 42 (fun _ _ W => Hid (Below W2.heap.size W2 W))
  case first =>
    rcases HAE.out with ⟨rfl, hm, hx⟩ | rfl
    · have hlen : ax.length ≤ 1000000 := by
        rw [hx]
        have := txt_len hm HA.out.hm HA.out.hf
        omega
      have HAO : Hid (∀ V : World, Below W2.heap.size W2 V → Calls Tryz.prog 8 #[.string (S ax)] V fun e v => ∃ bA' bn' bc' nA' nn' nc', e = .returned (.tuple #[.agg #[.int .i64 a.kind, .string (S a.name), .slice bA' bn' bc', .slice nA' nn' nc', .int .i64 a.mem, .int .i64 a.fuel], .int .i64 0]) ∧ ActAt v a bA' bn' bc' nA' nn' nc' ∧ Below W2.heap.size W2 v) := Lib.hid fun V hV => by
        have hT := HT.out.below (HW.out V hV)
        obtain ⟨hr1, hr2⟩ := rdA_txt hm HA.out.hbb
        rw [← hx] at hr1 hr2
        have h := actOf_any V ax hlen hT.t hT.s hT.m hT.e
        rw [hr1, hr2] at h
        refine h.mono ?_
        rintro e v ⟨bA', bn', bc', nA', nn', nc', rfl, hat, -, -, hb⟩
        exact ⟨bA', bn', bc', nA', nn', nc', rfl, hat, hV.trans (hb.mono hV.size)⟩
      clear hx hm hlen
      go_upto_region 8 with (go_at_call 8; (with_reducible refine (HAO.out _ HB6.out).mono ?_); rintro e w7 ⟨bA', bn', bc', nA', nn', nc', rfl, hat, hb⟩; have HB7 := Lib.hid hb; have HAT := Lib.hid hat; clear hb hat)
      have hq7 := heap_alloc_new w7 (.cells #[.int .i64 a.kind, .string (S a.name), .slice bA' bn' bc', .slice nA' nn' nc', .int .i64 a.mem, .int .i64 a.fuel] 27)
      have hb7 := HB7.out.alloc HB7.out.size (.cells #[.int .i64 a.kind, .string (S a.name), .slice bA' bn' bc', .slice nA' nn' nc', .int .i64 a.mem, .int .i64 a.fuel] 27)
      have hat7 := HAT.out.below (sbelow1 w7 (.cells #[.int .i64 a.kind, .string (S a.name), .slice bA' bn' bc', .slice nA' nn' nc', .int .i64 a.mem, .int .i64 a.fuel] 27))
      generalize w7.alloc (.cells #[.int .i64 a.kind, .string (S a.name), .slice bA' bn' bc', .slice nA' nn' nc', .int .i64 a.mem, .int .i64 a.fuel] 27) = W8 at hq7 hb7 hat7 ⊢
      obtain ⟨⟨k0, k1, k2, k3, k4, k5⟩, -⟩ := HQ.out _ hb7
      have q0 : W8.cell? ⟨w7.heap.size, 0, none⟩ = some (.int .i64 a.kind) := by rw [World.cell?, hq7]; rfl
      have q1 : W8.cell? ⟨w7.heap.size, 1, none⟩ = some (.string (S a.name)) := by rw [World.cell?, hq7]; rfl
      have q2 : W8.cell? ⟨w7.heap.size, 2, none⟩ = some (.slice bA' bn' bc') := by rw [World.cell?, hq7]; rfl
      have q3 : W8.cell? ⟨w7.heap.size, 3, none⟩ = some (.slice nA' nn' nc') := by rw [World.cell?, hq7]; rfl
      have q4 : W8.cell? ⟨w7.heap.size, 4, none⟩ = some (.int .i64 a.mem) := by rw [World.cell?, hq7]; rfl
      have q5 : W8.cell? ⟨w7.heap.size, 5, none⟩ = some (.int .i64 a.fuel) := by rw [World.cell?, hq7]; rfl
      have HSA := Lib.hid (rsameact_any W8 a bA bn bc nA nn nc (HA.out.below (HW.out _ hb7)) a bA' bn' bc' nA' nn' nc' hat7)
      have HB8 := Lib.hid hb7
      rw [sameAB_refl] at HSA
      unfold actC at HSA
      clear hq7 hb7 hat7 HAT
      go_wp2_with (first
        | (go_at_call 11; (with_reducible refine (num_any _ _).mono ?_); rintro e w' ⟨rfl, rfl⟩)
        | (go_at_call 10; (with_reducible refine HSA.out.mono ?_); rintro e w9 ⟨rfl, hb⟩; have HB9 := Lib.hid (HB8.out.trans (hb.mono HB8.out.size)); clear hb))
      go_meet
      case rel => exact HB9
    · go_wp2_with fail
      go_meet
      case rel => exact HB6
  case rest =>
  have HB10 : Hid (Below W2.heap.size W2 wc) := hcut
  clear hcut HAE HTA
  obtain ⟨⟨k0, k1, k2, k3, k4, k5⟩, j0, j1⟩ := HQ.out _ HB10.out
  go_upto_if 63 with (first
    | (go_at_call 13; (with_reducible refine (HTX.out _ HB10.out).mono ?_); rintro e w11 ⟨rfl, hb⟩; have HB11 := Lib.hid hb; clear hb)
    | (go_at_call 11; (with_reducible refine (num_any _ _).mono ?_); rintro e w' ⟨rfl, rfl⟩))
  clear k0 k1 k2 k3 k4 k5 j0 j1 HTX
  go_cut [13, 14, 15] from 64 (fun _ _ _ W => Hid (Below W2.heap.size W2 W))
  case first =>
    by_cases hE0 : E = 0
    rotate_left
    · have hE1 : (E == 0) = false := by simpa using hE0
      clear hE0
      go_wp2_with fail
      go_meet
      case rel => exact HB11
    · subst hE0
      obtain ⟨hE, htx⟩ := HEX.out
      have hall := acts_all HS.out.row
      have htt : tx = scT c l := by rw [htx]; unfold scR; rw [if_pos hE.symm]
      have hlen : tx.length ≤ 300000 := by rw [htt]; exact script_len hE.symm HMN.out fun a ha => (hall a ha).2
      obtain ⟨r1, r2, r3, r4⟩ := scT_reads hE.symm fun a ha => (hall a ha).1
      rw [← htt] at r1 r2 r3 r4
      have HPA : Hid (∀ V : World, Below W2.heap.size W2 V → Calls Tryz.prog 17 #[.string (S tx)] V fun e v => ∃ A3 n3 c3, e = .returned (.tuple #[.agg #[.int .i64 c, .slice A3 n3 c3], .int .i64 0, .int .i64 0]) ∧ ScAt v c l A3 n3 c3 ∧ Below W2.heap.size W2 v) := Lib.hid fun V hV => by
        have h := sparse_any V tx (by omega) (HT.out.below (HW.out V hV))
        rw [r1, r2, r3, r4] at h
        refine h.mono ?_
        rintro e v ⟨A3, n3, c3, rfl, hat, hb⟩
        exact ⟨A3, n3, c3, rfl, hat, hV.trans (hb.mono hV.size)⟩
      clear hall htt hlen r1 r2 r3 r4 hE htx
      go_upto_region 13 with (go_at_call 17; (with_reducible refine (HPA.out _ HB11.out).mono ?_); rintro e w12 ⟨A3, n3, c3, rfl, hat, hb⟩; have HB12 := Lib.hid hb; have HAT := Lib.hid hat; clear hb hat)
      have hq12 := heap_alloc_new w12 (.cells #[.int .i64 c, .slice A3 n3 c3] 38)
      have hb12 := HB12.out.alloc HB12.out.size (.cells #[.int .i64 c, .slice A3 n3 c3] 38)
      have hat12 := HAT.out.below (sbelow1 w12 (.cells #[.int .i64 c, .slice A3 n3 c3] 38))
      have hlt12 : w12.heap.size < (w12.alloc (.cells #[.int .i64 c, .slice A3 n3 c3] 38)).heap.size := by simp
      generalize w12.alloc (.cells #[.int .i64 c, .slice A3 n3 c3] 38) = W13 at hq12 hb12 hat12 hlt12 ⊢
      have HCC : Hid (∀ V : World, Below W13.heap.size W13 V → V.cell? ⟨w.heap.size + 1, 0, none⟩ = some (.int .i64 c) ∧ V.cell? ⟨w.heap.size + 1, 1, none⟩ = some (.slice A n cc) ∧ V.cell? ⟨w12.heap.size, 0, none⟩ = some (.int .i64 c) ∧ V.cell? ⟨w12.heap.size, 1, none⟩ = some (.slice A3 n3 c3)) := Lib.hid fun V hV => by
        obtain ⟨-, k0, k1⟩ := HQ.out V (hb12.trans (hV.mono hb12.size))
        have hq := (hV.block _ hlt12).trans hq12
        refine ⟨k0, k1, ?_, ?_⟩ <;> (rw [World.cell?, hq]; rfl)
      have HS1 : Hid (∀ V : World, Below W13.heap.size W13 V → Calls Tryz.prog 15 #[.agg #[.int .i64 c, .slice A n cc], .agg #[.int .i64 c, .slice A3 n3 c3]] V fun e v => e = .returned (.bool true) ∧ Below W13.heap.size W13 v) := Lib.hid fun V hV => by
        refine (ssame_any V c l A n cc (HS.out.below (HW.out V (hb12.trans (hV.mono hb12.size)))) c l A3 n3 c3 (hat12.below hV)).mono ?_
        rintro e v ⟨rfl, hb⟩
        exact ⟨ret_bool ((sameSB_iff _ _ _ _).2 ⟨rfl, rfl⟩), hV.trans (hb.mono hV.size)⟩
      have HS2 : Hid (∀ V : World, Below W13.heap.size W13 V → Calls Tryz.prog 16 #[.agg #[.int .i64 c, .slice A n cc], .agg #[.int .i64 c, .slice A3 n3 c3]] V fun e v => e = .returned (.bool true) ∧ Below W13.heap.size W13 v) := Lib.hid fun V hV => by
        refine (rsc_any V c l A n cc (HS.out.below (HW.out V (hb12.trans (hV.mono hb12.size)))) c l A3 n3 c3 (hat12.below hV)).mono ?_
        rintro e v ⟨rfl, hb⟩
        exact ⟨ret_bool ((sameSB_iff _ _ _ _).2 ⟨rfl, rfl⟩), hV.trans (hb.mono hV.size)⟩
      have HB13 := Lib.hid hb12
      have HR13 := Lib.hid (Below.refl W13.heap.size W13)
      obtain ⟨k0, k1, m0, m1⟩ := HCC.out _ HR13.out
      clear hq12 hb12 hat12 hlt12 HAT HPA
      go_wp2_with (first
        | (go_at_call 11; (with_reducible refine (num_any _ _).mono ?_); rintro e w' ⟨rfl, rfl⟩)
        | (go_at_call 15; (with_reducible refine (HS1.out _ HR13.out).mono ?_); rintro e w14 ⟨rfl, hb⟩; have HB14 := Lib.hid hb; obtain ⟨k0, k1, m0, m1⟩ := HCC.out _ hb; clear hb)
        | (go_at_call 16; (with_reducible refine (HS2.out _ HB14.out).mono ?_); rintro e w15 ⟨rfl, hb⟩; have HB15 := Lib.hid hb; clear hb))
      go_meet
      case rel => exact Lib.hid (HB13.out.trans (HB15.out.mono HB13.out.size))
  case rest =>
  clear HB3 HB5 HB6 HB10 HB11 HEX HMN
  have HB16 : Hid (Below W2.heap.size W2 wc) := hcut
  clear hcut
  have HP2 : Hid (∀ V : World, Below W2.heap.size W2 V → Calls Tryz.prog 17 #[.string (S t)] V fun e v => ∃ A4 n4 c4, e = .returned (.tuple #[.agg #[.int .i64 (parC t), .slice A4 n4 c4], .int .i64 (parN t), .int .i64 (parX t)]) ∧ ScAt v (parC t) (parL t) A4 n4 c4 ∧ Below W2.heap.size W2 v) := Lib.hid fun V hV => by
    refine (sparse_any V t (by have := HTL.out; omega) (HT.out.below (HW.out V hV))).mono ?_
    rintro e v ⟨A4, n4, c4, rfl, hat, hb⟩
    exact ⟨A4, n4, c4, rfl, hat, hV.trans (hb.mono hV.size)⟩
  have hpx := parX_ok (t := t)
  obtain ⟨px, hpx2⟩ : ∃ px, px = parX t := ⟨_, rfl⟩
  obtain ⟨pn, hpn2⟩ : ∃ pn, pn = parN t := ⟨_, rfl⟩
  obtain ⟨pc, hpc2⟩ : ∃ pc, pc = parC t := ⟨_, rfl⟩
  rw [← hpx2, ← hpn2, ← hpc2] at HP2
  rw [← hpx2] at hpx
  have HPC := Lib.hid hpc2
  clear hpx2 hpn2 hpc2
  go_upto_region 16 with (go_at_call 17; (with_reducible refine (HP2.out _ HB16.out).mono ?_); rintro e w17 ⟨A4, n4, c4, rfl, hat, hb⟩; have HB17 := Lib.hid hb; have HAT := Lib.hid hat; clear hb hat)
  have hq17 := heap_alloc_new w17 (.cells #[.int .i64 pc, .slice A4 n4 c4] 38)
  have hb17 := HB17.out.alloc HB17.out.size (.cells #[.int .i64 pc, .slice A4 n4 c4] 38)
  have hat17 := HAT.out.below (sbelow1 w17 (.cells #[.int .i64 pc, .slice A4 n4 c4] 38))
  generalize w17.alloc (.cells #[.int .i64 pc, .slice A4 n4 c4] 38) = W18 at hq17 hb17 hat17 ⊢
  have m0 : W18.cell? ⟨w17.heap.size, 0, none⟩ = some (.int .i64 pc) := by rw [World.cell?, hq17]; rfl
  have m1 : W18.cell? ⟨w17.heap.size, 1, none⟩ = some (.slice A4 n4 c4) := by rw [World.cell?, hq17]; rfl
  have HB18 := Lib.hid hb17
  have HAT18 := Lib.hid hat17
  clear hq17 hb17 hat17 HAT
  rcases hpx with ⟨rfl, hpe⟩ | rfl
  · obtain ⟨g1, g2⟩ := par_text hpe (by have := HTL.out; omega)
    rw [← HPC.out] at g1 g2
    have HTX : Hid (Calls Tryz.prog 13 #[.agg #[.int .i64 pc, .slice A4 n4 c4]] W18 fun e v => e = .returned (.tuple #[.string (S t), .int .i64 0]) ∧ Below W18.heap.size W18 v) := Lib.hid (by
      have h := stext_any W18 pc (parL t) A4 n4 c4 HAT18.out (HT.out.below (HW.out _ HB18.out))
      rw [g1, g2] at h
      exact h)
    clear g1 g2 hpe
    go_wp2_with (first
      | (go_at_call 11; (with_reducible refine (num_any _ _).mono ?_); rintro e w' ⟨rfl, rfl⟩)
      | (go_at_call 13; (with_reducible refine HTX.out.mono ?_); rintro e w19 ⟨rfl, hb⟩; have HB19 := Lib.hid (HB18.out.trans (hb.mono HB18.out.size)); clear hb))
    go_ret
    exact ⟨rfl, HW.out _ HB19.out⟩
  · go_wp2_with (go_at_call 11; (with_reducible refine (num_any _ _).mono ?_); rintro e w' ⟨rfl, rfl⟩)
    go_ret
    exact ⟨rfl, HW.out _ HB18.out⟩
theorem own : ownKnob Tryz.prog.godebug = none := by kernel_rfl
theorem laidOut : laidOutB Tryz.prog = true := by kernel_rfl
theorem gTab2 : Tryz.prog.globalNamed "internal/strconv.uint64pow10" = some 5 := by kernel_rfl
theorem gTab7 : Tryz.prog.globalNamed "strings.asciiSpace" = some 0 := by kernel_rfl
set_option maxRecDepth 1000000 in
theorem tables {W : World} (h0 : laidMetH Tryz.prog Rows.scriptMeansRow.laid W) (hsh : W.ShapedOpen Tryz.prog) : Tb W := by
  rw [MakeChecks.laidMetH_plain _ _ _ (by kernel_rfl)] at h0
  have h : laidMet Tryz.prog Rows.scriptMeansRow.laid W := h0
  exact ⟨Lib.tabIs_of_head (rest := _) gTab2 (by kernel_rfl) Tryz.underlying156 Tryz.underlying131 (by kernel_rfl) (by kernel_rfl) (laidMet.tail (laidMet.tail h)), Lib.tabIs_of_head (rest := _) gTab7 (by kernel_rfl) Tryz.underlying106 Tryz.underlying5 (by kernel_rfl) (by kernel_rfl) (laidMet.tail (laidMet.tail (laidMet.tail (laidMet.tail (laidMet.tail (laidMet.tail (laidMet.tail h))))))), mx_of hsh, ⟨errS_of (laidMet.tail (laidMet.tail (laidMet.tail (laidMet.tail (laidMet.tail h))))), errR_of (laidMet.tail (laidMet.tail (laidMet.tail (laidMet.tail h))))⟩⟩
set_option maxRecDepth 1000000 in
theorem contract (H : Type) (enc : TypeId × Value → H) (W : World) (base : Nat) (args : Array Value) (ds gs : List (DataW H)) (before : List MemPlace)
    (hval : ∀ (j : Nat) t v, Tryz.f6.params[j]? = some t → args[j]? = some v → Value.okWide Tryz.prog W .any base t v)
    (hW : DataW.Whole enc Tryz.prog Tryz.f6.params.toList Rows.scriptMeansSpec.vars false W args.toList ds gs before) (hL : laidMetH Tryz.prog Rows.scriptMeansRow.laid W) (hsh : W.ShapedOpen Tryz.prog) :
    Calls Tryz.prog 6 args W fun e W' => ∃ v, e = .returned v ∧ Rows.scriptMeansSpec.post enc Tryz.prog Tryz.f6 false true false false W args v W' := by
  have hW' := hW
  obtain ⟨p, q, hA0, hV, rfl, hfz, hnd⟩ := hW
  have hA : DataW.TrodAll enc Tryz.prog W 0 (fun _ => true) true Tryz.f6.params.toList args.toList ds p := hA0
  rw [Tryz.params6] at hA hval
  obtain ⟨v0, vs0, d0, ds0, p0, q0, hargs, rfl, rfl, h0, r0⟩ := trodAll_cons hA
  obtain ⟨v1, vs1, d1, ds1, p1, q1, rfl, rfl, rfl, h1, r1⟩ := trodAll_cons r0
  obtain ⟨v2, vs2, d2, ds2, p2, q2, rfl, rfl, rfl, h2, r2⟩ := trodAll_cons r1
  obtain ⟨rfl, rfl, rfl⟩ := trodAll_nil r2
  obtain rfl : args = #[v0, v1, v2] := by cases args; simp_all
  obtain ⟨rfl, rfl⟩ := trodVars_none hV
  obtain ⟨o0, bA0, bn0, bc0, nA0, nn0, nc0, rfl, w0, u0⟩ := act_of (.inl (hval 0 27 v0 rfl rfl)) h0
  have kk0 := h0
  have lt0 : ∀ x ∈ p0, x.block < W.heap.size := by obtain ⟨m, hm⟩ := kk0; exact DataW.trod_lt m _ _ _ hm
  obtain ⟨o1, l1, a1, n1, c1, rfl, w1, u1⟩ := script_of (.inl (hval 1 38 v1 rfl rfl)) h1
  have kk1 := h1
  have lt1 : ∀ x ∈ p1, x.block < W.heap.size := by obtain ⟨m, hm⟩ := kk1; exact DataW.trod_lt m _ _ _ hm
  obtain ⟨a2, rfl, rfl, rfl, w2⟩ := open_string Tryz.underlying9 (hval 2 9 v2 rfl rfl) h2
  clear hA0
  have hT := tables hL hsh
  refine (walk o0 bA0 bn0 bc0 nA0 nn0 nc0 o1 l1 a1 n1 c1 a2 W w0 u0 w1 u1 w2 hT).mono fun e W' ⟨he, bel⟩ => ?_
  subst he
  exact ⟨_, rfl, _, _, _, [], _, [], hW', trodAll_mk1 (shut_bool Tryz.underlying4 _), (trodAll_cons_mk (Below.trod laidOut (by kernel_rfl) (of_decide_eq_true (by kernel_rfl)) kk0 bel lt0) (trodAll_cons_mk (Below.trod laidOut (by kernel_rfl) (of_decide_eq_true (by kernel_rfl)) kk1 bel lt1) (trodAll_cons_mk (shut_string Tryz.underlying9 w2) trodAll_mk0))), rfl, bel.frame _, fun h => by cases h⟩
theorem witness_shaped {H : Type} {enc : TypeId × Value → H} {C : Checked} {os : Os} {f : FuncId} {fn : Func} {s : OpenSpec} {conds : List PathCond} {apart : Bool} {laid : List (String × DataW Unit)} (modest : Bool) (w0 : World) (args : Array Value) (hos : w0.os = os)
    (hsh : (w0.forCall (fun _ _ => 0) ⟨#[], args, []⟩).Shaped C.prog) (hok : Input.okWideB C.prog (w0.forCall (fun _ _ => 0) ⟨#[], args, []⟩) f ⟨#[], args, []⟩ = true)
    (hrow : s.preRow enc C.prog fn conds apart laid (w0.forCall (fun _ _ => 0) ⟨#[], args, []⟩).memory args) :
    ∃ (w : World) (tape : Tape) (i : Input), w.os = os ∧ (w.forCall tape i).Shaped C.prog ∧ i.vars = [] ∧ Input.okWide C.prog (w.forCall tape i) .any w.heap.size f i ∧
      s.preRow enc C.prog fn conds apart laid (w.forCall tape i).memory i.args ∧ ({ modest := modest } : Assume).holds C.prog (lone (Frame.enter C.prog f i.args .normal) [] (w.forCall tape i)) :=
  ⟨w0, fun _ _ => 0, ⟨#[], args, []⟩, hos, hsh, (Input.okWide_of_okWideB (base := 0) hok).1, (Input.okWide_of_okWideB hok).2, hrow, by
    simp only [Assume.holds]
    exact ⟨by simp, by simp, fun _ => Modest.zero, by simp, by simp⟩⟩
set_option maxRecDepth 1000000 in
theorem laid_met (os : Os) : laidMetH Tryz.prog Rows.scriptMeansRow.laid ((World.laidAll Tryz.prog os Rows.scriptMeansRow.laid).forCall (fun _ _ => 0) ⟨#[], #[.agg #[.int .i64 0, .string .empty, .slice none 0 0, .slice none 0 0, .int .i64 0, .int .i64 0], .agg #[.int .i64 0, .slice none 0 0], .string .empty], []⟩).memory := by
  rw [MakeChecks.laidMetH_plain _ _ _ (by kernel_rfl)]
  exact laidMet_laidAll _ (by kernel_rfl) (by kernel_rfl)
set_option maxRecDepth 1000000 in
theorem reads (os : Os) {H : Type} (enc : TypeId × Value → H) : ∃ places, DataW.whole enc Tryz.prog ((World.laidAll Tryz.prog os Rows.scriptMeansRow.laid).forCall (fun _ _ => 0) ⟨#[], #[.agg #[.int .i64 0, .string .empty, .slice none 0 0, .slice none 0 0, .int .i64 0, .int .i64 0], .agg #[.int .i64 0, .slice none 0 0], .string .empty], []⟩).memory Tryz.f6.params.toList Rows.scriptMeansSpec.vars false (#[.agg #[.int .i64 0, .string .empty, .slice none 0 0, .slice none 0 0, .int .i64 0, .int .i64 0], .agg #[.int .i64 0, .slice none 0 0], .string .empty] : Array Value).toList 8 = some ([.agg [.lit (.int .i64 0), .lit (.string []), .nil, .nil, .lit (.int .i64 0), .lit (.int .i64 0)], .agg [.lit (.int .i64 0), .nil], .lit (.string [])], [], places) := ⟨[], by kernel_rfl⟩
set_option maxRecDepth 1000000 in
theorem lifted (os : Os) (started : os.Started) (H : Type) (enc : TypeId × Value → H) (F : Stop.Interp) :
    ReturnsInHanded {} Tryz.checked os 6 .any ((OpenSpec.ofChange Rows.scriptMeansSpec).preRow enc Tryz.prog Tryz.f6 Rows.scriptMeansRow.domain false Rows.scriptMeansRow.laid) (((OpenSpec.ofChange Rows.scriptMeansSpec).at F).post enc Tryz.prog Tryz.f6 false true false false) := by
  obtain ⟨places, hx⟩ := reads os enc
  refine returnsInHanded_of_row (C := Tryz.checked) (s := OpenSpec.ofChange Rows.scriptMeansSpec) own started (by kernel_rfl) Tryz.func6
    (witness_shaped (enc := enc) (C := Tryz.checked) false (World.laidAll Tryz.prog os Rows.scriptMeansRow.laid) #[.agg #[.int .i64 0, .string .empty, .slice none 0 0, .slice none 0 0, .int .i64 0, .int .i64 0], .agg #[.int .i64 0, .slice none 0 0], .string .empty] (World.laidAll_os _ _ _) (World.shaped_of_ZipB (by kernel_rfl) (by kernel_rfl)) (by kernel_rfl)
      (OpenSpec.preRow_of_cond 8 hx (by kernel_rfl) (fun k hk => by cases hk) (by kernel_rfl) (laid_met os))) ?_
  intro W base args ds gs before hval hW _ _ _ hL hsh _
  exact contract H enc W base args ds gs before hval hW hL hsh
theorem said : Rows.ScriptMeansSaid :=
  OpenClaim.holds_of_cond 6 Tryz.f6 rfl rfl rfl rfl rfl rfl rfl ⟨rfl, rfl, rfl, rfl, rfl⟩ rfl rfl rfl rfl rfl (by kernel_rfl) Tryz.func6 (by kernel_rfl)
    (of_decide_eq_true (by kernel_rfl)) (by unfold Func.isWrapper; first | (rw [if_pos (by decide +kernel)]; kernel_rfl) | (rw [if_neg (by decide +kernel)]; exact ⟨rfl, rfl⟩))
    (fun os started H enc _ F => by rw [OpenClaim.pre_eq_preRow]; exact lifted os started H enc F)
theorem plain (f : FuncId) (fn : Func) (hf : Tryz.pinned.checked.prog.funcNamed "selfsame/selfsamelaw25.ScriptMeans" = some f) (hfn : Tryz.pinned.checked.prog.funcs[f]? = some fn) :
    true = Tryz.pinned.checked.prog.looks [] ∧ ∀ (j : Nat) t, fn.params[j]? = some t → Tryz.pinned.checked.prog.wantsStandIn t = false := by
  obtain rfl : f = 6 := Option.some.inj ((show Tryz.prog.funcNamed "selfsame/selfsamelaw25.ScriptMeans" = some 6 by kernel_rfl).symm.trans hf) |>.symm
  obtain rfl : fn = Tryz.f6 := (Option.some.inj (Tryz.func6.symm.trans hfn)).symm
  refine ⟨by kernel_rfl, fun j t ht => ?_⟩
  rw [Tryz.params6] at ht
  have hm := Array.mem_of_getElem? ht
  simp only [List.mem_toArray, List.mem_cons, List.not_mem_nil, or_false] at hm
  rcases hm with rfl | rfl | rfl
  · exact (show Tryz.prog.wantsStandIn 27 = false by kernel_rfl)
  · exact (show Tryz.prog.wantsStandIn 38 = false by kernel_rfl)
  · exact (show Tryz.prog.wantsStandIn 9 = false by kernel_rfl)
theorem proved : Rows.ScriptMeansCardSaid :=
  Claim7.holds_tied_plain_at .later [] _ _ _ _ said (fun _ h => by cases h) (by kernel_rfl) (fun _ h => by cases h) scriptMeans_row_tie rfl ⟨rfl, rfl⟩ (by kernel_rfl) rfl plain (by kernel_rfl)
end Go.Proofs.YtlodoilihminaaaGreatDoor.scriptMeans
