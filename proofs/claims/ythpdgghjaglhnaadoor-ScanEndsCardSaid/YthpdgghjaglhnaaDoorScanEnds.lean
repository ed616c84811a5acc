/-
  ScanEnds: behind as many Gets as the source has bytes, and one, the symbol is the end; places rise; blanks and comments between symbols do not matter. No condition but the laid tables'.
-/
import Derived.Test.YthpdgghjaglhnaaDoorSnX
import Derived.Test.YthpdgghjaglhnaaDoorRows
import Derived.Test.YthpdgghjaglhnaaDoorCards
import Derived.Test.YthpdgghjaglhnaaDoorTie
import Derived.Deep.DeepHandedRow
import Derived.Stop.LaidErr
import Derived.WalkKit
import Derived.ProofKit
import Derived.OpenShut
import Derived.LaidMore
import Derived.Lay
import Derived.SevenTiedAt
import Derived.Stop.Joined
namespace Go.Proofs.YthpdgghjaglhnaaDoor.scanEnds
open Go.ChangeShapes Go.WideShapes Go.ChangeAt Go.RowKit
open Ev (WRow)
set_option linter.unusedVariables false
set_option linter.unusedSimpArgs false
structure Tab (w : World) : Prop where
  space : Lib.TabIs Tryd.prog w "strings.asciiSpace" .u8 spaceTab
  pow : Lib.TabIs Tryd.prog w "internal/strconv.uint64pow10" .u64 Lib.pow10Tab
theorem infoY : (Tryd.prog.info? 29).map (fun i => (i.zero, i.size, i.bytes)) = some (some (.agg #[.int .i64 0, .int .i64 0, .int .i32 0, .int .i64 0, .string (bs [])]), 5, 48) := by kernel_rfl
section
variable {w wr : World} {q : Sp} {s : Sn} {v : Value} {n : Nat} {xs : List Value}
theorem l1_get (h : L1 w wr q s v n xs) (hkw : s.kw = 29) (hT : ∀ V, Below w.heap.size w V → SpTab V ∧ Proofs.YthpdgghjaglhnaaDoor.Tab V) {p : Nat} (hp : q.p = p) : Calls Tryd.prog 10 #[.pointer (some ⟨p, 0, none⟩)] wr fun e w' => e = .returned (.tuple #[]) ∧ ∃ q', q'.p = p ∧ L1 w w' q' (getF s) v n xs := by
  subst hp
  exact (get_any h.sn h.b.size (by rw [hkw]; exact Int.le_refl _) (fun V hV => (hT V (h.b.trans hV)).2)).mono fun e w' ⟨he, q', hs, hf⟩ => ⟨he, q', hf.p, h.wrote hs hf⟩
theorem l1_sym (h : L1 w wr q s v n xs) {p : Nat} (hp : q.p = p) : Calls Tryd.prog 12 #[.pointer (some ⟨p, 0, none⟩)] wr fun e w' => e = .returned (.agg #[.int .i64 s.sym, .int .i64 s.pos, .int .i32 s.val, .int .i64 s.id, .string s.txt]) ∧ L1 w w' q s v n xs := by
  subst hp
  exact (symbol_any h.sn).mono fun e w' ⟨he, hb⟩ => ⟨he, h.next hb⟩
theorem l1_err (h : L1 w wr q s v n xs) {p : Nat} (hp : q.p = p) : Calls Tryd.prog 11 #[.pointer (some ⟨p, 0, none⟩)] wr fun e w' => e = .returned (.tuple #[.int .i64 s.code, .int .i64 s.epos]) ∧ L1 w w' q s v n xs := by
  subst hp
  exact (snerr_any h.sn).mono fun e w' ⟨he, hb⟩ => ⟨he, h.next hb⟩
end
theorem field_0 (a b c : Int) (d : Int) (e : ByteArray) (V : World) : (Instr.field 29 (.agg #[.int .i64 a, .int .i64 b, .int .i32 c, .int .i64 d, .string e]) 0).run Tryd.prog V = .ok (.int .i64 a) V := by kernel_rfl
set_option maxHeartbeats 8000000 in
set_option maxRecDepth 100000 in
theorem walk (a0 : Option Addr) (len0 cap0 : Nat) (z0 : List Int) (w : World) (w0 : IsRow .u8 w a0 len0 cap0 z0) (hT : Tab w) :
    Calls Tryd.prog 5 #[.slice a0 len0 cap0] w fun e w' => e = .returned (.bool true) ∧ Below w.heap.size w w' := by
  have hl0 : len0 ≤ maxLen := Nat.le_trans w0.2.1 w0.2.2.1
  have hcap := w0.2.1
  have HSP : SpTab w := ⟨hT.space⟩
  have HTT : Hid (∀ V, Below w.heap.size w V → SpTab V ∧ Proofs.YthpdgghjaglhnaaDoor.Tab V) := Lib.hid fun V hV => ⟨HSP.stab fun k hk => hV.block k (Nat.lt_of_lt_of_le hk (tab_base HSP (fun _ => 0) (fun _ => false) (fun _ => []) (fun _ => Nat.zero_le _)).2), Proofs.YthpdgghjaglhnaaDoor.Tab.below (w := w) hT.pow hV⟩
  have KN : Hid (∀ W, Below w.heap.size w W → Calls Tryd.prog 8 #[] W fun e w' => e = .returned (.bool true) ∧ Below W.heap.size W w') := Lib.hid fun W hW => known11 W (HTT.out W hW).1
  have HRD : Hid (Rd w w.heap.size .u8 a0 len0 z0) := Lib.hid w0.2.2.2.2
  have HBY : Hid (∀ x ∈ z0, 0 ≤ x ∧ x < 256) := Lib.hid (fun x hx => by have := bd_u8 (w0.2.2.2.1 x hx); omega)
  clear hT HSP w0
  have hml := hl0
  unfold maxLen at hl0
  by_cases hm : len0 ≤ 2000
  rotate_left
  · go_enter Tryd.func5, Tryd.ntmps5
    go_wp2_with (go_at_call 8; (refine (KN.out _ (Below.refl _ _)).mono ?_); rintro e w' ⟨rfl, hb⟩)
    go_ret
    exact ⟨rfl, hb⟩
  · have hzl : z0.length = len0 := HRD.out.1
    have HNEW := Lib.hid (new_any w a0 len0 cap0 z0 HRD.out hml HBY.out HTT.out)
    obtain ⟨u, hu⟩ : ∃ u, u = ({ wsF 57 29 with src := z0 } : Sn) := ⟨_, rfl⟩
    have hnf : newF z0 = stp u 1 := by
      unfold newF
      rw [if_neg (by omega), ← hu]
      rfl
    have HA0 : Hid (At0 u u 0) := Lib.hid (by subst hu; exact ⟨rfl, Nat.zero_le _, (by decide : (0 : Int) ≤ 29), rfl, Nat.le_refl _⟩)
    have HUS : Hid (u.src = z0) := Lib.hid (by rw [hu])
    have HKW : Hid (∀ i, (stp u i).kw = 29) := Lib.hid fun i => by
      induction i with
      | zero => rw [hu]; rfl
      | succ i ih => show (getF _).kw = 29; rw [get_kw]; exact ih
    have HU := Lib.hid hu
    rw [hnf] at HNEW
    clear hu hnf
    have hul : u.src.length = len0 := by rw [HUS.out]; exact hzl
    have HRI := Lib.hid (rise HA0.out)
    rw [hul] at HRI
    have HUL := Lib.hid hul
    obtain ⟨i0, e1, e2⟩ := Option.map_eq_some_iff.1 infoY
    have hi0 := e1
    have hz0 := (Prod.mk.inj e2).1
    have hz1 := (Prod.mk.inj (Prod.mk.inj e2).2).1
    have hz2 := (Prod.mk.inj (Prod.mk.inj e2).2).2
    clear e1 e2 hul hzl
    have f0 := field_0
    go_enter Tryd.func5, Tryd.ntmps5
    go_wp2_with (go_at_call 9; (refine HNEW.out.mono ?_); rintro e w1 ⟨q, rfl, hs, hb⟩; have HS : Hid (L1 w w1 q (stp u 1) (.slice none 0 0) 0 (rowL u 0)) := Lib.hid ⟨hb, hs, ⟨rfl, .inl ⟨rfl, rfl⟩⟩, fun k hk => by simp [Value.ownBlock] at hk⟩; clear hs hb)
    clear HNEW
    go_loopw [4, 5, 6] (fun av lv iv wr => ∃ (i : Nat) (q' : Sp), iv = .int .i64 (i : Int) ∧ i ≤ len0 ∧ lv = .int .i64 (lastP u i) ∧ q'.p = q.p ∧ (∀ j, j < i → (stp u (j + 1)).sym ≠ 0) ∧ Hid (L1 w wr q' (stp u (i + 1)) av i (rowL u i))) (fun _ _ iv _ => len0 + 1 - (intOf iv).toNat)
    case atStart => exact ⟨0, q, rfl, by omega, rfl, rfl, fun j hj => absurd hj (Nat.not_lt_zero _), HS⟩
    case round =>
      clear HS
      obtain ⟨i, q', rfl, hi, rfl, hqp, hj, HS⟩ := hrel
      obtain ⟨p', sv, nv, ib, gb⟩ := q'
      obtain rfl : p' = q.p := hqp
      have HJ := Lib.hid hj
      clear hj
      obtain ⟨s, hs⟩ : ∃ s, s = stp u (i + 1) := ⟨_, rfl⟩
      have HRI2 := Lib.hid (HRI.out i HJ.out)
      have hkw := HKW.out (i + 1)
      rw [← hs] at HS HRI2 hkw
      have HSS := Lib.hid hs
      have HKS := Lib.hid hkw
      clear hs hkw HRI
      by_cases hy : s.sym = 0
      rotate_left
      · have hy2 : (s.sym != 0) = true := by simpa using hy
        obtain ⟨r1, r2, r3, r4⟩ := HRI2.out hy
        obtain ⟨la, hla⟩ : ∃ la, la = lastP u i := ⟨_, rfl⟩
        rw [← hla] at r1 ⊢
        have HNY := Lib.hid hy
        clear hla hy HRI2
        go_upto_region 9 with (go_at_call 12; (with_reducible refine (l1_sym HS.out rfl).mono ?_); rintro e w2 ⟨rfl, hs⟩; replace HS := Lib.hid hs; clear hs)
        go_upto_region 13 with (go_at_call 12; (with_reducible refine (l1_sym HS.out rfl).mono ?_); rintro e w3 ⟨rfl, hs⟩; replace HS := Lib.hid hs; clear hs)
        have hrow : rowL u (i + 1) = rowL u i ++ [.int .i64 s.sym, .int .i64 s.pos, .int .i32 s.val, .int .i64 s.id, .string s.txt] := by rw [HSS.out]; rfl
        have HROW := Lib.hid hrow
        have HS4 := Lib.hid (HS.out.next ((Below.refl _ _).alloc (Nat.le_refl _) (.cells #[.int .i64 s.sym, .int .i64 s.pos, .int .i32 s.val, .int .i64 s.id, .string s.txt] 29)))
        have HC4 : Hid (World.rangeAt (w3.alloc (.cells #[.int .i64 s.sym, .int .i64 s.pos, .int .i32 s.val, .int .i64 s.id, .string s.txt] 29)) w3.heap.size 0 [.int .i64 s.sym, .int .i64 s.pos, .int .i32 s.val, .int .i64 s.id, .string s.txt]) := Lib.hid (fun j x hj => by
          have := World.news_of_block (heap_alloc_new w3 (.cells #[.int .i64 s.sym, .int .i64 s.pos, .int .i32 s.val, .int .i64 s.id, .string s.txt] 29)) j x hj
          rw [Ev.add_at, Nat.zero_add] at this
          rw [Nat.zero_add]
          exact this)
        have HL := Lib.hid (show (Tryd.prog.info? 29).map (·.size) = some [.int .i64 s.sym, .int .i64 s.pos, .int .i32 s.val, .int .i64 s.id, .string s.txt].length from sym_len s)
        have H3 : Hid (∀ x ∈ ([.int .i64 s.sym, .int .i64 s.pos, .int .i32 s.val, .int .i64 s.id, .string s.txt] : List Value), x.oneCell' = true) := Lib.hid (by simp [Value.oneCell'])
        have hl4 : w3.heap.size < (w3.alloc (.cells #[.int .i64 s.sym, .int .i64 s.pos, .int .i32 s.val, .int .i64 s.id, .string s.txt] 29)).heap.size := by simp
        clear hrow r1 r2 r3 HS
        generalize w3.alloc (.cells #[.int .i64 s.sym, .int .i64 s.pos, .int .i32 s.val, .int .i64 s.id, .string s.txt] 29) = W4 at *
        have HS5 := Lib.hid (HS4.out.next ((Below.refl _ _).alloc (Nat.le_refl _) (.cells #[.int .i64 s.sym, .int .i64 s.pos, .int .i32 s.val, .int .i64 s.id, .string s.txt] 29)))
        have HNW := Lib.hid (World.news_of_block (heap_alloc_new W4 (.cells #[.int .i64 s.sym, .int .i64 s.pos, .int .i32 s.val, .int .i64 s.id, .string s.txt] 29)))
        have hb5 : w.heap.size ≤ (W4.alloc (.cells #[.int .i64 s.sym, .int .i64 s.pos, .int .i32 s.val, .int .i64 s.id, .string s.txt] 29)).heap.size := HS5.out.b.size
        have HB5 := Lib.hid hb5
        clear hb5
        go_upto_region 14 with (first
          | (with_reducible refine wpList_load_mid rfl 29 _ rfl w3.heap.size 0 rfl [.int .i64 s.sym, .int .i64 s.pos, .int .i32 s.val, .int .i64 s.id, .string s.txt] _ HC4.out Tryd.underlying29 rfl HL.out ?_)
          | (at_builtin; refine Ev.wpList_append_w rfl (.tmp 49) (.tmp 51) 39 39 rfl 29 i0 _ 48 Tryd.underlying39 Tryd.underlying39 hi0 hz0 hz1 hz2 rfl rfl HS5.out.r ⟨W4.heap.size, 0, none⟩ 1 1 [.int .i64 s.sym, .int .i64 s.pos, .int .i32 s.val, .int .i64 s.id, .string s.txt] rfl rfl HNW.out H3.out (by omega) (by omega) (by omega) HB5.out _ rfl ?_; intro g f cap w6 hown hgrow hat hlt2; have HS6 := Lib.hid (HS5.out.grew hown hgrow hat); clear hown hgrow hat))
        go_wp2_with (go_at_call 10; (with_reducible refine (l1_get HS6.out HKS.out HTT.out rfl).mono ?_); rintro e w7 ⟨rfl, q7, hp7, hs⟩; rw [← HROW.out] at hs; have HS7 := Lib.hid hs; clear hs)
        have HS8 := HS7.out
        rw [HSS.out] at HS8
        exact ⟨⟨i + 1, q7, by simp, by omega, by rw [HSS.out]; rfl, hp7, fun j hlt => by
          by_cases h : j < i
          · exact HJ.out j h
          · obtain rfl : j = i := by omega
            rw [← HSS.out]; exact HNY.out, Lib.hid HS8⟩, by simp [intOf]; try omega⟩
      · have hy2 : (s.sym != 0) = false := by simpa using hy
        clear HRI2
        by_cases hc : s.code = 0
        rotate_left
        · have hc2 : (s.code != 0) = true := by simpa using hc
          clear hc hy
          go_wp2_with (first
            | (go_at_call 12; (with_reducible refine (l1_sym HS.out rfl).mono ?_); rintro e w2 ⟨rfl, hs⟩; replace HS := Lib.hid hs; clear hs)
            | (go_at_call 11; (with_reducible refine (l1_err HS.out rfl).mono ?_); rintro e w2 ⟨rfl, hs⟩; replace HS := Lib.hid hs; clear hs)
            | (go_at_call 8; (refine (KN.out _ HS.out.b).mono ?_); rintro e w9 ⟨rfl, hb⟩; have HBB := Lib.hid (HS.out.b.trans (hb.mono HS.out.b.size)); clear hb))
          go_ret
          exact ⟨rfl, HBB.out⟩
        · have hc2 : (s.code != 0) = false := by simpa using hc
          have HRUN := Lib.hid (runs_stp HA0.out i HJ.out (by rw [← HSS.out]; exact hc) (by rw [← HSS.out]; exact hy))
          clear hc hy
          go_wp2_with (first
            | (go_at_call 12; (with_reducible refine (l1_sym HS.out rfl).mono ?_); rintro e w2 ⟨rfl, hs⟩; replace HS := Lib.hid hs; clear hs)
            | (go_at_call 11; (with_reducible refine (l1_err HS.out rfl).mono ?_); rintro e w2 ⟨rfl, hs⟩; replace HS := Lib.hid hs; clear hs))
          obtain ⟨A, c, hav, hall⟩ := all_form HS.out
          subst hav
          have HALL := Lib.hid hall
          have HBW := Lib.hid HS.out.b
          clear hall
          obtain ⟨T, hT⟩ : ∃ T, T = spr i (stp u 1) := ⟨_, rfl⟩
          have HTD := Lib.hid hT
          have HTL : Hid (T.length ≤ 17 * i + len0) := Lib.hid (by
            have := spr_len i u (HRUN.out i 0 (by omega)) HA0.out.c HA0.out.a HA0.out.k
            have e : spr i (getF u) = T := hT.symm
            rw [e, HUL.out] at this
            omega)
          have HTP := Lib.hid (two_pos HA0.out i HJ.out HRUN.out)
          rw [HUL.out, HUS.out] at HTP
          obtain ⟨ib, hib, hbz, hb1, hb2⟩ := info_parts infoB0
          have hbw : w.heap.size ≤ w2.heap.size := HBW.out.size
          clear hT HSS HS HKS
          go_loopw [10, 11] (fun bv iv wr => ∃ (j : Nat) (bl : List Int), iv = .int .i64 (j : Int) ∧ j ≤ i ∧ Hid (bl ++ spr (i - j) (stp u (j + 1)) = T) ∧ Hid (wr.ownsRow w2.heap.size 5 1 bv bl.length (valsOf .u8 bl)) ∧ Hid (Below w2.heap.size w2 wr)) (fun _ iv _ => i - (intOf iv).toNat)
          case atStart => exact ⟨0, [], rfl, Nat.zero_le _, Lib.hid HTD.out.symm, Lib.hid (World.ownsRow_nil _ _ _ _), Lib.hid (Below.refl _ _)⟩
          case round =>
            obtain ⟨j, bl, rfl, hj, HBL, HOW, HBE⟩ := hrel
            by_cases hlt : j < i
            · obtain ⟨g, f, rfl, hg, hcell⟩ := HALL.out j hlt
              obtain ⟨p, p2, hp, hp2, hpp, hpl, hend, hspr⟩ := HTP.out j hlt
              have hbl : bl.length ≤ 17 * i + len0 := by
                have := congrArg List.length HBL.out
                have h2 := HTL.out
                simp at this
                omega
              have HCE : Hid (∀ V, Below w2.heap.size w2 V → V.cell? ⟨g, f + j * 5 + 1, none⟩ = some (.int .i64 (p : Int))) := Lib.hid fun V hV => by
                rw [hV.cell (show g < w2.heap.size from hg), (sym_cells hcell).2.1, hp]
              have c1 := HCE.out _ HBE.out
              have HSPR : Hid (T = (bl ++ (gapC ++ (z0.drop p).take (p2 - p))) ++ spr (i - (j + 1)) (stp u (j + 2))) := Lib.hid (by
                rw [← HBL.out, show i - j = (i - (j + 1)) + 1 by omega, hspr]
                simp only [List.append_assoc])
              obtain ⟨A2, hA2⟩ : ∃ A2, (if cap0 = p then a0 else a0.map (·.add p)) = A2 := ⟨_, rfl⟩
              have hsl := fun W => sub_run a0 len0 cap0 p p2 hpp hpl hcap W A2 hA2
              have hrs := Rd.sub HRD.out (lo := p) (hi := p2) (c := cap0) hpp hpl hcap
              rw [hA2] at hrs
              have HRS := Lib.hid hrs
              have HP2 := Lib.hid hp2
              have HEND := Lib.hid hend
              have hjj : j + 1 < i ∨ (i ≤ j + 1 ∧ p2 ≤ len0 ∧ len0 ≤ p2) := by
                by_cases h : j + 1 < i
                · exact .inl h
                · have := hend (by omega)
                  exact .inr ⟨by omega, by omega, by omega⟩
              clear hp hp2 hend hspr hA2 hrs hcell
              rcases hjj with hjj | ⟨hjj, hl1, hl2⟩
              · have c2 : wr.cell? ⟨g, f + (j + 1) * 5 + 1, none⟩ = some (.int .i64 (p2 : Int)) := by
                  obtain ⟨g', f', e, hg', hcell'⟩ := HALL.out (j + 1) hjj
                  obtain ⟨rfl, rfl⟩ : g = g' ∧ f = f' := by injection e with e; injection e with e1 e2; exact ⟨e1, e2⟩
                  rw [HBE.out.cell (show g < w2.heap.size from hg), (sym_cells hcell').2.1, HP2.out]
                clear HP2 HEND
                go_upto_region 27 with (fail)
                have hb6 : bl.length ≤ 1000000 := by omega
                have hb7 : (bl ++ gapC).length ≤ 1000000 := by rw [List.length_append]; show bl.length + 17 ≤ _; omega
                have hb8 : p2 - p ≤ 1000000 := by omega
                have HOD : Hid (wr.drew.ownsRow w2.heap.size 5 1 _ bl.length (valsOf .u8 bl)) := Lib.hid HOW.out.drew
                have HBD : Hid (Below w2.heap.size w2 wr.drew) := Lib.hid HBE.out.drew
                have c1d := HCE.out _ HBD.out
                clear hjj
                go_region_law (first
                  | (refine step_append_gap (by rfl) _ _ 22 9 (by rfl) w2.heap.size 5 ib Tryd.underlying22 Tryd.underlying9 hib hbz hb1 hb2 _ bl (by kernel_rfl) HOD.out (by kernel_rfl) hb6 HBD.out.size ?_; intro v3 w3 ho hg3; have HO3 := Lib.hid ho; have HB3 : Hid (Below w2.heap.size w2 w3) := Lib.hid (HBD.out.grown hg3 HBD.out.size (fun z e => (HOD.out.lt z e).1)); have c3 := HCE.out _ HB3.out; clear ho hg3)
                  | (refine step_append_piece (by rfl) _ _ 22 (by rfl) w2.heap.size 5 ib Tryd.underlying22 hib hbz hb1 hb2 _ (bl ++ gapC) (by kernel_rfl) HO3.out _ A2 (p2 - p) (cap0 - p) _ (by kernel_rfl) (HRS.out.below (HBW.out.trans (HB3.out.mono hbw))) hb7 hb8 HB3.out.size ?_; intro v4 w4 ho hg4; have HO4 := Lib.hid ho; have HB4 : Hid (Below w2.heap.size w2 w4) := Lib.hid (HB3.out.grown hg4 HB3.out.size (fun z e => (HO3.out.lt z e).1)); clear ho hg4))
                all_goals
                  go_wp2_with fail
                  exact ⟨⟨j + 1, bl ++ gapC ++ (z0.drop p).take (p2 - p), by simp, by omega, Lib.hid (by have := HSPR.out; rw [← List.append_assoc] at this; exact this.symm), HO4, HB4⟩, by simp [intOf]; try omega⟩
              · obtain rfl : p2 = len0 := by omega
                clear HP2 HEND
                go_upto_region 27 with (fail)
                have hb6 : bl.length ≤ 1000000 := by omega
                have hb7 : (bl ++ gapC).length ≤ 1000000 := by rw [List.length_append]; show bl.length + 17 ≤ _; omega
                have hb8 : p2 - p ≤ 1000000 := by omega
                have HOD : Hid (wr.drew.ownsRow w2.heap.size 5 1 _ bl.length (valsOf .u8 bl)) := Lib.hid HOW.out.drew
                have HBD : Hid (Below w2.heap.size w2 wr.drew) := Lib.hid HBE.out.drew
                have c1d := HCE.out _ HBD.out
                clear hl1 hl2
                go_region_law (first
                  | (refine step_append_gap (by rfl) _ _ 22 9 (by rfl) w2.heap.size 5 ib Tryd.underlying22 Tryd.underlying9 hib hbz hb1 hb2 _ bl (by kernel_rfl) HOD.out (by kernel_rfl) hb6 HBD.out.size ?_; intro v3 w3 ho hg3; have HO3 := Lib.hid ho; have HB3 : Hid (Below w2.heap.size w2 w3) := Lib.hid (HBD.out.grown hg3 HBD.out.size (fun z e => (HOD.out.lt z e).1)); have c3 := HCE.out _ HB3.out; clear ho hg3)
                  | (refine step_append_piece (by rfl) _ _ 22 (by rfl) w2.heap.size 5 ib Tryd.underlying22 hib hbz hb1 hb2 _ (bl ++ gapC) (by kernel_rfl) HO3.out _ A2 (p2 - p) (cap0 - p) _ (by kernel_rfl) (HRS.out.below (HBW.out.trans (HB3.out.mono hbw))) hb7 hb8 HB3.out.size ?_; intro v4 w4 ho hg4; have HO4 := Lib.hid ho; have HB4 : Hid (Below w2.heap.size w2 w4) := Lib.hid (HB3.out.grown hg4 HB3.out.size (fun z e => (HO3.out.lt z e).1)); clear ho hg4))
                all_goals
                  go_wp2_with fail
                  exact ⟨⟨j + 1, bl ++ gapC ++ (z0.drop p).take (p2 - p), by simp, by omega, Lib.hid (by have := HSPR.out; rw [← List.append_assoc] at this; exact this.symm), HO4, HB4⟩, by simp [intOf]; try omega⟩
            · obtain rfl : j = i := by omega
              have hTB : bl = T := by
                have := HBL.out
                rw [Nat.sub_self, spr, List.append_nil] at this
                exact this
              subst hTB
              have hbl := HTL.out
              obtain ⟨A3, c3, hv3, hc3, hr3⟩ := rd_own HOW.out
              subst hv3
              have HBT : Hid (∀ x ∈ bl, 0 ≤ x ∧ x < 256) := Lib.hid (by
                rw [HTD.out]
                exact spr_bytes _ _ (by rw [stp_src, HUS.out]; exact HBY.out) (fun m k _ => by
                  have e2 : ∀ k, stp (stp u 1) k = stp u (k + 1) := fun k => by
                    induction k with
                    | zero => rfl
                    | succ k ih => show getF (stp (stp u 1) k) = _; rw [ih]; rfl
                  rw [e2, stp_src, stp_src]))
              have HWR := Lib.hid (HBW.out.trans (HBE.out.mono hbw))
              have hwr : w.heap.size ≤ wr.heap.size := HWR.out.size
              have HNEW := Lib.hid (new_any wr A3 bl.length c3 bl hr3 (by unfold maxLen; omega) HBT.out (fun V hV => HTT.out V (HWR.out.trans (hV.mono hwr))))
              obtain ⟨v, hv⟩ : ∃ v, v = ({ wsF 57 29 with src := bl } : Sn) := ⟨_, rfl⟩
              have hnf : newF bl = stp v 1 := by
                unfold newF
                rw [if_neg (by omega), ← hv]
                rfl
              rw [hnf] at HNEW
              have htw : Twin u v j := by rw [hv]; exact twin_start HU.out HTD.out
              have HSY := Lib.hid (twin_sym htw HRUN.out)
              have HST := Lib.hid (twin_stop htw HRUN.out)
              have HKV : Hid (∀ i, (stp v i).kw = 29) := Lib.hid fun i => by
                induction i with
                | zero => rw [hv]; rfl
                | succ i ih => show (getF _).kw = 29; rw [get_kw]; exact ih
              have HALL2 : Hid (∀ i, i < j → ∃ g f, A = some ⟨g, f, none⟩ ∧ ∀ V, Below w2.heap.size w2 V → ∀ o, o < 5 → V.cell? ⟨g, f + (i * 5 + o), none⟩ = (symC (stp u (i + 1)))[o]?) := Lib.hid fun i hi => by
                obtain ⟨g, f, e, hg, hc⟩ := HALL.out i hi
                exact ⟨g, f, e, fun V hV o ho => by rw [hV.cell (show g < w2.heap.size from hg)]; exact hc o ho⟩
              have HTT9 := Lib.hid (fun V (hV : Below wr.heap.size wr V) => HTT.out V (HWR.out.trans (hV.mono hwr)))
              clear hv hnf htw HTP HALL HTD HBL hr3 hc3 HBT hlt HRUN
              go_wp2_with (go_at_call 9; (refine HNEW.out.mono ?_); rintro e w3 ⟨q3, rfl, hs, hb⟩; have HS : Hid (L1 wr w3 q3 (stp v 1) (.slice none 0 0) 0 []) := Lib.hid ⟨hb, hs, ⟨rfl, .inl ⟨rfl, rfl⟩⟩, fun k hk => by simp [Value.ownBlock] at hk⟩; clear hs hb)
              clear HNEW
              go_loopw [14] (fun iv wl => ∃ (i : Nat) (q' : Sp), iv = .int .i64 (i : Int) ∧ i ≤ j ∧ q'.p = q3.p ∧ Hid (L1 wr wl q' (stp v (i + 1)) (.slice none 0 0) 0 [])) (fun iv _ => j - (intOf iv).toNat)
              case atStart => exact ⟨0, q3, rfl, Nat.zero_le _, rfl, HS⟩
              case round =>
                clear HS
                rename_i wl _
                obtain ⟨i, q', rfl, hi, hqp, HS⟩ := hrel
                obtain ⟨p', sv, nv, ib', gb⟩ := q'
                obtain rfl : p' = q3.p := hqp
                by_cases hlt : i < j
                · obtain ⟨g, f, rfl, hc⟩ := HALL2.out i hlt
                  obtain ⟨y1, y2, y3, y4⟩ := HSY.out i hlt
                  have hkv := HKV.out (i + 1)
                  obtain ⟨s9, hs9⟩ : ∃ s9, s9 = stp v (i + 1) := ⟨_, rfl⟩
                  have HC := Lib.hid fun V (hV : Below w2.heap.size w2 V) => sym_cells (hc V hV)
                  rw [← hs9] at HS y1 y2 y3 y4 hkv
                  rw [← y1, ← y2, ← y3, ← y4] at HC
                  have HS9E := Lib.hid hs9
                  have HKV9 := Lib.hid hkv
                  clear hs9 hc y1 y2 y3 y4 hkv hi
                  have hw2r := HBE.out.size
                  go_upto_region 33 with (go_at_call 12; (with_reducible refine (l1_sym HS.out rfl).mono ?_); rintro e w4 ⟨rfl, hs⟩; have HSN := Lib.hid hs; clear hs)
                  have HS5 := Lib.hid (HSN.out.next ((Below.refl _ _).alloc (Nat.le_refl _) (.cells #[.int .i64 s9.sym, .int .i64 s9.pos, .int .i32 s9.val, .int .i64 s9.id, .string s9.txt] 29)))
                  have HB5 := Lib.hid (HBE.out.trans (HS5.out.b.mono hw2r))
                  have HC4 := Lib.hid (World.news_of_block (heap_alloc_new w4 (.cells #[.int .i64 s9.sym, .int .i64 s9.pos, .int .i32 s9.val, .int .i64 s9.id, .string s9.txt] 29)))
                  have x0 : (w4.alloc (.cells #[.int .i64 s9.sym, .int .i64 s9.pos, .int .i32 s9.val, .int .i64 s9.id, .string s9.txt] 29)).cell? ⟨w4.heap.size, 0, none⟩ = some (.int .i64 s9.sym) := by have := HC4.out 0 _ rfl; rwa [Ev.add_at, Nat.zero_add] at this
                  have x2 : (w4.alloc (.cells #[.int .i64 s9.sym, .int .i64 s9.pos, .int .i32 s9.val, .int .i64 s9.id, .string s9.txt] 29)).cell? ⟨w4.heap.size, 2, none⟩ = some (.int .i32 s9.val) := by have := HC4.out 2 _ rfl; rwa [Ev.add_at, Nat.zero_add] at this
                  have x3 : (w4.alloc (.cells #[.int .i64 s9.sym, .int .i64 s9.pos, .int .i32 s9.val, .int .i64 s9.id, .string s9.txt] 29)).cell? ⟨w4.heap.size, 3, none⟩ = some (.int .i64 s9.id) := by have := HC4.out 3 _ rfl; rwa [Ev.add_at, Nat.zero_add] at this
                  have x4 : (w4.alloc (.cells #[.int .i64 s9.sym, .int .i64 s9.pos, .int .i32 s9.val, .int .i64 s9.id, .string s9.txt] 29)).cell? ⟨w4.heap.size, 4, none⟩ = some (.string s9.txt) := by have := HC4.out 4 _ rfl; rwa [Ev.add_at, Nat.zero_add] at this
                  obtain ⟨z0', -, z2, z3, z4⟩ := HC.out _ HB5.out
                  clear HC4 HSN HS
                  generalize w4.alloc (.cells #[.int .i64 s9.sym, .int .i64 s9.pos, .int .i32 s9.val, .int .i64 s9.id, .string s9.txt] 29) = W5 at *
                  go_region_held3 (fun V => V.cell? ⟨w4.heap.size, 0, none⟩ = some (.int .i64 s9.sym) ∧ V.cell? ⟨w4.heap.size, 2, none⟩ = some (.int .i32 s9.val) ∧ V.cell? ⟨w4.heap.size, 3, none⟩ = some (.int .i64 s9.id) ∧ V.cell? ⟨w4.heap.size, 4, none⟩ = some (.string s9.txt) ∧ V.cell? ⟨g, f + i * 5, none⟩ = some (.int .i64 s9.sym) ∧ V.cell? ⟨g, f + i * 5 + 2, none⟩ = some (.int .i32 s9.val) ∧ V.cell? ⟨g, f + i * 5 + 3, none⟩ = some (.int .i64 s9.id) ∧ V.cell? ⟨g, f + i * 5 + 4, none⟩ = some (.string s9.txt))
                    (first | exact ⟨by assumption, by assumption, by assumption, by assumption, by assumption, by assumption, by assumption, by assumption⟩ | go_keep)
                    (fail)
                  have HS6 := Lib.hid (HS5.out.next (Below.refl _ _).drew)
                  go_wp2_with (go_at_call 10; (with_reducible refine (l1_get HS6.out HKV9.out HTT9.out rfl).mono ?_); rintro e w7 ⟨rfl, q7, hp7, hs⟩; have HS7 := Lib.hid hs; clear hs)
                  have HS8 := HS7.out
                  rw [HS9E.out] at HS8
                  exact ⟨⟨i + 1, q7, by simp, by omega, hp7, Lib.hid HS8⟩, by simp [intOf]; try omega⟩
                · obtain rfl : i = j := by omega
                  obtain ⟨s9, hs9⟩ : ∃ s9, s9 = stp v (i + 1) := ⟨_, rfl⟩
                  have hst := HST.out
                  rw [← hs9] at HS hst
                  have hst2 : (s9.sym == 0) = true := by simpa using hst
                  clear hs9
                  go_wp2_with (first
                    | (go_at_call 12; (with_reducible refine (l1_sym HS.out rfl).mono ?_); rintro e w4 ⟨rfl, hs⟩; have HS9 := Lib.hid hs; have HWL := Lib.hid (HWR.out.trans (HS9.out.b.mono hwr)); clear hs)
                    | (go_at_call 8; (refine (KN.out _ HWL.out).mono ?_); rintro e w9 ⟨rfl, hb⟩; have HBB := Lib.hid (HWL.out.trans (hb.mono HWL.out.size)); clear hb))
                  go_ret
                  exact ⟨rfl, HBB.out⟩
theorem own : ownKnob Tryd.prog.godebug = none := by kernel_rfl
theorem laidOut : laidOutB Tryd.prog = true := by kernel_rfl
theorem gTab5 : Tryd.prog.globalNamed "strings.asciiSpace" = some 0 := by kernel_rfl
theorem gTab2 : Tryd.prog.globalNamed "internal/strconv.uint64pow10" = some 6 := by kernel_rfl
set_option maxRecDepth 1000000 in
theorem tables {W : World} (h0 : laidMetH Tryd.prog Rows.scanEndsRow.laid W) : Tab W := by
  rw [MakeChecks.laidMetH_plain _ _ _ (by kernel_rfl)] at h0
  have h : laidMet Tryd.prog Rows.scanEndsRow.laid W := h0
  exact ⟨Lib.tabIs_of_head (rest := _) gTab5 (by kernel_rfl) Tryd.underlying57 Tryd.underlying5 (by kernel_rfl) (by kernel_rfl) (laidMet.tail (laidMet.tail (laidMet.tail (laidMet.tail (laidMet.tail h))))), Lib.tabIs_of_head (rest := _) gTab2 (by kernel_rfl) Tryd.underlying150 Tryd.underlying47 (by kernel_rfl) (by kernel_rfl) (laidMet.tail (laidMet.tail h))⟩
set_option maxRecDepth 1000000 in
theorem contract (H : Type) (enc : TypeId × Value → H) (W : World) (base : Nat) (args : Array Value) (ds gs : List (DataW H)) (before : List MemPlace)
    (hval : ∀ (j : Nat) t v, Tryd.f5.params[j]? = some t → args[j]? = some v → Value.okWide Tryd.prog W .any base t v)
    (hW : DataW.Whole enc Tryd.prog Tryd.f5.params.toList Rows.scanEndsSpec.vars false W args.toList ds gs before) (hL : laidMetH Tryd.prog Rows.scanEndsRow.laid W) :
    Calls Tryd.prog 5 args W fun e W' => ∃ v, e = .returned v ∧ Rows.scanEndsSpec.post enc Tryd.prog Tryd.f5 false true false false W args v W' := by
  have hW' := hW
  obtain ⟨p, q, hA0, hV, rfl, hfz, hnd⟩ := hW
  have hA : DataW.TrodAll enc Tryd.prog W 0 (fun _ => true) true Tryd.f5.params.toList args.toList ds p := hA0
  rw [Tryd.params5] at hA hval
  obtain ⟨v0, vs0, d0, ds0, p0, q0, hargs, rfl, rfl, h0, r0⟩ := trodAll_cons hA
  obtain ⟨rfl, rfl, rfl⟩ := trodAll_nil r0
  obtain rfl : args = #[v0] := by cases args; simp_all
  obtain ⟨rfl, rfl⟩ := trodVars_none hV
  obtain ⟨a0, len0, cap0, rfl⟩ := okWide_slice Tryd.underlying22 (hval 0 22 v0 rfl rfl)
  have k0 := h0
  have lt0 : ∀ x ∈ p0, x.block < W.heap.size := by obtain ⟨m, hm⟩ := k0; exact DataW.trod_lt m _ _ _ hm
  obtain ⟨z0, w0⟩ := isRow_of Tryd.underlying22 Tryd.underlying5 (by kernel_rfl) h0
  clear hA0
  have hT := tables hL
  refine (walk a0 len0 cap0 z0 W w0 hT).mono fun e W' ⟨he, bel⟩ => ?_
  subst he
  exact ⟨_, rfl, _, _, _, [], _, [], hW', trodAll_mk1 (shut_bool Tryd.underlying4 _), (trodAll_cons_mk (Below.trod laidOut (by kernel_rfl) (of_decide_eq_true (by kernel_rfl)) k0 bel lt0) trodAll_mk0), rfl, bel.frame _, fun h => by cases h⟩
theorem witness_shaped {H : Type} {enc : TypeId × Value → H} {C : Checked} {os : Os} {f : FuncId} {fn : Func} {s : OpenSpec} {conds : List PathCond} {apart : Bool} {laid : List (String × DataW Unit)} (modest : Bool) (w0 : World) (args : Array Value) (hos : w0.os = os)
    (hsh : (w0.forCall (fun _ _ => 0) ⟨#[], args, []⟩).Shaped C.prog) (hok : Input.okWideB C.prog (w0.forCall (fun _ _ => 0) ⟨#[], args, []⟩) f ⟨#[], args, []⟩ = true)
    (hrow : s.preRow enc C.prog fn conds apart laid (w0.forCall (fun _ _ => 0) ⟨#[], args, []⟩).memory args) :
    ∃ (w : World) (tape : Tape) (i : Input), w.os = os ∧ (w.forCall tape i).Shaped C.prog ∧ i.vars = [] ∧ Input.okWide C.prog (w.forCall tape i) .any w.heap.size f i ∧
      s.preRow enc C.prog fn conds apart laid (w.forCall tape i).memory i.args ∧ ({ modest := modest } : Assume).holds C.prog (lone (Frame.enter C.prog f i.args .normal) [] (w.forCall tape i)) :=
  ⟨w0, fun _ _ => 0, ⟨#[], args, []⟩, hos, hsh, (Input.okWide_of_okWideB (base := 0) hok).1, (Input.okWide_of_okWideB hok).2, hrow, by
    simp only [Assume.holds]
    exact ⟨by simp, by simp, fun _ => Modest.zero, by simp, by simp⟩⟩
set_option maxRecDepth 1000000 in
theorem laid_met (os : Os) : laidMetH Tryd.prog Rows.scanEndsRow.laid ((World.laidAll Tryd.prog os Rows.scanEndsRow.laid).forCall (fun _ _ => 0) ⟨#[], #[.slice none 0 0], []⟩).memory := by
  rw [MakeChecks.laidMetH_plain _ _ _ (by kernel_rfl)]
  exact laidMet_laidAll _ (by kernel_rfl) (by kernel_rfl)
set_option maxRecDepth 1000000 in
theorem reads (os : Os) {H : Type} (enc : TypeId × Value → H) : ∃ places, DataW.whole enc Tryd.prog ((World.laidAll Tryd.prog os Rows.scanEndsRow.laid).forCall (fun _ _ => 0) ⟨#[], #[.slice none 0 0], []⟩).memory Tryd.f5.params.toList Rows.scanEndsSpec.vars false (#[.slice none 0 0] : Array Value).toList 8 = some ([.nil], [], places) := ⟨[], by kernel_rfl⟩
set_option maxRecDepth 1000000 in
theorem lifted (os : Os) (started : os.Started) (H : Type) (enc : TypeId × Value → H) (F : Stop.Interp) :
    ReturnsInHanded {} Tryd.checked os 5 .any ((OpenSpec.ofChange Rows.scanEndsSpec).preRow enc Tryd.prog Tryd.f5 Rows.scanEndsRow.domain false Rows.scanEndsRow.laid) (((OpenSpec.ofChange Rows.scanEndsSpec).at F).post enc Tryd.prog Tryd.f5 false true false false) := by
  obtain ⟨places, hx⟩ := reads os enc
  refine returnsInHanded_of_row (C := Tryd.checked) (s := OpenSpec.ofChange Rows.scanEndsSpec) own started (by kernel_rfl) Tryd.func5
    (witness_shaped (enc := enc) (C := Tryd.checked) false (World.laidAll Tryd.prog os Rows.scanEndsRow.laid) #[.slice none 0 0] (World.laidAll_os _ _ _) (World.shaped_of_ZipB (by kernel_rfl) (by kernel_rfl)) (by kernel_rfl)
      (OpenSpec.preRow_of_cond 8 hx (by kernel_rfl) (fun k hk => by cases hk) (by kernel_rfl) (laid_met os))) ?_
  intro W base args ds gs before hval hW _ _ _ hL _ _
  exact contract H enc W base args ds gs before hval hW hL
theorem said : Rows.ScanEndsSaid :=
  OpenClaim.holds_of_cond 5 Tryd.f5 rfl rfl rfl rfl rfl rfl rfl ⟨rfl, rfl, rfl, rfl, rfl⟩ rfl rfl rfl rfl rfl (by kernel_rfl) Tryd.func5 (by kernel_rfl)
    (of_decide_eq_true (by kernel_rfl)) (by unfold Func.isWrapper; first | (rw [if_pos (by decide +kernel)]; kernel_rfl) | (rw [if_neg (by decide +kernel)]; exact ⟨rfl, rfl⟩))
    (fun os started H enc _ F => by rw [OpenClaim.pre_eq_preRow]; exact lifted os started H enc F)
theorem plain (f : FuncId) (fn : Func) (hf : Tryd.pinned.checked.prog.funcNamed "selfsame/selfsamelaw11.ScanEnds" = some f) (hfn : Tryd.pinned.checked.prog.funcs[f]? = some fn) :
    false = Tryd.pinned.checked.prog.looks [] ∧ ∀ (j : Nat) t, fn.params[j]? = some t → Tryd.pinned.checked.prog.wantsStandIn t = false := by
  obtain rfl : f = 5 := Option.some.inj ((show Tryd.prog.funcNamed "selfsame/selfsamelaw11.ScanEnds" = some 5 by kernel_rfl).symm.trans hf) |>.symm
  obtain rfl : fn = Tryd.f5 := (Option.some.inj (Tryd.func5.symm.trans hfn)).symm
  refine ⟨by kernel_rfl, fun j t ht => ?_⟩
  rw [Tryd.params5] at ht
  have hm := Array.mem_of_getElem? ht
  simp only [List.mem_toArray, List.mem_cons, List.not_mem_nil, or_false] at hm
  rcases hm with rfl
  · exact (show Tryd.prog.wantsStandIn 22 = false by kernel_rfl)
theorem proved : Rows.ScanEndsCardSaid :=
  Claim7.holds_tied_plain_at .later [] _ _ _ _ said (fun _ h => by cases h) (by kernel_rfl) (fun _ h => by cases h) scanEnds_row_tie rfl ⟨rfl, rfl⟩ (by kernel_rfl) rfl plain (by kernel_rfl)
end Go.Proofs.YthpdgghjaglhnaaDoor.scanEnds
