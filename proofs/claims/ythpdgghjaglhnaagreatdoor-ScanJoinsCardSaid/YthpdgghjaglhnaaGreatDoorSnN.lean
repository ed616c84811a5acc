/-
  A scanner in memory: a number is read.
-/
import Derived.Test.YthpdgghjaglhnaaGreatDoorSnG
import Derived.Test.YthpdgghjaglhnaaGreatDoorSnK2
namespace Go.Proofs.YthpdgghjaglhnaaGreatDoor
open Go.ChangeShapes Go.WideShapes Go.ChangeAt Go.RowKit
open Ev (WRow)
set_option linter.unusedVariables false
set_option linter.unusedSimpArgs false
/-- a number that begins where the scanner stands -/
def numF (s : Sn) : Sn :=
  let k := tw nuB (s.src.drop s.at_)
  let t := (s.src.drop s.at_).take k
  let e := nth s.src (s.at_ + k)
  let sym : Int := if e = 88 then 27 else 26
  let at_ := if e = 72 ∨ e = 88 then s.at_ + k + 1 else s.at_ + k
  let v : Option Int := if e = 72 then hexF t else if e = 88 then (hexF t).bind (fun v => if v ≤ 255 then some v else none) else decF t
  let s1 : Sn := { s with sym := sym, at_ := at_ }
  match v with
  | none => markF s1 2 s1.pos
  | some v => { s1 with val := wrap32 v }
/-- what comes of it -/
def numV (s1 : Sn) (v : Option Int) : Sn := match v with
  | none => markF s1 2 s1.pos
  | some v => { s1 with val := wrap32 v }
theorem hexF_bd {t : List Int} (ht : NuL t) {v : Int} (h : hexF t = some v) : 0 ≤ v ∧ v ≤ 4294967295 := by
  unfold hexF at h
  split at h
  · cases h
  · rename_i h8
    obtain rfl := Option.some.inj h
    exact (hexTx_val (fun c hc => ht c (noz_sub t c hc)) (by omega)).2
section
variable {w : World} {B : Nat} {q : Sp} {s : Sn}
theorem SnAt.subrd (h : SnAt w B q s) {A : Option Addr} {n c : Nat} (hv : q.sv = .slice A n c) (lo k : Nat) (h2 : lo + k ≤ s.src.length) {A2 : Option Addr} (hA : (if c = lo then A else A.map (·.add lo)) = A2) : Rd w w.heap.size .u8 A2 k ((s.src.drop lo).take k) := by
  obtain ⟨e, hc⟩ := cap_ge h hv
  have hr := Rd.sub (h.rd hv) (lo := lo) (hi := lo + k) (c := c) (by omega) (by omega) hc
  rw [hA, show lo + k - lo = k by omega] at hr
  exact hr
set_option maxRecDepth 100000 in
set_option maxHeartbeats 8000000 in
theorem number_any (h : SnAt w B q s) (hB : B ≤ w.heap.size) (hT : ∀ V, Below B w V → Tab V) : Calls Tryz.prog 32 #[.pointer (some ⟨q.p, 0, none⟩)] w fun e w' => e = .returned (.tuple #[]) ∧ SnAt w' B q (numF s) ∧ Sf q q w w' := by
  have c1 := h.c1
  have l1 := h.l1
  have a1 := h.at1
  obtain ⟨k, hk⟩ : ∃ k, k = tw nuB (s.src.drop s.at_) := ⟨_, rfl⟩
  have hkl : s.at_ + k ≤ s.src.length := by have := tw_le nuB (s.src.drop s.at_); simp at this; omega
  have HT := Lib.hid fun j (hj : j ≤ k) => (hk ▸ tw_drop nuB nuB_0 s.src s.at_ j (hk ▸ hj) : nuB (nth s.src (s.at_ + j)) = decide (j < k))
  have HNU : Hid (NuL ((s.src.drop s.at_).take k)) := Lib.hid (hk ▸ tw_all nuB (s.src.drop s.at_))
  have HNF : Hid (numF s = numV { s with sym := if nth s.src (s.at_ + k) = 88 then 27 else 26, at_ := if nth s.src (s.at_ + k) = 72 ∨ nth s.src (s.at_ + k) = 88 then s.at_ + k + 1 else s.at_ + k } (if nth s.src (s.at_ + k) = 72 then hexF ((s.src.drop s.at_).take k) else if nth s.src (s.at_ + k) = 88 then (hexF ((s.src.drop s.at_).take k)).bind (fun v => if v ≤ 255 then some v else none) else decF ((s.src.drop s.at_).take k))) := Lib.hid (by rw [hk]; rfl)
  have HZ := Lib.hid (nth_ge s.src (s.at_ + k))
  have HTB := Lib.hid hT
  have HS0 := Lib.hid h
  have HS := Lib.hid h
  clear h hk hT
  go_enter Tryz.func32, Tryz.ntmps32
  go_wp2_with fail
  go_loopw [10] (fun _ wr => ∃ j : Nat, j ≤ k ∧ Hid (SnAt wr B q { s with at_ := s.at_ + j }) ∧ Hid (Sf q q w wr)) (fun _ wr => s.src.length - atW q.p wr)
  case atStart => exact ⟨0, Nat.zero_le _, HS, Lib.hid (Sf.refl _ _)⟩
  case round =>
    clear HS c1
    obtain ⟨j, hj, HS, HF⟩ := hrel
    have K := HS.out.lk
    have c1 : wr.cell? ⟨q.p, 1, none⟩ = some (.int .i64 ((s.at_ + j : Nat) : Int)) := HS.out.c1
    have z1 := HS.out.z 1 (by omega)
    have HM : Hid (atW q.p wr = s.at_ + j) := Lib.hid HS.out.atW
    have KL0 : Hid (Calls Tryz.prog 27 #[.pointer (some ⟨q.p, 0, none⟩), .int .i64 0] wr fun e w' => e = .returned (.int .u8 (nth s.src (s.at_ + j))) ∧ ∃ n, w' = wr.drewN n) := Lib.hid K.l0
    have KL0n : Hid (∀ k, Calls Tryz.prog 27 #[.pointer (some ⟨q.p, 0, none⟩), .int .i64 0] (wr.drewN k) fun e w' => e = .returned (.int .u8 (nth s.src (s.at_ + j))) ∧ ∃ n, w' = wr.drewN n) := Lib.hid K.l0n
    have HTJ := Lib.hid (HT.out j hj)
    clear K
    obtain ⟨x0, hx0⟩ : ∃ x, x = nth s.src (s.at_ + j) := ⟨_, rfl⟩
    have HX0 := Lib.hid hx0
    rw [← hx0] at KL0 KL0n HTJ
    clear hx0
    by_cases hjk : j < k
    · have T := Lib.hid fun n => SnAt.to (HS.out.drewN n) (s.at_ + (j + 1)) (show s.at_ + (j + 1) ≤ s.src.length by omega)
      have T2 := Lib.hid fun n => (T.out n).atW
      have hnu := nu_cases (show nuB x0 = true by rw [HTJ.out]; simpa using hjk)
      rcases hnu with ⟨g0, g1⟩ | ⟨g0, g1⟩
      · have hd : digB x0 = true := by unfold digB; rw [decide_eq_true (And.intro g0 g1)]
        go_wp2_with (first
          | (go_at_call 27; (with_reducible refine KL0.out.mono ?_); rintro e w' ⟨rfl, n1, rfl⟩)
          | (go_at_call 27; (with_reducible refine (KL0n.out _).mono ?_); rintro e w' ⟨rfl, n1, rfl⟩)
          | (go_at_call 31; (with_reducible refine (sdigit_any _ _).mono ?_); rintro e w' ⟨rfl, rfl⟩; rw [hd]))
        exact ⟨⟨j + 1, by omega, Lib.hid (T.out n1), Lib.hid ((HF.out.drewN n1).setCell 1 _)⟩, by rw [HM.out]; exact Nat.lt_of_le_of_lt (Nat.le_of_eq (congrArg (s.src.length - ·) (T2.out n1))) (by show s.src.length - (s.at_ + (j + 1)) < _; omega)⟩
      · have hd : digB x0 = false := by unfold digB; rw [decide_eq_false (by omega)]
        go_wp2_with (first
          | (go_at_call 27; (with_reducible refine KL0.out.mono ?_); rintro e w' ⟨rfl, n1, rfl⟩)
          | (go_at_call 27; (with_reducible refine (KL0n.out _).mono ?_); rintro e w' ⟨rfl, n1, rfl⟩)
          | (go_at_call 31; (with_reducible refine (sdigit_any _ _).mono ?_); rintro e w' ⟨rfl, rfl⟩; rw [hd]))
        exact ⟨⟨j + 1, by omega, Lib.hid (T.out n1), Lib.hid ((HF.out.drewN n1).setCell 1 _)⟩, by rw [HM.out]; exact Nat.lt_of_le_of_lt (Nat.le_of_eq (congrArg (s.src.length - ·) (T2.out n1))) (by show s.src.length - (s.at_ + (j + 1)) < _; omega)⟩
    · obtain rfl : j = k := by omega
      have hnu : nuB x0 = false := by rw [HTJ.out]; simp
      have hd : digB x0 = false := by
        unfold nuB at hnu
        rw [Bool.or_eq_false_iff] at hnu
        exact hnu.1
      have hna : x0 < 65 ∨ (65 ≤ x0 ∧ 70 < x0) := by
        unfold nuB at hnu
        rw [Bool.or_eq_false_iff] at hnu
        have h2 := hnu.2
        by_cases g : 65 ≤ x0
        · right
          rw [decide_eq_true g, Bool.true_and, decide_eq_false_iff_not] at h2
          exact ⟨g, by omega⟩
        · left; omega
      rw [← HX0.out] at HNF HZ
      have c0 : wr.cell? ⟨q.p, 0, none⟩ = some q.sv := HS.out.c0
      have c2 : wr.cell? ⟨q.p, 2, none⟩ = some (.int .i64 s.sym) := HS.out.c2
      have z2 := HS.out.z 2 (by omega)
      obtain ⟨A, c, hv⟩ := source_form HS.out
      have HV := Lib.hid hv
      obtain ⟨A2, hA2⟩ : ∃ A2, (if c = s.at_ then A else A.map (·.add s.at_)) = A2 := ⟨_, rfl⟩
      have HA2 := Lib.hid hA2
      obtain ⟨_, hcap⟩ := cap_ge HS.out hv
      have hsub : ∀ W, (Instr.slice 22 (.slice A s.src.length c) (some (.int .i64 (s.at_ : Int))) (some (.int .i64 ((s.at_ : Int) + (j : Int)))) none).run Tryz.prog W = .ok (.slice A2 j (c - s.at_)) W := fun W => by
        have := sub_run A s.src.length c s.at_ (s.at_ + j) (by omega) hkl hcap W A2 hA2
        rw [show s.at_ + j - s.at_ = j by omega, Int.natCast_add] at this
        exact this
      rw [hv] at c0
      have HS6 := Lib.hid fun n => (HS.out.drewN n).put 2 [.int .i64 26] { s with at_ := s.at_ + j, sym := 26 } (by simp) rfl rfl hkl rfl
      have HF6 := Lib.hid fun n => (HF.out.drewN n).setCell 2 (.int .i64 26)
      have HKL := Lib.hid hkl
      have hat5 : s.at_ + j ≤ 65535 := by omega
      have hj5 : j ≤ 65535 := by omega
      clear hv hA2 hcap HT HTJ hnu hj hjk z1 HM hkl l1 a1
      rcases hna with g | ⟨g, g2⟩
      all_goals
        go_upto_region 3 with (first
          | (go_at_call 27; (with_reducible refine KL0.out.mono ?_); rintro e w' ⟨rfl, n1, rfl⟩)
          | (go_at_call 27; (with_reducible refine (KL0n.out _).mono ?_); rintro e w' ⟨rfl, n1, rfl⟩)
          | (go_at_call 31; (with_reducible refine (sdigit_any _ _).mono ?_); rintro e w' ⟨rfl, rfl⟩; rw [hd]))
        go_quiet (fail)
        go_upto_region 7 with (fail)
        obtain ⟨W6, hW6⟩ : ∃ W6, W6 = (wr.drewN (n1 + nq)).setCell ⟨q.p, 2, none⟩ (.int .i64 26) := ⟨_, rfl⟩
        rw [← hW6]
        have T6 : Hid (SnAt W6 B q { s with at_ := s.at_ + j, sym := 26 }) := Lib.hid (by rw [hW6]; exact HS6.out _)
        have F6 : Hid (Sf q q w W6) := Lib.hid (by rw [hW6]; exact HF6.out _)
        have KL6 : Hid (Calls Tryz.prog 27 #[.pointer (some ⟨q.p, 0, none⟩), .int .i64 0] W6 fun e w' => e = .returned (.int .u8 x0) ∧ ∃ n, w' = W6.drewN n) := Lib.hid (by rw [HX0.out]; exact T6.out.lk.l0)
        have d1 : W6.cell? ⟨q.p, 1, none⟩ = some (.int .i64 ((s.at_ + j : Nat) : Int)) := T6.out.c1
        have d2 : W6.cell? ⟨q.p, 2, none⟩ = some (.int .i64 26) := T6.out.c2
        have y1 := T6.out.z 1 (by omega)
        have y2 := T6.out.z 2 (by omega)
        clear hW6 HS6 HF6 KL0 KL0n c0 c1 c2 z2 hsub HS HF HX0
        by_cases h72 : x0 = 72
        · first
          | (exfalso; omega)
          | skip
          all_goals
            subst h72
            have hlt : s.at_ + j + 1 ≤ s.src.length := by
              by_cases h : s.src.length ≤ s.at_ + j
              · have := HZ.out h; omega
              · omega
            rw [if_neg (show ¬ (72 : Int) = 88 by decide), if_pos (show (72 : Int) = 72 ∨ (72 : Int) = 88 from .inl rfl), if_pos rfl] at HNF
            have T7 : Hid (∀ n, SnAt ((W6.drewN n).setCell ⟨q.p, 1, none⟩ (.int .i64 ((s.at_ : Int) + (j : Int) + 1))) B q { s with at_ := s.at_ + j + 1, sym := 26 }) := Lib.hid fun n => (T6.out.drewN n).to (s.at_ + j + 1) hlt
            have HHX := Lib.hid fun n => hex_any ((T7.out n).subrd HV.out s.at_ j HKL.out HA2.out) (c := c - s.at_) HNU.out hj5
            clear g hlt
            cases hh : hexF ((s.src.drop s.at_).take j) with
            | none =>
              rw [hh] at HHX HNF
              clear hh
              go_wp2_with (first
                | (go_at_call 27; (with_reducible refine KL6.out.mono ?_); rintro e w' ⟨rfl, n2, rfl⟩)
                | (go_at_call 40; (refine (HHX.out _).mono ?_); rintro e w8 ⟨rfl, hb⟩; have T8 := Lib.hid ((T7.out _).next hb); have F8 := Lib.hid (((F6.out.drewN _).setCell 1 _).trans (Sf.ofBelow q hb)); have k4 : w8.cell? ⟨q.p, 4, none⟩ = some (.int .i32 s.val) := T8.out.c4; have y4 := T8.out.z 4 (by omega); clear hb)
                | (go_at_call 38; (refine (mark_any T8.out 2).mono ?_); rintro e w9 ⟨rfl, hA, hF⟩; have HA := Lib.hid hA; have HF9 := Lib.hid (F8.out.trans hF); clear hA hF))
              refine bodyPost_ret (results_none rfl _ _ _) rfl ?_
              rw [HNF.out]
              exact ⟨rfl, HA.out, HF9.out⟩
            | some v =>
              rw [hh] at HHX HNF
              obtain ⟨v0, v1⟩ := hexF_bd HNU.out hh
              clear hh
              go_wp2_with (first
                | (go_at_call 27; (with_reducible refine KL6.out.mono ?_); rintro e w' ⟨rfl, n2, rfl⟩)
                | (go_at_call 40; (refine (HHX.out _).mono ?_); rintro e w8 ⟨rfl, hb⟩; have T8 := Lib.hid ((T7.out _).next hb); have F8 := Lib.hid (((F6.out.drewN _).setCell 1 _).trans (Sf.ofBelow q hb)); have k4 : w8.cell? ⟨q.p, 4, none⟩ = some (.int .i32 s.val) := T8.out.c4; have y4 := T8.out.z 4 (by omega); clear hb)
                | (go_at_call 38; (refine (mark_any T8.out 2).mono ?_); rintro e w9 ⟨rfl, hA, hF⟩; have HA := Lib.hid hA; have HF9 := Lib.hid (F8.out.trans hF); clear hA hF))
              go_end0
              rw [HNF.out]
              exact ⟨rfl, T8.out.put 4 [.int .i32 (wrap32 v)] { s with at_ := s.at_ + j + 1, sym := 26, val := wrap32 v } (by simp) rfl rfl T8.out.at1 rfl, F8.out.setCell 4 _⟩
        have b72 : (x0 == 72) = false := by simpa using h72
        by_cases h88 : x0 = 88
        · first
          | (exfalso; omega)
          | skip
          all_goals
            subst h88
            have hlt : s.at_ + j + 1 ≤ s.src.length := by
              by_cases h : s.src.length ≤ s.at_ + j
              · have := HZ.out h; omega
              · omega
            rw [if_pos rfl, if_pos (show (88 : Int) = 72 ∨ (88 : Int) = 88 from .inr rfl), if_neg (show ¬ (88 : Int) = 72 by decide), if_pos rfl] at HNF
            have T7 : Hid (∀ n, SnAt (((W6.drewN n).setCell ⟨q.p, 1, none⟩ (.int .i64 ((s.at_ : Int) + (j : Int) + 1))).setCell ⟨q.p, 2, none⟩ (.int .i64 27)) B q { s with at_ := s.at_ + j + 1, sym := 27 }) := Lib.hid fun n => ((T6.out.drewN n).to (s.at_ + j + 1) hlt).put 2 [.int .i64 27] { s with at_ := s.at_ + j + 1, sym := 27 } (by simp) rfl rfl hlt rfl
            have HHX := Lib.hid fun n => hex_any ((T7.out n).subrd HV.out s.at_ j HKL.out HA2.out) (c := c - s.at_) HNU.out hj5
            clear g hlt h72
            cases hh : hexF ((s.src.drop s.at_).take j) with
            | none =>
              rw [hh] at HHX HNF
              clear hh
              go_wp2_with (first
                | (go_at_call 27; (with_reducible refine KL6.out.mono ?_); rintro e w' ⟨rfl, n2, rfl⟩)
                | (go_at_call 40; (refine (HHX.out _).mono ?_); rintro e w8 ⟨rfl, hb⟩; have T8 := Lib.hid ((T7.out _).next hb); have F8 := Lib.hid ((((F6.out.drewN _).setCell 1 _).setCell 2 _).trans (Sf.ofBelow q hb)); have k4 : w8.cell? ⟨q.p, 4, none⟩ = some (.int .i32 s.val) := T8.out.c4; have y4 := T8.out.z 4 (by omega); clear hb)
                | (go_at_call 38; (refine (mark_any T8.out 2).mono ?_); rintro e w9 ⟨rfl, hA, hF⟩; have HA := Lib.hid hA; have HF9 := Lib.hid (F8.out.trans hF); clear hA hF))
              refine bodyPost_ret (results_none rfl _ _ _) rfl ?_
              rw [HNF.out]
              exact ⟨rfl, HA.out, HF9.out⟩
            | some v =>
              rw [hh] at HHX HNF
              obtain ⟨v0, v1⟩ := hexF_bd HNU.out hh
              clear hh
              have HNF : Hid (numF s = numV { s with sym := 27, at_ := s.at_ + j + 1 } (if v ≤ 255 then some v else none)) := HNF
              by_cases h255 : v ≤ 255
              · rw [if_pos h255] at HNF
                have HNF : Hid (numF s = { s with at_ := s.at_ + j + 1, sym := 27, val := v }) := Lib.hid (by rw [HNF.out]; show { s with sym := 27, at_ := s.at_ + j + 1, val := wrap32 v } = _; rw [wrap32_lo v v0 (by omega)])
                go_wp2_with (first
                  | (go_at_call 27; (with_reducible refine KL6.out.mono ?_); rintro e w' ⟨rfl, n2, rfl⟩)
                  | (go_at_call 40; (refine (HHX.out _).mono ?_); rintro e w8 ⟨rfl, hb⟩; have T8 := Lib.hid ((T7.out _).next hb); have F8 := Lib.hid ((((F6.out.drewN _).setCell 1 _).setCell 2 _).trans (Sf.ofBelow q hb)); have k4 : w8.cell? ⟨q.p, 4, none⟩ = some (.int .i32 s.val) := T8.out.c4; have y4 := T8.out.z 4 (by omega); clear hb)
                  | (go_at_call 38; (refine (mark_any T8.out 2).mono ?_); rintro e w9 ⟨rfl, hA, hF⟩; have HA := Lib.hid hA; have HF9 := Lib.hid (F8.out.trans hF); clear hA hF))
                go_end0
                rw [HNF.out]
                exact ⟨rfl, T8.out.put 4 [.int .i32 v] { s with at_ := s.at_ + j + 1, sym := 27, val := v } (by simp) rfl rfl T8.out.at1 rfl, F8.out.setCell 4 _⟩
              · rw [if_neg h255] at HNF
                have h256 : decide (v ≤ 255) = false := by simp; omega
                clear h255
                go_wp2_with (first
                  | (go_at_call 27; (with_reducible refine KL6.out.mono ?_); rintro e w' ⟨rfl, n2, rfl⟩)
                  | (go_at_call 40; (refine (HHX.out _).mono ?_); rintro e w8 ⟨rfl, hb⟩; have T8 := Lib.hid ((T7.out _).next hb); have F8 := Lib.hid ((((F6.out.drewN _).setCell 1 _).setCell 2 _).trans (Sf.ofBelow q hb)); have k4 : w8.cell? ⟨q.p, 4, none⟩ = some (.int .i32 s.val) := T8.out.c4; have y4 := T8.out.z 4 (by omega); clear hb)
                  | (go_at_call 38; (refine (mark_any T8.out 2).mono ?_); rintro e w9 ⟨rfl, hA, hF⟩; have HA := Lib.hid hA; have HF9 := Lib.hid (F8.out.trans hF); clear hA hF))
                refine bodyPost_ret (results_none rfl _ _ _) rfl ?_
                rw [HNF.out]
                exact ⟨rfl, HA.out, HF9.out⟩
        · have b88 : (x0 == 88) = false := by simpa using h88
          rw [if_neg h88, if_neg (by omega), if_neg h72, if_neg h88] at HNF
          clear h72 h88
          have T7 : Hid (∀ n, SnAt (W6.drewN n) B q { s with at_ := s.at_ + j, sym := 26 }) := Lib.hid fun n => T6.out.drewN n
          have HHX := Lib.hid fun n => decimal_any ((T7.out n).subrd HV.out s.at_ j HKL.out HA2.out) (c := c - s.at_) HNU.out hj5 (HTB.out _ ((F6.out.drewN n).below HS0.out hB))
          cases hh : decF ((s.src.drop s.at_).take j) with
          | none =>
            rw [hh] at HHX HNF
            clear hh
            go_wp2_with (first
              | (go_at_call 27; (with_reducible refine KL6.out.mono ?_); rintro e w' ⟨rfl, n2, rfl⟩)
              | (go_at_call 41; (refine (HHX.out _).mono ?_); rintro e w8 ⟨rfl, hb⟩; have T8 := Lib.hid ((T7.out _).next hb); have F8 := Lib.hid ((F6.out.drewN _).trans (Sf.ofBelow q hb)); have k4 : w8.cell? ⟨q.p, 4, none⟩ = some (.int .i32 s.val) := T8.out.c4; have y4 := T8.out.z 4 (by omega); clear hb)
              | (go_at_call 38; (refine (mark_any T8.out 2).mono ?_); rintro e w9 ⟨rfl, hA, hF⟩; have HA := Lib.hid hA; have HF9 := Lib.hid (F8.out.trans hF); clear hA hF))
            refine bodyPost_ret (results_none rfl _ _ _) rfl ?_
            rw [HNF.out]
            exact ⟨rfl, HA.out, HF9.out⟩
          | some v =>
            rw [hh] at HHX HNF
            have hv9 := (dec_yes HNU.out hh).1
            have hv8 := (dec_yes HNU.out hh).2.1
            have HNF : Hid (numF s = { s with at_ := s.at_ + j, sym := 26, val := v }) := Lib.hid (by rw [HNF.out]; show { s with sym := 26, at_ := s.at_ + j, val := wrap32 v } = _; rw [wrap32_lo v hv9 (by omega)])
            clear hh
            go_wp2_with (first
              | (go_at_call 27; (with_reducible refine KL6.out.mono ?_); rintro e w' ⟨rfl, n2, rfl⟩)
              | (go_at_call 41; (refine (HHX.out _).mono ?_); rintro e w8 ⟨rfl, hb⟩; have T8 := Lib.hid ((T7.out _).next hb); have F8 := Lib.hid ((F6.out.drewN _).trans (Sf.ofBelow q hb)); have k4 : w8.cell? ⟨q.p, 4, none⟩ = some (.int .i32 s.val) := T8.out.c4; have y4 := T8.out.z 4 (by omega); clear hb)
              | (go_at_call 38; (refine (mark_any T8.out 2).mono ?_); rintro e w9 ⟨rfl, hA, hF⟩; have HA := Lib.hid hA; have HF9 := Lib.hid (F8.out.trans hF); clear hA hF))
            go_end0
            rw [HNF.out]
            exact ⟨rfl, T8.out.put 4 [.int .i32 v] { s with at_ := s.at_ + j, sym := 26, val := v } (by simp) rfl rfl T8.out.at1 rfl, F8.out.setCell 4 _⟩
end
end Go.Proofs.YthpdgghjaglhnaaGreatDoor
