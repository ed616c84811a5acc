/-
  The document's MayAct.
-/
import Derived.Test.YtlodoilihminaaaGreatDoorScrE
import Derived.BigQuiet
namespace Go.Proofs.YtlodoilihminaaaGreatDoor
open Go.ChangeShapes Go.WideShapes Go.ChangeAt Go.RowKit
set_option linter.unusedVariables false
set_option linter.unusedSimpArgs false
theorem beq0 (n : Nat) : ((n : Int) == 0) = decide (n = 0) := by rw [Bool.eq_iff_iff]; simp
theorem beqI (n : Int) : (n == 0) = decide (n = 0) := by rw [Bool.eq_iff_iff]; simp
theorem le65 (n : Nat) : decide ((n : Int) ≤ 65536) = decide (n ≤ 65536) := by rw [Bool.eq_iff_iff]; simp only [decide_eq_true_eq]; omega
set_option maxHeartbeats 4000000 in
set_option maxRecDepth 100000 in
theorem rmayact_any (w : World) (a : Ac) (bA : Option Addr) (bn bc : Nat) (nA : Option Addr) (nn nc : Nat) (h : ActAt w a bA bn bc nA nn nc) :
    Calls Tryz.prog 33 #[.agg (actC a.kind a.name bA bn bc nA nn nc a.mem a.fuel)] w fun e w' => e = .returned (.bool a.may) ∧ Below w.heap.size w w' := by
  have HA := Lib.hid h
  obtain ⟨eb, heb⟩ : ∃ b, ((bn : Int) == 0) = b := ⟨_, rfl⟩
  obtain ⟨en, hen⟩ : ∃ b, ((nn : Int) == 0) = b := ⟨_, rfl⟩
  obtain ⟨em, hem⟩ : ∃ b, (a.mem == 0) = b := ⟨_, rfl⟩
  obtain ⟨ef, hef⟩ : ∃ b, (a.fuel == 0) = b := ⟨_, rfl⟩
  have hmay : a.may = (if a.kind = 1 then fnB a.name && (decide ((bn : Int) ≤ 65536) && (en && (em && ef)))
      else if a.kind = 2 then fnB a.name && (plnB a.bytes && (en && (em && ef)))
      else if a.kind = 3 ∨ a.kind = 4 then fnB a.name && (eb && (en && (em && ef)))
      else if a.kind = 5 then modB a.name && (eb && (en && (numB a.mem && numB a.fuel)))
      else if a.kind = 6 then modB a.name && (eb && (nmsB a.names && (em && numB a.fuel)))
      else if a.kind = 7 then a.name.isEmpty && (eb && (en && (em && ef)))
      else false) := by
    have e1 : a.bytes.isEmpty = eb := by rw [← heb, beq0, ← h.hbr.1, Bool.eq_iff_iff]; simp
    have e2 : a.names.isEmpty = en := by rw [← hen, beq0, ← h.hnr.1, Bool.eq_iff_iff]; simp
    unfold Ac.may
    rw [e1, e2, ← hem, ← hef, beqI, beqI, le65, h.hbr.1]
  have HM := Lib.hid hmay
  obtain ⟨kd, hkd⟩ : ∃ kd, kd = a.kind := ⟨_, rfl⟩
  rw [← hkd] at HM ⊢
  clear h hmay hkd
  unfold actC
  have c0 : (w.alloc (.cells #[.int .i64 kd, .string (S a.name), .slice bA bn bc, .slice nA nn nc, .int .i64 a.mem, .int .i64 a.fuel] 27)).cell? ⟨w.heap.size, 0, none⟩ = some (.int .i64 kd) := World.cell?_alloc_new w _ _ _
  have c1 : (w.alloc (.cells #[.int .i64 kd, .string (S a.name), .slice bA bn bc, .slice nA nn nc, .int .i64 a.mem, .int .i64 a.fuel] 27)).cell? ⟨w.heap.size, 1, none⟩ = some (.string (S a.name)) := World.cell?_alloc_new w _ _ _
  have c2 : (w.alloc (.cells #[.int .i64 kd, .string (S a.name), .slice bA bn bc, .slice nA nn nc, .int .i64 a.mem, .int .i64 a.fuel] 27)).cell? ⟨w.heap.size, 2, none⟩ = some (.slice bA bn bc) := World.cell?_alloc_new w _ _ _
  have c3 : (w.alloc (.cells #[.int .i64 kd, .string (S a.name), .slice bA bn bc, .slice nA nn nc, .int .i64 a.mem, .int .i64 a.fuel] 27)).cell? ⟨w.heap.size, 3, none⟩ = some (.slice nA nn nc) := World.cell?_alloc_new w _ _ _
  have c4 : (w.alloc (.cells #[.int .i64 kd, .string (S a.name), .slice bA bn bc, .slice nA nn nc, .int .i64 a.mem, .int .i64 a.fuel] 27)).cell? ⟨w.heap.size, 4, none⟩ = some (.int .i64 a.mem) := World.cell?_alloc_new w _ _ _
  have c5 : (w.alloc (.cells #[.int .i64 kd, .string (S a.name), .slice bA bn bc, .slice nA nn nc, .int .i64 a.mem, .int .i64 a.fuel] 27)).cell? ⟨w.heap.size, 5, none⟩ = some (.int .i64 a.fuel) := World.cell?_alloc_new w _ _ _
  go_enter Tryz.func33, Tryz.ntmps33
  go_upto_region 1 with fail
  have HB := Lib.hid (sbelow1 w (.cells #[.int .i64 kd, .string (S a.name), .slice bA bn bc, .slice nA nn nc, .int .i64 a.mem, .int .i64 a.fuel] 27))
  generalize w.alloc (.cells #[.int .i64 kd, .string (S a.name), .slice bA bn bc, .slice nA nn nc, .int .i64 a.mem, .int .i64 a.fuel] 27) = W at c0 c1 c2 c3 c4 c5 HB ⊢
  have HAW := Lib.hid (HA.out.below HB.out)
  go_quiet (fail)
  have hBq : Below w.heap.size w (W.drewN nq) := HB.out.trans ((below_drewN W nq).mono HB.out.size)
  have HB2 := Lib.hid hBq
  have HAW2 := Lib.hid (HA.out.below hBq)
  have d0 : (W.drewN nq).cell? ⟨w.heap.size, 0, none⟩ = some (.int .i64 kd) := c0
  have d1 : (W.drewN nq).cell? ⟨w.heap.size, 1, none⟩ = some (.string (S a.name)) := c1
  have d2 : (W.drewN nq).cell? ⟨w.heap.size, 2, none⟩ = some (.slice bA bn bc) := c2
  have d3 : (W.drewN nq).cell? ⟨w.heap.size, 3, none⟩ = some (.slice nA nn nc) := c3
  have d4 : (W.drewN nq).cell? ⟨w.heap.size, 4, none⟩ = some (.int .i64 a.mem) := c4
  have d5 : (W.drewN nq).cell? ⟨w.heap.size, 5, none⟩ = some (.int .i64 a.fuel) := c5
  clear c0 c1 c2 c3 c4 c5 HB hBq HAW
  generalize W.drewN nq = V at d0 d1 d2 d3 d4 d5 HB2 HAW2 ⊢
  by_cases k1 : kd = 1
  · subst k1
    have hx : a.may = (fnB a.name && (decide ((bn : Int) ≤ 65536) && (en && (em && ef)))) := by rw [HM.out]; rfl
    have hN := rsname_any (S a.name) (by rw [S_size]; exact HAW2.out.hnm)
    rw [Sd] at hN
    generalize fnB a.name = x1 at hN hx
    obtain ⟨x2, hx2⟩ : ∃ b, decide ((bn : Int) ≤ 65536) = b := ⟨_, rfl⟩
    rw [hx2] at hx
    have HN := Lib.hid hN
    have HX := Lib.hid hx
    clear hN hx HM
    go_wp2_with (go_at_call 58; (with_reducible refine (HN.out _).mono ?_); rintro e w' ⟨rfl, hw⟩; subst hw)
    all_goals (go_ret; exact ⟨ret_bool (by rw [HX.out]; simp_all), HB2.out⟩)
  by_cases k2 : kd = 2
  · subst k2
    have hx : a.may = (fnB a.name && (plnB a.bytes && (en && (em && ef)))) := by rw [HM.out]; rfl
    have hN := rsname_any (S a.name) (by rw [S_size]; exact HAW2.out.hnm)
    rw [Sd] at hN
    have hP := plain_any bA bn bc a.bytes V HAW2.out.hbr HAW2.out.hbn
    generalize fnB a.name = x1 at hN hx
    generalize plnB a.bytes = x2 at hP hx
    have HN := Lib.hid hN
    have HP := Lib.hid hP
    have HX := Lib.hid hx
    clear hN hP hx HM
    go_wp2_with (first
      | (go_at_call 58; (with_reducible refine (HN.out _).mono ?_); rintro e w' ⟨rfl, hw⟩; subst hw)
      | (go_at_call 59; (with_reducible refine HP.out.mono ?_); rintro e w' ⟨rfl, hw⟩; subst hw))
    all_goals (go_ret; exact ⟨ret_bool (by rw [HX.out]; simp_all), HB2.out⟩)
  by_cases k34 : kd = 3 ∨ kd = 4
  · have hx : a.may = (fnB a.name && (eb && (en && (em && ef)))) := by rw [HM.out, if_neg k1, if_neg k2, if_pos k34]
    have hN := rsname_any (S a.name) (by rw [S_size]; exact HAW2.out.hnm)
    rw [Sd] at hN
    generalize fnB a.name = x1 at hN hx
    have HN := Lib.hid hN
    have HX := Lib.hid hx
    clear hN hx HM k1 k2
    rcases k34 with rfl | rfl
    · go_wp2_with (go_at_call 58; (with_reducible refine (HN.out _).mono ?_); rintro e w' ⟨rfl, hw⟩; subst hw)
      all_goals (go_ret; exact ⟨ret_bool (by rw [HX.out]; simp_all), HB2.out⟩)
    · go_wp2_with (go_at_call 58; (with_reducible refine (HN.out _).mono ?_); rintro e w' ⟨rfl, hw⟩; subst hw)
      all_goals (go_ret; exact ⟨ret_bool (by rw [HX.out]; simp_all), HB2.out⟩)
  by_cases k5 : kd = 5
  · subst k5
    have hx : a.may = (modB a.name && (eb && (en && (numB a.mem && numB a.fuel)))) := by rw [HM.out]; rfl
    have hN := rmod_any (S a.name) (by rw [S_size]; exact HAW2.out.hnm)
    rw [Sd] at hN
    have hP := rnum_any a.mem
    have hR := rnum_any a.fuel
    generalize modB a.name = x1 at hN hx
    obtain ⟨x2, h2⟩ : ∃ b, b = numB a.mem := ⟨_, rfl⟩
    obtain ⟨x3, h3⟩ : ∃ b, b = numB a.fuel := ⟨_, rfl⟩
    rw [← h2] at hP hx
    rw [← h3] at hR hx
    generalize a.mem = mm at hP d4
    generalize a.fuel = ff at hR d5
    have HN := Lib.hid hN
    have HP := Lib.hid hP
    have HR := Lib.hid hR
    have HX := Lib.hid hx
    clear hN hP hR hx HM h2 h3
    go_wp2_with (first
      | (go_at_call 60; (with_reducible refine (HN.out _).mono ?_); rintro e w' ⟨rfl, hw⟩; subst hw)
      | (go_at_call 61; (with_reducible refine (HP.out _).mono ?_); rintro e w' ⟨rfl, hw⟩; subst hw)
      | (go_at_call 61; (with_reducible refine (HR.out _).mono ?_); rintro e w' ⟨rfl, hw⟩; subst hw))
    all_goals (go_ret; exact ⟨ret_bool (by rw [HX.out]; simp_all), HB2.out⟩)
  by_cases k6 : kd = 6
  · subst k6
    have hx : a.may = (modB a.name && (eb && (nmsB a.names && (em && numB a.fuel)))) := by rw [HM.out]; rfl
    have hnn : nmsB a.names = (a.names.all fnB && decide (1 ≤ nn ∧ nn ≤ 16)) := by unfold nmsB; rw [HAW2.out.hnr.1]
    rw [hnn] at hx
    have hN := rmod_any (S a.name) (by rw [S_size]; exact HAW2.out.hnm)
    rw [Sd] at hN
    have hR := rnum_any a.fuel
    generalize modB a.name = x1 at hN hx
    obtain ⟨x3, h3⟩ : ∃ b, b = numB a.fuel := ⟨_, rfl⟩
    rw [← h3] at hR hx
    generalize a.fuel = ff at hR d5
    have HN := Lib.hid hN
    have HR := Lib.hid hR
    have HX := Lib.hid hx
    have hnb := HAW2.out.hnn
    unfold maxLen at hnb
    clear hN hR hx HM h3 hnn
    by_cases hgood : x1 = true ∧ eb = true ∧ em = true ∧ x3 = true ∧ 1 ≤ nn ∧ nn ≤ 16
    rotate_left
    · have HX0 : Hid (a.may = false) := Lib.hid (by
        rw [HX.out]
        by_cases hn : 1 ≤ nn ∧ nn ≤ 16
        · cases x1 <;> cases eb <;> cases em <;> cases x3 <;> simp_all
        · rw [decide_eq_false hn]; simp)
      have hcase : x1 = false ∨ (x1 = true ∧ eb = false) ∨ (x1 = true ∧ eb = true ∧ em = false) ∨ (x1 = true ∧ eb = true ∧ em = true ∧ x3 = false) ∨ (x1 = true ∧ eb = true ∧ em = true ∧ x3 = true ∧ nn < 1) ∨ (x1 = true ∧ eb = true ∧ em = true ∧ x3 = true ∧ 1 ≤ nn ∧ 16 < nn) := by
        by_cases a1 : 1 ≤ nn
        · by_cases a2 : nn ≤ 16
          · cases x1 <;> cases eb <;> cases em <;> cases x3 <;> simp_all
          · cases x1 <;> cases eb <;> cases em <;> cases x3 <;> simp_all <;> omega
        · cases x1 <;> cases eb <;> cases em <;> cases x3 <;> simp_all
      clear hgood
      rcases hcase with rfl | ⟨rfl, rfl⟩ | ⟨rfl, rfl, rfl⟩ | ⟨rfl, rfl, rfl, rfl⟩ | ⟨rfl, rfl, rfl, rfl, hl⟩ | ⟨rfl, rfl, rfl, rfl, hl, hl2⟩
      all_goals
        go_wp2_with (first
          | (go_at_call 60; (with_reducible refine (HN.out _).mono ?_); rintro e w' ⟨rfl, hw⟩; subst hw)
          | (go_at_call 61; (with_reducible refine (HR.out _).mono ?_); rintro e w' ⟨rfl, hw⟩; subst hw))
        go_loop [7, 8] (fun g i => g = .bool false ∧ i = .int .i64 0) (fun g i => 0)
        case atStart => exact ⟨(by first | rfl | exact congrArg Value.bool (decide_eq_false (by omega))), rfl⟩
        case round =>
          obtain ⟨rfl, rfl⟩ := hrel
          go_wp2_with fail
          all_goals (go_ret; exact ⟨ret_bool HX0.out.symm, HB2.out⟩)
    · obtain ⟨rfl, rfl, rfl, rfl, hl1, hl2⟩ := hgood
      have hxa : a.may = a.names.all fnB := by rw [HX.out, decide_eq_true ⟨hl1, hl2⟩]; simp
      have HXA := Lib.hid hxa
      clear hxa
      go_wp2_with (first
        | (go_at_call 60; (with_reducible refine (HN.out _).mono ?_); rintro e w' ⟨rfl, hw⟩; subst hw)
        | (go_at_call 61; (with_reducible refine (HR.out _).mono ?_); rintro e w' ⟨rfl, hw⟩; subst hw))
      go_loop [7, 8] (fun g i => ∃ (k : Nat) (b : Bool), k ≤ nn ∧ i = .int .i64 k ∧ g = .bool b ∧ Hid ((a.names.take k).all fnB = b)) (fun g i => nn - (intOf i).toNat)
      case atStart => exact ⟨0, true, Nat.zero_le _, rfl, congrArg Value.bool (decide_eq_true (by omega)), Lib.hid rfl⟩
      case round =>
        obtain ⟨k, b, hk, rfl, rfl, hR2⟩ := hrel
        by_cases hlt : k < nn
        · cases b with
          | true =>
            obtain ⟨x, l, rfl, hxx, hl, hm, hc⟩ := HAW2.out.hnr.at hlt
            have HS := Lib.hid (nm_succ a.names k hl)
            have HMN := Lib.hid (rsname_any (S l) (by rw [S_size]; exact hm))
            rw [Sd] at HMN
            clear hl hm
            go_wp2_with (go_at_call 58; (with_reducible refine (HMN.out _).mono ?_); rintro e w' ⟨rfl, hw⟩; subst hw)
            exact ⟨⟨k + 1, fnB l, by omega, by go_num, rfl, Lib.hid (by rw [HS.out, hR2.out]; rfl)⟩, by simp [intOf]; omega⟩
          | false =>
            have e : a.names.all fnB = false := by
              have h := hR2.out
              rw [← List.take_append_drop k a.names, List.all_append, h]; rfl
            have HE := Lib.hid (HXA.out.trans e)
            clear e
            go_wp2_with fail
            go_ret
            exact ⟨ret_bool HE.out.symm, HB2.out⟩
        · have e : a.names.all fnB = b := by
            have h := hR2.out
            rwa [List.take_of_length_le (by rw [HAW2.out.hnr.1]; omega)] at h
          have HE := Lib.hid (HXA.out.trans e)
          clear e
          go_wp2_with fail
          go_ret
          exact ⟨ret_bool HE.out.symm, HB2.out⟩
  by_cases k7 : kd = 7
  · subst k7
    have hx : a.may = (a.name.isEmpty && (eb && (en && (em && ef)))) := by rw [HM.out]; rfl
    have hsl : (S a.name).toList = a.name := by rw [ByteArray.toList_eq]; rfl
    have hne : (a.name.isEmpty = true ∧ (S a.name).toList = []) ∨ (a.name.isEmpty = false ∧ ((S a.name).toList == []) = false) := by
      rw [hsl]
      cases a.name <;> simp
    clear hsl
    generalize a.name.isEmpty = x1 at hne hx
    generalize S a.name = nm at d1 hne
    have HX := Lib.hid hx
    clear hx HM
    rcases hne with ⟨rfl, hnl⟩ | ⟨rfl, hnl⟩
    · go_wp2_with fail
      all_goals (go_ret; exact ⟨ret_bool (by rw [HX.out]; simp_all), HB2.out⟩)
    · go_wp2_with fail
      all_goals (go_ret; exact ⟨ret_bool (by rw [HX.out]; simp_all), HB2.out⟩)
  · have hx : a.may = false := by rw [HM.out, if_neg k1, if_neg k2, if_neg k34, if_neg k5, if_neg k6, if_neg k7]
    have HX := Lib.hid hx
    have q3 : ¬ kd = 3 := fun e => k34 (.inl e)
    have q4 : ¬ kd = 4 := fun e => k34 (.inr e)
    clear hx HM k34
    go_wp2_with fail
    all_goals (go_ret; exact ⟨ret_bool (by rw [HX.out]), HB2.out⟩)
end Go.Proofs.YtlodoilihminaaaGreatDoor
