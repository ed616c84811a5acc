/-
  The document's scanner: numbers.
-/
import Derived.Test.YthpdgghjaglhnaaGreatDoorSqA
import Derived.OwnWalk
namespace Go.Proofs.YthpdgghjaglhnaaGreatDoor
open Go.ChangeShapes Go.WideShapes Go.ChangeAt Go.RowKit
set_option linter.unusedVariables false
set_option linter.unusedSimpArgs false
theorem hx_up : ∀ (l : List Int) (n : Int), 0 ≤ n → (∀ c ∈ l, 48 ≤ c) → 0 ≤ l.foldl (fun n c => 16 * n + (if c ≤ 57 then c - 48 else c - 55)) n
  | [], n, h, _ => h
  | c :: r, n, h, hl => by
    have hc := hl c (List.mem_cons_self ..)
    rw [List.foldl_cons]
    refine hx_up r _ ?_ fun x hx => hl x (List.mem_cons_of_mem _ hx)
    split <;> omega
theorem results_tmp4 {fn : Func} {t u v x : Tmp} (h : fn.results = #[.tmp t, .tmp u, .tmp v, .tmp x]) (tmps : Array Value) (P : Program) (w : World) :
    (results fn tmps).run P w = .ok (.tuple #[tmps.getD t undef, tmps.getD u undef, tmps.getD v undef, tmps.getD x undef]) w := by
  simp [results, h]
/-- what is told of a number -/
def NumR (zs : List Int) (i : Nat) (e : Ending) : Prop := ∃ x : Int, e = .returned (.tuple #[.int .i64 (nuSym zs i), .int .i32 x, .int .i64 (nuEnd zs i : Int), .bool (nuVal zs i).isSome]) ∧ ∀ y, nuVal zs i = some y → x = wrap32 y
theorem numR_dec {zs : List Int} {i : Nat} {z x : Int} {b : Bool} (hz : nth zs (i + tw nuB (zs.drop i)) = z) (h1 : z ≠ 72) (h2 : z ≠ 88) (hb : b = (decF (nuT zs i)).isSome) (hx : ∀ y, decF (nuT zs i) = some y → x = wrap32 y) :
    NumR zs i (.returned (.tuple #[.int .i64 26, .int .i32 x, .int .i64 ((i + tw nuB (zs.drop i) : Nat) : Int), .bool b])) := by
  have e1 : nuSym zs i = 26 := by unfold nuSym; rw [hz, if_neg h2]
  have e2 : nuEnd zs i = i + tw nuB (zs.drop i) := by unfold nuEnd; rw [hz, if_neg (by omega)]
  have e3 : nuVal zs i = decF (nuT zs i) := by unfold nuVal; rw [hz, if_neg h1, if_neg h2]
  unfold NumR
  rw [e1, e2, e3]
  exact ⟨x, by rw [hb], hx⟩
theorem numR_hex {zs : List Int} {i : Nat} {x : Int} {b : Bool} (hz : nth zs (i + tw nuB (zs.drop i)) = 72) (hb : b = (hexF (nuT zs i)).isSome) (hx : ∀ y, hexF (nuT zs i) = some y → x = wrap32 y) :
    NumR zs i (.returned (.tuple #[.int .i64 26, .int .i32 x, .int .i64 ((i + tw nuB (zs.drop i) : Nat) + 1 : Int), .bool b])) := by
  have e1 : nuSym zs i = 26 := by unfold nuSym; rw [hz]; rfl
  have e2 : nuEnd zs i = i + tw nuB (zs.drop i) + 1 := by unfold nuEnd; rw [hz]; rfl
  have e3 : nuVal zs i = hexF (nuT zs i) := by unfold nuVal; rw [hz]; rfl
  unfold NumR
  rw [e1, e2, e3]
  exact ⟨x, by rw [hb]; rfl, hx⟩
theorem numR_chr {zs : List Int} {i : Nat} {x : Int} {b : Bool} (hz : nth zs (i + tw nuB (zs.drop i)) = 88) (hb : b = ((hexF (nuT zs i)).bind (fun v => if v ≤ 255 then some v else none)).isSome) (hx : ∀ y, hexF (nuT zs i) = some y → x = wrap32 y) :
    NumR zs i (.returned (.tuple #[.int .i64 27, .int .i32 x, .int .i64 ((i + tw nuB (zs.drop i) : Nat) + 1 : Int), .bool b])) := by
  have e1 : nuSym zs i = 27 := by unfold nuSym; rw [hz]; rfl
  have e2 : nuEnd zs i = i + tw nuB (zs.drop i) + 1 := by unfold nuEnd; rw [hz]; rfl
  have e3 : nuVal zs i = (hexF (nuT zs i)).bind (fun v => if v ≤ 255 then some v else none) := by unfold nuVal; rw [hz]; rfl
  unfold NumR
  rw [e1, e2, e3]
  refine ⟨x, by rw [hb]; rfl, fun y hy => ?_⟩
  cases hh : hexF (nuT zs i) with
  | none => rw [hh] at hy; cases hy
  | some v =>
    rw [hh] at hy
    change (if v ≤ 255 then some v else none) = some y at hy
    split at hy
    · obtain rfl := Option.some.inj hy
      exact hx v hh
    · cases hy
section
variable {w : World} {A : Option Addr} {n c : Nat} {zs : List Int}
set_option maxRecDepth 100000 in
set_option maxHeartbeats 8000000 in
theorem qnum_any (hr : Rd w w.heap.size .u8 A n zs) (hn : n ≤ 65535) (i : Nat) (hi : i < n) :
    Calls Tryz.prog 23 #[.slice A n c, .int .i64 (i : Int)] w fun e w' => NumR zs i e ∧ w = w' := by
  have HA := Lib.hid (fun k hk => qat_any (c := c) hr hn k hk)
  obtain ⟨x, rfl, -, hcell⟩ := hr.2 (by omega)
  have HC := Lib.hid hcell
  have HL := Lib.hid hr.1
  obtain ⟨k0, hk0⟩ : ∃ k, k = tw nuB (zs.drop i) := ⟨_, rfl⟩
  have hkl : i + k0 ≤ n := by have := tw_le nuB (zs.drop i); rw [← hk0, List.length_drop, hr.1] at this; omega
  obtain ⟨t, ht⟩ : ∃ t, t = nuT zs i := ⟨_, rfl⟩
  have HD := Lib.hid (fun y x b => @numR_dec zs i y x b)
  have HH := Lib.hid (fun x b => @numR_hex zs i x b)
  have HR := Lib.hid (fun x b => @numR_chr zs i x b)
  have HTK := Lib.hid (fun j => nuT_take zs i j)
  have HT := Lib.hid fun j (hj : j ≤ tw nuB (zs.drop i)) => (tw_drop nuB nuB_0 zs i j hj)
  have htl := nuT_len zs i
  have htn := nuT_nu zs i
  rw [← ht] at HD HH HR HTK htl htn
  rw [← hk0] at HD HH HR HTK HT htl
  have HTL := Lib.hid htl
  have HTN := Lib.hid htn
  clear hr hcell hk0 ht htl htn
  go_enter Tryz.func23, Tryz.ntmps23
  go_wp2_with fail
  go_loopw [8, 9] (fun kv dv wr => ∃ k j : Nat, j ≤ k0 ∧ k ≤ i + k0 ∧ Hid (k = i + j) ∧ kv = .int .i64 (k : Int) ∧ dv = .bool ((t.take j).all digB) ∧ wr = w) (fun kv _ _ => i + k0 - (intOf kv).toNat)
  case atStart => exact ⟨i, 0, Nat.zero_le _, by omega, Lib.hid rfl, rfl, rfl, rfl⟩
  case round =>
    obtain ⟨k, j, hj, hk, HK, rfl, rfl, rfl⟩ := hrel
    have K0 := HA.out k (by omega)
    have HTJ := HT.out j hj
    rw [← HK.out] at HTJ
    by_cases hjk : j < k0
    · rw [decide_eq_true hjk] at HTJ
      have hkk : k + 1 ≤ i + k0 := by have := HK.out; omega
      have hc := HC.out k (by omega)
      have HS := HTK.out j hjk
      rw [← HK.out] at HS
      obtain ⟨z, hz⟩ : ∃ z, z = nth zs k := ⟨_, rfl⟩
      rw [← hz] at K0 HTJ hc HS
      replace K0 := Lib.hid K0
      have HA2 := Lib.hid (show (t.take (j + 1)).all digB = ((t.take j).all digB && digB z) by rw [HS, all_snoc])
      obtain ⟨d, hd⟩ : ∃ d, d = (t.take j).all digB := ⟨_, rfl⟩
      rw [← hd] at HA2 ⊢
      have hcs := nu_cases HTJ
      clear HTJ hz HS hd
      cases hg : digB z with
      | true =>
        rw [hg] at HA2
        cases d
        all_goals
          go_wp2_with (first
            | (go_at_call 21; (with_reducible refine K0.out.mono ?_); rintro e w' ⟨rfl, rfl⟩)
            | (go_at_call 22; (with_reducible refine (qdigit_any _ _).mono ?_); rintro e w' ⟨rfl, rfl⟩; rw [hg]))
          exact ⟨⟨k + 1, j + 1, by omega, by omega, Lib.hid (by have := HK.out; omega), by simp, by rw [HA2.out]; rfl, (by first | rfl | trivial)⟩, by simp [intOf]; omega⟩
      | false =>
        rw [hg] at HA2
        have hz2 : 65 ≤ z ∧ z ≤ 70 := by
          rcases hcs with h | h
          · rw [show digB z = true from decide_eq_true h] at hg; cases hg
          · exact h
        obtain ⟨g1, g2⟩ := hz2
        cases d
        all_goals
          go_wp2_with (first
            | (go_at_call 21; (with_reducible refine K0.out.mono ?_); rintro e w' ⟨rfl, rfl⟩)
            | (go_at_call 22; (with_reducible refine (qdigit_any _ _).mono ?_); rintro e w' ⟨rfl, rfl⟩; rw [hg]))
          exact ⟨⟨k + 1, j + 1, by omega, by omega, Lib.hid (by have := HK.out; omega), by simp, by rw [HA2.out]; rfl, (by first | rfl | trivial)⟩, by simp [intOf]; omega⟩
    · rw [decide_eq_false hjk] at HTJ
      obtain rfl : j = k0 := by omega
      have htt : t.take j = t := List.take_of_length_le (by rw [HTL.out]; exact Nat.le_refl _)
      rw [htt]
      rw [← HK.out] at HD HH HR
      clear HT hjk hj htt
      obtain ⟨z, hz⟩ : ∃ z, z = nth zs k := ⟨_, rfl⟩
      rw [← hz] at K0 HTJ HD HH HR
      replace K0 := Lib.hid K0
      clear hz
      unfold nuB at HTJ
      obtain ⟨hg, hz1⟩ := Bool.or_eq_false_iff.1 HTJ
      have hz2 : z < 65 ∨ (65 ≤ z ∧ 70 < z) := by
        simp only [Bool.and_eq_false_iff, decide_eq_false_iff_not] at hz1
        omega
      clear HTJ hz1
      have HAR : Hid (∀ m l : Nat, Hid (m = i + l) → l < j → ∃ y, wr.cell? (x.add m) = some (.int .u8 y) ∧ t.take (l + 1) = t.take l ++ [y] ∧ (48 ≤ y ∧ y ≤ 57 ∨ 65 ≤ y ∧ y ≤ 70)) := Lib.hid fun m l hm hl => by
        have e := HTK.out l hl
        rw [← hm.out] at e
        refine ⟨nth zs m, HC.out m (by have := hm.out; have := HK.out; omega), e, nu_cases (HTN.out _ ?_)⟩
        exact List.mem_of_mem_take (i := l + 1) (by rw [e]; simp)
      clear HTK HC
      have hkn : k ≤ n := by omega
      obtain ⟨d, hd⟩ : ∃ d, d = t.all digB := ⟨_, rfl⟩
      rw [← hd]
      have HDD := Lib.hid hd
      clear hd
      by_cases h72 : z = 72
      · subst h72
        clear HD hz2
        have HXF := Lib.hid (hexF_eq t)
        have HXB := Lib.hid (fun y (h : hexF t = some y) => hexF_bd HTN.out h)
        go_wp2_with (first
          | (go_at_call 21; (with_reducible refine K0.out.mono ?_); rintro e w' ⟨rfl, rfl⟩)
          | (go_at_call 22; (with_reducible refine (qdigit_any _ _).mono ?_); rintro e w' ⟨rfl, rfl⟩; rw [hg]))
        clear K0
        go_loopw [13, 14, 15] (fun nv gv jv wl => ∃ m l : Nat, l ≤ j ∧ m ≤ k ∧ Hid (m = i + l) ∧ jv = .int .i64 (m : Int) ∧ nv = .int .u32 (w32 (hxV (t.take l))) ∧ gv = .int .i64 (((noz (t.take l)).length : Nat) : Int) ∧ wl = wr) (fun _ _ jv _ => k - (intOf jv).toNat)
        case atStart => exact ⟨i, 0, Nat.zero_le _, by have := HK.out; omega, Lib.hid rfl, rfl, rfl, rfl, rfl⟩
        case round =>
          obtain ⟨m, l, hl, hm, HM, rfl, rfl, rfl, hwl⟩ := hrel
          subst hwl
          obtain ⟨u, hu⟩ : ∃ u, u = hxV (t.take l) := ⟨_, rfl⟩
          obtain ⟨v, hv⟩ : ∃ v, v = w32 u := ⟨_, rfl⟩
          obtain ⟨g, hgg⟩ : ∃ g, g = (noz (t.take l)).length := ⟨_, rfl⟩
          have hg9 : g ≤ 65535 := by
            rw [hgg]
            have h1 := (List.dropWhile_sublist (l := t.take l) (fun c => c == 48)).length_le
            have h2 : (noz (t.take l)).length ≤ (t.take l).length := h1
            rw [List.length_take] at h2
            omega
          have hv0 : 0 ≤ v ∧ v ≤ 4294967295 := by rw [hv]; exact w32_bd _
          obtain ⟨hv1, hv2⟩ := hv0
          rw [← hu, ← hv, ← hgg]
          by_cases hlj : l < j
          · have hmk : m + 1 ≤ k := by have := HM.out; have := HK.out; omega
            obtain ⟨y, hc, HS, hy⟩ := HAR.out m l HM hlj
            have HG := Lib.hid (show (noz (t.take (l + 1))).length = if g = 0 ∧ y = 48 then 0 else g + 1 by
              rw [HS, noz_snoc]
              by_cases h : noz (t.take l) = [] ∧ y = 48
              · have h0 : g = 0 := by rw [hgg, h.1]; rfl
                rw [if_pos h, if_pos ⟨h0, h.2⟩]; rfl
              · have h0 : ¬ (g = 0 ∧ y = 48) := fun e => h ⟨List.eq_nil_of_length_eq_zero (by rw [← hgg]; exact e.1), e.2⟩
                rw [if_neg h, if_neg h0, List.length_append, ← hgg]; rfl)
            have HV := Lib.hid (show w32 (hxV (t.take (l + 1))) = w32 (16 * v + (if y ≤ 57 then y - 48 else y - 55)) by
              rw [HS, hxV_snoc, ← hu, hv]
              unfold w32
              split <;> omega)
            clear hu hv hgg HS
            rcases hy with hy | hy
            · obtain ⟨hy1, hy2⟩ := hy
              have hgd : digB y = true := decide_eq_true ⟨hy1, hy2⟩
              rw [if_pos hy2] at HV
              by_cases h48 : g = 0 ∧ y = 48
              · rw [if_pos h48] at HG
                obtain ⟨rfl, rfl⟩ := h48
                go_wp2_with (go_at_call 22; (with_reducible refine (qdigit_any _ _).mono ?_); rintro e w' ⟨rfl, rfl⟩; rw [hgd])
                exact ⟨⟨m + 1, l + 1, by omega, by omega, Lib.hid (by have := HM.out; omega), by simp, by rw [HV.out]; unfold w32; congr 1; omega, by rw [HG.out]; rfl, (by first | rfl | trivial)⟩, by simp [intOf]; omega⟩
              · rw [if_neg h48] at HG
                by_cases hg0 : g = 0
                · subst hg0
                  have hy3 : 48 < y := by omega
                  go_wp2_with (go_at_call 22; (with_reducible refine (qdigit_any _ _).mono ?_); rintro e w' ⟨rfl, rfl⟩; rw [hgd])
                  exact ⟨⟨m + 1, l + 1, by omega, by omega, Lib.hid (by have := HM.out; omega), by simp, by rw [HV.out]; unfold w32; congr 1; omega, by rw [HG.out]; simp, (by first | rfl | trivial)⟩, by simp [intOf]; omega⟩
                · have hg1 : 0 < g := by omega
                  clear h48 hg0
                  go_wp2_with (go_at_call 22; (with_reducible refine (qdigit_any _ _).mono ?_); rintro e w' ⟨rfl, rfl⟩; rw [hgd])
                  exact ⟨⟨m + 1, l + 1, by omega, by omega, Lib.hid (by have := HM.out; omega), by simp, by rw [HV.out]; unfold w32; congr 1; omega, by rw [HG.out]; simp, (by first | rfl | trivial)⟩, by simp [intOf]; omega⟩
            · obtain ⟨hy1, hy2⟩ := hy
              have hgd : digB y = false := decide_eq_false (by omega)
              rw [if_neg (by omega)] at HV HG
              by_cases hg0 : g = 0
              · subst hg0
                go_wp2_with (go_at_call 22; (with_reducible refine (qdigit_any _ _).mono ?_); rintro e w' ⟨rfl, rfl⟩; rw [hgd])
                exact ⟨⟨m + 1, l + 1, by omega, by omega, Lib.hid (by have := HM.out; omega), by simp, by rw [HV.out]; unfold w32; congr 1; omega, by rw [HG.out]; simp, (by first | rfl | trivial)⟩, by simp [intOf]; omega⟩
              · have hg1 : 0 < g := by omega
                clear hg0
                go_wp2_with (go_at_call 22; (with_reducible refine (qdigit_any _ _).mono ?_); rintro e w' ⟨rfl, rfl⟩; rw [hgd])
                exact ⟨⟨m + 1, l + 1, by omega, by omega, Lib.hid (by have := HM.out; omega), by simp, by rw [HV.out]; unfold w32; congr 1; omega, by rw [HG.out]; simp, (by first | rfl | trivial)⟩, by simp [intOf]; omega⟩
          · obtain rfl : l = j := by omega
            obtain rfl : m = k := by have := HM.out; have := HK.out; omega
            have htt : t.take l = t := List.take_of_length_le (by rw [HTL.out]; exact Nat.le_refl _)
            rw [htt] at hu hgg
            rw [← hgg, ← hu] at HXF
            have HV := Lib.hid hv
            clear hu hv hgg htt hlj
            go_wp2_with fail
            refine bodyPost_ret (results_tmp4 rfl _ _ _) rfl ?_
            refine ⟨HH.out _ _ (by first | rfl | trivial) ?_ ?_, by first | rfl | trivial⟩
            · rw [HXF.out]; by_cases h : 8 < g <;> simp [h] <;> omega
            · intro y hy
              rw [HXF.out] at hy
              split at hy
              · cases hy
              · obtain rfl := Option.some.inj hy
                have := HV.out
                unfold w32 at this
                first | (unfold wrap32; omega) | (simp [wrap32]; omega)
      by_cases h88 : z = 88
      · subst h88
        clear HD hz2
        have HXF := Lib.hid (hexF_eq t)
        have HXB := Lib.hid (fun y (h : hexF t = some y) => hexF_bd HTN.out h)
        go_wp2_with (first
          | (go_at_call 21; (with_reducible refine K0.out.mono ?_); rintro e w' ⟨rfl, rfl⟩)
          | (go_at_call 22; (with_reducible refine (qdigit_any _ _).mono ?_); rintro e w' ⟨rfl, rfl⟩; rw [hg]))
        clear K0
        go_loopw [13, 14, 15] (fun nv gv jv wl => ∃ m l : Nat, l ≤ j ∧ m ≤ k ∧ Hid (m = i + l) ∧ jv = .int .i64 (m : Int) ∧ nv = .int .u32 (w32 (hxV (t.take l))) ∧ gv = .int .i64 (((noz (t.take l)).length : Nat) : Int) ∧ wl = wr) (fun _ _ jv _ => k - (intOf jv).toNat)
        case atStart => exact ⟨i, 0, Nat.zero_le _, by have := HK.out; omega, Lib.hid rfl, rfl, rfl, rfl, rfl⟩
        case round =>
          obtain ⟨m, l, hl, hm, HM, rfl, rfl, rfl, hwl⟩ := hrel
          subst hwl
          obtain ⟨u, hu⟩ : ∃ u, u = hxV (t.take l) := ⟨_, rfl⟩
          obtain ⟨v, hv⟩ : ∃ v, v = w32 u := ⟨_, rfl⟩
          obtain ⟨g, hgg⟩ : ∃ g, g = (noz (t.take l)).length := ⟨_, rfl⟩
          have hg9 : g ≤ 65535 := by
            rw [hgg]
            have h1 := (List.dropWhile_sublist (l := t.take l) (fun c => c == 48)).length_le
            have h2 : (noz (t.take l)).length ≤ (t.take l).length := h1
            rw [List.length_take] at h2
            omega
          have hv0 : 0 ≤ v ∧ v ≤ 4294967295 := by rw [hv]; exact w32_bd _
          obtain ⟨hv1, hv2⟩ := hv0
          rw [← hu, ← hv, ← hgg]
          by_cases hlj : l < j
          · have hmk : m + 1 ≤ k := by have := HM.out; have := HK.out; omega
            obtain ⟨y, hc, HS, hy⟩ := HAR.out m l HM hlj
            have HG := Lib.hid (show (noz (t.take (l + 1))).length = if g = 0 ∧ y = 48 then 0 else g + 1 by
              rw [HS, noz_snoc]
              by_cases h : noz (t.take l) = [] ∧ y = 48
              · have h0 : g = 0 := by rw [hgg, h.1]; rfl
                rw [if_pos h, if_pos ⟨h0, h.2⟩]; rfl
              · have h0 : ¬ (g = 0 ∧ y = 48) := fun e => h ⟨List.eq_nil_of_length_eq_zero (by rw [← hgg]; exact e.1), e.2⟩
                rw [if_neg h, if_neg h0, List.length_append, ← hgg]; rfl)
            have HV := Lib.hid (show w32 (hxV (t.take (l + 1))) = w32 (16 * v + (if y ≤ 57 then y - 48 else y - 55)) by
              rw [HS, hxV_snoc, ← hu, hv]
              unfold w32
              split <;> omega)
            clear hu hv hgg HS
            rcases hy with hy | hy
            · obtain ⟨hy1, hy2⟩ := hy
              have hgd : digB y = true := decide_eq_true ⟨hy1, hy2⟩
              rw [if_pos hy2] at HV
              by_cases h48 : g = 0 ∧ y = 48
              · rw [if_pos h48] at HG
                obtain ⟨rfl, rfl⟩ := h48
                go_wp2_with (go_at_call 22; (with_reducible refine (qdigit_any _ _).mono ?_); rintro e w' ⟨rfl, rfl⟩; rw [hgd])
                exact ⟨⟨m + 1, l + 1, by omega, by omega, Lib.hid (by have := HM.out; omega), by simp, by rw [HV.out]; unfold w32; congr 1; omega, by rw [HG.out]; rfl, (by first | rfl | trivial)⟩, by simp [intOf]; omega⟩
              · rw [if_neg h48] at HG
                by_cases hg0 : g = 0
                · subst hg0
                  have hy3 : 48 < y := by omega
                  go_wp2_with (go_at_call 22; (with_reducible refine (qdigit_any _ _).mono ?_); rintro e w' ⟨rfl, rfl⟩; rw [hgd])
                  exact ⟨⟨m + 1, l + 1, by omega, by omega, Lib.hid (by have := HM.out; omega), by simp, by rw [HV.out]; unfold w32; congr 1; omega, by rw [HG.out]; simp, (by first | rfl | trivial)⟩, by simp [intOf]; omega⟩
                · have hg1 : 0 < g := by omega
                  clear h48 hg0
                  go_wp2_with (go_at_call 22; (with_reducible refine (qdigit_any _ _).mono ?_); rintro e w' ⟨rfl, rfl⟩; rw [hgd])
                  exact ⟨⟨m + 1, l + 1, by omega, by omega, Lib.hid (by have := HM.out; omega), by simp, by rw [HV.out]; unfold w32; congr 1; omega, by rw [HG.out]; simp, (by first | rfl | trivial)⟩, by simp [intOf]; omega⟩
            · obtain ⟨hy1, hy2⟩ := hy
              have hgd : digB y = false := decide_eq_false (by omega)
              rw [if_neg (by omega)] at HV HG
              by_cases hg0 : g = 0
              · subst hg0
                go_wp2_with (go_at_call 22; (with_reducible refine (qdigit_any _ _).mono ?_); rintro e w' ⟨rfl, rfl⟩; rw [hgd])
                exact ⟨⟨m + 1, l + 1, by omega, by omega, Lib.hid (by have := HM.out; omega), by simp, by rw [HV.out]; unfold w32; congr 1; omega, by rw [HG.out]; simp, (by first | rfl | trivial)⟩, by simp [intOf]; omega⟩
              · have hg1 : 0 < g := by omega
                clear hg0
                go_wp2_with (go_at_call 22; (with_reducible refine (qdigit_any _ _).mono ?_); rintro e w' ⟨rfl, rfl⟩; rw [hgd])
                exact ⟨⟨m + 1, l + 1, by omega, by omega, Lib.hid (by have := HM.out; omega), by simp, by rw [HV.out]; unfold w32; congr 1; omega, by rw [HG.out]; simp, (by first | rfl | trivial)⟩, by simp [intOf]; omega⟩
          · obtain rfl : l = j := by omega
            obtain rfl : m = k := by have := HM.out; have := HK.out; omega
            have htt : t.take l = t := List.take_of_length_le (by rw [HTL.out]; exact Nat.le_refl _)
            rw [htt] at hu hgg
            rw [← hgg, ← hu] at HXF
            have HV := Lib.hid hv
            clear hu hv hgg htt hlj
            by_cases h8 : 8 < g
            · rw [if_pos h8] at HXF
              have h8b : decide ((g : Int) ≤ 8) = false := by simp; omega
              go_wp2_with fail
              refine bodyPost_ret (results_tmp4 rfl _ _ _) rfl ?_
              refine ⟨HR.out _ _ (by first | rfl | trivial) ?_ ?_, by first | rfl | trivial⟩
              · rw [HXF.out]; rfl
              · intro y hy; rw [HXF.out] at hy; cases hy
            · rw [if_neg h8] at HXF
              have hub := HXB.out u HXF.out
              have h8b : g ≤ 8 := by omega
              have hvu : v = u := by rw [HV.out]; unfold w32; omega
              subst hvu
              clear HV
              go_wp2_with fail
              refine bodyPost_ret (results_tmp4 rfl _ _ _) rfl ?_
              refine ⟨HR.out _ _ (by first | rfl | trivial) ?_ ?_, by first | rfl | trivial⟩
              · rw [HXF.out]
                show _ = (if v ≤ 255 then some v else none).isSome
                by_cases h : v ≤ 255 <;> simp [h] <;> omega
              · intro y hy
                rw [HXF.out] at hy
                obtain rfl := Option.some.inj hy
                first | (unfold wrap32; omega) | (simp [wrap32]; omega)
      have h72b : (z != 72) = true := by simpa using h72
      have h88b : (z != 88) = true := by simpa using h88
      have HD2 := Lib.hid (fun x b => HD.out z x b rfl h72 h88)
      clear HD HH HR h72 h88
      rcases hz2 with hz2 | ⟨hz2, hz3⟩
      all_goals
        go_wp2_with (first
          | (go_at_call 21; (with_reducible refine K0.out.mono ?_); rintro e w' ⟨rfl, rfl⟩)
          | (go_at_call 22; (with_reducible refine (qdigit_any _ _).mono ?_); rintro e w' ⟨rfl, rfl⟩; rw [hg]))
        clear K0
        have HDF := Lib.hid (decF_eq t)
        rw [← HDD.out] at HDF
        have HMN := Lib.hid (dcV_take t fun y hy => (nu_bd (HTN.out y hy)).1)
        go_loopw [11, 12] (fun nv jv wl => ∃ m l : Nat, l ≤ j ∧ m ≤ k ∧ Hid (m = i + l) ∧ jv = .int .i64 (m : Int) ∧ nv = .int .i64 (dcV (t.take l)) ∧ dcV (t.take l) ≤ 30000000000 ∧ wl = wr) (fun _ jv _ => k - (intOf jv).toNat)
        case atStart => exact ⟨i, 0, Nat.zero_le _, by have := HK.out; omega, Lib.hid rfl, rfl, rfl, by show (0 : Int) ≤ _; omega, rfl⟩
        case round =>
          obtain ⟨m, l, hl, hm, HM, rfl, rfl, hv2, hwl⟩ := hrel
          subst hwl
          obtain ⟨hv0, hv1⟩ := HMN.out l
          obtain ⟨v, hv⟩ : ∃ v, v = dcV (t.take l) := ⟨_, rfl⟩
          rw [← hv] at hv0 hv1 hv2 ⊢
          have HV := Lib.hid hv
          clear hv
          by_cases hlj : l < j
          · have hmk : m + 1 ≤ k := by have := HM.out; have := HK.out; omega
            obtain ⟨y, hc, HS, hy⟩ := HAR.out m l HM hlj
            by_cases hbig : v ≤ 2147483648
            · have HN := Lib.hid (show dcV (t.take (l + 1)) = 10 * v + (y - 48) by rw [HS, dcV_snoc, HV.out])
              have hy2 : 48 ≤ y ∧ y ≤ 70 := by omega
              obtain ⟨hy3, hy4⟩ := hy2
              clear HS hy hv1
              go_wp2_with fail
              exact ⟨⟨m + 1, l + 1, by omega, by omega, Lib.hid (by have := HM.out; omega), by simp, by rw [HN.out]; congr 1; omega, by rw [HN.out]; omega, (by first | rfl | trivial)⟩, by simp [intOf]; omega⟩
            · have hno : ¬ (d = true ∧ dcV t ≤ 2147483647) := fun e => by omega
              rw [if_neg hno] at HDF
              cases d
              all_goals
                clear hv1 HS hc hno
                go_wp2_with fail
                refine bodyPost_ret (results_tmp4 rfl _ _ _) rfl ?_
                refine ⟨HD2.out _ _ ?_ ?_, by first | rfl | trivial⟩
                · rw [HDF.out]; first | rfl | (simp; done) | (simp; omega)
                · intro y hy; rw [HDF.out] at hy; cases hy
          · obtain rfl : l = j := by omega
            obtain rfl : m = k := by have := HM.out; have := HK.out; omega
            have htt : t.take l = t := List.take_of_length_le (by rw [HTL.out]; exact Nat.le_refl _)
            have hv3 : dcV t = v := by rw [HV.out, htt]
            rw [hv3] at HDF
            clear hv1 hv3 htt hlj
            cases d
            all_goals
              go_wp2_with fail
              refine bodyPost_ret (results_tmp4 rfl _ _ _) rfl ?_
              refine ⟨HD2.out _ _ ?_ ?_, by first | rfl | trivial⟩
              · rw [HDF.out]; by_cases h : v ≤ 2147483647 <;> simp [h] <;> omega
              · intro y hy
                rw [HDF.out] at hy
                split at hy
                · rename_i hs
                  obtain rfl := Option.some.inj hy
                  have := hs.2
                  first | (unfold wrap32; omega) | (simp [wrap32]; omega)
                · cases hy
end
end Go.Proofs.YthpdgghjaglhnaaGreatDoor
