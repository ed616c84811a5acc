/-
  Numbers, plainly: digits without noughts ahead; decimal texts, hexadecimal texts.
-/
import Derived.Test.YthpdgghjaglhnaaGreatDoorSnK
import Derived.Test.YthpdgghjaglhnaaGreatDoorSnG
namespace Go.Proofs.YthpdgghjaglhnaaGreatDoor
open Go.ChangeShapes Go.WideShapes Go.ChangeAt Go.RowKit
set_option linter.unusedVariables false
set_option linter.unusedSimpArgs false
def nuB (c : Int) : Bool := digB c || (decide (65 ≤ c) && decide (c ≤ 70))
theorem nuB_0 : nuB 0 = false := by decide
def hxV (z : List Int) : Int := z.foldl (fun n c => 16 * n + (if c ≤ 57 then c - 48 else c - 55)) 0
def dcV (z : List Int) : Int := z.foldl (fun n c => 10 * n + (c - 48)) 0
def noz (t : List Int) : List Int := t.dropWhile (fun c => c == 48)
def hexF (t : List Int) : Option Int := if 8 < (noz t).length then none else some (hxV (noz t))
def decF (t : List Int) : Option Int := if (noz t).all digB = true ∧ dcV (noz t) ≤ 2147483647 then some (dcV (noz t)) else none
/-- bytes of numbers -/
def NuL (t : List Int) : Prop := ∀ c ∈ t, nuB c = true
theorem nu_cases {c : Int} (h : nuB c = true) : (48 ≤ c ∧ c ≤ 57) ∨ (65 ≤ c ∧ c ≤ 70) := by
  unfold nuB digB at h
  simp only [Bool.or_eq_true, Bool.and_eq_true, decide_eq_true_eq] at h
  exact h
theorem noz_sub (t : List Int) : ∀ c ∈ noz t, c ∈ t := fun c hc => (List.dropWhile_sublist _).mem hc
theorem noz_head (t : List Int) : noz t = [] ∨ ∃ c r, noz t = c :: r ∧ c ≠ 48 := by
  unfold noz
  induction t with
  | nil => exact .inl rfl
  | cons c r ih =>
    rw [List.dropWhile_cons]
    by_cases h : c = 48
    · rw [if_pos (by simpa using h)]; exact ih
    · rw [if_neg (by simpa using h)]; exact .inr ⟨c, r, rfl, h⟩
theorem u8_nat {c : Int} (h0 : 0 ≤ c) (h1 : c < 256) : ((UInt8.ofNat c.toNat).toNat : Int) = c := by
  simp; omega
theorem u8_natn {c : Int} (h0 : 0 ≤ c) (h1 : c < 256) : (UInt8.ofNat c.toNat).toNat = c.toNat := by
  simp; omega
theorem chars_trim (t : List Int) (h : ∀ c ∈ t, 0 ≤ c ∧ c < 256) : Lib.trimLeftB (chars t) 48 = chars (noz t) := by
  unfold Lib.trimLeftB chars noz
  induction t with
  | nil => rfl
  | cons c r ih =>
    obtain ⟨c0, c1⟩ := h c List.mem_cons_self
    rw [List.map_cons, List.dropWhile_cons, List.dropWhile_cons]
    have e : (UInt8.ofNat c.toNat == 48) = (c == 48) := by
      rw [Bool.eq_iff_iff]
      simp only [beq_iff_eq]
      constructor
      · intro e
        have := congrArg UInt8.toNat e
        rw [u8_natn c0 c1] at this
        have e48 : (48 : UInt8).toNat = 48 := rfl
        rw [e48] at this
        omega
      · intro e; subst e; rfl
    rw [e]
    cases (c == 48)
    · rfl
    · exact ih fun c hc => h c (List.mem_cons_of_mem _ hc)
theorem chars_len (t : List Int) : (chars t).length = t.length := by unfold chars; simp
/-! ### decimal -/
theorem decDigits_lt (u : Nat) (h : u < 10) : Lib.decDigits u = [UInt8.ofNat (48 + u)] := by
  rw [Lib.decDigits]; simp [h]
theorem decDigits_ge (u : Nat) (h : 10 ≤ u) : Lib.decDigits u = Lib.decDigits (u / 10) ++ [UInt8.ofNat (48 + u % 10)] := by
  rw [Lib.decDigits]; simp [show ¬ u < 10 by omega]
theorem dval_chars (t : List Int) (h : ∀ c ∈ t, 0 ≤ c ∧ c < 256) : dval (chars t) = dcV t := by
  induction t using snoc_rec with
  | h0 => rfl
  | h1 l c ih =>
    obtain ⟨c0, c1⟩ := h c (by simp)
    have e : chars (l ++ [c]) = chars l ++ [UInt8.ofNat c.toNat] := by unfold chars; simp
    rw [e, dval_snoc, ih fun x hx => h x (by simp [hx]), u8_nat c0 c1]
    unfold dcV
    rw [List.foldl_append]; rfl
theorem dcV_snoc (l : List Int) (c : Int) : dcV (l ++ [c]) = 10 * dcV l + (c - 48) := by unfold dcV; rw [List.foldl_append]; rfl
theorem dec_inv (z : List Int) : z ≠ [] → (∀ c, z.head? = some c → c ≠ 48) → (∀ c ∈ z, 48 ≤ c ∧ c ≤ 57) → Lib.decDigits (dcV z).toNat = chars z ∧ 1 ≤ dcV z := by
  induction z using snoc_rec with
  | h0 => intro h; exact absurd rfl h
  | h1 l c ih =>
    intro _ hh hd
    obtain ⟨c0, c1⟩ := hd c (by simp)
    have e : chars (l ++ [c]) = chars l ++ [UInt8.ofNat c.toNat] := by unfold chars; simp
    rw [e, dcV_snoc]
    by_cases hl : l = []
    · subst hl
      have hc : c ≠ 48 := hh c rfl
      have e0 : dcV [] = 0 := rfl
      rw [e0, decDigits_lt _ (by omega)]
      refine ⟨?_, by omega⟩
      show [UInt8.ofNat (48 + (10 * 0 + (c - 48)).toNat)] = [] ++ [UInt8.ofNat c.toNat]
      rw [show 48 + (10 * 0 + (c - 48)).toNat = c.toNat by omega]; rfl
    · have hh2 : ∀ x, l.head? = some x → x ≠ 48 := fun x hx => hh x (by rw [List.head?_append]; rw [hx]; rfl)
      obtain ⟨i1, i2⟩ := ih hl hh2 fun x hx => hd x (by simp [hx])
      refine ⟨?_, by omega⟩
      rw [decDigits_ge _ (by omega), show (10 * dcV l + (c - 48)).toNat / 10 = (dcV l).toNat by omega, i1, show 48 + (10 * dcV l + (c - 48)).toNat % 10 = c.toNat by omega]
theorem noz_hd (t : List Int) : ∀ c, (noz t).head? = some c → c ≠ 48 := by
  intro c hc
  rcases noz_head t with h | ⟨d, r, h, hd⟩
  · rw [h] at hc; cases hc
  · rw [h] at hc
    obtain rfl : d = c := Option.some.inj hc
    exact hd
/-- the text of a number that may be -/
theorem dec_yes {t : List Int} (ht : NuL t) {v : Int} (h : decF t = some v) : 0 ≤ v ∧ v ≤ 2147483647 ∧ (if noz t = [] then bs [48] else bs (chars (noz t))) = S (Lib.decDigits v.toNat) := by
  unfold decF at h
  split at h
  · rename_i hc
    obtain ⟨hd, hv⟩ := hc
    obtain rfl := Option.some.inj h
    have hdd : ∀ c ∈ noz t, 48 ≤ c ∧ c ≤ 57 := fun c hc => by
      have := List.all_eq_true.1 hd c hc
      unfold digB at this
      simpa using this
    by_cases hz : noz t = []
    · rw [if_pos hz, hz]
      refine ⟨by decide, by decide, ?_⟩
      show bs [48] = S (Lib.decDigits 0)
      rw [decDigits_lt 0 (by omega)]; rfl
    · obtain ⟨i1, i2⟩ := dec_inv _ hz (noz_hd t) hdd
      rw [if_neg hz, i1]
      exact ⟨by omega, hv, rfl⟩
  · cases h
theorem dec_not {t : List Int} (ht : NuL t) (h : decF t = none) : noz t ≠ [] ∧ ∀ v : Int, -2147483648 ≤ v → v ≤ 2147483647 → itoaB v ≠ bs (chars (noz t)) := by
  have hz : noz t ≠ [] := by
    intro hz
    unfold decF at h
    rw [hz] at h
    simp [dcV] at h
  refine ⟨hz, fun v v0 v1 e => ?_⟩
  have e2 : Lib.itoa v = chars (noz t) := S_inj e
  have hb : ∀ c ∈ noz t, 0 ≤ c ∧ c < 256 := fun c hc => by have := nu_cases (ht c (noz_sub t c hc)); omega
  unfold Lib.itoa at e2
  split at e2
  · rcases noz_head t with h0 | ⟨c, r, h0, _⟩
    · exact hz h0
    · rw [h0] at e2
      have hc := nu_cases (ht c (noz_sub t c (by rw [h0]; exact List.mem_cons_self)))
      have e3 : (45 : UInt8) = UInt8.ofNat c.toNat := by unfold chars at e2; rw [List.map_cons] at e2; injection e2
      have e4 := congrArg UInt8.toNat e3
      rw [u8_natn (by omega) (by omega)] at e4
      have e45 : (45 : UInt8).toNat = 45 := rfl
      omega
  · rename_i hv
    have hd : (noz t).all digB = true := by
      rw [List.all_eq_true]
      intro c hc
      have h1 : UInt8.ofNat c.toNat ∈ Lib.decDigits v.toNat := by
        rw [e2]
        exact List.mem_map_of_mem hc
      have h2 := decDigits_dig v.toNat _ h1
      unfold isDig at h2
      have h3 := hb c hc
      rw [u8_natn h3.1 h3.2] at h2
      unfold digB
      simp only [decide_eq_true_eq]
      omega
    have hval : dcV (noz t) = v := by
      rw [← dval_chars _ hb, ← e2, dval_decDigits]; omega
    unfold decF at h
    rw [if_pos ⟨hd, by omega⟩] at h
    cases h
/-! ### hexadecimal -/
def hexTx (z : List Int) : List UInt8 := Lib.repeatL [48] (8 - z.length) ++ Lib.toLowerA (chars z)
theorem low_hex {c : Int} (h : nuB c = true) : isHex (Lib.lowerB (UInt8.ofNat c.toNat)) ∧ (hdig (Lib.lowerB (UInt8.ofNat c.toNat)) : Int) = if c ≤ 57 then c - 48 else c - 55 := by
  have key : ∀ n : Nat, n < 71 → (48 ≤ n ∧ n ≤ 57 ∨ 65 ≤ n) → isHex (Lib.lowerB (UInt8.ofNat n)) ∧ hdig (Lib.lowerB (UInt8.ofNat n)) = if n ≤ 57 then n - 48 else n - 55 := by decide
  have hc := nu_cases h
  obtain ⟨k1, k2⟩ := key c.toNat (by omega) (by omega)
  refine ⟨k1, ?_⟩
  rw [k2]
  by_cases h57 : c ≤ 57
  · rw [if_pos h57, if_pos (by omega)]; omega
  · rw [if_neg h57, if_neg (by omega)]; omega
theorem hexTx_len (z : List Int) (h : z.length ≤ 8) : (hexTx z).length = 8 := by
  unfold hexTx Lib.toLowerA
  rw [List.length_append, Lib.repeatL_length, List.length_map, chars_len]
  simp; omega
theorem rep_hex (k : Nat) : ∀ c ∈ Lib.repeatL [48] k, c = 48 := by
  induction k with
  | zero => intro c hc; cases hc
  | succ k ih =>
    intro c hc
    rw [Lib.repeatL] at hc
    rcases List.mem_append.1 hc with h | h
    · simpa using h
    · exact ih c h
theorem hexTx_hex {z : List Int} (hz : NuL z) : ∀ c ∈ hexTx z, isHex c := by
  intro c hc
  unfold hexTx at hc
  rcases List.mem_append.1 hc with h | h
  · rw [rep_hex _ c h]; decide
  · unfold Lib.toLowerA chars at h
    rw [List.map_map] at h
    obtain ⟨x, hx, rfl⟩ := List.mem_map.1 h
    exact (low_hex (hz x hx)).1
theorem hnat_rep (k : Nat) (l : List UInt8) : hnat (Lib.repeatL [48] k ++ l) = hnat l := by
  induction k with
  | zero => rfl
  | succ k ih =>
    rw [Lib.repeatL, List.append_assoc]
    unfold hnat at *
    rw [List.foldl_append]
    exact ih
theorem hexTx_val {z : List Int} (hz : NuL z) (hl : z.length ≤ 8) : rhex (hexTx z) = hxV z ∧ 0 ≤ hxV z ∧ hxV z ≤ 4294967295 := by
  have h1 := hnat_all (hexTx z) (hexTx_hex hz)
  have h2 := h1.2.2 (by rw [hexTx_len z hl]; omega)
  have h3 : (hnat (hexTx z) : Int) = hxV z := by
    unfold hexTx
    rw [hnat_rep]
    unfold Lib.toLowerA chars
    clear h1 h2
    induction z using snoc_rec with
    | h0 => rfl
    | h1 l c ih =>
      rw [List.map_append, List.map_append, List.map_cons, List.map_nil, List.map_cons, List.map_nil, hnat_snoc]
      have hv : hxV (l ++ [c]) = 16 * hxV l + (if c ≤ 57 then c - 48 else c - 55) := by unfold hxV; rw [List.foldl_append]; rfl
      rw [hv, ← ih (fun x hx => hz x (by simp [hx])) (by simp at hl; omega), ← (low_hex (hz c (by simp))).2]
      push_cast
      rfl
  have h4 := h1.2.1
  rw [hexTx_len z hl] at h4
  rw [h2, ← h3]
  refine ⟨rfl, by omega, ?_⟩
  have : (16 : Nat) ^ 8 = 4294967296 := by decide
  omega
set_option maxRecDepth 100000 in
set_option maxHeartbeats 2000000 in
/-- hex -/
theorem hex_any {w : World} {A : Option Addr} {n c : Nat} {t : List Int} (hr : Rd w w.heap.size .u8 A n t) (ht : NuL t) (hn : n ≤ 65535) :
    Calls Tryz.prog 40 #[.slice A n c] w fun e w' => e = .returned (.tuple #[.int .u32 ((hexF t).getD 0), .bool (hexF t).isSome]) ∧ Below w.heap.size w w' := by
  have hb : ∀ x ∈ t, 0 ≤ x ∧ x < 256 := fun x hx => by have := nu_cases (ht x hx); omega
  have hcv := conv_rd hr c
  rw [strOf_bs] at hcv
  have HTR : Hid (Calls Tryz.prog 43 #[.string (bs (chars t)), .string ⟨#[48]⟩] w fun e w' => e = .returned (.string (bs (chars (noz t)))) ∧ w' = w) := Lib.hid ((Tryz.strings_TrimLeft_one (bs (chars t)) 48 (by decide) w).mono fun e w' ⟨he, hw⟩ => ⟨by
    rw [he]
    have e2 : Lib.trimLeftB (bs (chars t)).data.toList 48 = chars (noz t) := chars_trim t hb
    rw [e2]; rfl, hw⟩)
  have hsz : (bs (chars (noz t))).size = (noz t).length := by unfold bs; show (chars (noz t)).length = _; exact chars_len _
  have hlz : (noz t).length ≤ 65535 := by have := (List.dropWhile_sublist (fun c : Int => c == 48) (l := t)).length_le; have := hr.1; unfold noz; omega
  by_cases h8 : 8 < (noz t).length
  · have e : hexF t = none := by unfold hexF; rw [if_pos h8]
    rw [e]
    have h8b : decide (((bs (chars (noz t))).size : Int) > 8) = true := by rw [hsz]; simp; omega
    generalize bs (chars (noz t)) = z at *
    clear hr ht hb hsz hlz e h8
    go_enter Tryz.func40, Tryz.ntmps40
    go_wp2_with (go_at_call 43; (with_reducible refine HTR.out.mono ?_); rintro e w' ⟨rfl, rfl⟩)
    go_ret2
    exact ⟨rfl, Below.refl _ _⟩
  · have e : hexF t = some (hxV (noz t)) := by unfold hexF; rw [if_neg h8]
    have hz : NuL (noz t) := fun c hc => ht c (noz_sub t c hc)
    obtain ⟨v1, v2, v3⟩ := hexTx_val hz (by omega)
    have HOF := Lib.hid fun V => ofHex_yes (hexTx (noz t)) (hexTx_len _ (by omega)) (hexTx_hex hz) V
    rw [v1] at HOF
    rw [e]
    have HRP : Hid (∀ V, Calls Tryz.prog 45 #[.string ⟨#[48]⟩, .int .i64 ((8 - (noz t).length : Nat) : Int)] V fun e w' => e = .returned (.string (bs (Lib.repeatL [48] (8 - (noz t).length)))) ∧ Below V.heap.size V w') := Lib.hid fun V => (Tryz.strings_Repeat ⟨#[48]⟩ (8 - (noz t).length) V (by omega) (by show 1 * _ ≤ _; omega)).mono fun e w' he => he
    have HLW : Hid (∀ V, Calls Tryz.prog 46 #[.string (bs (chars (noz t)))] V fun e w' => e = .returned (.string (bs (Lib.toLowerA (chars (noz t))))) ∧ Below V.heap.size V w') := Lib.hid fun V => (Tryz.strings_ToLower_ascii (bs (chars (noz t))) V (by rw [hsz]; omega) (fun j b hj => by
      have hm : b ∈ chars (noz t) := List.mem_of_getElem? hj
      unfold chars at hm
      obtain ⟨x, hx, rfl⟩ := List.mem_map.1 hm
      have := nu_cases (hz x hx)
      rw [u8_natn (by omega) (by omega)]
      omega)).mono fun e w' he => he
    have hcat : bs (Lib.repeatL [48] (8 - (noz t).length)) ++ bs (Lib.toLowerA (chars (noz t))) = S (hexTx (noz t)) := S_append _ _
    have h8b : decide (((bs (chars (noz t))).size : Int) > 8) = false := by rw [hsz]; simp; omega
    have h8c : (8 : Int) - ((bs (chars (noz t))).size : Int) = ((8 - (noz t).length : Nat) : Int) := by rw [hsz]; omega
    have hs8 : (bs (chars (noz t))).size ≤ 8 := by omega
    have hR : (bs (Lib.repeatL [48] (8 - (noz t).length))).size ≤ 8 := by
      show (Lib.repeatL [48] (8 - (noz t).length)).length ≤ 8
      rw [Lib.repeatL_length]; simp
    have hL : (bs (Lib.toLowerA (chars (noz t)))).size ≤ 8 := by
      show (Lib.toLowerA (chars (noz t))).length ≤ 8
      unfold Lib.toLowerA
      rw [List.length_map, chars_len]; omega
    have HOF : Hid (∀ V, Calls Tryz.prog 44 #[.string (bs (Lib.repeatL [48] (8 - (noz t).length)) ++ bs (Lib.toLowerA (chars (noz t))))] V fun e w' => e = .returned (.tuple #[.int .u32 (hxV (noz t)), .int .i64 0]) ∧ Below V.heap.size V w') := Lib.hid fun V => by rw [hcat]; exact HOF.out V
    rw [← h8c] at HRP
    generalize hxV (noz t) = v at *
    generalize bs (Lib.repeatL [48] (8 - (noz t).length)) = R at *
    generalize bs (Lib.toLowerA (chars (noz t))) = L at *
    generalize bs (chars (noz t)) = z at *
    clear hr ht hb hsz hlz e h8 hcat h8c hz v1 v2 v3 h8b
    go_enter Tryz.func40, Tryz.ntmps40
    go_wp2_with (first
      | (go_at_call 43; (with_reducible refine HTR.out.mono ?_); rintro e w' ⟨rfl, rfl⟩)
      | (go_at_call 45; (with_reducible refine (HRP.out _).mono ?_); rintro e w1 ⟨rfl, hb⟩; have HB1 := Lib.hid hb; clear hb)
      | (go_at_call 46; (with_reducible refine (HLW.out _).mono ?_); rintro e w2 ⟨rfl, hb⟩; have HB2 := Lib.hid (HB1.out.trans (hb.mono HB1.out.size)); clear hb)
      | (go_at_call 44; (with_reducible refine (HOF.out _).mono ?_); rintro e w3 ⟨rfl, hb⟩; have HB3 := Lib.hid (HB2.out.trans (hb.mono HB2.out.size)); clear hb))
    go_ret2
    exact ⟨rfl, HB3.out⟩
set_option maxRecDepth 100000 in
set_option maxHeartbeats 2000000 in
/-- decimal -/
theorem decimal_any {w : World} {A : Option Addr} {n c : Nat} {t : List Int} (hr : Rd w w.heap.size .u8 A n t) (ht : NuL t) (hn : n ≤ 65535) (hT : Tab w) :
    Calls Tryz.prog 41 #[.slice A n c] w fun e w' => e = .returned (.tuple #[.int .u32 ((decF t).getD 0), .bool (decF t).isSome]) ∧ Below w.heap.size w w' := by
  have hb : ∀ x ∈ t, 0 ≤ x ∧ x < 256 := fun x hx => by have := nu_cases (ht x hx); omega
  have hcv := conv_rd hr c
  rw [strOf_bs] at hcv
  have HTR : Hid (Calls Tryz.prog 43 #[.string (bs (chars t)), .string ⟨#[48]⟩] w fun e w' => e = .returned (.string (bs (chars (noz t)))) ∧ w' = w) := Lib.hid ((Tryz.strings_TrimLeft_one (bs (chars t)) 48 (by decide) w).mono fun e w' ⟨he, hw⟩ => ⟨by
    rw [he]
    have e2 : Lib.trimLeftB (bs (chars t)).data.toList 48 = chars (noz t) := chars_trim t hb
    rw [e2]; rfl, hw⟩)
  have hnil : noz t = [] ∨ noz t ≠ [] := by by_cases h : noz t = [] <;> simp [h]
  cases hd : decF t with
  | none =>
    obtain ⟨hz, hno⟩ := dec_not ht hd
    have HOD := Lib.hid (ofDec_no _ hno w hT)
    have hemp : ((bs (chars (noz t))).toList == ([] : List UInt8)) = false := by
      rw [ByteArray.toList_eq]
      show (chars (noz t) == []) = false
      cases hc : chars (noz t) with
      | nil => have := congrArg List.length hc; rw [chars_len] at this; exact absurd (List.eq_nil_of_length_eq_zero this) hz
      | cons a b => rfl
    generalize bs (chars (noz t)) = z at *
    clear hr ht hb hd hz hno hnil
    go_enter Tryz.func41, Tryz.ntmps41
    go_wp2_with (first
      | (go_at_call 43; (with_reducible refine HTR.out.mono ?_); rintro e w' ⟨rfl, rfl⟩)
      | (go_at_call 47; (with_reducible refine HOD.out.mono ?_); rintro e w3 ⟨rfl, hb⟩; have HB3 := Lib.hid hb; clear hb))
    go_ret2
    exact ⟨rfl, HB3.out⟩
  | some v =>
    obtain ⟨v0, v1, hv⟩ := dec_yes ht hd
    obtain ⟨u, rfl⟩ := Int.eq_ofNat_of_zero_le v0
    have HOD := ofDec_pos u (by omega) w hT
    have hv : (if noz t = [] then bs [48] else bs (chars (noz t))) = S (Lib.decDigits u) := hv
    rw [← hv] at HOD
    rcases hnil with hz | hz
    · rw [if_pos hz] at HOD
      have HOD := Lib.hid HOD
      have HTR : Hid (Calls Tryz.prog 43 #[.string (bs (chars t)), .string ⟨#[48]⟩] w fun e w' => e = .returned (.string ⟨#[]⟩) ∧ w' = w) := Lib.hid (by have h := HTR.out; rw [hz] at h; exact h)
      have HOD2 : Hid (Calls Tryz.prog 47 #[.string ⟨#[48]⟩] w fun e w' => e = .returned (.tuple #[.int .u32 (u : Int), .int .i64 0]) ∧ Below w.heap.size w w') := Lib.hid HOD.out
      clear hr ht hb hd hz hv HOD v0 v1
      go_enter Tryz.func41, Tryz.ntmps41
      go_wp2_with (first
        | (go_at_call 43; (with_reducible refine HTR.out.mono ?_); rintro e w' ⟨rfl, rfl⟩)
        | (go_at_call 47; (with_reducible refine HOD2.out.mono ?_); rintro e w3 ⟨rfl, hb⟩; have HB3 := Lib.hid hb; clear hb))
      go_ret2
      exact ⟨rfl, HB3.out⟩
    · rw [if_neg hz] at HOD
      have HOD := Lib.hid HOD
      have hemp : ((bs (chars (noz t))).toList == ([] : List UInt8)) = false := by
        rw [ByteArray.toList_eq]
        show (chars (noz t) == []) = false
        cases hc : chars (noz t) with
        | nil => have := congrArg List.length hc; rw [chars_len] at this; exact absurd (List.eq_nil_of_length_eq_zero this) hz
        | cons a b => rfl
      generalize bs (chars (noz t)) = z at *
      clear hr ht hb hd hz hv v0 v1
      go_enter Tryz.func41, Tryz.ntmps41
      go_wp2_with (first
        | (go_at_call 43; (with_reducible refine HTR.out.mono ?_); rintro e w' ⟨rfl, rfl⟩)
        | (go_at_call 47; (with_reducible refine HOD.out.mono ?_); rintro e w3 ⟨rfl, hb⟩; have HB3 := Lib.hid hb; clear hb))
      go_ret2
      exact ⟨rfl, HB3.out⟩
end Go.Proofs.YthpdgghjaglhnaaGreatDoor
