/-
  The contracts of OfHex, and of the reference's OfDec and OfHex.
-/
import Derived.Test.YtpfbonknajcmaaaDoorTextB

namespace Go.Proofs.YtpfbonknajcmaaaDoor
open Go.ChangeShapes Go.WideShapes Go.ChangeAt Go.RowKit
set_option linter.unusedVariables false

def bnd (j : Nat) : Int := 23 * (10 ^ j - 1)
theorem bnd_succ (j : Nat) : bnd (j + 1) = 10 * bnd j + 207 := by unfold bnd; rw [Int.pow_succ]; omega
theorem bnd_le (j : Nat) (h : j ≤ 12) : 0 ≤ bnd j ∧ bnd j ≤ 23000000000000 := by
  unfold bnd
  have h1 : (1 : Nat) ≤ 10 ^ j := Nat.one_le_pow _ _ (by omega)
  have h2 : (10 : Nat) ^ j ≤ 10 ^ 12 := Nat.pow_le_pow_right (by omega) h
  have : (10 : Int) ^ j = ((10 ^ j : Nat) : Int) := by simp
  rw [this]; omega
/-- the number that the reference reads out of a text's first 12 bytes, '-' passed over -/
def rval (l : List UInt8) : Int := l.foldl (fun n c => if c = 45 then n else 10 * n + (c.toNat : Int) - 48) 0
theorem rval_succ (l : List UInt8) (j : Nat) (h : j < l.length) : rval (l.take (j + 1)) = if l[j] = 45 then rval (l.take j) else 10 * rval (l.take j) + (l[j].toNat : Int) - 48 := by
  unfold rval
  rw [List.take_succ_eq_append_getElem h, List.foldl_append]; rfl
theorem rval_bnd (l : List UInt8) (j : Nat) : -bnd j ≤ rval (l.take j) ∧ rval (l.take j) ≤ bnd j := by
  induction j with
  | zero => simp [rval, bnd]
  | succ j ih =>
    rw [bnd_succ]
    by_cases h : j < l.length
    · rw [rval_succ l j h]
      have h1 := (l[j]).toNat_lt
      have h2 : 0 ≤ bnd j := by unfold bnd; have : (1 : Nat) ≤ 10 ^ j := Nat.one_le_pow _ _ (by omega); have e : (10 : Int) ^ j = ((10 ^ j : Nat) : Int) := by simp
                                rw [e]; omega
      split <;> omega
    · rw [List.take_of_length_le (by omega)]
      rw [List.take_of_length_le (by omega)] at ih
      have h2 : 0 ≤ bnd j := by unfold bnd; have : (1 : Nat) ≤ 10 ^ j := Nat.one_le_pow _ _ (by omega); have e : (10 : Int) ^ j = ((10 ^ j : Nat) : Int) := by simp
                                rw [e]; omega
      omega
theorem rval_dig (l : List UInt8) (h : ∀ c ∈ l, isDig c) : rval l = dval l := by
  induction l using snoc_rec with
  | h0 => rfl
  | h1 l c ih =>
    have h1 := ih (fun x hx => h x (by simp [hx]))
    have h2 := h c (by simp)
    rw [dval_snoc, ← h1]
    unfold rval
    rw [List.foldl_append]
    have : c ≠ 45 := by rintro rfl; revert h2; unfold isDig; decide
    simp [this]; omega
theorem rval_neg (l : List UInt8) (h : ∀ c ∈ l, isDig c) : rval (45 :: l) = dval l := by rw [← rval_dig l h]; rfl
/-- what the reference's OfDec comes to -/
def rdec (l : List UInt8) : Int := if l.head? = some 45 then -(rval (l.take 12)) else rval (l.take 12)
theorem rdec_pos (s : ByteArray) (l : List UInt8) (hs : s = S l) (h : 0 < s.size) : (((s[0].toNat : Int) == 45) = true → rdec l = -(rval (l.take 12))) ∧ (((s[0].toNat : Int) == 45) = false → rdec l = rval (l.take 12)) := by
  subst hs
  cases l with
  | nil => simp [S_size] at h
  | cons c r =>
    rw [S_get]
    unfold rdec
    constructor
    · intro g
      rw [if_pos]
      have := eq_of_beq g
      simp at this ⊢
      apply UInt8.toNat_inj.1
      show c.toNat = 45
      omega
    · intro g
      rw [if_neg]
      intro e
      simp at e
      subst e
      simp at g
theorem rofDec_any (s : ByteArray) (hs : s.size ≤ maxLen) (w : World) :
    Calls Tryd.prog 36 #[.string s] w fun e w' => e = .returned (.tuple #[.int .u32 (w32 (rdec s.data.toList)), .bool ((itoaB (wrap32 (w32 (rdec s.data.toList)))).toList == s.toList)]) ∧ Below w.heap.size w w' := by
  unfold maxLen at hs
  obtain ⟨l, hl⟩ : ∃ l, l = s.data.toList := ⟨_, rfl⟩
  have hsl : s = S l := by rw [hl, S_list]
  have hn : s.size = l.length := by rw [hsl, S_size]
  rw [← hl]
  have HN := Lib.hid hn
  have HS := Lib.hid hsl
  clear hl hn hsl
  go_enter Tryd.func36, Tryd.ntmps36
  go_wp2_with fail
  go_loop [4, 5] (fun n i => ∃ j : Nat, j ≤ 12 ∧ j ≤ s.size ∧ i = .int .i64 j ∧ n = .int .i64 (rval (l.take j))) (fun _ i => 12 - (intOf i).toNat)
  case atStart => exact ⟨0, by omega, by omega, rfl, rfl⟩
  case round =>
    obtain ⟨j, h12, hj, rfl, rfl⟩ := hrel
    have hb := rval_bnd l j
    have hb2 := bnd_le j h12
    by_cases h1 : j < s.size
    · by_cases h2 : j < 12
      · have hp : j < l.length := by rw [← HN.out]; exact h1
        have hg : s[j] = l[j] := get_list HS.out j h1 hp
        have hsu := Lib.hid (rval_succ l j hp)
        have hcb : l[j].toNat ≤ 255 := by have := (l[j]).toNat_lt; omega
        cases h45 : ((l[j].toNat : Int) == 45)
        · have h46 : ((l[j].toNat : Int) != 45) = true := by simp [bne, h45]
          go_wp2_with fail
          go_round
          case rel => exact ⟨j + 1, by omega, by omega, by go_num, by rw [hsu.out, if_neg (by intro e; rw [e] at h45; revert h45; decide)]⟩
          case measure => simp [intOf]; omega
        · have h46 : ((l[j].toNat : Int) != 45) = false := by simp [bne, h45]
          go_wp2_with fail
          go_round
          case rel => exact ⟨j + 1, by omega, by omega, by go_num, by rw [hsu.out, if_pos (by have := eq_of_beq h45; apply UInt8.toNat_inj.1; show l[j].toNat = 45; omega)]⟩
          case measure => simp [intOf]; omega
      · have he : rval (l.take j) = rval (l.take 12) := by rw [show j = 12 by omega]
        have h0 : 0 < s.size := by omega
        rw [he]
        rw [he] at hb
        clear he
        cases h45 : ((s[0].toNat : Int) == 45)
        · have hN := Lib.hid ((rdec_pos s l HS.out h0).2 h45)
          go_wp2_with (go_at_call 46; refine (rword_any _ (by omega) (by omega) _).mono ?_; rintro e w' ⟨rfl, rfl⟩)
          refine (rdec_any _ (w32_bd _).1 (w32_bd _).2 _).mono ?_
          rintro e w' ⟨rfl, hb3⟩
          go_wp2_with fail
          go_ret2
          rw [hN.out]
          exact ⟨rfl, hb3⟩
        · have hN := Lib.hid ((rdec_pos s l HS.out h0).1 h45)
          go_wp2_with (go_at_call 46; refine (rword_any _ (by omega) (by omega) _).mono ?_; rintro e w' ⟨rfl, rfl⟩)
          refine (rdec_any _ (w32_bd _).1 (w32_bd _).2 _).mono ?_
          rintro e w' ⟨rfl, hb3⟩
          go_wp2_with fail
          go_ret2
          rw [hN.out]
          exact ⟨rfl, hb3⟩
    · by_cases h0 : 0 < s.size
      · have he : rval (l.take j) = rval (l.take 12) := by rw [List.take_of_length_le (show l.length ≤ j by rw [← HN.out]; omega), List.take_of_length_le (show l.length ≤ 12 by rw [← HN.out]; omega)]
        rw [he]
        rw [he] at hb
        clear he
        cases h45 : ((s[0].toNat : Int) == 45)
        · have hN := Lib.hid ((rdec_pos s l HS.out h0).2 h45)
          go_wp2_with (go_at_call 46; refine (rword_any _ (by omega) (by omega) _).mono ?_; rintro e w' ⟨rfl, rfl⟩)
          refine (rdec_any _ (w32_bd _).1 (w32_bd _).2 _).mono ?_
          rintro e w' ⟨rfl, hb3⟩
          go_wp2_with fail
          go_ret2
          rw [hN.out]
          exact ⟨rfl, hb3⟩
        · have hN := Lib.hid ((rdec_pos s l HS.out h0).1 h45)
          go_wp2_with (go_at_call 46; refine (rword_any _ (by omega) (by omega) _).mono ?_; rintro e w' ⟨rfl, rfl⟩)
          refine (rdec_any _ (w32_bd _).1 (w32_bd _).2 _).mono ?_
          rintro e w' ⟨rfl, hb3⟩
          go_wp2_with fail
          go_ret2
          rw [hN.out]
          exact ⟨rfl, hb3⟩
      · have h00 : s.size = 0 := by omega
        have hl : l = [] := List.eq_nil_of_length_eq_zero (by rw [← HN.out]; exact h00)
        have he : rval (l.take j) = 0 := by rw [hl]; simp [rval]
        have hN : rdec l = 0 := by rw [hl]; rfl
        rw [he]
        have H00 := Lib.hid h00
        have HN2 := Lib.hid hN
        clear he hN hl hb hb2 h00
        go_wp2_with (go_at_call 46; refine (rword_any _ (by omega) (by omega) _).mono ?_; rintro e w' ⟨rfl, rfl⟩)
        refine (rdec_any _ (w32_bd _).1 (w32_bd _).2 _).mono ?_
        rintro e w' ⟨rfl, hb3⟩
        go_wp2_with fail
        go_ret2
        rw [HN2.out]
        exact ⟨rfl, hb3⟩
def hdig (c : UInt8) : Nat := if 97 ≤ c.toNat then c.toNat - 87 else (c.toNat + 4294967296 - 48) % 4294967296
def hstep (a : Int) (c : UInt8) : Int := w32 (16 * a + hdig c)
def rhex (l : List UInt8) : Int := l.foldl hstep 0
theorem rhex_succ (l : List UInt8) (j : Nat) (h : j < l.length) : rhex (l.take (j + 1)) = hstep (rhex (l.take j)) l[j] := by
  unfold rhex
  rw [List.take_succ_eq_append_getElem h, List.foldl_append]; rfl
theorem rhex_bd (l : List UInt8) (j : Nat) : 0 ≤ rhex (l.take j) ∧ rhex (l.take j) ≤ 4294967295 := by
  induction j with
  | zero => simp [rhex]
  | succ j ih =>
    by_cases h : j < l.length
    · rw [rhex_succ l j h]; exact w32_bd _
    · rw [List.take_of_length_le (by omega)]; rw [List.take_of_length_le (by omega)] at ih; exact ih
theorem rofHex_any (s : ByteArray) (hs : s.size ≤ maxLen) (w : World) :
    Calls Tryd.prog 38 #[.string s] w fun e w' => e = .returned (.tuple #[.int .u32 (rhex (s.data.toList.take 9)), .bool ((hexB (rhex (s.data.toList.take 9))).toList == s.toList)]) ∧ Below w.heap.size w w' := by
  unfold maxLen at hs
  obtain ⟨l, hl⟩ : ∃ l, l = s.data.toList := ⟨_, rfl⟩
  have hsl : s = S l := by rw [hl, S_list]
  have hn : s.size = l.length := by rw [hsl, S_size]
  rw [← hl]
  have HN := Lib.hid hn
  have HS := Lib.hid hsl
  clear hl hn hsl
  go_enter Tryd.func38, Tryd.ntmps38
  go_wp2_with fail
  go_loop [4, 5] (fun n i => ∃ j : Nat, j ≤ 9 ∧ j ≤ s.size ∧ i = .int .i64 j ∧ n = .int .u32 (rhex (l.take j))) (fun _ i => 9 - (intOf i).toNat)
  case atStart => exact ⟨0, by omega, by omega, rfl, rfl⟩
  case round =>
    obtain ⟨j, h12, hj, rfl, rfl⟩ := hrel
    have hb := rhex_bd l j
    by_cases h1 : j < s.size
    · by_cases h2 : j < 9
      · have hp : j < l.length := by rw [← HN.out]; exact h1
        have hg : s[j] = l[j] := get_list HS.out j h1 hp
        have hsu := Lib.hid (rhex_succ l j hp)
        have hcb : l[j].toNat ≤ 255 := by have := (l[j]).toNat_lt; omega
        by_cases h97 : 97 ≤ l[j].toNat
        · have hd : hdig l[j] = l[j].toNat - 87 := if_pos h97
          have HD := Lib.hid hd
          clear hd
          go_wp2_with fail
          go_round
          case rel => exact ⟨j + 1, by omega, by omega, by go_num, by rw [hsu.out]; unfold hstep; rw [HD.out]; unfold w32; congr 1; omega⟩
          case measure => simp [intOf]; omega
        · have hd : hdig l[j] = (l[j].toNat + 4294967296 - 48) % 4294967296 := if_neg h97
          have HD := Lib.hid hd
          clear hd
          go_wp2_with fail
          go_round
          case rel => exact ⟨j + 1, by omega, by omega, by go_num, by rw [hsu.out]; unfold hstep; rw [HD.out]; unfold w32; congr 1; omega⟩
          case measure => simp [intOf]; omega
      · have he : rhex (l.take j) = rhex (l.take 9) := by rw [show j = 9 by omega]
        rw [he]
        rw [he] at hb
        clear he
        go_wp2_with (go_at_call 42; refine (rhex_any _ (by omega) (by omega) _).mono ?_; rintro e w' ⟨rfl, hb3⟩)
        go_ret2
        exact ⟨rfl, hb3⟩
    · have he : rhex (l.take j) = rhex (l.take 9) := by rw [List.take_of_length_le (show l.length ≤ j by rw [← HN.out]; omega), List.take_of_length_le (show l.length ≤ 9 by rw [← HN.out]; omega)]
      rw [he]
      rw [he] at hb
      clear he
      go_wp2_with (go_at_call 42; refine (rhex_any _ (by omega) (by omega) _).mono ?_; rintro e w' ⟨rfl, hb3⟩)
      go_ret2
      exact ⟨rfl, hb3⟩
def isHex (c : UInt8) : Prop := (48 ≤ c.toNat ∧ c.toNat ≤ 57) ∨ (97 ≤ c.toNat ∧ c.toNat ≤ 102)
instance (c : UInt8) : Decidable (isHex c) := by unfold isHex; infer_instance
theorem hdig_hex (c : UInt8) (h : isHex c) : hdig c ≤ 15 ∧ hexdig (hdig c) = c := by
  unfold isHex at h
  unfold hdig hexdig
  rcases h with h | h
  · rw [if_neg (by omega), show (c.toNat + 4294967296 - 48) % 4294967296 = c.toNat - 48 by omega, if_pos (by omega)]
    exact ⟨by omega, by apply UInt8.toNat_inj.1; simp; omega⟩
  · rw [if_pos (by omega)]
    refine ⟨by omega, ?_⟩
    rw [if_neg (by omega)]; apply UInt8.toNat_inj.1; simp; omega
theorem hexdig_isHex (n : Nat) (h : n < 16) : isHex (hexdig n) := by
  unfold isHex hexdig
  split
  · left; simp; omega
  · right; simp; omega
theorem hexT_isHex (a i : Nat) : ∀ c ∈ hexT a i, isHex c := by
  induction i with
  | zero => intro c hc; cases hc
  | succ i ih =>
    intro c hc
    rcases List.mem_cons.1 hc with rfl | h
    · exact hexdig_isHex _ (Nat.mod_lt _ (by omega))
    · exact ih c h
theorem hexT_snoc (n d i : Nat) (h : d < 16) : hexT (16 * n + d) (i + 1) = hexT n i ++ [hexdig d] := by
  induction i with
  | zero =>
    show [hexdig ((16 * n + d) / 16 ^ 0 % 16)] = [hexdig d]
    congr 2; simp; omega
  | succ i ih =>
    show hexdig ((16 * n + d) / 16 ^ (i + 1) % 16) :: hexT (16 * n + d) (i + 1) = hexdig (n / 16 ^ i % 16) :: (hexT n i ++ [hexdig d])
    rw [ih, Nat.pow_succ, Nat.mul_comm (16 ^ i), ← Nat.div_div_eq_div_mul, show (16 * n + d) / 16 = n by omega]
def hnat (l : List UInt8) : Nat := l.foldl (fun n c => 16 * n + hdig c) 0
theorem hnat_snoc (l : List UInt8) (c : UInt8) : hnat (l ++ [c]) = 16 * hnat l + hdig c := by unfold hnat; rw [List.foldl_append]; rfl
theorem rhex_snoc (l : List UInt8) (c : UInt8) : rhex (l ++ [c]) = hstep (rhex l) c := by unfold rhex; rw [List.foldl_append]; rfl
theorem hnat_all (l : List UInt8) (h : ∀ c ∈ l, isHex c) : hexT (hnat l) l.length = l ∧ hnat l < 16 ^ l.length ∧ (l.length ≤ 8 → rhex l = hnat l) := by
  induction l using snoc_rec with
  | h0 => exact ⟨rfl, by simp [hnat], fun _ => rfl⟩
  | h1 l c ih =>
    obtain ⟨i1, i2, i3⟩ := ih (fun x hx => h x (by simp [hx]))
    obtain ⟨g1, g2⟩ := hdig_hex c (h c (by simp))
    rw [hnat_snoc, List.length_append]
    refine ⟨?_, ?_, fun hl => ?_⟩
    · show hexT _ (l.length + 1) = _
      rw [hexT_snoc _ _ _ (by omega), i1, g2]
    · show _ < 16 ^ (l.length + 1)
      rw [Nat.pow_succ]; omega
    · have hl : l.length + 1 ≤ 8 := hl
      have hp : (16 : Nat) ^ l.length ≤ 16 ^ 7 := Nat.pow_le_pow_right (by omega) (by omega)
      rw [rhex_snoc, i3 (by omega)]
      unfold hstep w32; omega
theorem or_low (a d : Int) (a0 : 0 ≤ a) (a1 : a ≤ 4294967295) (d0 : 0 ≤ d) (d1 : d ≤ 15) : bits BinOp.or IntKind.u32 (a * 16 % 4294967296) d = (16 * a + d) % 4294967296 := by
  obtain ⟨n, rfl⟩ := Int.eq_ofNat_of_zero_le a0
  obtain ⟨e, rfl⟩ := Int.eq_ofNat_of_zero_le d0
  rw [show (n : Int) * 16 % 4294967296 = ((n * 16 % 4294967296 : Nat) : Int) by simp, u32_or_nat _ _ (Nat.mod_lt _ (by omega)) (by omega)]
  rw [show n * 16 % 4294967296 = 2 ^ 4 * (n % 268435456) by omega, ← Nat.two_pow_add_eq_or_of_lt (show e < 2 ^ 4 by omega)]
  omega
theorem ofHex_yes (l : List UInt8) (hl : l.length = 8) (hh : ∀ c ∈ l, isHex c) (w : World) :
    Calls Tryd.prog 37 #[.string (S l)] w fun e w' => e = .returned (.tuple #[.int .u32 (rhex l), .int .i64 0]) ∧ Below w.heap.size w w' := by
  obtain ⟨s, hs⟩ : ∃ s, s = S l := ⟨_, rfl⟩
  have hn : s.size = 8 := by rw [hs, S_size, hl]
  rw [← hs]
  have HS := Lib.hid hs
  have HL := Lib.hid hl
  have HH := Lib.hid hh
  clear hs hl hh
  go_enter Tryd.func37, Tryd.ntmps37
  go_wp2_with fail
  go_step3
  go_wp2_with fail
  go_step3
  go_wp2_with fail
  go_loopw [4, 5] (fun n m wr => ∃ pos : Nat, pos ≤ 8 ∧ wr = w.iter s pos ∧ n = .int .u32 (rhex (l.take pos)) ∧ m = .bool false) (fun _ _ wr => 8 - wr.iterPos w.heap.size)
  case atStart => exact ⟨0, Nat.zero_le _, rfl, rfl, rfl⟩
  case round =>
    obtain ⟨pos, hpos, rfl, rfl, rfl⟩ := hrel
    have hb := rhex_bd l pos
    by_cases hp : pos < 8
    · have hp' : pos < s.size := by omega
      have hpl : pos < l.length := by rw [HL.out]; exact hp
      have hg : s[pos] = l[pos] := get_list HS.out pos hp' hpl
      have hc := HH.out _ (List.getElem_mem hpl)
      have hd := hdig_hex _ hc
      have hsu := rhex_succ l pos hpl
      have hcb : l[pos].toNat ≤ 255 := by have := (l[pos]).toNat_lt; omega
      unfold isHex at hc
      have hdec := decode_ascii s pos hp' (by rw [hg]; omega)
      rw [hg] at hdec
      have hnx : ∀ ty, (Instr.next (.pointer (some ⟨w.heap.size, 0, none⟩)) true ty).run Tryd.prog (w.iter s pos) = _ := fun ty => run_next_any w s pos ty hp'
      rw [hdec] at hnx
      have hor := or_low (rhex (l.take pos)) (hdig l[pos]) hb.1 hb.2 (by omega) (by omega)
      have hfin : rhex (l.take (pos + 1)) = (16 * rhex (l.take pos) + hdig l[pos]) % 4294967296 := hsu
      have HF := Lib.hid hfin
      clear hdec hg hsu hfin
      by_cases h97 : 97 ≤ l[pos].toNat
      · have he : (hdig l[pos] : Int) = (l[pos].toNat : Int) - 97 + 10 := by unfold hdig; rw [if_pos h97]; omega
        rw [he] at hor HF
        clear he hd
        go_wp2_with fail
        go_roundw
        case rel => exact ⟨pos + 1, by omega, rfl, by rw [HF.out], rfl⟩
        case measure => simp; omega
      · have he : (hdig l[pos] : Int) = (l[pos].toNat : Int) - 48 := by unfold hdig; rw [if_neg h97]; omega
        rw [he] at hor HF
        have hc' : 48 ≤ l[pos].toNat ∧ l[pos].toNat ≤ 57 := by omega
        clear he hd hc
        go_wp2_with fail
        go_roundw
        case rel => exact ⟨pos + 1, by omega, rfl, by rw [HF.out], rfl⟩
        case measure => simp; omega
    · have hnx : ∀ ty, (Instr.next (.pointer (some ⟨w.heap.size, 0, none⟩)) true ty).run Tryd.prog (w.iter s pos) = _ := fun ty => run_next_end w s pos ty (by omega)
      have he : rhex (l.take pos) = rhex l := by rw [List.take_of_length_le (by rw [HL.out]; omega)]
      rw [he]
      clear he
      go_wp2_with fail
      rw [Exit.noGoto_ret]
      go_ret2
      exact ⟨rfl, below_iter _ _ _⟩
theorem ofHex_long (s : ByteArray) (hn : s.size ≠ 8) (hs : s.size ≤ maxLen) (w : World) :
    Calls Tryd.prog 37 #[.string s] w fun e w' => e = .returned (.tuple #[.int .u32 0, .int .i64 4]) ∧ Below w.heap.size w w' := by
  unfold maxLen at hs
  have h8 : ((s.size : Int) != 8) = true := by rw [bne_iff_ne]; omega
  go_enter Tryd.func37, Tryd.ntmps37
  go_wp2_with fail
  go_step3
  go_wp2_with fail
  rw [Exit.noGoto_ret]
  go_ret2
  exact ⟨rfl, Below.refl _ _⟩
theorem ofHex_no (s : ByteArray) (hn : s.size = 8) (i : Nat) (hi : i < s.size) (hx : ¬ isHex s[i]) (w : World) :
    Calls Tryd.prog 37 #[.string s] w fun e w' => e = .returned (.tuple #[.int .u32 0, .int .i64 4]) ∧ Below w.heap.size w w' := by
  have HX := Lib.hid hx
  clear hx
  go_enter Tryd.func37, Tryd.ntmps37
  go_wp2_with fail
  go_step3
  go_wp2_with fail
  go_step3
  go_wp2_with fail
  go_loopw [4, 5] (fun n m wr => ∃ (pos : Nat) (k : Int), pos ≤ i ∧ wr = w.iter s pos ∧ n = .int .u32 k ∧ m = .bool false) (fun _ _ wr => 8 - wr.iterPos w.heap.size)
  case atStart => exact ⟨0, 0, Nat.zero_le _, rfl, rfl, rfl⟩
  case round =>
    obtain ⟨pos, k, hpos, rfl, rfl, rfl⟩ := hrel
    have hp' : pos < s.size := by omega
    have hnx : ∀ ty, (Instr.next (.pointer (some ⟨w.heap.size, 0, none⟩)) true ty).run Tryd.prog (w.iter s pos) = _ := fun ty => run_next_any w s pos ty hp'
    by_cases hc : isHex s[pos]
    · have hne : pos < i := by
        rcases Nat.lt_or_ge pos i with g | g
        · exact g
        · obtain rfl : pos = i := by omega
          exact absurd hc HX.out
      have hcb : s[pos].toNat ≤ 255 := by have := (s[pos]).toNat_lt; omega
      unfold isHex at hc
      have hdec := decode_ascii s pos hp' (by omega)
      rw [hdec] at hnx
      clear hdec
      go_wp2_with fail
      all_goals go_roundw
      case rel => exact ⟨pos + 1, _, by omega, rfl, rfl, rfl⟩
      case measure => simp; omega
      case rel => exact ⟨pos + 1, _, by omega, rfl, rfl, rfl⟩
      case measure => simp; omega
    · have hr : ∃ r d, Utf8.decode s pos = (r, d) ∧ (r < 48 ∨ 57 < r) ∧ (r < 97 ∨ 102 < r) := by
        by_cases ha : s[pos].toNat < 128
        · refine ⟨_, _, decode_ascii s pos hp' ha, ?_⟩
          unfold isHex at hc; omega
        · have := decode_high s pos hp' (by omega)
          exact ⟨(Utf8.decode s pos).1, (Utf8.decode s pos).2, rfl, by omega, by omega⟩
      obtain ⟨r, d, hdec, hr1, hr2⟩ := hr
      rw [hdec] at hnx
      clear hdec
      go_wp2_with fail
      all_goals (try rw [Exit.noGoto_ret])
      all_goals go_ret2
      all_goals exact ⟨rfl, below_iter _ _ _⟩
theorem hdig_hexdig (d : Nat) (h : d < 16) : hdig (hexdig d) = d := by
  unfold hdig hexdig
  split
  · rw [if_neg (by simp; omega)]; simp; omega
  · rw [if_pos (by simp; omega)]; simp; omega
theorem hnat_hexT (i n : Nat) : hnat (hexT n i) = n % 16 ^ i := by
  induction i generalizing n with
  | zero => simp [hexT, hnat, Nat.mod_one]
  | succ i ih =>
    have e : hexT n (i + 1) = hexT (n / 16) i ++ [hexdig (n % 16)] := by
      have := hexT_snoc (n / 16) (n % 16) i (Nat.mod_lt _ (by omega))
      rwa [show 16 * (n / 16) + n % 16 = n by omega] at this
    rw [e, hnat_snoc, ih, hdig_hexdig _ (Nat.mod_lt _ (by omega)), Nat.pow_succ, Nat.mul_comm (16 ^ i), Nat.mod_mul]
    omega
theorem ofHex_hex (a : Int) (a0 : 0 ≤ a) (a1 : a ≤ 4294967295) (w : World) : Calls Tryd.prog 37 #[.string (hexB a)] w fun e w' => e = .returned (.tuple #[.int .u32 a, .int .i64 0]) ∧ Below w.heap.size w w' := by
  have h := ofHex_yes (hexL a) (hexT_length _ _) (hexT_isHex _ _) w
  have e : rhex (hexL a) = a := by
    rw [(hnat_all (hexL a) (hexT_isHex _ _)).2.2 (by rw [show (hexL a).length = 8 from hexT_length _ _]; omega)]
    unfold hexL
    rw [hnat_hexT]
    have : a.toNat % 16 ^ 8 = a.toNat := Nat.mod_eq_of_lt (by omega)
    rw [this]; omega
  rw [e] at h
  exact h
theorem ofDec_dec (a : Int) (a0 : 0 ≤ a) (a1 : a ≤ 4294967295) (w : World) (hT : Tab w) : Calls Tryd.prog 35 #[.string (itoaB (wrap32 a))] w fun e w' => e = .returned (.tuple #[.int .u32 a, .int .i64 0]) ∧ Below w.heap.size w w' := by
  by_cases h : 2147483648 ≤ a
  · obtain ⟨u, hu⟩ := Int.eq_ofNat_of_zero_le (show 0 ≤ 4294967296 - a by omega)
    have he : itoaB (wrap32 a) = S (45 :: Lib.decDigits u) := by
      rw [wrap32_hi a h a1]; unfold itoaB; rw [show a - 4294967296 = -(u : Int) by omega, Lib.itoa_neg u (by omega)]
    rw [he, show a = 4294967296 - (u : Int) by omega]
    exact ofDec_neg u (by omega) (by omega) w hT
  · obtain ⟨u, rfl⟩ := Int.eq_ofNat_of_zero_le a0
    have he : itoaB (wrap32 (u : Int)) = S (Lib.decDigits u) := by
      rw [wrap32_lo _ a0 (by omega)]; unfold itoaB; rw [Lib.itoa_nonneg]
    rw [he]
    exact ofDec_pos u (by omega) w hT
end Go.Proofs.YtpfbonknajcmaaaDoor
