/-
  The contract of word.OfHex, of eight digits.
-/
import Derived.Test.YthpdgghjaglhnaaGreatDoorTextB
namespace Go.Proofs.YthpdgghjaglhnaaGreatDoor
open Go.ChangeShapes Go.WideShapes Go.ChangeAt Go.RowKit
set_option linter.unusedVariables false
def hdig (c : UInt8) : Nat := if 97 ≤ c.toNat then c.toNat - 87 else (c.toNat + 4294967296 - 48) % 4294967296
def hstep (a : Int) (c : UInt8) : Int := w32 (16 * a + hdig c)
def rhex (l : List UInt8) : Int := l.foldl hstep 0
theorem rhex_succ (l : List UInt8) (j : Nat) (h : j < l.length) : rhex (l.take (j + 1)) = hstep (rhex (l.take j)) l[j] := by
  unfold rhex
  rw [List.take_succ_eq_append_getElem h, List.foldl_append]; rfl
theorem rhex_bd (l : List UInt8) (j : Nat) : 0 ≤ rhex (l.take j) ∧ rhex (l.take j) ≤ 4294967295 := by
  induction j with
  | zero => simp [rhex]
  | succ j ih =>
    by_cases h : j < l.length
    · rw [rhex_succ l j h]; exact w32_bd _
    · rw [List.take_of_length_le (by omega)]; rw [List.take_of_length_le (by omega)] at ih; exact ih
def isHex (c : UInt8) : Prop := (48 ≤ c.toNat ∧ c.toNat ≤ 57) ∨ (97 ≤ c.toNat ∧ c.toNat ≤ 102)
instance (c : UInt8) : Decidable (isHex c) := by unfold isHex; infer_instance
theorem hdig_hex (c : UInt8) (h : isHex c) : hdig c ≤ 15 ∧ hexdig (hdig c) = c := by
  unfold isHex at h
  unfold hdig hexdig
  rcases h with h | h
  · rw [if_neg (by omega), show (c.toNat + 4294967296 - 48) % 4294967296 = c.toNat - 48 by omega, if_pos (by omega)]
    exact ⟨by omega, by apply UInt8.toNat_inj.1; simp; omega⟩
  · rw [if_pos (by omega)]
    refine ⟨by omega, ?_⟩
    rw [if_neg (by omega)]; apply UInt8.toNat_inj.1; simp; omega
theorem hexdig_isHex (n : Nat) (h : n < 16) : isHex (hexdig n) := by
  unfold isHex hexdig
  split
  · left; simp; omega
  · right; simp; omega
theorem hexT_isHex (a i : Nat) : ∀ c ∈ hexT a i, isHex c := by
  induction i with
  | zero => intro c hc; cases hc
  | succ i ih =>
    intro c hc
    rcases List.mem_cons.1 hc with rfl | h
    · exact hexdig_isHex _ (Nat.mod_lt _ (by omega))
    · exact ih c h
theorem hexT_snoc (n d i : Nat) (h : d < 16) : hexT (16 * n + d) (i + 1) = hexT n i ++ [hexdig d] := by
  induction i with
  | zero =>
    show [hexdig ((16 * n + d) / 16 ^ 0 % 16)] = [hexdig d]
    congr 2; simp; omega
  | succ i ih =>
    show hexdig ((16 * n + d) / 16 ^ (i + 1) % 16) :: hexT (16 * n + d) (i + 1) = hexdig (n / 16 ^ i % 16) :: (hexT n i ++ [hexdig d])
    rw [ih, Nat.pow_succ, Nat.mul_comm (16 ^ i), ← Nat.div_div_eq_div_mul, show (16 * n + d) / 16 = n by omega]
def hnat (l : List UInt8) : Nat := l.foldl (fun n c => 16 * n + hdig c) 0
theorem hnat_snoc (l : List UInt8) (c : UInt8) : hnat (l ++ [c]) = 16 * hnat l + hdig c := by unfold hnat; rw [List.foldl_append]; rfl
theorem rhex_snoc (l : List UInt8) (c : UInt8) : rhex (l ++ [c]) = hstep (rhex l) c := by unfold rhex; rw [List.foldl_append]; rfl
theorem hnat_all (l : List UInt8) (h : ∀ c ∈ l, isHex c) : hexT (hnat l) l.length = l ∧ hnat l < 16 ^ l.length ∧ (l.length ≤ 8 → rhex l = hnat l) := by
  induction l using snoc_rec with
  | h0 => exact ⟨rfl, by simp [hnat], fun _ => rfl⟩
  | h1 l c ih =>
    obtain ⟨i1, i2, i3⟩ := ih (fun x hx => h x (by simp [hx]))
    obtain ⟨g1, g2⟩ := hdig_hex c (h c (by simp))
    rw [hnat_snoc, List.length_append]
    refine ⟨?_, ?_, fun hl => ?_⟩
    · show hexT _ (l.length + 1) = _
      rw [hexT_snoc _ _ _ (by omega), i1, g2]
    · show _ < 16 ^ (l.length + 1)
      rw [Nat.pow_succ]; omega
    · have hl : l.length + 1 ≤ 8 := hl
      have hp : (16 : Nat) ^ l.length ≤ 16 ^ 7 := Nat.pow_le_pow_right (by omega) (by omega)
      rw [rhex_snoc, i3 (by omega)]
      unfold hstep w32; omega
theorem or_low (a d : Int) (a0 : 0 ≤ a) (a1 : a ≤ 4294967295) (d0 : 0 ≤ d) (d1 : d ≤ 15) : bits BinOp.or IntKind.u32 (a * 16 % 4294967296) d = (16 * a + d) % 4294967296 := by
  obtain ⟨n, rfl⟩ := Int.eq_ofNat_of_zero_le a0
  obtain ⟨e, rfl⟩ := Int.eq_ofNat_of_zero_le d0
  rw [show (n : Int) * 16 % 4294967296 = ((n * 16 % 4294967296 : Nat) : Int) by simp, u32_or_nat _ _ (Nat.mod_lt _ (by omega)) (by omega)]
  rw [show n * 16 % 4294967296 = 2 ^ 4 * (n % 268435456) by omega, ← Nat.two_pow_add_eq_or_of_lt (show e < 2 ^ 4 by omega)]
  omega
theorem ofHex_yes (l : List UInt8) (hl : l.length = 8) (hh : ∀ c ∈ l, isHex c) (w : World) :
    Calls Tryz.prog 44 #[.string (S l)] w fun e w' => e = .returned (.tuple #[.int .u32 (rhex l), .int .i64 0]) ∧ Below w.heap.size w w' := by
  obtain ⟨s, hs⟩ : ∃ s, s = S l := ⟨_, rfl⟩
  have hn : s.size = 8 := by rw [hs, S_size, hl]
  rw [← hs]
  have HS := Lib.hid hs
  have HL := Lib.hid hl
  have HH := Lib.hid hh
  clear hs hl hh
  go_enter Tryz.func44, Tryz.ntmps44
  go_wp2_with fail
  go_step3
  go_wp2_with fail
  go_step3
  go_wp2_with fail
  go_loopw [4, 5] (fun n m wr => ∃ pos : Nat, pos ≤ 8 ∧ wr = w.iter s pos ∧ n = .int .u32 (rhex (l.take pos)) ∧ m = .bool false) (fun _ _ wr => 8 - wr.iterPos w.heap.size)
  case atStart => exact ⟨0, Nat.zero_le _, rfl, rfl, rfl⟩
  case round =>
    obtain ⟨pos, hpos, rfl, rfl, rfl⟩ := hrel
    have hb := rhex_bd l pos
    by_cases hp : pos < 8
    · have hp' : pos < s.size := by omega
      have hpl : pos < l.length := by rw [HL.out]; exact hp
      have hg : s[pos] = l[pos] := get_list HS.out pos hp' hpl
      have hc := HH.out _ (List.getElem_mem hpl)
      have hd := hdig_hex _ hc
      have hsu := rhex_succ l pos hpl
      have hcb : l[pos].toNat ≤ 255 := by have := (l[pos]).toNat_lt; omega
      unfold isHex at hc
      have hdec := decode_ascii s pos hp' (by rw [hg]; omega)
      rw [hg] at hdec
      have hnx : ∀ ty, (Instr.next (.pointer (some ⟨w.heap.size, 0, none⟩)) true ty).run Tryz.prog (w.iter s pos) = _ := fun ty => run_next_any w s pos ty hp'
      rw [hdec] at hnx
      have hor := or_low (rhex (l.take pos)) (hdig l[pos]) hb.1 hb.2 (by omega) (by omega)
      have hfin : rhex (l.take (pos + 1)) = (16 * rhex (l.take pos) + hdig l[pos]) % 4294967296 := hsu
      have HF := Lib.hid hfin
      clear hdec hg hsu hfin
      by_cases h97 : 97 ≤ l[pos].toNat
      · have he : (hdig l[pos] : Int) = (l[pos].toNat : Int) - 97 + 10 := by unfold hdig; rw [if_pos h97]; omega
        rw [he] at hor HF
        clear he hd
        go_wp2_with fail
        go_roundw
        case rel => exact ⟨pos + 1, by omega, rfl, by rw [HF.out], rfl⟩
        case measure => simp; omega
      · have he : (hdig l[pos] : Int) = (l[pos].toNat : Int) - 48 := by unfold hdig; rw [if_neg h97]; omega
        rw [he] at hor HF
        have hc' : 48 ≤ l[pos].toNat ∧ l[pos].toNat ≤ 57 := by omega
        clear he hd hc
        go_wp2_with fail
        go_roundw
        case rel => exact ⟨pos + 1, by omega, rfl, by rw [HF.out], rfl⟩
        case measure => simp; omega
    · have hnx : ∀ ty, (Instr.next (.pointer (some ⟨w.heap.size, 0, none⟩)) true ty).run Tryz.prog (w.iter s pos) = _ := fun ty => run_next_end w s pos ty (by omega)
      have he : rhex (l.take pos) = rhex l := by rw [List.take_of_length_le (by rw [HL.out]; omega)]
      rw [he]
      clear he
      go_wp2_with fail
      rw [Exit.noGoto_ret]
      go_ret2
      exact ⟨rfl, below_iter _ _ _⟩
end Go.Proofs.YthpdgghjaglhnaaGreatDoor
