/-
  Bytes as strings; the reference's Bytes.
-/
import Derived.Test.YtpfbonknajcmaaaDoorBytesA
import Derived.Test.YtpfbonknajcmaaaDoorOwnA
import Derived.Laws.BytesString
import Derived.Laws.Cells
namespace Go.Proofs.YtpfbonknajcmaaaDoor
open Go.ChangeShapes Go.WideShapes Go.ChangeAt Go.RowKit
set_option linter.unusedVariables false

def strOf (zs : List Int) : ByteArray := zs.foldl (fun r n => r.push (UInt8.ofNat n.toNat)) ByteArray.empty
theorem conv_rd {w : World} {B : Nat} {A : Option Addr} {n : Nat} {zs : List Int} (hr : Rd w B .u8 A n zs) (c : Nat) :
    (convert 40 9 (.slice A n c)).run Tryd.prog w = .ok (.string (strOf zs)) w := by
  rw [run_convert_bytes_string _ _ _ 5 _ _ _ Tryd.underlying40 Tryd.underlying5 Tryd.underlying9]
  rcases A with _ | x
  · have hn : n = 0 := by
      rcases Nat.eq_zero_or_pos n with h | h
      · exact h
      · obtain ⟨x, h2, _⟩ := hr.2 h; simp at h2
    have hz : zs = [] := List.eq_nil_of_length_eq_zero (by have := hr.1; omega)
    subst hz
    simp [Conv.bytesToString, strOf]
  · refine run_bytesToString _ _ _ _ zs ?_
    have h := run_loadCells_list (P := Tryd.prog) w x (zs.map (Value.int .u8)) (fun j v hj => by
      rw [List.getElem?_map] at hj
      obtain ⟨y, hy, rfl⟩ := Option.map_eq_some_iff.1 hj
      obtain ⟨hlt, rfl⟩ := List.getElem?_eq_some_iff.1 hy
      obtain ⟨x', hx, _, hc⟩ := hr.2 (by have := hr.1; omega)
      cases hx
      rw [hc j (by have := hr.1; omega), nth_eq zs j hlt])
    rw [List.length_map, hr.1] at h
    exact h
theorem nth_map_range (f : Nat → Int) (m i : Nat) (h : i < m) : nth ((List.range m).map f) i = f i := by
  have e := nth_eq ((List.range m).map f) i (by simpa using h)
  simpa using e
theorem bytesOf_words (zs : List Int) (m : Nat) (hl : zs.length = 4 * m) (hz : ∀ z ∈ zs, 0 ≤ z ∧ z ≤ 255) : bytesOf (wordsOf zs m) = zs := by
  induction m generalizing zs with
  | zero => have : zs = [] := List.eq_nil_of_length_eq_zero (by omega); subst this; rfl
  | succ m ih =>
    match zs, hl, hz with
    | a :: b :: c :: d :: r, hl, hz =>
      have e : wordsOf (a :: b :: c :: d :: r) (m + 1) = (a + 256 * b + 65536 * c + 16777216 * d) :: wordsOf r m := by
        unfold wordsOf
        rw [List.range_succ_eq_map, List.map_cons, List.map_map]
        refine List.cons_eq_cons.2 ⟨rfl, ?_⟩
        refine List.map_congr_left fun i _ => ?_
        show wordAt (a :: b :: c :: d :: r) (i + 1) = wordAt r i
        unfold wordAt
        have h4 : ∀ k, nth (a :: b :: c :: d :: r) (4 * (i + 1) + k) = nth r (4 * i + k) := fun k => by
          rw [show 4 * (i + 1) + k = (4 * i + k) + 4 by omega]; rfl
        have := h4 0
        simp only [Nat.add_zero] at this
        rw [this, h4 1, h4 2, h4 3]
      rw [e]
      show byt _ ++ bytesOf (wordsOf r m) = _
      rw [ih r (by simp at hl; omega) (fun z hz' => hz z (by simp [hz']))]
      have ha := hz a (by simp)
      have hb := hz b (by simp)
      have hc := hz c (by simp)
      have hd := hz d (by simp)
      unfold byt
      rw [show (a + 256 * b + 65536 * c + 16777216 * d) % 256 = a by omega, show (a + 256 * b + 65536 * c + 16777216 * d) / 256 % 256 = b by omega, show (a + 256 * b + 65536 * c + 16777216 * d) / 65536 % 256 = c by omega, show (a + 256 * b + 65536 * c + 16777216 * d) / 16777216 % 256 = d by omega]
      rfl
def sh (z : Int) : Nat → Int
  | 0 => z
  | k + 1 => sh z k / 256
theorem sh_bd (z : Int) (z0 : 0 ≤ z) (z1 : z ≤ 4294967295) (k : Nat) : 0 ≤ sh z k ∧ sh z k ≤ 4294967295 := by
  induction k with
  | zero => exact ⟨z0, z1⟩
  | succ k ih => show 0 ≤ sh z k / 256 ∧ sh z k / 256 ≤ 4294967295; omega
theorem byt_succ (z : Int) (k : Nat) (hk : k < 4) : (byt z).take (k + 1) = (byt z).take k ++ [sh z k % 256] := by
  match k, hk with
  | 0, _ => rfl
  | 1, _ => rfl
  | 2, _ => show [z % 256, z / 256 % 256, z / 65536 % 256] = [z % 256, z / 256 % 256, z / 256 / 256 % 256]; rw [show z / 256 / 256 = z / 65536 by omega]
  | 3, _ => show [z % 256, z / 256 % 256, z / 65536 % 256, z / 16777216 % 256] = [z % 256, z / 256 % 256, z / 65536 % 256, z / 256 / 256 / 256 % 256]; rw [show z / 256 / 256 / 256 = z / 16777216 by omega]
theorem rbytes_any (A : Option Addr) (n c : Nat) (zs : List Int) (w : World) (hr : Rd w w.heap.size .u32 A n zs) (hz : ∀ i, 0 ≤ nth zs i ∧ nth zs i ≤ 4294967295) (hn : n ≤ 1099511627776) :
    Calls Tryd.prog 34 #[.slice A n c] w fun e w' => ∃ v, e = .returned v ∧ w'.ownsRow w.heap.size 5 1 v (4 * n) (vals .u8 (bytesOf zs)) ∧ Below w.heap.size w w' := by
  obtain ⟨hl, hcell⟩ := hr
  have HC := Lib.hid hcell
  have HL := Lib.hid hl
  have HZ := Lib.hid hz
  clear hcell hl hz
  obtain ⟨i0, hi, hz0, hz1, hz2⟩ := info_parts infoU8
  go_enter Tryd.func34, Tryd.ntmps34
  go_wp2_with fail
  go_loopw [3, 4] (fun v i wr => ∃ j : Nat, j ≤ n ∧ i = .int .i64 j ∧ wr.ownsRow w.heap.size 5 1 v (4 * j) (vals .u8 (bytesOf (zs.take j))) ∧ Below w.heap.size w wr) (fun _ i _ => n - (intOf i).toNat)
  case atStart => exact ⟨0, Nat.zero_le _, rfl, World.ownsRow_nil .., Below.refl _ _⟩
  case round =>
    obtain ⟨j, hj, rfl, hown, hb⟩ := hrel
    by_cases hlt : j < n
    · obtain ⟨x, rfl, hx, hcell⟩ := HC.out (by omega)
      have hc : wr.cell? (x.add j) = some (.int .u32 (nth zs j)) := by
        rw [hb.cell (by rw [block_add]; exact hx)]; exact hcell j hlt
      have hzb := HZ.out j
      have HS := Lib.hid (bytesOf_take zs j (by rw [HL.out]; exact hlt))
      clear hcell
      generalize nth zs j = z at *
      go_wp2_with fail
      go_loopw [3, 5, 6] (fun v m k wk => ∃ i : Nat, i ≤ 4 ∧ k = .int .i64 i ∧ m = .int .u32 (sh z i) ∧ wk.ownsRow w.heap.size 5 1 v (4 * j + i) (vals .u8 (bytesOf (zs.take j) ++ (byt z).take i)) ∧ Below w.heap.size w wk) (fun _ _ k _ => 4 - (intOf k).toNat)
      case atStart => exact ⟨0, by omega, rfl, rfl, by simpa using hown, hb⟩
      case round =>
        obtain ⟨i, hi4, rfl, rfl, hown2, hb2⟩ := hrel
        clear hown hb
        have hsb := sh_bd z hzb.1 hzb.2 i
        by_cases hlt4 : i < 4
        · have hsz := hb2.size
          have HB := Lib.hid (byt_succ z i hlt4)
          have HN : Hid (sh z (i + 1) = sh z i / 256) := Lib.hid rfl
          generalize sh z i = y at *
          go_wp2_with (at_builtin; refine wpList_append_own _ rfl _ _ 40 rfl w.heap.size 5 i0 (.int .u8 0) 1 1 Tryd.underlying40 hi hz0 hz1 hz2 rfl (by decide) _ _ _ rfl (hown2.alloc _) ⟨wr.heap.size, 0, none⟩ 1 1 [.int .u8 (y % 256)] rfl rfl ?c1 ?c2 ?c3 ?c4 ?c5 ?_)
          case c1 =>
            intro k u hk
            match k, hk with
            | 0, hk => simp at hk; subst hk; simp [Addr.add]
          case c2 => intro u hu; simp at hu; subst hu; rfl
          case c3 => unfold maxLen; omega
          case c4 => omega
          case c5 => simp; omega
          intro v' w1 hown' hgrow _
          have R : w1.ownsRow w.heap.size 5 1 v' (4 * j + (i + 1)) (vals .u8 (bytesOf (zs.take j) ++ (byt z).take (i + 1))) := by
            rw [HB.out, ← List.append_assoc]
            unfold vals at *
            rw [List.map_append]
            exact hown'
          have B2 : Below w.heap.size w w1 := (hb2.alloc hsz _).grown hgrow (by simp; omega) (fun g hg => (hown2.lt g hg).1)
          clear hown' hgrow hown2 hb2 hc
          go_wp2_with fail
          go_roundw
          case rel => exact ⟨i + 1, by omega, by go_num, by rw [HN.out], R, B2⟩
          case measure => simp [intOf]; omega
        · obtain rfl : i = 4 := by omega
          rw [show (byt z).take 4 = byt z from rfl, ← HS.out] at hown2
          clear hsb hc
          generalize sh z 4 = y at *
          go_wp2_with fail
          go_roundw
          case rel => exact ⟨j + 1, by omega, by go_num, hown2, hb2⟩
          case measure => simp [intOf]; omega
    · go_wp2_with fail
      go_ret
      have hjn : j = n := by omega
      subst hjn
      exact ⟨_, rfl, by rw [List.take_of_length_le (by rw [HL.out]; exact Nat.le_refl _)] at hown; exact hown, hb⟩
end Go.Proofs.YtpfbonknajcmaaaDoor
