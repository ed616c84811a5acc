/-
  The contracts of word's Bytes and Of, and of the reference's Bytes.
-/
import Derived.Test.YtlgdlaohfkgkfaaGreatWordN
import Derived.Laws.AppendOwn
import Derived.Laws.OwnMore
import Derived.OwnWalk
import Derived.StillTactics
import Derived.StillTailTactics
import Derived.Deep.QuietTactic
import Derived.BigQuiet
import Derived.Deep.RegionHeld3
import Derived.Deep.AppendLies
import Derived.WalkSpells
import Derived.Laws.Pointers
import Derived.IntWalk
namespace Go.Proofs.YtlgdlaohfkgkfaaGreat
open Go.ChangeShapes Go.WideShapes Go.ChangeAt Go.RowKit
set_option linter.unusedVariables false

def byt (z : Int) : List Int := [z % 256, z / 256 % 256, z / 65536 % 256, z / 16777216 % 256]
def bytesOf (l : List Int) : List Int := l.flatMap byt
def vals (k : IntKind) (l : List Int) : List Value := l.map (Value.int k)
theorem bytesOf_take (l : List Int) (j : Nat) (h : j < l.length) : bytesOf (l.take (j + 1)) = bytesOf (l.take j) ++ byt (nth l j) := by
  rw [take_nth l j h]; unfold bytesOf; rw [List.flatMap_append]; simp
theorem bytesOf_length (l : List Int) : (bytesOf l).length = 4 * l.length := by
  induction l with
  | nil => rfl
  | cons z l ih => unfold bytesOf at *; rw [List.flatMap_cons, List.length_append, ih]; simp [byt]; omega
theorem bytesOf_bd (l : List Int) : ∀ z ∈ bytesOf l, 0 ≤ z ∧ z ≤ 255 := by
  intro z hz
  unfold bytesOf at hz
  obtain ⟨x, _, h⟩ := List.mem_flatMap.1 hz
  unfold byt at h
  simp at h
  omega

theorem infoU8 : (Tryz.prog.info? 5).map (fun i => (i.zero, i.size, i.bytes)) = some (some (.int .u8 0), 1, 1) := by kernel_rfl
theorem infoU32 : (Tryz.prog.info? 23).map (fun i => (i.zero, i.size, i.bytes)) = some (some (.int .u32 0), 1, 4) := by kernel_rfl
theorem bytes_any (A : Option Addr) (n c : Nat) (zs : List Int) (w : World) (hr : Rd w w.heap.size .u32 A n zs) (hz : ∀ i, 0 ≤ nth zs i ∧ nth zs i ≤ 4294967295) (hn : n ≤ 1099511627776) :
    Calls Tryz.prog 25 #[.slice A n c] w fun e w' => ∃ v, e = .returned v ∧ w'.ownsRow w.heap.size 5 1 v (4 * n) (vals .u8 (bytesOf zs)) ∧ Below w.heap.size w w' := by
  obtain ⟨hl, hcell⟩ := hr
  have HC := Lib.hid hcell
  have HL := Lib.hid hl
  have HZ := Lib.hid hz
  clear hcell hl hz
  obtain ⟨i0, hi, hz0, hz1, hz2⟩ := info_parts infoU8
  have hmk : ∀ u : World, (Instr.makeSlice 54 (.int .i64 0) (.int .i64 (4 * (n : Int)))).run Tryz.prog u =
      .ok (.slice (some ⟨u.heap.size, 0, none⟩) 0 (4 * n)) (u.alloc (.cells (madeCells #[.int .u8 0] (4 * n)) 5)) := fun u => by
    have h := run_make (P := Tryz.prog) u 54 5 i0 (.int .u8 0) Tryz.underlying54 hi hz0 .i64 .i64 0 (4 * (n : Int)) (by omega) (by omega) (by rw [hz2]; omega) (by omega)
    have e : (4 * (n : Int)).toNat = 4 * n := by omega
    rw [e] at h
    simpa [hz1, Value.cells] using h
  go_enter Tryz.func25, Tryz.ntmps25
  go_wp2_with fail
  go_loopw [3, 12] (fun v i wr => ∃ j : Nat, j ≤ n ∧ i = .int .i64 j ∧ wr.ownsRow w.heap.size 5 1 v (4 * j) (vals .u8 (bytesOf (zs.take j))) ∧ Below w.heap.size w wr) (fun _ i _ => n - (intOf i).toNat)
  case atStart =>
    exact ⟨0, Nat.zero_le _, rfl, World.ownsRow_made _ _ _ (Nat.le_refl _) (by unfold maxLen; omega) (by simp [madeCells]), (Below.refl _ _).alloc (Nat.le_refl _) _⟩
  case round =>
    obtain ⟨j, hj, rfl, hown, hb⟩ := hrel
    by_cases hlt : j < n
    · obtain ⟨x, rfl, hx, hcell⟩ := HC.out (by omega)
      have hc : wr.cell? (x.add j) = some (.int .u32 (nth zs j)) := by
        rw [hb.cell (by rw [block_add]; exact hx)]; exact hcell j hlt
      have hzb := HZ.out j
      have hsz := hb.size
      have HS := Lib.hid (bytesOf_take zs j (by rw [HL.out]; exact hlt))
      clear hcell
      generalize nth zs j = z at *
      go_wp2_with (at_builtin; refine wpList_append_own _ rfl (.tmp 16) (.tmp 28) 54 rfl w.heap.size 5 i0 (.int .u8 0) 1 1 Tryz.underlying54 hi hz0 hz1 hz2 rfl (by decide) _ _ _ rfl (hown.alloc _) ⟨wr.heap.size, 0, none⟩ 4 4 [.int .u8 (z % 256), .int .u8 (z / 256 % 256), .int .u8 (z / 65536 % 256), .int .u8 (z / 16777216)] rfl rfl ?c1 ?c2 ?c3 ?c4 ?c5 ?_)
      case c1 =>
        intro k u hk
        match k, hk with
        | 0, hk => simp at hk; subst hk; simp [Addr.add]
        | 1, hk => simp at hk; subst hk; simp [Addr.add]
        | 2, hk => simp at hk; subst hk; simp [Addr.add]
        | 3, hk => simp at hk; subst hk; simp [Addr.add]
      case c2 => intro u hu; simp at hu; rcases hu with rfl | rfl | rfl | rfl <;> rfl
      case c3 => unfold maxLen; omega
      case c4 => omega
      case c5 => simp; omega
      intro v' w1 hown' hgrow _
      have R : w1.ownsRow w.heap.size 5 1 v' (4 * (j + 1)) (vals .u8 (bytesOf (zs.take (j + 1)))) := by
        rw [HS.out]
        have e : byt z = [z % 256, z / 256 % 256, z / 65536 % 256, z / 16777216] := by unfold byt; rw [show z / 16777216 % 256 = z / 16777216 by omega]
        rw [e]
        unfold vals at *
        rw [List.map_append]
        exact hown'
      have B2 : Below w.heap.size w w1 := (hb.alloc hsz _).grown hgrow (by simp; omega) (fun g hg => (hown.lt g hg).1)
      clear hown' hgrow hown hb hc
      go_wp2_with fail
      go_roundw
      case rel => exact ⟨j + 1, by omega, by go_num, R, B2⟩
      case measure => simp [intOf]; omega
    · go_wp2_with fail
      go_ret
      have hjn : j = n := by omega
      subst hjn
      exact ⟨_, rfl, by rw [List.take_of_length_le (by rw [HL.out]; exact Nat.le_refl _)] at hown; exact hown, hb⟩
theorem rd_of_own {w : World} {base : Nat} {e : TypeId} {k : IntKind} {v : Value} {n : Nat} {l : List Int} (h : w.ownsRow base e 1 v n (vals k l)) : ∃ A c, v = .slice A n c ∧ n ≤ c ∧ Rd w w.heap.size k A n l := by
  have hl : l.length = n := by have := h.1; unfold vals at this; simpa using this
  rcases h.2 with ⟨rfl, rfl⟩ | ⟨g, cap, cur, rfl, _, hg, hn, _, hs, hx⟩
  · have : l = [] := List.eq_nil_of_length_eq_zero hl
    subst this
    exact ⟨none, 0, rfl, Nat.le_refl _, Rd.nil⟩
  · refine ⟨_, cap, rfl, hn, hl, fun h0 => ⟨⟨g, 0, none⟩, rfl, (Array.getElem?_eq_some_iff.1 hg).1, fun i hi => ?_⟩⟩
    have e : (⟨g, 0, none⟩ : Addr).add i = ⟨g, i, none⟩ := by unfold Addr.add; split <;> simp_all
    rw [e, cell_of_row w g i cur _ (0, 0) hg]
    have h2 : (cur.toList.take (n * 1))[i]? = (vals k l)[i]? := by rw [hx]
    rw [List.getElem?_take] at h2
    rw [if_pos (by omega)] at h2
    rw [← Array.getElem?_toList, h2, nth_eq l i (by omega)]
    unfold vals
    simp [hl, hi]
end Go.Proofs.YtlgdlaohfkgkfaaGreat
