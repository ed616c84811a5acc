/-
  The contracts of word's Bytes and Of, and of the reference's Bytes.
-/
import Derived.Test.YtpfbonknajcmaaaDoorWordN
import Derived.Laws.AppendOwn
import Derived.Laws.OwnMore
import Derived.OwnWalk
import Derived.StillTactics
import Derived.StillTailTactics
import Derived.Deep.QuietTactic
import Derived.BigQuiet
import Derived.Deep.RegionHeld3
import Derived.Deep.AppendLies
import Derived.WalkSpells
import Derived.Laws.Pointers
import Derived.IntWalk
namespace Go.Proofs.YtpfbonknajcmaaaDoor
open Go.ChangeShapes Go.WideShapes Go.ChangeAt Go.RowKit
set_option linter.unusedVariables false

def byt (z : Int) : List Int := [z % 256, z / 256 % 256, z / 65536 % 256, z / 16777216 % 256]
def bytesOf (l : List Int) : List Int := l.flatMap byt
def vals (k : IntKind) (l : List Int) : List Value := l.map (Value.int k)
theorem bytesOf_take (l : List Int) (j : Nat) (h : j < l.length) : bytesOf (l.take (j + 1)) = bytesOf (l.take j) ++ byt (nth l j) := by
  rw [take_nth l j h]; unfold bytesOf; rw [List.flatMap_append]; simp
theorem bytesOf_length (l : List Int) : (bytesOf l).length = 4 * l.length := by
  induction l with
  | nil => rfl
  | cons z l ih => unfold bytesOf at *; rw [List.flatMap_cons, List.length_append, ih]; simp [byt]; omega
theorem bytesOf_bd (l : List Int) : ∀ z ∈ bytesOf l, 0 ≤ z ∧ z ≤ 255 := by
  intro z hz
  unfold bytesOf at hz
  obtain ⟨x, _, h⟩ := List.mem_flatMap.1 hz
  unfold byt at h
  simp at h
  omega

theorem infoU8 : (Tryd.prog.info? 5).map (fun i => (i.zero, i.size, i.bytes)) = some (some (.int .u8 0), 1, 1) := by kernel_rfl
theorem infoU32 : (Tryd.prog.info? 22).map (fun i => (i.zero, i.size, i.bytes)) = some (some (.int .u32 0), 1, 4) := by kernel_rfl
theorem bytes_any (A : Option Addr) (n c : Nat) (zs : List Int) (w : World) (hr : Rd w w.heap.size .u32 A n zs) (hz : ∀ i, 0 ≤ nth zs i ∧ nth zs i ≤ 4294967295) (hn : n ≤ 1099511627776) :
    Calls Tryd.prog 32 #[.slice A n c] w fun e w' => ∃ v, e = .returned v ∧ w'.ownsRow w.heap.size 5 1 v (4 * n) (vals .u8 (bytesOf zs)) ∧ Below w.heap.size w w' := by
  obtain ⟨hl, hcell⟩ := hr
  have HC := Lib.hid hcell
  have HL := Lib.hid hl
  have HZ := Lib.hid hz
  clear hcell hl hz
  obtain ⟨i0, hi, hz0, hz1, hz2⟩ := info_parts infoU8
  have hmk : ∀ u : World, (Instr.makeSlice 40 (.int .i64 0) (.int .i64 (4 * (n : Int)))).run Tryd.prog u =
      .ok (.slice (some ⟨u.heap.size, 0, none⟩) 0 (4 * n)) (u.alloc (.cells (madeCells #[.int .u8 0] (4 * n)) 5)) := fun u => by
    have h := run_make (P := Tryd.prog) u 40 5 i0 (.int .u8 0) Tryd.underlying40 hi hz0 .i64 .i64 0 (4 * (n : Int)) (by omega) (by omega) (by rw [hz2]; omega) (by omega)
    have e : (4 * (n : Int)).toNat = 4 * n := by omega
    rw [e] at h
    simpa [hz1, Value.cells] using h
  go_enter Tryd.func32, Tryd.ntmps32
  go_wp2_with fail
  go_loopw [3, 12] (fun v i wr => ∃ j : Nat, j ≤ n ∧ i = .int .i64 j ∧ wr.ownsRow w.heap.size 5 1 v (4 * j) (vals .u8 (bytesOf (zs.take j))) ∧ Below w.heap.size w wr) (fun _ i _ => n - (intOf i).toNat)
  case atStart =>
    exact ⟨0, Nat.zero_le _, rfl, World.ownsRow_made _ _ _ (Nat.le_refl _) (by unfold maxLen; omega) (by simp [madeCells]), (Below.refl _ _).alloc (Nat.le_refl _) _⟩
  case round =>
    obtain ⟨j, hj, rfl, hown, hb⟩ := hrel
    by_cases hlt : j < n
    · obtain ⟨x, rfl, hx, hcell⟩ := HC.out (by omega)
      have hc : wr.cell? (x.add j) = some (.int .u32 (nth zs j)) := by
        rw [hb.cell (by rw [block_add]; exact hx)]; exact hcell j hlt
      have hzb := HZ.out j
      have hsz := hb.size
      have HS := Lib.hid (bytesOf_take zs j (by rw [HL.out]; exact hlt))
      clear hcell
      generalize nth zs j = z at *
      go_wp2_with (at_builtin; refine wpList_append_own _ rfl (.tmp 16) (.tmp 28) 40 rfl w.heap.size 5 i0 (.int .u8 0) 1 1 Tryd.underlying40 hi hz0 hz1 hz2 rfl (by decide) _ _ _ rfl (hown.alloc _) ⟨wr.heap.size, 0, none⟩ 4 4 [.int .u8 (z % 256), .int .u8 (z / 256 % 256), .int .u8 (z / 65536 % 256), .int .u8 (z / 16777216)] rfl rfl ?c1 ?c2 ?c3 ?c4 ?c5 ?_)
      case c1 =>
        intro k u hk
        match k, hk with
        | 0, hk => simp at hk; subst hk; simp [Addr.add]
        | 1, hk => simp at hk; subst hk; simp [Addr.add]
        | 2, hk => simp at hk; subst hk; simp [Addr.add]
        | 3, hk => simp at hk; subst hk; simp [Addr.add]
      case c2 => intro u hu; simp at hu; rcases hu with rfl | rfl | rfl | rfl <;> rfl
      case c3 => unfold maxLen; omega
      case c4 => omega
      case c5 => simp; omega
      intro v' w1 hown' hgrow _
      have R : w1.ownsRow w.heap.size 5 1 v' (4 * (j + 1)) (vals .u8 (bytesOf (zs.take (j + 1)))) := by
        rw [HS.out]
        have e : byt z = [z % 256, z / 256 % 256, z / 65536 % 256, z / 16777216] := by unfold byt; rw [show z / 16777216 % 256 = z / 16777216 by omega]
        rw [e]
        unfold vals at *
        rw [List.map_append]
        exact hown'
      have B2 : Below w.heap.size w w1 := (hb.alloc hsz _).grown hgrow (by simp; omega) (fun g hg => (hown.lt g hg).1)
      clear hown' hgrow hown hb hc
      go_wp2_with fail
      go_roundw
      case rel => exact ⟨j + 1, by omega, by go_num, R, B2⟩
      case measure => simp [intOf]; omega
    · go_wp2_with fail
      go_ret
      have hjn : j = n := by omega
      subst hjn
      exact ⟨_, rfl, by rw [List.take_of_length_le (by rw [HL.out]; exact Nat.le_refl _)] at hown; exact hown, hb⟩
theorem add_pos (x : Addr) (n : Nat) (h : 0 < n) : x.add n = ⟨x.block, x.off + n, none⟩ := by unfold Addr.add; split <;> first | omega | rfl
theorem or_up (a b k s : Nat) (ha : a < 2 ^ k) (hs : s = 2 ^ k) (hb : b * s < 4294967296) (hk : a < 4294967296) : bits BinOp.or IntKind.u32 (a : Int) ((b : Int) * (s : Int)) = (a : Int) + (b : Int) * (s : Int) := by
  rw [show (b : Int) * (s : Int) = ((b * s : Nat) : Int) by simp, u32_or_nat _ _ hk hb, Nat.or_comm, hs, Nat.mul_comm, ← Nat.two_pow_add_eq_or_of_lt ha]
  simp; omega
theorem or_up' (a b : Int) (k : Nat) (s : Int) (a0 : 0 ≤ a) (ha : a < 2 ^ k) (hs : s = 2 ^ k) (b0 : 0 ≤ b) (hb : b * s < 4294967296) (hk : a < 4294967296) : bits BinOp.or IntKind.u32 a (b * s) = a + b * s := by
  obtain ⟨n, rfl⟩ := Int.eq_ofNat_of_zero_le a0
  obtain ⟨m, rfl⟩ := Int.eq_ofNat_of_zero_le b0
  have e : s = ((2 ^ k : Nat) : Int) := by rw [hs, pow_toNat]
  rw [e] at hb ⊢
  exact or_up n m k (2 ^ k) (by rw [pow_toNat] at ha; omega) rfl (by rw [← Int.natCast_mul] at hb; omega) (by omega)
def wordAt (zs : List Int) (i : Nat) : Int := nth zs (4 * i) + 256 * nth zs (4 * i + 1) + 65536 * nth zs (4 * i + 2) + 16777216 * nth zs (4 * i + 3)
def wordsOf (zs : List Int) (m : Nat) : List Int := (List.range m).map (wordAt zs)
theorem wordsOf_succ (zs : List Int) (m : Nat) : wordsOf zs (m + 1) = wordsOf zs m ++ [wordAt zs m] := by unfold wordsOf; rw [List.range_succ, List.map_append]; rfl
theorem of_any (A : Option Addr) (m c : Nat) (zs : List Int) (w : World) (hr : Rd w w.heap.size .u8 A (4 * m) zs) (hz : ∀ i, 0 ≤ nth zs i ∧ nth zs i ≤ 255) (hn : m ≤ 1099511627776) :
    Calls Tryd.prog 33 #[.slice A (4 * m) c] w fun e w' => ∃ v, e = .returned (.tuple #[v, .int .i64 0]) ∧ w'.ownsRow w.heap.size 22 1 v m (vals .u32 (wordsOf zs m)) ∧ Below w.heap.size w w' := by
  obtain ⟨hl, hcell⟩ := hr
  have HC := Lib.hid hcell
  have HL := Lib.hid hl
  have HZ := Lib.hid hz
  clear hcell hl hz
  obtain ⟨i0, hi, hz0, hz1, hz2⟩ := info_parts infoU32
  have hmk : ∀ u : World, (Instr.makeSlice 39 (.int .i64 0) (.int .i64 (m : Int))).run Tryd.prog u =
      .ok (.slice (some ⟨u.heap.size, 0, none⟩) 0 m) (u.alloc (.cells (madeCells #[.int .u32 0] m) 22)) := fun u => by
    have h := run_make (P := Tryd.prog) u 39 22 i0 (.int .u32 0) Tryd.underlying39 hi hz0 .i64 .i64 0 (m : Int) (by omega) (by omega) (by rw [hz2]; omega) (by omega)
    simpa [hz1, Value.cells] using h
  have hm4 : 4 * (m : Int) / 4 = m := by omega
  have hm0 : 4 * (m : Int) % 4 = 0 := by omega
  go_enter Tryd.func33, Tryd.ntmps33
  go_wp2_with fail
  go_loopw [4, 5] (fun v i wr => ∃ j p : Nat, j ≤ m ∧ Hid (p = 4 * j) ∧ i = .int .i64 p ∧ wr.ownsRow w.heap.size 22 1 v j (vals .u32 (wordsOf zs j)) ∧ Below w.heap.size w wr) (fun _ i _ => 4 * m - (intOf i).toNat)
  case atStart =>
    exact ⟨0, 0, Nat.zero_le _, Lib.hid rfl, rfl, World.ownsRow_made _ _ _ (Nat.le_refl _) (by unfold maxLen; omega) (by simp [madeCells]), (Below.refl _ _).alloc (Nat.le_refl _) _⟩
  case round =>
    obtain ⟨j, p, hj, hpj, rfl, hown, hb⟩ := hrel
    by_cases hlt : j < m
    · obtain ⟨x, rfl, hx, hcell⟩ := HC.out (by omega)
      have c0 : wr.cell? (x.add p) = some (.int .u8 (nth zs p)) := by
        rw [hb.cell (by rw [block_add]; exact hx)]; exact hcell _ (by have := hpj.out; omega)
      have c1 : wr.cell? ⟨x.block, x.off + (p + 1), none⟩ = some (.int .u8 (nth zs (p + 1))) := by
        rw [← add_pos x _ (by omega), hb.cell (by rw [block_add]; exact hx)]; exact hcell _ (by have := hpj.out; omega)
      have c2 : wr.cell? ⟨x.block, x.off + (p + 1 + 1), none⟩ = some (.int .u8 (nth zs (p + 2))) := by
        rw [← add_pos x _ (by omega), hb.cell (by rw [block_add]; exact hx)]; exact hcell _ (by have := hpj.out; omega)
      have c3 : wr.cell? ⟨x.block, x.off + (p + 1 + 1 + 1), none⟩ = some (.int .u8 (nth zs (p + 3))) := by
        rw [← add_pos x _ (by omega), hb.cell (by rw [block_add]; exact hx)]; exact hcell _ (by have := hpj.out; omega)
      have d0 := HZ.out p
      have d1 := HZ.out (p + 1)
      have d2 := HZ.out (p + 2)
      have d3 := HZ.out (p + 3)
      have hsz := hb.size
      have HW : Hid (wordAt zs j = _) := Lib.hid (show wordAt zs j = nth zs p + 256 * nth zs (p + 1) + 65536 * nth zs (p + 2) + 16777216 * nth zs (p + 3) from by rw [hpj.out]; rfl)
      clear hcell
      generalize nth zs p = b0 at *
      generalize nth zs (p + 1) = b1 at *
      generalize nth zs (p + 2) = b2 at *
      generalize nth zs (p + 3) = b3 at *
      have o1 := or_up' b0 b1 8 256 d0.1 (by omega) rfl d1.1 (by omega) (by omega)
      have o2 := or_up' (b0 + b1 * 256) b2 16 65536 (by omega) (by omega) rfl d2.1 (by omega) (by omega)
      have o3 := or_up' (b0 + b1 * 256 + b2 * 65536) b3 24 16777216 (by omega) (by omega) rfl d3.1 (by omega) (by omega)
      have k0 : IntKind.u32.wrap b0 = b0 := IntWalk.u32_in _ (by omega)
      have k1 : IntKind.u32.wrap b1 = b1 := IntWalk.u32_in _ (by omega)
      have k2 : IntKind.u32.wrap b2 = b2 := IntWalk.u32_in _ (by omega)
      have k3 : IntKind.u32.wrap b3 = b3 := IntWalk.u32_in _ (by omega)
      have m1 : IntKind.u32.wrap (b1 * 256) = b1 * 256 := IntWalk.u32_in _ (by omega)
      have m2 : IntKind.u32.wrap (b2 * 65536) = b2 * 65536 := IntWalk.u32_in _ (by omega)
      have m3 : IntKind.u32.wrap (b3 * 16777216) = b3 * 16777216 := IntWalk.u32_in _ (by omega)
      have nown : u4.ownBlock ≠ some x.block := fun e => by have := (hown.lt _ e).1; omega
      have p0 : (0 : Int) ≤ (p : Int) := by omega
      have p1 : (p : Int) < 4 * (m : Int) := by have := hpj.out; omega
      have p2 : (p : Int) + 1 < 4 * (m : Int) := by have := hpj.out; omega
      have p3 : (p : Int) + 2 < 4 * (m : Int) := by have := hpj.out; omega
      have p4 : (p : Int) + 3 < 4 * (m : Int) := by have := hpj.out; omega
      have r1 : (0 : Int) ≤ (p : Int) + 1 := by omega
      have r2 : (0 : Int) ≤ (p : Int) + 2 := by omega
      have r3 : (0 : Int) ≤ (p : Int) + 3 := by omega
      have s1 : IntKind.i64.wrap ((p : Int) + 1) = (p : Int) + 1 := IntWalk.i64_in _ (by omega)
      have s2 : IntKind.i64.wrap ((p : Int) + 2) = (p : Int) + 2 := IntWalk.i64_in _ (by omega)
      have s3 : IntKind.i64.wrap ((p : Int) + 3) = (p : Int) + 3 := IntWalk.i64_in _ (by omega)
      have t1 : ((p : Int) + 1).toNat = p + 1 := by omega
      have t2 : ((p : Int) + 2).toNat = p + 2 := by omega
      have t3 : ((p : Int) + 3).toNat = p + 3 := by omega
      go_wp2_with fail
      go_region_held3 (fun w' => w'.cell? (x.add p) = some (.int .u8 b0) ∧ w'.cell? ⟨x.block, x.off + (p + 1), none⟩ = some (.int .u8 b1) ∧ w'.cell? ⟨x.block, x.off + (p + 1 + 1), none⟩ = some (.int .u8 b2) ∧ w'.cell? ⟨x.block, x.off + (p + 1 + 1 + 1), none⟩ = some (.int .u8 b3))
        (first
          | go_keep
          | (go_split_ands
             refine ⟨?_, ?_, ?_, ?_⟩
             all_goals (rw [hgrow.cell_far _ (by simp [block_add]; omega) (by first | (rw [block_add]; exact Ne.symm nown) | exact Ne.symm nown)]; assumption)))
        ((refine step_append_lies _ (by rfl) _ _ _ (by rfl) w.heap.size 22 i0 _ 1 4 Tryd.underlying39 hi hz0 hz1 hz2 rfl (by omega) u4 j (vals .u32 (wordsOf zs j)) (by rfl) ((hown.alloc _).drew)
            ⟨wr.heap.size, 0, none⟩ 1 1 [.int .u32 (b0 + b1 * 256 + b2 * 65536 + b3 * 16777216)] (by rfl) (by rfl) (World.news_of_block (cs := #[.int .u32 (b0 + b1 * 256 + b2 * 65536 + b3 * 16777216)]) (t := 22) (fr := (0, 0)) (heap_alloc_new wr _)) (by simp [Value.oneCell'])
            (by omega) (by unfold maxLen; omega) (by omega) (by simp; omega) (wr.heap.size + 1) (by simp) ?_; intro gg cap w1 hown1 hgrow hat hlt))
      have R : w1.ownsRow w.heap.size 22 1 (.slice (some ⟨gg, 0, none⟩) (j + 1) cap) (j + 1) (vals .u32 (wordsOf zs (j + 1))) := by
        rw [wordsOf_succ, HW.out, show b0 + 256 * b1 + 65536 * b2 + 16777216 * b3 = b0 + b1 * 256 + b2 * 65536 + b3 * 16777216 by omega]
        unfold vals at *
        rw [List.map_append]
        exact hown1
      have B2 : Below w.heap.size w w1 := ((hb.alloc hsz _).drew).grown hgrow (by simp; omega) (fun g hg => (hown.lt g hg).1)
      clear hown1 hgrow hown hb
      go_wp2_with fail
      go_roundw
      case rel => exact ⟨j + 1, p + 4, by omega, Lib.hid (by have := hpj.out; omega), by go_num, R, B2⟩
      case measure => simp [intOf]; omega
    · obtain rfl : j = m := by omega
      have hpe := hpj.out
      subst hpe
      go_wp2_with fail
      go_ret2
      exact ⟨_, rfl, hown, hb⟩
theorem of_no (A : Option Addr) (n c : Nat) (h : n % 4 ≠ 0) (hn : n ≤ 1099511627776) (w : World) :
    Calls Tryd.prog 33 #[.slice A n c] w fun e w' => e = .returned (.tuple #[.slice none 0 0, .int .i64 4]) ∧ w = w' := by
  have h1 : ((n : Int) % 4 != 0) = true := by rw [bne_iff_ne]; omega
  go_enter Tryd.func33, Tryd.ntmps33
  go_wp2
  go_ret2
  exact ⟨rfl, rfl⟩
theorem rd_of_own {w : World} {base : Nat} {e : TypeId} {k : IntKind} {v : Value} {n : Nat} {l : List Int} (h : w.ownsRow base e 1 v n (vals k l)) : ∃ A c, v = .slice A n c ∧ n ≤ c ∧ Rd w w.heap.size k A n l := by
  have hl : l.length = n := by have := h.1; unfold vals at this; simpa using this
  rcases h.2 with ⟨rfl, rfl⟩ | ⟨g, cap, cur, rfl, _, hg, hn, _, hs, hx⟩
  · have : l = [] := List.eq_nil_of_length_eq_zero hl
    subst this
    exact ⟨none, 0, rfl, Nat.le_refl _, Rd.nil⟩
  · refine ⟨_, cap, rfl, hn, hl, fun h0 => ⟨⟨g, 0, none⟩, rfl, (Array.getElem?_eq_some_iff.1 hg).1, fun i hi => ?_⟩⟩
    have e : (⟨g, 0, none⟩ : Addr).add i = ⟨g, i, none⟩ := by unfold Addr.add; split <;> simp_all
    rw [e, cell_of_row w g i cur _ (0, 0) hg]
    have h2 : (cur.toList.take (n * 1))[i]? = (vals k l)[i]? := by rw [hx]
    rw [List.getElem?_take] at h2
    rw [if_pos (by omega)] at h2
    rw [← Array.getElem?_toList, h2, nth_eq l i (by omega)]
    unfold vals
    simp [hl, hi]
end Go.Proofs.YtpfbonknajcmaaaDoor
