/-
  Lists of lists of bytes as they come in; the reference's Much and Join.
-/
import Derived.Test.YtojifffenfmklaaKeyB
import Derived.Test.YtojifffenfmklaaOwnA
import Derived.Deep.Matrix
import Derived.Laws.BytesString
import Derived.Laws.Cells
namespace Go.Proofs.Ytojifffenfmklaa
open Go.ChangeShapes Go.WideShapes Go.ChangeAt Go.RowKit
set_option linter.unusedVariables false

theorem infoU8c : (Try.prog.info? 5).map (fun i => (i.zero, i.size, i.bytes)) = some (some (.int .u8 0), 1, 1) := by kernel_rfl
theorem rdL_of {H : Type} {enc : TypeId × Value → H} {W : World} {base : Nat} {held : Bool} {a : Option Addr} {len cap : Nat} {d : DataW H} {p : List MemPlace}
    (h : DataW.Trod enc Try.prog W base (fun _ => true) held 22 (.slice a len cap) d p) : ∃ ls, RdL W W.heap.size a len ls ∧ len ≤ maxLen := by
  obtain ⟨fuel, hf⟩ := h
  rcases Deep.open_int_rows (k := .u8) Try.underlying22 Try.underlying25 Try.underlying5 (by kernel_rfl) (by kernel_rfl) hf with ⟨hcs, _⟩ | ⟨x, l, c, A, L, C, Z, hcs, _, hl, hm, _, hall⟩
  · simp [Value.cells] at hcs
    obtain ⟨rfl, rfl, rfl⟩ := hcs
    exact ⟨[], ⟨rfl, fun h => absurd h (by omega), by simp⟩, Nat.zero_le _⟩
  · simp [Value.cells] at hcs
    obtain ⟨rfl, rfl, rfl⟩ := hcs
    refine ⟨(List.range len).map fun r => ⟨A r, L r, C r, (Z r).take (L r)⟩, ⟨by simp, fun hn => ⟨x, rfl, ?_, fun i y hi => ?_⟩, fun y hy => ?_⟩, by omega⟩
    · have := World.block_lt_of_cell? _ _ (hall 0 (by omega)).1
      rw [block_add] at this
      exact this
    · rw [List.getElem?_map] at hi
      obtain ⟨r, hr, rfl⟩ := Option.map_eq_some_iff.1 hi
      obtain ⟨hlt, hr2⟩ := List.getElem?_eq_some_iff.1 hr
      simp at hr2 hlt
      subst hr2
      exact (hall i (by omega)).1
    · obtain ⟨r, hr, rfl⟩ := List.mem_map.1 hy
      have hr' := List.mem_range.1 hr
      obtain ⟨_, h1, h2, h3, h4, h5, h6⟩ := hall r (by omega)
      refine ⟨⟨by show ((Z r).take (L r)).length = L r; rw [List.length_take]; omega, fun hn => ?_⟩, fun i => nth_mem (fun z => 0 ≤ z ∧ z ≤ 255) _ (fun z hz => bd_u8 (h4 z (List.mem_of_mem_take hz))) (by omega) i, by show L r ≤ maxLen; omega⟩
      show ∃ x, A r = some x ∧ _
      have hn' : 0 < L r := hn
      cases hA : A r with
      | none => have := h5 hA; omega
      | some x' =>
        obtain ⟨_, hc⟩ := h6 x' hA
        refine ⟨x', rfl, ?_, fun i hi => ?_⟩
        · have := World.block_lt_of_cell? _ _ (hc 0 (by omega))
          rw [block_add] at this
          exact this
        · have hi' : i < L r := hi
          show W.cell? (x'.add i) = some (.int .u8 (nth ((Z r).take (L r)) i))
          rw [nth_take _ _ _ hi']
          exact hc i (by omega)
theorem allOf_len_succ (ls : List Lst) (j : Nat) (y : Lst) (h : ls[j]? = some y) : (allOf (ls.take (j + 1))).length = (allOf (ls.take j)).length + y.l.length := by
  rw [allOf_succ ls j y h, List.length_append]
theorem much_any (A : Option Addr) (n c : Nat) (ls : List Lst) (w : World) (hr : RdL w w.heap.size A n ls) (hn : n ≤ maxLen) :
    Calls Try.prog 9 #[.slice A n c] w fun e w' => ∃ r, e = .returned (.bool r) ∧ w = w' ∧ (r = false → n ≤ 3000 ∧ (allOf ls).length ≤ 3000) := by
  unfold maxLen at hn
  have HR := Lib.hid hr
  clear hr
  go_enter Try.func9, Try.ntmps9
  go_wp2_with fail
  go_loop [3, 4] (fun s i => ∃ j N : Nat, j ≤ n ∧ j ≤ 3001 ∧ N ≤ 3000 ∧ i = .int .i64 j ∧ s = .int .i64 N ∧ Hid (N = (allOf (ls.take j)).length)) (fun _ i => n - (intOf i).toNat)
  case atStart => exact ⟨0, 0, Nat.zero_le _, Nat.zero_le _, Nat.zero_le _, rfl, rfl, Lib.hid rfl⟩
  case round =>
    obtain ⟨j, N, hj, hj3, hN, rfl, rfl, HN⟩ := hrel
    by_cases hlt : j < n
    · by_cases h3 : j ≤ 3000
      · obtain ⟨hl, hcell, hall⟩ := HR.out
        obtain ⟨x, rfl, hx, hcell⟩ := hcell (by omega)
        have hj' : j < ls.length := by omega
        have hc := hcell j ls[j] (List.getElem?_eq_getElem hj')
        have hyl := (hall ls[j] (List.getElem_mem hj')).1.1
        have hyn := (hall ls[j] (List.getElem_mem hj')).2.2
        unfold maxLen at hyn
        have HS := Lib.hid (allOf_len_succ ls j ls[j] (List.getElem?_eq_getElem hj'))
        clear hcell hall
        generalize ls[j] = y at *
        unfold Lst.val at hc
        have HY := Lib.hid hyl
        clear hyl hl
        by_cases hy : y.n ≤ 3000
        · go_wp2_with fail
          · go_ret
            exact Or.inr ⟨rfl, rfl⟩
          · go_round
            case rel => exact ⟨j + 1, N + y.n, by omega, by omega, by omega, by go_num, by go_num, Lib.hid (by rw [HS.out, HY.out, HN.out])⟩
            case measure => simp [intOf]; omega
        · go_wp2_with fail
          all_goals (go_ret; exact Or.inr ⟨rfl, rfl⟩)
      · have hn3 : (3000 : Int) < (n : Int) := by omega
        go_wp2_with fail
        go_ret
        exact Or.inr ⟨rfl, rfl⟩
    · have hjn : j = n := by omega
      have hF := HN.out
      rw [List.take_of_length_le (by rw [HR.out.1]; omega)] at hF
      have HF := Lib.hid hF
      clear hF
      by_cases h3 : (3000 : Int) < (n : Int)
      · go_wp2_with fail
        go_ret
        exact Or.inr ⟨rfl, rfl⟩
      · go_wp2_with fail
        go_ret
        exact Or.inl ⟨rfl, rfl, by omega, by rw [← HF.out]; exact hN⟩
theorem join_any (A : Option Addr) (n c : Nat) (ls : List Lst) (w : World) (hr : RdL w w.heap.size A n ls) (hn : n ≤ 3000) (hall : (allOf ls).length ≤ 3000) :
    Calls Try.prog 11 #[.slice A n c] w fun e w' => ∃ A2 c2, e = .returned (.slice A2 (allOf ls).length c2) ∧ Rd w' w'.heap.size .u8 A2 (allOf ls).length (allOf ls) ∧ Below w.heap.size w w' := by
  have HR := Lib.hid hr
  clear hr
  have HA := Lib.hid hall
  clear hall
  obtain ⟨i0, hi, hz0, hz1, hz2⟩ := info_parts infoU8c
  go_enter Try.func11, Try.ntmps11
  go_wp2_with fail
  go_loopw [3, 4] (fun v i wr => ∃ j N : Nat, j ≤ n ∧ i = .int .i64 j ∧ wr.ownsRow w.heap.size 5 1 v N (valsOf .u8 (allOf (ls.take j))) ∧ Below w.heap.size w wr) (fun _ i _ => n - (intOf i).toNat)
  case atStart => exact ⟨0, 0, Nat.zero_le _, rfl, World.ownsRow_nil .., Below.refl _ _⟩
  case round =>
    obtain ⟨j, N, hj, rfl, hown, hb⟩ := hrel
    by_cases hlt : j < n
    · obtain ⟨hl, hcell, hall⟩ := HR.out
      obtain ⟨x, rfl, hx, hcell⟩ := hcell (by omega)
      have hj' : j < ls.length := by omega
      have hc : wr.cell? (x.add j) = some ls[j].val := by
        rw [hb.cell (by rw [block_add]; exact hx)]; exact hcell j ls[j] (List.getElem?_eq_getElem hj')
      have hy := (hall ls[j] (List.getElem_mem hj')).1
      have HS := Lib.hid (allOf_succ ls j ls[j] (List.getElem?_eq_getElem hj'))
      have hlen : (allOf (ls.take (j + 1))).length ≤ (allOf ls).length := by
        have e : allOf ls = allOf (ls.take (j + 1)) ++ allOf (ls.drop (j + 1)) := by unfold allOf; rw [← List.flatMap_append, List.take_append_drop]
        rw [e, List.length_append]; omega
      rw [HS.out, List.length_append] at hlen
      have hN : N = (allOf (ls.take j)).length := by have := hown.1; unfold valsOf at this; simp at this; omega
      clear hcell hall
      generalize ls[j] = y at *
      unfold Lst.val at hc
      have hyl := hy.1
      have HY := Lib.hid (hy.below hb)
      have hb9 := HA.out
      have hsum : N + y.n ≤ 3000 := by omega
      clear hyl hN hlen hl hy
      go_wp2_with (at_builtin; refine wpList_append_rd rfl _ _ 25 rfl w.heap.size 5 i0 (.int .u8 0) 1 Try.underlying25 hi hz0 hz1 hz2 rfl _ _ _ rfl hown w.heap.size .u8 y.a y.n y.c y.l rfl ?c1 ?c2 ?c3 ?c4 ?_)
      case c1 => exact HY.out
      case c2 => unfold maxLen; omega
      case c3 => omega
      case c4 => exact hb.size
      intro v' w1 hown' hgrow
      have R : w1.ownsRow w.heap.size 5 1 v' (N + y.n) (valsOf .u8 (allOf (ls.take (j + 1)))) := by
        rw [HS.out]; unfold valsOf at *; rw [List.map_append]; exact hown'
      have B2 : Below w.heap.size w w1 := hb.grown hgrow hb.size (fun g hg => (hown.lt g hg).1)
      clear hown' hgrow hown hb hc
      go_wp2_with fail
      go_roundw
      case rel => exact ⟨j + 1, _, by omega, by go_num, R, B2⟩
      case measure => simp [intOf]; omega
    · have e : ls.take j = ls := List.take_of_length_le (by rw [HR.out.1]; omega)
      rw [e] at hown
      have hN : N = (allOf ls).length := by have := hown.1; unfold valsOf at this; simp at this; omega
      subst hN
      obtain ⟨A2, c2, rfl, _, r2⟩ := rd_own hown
      have H2 := Lib.hid r2
      clear e hown r2
      generalize hM : (allOf ls).length = M at *
      have HM := Lib.hid hM
      clear hM
      go_wp2_with fail
      go_ret
      exact ⟨A2, c2, by rw [HM.out]; rfl, by rw [HM.out]; exact H2.out, hb⟩
def strOf (zs : List Int) : ByteArray := zs.foldl (fun r n => r.push (UInt8.ofNat n.toNat)) ByteArray.empty
theorem conv_rd {w : World} {B : Nat} {A : Option Addr} {n : Nat} {zs : List Int} (hr : Rd w B .u8 A n zs) (c : Nat) :
    (convert 25 9 (.slice A n c)).run Try.prog w = .ok (.string (strOf zs)) w := by
  rw [run_convert_bytes_string _ _ _ 5 _ _ _ Try.underlying25 Try.underlying5 Try.underlying9]
  rcases A with _ | x
  · have hn : n = 0 := by
      rcases Nat.eq_zero_or_pos n with h | h
      · exact h
      · obtain ⟨x, h2, _⟩ := hr.2 h; simp at h2
    have hz : zs = [] := List.eq_nil_of_length_eq_zero (by have := hr.1; omega)
    subst hz
    simp [Conv.bytesToString, strOf]
  · refine run_bytesToString _ _ _ _ zs ?_
    have h := run_loadCells_list (P := Try.prog) w x (zs.map (Value.int .u8)) (fun j v hj => by
      rw [List.getElem?_map] at hj
      obtain ⟨y, hy, rfl⟩ := Option.map_eq_some_iff.1 hj
      obtain ⟨hlt, rfl⟩ := List.getElem?_eq_some_iff.1 hy
      obtain ⟨x', hx, _, hc⟩ := hr.2 (by have := hr.1; omega)
      cases hx
      rw [hc j (by have := hr.1; omega), nth_eq zs j hlt])
    rw [List.length_map, hr.1] at h
    exact h
end Go.Proofs.Ytojifffenfmklaa
