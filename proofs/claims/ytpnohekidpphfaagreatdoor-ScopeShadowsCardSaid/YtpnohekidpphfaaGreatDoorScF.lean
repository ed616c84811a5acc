/-
  ScopeShadows: rows of Booleans as they come in; names' numbers; a name in lists.
-/
import Derived.Test.YtpnohekidpphfaaGreatDoorScB
import Derived.Test.YtpnohekidpphfaaGreatDoorScD
import Derived.Test.YtpnohekidpphfaaGreatDoorScE
import Derived.Test.YtpnohekidpphfaaGreatDoorScK
namespace Go.Proofs.YtpnohekidpphfaaGreatDoor
open Go.ChangeShapes Go.WideShapes Go.ChangeAt Go.RowKit
open Ev (WRow)
set_option linter.unusedVariables false
set_option linter.unusedSimpArgs false
theorem boolRow_of {P : Program} {H : Type} {enc : TypeId × Value → H} {W : World} {base : Nat} {held : Bool} {t e : TypeId} {a : Option Addr} {len cap : Nat} {d : DataW H} {p : List MemPlace}
    (ht : P.underlying t = some (.slice e)) (he : P.underlying e = some .bool) (hc : P.cellsOf e = 1)
    (h : DataW.Trod enc P W base (fun _ => true) held t (.slice a len cap) d p) : len ≤ maxLen ∧ ∀ k, k < len → ∃ x b, a = some x ∧ x.block < W.heap.size ∧ W.cell? (x.add k) = some (.bool b) := by
  obtain ⟨fuel, hf⟩ := h
  rcases DataW.trod_slice ht hf with ⟨hcs, _⟩ | ⟨a', len', cap', elems, rest, n, _, hcs, _, hb, hl, hm, hlen, hel, hsp, hns⟩
  · simp [Value.cells] at hcs
    obtain ⟨rfl, rfl, rfl⟩ := hcs
    exact ⟨Nat.zero_le _, fun k hk => by omega⟩
  · simp [Value.cells] at hcs
    obtain ⟨rfl, rfl, rfl⟩ := hcs
    refine ⟨Nat.le_trans hl hm, fun k hk => ?_⟩
    have hk2 := hel k hk
    rw [List.getElem?_eq_getElem (by omega), hc, Nat.mul_one, Option.bind_eq_some_iff] at hk2
    obtain ⟨cs', hcs', hy⟩ := hk2
    obtain ⟨b, rfl, _⟩ := DataW.trod_bool he hy
    have hcell := cell_of_cells?_one hcs'
    have hlt := World.block_lt_of_cell? _ _ hcell
    rw [block_add] at hlt
    exact ⟨a', b, rfl, hlt, hcell⟩
noncomputable section
set_option maxRecDepth 1000000 in
theorem runN0 : Ev.outF (fun _ => ()) ((Ev.evO Tryz.prog scA Ev.noOrc 1000 30 (.fn 14) []).go .e 0) = some (.slice 0 0 13 13, 1, ()) := by kernel_rfl
theorem names_any (w : World) (hT : SpTab w) : Calls Tryz.prog 14 #[] w fun e w' => ∃ b f, e = .returned (.slice (some ⟨b, f, none⟩) 13 13) ∧ Below w.heap.size w w' :=
  (Ev.calls_memF (Ev.noOrc_ok _ _) 1000 30 runN0 (Ev.St.start tabVal0 w (tab_base hT _ _ _ _)) scHas [] trivial).mono fun e w' he => by
    obtain ⟨x, μ, rfl, ⟨b, f, hm, rfl⟩, _, hS, _, hb⟩ := he
    exact ⟨b, _, rfl, hb⟩
end
theorem id_any (a : Int) (w : World) (hT : SpTab w) : Calls Tryz.prog 13 #[.int .i64 a] w fun e w' => (∃ N, e = .returned (.int .i64 N) ∧ 57 ≤ N ∧ N ≤ 69) ∧ Below w.heap.size w w' := by
  have HN := Lib.hid (names_any w hT)
  have h3 := Int.lt_tmod_of_pos a (show (0 : Int) < 13 by omega)
  have h4 := Int.tmod_lt_of_pos a (show (0 : Int) < 13 by omega)
  have h1 : IntKind.i64.wrap (a.tmod 13) = a.tmod 13 := by rw [IntKind.wrap_i64]; omega
  have h2 : IntKind.i64.wrap (a.tmod 13 + 13) = a.tmod 13 + 13 := by rw [IntKind.wrap_i64]; omega
  have e5 : (a.tmod 13 + 13).tmod 13 = (a.tmod 13 + 13) % 13 := Int.tmod_eq_emod_of_nonneg (by omega)
  have h5 := Int.emod_nonneg (a.tmod 13 + 13) (show (13 : Int) ≠ 0 by omega)
  have h6 := Int.emod_lt_of_pos (a.tmod 13 + 13) (show (0 : Int) < 13 by omega)
  rw [← e5] at h5 h6
  clear e5
  have h7 : IntKind.i64.wrap ((a.tmod 13 + 13).tmod 13) = (a.tmod 13 + 13).tmod 13 := by rw [IntKind.wrap_i64]; omega
  have h8 : IntKind.i64.wrap (57 + (a.tmod 13 + 13).tmod 13) = 57 + (a.tmod 13 + 13).tmod 13 := by rw [IntKind.wrap_i64]; omega
  go_enter Tryz.func13, Tryz.ntmps13
  go_wp2_with (go_at_call 14; (refine HN.out.mono ?_); rintro e w' ⟨b, f, rfl, hb⟩)
  go_ret
  exact ⟨⟨_, rfl, by omega, by omega⟩, hb⟩
/-! ### a name in lists -/
def rsK (ks : List (Option Nat)) : Nat → Option Nat
  | 0 => none
  | j + 1 => (ks[j]?).join
def tk (ks : List (Option Nat)) (L : Nat) : Option Nat := topR (rsK ks) L
theorem tk_app (ks : List (Option Nat)) (r : Option Nat) : ∀ L, L ≤ ks.length + 1 → tk (ks ++ [r]) L = tk ks L
  | 0, _ => rfl
  | 1, _ => rfl
  | L + 2, h => by
    have h1 : rsK (ks ++ [r]) (L + 1) = rsK ks (L + 1) := by
      show ((ks ++ [r])[L]?).join = (ks[L]?).join
      rw [List.getElem?_append_left (by omega)]
    have h2 := tk_app ks r (L + 1) (by omega)
    unfold tk at *
    show (match rsK (ks ++ [r]) (L + 1) with | some k => some k | none => topR (rsK (ks ++ [r])) (L + 1)) = _
    rw [h1, h2]; rfl
theorem tk_last (ks : List (Option Nat)) (r : Option Nat) : tk (ks ++ [r]) (ks.length + 2) = match r with | some k => some k | none => tk ks (ks.length + 1) := by
  have h1 : rsK (ks ++ [r]) (ks.length + 1) = r := by
    show ((ks ++ [r])[ks.length]?).join = r
    rw [List.getElem?_append_right (Nat.le_refl _), Nat.sub_self]
    cases r <;> rfl
  show (match rsK (ks ++ [r]) (ks.length + 1) with | some k => some k | none => tk (ks ++ [r]) (ks.length + 1)) = _
  rw [h1, tk_app ks r _ (Nat.le_refl _)]
theorem tk_pos {ks : List (Option Nat)} (h : ∀ (j k : Nat), ks[j]? = some (some k) → 0 < k) : ∀ (L k : Nat), tk ks L = some k → 0 < k
  | 0, k, e => by cases e
  | 1, k, e => by cases e
  | L + 2, k, e => by
    have e2 : (match rsK ks (L + 1) with | some k => some k | none => tk ks (L + 1)) = some k := e
    cases hr : rsK ks (L + 1) with
    | none => rw [hr] at e2; exact tk_pos h (L + 1) k e2
    | some q =>
      rw [hr] at e2
      obtain rfl := Option.some.inj e2
      have h3 : (ks[L]?).join = some q := hr
      cases hk : ks[L]? with
      | none => rw [hk] at h3; cases h3
      | some r =>
        rw [hk] at h3
        have h4 : r = some q := h3
        rw [h4] at hk
        exact h L q hk
theorem wrow_same {w w' : World} {B size : Nat} {v : Value} {n : Nat} {xs : List Value} (h : WRow w B size v n xs) (hs : w.heap.size ≤ w'.heap.size) (hz : ∀ z, v.ownBlock = some z → w'.heap[z]? = w.heap[z]?) : WRow w' B size v n xs := by
  refine ⟨h.1, ?_⟩
  rcases h.2 with hn | ⟨b, f, c, rfl, hb, hl, h1, h2, h3, h4⟩
  · exact .inl hn
  · have hk : w'.heap[b]? = w.heap[b]? := hz b rfl
    exact .inr ⟨b, f, c, rfl, hb, Nat.lt_of_lt_of_le hl hs, h1, h2, fun j x hx => by rw [World.cell?_of_block (w := w) hk]; exact h3 j x hx, fun j hj => by rw [World.cell?_of_block (w := w) hk, World.frozen?_of_block (w := w) hk]; exact h4 j hj⟩
/-- what someone else's row does leaves a scope as it is -/
theorem ScAt.grown {w w1 : World} {B p o n : Nat} {tv lv zv : Value} {xs : List Value} {ls : List (Value × List Nat)} (h : ScAt w B p o tv lv n xs ls) (hg : w.grownBy w1 zv.ownBlock) (hz : ∀ z, zv.ownBlock = some z → Ap z p tv lv ls) : ScAt w1 B p o tv lv n xs ls := by
  have hp : w1.heap[p]? = w.heap[p]? := hg.block p h.lt (fun e => (hz p e.symm).1 rfl)
  have hv : ∀ u : Value, (∀ z, zv.ownBlock = some z → u.ownBlock ≠ some z) → u.ownBlock = none ∨ u.ownBlock ≠ zv.ownBlock := fun u hu => by
    cases hu1 : u.ownBlock with
    | none => exact .inl rfl
    | some k => right; intro e; exact hu k e.symm hu1
  exact ⟨by rw [World.cell?_of_block hp]; exact h.c1, by rw [World.cell?_of_block hp]; exact h.c2, by rw [World.frozen?_of_block hp]; exact h.z2, by rw [World.cell?_of_block hp]; exact h.c3, by rw [World.cell?_of_block hp]; exact h.c4, by rw [World.frozen?_of_block hp]; exact h.z4,
    h.th.kept hg (hv tv fun z e => (hz z e).2.1), h.li.kept hg (hv lv fun z e => (hz z e).2.2.1), fun i v ns hi => ⟨(h.row i v ns hi).1.kept hg (hv v fun z e => (hz z e).2.2.2 i v ns hi), (h.row i v ns hi).2⟩, h.apart, h.tp, h.lp, h.tl, h.bp, Nat.lt_of_lt_of_le h.lt hg.size, h.n0, h.n1, h.l0, h.l1⟩
theorem ScAt.far {w : World} {B p o n : Nat} {tv lv : Value} {xs : List Value} {ls : List (Value × List Nat)} (h : ScAt w B p o tv lv n xs ls) (z : Nat) (hz : w.heap.size ≤ z) : Ap z p tv lv ls :=
  ⟨by have := h.lt; omega, fun e => by have := (h.th.lt z e).2; omega, fun e => by have := (h.li.lt z e).2; omega, fun i v ns hi e => by have := ((h.row i v ns hi).1.lt z e).2; omega⟩
/-- the lists, the name in them; a row of someone else's -/
structure Sh (w wr : World) (p o c : Nat) (N : Int) (zv : Value) (ks : List (Option Nat)) : Prop where
  b : Below w.heap.size w wr
  s : ∃ tv lv n xs ls, ScAt wr w.heap.size p o tv lv n xs ls ∧ n ≤ 29 + c ∧ ls.length = ks.length + 1 ∧ (∃ v0, ls[0]? = some (v0, List.range' 1 28)) ∧ (∀ (j : Nat) (r : Option Nat), ks[j]? = some r → ∃ v, ls[j + 1]? = some (v, r.toList)) ∧ (∀ j ∈ List.range' 1 28, ∃ y, Nm xs j y ∧ y ≠ N) ∧ (∀ (j k : Nat), ks[j]? = some (some k) → Nm xs k N) ∧ (∀ z, zv.ownBlock = some z → z < wr.heap.size ∧ Ap z p tv lv ls)
  q : ∀ (j k : Nat), ks[j]? = some (some k) → 0 < k
/-- someone else's row stays -/
def Kz (zv : Value) (w w' : World) : Prop := w.heap.size ≤ w'.heap.size ∧ ∀ z, zv.ownBlock = some z → w'.heap[z]? = w.heap[z]?
section
variable {w wr : World} {p o c : Nat} {N : Int} {zv : Value} {ks : List (Option Nat)}
theorem Sh.below {W : World} (h : Sh w wr p o c N zv ks) (hb : Below wr.heap.size wr W) : Sh w W p o c N zv ks := by
  obtain ⟨tv, lv, n, xs, ls, h2, h3, h4, h5, h6, h7, h8, h9⟩ := h.s
  exact ⟨h.b.trans (hb.mono h.b.size), ⟨tv, lv, n, xs, ls, h2.below hb, h3, h4, h5, h6, h7, h8, fun z hz => ⟨Nat.lt_of_lt_of_le (h9 z hz).1 hb.size, (h9 z hz).2⟩⟩, h.q⟩
theorem Sh.more {c' : Nat} (h : Sh w wr p o c N zv ks) (hc : c ≤ c') : Sh w wr p o c' N zv ks := by
  obtain ⟨tv, lv, n, xs, ls, h2, h3, h4⟩ := h.s
  exact ⟨h.b, ⟨tv, lv, n, xs, ls, h2, by omega, h4⟩, h.q⟩
/-- the row itself grows -/
theorem Sh.grown {W w1 : World} {g f n2 cap : Nat} (h : Sh w W p o c N zv ks) (hg : W.grownBy w1 zv.ownBlock) (hat : zv.ownBlock = some g ∨ g = W.heap.size) (hlt : g < w1.heap.size) (hB : ∀ z, zv.ownBlock = some z → w.heap.size ≤ z) : Sh w w1 p o c N (.slice (some ⟨g, f, none⟩) n2 cap) ks := by
  obtain ⟨tv, lv, n, xs, ls, h2, h3, h4, h5, h6, h7, h8, h9⟩ := h.s
  have hA : Ap g p tv lv ls := by
    rcases hat with e | e
    · exact (h9 g e).2
    · exact h2.far g (by omega)
  refine ⟨h.b.grown hg h.b.size (fun k hk => hB k hk), ⟨tv, lv, n, xs, ls, h2.grown hg (fun z hz => (h9 z hz).2), h3, h4, h5, h6, h7, h8, fun z hz => ?_⟩, h.q⟩
  obtain rfl : g = z := Option.some.inj hz
  exact ⟨hlt, hA⟩
theorem sh_open (h : Sh w wr p o c N zv ks) (hL : ks.length ≤ 30) : Calls Tryz.prog 9 #[.pointer (some ⟨p, o, none⟩)] wr fun e w' => e = .returned (.tuple #[]) ∧ Sh w w' p o c N zv (ks ++ [none]) ∧ Kz zv wr w' := by
  obtain ⟨tv, lv, n, xs, ls, h2, h3, h4, ⟨v0, h5⟩, h6, h7, h8, h9⟩ := h.s
  have hold : ∀ (j k : Nat), (ks ++ [none])[j]? = some (some k) → ks[j]? = some (some k) := fun j k e => by
    rw [List.getElem?_append] at e
    split at e
    · exact e
    · rename_i hj
      have := (List.getElem?_eq_some_iff.1 e).1
      simp at this
      rw [show j - ks.length = 0 by omega] at e
      cases e
  refine (open_any h2 (by omega) h.b.size).mono fun e w' ⟨he, hb, lv', hs, hz⟩ => ⟨he, ⟨h.b.trans hb, ⟨tv, lv', n, xs, _, hs, h3, by simp [h4], ⟨v0, by rw [List.getElem?_append_left (by omega)]; exact h5⟩, fun j r hj => ?_, h7, fun j k e => h8 j k (hold j k e), fun z e => ⟨Nat.lt_of_lt_of_le (h9 z e).1 hb.size, (hz z (h9 z e).1 (h9 z e).2).2⟩⟩, fun j k e => h.q j k (hold j k e)⟩, hb.size, fun z e => (hz z (h9 z e).1 (h9 z e).2).1⟩
  rw [List.getElem?_append] at hj
  split at hj
  · obtain ⟨v, hv⟩ := h6 j r hj
    exact ⟨v, by rw [List.getElem?_append_left (by omega)]; exact hv⟩
  · rename_i hjl
    have := (List.getElem?_eq_some_iff.1 hj).1
    simp at this
    rw [show j - ks.length = 0 by omega] at hj
    cases hj
    exact ⟨.slice none 0 0, by rw [List.getElem?_append_right (by omega), show j + 1 - ls.length = 0 by omega]; rfl⟩
theorem sh_find (h : Sh w wr p o c N zv ks) : Calls Tryz.prog 17 #[.pointer (some ⟨p, o, none⟩), .int .i64 N] wr fun e w' => e = .returned (.tuple #[.int .i64 (orN (tk ks (ks.length + 1))), .bool (tk ks (ks.length + 1)).isSome]) ∧ wr = w' := by
  obtain ⟨tv, lv, n, xs, ls, h2, h3, h4, ⟨v0, h5⟩, h6, h7, h8, h9⟩ := h.s
  have := find_any h2 N (rsK ks) (fun i v ns hi => by
    cases i with
    | zero =>
      rw [h5] at hi
      cases hi
      exact ⟨by simp, h7⟩
    | succ j =>
      have hjl : j < ks.length := by have := (List.getElem?_eq_some_iff.1 hi).1; omega
      obtain ⟨r, hr⟩ : ∃ r, ks[j]? = some r := ⟨_, List.getElem?_eq_getElem hjl⟩
      obtain ⟨v', hv'⟩ := h6 j r hr
      rw [hv'] at hi
      cases hi
      have e1 : rsK ks (j + 1) = r := by
        show (ks[j]?).join = r
        rw [hr]; cases r <;> rfl
      rw [e1]
      cases r with
      | none => exact ⟨by simp, fun q hq => by simp at hq⟩
      | some k => exact ⟨by simp, rfl, h8 j k hr⟩)
  rw [h4] at this
  exact this
theorem sh_close {r : Option Nat} (h : Sh w wr p o c N zv (ks ++ [r])) (hL : 1 ≤ ks.length) : Calls Tryz.prog 18 #[.pointer (some ⟨p, o, none⟩)] wr fun e w' => e = .returned (.tuple #[]) ∧ Sh w w' p o c N zv ks ∧ Kz zv wr w' := by
  obtain ⟨tv, lv, n, xs, ls, h2, h3, h4, ⟨v0, h5⟩, h6, h7, h8, h9⟩ := h.s
  have hne : ls ≠ [] := fun e => by rw [e] at h4; simp at h4
  obtain ⟨ls', z, rfl⟩ : ∃ ls' z, ls = ls' ++ [z] := ⟨ls.dropLast, ls.getLast hne, (List.dropLast_concat_getLast hne).symm⟩
  have hl : ls'.length = ks.length + 1 := by simp at h4; omega
  have hold : ∀ (j : Nat) (s : Option Nat), ks[j]? = some s → (ks ++ [r])[j]? = some s := fun j s e => by
    rw [List.getElem?_append_left (List.getElem?_eq_some_iff.1 e).1]; exact e
  refine (close_any h2 (by omega) h.b.size).mono fun e w' ⟨he, hb, lv', hs, hz⟩ => ⟨he, ⟨h.b.trans hb, ⟨tv, lv', n, xs, ls', hs, h3, hl, ⟨v0, ?_⟩, fun j s hj => ?_, h7, fun j k e => h8 j k (hold j _ e), fun z e => ⟨Nat.lt_of_lt_of_le (h9 z e).1 hb.size, (hz z (h9 z e).1 (h9 z e).2).2⟩⟩, fun j k e => h.q j k (hold j _ e)⟩, hb.size, fun z e => (hz z (h9 z e).1 (h9 z e).2).1⟩
  · rw [List.getElem?_append_left (by omega)] at h5; exact h5
  · obtain ⟨v, hv⟩ := h6 j s (hold j s hj)
    have := (List.getElem?_eq_some_iff.1 hj).1
    rw [List.getElem?_append_left (by omega)] at hv
    exact ⟨v, hv⟩
theorem sh_level (h : Sh w wr p o c N zv ks) : Calls Tryz.prog 19 #[.pointer (some ⟨p, o, none⟩)] wr fun e w' => e = .returned (.int .i64 ((ks.length : Int) - 1)) ∧ wr = w' := by
  obtain ⟨tv, lv, n, xs, ls, h2, h3, h4, _⟩ := h.s
  have := sclevel_any h2
  rw [h4] at this
  exact this.mono fun e w' ⟨he, hb⟩ => ⟨by rw [he]; congr 2; push_cast; omega, hb⟩
/-- one more under that name, in the last list: its number, and what Get tells of it -/
theorem sh_declare (h : Sh w wr p o c N zv (ks ++ [none])) (hc : c ≤ 100) (V : Int) : ∃ k : Nat, 0 < k ∧
    Calls Tryz.prog 10 #[.pointer (some ⟨p, o, none⟩), .agg #[.int .i64 3, .int .i64 N, .int .i64 1, .int .i64 0, .int .i32 V, .int .i64 0, .bool false, .bool false, .slice none 0 0]] wr fun e w' => e = .returned (.tuple #[.int .i64 (k : Int), .int .i64 0]) ∧ Sh w w' p o (c + 1) N zv (ks ++ [some k]) ∧ Kz zv wr w' ∧
      ∀ W, Below w'.heap.size w' W → Calls Tryz.prog 16 #[.pointer (some ⟨p, o, none⟩), .int .i64 (k : Int)] W fun e w2 => e = .returned (.tuple #[.agg #[.int .i64 3, .int .i64 N, .int .i64 1, .int .i64 (ks.length : Int), .int .i32 V, .int .i64 0, .bool false, .bool false, .slice none 0 0], .bool true]) ∧ Below W.heap.size W w2 := by
  obtain ⟨tv, lv, n, xs, ls, h2, h3, h4, ⟨v0, h5⟩, h6, h7, h8, h9⟩ := h.s
  have hl : ls.length = (ks.length + 1) + 1 := by rw [h4]; simp
  have hkl : (ks ++ [none])[ks.length]? = some (none : Option Nat) := by rw [List.getElem?_append_right (Nat.le_refl _), Nat.sub_self]; rfl
  obtain ⟨v, hv⟩ := h6 ks.length none hkl
  have n0 := h2.n0
  have hxl := h2.th.1
  have hlvl : (((ks.length + 1 : Nat) : Int) + 1 - 2) = (ks.length : Int) := by omega
  refine ⟨n, by omega, (declare_any h2 h.b.size (ks.length + 1) hl v [] hv (by simp) (.int .i64 3) N (.int .i64 1) (.int .i32 V) (.int .i64 0) (.bool false) (.bool false) rfl rfl rfl rfl rfl rfl (fun j hj => by simp at hj) (by omega)).mono fun e w' ⟨he, hb, tv', v', hs, hz⟩ => ?_⟩
  rw [hlvl] at hs
  have hget : ∀ j r, (ks ++ [some n])[j]? = some r → ks[j]? = some r ∧ j < ks.length ∨ j = ks.length ∧ r = some n := fun j r e => by
    rw [List.getElem?_append] at e
    split at e
    · rename_i hj; exact .inl ⟨e, hj⟩
    · rename_i hj
      have := (List.getElem?_eq_some_iff.1 e).1
      simp at this
      rw [show j - ks.length = 0 by omega] at e
      exact .inr ⟨by omega, (Option.some.inj e).symm⟩
  have hnew : Nm (xs ++ cells9 (.int .i64 3) (.int .i64 N) (.int .i64 1) (.int .i64 (ks.length : Int)) (.int .i32 V) (.int .i64 0) (.bool false) (.bool false)) n N := by
    unfold Nm
    rw [List.getElem?_append_right (by omega), show n * 9 + 1 - xs.length = 1 by omega]
    rfl
  have happ : ∀ {j : Nat} {y : Int}, Nm xs j y → Nm (xs ++ cells9 (.int .i64 3) (.int .i64 N) (.int .i64 1) (.int .i64 (ks.length : Int)) (.int .i32 V) (.int .i64 0) (.bool false) (.bool false)) j y := fun hj => by
    unfold Nm at *
    rw [List.getElem?_append_left (List.getElem?_eq_some_iff.1 hj).1]; exact hj
  have hold : ∀ (j : Nat) (s : Option Nat), ks[j]? = some s → (ks ++ [none])[j]? = some s := fun j s e => by
    rw [List.getElem?_append_left (List.getElem?_eq_some_iff.1 e).1]; exact e
  refine ⟨he, ⟨h.b.trans hb, ⟨tv', lv, n + 1, _, _, hs, by omega, by rw [List.length_set, hl]; simp, ⟨v0, ?_⟩, fun j r hj => ?_, fun j hj => ?_, fun j k e => ?_, fun z e => ⟨Nat.lt_of_lt_of_le (h9 z e).1 hb.size, (hz z (h9 z e).1 (h9 z e).2).2⟩⟩, fun j k e => ?_⟩, ⟨hb.size, fun z e => (hz z (h9 z e).1 (h9 z e).2).1⟩, fun W hW => ?_⟩
  · rw [List.getElem?_set, if_neg (by omega)]; exact h5
  · rcases hget j r hj with ⟨e, hlt⟩ | ⟨rfl, rfl⟩
    · obtain ⟨v2, hv2⟩ := h6 j r (hold j r e)
      exact ⟨v2, by rw [List.getElem?_set, if_neg (by omega)]; exact hv2⟩
    · exact ⟨v', by rw [List.getElem?_set, if_pos rfl, if_pos (by omega)]; rfl⟩
  · obtain ⟨y, hy, hne⟩ := h7 j hj
    exact ⟨y, happ hy, hne⟩
  · rcases hget j _ e with ⟨e2, _⟩ | ⟨_, e2⟩
    · exact happ (h8 j k (hold j _ e2))
    · obtain rfl := Option.some.inj e2
      exact hnew
  · rcases hget j _ e with ⟨e2, _⟩ | ⟨_, e2⟩
    · exact h.q j k (hold j _ e2)
    · obtain rfl := Option.some.inj e2
      omega
  · refine get_any (hs.below hW) n (by omega) (by omega) _ _ _ _ _ _ _ _ (fun j hj => ?_) (by simp [Value.oneCell'])
    rw [List.getElem?_append_right (by omega), show n * 9 + j - xs.length = j by omega]
    rfl
end
end Go.Proofs.YtpnohekidpphfaaGreatDoor
