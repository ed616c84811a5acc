/-
  Nodes with all below them, as they lie in memory; the calls that only look at one: shaped, bare, mayIdent, mayString.
-/
import Derived.Test.YtkhbmamgfkpdbaaTreeN
import Derived.OwnWalk
import Derived.Tactics
import Derived.Deep.QuietTactic
import Derived.BigQuiet
import Derived.Deep.Cut
import Derived.Laws.OwnMore
namespace Go.Proofs.Ytkhbmamgfkpdbaa
open Go.ChangeShapes Go.WideShapes Go.ChangeAt Go.RowKit
set_option linter.unusedVariables false
/-- a node's own cells -/
def nd (k : Int) (s : ByteArray) (v : Int) (m : Bool) (a : Option Addr) (len cap : Nat) : Value := .agg #[.int .i64 k, .string s, .int .u32 v, .bool m, .slice a len cap]
/-- a node's cells, there -/
structure Kid (w : World) (b o : Nat) (e : Option Nat) (k : Int) (s : ByteArray) (v : Int) (m : Bool) (a : Option Addr) (l c : Nat) : Prop where
  g0 : w.cell? ⟨b, o, e⟩ = some (.int .i64 k)
  g1 : w.cell? ⟨b, o + 1, none⟩ = some (.string s)
  g2 : w.cell? ⟨b, o + 2, none⟩ = some (.int .u32 v)
  g3 : w.cell? ⟨b, o + 3, none⟩ = some (.bool m)
  g4 : w.cell? ⟨b, o + 4, none⟩ = some (.slice a l c)
/-- a row of nodes, each of which is as told -/
def Kids (w : World) (P : Value → Prop) (x : Addr) (len : Nat) : Prop := x.block < w.heap.size ∧ ∀ j, j < len → ∃ k s v m a l c, Kid w x.block (x.off + j * 5) (if j = 0 then x.spot else none) k s v m a l c ∧ P (nd k s v m a l c)
/-- a node of at most so many below one another -/
def At (w : World) : Nat → Value → Prop
  | 0, _ => False
  | d + 1, u => ∃ k s v m a len cap, u = nd k s v m a len cap ∧ s.size ≤ maxLen ∧ (Lit.int .i64 k).wf = true ∧ (Lit.int .u32 v).wf = true ∧ len ≤ cap ∧ cap ≤ maxLen ∧ (0 < len → ∃ x, a = some x ∧ Kids w (At w d) x len)
theorem below1 (w : World) (a : Obj) : Below w.heap.size w (w.alloc a) := (Below.refl _ _).alloc (Nat.le_refl _) _
theorem Kid.below {w W : World} {b o : Nat} {e : Option Nat} {k : Int} {s : ByteArray} {v : Int} {m : Bool} {a : Option Addr} {l c : Nat} (h : Kid w b o e k s v m a l c) (hb : b < w.heap.size) (hw : Below w.heap.size w W) : Kid W b o e k s v m a l c :=
  ⟨by rw [hw.cell hb]; exact h.g0, by rw [hw.cell hb]; exact h.g1, by rw [hw.cell hb]; exact h.g2, by rw [hw.cell hb]; exact h.g3, by rw [hw.cell hb]; exact h.g4⟩
theorem add_at (b o : Nat) (x : Option Nat) (j : Nat) : Addr.add ⟨b, o, x⟩ (j * 5) = ⟨b, o + j * 5, if j = 0 then x else none⟩ := by
  unfold Addr.add
  by_cases h : j = 0
  · subst h; simp
  · rw [if_neg (by omega), if_neg h]
/-- a node's cells, the address as an index gives it -/
structure KidJ (w : World) (y : Addr) (k : Int) (s : ByteArray) (v : Int) (m : Bool) (a : Option Addr) (l c : Nat) : Prop where
  g0 : w.cell? y = some (.int .i64 k)
  g1 : w.cell? ⟨y.block, y.off + 1, none⟩ = some (.string s)
  g2 : w.cell? ⟨y.block, y.off + 2, none⟩ = some (.int .u32 v)
  g3 : w.cell? ⟨y.block, y.off + 3, none⟩ = some (.bool m)
  g4 : w.cell? ⟨y.block, y.off + 4, none⟩ = some (.slice a l c)
theorem Kid.at {w : World} {b o : Nat} {x : Option Nat} {j : Nat} {k : Int} {s : ByteArray} {v : Int} {m : Bool} {a : Option Addr} {l c : Nat} (h : Kid w b (o + j * 5) (if j = 0 then x else none) k s v m a l c) : KidJ w (Addr.add ⟨b, o, x⟩ (j * 5)) k s v m a l c := by
  rw [add_at]
  exact ⟨h.g0, h.g1, h.g2, h.g3, h.g4⟩
theorem Kids.k0 {w : World} {P : Value → Prop} {x : Addr} {len : Nat} (h : Kids w P x len) (hl : 0 < len) : ∃ k s v m a l c, Kid w x.block x.off x.spot k s v m a l c ∧ P (nd k s v m a l c) := by
  have := h.2 0 hl
  simpa using this
theorem Kids.k1 {w : World} {P : Value → Prop} {x : Addr} {len : Nat} (h : Kids w P x len) (hl : 1 < len) : ∃ k s v m a l c, Kid w x.block (x.off + 5) none k s v m a l c ∧ P (nd k s v m a l c) := by
  have := h.2 1 hl
  simpa using this
def shB (k : Int) (v : Int) (len : Nat) (kind kids : Int) : Bool := (k == kind) && (v == 0) && (decide (kids < 0) || ((len : Int) == kids))
theorem shaped_any (k : Int) (s : ByteArray) (v : Int) (m : Bool) (a : Option Addr) (len cap : Nat) (kind kids : Int) (w : World) :
    Calls Try.prog 31 #[nd k s v m a len cap, .int .i64 kind, .int .i64 kids] w fun e w' => e = .returned (.bool (shB k v len kind kids)) ∧ Below w.heap.size w w' := by
  unfold nd
  by_cases h1 : k = kind
  · by_cases h2 : v = 0
    · subst h1; subst h2
      by_cases h3 : kids < 0
      · go_enter Try.func31, Try.ntmps31
        go_wp2
        go_ret
        exact ⟨ret_bool (by unfold shB; simp; omega), (Below.refl _ _).alloc (Nat.le_refl _) _⟩
      · go_enter Try.func31, Try.ntmps31
        go_wp2
        go_ret
        exact ⟨ret_bool (by unfold shB; simp; omega), (Below.refl _ _).alloc (Nat.le_refl _) _⟩
    · go_enter Try.func31, Try.ntmps31
      go_wp2
      go_ret
      exact ⟨ret_bool (by unfold shB; simp; omega), (Below.refl _ _).alloc (Nat.le_refl _) _⟩
  · go_enter Try.func31, Try.ntmps31
    go_wp2
    go_ret
    exact ⟨ret_bool (by unfold shB; simp; omega), (Below.refl _ _).alloc (Nat.le_refl _) _⟩
def emB (s : ByteArray) : Bool := s.toList == []
def baB (k : Int) (s : ByteArray) (v : Int) (m : Bool) (len : Nat) (kind kids : Int) : Bool := shB k v len kind kids && (emB s && !m)
/-- the call's own copy of the node, in a later world -/
structure Own (w W : World) (k : Int) (s : ByteArray) (v : Int) (m : Bool) (a : Option Addr) (len cap : Nat) : Prop where
  e0 : W.cell? ⟨w.heap.size, 0, none⟩ = some (.int .i64 k)
  e1 : W.cell? ⟨w.heap.size, 1, none⟩ = some (.string s)
  e2 : W.cell? ⟨w.heap.size, 2, none⟩ = some (.int .u32 v)
  e3 : W.cell? ⟨w.heap.size, 3, none⟩ = some (.bool m)
  e4 : W.cell? ⟨w.heap.size, 4, none⟩ = some (.slice a len cap)
  bel : Below w.heap.size w W
  lt : w.heap.size < W.heap.size
theorem Own.start (w : World) (k : Int) (s : ByteArray) (v : Int) (m : Bool) (a : Option Addr) (len cap : Nat) : Own w (w.alloc (.cells #[.int .i64 k, .string s, .int .u32 v, .bool m, .slice a len cap] 26)) k s v m a len cap :=
  ⟨by rw [World.cell?_alloc_new w _ _ _]; rfl, by rw [World.cell?_alloc_new w _ _ _]; rfl, by rw [World.cell?_alloc_new w _ _ _]; rfl, by rw [World.cell?_alloc_new w _ _ _]; rfl, by rw [World.cell?_alloc_new w _ _ _]; rfl, below1 w _, by simp⟩
theorem Own.next {w W W' : World} {k : Int} {s : ByteArray} {v : Int} {m : Bool} {a : Option Addr} {len cap : Nat} (h : Own w W k s v m a len cap) (hb : Below W.heap.size W W') : Own w W' k s v m a len cap :=
  have l := h.lt
  ⟨by rw [hb.cell l]; exact h.e0, by rw [hb.cell l]; exact h.e1, by rw [hb.cell l]; exact h.e2, by rw [hb.cell l]; exact h.e3, by rw [hb.cell l]; exact h.e4, h.bel.trans (hb.mono h.bel.size), Nat.lt_of_lt_of_le l hb.size⟩
theorem bare_any (k : Int) (s : ByteArray) (v : Int) (m : Bool) (a : Option Addr) (len cap : Nat) (kind kids : Int) (w : World) :
    Calls Try.prog 37 #[nd k s v m a len cap, .int .i64 kind, .int .i64 kids] w fun e w' => e = .returned (.bool (baB k s v m len kind kids)) ∧ Below w.heap.size w w' := by
  have HS := Lib.hid (shaped_any k s v m a len cap kind kids)
  have HO := Lib.hid (Own.start w k s v m a len cap)
  unfold nd at *
  unfold baB
  generalize shB k v len kind kids = b at *
  cases b <;> cases m
  all_goals
    go_enter Try.func37, Try.ntmps37
    go_wp2_with (go_at_call 31; refine (HS.out _).mono ?_; rintro e w' ⟨rfl, hb2⟩; have HO := Lib.hid (HO.out.next hb2); obtain ⟨e0, e1, e2, e3, e4, -, -⟩ := HO.out; clear hb2)
  all_goals
    go_ret
    exact ⟨ret_bool (by simp [emB, *]), HO.out.bel⟩
/-- is it a name's? -/
def idB (k : Int) (s : ByteArray) (v : Int) (m : Bool) (len : Nat) : Bool := shB k v len 11 0 && ((nameB s && !kw s) && !m)
theorem ident_any (k : Int) (s : ByteArray) (v : Int) (m : Bool) (a : Option Addr) (len cap : Nat) (hs : s.size ≤ maxLen) (w : World) :
    Calls Try.prog 48 #[nd k s v m a len cap] w fun e w' => e = .returned (.bool (idB k s v m len)) ∧ Below w.heap.size w w' := by
  have HS := Lib.hid (shaped_any k s v m a len cap 11 0)
  have HO := Lib.hid (Own.start w k s v m a len cap)
  have HN := Lib.hid (tname_any s hs)
  clear hs
  unfold nd at *
  unfold idB
  generalize shB k v len 11 0 = b at *
  generalize (nameB s && !kw s) = c at *
  cases b <;> cases c <;> cases m
  all_goals
    go_enter Try.func48, Try.ntmps48
    go_wp2_with (first | (go_at_call 31; refine (HS.out _).mono ?_; rintro e w' ⟨rfl, hb2⟩; have HO := Lib.hid (HO.out.next hb2); obtain ⟨e0, e1, e2, e3, e4, -, -⟩ := HO.out; clear hb2) | (go_at_call 32; refine (HN.out _).mono ?_; rintro e w2 ⟨rfl, rfl⟩))
    go_ret
    exact ⟨ret_bool (by simp [*]), HO.out.bel⟩
def chB (c : UInt8) : Bool := decide (32 ≤ (c.toNat : Int) ∧ (c.toNat : Int) ≤ 126 ∧ (c.toNat : Int) ≠ 34)
def strB (s : ByteArray) : Bool := s.data.toList.all chB && decide (s.size ≤ 63)
theorem chB_succ (s : ByteArray) (k : Nat) (h : k < s.size) : (s.data.toList.take (k + 1)).all chB = ((s.data.toList.take k).all chB && chB s[k]) := by
  rw [List.take_succ_eq_append_getElem (by simpa using h), List.all_append]
  simp
  rfl
theorem chB_no (s : ByteArray) (k : Nat) (h : k < s.size) (hn : chB s[k] = false) : s.data.toList.all chB = false := by
  refine List.all_eq_false.2 ⟨s[k], ?_, by simp [hn]⟩
  exact List.getElem_mem (l := s.data.toList) (by simpa using h)
set_option maxHeartbeats 1000000 in
theorem string_any (s : ByteArray) (hs : s.size ≤ maxLen) (w : World) : Calls Try.prog 54 #[.string s] w fun e w' => e = .returned (.bool (strB s)) ∧ w = w' := by
  unfold maxLen at hs
  go_enter Try.func54, Try.ntmps54
  go_wp2_with fail
  go_loop [3, 6] (fun _ i => ∃ k : Nat, k ≤ s.size ∧ i = .int .i64 k ∧ Hid ((s.data.toList.take k).all chB = true)) (fun _ i => s.size - (intOf i).toNat)
  case atStart => exact ⟨0, Nat.zero_le _, rfl, Lib.hid rfl⟩
  case round =>
    obtain ⟨k, hk, rfl, hR⟩ := hrel
    by_cases hlt : k < s.size
    · have HS := Lib.hid (chB_succ s k hlt)
      have HN := Lib.hid (chB_no s k hlt)
      by_cases hc : 32 ≤ (s[k].toNat : Int) ∧ (s[k].toNat : Int) ≤ 126 ∧ (s[k].toNat : Int) ≠ 34
      · have HO := Lib.hid (show chB s[k] = true from decide_eq_true hc)
        obtain ⟨c1, c2, c3⟩ := hc
        have c4 : ((s[k].toNat : Int) == 34) = false := by simp; omega
        go_wp2_with fail
        go_round
        case rel => exact ⟨k + 1, by omega, rfl, Lib.hid (by rw [HS.out, hR.out, HO.out]; rfl)⟩
        case measure => simp [intOf]; omega
      · have HO := Lib.hid (show chB s[k] = false from decide_eq_false hc)
        have hd : (s[k].toNat : Int) < 32 ∨ 126 < (s[k].toNat : Int) ∨ (s[k].toNat : Int) = 34 := by omega
        clear hc
        rcases hd with hd | hd | hd
        all_goals
          go_wp2_with fail
          go_ret
          exact ⟨ret_bool (by unfold strB; rw [HN.out HO.out]; rfl), rfl⟩
    · have hk' : k = s.size := by omega
      subst hk'
      go_wp2_with fail
      go_ret
      refine ⟨ret_bool ?_, rfl⟩
      unfold strB
      have := hR.out
      rw [List.take_of_length_le (by simp)] at this
      rw [this]
      simp
      omega
end Go.Proofs.Ytkhbmamgfkpdbaa
