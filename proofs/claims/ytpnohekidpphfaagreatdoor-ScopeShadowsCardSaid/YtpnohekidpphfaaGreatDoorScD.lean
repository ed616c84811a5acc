/-
  The contracts of a scope: Find, Close, Get.
-/
import Derived.Test.YtpnohekidpphfaaGreatDoorScA
import Derived.Laws.Rows
namespace Go.Proofs.YtpnohekidpphfaaGreatDoor
open Go.ChangeShapes Go.WideShapes Go.ChangeAt Go.RowKit
open Ev (WRow)
set_option linter.unusedVariables false
set_option linter.unusedSimpArgs false
/-- what a list has of a name: nothing; or it is all that it has -/
def InR (xs : List Value) (ns : List Nat) (x : Int) : Option Nat → Prop
  | none => ∀ j ∈ ns, ∃ y, Nm xs j y ∧ y ≠ x
  | some k => ns = [k] ∧ Nm xs k x
def orN (r : Option Nat) : Int := match r with | none => 0 | some k => (k : Int)
/-- the first one from behind -/
def topR (rs : Nat → Option Nat) : Nat → Option Nat
  | 0 => none
  | L + 1 => match rs L with
    | some k => some k
    | none => topR rs L
theorem results_ct {P : Program} {fn : Func} {p q : Tmp} {ty : TypeId} (h : fn.results = #[.cell p ty, .tmp q]) (tmps : Array Value) (w : World) (g : Nat) (t : TypeId) (cs : Array Value) (fr : Nat × Nat) (d : TypeDesc) (v : Value)
    (hp : tmps.getD p undef = .pointer (some ⟨g, 0, none⟩)) (hq : tmps.getD q undef = v) (hg : w.heap[g]? = some (.cells cs t fr))
    (hu : P.underlying ty = some d) (hd : (match d with | .struct _ | .array _ _ => true | _ => false) = true) (hi : (P.info? ty).map (·.size) = some cs.size) :
    (results fn tmps).run P w = .ok (.tuple #[.agg cs, v]) w := by
  have hp' : tmps[p]?.getD undef = .pointer (some ⟨g, 0, none⟩) := by simpa using hp
  have hq' : tmps[q]?.getD undef = v := by simpa using hq
  simp [results, h, hp', hq', asAddr, run_loadVar_row w g t ty cs fr d hg hu hd hi]
theorem mbelow_setRow {B g : Nat} {w0 w : World} (hb : Below B w0 w) (hBg : B ≤ g) (cs : Array Value) : Below B w0 (w.setRow g cs) :=
  ⟨hb.os, hb.tape, hb.output, by simpa using hb.size, fun k hk => (setRow_other w g k cs (by omega)).trans (hb.block k hk)⟩
section
variable {w : World} {B p o n : Nat} {tv lv : Value} {xs : List Value} {ls : List (Value × List Nat)}
theorem in_yes (h : ScAt w B p o tv lv n xs ls) (i : Nat) (v : Value) (k : Nat) (hi : ls[i]? = some (v, [k])) (x : Int) (hx : Nm xs k x) : Calls Tryz.prog 30 #[.pointer (some ⟨p, o, none⟩), v, .int .i64 x] w fun e w' => e = .returned (.tuple #[.int .i64 (k : Int), .bool true]) ∧ w = w' := by
  have n0 := h.n0
  have c2 := h.c2
  obtain ⟨b, f, c, hv, _, _⟩ := h.th.form (by omega)
  subst hv
  obtain ⟨hr, _⟩ := h.row i v [k] hi
  obtain ⟨b', f', c', hv, _, _⟩ := hr.form (by simp)
  subst hv
  have hkn : k * 9 + 1 < n * 9 := by rw [← h.th.1]; exact (List.getElem?_eq_some_iff.1 hx).1
  have c5 : w.cell? ⟨b', f', none⟩ = some (.int .i64 (k : Int)) := (hr.cell 0 (by simp)).1
  have c6 : w.cell? ⟨b, f + k * 9 + 1, none⟩ = some (.int .i64 x) := by rw [Nat.add_assoc, (h.th.cell (k * 9 + 1) (by omega)).1]; exact hx
  clear hx hr
  go_enter Tryz.func30, Tryz.ntmps30
  go_wp2_with fail
  go_loopw [9, 12] (fun a i wr => i = .int .i64 0 ∧ w = wr) (fun _ i _ => 1)
  case atStart => exact ⟨rfl, rfl⟩
  case round =>
    obtain ⟨rfl, rfl⟩ := hrel
    go_wp2_with fail
    go_ret2
    exact ⟨rfl, rfl⟩
theorem in_any (h : ScAt w B p o tv lv n xs ls) (i : Nat) (v : Value) (ns : List Nat) (hi : ls[i]? = some (v, ns)) (hl : ns.length ≤ 1000) (x : Int) (r : Option Nat) (hr : InR xs ns x r) : Calls Tryz.prog 30 #[.pointer (some ⟨p, o, none⟩), v, .int .i64 x] w fun e w' => e = .returned (.tuple #[.int .i64 (orN r), .bool r.isSome]) ∧ w = w' := by
  cases r with
  | none => exact in_no h i v ns hi hl x hr
  | some k =>
    obtain ⟨rfl, hk⟩ := hr
    exact in_yes h i v k hi x hk
set_option maxRecDepth 100000 in
set_option maxHeartbeats 1000000 in
theorem find_any (h : ScAt w B p o tv lv n xs ls) (x : Int) (rs : Nat → Option Nat) (hrs : ∀ i v ns, ls[i]? = some (v, ns) → ns.length ≤ 1000 ∧ InR xs ns x (rs i)) : Calls Tryz.prog 17 #[.pointer (some ⟨p, o, none⟩), .int .i64 x] w fun e w' => e = .returned (.tuple #[.int .i64 (orN (topR rs ls.length)), .bool (topR rs ls.length).isSome]) ∧ w = w' := by
  obtain ⟨lb, lf, lc, hlv, hlbB, hlbl⟩ := h.li.form (by have := h.l0; omega)
  subst hlv
  have c4 := h.c4
  have l0 := h.l0
  have hlm : (ls.length : Int) - 1 < 9223372036854775807 := by have := h.l1; omega
  have HI := Lib.hid (scis_any h)
  have HH := Lib.hid h
  have HRS := Lib.hid hrs
  clear h hrs
  go_enter Tryz.func17, Tryz.ntmps17
  go_wp2_with (go_at_call 29; (refine HI.out.mono ?_); rintro e w' ⟨rfl, rfl⟩)
  go_loopw [6, 7, 8] (fun i _ _ wr => ∃ (j : Nat) (y : Int), i = .int .i64 y ∧ y = (j : Int) - 1 ∧ j ≤ ls.length ∧ topR rs ls.length = topR rs j ∧ w = wr) (fun i _ _ _ => (intOf i + 1).toNat)
  case atStart => exact ⟨ls.length, _, rfl, rfl, Nat.le_refl _, rfl, rfl⟩
  case round =>
    obtain ⟨j, y, rfl, hy, hj, ht, rfl⟩ := hrel
    cases j with
    | zero =>
      have hy0 : y < 0 := by omega
      clear hy
      have hr : topR rs ls.length = none := ht
      go_wp2_with fail
      go_ret2
      exact ⟨by rw [hr]; rfl, rfl⟩
    | succ k =>
      obtain rfl : y = (k : Int) := by omega
      obtain ⟨v, ns, hk⟩ : ∃ v ns, ls[k]? = some (v, ns) := ⟨_, _, List.getElem?_eq_getElem (by omega)⟩
      have cl : w.cell? ⟨lb, lf + k, none⟩ = some v := by
        rw [(HH.out.li.cell k (by omega)).1, List.getElem?_map, hk]; rfl
      have k0 : (0 : Int) ≤ (k : Int) := by omega
      have k1 : (k : Int) < (ls.length : Int) := by omega
      obtain ⟨hnl, hin⟩ := HRS.out k v ns hk
      have ht2 : topR rs (k + 1) = match rs k with | some q => some q | none => topR rs k := rfl
      have HIN := Lib.hid (in_any HH.out k v ns hk hnl x (rs k) hin)
      have HJ := Lib.hid hj
      clear hk hj hnl hy
      cases hrk : rs k with
      | none =>
        rw [hrk] at HIN ht2
        have HT := Lib.hid (ht.trans ht2)
        clear ht ht2 hin hrk
        go_wp2_with (go_at_call 30; (with_reducible refine HIN.out.mono ?_); rintro e w' ⟨rfl, rfl⟩)
        exact ⟨⟨k, _, rfl, rfl, by have := HJ.out; omega, HT.out, trivial⟩, by simp [intOf]⟩
      | some q =>
        rw [hrk] at HIN ht2
        have HT := Lib.hid (ht.trans ht2)
        clear ht ht2 hin hrk
        go_wp2_with (go_at_call 30; (with_reducible refine HIN.out.mono ?_); rintro e w' ⟨rfl, rfl⟩)
        go_ret2
        exact ⟨by rw [HT.out]; rfl, rfl⟩
theorem WRow.less {w : World} {B size b f n c : Nat} {xs : List Value} (h : WRow w B size (.slice (some ⟨b, f, none⟩) (n + 1) c) (n + 1) xs) : WRow w B size (.slice (some ⟨b, f, none⟩) n c) n (xs.take (n * size)) := by
  have hl := h.1
  rcases h.2 with ⟨h0, _⟩ | ⟨b', f', c', hv, hb, hlt, h1, h2, h3, h4⟩
  · cases h0
  · have hv2 : (b = b' ∧ f = f') ∧ c = c' := by simpa using hv
    obtain ⟨⟨rfl, rfl⟩, rfl⟩ := hv2
    refine ⟨?_, .inr ⟨b, f, c, rfl, hb, hlt, by omega, h2, fun j x hx => ?_, h4⟩⟩
    · rw [List.length_take, hl, Nat.add_mul]; omega
    · rw [List.getElem?_take] at hx
      split at hx
      · exact h3 j x hx
      · cases hx
theorem ScAt.closed {lb lf lc : Nat} {z : Value × List Nat} (h : ScAt w B p o tv (.slice (some ⟨lb, lf, none⟩) (ls.length + 1) lc) n xs (ls ++ [z])) (hL : 2 ≤ ls.length) :
    ScAt (w.setCell ⟨p, o + 4, none⟩ (.slice (some ⟨lb, lf, none⟩) ls.length lc)) B p o tv (.slice (some ⟨lb, lf, none⟩) ls.length lc) n xs ls := by
  have e1 : (ls ++ [z]).length = ls.length + 1 := by simp
  have hli := h.li
  rw [e1] at hli
  have hlt := WRow.less hli
  rw [List.map_append, List.take_left' (by simp)] at hlt
  have hb : (Value.slice (some ⟨lb, lf, none⟩) ls.length lc).ownBlock = some lb := rfl
  have hb' : (Value.slice (some ⟨lb, lf, none⟩) (ls.length + 1) lc).ownBlock = some lb := rfl
  have hlp := h.lp
  have htl := h.tl
  have hrow := h.row
  have c4 := h.c4
  rw [hb'] at hlp htl
  generalize hlv : Value.slice (some ⟨lb, lf, none⟩) ls.length lc = lv1 at *
  have ho : ∀ k, k ≠ o + 4 → (w.setCell ⟨p, o + 4, none⟩ lv1).cell? ⟨p, k, none⟩ = w.cell? ⟨p, k, none⟩ := fun k hk => by
    rw [World.cell?_setCell_other _ _ _ _ (fun e => hk (by injection e with _ e2 _; omega))]
  have d1 : ∃ a, (w.setCell ⟨p, o + 4, none⟩ lv1).cell? ⟨p, o + 1, none⟩ = some (.pointer (some a)) := by rw [ho _ (by omega)]; exact h.c1
  have d2 : (w.setCell ⟨p, o + 4, none⟩ lv1).cell? ⟨p, o + 2, none⟩ = some tv := by rw [ho _ (by omega)]; exact h.c2
  have d3 : (w.setCell ⟨p, o + 4, none⟩ lv1).cell? ⟨p, o + 3, none⟩ = some (.int .i64 29) := by rw [ho _ (by omega)]; exact h.c3
  have d4 : (w.setCell ⟨p, o + 4, none⟩ lv1).cell? ⟨p, o + 4, none⟩ = some lv1 := World.cell?_setCell_same _ _ _ c4
  have d5 : p < (w.setCell ⟨p, o + 4, none⟩ lv1).heap.size := by simpa [World.setCell] using h.lt
  have hold : ∀ (i : Nat) (v : Value) (ns : List Nat), ls[i]? = some (v, ns) → (ls ++ [z])[i]? = some (v, ns) := fun i v ns hi => by
    rw [List.getElem?_append_left (List.getElem?_eq_some_iff.1 hi).1]; exact hi
  have l1 := h.l1
  rw [e1] at l1
  refine ⟨d1, d2, by rw [World.frozen?_setCell]; exact h.z2, d3, d4, by rw [World.frozen?_setCell]; exact h.z4, h.th.other _ h.tp, hlt.other _ (by rw [hb]; exact hlp), fun i v ns hi => ?_,
    fun i j v ns v' ns' hij hi hj => h.apart i j v ns v' ns' hij (hold i v ns hi) (hold j v' ns' hj), h.tp, by rw [hb]; exact hlp, by rw [hb]; exact htl, h.bp, d5, h.n0, h.n1, hL, by omega⟩
  obtain ⟨a, b, c, d⟩ := hrow i v ns (hold i v ns hi)
  exact ⟨a.other _ b, b, c, by rw [hb]; rw [hb'] at d; exact d⟩
set_option maxRecDepth 100000 in
set_option maxHeartbeats 1000000 in
theorem close_any {z0 : Value × List Nat} (h : ScAt w B p o tv lv n xs (ls ++ [z0])) (hL : 2 ≤ ls.length) (hB : B ≤ w.heap.size) : Calls Tryz.prog 18 #[.pointer (some ⟨p, o, none⟩)] w fun e w' => e = .returned (.tuple #[]) ∧ Below B w w' ∧ ∃ lv', ScAt w' B p o tv lv' n xs ls ∧ (∀ z, z < w.heap.size → Ap z p tv lv (ls ++ [z0]) → w'.heap[z]? = w.heap[z]? ∧ Ap z p tv lv' ls) := by
  have e1 : (ls ++ [z0]).length = ls.length + 1 := by simp
  obtain ⟨lb, lf, lc, hlv, hlbB, hlbl⟩ := h.li.form (by have := h.l0; omega)
  rw [e1] at hlv
  subst hlv
  have c4 := h.c4
  have z4 := h.z4
  have HLV := sclevel_any h
  rw [e1] at HLV
  have hk1 : (((ls.length + 1 : Nat) : Int) - 2) = (ls.length : Int) - 1 := by omega
  rw [hk1] at HLV
  have HL := Lib.hid HLV
  have hbp := h.bp
  have HC := Lib.hid (h.closed hL).drew
  obtain ⟨L, hLe⟩ : ∃ L, L = ls.length := ⟨_, rfl⟩
  rw [← hLe] at HL HC c4 hL
  have hlc : L + 1 ≤ lc := by
    rcases h.li.2 with ⟨h0, _⟩ | ⟨b', f', c', hv, hb, hlt, h1, _⟩
    · cases h0
    · have hv2 : (lb = b' ∧ lf = f') ∧ lc = c' := by simpa using hv
      rw [hv2.2, hLe, ← e1]; exact h1
  have hLm : L < 2 ^ 62 := by have := h.l1; rw [e1] at this; omega
  have HLm := Lib.hid hLm
  clear hLm
  have hL0 : (0 : Int) < (L : Int) - 1 := by omega
  have HLE := Lib.hid hLe
  clear h HLV hk1 hLe e1
  go_enter Tryz.func18, Tryz.ntmps18
  go_upto_region 1 with (go_at_call 19; (refine HL.out.mono ?_); rintro e w' ⟨rfl, rfl⟩)
  have hwr : IntKind.i64.wrap (((L + 1 : Nat) : Int) - 1) = (L : Int) := by have := HLm.out; rw [IntKind.wrap_i64]; omega
  have hwr2 : IntKind.i64.wrap ((L : Int) + 1 - 1) = (L : Int) := by have := HLm.out; rw [IntKind.wrap_i64]; omega
  have hwr3 : IntKind.i64.wrap (L : Int) = (L : Int) := by have := HLm.out; rw [IntKind.wrap_i64]; omega
  have s0 : (0 : Int) ≤ (L : Int) := by omega
  have s1 : (L : Int) ≤ (lc : Int) := by omega
  go_region_law (fail)
  all_goals
    first | go_end0 | (go_wp2; go_end0)
    exact ⟨rfl, ((Below.refl B w).setCell hbp _).drew, _, HC.out, fun z hz ⟨z1, z2, z3, z4⟩ => ⟨Below.heap_setCell _ _ _ _ z1, z1, z2, z3, fun i v ns hi => z4 i v ns (by rw [List.getElem?_append_left (List.getElem?_eq_some_iff.1 hi).1]; exact hi)⟩⟩
theorem has_yes (h : ScAt w B p o tv lv n xs ls) (k : Nat) (h0 : 0 < k) (hk : k < n) : Calls Tryz.prog 36 #[.pointer (some ⟨p, o, none⟩), .int .i64 (k : Int)] w fun e w' => e = .returned (.bool true) ∧ w = w' := by
  obtain ⟨tb, tf, tc, htv, htbB, htbl⟩ := h.th.form (by have := h.n0; omega)
  subst htv
  have c2 := h.c2
  have k0 : (0 : Int) < (k : Int) := by omega
  have k1 : (k : Int) < (n : Int) := by omega
  have HI := Lib.hid (scis_any h)
  clear h
  go_enter Tryz.func36, Tryz.ntmps36
  go_wp2_with (go_at_call 29; (refine HI.out.mono ?_); rintro e w' ⟨rfl, rfl⟩)
  go_ret
  exact ⟨rfl, rfl⟩
/-- a thing's cells -/
def At9 (xs : List Value) (k : Nat) (cs : List Value) : Prop := ∀ j, j < 9 → xs[k * 9 + j]? = cs[j]?
set_option maxRecDepth 100000 in
set_option maxHeartbeats 2000000 in
theorem get_any (h : ScAt w B p o tv lv n xs ls) (k : Nat) (h0 : 0 < k) (hk : k < n) (x0 x1 x2 x3 x4 x5 x6 x7 : Value) (hx : At9 xs k [x0, x1, x2, x3, x4, x5, x6, x7, .slice none 0 0]) (hone : (#[x0, x1, x2, x3, x4, x5, x6, x7, .slice none 0 0] : Array Value).all (·.oneCell') = true) :
    Calls Tryz.prog 16 #[.pointer (some ⟨p, o, none⟩), .int .i64 (k : Int)] w fun e w' => e = .returned (.tuple #[.agg #[x0, x1, x2, x3, x4, x5, x6, x7, .slice none 0 0], .bool true]) ∧ Below w.heap.size w w' := by
  obtain ⟨tb, tf, tc, htv, htbB, htbl⟩ := h.th.form (by have := h.n0; omega)
  subst htv
  have hb0 := (Below.refl w.heap.size w).alloc (Nat.le_refl _) (.cells #[.int .i64 0, .int .i64 0, .int .i64 0, .int .i64 0, .int .i32 0, .int .i64 0, .bool false, .bool false, .slice none 0 0] 35)
  have HB0 := Lib.hid hb0
  have HS := Lib.hid (h.below hb0)
  clear h hb0
  go_enter Tryz.func16, Tryz.ntmps16
  go_upto_region 1 with fail
  have hsz : (w.alloc (.cells #[.int .i64 0, .int .i64 0, .int .i64 0, .int .i64 0, .int .i32 0, .int .i64 0, .bool false, .bool false, .slice none 0 0] 35)).heap.size = w.heap.size + 1 := by simp
  have hbk : (w.alloc (.cells #[.int .i64 0, .int .i64 0, .int .i64 0, .int .i64 0, .int .i32 0, .int .i64 0, .bool false, .bool false, .slice none 0 0] 35)).heap[w.heap.size]? = some (.cells #[.int .i64 0, .int .i64 0, .int .i64 0, .int .i64 0, .int .i32 0, .int .i64 0, .bool false, .bool false, .slice none 0 0] 35 (0, 0)) := heap_alloc_new w _
  generalize w.alloc (.cells #[.int .i64 0, .int .i64 0, .int .i64 0, .int .i64 0, .int .i32 0, .int .i64 0, .bool false, .bool false, .slice none 0 0] 35) = W at *
  have c2 := HS.out.c2
  have G : ∀ j, j < 9 → W.cell? ⟨tb, tf + (k * 9 + j), none⟩ = ([x0, x1, x2, x3, x4, x5, x6, x7, .slice none 0 0] : List Value)[j]? := fun j hj => by
    rw [(HS.out.th.cell (k * 9 + j) (by omega)).1]; exact hx j hj
  have g0 : W.cell? ⟨tb, tf + k * 9, none⟩ = some x0 := G 0 (by omega)
  have g1 : W.cell? ⟨tb, tf + k * 9 + 1, none⟩ = some x1 := G 1 (by omega)
  have g2 : W.cell? ⟨tb, tf + k * 9 + 2, none⟩ = some x2 := G 2 (by omega)
  have g3 : W.cell? ⟨tb, tf + k * 9 + 3, none⟩ = some x3 := G 3 (by omega)
  have g4 : W.cell? ⟨tb, tf + k * 9 + 4, none⟩ = some x4 := G 4 (by omega)
  have g5 : W.cell? ⟨tb, tf + k * 9 + 5, none⟩ = some x5 := G 5 (by omega)
  have g6 : W.cell? ⟨tb, tf + k * 9 + 6, none⟩ = some x6 := G 6 (by omega)
  have g7 : W.cell? ⟨tb, tf + k * 9 + 7, none⟩ = some x7 := G 7 (by omega)
  have g8 : W.cell? ⟨tb, tf + k * 9 + 8, none⟩ = some (.slice none 0 0) := G 8 (by omega)
  clear G
  have k0 : (0 : Int) ≤ (k : Int) := by omega
  have k1 : (k : Int) < (n : Int) := by omega
  go_upto_region 3 with (go_at_call 36; (refine (has_yes HS.out k h0 hk).mono ?_); rintro e w' ⟨rfl, rfl⟩)
  have hth : ∀ y0 y1 y2 y3 y4 y5 y6 y7 y8 : Value, (Tryz.prog.info? 35).map (·.size) = some (#[y0, y1, y2, y3, y4, y5, y6, y7, y8] : Array Value).size := fun _ _ _ _ _ _ _ _ _ => by kernel_rfl
  have hbk2 : (W.alloc (.cells #[.int .i64 0, .int .i64 0, .int .i64 0, .int .i64 0, .int .i32 0, .int .i64 0, .bool false, .bool false, .slice none 0 0] 35)).heap[w.heap.size + 1]? = some (.cells #[.int .i64 0, .int .i64 0, .int .i64 0, .int .i64 0, .int .i32 0, .int .i64 0, .bool false, .bool false, .slice none 0 0] 35 (0, 0)) := by rw [← hsz]; exact heap_alloc_new W _
  have HTH := Lib.hid hth
  have HB2 := Lib.hid hbk2
  clear hth hbk2
  go_upto_region 4 with (with_reducible refine wpList_store_row rfl 35 _ _ rfl (w.heap.size + 1) #[x0, x1, x2, x3, x4, x5, x6, x7, .slice none 0 0] rfl rfl 35 #[.int .i64 0, .int .i64 0, .int .i64 0, .int .i64 0, .int .i32 0, .int .i64 0, .bool false, .bool false, .slice none 0 0] HB2.out (HTH.out ..) rfl hone ?_)
  have hV1 := setRow_heap _ _ _ #[x0, x1, x2, x3, x4, x5, x6, x7, .slice none 0 0] _ _ HB2.out
  have hV0 : ((W.alloc (.cells #[.int .i64 0, .int .i64 0, .int .i64 0, .int .i64 0, .int .i32 0, .int .i64 0, .bool false, .bool false, .slice none 0 0] 35)).setRow (w.heap.size + 1) #[x0, x1, x2, x3, x4, x5, x6, x7, .slice none 0 0]).heap[w.heap.size]? = some (.cells #[.int .i64 0, .int .i64 0, .int .i64 0, .int .i64 0, .int .i32 0, .int .i64 0, .bool false, .bool false, .slice none 0 0] 35 (0, 0)) := by
    rw [setRow_other _ _ _ _ (by omega), heap_alloc_old _ _ (by omega)]; exact hbk
  have hBV : Below w.heap.size w ((W.alloc (.cells #[.int .i64 0, .int .i64 0, .int .i64 0, .int .i64 0, .int .i32 0, .int .i64 0, .bool false, .bool false, .slice none 0 0] 35)).setRow (w.heap.size + 1) #[x0, x1, x2, x3, x4, x5, x6, x7, .slice none 0 0]) := by
    have h2 := HB0.out.alloc (by omega) (.cells #[.int .i64 0, .int .i64 0, .int .i64 0, .int .i64 0, .int .i32 0, .int .i64 0, .bool false, .bool false, .slice none 0 0] 35)
    exact ⟨h2.os, h2.tape, h2.output, by simpa using h2.size, fun k hk => (setRow_other _ _ _ _ (by omega)).trans (h2.block k hk)⟩
  generalize (W.alloc (.cells #[.int .i64 0, .int .i64 0, .int .i64 0, .int .i64 0, .int .i32 0, .int .i64 0, .bool false, .bool false, .slice none 0 0] 35)).setRow (w.heap.size + 1) #[x0, x1, x2, x3, x4, x5, x6, x7, .slice none 0 0] = V at *
  have e8 : V.cell? ⟨w.heap.size + 1, 8, none⟩ = some (.slice none 0 0) := by rw [cell_of_row V _ _ _ _ _ hV1]; rfl
  have f8 : V.frozen? ⟨w.heap.size + 1, 8, none⟩ = false := by simp [World.frozen?, hV1]
  have hS1 : (V.setCell ⟨w.heap.size + 1, 8, none⟩ (.slice none 0 0)).heap[w.heap.size + 1]? = some (.cells #[x0, x1, x2, x3, x4, x5, x6, x7, .slice none 0 0] 35 (0, 0)) := by
    simp [World.setCell, Array.getElem?_modify, hV1]
  have hS0 : (V.setCell ⟨w.heap.size + 1, 8, none⟩ (.slice none 0 0)).heap[w.heap.size]? = some (.cells #[.int .i64 0, .int .i64 0, .int .i64 0, .int .i64 0, .int .i32 0, .int .i64 0, .bool false, .bool false, .slice none 0 0] 35 (0, 0)) := by
    rw [Below.heap_setCell _ _ _ _ (by show w.heap.size ≠ w.heap.size + 1; omega)]; exact hV0
  have HS1 := Lib.hid hS1
  have HS0 := Lib.hid hS0
  have HBV := Lib.hid (hBV.setCell (show w.heap.size ≤ (⟨w.heap.size + 1, 8, none⟩ : Addr).block from by show w.heap.size ≤ w.heap.size + 1; omega) (.slice none 0 0))
  clear hV1 hV0 hBV hS1 hS0 hsz hbk g0 g1 g2 g3 g4 g5 g6 g7 g8 c2
  go_upto_region 5 with (go_at_call 37; (refine (scclone_any _).mono ?_); rintro e w' ⟨rfl, rfl⟩)
  generalize V.setCell ⟨w.heap.size + 1, 8, none⟩ (.slice none 0 0) = V1 at *
  go_wp2_with (first
    | (with_reducible refine wpList_load_row rfl 35 _ rfl (w.heap.size + 1) rfl 35 #[x0, x1, x2, x3, x4, x5, x6, x7, .slice none 0 0] (0, 0) _ HS1.out Tryz.underlying35 rfl (HTH.out ..) ?_)
    | (with_reducible refine wpList_store_row rfl 35 _ _ rfl w.heap.size #[x0, x1, x2, x3, x4, x5, x6, x7, .slice none 0 0] rfl rfl 35 _ HS0.out (HTH.out ..) rfl hone ?_))
  exact bodyPost_ret (results_ct rfl _ _ w.heap.size 35 #[x0, x1, x2, x3, x4, x5, x6, x7, .slice none 0 0] (0, 0) _ _ rfl rfl (setRow_heap _ _ _ _ _ _ HS0.out) Tryz.underlying35 rfl (HTH.out ..)) rfl ⟨rfl, mbelow_setRow HBV.out (Nat.le_refl _) _⟩
end
end Go.Proofs.YtpnohekidpphfaaGreatDoor
