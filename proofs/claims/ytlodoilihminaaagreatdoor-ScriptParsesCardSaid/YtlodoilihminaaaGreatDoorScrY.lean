/-
  Rows of names: appended, kept; an act's own copy.
-/
import Derived.Test.YtlodoilihminaaaGreatDoorScrX
namespace Go.Proofs.YtlodoilihminaaaGreatDoor
open Go.ChangeShapes Go.WideShapes Go.ChangeAt Go.RowKit
set_option linter.unusedVariables false
set_option linter.unusedSimpArgs false
theorem run_append_any {P : Program} (w : World) (base : Nat) (t ty e : TypeId) (i : TypeInfo) (z : Value) (bytes : Nat) (ht : P.underlying t = some (.slice e)) (hi : P.info? e = some i) (hz : i.zero = some z)
    (hsize : i.size = 1) (hby : i.bytes = bytes) (hzs : z.cells.size = 1)
    (v : Value) (n : Nat) (xs : List Value) (hown : w.ownsRow base e 1 v n xs) (A : Option Addr) (m c : Nat) (news : List Value) (hl : news.length = m) (hr : 0 < m → ∃ x, A = some x ∧ ∀ j u, news[j]? = some u → w.cell? (x.add j) = some u) (h1 : ∀ u ∈ news, u.oneCell' = true)
    (h63 : n + m ≤ maxLen) (hbytes : (n + m) * bytes ≤ 140737488355328) (hbase : base ≤ w.heap.size) :
    ∃ v' w', (Builtin.append_ #[t, t] ty #[v, .slice A m c]).run P w = .ok v' w' ∧ w'.ownsRow base e 1 v' (n + m) (xs ++ news) ∧ w.grownBy w' v.ownBlock := by
  cases A with
  | none =>
    have hm : m = 0 := by
      rcases Nat.eq_zero_or_pos m with h | h
      · exact h
      · obtain ⟨x, h2, _⟩ := hr h; simp at h2
    subst hm
    have hzs0 : news = [] := List.eq_nil_of_length_eq_zero hl
    subst hzs0
    refine ⟨v, w, ?_, by simpa using hown, ⟨rfl, rfl, rfl, Nat.le_refl _, fun _ _ _ => rfl⟩⟩
    rcases hown.2 with ⟨rfl, rfl⟩ | ⟨g, cap, cur, rfl, _, _, hnc, _⟩
    · simp [Builtin.append_, run_underlying ht, sizeOf, typeInfo, hi, Builtin.lenOf, Builtin.firstCells]
    · simp [Builtin.append_, run_underlying ht, sizeOf, typeInfo, hi, Builtin.lenOf, Builtin.firstCells, hnc, storeCells]
  | some ad =>
    obtain ⟨v', w', h1, h2, h3, _⟩ := run_append_own (P := P) w base t ty e i z 1 bytes ht hi hz hsize hby hzs (by decide) v n xs hown ad m c news (by simp [hl])
      (fun j u hj => by
        obtain ⟨x, hx, hc⟩ := hr (by have := (List.getElem?_eq_some_iff.1 hj).1; omega)
        cases hx
        exact hc j u hj) h1 h63 hbytes hbase
    exact ⟨v', w', h1, h2, h3⟩
theorem wpList_append_any {P : Program} {w : World} {ops : Array Oper} {rest : List Oper} {o : Oper} {a : Act} {Q : Exit → Act → World → Prop} (hgd : o.guard = none) (s x : Operand) (t : TypeId)
    (ho : o.op = .call { callee := .builtin .append, args := #[s, x], argTypes := #[t, t] })
    (base : Nat) (e : TypeId) (i : TypeInfo) (z : Value) (bytes : Nat) (ht : P.underlying t = some (.slice e)) (hi : P.info? e = some i) (hz : i.zero = some z)
    (hsize : i.size = 1) (hby : i.bytes = bytes) (hzs : z.cells.size = 1)
    (v : Value) (n : Nat) (xs : List Value) (hs : a.eval s = v) (hown : w.ownsRow base e 1 v n xs)
    (A : Option Addr) (m c : Nat) (news : List Value) (hx : a.eval x = .slice A m c) (hl : news.length = m) (hr : 0 < m → ∃ x, A = some x ∧ ∀ j u, news[j]? = some u → w.cell? (x.add j) = some u) (h1 : ∀ u ∈ news, u.oneCell' = true)
    (h63 : n + m ≤ maxLen) (hbytes : (n + m) * bytes ≤ 140737488355328) (hbase : base ≤ w.heap.size)
    (h : ∀ v' w', w'.ownsRow base e 1 v' (n + m) (xs ++ news) → w.grownBy w' v.ownBlock → wpList P ops Q rest (a.put o.dst v') w') : wpList P ops Q (o :: rest) a w := by
  refine wpList_plain hgd fun K hK => ?_
  obtain ⟨v', w', hr', h2, h3⟩ := run_append_any (P := P) w base t o.type e i z bytes ht hi hz hsize hby hzs v n xs hown A m c news hl hr h1 h63 hbytes hbase
  unfold Oper.wp execOp
  simp only [ho, resolve, invoke, builtin, Sem.run_bind, Sem.run_pure, Result.andThen_ok, List.map_toArray, List.map_cons, List.map_nil, hs, hx, hr']
  exact hK _ _ (h v' w' h2 h3)
def strV (ls : List (List UInt8)) : List Value := ls.map fun l => Value.string (S l)
theorem nm_own {w : World} {base : Nat} {e : TypeId} {v : Value} {n : Nat} {ls : List (List UInt8)} (h : w.ownsRow base e 1 v n (strV ls)) (hl : ∀ l ∈ ls, l.length ≤ maxLen) : ∃ A c, v = .slice A n c ∧ n ≤ c ∧ NmRow w w.heap.size A n ls ∧ RLo base A n := by
  have hln : ls.length = n := by have := h.1; unfold strV at this; simpa using this
  rcases h.2 with ⟨rfl, rfl⟩ | ⟨g, cap, cur, rfl, hB, hg, hn, _, hs, hx⟩
  · have : ls = [] := List.eq_nil_of_length_eq_zero hln
    subst this
    exact ⟨none, 0, rfl, Nat.le_refl _, ⟨rfl, by simp, fun h => absurd h (by omega)⟩, fun h => absurd h (by omega)⟩
  · refine ⟨_, cap, rfl, hn, ⟨hln, hl, fun h0 => ⟨⟨g, 0, none⟩, rfl, (Array.getElem?_eq_some_iff.1 hg).1, fun i l hi => ?_⟩⟩, fun _ => ⟨_, rfl, hB⟩⟩
    have hi2 := (List.getElem?_eq_some_iff.1 hi).1
    have e : (⟨g, 0, none⟩ : Addr).add i = ⟨g, i, none⟩ := by unfold Addr.add; split <;> simp_all
    rw [e, cell_of_row w g i cur _ (0, 0) hg]
    have h2 : (cur.toList.take (n * 1))[i]? = (strV ls)[i]? := by rw [hx]
    rw [List.getElem?_take] at h2
    rw [if_pos (by omega)] at h2
    rw [← Array.getElem?_toList, h2]
    unfold strV
    simp [hi]
theorem nm_news {w : World} {B : Nat} {A : Option Addr} {n : Nat} {ls : List (List UInt8)} (h : NmRow w B A n ls) : (strV ls).length = n ∧ (0 < n → ∃ x, A = some x ∧ ∀ j u, (strV ls)[j]? = some u → w.cell? (x.add j) = some u) ∧ ∀ u ∈ strV ls, u.oneCell' = true := by
  refine ⟨by unfold strV; simp [h.1], fun h0 => ?_, fun u hu => by unfold strV at hu; obtain ⟨y, _, rfl⟩ := List.mem_map.1 hu; rfl⟩
  obtain ⟨x, e, hx, hc⟩ := h.2.2 h0
  refine ⟨x, e, fun j u hj => ?_⟩
  unfold strV at hj
  rw [List.getElem?_map, Option.map_eq_some_iff] at hj
  obtain ⟨l, hl, rfl⟩ := hj
  exact hc j l hl
theorem str_info : (Tryz.prog.info? 9).map (fun i => (i.zero, i.size, i.bytes)) = some (some (.string .empty), 1, 16) := by kernel_rfl
theorem big_no {a : Ac} (h : bigB a = false) : a.bytes.length ≤ 70000 ∧ a.name.length ≤ 70000 ∧ a.names.length ≤ 100 ∧ ∀ l ∈ a.names, l.length ≤ 70000 := by
  unfold bigB at h
  simp only [Bool.or_eq_false_iff, decide_eq_false_iff_not] at h
  obtain ⟨h1, h2⟩ := h
  unfold bigN at h1
  have e : a.names.take 101 = a.names := List.take_of_length_le (by omega)
  rw [e] at h1
  have c1 : cp a.bytes.length ≤ 70000 := by omega
  have c2 : cp a.name.length ≤ 70000 := by omega
  have c3 : nmN a.names ≤ 70000 := by omega
  have hcp : ∀ n, cp n ≤ 70000 → n ≤ 70000 := fun n hn => by unfold cp at hn; omega
  refine ⟨hcp _ c1, hcp _ c2, by omega, fun l hl => hcp _ ?_⟩
  have : ∀ ls : List (List UInt8), l ∈ ls → cp l.length ≤ nmN ls := fun ls => by
    induction ls with
    | nil => intro h; cases h
    | cons x ls ih =>
      intro h
      have e2 : nmN (x :: ls) = cp x.length + nmN ls := by simp [nmN]
      rw [List.mem_cons] at h
      rcases h with rfl | h
      · omega
      · have := ih h; omega
  have := this _ hl
  omega
end Go.Proofs.YtlodoilihminaaaGreatDoor
