/-
  A scanner beside what the document tells of its source.
-/
import Derived.Test.YthpdgghjaglhnaaGreatDoorSqE
import Derived.Laws.StructEq
namespace Go.Proofs.YthpdgghjaglhnaaGreatDoor
open Go.ChangeShapes Go.WideShapes Go.ChangeAt Go.RowKit
open Ev (WRow)
set_option linter.unusedVariables false
set_option linter.unusedSimpArgs false
section
variable {w W V : World} {B : Nat} {q : Sp} {s : Sn}
theorem snname_no (h : SnAt w B q s) (i : Int) (hi : i < 0 ∨ (s.nms.length : Int) ≤ i) (h0 : -9223372036854775808 ≤ i) (h1 : i ≤ 9223372036854775807) : Calls Tryz.prog 12 #[.pointer (some ⟨q.p, 0, none⟩), .int .i64 i] w fun e w' => e = .returned (.string ⟨#[]⟩) ∧ w = w' := by
  have HI := Lib.hid (snis_any h)
  have c9 := h.c9
  obtain ⟨A, c, e⟩ := names_form h
  rw [e] at c9
  clear h e
  by_cases hn : i < 0
  · go_enter Tryz.func12, Tryz.ntmps12
    go_wp2_with (go_at_call 25; (with_reducible refine HI.out.mono ?_); rintro e w' ⟨rfl, rfl⟩)
    go_ret
    exact ⟨rfl, rfl⟩
  · have hl : (s.nms.length : Int) ≤ i := by omega
    go_enter Tryz.func12, Tryz.ntmps12
    go_wp2_with (go_at_call 25; (with_reducible refine HI.out.mono ?_); rintro e w' ⟨rfl, rfl⟩)
    go_ret
    exact ⟨rfl, rfl⟩
theorem snname_yes (h : SnAt w B q s) (j : Nat) {l : List UInt8} (hj : s.nms[j]? = some l) : Calls Tryz.prog 12 #[.pointer (some ⟨q.p, 0, none⟩), .int .i64 (j : Int)] w fun e w' => e = .returned (.string (bs l)) ∧ w = w' := by
  have HI := Lib.hid (snis_any h)
  have c9 := h.c9
  have hlt := (List.getElem?_eq_some_iff.1 hj).1
  have hn1 := h.n1
  obtain ⟨gb, gf, gc, e, _, _⟩ := h.nms.form (by omega)
  have hc : w.cell? ⟨gb, gf + j, none⟩ = some (.string (bs l)) := by
    have hr := h.nms
    rw [e] at hr
    rw [(hr.cell j (by omega)).1, List.getElem?_map, hj]; rfl
  rw [e] at c9
  clear h e hj
  go_enter Tryz.func12, Tryz.ntmps12
  go_wp2_with (go_at_call 25; (with_reducible refine HI.out.mono ?_); rintro e w' ⟨rfl, rfl⟩)
  go_ret
  exact ⟨rfl, rfl⟩
end
/-! ### a scanner beside what lies there -/
structure Rs (w W2 : World) (B B1 : Nat) (W : World) (q : Sp) (s : Sn) : Prop where
  b : Below w.heap.size w W
  hB : w.heap.size ≤ B
  sn : SnAt W B q s
  sz : W2.heap.size ≤ W.heap.size
  k : ∀ z, B1 ≤ z → z < W2.heap.size → ApS z q ∧ W.heap[z]? = W2.heap[z]?
section
variable {w W2 W V : World} {B B1 : Nat} {q q' : Sp} {s s' : Sn}
theorem Rs.bW (h : Rs w W2 B B1 W q s) : B ≤ W.heap.size := Nat.le_trans h.sn.bp (Nat.le_of_lt h.sn.lt)
theorem Rs.next (h : Rs w W2 B B1 W q s) (hb : Below W.heap.size W V) : Rs w W2 B B1 V q s :=
  ⟨h.b.trans (hb.mono h.b.size), h.hB, h.sn.next hb, Nat.le_trans h.sz hb.size, fun z h1 h2 => ⟨(h.k z h1 h2).1, (hb.block z (Nat.lt_of_lt_of_le h2 h.sz)).trans (h.k z h1 h2).2⟩⟩
theorem Rs.wrote (h : Rs w W2 B B1 W q s) (hs : SnAt V B q' s') (hf : Sf q q' W V) : Rs w W2 B B1 V q' s' :=
  ⟨h.b.trans ((hf.below h.sn h.bW).mono h.hB), h.hB, hs, Nat.le_trans h.sz hf.size, fun z h1 h2 => by
    have h3 := (h.k z h1 h2).1.sf hf (Nat.lt_of_lt_of_le h2 h.sz)
    exact ⟨h3.1, h3.2.trans (h.k z h1 h2).2⟩⟩
theorem Rs.cell (h : Rs w W2 B B1 W q s) {z o : Nat} (h1 : B1 ≤ z) (h2 : z < W2.heap.size) : W.cell? ⟨z, o, none⟩ = W2.cell? ⟨z, o, none⟩ ∧ W.frozen? ⟨z, o, none⟩ = W2.frozen? ⟨z, o, none⟩ :=
  ⟨World.cell?_of_block (h.k z h1 h2).2, World.frozen?_of_block (h.k z h1 h2).2⟩
theorem rs_get (h : Rs w W2 B B1 W q s) (hkw : s.kw = 29) (hT : ∀ V, Below w.heap.size w V → Proofs.YthpdgghjaglhnaaGreatDoor.Tab V) {p : Nat} (hp : q.p = p) : Calls Tryz.prog 10 #[.pointer (some ⟨p, 0, none⟩)] W fun e w' => e = .returned (.tuple #[]) ∧ ∃ q', q'.p = p ∧ Rs w W2 B B1 w' q' (getF s) := by
  subst hp
  exact (get_any h.sn h.bW (by rw [hkw]; exact Int.le_refl _) (fun V hV => hT V (h.b.trans (hV.mono h.hB)))).mono fun e w' ⟨he, q', hs, hf⟩ => ⟨he, q', hf.p, h.wrote hs hf⟩
theorem rs_sym (h : Rs w W2 B B1 W q s) {p : Nat} (hp : q.p = p) : Calls Tryz.prog 8 #[.pointer (some ⟨p, 0, none⟩)] W fun e w' => e = .returned (.agg #[.int .i64 s.sym, .int .i64 s.pos, .int .i32 s.val, .int .i64 s.id, .string s.txt]) ∧ Below W.heap.size W w' := by
  subst hp
  exact (symbol_any h.sn).mono fun e w' ⟨he, hb⟩ => ⟨he, hb⟩
theorem rs_err (h : Rs w W2 B B1 W q s) {p : Nat} (hp : q.p = p) : Calls Tryz.prog 9 #[.pointer (some ⟨p, 0, none⟩)] W fun e w' => e = .returned (.tuple #[.int .i64 s.code, .int .i64 s.epos]) ∧ Below W.heap.size W w' := by
  subst hp
  exact (snerr_any h.sn).mono fun e w' ⟨he, hb⟩ => ⟨he, hb⟩
end
/-! ### the end -/
theorem get_err {s : Sn} (h : s.code ≠ 0) : getF s = s := by unfold getF; rw [if_pos h]
theorem begF_self {s : Sn} {a : Nat} (e : s = begF s a) : begF s a = s := e.symm
/-- a scanner that has come to the end stays there -/
theorem end_stay {u : Sn} (h : At0 u u 0) {m : Nat} (hs : Scd u m) : getF (stp u (m + 1)) = stp u (m + 1) := by
  by_cases hc : (stp u (m + 1)).code = 0
  · have ih := at0_all h m hs.j
    obtain ⟨p, p1, p2, pb, pp, hcase⟩ := get_cases ih.c (by rw [ih.e]; exact ih.a) ih.k hc
    rcases hcase with ⟨e1, e2⟩ | ⟨plt, m', y, va, i, tx, ns, t, e⟩
    · have e3 : stp u (m + 1) = begF (stp u m) p := e2
      have hlen : (stp u (m + 1)).at_ = (stp u (m + 1)).src.length := by rw [e3]; exact e1
      have e4 : begF (stp u (m + 1)) (stp u (m + 1)).src.length = stp u (m + 1) := by
        rw [← hlen, e3]; rfl
      unfold getF
      rw [if_neg (by simpa using hc), hlen, List.drop_length, bl_nil]
      show tokF (begF (stp u (m + 1)) ((stp u (m + 1)).src.length - 0)) = _
      rw [Nat.sub_zero, tok_end (Nat.le_refl _), e4]
    · exfalso
      have e3 : (stp u (m + 1)).sym = y := by show (getF (stp u m)).sym = y; rw [e]
      have := t.y0
      rw [hs.f] at e3
      exact this e3.symm
  · exact get_err hc
theorem all_state {u : Sn} (h : At0 u u 0) {m : Nat} (hs : Scd u m) : stp u (allN u m + 1) = stp u (m + 1) := by
  unfold allN
  split
  · show getF (stp u (m + 1)) = _
    exact end_stay h hs
  · rfl
theorem all_ok {u : Sn} (h : At0 u u 0) (hf : Fit u) {m : Nat} (hs : Scd u m) (i : Nat) (hi : i < allN u m) : (stp u (i + 1)).code = 0 ∧ (stp u (i + 1)).epos = 0 := by
  have hc : (stp u (i + 1)).code = 0 := by
    unfold allN at hi
    by_cases e : i < m
    · exact (at0_all h (i + 1) (fun j hj => hs.j j (by omega))).c
    · split at hi
      · rename_i hc
        obtain rfl : i = m := by omega
        exact hc
      · omega
  exact ⟨hc, (hf.stp (i + 1)).ep hc⟩
theorem ok_stp {u : Sn} (h : Ok u) : ∀ i, Ok (stp u i)
  | 0 => h
  | i + 1 => get_ok (ok_stp h i)
theorem all_len {u : Sn} (h : At0 u u 0) {m : Nat} (hs : Scd u m) : m ≤ u.src.length := by
  have := at0_all h m hs.j
  exact Nat.le_trans this.i this.a
set_option maxRecDepth 100000 in
/-- two symbols that are the same -/
theorem eq_sym (a b d i : Int) (t : ByteArray) (w : World) : (Op.equalIn 10000 32 (.agg #[.int .i64 a, .int .i64 b, .int .i32 d, .int .i64 i, .string t]) (.agg #[.int .i64 a, .int .i64 b, .int .i32 d, .int .i64 i, .string t])).run Tryz.prog w = .ok true w := by
  rw [run_equalIn_struct w 9999 32 _ _ (by kernel_rfl) (by kernel_rfl)]
  have e1 : Tryz.prog.fieldsOf 32 = (match Tryz.prog.underlying 32 with | some (.struct fs) => fs | _ => #[]) := rfl
  rw [e1, Tryz.underlying32]
  simp [Op.eqFields, go_sem]
theorem guard_sym : (Tryz.prog).eqGuardType (Tryz.prog).depth 32 = false := by kernel_rfl
theorem sym_neq (a b d i : Int) (t : ByteArray) (V : World) : (binOp .neq 32 (.agg #[.int .i64 a, .int .i64 b, .int .i32 d, .int .i64 i, .string t]) (.agg #[.int .i64 a, .int .i64 b, .int .i32 d, .int .i64 i, .string t])).run Tryz.prog V = .ok (.bool false) V := by
  rw [run_neq_struct, eq_sym]
  rfl
end Go.Proofs.YthpdgghjaglhnaaGreatDoor
