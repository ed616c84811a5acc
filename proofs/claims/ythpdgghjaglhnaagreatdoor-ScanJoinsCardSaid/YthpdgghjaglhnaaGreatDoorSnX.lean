/-
  Appends at a step of a region that draws its order; a row of symbols that lies there.
-/
import Derived.Test.YthpdgghjaglhnaaGreatDoorSnW
import Derived.Lib.AppendStr
namespace Go.Proofs.YthpdgghjaglhnaaGreatDoor
open Go.ChangeShapes Go.WideShapes Go.ChangeAt Go.RowKit
open Ev (WRow)
set_option linter.unusedVariables false
set_option linter.unusedSimpArgs false
theorem step_append_rd {P : Program} {w : World} {ops : Array Oper} {o : Oper} {a : Act} {K : Act → World → Prop} {Q : Exit → Act → World → Prop} {E : Prop} (hgd : o.guard = none) (s x : Operand) (t : TypeId)
    (ho : o.op = .call { callee := .builtin .append, args := #[s, x], argTypes := #[t, t] })
    (base : Nat) (e : TypeId) (i : TypeInfo) (z : Value) (bytes : Nat) (ht : P.underlying t = some (.slice e)) (hi : P.info? e = some i) (hz : i.zero = some z)
    (hsize : i.size = 1) (hby : i.bytes = bytes) (hzs : z.cells.size = 1)
    (v : Value) (n : Nat) (xs : List Value) (hs : a.eval s = v) (hown : w.ownsRow base e 1 v n xs)
    (B : Nat) (k : IntKind) (A : Option Addr) (m c : Nat) (zs : List Int) (hx : a.eval x = .slice A m c) (hr : Rd w B k A m zs)
    (h63 : n + m ≤ maxLen) (hbytes : (n + m) * bytes ≤ 140737488355328) (hbase : base ≤ w.heap.size)
    (h : ∀ v' w', w'.ownsRow base e 1 v' (n + m) (xs ++ valsOf k zs) → w.grownBy w' v.ownBlock → K (a.put o.dst v') w') :
    if Region.wanted o (yielded ops a.tmps) = true then Oper.wp P o a w K Q else E := by
  have hw : Region.wanted o (yielded ops a.tmps) = true := by simp [Region.wanted, hgd]
  rw [if_pos hw]
  obtain ⟨v', w', hr', h2, h3⟩ := run_append_rd (P := P) w base t o.type e i z bytes ht hi hz hsize hby hzs v n xs hown B k A m c zs hr h63 hbytes hbase
  unfold Oper.wp execOp
  simp only [ho, resolve, invoke, builtin, Sem.run_bind, Sem.run_pure, Result.andThen_ok, List.map_toArray, List.map_cons, List.map_nil, hs, hx, hr']
  exact h v' w' h2 h3
theorem step_append_str {P : Program} {w : World} {ops : Array Oper} {o : Oper} {a : Act} {K : Act → World → Prop} {Q : Exit → Act → World → Prop} {E : Prop} (hgd : o.guard = none) (sl x : Operand) (t u : TypeId)
    (ho : o.op = .call { callee := .builtin .append, args := #[sl, x], argTypes := #[t, u] })
    (base : Nat) (e : TypeId) (i : TypeInfo) (ht : P.underlying t = some (.slice e)) (hu : P.underlying u = some .string) (hi : P.info? e = some i) (hz : i.zero = some (.int .u8 0))
    (hsize : i.size = 1) (hby : i.bytes = 1)
    (v : Value) (n : Nat) (xs : List Value) (hs : a.eval sl = v) (hown : w.ownsRow base e 1 v n xs) (s : ByteArray) (hx : a.eval x = .string s)
    (h63 : n + s.size ≤ maxLen) (hbytes : n + s.size ≤ 140737488355328) (hbase : base ≤ w.heap.size)
    (h : ∀ v' w', w'.ownsRow base e 1 v' (n + s.size) (xs ++ Lib.strCells s) → w.grownBy w' v.ownBlock → K (a.put o.dst v') w') :
    if Region.wanted o (yielded ops a.tmps) = true then Oper.wp P o a w K Q else E := by
  have hw : Region.wanted o (yielded ops a.tmps) = true := by simp [Region.wanted, hgd]
  rw [if_pos hw]
  obtain ⟨v', w', hr, h2, h3, h4⟩ := Lib.run_append_own_string (P := P) w base t u o.type e i ht hu hi hz hsize hby v n xs hown s h63 hbytes hbase
  unfold Oper.wp execOp
  simp only [ho, resolve, invoke, builtin, Sem.run_bind, Sem.run_pure, Result.andThen_ok, List.map_toArray, List.map_cons, List.map_nil, hs, hx, hr]
  exact h v' w' h2 h3
def gapS : ByteArray := ⟨#[32, 40, 42, 32, 99, 32, 40, 42, 32, 100, 32, 42, 41, 32, 42, 41, 32]⟩
theorem step_append_gap {P : Program} {w : World} {ops : Array Oper} {o : Oper} {a : Act} {K : Act → World → Prop} {Q : Exit → Act → World → Prop} {E : Prop} (hgd : o.guard = none) (sl x : Operand) (t u : TypeId)
    (ho : o.op = .call { callee := .builtin .append, args := #[sl, x], argTypes := #[t, u] })
    (base : Nat) (e : TypeId) (i : TypeInfo) (ht : P.underlying t = some (.slice e)) (hu : P.underlying u = some .string) (hi : P.info? e = some i) (hz : i.zero = some (.int .u8 0))
    (hsize : i.size = 1) (hby : i.bytes = 1)
    (v : Value) (bl : List Int) (hs : a.eval sl = v) (hown : w.ownsRow base e 1 v bl.length (valsOf .u8 bl)) (hx : a.eval x = .string gapS)
    (h63 : bl.length ≤ 1000000) (hbase : base ≤ w.heap.size)
    (h : ∀ v' w', w'.ownsRow base e 1 v' (bl ++ gapC).length (valsOf .u8 (bl ++ gapC)) → w.grownBy w' v.ownBlock → K (a.put o.dst v') w') :
    if Region.wanted o (yielded ops a.tmps) = true then Oper.wp P o a w K Q else E :=
  step_append_str hgd sl x t u ho base e i ht hu hi hz hsize hby v bl.length (valsOf .u8 bl) hs hown gapS hx (by have e : gapS.size = 17 := rfl; rw [e]; unfold maxLen; omega) (by have e : gapS.size = 17 := rfl; rw [e]; omega) hbase (fun v' w' h1 h2 => h v' w' (by
    have e1 : Lib.strCells gapS = valsOf .u8 gapC := rfl
    have e2 : gapS.size = 17 := rfl
    rw [e1, e2] at h1
    have e3 : (bl ++ gapC).length = bl.length + 17 := by rw [List.length_append]; rfl
    rw [e3]
    have e4 : valsOf .u8 (bl ++ gapC) = valsOf .u8 bl ++ valsOf .u8 gapC := by unfold valsOf; rw [List.map_append]
    rw [e4]
    exact h1) h2)
theorem step_append_piece {P : Program} {w : World} {ops : Array Oper} {o : Oper} {a : Act} {K : Act → World → Prop} {Q : Exit → Act → World → Prop} {E : Prop} (hgd : o.guard = none) (s x : Operand) (t : TypeId)
    (ho : o.op = .call { callee := .builtin .append, args := #[s, x], argTypes := #[t, t] })
    (base : Nat) (e : TypeId) (i : TypeInfo) (ht : P.underlying t = some (.slice e)) (hi : P.info? e = some i) (hz : i.zero = some (.int .u8 0))
    (hsize : i.size = 1) (hby : i.bytes = 1)
    (v : Value) (bl : List Int) (hs : a.eval s = v) (hown : w.ownsRow base e 1 v bl.length (valsOf .u8 bl))
    (B : Nat) (A : Option Addr) (m c : Nat) (zs : List Int) (hx : a.eval x = .slice A m c) (hr : Rd w B .u8 A m zs)
    (h63 : bl.length ≤ 1000000) (hm : m ≤ 1000000) (hbase : base ≤ w.heap.size)
    (h : ∀ v' w', w'.ownsRow base e 1 v' (bl ++ zs).length (valsOf .u8 (bl ++ zs)) → w.grownBy w' v.ownBlock → K (a.put o.dst v') w') :
    if Region.wanted o (yielded ops a.tmps) = true then Oper.wp P o a w K Q else E :=
  step_append_rd hgd s x t ho base e i (.int .u8 0) 1 ht hi hz hsize hby rfl v bl.length (valsOf .u8 bl) hs hown B .u8 A m c zs hx hr (by unfold maxLen; omega) (by omega) hbase (fun v' w' h1 h2 => h v' w' (by
    have e3 : (bl ++ zs).length = bl.length + m := by rw [List.length_append, hr.1]
    have e4 : valsOf .u8 (bl ++ zs) = valsOf .u8 bl ++ valsOf .u8 zs := by unfold valsOf; rw [List.map_append]
    rw [e3, e4]
    exact h1) h2)
/-- the row of symbols -/
theorem all_form {w W : World} {q : Sp} {s u : Sn} {v : Value} {n : Nat} (h : L1 w W q s v n (rowL u n)) : ∃ A c, v = .slice A n c ∧ ∀ i, i < n → ∃ g f, A = some ⟨g, f, none⟩ ∧ g < W.heap.size ∧ ∀ o, o < 5 → W.cell? ⟨g, f + (i * 5 + o), none⟩ = (symC (stp u (i + 1)))[o]? := by
  rcases h.r.2 with ⟨e, e0⟩ | ⟨g, f, c, e, hb, hl, h1, h2, h3, h4⟩
  · exact ⟨none, 0, by rw [e, e0], fun i hi => absurd hi (by omega)⟩
  · refine ⟨_, c, e, fun i hi => ⟨g, f, rfl, hl, fun o ho => ?_⟩⟩
    have e2 := rowL_get u n i o hi ho
    have hlt : i * 5 + o < (rowL u n).length := by rw [rowL_len]; omega
    rw [← e2, List.getElem?_eq_getElem hlt]
    exact h3 _ _ (List.getElem?_eq_getElem hlt)
theorem sym_cells {w : World} {g f i : Nat} {s : Sn} (h : ∀ o, o < 5 → w.cell? ⟨g, f + (i * 5 + o), none⟩ = (symC s)[o]?) : w.cell? ⟨g, f + i * 5, none⟩ = some (.int .i64 s.sym) ∧ w.cell? ⟨g, f + i * 5 + 1, none⟩ = some (.int .i64 s.pos) ∧ w.cell? ⟨g, f + i * 5 + 2, none⟩ = some (.int .i32 s.val) ∧ w.cell? ⟨g, f + i * 5 + 3, none⟩ = some (.int .i64 s.id) ∧ w.cell? ⟨g, f + i * 5 + 4, none⟩ = some (.string s.txt) := by
  have e : ∀ o, f + i * 5 + o = f + (i * 5 + o) := fun o => by omega
  refine ⟨h 0 (by omega), ?_, ?_, ?_, ?_⟩
  · rw [e]; exact h 1 (by omega)
  · rw [e]; exact h 2 (by omega)
  · rw [e]; exact h 3 (by omega)
  · rw [e]; exact h 4 (by omega)
theorem end_pos {s : Sn} (hc : s.code = 0) (ha : s.at_ ≤ s.src.length) (hk : 0 ≤ s.kw) (h0 : (getF s).code = 0) (hy : (getF s).sym = 0) : (getF s).pos = (s.src.length : Int) := by
  obtain ⟨p, p1, p2, pb, pp, hcase⟩ := get_cases hc ha hk h0
  rcases hcase with ⟨he, e⟩ | ⟨plt, m, y, va, i, tx, ns, t, e⟩
  · rw [pp, he]
  · rw [e] at hy
    exact absurd hy t.y0
theorem two_pos {u : Sn} (h : At0 u u 0) (i : Nat) (hj : ∀ j, j < i → (stp u (j + 1)).sym ≠ 0) (hr : ∀ k j, j + k = i → Runs k (stp u j)) (j : Nat) (hlt : j < i) : ∃ p p2 : Nat, (stp u (j + 1)).pos = (p : Int) ∧ (stp u (j + 2)).pos = (p2 : Int) ∧ p ≤ p2 ∧ p2 ≤ u.src.length ∧ (j + 1 = i → p2 = u.src.length) ∧ ∀ n, spr (n + 1) (stp u (j + 1)) = gapC ++ ((u.src.drop p).take (p2 - p)) ++ spr n (stp u (j + 2)) := by
  have ih := at0_all h j (fun k hk => hj k (by omega))
  obtain ⟨p, p1, p2, p3, p4, p5, p6, p7, p8⟩ := get_sym ih.c (by rw [ih.e]; exact ih.a) ih.k (hj j hlt)
  have ih2 := at0_all h (j + 1) (fun k hk => hj k (by omega))
  have hr2 := hr (i - (j + 1)) (j + 1) (by omega)
  obtain ⟨q, q1, q2, qb, qq, _⟩ := get_cases ih2.c (by rw [ih2.e]; exact ih2.a) ih2.k hr2.code
  rw [ih2.e] at q2
  have e1 : (stp u (j + 1)).pos = (p : Int) := p3
  have e2 : (stp u (j + 2)).pos = (q : Int) := qq
  have e3 : p < (stp u (j + 1)).at_ := p4
  refine ⟨p, q, e1, e2, by omega, q2, fun e => ?_, fun n => ?_⟩
  · subst e
    have h0 := hr 0 (j + 1) rfl
    have := end_pos ih2.c (by rw [ih2.e]; exact ih2.a) ih2.k h0.1 h0.2
    rw [ih2.e] at this
    have : (stp u (j + 2)).pos = (u.src.length : Int) := this
    omega
  · rw [spr, ih2.e, e1, List.append_assoc]
    show _ ++ (List.take ((stp u (j + 2)).pos.toNat - _) _ ++ _) = _
    rw [e2]
    rfl
theorem twin_start {u : Sn} {z0 T : List Int} {i : Nat} (hu : u = ({ wsF 57 29 with src := z0 } : Sn)) (hT : T = spr i (stp u 1)) : Twin u ({ wsF 57 29 with src := T } : Sn) i := by
  subst hu
  exact ⟨rfl, rfl, rfl, rfl, (by decide : (0 : Int) ≤ 29), Nat.zero_le _, Nat.zero_le _, [], fun X => rfl, hT⟩
theorem twin_all {u v : Sn} {i : Nat} (h : Twin u v i) (hr : ∀ k j, j + k = i → Runs k (stp u j)) : ∀ j, j ≤ i → Twin (stp u j) (stp v j) (i - j)
  | 0, _ => h
  | j + 1, hj => by
    have ih := twin_all h hr j (by omega)
    rw [show i - j = (i - (j + 1)) + 1 by omega] at ih
    exact (ih.step (hr _ j (by omega))).2
theorem twin_sym {u v : Sn} {i : Nat} (h : Twin u v i) (hr : ∀ k j, j + k = i → Runs k (stp u j)) (j : Nat) (hj : j < i) : (stp v (j + 1)).sym = (stp u (j + 1)).sym ∧ (stp v (j + 1)).val = (stp u (j + 1)).val ∧ (stp v (j + 1)).id = (stp u (j + 1)).id ∧ (stp v (j + 1)).txt = (stp u (j + 1)).txt := by
  have ih := twin_all h hr j (by omega)
  rw [show i - j = (i - (j + 1)) + 1 by omega] at ih
  exact (ih.step (hr _ j (by omega))).1
theorem twin_stop {u v : Sn} {i : Nat} (h : Twin u v i) (hr : ∀ k j, j + k = i → Runs k (stp u j)) : (stp v (i + 1)).sym = 0 := by
  have ih := twin_all h hr i (Nat.le_refl _)
  rw [Nat.sub_self] at ih
  exact ih.stop
theorem get_src (s : Sn) : (getF s).src = s.src := by
  unfold getF
  split
  · rfl
  · split
    · unfold tokF
      split
      · rfl
      · split
        · unfold nameF
          simp only []
          split
          · rw [markF_src]; rfl
          · split
            · rw [internF_src]; rfl
            · split
              · show (internF _ _).src = _; rw [internF_src]; rfl
              · show (internF _ _).src = _; rw [internF_src]; rfl
        · split
          · unfold numF
            simp only []
            split
            · rw [markF_src]; rfl
            · rfl
          · split
            · unfold textF
              simp only []
              split
              · rw [markF_src]; rfl
              · rfl
            · unfold signF
              split
              · rw [markF_src]; rfl
              · split
                · rfl
                · split <;> rfl
    · rw [markF_src]
theorem stp_src (u : Sn) : ∀ j, (stp u j).src = u.src
  | 0 => rfl
  | j + 1 => by show (getF (stp u j)).src = _; rw [get_src, stp_src u j]
theorem spr_bytes : ∀ (n : Nat) (s : Sn), (∀ x ∈ s.src, 0 ≤ x ∧ x < 256) → (∀ m, ∀ j, j < m → (stp s j).src = s.src) → ∀ x ∈ spr n s, 0 ≤ x ∧ x < 256
  | 0, s, _, _, x, hx => by rw [spr] at hx; cases hx
  | n + 1, s, hb, he, x, hx => by
    rw [spr] at hx
    rcases List.mem_append.1 hx with h | h
    · have : ∀ y ∈ gapC, 0 ≤ y ∧ y < 256 := by decide
      exact this x h
    · rcases List.mem_append.1 h with h | h
      · exact hb x (List.mem_of_mem_drop (List.mem_of_mem_take h))
      · have e1 : (getF s).src = s.src := he 2 1 (by omega)
        have e2 : ∀ j, stp (getF s) j = stp s (j + 1) := fun j => by
          induction j with
          | zero => rfl
          | succ j ih => show getF (stp (getF s) j) = _; rw [ih]; rfl
        exact spr_bytes n (getF s) (by rw [e1]; exact hb) (fun m j hj => by rw [e2, e1]; exact he (m + 1) (j + 1) (by omega)) x h
/-- the piece of one symbol -/
theorem spr_step {u s : Sn} {n : Nat} : spr (n + 1) s = gapC ++ ((s.src.drop s.pos.toNat).take ((getF s).pos.toNat - s.pos.toNat)) ++ spr n (getF s) := by
  rw [spr, List.append_assoc]
end Go.Proofs.YthpdgghjaglhnaaGreatDoor
