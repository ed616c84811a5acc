/-
  A tree that lies in blocks of its own: each row in its own block, told by what blocks there are.
-/
import Derived.Test.YtkhbmamgfkpdbaaTreeW
import Derived.Deep.AppendLies
import Derived.Deep.RegionLaw
namespace Go.Proofs.Ytkhbmamgfkpdbaa
open Go.ChangeShapes Go.WideShapes Go.ChangeAt Go.RowKit
set_option linter.unusedVariables false
theorem readsL_at {w : World} {x : Addr} : ∀ (ts : List Tr) (i : Nat), (∀ j t, ts[j]? = some t → KidIs w x (i + j) (Reads w t)) → ReadsL w ts x i
  | [], i, h => by simp [ReadsL]
  | t :: ts, i, h => by
    unfold ReadsL
    refine ⟨h 0 t rfl, readsL_at ts (i + 1) fun j t' hj => ?_⟩
    have := h (j + 1) t' (by simpa using hj)
    rw [show i + (j + 1) = i + 1 + j by omega] at this
    exact this
/-- a call of a Go function, at a step of a region that draws -/
theorem step_call {P : Program} {ops : Array Oper} {o : Oper} {a : Act} {w : World} {K : Act → World → Prop} {Q : Exit → Act → World → Prop} {E : Prop} (hgd : o.guard = none) (f : Nat) (args : Array Operand) (ts : Array TypeId)
    (ho : o.op = .call { callee := .value (.func f), args := args, argTypes := ts }) (vals : Array Value) (hv : args.toList.map a.eval = vals.toList) (hf : Sem.run P (callFunc f vals) w = Result.ok (Next.enter f vals) w) {R : Ending → World → Prop} (hc : Calls P f vals w R)
    (h : ∀ e w', R e w' → ∃ v, e = .returned v ∧ K (a.put o.dst v) w') : if Region.wanted o (yielded ops a.tmps) = true then Oper.wp P o a w K Q else E := by
  have hw : Region.wanted o (yielded ops a.tmps) = true := by simp [Region.wanted, hgd]
  rw [if_pos hw]
  have hv : args.map a.eval = vals := by rw [← Array.toList_inj, Array.toList_map]; exact hv
  subst hv
  have hr : (execOp a.eval o).run P w = .ok (.enter f (args.map a.eval)) w := by
    unfold execOp
    simp only [ho, resolve, invoke, Sem.run_bind]
    go_simp
  unfold Oper.wp
  rw [hr, Oper.upon_enter]
  refine Calls.mono hc ?_
  intro e w' hR
  obtain ⟨v, rfl, hK⟩ := h e w' hR
  exact hK
/-- the kid of a number in a row's cells, and what it is -/
def KidX (xs : List Value) (j : Nat) (P : Value → Prop) : Prop := ∃ k s v m a l c, xs[j * 5]? = some (.int .i64 k) ∧ xs[j * 5 + 1]? = some (.string s) ∧ xs[j * 5 + 2]? = some (.int .u32 v) ∧ xs[j * 5 + 3]? = some (.bool m) ∧ xs[j * 5 + 4]? = some (.slice a l c) ∧ P (nd k s v m a l c)
theorem KidX.imp {xs : List Value} {j : Nat} {P Q : Value → Prop} (h : KidX xs j P) (f : ∀ u, P u → Q u) : KidX xs j Q := by
  obtain ⟨k, s, v, m, a, l, c, h0, h1, h2, h3, h4, h5⟩ := h
  exact ⟨k, s, v, m, a, l, c, h0, h1, h2, h3, h4, f _ h5⟩
theorem KidX.left {xs ys : List Value} {j : Nat} {P : Value → Prop} (h : KidX xs j P) : KidX (xs ++ ys) j P := by
  obtain ⟨k, s, v, m, a, l, c, h0, h1, h2, h3, h4, h5⟩ := h
  have go : ∀ {i : Nat} {x : Value}, xs[i]? = some x → (xs ++ ys)[i]? = some x := fun {i x} h => by
    rw [List.getElem?_append_left (List.getElem?_eq_some_iff.1 h).1]; exact h
  exact ⟨k, s, v, m, a, l, c, go h0, go h1, go h2, go h3, go h4, h5⟩
theorem KidX.last {xs : List Value} {j : Nat} {P : Value → Prop} (hx : xs.length = j * 5) {k : Int} {s : ByteArray} {v : Int} {m : Bool} {a : Option Addr} {l c : Nat} (h : P (nd k s v m a l c)) : KidX (xs ++ [.int .i64 k, .string s, .int .u32 v, .bool m, .slice a l c]) j P := by
  refine ⟨k, s, v, m, a, l, c, ?_, ?_, ?_, ?_, ?_, h⟩
  all_goals
    rw [List.getElem?_append_right (by omega), hx]
    simp
mutual
/-- a node that is that tree, each row in a block of its own, all of them of a sort, no two kids' of one -/
def ROwn (w : World) (S : Nat → Prop) : Tr → Value → Prop
  | .mk k s v m ts, u => ∃ a len cap xs F, u = nd k s v m a len cap ∧ s.size ≤ maxLen ∧ (Lit.int .i64 k).wf = true ∧ (Lit.int .u32 v).wf = true ∧ ts.length = len ∧ w.ownsRow 0 26 5 (.slice a len cap) len xs ∧ (∀ b, (Value.slice a len cap).ownBlock = some b → S b) ∧ (∀ j c, F j c → S c ∧ some c ≠ (Value.slice a len cap).ownBlock) ∧ (∀ i j c, F i c → F j c → i = j) ∧ ROwnL w F ts xs 0
def ROwnL (w : World) (F : Nat → Nat → Prop) : List Tr → List Value → Nat → Prop
  | [], _, _ => True
  | t :: ts, xs, j => KidX xs j (ROwn w (F j) t) ∧ ROwnL w F ts xs (j + 1)
end
theorem rownL_get {w : World} {F : Nat → Nat → Prop} {xs : List Value} : ∀ (ts : List Tr) (i j : Nat) (t : Tr), ROwnL w F ts xs i → ts[j]? = some t → KidX xs (i + j) (ROwn w (F (i + j)) t)
  | [], _, _, _, _, h => by simp at h
  | t0 :: ts, i, 0, t, h, e => by
    simp at e
    subst e
    unfold ROwnL at h
    exact h.1
  | t0 :: ts, i, j + 1, t, h, e => by
    unfold ROwnL at h
    have := rownL_get ts (i + 1) j t h.2 (by simpa using e)
    rw [show i + (j + 1) = i + 1 + j by omega]
    exact this
theorem rownL_get0 {w : World} {F : Nat → Nat → Prop} {xs : List Value} {ts : List Tr} {j : Nat} {t : Tr} (h : ROwnL w F ts xs 0) (e : ts[j]? = some t) : KidX xs j (ROwn w (F j) t) := by
  have := rownL_get ts 0 j t h e
  rw [Nat.zero_add] at this
  exact this
theorem rownL_of {w : World} {F : Nat → Nat → Prop} {xs : List Value} : ∀ (ts : List Tr) (i : Nat), (∀ j t, ts[j]? = some t → KidX xs (i + j) (ROwn w (F (i + j)) t)) → ROwnL w F ts xs i
  | [], i, h => by simp [ROwnL]
  | t :: ts, i, h => by
    unfold ROwnL
    refine ⟨h 0 t rfl, rownL_of ts (i + 1) fun j t' hj => ?_⟩
    have := h (j + 1) t' (by simpa using hj)
    rw [show i + (j + 1) = i + 1 + j by omega] at this
    exact this
theorem rownL_of0 {w : World} {F : Nat → Nat → Prop} {xs : List Value} {ts : List Tr} (h : ∀ j t, ts[j]? = some t → KidX xs j (ROwn w (F j) t)) : ROwnL w F ts xs 0 :=
  rownL_of ts 0 fun j t e => by rw [Nat.zero_add]; exact h j t e
theorem ownsRow_keep {w w' : World} {b0 : Nat} {T : TypeId} {sz : Nat} {v : Value} {n : Nat} {xs : List Value} (h : w.ownsRow b0 T sz v n xs) (hk : ∀ b, v.ownBlock = some b → w'.heap[b]? = w.heap[b]?) : w'.ownsRow b0 T sz v n xs := by
  refine ⟨h.1, ?_⟩
  rcases h.2 with hn | ⟨g, cap, cur, rfl, hb, hgg, rest⟩
  · exact .inl hn
  · exact .inr ⟨g, cap, cur, rfl, hb, by rw [hk g rfl]; exact hgg, rest⟩
/-- what keeps its blocks as they were keeps the tree -/
theorem ROwn.keep {w w' : World} : ∀ (t : Tr) {S T : Nat → Prop} {u : Value}, ROwn w S t u → (∀ b, b < w.heap.size → S b → w'.heap[b]? = w.heap[b]? ∧ T b) → ROwn w' T t u
  | .mk k s v m ts, S, T, u, h, hk => by
    unfold ROwn at h ⊢
    obtain ⟨a, len, cap, xs, F, rfl, hs, h1, h2, ht, ho, hS, hF, hD, hL⟩ := h
    refine ⟨a, len, cap, xs, fun j c => F j c ∧ S c ∧ c < w.heap.size, rfl, hs, h1, h2, ht, ownsRow_keep ho fun b hb => (hk b (ho.lt b hb).2 (hS b hb)).1, fun b hb => (hk b (ho.lt b hb).2 (hS b hb)).2, fun j c hc => ⟨(hk c hc.2.2 hc.2.1).2, (hF j c hc.1).2⟩, fun i j c hi hj => hD i j c hi.1 hj.1, rownL_of0 fun j t hj => ?_⟩
    have hd : SizeOf.sizeOf t < SizeOf.sizeOf ts := List.sizeOf_lt_of_mem (List.mem_of_getElem? hj)
    exact (rownL_get0 hL hj).imp fun u hu => ROwn.keep t hu fun b hb hSb => ⟨(hk b hb (hF j b hSb).1).1, hSb, (hF j b hSb).1, hb⟩
  termination_by t => SizeOf.sizeOf t
  decreasing_by
    simp
    omega
theorem cell_add (g j : Nat) : (⟨g, 0, none⟩ : Addr).add j = ⟨g, j, none⟩ := by unfold Addr.add; split <;> simp_all
theorem kid_own {w : World} {T : TypeId} {b0 g n cap : Nat} {xs : List Value} (ho : w.ownsRow b0 T 5 (.slice (some ⟨g, 0, none⟩) n cap) n xs) {j : Nat} {P : Value → Prop} (h : KidX xs j P) : KidIs w ⟨g, 0, none⟩ j P := by
  obtain ⟨k, s, v, m, a, l, c, h0, h1, h2, h3, h4, h5⟩ := h
  have hc := ho.cells (g := g) rfl
  refine ⟨k, s, v, m, a, l, c, ⟨?_, ?_, ?_, ?_, ?_⟩, h5⟩
  · have := hc _ _ h0; rw [cell_add] at this; simpa using this
  · have := hc _ _ h1; rw [cell_add] at this; simpa using this
  · have := hc _ _ h2; rw [cell_add] at this; simpa using this
  · have := hc _ _ h3; rw [cell_add] at this; simpa using this
  · have := hc _ _ h4; rw [cell_add] at this; simpa using this
theorem ownsRow_bounds {w : World} {T : TypeId} {b0 sz n len cap : Nat} {a : Option Addr} {xs : List Value} (ho : w.ownsRow b0 T sz (.slice a len cap) n xs) : n = len ∧ len ≤ cap ∧ cap ≤ maxLen ∧ (0 < len → ∃ g, a = some ⟨g, 0, none⟩ ∧ b0 ≤ g ∧ g < w.heap.size) := by
  rcases ho.2 with ⟨h1, h2⟩ | ⟨g, cap', cur, h1, hb, hg, h2, h3, _⟩
  · injection h1 with e1 e2 e3
    exact ⟨by omega, by omega, by omega, fun h => by omega⟩
  · injection h1 with e1 e2 e3
    subst e1 e2 e3
    exact ⟨rfl, h2, h3, fun _ => ⟨g, rfl, hb, (Array.getElem?_eq_some_iff.1 hg).1⟩⟩
theorem ROwn.reads {w : World} : ∀ (t : Tr) {S : Nat → Prop} {u : Value}, ROwn w S t u → Reads w t u
  | .mk k s v m ts, S, u, h => by
    unfold ROwn at h
    unfold Reads
    obtain ⟨a, len, cap, xs, F, rfl, hs, h1, h2, ht, ho, hS, hF, hD, hL⟩ := h
    obtain ⟨-, hlc, hcm, hg⟩ := ownsRow_bounds ho
    refine ⟨a, len, cap, rfl, hs, h1, h2, ht, hlc, hcm, fun h0 => ?_⟩
    obtain ⟨g, rfl, -, hgs⟩ := hg h0
    refine ⟨⟨g, 0, none⟩, rfl, hgs, readsL_at ts 0 fun j t hj => ?_⟩
    have hd : SizeOf.sizeOf t < SizeOf.sizeOf ts := List.sizeOf_lt_of_mem (List.mem_of_getElem? hj)
    rw [Nat.zero_add]
    exact kid_own ho ((rownL_get0 hL hj).imp fun u hu => ROwn.reads t hu)
  termination_by t => SizeOf.sizeOf t
  decreasing_by
    simp
    omega
/-- a tree as it came in is the same in a later world -/
theorem reads_below {w W : World} (hw : Below w.heap.size w W) : ∀ (t : Tr) (u : Value), Reads w t u → Reads W t u
  | .mk k s v m ts, u, h => by
    unfold Reads at h ⊢
    obtain ⟨a, len, cap, rfl, hs, h1, h2, ht, hl, hc, hk⟩ := h
    refine ⟨a, len, cap, rfl, hs, h1, h2, ht, hl, hc, fun h0 => ?_⟩
    obtain ⟨x, hx, hb, hL⟩ := hk h0
    refine ⟨x, hx, Nat.lt_of_lt_of_le hb hw.size, readsL_at ts 0 fun j t hj => ?_⟩
    have hd : SizeOf.sizeOf t < SizeOf.sizeOf ts := List.sizeOf_lt_of_mem (List.mem_of_getElem? hj)
    obtain ⟨k', s', v', m', a', l', c', g1, g2⟩ := readsL_get ts 0 j t hL hj
    exact ⟨k', s', v', m', a', l', c', g1.below hb hw, reads_below hw t _ g2⟩
  termination_by t => SizeOf.sizeOf t
  decreasing_by
    simp
    omega
theorem len_count : ∀ (ts : List Tr), ts.length ≤ Tr.countL ts
  | [] => by simp
  | .mk k s v m us :: ts => by
    unfold Tr.countL
    have := len_count ts
    simp only [List.length_cons, Tr.count]
    omega
end Go.Proofs.Ytkhbmamgfkpdbaa
