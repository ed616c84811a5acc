/-
  selfsameref07.Bytes: an object's bytes as they grow: the box, the row, what is made beside them.
-/
import Derived.Test.YtekipbfafofkdaaObS
import Derived.Test.YtekipbfafofkdaaObW
import Derived.Deep.RegionWith
import Derived.Deep.RegionHeld3
import Derived.Deep.AppendLies
import Derived.Deep.RegionLaw
namespace Go.Proofs.Ytekipbfafofkdaa
open Go.ChangeShapes Go.WideShapes Go.ChangeAt Go.RowKit
set_option linter.unusedVariables false
set_option linter.unusedSimpArgs false
theorem ownsRow_keep {w w' : World} {b0 : Nat} {T : TypeId} {sz : Nat} {v : Value} {n : Nat} {xs : List Value} (h : w.ownsRow b0 T sz v n xs) (hk : ∀ b, v.ownBlock = some b → w'.heap[b]? = w.heap[b]?) : w'.ownsRow b0 T sz v n xs := by
  refine ⟨h.1, ?_⟩
  rcases h.2 with hn | ⟨g, cap, cur, rfl, hb, hgg, rest⟩
  · exact .inl hn
  · exact .inr ⟨g, cap, cur, rfl, hb, by rw [hk g rfl]; exact hgg, rest⟩
/-- a call of a Go function, at a step of a region that draws -/
theorem step_call {P : Program} {ops : Array Oper} {o : Oper} {a : Act} {w : World} {K : Act → World → Prop} {Q : Exit → Act → World → Prop} {E : Prop} (hgd : o.guard = none) (f : Nat) (args : Array Operand) (ts : Array TypeId)
    (ho : o.op = .call { callee := .value (.func f), args := args, argTypes := ts }) (vals : Array Value) (hv : args.toList.map a.eval = vals.toList) (hf : Sem.run P (callFunc f vals) w = Result.ok (Next.enter f vals) w) {R : Ending → World → Prop} (hc : Calls P f vals w R)
    (h : ∀ e w', R e w' → ∃ v, e = .returned v ∧ K (a.put o.dst v) w') : if Region.wanted o (yielded ops a.tmps) = true then Oper.wp P o a w K Q else E := by
  have hw : Region.wanted o (yielded ops a.tmps) = true := by simp [Region.wanted, hgd]
  rw [if_pos hw]
  have hv : args.map a.eval = vals := by rw [← Array.toList_inj, Array.toList_map]; exact hv
  subst hv
  have hr : (execOp a.eval o).run P w = .ok (.enter f (args.map a.eval)) w := by
    unfold execOp
    simp only [ho, resolve, invoke, Sem.run_bind]
    go_simp
  unfold Oper.wp
  rw [hr, Oper.upon_enter]
  refine Calls.mono hc ?_
  intro e w' hR
  obtain ⟨v, rfl, hK⟩ := h e w' hR
  exact hK
/-- an append of a row of numbers, at a step of a region that draws -/
theorem step_append_rd {P : Program} {w : World} {ops : Array Oper} {o : Oper} {a : Act} {K : Act → World → Prop} {Q : Exit → Act → World → Prop} {E : Prop} (hgd : o.guard = none) (s x : Operand) (t : TypeId)
    (ho : o.op = .call { callee := .builtin .append, args := #[s, x], argTypes := #[t, t] })
    (base : Nat) (e : TypeId) (i : TypeInfo) (z : Value) (bytes : Nat) (ht : P.underlying t = some (.slice e)) (hi : P.info? e = some i) (hz : i.zero = some z)
    (hsize : i.size = 1) (hby : i.bytes = bytes) (hzs : z.cells.size = 1)
    (v : Value) (n : Nat) (xs : List Value) (hs : a.eval s = v) (hown : w.ownsRow base e 1 v n xs)
    (B : Nat) (k : IntKind) (A : Option Addr) (m c : Nat) (zs : List Int) (hx : a.eval x = .slice A m c) (hr : Rd w B k A m zs)
    (h63 : n + m ≤ maxLen) (hbytes : (n + m) * bytes ≤ 140737488355328) (hbase : base ≤ w.heap.size)
    (h : ∀ v' w', w'.ownsRow base e 1 v' (n + m) (xs ++ valsOf k zs) → w.grownBy w' v.ownBlock → K (a.put o.dst v') w') :
    if Region.wanted o (yielded ops a.tmps) = true then Oper.wp P o a w K Q else E := by
  have hw : Region.wanted o (yielded ops a.tmps) = true := by simp [Region.wanted, hgd]
  rw [if_pos hw]
  obtain ⟨v', w', hr', h2, h3⟩ := run_append_rd (P := P) w base t o.type e i z bytes ht hi hz hsize hby hzs v n xs hown B k A m c zs hr h63 hbytes hbase
  unfold Oper.wp execOp
  simp only [ho, resolve, invoke, builtin, Sem.run_bind, Sem.run_pure, Result.andThen_ok, List.map_toArray, List.map_cons, List.map_nil, hs, hx, hr']
  exact h v' w' h2 h3
/-- the object's box, and the row that grows -/
structure BS (w : World) (o : Ob) (ai : Option Addr) (li ci : Nat) (at_ : Option Addr) (lt ct : Nat) (ac : Option Addr) (lc cc : Nat) (ae : Option Addr) (le ce : Nat) (af : Option Addr) (lf cf : Nat) (W : World) (v : Value) (l : List Int) : Prop where
  box : Ob8 W w.heap.size o.name o.key ai li ci o.vars at_ lt ct ac lc cc ae le ce af lf cf
  row : W.ownsRow (w.heap.size + 1) 5 1 v l.length (valsOf .u8 l)
  bel : Below w.heap.size w W
section
variable {w W V : World} {o : Ob} {ai : Option Addr} {li ci : Nat} {at_ : Option Addr} {lt ct : Nat} {ac : Option Addr} {lc cc : Nat} {ae : Option Addr} {le ce : Nat} {af : Option Addr} {lf cf : Nat} {v v' : Value} {l m : List Int}
theorem Ob8.low {b N : Nat} {n : ByteArray} {key vars : Int} (h : Ob8 W b n key ai li ci vars at_ lt ct ac lc cc ae le ce af lf cf) (hN : b < N) (hb : Below N W V) : Ob8 V b n key ai li ci vars at_ lt ct ac lc cc ae le ce af lf cf :=
  have c : ∀ i, V.cell? ⟨b, i, none⟩ = W.cell? ⟨b, i, none⟩ := fun i => World.cell?_of_block (hb.block b hN)
  ⟨(c 0).trans h.c0, (c 1).trans h.c1, (c 2).trans h.c2, (c 3).trans h.c3, (c 4).trans h.c4, (c 5).trans h.c5, (c 6).trans h.c6, (c 7).trans h.c7, Nat.lt_of_lt_of_le h.lt_ hb.size⟩
theorem BS.next (h : BS w o ai li ci at_ lt ct ac lc cc ae le ce af lf cf W v l) (hb : Below W.heap.size W V) : BS w o ai li ci at_ lt ct ac lc cc ae le ce af lf cf V v l :=
  ⟨h.box.next hb, ownsRow_keep h.row fun b hb' => hb.block b (h.row.lt b hb').2, h.bel.trans (hb.mono h.bel.size)⟩
theorem BS.grow (h : BS w o ai li ci at_ lt ct ac lc cc ae le ce af lf cf W v l) (hg : W.grownBy V v.ownBlock) (hr : V.ownsRow (w.heap.size + 1) 5 1 v' (l ++ m).length (valsOf .u8 (l ++ m))) : BS w o ai li ci at_ lt ct ac lc cc ae le ce af lf cf V v' (l ++ m) :=
  have hb : Below (w.heap.size + 1) W V := (Below.refl _ _).grown hg (by have := h.box.lt_; omega) fun k hk => (h.row.lt k hk).1
  ⟨h.box.low (by omega) hb, hr, h.bel.trans (hb.mono (by omega))⟩
end
theorem vals_app (k : IntKind) (x y : List Int) : valsOf k (x ++ y) = valsOf k x ++ valsOf k y := by unfold valsOf; rw [List.map_append]
theorem rd_block (W : World) (l : List Int) : Rd (W.alloc (.cells (valsOf .u8 l).toArray 5)) (W.heap.size + 1) .u8 (some ⟨W.heap.size, 0, none⟩) l.length l :=
  ⟨rfl, fun _ => ⟨_, rfl, by simp, fun i hi => by
    have ha : (⟨W.heap.size, 0, none⟩ : Addr).add i = ⟨W.heap.size, i, none⟩ := by unfold Addr.add; split <;> simp_all
    rw [ha, World.cell?_alloc_new W _ _ _, nth_eq l i hi]
    simp [valsOf, hi]⟩⟩
theorem BS.grow' {w W V : World} {o : Ob} {ai : Option Addr} {li ci : Nat} {at_ : Option Addr} {lt ct : Nat} {ac : Option Addr} {lc cc : Nat} {ae : Option Addr} {le ce : Nat} {af : Option Addr} {lf cf : Nat} {v v' : Value} {l m : List Int} {n k : Nat} (h : BS w o ai li ci at_ lt ct ac lc cc ae le ce af lf cf W v l) (hn : n = l.length) (hk : k = m.length) (hg : W.grownBy V v.ownBlock) (hr : V.ownsRow (w.heap.size + 1) 5 1 v' (n + k) (valsOf .u8 l ++ valsOf .u8 m)) : BS w o ai li ci at_ lt ct ac lc cc ae le ce af lf cf V v' (l ++ m) :=
  h.grow hg (by rw [vals_app, List.length_append, ← hn, ← hk]; exact hr)
theorem BS.drew {w W : World} {o : Ob} {ai : Option Addr} {li ci : Nat} {at_ : Option Addr} {lt ct : Nat} {ac : Option Addr} {lc cc : Nat} {ae : Option Addr} {le ce : Nat} {af : Option Addr} {lf cf : Nat} {v : Value} {l : List Int} (h : BS w o ai li ci at_ lt ct ac lc cc ae le ce af lf cf W v l) : BS w o ai li ci at_ lt ct ac lc cc ae le ce af lf cf W.drew v l := h.next (Below.refl _ _).drew
/-- a row that was made beside the one that grows -/
def RdM (W : World) (v : Value) (A : Option Addr) (m : Nat) (zs : List Int) : Prop := Rd W W.heap.size .u8 A m zs ∧ ∀ k, v.ownBlock = some k → ∀ a, A = some a → a.block ≠ k
theorem RdM.next {W V : World} {v : Value} {A : Option Addr} {m : Nat} {zs : List Int} (h : RdM W v A m zs) (hb : Below W.heap.size W V) : RdM V v A m zs := ⟨(h.1.below hb).more hb.size, h.2⟩
theorem RdM.grow {W V : World} {v : Value} {A : Option Addr} {m : Nat} {zs : List Int} (h : RdM W v A m zs) (hg : W.grownBy V v.ownBlock) : Rd V V.heap.size .u8 A m zs :=
  ⟨h.1.1, fun hn => by
    obtain ⟨x, e, hb, hc⟩ := h.1.2 hn
    refine ⟨x, e, Nat.lt_of_lt_of_le hb hg.size, fun i hi => ?_⟩
    rw [World.cell?_of_block (hg.block (x.add i).block (by rw [block_add]; exact hb) (fun e' => h.2 x.block (by rw [← e', block_add]) x e rfl))]
    exact hc i hi⟩
theorem Rd.next {W V : World} {A : Option Addr} {m : Nat} {zs : List Int} (h : Rd W W.heap.size .u8 A m zs) (hb : Below W.heap.size W V) : Rd V V.heap.size .u8 A m zs := (h.below hb).more hb.size
theorem RdM.new {w W V : World} {o : Ob} {ai : Option Addr} {li ci : Nat} {at_ : Option Addr} {lt ct : Nat} {ac : Option Addr} {lc cc : Nat} {ae : Option Addr} {le ce : Nat} {af : Option Addr} {lf cf : Nat} {v : Value} {l : List Int} {A : Option Addr} {m : Nat} {zs : List Int} (h : BS w o ai li ci at_ lt ct ac lc cc ae le ce af lf cf W v l) (hge : ∀ a, A = some a → W.heap.size ≤ a.block) (hrd : Rd V V.heap.size .u8 A m zs) : RdM V v A m zs :=
  ⟨hrd, fun k hk a ha e => by have := (h.row.lt k hk).2; have := hge a ha; omega⟩
theorem RdM.made {w W : World} {o : Ob} {ai : Option Addr} {li ci : Nat} {at_ : Option Addr} {lt ct : Nat} {ac : Option Addr} {lc cc : Nat} {ae : Option Addr} {le ce : Nat} {af : Option Addr} {lf cf : Nat} {v : Value} {l : List Int} (h : BS w o ai li ci at_ lt ct ac lc cc ae le ce af lf cf W v l) (x : Int) : RdM (W.alloc (.cells #[.int .u8 x] 5)) v (some ⟨W.heap.size, 0, none⟩) 1 [x] :=
  ⟨(rd_block W [x]).more (by simp), fun k hk a ha e => by have := (h.row.lt k hk).2; cases ha; exact absurd e (by simp only; omega)⟩
theorem RdM.made2 {w W : World} {o : Ob} {ai : Option Addr} {li ci : Nat} {at_ : Option Addr} {lt ct : Nat} {ac : Option Addr} {lc cc : Nat} {ae : Option Addr} {le ce : Nat} {af : Option Addr} {lf cf : Nat} {v : Value} {l : List Int} (h : BS w o ai li ci at_ lt ct ac lc cc ae le ce af lf cf W v l) (x y : Int) : RdM (W.alloc (.cells #[.int .u8 x, .int .u8 y] 5)) v (some ⟨W.heap.size, 0, none⟩) 2 [x, y] :=
  ⟨(rd_block W [x, y]).more (by simp), fun k hk a ha e => by have := (h.row.lt k hk).2; cases ha; exact absurd e (by simp only; omega)⟩
theorem rd_low {w w0 W : World} {o : Ob} {ai : Option Addr} {li ci : Nat} {at_ : Option Addr} {lt ct : Nat} {ac : Option Addr} {lc cc : Nat} {ae : Option Addr} {le ce : Nat} {af : Option Addr} {lf cf : Nat} {v : Value} {l : List Int} {A : Option Addr} {m c : Nat} {zs : List Int} (h : BS w o ai li ci at_ lt ct ac lc cc ae le ce af lf cf W v l) (hr : IsRow .u8 w0 A m c zs) (h0 : Below w0.heap.size w0 w) : Rd W W.heap.size .u8 A m zs :=
  ⟨hr.1, fun hn => by
    obtain ⟨x, e, hb, hc⟩ := hr.2.2.2.2.2 hn
    have hb2 := h0.trans (h.bel.mono h0.size)
    refine ⟨x, e, Nat.lt_of_lt_of_le hb hb2.size, fun i hi => ?_⟩
    rw [hb2.cell (by rw [block_add]; exact hb)]
    exact hc i hi⟩
theorem w4_wrap (x : Int) : w4 (x % 4294967296) = w4 x := by
  unfold w4
  have e1 : x % 4294967296 % 256 = x % 256 := by omega
  have e2 : x % 4294967296 / 256 % 256 = x / 256 % 256 := by omega
  have e3 : x % 4294967296 / 65536 % 256 = x / 65536 % 256 := by omega
  have e4 : x % 4294967296 / 16777216 % 256 = x / 16777216 % 256 := by omega
  rw [e1, e2, e3, e4]
/-- Word's row, its block new -/
theorem rword_m (n : Int) (h : 0 ≤ n ∧ n < 4294967296) (W : World) :
    Calls Try.prog 24 #[.int .u32 n] W fun e w' => ∃ g, e = .returned (.slice (some ⟨g, 0, none⟩) 4 4) ∧ (∀ a, (some ⟨g, 0, none⟩ : Option Addr) = some a → W.heap.size ≤ a.block) ∧ Rd w' w'.heap.size .u8 (some ⟨g, 0, none⟩) 4 (w4 n) ∧ Below W.heap.size W w' := by
  refine (rword_any n h.1 h.2 W).mono ?_
  rintro e w' ⟨rfl, rfl⟩
  refine ⟨_, rfl, fun a ha => by cases ha; exact Nat.le_refl _, ⟨rfl, fun _ => ⟨_, rfl, by simp, fun i hi => ?_⟩⟩, below1 _ _⟩
  have ha : (⟨W.heap.size, 0, none⟩ : Addr).add i = ⟨W.heap.size, i, none⟩ := by unfold Addr.add; split <;> simp_all
  rw [ha, World.cell?_alloc_new W _ _ _]
  match i, hi with
  | 0, _ => rfl
  | 1, _ => rfl
  | 2, _ => rfl
  | 3, _ => rfl
theorem rword_c (n : Int) (W : World) :
    Calls Try.prog 24 #[.int .u32 (n % 4294967296)] W fun e w' => ∃ g, e = .returned (.slice (some ⟨g, 0, none⟩) 4 4) ∧ (∀ a, (some ⟨g, 0, none⟩ : Option Addr) = some a → W.heap.size ≤ a.block) ∧ Rd w' w'.heap.size .u8 (some ⟨g, 0, none⟩) 4 (w4 n) ∧ Below W.heap.size W w' := by
  have h := rword_m (n % 4294967296) ⟨Int.emod_nonneg _ (by omega), Int.emod_lt_of_pos _ (by omega)⟩ W
  rw [w4_wrap] at h
  exact h
theorem rword_w (n : Int) (W : World) :
    Calls Try.prog 24 #[.int .u32 (IntKind.u32.wrap n)] W fun e w' => ∃ g, e = .returned (.slice (some ⟨g, 0, none⟩) 4 4) ∧ (∀ a, (some ⟨g, 0, none⟩ : Option Addr) = some a → W.heap.size ≤ a.block) ∧ Rd w' w'.heap.size .u8 (some ⟨g, 0, none⟩) 4 (w4 n) ∧ Below W.heap.size W w' := rword_c n W
/-- a fixup that was copied to a block of its own, beside the row that grows -/
def CM (W : World) (v : Value) (g : Nat) (a b c : Int) : Prop := (g < W.heap.size ∧ FixAt W ⟨g, 0, none⟩ a b c) ∧ ∀ k, v.ownBlock = some k → g ≠ k
def CF (W : World) (g : Nat) (a b c : Int) : Prop := g < W.heap.size ∧ FixAt W ⟨g, 0, none⟩ a b c
theorem CF.next {W V : World} {g : Nat} {a b c : Int} (h : CF W g a b c) (hb : Below W.heap.size W V) : CF V g a b c := ⟨Nat.lt_of_lt_of_le h.1 hb.size, h.2.below h.1 hb⟩
theorem CM.next {W V : World} {v : Value} {g : Nat} {a b c : Int} (h : CM W v g a b c) (hb : Below W.heap.size W V) : CM V v g a b c := ⟨CF.next h.1 hb, h.2⟩
theorem CM.grow {W V : World} {v : Value} {g : Nat} {a b c : Int} (h : CM W v g a b c) (hg : W.grownBy V v.ownBlock) : CF V g a b c := by
  have hc : ∀ i : Nat, V.cell? ⟨g, i, none⟩ = W.cell? ⟨g, i, none⟩ := fun i => World.cell?_of_block (hg.block g h.1.1 (fun e' => h.2 g e'.symm rfl))
  exact ⟨Nat.lt_of_lt_of_le h.1.1 hg.size, ⟨by rw [hc]; exact h.1.2.c0, by have := hc (0 + 1); rw [this]; exact h.1.2.c1, by have := hc (0 + 2); rw [this]; exact h.1.2.c2⟩⟩
theorem cm_new {w W : World} {o : Ob} {ai : Option Addr} {li ci : Nat} {at_ : Option Addr} {lt ct : Nat} {ac : Option Addr} {lc cc : Nat} {ae : Option Addr} {le ce : Nat} {af : Option Addr} {lf cf : Nat} {v : Value} {l : List Int} (h : BS w o ai li ci at_ lt ct ac lc cc ae le ce af lf cf W v l) (x y z : Int) : CM (W.alloc (.cells #[.int .i64 x, .int .i64 y, .int .i64 z] 51)) v W.heap.size x y z :=
  ⟨⟨by simp, by rw [World.cell?_alloc_new W _ _ _]; rfl, by show (W.alloc _).cell? ⟨W.heap.size, 1, none⟩ = _; rw [World.cell?_alloc_new W _ _ _]; rfl, by show (W.alloc _).cell? ⟨W.heap.size, 2, none⟩ = _; rw [World.cell?_alloc_new W _ _ _]; rfl⟩, fun k hk e => by have := (h.row.lt k hk).2; omega⟩
theorem wrap8 (x : Int) : IntKind.u8.wrap x = x % 256 := rfl
/-- a slice of two bytes is laid, at a step of a region that draws -/
theorem step_build2 {ops : Array Oper} {o : Oper} {a : Act} {w : World} {K : Act → World → Prop} {Q : Exit → Act → World → Prop} {E : Prop} (hgd : o.guard = none) (x y : Operand)
    (ho : o.op = .buildSlice 24 2 #[(0, x), (1, y)]) (p q : Int) (hx : a.eval x = .int .u8 p) (hy : a.eval y = .int .u8 q)
    (h : K (a.put o.dst (.slice (some ⟨w.heap.size, 0, none⟩) 2 2)) (w.alloc (.cells #[.int .u8 p, .int .u8 q] 5))) : if Region.wanted o (yielded ops a.tmps) = true then Oper.wp Try.prog o a w K Q else E := by
  have hw : Region.wanted o (yielded ops a.tmps) = true := by simp [Region.wanted, hgd]
  rw [if_pos hw]
  have hr : (execOp a.eval o).run Try.prog w = .ok (.value (.slice (some ⟨w.heap.size, 0, none⟩) 2 2)) (w.alloc (.cells #[.int .u8 p, .int .u8 q] 5)) := by
    unfold execOp
    simp only [ho, Sem.run_bind, List.map_toArray, List.map_cons, List.map_nil, hx, hy]
    go_simp
  unfold Oper.wp
  rw [hr]
  exact h
theorem rnm_m (s : ByteArray) (hs : s.size ≤ 1000000) (W : World) :
    Calls Try.prog 23 #[.string s] W fun e w' => ∃ A c, e = .returned (.slice A (s.size + 1) c) ∧ (∀ a, A = some a → W.heap.size ≤ a.block) ∧ Rd w' w'.heap.size .u8 A (s.size + 1) (nm s) ∧ Below W.heap.size W w' := by
  refine (rnm_any s hs W).mono ?_
  rintro e w' ⟨A, c, rfl, how, hb⟩
  obtain ⟨A2, c2, hA, -, hrd⟩ := rd_own how
  cases hA
  exact ⟨A, c, rfl, fun a ha => by subst ha; exact (how.lt _ rfl).1, hrd, hb⟩
theorem flat_len {α : Type} (f : α → List Int) (c : Nat) : ∀ l : List α, (∀ x ∈ l, (f x).length ≤ c) → (l.flatMap f).length ≤ l.length * c
  | [], _ => by simp
  | x :: r, h => by
    have h1 := flat_len f c r fun y hy => h y (List.mem_cons_of_mem _ hy)
    have h2 := h x List.mem_cons_self
    rw [List.flatMap_cons, List.length_append, List.length_cons, Nat.succ_mul]
    omega
theorem flat_take {α : Type} (f : α → List Int) (l : List α) (j : Nat) (x : α) (h : l[j]? = some x) : (l.take (j + 1)).flatMap f = (l.take j).flatMap f ++ f x := by
  rw [List.take_add_one, h, List.flatMap_append]
  simp
end Go.Proofs.Ytekipbfafofkdaa
