/-
  An evaluator of Go's code over known data, run by the kernel: literals, append, copy, bytes and strings. Nothing of the program.
-/
import Derived.Test.YtdoegipkfjndbaaGreatDoorEvA
import Derived.RangeFuncLeaves
import Derived.RangeFuncRecord
import Derived.OrdersIn
import Derived.Laws.StructEq
import Derived.ChangeKeysEq
import Derived.Great.BuildSlice
import Derived.Laws.MakeOwn
import Derived.Laws.AppendOwn
import Derived.Lib.ConvBytes
import Derived.Laws.BytesString
namespace Go.Proofs.YtdoegipkfjndbaaGreatDoor.Ev
set_option linter.unusedVariables false
set_option linter.unusedSimpArgs false
noncomputable section
open Go.RowKit
/-- a name's world behind a part: elder names stay; new ones are among n .. n1 - 1 -/
structure Step (μ μ1 : Names) (n n1 : Nat) : Prop where
  le : μ.le μ1
  same : ∀ i, ¬ (n ≤ i ∧ i < n1) → μ1.get i = μ.get i
theorem Step.refl (μ : Names) (n n1 : Nat) : Step μ μ n n1 := ⟨Names.le_refl μ, fun _ _ => rfl⟩
theorem Step.trans {μ μ1 μ2 : Names} {n n1 n2 : Nat} (h : Step μ μ1 n n1) (g : Step μ1 μ2 n1 n2) (h1 : n ≤ n1) (h2 : n1 ≤ n2) : Step μ μ2 n n2 :=
  ⟨Names.le_trans h.le g.le, fun i hi => by rw [g.same i (by omega), h.same i (by omega)]⟩
/-- the frames of an activation, of a round -/
def Fr (rb : Option Nat) : Fence := { Fence.wide with round := rb }
theorem Fr_room (rb : Option Nat) (n : Nat) : (Fr rb).room n := fun _ h => by cases h
/-- whose code a call runs: a function's; a round's -/
inductive Tg where
  | fn (f : FuncId)
  | yield (lp : Nat)
def OpOk (P : Program) (A : Ass) (B N : Nat) (o : Oper) (T : Sl) (H : Mem) (n : Nat) (v : AV) (H1 : Mem) (n1 : Nat) : Prop :=
  n ≤ n1 ∧ ∀ (ρ : Val) (μ : Names) (a : Act) (w : World), (A.has ρ) → TRel ρ μ N T a → R ρ μ B H w → B ≤ w.heap.size → (∀ i, n ≤ i → i < n1 → μ.get i = none) →
    ∀ (rb : Option Nat) (K : Act → World → Prop) (Q : Exit → Act → World → Prop), (∀ x μ1 w1, rel ρ μ1 v x → Step μ μ1 n n1 → R ρ μ1 B H1 w1 → Below B w w1 → K (a.put o.dst x) w1) → o.wpIn (Fr rb) 0 P a w K Q
def CallOk (P : Program) (A : Ass) (B : Nat) (call : Tg → List AV → AM) : Prop :=
  ∀ tg args H n acc out H1 n1 l, (call tg args).run H n acc = some (out, H1, n1, l) → n ≤ n1 ∧
    ∀ (ρ : Val) (μ : Names) (xs : List Value) (w : World), (A.has ρ) → relL ρ μ args xs → R ρ μ B H w → B ≤ w.heap.size → (∀ i, n ≤ i → i < n1 → μ.get i = none) →
      match tg with
      | .fn f => Calls P f xs.toArray w fun e w1 => ∃ x μ1, e = .returned x ∧ rel ρ μ1 out.v x ∧ Step μ μ1 n n1 ∧ R ρ μ1 B H1 w1 ∧ Below B w w1
      | .yield lp => ∀ b, μ.get lp = some (.obj b) → ∃ fn tmps assign body, (Instr.yield b xs.toArray).run P w = .ok (.round b fn tmps assign body) w ∧
          RoundIn Fence.wide 0 P b fn tmps assign body w fun e w1 => ∃ x μ1, e = .returned x ∧ rel ρ μ1 out.v x ∧ Step μ μ1 n n1 ∧ R ρ μ1 B H1 w1 ∧ Below B w w1
section
variable (P : Program) (A : Ass) (call : Tg → List AV → AM)
def aLoad (t : TypeId) (p : AV) (k : AV → AM) : AM :=
  match p, P.underlying t with
  | .ptr id off, some d => bif rowDesc d then loadN id (P.cellsOf t) off (fun l => k (.agg l)) else .load id off k
  | _, _ => .fail 1
def aStore (t : TypeId) (p v : AV) (k : AM) : AM :=
  match p, v.cells, P.underlying t with
  | .ptr id off, some l, some _ => bif Nat.beq l.length (P.cellsOf t) && allOne l then storeN id l off k else .fail 2
  | _, _, _ => .fail 2
def zeroOf (t : TypeId) : Option (List AV) :=
  match P.info? t with
  | some i => match i.zero with
    | some z => match ofV z with
      | some a => match a.cells with
        | some l => bif allOne l then some l else none
        | none => none
      | none => none
    | none => none
  | none => none
theorem zeroOf_run {t : TypeId} {l : List AV} (h : zeroOf P t = some l) (ρ : Val) (μ : Names) (w : World) : ∃ z, (zeroValue t).run P w = .ok z w ∧ relL ρ μ l z.cells.toList ∧ allOne l = true := by
  unfold zeroOf at h
  cases hi : P.info? t with
  | none => simp [hi] at h
  | some i =>
    cases hz : i.zero with
    | none => simp [hi, hz] at h
    | some z =>
      cases ha : ofV z with
      | none => simp [hi, hz, ha] at h
      | some a =>
        cases hc : a.cells with
        | none => simp [hi, hz, ha, hc] at h
        | some m =>
          cases h1 : allOne m with
          | false => simp [hi, hz, ha, hc, h1] at h
          | true =>
            simp [hi, hz, ha, hc, h1] at h
            subst h
            exact ⟨z, by simp [zeroValue, Sem.run_bind, run_typeInfo w hi, hz], cells_rel hc (ofV_rel ha), h1⟩
variable {P A call}
theorem sem_plain {o : Oper} {a : Act} {w w1 : World} {x : Next} (rb : Option Nat) (h : (execOp a.eval o).run P w = .ok x w1) (hx : ∀ d, x ≠ .defer d) : (o.semAt rb a.eval).run P w = .ok x w1 := by
  rw [Oper.semAt_eq rb a.eval o]
  · exact h
  · intro c hc
    unfold execOp at h
    rw [hc] at h
    cases hr : (resolve a.eval c o.type).run P w with
    | ok d w2 =>
      simp only [Sem.run_bind, hr, Result.andThen_ok, Sem.run_pure] at h
      injection h with h _
      exact hx d h.symm
    | halt e w2 =>
      simp only [Sem.run_bind, hr] at h
      cases h
theorem wp_value {o : Oper} {a : Act} {w w1 : World} {rb : Option Nat} {K : Act → World → Prop} {Q : Exit → Act → World → Prop} {x : Value} (h : (execOp a.eval o).run P w = .ok (.value x) w1) (g : K (a.put o.dst x) w1) : o.wpIn (Fr rb) 0 P a w K Q := by
  refine ⟨fun _ _ => trivial, ?_⟩
  rw [sem_plain _ h (fun d hd => by cases hd)]; exact g
theorem wp_skip' {o : Oper} {a : Act} {w w1 : World} {rb : Option Nat} {K : Act → World → Prop} {Q : Exit → Act → World → Prop} (h : (execOp a.eval o).run P w = .ok .skip w1) (g : K (a.put o.dst undef) w1) : o.wpIn (Fr rb) 0 P a w K Q := by
  refine ⟨fun _ _ => trivial, ?_⟩
  rw [sem_plain _ h (fun d hd => by cases hd)]; exact g
theorem run_newVar {t : TypeId} {v : Value} (w : World) : (newVar t v).run P w = .ok ⟨w.heap.size, 0, none⟩ (w.alloc (.cells v.cells t)) := by
  simp [newVar, newRow, Sem.run_bind]
end
end
end Go.Proofs.YtdoegipkfjndbaaGreatDoor.Ev
namespace Go.Proofs.YtdoegipkfjndbaaGreatDoor.Ev
set_option linter.unusedVariables false
set_option linter.unusedSimpArgs false
noncomputable section
open Go.RowKit
section
variable (P : Program)
def aEqF (eq : TypeId → AV → AV → Option SB) (l m : List AV) : List Field → Option SB
  | [] => some (.lit true)
  | f :: fs => bif f.name == "_" then aEqF eq l m fs else match aPart P f.type l f.offset, aPart P f.type m f.offset with
    | some a, some b => match eq f.type a b, aEqF eq l m fs with
      | some s, some r => some (.mkIte s r (.lit false))
      | _, _ => none
    | _, _ => none
def aEqR (eq : TypeId → AV → AV → Option SB) (e : TypeId) (c : Nat) (l m : List AV) : Nat → Nat → Option SB
  | 0, _ => some (.lit true)
  | n + 1, i => match aPart P e l i, aPart P e m i with
    | some a, some b => match eq e a b, aEqR eq e c l m n (i + c) with
      | some s, some r => some (.mkIte s r (.lit false))
      | _, _ => none
    | _, _ => none
def aEqIn : Nat → TypeId → AV → AV → Option SB
  | 0, _, _, _ => none
  | d + 1, t, x, y => match P.underlying t, x, y with
    | some (.struct fs), .agg l, .agg m => bif P.stoodInHeld t then none else aEqF P (aEqIn d) l m fs.toList
    | some (.array n e), .agg l, .agg m => match P.info? e with
      | some _ => aEqR P (aEqIn d) e (P.cellsOf e) l m n 0
      | none => none
    | some (.int _), .int k a, .int k' b => bif k == k' then some (.cm .eql a b) else none
    | some .string, .str a, .str b => some (.lit (eqL a b))
    | some u, x, y => aEq u x y
    | none, _, _ => none
theorem aEqF_run {eq : TypeId → AV → AV → Option SB} {d : Nat} (heq : ∀ t x y s, eq t x y = some s → ∀ (ρ : Val) (μ : Names) (v u : Value) (w : World), rel ρ μ x v → rel ρ μ y u → (Op.equalIn d t v u).run P w = .ok (s.den ρ) w) {l m : List AV} :
    ∀ (fs : List Field) (s : SB), aEqF P eq l m fs = some s → ∀ (ρ : Val) (μ : Names) (xs ys : List Value) (w : World), relL ρ μ l xs → relL ρ μ m ys → (Op.eqFields d xs.toArray ys.toArray fs).run P w = .ok (s.den ρ) w
  | [], s, h, ρ, μ, xs, ys, w, hl, hm => by
    simp only [aEqF, Option.some.injEq] at h
    subst h
    simp [Op.eqFields, SB.den]
  | f :: fs, s, h, ρ, μ, xs, ys, w, hl, hm => by
    simp only [aEqF] at h
    rw [Op.eqFields]
    cases hn : f.name == "_" with
    | true =>
      rw [hn, cond_true] at h
      rw [if_neg (by simpa using hn)]
      exact aEqF_run heq fs s h ρ μ xs ys w hl hm
    | false =>
      rw [hn, cond_false] at h
      rw [if_pos (by simpa using hn)]
      cases ha : aPart P f.type l f.offset with
      | none => simp [ha] at h
      | some a =>
        cases hb : aPart P f.type m f.offset with
        | none => simp [ha, hb] at h
        | some b =>
          simp only [ha, hb] at h
          cases hs : eq f.type a b with
          | none => simp [hs] at h
          | some s1 =>
            cases hr : aEqF P eq l m fs with
            | none => simp [hs, hr] at h
            | some r =>
              simp only [hs, hr, Option.some.injEq] at h
              subst h
              obtain ⟨x, e1, r1⟩ := run_part P ha ρ μ hl w
              obtain ⟨y, e2, r2⟩ := run_part P hb ρ μ hm w
              have e3 := heq _ _ _ _ hs ρ μ x y w r1 r2
              have ih := aEqF_run heq fs r hr ρ μ xs ys w hl hm
              simp only [Sem.run_bind, e1, e2, e3, Result.andThen_ok, SB.mkIte_den]
              cases s1.den ρ with
              | true => simp [ih]
              | false => simp [SB.den]
theorem aEqR_run {eq : TypeId → AV → AV → Option SB} {d : Nat} (heq : ∀ t x y s, eq t x y = some s → ∀ (ρ : Val) (μ : Names) (v u : Value) (w : World), rel ρ μ x v → rel ρ μ y u → (Op.equalIn d t v u).run P w = .ok (s.den ρ) w) {e : TypeId} {c : Nat} {l m : List AV} :
    ∀ (n i : Nat) (s : SB), aEqR P eq e c l m n (i * c) = some s → ∀ (ρ : Val) (μ : Names) (xs ys : List Value) (w : World), relL ρ μ l xs → relL ρ μ m ys → (Op.eqItems d e c xs.toArray ys.toArray (List.range' i n)).run P w = .ok (s.den ρ) w
  | 0, i, s, h, ρ, μ, xs, ys, w, hl, hm => by
    simp only [aEqR, Option.some.injEq] at h
    subst h
    simp [Op.eqItems, SB.den]
  | n + 1, i, s, h, ρ, μ, xs, ys, w, hl, hm => by
    simp only [aEqR] at h
    rw [List.range'_succ, Op.eqItems]
    cases ha : aPart P e l (i * c) with
    | none => simp [ha] at h
    | some a =>
      cases hb : aPart P e m (i * c) with
      | none => simp [ha, hb] at h
      | some b =>
        simp only [ha, hb] at h
        cases hs : eq e a b with
        | none => simp [hs] at h
        | some s1 =>
          cases hr : aEqR P eq e c l m n (i * c + c) with
          | none => simp [hs, hr] at h
          | some r =>
            simp only [hs, hr, Option.some.injEq] at h
            subst h
            obtain ⟨x, e1, r1⟩ := run_part P ha ρ μ hl w
            obtain ⟨y, e2, r2⟩ := run_part P hb ρ μ hm w
            have e3 := heq _ _ _ _ hs ρ μ x y w r1 r2
            have ih := aEqR_run heq n (i + 1) r (by rw [Nat.succ_mul]; exact hr) ρ μ xs ys w hl hm
            simp only [Sem.run_bind, e1, e2, e3, Result.andThen_ok, SB.mkIte_den]
            cases s1.den ρ with
            | true => simp [ih]
            | false => simp [SB.den]
theorem aEqIn_run : ∀ (D e : Nat) (t : TypeId) (x y : AV) (s : SB), aEqIn P D t x y = some s → ∀ (ρ : Val) (μ : Names) (v u : Value) (w : World), rel ρ μ x v → rel ρ μ y u → (Op.equalIn (D + e) t v u).run P w = .ok (s.den ρ) w
  | 0, e, t, x, y, s, h, ρ, μ, v, u, w, hx, hy => by cases h
  | D + 1, e, t, x, y, s, h, ρ, μ, v, u, w, hx, hy => by
    rw [show D + 1 + e = D + e + 1 by omega]
    unfold aEqIn at h
    split at h
    · rename_i fs l m hu
      cases hp : P.stoodInHeld t with
      | true => rw [hp] at h; cases h
      | false =>
        rw [hp, cond_false] at h
        obtain ⟨xs, rfl, hl⟩ := hx
        obtain ⟨ys, rfl, hm⟩ := hy
        have hf : P.fieldsOf t = fs := by simp [Program.fieldsOf, hu]
        rw [run_equalIn_struct w (D + e) t _ _ (by rw [hf]; exact hu) hp, hf]
        exact aEqF_run P (fun t x y s h ρ μ v u w => aEqIn_run D e t x y s h ρ μ v u w) fs.toList s h ρ μ xs ys w hl hm
    · rename_i n e1 l m hu
      obtain ⟨xs, rfl, hl⟩ := hx
      obtain ⟨ys, rfl, hm⟩ := hy
      split at h
      · rename_i ii he
        rw [run_equalIn_array w (D + e) _ _ hu he, List.range_eq_range']
        exact aEqR_run P (fun t x y s h ρ μ v u w => aEqIn_run D e t x y s h ρ μ v u w) n 0 s (by rw [Nat.zero_mul]; exact h) ρ μ xs ys w hl hm
      · cases h
    · rename_i k0 k a k' b hu
      cases hk : (k == k') with
      | false => rw [hk] at h; cases h
      | true =>
        rw [hk, cond_true] at h
        cases h
        have : k = k' := by simpa using hk
        subst this
        simp only [rel] at hx hy
        subst hx hy
        rw [run_equalIn_int w (D + e) t k k0 _ _ hu, SB.cm_den]
        simp [cmpI]
    · rename_i a b hu
      cases h
      obtain ⟨ha, rfl⟩ := hx
      obtain ⟨hb, rfl⟩ := hy
      rw [run_equalIn_string w (D + e) t _ _ hu, bytesOf_toList, bytesOf_toList, eqL_eq ha hb]
      rfl
    · rename_i d hu _ _ _ _
      exact run_eqIn P (D + e) h hu ρ μ hx hy w
    · cases h
def aEqOp (op : BinOp) (t : TypeId) (x y : AV) : Option AV :=
  match op, x, y with
  | .eql, .agg l, .agg m => bif P.eqGuardType P.depth t then none else match aEqIn P 50 t (.agg l) (.agg m) with
    | some s => some (.bool s)
    | none => none
  | .neq, .agg l, .agg m => bif P.eqGuardType P.depth t then none else match aEqIn P 50 t (.agg l) (.agg m) with
    | some s => some (.bool (.nt s))
    | none => none
  | _, _, _ => none
theorem run_eqOp {op : BinOp} {t : TypeId} {x y : Operand} {a b r : AV} (h : aEqOp P op t a b = some r) {ρ : Val} {μ : Names} {v u : Value} (ha : rel ρ μ a v) (hb : rel ρ μ b u) (w : World) :
    ∃ z, ((do eqGuard op t x y v u; binOp op t v u : Sem Value)).run P w = .ok z w ∧ rel ρ μ r z := by
  unfold aEqOp at h
  split at h
  · rename_i l m
    cases hg : P.eqGuardType P.depth t with
    | true => rw [hg] at h; cases h
    | false =>
      rw [hg, cond_false] at h
      cases hs : aEqIn P 50 t (.agg l) (.agg m) with
      | none => rw [hs] at h; cases h
      | some s =>
        rw [hs] at h
        cases h
        have e := aEqIn_run P 50 9950 t _ _ s hs ρ μ v u w ha hb
        obtain ⟨xs, rfl, hl⟩ := ha
        obtain ⟨ys, rfl, hm⟩ := hb
        refine ⟨.bool (s.den ρ), ?_, rfl⟩
        rw [Sem.run_bind, run_eqGuard_agg w .eql t x y _ _ hg, Result.andThen_ok, run_eql_struct, e]
        rfl
  · rename_i l m
    cases hg : P.eqGuardType P.depth t with
    | true => rw [hg] at h; cases h
    | false =>
      rw [hg, cond_false] at h
      cases hs : aEqIn P 50 t (.agg l) (.agg m) with
      | none => rw [hs] at h; cases h
      | some s =>
        rw [hs] at h
        cases h
        have e := aEqIn_run P 50 9950 t _ _ s hs ρ μ v u w ha hb
        obtain ⟨xs, rfl, hl⟩ := ha
        obtain ⟨ys, rfl, hm⟩ := hb
        refine ⟨.bool (!s.den ρ), ?_, by simp only [rel, SB.nt_den]⟩
        rw [Sem.run_bind, run_eqGuard_agg w .neq t x y _ _ hg, Result.andThen_ok, run_neq_struct, e]
        rfl
  · cases h
end
end
end Go.Proofs.YtdoegipkfjndbaaGreatDoor.Ev
namespace Go.Proofs.YtdoegipkfjndbaaGreatDoor.Ev
set_option linter.unusedVariables false
set_option linter.unusedSimpArgs false
noncomputable section
open Go.RowKit
def putL : List AV → Nat → List AV → List AV
  | cs, _, [] => cs
  | cs, off, c :: l => putL (cs.set off c) (off + 1) l
def aFill (place : Nat → Option (Nat × Nat)) : List AV → List (Nat × AV) → Option (List AV)
  | cells, [] => some cells
  | cells, (i, v) :: rest => match place i, v.cells with
    | some (off, size), some l => bif Nat.beq l.length size && Nat.ble (off + size) cells.length then aFill place (putL cells off l) rest else none
    | _, _ => none
def relP (ρ : Val) (μ : Names) : List (Nat × AV) → List (Nat × Value) → Prop
  | [], [] => True
  | (i, a) :: l, (j, v) :: m => i = j ∧ rel ρ μ a v ∧ relP ρ μ l m
  | _, _ => False
theorem relL.set {ρ : Val} {μ : Names} : ∀ {l : List AV} {xs : List Value} (i : Nat) {a : AV} {x : Value}, relL ρ μ l xs → rel ρ μ a x → relL ρ μ (l.set i a) (xs.set i x)
  | [], [], i, _, _, _, _ => by cases i <;> trivial
  | _ :: _, _ :: _, 0, _, _, h, r => ⟨r, h.2⟩
  | _ :: _, _ :: _, i + 1, _, _, h, r => ⟨h.1, relL.set i h.2 r⟩
  | [], _ :: _, _, _, _, p, _ => p.elim
  | _ :: _, [], _, _, _, p, _ => p.elim
theorem putL_rel {ρ : Val} {μ : Names} (off : Nat) : ∀ (l : List AV) (ys : List Value) (j : Nat) (cs : List AV) (xs : List Value), relL ρ μ cs xs → relL ρ μ l ys →
    ∃ zs, (ys.zipIdx j).foldl (fun (cs : Array Value) (p : Value × Nat) => cs.setIfInBounds (off + p.2) p.1) xs.toArray = zs.toArray ∧ relL ρ μ (putL cs (off + j) l) zs
  | [], [], j, cs, xs, h, _ => ⟨xs, rfl, h⟩
  | a :: l, y :: ys, j, cs, xs, h, r => by
    obtain ⟨zs, e, q⟩ := putL_rel off l ys (j + 1) (cs.set (off + j) a) (xs.set (off + j) y) (h.set _ r.1) r.2
    refine ⟨zs, ?_, q⟩
    rw [List.zipIdx_cons, List.foldl_cons, ← e]
    simp
  | [], _ :: _, _, _, _, _, p => p.elim
  | _ :: _, [], _, _, _, _, p => p.elim
theorem aFill_rel {ρ : Val} {μ : Names} (place : Nat → Option (Nat × Nat)) : ∀ (parts : List (Nat × AV)) (vs : List (Nat × Value)) (cells out : List AV) (xs : List Value), aFill place cells parts = some out → relP ρ μ parts vs → relL ρ μ cells xs →
    ∃ ys, Instr.fill place xs.toArray vs = some ys.toArray ∧ relL ρ μ out ys
  | [], [], cells, out, xs, h, _, r => by
    simp only [aFill, Option.some.injEq] at h
    subst h
    exact ⟨xs, rfl, r⟩
  | (i, a) :: rest, (j, v) :: vs, cells, out, xs, h, hp, r => by
    obtain ⟨rfl, ha, hp⟩ := hp
    simp only [aFill] at h
    cases hpl : place i with
    | none => simp [hpl] at h
    | some q =>
      obtain ⟨off, size⟩ := q
      cases hc : a.cells with
      | none => simp [hpl, hc] at h
      | some l =>
        simp only [hpl, hc] at h
        cases hb : (Nat.beq l.length size && Nat.ble (off + size) cells.length) with
        | false => simp [hb] at h
        | true =>
          rw [hb, cond_true] at h
          rw [Bool.and_eq_true, Nat.beq_eq, Nat.ble_eq] at hb
          have rc := cells_rel hc ha
          have e1 : v.cells.size = size := by
            have := rc.length
            rw [← hb.1, this]; simp
          have e2 := r.length
          obtain ⟨zs, q1, q2⟩ := putL_rel off l v.cells.toList 0 cells xs r rc
          obtain ⟨ys, q3, q4⟩ := aFill_rel place rest vs _ out zs h hp q2
          refine ⟨ys, ?_, q4⟩
          simp only [Instr.fill, hpl]
          rw [if_neg (by simp [e1]; omega)]
          rw [← q3, ← q1, ← Array.foldl_toList, Array.toList_zipIdx]
  | [], _ :: _, _, _, _, _, p, _ => p.elim
  | _ :: _, [], _, _, _, _, p, _ => p.elim
def aParts (T : Sl) : List (Nat × Operand) → Option (List (Nat × AV))
  | [] => some []
  | (i, x) :: l => match val T x, aParts T l with
    | some a, some m => some ((i, a) :: m)
    | _, _ => none
theorem aParts_rel {ρ : Val} {μ : Names} {N : Nat} {T : Sl} {a : Act} (hT : TRel ρ μ N T a) : ∀ {l : List (Nat × Operand)} {m : List (Nat × AV)}, aParts T l = some m → relP ρ μ m (l.map fun p => (p.1, a.eval p.2))
  | [], m, h => by simp only [aParts, Option.some.injEq] at h; subst h; trivial
  | (i, x) :: l, m, h => by
    simp only [aParts] at h
    cases hx : val T x with
    | none => simp [hx] at h
    | some v =>
      cases hm : aParts T l with
      | none => simp [hx, hm] at h
      | some m' =>
        simp [hx, hm] at h
        subst h
        exact ⟨rfl, val_rel hT hx, aParts_rel hT hm⟩
section
variable (P : Program)
theorem zeroOf_info {t : TypeId} {l : List AV} (h : zeroOf P t = some l) : ∃ i z, P.info? t = some i ∧ i.zero = some z ∧ allOne l = true ∧ ∀ (ρ : Val) (μ : Names), relL ρ μ l z.cells.toList := by
  unfold zeroOf at h
  cases hi : P.info? t with
  | none => simp [hi] at h
  | some i =>
    cases hz : i.zero with
    | none => simp [hi, hz] at h
    | some z =>
      cases ha : ofV z with
      | none => simp [hi, hz, ha] at h
      | some a =>
        cases hc : a.cells with
        | none => simp [hi, hz, ha, hc] at h
        | some m =>
          cases h1 : allOne m with
          | false => simp [hi, hz, ha, hc, h1] at h
          | true =>
            simp [hi, hz, ha, hc, h1] at h
            subst h
            exact ⟨i, z, rfl, hz, h1, fun ρ μ => cells_rel hc (ofV_rel ha)⟩
def aBuild (t : TypeId) (parts : List (Nat × AV)) : Option (List AV) :=
  match zeroOf P t, P.underlying t with
  | some z, some (.array _ e) => match P.info? e with
    | some ie => aFill (fun i => some (i * ie.size, ie.size)) z parts
    | none => none
  | some z, some (.struct fields) => match fields.toList.mapM (fun f => (P.info? f.type).map fun i => (f.offset, i.size)) with
    | some places => aFill (places.toArray[·]?) z parts
    | none => none
  | _, _ => none
theorem run_aBuild {t : TypeId} {parts : List (Nat × AV)} {l : List AV} (h : aBuild P t parts = some l) {ρ : Val} {μ : Names} {vs : Array (Nat × Value)} (hp : relP ρ μ parts vs.toList) (w : World) :
    ∃ ys, (Instr.build t vs).run P w = .ok (.agg ys.toArray) w ∧ relL ρ μ l ys := by
  unfold aBuild at h
  cases hz : zeroOf P t with
  | none => simp [hz] at h
  | some z =>
    obtain ⟨i, zv, hi, hzv, h1, hr⟩ := zeroOf_info P hz
    cases hu : P.underlying t with
    | none => simp [hz, hu] at h
    | some d =>
      cases d <;> simp only [hz, hu, reduceCtorEq] at h
      case array n e =>
        cases hie : P.info? e with
        | none => simp [hie] at h
        | some ie =>
          simp only [hie] at h
          obtain ⟨ys, q1, q2⟩ := aFill_rel _ parts vs.toList z l zv.cells.toList h hp (hr ρ μ)
          refine ⟨ys, run_build w t vs ys.toArray ?_, q2⟩
          rw [Array.toArray_toList] at q1
          simp [Program.built, hi, hu, hzv, hie, q1]
      case struct fields =>
        cases hpl : fields.toList.mapM (fun f => (P.info? f.type).map fun i => (f.offset, i.size)) with
        | none => simp [hpl] at h
        | some places =>
          simp only [hpl] at h
          obtain ⟨ys, q1, q2⟩ := aFill_rel _ parts vs.toList z l zv.cells.toList h hp (hr ρ μ)
          refine ⟨ys, run_build w t vs ys.toArray ?_, q2⟩
          rw [Array.toArray_toList] at q1
          simp only [Program.built, hi, hu, hzv, hpl, q1]
/-- a row of zeros, n elements long -/
def zerosN (z : List AV) : Nat → List AV
  | 0 => []
  | n + 1 => z ++ zerosN z n
theorem zerosN_length (z : List AV) : ∀ n, (zerosN z n).length = n * z.length
  | 0 => by simp [zerosN]
  | n + 1 => by rw [zerosN, List.length_append, zerosN_length z n, Nat.succ_mul]; omega
theorem zeros_rel {ρ : Val} {μ : Names} {z : List AV} {zs : List Value} (h : relL ρ μ z zs) : ∀ n, relL ρ μ (zerosN z n) ((List.replicate n zs).flatten)
  | 0 => trivial
  | n + 1 => by rw [List.replicate_succ, List.flatten_cons]; exact h.append (zeros_rel h n)
theorem zeros_eq (zs : Array Value) (n : Nat) (hz : zs.size ≠ 0) : (Array.range (n * zs.size)).map (zs[· % zs.size]!) = ((List.replicate n zs.toList).flatten).toArray := by
  apply Array.ext'
  simp only [Array.toList_map, Array.toList_range]
  induction n with
  | zero => simp
  | succ n ih =>
    rw [List.replicate_succ', List.flatten_append, ← ih, Nat.succ_mul, List.range_add, List.map_append]
    congr 1
    simp only [List.flatten_cons, List.flatten_nil, List.append_nil, List.map_map]
    apply List.ext_getElem
    · simp
    · intro i h1 h2
      simp at h1
      simp [Nat.mul_add_mod_of_lt h1, Nat.add_mod, Nat.mod_eq_of_lt h1, h1]
def aBuildSlice (t : TypeId) (len : Nat) (parts : List (Nat × AV)) : Option (List AV) :=
  match P.underlying t with
  | some (.slice e) => match P.info? e, zeroOf P e with
    | some ie, some z => bif Nat.beq z.length ie.size && Nat.blt 0 (len * ie.size) && Nat.ble (len * ie.size) 16777216 then
        match aFill (fun i => some (i * ie.size, ie.size)) (zerosN z len) parts with
        | some l => bif allOne l then some l else none
        | none => none
      else none
    | _, _ => none
  | _ => none
theorem run_aBuildSlice {t : TypeId} {len : Nat} {parts : List (Nat × AV)} {l : List AV} (h : aBuildSlice P t len parts = some l) {ρ : Val} {μ : Names} {vs : Array (Nat × Value)} (hp : relP ρ μ parts vs.toList) (w : World) :
    ∃ ys e, (Instr.buildSlice t len vs).run P w = .ok (.slice (some ⟨w.heap.size, 0, none⟩) len len) (w.alloc (.cells ys.toArray e)) ∧ relL ρ μ l ys ∧ allOne l = true := by
  unfold aBuildSlice at h
  split at h
  · rename_i e hu
    split at h
    · rename_i ie z hie hz
      obtain ⟨i, zv, hi, hzv, h1, hr⟩ := zeroOf_info P hz
      rw [hie] at hi
      cases hi
      cases hb : (Nat.beq z.length ie.size && Nat.blt 0 (len * ie.size) && Nat.ble (len * ie.size) 16777216) with
      | false => rw [hb] at h; cases h
      | true =>
        rw [hb, cond_true] at h
        rw [Bool.and_eq_true, Bool.and_eq_true, Nat.beq_eq, blt_iff, Nat.ble_eq] at hb
        split at h
        · rename_i l' hf
          cases ha : allOne l' with
          | false => rw [ha] at h; cases h
          | true =>
            rw [ha, cond_true] at h
            cases h
            have e1 : zv.cells.size = ie.size := by
              have := (hr ρ μ).length
              rw [← hb.1.1, this]; simp
            have hne : zv.cells.size ≠ 0 := by
              intro e0
              rw [← e1, e0] at hb
              omega
            obtain ⟨ys, q1, q2⟩ := aFill_rel _ parts vs.toList _ l _ hf hp (zeros_rel (hr ρ μ) len)
            refine ⟨ys, e, run_buildSlice w t e len vs ys.toArray ie zv hu hie hzv (by omega) (by omega) ?_, q2, ha⟩
            rw [← q1, ← zeros_eq _ _ hne, e1]
        · cases h
    · cases h
  · cases h
def aMake (t : TypeId) (x y : AV) : Option (List AV × Nat × Nat) :=
  match P.underlying t, x, y with
  | some (.slice e), .int _ (.lit l), .int _ (.lit c) => match P.info? e, zeroOf P e with
    | some ie, some z => bif Nat.beq z.length ie.size && Nat.blt 0 ie.size && !ltF l 0 && !ltF c l && Nat.ble (c.toNat * ie.size) 16777216 && Nat.ble (ie.bytes * c.toNat) 16777216 then some (zerosN z c.toNat, l.toNat, c.toNat) else none
    | _, _ => none
  | _, _, _ => none
theorem run_aMake {t : TypeId} {x y : AV} {l : List AV} {m n : Nat} (h : aMake P t x y = some (l, m, n)) {ρ : Val} {μ : Names} {v u : Value} (hx : rel ρ μ x v) (hy : rel ρ μ y u) (w : World) :
    ∃ ys e, (Instr.makeSlice t v u).run P w = .ok (.slice (some ⟨w.heap.size, 0, none⟩) m n) (w.alloc (.cells ys.toArray e)) ∧ relL ρ μ l ys ∧ ∀ x ∈ ys, x.oneCell' = true := by
  unfold aMake at h
  split at h
  · rename_i e kl l' kc c hu
    split at h
    · rename_i ie z hie hz
      obtain ⟨i, zv, hi, hzv, h1, hr⟩ := zeroOf_info P hz
      rw [hie] at hi
      cases hi
      cases hb : (Nat.beq z.length ie.size && Nat.blt 0 ie.size && !ltF l' 0 && !ltF c l' && Nat.ble (c.toNat * ie.size) 16777216 && Nat.ble (ie.bytes * c.toNat) 16777216) with
      | false => rw [hb] at h; cases h
      | true =>
        rw [hb, cond_true] at h
        simp only [Option.some.injEq, Prod.mk.injEq] at h
        obtain ⟨rfl, rfl, rfl⟩ := h
        simp only [Bool.and_eq_true, Nat.beq_eq, blt_iff, Nat.ble_eq, ltF_eq, Bool.not_eq_true', decide_eq_false_iff_not, Int.not_lt] at hb
        obtain ⟨⟨⟨⟨⟨b1, b2⟩, b3⟩, b4⟩, b5⟩, b6⟩ := hb
        simp only [rel, SI.den] at hx hy
        subst hx hy
        have e1 : zv.cells.size = ie.size := by
          have := (hr ρ μ).length
          rw [← b1, this]; simp
        have hc : ((c.toNat : Nat) : Int) = c := Int.toNat_of_nonneg (by omega)
        have hbytes : (ie.bytes : Int) * c ≤ 281474976710656 := by
          rw [← hc, ← Int.natCast_mul]
          omega
        refine ⟨((List.replicate c.toNat zv.cells.toList).flatten), e, ?_, zeros_rel (hr ρ μ) _, fun x hx => ?_⟩
        · rw [run_makeSlice w t e ie zv hu hie hzv kl kc l' c b3 b4 b5 hbytes (by have : c.toNat * 1 ≤ c.toNat * ie.size := Nat.mul_le_mul_left _ b2; omega)]
          rw [← zeros_eq _ _ (by omega), madeCells, ← e1]
        · rw [List.mem_flatten] at hx
          obtain ⟨ys, hy, hx⟩ := hx
          rw [List.mem_replicate] at hy
          rw [hy.2] at hx
          exact allOne_rel h1 (hr ρ μ) x hx
    · cases h
  · cases h
def opCode : Op → Nat
  | .ready _ => 901
  | .waits _ => 902
  | .binOp .eql .. => 903
  | .binOp .neq .. => 904
  | .binOp .. => 905
  | .unOp .. => 906
  | .convert .. => 907
  | .makeInterface .. => 908
  | .makeFunc .. => 909
  | .makeMap .. => 910
  | .makeSlice .. => 911
  | .slice .. => 912
  | .fieldAddr .. => 913
  | .field .. => 914
  | .indexAddr .. => 915
  | .index .. => 916
  | .lookup .. => 917
  | .mapUpdate .. => 918
  | .mapEntry .. => 919
  | .entryStore .. => 920
  | .range .. => 921
  | .next .. => 922
  | .entry .. => 923
  | .typeAssert .. => 924
  | .extract .. => 925
  | .defer .. => 926
  | .panic .. => 927
  | .nilCheck .. => 928
  | .move .. => 929
  | .assign .. => 930
  | .pick .. => 931
  | .insert .. => 932
  | _ => 999
def aMore (A : Ass) (T : Sl) (o : Oper) (k : AV → AM) : AM :=
  match o.op with
  | .build t parts => match aParts T parts.toList with
    | some ps => match aBuild P t ps with
      | some l => k (.agg l)
      | none => .fail 60
    | none => .fail 61
  | .buildSlice t len parts => match aParts T parts.toList with
    | some ps => match aBuildSlice P t len ps with
      | some l => .alloc l fun i => k (.slice i 0 len len)
      | none => .fail 62
    | none => .fail 63
  | .makeSlice t x y => match val T x, val T y with
    | some a, some b => match aMake P t a b with
      | some (l, m, c) => .alloc l fun i => k (.slice i 0 m c)
      | none => .fail 65
    | _, _ => .fail 66
  | .binOp op t x y _ => match val T x, val T y with
    | some a, some b => match aEqOp P op t a b with
      | some v => k v
      | none => .fail 903
    | _, _ => .fail 64
  | op => .fail (opCode op)
end
section
variable {P : Program} {A : Ass}
theorem aMore_run {B N : Nat} {T : Sl} {o : Oper} {k : AV → AM} {H : Mem} {n : Nat} {acc : List Tok} {r : Out × Mem × Nat × List Tok} (h : (aMore P A T o k).run H n acc = some r) :
    ∃ v H1 n1 acc1, (k v).run H1 n1 acc1 = some r ∧ OpOk P A B N o T H n v H1 n1 := by
  unfold aMore at h
  split at h
  · rename_i t parts ho
    split at h
    · rename_i ps hps
      split at h
      · rename_i l hl
        refine ⟨.agg l, H, n, acc, h, Nat.le_refl _, fun ρ μ a w hA hT hR hB hf rb K Q hK => ?_⟩
        have hp := aParts_rel hT hps
        obtain ⟨ys, e1, e2⟩ := run_aBuild P hl (vs := parts.map fun p => (p.1, a.eval p.2)) (by simpa using hp) w
        refine wp_value (x := .agg ys.toArray) (w1 := w) ?_ (hK _ μ w ⟨ys, rfl, e2⟩ (Step.refl _ _ _) hR (Below.refl _ _))
        unfold execOp
        rw [ho]
        simp only [Sem.run_bind]
        rw [e1]
        rfl
      · cases h
    · cases h
  · rename_i t len parts ho
    split at h
    · rename_i ps hps
      split at h
      · rename_i l hl
        simp only [AM.run_ret, AM.run_fail, AM.run_load, AM.run_store, AM.run_alloc, AM.run_sub, AM.run_call, AM.run_here, AM.run_drop, AM.run_renew] at h
        refine ⟨.slice n 0 len len, H.new n l, n + 1, acc, h, by omega, fun ρ μ a w hA hT hR hB hf rb K Q hK => ?_⟩
        have hp := aParts_rel hT hps
        obtain ⟨ys, e, e1, e2, e3⟩ := run_aBuildSlice P hl (vs := parts.map fun p => (p.1, a.eval p.2)) (by simpa using hp) w
        have hn : μ.get n = none := hf n (Nat.le_refl _) (by omega)
        have hR2 := hR.alloc hB hn e2 (allOne_rel e3 e2) e []
        simp only [List.append_nil] at hR2
        refine wp_value (x := .slice (some ⟨w.heap.size, 0, none⟩) len len) (w1 := w.alloc (.cells ys.toArray e)) ?_ (hK _ (μ.add n (.cells w.heap.size 0)) _ ⟨w.heap.size, 0, Names.cell_of (Names.add_new _ _ _) rfl, rfl⟩ ⟨Names.le_add hn _, fun i hi => Names.add_ne _ _ (by omega)⟩ hR2 ((Below.refl _ _).alloc hB _))
        unfold execOp
        rw [ho]
        simp only [Sem.run_bind]
        rw [e1]
        rfl
      · cases h
    · cases h
  · rename_i t x y ho
    split at h
    · rename_i p q hx hy
      split at h
      · rename_i l m c hl
        simp only [AM.run_ret, AM.run_fail, AM.run_load, AM.run_store, AM.run_alloc, AM.run_sub, AM.run_call, AM.run_here, AM.run_drop, AM.run_renew] at h
        refine ⟨.slice n 0 m c, H.new n l, n + 1, acc, h, by omega, fun ρ μ a w hA hT hR hB hf rb K Q hK => ?_⟩
        obtain ⟨ys, e, e1, e2, e3⟩ := run_aMake P hl (val_rel hT hx) (val_rel hT hy) w
        have hn : μ.get n = none := hf n (Nat.le_refl _) (by omega)
        have hR2 := hR.alloc hB hn e2 e3 e []
        simp only [List.append_nil] at hR2
        refine wp_value (x := .slice (some ⟨w.heap.size, 0, none⟩) m c) (w1 := w.alloc (.cells ys.toArray e)) ?_ (hK _ (μ.add n (.cells w.heap.size 0)) _ ⟨w.heap.size, 0, Names.cell_of (Names.add_new _ _ _) rfl, rfl⟩ ⟨Names.le_add hn _, fun i hi => Names.add_ne _ _ (by omega)⟩ hR2 ((Below.refl _ _).alloc hB _))
        unfold execOp
        rw [ho]
        simp only [Sem.run_bind]
        rw [e1]
        rfl
      · cases h
    · cases h
  · rename_i op t x y ty ho
    split at h
    · rename_i p q hx hy
      split at h
      · rename_i v hv
        refine ⟨v, H, n, acc, h, Nat.le_refl _, fun ρ μ a w hA hT hR hB hf rb K Q hK => ?_⟩
        obtain ⟨z, e1, e2⟩ := run_eqOp P (x := x) (y := y) hv (val_rel hT hx) (val_rel hT hy) w
        refine wp_value (x := z) (w1 := w) ?_ (hK _ μ w e2 (Step.refl _ _ _) hR (Below.refl _ _))
        unfold execOp
        rw [ho]
        simp only [Sem.run_bind] at e1 ⊢
        rw [e1]
        rfl
      · cases h
    · cases h
  · cases h
end
end
end Go.Proofs.YtdoegipkfjndbaaGreatDoor.Ev
namespace Go.Proofs.YtdoegipkfjndbaaGreatDoor.Ev
set_option linter.unusedVariables false
set_option linter.unusedSimpArgs false
noncomputable section
open Go.RowKit
section
variable {P : Program}
theorem R.cells1 {ρ : Val} {μ : Names} {B : Nat} {H : Mem} {w : World} (h : R ρ μ B H w) {id b f : Nat} (hm : μ id = some (b, f)) : ∀ (l : List AV) (off : Nat), (∀ j v, l[j]? = some v → H.at id (off + j) = some v) →
    ∃ xs, relL ρ μ l xs ∧ (∀ j x, xs[j]? = some x → w.cell? ((⟨b, f + off, none⟩ : Addr).add j) = some x) ∧ ∀ x ∈ xs, x.oneCell' = true
  | [], _, _ => ⟨[], trivial, fun j x e => by simp at e, fun x hx => by cases hx⟩
  | v :: l, off, g => by
    obtain ⟨x, h1, h2, h3⟩ := h.load (g 0 v rfl) hm
    obtain ⟨xs, p, q, s⟩ := R.cells1 h hm l (off + 1) (fun j u e => by have := g (j + 1) u (by simpa using e); rwa [show off + (j + 1) = off + 1 + j by omega] at this)
    refine ⟨x :: xs, ⟨h2, p⟩, fun j y e => ?_, fun y hy => ?_⟩
    · cases j with
      | zero => simp at e; subst e; rw [add_at]; simpa using h1
      | succ j =>
        have := q j y (by simpa using e)
        rw [add_at] at this ⊢
        rwa [show f + (off + 1) + j = f + off + (j + 1) by omega] at this
    · cases hy with
      | head => exact h3
      | tail _ hy => exact s y hy
/-! ### what is copied, appended -/
def strCells : List Nat → List AV
  | [] => []
  | b :: l => .int .u8 (.lit (.ofNat b)) :: strCells l
theorem strCells_rel {ρ : Val} {μ : Names} : ∀ {l : List Nat}, small l → relL ρ μ (strCells l) ((l.map UInt8.ofNat).map fun b => .int .u8 b.toNat)
  | [], _ => trivial
  | b :: l, h => by
    have h1 := small_cons h
    refine ⟨?_, strCells_rel h1.2⟩
    simp only [rel, SI.den]
    congr 1
    simp
    omega
theorem strCells_length : ∀ (l : List Nat), (strCells l).length = l.length
  | [] => rfl
  | _ :: l => by simp [strCells, strCells_length l]
def aLenS : AV → Option Nat
  | .nilSlice => some 0
  | .emptyS => some 0
  | .slice _ _ n _ => some n
  | .rowS _ _ n _ => some n
  | .str l => some l.length
  | _ => none
theorem aLenS_run {x : AV} {n : Nat} (h : aLenS x = some n) {ρ : Val} {μ : Names} {v : Value} (hr : rel ρ μ x v) (w : World) : (Builtin.lenOf v).run P w = .ok n w := by
  cases x <;> simp only [aLenS, Option.some.injEq, reduceCtorEq] at h <;> subst h
  case nilSlice => simp only [rel] at hr; subst hr; rfl
  case emptyS => obtain ⟨a, c, rfl, _⟩ := hr; rfl
  case slice => obtain ⟨b, f, _, rfl⟩ := hr; rfl
  case rowS => obtain ⟨b, f, N, c, _, rfl, _⟩ := hr; rfl
  case str => obtain ⟨_, rfl⟩ := hr; simp [Builtin.lenOf, bytesOf_size]
def aSrc (size n : Nat) (x : AV) (k : List AV → AM) : AM := match x with
  | .nilSlice => k []
  | .emptyS => bif Nat.beq n 0 then k [] else .fail 70
  | .slice id off _ _ => loadN id (n * size) off k
  | .rowS id off _ _ => loadN id (n * size) off k
  | .str l => k (strCells (l.take n))
  | _ => .fail 70
theorem aSrc_run {size n : Nat} {x : AV} {k : List AV → AM} {H : Mem} {nx : Nat} {acc : List Tok} {r : Out × Mem × Nat × List Tok} (h : (aSrc size n x k).run H nx acc = some r) :
    ∃ l acc1, (k l).run H nx acc1 = some r ∧ ∀ (ρ : Val) (μ : Names) (B : Nat) (w : World) (v : Value), R ρ μ B H w → rel ρ μ x v → ∃ xs, (Builtin.firstCells size n v).run P w = .ok xs.toArray w ∧ relL ρ μ l xs ∧ ∀ y ∈ xs, y.oneCell' = true := by
  unfold aSrc at h
  have row : ∀ {id off : Nat}, (loadN id (n * size) off k).run H nx acc = some r → ∃ l acc1, (k l).run H nx acc1 = some r ∧ ∀ (ρ : Val) (μ : Names) (B : Nat) (w : World) (b f len c : Nat), R ρ μ B H w → μ id = some (b, f) → ∃ xs, (Builtin.firstCells size n (.slice (some ⟨b, f + off, none⟩) len c)).run P w = .ok xs.toArray w ∧ relL ρ μ l xs ∧ ∀ y ∈ xs, y.oneCell' = true := fun {id off} h => by
    obtain ⟨l, acc1, e1, e2, e3⟩ := loadN_run id _ _ _ H nx acc r h
    refine ⟨l, acc1, e1, fun ρ μ B w b f len c hR hm => ?_⟩
    obtain ⟨xs, p, q, s⟩ := hR.cells1 hm l off e3
    exact ⟨xs, run_firstCells_some w size n _ len c xs (by rw [← p.length, e2]) q, p, s⟩
  split at h
  · refine ⟨[], acc, h, fun ρ μ B w v hR hr => ?_⟩
    simp only [rel] at hr
    subst hr
    exact ⟨[], run_firstCells_none w size n 0 0, trivial, fun y hy => by cases hy⟩
  · cases hb : Nat.beq n 0 with
    | false => rw [hb] at h; cases h
    | true =>
      rw [hb, cond_true] at h
      rw [Nat.beq_eq] at hb
      subst hb
      refine ⟨[], acc, h, fun ρ μ B w v hR hr => ?_⟩
      obtain ⟨a, c, rfl, _⟩ := hr
      exact ⟨[], run_firstCells_some w size 0 a 0 c [] (by simp) (fun j v e => by simp at e), trivial, fun y hy => by cases hy⟩
  · obtain ⟨l, acc1, e1, e2⟩ := row h
    refine ⟨l, acc1, e1, fun ρ μ B w v hR hr => ?_⟩
    obtain ⟨b, f, hm, rfl⟩ := hr
    exact e2 ρ μ B w b f _ _ hR hm
  · obtain ⟨l, acc1, e1, e2⟩ := row h
    refine ⟨l, acc1, e1, fun ρ μ B w v hR hr => ?_⟩
    obtain ⟨b, f, N, c, hm, rfl, _⟩ := hr
    exact e2 ρ μ B w b f _ _ hR (Names.cell_of hm rfl)
  · rename_i l
    refine ⟨_, acc, h, fun ρ μ B w v hR hr => ?_⟩
    obtain ⟨hl, rfl⟩ := hr
    refine ⟨((l.take n).map UInt8.ofNat).map fun b => .int .u8 b.toNat, ?_, strCells_rel fun b hb => hl b (List.mem_of_mem_take hb), fun y hy => ?_⟩
    · simp only [Builtin.firstCells, Sem.run_pure]
      congr 1
      apply Array.ext'
      simp [bytesOf, ByteArray.data_extract, List.extract_toArray, List.extract_eq_take_drop]
    · rw [List.mem_map] at hy
      obtain ⟨_, _, rfl⟩ := hy
      rfl
  · cases h
/-- cells are written that are there -/
theorem run_storeFree {B b : Nat} (hB : B ≤ b) : ∀ (xs : List Value) (o i : Nat) (w : World), (∀ j, j < xs.length → (∃ x, w.cell? ⟨b, o + i + j, none⟩ = some x) ∧ w.frozen? ⟨b, o + i + j, none⟩ = false) → (∀ x ∈ xs, x.oneCell' = true) →
    ∃ w1, (storeCells ⟨b, o, none⟩ xs i).run P w = .ok () w1 ∧ (∀ j x, xs[j]? = some x → w1.cell? ⟨b, o + i + j, none⟩ = some x) ∧ (∀ p : Addr, (p.block = b → p.off < o + i) → w1.cell? p = w.cell? p) ∧
      (∀ p x, w.cell? p = some x → ∃ y, w1.cell? p = some y) ∧ (∀ p, w1.frozen? p = w.frozen? p) ∧ (∀ k, k ≠ b → w1.heap[k]? = w.heap[k]?) ∧ w1.heap.size = w.heap.size ∧ Below B w w1 ∧ ∀ k, Frz w k → Frz w1 k
  | [], o, i, w, _, _ => ⟨w, rfl, fun j x e => by simp at e, fun _ _ => rfl, fun p x e => ⟨x, e⟩, fun _ => rfl, fun _ _ => rfl, rfl, Below.refl _ _, fun _ h => h⟩
  | x :: xs, o, i, w, h, h1 => by
    obtain ⟨⟨y, hy⟩, hf⟩ := h 0 (by simp)
    rw [Nat.add_zero] at hy hf
    have hst : (store ((⟨b, o, none⟩ : Addr).add i) x).run P w = .ok () (w.setCell ⟨b, o + i, none⟩ x) := by
      rw [add_at, run_store P w _ x _ (h1 x (by simp)), hy]
      simp [hf]
    obtain ⟨w1, e, a1, a2, a3, a4, a5, a6, a7, a8⟩ := run_storeFree hB xs o (i + 1) (w.setCell ⟨b, o + i, none⟩ x) (fun j hj => by
      obtain ⟨⟨z, hz⟩, hf2⟩ := h (j + 1) (by simp; omega)
      rw [show o + (i + 1) + j = o + i + (j + 1) by omega]
      exact ⟨cell_setCell_some hz, by rw [frozen_setCell]; exact hf2⟩) (fun z hz => h1 z (by simp [hz]))
    refine ⟨w1, by simp only [storeCells, Sem.run_bind, hst, Result.andThen_ok]; exact e, fun j z hz => ?_, fun p hp => ?_, fun p z hz => ?_, fun p => by rw [a4, frozen_setCell], fun k hk => by rw [a5 k hk, Below.heap_setCell _ _ _ _ hk], by rw [a6]; simp [World.setCell], ((Below.refl B w).setCell hB x).trans a7, fun k hk => a8 k (hk.setCell _ _)⟩
    · cases j with
      | zero =>
        simp at hz
        subst hz
        rw [a2 _ (fun _ => by show o + i + 0 < _; omega)]
        exact World.cell?_setCell_same _ _ _ hy
      | succ j =>
        have := a1 j z (by simpa using hz)
        rwa [show o + (i + 1) + j = o + i + (j + 1) by omega] at this
    · rw [a2 p (fun hb => by have := hp hb; omega), World.cell?_setCell_other]
      intro e
      have h2 : p.block = b ∧ p.off = o + i := by rw [← e]; exact ⟨rfl, rfl⟩
      have := hp h2.1
      omega
    · obtain ⟨u, hu⟩ := cell_setCell_some (p := ⟨b, o + i, none⟩) (u := x) hz
      exact a3 p u hu
end
end
end Go.Proofs.YtdoegipkfjndbaaGreatDoor.Ev
namespace Go.Proofs.YtdoegipkfjndbaaGreatDoor.Ev
set_option linter.unusedVariables false
set_option linter.unusedSimpArgs false
noncomputable section
open Go.RowKit
def rowStr : TypeDesc → Bool
  | .slice _ | .string => true
  | _ => false
theorem rowStr_cases {d : TypeDesc} (h : rowStr d = true) : (∃ e, d = .slice e) ∨ d = .string := by
  cases d <;> first | exact .inl ⟨_, rfl⟩ | exact .inr rfl | cases h
section
variable {P : Program}
/-- what append's second argument hands over: a row's cells, or a number of zeros ('append(x, make([]T, n)...)') -/
def AppSrc (P : Program) (u e : TypeId) (size m : Nat) (x : Value) (news : List Value) (w : World) : Prop :=
  (∃ d, P.underlying u = some d ∧ rowStr d = true ∧ (∀ w, (Builtin.lenOf x).run P w = .ok m w) ∧ (Builtin.firstCells size m x).run P w = .ok news.toArray w) ∨
  (∃ k k' i z, P.underlying u = some (.int k) ∧ x = .int k' (m : Int) ∧ P.info? e = some i ∧ i.zero = some z ∧ i.size = size ∧ z.cells.size = size ∧ news = (Builtin.zeroCells z.cells m).toList ∧ m * i.bytes ≤ 140737488355328 ∧ m ≤ 4611686018427387904)
theorem zeroCells_none (z : Array Value) (m : Nat) (h : m * z.size = 0) : Builtin.zeroCells z m = #[] := by simp [Builtin.zeroCells, h]
theorem wrap63 (m : Nat) (h : m ≤ 4611686018427387904) : IntKind.i64.wrap (m : Int) = m := by rw [IntKind.wrap_i64]; omega
theorem run_asInt (k : IntKind) (n : Int) (w : World) : (asInt (.int k n)).run P w = .ok n w := by simp [asInt, asIntOf]
/-- append, where there is no room -/
theorem run_append_big (t u ty e : TypeId) (i : TypeInfo) (z : Value) (ht : P.underlying t = some (.slice e)) (hi : P.info? e = some i) (hz : i.zero = some z)
    (base : Option Addr) (n c : Nat) (x : Value) (m : Nat) (w : World) (olds news : List Value)
    (ho : (Builtin.firstCells i.size n (.slice base n c)).run P w.drew = .ok olds.toArray w.drew) (hw : AppSrc P u e i.size m x news w.drew)
    (hg : c < n + m) (h63 : n + m ≤ 4611686018427387904) (hfit : (n + m) * i.bytes ≤ 140737488355328) :
    (Builtin.append_ #[t, u] ty #[.slice base n c, x]).run P w =
      .ok (.slice (some ⟨w.heap.size, 0, none⟩) (n + m) (grownCap w (n + m) c e))
        (w.drew.alloc (.cells (olds ++ news ++ (Builtin.zeroCells z.cells (grownCap w (n + m) c e - (n + m))).toList).toArray e)) := by
  have hn : ¬ (n + m ≤ c) := by omega
  have h63' : ¬ (9223372036854775807 < ((n : Int) + (m : Int))) := by omega
  have h48' : ¬ (281474976710656 < Builtin.nextslicecap (n + m) c * i.bytes) := by have := growslice_fits hg hfit; omega
  rcases hw with ⟨d, hu, hd, hm, hw⟩ | ⟨k, k', i', z', hu, rfl, hi', hz', _, hzs, rfl, hb, hm6⟩
  · rcases rowStr_cases hd with ⟨e', rfl⟩ | rfl
    all_goals
      simp [Builtin.append_, run_underlying ht, run_underlying hu, sizeOf, typeInfo, zeroValue, hi, hz, hm, hn, h63', h48', Question.forced, ho, hw, newRow, grownCap]
      congr 2
      apply Array.ext'
      simp [List.append_assoc]
  · rw [hi] at hi'
    obtain rfl := Option.some.inj hi'
    rw [hz] at hz'
    obtain rfl := Option.some.inj hz'
    have hneg : ¬ ((m : Int) < 0) := by omega
    have hb' : ¬ (281474976710656 < (m : Int) * (i.bytes : Int)) := by rw [← Int.natCast_mul]; omega
    have hz0 : m * i.size = 0 → Builtin.zeroCells z.cells m = #[] := fun h => zeroCells_none _ _ (by rw [hzs]; exact h)
    by_cases h0 : m * i.size = 0
    · simp [Builtin.append_, run_underlying ht, run_underlying hu, sizeOf, typeInfo, zeroValue, hi, hz, hn, h63', h48', Question.forced, ho, newRow, grownCap, run_asInt, wrap63 m hm6, hneg, hb', h0, hz0 h0]
      congr 2
      apply Array.ext'
      simp [List.append_assoc]
    · simp [Builtin.append_, run_underlying ht, run_underlying hu, sizeOf, typeInfo, zeroValue, hi, hz, hn, h63', h48', Question.forced, ho, newRow, grownCap, run_asInt, wrap63 m hm6, hneg, hb', h0]
      congr 2
      apply Array.ext'
      simp [List.append_assoc]
/-- append, where there is room -/
theorem run_append_small (t u ty e : TypeId) (i : TypeInfo) (ht : P.underlying t = some (.slice e)) (hi : P.info? e = some i)
    (a : Addr) (n c : Nat) (x : Value) (m : Nat) (w w1 : World) (news : List Value)
    (hw : AppSrc P u e i.size m x news w) (hg : n + m ≤ c) (hs : (storeCells (a.add (n * i.size)) news 0).run P w = .ok () w1) :
    (Builtin.append_ #[t, u] ty #[.slice (some a) n c, x]).run P w = .ok (.slice (some a) (n + m) c) w1 := by
  rcases hw with ⟨d, hu, hd, hm, hw⟩ | ⟨k, k', i', z', hu, rfl, hi', hz', _, hzs, rfl, hb, hm6⟩
  · rcases rowStr_cases hd with ⟨e', rfl⟩ | rfl
    all_goals simp [Builtin.append_, run_underlying ht, run_underlying hu, sizeOf, typeInfo, hi, hm, hg, hw, hs]
  · rw [hi] at hi'
    obtain rfl := Option.some.inj hi'
    have hneg : ¬ ((m : Int) < 0) := by omega
    have hb' : ¬ (281474976710656 < (m : Int) * (i.bytes : Int)) := by rw [← Int.natCast_mul]; omega
    have hz0 : m * i.size = 0 → Builtin.zeroCells z'.cells m = #[] := fun h => zeroCells_none _ _ (by rw [hzs]; exact h)
    by_cases h0 : m * i.size = 0
    · rw [hz0 h0] at hs
      simp [Builtin.append_, run_underlying ht, run_underlying hu, sizeOf, typeInfo, zeroValue, hi, hz', hg, hs, run_asInt, wrap63 m hm6, hneg, hb', h0]
    · simp [Builtin.append_, run_underlying ht, run_underlying hu, sizeOf, typeInfo, zeroValue, hi, hz', hg, hs, run_asInt, wrap63 m hm6, hneg, hb', h0]
theorem run_append_none (t u ty e : TypeId) (i : TypeInfo) (ht : P.underlying t = some (.slice e)) (hi : P.info? e = some i)
    (x : Value) (w : World) (news : List Value)
    (hw : AppSrc P u e i.size 0 x news w) :
    (Builtin.append_ #[t, u] ty #[.slice none 0 0, x]).run P w = .ok (.slice none 0 0) w := by
  rcases hw with ⟨d, hu, hd, hm, hw⟩ | ⟨k, k', i', z', hu, rfl, hi', hz', _, hzs, rfl, hb, hm6⟩
  · rcases rowStr_cases hd with ⟨e', rfl⟩ | rfl
    all_goals simp [Builtin.append_, run_underlying ht, run_underlying hu, sizeOf, typeInfo, hi, hm, hw]
  · have h0 : IntKind.i64.wrap 0 = 0 := wrap63 0 (by omega)
    simp [Builtin.append_, run_underlying ht, run_underlying hu, sizeOf, typeInfo, zeroValue, hi, run_asInt, h0]
/-- the new row, where there is no room -/
theorem R.grown {ρ : Val} {μ : Names} {B : Nat} {H : Mem} {w : World} (h : R ρ μ B H w) (hB : B ≤ w.heap.size) {n1 : Nat} (hn : μ.get n1 = none) {old news : List AV} {olds newss : List Value} (ro : relL ρ μ old olds) (rn : relL ρ μ news newss)
    (o1 : ∀ x ∈ olds, x.oneCell' = true) (n1' : ∀ x ∈ newss, x.oneCell' = true) {size need c : Nat} (e : TypeId) (z : Array Value) (hz : z.size = size) (hl : (olds ++ newss).length = need * size) (hm : need ≤ maxLen) :
    ∃ p, R ρ (μ.add n1 p) B (H.new n1 (old ++ news)) (w.drew.alloc (.cells (olds ++ newss ++ (Builtin.zeroCells z (grownCap w need c e - need)).toList).toArray e)) ∧
      rel ρ (μ.add n1 p) (.rowS n1 0 need size) (.slice (some ⟨w.heap.size, 0, none⟩) need (grownCap w need c e)) := by
  have hge := grownCap_ge w need c e
  have hlen : (olds ++ newss ++ (Builtin.zeroCells z (grownCap w need c e - need)).toList).length = grownCap w need c e * size := by
    rw [List.length_append, hl]
    simp only [Array.length_toList, size_zeroCells, hz]
    rw [← Nat.add_mul]
    congr 1
    omega
  refine ⟨.row w.heap.size 0 (grownCap w need c e * size), ?_, ⟨w.heap.size, 0, _, grownCap w need c e, Names.add_new _ _ _, rfl, by simp, hge, grownCap_le_maxLen w need c e hm⟩⟩
  have hR := h.drew.allocAt (w := w.drew) hB hn (ro.append rn) (fun x hx => (List.mem_append.1 hx).elim (o1 x) (n1' x)) e (Builtin.zeroCells z (grownCap w need c e - need)).toList (.row w.heap.size 0 (grownCap w need c e * size)) (.inr ⟨_, rfl, by rw [hlen]; exact Nat.le_refl _⟩)
  exact hR
/-- append to a row whose capacity is not known -/
theorem append_row {ρ : Val} {μ : Names} {B : Nat} {H : Mem} {w : World} (hR : R ρ μ B H w) (hB : B ≤ w.heap.size) {id off n size m : Nat} {v x : Value} (hv : rel ρ μ (.rowS id off n size) v) (hlive : (H.at id 0).isSome = true)
    {old news : List AV} (h8 : (∃ o u, H.at id o = some u ∧ u.isU8 = false) ∨ ∀ (j : Nat) (u : AV), news[j]? = some u → u.isU8 = true) (hol : old.length = n * size) (hold : ∀ j a, old[j]? = some a → H.at id (off + j) = some a) (hnl : news.length = m * size)
    {n1 : Nat} (hn : μ.get n1 = none) (t u ty e : TypeId) (i : TypeInfo) (z : Value) (ht : P.underlying t = some (.slice e)) (hi : P.info? e = some i) (hz : i.zero = some z)
    (hsz : i.size = size) (hzs : z.cells.size = size) (hx : ∀ w, R ρ μ B H w → ∃ newss, AppSrc P u e i.size m x newss w ∧ relL ρ μ news newss ∧ ∀ y ∈ newss, y.oneCell' = true)
    (h63 : n + m ≤ 4611686018427387904) (hfit : (n + m) * i.bytes ≤ 140737488355328) :
    ∃ v' w' p, (Builtin.append_ #[t, u] ty #[v, x]).run P w = .ok v' w' ∧ rel ρ (μ.add n1 p) (.rowS n1 0 (n + m) size) v' ∧ R ρ (μ.add n1 p) B ((H.drop id).new n1 (old ++ news)) w' ∧ Below B w w' := by
  subst hsz
  obtain ⟨b, f, N, c, hid, rfl, hN, hnc, hcm⟩ := hv
  have hat : μ id = some (b, f) := Names.cell_of hid rfl
  have hne : n1 ≠ id := fun e => by subst e; rw [hn] at hid; cases hid
  have hdrop : ∀ a o y, (H.drop id).at a o = some y → H.at a o = some y := fun a o y hy => by
    rw [Mem.at_drop] at hy
    split at hy
    · cases hy
    · exact hy
  have hdc : ∀ a o, ((H.drop id).at a (o + 1)).isSome = true → ((H.drop id).at a o).isSome = true := fun a o hs => by
    rw [Mem.at_drop] at hs ⊢
    split at hs
    · cases hs
    · rename_i ha; rw [if_neg ha]; exact hR.cont a o hs
  by_cases hroom : n + m ≤ c
  · -- in place
    obtain ⟨newss, e1, e2, e3⟩ := hx w hR
    have hnl2 : newss.length = m * i.size := by rw [← e2.length, hnl]
    obtain ⟨hfz0, hplace⟩ := hR.place id 0 _ hlive hid
    have hbase : (⟨b, f + off, none⟩ : Addr).add (n * i.size) = ⟨b, f + off + n * i.size, none⟩ := add_at _ _ _
    have hfits : n * i.size + newss.length ≤ c * i.size := by rw [hnl2, ← Nat.add_mul]; exact Nat.mul_le_mul_right _ hroom
    obtain ⟨v0, hv0⟩ := Option.isSome_iff_exists.1 hlive
    have hBb : B ≤ b := by
      obtain ⟨_, hb, _⟩ := hR.cell id 0 v0 hv0 hat
      exact hb
    obtain ⟨w1, q0, q1, q2, q3, q4, q5, q6, q7, q8⟩ := run_storeFree (P := P) hBb newss (f + off + n * i.size) 0 w (fun j hj => by
      have := hplace (off + n * i.size + j) (by omega)
      rw [show f + (off + n * i.size + j) = f + off + n * i.size + 0 + j by omega] at this
      exact this) e3
    refine ⟨_, w1, .row b (f + off) (N - off), run_append_small t u ty e i ht hi _ n c x m w w1 newss e1 hroom (by rw [hbase]; exact q0), ⟨b, f + off, N - off, c, Names.add_new _ _ _, rfl, by omega, hroom, hcm⟩, ?_, q7⟩
    refine hR.into hn (fun a o y ha hy => ?_) (fun a o y q ha hy eq => ?_) (by omega) ⟨q8 _ hfz0, fun j hj => ?_⟩ (by rw [q6]; have := hR.lt id _ hid; exact this) (fun o y hy => ?_) (fun o y b' f' hy hy8 ha o' => ?_) (new_cont hdc) (fun k hk => q7.block k hk)
    rotate_left 4
    · simp only [Place.at, Option.some.injEq, Prod.mk.injEq] at ha
      obtain ⟨rfl, rfl⟩ := ha
      rw [q4]
      rw [Mem.at_new, if_pos rfl] at hy
      rcases Nat.lt_or_ge o (n * i.size) with ho | ho
      · rw [List.getElem?_append_left (by omega)] at hy
        exact hR.clean id (off + o) y b f (hold o y hy) hy8 hat o'
      · rw [List.getElem?_append_right (by omega)] at hy
        rcases h8 with ⟨o2, u, hu1, hu2⟩ | h8
        · exact hR.clean id o2 u b f hu1 hu2 hat o'
        · rw [h8 _ y hy] at hy8; cases hy8
    · rw [Mem.at_new, if_neg ha] at hy; exact hdrop a o y hy
    · rw [Mem.at_new, if_neg ha] at hy
      have hai : a ≠ id := fun e => by rw [Mem.at_drop, if_pos e] at hy; cases hy
      have hne2 : q.block ≠ b := fun e => hai (hR.inj a o id 0 q _ (by rw [hdrop a o y hy]; rfl) hlive eq hid e)
      exact ⟨hne2, q5 _ hne2⟩
    · obtain ⟨⟨y, hy⟩, hf⟩ := hplace (off + j) (by omega)
      rw [← Nat.add_assoc] at hy hf
      exact ⟨q3 _ y hy, by rw [q4]; exact hf⟩
    · rw [Mem.at_new, if_pos rfl] at hy
      have hlt : o < (old ++ news).length := (List.getElem?_eq_some_iff.1 hy).1
      rw [List.length_append, hol, hnl] at hlt
      have hno : off + n * i.size + newss.length ≤ N := by omega
      have hfz : w1.frozen? ⟨b, f + off + o, none⟩ = false := by
        rw [q4]
        have := (hplace (off + o) (by omega)).2
        rwa [← Nat.add_assoc] at this
      rcases Nat.lt_or_ge o (n * i.size) with ho | ho
      · rw [List.getElem?_append_left (by omega)] at hy
        obtain ⟨y2, g1, g2, g3, _, g5⟩ := hR.cell id (off + o) y (hold o y hy) hat
        refine .inl ⟨b, f + off, y2, rfl, hBb, ?_, rel.mono (Names.le_add hn _) _ _ g3, hfz, g5⟩
        rw [q2 _ (fun _ => by show f + off + o < _; omega), Nat.add_assoc]
        exact g2
      · rw [List.getElem?_append_right (by omega), hol] at hy
        obtain ⟨y2, g1, g2⟩ := relL.get _ y e2 hy
        refine .inl ⟨b, f + off, y2, rfl, hBb, ?_, rel.mono (Names.le_add hn _) _ _ g2, hfz, e3 y2 (List.mem_of_getElem? g1)⟩
        have := q1 _ y2 g1
        rwa [show f + off + n * i.size + 0 + (o - n * i.size) = f + off + o by omega] at this
  · obtain ⟨newss, e1, e2, e3⟩ := hx w.drew hR.drew
    obtain ⟨olds, r1, r2, r3⟩ := hR.drew.cells1 hat old off hold
    have ho := run_firstCells_some (P := P) w.drew i.size n ⟨b, f + off, none⟩ n c olds (by rw [← r1.length, hol]) r2
    have hrun := run_append_big (P := P) t u ty e i z ht hi hz (some ⟨b, f + off, none⟩) n c x m w olds newss ho e1 (by omega) h63 hfit
    have hsub : R ρ μ B (H.drop id) w := hR.sub hdrop hdc
    obtain ⟨p, g1, g2⟩ := hsub.grown hB hn r1 e2 r3 e3 (size := i.size) (need := n + m) (c := c) e z.cells hzs (by rw [List.length_append, ← r1.length, ← e2.length, hol, hnl, Nat.add_mul]) (by simp only [maxLen]; omega)
    exact ⟨_, _, p, hrun, g2, g1, ((Below.refl B w).drew).alloc hB _⟩
end
end
end Go.Proofs.YtdoegipkfjndbaaGreatDoor.Ev
namespace Go.Proofs.YtdoegipkfjndbaaGreatDoor.Ev
set_option linter.unusedVariables false
set_option linter.unusedSimpArgs false
noncomputable section
open Go.RowKit
def allU8 : List AV → Bool
  | [] => true
  | a :: l => bif a.isU8 then allU8 l else false
theorem allU8_get : ∀ {l : List AV}, allU8 l = true → ∀ (j : Nat) (u : AV), l[j]? = some u → u.isU8 = true
  | [], _, j, u, h => by simp at h
  | a :: l, hl, j, u, h => by
    simp only [allU8] at hl
    cases ha : a.isU8 with
    | false => rw [ha] at hl; cases hl
    | true =>
      rw [ha, cond_true] at hl
      cases j with
      | zero => simp at h; subst h; exact ha
      | succ j => exact allU8_get hl j u (by simpa using h)
section
variable (P : Program)
def isIntD : TypeDesc → Bool
  | .int _ => true
  | _ => false
def aLenX (d : TypeDesc) (x : AV) : Option Nat :=
  bif rowStr d then aLenS x else bif isIntD d then (match x with
    | .int _ n => n.nat?
    | _ => none) else none
def aSrcX (d : TypeDesc) (z : List AV) (size m : Nat) (x : AV) (k : List AV → AM) : AM := bif rowStr d then aSrc size m x k else k (zerosN z m)
def aAppend (t u : TypeId) (s x : AV) (k : AV → AM) : AM :=
  match P.underlying t, P.underlying u with
  | some (.slice e), some d => match P.info? e, zeroOf P e, aLenS s, aLenX d x with
    | some ie, some z, some n, some m =>
      bif Nat.beq z.length ie.size && Nat.blt 0 ie.size && Nat.ble ((n + m) * ie.bytes) 140737488355328 && Nat.ble (n + m) 4611686018427387904 then
        aSrcX d z ie.size m x fun news => bif Nat.beq news.length (m * ie.size) then
          (match s with
          | .nilSlice => bif Nat.beq m 0 then k .nilSlice else .alloc news fun i => k (.rowS i 0 (n + m) ie.size)
          | .slice id off _ cap => bif Nat.ble (n + m) cap then storeN id news (off + n * ie.size) (k (.slice id off (n + m) cap))
              else loadN id (n * ie.size) off fun old => .alloc (old ++ news) fun i => k (.rowS i 0 (n + m) ie.size)
          | .rowS id off _ sz => bif Nat.beq sz ie.size then
              bif Nat.beq off 0 then .load id (n * ie.size - 1) fun u => bif u.isU8 && !allU8 news then .fail 82 else .renew id (n * ie.size) news fun i => k (.rowS i 0 (n + m) ie.size)
              else loadN id (n * ie.size) off fun old => .load id 0 fun u => bif u.isU8 && !allU8 news then .fail 82 else .drop id (.alloc (old ++ news) fun i => k (.rowS i 0 (n + m) ie.size))
            else .fail 73
          | .emptyS => bif Nat.beq m 0 then k .emptyS else .fail 72
          | _ => .fail 72)
        else .fail 74
      else .fail 75
    | _, _, _, _ => .fail 76
  | _, _ => .fail 77
def aCopy (t : TypeId) (s x : AV) (k : AV → AM) : AM :=
  match P.underlying t with
  | some (.slice e) => match P.info? e, aLenS s, aLenS x with
    | some ie, some n, some m =>
      aSrc ie.size (Nat.min m n) x fun l => match s with
        | .nilSlice => k (.int .i64 (.lit (.ofNat (Nat.min m n))))
        | .emptyS => bif Nat.beq l.length 0 then k (.int .i64 (.lit (.ofNat (Nat.min m n)))) else .fail 78
        | .slice id off _ _ => storeN id l off (k (.int .i64 (.lit (.ofNat (Nat.min m n)))))
        | .rowS id off _ _ => storeN id l off (k (.int .i64 (.lit (.ofNat (Nat.min m n)))))
        | _ => .fail 78
    | _, _, _ => .fail 78
  | _ => .fail 78
def aBytes : List AV → Option (List Nat)
  | [] => some []
  | .int .u8 (.lit (.ofNat n)) :: l => bif Nat.blt n 256 then (match aBytes l with | some m => some (n :: m) | none => none) else none
  | _ => none
def aConvM (src dst : TypeId) (x : AV) (k : AV → AM) : AM :=
  match P.underlying src, P.underlying dst with
  | some (.slice e), some .string => match P.underlying e, aLenS x, x with
    | some (.int .u8), some n, .str _ => .fail 79
    | some (.int .u8), some n, x => aSrc 1 n x fun l => match aBytes l with
      | some m => k (.str m)
      | none => .fail 79
    | _, _, _ => .fail 79
  | some _, some (.slice e) => match P.underlying e, x with
    | some (.int .u8), .slice id off len cap => bif Nat.beq src dst then loadN id len off fun l => bif allU8 l then .drop id (.alloc l fun i => k (.slice i 0 len cap)) else .fail 80 else .fail 80
    | some (.int .u8), .str l => bif Nat.beq l.length 0 then k .emptyS else bif Nat.ble l.length 4611686018427387904 then .alloc (strCells l) fun i => k (.rowS i 0 l.length 1) else .fail 80
    | _, _ => .fail 80
  | _, _ => .fail 81
end
section
variable {P : Program}
theorem aBytes_rel {ρ : Val} {μ : Names} : ∀ {l : List AV} {m : List Nat}, aBytes l = some m → ∀ xs, relL ρ μ l xs → small m ∧ xs = (m.map fun n : Nat => (n : Int)).map (Value.int .u8)
  | [], m, h, xs, r => by
    simp only [aBytes, Option.some.injEq] at h
    subst h
    cases xs with
    | nil => exact ⟨fun b hb => (by cases hb), rfl⟩
    | cons x xs => exact r.elim
  | a :: l, m, h, xs, r => by
    cases xs with
    | nil => exact r.elim
    | cons x xs =>
      unfold aBytes at h
      split at h
      · rename_i e; cases e
      · rename_i n l' e
        obtain ⟨rfl, rfl⟩ := List.cons.inj e
        cases hb : Nat.blt n 256 with
        | false => rw [hb] at h; cases h
        | true =>
          rw [hb, cond_true] at h
          rw [blt_iff] at hb
          cases hm : aBytes l with
          | none => rw [hm] at h; cases h
          | some m' =>
            rw [hm] at h
            cases h
            obtain ⟨p, q⟩ := aBytes_rel hm xs r.2
            have r1 := r.1
            simp only [rel, SI.den] at r1
            subst r1
            refine ⟨fun b hbm => ?_, by rw [q]; rfl⟩
            rcases List.mem_cons.1 hbm with rfl | hbm
            · exact hb
            · exact p b hbm
      · cases h
theorem foldl_push (m : List Nat) : ∀ (s : ByteArray), (m.map fun n : Nat => (n : Int)).foldl (fun r (n : Int) => r.push (UInt8.ofNat n.toNat)) s = s ++ bytesOf m := by
  induction m with
  | nil => intro s; apply ByteArray.ext; simp [bytesOf, ByteArray.data_append]
  | cons n m ih =>
    intro s
    rw [List.map_cons, List.foldl_cons, ih]
    apply ByteArray.ext
    simp [bytesOf, ByteArray.data_append]
theorem bytesWorld_below {B : Nat} {w : World} (hB : B ≤ w.heap.size) (e : TypeId) (s : ByteArray) : Below B w (Lib.bytesWorld w e s) :=
  ⟨by unfold Lib.bytesWorld World.freeze; rfl, by unfold Lib.bytesWorld World.freeze; rfl, by unfold Lib.bytesWorld World.freeze; rfl, by rw [Lib.bytesWorld_size]; omega, fun k hk => Lib.bytesWorld_at_old w e s k (by omega)⟩
theorem strCells_u8 : ∀ (l : List Nat) (o : Nat) (v : AV), (strCells l)[o]? = some v → v.isU8 = true
  | [], o, v, h => by simp [strCells] at h
  | b :: l, 0, v, h => by simp [strCells] at h; subst h; rfl
  | b :: l, o + 1, v, h => strCells_u8 l o v (by simpa [strCells] using h)
theorem R.bytes {ρ : Val} {μ : Names} {B : Nat} {H : Mem} {w : World} (h : R ρ μ B H w) (hB : B ≤ w.heap.size) {n : Nat} (hn : μ.get n = none) (l : List Nat) (hl : small l) (e : TypeId) (h63 : l.length ≤ maxLen) :
    ∃ p, R ρ (μ.add n p) B (H.new n (strCells l)) (Lib.bytesWorld w e (bytesOf l)) ∧ rel ρ (μ.add n p) (.rowS n 0 l.length 1) (.slice (some ⟨w.heap.size, 0, none⟩) (bytesOf l).size (grownCap w (bytesOf l).size 0 e)) := by
  have hsz := bytesOf_size l
  have hcs : (Lib.bytesCells w e (bytesOf l)).size = grownCap w (bytesOf l).size 0 e := by
    have := grownCap_ge w (bytesOf l).size 0 e
    unfold Lib.bytesCells
    simp only [Array.size_append, Array.size_map, Array.size_replicate]
    have : (bytesOf l).data.size = (bytesOf l).size := rfl
    omega
  have hfr : ∀ j, j < grownCap w (bytesOf l).size 0 e → (Lib.bytesWorld w e (bytesOf l)).frozen? ⟨w.heap.size, j, none⟩ = false := fun j hj => by
    unfold World.frozen?
    rw [Lib.bytesWorld_at_new]
    simp
    omega
  refine ⟨.row w.heap.size 0 (grownCap w (bytesOf l).size 0 e), ?_, ⟨w.heap.size, 0, _, _, Names.add_new _ _ _, by rw [hsz], by rw [hsz]; omega, grownCap_ge _ _ _ _, grownCap_le_maxLen _ _ _ _ h63⟩⟩
  refine h.into hn (fun i o v hi hv => ?_) (fun i o v q hi hv eq => ?_) (by rw [Lib.bytesWorld_size]; omega) ⟨⟨_, _, _, _, Lib.bytesWorld_at_new w e _, .inr (Nat.le_refl _)⟩, fun j hj => ⟨?_, ?_⟩⟩ (by rw [Lib.bytesWorld_size]; show w.heap.size < _; omega) (fun o v hv => ?_) (fun o v b' f' hv hv8 ha o' => ?_) (new_cont h.cont) (fun k hk => Lib.bytesWorld_at_old w e _ _ (by omega))
  rotate_left 5
  · rw [Mem.at_new, if_pos rfl] at hv
    rw [strCells_u8 l o v hv] at hv8
    cases hv8
  · rwa [Mem.at_new, if_neg hi] at hv
  · have hb := h.lt i q eq
    exact ⟨by show q.block ≠ w.heap.size; omega, Lib.bytesWorld_at_old w e _ _ hb⟩
  · refine ⟨(Lib.bytesCells w e (bytesOf l))[j]'(by omega), ?_⟩
    unfold World.cell?
    rw [Lib.bytesWorld_at_new]
    simp [hcs, hj]
  · rw [Nat.zero_add]; exact hfr j hj
  · rw [Mem.at_new, if_pos rfl] at hv
    obtain ⟨x, hx, hrx⟩ := relL.get o v (strCells_rel (ρ := ρ) (μ := μ.add n (.row w.heap.size 0 (grownCap w (bytesOf l).size 0 e))) hl) hv
    have hlt : o < (strCells l).length := (List.getElem?_eq_some_iff.1 hv).1
    rw [strCells_length] at hlt
    have hx2 : x.oneCell' = true := by
      have := List.mem_of_getElem? hx
      rw [List.mem_map] at this
      obtain ⟨_, _, rfl⟩ := this
      rfl
    refine .inl ⟨w.heap.size, 0, x, rfl, hB, ?_, hrx, ?_, hx2⟩
    · rw [Nat.zero_add, Lib.bytesWorld_cell w e _ o (by rw [hsz]; exact hlt), ← hx]
      simp [bytesOf, hlt]
    · rw [Nat.zero_add]
      exact hfr o (by have := grownCap_ge w (bytesOf l).size 0 e; omega)
end
end
end Go.Proofs.YtdoegipkfjndbaaGreatDoor.Ev
namespace Go.Proofs.YtdoegipkfjndbaaGreatDoor.Ev
set_option linter.unusedVariables false
set_option linter.unusedSimpArgs false
noncomputable section
open Go.RowKit
section
variable {P : Program}
/-- what a part of an operation does -/
def SemOk (P : Program) (B : Nat) (μ : Names) (w : World) (n : Nat) (v : AV) (H1 : Mem) (n1 : Nat) (ρ : Val) (s : Sem Value) : Prop :=
  ∃ z μ1 w1, s.run P w = .ok z w1 ∧ rel ρ μ1 v z ∧ Step μ μ1 n n1 ∧ R ρ μ1 B H1 w1 ∧ Below B w w1
theorem SemOk.op {B : Nat} {μ : Names} {w : World} {n : Nat} {v : AV} {H1 : Mem} {n1 : Nat} {ρ : Val} {s : Sem Value} (h : SemOk P B μ w n v H1 n1 ρ s) {o : Oper} {a : Act} {rb : Option Nat} {K : Act → World → Prop} {Q : Exit → Act → World → Prop}
    (he : ∀ w1 z, s.run P w = .ok z w1 → (execOp a.eval o).run P w = .ok (.value z) w1) (hK : ∀ x μ1 w1, rel ρ μ1 v x → Step μ μ1 n n1 → R ρ μ1 B H1 w1 → Below B w w1 → K (a.put o.dst x) w1) : o.wpIn (Fr rb) 0 P a w K Q := by
  obtain ⟨z, μ1, w1, e, r1, r2, r3, r4⟩ := h
  exact wp_value (he w1 z e) (hK z μ1 w1 r1 r2 r3 r4)
theorem R.list {ρ : Val} {μ : Names} {B : Nat} {H : Mem} {w : World} (h : R ρ μ B H w) {id : Nat} : ∀ (m : Nat), (H.at id m).isSome = true → ∀ j, j ≤ m → (H.at id j).isSome = true
  | 0, h0, j, hj => by rw [Nat.le_zero.1 hj]; exact h0
  | m + 1, h0, j, hj => by
    rcases Nat.lt_or_ge j (m + 1) with h1 | h1
    · exact R.list h m (h.cont id m h0) j (by omega)
    · rw [show j = m + 1 by omega]; exact h0
theorem rowCells {H : Mem} {id : Nat} : ∀ (m : Nat), (∀ j, j < m → (H.at id j).isSome = true) → ∃ l : List AV, l.length = m ∧ ∀ j, j < m → l[j]? = H.at id j
  | 0, _ => ⟨[], rfl, fun j hj => by omega⟩
  | m + 1, h => by
    obtain ⟨l, e1, e2⟩ := rowCells (H := H) (id := id) m (fun j hj => h j (by omega))
    obtain ⟨v, hv⟩ := Option.isSome_iff_exists.1 (h m (by omega))
    refine ⟨l ++ [v], by simp [e1], fun j hj => ?_⟩
    rcases Nat.lt_or_ge j m with h1 | h1
    · rw [List.getElem?_append_left (by omega), e2 j h1]
    · rw [show j = m by omega, List.getElem?_append_right (by omega), e1, hv]; simp
theorem aSrcX_run {u e : TypeId} {d : TypeDesc} {ie : TypeInfo} {zv : Value} {z : List AV} {m : Nat} {x : AV} {k : List AV → AM} {H : Mem} {nx : Nat} {acc : List Tok} {r : Out × Mem × Nat × List Tok}
    (hu : P.underlying u = some d) (hi : P.info? e = some ie) (hz : ie.zero = some zv) (hone : allOne z = true) (hr : ∀ (ρ : Val) (μ : Names), relL ρ μ z zv.cells.toList) (hzl : z.length = ie.size) (hpos : 0 < ie.size)
    (hb : m * ie.bytes ≤ 140737488355328) (hm6 : m ≤ 4611686018427387904) (hm : aLenX d x = some m) (h : (aSrcX d z ie.size m x k).run H nx acc = some r) :
    ∃ l acc1, (k l).run H nx acc1 = some r ∧ ∀ (ρ : Val) (μ : Names) (B : Nat) (w : World) (v : Value), R ρ μ B H w → rel ρ μ x v → ∃ xs, AppSrc P u e ie.size m v xs w ∧ relL ρ μ l xs ∧ ∀ y ∈ xs, y.oneCell' = true := by
  unfold aSrcX at h
  unfold aLenX at hm
  cases hd : rowStr d with
  | true =>
    rw [hd, cond_true] at h hm
    obtain ⟨l, acc1, h1, hs⟩ := aSrc_run (P := P) h
    refine ⟨l, acc1, h1, fun ρ μ B w v hR hx => ?_⟩
    obtain ⟨xs, e1, e2, e3⟩ := hs ρ μ B w v hR hx
    exact ⟨xs, .inl ⟨d, hu, hd, aLenS_run hm hx, e1⟩, e2, e3⟩
  | false =>
    rw [hd, cond_false] at h hm
    cases d <;> simp only [isIntD, cond_true, cond_false, reduceCtorEq] at hm
    rename_i k0
    split at hm
    · rename_i k1 n
      refine ⟨_, acc, h, fun ρ μ B w v hR hx => ?_⟩
      simp only [rel] at hx
      subst hx
      rw [SI.nat_den hm]
      have hzs : zv.cells.size = ie.size := by
        have := (hr ρ μ).length
        rw [← hzl, this]; simp
      refine ⟨(Builtin.zeroCells zv.cells m).toList, .inr ⟨k0, k1, ie, zv, hu, rfl, hi, hz, rfl, hzs, rfl, hb, hm6⟩, ?_, ?_⟩
      · have := zeros_rel (hr ρ μ) m
        rw [Builtin.zeroCells, zeros_eq _ _ (by omega)]
        exact this
      · intro y hy
        rw [Builtin.zeroCells, zeros_eq _ _ (by omega)] at hy
        simp only [List.mem_flatten] at hy
        obtain ⟨ys, hy, hx⟩ := hy
        rw [List.mem_replicate] at hy
        rw [hy.2] at hx
        exact allOne_rel hone (hr ρ μ) y hx
    · cases hm
theorem aAppend_run {t u : TypeId} {s x : AV} {k : AV → AM} {H : Mem} {n : Nat} {acc : List Tok} {r : Out × Mem × Nat × List Tok} (h : (aAppend P t u s x k).run H n acc = some r) :
    ∃ v H1 n1 acc1, (k v).run H1 n1 acc1 = some r ∧ n ≤ n1 ∧ ∀ (ρ : Val) (μ : Names) (B : Nat) (w : World) (sv xv : Value) (ty : TypeId), R ρ μ B H w → B ≤ w.heap.size → (∀ i, n ≤ i → i < n1 → μ.get i = none) → rel ρ μ s sv → rel ρ μ x xv →
      SemOk P B μ w n v H1 n1 ρ (Builtin.append_ #[t, u] ty #[sv, xv]) := by
  unfold aAppend at h
  split at h
  · rename_i e d ht hu
    split at h
    · rename_i ie z ns m hie hz hns hm
      obtain ⟨i, zv, hi, hzv, h1, hrz⟩ := zeroOf_info P hz
      rw [hie] at hi
      obtain rfl := Option.some.inj hi
      cases hb : (Nat.beq z.length ie.size && Nat.blt 0 ie.size && Nat.ble ((ns + m) * ie.bytes) 140737488355328 && Nat.ble (ns + m) 4611686018427387904) with
      | false => rw [hb] at h; cases h
      | true =>
        rw [hb, cond_true] at h
        simp only [Bool.and_eq_true, Nat.beq_eq, Nat.ble_eq, blt_iff] at hb
        obtain ⟨⟨⟨hzl, hpos⟩, hfit⟩, h63⟩ := hb
        obtain ⟨news, acc1, h2, hsrc⟩ := aSrcX_run (P := P) hu hie hzv h1 hrz hzl hpos (Nat.le_trans (Nat.mul_le_mul_right _ (Nat.le_add_left m ns)) hfit) (by omega) hm h
        cases hl : Nat.beq news.length (m * ie.size) with
        | false => rw [hl] at h2; cases h2
        | true =>
          rw [hl, cond_true] at h2
          rw [Nat.beq_eq] at hl
          have hzs : ∀ (ρ : Val) (μ : Names), zv.cells.size = ie.size := fun ρ μ => by
            have := (hrz ρ μ).length
            rw [← hzl, this]; simp
          have hmax : ns + m ≤ maxLen := by simp only [maxLen]; omega
          split at h2
          · -- nil
            simp only [aLenS, Option.some.injEq] at hns
            subst hns
            cases hm0 : Nat.beq m 0 with
            | true =>
              rw [hm0, cond_true] at h2
              rw [Nat.beq_eq] at hm0
              subst hm0
              refine ⟨.nilSlice, H, n, acc1, h2, Nat.le_refl _, fun ρ μ B w sv xv ty hR hB hf hs hx => ?_⟩
              simp only [rel] at hs
              subst hs
              obtain ⟨xs, e1, e2, e3⟩ := hsrc ρ μ B w xv hR hx
              exact ⟨_, μ, w, run_append_none t u ty e ie ht hie xv w xs e1, rfl, Step.refl _ _ _, hR, Below.refl _ _⟩
            | false =>
              rw [hm0, cond_false] at h2
              have hm1 : m ≠ 0 := fun e => by rw [e] at hm0; cases hm0
              simp only [AM.run_ret, AM.run_fail, AM.run_load, AM.run_store, AM.run_alloc, AM.run_sub, AM.run_call, AM.run_here, AM.run_drop, AM.run_renew] at h2
              refine ⟨.rowS n 0 (0 + m) ie.size, H.new n news, n + 1, acc1, h2, by omega, fun ρ μ B w sv xv ty hR hB hf hs hx => ?_⟩
              have hn := hf n (Nat.le_refl _) (by omega)
              simp only [rel] at hs
              subst hs
              obtain ⟨xs, e1, e2, e3⟩ := hsrc ρ μ B w.drew xv hR.drew hx
              have hrun := run_append_big (P := P) t u ty e ie zv ht hie hzv none 0 0 xv m w [] xs (run_firstCells_none w.drew ie.size 0 0 0) e1 (by omega) h63 hfit
              obtain ⟨p, g1, g2⟩ := hR.grown hB hn (old := []) (olds := []) trivial e2 (fun y hy => by cases hy) e3 (size := ie.size) (need := 0 + m) (c := 0) e zv.cells (hzs ρ μ) (by rw [List.nil_append, ← e2.length, hl, Nat.zero_add]) hmax
              exact ⟨_, μ.add n p, _, hrun, g2, ⟨Names.le_add hn _, fun i hi => Names.add_ne _ _ (by omega)⟩, g1, ((Below.refl B w).drew).alloc hB _⟩
          · -- a known capacity
            rename_i id off len cap
            simp only [aLenS, Option.some.injEq] at hns
            subst hns
            cases hr : Nat.ble (len + m) cap with
            | true =>
              rw [hr, cond_true] at h2
              rw [Nat.ble_eq] at hr
              obtain ⟨H1, acc2, h3, hst⟩ := storeN_run (P := P) id news (off + len * ie.size) _ H n acc1 r h2
              refine ⟨.slice id off (len + m) cap, H1, n, acc2, h3, Nat.le_refl _, fun ρ μ B w sv xv ty hR hB hf hs hx => ?_⟩
              obtain ⟨b, f, hid, rfl⟩ := hs
              obtain ⟨xs, e1, e2, e3⟩ := hsrc ρ μ B w xv hR hx
              obtain ⟨w1, q1, q2, q3⟩ := hst ρ μ B w b f xs 0 hR (.inl hid) e2 e3 (f + (off + len * ie.size)) rfl
              refine ⟨_, μ, w1, run_append_small t u ty e ie ht hie ⟨b, f + off, none⟩ len cap xv m w w1 xs e1 hr ?_, ⟨b, f, hid, rfl⟩, Step.refl _ _ _, q2, q3⟩
              rw [add_at, Nat.add_assoc]
              exact q1
            | false =>
              rw [hr, cond_false] at h2
              have hr2 : ¬ len + m ≤ cap := fun hle => by rw [Nat.ble_eq_true_of_le hle] at hr; cases hr
              obtain ⟨old, acc2, h3, ho1, ho2⟩ := loadN_run id _ _ _ H n acc1 r h2
              simp only [AM.run_ret, AM.run_fail, AM.run_load, AM.run_store, AM.run_alloc, AM.run_sub, AM.run_call, AM.run_here, AM.run_drop, AM.run_renew] at h3
              refine ⟨.rowS n 0 (len + m) ie.size, H.new n (old ++ news), n + 1, acc2, h3, by omega, fun ρ μ B w sv xv ty hR hB hf hs hx => ?_⟩
              have hn := hf n (Nat.le_refl _) (by omega)
              obtain ⟨b, f, hid, rfl⟩ := hs
              obtain ⟨xs, e1, e2, e3⟩ := hsrc ρ μ B w.drew xv hR.drew hx
              obtain ⟨olds, r1, r2, r3⟩ := hR.drew.cells1 hid old off ho2
              have hrun := run_append_big (P := P) t u ty e ie zv ht hie hzv (some ⟨b, f + off, none⟩) len cap xv m w olds xs (run_firstCells_some w.drew ie.size len _ len cap olds (by rw [← r1.length, ho1]) r2) e1 (by omega) h63 hfit
              obtain ⟨p, g1, g2⟩ := hR.grown hB hn r1 e2 r3 e3 (size := ie.size) (need := len + m) (c := cap) e zv.cells (hzs ρ μ) (by rw [List.length_append, ← r1.length, ← e2.length, ho1, hl, Nat.add_mul]) hmax
              exact ⟨_, μ.add n p, _, hrun, g2, ⟨Names.le_add hn _, fun i hi => Names.add_ne _ _ (by omega)⟩, g1, ((Below.refl B w).drew).alloc hB _⟩
          · -- a row whose capacity is not known
            rename_i id off len sz
            simp only [aLenS, Option.some.injEq] at hns
            subst hns
            cases hsz : Nat.beq sz ie.size with
            | false => rw [hsz] at h2; cases h2
            | true =>
              rw [hsz, cond_true] at h2
              rw [Nat.beq_eq] at hsz
              subst hsz
              have h8of : ∀ {j : Nat} {u0 : AV}, H.at id j = some u0 → (u0.isU8 && !allU8 news) = false → (∃ o u, H.at id o = some u ∧ u.isU8 = false) ∨ ∀ (j : Nat) (u : AV), news[j]? = some u → u.isU8 = true := fun {j u0} hu0 hb => by
                rw [Bool.and_eq_false_iff] at hb
                rcases hb with hb | hb
                · exact .inl ⟨_, _, hu0, hb⟩
                · exact .inr (allU8_get (by simpa using hb))
              cases hoff : Nat.beq off 0 with
              | true =>
                rw [hoff, cond_true] at h2
                rw [Nat.beq_eq] at hoff
                subst hoff
                simp only [AM.run_ret, AM.run_fail, AM.run_load, AM.run_store, AM.run_alloc, AM.run_sub, AM.run_call, AM.run_here, AM.run_drop, AM.run_renew] at h2
                cases hp : H.at id (len * ie.size - 1) with
                | none => rw [hp] at h2; cases h2
                | some u0 =>
                  rw [hp] at h2
                  dsimp only at h2
                  cases hb : (u0.isU8 && !allU8 news) with
                  | true => rw [hb] at h2; cases h2
                  | false =>
                    rw [hb, cond_false] at h2
                    simp only [AM.run_ret, AM.run_fail, AM.run_load, AM.run_store, AM.run_alloc, AM.run_sub, AM.run_call, AM.run_here, AM.run_drop, AM.run_renew] at h2
                    cases hv0 : H.at id 0 with
                    | none => rw [hv0] at h2; cases h2
                    | some v0 =>
                      rw [hv0] at h2
                      dsimp only at h2
                      refine ⟨.rowS n 0 (len + m) ie.size, H.renew id (len * ie.size) news n, n + 1, _, h2, by omega, fun ρ μ B w sv xv ty hR hB hf hs hx => ?_⟩
                      have hn := hf n (Nat.le_refl _) (by omega)
                      obtain ⟨old, ho1, ho2⟩ := rowCells (H := H) (id := id) (len * ie.size) (fun j hj => hR.list _ (by rw [hp]; rfl) j (by omega))
                      obtain ⟨v', w', p, a1, a2, a3, a4⟩ := append_row hR hB hs (by rw [hv0]; rfl) (h8of hp hb) ho1 (fun j a ha => by
                        have hj : j < len * ie.size := by rw [← ho1]; exact (List.getElem?_eq_some_iff.1 ha).1
                        rw [Nat.zero_add, ← ho2 j hj]; exact ha) hl hn t u ty e ie zv ht hie hzv rfl (hzs ρ μ) (fun w hR => hsrc ρ μ B w xv hR hx) h63 hfit
                      refine ⟨v', μ.add n p, w', a1, a2, ⟨Names.le_add hn _, fun i hi => Names.add_ne _ _ (by omega)⟩, a3.same fun i o => ?_, a4⟩
                      rw [Mem.at_renew, Mem.at_new, Mem.at_drop]
                      have hne : n ≠ id := fun e => by
                        obtain ⟨p, hp⟩ := hR.get hv0
                        rw [← e, hn] at hp; cases hp
                      by_cases hi : i = id
                      · rw [if_pos hi, if_neg (fun e => hne (by rw [← e, hi])), if_pos hi]
                      · rw [if_neg hi]
                        by_cases hi2 : i = n
                        · rw [if_pos hi2, if_pos hi2]
                          rcases Nat.lt_or_ge o (len * ie.size) with ho | ho
                          · rw [if_neg (by omega), if_neg (by omega), List.getElem?_append_left (by omega), ho2 o ho]
                          · rw [List.getElem?_append_right (by omega), ho1]
                            by_cases ho3 : o < len * ie.size + news.length
                            · rw [if_pos ⟨ho, ho3⟩]
                            · rw [if_neg (by omega), List.getElem?_eq_none (by omega)]
                              by_cases hlo : (H.at id (len * ie.size)).isSome = true
                              · rw [if_pos ⟨hlo, by omega⟩]
                              · rw [if_neg (fun e => hlo e.1)]
                                cases hx2 : H.at id o with
                                | none => rfl
                                | some y => exact absurd (hR.list o (by rw [hx2]; rfl) _ ho) hlo
                        · rw [if_neg hi2, if_neg hi2, if_neg hi]
              | false =>
                rw [hoff, cond_false] at h2
                obtain ⟨old, acc2, h3, ho1, ho2⟩ := loadN_run id _ _ _ H n acc1 r h2
                simp only [AM.run_ret, AM.run_fail, AM.run_load, AM.run_store, AM.run_alloc, AM.run_sub, AM.run_call, AM.run_here, AM.run_drop, AM.run_renew] at h3
                cases hv0 : H.at id 0 with
                | none => rw [hv0] at h3; cases h3
                | some u0 =>
                  rw [hv0] at h3
                  dsimp only at h3
                  cases hb : (u0.isU8 && !allU8 news) with
                  | true => rw [hb] at h3; cases h3
                  | false =>
                    rw [hb, cond_false] at h3
                    simp only [AM.run_ret, AM.run_fail, AM.run_load, AM.run_store, AM.run_alloc, AM.run_sub, AM.run_call, AM.run_here, AM.run_drop, AM.run_renew, hv0] at h3
                    refine ⟨.rowS n 0 (len + m) ie.size, (H.drop id).new n (old ++ news), n + 1, _, h3, by omega, fun ρ μ B w sv xv ty hR hB hf hs hx => ?_⟩
                    have hn := hf n (Nat.le_refl _) (by omega)
                    obtain ⟨v', w', p, a1, a2, a3, a4⟩ := append_row hR hB hs (by rw [hv0]; rfl) (h8of hv0 hb) ho1 ho2 hl hn t u ty e ie zv ht hie hzv rfl (hzs ρ μ) (fun w hR => hsrc ρ μ B w xv hR hx) h63 hfit
                    exact ⟨v', μ.add n p, w', a1, a2, ⟨Names.le_add hn _, fun i hi => Names.add_ne _ _ (by omega)⟩, a3, a4⟩
          · -- an empty one
            simp only [aLenS, Option.some.injEq] at hns
            subst hns
            cases hm0 : Nat.beq m 0 with
            | false => rw [hm0] at h2; cases h2
            | true =>
              rw [hm0, cond_true] at h2
              rw [Nat.beq_eq] at hm0
              subst hm0
              refine ⟨.emptyS, H, n, acc1, h2, Nat.le_refl _, fun ρ μ B w sv xv ty hR hB hf hs hx => ?_⟩
              obtain ⟨a, c, rfl, hsp⟩ := hs
              obtain ⟨xs, e1, e2, e3⟩ := hsrc ρ μ B w xv hR hx
              have : xs = [] := List.eq_nil_of_length_eq_zero (by rw [← e2.length, hl]; simp)
              subst this
              exact ⟨_, μ, w, run_append_small t u ty e ie ht hie a 0 c xv 0 w w [] e1 (by omega) rfl, ⟨a, c, rfl, hsp⟩, Step.refl _ _ _, hR, Below.refl _ _⟩
          · cases h2
    · cases h
  · cases h
theorem aCopy_run {t u : TypeId} {s x : AV} {k : AV → AM} {H : Mem} {n : Nat} {acc : List Tok} {r : Out × Mem × Nat × List Tok} (h : (aCopy P t s x k).run H n acc = some r) :
    ∃ v H1 acc1, (k v).run H1 n acc1 = some r ∧ ∀ (ρ : Val) (μ : Names) (B : Nat) (w : World) (sv xv : Value) (ty : TypeId), R ρ μ B H w → B ≤ w.heap.size → rel ρ μ s sv → rel ρ μ x xv →
      SemOk P B μ w n v H1 n ρ (Builtin.copy_ #[t, u] ty #[sv, xv]) := by
  unfold aCopy at h
  split at h
  · rename_i e ht
    split at h
    · rename_i ie ns m hie hns hm
      obtain ⟨l, acc1, h2, hsrc⟩ := aSrc_run (P := P) h
      have hrun : ∀ {base : Option Addr} {c : Nat} {xv : Value} {ty : TypeId} {w w1 : World} {xs : List Value}, (∀ w, (Builtin.lenOf xv).run P w = .ok m w) → (Builtin.firstCells ie.size (Nat.min m ns) xv).run P w = .ok xs.toArray w → (match base with | some a => (storeCells a xs 0).run P w = .ok () w1 | none => w1 = w) →
          (Builtin.copy_ #[t, u] ty #[.slice base ns c, xv]).run P w = .ok (goInt (Nat.min m ns)) w1 := fun {base c xv ty w w1 xs} h1 h2 h3 => by
        cases base with
        | none =>
          dsimp only at h3
          subst h3
          simp [Builtin.copy_, run_underlying ht, sizeOf, typeInfo, hie, h1, h2]
        | some a => simp [Builtin.copy_, run_underlying ht, sizeOf, typeInfo, hie, h1, h2, h3]
      split at h2
      · simp only [aLenS, Option.some.injEq] at hns
        subst hns
        refine ⟨_, H, acc1, h2, fun ρ μ B w sv xv ty hR hB hs hx => ?_⟩
        simp only [rel] at hs
        subst hs
        obtain ⟨xs, e1, e2, e3⟩ := hsrc ρ μ B w xv hR hx
        exact ⟨_, μ, w, hrun (aLenS_run hm hx) e1 rfl, rfl, Step.refl _ _ _, hR, Below.refl _ _⟩
      · simp only [aLenS, Option.some.injEq] at hns
        subst hns
        cases hb : Nat.beq l.length 0 with
        | false => rw [hb] at h2; cases h2
        | true =>
          rw [hb, cond_true] at h2
          rw [Nat.beq_eq] at hb
          refine ⟨_, H, acc1, h2, fun ρ μ B w sv xv ty hR hB hs hx => ?_⟩
          obtain ⟨a, c, rfl, _⟩ := hs
          obtain ⟨xs, e1, e2, e3⟩ := hsrc ρ μ B w xv hR hx
          have : xs = [] := List.eq_nil_of_length_eq_zero (by rw [← e2.length, hb])
          subst this
          exact ⟨_, μ, w, hrun (aLenS_run hm hx) e1 rfl, rfl, Step.refl _ _ _, hR, Below.refl _ _⟩
      · rename_i id off len cap
        simp only [aLenS, Option.some.injEq] at hns
        subst hns
        obtain ⟨H1, acc2, h3, hst⟩ := storeN_run (P := P) id l off _ H n acc1 r h2
        refine ⟨_, H1, acc2, h3, fun ρ μ B w sv xv ty hR hB hs hx => ?_⟩
        obtain ⟨b, f, hid, rfl⟩ := hs
        obtain ⟨xs, e1, e2, e3⟩ := hsrc ρ μ B w xv hR hx
        obtain ⟨w1, q1, q2, q3⟩ := hst ρ μ B w b f xs 0 hR (.inl hid) e2 e3 (f + off) rfl
        exact ⟨_, μ, w1, hrun (aLenS_run hm hx) e1 q1, rfl, Step.refl _ _ _, q2, q3⟩
      · rename_i id off len sz
        simp only [aLenS, Option.some.injEq] at hns
        subst hns
        obtain ⟨H1, acc2, h3, hst⟩ := storeN_run (P := P) id l off _ H n acc1 r h2
        refine ⟨_, H1, acc2, h3, fun ρ μ B w sv xv ty hR hB hs hx => ?_⟩
        obtain ⟨b, f, N, c, hid, rfl, _⟩ := hs
        obtain ⟨xs, e1, e2, e3⟩ := hsrc ρ μ B w xv hR hx
        obtain ⟨w1, q1, q2, q3⟩ := hst ρ μ B w b f xs 0 hR (.inl (Names.cell_of hid rfl)) e2 e3 (f + off) rfl
        exact ⟨_, μ, w1, hrun (aLenS_run hm hx) e1 q1, rfl, Step.refl _ _ _, q2, q3⟩
      · cases h2
    · cases h
  · cases h
end
end
end Go.Proofs.YtdoegipkfjndbaaGreatDoor.Ev
