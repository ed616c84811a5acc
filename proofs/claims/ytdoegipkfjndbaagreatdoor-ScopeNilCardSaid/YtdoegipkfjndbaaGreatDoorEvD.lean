/-
  An evaluator of Go's code over known data, run by the kernel: code, functions, regions that draw their order, closed calls. Nothing of the program.
-/
import Derived.Test.YtdoegipkfjndbaaGreatDoorEvC
import Derived.LoopN
import Derived.Scope
import Derived.RegionTactic
import Derived.OrdersHeld
import Derived.Deep.RegionHeld
namespace Go.Proofs.YtdoegipkfjndbaaGreatDoor.Ev
set_option linter.unusedVariables false
set_option linter.unusedSimpArgs false
noncomputable section
open Go.RowKit
section
variable (P : Program)
/-- a load by a place that is one of some -/
def aLoadI (t : TypeId) : AV → (AV → AM) → AM
  | .ite c p q, k => aLoad P t p fun v => aLoadI t q fun u => k (.ite c v u)
  | p, k => aLoad P t p k
def aLoadS (A : Ass) (t : TypeId) (p : AV) (k : AV → AM) : AM :=
  match p with
  | .ite c a b => aLoadI P t (.ite c a b) fun v => k (foldS A v)
  | .fptr b off => match P.underlying t with
    | some d => bif rowDesc d then .fail 91 else match A.g b off with
      | some (kd, x) => k (.int kd x)
      | none => .fail 92
    | none => .fail 93
  | p => aLoad P t p k
variable {P}
theorem aLoad_run1 {t : TypeId} {p : AV} {k : AV → AM} {H : Mem} {n : Nat} {acc : List Tok} {r : Out × Mem × Nat × List Tok} (h : (aLoad P t p k).run H n acc = some r) :
    ∃ v acc1, (k v).run H n acc1 = some r ∧ ∀ (ρ : Val) (μ : Names) (B : Nat) (w : World) (u : Value), R ρ μ B H w → rel ρ μ p u → ∃ b f x, u = .pointer (some ⟨b, f, none⟩) ∧ (loadVar t ⟨b, f, none⟩).run P w = .ok x w ∧ rel ρ μ v x := by
  unfold aLoad at h
  split at h
  · rename_i id off d hu
    cases hd : rowDesc d with
    | true =>
      rw [hd, cond_true] at h
      obtain ⟨l, acc1, e1, e2, e3⟩ := loadN_run id _ _ _ H n acc r h
      refine ⟨.agg l, acc1, e1, fun ρ μ B w u hR hr => ?_⟩
      obtain ⟨b, f, m, rfl⟩ := hr
      obtain ⟨z, q1, q2⟩ := (run_loadVar (P := P) (off := off) hR m hu).1 hd l e2 e3
      exact ⟨b, f + off, z, rfl, q1, q2⟩
    | false =>
      rw [hd, cond_false] at h
      simp only [AM.run_ret, AM.run_fail, AM.run_load, AM.run_store, AM.run_alloc, AM.run_sub, AM.run_call, AM.run_here, AM.run_drop, AM.run_renew] at h
      cases hv : H.at id off with
      | none => simp [hv] at h
      | some v =>
        simp only [hv] at h
        refine ⟨v, _, h, fun ρ μ B w u hR hr => ?_⟩
        obtain ⟨b, f, m, rfl⟩ := hr
        obtain ⟨z, q1, q2⟩ := (run_loadVar (P := P) (off := off) hR m hu).2 hd v hv
        exact ⟨b, f + off, z, rfl, q1, q2⟩
  · cases h
theorem aLoadI_run {t : TypeId} : ∀ (p : AV) {k : AV → AM} {H : Mem} {n : Nat} {acc : List Tok} {r : Out × Mem × Nat × List Tok}, (aLoadI P t p k).run H n acc = some r →
    ∃ v acc1, (k v).run H n acc1 = some r ∧ ∀ (ρ : Val) (μ : Names) (B : Nat) (w : World) (u : Value), R ρ μ B H w → rel ρ μ p u → ∃ b f x, u = .pointer (some ⟨b, f, none⟩) ∧ (loadVar t ⟨b, f, none⟩).run P w = .ok x w ∧ rel ρ μ v x
  | .ite c p q, k, H, n, acc, r, h => by
    rw [aLoadI] at h
    obtain ⟨v, acc1, h1, e1⟩ := aLoad_run1 h
    obtain ⟨u, acc2, h2, e2⟩ := aLoadI_run q h1
    refine ⟨.ite c v u, acc2, h2, fun ρ μ B w z hR hz => ?_⟩
    simp only [rel] at hz
    cases hc : c.den ρ with
    | true =>
      obtain ⟨b, f, x, q1, q2, q3⟩ := e1 ρ μ B w z hR (hz.1 hc)
      exact ⟨b, f, x, q1, q2, by simp only [rel]; exact ⟨fun _ => q3, fun e => (by rw [hc] at e; cases e)⟩⟩
    | false =>
      obtain ⟨b, f, x, q1, q2, q3⟩ := e2 ρ μ B w z hR (hz.2 hc)
      exact ⟨b, f, x, q1, q2, by simp only [rel]; exact ⟨fun e => (by rw [hc] at e; cases e), fun _ => q3⟩⟩
  | .int .., _, _, _, _, _, h | .bool _, _, _, _, _, _, h | .str _, _, _, _, _, _, h | .nilPtr, _, _, _, _, _, h | .ptr .., _, _, _, _, _, h | .nilSlice, _, _, _, _, _, h | .slice .., _, _, _, _, _, h | .rowS .., _, _, _, _, _, h
  | .emptyS, _, _, _, _, _, h | .nilMap, _, _, _, _, _, h | .mapP _, _, _, _, _, _, h | .objP _, _, _, _, _, _, h | .func .., _, _, _, _, _, h | .nilFunc, _, _, _, _, _, h | .iface .., _, _, _, _, _, h | .nilIface, _, _, _, _, _, h
  | .agg _, _, _, _, _, _, h | .tuple _, _, _, _, _, _, h | .any, _, _, _, _, _, h | .mapO .., _, _, _, _, _, h | .iterO .., _, _, _, _, _, h | .yieldF _, _, _, _, _, _, h | .txt _, _, _, _, _, _, h | .fptr .., _, _, _, _, _, h | .rowF .., _, _, _, _, _, h | .sym _, _, _, _, _, _, h | .loopO .., _, _, _, _, _, h | .defO, _, _, _, _, _, h | .defX, _, _, _, _, _, h => by simp only [aLoadI] at h; exact aLoad_run1 h
theorem aLoadS_run {A : Ass} {t : TypeId} {p : AV} {k : AV → AM} {H : Mem} {n : Nat} {acc : List Tok} {r : Out × Mem × Nat × List Tok} (h : (aLoadS P A t p k).run H n acc = some r) :
    ∃ v acc1, (k v).run H n acc1 = some r ∧ ∀ (ρ : Val) (μ : Names) (B : Nat) (w : World) (u : Value), A.has ρ → R ρ μ B H w → rel ρ μ p u → ∃ b f x, u = .pointer (some ⟨b, f, none⟩) ∧ (loadVar t ⟨b, f, none⟩).run P w = .ok x w ∧ rel ρ μ v x := by
  unfold aLoadS at h
  split at h
  · obtain ⟨v, acc1, h1, e1⟩ := aLoadI_run _ h
    refine ⟨foldS A v, acc1, h1, fun ρ μ B w u hA hR hu => ?_⟩
    obtain ⟨b, f, x, q1, q2, q3⟩ := e1 ρ μ B w u hR hu
    exact ⟨b, f, x, q1, q2, foldS_rel hA q3⟩
  · rename_i b off
    split at h
    · rename_i d hd
      cases hr : rowDesc d with
      | true => rw [hr] at h; cases h
      | false =>
        rw [hr, cond_false] at h
        split at h
        · rename_i kd x hg
          refine ⟨.int kd x, acc, h, fun ρ μ B w u hA hR hu => ?_⟩
          simp only [rel] at hu
          subst hu
          refine ⟨(b.at ρ).1, (b.at ρ).2 + off, .int kd (x.den ρ), rfl, ?_, rfl⟩
          have hc := hA.g b off kd x hg w hR.keep.1
          simp [loadVar, Sem.run_bind, run_isAgg P hd w, hr, hc]
        · cases h
    · cases h
  · obtain ⟨v, acc1, h1, e1⟩ := aLoad_run1 h
    exact ⟨v, acc1, h1, fun ρ μ B w u hA hR hu => e1 ρ μ B w u hR hu⟩
end
section
variable (P : Program) (A : Ass) (call : Tg → List AV → AM)
/-- is what an operation yields laid out as it stands? -/
def laidOp : Op → Bool
  | .move _ | .assign _ | .extract .. | .nilCheck _ => true
  | _ => false
def aop (T : Sl) (o : Oper) (k : AV → AM) : AM :=
  match aPure P A T o with
  | some v => bif laidOp o.op then k v else v.force k
  | none => match o.op with
    | .load t x => match val T x with
      | some p => aLoadS P A t p k
      | none => .fail 3
    | .store t x y => match val T x, val T y with
      | some p, some v => aStore P t p v (k .any)
      | _, _ => .fail 4
    | .alloc t => match zeroOf P t with
      | some l => .alloc l fun i => k (.ptr i 0)
      | none => .fail 5
    | .box t x => match val T x with
      | some v => match v.cells with
        | some l => bif allOne l then .alloc l fun i => k (.ptr i 0) else .fail 6
        | none => .fail 6
      | none => .fail 6
    | .call c => match c.callee with
      | .value f => match val T f, vals T c.args.toList with
        | some (.func (.func g) fs cs), some l => match P.funcs[g]? with
          | some fn => bif fn.name == "runtime.NumGoroutine" || fn.body.isNone then .fail 7 else .call (call (.fn g) (fs ++ l ++ cs)) fun out => k out.v
          | none => .fail 7
        | some (.yieldF lp), some l => .call (call (.yield lp) l) fun out => k out.v
        | _, _ => .fail 7
      | _ => aMost P A T o fun v => v.force k
    | _ => aMost P A T o fun v => v.force k
variable {P A call}
theorem aop_run {B N : Nat} (hcall : CallOk P A B call) {T : Sl} {o : Oper} {k : AV → AM} {H : Mem} {n : Nat} {acc : List Tok} {r : Out × Mem × Nat × List Tok} (h : (aop P A call T o k).run H n acc = some r) :
    ∃ v H1 n1 acc1, (k v).run H1 n1 acc1 = some r ∧ OpOk P A B N o T H n v H1 n1 := by
  unfold aop at h
  cases hp : aPure P A T o with
  | some v =>
    rw [hp] at h
    dsimp only at h
    rw [AV.force_eq, Bool.cond_self] at h
    refine ⟨v, H, n, acc, h, Nat.le_refl _, fun ρ μ a w hA hT hR hB hf rb K Q hK => ?_⟩
    obtain ⟨z, e1, e2⟩ := run_pure P hp hA hT w
    exact wp_value e1 (hK z μ w e2 (Step.refl _ _ _) hR (Below.refl _ _))
  | none =>
    rw [hp] at h
    dsimp only at h
    split at h
    · rename_i t x ho
      split at h
      · rename_i p hx
        obtain ⟨v, acc1, h1, e1⟩ := aLoadS_run h
        refine ⟨v, H, n, acc1, h1, Nat.le_refl _, fun ρ μ a w hA hT hR hB hf rb K Q hK => ?_⟩
        obtain ⟨b, f, z, ev, q1, q2⟩ := e1 ρ μ B w _ hA hR (val_rel hT hx)
        refine wp_value (x := z) (w1 := w) ?_ (hK z μ w q2 (Step.refl _ _ _) hR (Below.refl _ _))
        unfold execOp
        rw [ho]
        simp [ev, Instr.loadAt, Instr.sureAddr, Sem.run_bind, q1]
      · cases h
    · rename_i t x y ho
      split at h
      · rename_i p v hx hy
        unfold aStore at h
        split at h
        · rename_i id off l d hl hu
          obtain ⟨ii, hii⟩ := info_some P hu
          cases hb : (Nat.beq l.length (P.cellsOf t) && allOne l) with
          | false => rw [hb] at h; cases h
          | true =>
            rw [hb, cond_true] at h
            obtain ⟨H1, acc1, e1, e2⟩ := storeN_run (P := P) id l off _ H n acc r h
            rw [Bool.and_eq_true, Nat.beq_eq] at hb
            refine ⟨.any, H1, n, acc1, e1, Nat.le_refl _, fun ρ μ a w hA hT hR hB hf rb K Q hK => ?_⟩
            obtain ⟨b, f, m, ev⟩ := val_rel hT hx
            have rv := cells_rel hl (val_rel hT hy)
            obtain ⟨w1, q1, q2, q3⟩ := e2 ρ μ B w b f _ 0 hR (.inl m) rv (allOne_rel hb.2 rv) (f + off) rfl
            refine wp_skip' (w1 := w1) ?_ (hK undef μ w1 trivial (Step.refl _ _ _) q2 q3)
            have hsz : (a.eval y).cells.size = P.cellsOf t := by
              have := rv.length
              rw [hb.1] at this
              simpa using this.symm
            unfold execOp
            rw [ho]
            simp [ev, Instr.storeAt, Instr.sureAddr, Sem.run_bind, storeVar, run_sizeOf w hii, hsz, q1]
        · cases h
      · cases h
    · rename_i t ho
      split at h
      · rename_i l hz
        simp only [AM.run_ret, AM.run_fail, AM.run_load, AM.run_store, AM.run_alloc, AM.run_sub, AM.run_call, AM.run_here, AM.run_drop, AM.run_renew] at h
        refine ⟨.ptr n 0, H.new n l, n + 1, acc, h, by omega, fun ρ μ a w hA hT hR hB hf rb K Q hK => ?_⟩
        obtain ⟨z, q1, q2, q3⟩ := zeroOf_run P hz ρ μ w
        have hn : μ.get n = none := hf n (Nat.le_refl _) (by omega)
        have hR2 := hR.alloc hB hn q2 (allOne_rel q3 q2) t []
        simp only [List.append_nil, Array.toArray_toList] at hR2
        refine wp_value (x := .pointer (some ⟨w.heap.size, 0, none⟩)) (w1 := w.alloc (.cells z.cells t)) ?_ (hK _ (μ.add n (.cells w.heap.size 0)) _ ⟨w.heap.size, 0, Names.cell_of (Names.add_new _ _ _) rfl, rfl⟩ ⟨Names.le_add hn _, fun i hi => Names.add_ne _ _ (by omega)⟩ hR2 ((Below.refl _ _).alloc hB _))
        unfold execOp
        rw [ho]
        simp [Instr.alloc, Sem.run_bind, q1, run_newVar]
      · cases h
    · rename_i t x ho
      split at h
      · rename_i v hx
        split at h
        · rename_i l hl
          cases h1 : allOne l with
          | false => rw [h1] at h; cases h
          | true =>
            rw [h1, cond_true] at h
            simp only [AM.run_ret, AM.run_fail, AM.run_load, AM.run_store, AM.run_alloc, AM.run_sub, AM.run_call, AM.run_here, AM.run_drop, AM.run_renew] at h
            refine ⟨.ptr n 0, H.new n l, n + 1, acc, h, by omega, fun ρ μ a w hA hT hR hB hf rb K Q hK => ?_⟩
            have q2 := cells_rel hl (val_rel hT hx)
            have hn : μ.get n = none := hf n (Nat.le_refl _) (by omega)
            have hR2 := hR.alloc hB hn q2 (allOne_rel h1 q2) t []
            simp only [List.append_nil, Array.toArray_toList] at hR2
            refine wp_value (x := .pointer (some ⟨w.heap.size, 0, none⟩)) (w1 := w.alloc (.cells (a.eval x).cells t)) ?_ (hK _ (μ.add n (.cells w.heap.size 0)) _ ⟨w.heap.size, 0, Names.cell_of (Names.add_new _ _ _) rfl, rfl⟩ ⟨Names.le_add hn _, fun i hi => Names.add_ne _ _ (by omega)⟩ hR2 ((Below.refl _ _).alloc hB _))
            unfold execOp
            rw [ho]
            simp [Instr.box, Sem.run_bind, run_newVar]
        · cases h
      · cases h
    · rename_i c ho
      split at h
      · rename_i f hc
        split at h
        · rename_i g fs cs l hf hl
          split at h
          · rename_i fn hfn
            cases hb : (fn.name == "runtime.NumGoroutine" || fn.body.isNone) with
            | true => rw [hb] at h; cases h
            | false =>
              rw [hb, cond_false] at h
              simp only [AM.run_ret, AM.run_fail, AM.run_load, AM.run_store, AM.run_alloc, AM.run_sub, AM.run_call, AM.run_here, AM.run_drop, AM.run_renew] at h
              cases hr : (call (.fn g) (fs ++ l ++ cs)).run H n [] with
              | none => rw [hr] at h; cases h
              | some q =>
                obtain ⟨out, H1, n1, l1⟩ := q
                rw [hr] at h
                dsimp only at h
                obtain ⟨hn, hq⟩ := hcall _ _ _ _ _ _ _ _ _ hr
                refine ⟨out.v, H1, n1, _, h, hn, fun ρ μ a w hA hT hR hB hfr rb K Q hK => ?_⟩
                obtain ⟨xs, ys, ev, r1, r2⟩ := val_rel hT hf
                have ra := vals_rel hT hl
                have hC := hq ρ μ (xs ++ c.args.toList.map a.eval ++ ys) w hA (relL.append (relL.append r1 ra) r2) hR hB hfr
                rw [Bool.or_eq_false_iff] at hb
                have hrun : (execOp a.eval o).run P w = .ok (.enter g (xs ++ c.args.toList.map a.eval ++ ys).toArray) w := by
                  unfold execOp
                  rw [ho]
                  have hargs : xs.toArray ++ Array.map a.eval c.args ++ ys.toArray = (xs ++ c.args.toList.map a.eval ++ ys).toArray := by
                    apply Array.ext'
                    simp
                  have hname : ¬ fn.name = "runtime.NumGoroutine" := by simpa using hb.1
                  have hbody : fn.body ≠ none := fun e => by rw [e] at hb; simp at hb
                  simp only [resolve, hc, ev, Deferred.ofValue, invoke, callFunc, Sem.run_bind, Sem.run_pure, Result.andThen_ok, run_program, hfn, hb.1, hb.2, hargs, Bool.false_eq_true, if_false]
                refine ⟨fun _ _ => trivial, ?_⟩
                rw [sem_plain _ hrun (fun d hd => by cases hd)]
                refine ⟨fun h => (by cases h), ?_⟩
                refine (callsIn_wide (n := 0)).2 (hC.mono fun e w1 he => ?_)
                obtain ⟨x, μ1, rfl, r3, r4, r5, r6⟩ := he
                exact hK x μ1 w1 r3 r4 r5 r6
          · cases h
        · rename_i lp l hf hl
          simp only [AM.run_ret, AM.run_fail, AM.run_load, AM.run_store, AM.run_alloc, AM.run_sub, AM.run_call, AM.run_here, AM.run_drop, AM.run_renew] at h
          cases hr : (call (.yield lp) l).run H n [] with
          | none => rw [hr] at h; cases h
          | some q =>
            obtain ⟨out, H1, n1, l1⟩ := q
            rw [hr] at h
            dsimp only at h
            obtain ⟨hn, hq⟩ := hcall _ _ _ _ _ _ _ _ _ hr
            refine ⟨out.v, H1, n1, _, h, hn, fun ρ μ a w hA hT hR hB hfr rb K Q hK => ?_⟩
            obtain ⟨b, hb, ev⟩ := val_rel hT hf
            have ra := vals_rel hT hl
            obtain ⟨fn, tmps, assign, body, e1, e2⟩ := hq ρ μ (c.args.toList.map a.eval) w hA ra hR hB hfr b hb
            have hrun : (execOp a.eval o).run P w = .ok (.round b fn tmps assign body) w := by
              unfold execOp
              rw [ho]
              have hargs : #[] ++ Array.map a.eval c.args = (c.args.toList.map a.eval).toArray := by
                apply Array.ext'
                simp
              simp only [resolve, hc, ev, Deferred.ofValue, invoke, Sem.run_bind, Sem.run_pure, Result.andThen_ok, hargs, e1]
            refine ⟨fun _ _ => trivial, ?_⟩
            rw [sem_plain _ hrun (fun d hd => by cases hd)]
            refine ⟨fun h => (by cases h), ?_⟩
            refine (show RoundIn Fence.wide 0 P b fn tmps assign body w _ from e2.mono fun e w1 he => ?_)
            obtain ⟨x, μ1, rfl, r3, r4, r5, r6⟩ := he
            exact hK x μ1 w1 r3 r4 r5 r6
        · cases h
      · simp only [AV.force_eq] at h
        exact aMost_run h
    · simp only [AV.force_eq] at h
      exact aMost_run h
end
section
/-! ### the same by one recursor over constants: the kernel copies little -/
abbrev OpM := Program → Ass → (Tg → List AV → AM) → Sl → Oper → (AV → AM) → AM
def oK (x : Option AV) (e : AM) (f : AV → AM) : AM := Option.rec (motive := fun _ => AM) e f x
def valT (t : Nat) : Sl → Option AV := fun T => T.get t
def valC (v : Value) : Sl → Option AV := fun _ => ofV v
def valG (g : Nat) : Sl → Option AV := fun _ => some (.fptr (.glob g) 0)
def valF (f : FuncId) : Sl → Option AV := fun _ => some (.func (.func f) [] [])
def valX (x : Operand) : Sl → Option AV := Operand.rec (motive := fun _ => Sl → Option AV) valT valC valG valF x
theorem valX_eq (T : Sl) (x : Operand) : valX x T = val T x := by cases x <;> rfl
/-! a value laid out, by one recursor over constants -/
abbrev XM := (AV → AM) → AM
def xInt (n : Int) : IntKind → XM := Int.rec (motive := fun _ => IntKind → XM) (fun a k c => natK a fun a => c (.int k (.lit (.ofNat a)))) (fun a k c => natK a fun a => c (.int k (.lit (.negSucc a)))) n
def xSI (x : SI) : IntKind → XM := SI.rec (motive := fun _ => IntKind → XM) xInt (fun i k c => (AV.int k (.atom i)).force c) (fun op k' x y _ _ k c => (AV.int k (.bin op k' x y)).force c) (fun k' x _ k c => (AV.int k (.wrap k' x)).force c) (fun s x _ k c => (AV.int k (.sel s x)).force c) x
def xInt0 : IntKind → SI → XM := fun k x => xSI x k
def xLit : Bool → XM := fun b c => cond b (c (.bool (.lit true))) (c (.bool (.lit false)))
def xBool (x : SB) : XM := SB.casesOn (motive := fun _ => XM) x xLit (fun i c => (AV.bool (.atom i)).force c) (fun x c => (AV.bool (.not x)).force c) (fun o x y c => (AV.bool (.cmp o x y)).force c) (fun x y c => (AV.bool (.beq x y)).force c) (fun a x y c => (AV.bool (.ite a x y)).force c) (fun x y c => (AV.bool (.seq x y)).force c)
def xPtr : Nat → Nat → XM := fun i o c => natK o fun o => c (.ptr i o)
def forceX (v : AV) : XM :=
  AV.rec (motive_1 := fun _ => XM) (motive_2 := fun _ => Unit) xInt0 xBool (fun l c => (AV.str l).force c) (fun c => c .nilPtr) xPtr (fun c => c .nilSlice) (fun i o n m c => (AV.slice i o n m).force c) (fun i o n m c => (AV.rowS i o n m).force c) (fun c => c .emptyS) (fun c => c .nilMap) (fun i c => c (.mapP i)) (fun i c => c (.objP i))
    (fun f a b _ _ c => (AV.func f a b).force c) (fun c => c .nilFunc) (fun t v _ c => (AV.iface t v).force c) (fun c => c .nilIface) (fun l _ c => (AV.agg l).force c) (fun l _ c => (AV.tuple l).force c) (fun s x y _ _ c => (AV.ite s x y).force c) (fun c => c .any) (fun a b _ _ c => (AV.mapO a b).force c) (fun l n c => (AV.iterO l n).force c) (fun i c => c (.yieldF i)) (fun x c => c (.txt x)) (fun b o c => (AV.fptr b o).force c) (fun b o n c => (AV.rowF b o n).force c) (fun i c => c (.sym i)) (fun a b l ps x y d _ c => (AV.loopO a b l ps x y d).force c) (fun c => c .defO) (fun c => c .defX) () (fun _ _ _ _ => ()) v
theorem forceX_eq (v : AV) (c : AV → AM) : forceX v c = c v := by
  cases v with
  | int k x =>
    cases x with
    | lit z => cases z with
      | ofNat a => exact natK_eq a fun a => c (.int k (.lit (.ofNat a)))
      | negSucc a => exact natK_eq a fun a => c (.int k (.lit (.negSucc a)))
    | _ => exact AV.force_eq ..
  | bool x =>
    cases x with
    | lit b => cases b <;> rfl
    | _ => exact AV.force_eq ..
  | ptr i o => exact natK_eq o fun o => c (.ptr i o)
  | _ => first | rfl | exact AV.force_eq ..
/-! two numbers that are known -/
def kIx (k : IntKind) : Nat := IntKind.rec (motive := fun _ => Nat) 0 1 2 3 4 5 6 7 k
def kTop (k : IntKind) : Nat := IntKind.rec (motive := fun _ => Nat) 128 32768 2147483648 9223372036854775808 256 65536 4294967296 18446744073709551616 k
theorem kIx_eq {k k' : IntKind} (h : Nat.beq (kIx k) (kIx k') = true) : k = k' := by
  cases k <;> cases k' <;> first | rfl | cases h
theorem wrap_top {k : IntKind} {s : Nat} (h : Nat.blt s (kTop k) = true) : k.wrap (s : Int) = s := by
  rw [blt_iff] at h
  cases k <;> simp only [kTop] at h <;> simp [IntKind.wrap, IntKind.bits, IntKind.signed] <;> omega
theorem natM_top {k : IntKind} {s : Nat} (h : Nat.blt s (kTop k) = true) : natM k (.ofNat s) = s := by
  rw [blt_iff] at h
  cases k <;> simp only [kTop] at h <;> simp only [natM, modF] <;> omega
theorem wrapN_top {k : IntKind} {s : Nat} (h : Nat.blt s (kTop k) = true) : wrapN k s = .ofNat s := by
  have e := h
  rw [blt_iff] at h
  rw [wrapN_eq k s (by cases k <;> simp only [kTop] at h <;> simp only [modF] <;> omega), wrap_top e]
  rfl
def natOf (a : AV) (e : AM) (c : IntKind → Nat → AM) : AM := View.rec (motive := fun _ => AM) c (fun _ => e) (fun _ => e) e a.view
abbrev FM := IntKind → Nat → Nat → AM → (AV → AM) → AM
def fPut : IntKind → Nat → AM → (AV → AM) → AM := fun k s e c => natK s fun s => cond (Nat.blt s (kTop k)) (c (.int k (.lit (.ofNat s)))) e
def fAdd : FM := fun k x y e c => fPut k (Nat.add x y) e c
def fSub : FM := fun k x y e c => cond (Nat.ble y x) (fPut k (Nat.sub x y) e c) e
def fMul : FM := fun k x y e c => fPut k (Nat.mul x y) e c
def fQuo : FM := fun k x y e c => cond (Nat.beq y 0) e (fPut k (Nat.div x y) e c)
def fRem : FM := fun k x y e c => cond (Nat.beq y 0) e (fPut k (Nat.mod x y) e c)
def fTwo (f : Nat → Nat → Nat) : FM := fun k x y e c => cond (Nat.blt x (kTop k)) (cond (Nat.blt y (kTop k)) (fPut k (f x y) e c) e) e
def fSlow : FM := fun _ _ _ e _ => e
def fB : Bool → (AV → AM) → AM := fun b c => cond b (c (.bool (.lit true))) (c (.bool (.lit false)))
def fEql : FM := fun _ x y _ c => fB (Nat.beq x y) c
def fNeq : FM := fun _ x y _ c => cond (Nat.beq x y) (c (.bool (.lit false))) (c (.bool (.lit true)))
def fLss : FM := fun _ x y _ c => fB (Nat.blt x y) c
def fLeq : FM := fun _ x y _ c => fB (Nat.ble x y) c
def fGtr : FM := fun _ x y _ c => fB (Nat.blt y x) c
def fGeq : FM := fun _ x y _ c => fB (Nat.ble y x) c
def fBin (op : BinOp) : FM := BinOp.rec (motive := fun _ => FM) fAdd fSub fMul fQuo fRem (fTwo Nat.land) (fTwo Nat.lor) (fTwo Nat.xor) fSlow fSlow fSlow fEql fNeq fLss fLeq fGtr fGeq op
theorem fPut_eq {k : IntKind} {s : Nat} {G : AM} {c : AV → AM} (h : k.wrap (s : Int) = s → natM k (.ofNat s) = s → Nat.blt s (kTop k) = true → c (.int k (.lit (.ofNat s))) = G) : fPut k s G c = G := by
  unfold fPut
  rw [natK_eq]
  cases hb : Nat.blt s (kTop k) with
  | false => rfl
  | true => exact h (wrap_top hb) (natM_top hb) hb
theorem ble_blt (x y : Nat) : Nat.ble x y = !Nat.blt y x := by
  rw [Bool.eq_iff_iff, Bool.not_eq_true', ← Bool.not_eq_true, blt_iff, Nat.ble_eq]
  omega
theorem fB_eq {b : Bool} {G : AM} {c : AV → AM} (h : c (.bool (.lit b)) = G) : fB b c = G := by
  cases b <;> exact h
theorem fBin_eq {op : BinOp} {k : IntKind} {x y : Nat} {G : AM} {c : AV → AM} (h : ∀ v, aInt op k (.lit (.ofNat x)) k (.lit (.ofNat y)) = some v → c v = G) : fBin op k x y G c = G := by
  have two : ∀ (f : Nat → Nat → Nat), (∀ s, s = f x y → natM k (.ofNat x) = x → natM k (.ofNat y) = y → wrapN k s = .ofNat s → aInt op k (.lit (.ofNat x)) k (.lit (.ofNat y)) = some (.int k (.lit (.ofNat s)))) → fTwo f k x y G c = G := fun f hf => by
    unfold fTwo
    cases hx : Nat.blt x (kTop k) with
    | false => rfl
    | true =>
      cases hy : Nat.blt y (kTop k) with
      | false => rfl
      | true => exact fPut_eq fun _ _ e3 => h _ (hf _ rfl (natM_top hx) (natM_top hy) (wrapN_top e3))
  have bb : (k == k) = true := by simp
  cases op with
  | add => exact fPut_eq fun e1 _ _ => h _ (by simp only [aInt, bb, cond_true, SI.mk, binF, wrapF_eq]; rw [show (Int.ofNat x + Int.ofNat y) = ((Nat.add x y : Nat) : Int) from rfl, e1]; rfl)
  | sub =>
    show cond (Nat.ble y x) _ G = G
    cases hb : Nat.ble y x with
    | false => rfl
    | true =>
      rw [Nat.ble_eq] at hb
      exact fPut_eq fun e1 _ _ => h _ (by simp only [aInt, bb, cond_true, SI.mk, binF, wrapF_eq]; rw [show (Int.ofNat x - Int.ofNat y) = ((Nat.sub x y : Nat) : Int) from (Int.ofNat_sub hb).symm, e1]; rfl)
  | mul => exact fPut_eq fun e1 _ _ => h _ (by simp only [aInt, bb, cond_true, SI.mk, binF, wrapF_eq]; rw [show (Int.ofNat x * Int.ofNat y) = ((Nat.mul x y : Nat) : Int) from rfl, e1]; rfl)
  | quo =>
    show cond (Nat.beq y 0) G _ = G
    cases hb : Nat.beq y 0 with
    | true => rfl
    | false => exact fPut_eq fun e1 _ _ => h _ (by simp only [aInt, bb, SI.lit?, eqF, hb, cond_false, SI.mk, binF, wrapF_eq]; rw [show (Int.ofNat x).tdiv (Int.ofNat y) = ((Nat.div x y : Nat) : Int) from rfl, e1]; rfl)
  | rem =>
    show cond (Nat.beq y 0) G _ = G
    cases hb : Nat.beq y 0 with
    | true => rfl
    | false => exact fPut_eq fun _ _ _ => h _ (by simp only [aInt, bb, SI.lit?, eqF, hb, cond_false, SI.mk, binF]; rfl)
  | and => exact two _ fun s hs e1 e2 e3 => by simp only [aInt, bb, cond_true, SI.mk, binF, bitsF, e1, e2]; rw [← hs, e3]
  | or => exact two _ fun s hs e1 e2 e3 => by simp only [aInt, bb, cond_true, SI.mk, binF, bitsF, e1, e2]; rw [← hs, e3]
  | xor => exact two _ fun s hs e1 e2 e3 => by simp only [aInt, bb, cond_true, SI.mk, binF, bitsF, e1, e2]; rw [← hs, e3]
  | shl => rfl
  | shr => rfl
  | andNot => rfl
  | eql => exact fB_eq (h _ (by simp only [aInt, bb, cond_true, SB.cm, cmpF, eqF]))
  | neq =>
    have := h _ (show aInt .neq k (.lit (.ofNat x)) k (.lit (.ofNat y)) = some (.bool (.lit (!Nat.beq x y))) by simp only [aInt, bb, cond_true, SB.cm, cmpF, eqF])
    show cond (Nat.beq x y) _ _ = G
    cases hb : Nat.beq x y <;> rw [hb] at this <;> exact this
  | lss => exact fB_eq (h _ (by simp only [aInt, bb, cond_true, SB.cm, cmpF, ltF]))
  | leq => exact fB_eq (h _ (by simp only [aInt, bb, cond_true, SB.cm, cmpF, ltF, ble_blt]))
  | gtr => exact fB_eq (h _ (by simp only [aInt, bb, cond_true, SB.cm, cmpF, ltF]))
  | geq => exact fB_eq (h _ (by simp only [aInt, bb, cond_true, SB.cm, cmpF, ltF, ble_blt]))
theorem natOf_eq {a : AV} {G : AM} {c : IntKind → Nat → AM} (h : ∀ k x, a = .int k (.lit (.ofNat x)) → c k x = G) : natOf a G c = G := by
  unfold natOf
  cases hv : a.view with
  | num k x => exact h k x (view_num hv)
  | _ => rfl
def gBinS (op : BinOp) (t : TypeId) (x y : Operand) (a b : AV) : OpM := fun P A call T o k => oK (aBin P op t (litConst x) (litConst y) a b) (aop P A call T o k) fun v => v.force k
def gNum (op : BinOp) (a b : AV) (G : AM) (k : AV → AM) : AM := natOf a G fun k1 x => natOf b G fun k2 y => cond (Nat.beq (kIx k1) (kIx k2)) (fBin op k1 x y G k) G
def g0 : OpM := fun P A call T o k => aop P A call T o k
def gMove (x : Operand) : OpM := fun P A call T o k => oK (valX x T) (aop P A call T o k) k
def boolOf (a : AV) (e : AM) (c : Bool → AM) : AM := View.rec (motive := fun _ => AM) (fun _ _ => e) c (fun _ => e) e a.view
theorem boolOf_eq {a : AV} {G : AM} {c : Bool → AM} (h : ∀ b, a = .bool (.lit b) → c b = G) : boolOf a G c = G := by
  unfold boolOf
  cases hv : a.view with
  | bool b => exact h b (view_bool hv)
  | _ => rfl
def gPick (c x y : Operand) : OpM := fun P A call T o k => oK (valX c T) (aop P A call T o k) fun a => boolOf a (oK (aPick A T c x y) (aop P A call T o k) fun v => v.force k) fun b => cond b (oK (valX x T) (aop P A call T o k) k) (oK (valX y T) (aop P A call T o k) k)
def gBin (op : BinOp) (t : TypeId) (x y : Operand) (_ : TypeId) : OpM := fun P A call T o k => oK (valX x T) (aop P A call T o k) fun a => oK (valX y T) (aop P A call T o k) fun b => gNum op a b (gBinS op t x y a b P A call T o k) k
def gUn (op : UnOp) (_ : TypeId) (x : Operand) : OpM := fun P A call T o k => oK (valX x T) (aop P A call T o k) fun a => oK (aUn op a) (aop P A call T o k) fun v => forceX v k
def gConv (s d : TypeId) (x : Operand) : OpM := fun P A call T o k => oK (valX x T) (aop P A call T o k) fun a => oK (aConv P s d a) (aop P A call T o k) fun v => forceX v k
def gFieldAddr (s : TypeId) (x : Operand) (f : Nat) : OpM := fun P A call T o k => oK (valX x T) (aop P A call T o k) fun a => oK (aFieldAt P s a f) (aop P A call T o k) fun v => forceX v k
def gField (s : TypeId) (x : Operand) (f : Nat) : OpM := fun P A call T o k => oK (valX x T) (aop P A call T o k) fun a => oK (aField P s a f) (aop P A call T o k) fun v => forceX v k
def gIndexAddr (t : TypeId) (x i : Operand) : OpM := fun P A call T o k => oK (valX x T) (aop P A call T o k) fun a => oK (valX i T) (aop P A call T o k) fun b => oK (aIndexAt P t a b) (aop P A call T o k) fun v => forceX v k
def gIndex (t : TypeId) (x i : Operand) : OpM := fun P A call T o k => oK (valX x T) (aop P A call T o k) fun a => oK (valX i T) (aop P A call T o k) fun b => oK (aIndex P t a b) (aop P A call T o k) fun v => forceX v k
def gExtract (x : Operand) (i : Nat) : OpM := fun P A call T o k => oK (valX x T) (aop P A call T o k) fun a => oK (aExtract a i) (aop P A call T o k) k
def gNilCheck (x : Operand) : OpM := fun P A call T o k => oK (valX x T) (aop P A call T o k) fun a => oK (aNilCheck a) (aop P A call T o k) k
def gLoad (t : TypeId) (x : Operand) : OpM := fun P A call T o k => oK (valX x T) (aop P A call T o k) fun p => aLoadS P A t p k
def gStore (t : TypeId) (x y : Operand) : OpM := fun P A call T o k => oK (valX x T) (aop P A call T o k) fun p => oK (valX y T) (aop P A call T o k) fun v => aStore P t p v (k .any)
def opX (op : Op) : OpM :=
  Op.rec (motive := fun _ => OpM) gMove gMove gPick (fun _ => g0) (fun _ _ => g0) (fun _ _ => g0) (fun _ _ _ => g0) (fun _ _ _ _ => g0) gLoad gStore (fun _ => g0) (fun _ => g0) gNilCheck gBin gUn gConv (fun _ _ => g0) (fun _ _ => g0)
    (fun _ _ _ => g0) (fun _ _ => g0) (fun _ _ => g0) (fun _ _ _ => g0) (fun _ _ _ _ _ => g0) gFieldAddr gField gIndexAddr gIndex (fun _ _ _ _ => g0) (fun _ _ _ _ => g0) (fun _ _ _ => g0) (fun _ _ _ _ => g0) (fun _ _ => g0) (fun _ _ => g0) (fun _ => g0)
    (fun _ _ _ _ => g0) gExtract (fun _ => g0) (fun _ => g0) (fun _ => g0) (fun _ => g0) (fun _ _ => g0) (fun _ _ _ => g0) (fun _ _ => g0) op
def aopX (P : Program) (A : Ass) (call : Tg → List AV → AM) (T : Sl) (o : Oper) (k : AV → AM) : AM := opX o.op P A call T o k
section
variable {P : Program} {A : Ass} {call : Tg → List AV → AM} {T : Sl} {o : Oper} {k : AV → AM}
theorem hot2 {r : Option AV} {g : AV → AM} (h : ∀ a, r = some a → g a = aop P A call T o k) : oK r (aop P A call T o k) g = aop P A call T o k := by
  cases r with
  | none => rfl
  | some a => exact h a rfl
theorem hot1 {r : Option AV} {f : AV → AM} (h : ∀ v, r = some v → aPure P A T o = some v) (hf : ∀ v, f v = k v) : oK r (aop P A call T o k) f = aop P A call T o k :=
  hot2 fun v hv => by
    unfold aop
    rw [h v hv, hf]
    simp only [AV.force_eq, Bool.cond_self]
theorem aopX_eq : aopX P A call T o k = aop P A call T o k := by
  obtain ⟨dst, op, ty, pos, after, guard⟩ := o
  have fe : ∀ v : AV, v.force k = k v := fun v => AV.force_eq ..
  have fx : ∀ v : AV, forceX v k = k v := fun v => forceX_eq v k
  cases op with
  | move x => exact hot1 (fun v hv => by rw [valX_eq] at hv; simp only [aPure, hv]) fun v => rfl
  | assign x => exact hot1 (fun v hv => by rw [valX_eq] at hv; simp only [aPure, hv]) fun v => rfl
  | pick c x y =>
    have slow : oK (aPick A T c x y) (aop P A call T ⟨dst, .pick c x y, ty, pos, after, guard⟩ k) (fun v => v.force k) = aop P A call T ⟨dst, .pick c x y, ty, pos, after, guard⟩ k := hot1 (fun v hv => by simp only [aPure, hv]) fe
    exact hot2 fun a ha => by
      rw [valX_eq] at ha
      rw [slow]
      refine boolOf_eq fun b hb => ?_
      subst hb
      cases b with
      | true => exact hot1 (fun v hv => by rw [valX_eq] at hv; simp only [aPure, aPick, ha, dec, hv]) fun v => rfl
      | false => exact hot1 (fun v hv => by rw [valX_eq] at hv; simp only [aPure, aPick, ha, dec, hv]) fun v => rfl
  | binOp op t x y u =>
    exact hot2 fun a ha => hot2 fun b hb => by
      rw [valX_eq] at ha hb
      have slow : gBinS op t x y a b P A call T ⟨dst, .binOp op t x y u, ty, pos, after, guard⟩ k = aop P A call T ⟨dst, .binOp op t x y u, ty, pos, after, guard⟩ k := hot1 (fun v hv => by simp only [aPure, ha, hb, hv]) fe
      show gNum op a b _ k = _
      rw [slow]
      refine natOf_eq fun k1 x1 e1 => natOf_eq fun k2 y1 e2 => ?_
      cases hk : Nat.beq (kIx k1) (kIx k2) with
      | false => rfl
      | true =>
        have := kIx_eq hk
        subst this e1 e2
        refine fBin_eq fun v hv => ?_
        unfold aop
        rw [show aPure P A T ⟨dst, .binOp op t x y u, ty, pos, after, guard⟩ = some v by simp only [aPure, ha, hb, aBin, hv]]
        simp only [AV.force_eq, Bool.cond_self]
  | unOp op t x => exact hot2 fun a ha => hot1 (fun v hv => by rw [valX_eq] at ha; simp only [aPure, ha, hv]) fx
  | convert s d x => exact hot2 fun a ha => hot1 (fun v hv => by rw [valX_eq] at ha; simp only [aPure, ha, hv]) fx
  | fieldAddr s x f => exact hot2 fun a ha => hot1 (fun v hv => by rw [valX_eq] at ha; simp only [aPure, ha, hv]) fx
  | field s x f => exact hot2 fun a ha => hot1 (fun v hv => by rw [valX_eq] at ha; simp only [aPure, ha, hv]) fx
  | indexAddr t x i => exact hot2 fun a ha => hot2 fun b hb => hot1 (fun v hv => by rw [valX_eq] at ha hb; simp only [aPure, ha, hb]; unfold aIndexAtS; rw [hv]) fx
  | index t x i => exact hot2 fun a ha => hot2 fun b hb => hot1 (fun v hv => by rw [valX_eq] at ha hb; simp only [aPure, ha, hb, hv]) fx
  | extract x i => exact hot2 fun a ha => hot1 (fun v hv => by rw [valX_eq] at ha; simp only [aPure, ha, hv]) fun v => rfl
  | nilCheck x => exact hot2 fun a ha => hot1 (fun v hv => by rw [valX_eq] at ha; simp only [aPure, ha, hv]) fun v => rfl
  | load t x => exact hot2 fun a ha => by rw [valX_eq] at ha; simp only [aop, aPure, ha]
  | store t x y => exact hot2 fun a ha => hot2 fun b hb => by rw [valX_eq] at ha hb; simp only [aop, aPure, ha, hb]
  | _ => rfl
theorem aopX_run {B N : Nat} (hcall : CallOk P A B call) {H : Mem} {n : Nat} {acc : List Tok} {r : Out × Mem × Nat × List Tok} (h : (aopX P A call T o k).run H n acc = some r) :
    ∃ v H1 n1 acc1, (k v).run H1 n1 acc1 = some r ∧ OpOk P A B N o T H n v H1 n1 := aop_run hcall (by rw [← aopX_eq]; exact h)
end
end
end
end Go.Proofs.YtdoegipkfjndbaaGreatDoor.Ev
namespace Go.Proofs.YtdoegipkfjndbaaGreatDoor.Ev
set_option linter.unusedVariables false
set_option linter.unusedSimpArgs false
noncomputable section
open Go.RowKit
def Ex.exit' : Ex → Exit
  | .normal => .normal
  | .exit i => .exit i
  | .goto l => .goto l
  | .ret => .ret
section
variable (P : Program) (A : Ass) (call : Tg → List AV → AM) (N : Nat)
def guardOf (ops : Array Oper) (T : Sl) (o : Oper) : Option Bool :=
  match o.guard with
  | none => some true
  | some (j, want) => match (ops[j]?).bind (·.dst) with
    | none => none
    | some d => match T.get d with
      | some (.bool s) => match dec A s with
        | some b => some (b == want)
        | none => none
      | some (.tuple []) => some false
      | _ => none
def setD (T : Sl) (d : Option Nat) (v : AV) (k : Sl → AM) : AM :=
  match d with
  | none => k T
  | some d => bif Nat.blt d N then T.setK d v k else .fail 11
def guardM (T : Sl) (o : Oper) (ops : Array Oper) (t f n : AM) : AM := match guardOf A ops T o with
  | some true => t
  | some false => f
  | none => n
def guardK (T : Sl) (o : Oper) (ops : Array Oper) (t f n : AM) : AM :=
  Option.rec (motive := fun _ => AM) t (fun p => Option.rec (motive := fun _ => AM) (guardM A T o ops t f n) (fun d => oK (T.get d) (guardM A T o ops t f n) fun a => boolOf a (guardM A T o ops t f n) fun b => cond p.2 (cond b t f) (cond b f t)) ((ops[p.1]?).bind (·.dst))) o.guard
theorem guardK_eq (T : Sl) (o : Oper) (ops : Array Oper) (t f n : AM) : guardK A T o ops t f n = guardM A T o ops t f n := by
  unfold guardK
  cases hg : o.guard with
  | none => unfold guardM guardOf; rw [hg]
  | some p =>
    obtain ⟨j, want⟩ := p
    dsimp only
    cases hd : (ops[j]?).bind (·.dst) with
    | none => rfl
    | some d =>
      dsimp only
      cases ha : T.get d with
      | none => rfl
      | some a =>
        refine boolOf_eq fun b hb => ?_
        subst hb
        unfold guardM guardOf
        simp only [hg, hd, ha, dec]
        cases want <;> cases b <;> rfl
/-- slots that an operation reads -/
def srcO : Operand → List Nat
  | .tmp t => [t]
  | _ => []
def srcOs : List Operand → List Nat
  | [] => []
  | x :: l => srcO x ++ srcOs l
def srcs : Op → List Nat
  | .move x | .assign x => srcO x
  | .pick c x y => srcO c ++ srcO x ++ srcO y
  | .binOp _ _ x y _ => srcO x ++ srcO y
  | .unOp _ _ x => srcO x
  | .convert _ _ x => srcO x
  | .fieldAddr _ x _ => srcO x
  | .field _ x _ => srcO x
  | .indexAddr _ x i => srcO x ++ srcO i
  | .index _ x i => srcO x ++ srcO i
  | .extract x _ => srcO x
  | .nilCheck x => srcO x
  | .load _ x => srcO x
  | .call c => (match c.callee with | .value f => srcO f | _ => []) ++ srcOs c.args.toList
  | _ => []
/-- a guard that is not decided: what it comes to, and what is known where it holds -/
def guardS (ops : Array Oper) (T : Sl) (o : Oper) : Option (SB × List (SB × Bool)) :=
  match o.guard with
  | none => none
  | some (j, want) => match (ops[j]?).bind (·.dst) with
    | none => none
    | some d => match T.get d with
      | some (.bool s) => some (bif want then s else SB.nt s, [fct s want])
      | some (.ite g (.bool b) (.tuple [])) => some (SB.mkIte g (bif want then b else SB.nt b) (.lit false), [fct g true, fct b want])
      | _ => none
def resSl (A : Ass) : List Nat → Sl → Sl
  | [], T => T
  | k :: l, T => match T.get k with
    | some (.ite c x y) => resSl A l (T.set k (resV A (.ite c x y)))
    | _ => resSl A l T
def isRd : Tok → Bool
  | .rd .. => true
  | _ => false
/-- an operation whose guard is not decided: it is done as if the guard held; it may read memory, and no more -/
def specK (T : Sl) (o : Oper) (ops : Array Oper) (k : Sl → AM) : AM :=
  match guardS ops T o with
  | none => .fail 13
  | some (G, fs) => match dec A G with
    | some false => setD N T o.dst (.tuple []) k
    | _ => .here fun n0 => .sub (aopX P (A.adds (fct G true :: fs)) call (resSl (A.adds (fct G true :: fs)) (srcs o.op) T) o fun v => .ret ⟨.normal, .e, v⟩) fun out log => .here fun n1 =>
      bif Nat.beq n0 n1 && log.all isRd then setD N T o.dst (.ite G out.v (.tuple [])) k else .fail 14
def evReg (ops : Array Oper) (l : List Nat) : Sl → (Sl → AM) → AM :=
  List.rec (motive := fun _ => Sl → (Sl → AM) → AM) (fun T k => k T) (fun i _ ih T k => Option.rec (motive := fun _ => AM) (.fail 12) (fun o =>
    guardK A T o ops (aopX P A call T o fun v => setD N T o.dst v fun T1 => ih T1 k) (setD N T o.dst (.tuple []) fun T1 => ih T1 k) (specK P A call N T o ops fun T1 => ih T1 k)) ops[i]?) l
theorem evReg_nil (ops : Array Oper) (T : Sl) (k : Sl → AM) : evReg P A call N ops [] T k = k T := rfl
theorem evReg_cons (ops : Array Oper) (i : Nat) (rest : List Nat) (T : Sl) (k : Sl → AM) : evReg P A call N ops (i :: rest) T k = match ops[i]? with
    | none => .fail 12
    | some o => match guardOf A ops T o with
      | some true => aopX P A call T o fun v => setD N T o.dst v fun T1 => evReg P A call N ops rest T1 k
      | some false => setD N T o.dst (.tuple []) fun T1 => evReg P A call N ops rest T1 k
      | none => specK P A call N T o ops fun T1 => evReg P A call N ops rest T1 k := by
  show Option.rec (motive := fun _ => AM) (.fail 12) (fun o => guardK A T o ops (aopX P A call T o fun v => setD N T o.dst v fun T1 => evReg P A call N ops rest T1 k) (setD N T o.dst (.tuple []) fun T1 => evReg P A call N ops rest T1 k) (specK P A call N T o ops fun T1 => evReg P A call N ops rest T1 k)) ops[i]? = _
  cases ops[i]? with
  | none => rfl
  | some o => exact guardK_eq ..
variable (draw : Array Oper → Sl → (Sl → AM) → AM)
def jumpOf : Ex → Option Code
  | .normal => none
  | .exit i => some (.exit i)
  | .goto l => some (.goto l)
  | .ret => some .ret
/-- what is done behind a range over a function -/
def jumpK (pend : Option Code) (T : Sl) (k : Ex → Sl → AM) : AM :=
  match pend with
  | none => k .normal T
  | some .ret => k .ret T
  | some (.exit i) => k (.exit i) T
  | some (.goto l) => k (.goto l) T
  | _ => .fail 25
def slotL (T : Sl) : Nat → List AV → List AV
  | 0, acc => acc
  | n + 1, acc => slotL T n ((match T.get n with | some v => v | none => .any) :: acc)
def endLoopA (lp : Nat) (T : Sl) (k : Ex → Sl → AM) : AM :=
  .load lp 0 fun o => match o with
    | .loopO st pend l ps as b d => bif Nat.beq st 1 then .fail 26 else .store lp 0 (.loopO 3 pend l ps as b d) (jumpK pend T k)
    | _ => .fail 26
def rangeA (ro : Option Nat) (g : Operand) (ps : List Nat) (assign body : Code) (T : Sl) (k : Ex → Sl → AM) : AM :=
  match val T g with
  | some (.func (.func f) fs cs) => match P.funcs[f]? with
    | some fn => bif fn.name == "runtime.NumGoroutine" || fn.body.isNone then .fail 27 else match ro with
      | none => .alloc [.defO] fun db => forceL (slotL T N []) fun sl => .alloc [.loopO 0 none sl ps assign body db] fun lp => .call (call (.fn f) (fs ++ [.yieldF lp] ++ cs)) fun _ => endLoopA lp ⟨T.t, .mark db :: T.d⟩ k
      | some l0 => .load l0 0 fun o => match o with
        | .loopO _ _ _ _ _ _ db => forceL (slotL T N []) fun sl => .alloc [.loopO 0 none sl ps assign body db] fun lp => .call (call (.fn f) (fs ++ [.yieldF lp] ++ cs)) fun _ => endLoopA lp T k
        | _ => .fail 27
    | none => .fail 27
  | _ => .fail 23
variable (ro : Option Nat)
def ev (f : Nat) : Option Code → Code → Sl → (Ex → Sl → AM) → AM :=
  Nat.rec (motive := fun _ => Option Code → Code → Sl → (Ex → Sl → AM) → AM) (fun _ _ _ _ => .fail 20) (fun _ ih sc c T k => match sc with
    | some b => ih none c T fun e T1 => match e with
      | .goto l => match findLabel b l with
        | some rest => ih (some b) rest T1 k
        | none => k (.goto l) T1
      | e => k e T1
    | none => match c with
      | .skip => k .normal T
      | .label _ => k .normal T
      | .region _ ops d => bif d then draw ops T (k .normal) else evReg P A call N ops (List.range ops.size) T (k .normal)
      | .seq a b => ih none a T fun e T1 => match e with
        | .normal => ih none b T1 k
        | e => k e T1
      | .cond c x y => match val T c with
        | some (.bool s) => match dec A s with
          | some true => ih none x T k
          | some false => ih none y T k
          | none => .fail s.code
        | _ => .fail 22
      | .block id b => ih none b T fun e T1 => match e with
        | .exit i => bif Nat.beq i id then k .normal T1 else k (.exit i) T1
        | e => k e T1
      | .loop b => ih none b T fun e T1 => match e with
        | .normal => ih none (.loop b) T1 k
        | e => k e T1
      | .scope b => ih (some b) b T k
      | .exit id => k (.exit id) T
      | .goto l => k (.goto l) T
      | .ret => k .ret T
      | .rangeFunc g ps as b => rangeA P call N ro g ps.toList as b T k
      | .refuse _ => .fail 24) f
theorem ev_zero (sc : Option Code) (c : Code) (T : Sl) (k : Ex → Sl → AM) : ev P A call N draw ro 0 sc c T k = .fail 20 := rfl
theorem ev_some (f : Nat) (b c : Code) (T : Sl) (k : Ex → Sl → AM) : ev P A call N draw ro (f + 1) (some b) c T k = ev P A call N draw ro f none c T fun e T1 => match e with
      | .goto l => match findLabel b l with
        | some rest => ev P A call N draw ro f (some b) rest T1 k
        | none => k (.goto l) T1
      | e => k e T1 := rfl
theorem ev_none (f : Nat) (c : Code) (T : Sl) (k : Ex → Sl → AM) : ev P A call N draw ro (f + 1) none c T k = match c with
      | .skip => k .normal T
      | .label _ => k .normal T
      | .region _ ops d => bif d then draw ops T (k .normal) else evReg P A call N ops (List.range ops.size) T (k .normal)
      | .seq a b => ev P A call N draw ro f none a T fun e T1 => match e with
        | .normal => ev P A call N draw ro f none b T1 k
        | e => k e T1
      | .cond c x y => match val T c with
        | some (.bool s) => match dec A s with
          | some true => ev P A call N draw ro f none x T k
          | some false => ev P A call N draw ro f none y T k
          | none => .fail s.code
        | _ => .fail 22
      | .block id b => ev P A call N draw ro f none b T fun e T1 => match e with
        | .exit i => bif Nat.beq i id then k .normal T1 else k (.exit i) T1
        | e => k e T1
      | .loop b => ev P A call N draw ro f none b T fun e T1 => match e with
        | .normal => ev P A call N draw ro f none (.loop b) T1 k
        | e => k e T1
      | .scope b => ev P A call N draw ro f (some b) b T k
      | .exit id => k (.exit id) T
      | .goto l => k (.goto l) T
      | .ret => k .ret T
      | .rangeFunc g ps as b => rangeA P call N ro g ps.toList as b T k
      | .refuse _ => .fail 24 := rfl
/-- so many rounds of a loop at most -/
def roundsIn (F : Fence) (P : Program) (c : Code) (Q : Exit → Act → World → Prop) : Nat → Act → World → Prop
  | 0, _, _ => False
  | n + 1, a, w => c.wpIn F 0 P (Exit.then (roundsIn F P c Q n) Q) a w
/-- to be run upon items that are passed -/
def Runs (rb : Option Nat) (pre : List Item) (c : Code) (Q : Exit → Act → World → Prop) (a : Act) (w : World) : Prop :=
  ∀ (b : Frame) (k : List Item) (cs : List Frame), b.roundOf = rb → ∃ e a' w', Q e a' w' ∧ ArrivesIn (Machine.fenced P (Fr rb)) P (lone (b.atR a (.code c :: (pre ++ k))) cs w) b k cs e a' w'
def Goes (rb : Option Nat) (f : Nat) (sc : Option Code) (c : Code) (Q : Exit → Act → World → Prop) (a : Act) (w : World) : Prop :=
  match sc with
  | some b => Runs P rb [.inScope b] c Q a w
  | none => match c with
    | .loop b => roundsIn (Fr rb) P b Q f a w
    | c => c.wpIn (Fr rb) 0 P Q a w
def roRel (μ : Names) : Option Nat → Option Nat → Prop
  | none, none => True
  | some lp, some b => μ.get lp = some (.obj b)
  | _, _ => False
def CodeOk (B : Nat) (ro : Option Nat) (f : Nat) (sc : Option Code) (c : Code) (T : Sl) (H : Mem) (n : Nat) (e : Ex) (T1 : Sl) (H1 : Mem) (n1 : Nat) : Prop :=
  n ≤ n1 ∧ ∀ (ρ : Val) (μ : Names) (a : Act) (w : World), (A.has ρ) → TRel ρ μ N T a → R ρ μ B H w → B ≤ w.heap.size → (∀ i, n ≤ i → i < n1 → μ.get i = none) →
    ∀ (rb : Option Nat) (Q : Exit → Act → World → Prop), roRel μ ro rb → (∀ a1 μ1 w1, TRel ρ μ1 N T1 a1 → Step μ μ1 n n1 → R ρ μ1 B H1 w1 → Below B w w1 → Q e.exit' a1 w1) → Goes P rb f sc c Q a w
def DrawOk (B : Nat) : Prop := ∀ ops T k H n acc r, (draw ops T k).run H n acc = some r → ∃ T1 H1 n1 acc1, (k T1).run H1 n1 acc1 = some r ∧ n ≤ n1 ∧
  ∀ (id : Nat) (ρ : Val) (μ : Names) (a : Act) (w : World), (A.has ρ) → TRel ρ μ N T a → R ρ μ B H w → B ≤ w.heap.size → (∀ i, n ≤ i → i < n1 → μ.get i = none) →
    ∀ (rb : Option Nat) (Q : Exit → Act → World → Prop), (∀ a1 μ1 w1, TRel ρ μ1 N T1 a1 → Step μ μ1 n n1 → R ρ μ1 B H1 w1 → Below B w w1 → Q .normal a1 w1) → (Code.region id ops true).wpIn (Fr rb) 0 P Q a w
end
section
variable {P : Program} {A : Ass} {call : Tg → List AV → AM} {N : Nat} {draw : Array Oper → Sl → (Sl → AM) → AM}
theorem guardOf_eq {ops : Array Oper} {T : Sl} {o : Oper} {b : Bool} (h : guardOf A ops T o = some b) {ρ : Val} (hA : A.has ρ) {μ : Names} {a : Act} (hT : TRel ρ μ N T a) : Region.wanted o (yielded ops a.tmps) = b := by
  unfold guardOf at h
  unfold Region.wanted
  cases hg : o.guard with
  | none => simp [hg] at h; simp [h]
  | some g =>
    obtain ⟨j, want⟩ := g
    simp only [hg] at h
    cases hd : (ops[j]?).bind (·.dst) with
    | none => simp [hd] at h
    | some d =>
      simp only [hd] at h
      cases hv : T.get d with
      | none => simp [hv] at h
      | some v =>
        simp only [hv] at h
        split at h
        · rename_i s e
          obtain rfl := Option.some.inj e
          cases hs : dec A s with
          | none => simp [hs] at h
          | some c =>
            simp [hs] at h
            obtain ⟨x, hx, hr⟩ := hT.get d _ hv
            simp only [rel] at hr
            subst hr
            have hy : yielded ops a.tmps j = some c := by
              unfold yielded
              rw [hd]
              simp [hx, dec_eq hA hs]
            simp only [hy]
            rw [← h]
            cases c <;> cases want <;> rfl
        · rename_i e
          obtain rfl := Option.some.inj e
          cases h
          obtain ⟨x, hx, hr⟩ := hT.get d _ hv
          obtain ⟨xs, rfl, hxs⟩ := hr
          cases xs with
          | cons y ys => exact hxs.elim
          | nil =>
            have hy : yielded ops a.tmps j = none := by
              unfold yielded
              rw [hd]
              simp [hx]
            simp only [hy]
            rfl
        · cases h
theorem setD_run {T : Sl} {d : Option Nat} {v : AV} {k : Sl → AM} {H : Mem} {n : Nat} {acc : List Tok} {r : Out × Mem × Nat × List Tok} (h : (setD N T d v k).run H n acc = some r) :
    ∃ T1, (k T1).run H n acc = some r ∧ ∀ (ρ : Val) (μ : Names) (a : Act) (x : Value), TRel ρ μ N T a → rel ρ μ v x → TRel ρ μ N T1 (a.put d x) := by
  unfold setD at h
  cases d with
  | none => exact ⟨T, h, fun ρ μ a x hT _ => hT⟩
  | some d =>
    dsimp only at h
    cases hb : Nat.blt d N with
    | false => rw [hb] at h; cases h
    | true =>
      rw [hb, cond_true, Sl.setK_eq] at h
      exact ⟨T.set d v, h, fun ρ μ a x hT hr => hT.put ((blt_iff _ _).1 hb) hr⟩
theorem CallOk.more {P : Program} {A A' : Ass} {B : Nat} {call : Tg → List AV → AM} (h : ∀ ρ, A'.has ρ → A.has ρ) (hc : CallOk P A B call) : CallOk P A' B call := fun tg args H n acc out H1 n1 l hr =>
  let ⟨q1, q2⟩ := hc tg args H n acc out H1 n1 l hr
  ⟨q1, fun ρ μ xs w hA => q2 ρ μ xs w (h ρ hA)⟩
theorem resSl_rel {A : Ass} {ρ : Val} (hA : A.has ρ) {μ : Names} {N : Nat} {a : Act} : ∀ (l : List Nat) (T : Sl), TRel ρ μ N T a → TRel ρ μ N (resSl A l T) a
  | [], T, h => h
  | k :: l, T, h => by
    unfold resSl
    split
    · rename_i c x y hv
      refine resSl_rel hA l _ ⟨fun j v e => ?_, h.size, h.defers⟩
      rw [Sl.get_set] at e
      by_cases hj : j = k
      · rw [if_pos hj] at e
        subst hj
        cases e
        obtain ⟨z, p, q⟩ := h.get j _ hv
        exact ⟨z, p, resV_rel hA q⟩
      · rw [if_neg hj] at e; exact h.get j v e
    · exact resSl_rel hA l T h
theorem guardS_eq {ops : Array Oper} {T : Sl} {o : Oper} {G : SB} {fs : List (SB × Bool)} (h : guardS ops T o = some (G, fs)) {ρ : Val} {μ : Names} {a : Act} (hT : TRel ρ μ N T a) :
    Region.wanted o (yielded ops a.tmps) = G.den ρ ∧ (G.den ρ = true → ∀ p ∈ fs, p.1.den ρ = p.2) := by
  unfold guardS at h
  unfold Region.wanted
  cases hg : o.guard with
  | none => simp [hg] at h
  | some g =>
    obtain ⟨j, want⟩ := g
    simp only [hg] at h
    cases hd : (ops[j]?).bind (·.dst) with
    | none => simp [hd] at h
    | some d =>
      simp only [hd] at h
      cases hv : T.get d with
      | none => simp [hv] at h
      | some v =>
        simp only [hv] at h
        obtain ⟨x, hx, hr⟩ := hT.get d _ hv
        split at h
        · rename_i s e
          obtain rfl := Option.some.inj e
          obtain ⟨rfl, rfl⟩ := Prod.mk.inj (Option.some.inj h)
          simp only [rel] at hr
          subst hr
          have hy : yielded ops a.tmps j = some (s.den ρ) := by
            unfold yielded
            rw [hd]
            simp [hx]
          simp only [hy]
          cases want
          · simp only [cond_false, SB.nt_den]
            cases hs : s.den ρ <;> simp [fct_den hs]
          · simp only [cond_true]
            cases hs : s.den ρ <;> simp [fct_den hs]
        · rename_i g b e
          obtain rfl := Option.some.inj e
          obtain ⟨rfl, rfl⟩ := Prod.mk.inj (Option.some.inj h)
          simp only [rel] at hr
          rw [SB.mkIte_den]
          cases hgd : g.den ρ with
          | true =>
            have hr := hr.1 hgd
            subst hr
            have hy : yielded ops a.tmps j = some (b.den ρ) := by
              unfold yielded
              rw [hd]
              simp [hx]
            simp only [hy, cond_true]
            cases want
            · simp only [cond_false, SB.nt_den]
              cases hb : b.den ρ <;> simp [fct_den hb, fct_den hgd]
            · simp only [cond_true]
              cases hb : b.den ρ <;> simp [fct_den hb, fct_den hgd]
          | false =>
            obtain ⟨xs, rfl, hxs⟩ := hr.2 hgd
            cases xs with
            | cons y ys => exact hxs.elim
            | nil =>
              have hy : yielded ops a.tmps j = none := by
                unfold yielded
                rw [hd]
                simp [hx]
              simp only [hy, cond_false, SB.den]
              simp
        · cases h
theorem specK_run {B : Nat} (hcall : CallOk P A B call) {ops : Array Oper} {T : Sl} {o : Oper} {k : Sl → AM} {H : Mem} {n : Nat} {acc : List Tok} {r : Out × Mem × Nat × List Tok} (h : (specK P A call N T o ops k).run H n acc = some r) :
    (∃ G fs T1, guardS ops T o = some (G, fs) ∧ dec A G = some false ∧ (k T1).run H n acc = some r ∧ ∀ (ρ : Val) (μ : Names) (a : Act) (x : Value), TRel ρ μ N T a → rel ρ μ (.tuple []) x → TRel ρ μ N T1 (a.put o.dst x)) ∨
    ∃ G fs v T1 H1 acc1, guardS ops T o = some (G, fs) ∧ (k T1).run H1 n acc1 = some r ∧ (∀ i o, H1.at i o = H.at i o) ∧
      OpOk P (A.adds (fct G true :: fs)) B N o (resSl (A.adds (fct G true :: fs)) (srcs o.op) T) H n v H1 n ∧
      ∀ (ρ : Val) (μ : Names) (a : Act) (x : Value), TRel ρ μ N T a → rel ρ μ (.ite G v (.tuple [])) x → TRel ρ μ N T1 (a.put o.dst x) := by
  unfold specK at h
  cases hg : guardS ops T o with
  | none => rw [hg] at h; cases h
  | some q =>
    obtain ⟨G, fs⟩ := q
    rw [hg] at h
    dsimp only at h
    split at h
    · rename_i hd
      obtain ⟨T1, e1, hT1⟩ := setD_run h
      exact .inl ⟨G, fs, T1, rfl, hd, e1, hT1⟩
    refine .inr ?_
    simp only [AM.run_here, AM.run_sub] at h
    have hc := hcall.more (A' := A.adds (fct G true :: fs)) fun ρ => Ass.has.of_adds
    cases hm : (aopX P (A.adds (fct G true :: fs)) call (resSl (A.adds (fct G true :: fs)) (srcs o.op) T) o fun v => .ret ⟨.normal, .e, v⟩).run H n [] with
    | none => rw [hm] at h; cases h
    | some q =>
      obtain ⟨out, H1, n1, l1⟩ := q
      rw [hm] at h
      dsimp only at h
      cases hb : (Nat.beq n n1 && (l1.filter fun t => !(Nat.ble n t.id && Nat.blt t.id n1)).all isRd) with
      | false => rw [hb] at h; cases h
      | true =>
        rw [hb, cond_true] at h
        rw [Bool.and_eq_true] at hb
        have hn : n = n1 := Nat.eq_of_beq_eq_true hb.1
        subst hn
        obtain ⟨T1, e1, hT1⟩ := setD_run h
        obtain ⟨l, hl, _, _, _, hsame, _⟩ := AM.run_frame n _ H n [] out H1 n l1 (fun i o h1 h2 => by omega) (Nat.le_refl _) hm
        rw [List.append_nil] at hl
        subst hl
        obtain ⟨v, H2, n2, acc2, e2, hn2, ok⟩ := aopX_run hc hm
        rw [AM.run_ret] at e2
        have e3 := Option.some.inj e2
        obtain rfl : v = out.v := congrArg (·.1.v) e3
        obtain rfl : H2 = H1 := congrArg (·.2.1) e3
        obtain rfl : n2 = n := congrArg (·.2.2.1) e3
        refine ⟨G, fs, out.v, T1, H2, _, rfl, e1, fun i o => hsame i o (by omega) ?_, ⟨hn2, ok⟩, hT1⟩
        unfold wrote
        rw [List.any_eq_false]
        intro t ht
        have hk : (fun t : Tok => !(Nat.ble n2 t.id && Nat.blt t.id n2)) t = true := by
          cases h1 : Nat.ble n2 t.id with
          | false => simp [h1]
          | true =>
            cases h2 : Nat.blt t.id n2 with
            | false => simp [h2]
            | true =>
              have h3 := Nat.le_of_ble_eq_true h1
              rw [blt_iff] at h2
              omega
        have := List.all_eq_true.1 hb.2 t (List.mem_filter.2 ⟨ht, hk⟩)
        cases t <;> simp [isRd] at this
        simp [Tok.writes]
theorem evReg_run {B : Nat} (hcall : CallOk P A B call) (ops : Array Oper) : ∀ (l : List Nat) (T : Sl) (k : Sl → AM) (H : Mem) (n : Nat) (acc : List Tok) (r : Out × Mem × Nat × List Tok), (evReg P A call N ops l T k).run H n acc = some r →
    ∃ T1 H1 n1 acc1, (k T1).run H1 n1 acc1 = some r ∧ n ≤ n1 ∧
      ∀ (ρ : Val) (μ : Names) (a : Act) (w : World), (A.has ρ) → TRel ρ μ N T a → R ρ μ B H w → B ≤ w.heap.size → (∀ i, n ≤ i → i < n1 → μ.get i = none) →
        ∀ (rb : Option Nat) (Q : Exit → Act → World → Prop), (∀ a1 μ1 w1, TRel ρ μ1 N T1 a1 → Step μ μ1 n n1 → R ρ μ1 B H1 w1 → Below B w w1 → Q .normal a1 w1) → wpOpsIn (Fr rb) 0 P ops Q l a w
  | [], T, k, H, n, acc, r, h => ⟨T, H, n, acc, h, Nat.le_refl _, fun ρ μ a w hA hT hR hB hf rb Q hQ => hQ a μ w hT (Step.refl _ _ _) hR (Below.refl _ _)⟩
  | i :: l, T, k, H, n, acc, r, h => by
    rw [evReg_cons] at h
    cases ho : ops[i]? with
    | none => rw [ho] at h; cases h
    | some o =>
      rw [ho] at h
      dsimp only at h
      cases hg : guardOf A ops T o with
      | none =>
        rw [hg] at h
        dsimp only at h
        rcases specK_run hcall h with ⟨G, fs, T1, eg, hd, e2, hT1⟩ | ⟨G, fs, v, T1, H1, acc1, eg, e2, hsame, ok, hT1⟩
        · obtain ⟨T2, H2, n2, acc2, e3, hn2, ok2⟩ := evReg_run hcall ops l T1 k H n acc r e2
          refine ⟨T2, H2, n2, acc2, e3, hn2, fun ρ μ a w hA hT hR hB hf rb Q hQ => ?_⟩
          rw [wpOpsIn, ho]
          dsimp only
          obtain ⟨gw, gf⟩ := guardS_eq eg hT
          rw [gw, dec_eq hA hd, if_neg (by simp)]
          exact ⟨fun _ _ => trivial, ok2 ρ μ _ w hA (hT1 ρ μ a undef hT ⟨[], rfl, trivial⟩) hR hB hf rb Q hQ⟩
        obtain ⟨T2, H2, n2, acc2, e3, hn2, ok2⟩ := evReg_run hcall ops l T1 k H1 n acc1 r e2
        refine ⟨T2, H2, n2, acc2, e3, hn2, fun ρ μ a w hA hT hR hB hf rb Q hQ => ?_⟩
        rw [wpOpsIn, ho]
        dsimp only
        obtain ⟨gw, gf⟩ := guardS_eq eg hT
        rw [gw]
        cases hG : G.den ρ with
        | true =>
          rw [if_pos rfl]
          have hA' : (A.adds (fct G true :: fs)).has ρ := hA.adds fun p hp => by
            rcases List.mem_cons.1 hp with rfl | hp
            · exact fct_den hG
            · exact gf hG p hp
          refine ok.2 ρ μ a w hA' (resSl_rel hA' _ _ hT) hR hB (fun j h1 h2 => by omega) rb _ _ fun x μ1 w1 r1 r2 r3 r4 => ?_
          refine ok2 ρ μ1 _ w1 hA (hT1 ρ μ1 a x (hT.mono r2.le) (by simp only [rel]; exact ⟨fun _ => r1, fun e => by rw [hG] at e; cases e⟩)) r3 (Nat.le_trans hB r4.size) (fun j h1 h2 => by rw [r2.same j (by omega)]; exact hf j h1 h2) rb Q fun a1 μ2 w2 q1 q2 q3 q4 => ?_
          exact hQ a1 μ2 w2 q1 (r2.trans q2 (Nat.le_refl _) hn2) q3 (r4.trans q4)
        | false =>
          rw [if_neg (by simp)]
          exact ⟨fun _ _ => trivial, ok2 ρ μ _ w hA (hT1 ρ μ a undef hT (by simp only [rel]; exact ⟨fun e => (by rw [hG] at e; cases e), fun _ => ⟨[], rfl, trivial⟩⟩)) (hR.same hsame) hB hf rb Q hQ⟩
      | some g =>
        rw [hg] at h
        cases g with
        | true =>
          dsimp only at h
          obtain ⟨v, H1, n1, acc1, e1, hn1, ok⟩ := aopX_run hcall h
          obtain ⟨T1, e2, hT1⟩ := setD_run e1
          obtain ⟨T2, H2, n2, acc2, e3, hn2, ok2⟩ := evReg_run hcall ops l T1 k H1 n1 acc1 r e2
          refine ⟨T2, H2, n2, acc2, e3, by omega, fun ρ μ a w hA hT hR hB hf rb Q hQ => ?_⟩
          rw [wpOpsIn, ho]
          dsimp only
          rw [guardOf_eq hg hA hT, if_pos rfl]
          refine ok ρ μ a w hA hT hR hB (fun j h1 h2 => hf j h1 (by omega)) rb _ _ fun x μ1 w1 r1 r2 r3 r4 => ?_
          refine ok2 ρ μ1 _ w1 hA (hT1 ρ μ1 a x (hT.mono r2.le) r1) r3 (Nat.le_trans hB r4.size) (fun j h1 h2 => by rw [r2.same j (by omega)]; exact hf j (by omega) h2) rb Q fun a1 μ2 w2 q1 q2 q3 q4 => ?_
          exact hQ a1 μ2 w2 q1 (r2.trans q2 hn1 hn2) q3 (r4.trans q4)
        | false =>
          dsimp only at h
          obtain ⟨T1, e2, hT1⟩ := setD_run h
          obtain ⟨T2, H2, n2, acc2, e3, hn2, ok2⟩ := evReg_run hcall ops l T1 k H n acc r e2
          refine ⟨T2, H2, n2, acc2, e3, hn2, fun ρ μ a w hA hT hR hB hf rb Q hQ => ?_⟩
          rw [wpOpsIn, ho]
          dsimp only
          rw [guardOf_eq hg hA hT, if_neg (by simp)]
          exact ⟨fun _ _ => trivial, ok2 ρ μ _ w hA (hT1 ρ μ a undef hT ⟨[], rfl, trivial⟩) hR hB hf rb Q hQ⟩
end
end
end Go.Proofs.YtdoegipkfjndbaaGreatDoor.Ev
namespace Go.Proofs.YtdoegipkfjndbaaGreatDoor.Ev
set_option linter.unusedVariables false
set_option linter.unusedSimpArgs false
noncomputable section
open Go.RowKit
section
variable {P : Program} {A : Ass} {call : Tg → List AV → AM} {N : Nat} {draw : Array Oper → Sl → (Sl → AM) → AM}
theorem fenced_Fr (rb : Option Nat) (m : Machine) : m.fenced P (Fr rb) := fenced_wide P m
theorem wpIn_loop_rounds {rb : Option Nat} {Q : Exit → Act → World → Prop} {a : Act} {w : World} {c : Code} (n : Nat) (h : roundsIn (Fr rb) P c Q n a w) : (Code.loop c).wpIn (Fr rb) 0 P Q a w := by
  intro b k cs hro hb hr
  have key : ∀ n a w, roundsIn (Fr rb) P c Q n a w →
      ∃ e a' w', Q e a' w' ∧ ArrivesIn (Machine.fenced P (Fr rb)) P (lone (b.atR a (.code c :: .inLoop c :: k)) cs w) b k cs e a' w' := by
    intro n
    induction n with
    | zero => intro a w h; exact h.elim
    | succ n ih =>
      intro a w h
      obtain ⟨e, a₁, w₁, hq, harr⟩ := h b (.inLoop c :: k) cs hro hb hr
      cases e with
      | normal =>
        obtain ⟨e₂, a₂, w₂, hq₂, harr₂⟩ := ih a₁ w₁ hq
        exact ⟨e₂, a₂, w₂, hq₂, .of_steps (StepsIn.trans harr (.one (fenced_Fr rb _) stepR_inLoop)) harr₂⟩
      | exit id => exact ⟨_, a₁, w₁, hq, .pass (x := .inLoop c) rfl (fun _ _ => .inl (by simp)) harr⟩
      | goto l => exact ⟨_, a₁, w₁, hq, .pass (x := .inLoop c) rfl (fun _ _ => .inl (by simp)) harr⟩
      | ret => exact ⟨_, a₁, w₁, hq, .pass (x := .inLoop c) rfl (fun _ _ => .inl (by simp)) harr⟩
      | panic ch => exact ⟨_, a₁, w₁, hq, .pass (x := .inLoop c) rfl (fun _ _ => .inl (by simp)) harr⟩
      | outgrown => exact ⟨_, a₁, w₁, hq, .pass (x := .inLoop c) rfl (fun _ _ => .inl (by simp)) harr⟩
  obtain ⟨e, a', w', hq, harr⟩ := key n a w h
  exact ⟨e, a', w', hq, .of_steps (.one (fenced_Fr rb _) stepR_loop) harr⟩
theorem stepR_scope {b : Frame} {a : Act} {k : List Item} {cs : List Frame} {w : World} {c : Code} : step P (lone (b.atR a (.code (.scope c) :: k)) cs w) = .next (lone (b.atR a (.code c :: .inScope c :: k)) cs w) :=
  step_lone_go (by simp [stepG, stepG.exec, Frame.atR])
theorem stepR_inScope {b : Frame} {a : Act} {k : List Item} {cs : List Frame} {w : World} {c : Code} : step P (lone (b.atR a (.inScope c :: k)) cs w) = .next (lone (b.atR a k) cs w) :=
  step_lone_go (by simp [stepG, stepG.exec, Frame.atR])
theorem Goes.wp {rb : Option Nat} {f : Nat} {c : Code} {Q : Exit → Act → World → Prop} {a : Act} {w : World} (h : Goes P rb f none c Q a w) : c.wpIn (Fr rb) 0 P Q a w := by
  unfold Goes at h
  dsimp only at h
  split at h
  · exact wpIn_loop_rounds f h
  · exact h
theorem goes_of {rb : Option Nat} {f : Nat} {c : Code} {Q : Exit → Act → World → Prop} {a : Act} {w : World} (h : c.wpIn (Fr rb) 0 P Q a w) (hc : ∀ b, c ≠ .loop b) : Goes P rb f none c Q a w := by
  unfold Goes
  dsimp only
  split
  · exact absurd rfl (hc _)
  · exact h
theorem findLabel_goto {l : Nat} {body rest : Code} {k : List Item} (h : findLabel body l = some rest) : gotoIn l (.inScope body :: k) = some (.code rest :: .inScope body :: k) := by
  simp [gotoIn, h]
theorem runs_of_wp {rb : Option Nat} {body c : Code} {Q : Exit → Act → World → Prop} {a : Act} {w : World}
    (h : c.wpIn (Fr rb) 0 P (fun e a' w' => match e with
      | .goto l => match findLabel body l with
        | some rest => Runs P rb [.inScope body] rest Q a' w'
        | none => Q (.goto l) a' w'
      | e => Q e a' w') a w) : Runs P rb [.inScope body] c Q a w := by
  intro b k cs hro
  obtain ⟨e, a1, w1, hq, harr⟩ := h b (.inScope body :: k) cs hro trivial (Fr_room rb _)
  cases e with
  | normal => exact ⟨.normal, a1, w1, hq, StepsIn.trans harr (.one (fenced_Fr rb _) stepR_inScope)⟩
  | exit id =>
    have hx : exitTo id (.inScope body :: k) = exitTo id k := by simp [exitTo]
    exact ⟨.exit id, a1, w1, hq, fun k' hk => harr.1 k' (by rw [hx]; exact hk), fun hr hk => harr.2 hr (by rw [hx]; exact hk)⟩
  | ret => exact ⟨.ret, a1, w1, hq, harr⟩
  | panic ch => exact ⟨.panic ch, a1, w1, hq, harr⟩
  | outgrown => exact ⟨.outgrown, a1, w1, hq, harr⟩
  | goto l =>
    dsimp only at hq
    cases hf : findLabel body l with
    | none =>
      rw [hf] at hq
      have hx : gotoIn l (.inScope body :: k) = gotoIn l k := by simp [gotoIn, hf]
      exact ⟨.goto l, a1, w1, hq, fun k' hk => harr.1 k' (by rw [hx]; exact hk), fun hr hk => harr.2 hr (by rw [hx]; exact hk)⟩
    | some rest =>
      rw [hf] at hq
      obtain ⟨e2, a2, w2, hq2, harr2⟩ := hq b k cs hro
      exact ⟨e2, a2, w2, hq2, .of_steps (harr.1 _ (findLabel_goto hf)) harr2⟩
theorem scope_of_runs {rb : Option Nat} {body : Code} {Q : Exit → Act → World → Prop} {a : Act} {w : World} (h : Runs P rb [.inScope body] body Q a w) : (Code.scope body).wpIn (Fr rb) 0 P Q a w := by
  intro b k cs hro _ _
  obtain ⟨e, a1, w1, hq, harr⟩ := h b k cs hro
  exact ⟨e, a1, w1, hq, .of_steps (.one (fenced_Fr rb _) stepR_scope) harr⟩
/-! ### ranges over functions -/
theorem slotL_rel {ρ : Val} {μ : Names} {T : Sl} {a : Act} (h : ∀ k v, T.get k = some v → ∃ x, a.tmps[k]? = some x ∧ rel ρ μ v x) : ∀ (n : Nat) (acc : List AV) (xs : List Value), n ≤ a.tmps.size → relL ρ μ acc xs → relL ρ μ (slotL T n acc) ((a.tmps.toList.take n) ++ xs)
  | 0, acc, xs, _, hr => by simpa [slotL] using hr
  | n + 1, acc, xs, hn, hr => by
    have hlt : n < a.tmps.size := by omega
    rw [slotL, List.take_succ_eq_append_getElem (by simpa using hlt), List.append_assoc]
    refine slotL_rel h n _ ([a.tmps.toList[n]'(by simpa using hlt)] ++ xs) (by omega) ⟨?_, hr⟩
    cases hg : T.get n with
    | none => trivial
    | some v =>
      obtain ⟨x, hx, hrx⟩ := h n v hg
      have : a.tmps.toList[n]'(by simpa using hlt) = x := by
        rw [Array.getElem?_eq_getElem hlt] at hx
        simpa using hx
      rw [this]; exact hrx
def jumpPost (P : Program) (rb : Option Nat) (Q : Exit → Act → World → Prop) (a : Act) (w4 : World) : Option Code → Prop
  | none => Q .normal a w4
  | some c => c.wpIn (Fr rb) 0 P Q a w4
theorem endLoopA_run {lp : Nat} {T : Sl} {k : Ex → Sl → AM} {H : Mem} {n : Nat} {acc : List Tok} {r : Out × Mem × Nat × List Tok} (h : (endLoopA lp T k).run H n acc = some r) :
    ∃ e H1 acc1, (k e T).run H1 n acc1 = some r ∧ ∀ (ρ : Val) (μ : Names) (B : Nat) (w : World) (b : Nat) (rb : Option Nat) (Q : Exit → Act → World → Prop) (a : Act), R ρ μ B H w → B ≤ w.heap.size → μ.get lp = some (.obj b) → (∀ w1, R ρ μ B H1 w1 → Below B w w1 → Q e.exit' a w1) →
      ∃ jump w4, (Instr.endLoop b).run P w = .ok jump w4 ∧ jumpPost P rb Q a w4 jump := by
  unfold endLoopA at h
  simp only [AM.run_ret, AM.run_fail, AM.run_load, AM.run_store, AM.run_alloc, AM.run_sub, AM.run_call, AM.run_here, AM.run_drop, AM.run_renew] at h
  cases ho : H.at lp 0 with
  | none => rw [ho] at h; cases h
  | some o =>
    rw [ho] at h
    dsimp only at h
    cases o <;> dsimp only at h <;> try (cases h; done)
    rename_i st pend l ps as bd d
    cases hst : Nat.beq st 1 with
    | true => rw [hst] at h; cases h
    | false =>
      rw [hst, cond_false] at h
      simp only [AM.run_ret, AM.run_fail, AM.run_load, AM.run_store, AM.run_alloc, AM.run_sub, AM.run_call, AM.run_here, AM.run_drop, AM.run_renew, ho] at h
      dsimp only [AV.isU8] at h
      rw [Bool.false_and, cond_false] at h
      have world : ∀ {ρ : Val} {μ : Names} {B : Nat} {w : World} {b : Nat}, R ρ μ B H w → μ.get lp = some (.obj b) → ∃ rc, w.heap[b]? = some (.loop rc) ∧ relObj ρ μ (.loopO st pend l ps as bd d) (.loop rc) := fun {ρ μ B w b} hR hb => by
        obtain ⟨p, e, c⟩ := hR.at' lp 0 _ ho
        rw [hb] at e
        obtain rfl := Option.some.inj e
        rcases c with ⟨_, _, _, e, _⟩ | ⟨b', ob, e, _, _, hh, hr⟩
        · cases e
        · cases e
          cases ob <;> simp only [relObj] at hr
          exact ⟨_, hh, hr⟩
      have fin : ∀ (e : Ex), (k e T).run (H.put lp 0 (.loopO 3 pend l ps as bd d)) n (.wr lp 0 :: .rd lp 0 :: acc) = some r → (∀ (Q : Exit → Act → World → Prop) (rb : Option Nat) (a : Act) (w4 : World), Q e.exit' a w4 → jumpPost P rb Q a w4 pend) →
          ∃ e H1 acc1, (k e T).run H1 n acc1 = some r ∧ ∀ (ρ : Val) (μ : Names) (B : Nat) (w : World) (b : Nat) (rb : Option Nat) (Q : Exit → Act → World → Prop) (a : Act), R ρ μ B H w → B ≤ w.heap.size → μ.get lp = some (.obj b) → (∀ w1, R ρ μ B H1 w1 → Below B w w1 → Q e.exit' a w1) →
            ∃ jump w4, (Instr.endLoop b).run P w = .ok jump w4 ∧ jumpPost P rb Q a w4 jump := fun e he hj => by
        refine ⟨e, _, _, he, fun ρ μ B w b rb Q a hR hB hb hQ => ?_⟩
        obtain ⟨rc, hh, hr⟩ := world hR hb
        have hr2 := hr
        simp only [relObj] at hr2
        have hne : rc.state ≠ .busy := by
          rw [hr2.1]
          intro e
          have : st = 1 := by
            match st, e with
            | 0, e => cases e
            | 1, _ => rfl
            | 2, e => cases e
            | n + 3, e => cases e
          subst this
          cases hst
        obtain ⟨hBb, hR2⟩ := hR.setObj ho hb (v := .loopO 3 pend l ps as bd d) (ob := .loop { rc with state := .exhausted }) ⟨rfl, hr2.2⟩
        refine ⟨pend, _, ?_, hj Q rb a _ (hQ _ hR2 (Below.setObj hBb _))⟩
        rw [run_endLoop hh hne, hr2.2.1]
        rfl
      unfold jumpK at h
      split at h
      · exact fin .normal h fun Q rb a w4 hq => hq
      · exact fin .ret h fun Q rb a w4 hq => wpIn_ret hq
      · exact fin (.exit _) h fun Q rb a w4 hq => wpIn_exit hq
      · exact fin (.goto _) h fun Q rb a w4 hq => wpIn_goto hq
      · cases h
theorem post_of {rb : Option Nat} {Q : Exit → Act → World → Prop} {a : Act} {b : Nat} {w3 : World} (h : ∃ jump w4, (Instr.endLoop b).run P w3 = .ok jump w4 ∧ jumpPost P rb Q a w4 jump) :
    ∃ jump w₄, (Instr.endLoop b).run P w3 = .ok jump w₄ ∧ (match jump with | none => Q .normal a w₄ | some c => c.wpIn (Fr rb) 0 P Q a w₄) := by
  obtain ⟨jump, w4, e, hj⟩ := h
  refine ⟨jump, w4, e, ?_⟩
  cases jump <;> exact hj
theorem rangeA_run {B : Nat} (hcall : CallOk P A B call) {ro : Option Nat} {g : Operand} {ps : Array Tmp} {as body : Code} {f : Nat} {T : Sl} {k : Ex → Sl → AM} {H : Mem} {n : Nat} {acc : List Tok} {r : Out × Mem × Nat × List Tok} (h : (rangeA P call N ro g ps.toList as body T k).run H n acc = some r) :
    ∃ e T1 H1 n1 acc1, (k e T1).run H1 n1 acc1 = some r ∧ CodeOk P A N B ro f none (.rangeFunc g ps as body) T H n e T1 H1 n1 := by
  unfold rangeA at h
  simp only [forceL_eq] at h
  split at h
  · rename_i fi fs cs hg
    split at h
    · rename_i fn hfn
      cases hb : (fn.name == "runtime.NumGoroutine" || fn.body.isNone) with
      | true => rw [hb] at h; cases h
      | false =>
        rw [hb, cond_false] at h
        rw [Bool.or_eq_false_iff] at hb
        -- the call, as the machine makes it
        have hinv : ∀ (ρ : Val) (μ : Names) (a : Act) (w1 : World) (l : Nat), TRel ρ μ N T a → ∃ xs ys d, relL ρ μ fs xs ∧ relL ρ μ cs ys ∧ (resolve a.eval (rangeCall g l) 0).run P w1 = .ok d w1 ∧ (invoke d.target d.args).run P w1 = .ok (.enter fi (xs ++ [Value.func (.yield l) #[] #[]] ++ ys).toArray) w1 := fun ρ μ a w1 l hT => by
          obtain ⟨xs, ys, ev, r1, r2⟩ := val_rel hT hg
          have hname : ¬ fn.name = "runtime.NumGoroutine" := by simpa using hb.1
          have hbody : fn.body ≠ none := fun e => by rw [e] at hb; simp at hb
          refine ⟨xs, ys, { target := .fn (.func fi) ys.toArray, args := xs.toArray ++ #[Value.func (.yield l) #[] #[]] }, r1, r2, ?_, ?_⟩
          · have hyv : a.eval (.const (Value.func (.yield l) #[] #[])) = Value.func (.yield l) #[] #[] := rfl
            simp [resolve, ev, Deferred.ofValue, hyv]
          · have hargs : xs.toArray ++ #[Value.func (.yield l) #[] #[]] ++ ys.toArray = (xs ++ [Value.func (.yield l) #[] #[]] ++ ys).toArray := by
              apply Array.ext'
              simp
            simp only [invoke, callFunc, Sem.run_bind, Sem.run_pure, Result.andThen_ok, run_program, hfn, hb.1, hb.2, hargs, Bool.false_eq_true, if_false]
        split at h
        · -- an outermost loop
          simp only [AM.run_ret, AM.run_fail, AM.run_load, AM.run_store, AM.run_alloc, AM.run_sub, AM.run_call, AM.run_here, AM.run_drop, AM.run_renew] at h
          cases hr : (call (.fn fi) (fs ++ [.yieldF (n + 1)] ++ cs)).run ((H.new n [.defO]).new (n + 1) [.loopO 0 none (slotL T N []) ps.toList as body n]) (n + 1 + 1) [] with
          | none => rw [hr] at h; cases h
          | some q =>
            obtain ⟨out, H3, n3, l3⟩ := q
            rw [hr] at h
            dsimp only at h
            obtain ⟨hn, hq⟩ := hcall _ _ _ _ _ _ _ _ _ hr
            obtain ⟨e, H1, acc1, h1, hend⟩ := endLoopA_run (P := P) h
            refine ⟨e, _, H1, n3, acc1, h1, by omega, fun ρ μ a w hA hT hR hB hf rb Q hro hQ => ?_⟩
            have hrb : rb = none := by cases rb with | none => rfl | some _ => exact hro.elim
            subst hrb
            refine goes_of ?_ (by simp)
            refine wpIn_rangeFunc fun fnn _ => ?_
            have hn0 := hf n (Nat.le_refl _) (by omega)
            have hn1 := hf (n + 1) (by omega) (by omega)
            have hR1 := hR.allocObj hB hn0 (v := .defO) (ob := .deferred (some [])) rfl
            have hl0 : (μ.add n (.obj w.heap.size)).get (n + 1) = none := by rw [Names.add_ne _ _ (by omega)]; exact hn1
            have hslots : relL ρ (μ.add n (.obj w.heap.size)) (slotL T N []) a.tmps.toList := by
              have := slotL_rel (a := a) (fun k v e => let ⟨x, p, q⟩ := hT.get k v e; ⟨x, p, rel.mono (Names.le_add hn0 (.obj w.heap.size)) v x q⟩) N [] [] (by rw [hT.size]; exact Nat.le_refl _) trivial
              rw [List.append_nil, List.take_of_length_le (by simp [hT.size])] at this
              exact this
            have hR2 := hR1.allocObj (w := w.alloc (.deferred (some []))) (by simp; omega) hl0 (v := .loopO 0 none (slotL T N []) ps.toList as body n) (ob := .loop { state := .ready, pending := none, fn := fnn, tmps := a.tmps, params := ps, assign := as, body := body, defers := w.heap.size }) ⟨rfl, rfl, hslots, rfl, rfl, rfl, Names.add_new _ _ _⟩
            have hsz : (w.alloc (.deferred (some []))).heap.size = w.heap.size + 1 := by simp
            rw [hsz] at hR2
            obtain ⟨xs, ys, d, rx, ry, e1, e2⟩ := hinv ρ μ a ((w.alloc (.deferred (some []))).alloc (.loop { state := .ready, pending := none, fn := fnn, tmps := a.tmps, params := ps, assign := as, body := body, defers := w.heap.size })) (w.heap.size + 1) hT
            have hle : μ.le ((μ.add n (.obj w.heap.size)).add (n + 1) (.obj (w.heap.size + 1))) := Names.le_trans (Names.le_add hn0 _) (Names.le_add hl0 _)
            have hstep : Step μ ((μ.add n (.obj w.heap.size)).add (n + 1) (.obj (w.heap.size + 1))) n (n + 1 + 1) := ⟨hle, fun i hi => by rw [Names.add_ne _ _ (by omega), Names.add_ne _ _ (by omega)]⟩
            have hlp : ((μ.add n (.obj w.heap.size)).add (n + 1) (.obj (w.heap.size + 1))).get (n + 1) = some (.obj (w.heap.size + 1)) := Names.add_new _ _ _
            have hdb : ((μ.add n (.obj w.heap.size)).add (n + 1) (.obj (w.heap.size + 1))).get n = some (.obj w.heap.size) := by rw [Names.add_ne _ _ (by omega)]; exact Names.add_new _ _ _
            generalize hν : (μ.add n (.obj w.heap.size)).add (n + 1) (.obj (w.heap.size + 1)) = ν at *
            have hargs : relL ρ ν (fs ++ [.yieldF (n + 1)] ++ cs) (xs ++ [Value.func (.yield (w.heap.size + 1)) #[] #[]] ++ ys) :=
              ((relL.mono hle _ _ rx).append (show relL ρ ν [AV.yieldF (n + 1)] [Value.func (.yield (w.heap.size + 1)) #[] #[]] from ⟨⟨w.heap.size + 1, hlp, rfl⟩, trivial⟩)).append (relL.mono hle _ _ ry)
            have hC := hq ρ ν _ ((w.alloc (.deferred (some []))).alloc (.loop { state := .ready, pending := none, fn := fnn, tmps := a.tmps, params := ps, assign := as, body := body, defers := w.heap.size })) hA hargs hR2 (by simp; omega) (fun i h1 h2 => by rw [hstep.same i (by omega)]; exact hf i (by omega) h2)
            have hb1 : Below B w ((w.alloc (.deferred (some []))).alloc (.loop { state := .ready, pending := none, fn := fnn, tmps := a.tmps, params := ps, assign := as, body := body, defers := w.heap.size })) := ((Below.refl B w).alloc hB _).alloc (by simp; omega) _
            refine ⟨w.heap.size + 1, [{ target := .collected w.heap.size, args := #[] }], _, d, _, fi, _, _, run_enterLoop_outer fnn a.tmps ps as body, e1, fun _ _ => trivial, e2, (fun h => by cases h), ?_⟩
            refine (callsIn_wide (n := 0 - 1)).2 (hC.mono fun ee w3 he => ?_)
            obtain ⟨x, μ3, rfl, _, s3, R3, b3⟩ := he
            show ∃ jump w₄, _
            refine post_of (hend ρ μ3 B w3 (w.heap.size + 1) none Q { a with defers := [{ target := .collected w.heap.size, args := #[] }] ++ a.defers } R3 (by have := b3.size; simp at this; omega) (s3.le _ _ hlp) fun w4 R4 b4 => ?_)
            refine hQ _ μ3 w4 ⟨fun k v hv => ?_, hT.size, ⟨⟨w.heap.size, s3.le _ _ hdb, rfl⟩, relD.mono (Names.le_trans hle s3.le) _ _ hT.defers⟩⟩ (hstep.trans s3 (by omega) hn) R4 (hb1.trans (b3.trans b4))
            obtain ⟨x2, p1, p2⟩ := hT.get k v hv
            exact ⟨x2, p1, rel.mono (Names.le_trans hle s3.le) v x2 p2⟩
        · -- a loop within a round
          rename_i l0
          simp only [AM.run_ret, AM.run_fail, AM.run_load, AM.run_store, AM.run_alloc, AM.run_sub, AM.run_call, AM.run_here, AM.run_drop, AM.run_renew] at h
          cases ho : H.at l0 0 with
          | none => rw [ho] at h; cases h
          | some o =>
            rw [ho] at h
            dsimp only at h
            cases o <;> dsimp only at h <;> try (cases h; done)
            rename_i st0 pend0 ll0 ps0 as0 bd0 db
            simp only [AM.run_ret, AM.run_fail, AM.run_load, AM.run_store, AM.run_alloc, AM.run_sub, AM.run_call, AM.run_here, AM.run_drop, AM.run_renew] at h
            cases hr : (call (.fn fi) (fs ++ [.yieldF n] ++ cs)).run (H.new n [.loopO 0 none (slotL T N []) ps.toList as body db]) (n + 1) [] with
            | none => rw [hr] at h; cases h
            | some q =>
              obtain ⟨out, H3, n3, l3⟩ := q
              rw [hr] at h
              dsimp only at h
              obtain ⟨hn, hq⟩ := hcall _ _ _ _ _ _ _ _ _ hr
              obtain ⟨e, H1, acc1, h1, hend⟩ := endLoopA_run (P := P) h
              refine ⟨e, _, H1, n3, acc1, h1, by omega, fun ρ μ a w hA hT hR hB hf rb Q hro hQ => ?_⟩
              cases rb with
              | none => exact hro.elim
              | some b0 =>
                have hb0 : μ.get l0 = some (.obj b0) := hro
                have hw0 : ∃ rc, w.heap[b0]? = some (.loop rc) ∧ μ.get db = some (.obj rc.defers) := by
                  obtain ⟨p, e, c⟩ := hR.at' l0 0 _ ho
                  rw [hb0] at e
                  obtain rfl := Option.some.inj e
                  rcases c with ⟨_, _, _, e, _⟩ | ⟨b', ob, e, _, _, hh, hr⟩
                  · cases e
                  · cases e
                    cases ob <;> simp only [relObj] at hr
                    exact ⟨_, hh, hr.2.2.2.2.2.2⟩
                obtain ⟨rc, hh0, hdb0⟩ := hw0
                refine goes_of ?_ (by simp)
                refine wpIn_rangeFunc fun fnn _ => ?_
                have hn0 := hf n (Nat.le_refl _) (by omega)
                have hslots : relL ρ μ (slotL T N []) a.tmps.toList := by
                  have := slotL_rel (a := a) hT.get N [] [] (by rw [hT.size]; exact Nat.le_refl _) trivial
                  rw [List.append_nil, List.take_of_length_le (by simp [hT.size])] at this
                  exact this
                have hR2 := hR.allocObj hB hn0 (v := .loopO 0 none (slotL T N []) ps.toList as body db) (ob := .loop { state := .ready, pending := none, fn := fnn, tmps := a.tmps, params := ps, assign := as, body := body, defers := rc.defers }) ⟨rfl, rfl, hslots, rfl, rfl, rfl, hdb0⟩
                obtain ⟨xs, ys, d, rx, ry, e1, e2⟩ := hinv ρ μ a (w.alloc (.loop { state := .ready, pending := none, fn := fnn, tmps := a.tmps, params := ps, assign := as, body := body, defers := rc.defers })) w.heap.size hT
                have hle : μ.le (μ.add n (.obj w.heap.size)) := Names.le_add hn0 _
                have hstep : Step μ (μ.add n (.obj w.heap.size)) n (n + 1) := ⟨hle, fun i hi => by rw [Names.add_ne _ _ (by omega)]⟩
                have hlp : (μ.add n (.obj w.heap.size)).get n = some (.obj w.heap.size) := Names.add_new _ _ _
                generalize hν : μ.add n (.obj w.heap.size) = ν at *
                have hargs : relL ρ ν (fs ++ [.yieldF n] ++ cs) (xs ++ [Value.func (.yield w.heap.size) #[] #[]] ++ ys) :=
                  ((relL.mono hle _ _ rx).append (show relL ρ ν [AV.yieldF n] [Value.func (.yield w.heap.size) #[] #[]] from ⟨⟨w.heap.size, hlp, rfl⟩, trivial⟩)).append (relL.mono hle _ _ ry)
                have hC := hq ρ ν _ (w.alloc (.loop { state := .ready, pending := none, fn := fnn, tmps := a.tmps, params := ps, assign := as, body := body, defers := rc.defers })) hA hargs hR2 (by simp; omega) (fun i h1 h2 => by rw [hstep.same i (by omega)]; exact hf i (by omega) h2)
                have hb1 : Below B w (w.alloc (.loop { state := .ready, pending := none, fn := fnn, tmps := a.tmps, params := ps, assign := as, body := body, defers := rc.defers })) := (Below.refl B w).alloc hB _
                have henter : (Instr.enterLoop fnn a.tmps ps as body (some b0)).run P w = .ok (w.heap.size, []) (w.alloc (.loop { state := .ready, pending := none, fn := fnn, tmps := a.tmps, params := ps, assign := as, body := body, defers := rc.defers })) := by
                  unfold Instr.enterLoop
                  simp only [Sem.run_bind, run_getLoop hh0, run_newObj_alloc, Result.andThen, Sem.run_pure]
                refine ⟨w.heap.size, [], _, d, _, fi, _, _, henter, e1, fun _ _ => trivial, e2, (fun h => by cases h), ?_⟩
                refine (show CallsIn Fence.wide (0 - 1) P fi _ _ _ from (callsIn_wide (n := 0 - 1)).2 (hC.mono fun ee w3 he => ?_))
                obtain ⟨x, μ3, rfl, _, s3, R3, b3⟩ := he
                show ∃ jump w₄, _
                refine post_of (hend ρ μ3 B w3 w.heap.size (some b0) Q { a with defers := [] ++ a.defers } R3 (by have := b3.size; simp at this; omega) (s3.le _ _ hlp) fun w4 R4 b4 => ?_)
                exact hQ _ μ3 w4 ((hT.mono (Names.le_trans hle s3.le))) (hstep.trans s3 (by omega) hn) R4 (hb1.trans (b3.trans b4))
    · cases h
  · cases h
theorem roRel.mono {μ ν : Names} (h : μ.le ν) {ro rb : Option Nat} (r : roRel μ ro rb) : roRel ν ro rb := by
  cases ro <;> cases rb <;> first | exact r | exact h _ _ r
theorem ev_run {B : Nat} {ro : Option Nat} (hcall : CallOk P A B call) (hdraw : DrawOk P A N draw B) : ∀ (f : Nat) (sc : Option Code) (c : Code) (T : Sl) (k : Ex → Sl → AM) (H : Mem) (n : Nat) (acc : List Tok) (r : Out × Mem × Nat × List Tok), (ev P A call N draw ro f sc c T k).run H n acc = some r →
    ∃ e T1 H1 n1 acc1, (k e T1).run H1 n1 acc1 = some r ∧ CodeOk P A N B ro f sc c T H n e T1 H1 n1 := by
  intro f
  induction f with
  | zero => intro sc c T k H n acc r h; cases h
  | succ f ih =>
    intro sc c T k H n acc r h
    -- a step that comes to its end at once
    have here : ∀ (e : Ex), (k e T).run H n acc = some r → (∀ (rb : Option Nat) (Q : Exit → Act → World → Prop) (a : Act) (w : World), Q e.exit' a w → Goes P rb (f + 1) sc c Q a w) → ∃ e T1 H1 n1 acc1, (k e T1).run H1 n1 acc1 = some r ∧ CodeOk P A N B ro (f + 1) sc c T H n e T1 H1 n1 := fun e hk hw =>
      ⟨e, T, H, n, acc, hk, Nat.le_refl _, fun ρ μ a w hA hT hR hB hf rb Q hro hQ => hw rb Q a w (hQ a μ w hT (Step.refl _ _ _) hR (Below.refl _ _))⟩
    -- two parts
    have two : ∀ {e1 e2 : Ex} {T1 T2 : Sl} {H1 H2 : Mem} {n1 n2 : Nat} {f1 f2 : Nat} {s1 s2 : Option Code} {c1 c2 : Code}, CodeOk P A N B ro f1 s1 c1 T H n e1 T1 H1 n1 → CodeOk P A N B ro f2 s2 c2 T1 H1 n1 e2 T2 H2 n2 →
        (∀ (rb : Option Nat) (Q : Exit → Act → World → Prop) (a : Act) (w : World), (Goes P rb f1 s1 c1 (fun e a' w' => e = e1.exit' ∧ Goes P rb f2 s2 c2 Q a' w') a w) → Goes P rb (f + 1) sc c Q a w) → CodeOk P A N B ro (f + 1) sc c T H n e2 T2 H2 n2 := fun {e1 e2 T1 T2 H1 H2 n1 n2 f1 f2 s1 s2 c1 c2} ok1 ok2 hw => by
      refine ⟨Nat.le_trans ok1.1 ok2.1, fun ρ μ a w hA hT hR hB hf rb Q hro hQ => hw rb Q a w ?_⟩
      have l1 := ok1.1
      have l2 := ok2.1
      refine ok1.2 ρ μ a w hA hT hR hB (fun j h1 h2 => hf j h1 (by omega)) rb _ hro fun a1 μ1 w1 q1 q2 q3 q4 => ⟨rfl, ?_⟩
      exact ok2.2 ρ μ1 a1 w1 hA q1 q3 (Nat.le_trans hB q4.size) (fun j h1 h2 => by rw [q2.same j (by omega)]; exact hf j (by omega) h2) rb Q (roRel.mono q2.le hro) fun a2 μ2 w2 p1 p2 p3 p4 => hQ a2 μ2 w2 p1 (q2.trans p2 l1 l2) p3 (q4.trans p4)
    -- one part that ends so
    have one : ∀ {e1 e2 : Ex} {T1 : Sl} {H1 : Mem} {n1 : Nat} {f1 : Nat} {s1 : Option Code} {c1 : Code}, CodeOk P A N B ro f1 s1 c1 T H n e1 T1 H1 n1 →
        (∀ (rb : Option Nat) (Q : Exit → Act → World → Prop) (a : Act) (w : World), (Goes P rb f1 s1 c1 (fun e a' w' => e = e1.exit' ∧ Q e2.exit' a' w') a w) → Goes P rb (f + 1) sc c Q a w) → CodeOk P A N B ro (f + 1) sc c T H n e2 T1 H1 n1 := fun {e1 e2 T1 H1 n1 f1 s1 c1} ok1 hw => by
      refine ⟨ok1.1, fun ρ μ a w hA hT hR hB hf rb Q hro hQ => hw rb Q a w ?_⟩
      exact ok1.2 ρ μ a w hA hT hR hB hf rb _ hro fun a1 μ1 w1 q1 q2 q3 q4 => ⟨rfl, hQ a1 μ1 w1 q1 q2 q3 q4⟩
    cases sc with
    | some b =>
      simp only [ev_none, ev_some] at h
      obtain ⟨e1, T1, H1, n1, acc1, h1, ok1⟩ := ih none c T _ H n acc r h
      have other : (∀ l, e1 ≠ .goto l) → (k e1 T1).run H1 n1 acc1 = some r → ∃ e T1 H1 n1 acc1, (k e T1).run H1 n1 acc1 = some r ∧ CodeOk P A N B ro (f + 1) (some b) c T H n e T1 H1 n1 := fun hne hk =>
        ⟨e1, T1, H1, n1, acc1, hk, one ok1 fun rb Q a w hg => runs_of_wp (wpIn_mono hg.wp fun e a' w' ⟨he, hq⟩ => by
          subst he
          cases e1 <;> first | exact hq | exact absurd rfl (hne _))⟩
      cases e1 with
      | normal => exact other (fun l => by simp) h1
      | exit i => exact other (fun l => by simp) h1
      | ret => exact other (fun l => by simp) h1
      | goto l =>
        dsimp only at h1
        cases hf : findLabel b l with
        | none =>
          rw [hf] at h1
          exact ⟨.goto l, T1, H1, n1, acc1, h1, one ok1 fun rb Q a w hg => runs_of_wp (wpIn_mono hg.wp fun e a' w' ⟨he, hq⟩ => by
            subst he
            simp only [Ex.exit', hf]
            exact hq)⟩
        | some rest =>
          rw [hf] at h1
          obtain ⟨e2, T2, H2, n2, acc2, h2, ok2⟩ := ih (some b) rest T1 k H1 n1 acc1 r h1
          exact ⟨e2, T2, H2, n2, acc2, h2, two ok1 ok2 fun rb Q a w hg => runs_of_wp (wpIn_mono hg.wp fun e a' w' ⟨he, hq⟩ => by
            subst he
            simp only [Ex.exit', hf]
            exact hq)⟩
    | none =>
      cases c with
      | skip =>
        simp only [ev_none, ev_some] at h
        exact here .normal h fun rb Q a w hq => goes_of (wpIn_skip hq) (by simp)
      | label l =>
        simp only [ev_none, ev_some] at h
        exact here .normal h fun rb Q a w hq => goes_of (wpIn_label hq) (by simp)
      | exit i =>
        simp only [ev_none, ev_some] at h
        exact here (.exit i) h fun rb Q a w hq => goes_of (wpIn_exit hq) (by simp)
      | goto l =>
        simp only [ev_none, ev_some] at h
        exact here (.goto l) h fun rb Q a w hq => goes_of (wpIn_goto hq) (by simp)
      | ret =>
        simp only [ev_none, ev_some] at h
        exact here .ret h fun rb Q a w hq => goes_of (wpIn_ret hq) (by simp)
      | rangeFunc g ps as bd =>
        simp only [ev_none, ev_some] at h
        exact rangeA_run hcall h
      | refuse => simp only [ev_none, ev_some] at h; cases h
      | region id ops d =>
        simp only [ev_none, ev_some] at h
        cases d with
        | true =>
          obtain ⟨T1, H1, n1, acc1, h1, hn, ok⟩ := hdraw ops T (k .normal) H n acc r h
          exact ⟨.normal, T1, H1, n1, acc1, h1, hn, fun ρ μ a w hA hT hR hB hf rb Q hro hQ => goes_of (ok id ρ μ a w hA hT hR hB hf rb Q hQ) (by simp)⟩
        | false =>
          obtain ⟨T1, H1, n1, acc1, h1, hn, ok⟩ := evReg_run hcall ops _ T (k .normal) H n acc r h
          exact ⟨.normal, T1, H1, n1, acc1, h1, hn, fun ρ μ a w hA hT hR hB hf rb Q hro hQ => goes_of (wpIn_region (ok ρ μ a w hA hT hR hB hf rb Q hQ)) (by simp)⟩
      | scope b =>
        simp only [ev_none, ev_some] at h
        obtain ⟨e1, T1, H1, n1, acc1, h1, ok1⟩ := ih (some b) b T k H n acc r h
        exact ⟨e1, T1, H1, n1, acc1, h1, ok1.1, fun ρ μ a w hA hT hR hB hf rb Q hro hQ => goes_of (scope_of_runs (ok1.2 ρ μ a w hA hT hR hB hf rb Q hro hQ)) (by simp)⟩
      | cond x y z =>
        simp only [ev_none, ev_some] at h
        cases hv : val T x with
        | none => rw [hv] at h; cases h
        | some v =>
          rw [hv] at h
          cases v <;> dsimp only at h <;> try (cases h; done)
          rename_i s
          have cond : ∀ (b : Bool), dec A s = some b → ∀ {e1 : Ex} {T1 : Sl} {H1 : Mem} {n1 : Nat}, CodeOk P A N B ro f none (if b then y else z) T H n e1 T1 H1 n1 → CodeOk P A N B ro (f + 1) none (.cond x y z) T H n e1 T1 H1 n1 := fun b hb {e1 T1 H1 n1} ok =>
            ⟨ok.1, fun ρ μ a w hA hT hR hB hf rb Q hro hQ => goes_of (wpIn_cond (t := b) (by
              have := val_rel hT hv
              simp only [rel] at this
              rw [this, dec_eq hA hb]) (ok.2 ρ μ a w hA hT hR hB hf rb Q hro hQ).wp) (by simp)⟩
          cases hd : dec A s with
          | none => rw [hd] at h; cases h
          | some b =>
            rw [hd] at h
            cases b with
            | true =>
              obtain ⟨e1, T1, H1, n1, acc1, h1, ok1⟩ := ih none y T k H n acc r h
              exact ⟨e1, T1, H1, n1, acc1, h1, cond true hd (by simpa using ok1)⟩
            | false =>
              obtain ⟨e1, T1, H1, n1, acc1, h1, ok1⟩ := ih none z T k H n acc r h
              exact ⟨e1, T1, H1, n1, acc1, h1, cond false hd (by simpa using ok1)⟩
      | seq x y =>
        simp only [ev_none, ev_some] at h
        obtain ⟨e1, T1, H1, n1, acc1, h1, ok1⟩ := ih none x T _ H n acc r h
        have other : e1 ≠ .normal → (k e1 T1).run H1 n1 acc1 = some r → ∃ e T1 H1 n1 acc1, (k e T1).run H1 n1 acc1 = some r ∧ CodeOk P A N B ro (f + 1) none (.seq x y) T H n e T1 H1 n1 := fun hne hk =>
          ⟨e1, T1, H1, n1, acc1, hk, one ok1 fun rb Q a w hg => goes_of (wpIn_seq (wpIn_mono hg.wp fun e a' w' ⟨he, hq⟩ => by
            subst he
            cases e1 <;> first | exact hq | exact absurd rfl hne)) (by simp)⟩
        cases e1 with
        | exit i => exact other (by simp) h1
        | ret => exact other (by simp) h1
        | goto l => exact other (by simp) h1
        | normal =>
          obtain ⟨e2, T2, H2, n2, acc2, h2, ok2⟩ := ih none y T1 k H1 n1 acc1 r h1
          exact ⟨e2, T2, H2, n2, acc2, h2, two ok1 ok2 fun rb Q a w hg => goes_of (wpIn_seq (wpIn_mono hg.wp fun e a' w' ⟨he, hq⟩ => by
            subst he
            exact hq.wp)) (by simp)⟩
      | block i x =>
        simp only [ev_none, ev_some] at h
        obtain ⟨e1, T1, H1, n1, acc1, h1, ok1⟩ := ih none x T _ H n acc r h
        have other : (∀ j, e1 ≠ .exit j) → (k e1 T1).run H1 n1 acc1 = some r → ∃ e T1 H1 n1 acc1, (k e T1).run H1 n1 acc1 = some r ∧ CodeOk P A N B ro (f + 1) none (.block i x) T H n e T1 H1 n1 := fun hne hk =>
          ⟨e1, T1, H1, n1, acc1, hk, one ok1 fun rb Q a w hg => goes_of (wpIn_block (wpIn_mono hg.wp fun e a' w' ⟨he, hq⟩ => by
            subst he
            cases e1 <;> first | exact hq | exact absurd rfl (hne _))) (by simp)⟩
        cases e1 with
        | normal => exact other (by simp) h1
        | ret => exact other (by simp) h1
        | goto l => exact other (by simp) h1
        | exit j =>
          dsimp only at h1
          cases hb : Nat.beq j i with
          | true =>
            rw [hb, cond_true] at h1
            have e : j = i := Nat.eq_of_beq_eq_true hb
            exact ⟨.normal, T1, H1, n1, acc1, h1, one ok1 fun rb Q a w hg => goes_of (wpIn_block (wpIn_mono hg.wp fun e' a' w' ⟨he, hq⟩ => by
              subst he
              simp only [Ex.exit', Exit.inBlock, if_pos e]
              exact hq)) (by simp)⟩
          | false =>
            rw [hb, cond_false] at h1
            have e : ¬ j = i := fun e => by subst e; simp at hb
            exact ⟨.exit j, T1, H1, n1, acc1, h1, one ok1 fun rb Q a w hg => goes_of (wpIn_block (wpIn_mono hg.wp fun e' a' w' ⟨he, hq⟩ => by
              subst he
              simp only [Ex.exit', Exit.inBlock, if_neg e]
              exact hq)) (by simp)⟩
      | loop x =>
        simp only [ev_none, ev_some] at h
        obtain ⟨e1, T1, H1, n1, acc1, h1, ok1⟩ := ih none x T _ H n acc r h
        have other : e1 ≠ .normal → (k e1 T1).run H1 n1 acc1 = some r → ∃ e T1 H1 n1 acc1, (k e T1).run H1 n1 acc1 = some r ∧ CodeOk P A N B ro (f + 1) none (.loop x) T H n e T1 H1 n1 := fun hne hk =>
          ⟨e1, T1, H1, n1, acc1, hk, one ok1 fun rb Q a w hg => show roundsIn (Fr rb) P x Q (f + 1) a w from wpIn_mono hg.wp fun e a' w' ⟨he, hq⟩ => by
            subst he
            cases e1 <;> first | exact hq | exact absurd rfl hne⟩
        cases e1 with
        | exit i => exact other (by simp) h1
        | ret => exact other (by simp) h1
        | goto l => exact other (by simp) h1
        | normal =>
          obtain ⟨e2, T2, H2, n2, acc2, h2, ok2⟩ := ih none (.loop x) T1 k H1 n1 acc1 r h1
          exact ⟨e2, T2, H2, n2, acc2, h2, two ok1 ok2 fun rb Q a w hg => show roundsIn (Fr rb) P x Q (f + 1) a w from wpIn_mono hg.wp fun e a' w' ⟨he, hq⟩ => by
            subst he
            exact hq⟩
end
end
end Go.Proofs.YtdoegipkfjndbaaGreatDoor.Ev
namespace Go.Proofs.YtdoegipkfjndbaaGreatDoor.Ev
set_option linter.unusedVariables false
set_option linter.unusedSimpArgs false
noncomputable section
open Go.RowKit
section
variable (P : Program) (A : Ass)
def resA : List ResultVar → Sl → (List AV → AM) → AM
  | [], _, k => k []
  | .tmp t :: l, T, k => match T.get t with
    | some v => resA l T fun vs => k (v :: vs)
    | none => .fail 31
  | .cell p t :: l, T, k => match T.get p with
    | some a => aLoad P t a fun v => resA l T fun vs => k (v :: vs)
    | none => .fail 32
def oneOr : List AV → AV
  | [v] => v
  | l => .tuple l
def argsT : List AV → Nat → Sl → Sl
  | [], _, T => T
  | v :: l, i, T => argsT l (i + 1) (T.set i v)
def argsTK : List AV → Nat → Sl → (Sl → AM) → AM
  | [], _, T, k => k T
  | v :: l, i, T, k => T.setK i v fun T => natK (i + 1) fun i => argsTK l i T k
theorem argsTK_eq : ∀ (l : List AV) (i : Nat) (T : Sl) (k : Sl → AM), argsTK l i T k = k (argsT l i T)
  | [], _, _, _ => rfl
  | v :: l, i, T, k => by rw [argsTK, Sl.setK_eq, natK_eq, argsTK_eq l]; rfl
/-- the deferred calls' blocks are taken -/
def leaveA : List DA → AM → AM
  | [], k => k
  | .mark id :: l, k => .load id 0 fun o => match o with
    | .defO => .store id 0 .defX (leaveA l k)
    | _ => .fail 37
  | .call .. :: _, _ => .fail 38
def evBody (fuel : Nat) (call : Tg → List AV → AM) (draw : Nat → Array Oper → Sl → (Sl → AM) → AM) (g : FuncId) (args : List AV) : AM :=
  match P.funcs[g]? with
  | none => .fail 33
  | some fn => match fn.body with
    | none => .fail 34
    | some c => bif Nat.ble args.length fn.ntmps then
        argsTK args 0 .e fun T0 => ev P A call fn.ntmps (draw fn.ntmps) none fuel none c T0 fun e T => match e with
          | .normal => leaveA T.d (resA P fn.results.toList T fun vs => .ret ⟨.normal, .e, oneOr vs⟩)
          | .ret => leaveA T.d (resA P fn.results.toList T fun vs => .ret ⟨.normal, .e, oneOr vs⟩)
          | _ => .fail 35
      else .fail 36
def putPs (N : Nat) : List Nat → List AV → Sl → (Sl → AM) → AM
  | [], [], T, k => k T
  | p :: ps, a :: as, T, k => bif Nat.blt p N then T.setK p a fun T => putPs N ps as T k else .fail 42
  | _, _, _, _ => .fail 42
/-- a round of a loop over a function -/
def evRound (fuel : Nat) (call : Tg → List AV → AM) (draw : Nat → Array Oper → Sl → (Sl → AM) → AM) (lp : Nat) (args : List AV) : AM :=
  .load lp 0 fun o => match o with
    | .loopO st _ l ps as body _ => bif Nat.beq st 0 then
        argsTK l 0 .e fun Tr0 => putPs l.length ps args Tr0 fun T0 =>
        ev P A call l.length (draw l.length) (some lp) fuel none as T0 fun e T1 => match e with
          | .normal => .load lp 0 fun o => match o with
            | .loopO st2 pd2 l2 ps2 as2 bd2 d2 => bif Nat.beq st2 0 then
                .store lp 0 (.loopO 1 pd2 l2 ps2 as2 bd2 d2) (ev P A call l.length (draw l.length) (some lp) fuel none body T1 fun e T2 =>
                  .load lp 0 fun o => match o with
                    | .loopO _ _ l3 ps3 as3 bd3 d3 => .store lp 0 (.loopO (match jumpOf e with | none => 0 | some _ => 2) (jumpOf e) l3 ps3 as3 bd3 d3) (.ret ⟨.normal, .e, .bool (.lit (jumpOf e).isNone)⟩)
                    | _ => .fail 43)
              else .fail 44
            | _ => .fail 43
          | _ => .fail 45
      else .fail 44
    | _ => .fail 43
end
section
variable {P : Program} {A : Ass}
theorem argsT_get : ∀ (l : List AV) (i : Nat) (T : Sl) (k : Nat), (argsT l i T).get k = if i ≤ k ∧ k < i + l.length then l[k - i]? else T.get k
  | [], i, T, k => by simp [argsT]; omega
  | v :: l, i, T, k => by
    rw [argsT, argsT_get l (i + 1), Sl.get_set]
    by_cases h : i + 1 ≤ k ∧ k < i + 1 + l.length
    · rw [if_pos h, if_pos (by simp; omega), show k - i = (k - (i + 1)) + 1 by omega]; simp
    · rw [if_neg h]
      by_cases g : k = i
      · subst g; simp
      · rw [if_neg g, if_neg (by simp; omega)]
/-- what a result variable yields, one by one -/
def resOne (tmps : Array Value) : ResultVar → Sem Value
  | .tmp t => pure (tmps.getD t undef)
  | .cell a t => do loadVar t (← asAddr (tmps.getD a undef))
theorem aLoad_run {t : TypeId} {p : AV} {k : AV → AM} {H : Mem} {n : Nat} {acc : List Tok} {r : Out × Mem × Nat × List Tok} (h : (aLoad P t p k).run H n acc = some r) :
    ∃ v acc1, (k v).run H n acc1 = some r ∧ ∀ (ρ : Val) (μ : Names) (B : Nat) (w : World) (u : Value), R ρ μ B H w → rel ρ μ p u → ∃ b f x, u = .pointer (some ⟨b, f, none⟩) ∧ (loadVar t ⟨b, f, none⟩).run P w = .ok x w ∧ rel ρ μ v x := by
  unfold aLoad at h
  split at h
  · rename_i id off d hu
    cases hd : rowDesc d with
    | true =>
      rw [hd, cond_true] at h
      obtain ⟨l, acc1, e1, e2, e3⟩ := loadN_run id _ _ _ H n acc r h
      refine ⟨.agg l, acc1, e1, fun ρ μ B w u hR hr => ?_⟩
      obtain ⟨b, f, m, rfl⟩ := hr
      obtain ⟨z, q1, q2⟩ := (run_loadVar (P := P) (off := off) hR m hu).1 hd l e2 e3
      exact ⟨b, f + off, z, rfl, q1, q2⟩
    | false =>
      rw [hd, cond_false] at h
      simp only [AM.run_ret, AM.run_fail, AM.run_load, AM.run_store, AM.run_alloc, AM.run_sub, AM.run_call, AM.run_here, AM.run_drop, AM.run_renew] at h
      cases hv : H.at id off with
      | none => simp [hv] at h
      | some v =>
        simp only [hv] at h
        refine ⟨v, _, h, fun ρ μ B w u hR hr => ?_⟩
        obtain ⟨b, f, m, rfl⟩ := hr
        obtain ⟨z, q1, q2⟩ := (run_loadVar (P := P) (off := off) hR m hu).2 hd v hv
        exact ⟨b, f + off, z, rfl, q1, q2⟩
  · cases h
theorem resA_run {N : Nat} : ∀ (l : List ResultVar) (T : Sl) (k : List AV → AM) (H : Mem) (n : Nat) (acc : List Tok) (r : Out × Mem × Nat × List Tok), (resA P l T k).run H n acc = some r →
    ∃ vs acc1, (k vs).run H n acc1 = some r ∧ ∀ (ρ : Val) (μ : Names) (B : Nat) (a : Act) (w : World), TRel ρ μ N T a → R ρ μ B H w → ∃ xs, relL ρ μ vs xs ∧ xs.length = l.length ∧ ∀ (i : Nat) (v : ResultVar) (x : Value), l[i]? = some v → xs[i]? = some x → (resOne a.tmps v).run P w = .ok x w
  | [], T, k, H, n, acc, r, h => ⟨[], acc, h, fun ρ μ B a w hT hR => ⟨[], trivial, rfl, fun i v x e => by simp at e⟩⟩
  | .tmp t :: l, T, k, H, n, acc, r, h => by
    simp only [resA] at h
    cases hv : T.get t with
    | none => rw [hv] at h; cases h
    | some v =>
      rw [hv] at h
      obtain ⟨vs, acc1, e1, e2⟩ := resA_run (N := N) l T _ H n acc r h
      refine ⟨v :: vs, acc1, e1, fun ρ μ B a w hT hR => ?_⟩
      obtain ⟨xs, q1, q2, q3⟩ := e2 ρ μ B a w hT hR
      obtain ⟨x, p1, p2⟩ := hT.get t v hv
      refine ⟨x :: xs, ⟨p2, q1⟩, by simp [q2], fun i u y hu hy => ?_⟩
      cases i with
      | zero =>
        simp at hu hy
        subst hu hy
        simp [resOne, Array.getD_eq_getD_getElem?, p1]
      | succ i => exact q3 i u y (by simpa using hu) (by simpa using hy)
  | .cell p t :: l, T, k, H, n, acc, r, h => by
    simp only [resA] at h
    cases hv : T.get p with
    | none => rw [hv] at h; cases h
    | some v =>
      rw [hv] at h
      obtain ⟨u, acc0, e0, g0⟩ := aLoad_run h
      obtain ⟨vs, acc1, e1, e2⟩ := resA_run (N := N) l T _ H n acc0 r e0
      refine ⟨u :: vs, acc1, e1, fun ρ μ B a w hT hR => ?_⟩
      obtain ⟨xs, q1, q2, q3⟩ := e2 ρ μ B a w hT hR
      obtain ⟨x, p1, p2⟩ := hT.get p v hv
      obtain ⟨b, f, z, rfl, g1, g2⟩ := g0 ρ μ B w x hR p2
      refine ⟨z :: xs, ⟨g2, q1⟩, by simp [q2], fun i u y hu hy => ?_⟩
      cases i with
      | zero =>
        simp at hu hy
        subst hu hy
        simp [resOne, Array.getD_eq_getD_getElem?, p1, Sem.run_bind, asAddr, g1]
      | succ i => exact q3 i u y (by simpa using hu) (by simpa using hy)
theorem run_mapM_list (tmps : Array Value) (w : World) : ∀ (l : List ResultVar) (xs : List Value), xs.length = l.length → (∀ (i : Nat) (v : ResultVar) (x : Value), l[i]? = some v → xs[i]? = some x → (resOne tmps v).run P w = .ok x w) →
    (l.mapM (resOne tmps)).run P w = .ok xs w
  | [], [], _, _ => by simp
  | v :: l, x :: xs, hl, h => by
    have ih := run_mapM_list tmps w l xs (by simpa using hl) (fun i u y hu hy => h (i + 1) u y (by simpa using hu) (by simpa using hy))
    rw [List.mapM_cons]
    simp [Sem.run_bind, h 0 v x rfl rfl, ih]
  | [], _ :: _, hl, _ => by simp at hl
  | _ :: _, [], hl, _ => by simp at hl
theorem run_results {fn : Func} {tmps : Array Value} {w : World} {xs : List Value} (hl : xs.length = fn.results.size) (h : ∀ (i : Nat) (v : ResultVar) (x : Value), fn.results[i]? = some v → xs[i]? = some x → (resOne tmps v).run P w = .ok x w) :
    (results fn tmps).run P w = .ok (if h : xs.toArray.size = 1 then xs.toArray[0] else .tuple xs.toArray) w := by
  have := run_mapM_list (P := P) tmps w fn.results.toList xs (by simpa using hl) (fun i v x hv hx => h i v x (by simpa using hv) hx)
  have e : results fn tmps = ((List.toArray <$> fn.results.toList.mapM (resOne tmps)) >>= fun vs => pure (if h : vs.size = 1 then vs[0] else .tuple vs)) := by
    rw [← Array.mapM_eq_mapM_toList]
    have hf : (fun x : ResultVar => (match x with
      | .tmp t => (pure (tmps.getD t undef) : Sem Value)
      | .cell a t => do loadVar t (← asAddr (tmps.getD a undef)))) = resOne tmps := by
      funext x
      cases x <;> rfl
    rw [← hf]
    rfl
  rw [e, Sem.run_bind, map_eq_pure_bind, Sem.run_bind, this]
  rfl
theorem oneOr_rel {ρ : Val} {μ : Names} {vs : List AV} {xs : List Value} (h : relL ρ μ vs xs) : rel ρ μ (oneOr vs) (if h : xs.toArray.size = 1 then xs.toArray[0] else .tuple xs.toArray) := by
  match vs, xs, h with
  | [], [], _ => exact ⟨[], rfl, trivial⟩
  | [v], [x], h => exact h.1
  | v :: u :: l, x :: y :: m, h =>
    rw [dif_neg (by simp)]
    exact ⟨x :: y :: m, rfl, h⟩
theorem argsT_d : ∀ (l : List AV) (i : Nat) (T : Sl), (argsT l i T).d = T.d
  | [], i, T => rfl
  | v :: l, i, T => by rw [argsT, argsT_d l]; rfl
theorem argsT_rel {ρ : Val} {μ : Names} {args : List AV} {xs : List Value} (hr2 : relL ρ μ args xs) (N : Nat) (hb : args.length ≤ N) : TRel ρ μ N (argsT args 0 .e) { tmps := xs.toArray ++ Array.replicate (N - xs.toArray.size) undef, defers := [] } := by
  have hlen := hr2.length
  refine ⟨fun k v hv => ?_, by simp; omega, by rw [argsT_d]; trivial⟩
  rw [argsT_get] at hv
  by_cases hk : 0 ≤ k ∧ k < 0 + args.length
  · rw [if_pos hk] at hv
    obtain ⟨x, hx, hrx⟩ := relL.get k v hr2 (by simpa using hv)
    refine ⟨x, ?_, hrx⟩
    have hk2 : k < xs.length := by omega
    show (xs.toArray ++ Array.replicate (N - xs.toArray.size) undef)[k]? = some x
    rw [Array.getElem?_append_left (by simpa using hk2)]
    simpa using hx
  · rw [if_neg hk, Sl.get_e] at hv
    cases hv
/-- the way out of a function, its marks taken -/
theorem leaveA_run {fn : Func} {tmps : Array Value} : ∀ (l : List DA) (k : AM) (H : Mem) (n : Nat) (acc : List Tok) (r : Out × Mem × Nat × List Tok), (leaveA l k).run H n acc = some r →
    ∃ H1 acc1, k.run H1 n acc1 = some r ∧ ∀ (ρ : Val) (μ : Names) (B : Nat) (w : World) (ds : List Deferred) (Rr : Ending → World → Prop), relD ρ μ l ds → R ρ μ B H w → (∀ w1, R ρ μ B H1 w1 → Below B w w1 → ∃ v, (results fn tmps).run P w1 = .ok v w1 ∧ Rr (.returned v) w1) →
      LeavesInM Fence.wide 0 P fn tmps Rr ds .returning w
  | [], k, H, n, acc, r, h => ⟨H, acc, h, fun ρ μ B w ds Rr hd hR hk => by
      cases ds with
      | nil => exact hk w hR (Below.refl _ _)
      | cons d ds => exact hd.elim⟩
  | .mark id :: l, k, H, n, acc, r, h => by
    simp only [leaveA, AM.run_ret, AM.run_fail, AM.run_load, AM.run_store, AM.run_alloc, AM.run_sub, AM.run_call, AM.run_here, AM.run_drop, AM.run_renew] at h
    cases ho : H.at id 0 with
    | none => rw [ho] at h; cases h
    | some o =>
      rw [ho] at h
      dsimp only at h
      cases o <;> dsimp only at h <;> try (cases h; done)
      simp only [AM.run_ret, AM.run_fail, AM.run_load, AM.run_store, AM.run_alloc, AM.run_sub, AM.run_call, AM.run_here, AM.run_drop, AM.run_renew, ho] at h
      dsimp only [AV.isU8] at h
      rw [Bool.false_and, cond_false] at h
      obtain ⟨H1, acc1, h1, q⟩ := leaveA_run (fn := fn) (tmps := tmps) l k _ n _ r h
      refine ⟨H1, acc1, h1, fun ρ μ B w ds Rr hd hR hk => ?_⟩
      cases ds with
      | nil => exact hd.elim
      | cons d ds =>
        obtain ⟨⟨b, hb, rfl⟩, hds⟩ := hd
        have hw : w.heap[b]? = some (.deferred (some [])) := by
          obtain ⟨p, e, c⟩ := hR.at' id 0 _ ho
          rw [hb] at e
          obtain rfl := Option.some.inj e
          rcases c with ⟨_, _, _, e, _⟩ | ⟨b', ob, e, _, _, hh, hr⟩
          · cases e
          · cases e
            cases ob <;> simp only [relObj] at hr
            rw [hh, hr]
        obtain ⟨hB, hR2⟩ := hR.setObj ho hb (v := .defX) (ob := .deferred none) rfl
        refine ⟨by simp, .inl ⟨b, _, rfl, run_takeDeferred hw, ?_⟩⟩
        exact q ρ μ B _ ds Rr hds hR2 fun w1 R1 b1 => hk w1 R1 ((Below.setObj hB _).trans b1)
  | .call .. :: _, k, H, n, acc, r, h => by cases h
theorem evBody_ok {B : Nat} {fuel : Nat} {call : Tg → List AV → AM} {draw : Nat → Array Oper → Sl → (Sl → AM) → AM} (hcall : CallOk P A B call) (hdraw : ∀ N, DrawOk P A N (draw N) B) (g : FuncId) (args : List AV) (H : Mem) (n : Nat) (acc : List Tok) (out : Out) (H1 : Mem) (n1 : Nat) (l : List Tok)
    (h : (evBody P A fuel call draw g args).run H n acc = some (out, H1, n1, l)) : n ≤ n1 ∧
    ∀ (ρ : Val) (μ : Names) (xs : List Value) (w : World), (A.has ρ) → relL ρ μ args xs → R ρ μ B H w → B ≤ w.heap.size → (∀ i, n ≤ i → i < n1 → μ.get i = none) →
      Calls P g xs.toArray w fun e w1 => ∃ x μ1, e = .returned x ∧ rel ρ μ1 out.v x ∧ Step μ μ1 n n1 ∧ R ρ μ1 B H1 w1 ∧ Below B w w1 := by
  unfold evBody at h
  cases hfn : P.funcs[g]? with
  | none => rw [hfn] at h; cases h
  | some fn =>
    rw [hfn] at h
    dsimp only at h
    cases hc : fn.body with
    | none => rw [hc] at h; cases h
    | some c =>
      rw [hc] at h
      dsimp only at h
      cases hb : Nat.ble args.length fn.ntmps with
      | false => rw [hb] at h; cases h
      | true =>
        rw [hb, cond_true, argsTK_eq] at h
        rw [Nat.ble_eq] at hb
        obtain ⟨e, T, H2, n2, acc2, h2, ok⟩ := ev_run (ro := none) hcall (hdraw fn.ntmps) fuel none c _ _ H n acc _ h
        have fin : ∀ (e' : Ex), e = e' → (e' = .normal ∨ e' = .ret) → (leaveA T.d (resA P fn.results.toList T fun vs => .ret ⟨.normal, .e, oneOr vs⟩)).run H2 n2 acc2 = some (out, H1, n1, l) → n ≤ n1 ∧
            ∀ (ρ : Val) (μ : Names) (xs : List Value) (w : World), (A.has ρ) → relL ρ μ args xs → R ρ μ B H w → B ≤ w.heap.size → (∀ i, n ≤ i → i < n1 → μ.get i = none) →
              Calls P g xs.toArray w fun e w1 => ∃ x μ1, e = .returned x ∧ rel ρ μ1 out.v x ∧ Step μ μ1 n n1 ∧ R ρ μ1 B H1 w1 ∧ Below B w w1 := fun e' he hee hr => by
          subst he
          have key : ∀ (tmps : Array Value), ∃ H1' acc1, (resA P fn.results.toList T fun vs => .ret ⟨.normal, .e, oneOr vs⟩).run H1' n2 acc1 = some (out, H1, n1, l) ∧ ∀ (ρ : Val) (μ : Names) (B : Nat) (w : World) (ds : List Deferred) (Rr : Ending → World → Prop), relD ρ μ T.d ds → R ρ μ B H2 w → (∀ w1, R ρ μ B H1' w1 → Below B w w1 → ∃ v, (results fn tmps).run P w1 = .ok v w1 ∧ Rr (.returned v) w1) → LeavesInM Fence.wide 0 P fn tmps Rr ds .returning w := fun tmps => leaveA_run (fn := fn) (tmps := tmps) T.d _ H2 n2 acc2 _ hr
          obtain ⟨H0', acc0, h0, _⟩ := key #[]
          have hle : n2 = n1 := by
            obtain ⟨vs, acc3, h3, _⟩ := resA_run (P := P) (N := fn.ntmps) _ _ _ H0' n2 acc0 _ h0
            simp only [AM.run_ret, AM.run_fail, AM.run_load, AM.run_store, AM.run_alloc, AM.run_sub, AM.run_call, AM.run_here, AM.run_drop, AM.run_renew, Option.some.injEq, Prod.mk.injEq] at h3
            exact h3.2.2.1
          subst hle
          refine ⟨ok.1, fun ρ μ xs w hA hr2 hR hB hf => ?_⟩
          have hT := argsT_rel hr2 fn.ntmps hb
          have hw := (ok.2 ρ μ _ w hA hT hR hB hf none (bodyPostM Fence.wide 0 P fn fun e w1 => ∃ x μ1, e = .returned x ∧ rel ρ μ1 out.v x ∧ Step μ μ1 n n2 ∧ R ρ μ1 B H1 w1 ∧ Below B w w1) trivial (fun a1 μ1 w1 p1 p2 p3 p4 => by
            obtain ⟨H1', acc1, g1, g2⟩ := key a1.tmps
            obtain ⟨vs, acc3, h3, q⟩ := resA_run (P := P) (N := fn.ntmps) _ _ _ H1' n2 acc1 _ g1
            simp only [AM.run_ret, AM.run_fail, AM.run_load, AM.run_store, AM.run_alloc, AM.run_sub, AM.run_call, AM.run_here, AM.run_drop, AM.run_renew, Option.some.injEq, Prod.mk.injEq] at h3
            obtain ⟨rfl, rfl, _, rfl⟩ := h3
            have hpost : LeavesInM Fence.wide 0 P fn a1.tmps (fun e w1 => ∃ x μ1, e = .returned x ∧ rel ρ μ1 (oneOr vs) x ∧ Step μ μ1 n n2 ∧ R ρ μ1 B H1' w1 ∧ Below B w w1) a1.defers .returning w1 := g2 ρ μ1 B w1 a1.defers _ p1.defers p3 fun w2 R2 b2 => by
              obtain ⟨ys, y1, y2, y3⟩ := q ρ μ1 B a1 w2 p1 R2
              have hres := run_results (P := P) (fn := fn) (tmps := a1.tmps) (w := w2) (xs := ys) (by simpa using y2) (fun i v x hv hx => y3 i v x (by simpa using hv) hx)
              exact ⟨_, hres, _, μ1, rfl, oneOr_rel y1, p2, R2, p4.trans b2⟩
            rcases hee with rfl | rfl
            · exact hpost
            · exact hpost)).wp
          exact callsIn_wide.1 (callsIn_of_wp_marks (F := Fence.wide) (n := 0) hfn hc trivial hw)
        cases e with
        | normal => exact fin .normal rfl (.inl rfl) h2
        | ret => exact fin .ret rfl (.inr rfl) h2
        | exit i => cases h2
        | goto i => cases h2
theorem putPs_run {N : Nat} : ∀ (ps : List Nat) (as : List AV) (T : Sl) (k : Sl → AM) (H : Mem) (n : Nat) (acc : List Tok) (r : Out × Mem × Nat × List Tok), (putPs N ps as T k).run H n acc = some r →
    ∃ T1, (k T1).run H n acc = some r ∧ ps.length = as.length ∧ ∀ (ρ : Val) (μ : Names) (xs : List Value) (tmps : Array Value), TRel ρ μ N T { tmps := tmps, defers := [] } → relL ρ μ as xs → TRel ρ μ N T1 { tmps := (ps.zip xs).foldl (fun tmps (t, a) => tmps.setIfInBounds t a) tmps, defers := [] }
  | [], [], T, k, H, n, acc, r, h => ⟨T, h, rfl, fun ρ μ xs tmps hT hr => by
      cases xs with
      | nil => exact hT
      | cons x xs => exact hr.elim⟩
  | p :: ps, a :: as, T, k, H, n, acc, r, h => by
    simp only [putPs] at h
    cases hb : Nat.blt p N with
    | false => rw [hb] at h; cases h
    | true =>
      rw [hb, cond_true, Sl.setK_eq] at h
      rw [blt_iff] at hb
      obtain ⟨T1, h1, hl, q⟩ := putPs_run ps as (T.set p a) k H n acc r h
      refine ⟨T1, h1, by simp [hl], fun ρ μ xs tmps hT hr => ?_⟩
      cases xs with
      | nil => exact hr.elim
      | cons x xs =>
        have := q ρ μ xs (tmps.setIfInBounds p x) (hT.put hb hr.1) hr.2
        simpa using this
  | [], _ :: _, T, k, H, n, acc, r, h => by cases h
  | _ :: _, [], T, k, H, n, acc, r, h => by cases h
end
end
end Go.Proofs.YtdoegipkfjndbaaGreatDoor.Ev
namespace Go.Proofs.YtdoegipkfjndbaaGreatDoor.Ev
set_option linter.unusedVariables false
set_option linter.unusedSimpArgs false
noncomputable section
open Go.RowKit
section
variable {P : Program} {A : Ass}
theorem R.loopAt {ρ : Val} {μ : Names} {B : Nat} {H : Mem} {w : World} (hR : R ρ μ B H w) {lp b st : Nat} {pd : Option Code} {l : List AV} {ps : List Nat} {as bd : Code} {d : Nat} (ho : H.at lp 0 = some (.loopO st pd l ps as bd d)) (hb : μ.get lp = some (.obj b)) :
    ∃ rc, w.heap[b]? = some (.loop rc) ∧ relObj ρ μ (.loopO st pd l ps as bd d) (.loop rc) := by
  obtain ⟨p, e, c⟩ := hR.at' lp 0 _ ho
  rw [hb] at e
  obtain rfl := Option.some.inj e
  rcases c with ⟨_, _, _, e, _⟩ | ⟨b', ob, e, _, _, hh, hr⟩
  · cases e
  · cases e
    cases ob <;> simp only [relObj] at hr
    exact ⟨_, hh, hr⟩
theorem jump_code (e : Ex) : (match e.exit' with | .normal => none | .ret => some Code.ret | .exit i => some (.exit i) | .goto l => some (.goto l) | _ => none) = jumpOf e := by cases e <;> rfl
theorem evRound_ok {B : Nat} {fuel : Nat} {call : Tg → List AV → AM} {draw : Nat → Array Oper → Sl → (Sl → AM) → AM} (hcall : CallOk P A B call) (hdraw : ∀ N, DrawOk P A N (draw N) B) (lp : Nat) (args : List AV) (H : Mem) (n : Nat) (acc : List Tok) (out : Out) (H1 : Mem) (n1 : Nat) (l : List Tok)
    (h : (evRound P A fuel call draw lp args).run H n acc = some (out, H1, n1, l)) : n ≤ n1 ∧
    ∀ (ρ : Val) (μ : Names) (xs : List Value) (w : World), (A.has ρ) → relL ρ μ args xs → R ρ μ B H w → B ≤ w.heap.size → (∀ i, n ≤ i → i < n1 → μ.get i = none) →
      ∀ b, μ.get lp = some (.obj b) → ∃ fn tmps assign body, (Instr.yield b xs.toArray).run P w = .ok (.round b fn tmps assign body) w ∧
        RoundIn Fence.wide 0 P b fn tmps assign body w fun e w1 => ∃ x μ1, e = .returned x ∧ rel ρ μ1 out.v x ∧ Step μ μ1 n n1 ∧ R ρ μ1 B H1 w1 ∧ Below B w w1 := by
  unfold evRound at h
  simp only [AM.run_ret, AM.run_fail, AM.run_load, AM.run_store, AM.run_alloc, AM.run_sub, AM.run_call, AM.run_here, AM.run_drop, AM.run_renew] at h
  cases ho : H.at lp 0 with
  | none => rw [ho] at h; cases h
  | some o =>
    rw [ho] at h
    dsimp only at h
    cases o <;> dsimp only at h <;> try (cases h; done)
    rename_i st pd sl ps as bd d
    cases hst : Nat.beq st 0 with
    | false => rw [hst] at h; cases h
    | true =>
      rw [hst, cond_true, argsTK_eq] at h
      rw [Nat.beq_eq] at hst
      subst hst
      obtain ⟨T0, h1, hlen, hput⟩ := putPs_run ps args _ _ H n _ _ h
      obtain ⟨e1, T1, H2, n2, acc2, h2, ok1⟩ := ev_run (ro := some lp) hcall (hdraw sl.length) fuel none as T0 _ H n _ _ h1
      cases e1 <;> dsimp only at h2 <;> try (cases h2; done)
      simp only [AM.run_ret, AM.run_fail, AM.run_load, AM.run_store, AM.run_alloc, AM.run_sub, AM.run_call, AM.run_here, AM.run_drop, AM.run_renew] at h2
      cases ho2 : H2.at lp 0 with
      | none => rw [ho2] at h2; cases h2
      | some o2 =>
        rw [ho2] at h2
        dsimp only at h2
        cases o2 <;> dsimp only at h2 <;> try (cases h2; done)
        rename_i st2 pd2 l2 ps2 as2 bd2 d2
        cases hst2 : Nat.beq st2 0 with
        | false => rw [hst2] at h2; cases h2
        | true =>
          rw [hst2, cond_true] at h2
          rw [Nat.beq_eq] at hst2
          subst hst2
          simp only [AM.run_ret, AM.run_fail, AM.run_load, AM.run_store, AM.run_alloc, AM.run_sub, AM.run_call, AM.run_here, AM.run_drop, AM.run_renew, ho2] at h2
          dsimp only [AV.isU8] at h2
          rw [Bool.false_and, cond_false] at h2
          obtain ⟨e2, T2, H3, n3, acc3, h3, ok2⟩ := ev_run (ro := some lp) hcall (hdraw sl.length) fuel none bd T1 _ _ n2 _ _ h2
          simp only [AM.run_ret, AM.run_fail, AM.run_load, AM.run_store, AM.run_alloc, AM.run_sub, AM.run_call, AM.run_here, AM.run_drop, AM.run_renew] at h3
          cases ho3 : H3.at lp 0 with
          | none => rw [ho3] at h3; cases h3
          | some o3 =>
            rw [ho3] at h3
            dsimp only at h3
            cases o3 <;> dsimp only at h3 <;> try (cases h3; done)
            rename_i st3 pd3 l3 ps3 as3 bd3 d3
            simp only [AM.run_ret, AM.run_fail, AM.run_load, AM.run_store, AM.run_alloc, AM.run_sub, AM.run_call, AM.run_here, AM.run_drop, AM.run_renew, ho3] at h3
            dsimp only [AV.isU8] at h3
            rw [Bool.false_and, cond_false] at h3
            simp only [Option.some.injEq, Prod.mk.injEq] at h3
            obtain ⟨rfl, rfl, rfl, rfl⟩ := h3
            refine ⟨Nat.le_trans ok1.1 ok2.1, fun ρ μ xs w hA hxs hR hB hf b hb => ?_⟩
            obtain ⟨rc, hh, hr⟩ := hR.loopAt ho hb
            simp only [relObj] at hr
            obtain ⟨r1, r2, r3, r4, r5, r6, r7⟩ := hr
            have hps : rc.params = ps.toArray := by rw [← r4]
            have hsz : xs.toArray.size = rc.params.size := by
              rw [hps]; simp [hlen, hxs.length]
            refine ⟨rc.fn, _, rc.assign, rc.body, run_yield hh hsz, ?_⟩
            have hl1 := ok1.1
            have hl2 := ok2.1
            have hT : TRel ρ μ sl.length (argsT sl 0 .e) { tmps := rc.tmps, defers := [] } := by
              have := argsT_rel r3 sl.length (Nat.le_refl _)
              have hs : sl.length = rc.tmps.size := by have := r3.length; simpa using this
              have e : (rc.tmps.toList.toArray ++ Array.replicate (sl.length - rc.tmps.toList.toArray.size) undef) = rc.tmps := by simp [hs]
              rw [e] at this
              exact this
            have hT0 := hput ρ μ xs rc.tmps hT hxs
            have etmps : (rc.params.zip xs.toArray).foldl (fun tmps (t, a) => tmps.setIfInBounds t a) rc.tmps = (ps.zip xs).foldl (fun tmps (t, a) => tmps.setIfInBounds t a) rc.tmps := by
              rw [hps]; simp
            rw [etmps]
            refine roundIn_of_wpIn (F := Fence.wide) trivial ?_
            show rc.assign.wpIn (Fr (some b)) 0 P _ _ w
            rw [r5, r6]
            refine (ok1.2 ρ μ _ w hA hT0 hR hB (fun i q1 q2 => hf i q1 (by omega)) (some b) _ hb fun a1 μ1 w1 p1 p2 p3 p4 => ?_).wp
            have hb1 := p2.le _ _ hb
            obtain ⟨rc1, hh1, hr1⟩ := p3.loopAt ho2 hb1
            simp only [relObj] at hr1
            obtain ⟨hBb, hR1⟩ := p3.setObj ho2 hb1 (v := .loopO 1 pd2 l2 ps2 as2 bd2 d2) (ob := .loop { rc1 with state := .busy }) ⟨rfl, hr1.2⟩
            refine ⟨_, run_beginRound hh1 hr1.1, ?_⟩
            have hsz1 : B ≤ (w1.putObj b (.loop { rc1 with state := .busy })).heap.size := by
              have := p4.size
              simp
              omega
            refine (ok2.2 ρ μ1 a1 _ hA p1 hR1 hsz1 (fun i q1 q2 => by rw [p2.same i (by omega)]; exact hf i (by omega) q2) (some b) (roundPost P b fun e w1 => ∃ x μ1, e = .returned x ∧ rel ρ μ1 (.bool (.lit (jumpOf e2).isNone)) x ∧ Step μ μ1 n n3 ∧ R ρ μ1 B (H3.put lp 0 (.loopO (match jumpOf e2 with | none => 0 | some _ => 2) (jumpOf e2) l3 ps3 as3 bd3 d3)) w1 ∧ Below B w w1) hb1 fun a2 μ2 w2 q1 q2 q3 q4 => ?_).wp
            have hb2 := q2.le _ _ hb1
            obtain ⟨rc2, hh2, hr2⟩ := q3.loopAt ho3 hb2
            simp only [relObj] at hr2
            have fin : ∀ (j : Option Code), j = jumpOf e2 → ∃ v w', (Instr.endRound b j).run P w2 = .ok v w' ∧ ∃ x μ1, Ending.returned v = .returned x ∧ rel ρ μ1 (.bool (.lit (jumpOf e2).isNone)) x ∧ Step μ μ1 n n3 ∧ R ρ μ1 B (H3.put lp 0 (.loopO (match jumpOf e2 with | none => 0 | some _ => 2) (jumpOf e2) l3 ps3 as3 bd3 d3)) w' ∧ Below B w w' := fun j hj => by
              obtain ⟨hBb2, hR2⟩ := q3.setObj ho3 hb2 (v := .loopO (match jumpOf e2 with | none => 0 | some _ => 2) (jumpOf e2) l3 ps3 as3 bd3 d3) (ob := .loop { rc2 with state := if j.isNone then .ready else .done, pending := j }) ⟨by subst hj; cases jumpOf e2 <;> rfl, hj, hr2.2.2⟩
              exact ⟨_, _, run_endRound j hh2, _, μ2, rfl, by subst hj; rfl, p2.trans q2 hl1 hl2, hR2, p4.trans ((Below.setObj hBb _).trans (q4.trans (Below.setObj hBb2 _)))⟩
            cases e2 with
            | normal => exact fin none rfl
            | ret => exact fin (some .ret) rfl
            | exit i => exact fin (some (.exit i)) rfl
            | goto i => exact fin (some (.goto i)) rfl
end
def noDraw (_ : Nat) (_ : Array Oper) (_ : Sl) (_ : Sl → AM) : AM := .fail 40
theorem noDraw_ok (P : Program) (A : Ass) (B N : Nat) : DrawOk P A N (noDraw N) B := fun _ _ _ _ _ _ _ h => by cases h
/-- a call, by whose code it runs -/
def evTg (P : Program) (A : Ass) (fuel : Nat) (call : Tg → List AV → AM) (draw : Nat → Array Oper → Sl → (Sl → AM) → AM) : Tg → List AV → AM
  | .fn g, args => evBody P A fuel call draw g args
  | .yield lp, args => evRound P A fuel call draw lp args
theorem evTg_ok {P : Program} {A : Ass} {B : Nat} {fuel : Nat} {call : Tg → List AV → AM} {draw : Nat → Array Oper → Sl → (Sl → AM) → AM} (hcall : CallOk P A B call) (hdraw : ∀ N, DrawOk P A N (draw N) B) : CallOk P A B (evTg P A fuel call draw) := by
  intro tg args H n acc out H1 n1 l h
  cases tg with
  | fn g => exact evBody_ok hcall hdraw g args H n acc out H1 n1 l h
  | yield lp => exact evRound_ok hcall hdraw lp args H n acc out H1 n1 l h
end
end Go.Proofs.YtdoegipkfjndbaaGreatDoor.Ev
namespace Go.Proofs.YtdoegipkfjndbaaGreatDoor.Ev
set_option linter.unusedVariables false
set_option linter.unusedSimpArgs false
noncomputable section
open Go.RowKit
/-- the operations that must have come up ahead of operation i -/
def depsOf (md : Region.Mode) (ops : Array Oper) (i : Nat) : List Nat := ((ops[i]?).map fun o => (o.after.toList.filter fun e => Region.binds md e).map (·.on)).getD []
/-- no operation waits for a later one -/
def sorted (md : Region.Mode) (ops : Array Oper) : Bool := (List.range ops.size).all fun i => (depsOf md ops i).all fun d => decide (d < i)
def upOn (L : Nat → Bool) (i : Nat) (k : Nat) : Bool := if k = i then true else L k
def openIn (n : Nat) (L : Nat → Bool) : Nat := ((List.range n).filter fun k => !L k).length
theorem openIn_up (n : Nat) (L : Nat → Bool) (i : Nat) (hi : i < n) (h : L i = false) : openIn n (upOn L i) + 1 = openIn n L := by
  unfold openIn
  induction n with
  | zero => omega
  | succ n ih =>
    rw [List.range_succ, List.filter_append, List.filter_append, List.length_append, List.length_append]
    by_cases e : i = n
    · subst e
      have e1 : (List.range i).filter (fun k => !upOn L i k) = (List.range i).filter (fun k => !L k) := by
        apply List.filter_congr
        intro k hk
        have : k < i := by simpa using hk
        simp [upOn, show ¬ k = i by omega]
      rw [e1]
      simp [upOn, h]
    · have := ih (by omega)
      have e2 : upOn L i n = L n := by simp [upOn, show ¬ n = i by omega]
      simp only [List.filter_cons, List.filter_nil, e2]
      omega
section
variable {P : Program} {rb : Option Nat} {ops : Array Oper} {Q : Exit → Act → World → Prop} {md : Region.Mode}
theorem getD_set_true' {listed : Array Bool} {i j : Nat} (h : listed.getD j true = true) : (listed.setIfInBounds i true).getD j true = true := by
  by_cases hj : i = j
  · subst hj
    by_cases hi : i < listed.size
    · simp [Array.getD, hi]
    · simp [Array.getD, hi]
  · rw [getD_set_ne true hj]
    exact h
theorem wpAny_inv {I : (Nat → Bool) → Act → World → Prop} (hs : sorted md ops = true)
    (hstep : ∀ i, i < ops.size → ∀ (L : Nat → Bool) a w, L i = false → (∀ k d, L k = true → (depsOf md ops k).contains d = true → L d = true) → (∀ d, (depsOf md ops i).contains d = true → L d = true) → I L a w → wpOpIn (Fr rb) 0 P ops Q i (I (upOn L i)) a w)
    (hend : ∀ (L : Nat → Bool) a w, (∀ k, k < ops.size → L k = true) → I L a w → Q .normal a w) :
    ∀ (fuel : Nat) (listed : Array Bool) (a : Act) (w : World), listed.size = ops.size → openIn ops.size (fun k => listed.getD k true) ≤ fuel → (∀ k d, listed.getD k true = true → (depsOf md ops k).contains d = true → listed.getD d true = true) → I (fun k => listed.getD k true) a w → wpAnyIn (Fr rb) 0 P md ops Q fuel listed a w := by
  have hnone : ∀ (listed : Array Bool), listed.size = ops.size → Region.ready md ops listed = [] → ∀ k, k < ops.size → listed.getD k true = true := by
    intro listed hsz hr k
    induction k using Nat.strongRecOn with
    | _ k ih =>
      intro hk
      by_cases h : listed.getD k true = true
      · exact h
      · exfalso
        have h0 : listed.getD k true = false := by simpa using h
        have hm : k ∈ Region.ready md ops listed := by
          rw [mem_ready]
          refine ⟨h0, ops[k], Array.getElem?_eq_getElem hk, fun e he hb => ?_⟩
          have hd : (depsOf md ops k).contains e.on = true := by
            unfold depsOf
            rw [Array.getElem?_eq_getElem hk]
            simp only [Option.map_some, Option.getD_some, List.contains_iff_mem, List.mem_map, List.mem_filter]
            exact ⟨e, ⟨by simpa using he, hb⟩, rfl⟩
          have hlt : e.on < k := by
            unfold sorted at hs
            rw [List.all_eq_true] at hs
            have h1 := hs k (by simpa using hk)
            rw [List.all_eq_true] at h1
            simpa using h1 e.on (by simpa using hd)
          have := ih e.on hlt (by omega)
          have hin : e.on < listed.size := by omega
          simpa [Array.getD, hin] using this
        rw [hr] at hm
        exact absurd hm (by simp)
  intro fuel
  induction fuel with
  | zero =>
    intro listed a w hsz hf hc hI
    have hall : ∀ k, k < ops.size → listed.getD k true = true := by
      intro k hk
      by_cases h : listed.getD k true = true
      · exact h
      · exfalso
        have : k ∈ (List.range ops.size).filter (fun k => !listed.getD k true) := by
          rw [List.mem_filter]
          exact ⟨by simpa using hk, by simpa using h⟩
        have h1 := List.length_pos_of_mem this
        exact absurd (Nat.lt_of_lt_of_le h1 hf) (by omega)
    refine ⟨?_, hend _ a w hall hI⟩
    unfold Region.ready
    rw [List.filter_eq_nil_iff]
    intro k hk
    have := hall k (by simpa using hk)
    simp only [this]
    simp
  | succ fuel ih =>
    intro listed a w hsz hf hc hI
    refine ⟨fun hr => hend _ a w (hnone listed hsz hr) hI, fun i hi => ?_⟩
    rw [mem_ready] at hi
    obtain ⟨h0, o, ho, hd⟩ := hi
    have hlt : i < ops.size := (Array.getElem?_eq_some_iff.1 ho).1
    have hdeps : ∀ d, (depsOf md ops i).contains d = true → listed.getD d true = true := by
      intro d hdd
      unfold depsOf at hdd
      rw [ho] at hdd
      simp only [Option.map_some, Option.getD_some, List.contains_iff_mem, List.mem_map, List.mem_filter] at hdd
      obtain ⟨e, ⟨he, hb⟩, rfl⟩ := hdd
      have := hd e (by simpa using he) hb
      have hlt2 : e.on < listed.size := by
        rcases Nat.lt_or_ge e.on listed.size with h | h
        · exact h
        · simp [Array.getD, Nat.not_lt.2 h] at this
      simpa [Array.getD, hlt2] using this
    have hst := hstep i hlt (fun k => listed.getD k true) a w h0 hc hdeps hI
    refine wpOpIn_mono (fun a' w' h => ?_) hst
    have e : (fun k => (listed.setIfInBounds i true).getD k true) = upOn (fun k => listed.getD k true) i := by
      funext k
      unfold upOn
      by_cases hk : k = i
      · subst hk
        rw [if_pos rfl]
        have : k < listed.size := by omega
        simp [Array.getD, this]
      · rw [if_neg hk]
        exact getD_set_ne true (fun e => hk e.symm)
    refine ih _ a' w' (by simpa using hsz) ?_ ?_ (by rw [e]; exact h)
    · rw [e]
      have := openIn_up ops.size (fun k => listed.getD k true) i hlt h0
      omega
    · intro k d hk hkd
      by_cases hki : k = i
      · subst hki
        exact getD_set_true' (hdeps d hkd)
      · have h1 : listed.getD k true = true := by rw [← getD_set_ne true (fun e => hki e.symm)]; exact hk
        exact getD_set_true' (hc k d h1 hkd)
/-- A region that draws, by one invariant. -/
theorem wp_region_inv {id : Nat} {a : Act} {w : World} (I : (Nat → Bool) → Act → World → Prop) (hm : P.follows .mixedOrders = true) (hs : sorted .any ops = true)
    (h0 : I (fun k => decide (ops.size ≤ k)) a w.drew)
    (hstep : ∀ i, i < ops.size → ∀ (L : Nat → Bool) a w, L i = false → (∀ k d, L k = true → (depsOf .any ops k).contains d = true → L d = true) → (∀ d, (depsOf .any ops i).contains d = true → L d = true) → I L a w → wpOpIn (Fr rb) 0 P ops Q i (I (upOn L i)) a w)
    (hend : ∀ (L : Nat → Bool) a w, (∀ k, k < ops.size → L k = true) → I L a w → Q .normal a w) : (Code.region id ops true).wpIn (Fr rb) 0 P Q a w := by
  refine wpIn_region_any hm ?_
  refine wpAny_inv hs hstep hend ops.size _ a _ (by simp) ?_ ?_ ?_
  · unfold openIn
    exact Nat.le_trans (List.length_filter_le _ _) (by simp)
  · intro k d hk hkd
    exfalso
    by_cases h : k < ops.size
    · simp [Array.getD, h] at hk
    · unfold depsOf at hkd
      rw [Array.getElem?_eq_none (by omega)] at hkd
      simp at hkd
  · have e : (fun k => (Array.replicate ops.size false).getD k true) = fun k => decide (ops.size ≤ k) := by
      funext k
      by_cases hk : k < ops.size
      · simp [Array.getD, hk]
      · simp [Array.getD, hk]
        omega
    rw [e]
    exact h0
/-- The same, the number of its operations a numeral. -/
theorem wp_region_inv' {id : Nat} {a : Act} {w : World} (n : Nat) (hn : ops.size = n) (I : (Nat → Bool) → Act → World → Prop) (hm : P.follows .mixedOrders = true) (hs : sorted .any ops = true)
    (h0 : I (fun k => decide (n ≤ k)) a w.drew)
    (hstep : ∀ i, i < n → ∀ (L : Nat → Bool) a w, L i = false → (∀ k d, L k = true → (depsOf .any ops k).contains d = true → L d = true) → (∀ d, (depsOf .any ops i).contains d = true → L d = true) → I L a w → wpOpIn (Fr rb) 0 P ops Q i (I (upOn L i)) a w)
    (hend : ∀ (L : Nat → Bool) a w, (∀ k, k < n → L k = true) → I L a w → Q .normal a w) : (Code.region id ops true).wpIn (Fr rb) 0 P Q a w := by
  subst hn
  exact wp_region_inv I hm hs h0 hstep hend
end
end
end Go.Proofs.YtdoegipkfjndbaaGreatDoor.Ev
namespace Go.Proofs.YtdoegipkfjndbaaGreatDoor.Ev
set_option linter.unusedVariables false
set_option linter.unusedSimpArgs false
noncomputable section
open Go.RowKit
structure Rec where
  d : Option Nat
  v : AV
  n0 : Nat
  n1 : Nat
  log : List Tok
def tb (m j : Nat) : Bool := Nat.beq (Nat.mod (Nat.shiftRight m j) 2) 1
theorem tb_iff (m j : Nat) : tb m j = m.testBit j := by
  unfold tb
  rw [Nat.testBit_eq_decide_div_mod_eq]
  show Nat.beq ((m >>> j) % 2) 1 = _
  rw [Nat.shiftRight_eq_div_pow, Bool.eq_iff_iff]
  simp
def ancGet (an : List Nat) (i : Nat) : Nat := match an[i]? with
  | some a => a
  | none => 0
theorem tb_zero (j : Nat) : tb 0 j = false := by rw [tb_iff]; simp
def ancOf (an : List Nat) : List Nat → Nat → Nat
  | [], m => m
  | d :: l, m => ancOf an l (Nat.lor m (Nat.lor (Nat.shiftLeft 1 d) (ancGet an d)))
theorem ancOf_tb (an : List Nat) : ∀ (l : List Nat) (m j : Nat), tb (ancOf an l m) j = true → tb m j = true ∨ ∃ d ∈ l, j = d ∨ tb (ancGet an d) j = true
  | [], m, j, h => .inl h
  | d :: l, m, j, h => by
    rcases ancOf_tb an l _ j h with h | ⟨d', hd, h⟩
    · rw [tb_iff] at h
      change (m ||| ((1 <<< d) ||| _)).testBit j = true at h
      rw [Nat.testBit_or, Nat.testBit_or, Nat.one_shiftLeft, Nat.testBit_two_pow] at h
      rw [Bool.or_eq_true, Bool.or_eq_true] at h
      rcases h with h | h | h
      · exact .inl (by rw [tb_iff]; exact h)
      · exact .inr ⟨d, by simp, .inl (of_decide_eq_true h).symm⟩
      · exact .inr ⟨d, by simp, .inr (by rw [tb_iff]; exact h)⟩
    · exact .inr ⟨d', by simp [hd], h⟩
/-- for each operation those that must be up before it -/
def ancList (ops : Array Oper) : List Nat → List Nat → List Nat
  | [], an => an
  | i :: l, an => ancList ops l (an ++ [ancOf an (depsOf .any ops i) 0])
def AncOk (ops : Array Oper) (an : List Nat) : Prop := ∀ i j, tb (ancGet an i) j = true → ∃ d ∈ depsOf .any ops i, j = d ∨ tb (ancGet an d) j = true
theorem ancGet_append (an : List Nat) (a i : Nat) : ancGet (an ++ [a]) i = if i < an.length then ancGet an i else if i = an.length then a else 0 := by
  unfold ancGet
  rcases Nat.lt_trichotomy i an.length with h | h | h
  · rw [List.getElem?_append_left h, if_pos h]
  · subst h; simp
  · rw [List.getElem?_eq_none (by simp; omega), if_neg (by omega), if_neg (by omega)]
theorem ancGet_mono (an : List Nat) (a i j : Nat) (h : tb (ancGet an i) j = true) : tb (ancGet (an ++ [a]) i) j = true := by
  rw [ancGet_append]
  by_cases e : i < an.length
  · rw [if_pos e]; exact h
  · unfold ancGet at h
    rw [List.getElem?_eq_none (by omega), tb_zero] at h
    cases h
theorem ancList_ok (ops : Array Oper) : ∀ (m i : Nat) (an : List Nat), an.length = i → AncOk ops an → AncOk ops (ancList ops (List.range' i m) an)
  | 0, _, _, _, h => h
  | m + 1, i, an, hl, h => by
    rw [List.range'_succ, ancList]
    refine ancList_ok ops m (i + 1) _ (by simp [hl]) fun k j hj => ?_
    rw [ancGet_append] at hj
    by_cases e : k < an.length
    · rw [if_pos e] at hj
      obtain ⟨d, hd, h2⟩ := h k j hj
      exact ⟨d, hd, h2.imp id (ancGet_mono an _ d j)⟩
    · rw [if_neg e] at hj
      by_cases e2 : k = an.length
      · rw [if_pos e2] at hj
        rcases ancOf_tb an _ 0 j hj with h0 | ⟨d, hd, h2⟩
        · rw [tb_zero] at h0; cases h0
        · exact ⟨d, by rw [e2, hl]; exact hd, h2.imp id (ancGet_mono an _ d j)⟩
      · rw [if_neg e2, tb_zero] at hj; cases hj
def slotsOf (rs : List Rec) : List Nat → Sl → Sl
  | [], T => T
  | d :: l, T => slotsOf rs l (match rs[d]? with
    | some r => match r.d with
      | some x => T.set x r.v
      | none => T
    | none => T)
theorem slotsOf_get (rs : List Rec) : ∀ (l : List Nat) (T : Sl) (k : Nat) (v : AV), (slotsOf rs l T).get k = some v → (T.get k = some v ∧ ∀ d ∈ l, ∀ r, rs[d]? = some r → r.d ≠ some k) ∨ ∃ d ∈ l, ∃ r, rs[d]? = some r ∧ r.d = some k ∧ r.v = v
  | [], T, k, v, h => .inl ⟨h, by simp⟩
  | d :: l, T, k, v, h => by
    rcases slotsOf_get rs l _ k v h with ⟨h, g⟩ | ⟨d', hd, h⟩
    · cases hr : rs[d]? with
      | none =>
        rw [hr] at h
        refine .inl ⟨h, fun d' hd' r hr' => ?_⟩
        rcases List.mem_cons.1 hd' with rfl | hd'
        · rw [hr] at hr'; cases hr'
        · exact g d' hd' r hr'
      | some r =>
        rw [hr] at h
        dsimp only at h
        cases hx : r.d with
        | none =>
          rw [hx] at h
          refine .inl ⟨h, fun d' hd' r' hr' => ?_⟩
          rcases List.mem_cons.1 hd' with rfl | hd'
          · rw [hr] at hr'; cases hr'; rw [hx]; simp
          · exact g d' hd' r' hr'
        | some x =>
          rw [hx] at h
          dsimp only at h
          rw [Sl.get_set] at h
          by_cases e : k = x
          · rw [if_pos e] at h
            exact .inr ⟨d, by simp, r, hr, by rw [hx, e], by simpa using h⟩
          · rw [if_neg e] at h
            refine .inl ⟨h, fun d' hd' r' hr' => ?_⟩
            rcases List.mem_cons.1 hd' with rfl | hd'
            · rw [hr] at hr'; cases hr'; rw [hx]; intro h; exact e (by simpa using h.symm)
            · exact g d' hd' r' hr'
    · exact .inr ⟨d', by simp [hd], h⟩
def rdO : Operand → List Nat
  | .tmp t => [t]
  | _ => []
def rdOo : Option Operand → List Nat
  | some (.tmp t) => [t]
  | _ => []
def rdA : List Operand → List Nat
  | [] => []
  | x :: l => rdO x ++ rdA l
def rdP : List (Nat × Operand) → List Nat
  | [] => []
  | (_, x) :: l => rdO x ++ rdP l
/-- the slots that an operation reads (nothing rests on it: what is left out is not there) -/
def rdOp : Op → List Nat
  | .move x | .assign x | .box _ x | .load _ x | .nilCheck x | .unOp _ _ x | .convert _ _ x | .sliceToArrayPointer _ x | .makeInterface _ x | .fieldAddr _ x _ | .field _ x _ | .range _ x | .next x _ | .entry x | .typeAssert x _ _ _ | .extract x _ | .panic x => rdO x
  | .pick c a b => rdO c ++ rdO a ++ rdO b
  | .build _ ps => rdP ps.toList
  | .buildSlice _ _ ps => rdP ps.toList
  | .insert _ m k v | .mapUpdate _ m k v => rdO m ++ rdO k ++ rdO v
  | .store _ x y | .binOp _ _ x y _ | .indexAddr _ x y | .index _ x y | .lookup _ x y _ | .makeSlice _ x y | .mapEntry _ x y => rdO x ++ rdO y
  | .entryStore _ m s v => rdO m ++ rdO s ++ rdO v
  | .makeFunc _ f c => rdA f.toList ++ rdA c.toList
  | .makeMap _ r => rdOo r
  | .slice _ x lo hi mx => rdO x ++ rdOo lo ++ rdOo hi ++ rdOo mx
  | .call c | .defer c | .go c => rdA c.args.toList ++ (match c.callee with
    | .value f => rdO f
    | .invoke r _ => rdO r
    | _ => [])
  | _ => []
def rdOper (ops : Array Oper) (o : Oper) : List Nat := (match o.guard with
  | some (j, _) => match (ops[j]?).bind (·.dst) with
    | some d => [d]
    | none => []
  | none => []) ++ rdOp o.op
/-- the operation that yields a slot -/
def dstIx : List Oper → Nat → Nat → Option Nat
  | [], _, _ => none
  | o :: l, s, j => match o.dst with
    | some d => bif Nat.beq d s then some j else dstIx l s (j + 1)
    | none => dstIx l s (j + 1)
theorem dstIx_none : ∀ (l : List Oper) (s j : Nat), dstIx l s j = none → ∀ o ∈ l, o.dst ≠ some s
  | [], _, _, _, o, ho => by simp at ho
  | o :: l, s, j, h, o', ho' => by
    simp only [dstIx] at h
    cases hd : o.dst with
    | none =>
      rw [hd] at h
      rcases List.mem_cons.1 ho' with rfl | ho'
      · rw [hd]; simp
      · exact dstIx_none l s _ h o' ho'
    | some d =>
      rw [hd] at h
      dsimp only at h
      cases hb : Nat.beq d s with
      | true => rw [hb] at h; cases h
      | false =>
        rw [hb, cond_false] at h
        rcases List.mem_cons.1 ho' with rfl | ho'
        · rw [hd]; intro e; simp at e; subst e; simp at hb
        · exact dstIx_none l s _ h o' ho'
theorem dstIx_some : ∀ (l : List Oper) (s j k : Nat), dstIx l s j = some k → ∃ i o, k = j + i ∧ l[i]? = some o ∧ o.dst = some s
  | [], _, _, _, h => by cases h
  | o :: l, s, j, k, h => by
    have rest : dstIx l s (j + 1) = some k → ∃ i o', k = j + i ∧ (o :: l)[i]? = some o' ∧ o'.dst = some s := fun h => by
      obtain ⟨i, o', e, h1, h2⟩ := dstIx_some l s (j + 1) k h
      exact ⟨i + 1, o', by omega, by simpa using h1, h2⟩
    simp only [dstIx] at h
    cases hd : o.dst with
    | none => rw [hd] at h; exact rest h
    | some d =>
      rw [hd] at h
      dsimp only at h
      cases hb : Nat.beq d s with
      | true =>
        rw [hb, cond_true] at h
        rw [Nat.beq_eq] at hb
        subst hb
        exact ⟨0, o, by simpa using h.symm, rfl, hd⟩
      | false => rw [hb, cond_false] at h; exact rest h
def slotFor (ops : Array Oper) (T : Sl) (an : List Nat) (rs : List Rec) (i s : Nat) : Option AV :=
  match dstIx ops.toList s 0 with
  | none => T.get s
  | some j => bif tb (ancGet an i) j then (match rs[j]? with
      | some r => some r.v
      | none => none)
    else bif tb (ancGet an j) i then T.get s else none
def slotsI (ops : Array Oper) (T : Sl) (an : List Nat) (rs : List Rec) (i : Nat) : List Nat → Sl → Sl
  | [], U => U
  | s :: l, U => slotsI ops T an rs i l (match slotFor ops T an rs i s with
    | some v => U.set s v
    | none => U)
theorem slotsI_get (ops : Array Oper) (T : Sl) (an : List Nat) (rs : List Rec) (i : Nat) : ∀ (l : List Nat) (U : Sl) (k : Nat) (v : AV), (slotsI ops T an rs i l U).get k = some v → U.get k = some v ∨ slotFor ops T an rs i k = some v
  | [], U, k, v, h => .inl h
  | s :: l, U, k, v, h => by
    rcases slotsI_get ops T an rs i l _ k v h with g | g
    · cases hs : slotFor ops T an rs i s with
      | none => rw [hs] at g; exact .inl g
      | some u =>
        rw [hs] at g
        dsimp only at g
        rw [Sl.get_set] at g
        by_cases e : k = s
        · rw [if_pos e] at g; rw [e, hs]; exact .inr g
        · rw [if_neg e] at g; exact .inl g
    · exact .inr g
def slotsIK (ops : Array Oper) (T : Sl) (an : List Nat) (rs : List Rec) (i : Nat) : List Nat → Sl → (Sl → AM) → AM
  | [], U, c => c U
  | s :: l, U, c => match slotFor ops T an rs i s with
    | some v => U.setK s v fun U => slotsIK ops T an rs i l U c
    | none => slotsIK ops T an rs i l U c
theorem slotsIK_eq (ops : Array Oper) (T : Sl) (an : List Nat) (rs : List Rec) (i : Nat) : ∀ (l : List Nat) (U : Sl) (c : Sl → AM), slotsIK ops T an rs i l U c = c (slotsI ops T an rs i l U)
  | [], U, c => rfl
  | s :: l, U, c => by
    rw [slotsIK, slotsI]
    cases slotFor ops T an rs i s with
    | none => dsimp only; rw [slotsIK_eq]
    | some v => dsimp only; rw [Sl.setK_eq, slotsIK_eq]
def slotsOfK (rs : List Rec) : List Nat → Sl → (Sl → AM) → AM
  | [], T, c => c T
  | d :: l, T, c => match rs[d]? with
    | some r => match r.d with
      | some x => T.setK x r.v fun T => slotsOfK rs l T c
      | none => slotsOfK rs l T c
    | none => slotsOfK rs l T c
theorem slotsOfK_eq (rs : List Rec) : ∀ (l : List Nat) (T : Sl) (c : Sl → AM), slotsOfK rs l T c = c (slotsOf rs l T)
  | [], T, c => rfl
  | d :: l, T, c => by
    rw [slotsOfK, slotsOf]
    cases rs[d]? with
    | none => dsimp only; rw [slotsOfK_eq]
    | some r =>
      dsimp only
      cases r.d with
      | none => dsimp only; rw [slotsOfK_eq]
      | some x => dsimp only; rw [Sl.setK_eq, slotsOfK_eq]
def snocK {α : Type} : List α → α → (List α → AM) → AM
  | [], x, c => c [x]
  | a :: l, x, c => snocK l x fun l => c (a :: l)
theorem snocK_eq {α : Type} : ∀ (l : List α) (x : α) (c : List α → AM), snocK l x c = c (l ++ [x])
  | [], x, c => rfl
  | a :: l, x, c => by rw [snocK, snocK_eq l]; rfl
/-- the later one does not meet the elder one -/
def Tok.apart (r : Rec) (t : Tok) : Bool := !(Nat.ble r.n0 t.id && Nat.blt t.id r.n1) && (match t with
  | .wr i o => !touched r.log i o
  | .rd i o => !wrote r.log i o
  | .own i => r.log.all fun s => !Nat.beq s.id i)
def apartAll (anc : Nat) (r : Rec) : List Rec → Nat → Bool
  | [], _ => true
  | q :: l, j => (tb anc j || r.log.all (Tok.apart q)) && apartAll anc r l (j + 1)
theorem apartAll_get (anc : Nat) (r : Rec) : ∀ (l : List Rec) (j : Nat), apartAll anc r l j = true → ∀ (i : Nat) (q : Rec), l[i]? = some q → tb anc (j + i) = true ∨ r.log.all (Tok.apart q) = true
  | q :: l, j, h, i, q', hi => by
    rw [apartAll, Bool.and_eq_true, Bool.or_eq_true] at h
    cases i with
    | zero =>
      simp at hi
      subst hi
      simpa using h.1
    | succ i =>
      have := apartAll_get anc r l (j + 1) h.2 i q' (by simpa using hi)
      rw [show j + (i + 1) = j + 1 + i by omega]
      exact this
  | [], j, h, i, q', hi => by simp at hi
theorem touched_mem {l : List Tok} {x y : Nat} (h : touched l x y = true) : ∃ t ∈ l, t.id = x ∧ (t = .wr x y ∨ t = .rd x y ∨ t = .own x) := by
  unfold touched at h
  rw [List.any_eq_true] at h
  obtain ⟨t, ht, h⟩ := h
  refine ⟨t, ht, ?_⟩
  cases t with
  | rd i o => simp [Tok.writes, Tok.reads] at h; simp [Tok.id, h]
  | wr i o => simp [Tok.writes, Tok.reads] at h; simp [Tok.id, h]
  | own i => simp [Tok.writes, Tok.reads] at h; simp [Tok.id, h]
theorem wrote_mem {l : List Tok} {x y : Nat} (h : wrote l x y = true) : .wr x y ∈ l ∨ .own x ∈ l := by
  unfold wrote at h
  rw [List.any_eq_true] at h
  obtain ⟨t, ht, h⟩ := h
  cases t with
  | rd i o => simp [Tok.writes] at h
  | wr i o => simp [Tok.writes] at h; rw [h.1, h.2] at ht; exact .inl ht
  | own i => simp [Tok.writes] at h; rw [h] at ht; exact .inr ht
theorem touched_of_wrote {l : List Tok} {x y : Nat} (h : wrote l x y = true) : touched l x y = true := by
  unfold touched
  rw [List.any_eq_true]
  rcases wrote_mem h with h | h
  · exact ⟨_, h, by simp [Tok.writes]⟩
  · exact ⟨_, h, by simp [Tok.writes]⟩
theorem not_touched_id {l : List Tok} {i : Nat} (h : (l.all fun s => !Nat.beq s.id i) = true) (y : Nat) : touched l i y = false := by
  cases ht : touched l i y with
  | false => rfl
  | true =>
    obtain ⟨t, hm, hid, _⟩ := touched_mem ht
    rw [List.all_eq_true] at h
    have := h t hm
    rw [hid] at this
    simp at this
theorem apart_range {q : Rec} {l : List Tok} (h : l.all (Tok.apart q) = true) {x y : Nat} (ht : touched l x y = true) : ¬ (q.n0 ≤ x ∧ x < q.n1) := by
  obtain ⟨t, hm, hid, _⟩ := touched_mem ht
  rw [List.all_eq_true] at h
  have := h t hm
  unfold Tok.apart at this
  rw [Bool.and_eq_true] at this
  have h1 := (keep_iff q.n0 q.n1 t).1 this.1
  rw [hid] at h1
  exact h1
theorem apart_wrote {q : Rec} {l : List Tok} (h : l.all (Tok.apart q) = true) {x y : Nat} (ht : touched l x y = true) : wrote q.log x y = false := by
  obtain ⟨t, hm, hid, ho⟩ := touched_mem ht
  rw [List.all_eq_true] at h
  have := h t hm
  unfold Tok.apart at this
  rw [Bool.and_eq_true] at this
  have low : touched q.log x y = false → wrote q.log x y = false := fun h2 => by
    cases hw : wrote q.log x y with
    | false => rfl
    | true => rw [touched_of_wrote hw] at h2; cases h2
  rcases ho with rfl | rfl | rfl
  · exact low (by simpa using this.2)
  · simpa using this.2
  · exact low (not_touched_id this.2 y)
theorem apart_touched {q : Rec} {l : List Tok} (h : l.all (Tok.apart q) = true) {x y : Nat} (ht : wrote l x y = true) : touched q.log x y = false := by
  rw [List.all_eq_true] at h
  rcases wrote_mem ht with hm | hm
  · have := h _ hm
    unfold Tok.apart at this
    rw [Bool.and_eq_true] at this
    simpa using this.2
  · have := h _ hm
    unfold Tok.apart at this
    rw [Bool.and_eq_true] at this
    exact not_touched_id this.2 y
section
variable (P : Program) (A : Ass) (call : Tg → List AV → AM) (N : Nat) (ops : Array Oper) (T0 : Sl) (an : List Nat)
def freshD (rs : List Rec) (d : Option Nat) : Bool := match d with
  | none => true
  | some d => Nat.blt d N && rs.all fun r => match r.d with
    | some x => !Nat.beq x d
    | none => true
def evOps : List Nat → List Rec → (List Rec → AM) → AM
  | [], rs, k => k rs
  | i :: rest, rs, k => match ops[i]? with
    | none => .fail 50
    | some o => bif (depsOf .any ops i).all (fun d => Nat.blt d i) && freshD N rs o.dst then
        slotsIK ops T0 an rs i (rdOper ops o) T0.bare fun U => match guardOf A ops U o with
        | some true => .here fun n0 => .sub (aopX P A call U o fun v => .ret ⟨.normal, .e, v⟩) fun out log => .here fun n1 =>
          bif apartAll (ancGet an i) ⟨o.dst, out.v, n0, n1, log⟩ rs 0 then snocK rs ⟨o.dst, out.v, n0, n1, log⟩ fun rs => evOps rest rs k else .fail 51
        | some false => .here fun n0 => snocK rs ⟨o.dst, .tuple [], n0, n0, []⟩ fun rs => evOps rest rs k
        | none => .fail 52
      else .fail 53
structure StepOk (rs : List Rec) (i : Nat) (r : Rec) (H H1 : Mem) : Prop where
  dep : ∀ d ∈ depsOf .any ops i, d < i
  op : ∃ o, ops[i]? = some o ∧ r.d = o.dst ∧ freshD N rs o.dst = true ∧
    ((guardOf A ops (slotsI ops T0 an rs i (rdOper ops o) T0.bare) o = some false ∧ r.log = [] ∧ r.n0 = r.n1 ∧ r.v = .tuple [] ∧ H1 = H) ∨
     (guardOf A ops (slotsI ops T0 an rs i (rdOper ops o) T0.bare) o = some true ∧ ∃ l', (aopX P A call (slotsI ops T0 an rs i (rdOper ops o) T0.bare) o fun v => .ret ⟨.normal, .e, v⟩).run H r.n0 [] = some (⟨.normal, .e, r.v⟩, H1, r.n1, l') ∧ r.log = l'.filter (keepTok r.n0 r.n1)))
  pair : ∀ j q, rs[j]? = some q → tb (ancGet an i) j = true ∨ r.log.all (Tok.apart q) = true
structure Chain (n : Nat) (H : Mem) (rs : List Rec) (ns : Nat → Nat) (Hs : Nat → Mem) : Prop where
  n0 : ns 0 = n
  H0 : Hs 0 = H
  num : ∀ i r, rs[i]? = some r → r.n0 = ns i ∧ r.n1 = ns (i + 1) ∧ ns i ≤ ns (i + 1)
  step : ∀ i r, rs[i]? = some r → StepOk P A call N ops T0 an (rs.take i) i r (Hs i) (Hs (i + 1))
end
section
variable {P : Program} {A : Ass} {call : Tg → List AV → AM} {N : Nat} {ops : Array Oper} {T0 : Sl} {an : List Nat}
theorem Chain.append {n : Nat} {H : Mem} {rs : List Rec} {ns : Nat → Nat} {Hs : Nat → Mem} (h : Chain P A call N ops T0 an n H rs ns Hs) {r : Rec} {H1 : Mem} (e0 : r.n0 = ns rs.length) (hle : r.n0 ≤ r.n1) (hs : StepOk P A call N ops T0 an rs rs.length r (Hs rs.length) H1) :
    Chain P A call N ops T0 an n H (rs ++ [r]) (fun k => if k ≤ rs.length then ns k else r.n1) (fun k => if k ≤ rs.length then Hs k else H1) := by
  refine ⟨by simp [h.n0], by simp [h.H0], fun i q hq => ?_, fun i q hq => ?_⟩
  · rcases Nat.lt_or_ge i rs.length with hi | hi
    · rw [List.getElem?_append_left hi] at hq
      have := h.num i q hq
      simp only [show i ≤ rs.length by omega, show i + 1 ≤ rs.length by omega, if_true]
      exact this
    · have hi2 : i = rs.length := by
        have : i < (rs ++ [r]).length := (List.getElem?_eq_some_iff.1 hq).1
        simp at this; omega
      subst hi2
      simp at hq
      subst hq
      simp only [Nat.le_refl, if_true, show ¬ (rs.length + 1 ≤ rs.length) by omega, if_false]
      exact ⟨e0, trivial, by omega⟩
  · rcases Nat.lt_or_ge i rs.length with hi | hi
    · rw [List.getElem?_append_left hi] at hq
      have := h.step i q hq
      simp only [show i ≤ rs.length by omega, show i + 1 ≤ rs.length by omega, if_true]
      rw [List.take_append_of_le_length (by omega)]
      exact this
    · have hi2 : i = rs.length := by
        have : i < (rs ++ [r]).length := (List.getElem?_eq_some_iff.1 hq).1
        simp at this; omega
      subst hi2
      simp at hq
      subst hq
      simp only [Nat.le_refl, if_true, show ¬ (rs.length + 1 ≤ rs.length) by omega, if_false]
      rw [List.take_append_of_le_length (Nat.le_refl _), List.take_length]
      exact hs
theorem all_blt {l : List Nat} {i : Nat} (h : (l.all fun d => Nat.blt d i) = true) : ∀ d ∈ l, d < i := fun d hd => by
  rw [List.all_eq_true] at h
  exact (blt_iff _ _).1 (h d hd)
theorem evOps_run {B : Nat} (hcall : CallOk P A B call) (n : Nat) (H : Mem) : ∀ (m i : Nat) (rs : List Rec) (ns : Nat → Nat) (Hs : Nat → Mem) (k : List Rec → AM) (acc : List Tok) (r : Out × Mem × Nat × List Tok), rs.length = i →
    Chain P A call N ops T0 an n H rs ns Hs → (evOps P A call N ops T0 an (List.range' i m) rs k).run (Hs i) (ns i) acc = some r →
    ∃ rs1 ns1 Hs1 acc1, rs1.length = i + m ∧ Chain P A call N ops T0 an n H rs1 ns1 Hs1 ∧ (k rs1).run (Hs1 (i + m)) (ns1 (i + m)) acc1 = some r
  | 0, i, rs, ns, Hs, k, acc, r, hl, hc, h => ⟨rs, ns, Hs, acc, hl, hc, h⟩
  | m + 1, i, rs, ns, Hs, k, acc, r, hl, hc, h => by
    rw [List.range'_succ, evOps] at h
    cases ho : ops[i]? with
    | none => rw [ho] at h; cases h
    | some o =>
      rw [ho] at h
      dsimp only at h
      cases hb : (depsOf .any ops i).all (fun d => Nat.blt d i) && freshD N rs o.dst with
      | false => rw [hb] at h; cases h
      | true =>
        rw [hb, cond_true, slotsIK_eq] at h
        simp only [snocK_eq] at h
        rw [Bool.and_eq_true] at hb
        cases hg : guardOf A ops (slotsI ops T0 an rs i (rdOper ops o) T0.bare) o with
        | none => rw [hg] at h; cases h
        | some g =>
          rw [hg] at h
          cases g with
          | false =>
            dsimp only at h
            simp only [AM.run_ret, AM.run_fail, AM.run_load, AM.run_store, AM.run_alloc, AM.run_sub, AM.run_call, AM.run_here, AM.run_drop, AM.run_renew] at h
            have hs : StepOk P A call N ops T0 an rs rs.length ⟨o.dst, .tuple [], ns i, ns i, []⟩ (Hs rs.length) (Hs rs.length) := by
              subst hl
              exact ⟨all_blt hb.1, ⟨o, ho, rfl, hb.2, .inl ⟨hg, rfl, rfl, rfl, rfl⟩⟩, fun j q hq => .inr rfl⟩
            have hc1 := hc.append (by subst hl; rfl) (Nat.le_refl _) hs
            obtain ⟨rs1, ns1, Hs1, acc1, p1, p2, p3⟩ := evOps_run hcall n H m (i + 1) _ _ _ k acc r (by simp [hl]) hc1 (by
              simp only [hl, show ¬ (i + 1 ≤ i) by omega, if_false]
              exact h)
            exact ⟨rs1, ns1, Hs1, acc1, by omega, p2, by rw [show i + (m + 1) = i + 1 + m by omega]; exact p3⟩
          | true =>
            dsimp only at h
            simp only [AM.run_ret, AM.run_fail, AM.run_load, AM.run_store, AM.run_alloc, AM.run_sub, AM.run_call, AM.run_here, AM.run_drop, AM.run_renew] at h
            cases hr : (aopX P A call (slotsI ops T0 an rs i (rdOper ops o) T0.bare) o fun v => .ret ⟨.normal, .e, v⟩).run (Hs i) (ns i) [] with
            | none => rw [hr] at h; cases h
            | some x =>
              obtain ⟨out, H1, n1, l'⟩ := x
              rw [hr] at h
              dsimp only at h
              change (bif apartAll (ancGet an i) ⟨o.dst, out.v, ns i, n1, l'.filter (keepTok (ns i) n1)⟩ rs 0 then evOps P A call N ops T0 an (List.range' (i + 1) m) (rs ++ [⟨o.dst, out.v, ns i, n1, l'.filter (keepTok (ns i) n1)⟩]) k else AM.fail 51).run H1 n1 (l'.filter (keepTok (ns i) n1) ++ acc) = some r at h
              cases hap : apartAll (ancGet an i) ⟨o.dst, out.v, ns i, n1, l'.filter (keepTok (ns i) n1)⟩ rs 0 with
              | false => rw [hap] at h; cases h
              | true =>
                rw [hap, cond_true] at h
                have hout : out = ⟨.normal, .e, out.v⟩ := by
                  obtain ⟨v, H2, n2, acc2, q1, _⟩ := aopX_run (N := N) hcall hr
                  simp only [AM.run_ret, AM.run_fail, AM.run_load, AM.run_store, AM.run_alloc, AM.run_sub, AM.run_call, AM.run_here, AM.run_drop, AM.run_renew, Option.some.injEq, Prod.mk.injEq] at q1
                  rw [← q1.1]
                have hs : StepOk P A call N ops T0 an rs rs.length ⟨o.dst, out.v, ns i, n1, l'.filter (keepTok (ns i) n1)⟩ (Hs rs.length) H1 := by
                  subst hl
                  refine ⟨all_blt hb.1, ⟨o, ho, rfl, hb.2, .inr ⟨hg, l', ?_, rfl⟩⟩, fun j q hq => ?_⟩
                  · rw [hr, hout]
                  · have := apartAll_get _ _ rs 0 hap j q hq
                    rw [Nat.zero_add] at this
                    exact this
                have hc1 := hc.append (by subst hl; rfl) (AM.run_le _ _ _ _ _ _ _ _ hr) hs
                obtain ⟨rs1, ns1, Hs1, acc1, p1, p2, p3⟩ := evOps_run hcall n H m (i + 1) _ _ _ k _ r (by simp [hl]) hc1 (by
                  simp only [hl, show ¬ (i + 1 ≤ i) by omega, if_false]
                  exact h)
                exact ⟨rs1, ns1, Hs1, acc1, by omega, p2, by rw [show i + (m + 1) = i + 1 + m by omega]; exact p3⟩
end
end
end Go.Proofs.YtdoegipkfjndbaaGreatDoor.Ev
namespace Go.Proofs.YtdoegipkfjndbaaGreatDoor.Ev
set_option linter.unusedVariables false
set_option linter.unusedSimpArgs false
noncomputable section
open Go.RowKit
def wrB (r : Rec) (x y : Nat) : Bool := (Nat.ble r.n0 x && Nat.blt x r.n1) || wrote r.log x y
def wrI (rs : List Rec) (k x y : Nat) : Bool := match rs[k]? with
  | some r => wrB r x y
  | none => false
theorem range_iff (a x b : Nat) : (Nat.ble a x && Nat.blt x b) = true ↔ a ≤ x ∧ x < b := by
  rw [Bool.and_eq_true, Nat.ble_eq, blt_iff]
theorem wrB_iff (r : Rec) (x y : Nat) : wrB r x y = true ↔ (r.n0 ≤ x ∧ x < r.n1) ∨ wrote r.log x y = true := by
  unfold wrB
  rw [Bool.or_eq_true, range_iff]
/-- a cell, once the operations L have come up -/
def cellL (Hs : Nat → Mem) (rs : List Rec) (L : Nat → Bool) (x y : Nat) : Nat → Option AV
  | 0 => (Hs 0).at x y
  | k + 1 => if L k = true ∧ wrI rs k x y = true then (Hs (k + 1)).at x y else cellL Hs rs L x y k
theorem cellL_at {Hs : Nat → Mem} {rs : List Rec} {L : Nat → Bool} {x y : Nat} (i : Nat) (hsame : ∀ k, k < i → wrI rs k x y = false → (Hs (k + 1)).at x y = (Hs k).at x y) (hL : ∀ k, k < i → wrI rs k x y = true → L k = true) :
    cellL Hs rs L x y i = (Hs i).at x y := by
  induction i with
  | zero => rfl
  | succ i ih =>
    rw [cellL]
    cases hw : wrI rs i x y with
    | true => rw [if_pos ⟨hL i (by omega) hw, rfl⟩]
    | false =>
      rw [if_neg (by simp), hsame i (by omega) hw]
      exact ih (fun k hk => hsame k (by omega)) (fun k hk => hL k (by omega))
theorem cellL_upto {Hs : Nat → Mem} {rs : List Rec} {L : Nat → Bool} {x y : Nat} (i m : Nat) (him : i ≤ m) (h : ∀ k, i ≤ k → k < m → L k = true → wrI rs k x y = false) : cellL Hs rs L x y m = cellL Hs rs L x y i := by
  induction m with
  | zero => rw [Nat.le_zero.1 him]
  | succ m ih =>
    rcases Nat.lt_or_ge m i with hm | hm
    · rw [show i = m + 1 by omega]
    · rw [cellL, if_neg]
      · exact ih hm fun k h1 h2 => h k h1 (by omega)
      · rintro ⟨h1, h2⟩
        rw [h m hm (by omega) h1] at h2
        cases h2
theorem cellL_up_not {Hs : Nat → Mem} {rs : List Rec} {L : Nat → Bool} {x y : Nat} (i m : Nat) (hw : wrI rs i x y = false) : cellL Hs rs (upOn L i) x y m = cellL Hs rs L x y m := by
  induction m with
  | zero => rfl
  | succ m ih =>
    rw [cellL, cellL, ih]
    by_cases e : m = i
    · subst e
      rw [if_neg (by simp [hw]), if_neg (by simp [hw])]
    · rw [show upOn L i m = L m by simp [upOn, e]]
theorem cellL_up {Hs : Nat → Mem} {rs : List Rec} {L : Nat → Bool} {x y : Nat} (i m : Nat) (him : i < m) (hw : wrI rs i x y = true) (h : ∀ k, i < k → k < m → L k = true → wrI rs k x y = false) : cellL Hs rs (upOn L i) x y m = (Hs (i + 1)).at x y := by
  rw [cellL_upto (i + 1) m him (fun k h1 h2 h3 => h k (by omega) h2 (by
    have : upOn L i k = L k := by simp [upOn, show ¬ k = i by omega]
    rw [← this]; exact h3)), cellL, if_pos ⟨by simp [upOn], hw⟩]
section
variable {P : Program} {A : Ass} {call : Tg → List AV → AM} {N : Nat} {ops : Array Oper} {T0 : Sl} {an : List Nat} {n : Nat} {H : Mem} {rs : List Rec} {ns : Nat → Nat} {Hs : Nat → Mem}
theorem get_of_lt {i : Nat} (h : i < rs.length) : ∃ r, rs[i]? = some r := ⟨rs[i], List.getElem?_eq_getElem h⟩
theorem lt_of_get {i : Nat} {r : Rec} (h : rs[i]? = some r) : i < rs.length := (List.getElem?_eq_some_iff.1 h).1
theorem take_get {i j : Nat} {r : Rec} (h : (rs.take i)[j]? = some r) : rs[j]? = some r ∧ j < i := by
  rw [List.getElem?_take] at h
  split at h
  · exact ⟨h, by assumption⟩
  · cases h
theorem get_take {i j : Nat} {r : Rec} (h : rs[j]? = some r) (hj : j < i) : (rs.take i)[j]? = some r := by
  rw [List.getElem?_take, if_pos hj, h]
theorem Chain.mono (hc : Chain P A call N ops T0 an n H rs ns Hs) {i j : Nat} (h : i ≤ j) (hj : j ≤ rs.length) : ns i ≤ ns j := by
  induction j with
  | zero => rw [Nat.le_zero.1 h]; exact Nat.le_refl _
  | succ j ih =>
    rcases Nat.lt_or_ge j i with hm | hm
    · rw [show i = j + 1 by omega]; exact Nat.le_refl _
    · obtain ⟨r, hr⟩ := get_of_lt (rs := rs) (i := j) (by omega)
      have := (hc.num j r hr).2.2
      have := ih hm (by omega)
      omega
/-- what the run of one operation says -/
structure Facts (P : Program) (A : Ass) (call : Tg → List AV → AM) (M : Nat) (T : Sl) (o : Oper) (r : Rec) (g : Option Bool) (H H1 : Mem) : Prop where
  free : ∀ x y, r.n1 ≤ x → x < M → H1.at x y = none
  same : ∀ x y, wrB r x y = false → H1.at x y = H.at x y
  log : ∀ x y, touched r.log x y = true → x < r.n0 ∨ M ≤ x
  run : (g = some false ∧ r.v = .tuple [] ∧ ∀ x y, wrB r x y = false) ∨ (g = some true ∧ ∀ G : Mem, (∀ x y, touched r.log x y = true → G.at x y = H.at x y) → ∃ G' l', (aopX P A call T o fun v => .ret ⟨.normal, .e, v⟩).run G r.n0 [] = some (⟨.normal, .e, r.v⟩, G', r.n1, l') ∧ ∀ x y, G'.at x y = if wrB r x y = true then H1.at x y else G.at x y)
theorem StepOk.facts {i : Nat} {r : Rec} {H0 H1 : Mem} {M : Nat} (h : StepOk P A call N ops T0 an (rs.take i) i r H0 H1) (hM : r.n1 ≤ M) (hF : ∀ x y, r.n0 ≤ x → x < M → H0.at x y = none) :
    ∃ o, ops[i]? = some o ∧ r.d = o.dst ∧ freshD N (rs.take i) o.dst = true ∧ Facts P A call M (slotsI ops T0 an (rs.take i) i (rdOper ops o) T0.bare) o r (guardOf A ops (slotsI ops T0 an (rs.take i) i (rdOper ops o) T0.bare) o) H0 H1 := by
  obtain ⟨o, ho, hd, hfr, hx⟩ := h.op
  refine ⟨o, ho, hd, hfr, ?_⟩
  rcases hx with ⟨g, e1, e2, e3, rfl⟩ | ⟨g, l', e1, e2⟩
  · have hw : ∀ x y, wrB r x y = false := fun x y => by
      cases hb : wrB r x y with
      | false => rfl
      | true =>
        rw [wrB_iff, e1] at hb
        rcases hb with hb | hb
        · omega
        · simp [wrote] at hb
    exact ⟨fun x y h1 h2 => hF x y (by omega) h2, fun x y _ => rfl, fun x y ht => by rw [e1] at ht; simp [touched] at ht, .inl ⟨g, e3, hw⟩⟩
  · obtain ⟨l, q0, q1, q2, q3, q4, q5⟩ := AM.run_frame M _ _ _ _ _ _ _ _ hF hM e1
    rw [List.append_nil] at q0
    subst q0
    have hw : ∀ x y, (r.n0 ≤ x ∧ x < r.n1) ∨ wrote l' x y = true ↔ wrB r x y = true := fun x y => by
      rw [wrB_iff, e2]
      by_cases hr : r.n0 ≤ x ∧ x < r.n1
      · simp [hr]
      · rw [wrote_keep _ _ _ _ _ hr]
    have ht : ∀ x y, touched r.log x y = true → ¬ (r.n0 ≤ x ∧ x < r.n1) ∧ touched l' x y = true := fun x y h => by
      rw [e2] at h
      obtain ⟨t, hm, hid, hto⟩ := touched_mem h
      rw [List.mem_filter] at hm
      have hk := (keep_iff _ _ _).1 hm.2
      rw [hid] at hk
      exact ⟨hk, by rw [touched_keep _ _ _ _ _ hk] at h; exact h⟩
    refine ⟨q2, fun x y hb => ?_, fun x y h => ?_, .inr ⟨g, fun G hG => ?_⟩⟩
    · have : ¬ ((r.n0 ≤ x ∧ x < r.n1) ∨ wrote l' x y = true) := by rw [hw, hb]; simp
      rw [not_or] at this
      exact q4 x y this.1 (by simpa using this.2)
    · have := ht x y h
      rcases q3 x y this.2 with h1 | h1
      · exact .inl (by omega)
      · exact .inr h1
    · obtain ⟨G', p1, p2⟩ := q5 G [] fun x y hr h => hG x y (by rw [e2, touched_keep _ _ _ _ _ hr]; exact h)
      refine ⟨G', _, p1, fun x y => ?_⟩
      rw [p2]
      by_cases hb : wrB r x y = true
      · rw [if_pos ((hw x y).2 hb), if_pos hb]
      · rw [if_neg (fun e => hb ((hw x y).1 e)), if_neg hb]
theorem Chain.free (hc : Chain P A call N ops T0 an n H rs ns Hs) (hF : ∀ x y, n ≤ x → x < ns rs.length → H.at x y = none) : ∀ i, i ≤ rs.length → ∀ x y, ns i ≤ x → x < ns rs.length → (Hs i).at x y = none
  | 0, _ => by rw [hc.H0, hc.n0]; exact hF
  | i + 1, hi => by
    obtain ⟨r, hr⟩ := get_of_lt (rs := rs) (i := i) (by omega)
    have hn := hc.num i r hr
    obtain ⟨o, _, _, _, f⟩ := (hc.step i r hr).facts (M := ns rs.length) (by rw [hn.2.1]; exact hc.mono hi (Nat.le_refl _)) (by rw [hn.1]; exact hc.free hF i (by omega))
    rw [← hn.2.1]
    exact f.free
theorem Chain.facts (hc : Chain P A call N ops T0 an n H rs ns Hs) (hF : ∀ x y, n ≤ x → x < ns rs.length → H.at x y = none) {i : Nat} {r : Rec} (hr : rs[i]? = some r) :
    ∃ o, ops[i]? = some o ∧ r.d = o.dst ∧ freshD N (rs.take i) o.dst = true ∧ Facts P A call (ns rs.length) (slotsI ops T0 an (rs.take i) i (rdOper ops o) T0.bare) o r (guardOf A ops (slotsI ops T0 an (rs.take i) i (rdOper ops o) T0.bare) o) (Hs i) (Hs (i + 1)) := by
  have hn := hc.num i r hr
  have hi := lt_of_get hr
  exact (hc.step i r hr).facts (M := ns rs.length) (by rw [hn.2.1]; exact hc.mono hi (Nat.le_refl _)) (by rw [hn.1]; exact hc.free hF i (by omega))
theorem Chain.ancL (hc : Chain P A call N ops T0 an n H rs ns Hs) (han : AncOk ops an) {L : Nat → Bool} (hcl : ∀ k d, L k = true → (depsOf .any ops k).contains d = true → L d = true) {j : Nat} : ∀ (k : Nat), k < rs.length → (∀ d, (depsOf .any ops k).contains d = true → L d = true) → tb (ancGet an k) j = true → L j = true := by
  intro k
  induction k using Nat.strongRecOn with
  | _ k ih =>
    intro hk hd ht
    obtain ⟨r, hr⟩ := get_of_lt hk
    obtain ⟨d, hm, h⟩ := han k j ht
    have hLd := hd d (by simpa using hm)
    rcases h with rfl | h
    · exact hLd
    · have hlt := (hc.step k r hr).dep d hm
      exact ih d hlt (by omega) (fun d' h' => hcl d d' hLd h') h
/-- no later one that has come up has written what this one touches or makes -/
theorem Chain.later (hc : Chain P A call N ops T0 an n H rs ns Hs) (han : AncOk ops an) (hF : ∀ x y, n ≤ x → x < ns rs.length → H.at x y = none) {L : Nat → Bool} (hcl : ∀ k d, L k = true → (depsOf .any ops k).contains d = true → L d = true)
    {i : Nat} {r : Rec} (hr : rs[i]? = some r) (hi : L i = false) {x y : Nat} (h : touched r.log x y = true ∨ (r.n0 ≤ x ∧ x < r.n1)) : ∀ k, i < k → k < rs.length → L k = true → wrI rs k x y = false := by
  intro k hik hk hLk
  obtain ⟨q, hq⟩ := get_of_lt hk
  unfold wrI
  rw [hq]
  dsimp only
  have hnr := hc.num i r hr
  have hnq := hc.num k q hq
  have hm : ns (i + 1) ≤ ns k := hc.mono hik (by omega)
  have hm2 : ns (k + 1) ≤ ns rs.length := hc.mono hk (Nat.le_refl _)
  obtain ⟨o, _, _, _, f⟩ := hc.facts hF hr
  rcases (hc.step k q hq).pair i r (get_take hr hik) with hp | hp
  · have := hc.ancL han hcl k hk (fun d hd => hcl k d hLk hd) hp
    rw [hi] at this
    cases this
  · cases hb : wrB q x y with
    | false => rfl
    | true =>
      exfalso
      rw [wrB_iff] at hb
      rcases hb with hb | hb
      · rcases h with h | h
        · rcases f.log x y h with h1 | h1 <;> omega
        · omega
      · rcases h with h | h
        · have := apart_touched hp hb
          rw [h] at this
          cases this
        · exact apart_range hp (touched_of_wrote hb) h
/-- an earlier one that has written what this one touches has come up -/
theorem Chain.earlier (hc : Chain P A call N ops T0 an n H rs ns Hs) (han : AncOk ops an) {L : Nat → Bool} (hcl : ∀ k d, L k = true → (depsOf .any ops k).contains d = true → L d = true)
    {i : Nat} {r : Rec} (hr : rs[i]? = some r) (hd : ∀ d, (depsOf .any ops i).contains d = true → L d = true) {x y : Nat} (h : touched r.log x y = true) : ∀ k, k < i → wrI rs k x y = true → L k = true := by
  intro k hki hw
  have hi := lt_of_get hr
  obtain ⟨q, hq⟩ := get_of_lt (rs := rs) (i := k) (by omega)
  unfold wrI at hw
  rw [hq] at hw
  dsimp only at hw
  rcases (hc.step i r hr).pair k q (get_take hq hki) with hp | hp
  · exact hc.ancL han hcl i hi hd hp
  · exfalso
    rw [wrB_iff] at hw
    rcases hw with hw | hw
    · exact apart_range hp h hw
    · rw [apart_wrote hp h] at hw
      cases hw
theorem freshD_ne {qs : List Rec} {d : Option Nat} (h : freshD N qs d = true) {q : Rec} (hq : q ∈ qs) {x : Nat} (hx : d = some x) : q.d ≠ some x := by
  subst hx
  unfold freshD at h
  rw [Bool.and_eq_true, List.all_eq_true] at h
  have := h.2 q hq
  intro e
  rw [e] at this
  simp at this
theorem freshD_lt {qs : List Rec} {d : Option Nat} (h : freshD N qs d = true) {x : Nat} (hx : d = some x) : x < N := by
  subst hx
  unfold freshD at h
  rw [Bool.and_eq_true] at h
  exact (blt_iff _ _).1 h.1
theorem Chain.apartD (hc : Chain P A call N ops T0 an n H rs ns Hs) {i k : Nat} {r q : Rec} (hr : rs[i]? = some r) (hq : rs[k]? = some q) (hne : i ≠ k) {d : Nat} (hd : r.d = some d) : q.d ≠ some d := by
  rcases Nat.lt_or_ge k i with h | h
  · obtain ⟨o, _, e, hf, _⟩ := (hc.step i r hr).op
    exact freshD_ne hf (List.mem_of_getElem? (get_take hq h)) (by rw [← e]; exact hd)
  · obtain ⟨o, _, e, hf, _⟩ := (hc.step k q hq).op
    intro e2
    exact freshD_ne hf (List.mem_of_getElem? (get_take hr (by omega))) (by rw [← e]; exact e2) hd
end
end
end Go.Proofs.YtdoegipkfjndbaaGreatDoor.Ev
namespace Go.Proofs.YtdoegipkfjndbaaGreatDoor.Ev
set_option linter.unusedVariables false
set_option linter.unusedSimpArgs false
noncomputable section
open Go.RowKit
section
variable (P : Program) (A : Ass) (call : Tg → List AV → AM) (N : Nat)
def evDraw (ops : Array Oper) (T : Sl) (k : Sl → AM) : AM :=
  bif P.follows .mixedOrders then evOps P A call N ops T (ancList ops (List.range' 0 ops.size) []) (List.range' 0 ops.size) [] fun rs => slotsOfK rs (List.range ops.size) T k else .fail 54
end
section
variable {P : Program} {A : Ass} {call : Tg → List AV → AM} {N : Nat}
theorem act_put_get {a : Act} {d : Option Nat} {x : Value} {k : Nat} : (a.put d x).tmps[k]? = if d = some k ∧ k < a.tmps.size then some x else a.tmps[k]? := by
  cases d with
  | none => simp [Act.put]
  | some d =>
    simp only [Act.put, Array.getElem?_setIfInBounds, Option.some.injEq]
    by_cases h : d = k
    · subst h
      by_cases g : d < a.tmps.size
      · simp [g]
      · simp [g]
    · simp [h]
theorem act_put_size {a : Act} {d : Option Nat} {x : Value} : (a.put d x).tmps.size = a.tmps.size := by
  cases d <;> simp [Act.put]
theorem act_put_defers {a : Act} {d : Option Nat} {x : Value} : (a.put d x).defers = a.defers := by
  cases d <;> rfl
theorem slotsI_d (ops : Array Oper) (T : Sl) (an : List Nat) (rs : List Rec) (i : Nat) : ∀ (l : List Nat) (U : Sl), (slotsI ops T an rs i l U).d = U.d
  | [], U => rfl
  | s :: l, U => by
    rw [slotsI, slotsI_d]
    cases slotFor ops T an rs i s <;> rfl
theorem slotsOf_d (rs : List Rec) : ∀ (l : List Nat) (T : Sl), (slotsOf rs l T).d = T.d
  | [], T => rfl
  | d :: l, T => by
    rw [slotsOf, slotsOf_d]
    cases rs[d]? with
    | none => rfl
    | some r =>
      dsimp only
      cases r.d <;> rfl
/-- what holds of the frame and of the world once the operations L have come up -/
structure Inv (ρ : Val) (μ : Names) (N B n M : Nat) (T : Sl) (rs : List Rec) (Hs : Nat → Mem) (w0 : World) (L : Nat → Bool) (a : Act) (w : World) (μ1 : Names) (G : Mem) : Prop where
  slots : ∀ s v, T.get s = some v → (∀ i r, rs[i]? = some r → r.d = some s → L i = false) → ∃ x, a.tmps[s]? = some x ∧ rel ρ μ1 v x
  size' : a.tmps.size = N
  defers : relD ρ μ1 T.d a.defers
  up : ∀ i r, rs[i]? = some r → L i = true → ∀ d, r.d = some d → ∃ x, a.tmps[d]? = some x ∧ rel ρ μ1 r.v x
  mem : R ρ μ1 B G w
  cell : ∀ x y, G.at x y = cellL Hs rs L x y rs.length
  le : μ.le μ1
  out : ∀ j, ¬ (n ≤ j ∧ j < M) → μ1.get j = μ.get j
  not : ∀ i r, rs[i]? = some r → L i = false → ∀ j, r.n0 ≤ j → j < r.n1 → μ1.get j = none
  below : Below B w0 w
  size : B ≤ w.heap.size
theorem evDraw_ok {B : Nat} (hcall : CallOk P A B call) : DrawOk P A N (evDraw P A call N) B := by
  intro ops T k H n acc r h
  unfold evDraw at h
  cases hm : P.follows .mixedOrders with
  | false => rw [hm] at h; cases h
  | true =>
    rw [hm, cond_true] at h
    simp only [slotsOfK_eq] at h
    have han : AncOk ops (ancList ops (List.range' 0 ops.size) []) := ancList_ok ops ops.size 0 [] rfl fun i j h => by
      unfold ancGet at h
      simp [tb_zero] at h
    generalize ancList ops (List.range' 0 ops.size) [] = an at h han
    have hc0 : Chain P A call N ops T an n H [] (fun _ => n) (fun _ => H) := ⟨rfl, rfl, fun i r hr => by simp at hr, fun i r hr => by simp at hr⟩
    obtain ⟨rs, ns, Hs, acc1, hl, hc, h1⟩ := evOps_run hcall n H ops.size 0 [] (fun _ => n) (fun _ => H) _ acc r rfl hc0 h
    rw [Nat.zero_add] at hl h1
    refine ⟨_, Hs ops.size, ns ops.size, acc1, h1, ?_, fun id ρ μ a w hA hT hR hB hf rb Q hQ => ?_⟩
    · rw [← hc.n0]; exact hc.mono (Nat.zero_le _) (by omega)
    · have hF : ∀ x y, n ≤ x → x < ns rs.length → H.at x y = none := fun x y h1 h2 => by
        cases hv : H.at x y with
        | none => rfl
        | some v =>
          rw [hR.free (hf x h1 (by rw [← hl]; exact h2)) y] at hv
          cases hv
      have hrec : ∀ {i : Nat} {o : Oper}, ops[i]? = some o → ∃ q, rs[i]? = some q ∧ q.d = o.dst := fun {i o} ho => by
        have hi : i < ops.size := (Array.getElem?_eq_some_iff.1 ho).1
        obtain ⟨q, hq⟩ := get_of_lt (rs := rs) (i := i) (by omega)
        obtain ⟨o', ho', e, _⟩ := (hc.step i q hq).op
        rw [ho] at ho'
        cases ho'
        exact ⟨q, hq, e⟩
      have hsame : ∀ i, i < rs.length → ∀ x y, wrI rs i x y = false → (Hs (i + 1)).at x y = (Hs i).at x y := fun i hi x y hw => by
        obtain ⟨q, hq⟩ := get_of_lt hi
        obtain ⟨o, _, _, _, f⟩ := hc.facts hF hq
        refine f.same x y ?_
        unfold wrI at hw
        rw [hq] at hw
        exact hw
      refine wp_region_inv' ops.size rfl (fun L a1 w1 => ∃ μ1 G, Inv ρ μ N B n (ns rs.length) T rs Hs w L a1 w1 μ1 G) hm ?_ ?_ ?_ ?_
      · unfold sorted
        rw [List.all_eq_true]
        intro i hi
        obtain ⟨q, hq⟩ := get_of_lt (rs := rs) (i := i) (by rw [hl]; simpa using hi)
        rw [List.all_eq_true]
        intro d hd
        exact decide_eq_true ((hc.step i q hq).dep d hd)
      · refine ⟨μ, H, fun s v hv _ => hT.get s v hv, hT.size, hT.defers, fun i r hr hL => ?_, hR.drew, fun x y => ?_, Names.le_refl μ, fun _ _ => rfl, fun i r hr _ j h1 h2 => ?_, (Below.refl _ _).drew, hB⟩
        · have := lt_of_get hr
          simp only [decide_eq_true_eq] at hL
          omega
        · rw [cellL_upto 0 _ (Nat.zero_le _) (fun k _ hk hL => by simp only [decide_eq_true_eq] at hL; omega), cellL, hc.H0]
        · have hn := hc.num i r hr
          have hi := lt_of_get hr
          have h3 := hc.mono (Nat.zero_le i) (by omega)
          have h4 := hc.mono (i := i + 1) (j := rs.length) hi (Nat.le_refl _)
          rw [hc.n0] at h3
          exact hf j (by omega) (by rw [← hl]; omega)
      · intro i hi L a1 w1 hLi hcl hdep hI
        obtain ⟨μ1, G, I⟩ := hI
        obtain ⟨q, hq⟩ := get_of_lt (rs := rs) (i := i) (by omega)
        obtain ⟨o, ho, hd, hfr, f⟩ := hc.facts hF hq
        have hTi : TRel ρ μ1 N (slotsI ops T an (rs.take i) i (rdOper ops o) T.bare) a1 := by
          refine ⟨fun d v hv => ?_, I.size', by rw [slotsI_d]; exact I.defers⟩
          rcases slotsI_get _ _ _ _ _ _ _ _ _ hv with hv | hv
          · rw [Sl.get_bare] at hv; cases hv
          · unfold slotFor at hv
            split at hv
            · rename_i hn
              refine I.slots d v hv fun j r hr hrd => ?_
              obtain ⟨o', ho', e, _⟩ := (hc.step j r hr).op
              exact absurd (by rw [← e]; exact hrd) (dstIx_none _ _ _ hn o' (by simpa using Array.mem_of_getElem? ho'))
            · rename_i j hj
              obtain ⟨j', oj, e0, hoj, hdj⟩ := dstIx_some _ _ _ _ hj
              obtain ⟨qj, hqj, eqj⟩ := hrec (i := j) (o := oj) (by rw [e0, Nat.zero_add]; simpa using hoj)
              cases hb : tb (ancGet an i) j with
              | true =>
                rw [hb, cond_true] at hv
                cases hp : (rs.take i)[j]? with
                | none => rw [hp] at hv; cases hv
                | some p =>
                  rw [hp] at hv
                  simp only [Option.some.injEq] at hv
                  subst hv
                  obtain ⟨hp1, hp2⟩ := take_get hp
                  rw [hqj] at hp1
                  cases hp1
                  exact I.up j qj hqj (hc.ancL han hcl i (by omega) hdep hb) d (by rw [eqj]; exact hdj)
              | false =>
                rw [hb, cond_false] at hv
                cases hb2 : tb (ancGet an j) i with
                | false => rw [hb2] at hv; cases hv
                | true =>
                  rw [hb2, cond_true] at hv
                  refine I.slots d v hv fun k r hr hrd => ?_
                  by_cases e : k = j
                  · subst e
                    cases hk : L k with
                    | false => rfl
                    | true =>
                      have := hc.ancL han hcl k (lt_of_get hr) (fun d hd => hcl k d hk hd) hb2
                      rw [hLi] at this
                      cases this
                  · exact absurd hrd (hc.apartD hqj hr (fun e2 => e e2.symm) (by rw [eqj]; exact hdj))
        have hput : ∀ (μ2 : Names) (x : Value), μ1.le μ2 → rel ρ μ2 q.v x → (∀ s v, T.get s = some v → (∀ j r, rs[j]? = some r → r.d = some s → upOn L i j = false) → ∃ x', (a1.put o.dst x).tmps[s]? = some x' ∧ rel ρ μ2 v x') ∧ ∀ j r, rs[j]? = some r → upOn L i j = true → ∀ d, r.d = some d → ∃ x', (a1.put o.dst x).tmps[d]? = some x' ∧ rel ρ μ2 r.v x' := fun μ2 x hle hr => by
          refine ⟨fun s v hv hno => ?_, fun j r hj hL d hrd => ?_⟩
          · obtain ⟨y, hy, hrel⟩ := I.slots s v hv fun j r hr hrd => by
              have := hno j r hr hrd
              unfold upOn at this
              split at this
              · cases this
              · exact this
            rw [act_put_get, if_neg]
            · exact ⟨y, hy, rel.mono hle v y hrel⟩
            · rintro ⟨h, _⟩
              have := hno i q hq (by rw [hd]; exact h)
              simp [upOn] at this
          · by_cases e : j = i
            · subst e
              rw [hq] at hj
              cases hj
              refine ⟨x, ?_, hr⟩
              rw [act_put_get, if_pos ⟨by rw [← hd]; exact hrd, by rw [I.size']; exact freshD_lt hfr (by rw [← hd]; exact hrd)⟩]
            · have hL2 : L j = true := by simpa [upOn, e] using hL
              obtain ⟨y, hy, hrel⟩ := I.up j r hj hL2 d hrd
              refine ⟨y, ?_, rel.mono hle _ _ hrel⟩
              rw [act_put_get, if_neg]
              · exact hy
              · rintro ⟨h, _⟩
                exact hc.apartD hj hq e hrd (by rw [hd]; exact h)
        unfold wpOpIn
        rw [ho]
        dsimp only
        rcases f.run with ⟨g, hv, hw⟩ | ⟨g, hrun⟩
        · rw [guardOf_eq g hA hTi, if_neg (by simp)]
          obtain ⟨p1, p2⟩ := hput μ1 undef (Names.le_refl _) (by rw [hv]; exact ⟨[], rfl, trivial⟩)
          refine ⟨fun _ _ => trivial, μ1, G, p1, by rw [act_put_size]; exact I.size', by rw [act_put_defers]; exact I.defers, p2, I.mem, fun x y => ?_, I.le, I.out, fun j r hj hL => ?_, I.below, I.size⟩
          · rw [cellL_up_not, I.cell]
            unfold wrI
            rw [hq]
            exact hw x y
          · by_cases e : j = i
            · subst e; simp [upOn] at hL
            · exact I.not j r hj (by simpa [upOn, e] using hL)
        · rw [guardOf_eq g hA hTi, if_pos rfl]
          have hread : ∀ x y, touched q.log x y = true → G.at x y = (Hs i).at x y := fun x y ht => by
            rw [I.cell, cellL_upto i rs.length (by omega) (fun k h1 h2 h3 => by
              rcases Nat.lt_or_ge i k with h | h
              · exact hc.later han hF hcl hq hLi (.inl ht) k h h2 h3
              · rw [show k = i by omega, hLi] at h3; cases h3)]
            exact cellL_at i (fun k hk => hsame k (by omega) x y) (hc.earlier han hcl hq hdep ht)
          obtain ⟨G', l', e1, e2⟩ := hrun G hread
          obtain ⟨v, H1, n1, acc2, e3, hle, ok⟩ := aopX_run (N := N) hcall e1
          simp only [AM.run_ret, AM.run_fail, AM.run_load, AM.run_store, AM.run_alloc, AM.run_sub, AM.run_call, AM.run_here, AM.run_drop, AM.run_renew, Option.some.injEq, Prod.mk.injEq, Out.mk.injEq, true_and] at e3
          obtain ⟨rfl, rfl, rfl, rfl⟩ := e3
          have hn := hc.num i q hq
          have hlo := hc.mono (Nat.zero_le i) (by omega)
          have hhi := hc.mono (i := i + 1) (j := rs.length) (by omega) (Nat.le_refl _)
          rw [hc.n0] at hlo
          refine ok ρ μ1 a1 w1 hA hTi I.mem I.size (fun j h1 h2 => I.not i q hq hLi j h1 h2) rb _ _ fun x μ2 w2 r1 r2 r3 r4 => ?_
          obtain ⟨p1, p2⟩ := hput μ2 x r2.le r1
          refine ⟨μ2, H1, p1, by rw [act_put_size]; exact I.size', by rw [act_put_defers]; exact relD.mono r2.le _ _ I.defers, p2, r3, fun x y => ?_, Names.le_trans I.le r2.le, fun j hj => ?_, fun j r hj hL k h1 h2 => ?_, I.below.trans r4, Nat.le_trans I.size r4.size⟩
          · rw [e2]
            by_cases hb : wrB q x y = true
            · have hwi : wrI rs i x y = true := by unfold wrI; rw [hq]; exact hb
              rw [if_pos hb, cellL_up i _ (by omega) hwi]
              refine hc.later han hF hcl hq hLi ?_
              rcases (wrB_iff q x y).1 hb with h | h
              · exact .inr h
              · exact .inl (touched_of_wrote h)
            · rw [if_neg hb, cellL_up_not, I.cell]
              unfold wrI
              rw [hq]
              simpa using hb
          · rw [r2.same j (by omega), I.out j hj]
          · by_cases e : j = i
            · subst e; simp [upOn] at hL
            · have hL2 : L j = false := by simpa [upOn, e] using hL
              rw [r2.same k ?_]
              · exact I.not j r hj hL2 k h1 h2
              · have hnj := hc.num j r hj
                have hjl := lt_of_get hj
                rcases Nat.lt_or_ge j i with h | h
                · have := hc.mono (i := j + 1) (j := i) h (by omega)
                  omega
                · have := hc.mono (i := i + 1) (j := j) (by omega) (by omega)
                  omega
      · intro L a1 w1 hL hI
        obtain ⟨μ1, G, I⟩ := hI
        refine hQ a1 μ1 w1 ⟨fun d v hv => ?_, I.size', by rw [slotsOf_d]; exact I.defers⟩ ⟨I.le, fun j hj => I.out j (by rw [hl]; exact hj)⟩ (I.mem.same fun x y => ?_) I.below
        · rcases slotsOf_get _ _ _ _ _ hv with ⟨hv, hn⟩ | ⟨j, hj, p, hp, hpd, rfl⟩
          · exact I.slots d v hv fun j r hr hrd => absurd hrd (hn j (by have := lt_of_get hr; simp; omega) r hr)
          · exact I.up j p hp (hL j (by simpa using hj)) d hpd
        · rw [I.cell, cellL_at rs.length (fun k hk => hsame k hk x y) (fun k hk _ => hL k (by omega)), hl]
theorem evDrawn_ok {B : Nat} (hcall : CallOk P A B call) : ∀ N, DrawOk P A N (evDraw P A call N) B := fun N => evDraw_ok hcall
end
def evG (P : Program) (A : Ass) (fuel : Nat) : Nat → Tg → List AV → AM
  | 0, _, _ => .fail 41
  | d + 1, g, args => evTg P A fuel (evG P A fuel d) (evDraw P A (evG P A fuel d)) g args
theorem evG_ok (P : Program) (A : Ass) (B fuel : Nat) : ∀ d, CallOk P A B (evG P A fuel d)
  | 0 => fun _ _ _ _ _ _ _ _ _ h => by cases h
  | d + 1 => evTg_ok (evG_ok P A B fuel d) (evDrawn_ok (evG_ok P A B fuel d))
end
end Go.Proofs.YtdoegipkfjndbaaGreatDoor.Ev
namespace Go.Proofs.YtdoegipkfjndbaaGreatDoor.Ev
set_option linter.unusedVariables false
set_option linter.unusedSimpArgs false
noncomputable section
open Go.RowKit
def saysTrue : Option (Out × Mem × Nat) → Bool
  | some (⟨_, _, .bool (.lit b)⟩, _, _) => b
  | _ => false
theorem Mem.at_e (i o : Nat) : Mem.at .e i o = none := by unfold Mem.at; rw [Tr.get_e]; rfl
theorem R.empty (ρ : Val) (w : World) (h : ρ.J w ∧ ρ.N ≤ w.heap.size) : R ρ Names.none w.heap.size .e w := by
  refine ⟨fun i o v h => ?_, fun i o p h => ?_, fun i o i' o' p p' h => ?_, fun i p h => ?_, fun i o h => ?_, fun i o v b f h => ?_, h.1, h.2, h.2⟩
  · rw [Mem.at_e] at h; cases h
  · rw [Mem.at_e] at h; cases h
  · rw [Mem.at_e] at h; cases h
  · cases h
  · rw [Mem.at_e] at h; cases h
  · rw [Mem.at_e] at h; cases h
/-- a call without arguments that yields true -/
theorem closed_true {P : Program} {g : FuncId} (fuel d : Nat) (h : saysTrue ((evG P Ass.none fuel d (.fn g) []).go .e 0) = true) (w : World) : Calls P g #[] w fun e w' => e = .returned (.bool true) ∧ Below w.heap.size w w' := by
  cases hr : (evG P Ass.none fuel d (.fn g) []).go .e 0 with
  | none => rw [hr] at h; cases h
  | some r =>
    obtain ⟨out, H1, n1⟩ := r
    rw [hr] at h
    obtain ⟨e, t, v⟩ := out
    have hv : v = .bool (.lit true) := by
      cases v <;> simp only [saysTrue, Bool.false_eq_true] at h
      rename_i x
      cases x <;> simp only [saysTrue, reduceCtorEq, Bool.false_eq_true] at h
      rw [h]
    subst hv
    obtain ⟨l, hr⟩ := AM.go_run _ _ _ [] _ _ _ hr
    obtain ⟨_, q⟩ := evG_ok P Ass.none w.heap.size fuel d (.fn g) [] .e 0 [] _ _ _ _ hr
    refine (q (Val.of (fun _ => 0) (fun _ => false)) Names.none [] w (Ass.has_none _) trivial (R.empty _ w ⟨trivial, Nat.zero_le _⟩) (Nat.le_refl _) (fun _ _ _ => rfl)).mono fun e w1 he => ?_
    obtain ⟨x, μ1, rfl, hx, _, _, hb⟩ := he
    simp only [rel, SB.den] at hx
    subst hx
    exact ⟨rfl, hb⟩
end
end Go.Proofs.YtdoegipkfjndbaaGreatDoor.Ev
namespace Go.Proofs.YtdoegipkfjndbaaGreatDoor.Ev
set_option linter.unusedVariables false
set_option linter.unusedSimpArgs false
noncomputable section
open Go.RowKit
/-- contracts: what a function yields, by its arguments; nothing that was there is another then -/
abbrev Orc := FuncId → List AV → Option AV
def noOrc : Orc := fun _ _ => none
def OrcOk (P : Program) (A : Ass) (o : Orc) : Prop :=
  ∀ f args v, o f args = some v → ∀ (ρ : Val) (μ : Names) (xs : List Value) (w : World), (A.has ρ) → ρ.J w → relL ρ μ args xs →
    Calls P f xs.toArray w fun e w1 => ∃ x, e = .returned x ∧ rel ρ μ v x ∧ Below w.heap.size w w1
theorem noOrc_ok (P : Program) (A : Ass) : OrcOk P A noOrc := fun _ _ _ h => by cases h
/-- a contract of one function without arguments, which yields true -/
def trueOrc (g : FuncId) (o : Orc) : Orc := fun f args => bif Nat.beq f g then (match args with | [] => some (.bool (.lit true)) | _ => none) else o f args
theorem trueOrc_ok {P : Program} {A : Ass} {g : FuncId} {o : Orc} (h : ∀ w, Calls P g #[] w fun e w' => e = .returned (.bool true) ∧ Below w.heap.size w w') (ho : OrcOk P A o) : OrcOk P A (trueOrc g o) := by
  intro f args v hv ρ μ xs w hA hJ hr
  unfold trueOrc at hv
  cases hf : Nat.beq f g with
  | false => rw [hf] at hv; exact ho f args v hv ρ μ xs w hA hJ hr
  | true =>
    rw [hf] at hv
    have e : f = g := Nat.eq_of_beq_eq_true hf
    subst e
    cases args with
    | cons a l => cases hv
    | nil =>
      cases hv
      cases xs with
      | cons a l => exact hr.elim
      | nil => exact (h w).mono fun e w1 he => ⟨.bool true, he.1, by simp [rel, SB.den], he.2⟩
/-- a contract of one function, at known numbers: what it yields there -/
def evO (P : Program) (A : Ass) (o : Orc) (fuel : Nat) : Nat → Tg → List AV → AM
  | 0, _, _ => .fail 41
  | d + 1, .fn g, args => match o g args with
    | some v => .ret ⟨.normal, .e, v⟩
    | none => evTg P A fuel (evO P A o fuel d) (evDraw P A (evO P A o fuel d)) (.fn g) args
  | d + 1, .yield lp, args => evTg P A fuel (evO P A o fuel d) (evDraw P A (evO P A o fuel d)) (.yield lp) args
theorem evO_ok (P : Program) (A : Ass) (B : Nat) {o : Orc} (ho : OrcOk P A o) (fuel : Nat) : ∀ d, CallOk P A B (evO P A o fuel d)
  | 0 => fun _ _ _ _ _ _ _ _ _ h => by cases h
  | d + 1 => by
    intro tg args H n acc out H1 n1 l h
    cases tg with
    | yield lp => exact evTg_ok (evO_ok P A B ho fuel d) (evDrawn_ok (evO_ok P A B ho fuel d)) (.yield lp) args H n acc out H1 n1 l h
    | fn g =>
      rw [evO] at h
      cases hv : o g args with
      | none => rw [hv] at h; exact evTg_ok (evO_ok P A B ho fuel d) (evDrawn_ok (evO_ok P A B ho fuel d)) (.fn g) args H n acc out H1 n1 l h
      | some v =>
        rw [hv, AM.run_ret] at h
        obtain ⟨rfl, rfl, rfl, rfl⟩ : (⟨.normal, .e, v⟩ : Out) = out ∧ H = H1 ∧ n = n1 ∧ acc = l := by
          have := Option.some.inj h
          exact ⟨congrArg (·.1) this, congrArg (·.2.1) this, congrArg (·.2.2.1) this, congrArg (·.2.2.2) this⟩
        refine ⟨Nat.le_refl _, fun ρ μ xs w hA hr hR hB hn => ?_⟩
        refine (ho g args v hv ρ μ xs w hA hR.keep.1 hr).mono fun e w1 he => ?_
        obtain ⟨x, rfl, hx, hb⟩ := he
        exact ⟨x, μ, rfl, hx, Step.refl μ n n, hR.keepOld (fun k hk => hb.block k hk) hb.size, hb.mono hB⟩
/-- what a run yields -/
def outV : Option (Out × Mem × Nat) → Option AV
  | some (o, _, _) => some o.v
  | none => none
/-- a call with arguments -/
theorem calls_of {P : Program} {A : Ass} {o : Orc} (ho : OrcOk P A o) {g : FuncId} {args : List AV} {v : AV} (fuel d : Nat) (h : outV ((evO P A o fuel d (.fn g) args).go .e 0) = some v)
    (ρ : Val) (hA : A.has ρ) (xs : List Value) (w : World) (hJ : ρ.J w ∧ ρ.N ≤ w.heap.size) (hr : relL ρ Names.none args xs) :
    Calls P g xs.toArray w fun e w' => ∃ x μ, e = .returned x ∧ rel ρ μ v x ∧ Below w.heap.size w w' := by
  cases hg : (evO P A o fuel d (.fn g) args).go .e 0 with
  | none => rw [hg] at h; cases h
  | some r =>
    obtain ⟨out, H1, n1⟩ := r
    rw [hg] at h
    obtain rfl : out.v = v := Option.some.inj h
    obtain ⟨l, hr'⟩ := AM.go_run _ _ _ [] _ _ _ hg
    obtain ⟨_, q⟩ := evO_ok P A w.heap.size ho fuel d (.fn g) args .e 0 [] _ _ _ _ hr'
    refine (q ρ Names.none xs w hA hr (R.empty _ w hJ) (Nat.le_refl _) (fun _ _ _ => rfl)).mono fun e w1 he => ?_
    obtain ⟨x, μ1, rfl, hx, _, _, hb⟩ := he
    exact ⟨x, μ1, rfl, hx, hb⟩
/-- a call that yields a Bool -/
theorem calls_bool {P : Program} {A : Ass} {o : Orc} (ho : OrcOk P A o) {g : FuncId} {args : List AV} {b : SB} (fuel d : Nat) (h : outV ((evO P A o fuel d (.fn g) args).go .e 0) = some (.bool b))
    (ρ : Val) (hA : A.has ρ) (xs : List Value) (w : World) (hJ : ρ.J w ∧ ρ.N ≤ w.heap.size) (hr : relL ρ Names.none args xs) :
    Calls P g xs.toArray w fun e w' => e = .returned (.bool (b.den ρ)) ∧ Below w.heap.size w w' := by
  refine (calls_of ho fuel d h ρ hA xs w hJ hr).mono fun e w1 he => ?_
  obtain ⟨x, μ, rfl, hx, hb⟩ := he
  simp only [rel] at hx
  exact ⟨by rw [hx], hb⟩
/-- a call without arguments that yields true, with contracts -/
theorem closed_trueO {P : Program} {o : Orc} (ho : OrcOk P Ass.none o) {g : FuncId} (fuel d : Nat) (h : saysTrue ((evO P Ass.none o fuel d (.fn g) []).go .e 0) = true) (w : World) : Calls P g #[] w fun e w' => e = .returned (.bool true) ∧ Below w.heap.size w w' := by
  have hv : outV ((evO P Ass.none o fuel d (.fn g) []).go .e 0) = some (.bool (.lit true)) := by
    cases hr : (evO P Ass.none o fuel d (.fn g) []).go .e 0 with
    | none => rw [hr] at h; cases h
    | some r =>
      obtain ⟨⟨e, t, v⟩, H1, n1⟩ := r
      rw [hr] at h
      cases v <;> simp only [saysTrue, Bool.false_eq_true] at h
      rename_i x
      cases x <;> simp only [saysTrue, reduceCtorEq, Bool.false_eq_true] at h
      rw [h]; rfl
  exact calls_bool ho fuel d hv (Val.of (fun _ => 0) (fun _ => false)) (Ass.has_none _) [] w ⟨trivial, Nat.zero_le _⟩ trivial
/-! ### contracts by a list -/
def all2 (f : AV → AV → Bool) : List AV → List AV → Bool
  | [], [] => true
  | a :: l, b :: m => f a b && all2 f l m
  | _, _ => false
/-- the same value, said in the same way -/
def avEq : Nat → AV → AV → Bool
  | 0, _, _ => false
  | _ + 1, .int k x, .int k' y => decide (k = k') && decide (x = y)
  | _ + 1, .bool x, .bool y => decide (x = y)
  | _ + 1, .str l, .str m => decide (l = m)
  | f + 1, .agg l, .agg m => all2 (avEq f) l m
  | _ + 1, .txt x, .txt y => decide (x = y)
  | _ + 1, .fptr b o, .fptr c p => decide (b = c) && Nat.beq o p
  | _ + 1, .rowF b o n, .rowF c p m => decide (b = c) && Nat.beq o p && Nat.beq n m
  | _ + 1, .sym i, .sym j => Nat.beq i j
  | _ + 1, .nilSlice, .nilSlice => true
  | _ + 1, .nilPtr, .nilPtr => true
  | _ + 1, _, _ => false
theorem all2_eq {f : AV → AV → Bool} (h : ∀ a b, f a b = true → a = b) : ∀ {l m : List AV}, all2 f l m = true → l = m
  | [], [], _ => rfl
  | a :: l, b :: m, e => by
    rw [all2, Bool.and_eq_true] at e
    rw [h a b e.1, all2_eq h e.2]
  | [], _ :: _, e => by cases e
  | _ :: _, [], e => by cases e
theorem avEq_eq : ∀ (f : Nat) (a b : AV), avEq f a b = true → a = b
  | 0, _, _, h => by cases h
  | f + 1, a, b, h => by
    unfold avEq at h
    split at h
    · cases ‹_ = _›
    · rw [Bool.and_eq_true] at h; rw [of_decide_eq_true h.1, of_decide_eq_true h.2]
    · rw [of_decide_eq_true h]
    · rw [of_decide_eq_true h]
    · rename_i f' l m e1
      obtain rfl := Nat.succ.inj e1
      rw [all2_eq (avEq_eq f) h]
    · rw [of_decide_eq_true h]
    · rw [Bool.and_eq_true, Nat.beq_eq] at h; rw [of_decide_eq_true h.1, h.2]
    · rw [Bool.and_eq_true, Bool.and_eq_true, Nat.beq_eq, Nat.beq_eq] at h; rw [of_decide_eq_true h.1.1, h.1.2, h.2]
    · rw [Nat.beq_eq] at h; rw [h]
    · rfl
    · rfl
    · cases h
structure Ent where
  f : FuncId
  args : List AV
  val : AV
def orcL : List Ent → Orc
  | [], _, _ => none
  | e :: l, f, args => bif Nat.beq e.f f && all2 (avEq 4) e.args args then some e.val else orcL l f args
def EntOk (P : Program) (A : Ass) (e : Ent) : Prop :=
  ∀ (ρ : Val) (μ : Names) (xs : List Value) (w : World), (A.has ρ) → ρ.J w → relL ρ μ e.args xs →
    Calls P e.f xs.toArray w fun r w1 => ∃ x, r = .returned x ∧ rel ρ μ e.val x ∧ Below w.heap.size w w1
theorem orcL_ok {P : Program} {A : Ass} : ∀ (l : List Ent), (∀ e ∈ l, EntOk P A e) → OrcOk P A (orcL l)
  | [], _ => fun _ _ _ h => by cases h
  | e :: l, he => by
    intro f args v hv
    rw [orcL] at hv
    cases hb : (Nat.beq e.f f && all2 (avEq 4) e.args args) with
    | false => rw [hb] at hv; exact orcL_ok l (fun e h => he e (List.mem_cons_of_mem _ h)) f args v hv
    | true =>
      rw [hb] at hv
      rw [Bool.and_eq_true] at hb
      obtain rfl := Nat.eq_of_beq_eq_true hb.1
      obtain rfl := all2_eq (avEq_eq 4) hb.2
      cases hv
      exact he e (List.mem_cons_self ..)
/-! ### a call whose way is split by Booleans -/
inductive SpT where
  | leaf (b : SB)
  | node (s : SB) (t f : SpT)
def SpT.sb : SpT → SB
  | .leaf b => b
  | .node s t f => .ite s t.sb f.sb
def SpT.ok (P : Program) (o : Orc) (fuel d : Nat) (g : FuncId) (args : List AV) : Ass → SpT → Prop
  | A, .leaf b => outV ((evO P A o fuel d (.fn g) args).go .e 0) = some (.bool b)
  | A, .node s t f => t.ok P o fuel d g args (A.add (s, true)) ∧ f.ok P o fuel d g args (A.add (s, false))
theorem OrcOk.add {P : Program} {A : Ass} {o : Orc} (h : OrcOk P A o) (q : SB × Bool) : OrcOk P (A.add q) o := fun f args v hv ρ μ xs w h2 hJ => h f args v hv ρ μ xs w h2.of_add hJ
theorem calls_tree {P : Program} {o : Orc} {g : FuncId} {args : List AV} (fuel d : Nat) (ρ : Val) (xs : List Value) (w : World) (hJ : ρ.J w ∧ ρ.N ≤ w.heap.size) (hr : relL ρ Names.none args xs) : ∀ (t : SpT) (A : Ass), OrcOk P A o → (A.has ρ) → t.ok P o fuel d g args A →
    Calls P g xs.toArray w fun e w' => e = .returned (.bool (t.sb.den ρ)) ∧ Below w.heap.size w w'
  | .leaf b, A, ho, hA, h => calls_bool ho fuel d h ρ hA xs w hJ hr
  | .node s t f, A, ho, hA, h => by
    cases hs : s.den ρ with
    | true =>
      have := calls_tree fuel d ρ xs w hJ hr t (A.add (s, true)) (ho.add _) (hA.add hs) h.1
      simpa only [SpT.sb, SB.den, hs, cond_true] using this
    | false =>
      have := calls_tree fuel d ρ xs w hJ hr f (A.add (s, false)) (ho.add _) (hA.add hs) h.2
      simpa only [SpT.sb, SB.den, hs, cond_false] using this
/-! ### contracts at one reading of the numbers -/
def plain : Nat → AV → Bool
  | _, .int .. => true
  | _, .bool _ => true
  | _, .str _ => true
  | f + 1, .agg l => l.all (plain f)
  | _ + 1, .txt _ => true
  | _ + 1, .fptr .. => true
  | _ + 1, .sym _ => true
  | _ + 1, .nilSlice => true
  | _ + 1, .nilPtr => true
  | _, _ => false
theorem relL_fun0 {ρ : Val} {μ ν : Names} {f : Nat} (h : ∀ (a : AV) (x y : Value), plain f a = true → rel ρ μ a x → rel ρ ν a y → x = y) : ∀ (l : List AV) (xs ys : List Value), l.all (plain f) = true → relL ρ μ l xs → relL ρ ν l ys → xs = ys
  | [], [], [], _, _, _ => rfl
  | a :: l, x :: xs, y :: ys, hp, hx, hy => by
    rw [List.all_cons, Bool.and_eq_true] at hp
    rw [h a x y hp.1 hx.1 hy.1, relL_fun0 h l xs ys hp.2 hx.2 hy.2]
theorem rel_fun {ρ : Val} {μ ν : Names} (f : Nat) : ∀ (a : AV) (x y : Value), plain f a = true → rel ρ μ a x → rel ρ ν a y → x = y := by
  induction f with
  | zero =>
    intro a x y hp hx hy
    cases a <;> simp only [plain, Bool.false_eq_true] at hp <;> simp only [rel] at hx hy
    · rw [hx, hy]
    · rw [hx, hy]
    · rw [hx.2, hy.2]
  | succ f ih =>
    intro a x y hp hx hy
    cases a <;> simp only [plain, Bool.false_eq_true] at hp <;> simp only [rel] at hx hy
    · rw [hx, hy]
    · rw [hx, hy]
    · rw [hx.2, hy.2]
    all_goals first
      | (rw [hx, hy]; done)
      | (rw [hx.1, hy.1]; done)
      | (obtain ⟨xs, rfl, hxs⟩ := hx; obtain ⟨ys, rfl, hys⟩ := hy; rw [relL_fun0 ih _ xs ys hp hxs hys])
theorem relL_fun {ρ : Val} {μ ν : Names} (f : Nat) (l : List AV) (xs ys : List Value) (hp : l.all (plain f) = true) (hx : relL ρ μ l xs) (hy : relL ρ ν l ys) : xs = ys := relL_fun0 (rel_fun f) l xs ys hp hx hy
theorem EntOk.ofJ {P : Program} {G : Base → Nat → Option (IntKind × SI)} {l : List (SB × Bool)} {ρ : Val} {e : Ent} (hp : e.args.all (plain 4) = true) (xs : List Value) (hr : relL ρ Names.none e.args xs) {v : Value} (hv : ∀ μ, rel ρ μ e.val v)
    (h : ∀ w, ρ.J w → Calls P e.f xs.toArray w fun r w' => r = .returned v ∧ Below w.heap.size w w') : EntOk P ⟨l, fun σ => σ = ρ, G⟩ e := by
  intro σ μ ys w hA hJ hys
  obtain rfl : σ = ρ := hA.φ
  rw [relL_fun 4 e.args ys xs hp hys hr]
  exact (h w hJ).mono fun r w' ⟨e1, e2⟩ => ⟨v, e1, hv μ, e2⟩
theorem EntOk.of {P : Program} {G : Base → Nat → Option (IntKind × SI)} {l : List (SB × Bool)} {ρ : Val} {e : Ent} (hp : e.args.all (plain 4) = true) (xs : List Value) (hr : relL ρ Names.none e.args xs) {v : Value} (hv : ∀ μ, rel ρ μ e.val v)
    (h : ∀ w, Calls P e.f xs.toArray w fun r w' => r = .returned v ∧ Below w.heap.size w w') : EntOk P ⟨l, fun σ => σ = ρ, G⟩ e := .ofJ hp xs hr hv fun w _ => h w
theorem ents_nil {P : Program} {A : Ass} : ∀ e ∈ ([] : List Ent), EntOk P A e := fun e h => by cases h
theorem ents_cons {P : Program} {A : Ass} {e : Ent} {l : List Ent} (h : EntOk P A e) (hl : ∀ e ∈ l, EntOk P A e) : ∀ x ∈ e :: l, EntOk P A x := fun x hx => by
  rcases List.mem_cons.1 hx with rfl | hx
  · exact h
  · exact hl x hx
/-- a law's call that yields a Boolean which is true, over contracts, at one reading of the numbers -/
theorem law_trueG {G : Base → Nat → Option (IntKind × SI)} {P : Program} {g : FuncId} {args : List AV} {l : List (SB × Bool)} {es : List Ent} {b : SB} (fuel d : Nat) (h : ∀ φ, outV ((evO P ⟨l, φ, G⟩ (orcL es) fuel d (.fn g) args).go .e 0) = some (.bool b))
    (ρ : Val) (hG : GOk G ρ) (hl : ∀ p ∈ l, p.1.den ρ = p.2) (he : ∀ e ∈ es, EntOk P ⟨l, fun σ => σ = ρ, G⟩ e) (hb : b.den ρ = true) (xs : List Value) (w : World) (hJ : ρ.J w ∧ ρ.N ≤ w.heap.size) (hr : relL ρ Names.none args xs) :
    Calls P g xs.toArray w fun e w' => e = .returned (.bool true) ∧ Below w.heap.size w w' := by
  have := calls_bool (orcL_ok es he) fuel d (h _) ρ ⟨hl, rfl, hG⟩ xs w hJ hr
  rw [hb] at this
  exact this
theorem law_true {P : Program} {g : FuncId} {args : List AV} {l : List (SB × Bool)} {es : List Ent} {b : SB} (fuel d : Nat) (h : ∀ φ, outV ((evO P ⟨l, φ, noG⟩ (orcL es) fuel d (.fn g) args).go .e 0) = some (.bool b))
    (ρ : Val) (hl : ∀ p ∈ l, p.1.den ρ = p.2) (he : ∀ e ∈ es, EntOk P ⟨l, fun σ => σ = ρ, noG⟩ e) (hb : b.den ρ = true) (xs : List Value) (w : World) (hJ : ρ.J w ∧ ρ.N ≤ w.heap.size) (hr : relL ρ Names.none args xs) :
    Calls P g xs.toArray w fun e w' => e = .returned (.bool true) ∧ Below w.heap.size w w' := law_trueG fuel d h ρ (noG_ok ρ) hl he hb xs w hJ hr
end
end Go.Proofs.YtdoegipkfjndbaaGreatDoor.Ev
namespace Go.Proofs.YtdoegipkfjndbaaGreatDoor.Ev
set_option linter.unusedVariables false
set_option linter.unusedSimpArgs false
noncomputable section
open Go.RowKit
abbrev Run := Option (Out × Mem × Nat)
def memOf : Run → Mem
  | some (_, H, _) => H
  | none => .e
/-- what a run yields, how many names there are behind it, and what stands at some places -/
def outM (cs : List (Nat × Nat)) : Run → Option (AV × Nat × List (Option AV))
  | some (o, H, n) => some (o.v, n, cs.map fun c => H.atP c.1 c.2)
  | none => none
/-- the world holds a memory; there are no further names -/
structure St (ρ : Val) (μ : Names) (B : Nat) (H : Mem) (n : Nat) (w : World) : Prop where
  r : R ρ μ B H w
  no : ∀ i, n ≤ i → μ.get i = none
  le : B ≤ w.heap.size
theorem St.start (ρ : Val) (w : World) (hJ : ρ.J w ∧ ρ.N ≤ w.heap.size) : St ρ Names.none w.heap.size .e 0 w := ⟨R.empty ρ w hJ, fun _ _ => rfl, Nat.le_refl _⟩
theorem St.next {ρ : Val} {μ : Names} {B : Nat} {H : Mem} {n : Nat} {w w' : World} (h : St ρ μ B H n w) (hb : Below w.heap.size w w') : St ρ μ B H n w' :=
  ⟨h.r.keepOld (fun k hk => hb.block k hk) hb.size, h.no, Nat.le_trans h.le hb.size⟩
theorem calls_mem {P : Program} {A : Ass} {o : Orc} (ho : OrcOk P A o) {g : FuncId} {args : List AV} {H : Mem} {n : Nat} {v : AV} {n1 : Nat} {cs : List (Nat × Nat)} {vs : List (Option AV)} (fuel d : Nat)
    (h : outM cs ((evO P A o fuel d (.fn g) args).go H n) = some (v, n1, vs)) {ρ : Val} {μ : Names} {B : Nat} {w : World} (hS : St ρ μ B H n w) (hA : A.has ρ) (xs : List Value) (hr : relL ρ μ args xs) :
    Calls P g xs.toArray w fun e w' => ∃ x μ1, e = .returned x ∧ rel ρ μ1 v x ∧ μ.le μ1 ∧ St ρ μ1 B (memOf ((evO P A o fuel d (.fn g) args).go H n)) n1 w' ∧
      cs.map (fun c => (memOf ((evO P A o fuel d (.fn g) args).go H n)).at c.1 c.2) = vs ∧ Below B w w' := by
  cases hg : (evO P A o fuel d (.fn g) args).go H n with
  | none => rw [hg] at h; cases h
  | some r =>
    obtain ⟨out, H1, n2⟩ := r
    rw [hg] at h
    have h3 := Option.some.inj h
    obtain rfl : out.v = v := congrArg (·.1) h3
    obtain rfl : n2 = n1 := congrArg (·.2.1) h3
    have hv : cs.map (fun c => H1.atP c.1 c.2) = vs := congrArg (·.2.2) h3
    obtain ⟨l, hr'⟩ := AM.go_run _ _ _ [] _ _ _ hg
    obtain ⟨hle, q⟩ := evO_ok P A B ho fuel d (.fn g) args H n [] _ _ _ _ hr'
    refine (q ρ μ xs w hA hr hS.r hS.le (fun i hi _ => hS.no i hi)).mono fun e w1 he => ?_
    obtain ⟨x, μ1, rfl, hx, hs, hR, hb⟩ := he
    refine ⟨x, μ1, rfl, hx, hs.le, ⟨hR, fun i hi => ?_, Nat.le_trans hS.le hb.size⟩, ?_, hb⟩
    · rw [hs.same i (by omega)]; exact hS.no i (by omega)
    · rw [← hv]; refine List.map_congr_left fun c _ => ?_; exact (Mem.atP_eq _ _ _).symm
/-- one place of the list -/
theorem at_of {H : Mem} {cs : List (Nat × Nat)} {vs : List (Option AV)} (h : cs.map (fun c => H.at c.1 c.2) = vs) (k i o : Nat) (v : AV) (hc : cs[k]? = some (i, o)) (hv : vs[k]? = some (some v)) : H.at i o = some v := by
  rw [← h, List.getElem?_map, hc] at hv
  exact Option.some.inj hv
/-- a cell -/
theorem St.cell {ρ : Val} {μ : Names} {B : Nat} {H : Mem} {n : Nat} {w : World} (h : St ρ μ B H n w) {i o : Nat} {v : AV} (hv : H.at i o = some v) {b f : Nat} (hm : μ i = some (b, f)) :
    ∃ x, B ≤ b ∧ w.cell? ⟨b, f + o, none⟩ = some x ∧ rel ρ μ v x ∧ w.frozen? ⟨b, f + o, none⟩ = false := by
  obtain ⟨x, a, b, c, d, _⟩ := h.r.cell i o v hv hm
  exact ⟨x, a, b, c, d⟩
/-- a map's block -/
theorem St.obj {ρ : Val} {μ : Names} {B : Nat} {H : Mem} {n : Nat} {w : World} (h : St ρ μ B H n w) {i : Nat} {v : AV} (hv : H.at i 0 = some v) {b : Nat} (hm : μ.get i = some (.obj b)) :
    B ≤ b ∧ b < w.heap.size ∧ ∃ ob, w.heap[b]? = some ob ∧ relObj ρ μ v ob := by
  obtain ⟨p, e, c⟩ := h.r.at' i 0 v hv
  rw [hm] at e
  obtain rfl := Option.some.inj e
  refine ⟨?_, h.r.lt i _ hm, ?_⟩
  · rcases c with ⟨b', f, x, e, _⟩ | ⟨b', ob, e, _, hB, _⟩
    · cases e
    · cases e; exact hB
  · rcases c with ⟨b', f, x, e, _⟩ | ⟨b', ob, e, _, _, hh, hr⟩
    · cases e
    · cases e; exact ⟨ob, hh, hr⟩
/-- unlike names lie in unlike blocks -/
theorem St.ne {ρ : Val} {μ : Names} {B : Nat} {H : Mem} {n : Nat} {w : World} (h : St ρ μ B H n w) {i o i' o' : Nat} {v v' : AV} (hv : H.at i o = some v) (hv' : H.at i' o' = some v') {p p' : Place} (hp : μ.get i = some p) (hp' : μ.get i' = some p') (hne : i ≠ i') : p.block ≠ p'.block :=
  fun e => hne (h.r.inj i o i' o' p p' (by rw [hv]; rfl) (by rw [hv']; rfl) hp hp' e)
theorem Names.get_at {μ : Names} {i b f : Nat} (e : μ i = some (b, f)) : μ.get i = some (.cells b f) ∨ ∃ n, μ.get i = some (.row b f n) := by
  obtain ⟨p, hp, ha⟩ := Names.at_get e
  cases p with
  | cells b' f' => cases ha; exact .inl hp
  | row b' f' n' => cases ha; exact .inr ⟨n', hp⟩
  | obj b' => cases ha
end
end Go.Proofs.YtdoegipkfjndbaaGreatDoor.Ev
