/-
  IsaMeans: for every two instructions and every word: an instruction's word is read as it; what a word is read as has that word; unlike instructions have unlike words, and unlike texts. No condition.
-/
import Derived.Test.YtbhnkfhikjhaoaaDoorIWord
import Derived.Test.YtbhnkfhikjhaoaaDoorIText
import Derived.Test.YtbhnkfhikjhaoaaDoorCards
import Derived.Test.YtbhnkfhikjhaoaaDoorTie
import Derived.Deep.DeepHandedRow
import Derived.Lib.LaidTab
import Derived.Stop.LaidErr
namespace Go.Proofs.YtbhnkfhikjhaoaaDoor.isaMeans
open Go.ChangeShapes Go.WideShapes Go.ChangeAt Go.RowKit
open Go.ChangeMaps (open_string shut_string)
set_option linter.unusedVariables false
set_option linter.unusedSimpArgs false
noncomputable section
def insP (n : Nat) : Ev.AV := .agg [.int .i64 (.atom (n + 11)), .bool (.atom n), .bool (.atom (n + 1)), .int .i64 (.atom (n + 3)), .int .i64 (.atom (n + 4)), .int .i64 (.atom (n + 5)), .int .i64 (.atom (n + 6)), .int .i64 (.atom (n + 7)), .int .i64 (.atom (n + 8)), .int .i64 (.atom (n + 9)), .int .i64 (.atom (n + 10))]
def oOdd : List Ev.Ent := [⟨4, [], .bool (.lit true)⟩, ⟨5, [.int .u32 (.atom 50)], .tuple [insP 300, .int .i64 (.lit 4)]⟩]
def oFine : List Ev.Ent := [⟨4, [], .bool (.lit true)⟩, ⟨5, [.int .u32 (.atom 50)], .tuple [insP 300, .int .i64 (.lit 0)]⟩, ⟨7, [insP 300], .tuple [.int .u32 (.atom 50), .int .i64 (.lit 0)]⟩, ⟨8, [insP 300], .bool (.lit true)⟩]
def oNo1 : List Ev.Ent := [⟨8, [insP 100], .bool (.lit false)⟩]
def oNo2 : List Ev.Ent := [⟨8, [insP 100], .bool (.lit true)⟩, ⟨8, [insP 200], .bool (.lit false)⟩]
def oYes : List Ev.Ent := [⟨8, [insP 100], .bool (.lit true)⟩, ⟨8, [insP 200], .bool (.lit true)⟩, ⟨7, [insP 100], .tuple [.int .u32 (.atom 80), .int .i64 (.lit 0)]⟩, ⟨7, [insP 200], .tuple [.int .u32 (.atom 81), .int .i64 (.lit 0)]⟩,
  ⟨9, [insP 100], .tuple [.txt (.atom 0), .int .i64 (.lit 0)]⟩, ⟨9, [insP 200], .tuple [.txt (.atom 1), .int .i64 (.lit 0)]⟩, ⟨5, [.int .u32 (.atom 80)], .tuple [insP 100, .int .i64 (.lit 0)]⟩]
def told : Ev.SB := .ite (.ite (.ite (.cmp .eql (.atom 111) (.atom 111)) (.ite (.beq (.atom 100) (.atom 100)) (.ite (.beq (.atom 101) (.atom 101)) (.ite (.cmp .eql (.atom 103) (.atom 103)) (.ite (.cmp .eql (.atom 104) (.atom 104)) (.ite (.cmp .eql (.atom 105) (.atom 105)) (.ite (.cmp .eql (.atom 106) (.atom 106)) (.ite (.cmp .eql (.atom 107) (.atom 107)) (.ite (.cmp .eql (.atom 108) (.atom 108)) (.ite (.cmp .eql (.atom 109) (.atom 109)) (.cmp .eql (.atom 110) (.atom 110)) (.lit false)) (.lit false)) (.lit false)) (.lit false)) (.lit false)) (.lit false)) (.lit false)) (.lit false)) (.lit false)) (.lit false)) (.beq (.cmp .eql (.atom 80) (.atom 81)) (.ite (.cmp .eql (.atom 111) (.atom 211)) (.ite (.beq (.atom 100) (.atom 200)) (.ite (.beq (.atom 101) (.atom 201)) (.ite (.cmp .eql (.atom 103) (.atom 203)) (.ite (.cmp .eql (.atom 104) (.atom 204)) (.ite (.cmp .eql (.atom 105) (.atom 205)) (.ite (.cmp .eql (.atom 106) (.atom 206)) (.ite (.cmp .eql (.atom 107) (.atom 207)) (.ite (.cmp .eql (.atom 108) (.atom 208)) (.ite (.cmp .eql (.atom 109) (.atom 209)) (.cmp .eql (.atom 110) (.atom 210)) (.lit false)) (.lit false)) (.lit false)) (.lit false)) (.lit false)) (.lit false)) (.lit false)) (.lit false)) (.lit false)) (.lit false))) (.lit false)) (.beq (.seq (.atom 0) (.atom 1)) (.ite (.cmp .eql (.atom 111) (.atom 211)) (.ite (.beq (.atom 100) (.atom 200)) (.ite (.beq (.atom 101) (.atom 201)) (.ite (.cmp .eql (.atom 103) (.atom 203)) (.ite (.cmp .eql (.atom 104) (.atom 204)) (.ite (.cmp .eql (.atom 105) (.atom 205)) (.ite (.cmp .eql (.atom 106) (.atom 206)) (.ite (.cmp .eql (.atom 107) (.atom 207)) (.ite (.cmp .eql (.atom 108) (.atom 208)) (.ite (.cmp .eql (.atom 109) (.atom 209)) (.cmp .eql (.atom 110) (.atom 210)) (.lit false)) (.lit false)) (.lit false)) (.lit false)) (.lit false)) (.lit false)) (.lit false)) (.lit false)) (.lit false)) (.lit false))) (.lit false)
def fFine : List (Ev.SB × Bool) := [(.cmp .neq (.atom 50) (.atom 50), false)]
theorem runOddNo1 (φ : Ev.Val → Prop) : Ev.outV ((Ev.evO Tryd.prog ⟨[], φ, Ev.noG⟩ (Ev.orcL (oOdd ++ oNo1)) 1000 30 (.fn 3) [insP 100, insP 200, .int .u32 (.atom 50)]).go .e 0) = some (.bool (.lit true)) := by kernel_rfl
theorem runOddNo2 (φ : Ev.Val → Prop) : Ev.outV ((Ev.evO Tryd.prog ⟨[], φ, Ev.noG⟩ (Ev.orcL (oOdd ++ oNo2)) 1000 30 (.fn 3) [insP 100, insP 200, .int .u32 (.atom 50)]).go .e 0) = some (.bool (.lit true)) := by kernel_rfl
theorem runOddYes (φ : Ev.Val → Prop) : Ev.outV ((Ev.evO Tryd.prog ⟨[], φ, Ev.noG⟩ (Ev.orcL (oOdd ++ oYes)) 1000 30 (.fn 3) [insP 100, insP 200, .int .u32 (.atom 50)]).go .e 0) = some (.bool told) := by kernel_rfl
theorem runFineNo1 (φ : Ev.Val → Prop) : Ev.outV ((Ev.evO Tryd.prog ⟨fFine, φ, Ev.noG⟩ (Ev.orcL (oFine ++ oNo1)) 1000 30 (.fn 3) [insP 100, insP 200, .int .u32 (.atom 50)]).go .e 0) = some (.bool (.lit true)) := by kernel_rfl
theorem runFineNo2 (φ : Ev.Val → Prop) : Ev.outV ((Ev.evO Tryd.prog ⟨fFine, φ, Ev.noG⟩ (Ev.orcL (oFine ++ oNo2)) 1000 30 (.fn 3) [insP 100, insP 200, .int .u32 (.atom 50)]).go .e 0) = some (.bool (.lit true)) := by kernel_rfl
theorem runFineYes (φ : Ev.Val → Prop) : Ev.outV ((Ev.evO Tryd.prog ⟨fFine, φ, Ev.noG⟩ (Ev.orcL (oFine ++ oYes)) 1000 30 (.fn 3) [insP 100, insP 200, .int .u32 (.atom 50)]).go .e 0) = some (.bool told) := by kernel_rfl
def lawI (I J X : Ins) (x : Int) (k : Nat) : Int := if k = 50 then x else if k = 80 then wdI I else if k = 81 then wdI J else if k < 200 then insI I (k - 100) else if k < 300 then insI J (k - 200) else insI X (k - 300)
def lawB (I J X : Ins) (k : Nat) : Bool := if k < 200 then insB I (k - 100) else if k < 300 then insB J (k - 200) else insB X (k - 300)
def lawS (I J : Ins) (k : Nat) : List UInt8 := (if k = 0 then textI I else textI J).take 1099511627776
theorem lawS_sz (I J : Ins) (k : Nat) : (lawS I J k).length ≤ 1099511627776 := by unfold lawS; rw [List.length_take]; omega
def lawV (I J X : Ins) (x : Int) : Ev.Val := tabValS (lawI I J X x) (lawB I J X) (lawS I J) (lawS_sz I J)
theorem reg_le (n : Int) (h0 : 0 ≤ n) (h1 : n ≤ 15) : (regB n).length ≤ 100 := reg_len n h0 h1
theorem joinB_len : ∀ (l : List (List UInt8)) (k : Nat), (∀ x ∈ l, x.length ≤ k) → (joinB l).length ≤ l.length * (k + 1)
  | [], k, _ => Nat.zero_le _
  | [p], k, h => by have := h p (List.mem_cons_self ..); simp only [joinB, List.length_cons, List.length_nil]; omega
  | p :: q :: r, k, h => by
    have h1 := h p (List.mem_cons_self ..)
    have h2 := joinB_len (q :: r) k fun x hx => h x (List.mem_cons_of_mem _ hx)
    simp only [joinB, List.length_append, List.length_cons] at h2 ⊢
    have e : (r.length + 1 + 1) * (k + 1) = (r.length + 1) * (k + 1) + (k + 1) := Nat.succ_mul _ _
    omega
theorem textI_len (I : Ins) (m : MayIs I) : (textI I).length ≤ 1099511627776 := by
  have hop := (op_len I.op m.o0 m.o1).1
  have hcd := cd_len I.cond m.k0 m.k1
  have hra := reg_len I.a m.a0 m.a1
  have hrb := reg_len I.b m.b0 m.b1
  have hrc := reg_len I.c m.c0 m.c1
  have hw := wrap32_bd (valI I.u I.v I.op I.im)
  have w1 := itoa_len (wrap32 (valI I.u I.v I.op I.im)) (by omega) (by omega)
  have w2 := itoa_len I.off m.wf.off.1 m.wf.off.2
  have w3 := itoa_len I.im m.wf.im.1 m.wf.im.2
  have w4 := itoa_len I.n m.wf.n.1 m.wf.n.2
  have hl : (lastB I).length ≤ 100 := by unfold lastB; split <;> omega
  have h : (partsI I).length ≤ 4 ∧ ∀ x ∈ partsI I, x.length ≤ 1000 := by
    have h3 : ∀ x y z : List UInt8, x.length ≤ 1000 → y.length ≤ 1000 → z.length ≤ 1000 → [x, y, z].length ≤ 4 ∧ ∀ u ∈ [x, y, z], u.length ≤ 1000 := fun x y z hx hy hz => ⟨by simp, fun u hu => by
      simp only [List.mem_cons, List.not_mem_nil, or_false] at hu
      rcases hu with rfl | rfl | rfl <;> assumption⟩
    have h4 : ∀ x y z t : List UInt8, x.length ≤ 1000 → y.length ≤ 1000 → z.length ≤ 1000 → t.length ≤ 1000 → [x, y, z, t].length ≤ 4 ∧ ∀ u ∈ [x, y, z, t], u.length ≤ 1000 := fun x y z t hx hy hz ht => ⟨by simp, fun u hu => by
      simp only [List.mem_cons, List.not_mem_nil, or_false] at hu
      rcases hu with rfl | rfl | rfl | rfl <;> assumption⟩
    unfold partsI
    split
    · split
      · split
        · split
          · exact h3 _ _ _ (by omega) (by omega) (by split <;> decide)
          · exact h3 _ _ _ (by rw [List.length_append]; simp only [List.length_cons, List.length_nil]; omega) (by omega) (by omega)
        · exact h3 _ _ _ (by omega) (by omega) (by omega)
      · exact h4 _ _ _ _ (by rw [List.length_append]; split <;> simp only [List.length_cons, List.length_nil] <;> omega) (by omega) (by omega) (by omega)
    · split
      · exact h4 _ _ _ _ (by rw [List.length_append]; split <;> split <;> decide) (by omega) (by omega) (by omega)
      · split
        · exact h3 _ _ _ (by split <;> decide) (by omega) (by omega)
        · split
          · exact h3 _ _ _ (by split <;> decide) (by omega) (by omega)
          · exact h3 _ _ _ (by split <;> decide) (by omega) (by omega)
  have e := joinB_len (partsI I) 1000 h.2
  unfold textI
  have := Nat.mul_le_mul_right 1001 h.1
  omega
section
variable {I J X : Ins} {x : Int}
theorem i_rel (μ : Ev.Names) : Ev.rel (lawV I J X x) μ (insP 100) (.agg (insCells I)) := ⟨(insCells I).toList, by simp, rfl, rfl, rfl, rfl, rfl, rfl, rfl, rfl, rfl, rfl, rfl, trivial⟩
theorem j_rel (μ : Ev.Names) : Ev.rel (lawV I J X x) μ (insP 200) (.agg (insCells J)) := ⟨(insCells J).toList, by simp, rfl, rfl, rfl, rfl, rfl, rfl, rfl, rfl, rfl, rfl, rfl, trivial⟩
theorem x_rel (μ : Ev.Names) : Ev.rel (lawV I J X x) μ (insP 300) (.agg (insCells X)) := ⟨(insCells X).toList, by simp, rfl, rfl, rfl, rfl, rfl, rfl, rfl, rfl, rfl, rfl, rfl, trivial⟩
theorem ents_app {A : Ev.Ass} {l m : List Ev.Ent} (h : ∀ e ∈ l, Ev.EntOk Tryd.prog A e) (g : ∀ e ∈ m, Ev.EntOk Tryd.prog A e) : ∀ e ∈ l ++ m, Ev.EntOk Tryd.prog A e := fun e he => (List.mem_append.1 he).elim (h e) (g e)
theorem oOdd_ok {l : List (Ev.SB × Bool)} (h : ∀ W, Calls Tryd.prog 5 #[.int .u32 x] W fun e w' => e = .returned (.tuple #[.agg (insCells X), .int .i64 4]) ∧ Below W.heap.size W w') : ∀ e ∈ oOdd, Ev.EntOk Tryd.prog ⟨l, fun σ => σ = lawV I J X x, Ev.noG⟩ e :=
  Ev.ents_cons (Ev.EntOk.ofJ rfl [] trivial (v := .bool true) (fun _ => rfl) fun w hJ => known3_any w hJ)
  (Ev.ents_cons (Ev.EntOk.of rfl [.int .u32 x] ⟨rfl, trivial⟩ (v := .tuple #[.agg (insCells X), .int .i64 4]) (fun μ => ⟨[_, _], rfl, x_rel μ, rfl, trivial⟩) fun W => h W) Ev.ents_nil)
theorem oFine_ok {l : List (Ev.SB × Bool)} (hX : MayIs X) (hx : wdI X = x) (h : ∀ W, Calls Tryd.prog 5 #[.int .u32 x] W fun e w' => e = .returned (.tuple #[.agg (insCells X), .int .i64 0]) ∧ Below W.heap.size W w') : ∀ e ∈ oFine, Ev.EntOk Tryd.prog ⟨l, fun σ => σ = lawV I J X x, Ev.noG⟩ e :=
  Ev.ents_cons (Ev.EntOk.ofJ rfl [] trivial (v := .bool true) (fun _ => rfl) fun w hJ => known3_any w hJ)
  (Ev.ents_cons (Ev.EntOk.of rfl [.int .u32 x] ⟨rfl, trivial⟩ (v := .tuple #[.agg (insCells X), .int .i64 0]) (fun μ => ⟨[_, _], rfl, x_rel μ, rfl, trivial⟩) fun W => h W)
  (Ev.ents_cons (Ev.EntOk.of rfl [.agg (insCells X)] ⟨x_rel _, trivial⟩ (v := .tuple #[.int .u32 x, .int .i64 0]) (fun μ => ⟨[_, _], rfl, rfl, rfl, trivial⟩) fun W => by have := word_any X hX W; rwa [hx] at this)
  (Ev.ents_cons (Ev.EntOk.of rfl [.agg (insCells X)] ⟨x_rel _, trivial⟩ (v := .bool true) (fun _ => rfl) fun W => may_yes X hX.wf hX W) Ev.ents_nil)))
theorem may_no (I : Ins) (hw : InsWf I) (m : ¬ MayIs I) (w : World) : Calls Tryd.prog 8 #[.agg (insCells I)] w fun e w' => e = .returned (.bool false) ∧ Below w.heap.size w w' := by
  obtain ⟨b, hb, h⟩ := may_any I hw
  cases b with
  | true => exact absurd (hb.1 rfl) m
  | false => exact h w
theorem oNo1_ok {l : List (Ev.SB × Bool)} (hw : InsWf I) (m : ¬ MayIs I) : ∀ e ∈ oNo1, Ev.EntOk Tryd.prog ⟨l, fun σ => σ = lawV I J X x, Ev.noG⟩ e :=
  Ev.ents_cons (Ev.EntOk.of rfl [.agg (insCells I)] ⟨i_rel _, trivial⟩ (v := .bool false) (fun _ => rfl) fun W => may_no I hw m W) Ev.ents_nil
theorem oNo2_ok {l : List (Ev.SB × Bool)} (m : MayIs I) (hw : InsWf J) (mj : ¬ MayIs J) : ∀ e ∈ oNo2, Ev.EntOk Tryd.prog ⟨l, fun σ => σ = lawV I J X x, Ev.noG⟩ e :=
  Ev.ents_cons (Ev.EntOk.of rfl [.agg (insCells I)] ⟨i_rel _, trivial⟩ (v := .bool true) (fun _ => rfl) fun W => may_yes I m.wf m W)
  (Ev.ents_cons (Ev.EntOk.of rfl [.agg (insCells J)] ⟨j_rel _, trivial⟩ (v := .bool false) (fun _ => rfl) fun W => may_no J hw mj W) Ev.ents_nil)
theorem lawS0 (m : MayIs I) : lawS I J 0 = textI I := List.take_of_length_le (textI_len I m)
theorem lawS1 (m : MayIs J) : lawS I J 1 = textI J := List.take_of_length_le (textI_len J m)
theorem oYes_ok {l : List (Ev.SB × Bool)} (m : MayIs I) (mj : MayIs J) : ∀ e ∈ oYes, Ev.EntOk Tryd.prog ⟨l, fun σ => σ = lawV I J X x, Ev.noG⟩ e :=
  Ev.ents_cons (Ev.EntOk.of rfl [.agg (insCells I)] ⟨i_rel _, trivial⟩ (v := .bool true) (fun _ => rfl) fun W => may_yes I m.wf m W)
  (Ev.ents_cons (Ev.EntOk.of rfl [.agg (insCells J)] ⟨j_rel _, trivial⟩ (v := .bool true) (fun _ => rfl) fun W => may_yes J mj.wf mj W)
  (Ev.ents_cons (Ev.EntOk.of rfl [.agg (insCells I)] ⟨i_rel _, trivial⟩ (v := .tuple #[.int .u32 (wdI I), .int .i64 0]) (fun μ => ⟨[_, _], rfl, rfl, rfl, trivial⟩) fun W => word_any I m W)
  (Ev.ents_cons (Ev.EntOk.of rfl [.agg (insCells J)] ⟨j_rel _, trivial⟩ (v := .tuple #[.int .u32 (wdI J), .int .i64 0]) (fun μ => ⟨[_, _], rfl, rfl, rfl, trivial⟩) fun W => word_any J mj W)
  (Ev.ents_cons (Ev.EntOk.ofJ rfl [.agg (insCells I)] ⟨i_rel _, trivial⟩ (v := .tuple #[.string (S (lawS I J 0)), .int .i64 0]) (fun μ => ⟨[_, _], rfl, rfl, rfl, trivial⟩) fun W hT => by rw [lawS0 m]; exact text_any I m W hT)
  (Ev.ents_cons (Ev.EntOk.ofJ rfl [.agg (insCells J)] ⟨j_rel _, trivial⟩ (v := .tuple #[.string (S (lawS I J 1)), .int .i64 0]) (fun μ => ⟨[_, _], rfl, rfl, rfl, trivial⟩) fun W hT => by rw [lawS1 mj]; exact text_any J mj W hT)
  (Ev.ents_cons (Ev.EntOk.of rfl [.int .u32 (wdI I)] ⟨rfl, trivial⟩ (v := .tuple #[.agg (insCells I), .int .i64 0]) (fun μ => ⟨[_, _], rfl, i_rel μ, rfl, trivial⟩) fun W => of_fine (wdI I) I (wdI_bd I m).1 (wdI_bd I m).2 (dec_wdI I m) W) Ev.ents_nil))))))
theorem told_ok (m : MayIs I) (mj : MayIs J) : told.den (lawV I J X x) = true := by
  have hs0 : (lawV I J X x).s 0 = textI I := lawS0 m
  have hs1 : (lawV I J X x).s 1 = textI J := lawS1 mj
  by_cases h : I = J
  · subst h
    simp [told, Ev.SB.den, Ev.SI.den, Ev.ST.den, Ev.cmpI, hs0, hs1, lawV, tabValS, lawI, lawB]
    rw [lawS0 m, lawS1 mj]
  · have hw : ¬ wdI I = wdI J := fun e => h (by have := dec_wdI I m; rw [e, dec_wdI J mj] at this; exact (Prod.mk.inj this).1.symm)
    have ht : ¬ textI I = textI J := fun e => h (text_inj I J m mj e)
    have hne : ¬ (I.form = J.form ∧ I.u = J.u ∧ I.v = J.v ∧ I.a = J.a ∧ I.b = J.b ∧ I.c = J.c ∧ I.op = J.op ∧ I.im = J.im ∧ I.off = J.off ∧ I.cond = J.cond ∧ I.n = J.n) := fun ⟨e0, e1, e2, e3, e4, e5, e6, e7, e8, e9, e10⟩ => h (by cases I; cases J; simp_all)
    simp [told, Ev.SB.den, Ev.SI.den, Ev.ST.den, Ev.cmpI, hs0, hs1, lawV, tabValS, lawI, lawB, insI, insB]
    obtain ⟨b, hb⟩ : ∃ b, (I.form == J.form && (I.u == J.u && (I.v == J.v && (I.a == J.a && (I.b == J.b && (I.c == J.c && (I.op == J.op && (I.im == J.im && (I.off == J.off && (I.cond == J.cond && I.n == J.n)))))))))) = b := ⟨_, rfl⟩
    rw [hb, lawS0 m, lawS1 mj]
    cases b with
    | true => exact absurd (by simpa using hb) hne
    | false => exact ⟨by simpa using hw, by simpa using ht⟩
end
theorem walk (a0 : Ins) (a1 : Ins) (a2 : Int) (w : World) (w0 : InsWf a0) (w1 : InsWf a1) (w2 : (Lit.int .u32 a2).wf = true) (hT : Tab w) :
    Calls Tryd.prog 3 #[.agg (insCells a0), .agg (insCells a1), .int .u32 a2] w fun e w' => e = .returned (.bool true) ∧ Below w.heap.size w w' := by
  obtain ⟨x0, x1⟩ := bd_u32 w2
  have hr : ∀ X, Ev.relL (lawV a0 a1 X a2) Ev.Names.none [insP 100, insP 200, .int .u32 (.atom 50)] [.agg (insCells a0), .agg (insCells a1), .int .u32 a2] := fun X => ⟨i_rel _, j_rel _, rfl, trivial⟩
  have hF : ∀ X, ∀ p ∈ fFine, p.1.den (lawV a0 a1 X a2) = p.2 := fun X p hp => by
    rcases List.mem_singleton.1 hp with rfl
    simp [Ev.SB.den, Ev.cmpI]
  have nil : ∀ X, ∀ p ∈ ([] : List (Ev.SB × Bool)), p.1.den (lawV a0 a1 X a2) = p.2 := fun X p hp => by cases hp
  cases hd : (dec a2).2 with
  | true =>
    have hO : ∀ W, Calls Tryd.prog 5 #[.int .u32 a2] W fun e w' => e = .returned (.tuple #[.agg (insCells ins0), .int .i64 4]) ∧ Below W.heap.size W w' := fun W => of_odd a2 x0 x1 hd W
    by_cases m : MayIs a0
    · by_cases mj : MayIs a1
      · exact Ev.law_true 1000 30 runOddYes (lawV a0 a1 ins0 a2) (nil _) (ents_app (oOdd_ok hO) (oYes_ok m mj)) (told_ok m mj) _ w (tab_baseS hT _ _ _ _) (hr _)
      · exact Ev.law_true 1000 30 runOddNo2 (lawV a0 a1 ins0 a2) (nil _) (ents_app (oOdd_ok hO) (oNo2_ok m w1 mj)) rfl _ w (tab_baseS hT _ _ _ _) (hr _)
    · exact Ev.law_true 1000 30 runOddNo1 (lawV a0 a1 ins0 a2) (nil _) (ents_app (oOdd_ok hO) (oNo1_ok w0 m)) rfl _ w (tab_baseS hT _ _ _ _) (hr _)
  | false =>
    obtain ⟨mX, hX⟩ := dec_may a2 x0 x1 hd
    have hO : ∀ W, Calls Tryd.prog 5 #[.int .u32 a2] W fun e w' => e = .returned (.tuple #[.agg (insCells (dec a2).1), .int .i64 0]) ∧ Below W.heap.size W w' := fun W => of_fine a2 (dec a2).1 x0 x1 (Prod.ext rfl hd) W
    by_cases m : MayIs a0
    · by_cases mj : MayIs a1
      · exact Ev.law_true 1000 30 runFineYes (lawV a0 a1 (dec a2).1 a2) (hF _) (ents_app (oFine_ok mX hX hO) (oYes_ok m mj)) (told_ok m mj) _ w (tab_baseS hT _ _ _ _) (hr _)
      · exact Ev.law_true 1000 30 runFineNo2 (lawV a0 a1 (dec a2).1 a2) (hF _) (ents_app (oFine_ok mX hX hO) (oNo2_ok m w1 mj)) rfl _ w (tab_baseS hT _ _ _ _) (hr _)
    · exact Ev.law_true 1000 30 runFineNo1 (lawV a0 a1 (dec a2).1 a2) (hF _) (ents_app (oFine_ok mX hX hO) (oNo1_ok w0 m)) rfl _ w (tab_baseS hT _ _ _ _) (hr _)
end
theorem own : ownKnob Tryd.prog.godebug = none := by kernel_rfl
theorem laidOut : laidOutB Tryd.prog = true := by kernel_rfl
theorem gTab0 : Tryd.prog.globalNamed "math/bits.deBruijn32tab" = some 1 := by kernel_rfl
theorem gTab1 : Tryd.prog.globalNamed "math/bits.deBruijn64tab" = some 2 := by kernel_rfl
theorem gTab2 : Tryd.prog.globalNamed "internal/strconv.uint64pow10" = some 0 := by kernel_rfl
theorem tables {W : World} (h0 : laidMetH Tryd.prog Rows.isaMeansRow.laid W) : Tab W := by
  have h : laidMet Tryd.prog Rows.isaMeansRow.laid W := h0
  exact Lib.tabIs_of_head (rest := _) gTab2 (by kernel_rfl) Tryd.underlying60 Tryd.underlying54 (by kernel_rfl) (by kernel_rfl) (laidMet.tail (laidMet.tail h))
def lay (l : Array Value) : Obj → Obj
  | .cells _ t frozen => .cells l t frozen
  | o => o
noncomputable def laidWorld (os : Os) : World := { World.holding Tryd.prog os ⟨#[], #[], []⟩ with heap := ((((World.holding Tryd.prog os ⟨#[], #[], []⟩).heap.modify 1 (lay #[.int .u8 0, .int .u8 1, .int .u8 28, .int .u8 2, .int .u8 29, .int .u8 14, .int .u8 24, .int .u8 3, .int .u8 30, .int .u8 22, .int .u8 20, .int .u8 15, .int .u8 25, .int .u8 17, .int .u8 4, .int .u8 8, .int .u8 31, .int .u8 27, .int .u8 13, .int .u8 23, .int .u8 21, .int .u8 19, .int .u8 16, .int .u8 7, .int .u8 26, .int .u8 12, .int .u8 18, .int .u8 6, .int .u8 11, .int .u8 5, .int .u8 10, .int .u8 9])).modify 2 (lay #[.int .u8 0, .int .u8 1, .int .u8 56, .int .u8 2, .int .u8 57, .int .u8 49, .int .u8 28, .int .u8 3, .int .u8 61, .int .u8 58, .int .u8 42, .int .u8 50, .int .u8 38, .int .u8 29, .int .u8 17, .int .u8 4, .int .u8 62, .int .u8 47, .int .u8 59, .int .u8 36, .int .u8 45, .int .u8 43, .int .u8 51, .int .u8 22, .int .u8 53, .int .u8 39, .int .u8 33, .int .u8 30, .int .u8 24, .int .u8 18, .int .u8 12, .int .u8 5, .int .u8 63, .int .u8 55, .int .u8 48, .int .u8 27, .int .u8 60, .int .u8 41, .int .u8 37, .int .u8 16, .int .u8 46, .int .u8 35, .int .u8 44, .int .u8 21, .int .u8 52, .int .u8 32, .int .u8 23, .int .u8 11, .int .u8 54, .int .u8 26, .int .u8 40, .int .u8 15, .int .u8 34, .int .u8 20, .int .u8 31, .int .u8 10, .int .u8 25, .int .u8 14, .int .u8 19, .int .u8 9, .int .u8 13, .int .u8 8, .int .u8 7, .int .u8 6])).modify 0 (lay #[.int .u64 1, .int .u64 10, .int .u64 100, .int .u64 1000, .int .u64 10000, .int .u64 100000, .int .u64 1000000, .int .u64 10000000, .int .u64 100000000, .int .u64 1000000000, .int .u64 10000000000, .int .u64 100000000000, .int .u64 1000000000000, .int .u64 10000000000000, .int .u64 100000000000000, .int .u64 1000000000000000, .int .u64 10000000000000000, .int .u64 100000000000000000, .int .u64 1000000000000000000, .int .u64 10000000000000000000])) }
theorem laid_met (os : Os) : laidMet Tryd.prog Rows.isaMeansRow.laid ((laidWorld os).forCall (fun _ _ => 0) ⟨#[], #[.agg #[.int .i64 0, .bool false, .bool false, .int .i64 0, .int .i64 0, .int .i64 0, .int .i64 0, .int .i64 0, .int .i64 0, .int .i64 0, .int .i64 0], .agg #[.int .i64 0, .bool false, .bool false, .int .i64 0, .int .i64 0, .int .i64 0, .int .i64 0, .int .i64 0, .int .i64 0, .int .i64 0, .int .i64 0], .int .u32 0], []⟩).memory := laidMet_of_run' 8 (by kernel_rfl) (by kernel_rfl)
theorem reads (os : Os) {H : Type} (enc : TypeId × Value → H) : ∃ places, DataW.whole enc Tryd.prog ((laidWorld os).forCall (fun _ _ => 0) ⟨#[], #[.agg #[.int .i64 0, .bool false, .bool false, .int .i64 0, .int .i64 0, .int .i64 0, .int .i64 0, .int .i64 0, .int .i64 0, .int .i64 0, .int .i64 0], .agg #[.int .i64 0, .bool false, .bool false, .int .i64 0, .int .i64 0, .int .i64 0, .int .i64 0, .int .i64 0, .int .i64 0, .int .i64 0, .int .i64 0], .int .u32 0], []⟩).memory Tryd.f3.params.toList Rows.isaMeansSpec.vars false (#[.agg #[.int .i64 0, .bool false, .bool false, .int .i64 0, .int .i64 0, .int .i64 0, .int .i64 0, .int .i64 0, .int .i64 0, .int .i64 0, .int .i64 0], .agg #[.int .i64 0, .bool false, .bool false, .int .i64 0, .int .i64 0, .int .i64 0, .int .i64 0, .int .i64 0, .int .i64 0, .int .i64 0, .int .i64 0], .int .u32 0] : Array Value).toList 8 = some ([.agg [.lit (.int .i64 0), .lit (.bool false), .lit (.bool false), .lit (.int .i64 0), .lit (.int .i64 0), .lit (.int .i64 0), .lit (.int .i64 0), .lit (.int .i64 0), .lit (.int .i64 0), .lit (.int .i64 0), .lit (.int .i64 0)], .agg [.lit (.int .i64 0), .lit (.bool false), .lit (.bool false), .lit (.int .i64 0), .lit (.int .i64 0), .lit (.int .i64 0), .lit (.int .i64 0), .lit (.int .i64 0), .lit (.int .i64 0), .lit (.int .i64 0), .lit (.int .i64 0)], .lit (.int .u32 0)], [], places) := ⟨[], by kernel_rfl⟩
set_option maxRecDepth 1000000 in
theorem contract (H : Type) (enc : TypeId × Value → H) (W : World) (base : Nat) (args : Array Value) (ds gs : List (DataW H)) (before : List MemPlace)
    (hval : ∀ (j : Nat) t v, Tryd.f3.params[j]? = some t → args[j]? = some v → Value.okWide Tryd.prog W .any base t v)
    (hW : DataW.Whole enc Tryd.prog Tryd.f3.params.toList Rows.isaMeansSpec.vars false W args.toList ds gs before) (hL : laidMetH Tryd.prog Rows.isaMeansRow.laid W) :
    Calls Tryd.prog 3 args W fun e W' => ∃ v, e = .returned v ∧ Rows.isaMeansSpec.post enc Tryd.prog Tryd.f3 false true false false W args v W' := by
  have hW' := hW
  obtain ⟨p, q, hA0, hV, rfl, hfz, hnd⟩ := hW
  have hA : DataW.TrodAll enc Tryd.prog W 0 (fun _ => true) true Tryd.f3.params.toList args.toList ds p := hA0
  rw [Tryd.params3] at hA hval
  obtain ⟨v0, vs0, d0, ds0, p0, q0, hargs, rfl, rfl, h0, r0⟩ := trodAll_cons hA
  obtain ⟨v1, vs1, d1, ds1, p1, q1, rfl, rfl, rfl, h1, r1⟩ := trodAll_cons r0
  obtain ⟨v2, vs2, d2, ds2, p2, q2, rfl, rfl, rfl, h2, r2⟩ := trodAll_cons r1
  obtain ⟨rfl, rfl, rfl⟩ := trodAll_nil r2
  obtain rfl : args = #[v0, v1, v2] := by cases args; simp_all
  obtain ⟨rfl, rfl⟩ := trodVars_none hV
  obtain ⟨a0, rfl, w0⟩ := open_ins (hval 0 24 v0 rfl rfl)
  have k0 := h0
  have lt0 : ∀ x ∈ p0, x.block < W.heap.size := by obtain ⟨m, hm⟩ := k0; exact DataW.trod_lt m _ _ _ hm
  obtain ⟨a1, rfl, w1⟩ := open_ins (hval 1 24 v1 rfl rfl)
  have k1 := h1
  have lt1 : ∀ x ∈ p1, x.block < W.heap.size := by obtain ⟨m, hm⟩ := k1; exact DataW.trod_lt m _ _ _ hm
  obtain ⟨a2, rfl, rfl, rfl, w2⟩ := open_int Tryd.underlying25 (hval 2 25 v2 rfl rfl) h2
  clear hA0
  have hT := tables hL
  refine (walk a0 a1 a2 W w0 w1 w2 hT).mono fun e W' ⟨he, bel⟩ => ?_
  subst he
  exact ⟨_, rfl, _, _, _, [], _, [], hW', trodAll_mk1 (shut_bool Tryd.underlying4 _), (trodAll_cons_mk (Below.trod laidOut (by kernel_rfl) (of_decide_eq_true (by kernel_rfl)) k0 bel lt0) (trodAll_cons_mk (Below.trod laidOut (by kernel_rfl) (of_decide_eq_true (by kernel_rfl)) k1 bel lt1) (trodAll_cons_mk (shut_int Tryd.underlying25 w2) trodAll_mk0))), rfl, bel.frame _, fun h => by cases h⟩
set_option maxRecDepth 100000 in
theorem lifted (os : Os) (started : os.Started) (H : Type) (enc : TypeId × Value → H) (F : Stop.Interp) :
    ReturnsInHanded {} Tryd.checked os 3 .any ((OpenSpec.ofChange Rows.isaMeansSpec).preRow enc Tryd.prog Tryd.f3 Rows.isaMeansRow.domain false Rows.isaMeansRow.laid) (((OpenSpec.ofChange Rows.isaMeansSpec).at F).post enc Tryd.prog Tryd.f3 false true false false) := by
  obtain ⟨places, hx⟩ := reads os enc
  refine returnsInHanded_of_row (C := Tryd.checked) (s := OpenSpec.ofChange Rows.isaMeansSpec) own started (by kernel_rfl) Tryd.func3
    (witness_row_at (enc := enc) (C := Tryd.checked) false (laidWorld os) #[.agg #[.int .i64 0, .bool false, .bool false, .int .i64 0, .int .i64 0, .int .i64 0, .int .i64 0, .int .i64 0, .int .i64 0, .int .i64 0, .int .i64 0], .agg #[.int .i64 0, .bool false, .bool false, .int .i64 0, .int .i64 0, .int .i64 0, .int .i64 0, .int .i64 0, .int .i64 0, .int .i64 0, .int .i64 0], .int .u32 0] rfl (by kernel_rfl) (by kernel_rfl) (by kernel_rfl)
      (OpenSpec.preRow_of_cond 8 hx (by kernel_rfl) (fun k hk => by cases hk) (by kernel_rfl) (laid_met os))) ?_
  intro W base args ds gs before hval hW _ _ _ hL _ _
  exact contract H enc W base args ds gs before hval hW hL
theorem said : Rows.IsaMeansSaid :=
  OpenClaim.holds_of_cond 3 Tryd.f3 rfl rfl rfl rfl rfl rfl rfl ⟨rfl, rfl, rfl, rfl, rfl⟩ rfl rfl rfl rfl rfl (by kernel_rfl) Tryd.func3 (by kernel_rfl)
    (of_decide_eq_true (by kernel_rfl)) (by unfold Func.isWrapper; first | (rw [if_pos (by decide +kernel)]; kernel_rfl) | (rw [if_neg (by decide +kernel)]; exact ⟨rfl, rfl⟩))
    (fun os started H enc _ F => by rw [OpenClaim.pre_eq_preRow]; exact lifted os started H enc F)
theorem plain (f : FuncId) (fn : Func) (hf : Tryd.pinned.checked.prog.funcNamed "selfsame/selfsamelaw03.IsaMeans" = some f) (hfn : Tryd.pinned.checked.prog.funcs[f]? = some fn) :
    false = Tryd.pinned.checked.prog.looks [] ∧ ∀ (j : Nat) t, fn.params[j]? = some t → Tryd.pinned.checked.prog.wantsStandIn t = false := by
  obtain rfl : f = 3 := Option.some.inj ((show Tryd.prog.funcNamed "selfsame/selfsamelaw03.IsaMeans" = some 3 by kernel_rfl).symm.trans hf) |>.symm
  obtain rfl : fn = Tryd.f3 := (Option.some.inj (Tryd.func3.symm.trans hfn)).symm
  refine ⟨by kernel_rfl, fun j t ht => ?_⟩
  rw [Tryd.params3] at ht
  have hm := Array.mem_of_getElem? ht
  simp only [List.mem_toArray, List.mem_cons, List.not_mem_nil, or_false] at hm
  rcases hm with rfl | rfl | rfl
  · exact (show Tryd.prog.wantsStandIn 24 = false by kernel_rfl)
  · exact (show Tryd.prog.wantsStandIn 24 = false by kernel_rfl)
  · exact (show Tryd.prog.wantsStandIn 25 = false by kernel_rfl)
theorem proved : Rows.IsaMeansCardSaid :=
  Claim7.holds_tied_plain_at .later [] _ _ _ _ said (fun _ h => by cases h) (by kernel_rfl) (fun _ h => by cases h) isaMeans_row_tie rfl ⟨rfl, rfl⟩ (by kernel_rfl) rfl plain (by kernel_rfl)
end Go.Proofs.YtbhnkfhikjhaoaaDoor.isaMeans
