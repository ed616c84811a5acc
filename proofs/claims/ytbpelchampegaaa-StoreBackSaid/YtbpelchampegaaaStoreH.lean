/-
  The directory: find, Get, unlist, Put, Delete; Clone of bytes; names.
-/
import Derived.Test.YtbpelchampegaaaStoreG
import Derived.StringKeys
namespace Go.Proofs.Ytbpelchampegaaa
open Go.ChangeShapes Go.WideShapes Go.ChangeAt Go.RowKit
set_option linter.unusedVariables false
theorem zeroF (w : World) : (zeroValue 55).run Try.prog w = .ok (.pointer none) w := by kernel_rfl
theorem keyedS : Maps.Keyed Try.prog 9 := Maps.string_keyed Try.underlying9
theorem keyS {nm : ByteArray} (h : nm.size ≤ maxLen) : keyOf Try.prog 9 (.string nm) = some (.string nm.data.toList) := by
  exact Go.WideMaps.keyOf_string_mk Try.underlying9 h
/-- a call of a Go function, at a step of a region that draws -/
theorem step_callS {P : Program} {ops : Array Oper} {o : Oper} {a : Act} {w : World} {K : Act → World → Prop} {Q : Exit → Act → World → Prop} {E : Prop} (hgd : o.guard = none) (f : Nat) (args : Array Operand) (ts : Array TypeId)
    (ho : o.op = .call { callee := .value (.func f), args := args, argTypes := ts }) (vals : Array Value) (hv : args.toList.map a.eval = vals.toList) (hf : Sem.run P (callFunc f vals) w = Result.ok (Next.enter f vals) w) {R : Ending → World → Prop} (hc : Calls P f vals w R)
    (h : ∀ e w', R e w' → ∃ v, e = .returned v ∧ K (a.put o.dst v) w') : if Region.wanted o (yielded ops a.tmps) = true then Oper.wp P o a w K Q else E := by
  have hw : Region.wanted o (yielded ops a.tmps) = true := by simp [Region.wanted, hgd]
  rw [if_pos hw]
  have hv : args.map a.eval = vals := by rw [← Array.toList_inj, Array.toList_map]; exact hv
  subst hv
  have hr : (execOp a.eval o).run P w = .ok (.enter f (args.map a.eval)) w := by
    unfold execOp
    simp only [ho, resolve, invoke, Sem.run_bind]
    go_simp
  unfold Oper.wp
  rw [hr, Oper.upon_enter]
  refine Calls.mono hc ?_
  intro e w' hR
  obtain ⟨v, rfl, hK⟩ := h e w' hR
  exact hK
section
variable {w : World} {B p : Nat} {s : StM} {g : Nat → Tag}
theorem StoreAt.look (h : StoreAt w B p s g) {nm : ByteArray} (hs : nm.size ≤ maxLen) {v : Value} (hd : s.dir nm = .held v) : (Instr.lookup 50 (.map (some s.mb)) (.string nm) false).run Try.prog w = .ok v w := by
  obtain ⟨v', ps, hrun, hv⟩ := h.hm.lookup keyedS Try.underlying50 (zeroF w) (zd := .held (.pointer none)) (zp := []) rfl (keyS hs)
  have e : DataW.held v' = s.dir nm := by
    unfold heldE at hv
    exact congrArg Prod.fst (Option.some.inj hv)
  rw [hd] at e
  cases e
  exact hrun
/-- may a file's name be? -/
def fmay (nm : ByteArray) : Bool := decide (1 ≤ nm.size ∧ nm.size ≤ 31)
theorem clone_any (A : Option Addr) (n c : Nat) (zs : List Int) (hr : Rd w w.heap.size .u8 A n zs) (hn : n ≤ 100000000) :
    Calls Try.prog 29 #[.slice A n c] w fun e w' => ∃ v, e = .returned v ∧ w'.ownsRow w.heap.size 5 1 v n (valsOf .u8 zs) ∧ Below w.heap.size w w' := by
  obtain ⟨i0, hi, hz0, hz1, hz2⟩ := info_parts infoU8
  obtain ⟨d, hd⟩ : ∃ d, Op.maxDepth = d + 1 := ⟨9999, rfl⟩
  cases A with
  | none =>
    have hn0 : n = 0 := by
      rcases Nat.eq_zero_or_pos n with h | h
      · exact h
      · obtain ⟨x, h2, -⟩ := hr.2 h
        cases h2
    subst hn0
    have hz : zs = [] := List.eq_nil_of_length_eq_zero hr.1
    subst hz
    have eql : (binOp .eql 22 (.slice none 0 c) (.slice none 0 0)).run Try.prog w = .ok (.bool true) w := by
      rw [show binOp .eql 22 (.slice none 0 c) (.slice none 0 0) = (do pure (.bool (← Op.equal 22 (.slice none 0 c) (.slice none 0 0))) : Sem Value) from rfl, Op.equal, hd]
      simp [Op.equalIn, run_underlying Try.underlying22]
    clear hr
    go_enter Try.func29, Try.ntmps29
    go_wp2_with fail
    go_ret
    exact ⟨_, rfl, World.ownsRow_nil _ _ _ _, Below.refl _ _⟩
  | some x =>
    have eql : (binOp .eql 22 (.slice (some x) n c) (.slice none 0 0)).run Try.prog w = .ok (.bool false) w := by
      rw [show binOp .eql 22 (.slice (some x) n c) (.slice none 0 0) = (do pure (.bool (← Op.equal 22 (.slice (some x) n c) (.slice none 0 0))) : Sem Value) from rfl, Op.equal, hd]
      simp [Op.equalIn, run_underlying Try.underlying22]
    have hb := below1 w (.cells #[] 5)
    have hr2 : Rd (w.alloc (.cells #[] 5)) w.heap.size .u8 (some x) n zs := hr.keep fun p hp => hb.cell hp
    have HR := Lib.hid hr2
    have HB := Lib.hid hb
    clear hr hr2 hb
    go_enter Try.func29, Try.ntmps29
    go_wp2_with (at_builtin; refine wpList_append_rd rfl _ _ 22 rfl w.heap.size 5 i0 (.int .u8 0) 1 Try.underlying22 hi hz0 hz1 hz2 rfl _ _ _ rfl (World.ownsRow_made w #[] 0 (Nat.le_refl _) (by unfold maxLen; omega) rfl) w.heap.size .u8 (some x) n c zs rfl HR.out (by unfold maxLen; omega) (by omega) (by simp) ?_; intro v' w2 ho hg)
    go_ret
    refine ⟨v', rfl, by simpa using ho, ⟨hg.os, hg.tape, hg.output, Nat.le_trans HB.out.size hg.size, fun k hk => ?_⟩⟩
    rw [hg.block k (Nat.lt_of_lt_of_le hk HB.out.size) (by intro e; have e2 : some k = some w.heap.size := e; simp at e2; omega)]
    exact HB.out.block k hk
theorem unlist_none (h : StoreAt w B p s g) {nm : ByteArray} (hs : nm.size ≤ maxLen) (hd : s.dir nm = .held (.pointer none)) : Calls Try.prog 28 #[.pointer (some ⟨p, 0, none⟩), .string nm] w fun e w' => e = .returned (.tuple #[]) ∧ w' = w := by
  obtain ⟨c0, c1, c2, c3, c4, z⟩ := h.cells
  have hl := h.look hs hd
  clear h z
  go_enter Try.func28, Try.ntmps28
  go_wp2_with fail
  refine bodyPost_ret (results_none rfl _ _ _) rfl ?_
  exact ⟨rfl, rfl⟩
def May (w : World) (nm : ByteArray) : Prop := ∀ W, Calls Try.prog 26 #[.string nm] W fun e W' => e = .returned (.bool true) ∧ W' = W
theorem find_yes (h : StoreAt w B p s g) {nm : ByteArray} (hs : nm.size ≤ maxLen) (hm : May w nm) {x : Addr} (hd : s.dir nm = .held (.pointer (some x))) : Calls Try.prog 33 #[.pointer (some ⟨p, 0, none⟩), .string nm] w fun e w' => e = .returned (.int .i64 0) ∧ w' = w := by
  obtain ⟨c0, c1, c2, c3, c4, z⟩ := h.cells
  have hl := h.look hs hd
  have HS := Lib.hid h
  have HM := Lib.hid hm
  clear h z hm
  go_enter Try.func33, Try.ntmps33
  go_wp2_with (first | (go_at_call 25; refine (sis_any HS.out).mono ?_; rintro e w' ⟨rfl, rfl⟩) | (go_at_call 26; refine (HM.out _).mono ?_; rintro e w' ⟨rfl, rfl⟩))
  go_ret
  exact ⟨rfl, rfl⟩
theorem get_yes (h : StoreAt w B p s g) (hBw : B ≤ w.heap.size) {nm : ByteArray} (hs : nm.size ≤ maxLen) (hm : May w nm) {i : Nat} {q : FileM} (hq : s.fs[i]? = some q) (hd : s.dir nm = .held (.pointer (some ⟨q.blk, 0, none⟩))) : Calls Try.prog 15 #[.pointer (some ⟨p, 0, none⟩), .string nm] w fun e w' => ∃ v, e = .returned (.tuple #[v, .int .i64 0]) ∧ w'.ownsRow w.heap.size 5 1 v q.xs.length (valsOf .u8 q.xs) ∧ Below w.heap.size w w' := by
  obtain ⟨c0, c1, c2, c3, c4, z⟩ := h.cells
  obtain ⟨f0, f1, f2, -⟩ := h.file hq
  have hl := h.look hs hd
  have hlen : q.xs.length ≤ 67108864 := Nat.le_trans (h.ok _ q hq).2.1 h.used.2.1
  obtain ⟨A, c, e, hc, hrd⟩ := rd_own (h.hd _ q hq)
  have HC := Lib.hid (clone_any (w := w) A q.xs.length c q.xs hrd (by omega))
  have HF := Lib.hid (find_yes h hs hm hd)
  rw [e] at f1
  clear h z hm e hrd
  go_enter Try.func15, Try.ntmps15
  go_wp2_with (first | (go_at_call 33; refine HF.out.mono ?_; rintro e w' ⟨rfl, rfl⟩) | (go_at_call 29; refine HC.out.mono ?_; rintro e w2 ⟨v, rfl, ho, hb⟩))
  go_ret2
  exact ⟨v, rfl, ho, hb⟩
end
end Go.Proofs.Ytbpelchampegaaa
