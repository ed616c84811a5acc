/-
  May an act be told? The program's checks, letter by letter.
-/
import Derived.Test.YtlodoilihminaaaGreatDoorScrC
namespace Go.Proofs.YtlodoilihminaaaGreatDoor
open Go.ChangeShapes Go.WideShapes Go.ChangeAt Go.RowKit
set_option linter.unusedVariables false
set_option linter.unusedSimpArgs false
def stM (s : Bool × Ac) (c : UInt8) : Bool × Ac :=
  if c = 110 then (s.1 && fnB s.2.name, { s.2 with name := [] })
  else if c = 109 then (s.1 && modB s.2.name, { s.2 with name := [] })
  else if c = 98 then (s.1 && decide (s.2.bytes.length ≤ 65536), { s.2 with bytes := [] })
  else if c = 116 then (s.1 && plnB s.2.bytes, { s.2 with bytes := [] })
  else if c = 105 then (s.1 && numB s.2.mem, { s.2 with mem := 0 })
  else if c = 102 then (s.1 && numB s.2.fuel, { s.2 with fuel := 0 })
  else if c = 108 then (s.1 && nmsB s.2.names, { s.2 with names := [] })
  else s
def finM (s : Bool × Ac) : Bool := s.1 && (s.2.name.isEmpty && (s.2.bytes.isEmpty && (s.2.names.isEmpty && (decide (s.2.mem = 0) && decide (s.2.fuel = 0)))))
def okLet (c : UInt8) : Prop := c = 110 ∨ c = 109 ∨ c = 98 ∨ c = 116 ∨ c = 105 ∨ c = 102 ∨ c = 108
theorem shW_let (k : Int) : ∀ c ∈ shW k, okLet c := by
  unfold shW
  repeat' split
  all_goals intro c hc
  all_goals simp only [List.mem_cons, List.not_mem_nil, or_false] at hc
  all_goals unfold okLet
  all_goals first
    | (rcases hc with rfl | rfl | rfl <;> simp; done)
    | (rcases hc with rfl | rfl <;> simp; done)
    | (subst hc; simp; done)
theorem shW_len (k : Int) : (shW k).length ≤ 3 := by
  unfold shW
  repeat' split
  all_goals simp
theorem may_fold (a : Ac) : finM ((shW a.kind).foldl stM (decide (1 ≤ a.kind ∧ a.kind ≤ 7), a)) = a.may := by
  obtain ⟨k, n, b, ns, m, f⟩ := a
  by_cases h : k = 1 ∨ k = 2 ∨ k = 3 ∨ k = 4 ∨ k = 5 ∨ k = 6 ∨ k = 7
  · rcases h with rfl | rfl | rfl | rfl | rfl | rfl | rfl
    · show (true && fnB n && decide (b.length ≤ 65536) && (true && (true && (ns.isEmpty && (decide (m = 0) && decide (f = 0)))))) = (fnB n && (decide (b.length ≤ 65536) && (ns.isEmpty && (decide (m = 0) && decide (f = 0)))))
      simp only [Bool.true_and, Bool.and_assoc]
    · show (true && fnB n && plnB b && (true && (true && (ns.isEmpty && (decide (m = 0) && decide (f = 0)))))) = (fnB n && (plnB b && (ns.isEmpty && (decide (m = 0) && decide (f = 0)))))
      simp only [Bool.true_and, Bool.and_assoc]
    · show (true && fnB n && (true && (b.isEmpty && (ns.isEmpty && (decide (m = 0) && decide (f = 0)))))) = (fnB n && (b.isEmpty && (ns.isEmpty && (decide (m = 0) && decide (f = 0)))))
      simp only [Bool.true_and, Bool.and_assoc]
    · show (true && fnB n && (true && (b.isEmpty && (ns.isEmpty && (decide (m = 0) && decide (f = 0)))))) = (fnB n && (b.isEmpty && (ns.isEmpty && (decide (m = 0) && decide (f = 0)))))
      simp only [Bool.true_and, Bool.and_assoc]
    · show (true && modB n && numB m && numB f && (true && (b.isEmpty && (ns.isEmpty && (true && true))))) = (modB n && (b.isEmpty && (ns.isEmpty && (numB m && numB f))))
      cases modB n <;> cases b.isEmpty <;> cases ns.isEmpty <;> cases numB m <;> cases numB f <;> rfl
    · show (true && modB n && numB f && nmsB ns && (true && (b.isEmpty && (true && (decide (m = 0) && true))))) = (modB n && (b.isEmpty && (nmsB ns && (decide (m = 0) && numB f))))
      cases modB n <;> cases b.isEmpty <;> cases nmsB ns <;> cases decide (m = 0) <;> cases numB f <;> rfl
    · rfl
  · have e : shW k = [] := by unfold shW; rw [if_neg (by omega), if_neg (by omega), if_neg (by omega), if_neg (by omega), if_neg (by omega), if_neg (by omega)]
    show finM ((shW k).foldl stM (decide (1 ≤ k ∧ k ≤ 7), _)) = _
    rw [e, decide_eq_false (by omega)]
    unfold Ac.may
    rw [if_neg (by show ¬ k = 1; omega), if_neg (by show ¬ k = 2; omega), if_neg (by show ¬ (k = 3 ∨ k = 4); omega), if_neg (by show ¬ k = 5; omega), if_neg (by show ¬ k = 6; omega), if_neg (by show ¬ k = 7; omega)]
    rfl
theorem heap_setCell_same (W : World) (q o : Nat) (u : Value) {cs : Array Value} {t : TypeId} {fr : Nat × Nat} (h : W.heap[q]? = some (.cells cs t fr)) : (W.setCell ⟨q, o, none⟩ u).heap[q]? = some (.cells (cs.setIfInBounds o u) t fr) := by
  have hlt : q < W.heap.size := (Array.getElem?_eq_some_iff.1 h).1
  have h' : W.heap[q] = .cells cs t fr := by simpa [Array.getElem?_eq_getElem hlt] using h
  simp [World.setCell, Array.getElem_modify, hlt, h']
/-- an act that is gone through, beside a walk over letters -/
structure MB (w W : World) (q it : Nat) (ps : ByteArray) (pos : Nat) (k : Int) (a : Ac) (bA : Option Addr) (bn bc : Nat) (nA : Option Addr) (nn nc : Nat) : Prop where
  hb : Below w.heap.size w W
  lq : w.heap.size ≤ q
  li : w.heap.size ≤ it
  ne : it ≠ q
  box : W.heap[q]? = some (.cells (actC k a.name bA bn bc nA nn nc a.mem a.fuel) 27 (0, 0))
  itr : W.heap[it]? = some (.stringIter ps pos)
  act : ActAt w a bA bn bc nA nn nc
section
variable {w W : World} {q it : Nat} {ps : ByteArray} {pos : Nat} {k : Int} {a : Ac} {bA : Option Addr} {bn bc : Nat} {nA : Option Addr} {nn nc : Nat}
theorem MB.cell (h : MB w W q it ps pos k a bA bn bc nA nn nc) {o : Nat} {u : Value} (hu : (actC k a.name bA bn bc nA nn nc a.mem a.fuel)[o]? = some u) : W.cell? ⟨q, o, none⟩ = some u := by
  rw [World.cell?, h.box]; exact hu
theorem MB.next (h : MB w W q it ps pos k a bA bn bc nA nn nc) (hp : pos < ps.size) (ha : (ps[pos]'hp).toNat < 128) :
    ∃ w1, (∀ ty, (Instr.next (.pointer (some ⟨it, 0, none⟩)) true ty).run Tryz.prog W = .ok (.tuple #[.bool true, .int .i64 pos, .int .i32 (ps[pos]'hp).toNat]) w1) ∧ MB w w1 q it ps (pos + 1) k a bA bn bc nA nn nc := by
  refine ⟨W.iterAt it ps (pos + 1), fun ty => Lib.run_next_ascii_at W it ps pos ty h.itr hp ha, ?_⟩
  exact ⟨Lib.below_iterAt h.hb h.li ps _, h.lq, h.li, h.ne, (Lib.iterAt_other W it q ps _ (Ne.symm h.ne)).trans h.box, Lib.iterAt_heap W it ps pos _ h.itr, h.act⟩
theorem MB.stop (h : MB w W q it ps pos k a bA bn bc nA nn nc) (hp : ¬ pos < ps.size) : ∀ ty, (Instr.next (.pointer (some ⟨it, 0, none⟩)) true ty).run Tryz.prog W = .ok (.tuple #[.bool false]) W :=
  fun ty => Lib.run_next_end_at W it ps pos ty h.itr hp
theorem MB.set1 (h : MB w W q it ps pos k a bA bn bc nA nn nc) : MB w (W.setCell ⟨q, 1, none⟩ (.string ⟨#[]⟩)) q it ps pos k { a with name := [] } bA bn bc nA nn nc :=
  ⟨h.hb.setCell (show w.heap.size ≤ (⟨q, 1, none⟩ : Addr).block from h.lq) _, h.lq, h.li, h.ne, (heap_setCell_same W q 1 _ h.box).trans rfl, (Below.heap_setCell W _ _ it h.ne).trans h.itr, ⟨Nat.zero_le _, h.act.hbr, h.act.hbb, h.act.hbn, h.act.hbc, h.act.hnr, h.act.hnn, h.act.hm, h.act.hf⟩⟩
theorem MB.set2 (h : MB w W q it ps pos k a bA bn bc nA nn nc) : MB w (W.setCell ⟨q, 2, none⟩ (.slice none 0 0)) q it ps pos k { a with bytes := [] } none 0 0 nA nn nc :=
  ⟨h.hb.setCell (show w.heap.size ≤ (⟨q, 2, none⟩ : Addr).block from h.lq) _, h.lq, h.li, h.ne, (heap_setCell_same W q 2 _ h.box).trans rfl, (Below.heap_setCell W _ _ it h.ne).trans h.itr, ⟨h.act.hnm, Rd.nil, (fun x hx => by cases hx), Nat.zero_le _, Nat.le_refl _, h.act.hnr, h.act.hnn, h.act.hm, h.act.hf⟩⟩
theorem MB.set3 (h : MB w W q it ps pos k a bA bn bc nA nn nc) : MB w (W.setCell ⟨q, 3, none⟩ (.slice none 0 0)) q it ps pos k { a with names := [] } bA bn bc none 0 0 :=
  ⟨h.hb.setCell (show w.heap.size ≤ (⟨q, 3, none⟩ : Addr).block from h.lq) _, h.lq, h.li, h.ne, (heap_setCell_same W q 3 _ h.box).trans rfl, (Below.heap_setCell W _ _ it h.ne).trans h.itr, ⟨h.act.hnm, h.act.hbr, h.act.hbb, h.act.hbn, h.act.hbc, ⟨rfl, fun l hl => (by cases hl), fun h0 => absurd h0 (by omega)⟩, Nat.zero_le _, h.act.hm, h.act.hf⟩⟩
theorem MB.set4 (h : MB w W q it ps pos k a bA bn bc nA nn nc) : MB w (W.setCell ⟨q, 4, none⟩ (.int .i64 0)) q it ps pos k { a with mem := 0 } bA bn bc nA nn nc :=
  ⟨h.hb.setCell (show w.heap.size ≤ (⟨q, 4, none⟩ : Addr).block from h.lq) _, h.lq, h.li, h.ne, (heap_setCell_same W q 4 _ h.box).trans rfl, (Below.heap_setCell W _ _ it h.ne).trans h.itr, ⟨h.act.hnm, h.act.hbr, h.act.hbb, h.act.hbn, h.act.hbc, h.act.hnr, h.act.hnn, ⟨by show (-9223372036854775808 : Int) ≤ 0; omega, by show (0 : Int) ≤ 9223372036854775807; omega⟩, h.act.hf⟩⟩
theorem MB.set5 (h : MB w W q it ps pos k a bA bn bc nA nn nc) : MB w (W.setCell ⟨q, 5, none⟩ (.int .i64 0)) q it ps pos k { a with fuel := 0 } bA bn bc nA nn nc :=
  ⟨h.hb.setCell (show w.heap.size ≤ (⟨q, 5, none⟩ : Addr).block from h.lq) _, h.lq, h.li, h.ne, (heap_setCell_same W q 5 _ h.box).trans rfl, (Below.heap_setCell W _ _ it h.ne).trans h.itr, ⟨h.act.hnm, h.act.hbr, h.act.hbb, h.act.hbn, h.act.hbc, h.act.hnr, h.act.hnn, h.act.hm, ⟨by show (-9223372036854775808 : Int) ≤ 0; omega, by show (0 : Int) ≤ 9223372036854775807; omega⟩⟩⟩
theorem MB.frz (h : MB w W q it ps pos k a bA bn bc nA nn nc) (o : Nat) : W.frozen? ⟨q, o, none⟩ = false := by rw [World.frozen?, h.box]; simp
theorem MB.ipos (h : MB w W q it ps pos k a bA bn bc nA nn nc) : W.iterPos it = pos := by simp [World.iterPos, h.itr]
end
end Go.Proofs.YtlodoilihminaaaGreatDoor
