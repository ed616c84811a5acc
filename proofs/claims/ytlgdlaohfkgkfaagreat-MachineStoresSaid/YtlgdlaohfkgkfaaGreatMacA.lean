/-
  A machine in memory: its struct, its bytes; what only looks.
-/
import Derived.Test.YtlgdlaohfkgkfaaGreatRiscN
import Derived.Deep.MidRow
import Derived.Deep.RegionHeld3
import Derived.Lib.SliceRun
namespace Go.Proofs.YtlgdlaohfkgkfaaGreat
open Go.ChangeShapes Go.WideShapes Go.ChangeAt Go.RowKit
set_option linter.unusedVariables false
set_option linter.unusedSimpArgs false

/-- a machine as data -/
structure Mc where
  cpu : Cpu
  n : Nat
  f : Nat → Int
  heap : Int
  kind : Int
  code : Int
/-- where it lies: its struct, its bytes, its calls; its store -/
structure Mp where
  b : Nat
  g : Nat
  cl : Nat
  st : Value
def mcL (p : Mp) (m : Mc) : List Value := (cpuCells m.cpu).toList ++ [.slice (some ⟨p.g, 0, none⟩) m.n m.n, .int .u32 m.heap, .int .i64 m.kind, .int .u32 m.code, p.st, .map (some p.cl)]
structure MAt (W : World) (B : Nat) (p : Mp) (m : Mc) : Prop where
  bb : B ≤ p.b
  bg : B ≤ p.g
  lb : p.b < W.heap.size
  lg : p.g < W.heap.size
  ne : p.b ≠ p.g
  cells : W.rangeAt p.b 0 (mcL p m)
  bt : W.there p.b 0 28
  fm : ∀ i, i < m.n → W.cell? ⟨p.g, i, none⟩ = some (.int .u8 (m.f i))
  ft : ∀ i, i < m.n → W.frozen? ⟨p.g, i, none⟩ = false
  bd : ∀ i, 0 ≤ m.f i ∧ m.f i < 256
  n0 : 64 ≤ m.n
  n1 : m.n ≤ 16777216
/-- what a writer of the machine leaves as it was -/
structure Chg (p : Mp) (w w' : World) : Prop where
  os : w'.os = w.os
  tape : w'.tape = w.tape
  output : w'.output = w.output
  size : w.heap.size ≤ w'.heap.size
  block : ∀ k, k < w.heap.size → k ≠ p.b → k ≠ p.g → w'.heap[k]? = w.heap[k]?
section
variable {w W V : World} {B : Nat} {p : Mp} {m : Mc}
theorem Chg.refl (p : Mp) (w : World) : Chg p w w := ⟨rfl, rfl, rfl, Nat.le_refl _, fun _ _ _ _ => rfl⟩
theorem Chg.trans (h : Chg p w W) (k : Chg p W V) : Chg p w V :=
  ⟨k.os.trans h.os, k.tape.trans h.tape, k.output.trans h.output, Nat.le_trans h.size k.size, fun i hi a b => (k.block i (Nat.lt_of_lt_of_le hi h.size) a b).trans (h.block i hi a b)⟩
theorem Chg.ofBelow (h : Below w.heap.size w W) : Chg p w W := ⟨h.os, h.tape, h.output, h.size, fun k hk _ _ => h.block k hk⟩
theorem Chg.below (h : Chg p w W) {B : Nat} (h1 : B ≤ p.b) (h2 : B ≤ p.g) (h3 : B ≤ w.heap.size) : Below B w W := ⟨h.os, h.tape, h.output, h.size, fun k hk => h.block k (by omega) (by omega) (by omega)⟩
theorem Chg.drewN (h : Chg p w W) (n : Nat) : Chg p w (W.drewN n) := ⟨h.os, h.tape, h.output, h.size, h.block⟩
theorem Chg.drew (h : Chg p w W) : Chg p w W.drew := ⟨h.os, h.tape, h.output, h.size, h.block⟩
theorem heap_setCell' (w : World) (b o k : Nat) (v : Value) (h : k ≠ b) : (w.setCell ⟨b, o, none⟩ v).heap[k]? = w.heap[k]? := Below.heap_setCell _ _ _ _ h
theorem size_setCell (w : World) (a : Addr) (v : Value) : (w.setCell a v).heap.size = w.heap.size := by
  simp [World.setCell]
theorem Chg.setCell (h : Chg p w W) {b o : Nat} (v : Value) (hb : b = p.b ∨ b = p.g) : Chg p w (W.setCell ⟨b, o, none⟩ v) :=
  ⟨h.os, h.tape, h.output, by rw [size_setCell]; exact h.size, fun k hk a c => by rw [heap_setCell' _ _ _ _ _ (by rcases hb with rfl | rfl <;> assumption)]; exact h.block k hk a c⟩
theorem Chg.setCells (b : Nat) (hb : b = p.b ∨ b = p.g) : ∀ (vs : List Value) (o : Nat) (W : World), Chg p w W → Chg p w (W.setCells b o vs)
  | [], _, _, h => h
  | v :: r, o, W, h => by rw [World.setCells]; exact Chg.setCells b hb r (o + 1) _ (h.setCell v hb)
theorem mcL_len (p : Mp) (m : Mc) : (mcL p m).length = 28 := rfl
theorem MAt.mem (h : MAt W B p m) : W.cell? ⟨p.b, 22, none⟩ = some (.slice (some ⟨p.g, 0, none⟩) m.n m.n) := h.cells 22 _ rfl
theorem MAt.hp (h : MAt W B p m) : W.cell? ⟨p.b, 23, none⟩ = some (.int .u32 m.heap) := h.cells 23 _ rfl
theorem MAt.kd (h : MAt W B p m) : W.cell? ⟨p.b, 24, none⟩ = some (.int .i64 m.kind) := h.cells 24 _ rfl
theorem MAt.cd (h : MAt W B p m) : W.cell? ⟨p.b, 25, none⟩ = some (.int .u32 m.code) := h.cells 25 _ rfl
theorem MAt.st (h : MAt W B p m) : W.cell? ⟨p.b, 26, none⟩ = some p.st := h.cells 26 _ rfl
theorem MAt.cl (h : MAt W B p m) : W.cell? ⟨p.b, 27, none⟩ = some (.map (some p.cl)) := h.cells 27 _ rfl
theorem MAt.pc (h : MAt W B p m) : W.cell? ⟨p.b, 21, none⟩ = some (.int .u32 m.cpu.pc) := h.cells 21 _ rfl
theorem MAt.rg (h : MAt W B p m) (i : Nat) (hi : i < 16) : W.cell? ⟨p.b, i, none⟩ = some (.int .u32 (m.cpu.r i)) := by
  have h1 := reg_cell m.cpu i hi
  have h2 : (mcL p m)[i]? = some (.int .u32 (m.cpu.r i)) := by
    unfold mcL
    rw [List.getElem?_append_left (by show i < 22; omega), Array.getElem?_toList]
    exact h1
  have := h.cells i _ h2
  rwa [Nat.zero_add] at this
theorem MAt.cpu (h : MAt W B p m) : W.rangeAt p.b 0 (cpuCells m.cpu).toList := fun j v hv => h.cells j v (by
  have hj := (List.getElem?_eq_some_iff.1 hv).1
  unfold mcL
  rw [List.getElem?_append_left hj]
  exact hv)
theorem MAt.fz (h : MAt W B p m) (i : Nat) (hi : i < 28) : W.frozen? ⟨p.b, i, none⟩ = false := by
  have := (h.bt i hi).2
  rwa [Nat.zero_add] at this
theorem MAt.cell (h : MAt W B p m) (hb : Below W.heap.size W V) : ∀ i, V.cell? ⟨p.b, i, none⟩ = W.cell? ⟨p.b, i, none⟩ := fun i => World.cell?_of_block (hb.block p.b h.lb)
theorem MAt.next (h : MAt W B p m) (hb : Below W.heap.size W V) : MAt V B p m := by
  have e1 := h.cell hb
  have e2 : ∀ i, V.cell? ⟨p.g, i, none⟩ = W.cell? ⟨p.g, i, none⟩ := fun i => World.cell?_of_block (hb.block p.g h.lg)
  have e3 : ∀ i, V.frozen? ⟨p.b, i, none⟩ = W.frozen? ⟨p.b, i, none⟩ := fun i => World.frozen?_of_block (hb.block p.b h.lb)
  have e4 : ∀ i, V.frozen? ⟨p.g, i, none⟩ = W.frozen? ⟨p.g, i, none⟩ := fun i => World.frozen?_of_block (hb.block p.g h.lg)
  exact ⟨h.bb, h.bg, Nat.lt_of_lt_of_le h.lb hb.size, Nat.lt_of_lt_of_le h.lg hb.size, h.ne, fun j v hv => by rw [e1]; exact h.cells j v hv, fun j hj => by rw [e1, e3]; exact h.bt j hj, fun i hi => by rw [e2]; exact h.fm i hi, fun i hi => by rw [e4]; exact h.ft i hi, h.bd, h.n0, h.n1⟩
theorem MAt.drew (h : MAt W B p m) : MAt W.drew B p m := h.next (Below.refl _ _).drew
/-- another machine turned -/
theorem MAt.other {q : Mp} (h : MAt W B p m) (hc : Chg q W V) (h1 : p.b ≠ q.b) (h2 : p.b ≠ q.g) (h3 : p.g ≠ q.b) (h4 : p.g ≠ q.g) : MAt V B p m := by
  have hb : V.heap[p.b]? = W.heap[p.b]? := hc.block _ h.lb h1 h2
  have hg : V.heap[p.g]? = W.heap[p.g]? := hc.block _ h.lg h3 h4
  have e1 : ∀ i, V.cell? ⟨p.b, i, none⟩ = W.cell? ⟨p.b, i, none⟩ := fun i => World.cell?_of_block hb
  have e2 : ∀ i, V.cell? ⟨p.g, i, none⟩ = W.cell? ⟨p.g, i, none⟩ := fun i => World.cell?_of_block hg
  have e3 : ∀ i, V.frozen? ⟨p.b, i, none⟩ = W.frozen? ⟨p.b, i, none⟩ := fun i => World.frozen?_of_block hb
  have e4 : ∀ i, V.frozen? ⟨p.g, i, none⟩ = W.frozen? ⟨p.g, i, none⟩ := fun i => World.frozen?_of_block hg
  exact ⟨h.bb, h.bg, Nat.lt_of_lt_of_le h.lb hc.size, Nat.lt_of_lt_of_le h.lg hc.size, h.ne, fun j v hv => by rw [e1]; exact h.cells j v hv, fun j hj => by rw [e1, e3]; exact h.bt j hj, fun i hi => by rw [e2]; exact h.fm i hi, fun i hi => by rw [e4]; exact h.ft i hi, h.bd, h.n0, h.n1⟩
/-- one of its bytes turns -/
theorem MAt.setByte (h : MAt W B p m) (j : Nat) (hj : j < m.n) (x : Int) (hx : 0 ≤ x ∧ x < 256) : MAt (W.setCell ⟨p.g, j, none⟩ (.int .u8 x)) B p { m with f := upd m.f j x } := by
  have e1 : ∀ i, (W.setCell ⟨p.g, j, none⟩ (.int .u8 x)).cell? ⟨p.b, i, none⟩ = W.cell? ⟨p.b, i, none⟩ := fun i => World.cell?_of_block (heap_setCell' _ _ _ _ _ h.ne)
  have e3 : ∀ a, (W.setCell ⟨p.g, j, none⟩ (.int .u8 x)).frozen? a = W.frozen? a := fun a => World.frozen?_setCell _ _ _ _
  refine ⟨h.bb, h.bg, by rw [size_setCell]; exact h.lb, by rw [size_setCell]; exact h.lg, h.ne, fun j v hv => by rw [e1]; exact h.cells j v hv, fun j hj => by rw [e1, e3]; exact h.bt j hj, fun i hi => ?_, fun i hi => by rw [e3]; exact h.ft i hi, fun i => ?_, h.n0, h.n1⟩
  · show _ = some (Value.int .u8 (upd m.f j x i))
    by_cases hij : i = j
    · subst hij
      rw [World.cell?_setCell_same _ _ _ (h.fm i hi), upd_same]
    · rw [World.cell?_setCell_other _ _ _ _ (fun e => hij (by injection e with _ e2 _; exact e2.symm)), upd_other _ _ _ _ hij]
      exact h.fm i hi
  · show 0 ≤ upd m.f j x i ∧ upd m.f j x i < 256
    unfold upd
    split
    · exact hx
    · exact h.bd i
end
/-- cells of its struct turn -/
theorem MAt.put {W : World} {B : Nat} {p : Mp} {m : Mc} (h : MAt W B p m) (o : Nat) (vs : List Value) (m' : Mc) (hl : o + vs.length ≤ 28) (hn : m'.n = m.n) (hf : m'.f = m.f) (he : mcL p m' = (mcL p m).take o ++ vs ++ (mcL p m).drop (o + vs.length)) : MAt (W.setCells p.b o vs) B p m' := by
  have e0 : ∀ (vs : List Value) (o : Nat) (W : World), (W.setCells p.b o vs).heap.size = W.heap.size := by
    intro vs
    induction vs with
    | nil => intro o W; rfl
    | cons v r ih => intro o W; rw [World.setCells, ih, size_setCell]
  have e2 : ∀ i, (W.setCells p.b o vs).cell? ⟨p.g, i, none⟩ = W.cell? ⟨p.g, i, none⟩ := fun i => World.cell?_setCells_out p.b vs o W _ fun hb _ => absurd hb.symm h.ne
  have e3 : ∀ a, (W.setCells p.b o vs).frozen? a = W.frozen? a := fun a => World.frozen?_setCells _ _ _ _ _
  have e4 : ∀ j, j < 28 → (W.cell? ⟨p.b, j, none⟩).isSome = true := fun j hj => by have := (h.bt j hj).1; rwa [Nat.zero_add] at this
  have hlen := mcL_len p m
  refine ⟨h.bb, h.bg, by rw [e0]; exact h.lb, by rw [e0]; exact h.lg, h.ne, fun j v hv => ?_, World.there_setCells h.bt _ _ _, fun i hi => by rw [e2, hf]; exact h.fm i (by omega), fun i hi => by rw [e3]; exact h.ft i (by omega), by rw [hf]; exact h.bd, by rw [hn]; exact h.n0, by rw [hn]; exact h.n1⟩
  rw [he] at hv
  have hj28 : j < 28 := by
    have := (List.getElem?_eq_some_iff.1 hv).1
    simp only [List.length_append, List.length_take, List.length_drop, hlen] at this
    omega
  rw [Nat.zero_add]
  by_cases h1 : j < o
  · rw [List.getElem?_append_left (by simp only [List.length_append, List.length_take, hlen]; omega), List.getElem?_append_left (by simp only [List.length_take, hlen]; omega), List.getElem?_take, if_pos h1] at hv
    rw [World.cell?_setCells_out p.b vs o W _ fun _ _ => .inl h1]
    have := h.cells j v hv
    rwa [Nat.zero_add] at this
  · by_cases h2 : j < o + vs.length
    · rw [List.getElem?_append_left (by simp only [List.length_append, List.length_take, hlen]; omega), List.getElem?_append_right (by simp only [List.length_take, hlen]; omega)] at hv
      simp only [List.length_take, hlen] at hv
      rw [show min o 28 = o by omega] at hv
      have := World.cell?_setCells_in p.b vs o W (fun i hi => e4 _ (by omega)) (j - o) (by omega)
      rw [show o + (j - o) = j by omega] at this
      rw [this]
      obtain ⟨h3, h4⟩ := List.getElem?_eq_some_iff.1 hv
      rw [h4]
    · rw [List.getElem?_append_right (by simp only [List.length_append, List.length_take, hlen]; omega)] at hv
      simp only [List.length_append, List.length_take, hlen, List.getElem?_drop] at hv
      rw [show o + vs.length + (j - (min o 28 + vs.length)) = j by omega] at hv
      rw [World.cell?_setCells_out p.b vs o W _ fun _ _ => .inr (by show o + vs.length ≤ j; omega)]
      have := h.cells j v hv
      rwa [Nat.zero_add] at this
/-- may a place be looked at? -/
def mayB (n q : Nat) (b : Bool) : Bool := decide (q < n) && (b || decide (q % 4 = 0))
/-- the word that stands at a place -/
def wdF (f : Nat → Int) (q : Nat) : Int := f q + 256 * f (q + 1) + 65536 * f (q + 2) + 16777216 * f (q + 3)
theorem neq_nil (g n : Nat) (W : World) : (binOp .neq 54 (.slice (some ⟨g, 0, none⟩) n n) (.slice none 0 0)).run Tryz.prog W = .ok (.bool true) W := by
  have e : (Op.equalIn 10000 54 (.slice (some ⟨g, 0, none⟩) n n) (.slice none 0 0)).run Tryz.prog W = .ok false W := by
    rw [Lib.run_equalIn_slice_nil W 9999 54 5 (some ⟨g, 0, none⟩) n n 0 0 Tryz.underlying54]; rfl
  have hd : Op.maxDepth = 10000 := rfl
  rw [show binOp .neq 54 (.slice (some ⟨g, 0, none⟩) n n) (.slice none 0 0) = (do pure (.bool (!(← Op.equal 54 (.slice (some ⟨g, 0, none⟩) n n) (.slice none 0 0)))) : Sem Value) from rfl, Op.equal, hd]
  simp only [Sem.run_bind, e, Result.andThen_ok, Sem.run_pure]
  rfl
section
variable {w : World} {B : Nat} {p : Mp} {m : Mc}
theorem is_any (h : MAt w B p m) : Calls Tryz.prog 35 #[.pointer (some ⟨p.b, 0, none⟩)] w fun e w' => e = .returned (.bool true) ∧ w' = w := by
  have c22 := h.mem
  have hn := neq_nil p.g m.n w
  go_enter Tryz.func35, Tryz.ntmps35
  go_wp2
  go_ret
  exact ⟨rfl, rfl⟩
theorem inside_any (h : MAt w B p m) (q : Nat) (hq : q < 4294967296) : Calls Tryz.prog 87 #[.pointer (some ⟨p.b, 0, none⟩), .int .u32 (q : Int)] w fun e w' => e = .returned (.bool (decide (q < m.n))) ∧ w' = w := by
  have c22 := h.mem
  have h1 := h.n1
  go_enter Tryz.func87, Tryz.ntmps87
  go_wp2
  go_ret
  refine ⟨?_, rfl⟩
  simp
theorem may_any (h : MAt w B p m) (q : Nat) (hq : q < 4294967296) (b : Bool) : Calls Tryz.prog 55 #[.pointer (some ⟨p.b, 0, none⟩), .int .u32 (q : Int), .bool b] w fun e w' => e = .returned (.bool (mayB m.n q b)) ∧ w' = w := by
  have HC := Lib.hid (inside_any h q hq)
  unfold mayB
  by_cases h1 : q < m.n
  · simp only [h1, decide_true] at HC
    cases b
    · by_cases h2 : q % 4 = 0
      · have h3 : ((q : Int) % 4 == 0) = true := by simp; omega
        go_enter Tryz.func55, Tryz.ntmps55
        go_wp2_with (go_at_call 87; (with_reducible refine HC.out.mono ?_); rintro e w' ⟨rfl, rfl⟩)
        go_ret
        simp [h1, h2]
      · have h3 : ((q : Int) % 4 == 0) = false := by simp; omega
        go_enter Tryz.func55, Tryz.ntmps55
        go_wp2_with (go_at_call 87; (with_reducible refine HC.out.mono ?_); rintro e w' ⟨rfl, rfl⟩)
        go_ret
        simp [h1, h2]
    · go_enter Tryz.func55, Tryz.ntmps55
      go_wp2_with (go_at_call 87; (with_reducible refine HC.out.mono ?_); rintro e w' ⟨rfl, rfl⟩)
      go_ret
      simp [h1]
  · simp only [h1, decide_false] at HC
    go_enter Tryz.func55, Tryz.ntmps55
    go_wp2_with (go_at_call 87; (with_reducible refine HC.out.mono ?_); rintro e w' ⟨rfl, rfl⟩)
    go_ret
    simp [h1]
theorem look_any (h : MAt w B p m) (q : Nat) (hq : q < 4294967296) (b : Bool) : Calls Tryz.prog 27 #[.pointer (some ⟨p.b, 0, none⟩), .int .u32 (q : Int), .bool b] w fun e w' => e = .returned (.int .i64 (if mayB m.n q b then 0 else 2)) ∧ w' = w := by
  have HI := Lib.hid (is_any h)
  have HM := Lib.hid (may_any h q hq b)
  generalize mayB m.n q b = mb at *
  cases mb
  all_goals
    go_enter Tryz.func27, Tryz.ntmps27
    go_wp2_with (first | (go_at_call 35; (with_reducible refine HI.out.mono ?_); rintro e w' ⟨rfl, rfl⟩) | (go_at_call 55; (with_reducible refine HM.out.mono ?_); rintro e w' ⟨rfl, rfl⟩))
    go_ret
    exact ⟨rfl, rfl⟩
theorem running_any (h : MAt w B p m) : Calls Tryz.prog 39 #[.pointer (some ⟨p.b, 0, none⟩)] w fun e w' => e = .returned (.bool (m.kind == 0)) ∧ w' = w := by
  have HI := Lib.hid (is_any h)
  have c24 := h.kd
  go_enter Tryz.func39, Tryz.ntmps39
  go_wp2_with (go_at_call 35; (with_reducible refine HI.out.mono ?_); rintro e w' ⟨rfl, rfl⟩)
  go_ret
  exact ⟨rfl, rfl⟩
theorem heap_any (h : MAt w B p m) : Calls Tryz.prog 31 #[.pointer (some ⟨p.b, 0, none⟩)] w fun e w' => e = .returned (.int .u32 m.heap) ∧ w' = w := by
  have HI := Lib.hid (is_any h)
  have c23 := h.hp
  go_enter Tryz.func31, Tryz.ntmps31
  go_wp2_with (go_at_call 35; (with_reducible refine HI.out.mono ?_); rintro e w' ⟨rfl, rfl⟩)
  go_ret
  exact ⟨rfl, rfl⟩
end
end Go.Proofs.YtlgdlaohfkgkfaaGreat
