/-
  A machine in memory: what a step stores and loads.
-/
import Derived.Test.YtlgdlaohfkgkfaaGreatMacG
import Derived.Test.YtlgdlaohfkgkfaaGreatRiscA
namespace Go.Proofs.YtlgdlaohfkgkfaaGreat
open Go.ChangeShapes Go.WideShapes Go.ChangeAt Go.RowKit
set_option linter.unusedVariables false
set_option linter.unusedSimpArgs false
theorem results_ct {P : Program} {fn : Func} {p q : Tmp} {ty : TypeId} (h : fn.results = #[.cell p ty, .tmp q]) (tmps : Array Value) (w : World) (g : Nat) (t : TypeId) (cs : Array Value) (fr : Nat × Nat) (d : TypeDesc) (v : Value)
    (hp : tmps.getD p undef = .pointer (some ⟨g, 0, none⟩)) (hq : tmps.getD q undef = v) (hg : w.heap[g]? = some (.cells cs t fr))
    (hu : P.underlying ty = some d) (hd : (match d with | .struct _ | .array _ _ => true | _ => false) = true) (hi : (P.info? ty).map (·.size) = some cs.size) :
    (results fn tmps).run P w = .ok (.tuple #[.agg cs, v]) w := by
  have hp' : tmps[p]?.getD undef = .pointer (some ⟨g, 0, none⟩) := by simpa using hp
  have hq' : tmps[q]?.getD undef = v := by simpa using hq
  simp [results, h, hp', hq', asAddr, run_loadVar_row w g t ty cs fr d hg hu hd hi]
set_option maxHeartbeats 4000000 in
theorem loaded_yes (C : Cpu) (a : Nat) (ha : a < 16) (x : Int) (x0 : 0 ≤ x) (x1 : x ≤ 4294967295) (w : World) : Calls Tryz.prog 96 #[.agg (cpuCells C), .int .i64 a, .int .u32 x] w fun e w' => e = .returned (.tuple #[.agg (cpuCells (ldC C a x)), .int .i64 0]) ∧ Below w.heap.size w w' := by
  obtain ⟨hb, hz⟩ := mtwo_rows w (cpuCells C) (cpuCells cpu0) 53 53
  have HB := Lib.hid hb
  have HZ := Lib.hid hz
  have HW := (mbelow1 w (.cells (cpuCells C) 53)).alloc (by simp) (.cells (cpuCells cpu0) 53)
  clear hb hz
  have d1 : decide ((a : Int) < 0) = false := by simp
  have d2 : decide ((16 : Int) ≤ a) = false := by simp; omega
  go_enter Tryz.func96, Tryz.ntmps96
  go_upto_region 3 with (fail)
  change Code.wp _ _ _ _ ((w.alloc (.cells (cpuCells C) 53)).alloc (.cells (cpuCells cpu0) 53))
  generalize (w.alloc (.cells (cpuCells C) 53)).alloc (.cells (cpuCells cpu0) 53) = W at HB HZ HW ⊢
  have HS := Lib.hid (cpu_size (ldC C a x))
  have H3 := Lib.hid (cpu_one (ldC C a x))
  go_upto_region 4 with (go_at_call 113; refine (load_any w.heap.size C a x ha x0 x1 _ HB.out).mono ?_; rintro e W2 ⟨rfl, t3⟩)
  have HL := Lib.hid t3.at_
  have HZ2 := Lib.hid ((t3.block (w.heap.size + 1) (lt_heap HZ.out) (by omega)).trans HZ.out)
  have HW2 : Below w.heap.size w W2 := HW.trans (t3.below (Nat.le_refl _) HW.size)
  clear t3
  go_wp2_with (first | (with_reducible refine wpList_load_row rfl 53 _ rfl w.heap.size rfl 53 (cpuCells (ldC C a x)) (0, 0) _ HL.out Tryz.underlying53 rfl HS.out ?_) | (with_reducible refine wpList_store_row rfl 53 _ _ rfl (w.heap.size + 1) (cpuCells (ldC C a x)) rfl rfl 53 _ HZ2.out HS.out rfl H3.out ?_))
  exact bodyPost_ret (results_ct rfl _ _ (w.heap.size + 1) 53 (cpuCells (ldC C a x)) (0, 0) _ _ rfl rfl (setRow_heap _ _ _ _ _ _ HZ2.out) Tryz.underlying53 rfl HS.out) rfl ⟨rfl, mbelow_setRow HW2 (by omega) _⟩
section
variable {w : World} {B : Nat} {p : Mp} {m : Mc}
def savF (f : Nat → Int) (q : Nat) (v : Bool) (x : Int) : Nat → Int := if v then upd f q (x % 256) else set4 f q x
set_option maxHeartbeats 4000000 in
set_option maxRecDepth 100000 in
theorem save_any (h : MAt w B p m) (q : Nat) (v : Bool) (x : Int) (hx : 0 ≤ x ∧ x < 4294967296) (hq : q + 4 ≤ m.n ∨ v = true ∧ q < m.n) (h4 : v = true ∨ q % 4 = 0) :
    Calls Tryz.prog 70 #[.pointer (some ⟨p.b, 0, none⟩), .agg (evCells 2 (q : Int) v 3 x 0)] w fun e w' => e = .returned (.tuple #[]) ∧ MAt w' B p { m with f := savF m.f q v x } ∧ Chg p w w' := by
  have hn := h.n1
  have hb1 := mbelow1 w (.cells (evCells 2 (q : Int) v 3 x 0) 119)
  have hm1 := h.next hb1
  have hg1 : Chg p w (w.alloc (.cells (evCells 2 (q : Int) v 3 x 0) 119)) := Chg.ofBelow hb1
  have hbk := heap_alloc_last w (.cells (evCells 2 (q : Int) v 3 x 0) 119)
  have k1 := cell_at hbk 1
  have k2 := cell_at hbk 2
  have k3 := cell_at hbk 3
  have k4 := cell_at hbk 4
  replace k1 : (w.alloc (.cells (evCells 2 (q : Int) v 3 x 0) 119)).cell? ⟨w.heap.size, 1, none⟩ = some (.int .u32 (q : Int)) := k1
  replace k2 : (w.alloc (.cells (evCells 2 (q : Int) v 3 x 0) 119)).cell? ⟨w.heap.size, 2, none⟩ = some (.bool v) := k2
  replace k3 : (w.alloc (.cells (evCells 2 (q : Int) v 3 x 0) 119)).cell? ⟨w.heap.size, 3, none⟩ = some (.int .i64 3) := k3
  replace k4 : (w.alloc (.cells (evCells 2 (q : Int) v 3 x 0) 119)).cell? ⟨w.heap.size, 4, none⟩ = some (.int .u32 x) := k4
  go_enter Tryz.func70, Tryz.ntmps70
  go_upto_region 1 with (fail)
  change Code.wp _ _ _ _ (w.alloc (.cells (evCells 2 (q : Int) v 3 x 0) 119))
  generalize w.alloc (.cells (evCells 2 (q : Int) v 3 x 0) 119) = V1 at *
  go_wp2_with fail
  go_quiet (fail)
  replace k1 : (V1.drewN nq).cell? ⟨w.heap.size, 1, none⟩ = some (.int .u32 (q : Int)) := k1
  replace k2 : (V1.drewN nq).cell? ⟨w.heap.size, 2, none⟩ = some (.bool v) := k2
  replace k4 : (V1.drewN nq).cell? ⟨w.heap.size, 4, none⟩ = some (.int .u32 x) := k4
  replace hm1 := hm1.next (mdrewN V1 nq)
  replace hg1 := hg1.drewN nq
  clear k3 hb1 hbk
  generalize V1.drewN nq = V2 at *
  have HMY := may_any hm1 q (by omega) v
  have e : mayB m.n q v = true := by
    unfold mayB
    rcases h4 with rfl | h4
    · simp; omega
    · simp [h4]; omega
  rw [e] at HMY
  have HM := Lib.hid HMY
  clear HMY e
  cases v with
  | true =>
    have hq2 : q < m.n := by omega
    have kq := hm1.fm q hq2
    have zq := hm1.ft q hq2
    have k22 := hm1.mem
    clear h hq h4
    go_wp2_with (go_at_call 55; (refine HM.out.mono ?_); rintro e w' ⟨rfl, rfl⟩)
    have HF := Lib.hid (hm1.drew.setByte q hq2 (x % 256) (by omega))
    have HG := Lib.hid (hg1.drew.setCell (b := p.g) (o := q) (.int .u8 (x % 256)) (.inr rfl))
    replace kq : w'.drew.cell? ⟨p.g, q, none⟩ = some (.int .u8 (m.f q)) := kq
    replace zq : w'.drew.frozen? ⟨p.g, q, none⟩ = false := zq
    replace k22 : w'.drew.cell? ⟨p.b, 22, none⟩ = some (.slice (some ⟨p.g, 0, none⟩) m.n m.n) := k22
    replace k1 : w'.drew.cell? ⟨w.heap.size, 1, none⟩ = some (.int .u32 (q : Int)) := k1
    replace k4 : w'.drew.cell? ⟨w.heap.size, 4, none⟩ = some (.int .u32 x) := k4
    clear hm1 hg1 HM k2
    go_region
    all_goals go_wp2_with fail
    all_goals go_end0
    all_goals exact ⟨rfl, HF.out, HG.out⟩
  | false =>
    have HST := Lib.hid (set_any hm1 q (by rcases hq with h9 | ⟨h9, -⟩; exact h9; exact absurd h9 (by decide)) x hx)
    have HG := Lib.hid hg1
    go_wp2_with (first | (go_at_call 55; (refine HM.out.mono ?_); rintro e w' ⟨rfl, rfl⟩) | (go_at_call 29; (refine HST.out.mono ?_); rintro e v2 ⟨rfl, hm2, hg2⟩))
    go_end0
    exact ⟨rfl, hm2, HG.out.trans hg2⟩
end
end Go.Proofs.YtlgdlaohfkgkfaaGreat
