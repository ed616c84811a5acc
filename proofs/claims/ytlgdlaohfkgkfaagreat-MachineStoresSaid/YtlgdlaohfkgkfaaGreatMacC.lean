/-
  A machine in memory: its processor is handed out, and taken; how it stopped; a call's answer.
-/
import Derived.Test.YtlgdlaohfkgkfaaGreatMacB
import Derived.Laws.Rows
import Derived.Laws.Tables
import Derived.Deep.WholeRow
import Derived.Deep.Cut
namespace Go.Proofs.YtlgdlaohfkgkfaaGreat
open Go.ChangeShapes Go.WideShapes Go.ChangeAt Go.RowKit
set_option linter.unusedVariables false
set_option linter.unusedSimpArgs false
theorem mcpu_size (c : Cpu) : (Tryz.prog.info? 53).map (·.size) = some (cpuCells c).size := by kernel_rfl
theorem mcpu_len (c : Cpu) : (Tryz.prog.info? 53).map (·.size) = some (cpuCells c).toList.length := by kernel_rfl
theorem mcpu_one (c : Cpu) : (cpuCells c).all (·.oneCell') = true := by simp [cpuCells, Value.oneCell']
theorem mbelow1 (w : World) (a : Obj) : Below w.heap.size w (w.alloc a) := (Below.refl _ _).alloc (Nat.le_refl _) _
theorem mbelow_setRow {B g : Nat} {w0 w : World} (hb : Below B w0 w) (hBg : B ≤ g) (cs : Array Value) : Below B w0 (w.setRow g cs) :=
  ⟨hb.os, hb.tape, hb.output, by simpa using hb.size, fun k hk => (setRow_other w g k cs (by omega)).trans (hb.block k hk)⟩
theorem mtwo_rows (w : World) (cs ds : Array Value) (t u : TypeId) : ((w.alloc (.cells cs t)).alloc (.cells ds u)).heap[w.heap.size]? = some (.cells cs t (0, 0)) ∧ ((w.alloc (.cells cs t)).alloc (.cells ds u)).heap[w.heap.size + 1]? = some (.cells ds u (0, 0)) := by
  refine ⟨((mbelow1 _ _).block _ (by simp)).trans (heap_alloc_last _ _), ?_⟩
  have h := heap_alloc_last (w.alloc (.cells cs t)) (.cells ds u)
  rw [show (w.alloc (.cells cs t)).heap.size = w.heap.size + 1 by simp] at h
  exact h
def mcpu0 : Cpu := ⟨fun _ => 0, 0, false, false, false, false, 0⟩
def stopC (k c : Int) : Array Value := #[.int .i64 k, .int .u32 c]
def stopV (k c : Int) : Value := .agg (stopC k c)
theorem mstop_size (k c : Int) : (Tryz.prog.info? 57).map (·.size) = some (stopC k c).size := by kernel_rfl
theorem mstop_len (k c : Int) : (Tryz.prog.info? 57).map (·.size) = some (stopC k c).toList.length := by kernel_rfl
theorem mstop_one (k c : Int) : (stopC k c).all (·.oneCell') = true := by simp [stopC, Value.oneCell']
section
variable {w : World} {B : Nat} {p : Mp} {m : Mc}
set_option maxHeartbeats 2000000 in
theorem cpu_any (h : MAt w B p m) : Calls Tryz.prog 18 #[.pointer (some ⟨p.b, 0, none⟩)] w fun e w' => e = .returned (.agg (cpuCells m.cpu)) ∧ Below w.heap.size w w' := by
  have HI := Lib.hid (is_any (h.next (mbelow1 w (.cells (cpuCells mcpu0) 53))))
  have HC := Lib.hid (h.next (mbelow1 w (.cells (cpuCells mcpu0) 53))).cpu
  have HS := Lib.hid (mcpu_size m.cpu)
  have HL := Lib.hid (mcpu_len m.cpu)
  have H3 := Lib.hid (mcpu_one m.cpu)
  have HZ := Lib.hid (heap_alloc_last w (.cells (cpuCells mcpu0) 53))
  have HW := Lib.hid (mbelow1 w (.cells (cpuCells mcpu0) 53))
  go_enter Tryz.func18, Tryz.ntmps18
  go_upto_region 1 with (fail)
  change Code.wp _ _ _ _ (w.alloc (.cells (cpuCells mcpu0) 53))
  generalize w.alloc (.cells (cpuCells mcpu0) 53) = W at HI HC HZ HW ⊢
  go_wp2_with (first | (go_at_call 35; (with_reducible refine HI.out.mono ?_); rintro e w' ⟨rfl, rfl⟩) | (with_reducible refine wpList_load_mid rfl 53 _ rfl p.b 0 rfl (cpuCells m.cpu).toList _ HC.out Tryz.underlying53 rfl HL.out ?_; rw [Array.toArray_toList]) | (with_reducible refine wpList_store_row rfl 53 _ _ rfl w.heap.size (cpuCells m.cpu) rfl rfl 53 _ HZ.out HS.out rfl H3.out ?_))
  exact bodyPost_ret (results_cell_row rfl _ _ w.heap.size 53 (cpuCells m.cpu) (0, 0) _ rfl (setRow_heap _ _ _ _ _ _ HZ.out) Tryz.underlying53 rfl HS.out) rfl ⟨rfl, mbelow_setRow HW.out (Nat.le_refl _) _⟩
set_option maxHeartbeats 2000000 in
theorem setcpu_any (h : MAt w B p m) (hB : B ≤ w.heap.size) (c : Cpu) : Calls Tryz.prog 19 #[.pointer (some ⟨p.b, 0, none⟩), .agg (cpuCells c)] w fun e w' => e = .returned (.int .i64 0) ∧ MAt w' B p { m with cpu := c } ∧ Chg p w w' := by
  have HM := Lib.hid (h.next (mbelow1 w (.cells (cpuCells c) 53)))
  have HI := Lib.hid (is_any HM.out)
  have HG := Lib.hid (Chg.ofBelow (p := p) (mbelow1 w (.cells (cpuCells c) 53)))
  have HS := Lib.hid (mcpu_size c)
  have H3 := Lib.hid (mcpu_one c)
  have HZ := Lib.hid (heap_alloc_last w (.cells (cpuCells c) 53))
  have HB0 : Hid ((w.alloc (.cells (cpuCells c) 53)).there p.b 0 (cpuCells c).size) := Lib.hid fun j hj => HM.out.bt j (by have : (cpuCells c).size = 22 := rfl; omega)
  go_enter Tryz.func19, Tryz.ntmps19
  go_upto_region 1 with (fail)
  change Code.wp _ _ _ _ (w.alloc (.cells (cpuCells c) 53))
  generalize w.alloc (.cells (cpuCells c) 53) = W at HM HI HZ HG HB0 ⊢
  go_wp2_with (first | (go_at_call 35; (with_reducible refine HI.out.mono ?_); rintro e w' ⟨rfl, rfl⟩) | (with_reducible refine wpList_load_row rfl 53 _ rfl w.heap.size rfl 53 (cpuCells c) (0, 0) _ HZ.out Tryz.underlying53 rfl HS.out ?_) | (with_reducible refine wpList_store_mid rfl 53 _ _ rfl p.b 0 (cpuCells c) rfl rfl HB0.out HS.out H3.out ?_))
  go_ret
  exact ⟨rfl, HM.out.put 0 (cpuCells c).toList { m with cpu := c } (by show 0 + 22 ≤ 28; omega) rfl rfl rfl, Chg.setCells p.b (.inl rfl) _ 0 _ HG.out⟩
set_option maxHeartbeats 2000000 in
theorem stopped_any (h : MAt w B p m) : Calls Tryz.prog 22 #[.pointer (some ⟨p.b, 0, none⟩)] w fun e w' => e = .returned (stopV m.kind m.code) ∧ Below w.heap.size w w' := by
  have HM := Lib.hid (h.next (mbelow1 w (.cells (stopC 0 0) 57)))
  have HI := Lib.hid (is_any HM.out)
  have HC : Hid ((w.alloc (.cells (stopC 0 0) 57)).rangeAt p.b 24 (stopC m.kind m.code).toList) := Lib.hid fun j v hv => by
    have hj : j < 2 := (List.getElem?_eq_some_iff.1 hv).1
    have : j = 0 ∨ j = 1 := by omega
    rcases this with rfl | rfl
    · cases hv; exact HM.out.kd
    · cases hv; exact HM.out.cd
  have HS := Lib.hid (mstop_size m.kind m.code)
  have HL := Lib.hid (mstop_len m.kind m.code)
  have H3 := Lib.hid (mstop_one m.kind m.code)
  have HZ := Lib.hid (heap_alloc_last w (.cells (stopC 0 0) 57))
  have HW := Lib.hid (mbelow1 w (.cells (stopC 0 0) 57))
  go_enter Tryz.func22, Tryz.ntmps22
  go_upto_region 1 with (fail)
  change Code.wp _ _ _ _ (w.alloc (.cells (stopC 0 0) 57))
  generalize w.alloc (.cells (stopC 0 0) 57) = W at HI HC HZ HW ⊢
  go_wp2_with (first | (go_at_call 35; (with_reducible refine HI.out.mono ?_); rintro e w' ⟨rfl, rfl⟩) | (with_reducible refine wpList_load_mid rfl 57 _ rfl p.b 24 rfl (stopC m.kind m.code).toList _ HC.out Tryz.underlying57 rfl HL.out ?_; rw [Array.toArray_toList]) | (with_reducible refine wpList_store_row rfl 57 _ _ rfl w.heap.size (stopC m.kind m.code) rfl rfl 57 _ HZ.out HS.out rfl H3.out ?_))
  exact bodyPost_ret (results_cell_row rfl _ _ w.heap.size 57 (stopC m.kind m.code) (0, 0) _ rfl (setRow_heap _ _ _ _ _ _ HZ.out) Tryz.underlying57 rfl HS.out) rfl ⟨rfl, mbelow_setRow HW.out (Nat.le_refl _) _⟩
def ansC' (c : Cpu) (x : Int) : Cpu := { c with r := upd c.r 0 x }
set_option maxHeartbeats 2000000 in
theorem answered_any (C : Cpu) (x : Int) (w : World) : Calls Tryz.prog 98 #[.agg (cpuCells C), .int .u32 x] w fun e w' => e = .returned (.agg (cpuCells (ansC' C x))) ∧ Below w.heap.size w w' := by
  obtain ⟨hb, hz⟩ := mtwo_rows w (cpuCells C) (cpuCells mcpu0) 53 53
  have HB := Lib.hid hb
  have HZ := Lib.hid hz
  have HW := (mbelow1 w (.cells (cpuCells C) 53)).alloc (by simp) (.cells (cpuCells mcpu0) 53)
  clear hb hz
  go_enter Tryz.func98, Tryz.ntmps98
  go_upto_region 1 with (fail)
  change Code.wp _ _ _ _ ((w.alloc (.cells (cpuCells C) 53)).alloc (.cells (cpuCells mcpu0) 53))
  generalize (w.alloc (.cells (cpuCells C) 53)).alloc (.cells (cpuCells mcpu0) 53) = W at HB HZ HW ⊢
  have hca : W.cell? ⟨w.heap.size, 0, none⟩ = some (.int .u32 (C.r 0)) := cell_at HB.out 0
  have hfr : W.frozen? ⟨w.heap.size, 0, none⟩ = false := free_at HB.out 0
  go_upto_region 2 with (fail)
  have t3 := ((Turn.refl HB.out).setCell 0 (.int .u32 x)).to (cs' := cpuCells (ansC' C x)) (reg_set C 0 (by omega) x)
  have HL := Lib.hid t3.at_
  have HZ2 := Lib.hid ((t3.block (w.heap.size + 1) (Turn.lt HZ.out) (by omega)).trans HZ.out)
  have HW2 : Below w.heap.size w _ := HW.trans (t3.below (Nat.le_refl _) HW.size)
  generalize W.setCell ⟨w.heap.size, 0, none⟩ (.int .u32 x) = W2 at HL HZ2 HW2 ⊢
  clear hca hfr
  have HS := Lib.hid (mcpu_size (ansC' C x))
  have H3 := Lib.hid (mcpu_one (ansC' C x))
  go_wp2_with (first | (with_reducible refine wpList_load_row rfl 53 _ rfl w.heap.size rfl 53 (cpuCells (ansC' C x)) (0, 0) _ HL.out Tryz.underlying53 rfl HS.out ?_) | (with_reducible refine wpList_store_row rfl 53 _ _ rfl (w.heap.size + 1) (cpuCells (ansC' C x)) rfl rfl 53 _ HZ2.out HS.out rfl H3.out ?_))
  exact bodyPost_ret (results_cell_row rfl _ _ (w.heap.size + 1) 53 (cpuCells (ansC' C x)) (0, 0) _ rfl (setRow_heap _ _ _ _ _ _ HZ2.out) Tryz.underlying53 rfl HS.out) rfl ⟨rfl, mbelow_setRow HW2 (by omega) _⟩
set_option maxHeartbeats 2000000 in
theorem answer_any (h : MAt w B p m) (x : Int) : Calls Tryz.prog 72 #[.pointer (some ⟨p.b, 0, none⟩), .int .u32 x] w fun e w' => e = .returned (.tuple #[]) ∧ MAt w' B p { m with cpu := ansC' m.cpu x } ∧ Chg p w w' := by
  have HA := Lib.hid (answered_any m.cpu x w)
  have HC := Lib.hid h.cpu
  have HM := Lib.hid h
  have HS := Lib.hid (mcpu_size (ansC' m.cpu x))
  have HL := Lib.hid (mcpu_len m.cpu)
  have H3 := Lib.hid (mcpu_one (ansC' m.cpu x))
  go_enter Tryz.func72, Tryz.ntmps72
  go_wp2_with (first | (go_at_call 98; (with_reducible refine HA.out.mono ?_); rintro e w1 ⟨rfl, hb⟩; replace HM := Lib.hid (HM.out.next hb); have HB0 : Hid (w1.there p.b 0 (cpuCells (ansC' m.cpu x)).size) := Lib.hid fun j hj => HM.out.bt j (by have : (cpuCells (ansC' m.cpu x)).size = 22 := rfl; omega); have HG := Lib.hid (Chg.ofBelow (p := p) hb)) | (with_reducible refine wpList_load_mid rfl 53 _ rfl p.b 0 rfl (cpuCells m.cpu).toList _ HC.out Tryz.underlying53 rfl HL.out ?_; rw [Array.toArray_toList]) | (with_reducible refine wpList_store_mid rfl 53 _ _ rfl p.b 0 (cpuCells (ansC' m.cpu x)) rfl rfl HB0.out HS.out H3.out ?_))
  go_end0
  exact ⟨rfl, HM.out.put 0 (cpuCells (ansC' m.cpu x)).toList { m with cpu := ansC' m.cpu x } (by show 0 + 22 ≤ 28; omega) rfl rfl rfl, Chg.setCells p.b (.inl rfl) _ 0 _ HG.out⟩
end
end Go.Proofs.YtlgdlaohfkgkfaaGreat
