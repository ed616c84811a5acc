/-
  The contracts of package risc, on: what a form takes, jumps, flags.
-/
import Derived.Test.YtlgdlaohfkgkfaaGreatRiscA
import Derived.Laws.Rows
namespace Go.Proofs.YtlgdlaohfkgkfaaGreat
open Go.ChangeShapes Go.WideShapes Go.ChangeAt Go.RowKit
set_option linter.unusedVariables false

def insCells (i : Ins) : Array Value := #[.int .i64 i.form, .bool i.u, .bool i.v, .int .i64 i.a, .int .i64 i.b, .int .i64 i.c, .int .i64 i.op, .int .i64 i.im, .int .i64 i.off, .int .i64 i.cond, .int .i64 i.n]
def flagsI (n z c v : Bool) : Int := bit n * 2147483648 + bit z * 1073741824 + bit c * 536870912 + bit v * 268435456
theorem flagsI_bd (n z c v : Bool) : 0 ≤ flagsI n z c v ∧ flagsI n z c v ≤ 4294967295 := by cases n <;> cases z <;> cases c <;> cases v <;> decide
set_option maxHeartbeats 4000000 in
theorem bits_four (a b c d : Bool) (q : Nat) (w : World) (h0 : w.cell? ⟨q, 0, none⟩ = some (.bool a)) (h1 : w.cell? ⟨q, 1, none⟩ = some (.bool b)) (h2 : w.cell? ⟨q, 2, none⟩ = some (.bool c)) (h3 : w.cell? ⟨q, 3, none⟩ = some (.bool d)) :
    Calls Tryz.prog 125 #[.slice (some ⟨q, 0, none⟩) 4 4] w fun e w' => e = .returned (.int .u32 (bit a * 8 + bit b * 4 + bit c * 2 + bit d)) ∧ w = w' := by
  have o0 : bits BinOp.or IntKind.u32 0 1 = 1 := by decide +kernel
  have o2 : bits BinOp.or IntKind.u32 2 1 = 3 := by decide +kernel
  have o4 : bits BinOp.or IntKind.u32 4 1 = 5 := by decide +kernel
  have o6 : bits BinOp.or IntKind.u32 6 1 = 7 := by decide +kernel
  have o8 : bits BinOp.or IntKind.u32 8 1 = 9 := by decide +kernel
  have o10 : bits BinOp.or IntKind.u32 10 1 = 11 := by decide +kernel
  have o12 : bits BinOp.or IntKind.u32 12 1 = 13 := by decide +kernel
  have o14 : bits BinOp.or IntKind.u32 14 1 = 15 := by decide +kernel
  cases a <;> cases b <;> cases c <;> cases d
  all_goals
    go_enter Tryz.func125, Tryz.ntmps125
    go_wp2
    refine wp_loop_rounds 5 ?_
    iterate 5 (try (rw [rounds_succ]; go_wp2))
    go_ret
    exact ⟨rfl, rfl⟩
theorem flags_any (C : Cpu) (w : World) : Calls Tryz.prog 114 #[.agg (cpuCells C)] w fun e w' => e = .returned (.int .u32 (flagsI C.n C.z C.c C.v)) ∧ Below w.heap.size w w' := by
  obtain ⟨r, h, n, z, c, v, pc⟩ := C
  unfold cpuCells
  dsimp only
  have hn := bit_bd n
  have hz := bit_bd z
  have hc := bit_bd c
  have hv := bit_bd v
  go_enter Tryz.func114, Tryz.ntmps114
  go_wp2_with fail
  with_reducible refine (bits_four n z c v _ _ ?_ ?_ ?_ ?_).mono ?_
  iterate 4 (go_simp)
  rintro e w' ⟨rfl, rfl⟩
  go_wp2
  go_ret
  exact ⟨ret_int (by unfold flagsI; omega), below2 _ _ _⟩

/-- what a FormReg takes -/
def srcI (c : Cpu) (u : Bool) (op : Int) (C : Nat) : Int := if u = false ∨ op ≠ 0 then c.r C else if C = 0 then c.h else flagsI c.n c.z c.c c.v
/-- all cells of a processor's block, one by one -/
structure CpuAt (p : Nat) (c : Cpu) (w : World) : Prop where
  r0 : w.cell? ⟨p, 0, none⟩ = some (.int .u32 (c.r 0))
  r1 : w.cell? ⟨p, 1, none⟩ = some (.int .u32 (c.r 1))
  r2 : w.cell? ⟨p, 2, none⟩ = some (.int .u32 (c.r 2))
  r3 : w.cell? ⟨p, 3, none⟩ = some (.int .u32 (c.r 3))
  r4 : w.cell? ⟨p, 4, none⟩ = some (.int .u32 (c.r 4))
  r5 : w.cell? ⟨p, 5, none⟩ = some (.int .u32 (c.r 5))
  r6 : w.cell? ⟨p, 6, none⟩ = some (.int .u32 (c.r 6))
  r7 : w.cell? ⟨p, 7, none⟩ = some (.int .u32 (c.r 7))
  r8 : w.cell? ⟨p, 8, none⟩ = some (.int .u32 (c.r 8))
  r9 : w.cell? ⟨p, 9, none⟩ = some (.int .u32 (c.r 9))
  r10 : w.cell? ⟨p, 10, none⟩ = some (.int .u32 (c.r 10))
  r11 : w.cell? ⟨p, 11, none⟩ = some (.int .u32 (c.r 11))
  r12 : w.cell? ⟨p, 12, none⟩ = some (.int .u32 (c.r 12))
  r13 : w.cell? ⟨p, 13, none⟩ = some (.int .u32 (c.r 13))
  r14 : w.cell? ⟨p, 14, none⟩ = some (.int .u32 (c.r 14))
  r15 : w.cell? ⟨p, 15, none⟩ = some (.int .u32 (c.r 15))
  kh : w.cell? ⟨p, 16, none⟩ = some (.int .u32 c.h)
  kn : w.cell? ⟨p, 17, none⟩ = some (.bool c.n)
  kz : w.cell? ⟨p, 18, none⟩ = some (.bool c.z)
  kc : w.cell? ⟨p, 19, none⟩ = some (.bool c.c)
  kv : w.cell? ⟨p, 20, none⟩ = some (.bool c.v)
  kpc : w.cell? ⟨p, 21, none⟩ = some (.int .u32 c.pc)
theorem cpuAt {p : Nat} {c : Cpu} {t : TypeId} {w : World} (h : w.heap[p]? = some (.cells (cpuCells c) t (0, 0))) : CpuAt p c w :=
  ⟨cell_at h 0, cell_at h 1, cell_at h 2, cell_at h 3, cell_at h 4, cell_at h 5, cell_at h 6, cell_at h 7, cell_at h 8, cell_at h 9, cell_at h 10, cell_at h 11, cell_at h 12, cell_at h 13, cell_at h 14, cell_at h 15, cell_at h 16, cell_at h 17, cell_at h 18, cell_at h 19, cell_at h 20, cell_at h 21⟩
set_option maxHeartbeats 4000000 in
theorem source_reg (p q : Nat) (c : Cpu) (u : Bool) (op : Int) (C : Nat) (hC : C < 16) (h : u = false ∨ op ≠ 0) (w : World) (hr : w.cell? ⟨p, C, none⟩ = some (.int .u32 (c.r C))) (hu : w.cell? ⟨q, 1, none⟩ = some (.bool u)) (hc : w.cell? ⟨q, 5, none⟩ = some (.int .i64 C)) (ho : w.cell? ⟨q, 6, none⟩ = some (.int .i64 op)) :
    Calls Tryz.prog 92 #[.pointer (some ⟨p, 0, none⟩), .pointer (some ⟨q, 0, none⟩)] w fun e w' => e = .returned (.int .u32 (c.r C)) ∧ Below w.heap.size w w' := by
  have hC1 : (C : Int) < 16 := by omega
  cases u
  · clear h
    go_enter Tryz.func92, Tryz.ntmps92
    go_wp2
    go_quiet (fail)
    go_wp2
    go_ret
    exact ⟨rfl, below_drewN (Below.refl _ _) _⟩
  · have h2' : (op != 0) = true := by simpa using h
    clear h
    go_enter Tryz.func92, Tryz.ntmps92
    go_wp2
    go_quiet (fail)
    go_wp2
    go_ret
    exact ⟨rfl, below_drewN (Below.refl _ _) _⟩
theorem source_h (p q : Nat) (x : Int) (w : World) (hh : w.cell? ⟨p, 16, none⟩ = some (.int .u32 x)) (hu : w.cell? ⟨q, 1, none⟩ = some (.bool true)) (hc : w.cell? ⟨q, 5, none⟩ = some (.int .i64 0)) (ho : w.cell? ⟨q, 6, none⟩ = some (.int .i64 0)) :
    Calls Tryz.prog 92 #[.pointer (some ⟨p, 0, none⟩), .pointer (some ⟨q, 0, none⟩)] w fun e w' => e = .returned (.int .u32 x) ∧ Below w.heap.size w w' := by
  go_enter Tryz.func92, Tryz.ntmps92
  go_wp2
  go_ret
  exact ⟨rfl, Below.refl _ _⟩
theorem source_f (p q : Nat) (c : Cpu) (k : Int) (hk : k ≠ 0) (w : World) (hb : w.heap[p]? = some (.cells (cpuCells c) 53 (0, 0))) (hu : w.cell? ⟨q, 1, none⟩ = some (.bool true)) (hc : w.cell? ⟨q, 5, none⟩ = some (.int .i64 k)) (ho : w.cell? ⟨q, 6, none⟩ = some (.int .i64 0)) :
    Calls Tryz.prog 92 #[.pointer (some ⟨p, 0, none⟩), .pointer (some ⟨q, 0, none⟩)] w fun e w' => e = .returned (.int .u32 (flagsI c.n c.z c.c c.v)) ∧ Below w.heap.size w w' := by
  have h3' : (k == 0) = false := by simp [hk]
  have HB := Lib.hid hb
  have hs : (Tryz.prog.info? 53).map (·.size) = some (cpuCells c).size := by kernel_rfl
  have HS := Lib.hid hs
  clear hk hb hs
  go_enter Tryz.func92, Tryz.ntmps92
  go_wp2_with (first | (with_reducible refine wpList_load_row rfl 53 _ rfl p rfl 53 (cpuCells c) (0, 0) _ HB.out Tryz.underlying53 rfl HS.out ?_) | (go_at_call 114; (with_reducible refine (flags_any _ _).mono ?_); rintro e w' ⟨rfl, bw⟩))
  go_ret
  exact ⟨rfl, bw⟩
/-- all cells of an instruction's block -/
structure InsAt (q : Nat) (i : Ins) (w : World) : Prop where
  kform : w.cell? ⟨q, 0, none⟩ = some (.int .i64 i.form)
  ku : w.cell? ⟨q, 1, none⟩ = some (.bool i.u)
  kv : w.cell? ⟨q, 2, none⟩ = some (.bool i.v)
  ka : w.cell? ⟨q, 3, none⟩ = some (.int .i64 i.a)
  kb : w.cell? ⟨q, 4, none⟩ = some (.int .i64 i.b)
  kc : w.cell? ⟨q, 5, none⟩ = some (.int .i64 i.c)
  kop : w.cell? ⟨q, 6, none⟩ = some (.int .i64 i.op)
  kim : w.cell? ⟨q, 7, none⟩ = some (.int .i64 i.im)
  koff : w.cell? ⟨q, 8, none⟩ = some (.int .i64 i.off)
  kcond : w.cell? ⟨q, 9, none⟩ = some (.int .i64 i.cond)
  kn : w.cell? ⟨q, 10, none⟩ = some (.int .i64 i.n)
theorem insAt {q : Nat} {i : Ins} {t : TypeId} {w : World} (h : w.heap[q]? = some (.cells (insCells i) t (0, 0))) : InsAt q i w :=
  ⟨cell_at h 0, cell_at h 1, cell_at h 2, cell_at h 3, cell_at h 4, cell_at h 5, cell_at h 6, cell_at h 7, cell_at h 8, cell_at h 9, cell_at h 10⟩
theorem source_any (p q : Nat) (c : Cpu) (i : Ins) (C : Nat) (hC : C < 16) (hi : i.c = C) (w : World) (hb : w.heap[p]? = some (.cells (cpuCells c) 53 (0, 0))) (hq : InsAt q i w) :
    Calls Tryz.prog 92 #[.pointer (some ⟨p, 0, none⟩), .pointer (some ⟨q, 0, none⟩)] w fun e w' => e = .returned (.int .u32 (srcI c i.u i.op C)) ∧ Below w.heap.size w w' := by
  have hc := hq.kc
  rw [hi] at hc
  by_cases h : i.u = false ∨ i.op ≠ 0
  · rw [show srcI c i.u i.op C = c.r C from if_pos h]
    exact source_reg p q c i.u i.op C hC h w ((cell_at hb C).trans (reg_cell c C hC)) hq.ku hc hq.kop
  · have hu := hq.ku
    have ho := hq.kop
    rw [show i.u = true by by_cases h' : i.u = true <;> simp_all] at hu
    rw [show i.op = 0 by by_cases h' : i.op = 0 <;> simp_all] at ho
    by_cases h3 : C = 0
    · subst h3
      rw [show srcI c i.u i.op 0 = c.h by unfold srcI; rw [if_neg h, if_pos rfl]]
      exact source_h p q c.h w (cell_at hb 16) hu hc ho
    · rw [show srcI c i.u i.op C = flagsI c.n c.z c.c c.v by unfold srcI; rw [if_neg h, if_neg h3]]
      exact source_f p q c C (by omega) w hb hu hc ho

/-- a jump: to Off words behind the next one, or to the register's word; V keeps where it came from -/
def jumpTo (c : Cpu) (form off : Int) (C : Nat) : Int := if form = 5 then c.r C / 4 else w32 (c.pc + off)
def jumpC (c : Cpu) (form : Int) (v : Bool) (off : Int) (C : Nat) : Cpu := { c with r := if v then upd c.r 15 (w32 (4 * c.pc)) else c.r, pc := jumpTo c form off C }
set_option maxHeartbeats 4000000 in
theorem jump_any (p q : Nat) (c : Cpu) (i : Ins) (C : Nat) (hC : C < 16) (hi : i.c = C) (w : World) (hb : w.heap[p]? = some (.cells (cpuCells c) 53 (0, 0))) (hq : InsAt q i w) (r0 : 0 ≤ c.r C) (r1 : c.r C ≤ 4294967295) (o0 : -9223372036854775808 ≤ i.off) (o1 : i.off ≤ 9223372036854775807) (hf : i.form = 4 ∨ i.form = 5) :
    Calls Tryz.prog 95 #[.pointer (some ⟨p, 0, none⟩), .pointer (some ⟨q, 0, none⟩)] w fun e w' => e = .returned (.tuple #[]) ∧ Turn p (.cells (cpuCells (jumpC c i.form i.v i.off C)) 53 (0, 0)) w w' := by
  have hc := hq.kc
  rw [hi] at hc
  have hfm := hq.kform
  have hv := hq.kv
  have ho := hq.koff
  have hr := (cell_at hb C).trans (reg_cell c C hC)
  have hpc : w.cell? ⟨p, 21, none⟩ = some (.int .u32 c.pc) := cell_at hb 21
  have h15 : w.cell? ⟨p, 15, none⟩ = some (.int .u32 (c.r 15)) := cell_at hb 15
  have hfr : ∀ o, w.frozen? ⟨p, o, none⟩ = false := free_at hb
  have hC1 : (C : Int) < 16 := by omega
  have T := Lib.hid (Turn.refl hb)
  obtain ⟨rc, hrc⟩ : ∃ rc, c.r C = rc := ⟨_, rfl⟩
  rw [hrc] at hr r0 r1
  have HR := Lib.hid hrc
  generalize i.off = off at *
  clear hrc
  clear hi hq hb
  rcases hf with hf | hf <;> cases hvv : i.v <;> rw [hvv] at hv <;> rw [hf] at hfm <;> rw [hf] <;> clear hf hvv
  case inl.false =>
    go_enter Tryz.func95, Tryz.ntmps95
    go_wp2
    go_quiet (fail)
    go_wp2
    go_end0
    exact ⟨rfl, ((T.out.drewN _).setCell 21 _).to (set_pc _ _)⟩
  case inl.true =>
    go_enter Tryz.func95, Tryz.ntmps95
    go_wp2
    go_quiet (fail)
    go_wp2
    go_region
    all_goals go_wp2
    go_end0
    exact ⟨rfl, ((((T.out.drewN _).setCell 15 _).to (reg_set _ 15 (by omega) _)).setCell 21 _).to (set_pc _ _)⟩
  case inr.false =>
    go_enter Tryz.func95, Tryz.ntmps95
    go_wp2
    go_quiet (fail)
    go_wp2
    go_quiet (fail)
    go_wp2
    go_end0
    refine ⟨rfl, ?_⟩
    unfold jumpC jumpTo
    rw [HR.out]
    exact ((T.out.drewN _).setCell 21 _).to (set_pc _ _)
  case inr.true =>
    go_enter Tryz.func95, Tryz.ntmps95
    go_wp2
    go_quiet (fail)
    go_wp2
    go_quiet (fail)
    go_wp2
    go_region
    all_goals go_wp2
    go_end0
    refine ⟨rfl, ?_⟩
    unfold jumpC jumpTo
    rw [HR.out]
    exact ((((T.out.drewN _).setCell 15 _).to (reg_set _ 15 (by omega) _)).setCell 21 _).to (set_pc _ _)
end Go.Proofs.YtlgdlaohfkgkfaaGreat
