/-
  A scanner in memory: texts out of its source; names.
-/
import Derived.Test.YthpdgghjaglhnaaGreatDoorSnF
import Derived.WalkSpells
namespace Go.Proofs.YthpdgghjaglhnaaGreatDoor
open Go.ChangeShapes Go.WideShapes Go.ChangeAt Go.RowKit
open Ev (WRow)
set_option linter.unusedVariables false
set_option linter.unusedSimpArgs false
def strOf (zs : List Int) : ByteArray := zs.foldl (fun r n => r.push (UInt8.ofNat n.toNat)) ByteArray.empty
theorem conv_rd {w : World} {B : Nat} {A : Option Addr} {n : Nat} {zs : List Int} (hr : Rd w B .u8 A n zs) (c : Nat) :
    (convert 22 9 (.slice A n c)).run Tryz.prog w = .ok (.string (strOf zs)) w := by
  rw [run_convert_bytes_string _ _ _ 5 _ _ _ Tryz.underlying22 Tryz.underlying5 Tryz.underlying9]
  rcases A with _ | x
  · have hn : n = 0 := by
      rcases Nat.eq_zero_or_pos n with h | h
      · exact h
      · obtain ⟨x, h2, _⟩ := hr.2 h; simp at h2
    have hz : zs = [] := List.eq_nil_of_length_eq_zero (by have := hr.1; omega)
    subst hz
    simp [Conv.bytesToString, strOf]
  · refine run_bytesToString _ _ _ _ zs ?_
    have h := run_loadCells_list (P := Tryz.prog) w x (zs.map (Value.int .u8)) (fun j v hj => by
      rw [List.getElem?_map] at hj
      obtain ⟨y, hy, rfl⟩ := Option.map_eq_some_iff.1 hj
      obtain ⟨hlt, rfl⟩ := List.getElem?_eq_some_iff.1 hy
      obtain ⟨x', hx, _, hc⟩ := hr.2 (by have := hr.1; omega)
      cases hx
      rw [hc j (by have := hr.1; omega), nth_eq zs j hlt])
    rw [List.length_map, hr.1] at h
    exact h
theorem strOf_size : ∀ (l : List Int) (r : ByteArray), (l.foldl (fun r n => r.push (UInt8.ofNat n.toNat)) r).data.toList = r.data.toList ++ l.map fun n => UInt8.ofNat n.toNat
  | [], r => by simp
  | x :: l, r => by
    rw [List.foldl_cons, strOf_size l]
    simp
def chars (zs : List Int) : List UInt8 := zs.map fun n => UInt8.ofNat n.toNat
theorem strOf_bs (zs : List Int) : strOf zs = bs (chars zs) := by
  have h := strOf_size zs ByteArray.empty
  rw [← bs_data (strOf zs)]
  congr 1
theorem infoB0 : (Tryz.prog.info? 5).map (fun i => (i.zero, i.size, i.bytes)) = some (some (.int .u8 0), 1, 1) := by kernel_rfl
theorem sub_run (A : Option Addr) (n c lo hi : Nat) (h1 : lo ≤ hi) (h2 : hi ≤ n) (h3 : n ≤ c) (W : World) (A2 : Option Addr) (h : (if c = lo then A else A.map (·.add lo)) = A2) :
    (Instr.slice 22 (.slice A n c) (some (.int .i64 (lo : Int))) (some (.int .i64 (hi : Int))) none).run Tryz.prog W = .ok (.slice A2 (hi - lo) (c - lo)) W := by
  subst h
  have g0 : (0 : Int) ≤ (lo : Int) := by omega
  have g1 : (lo : Int) ≤ (hi : Int) := by omega
  have g2 : (0 : Int) ≤ (hi : Int) := by omega
  have g3 : (hi : Int) ≤ (c : Int) := by omega
  have g4 : hi ≤ c := by omega
  obtain ⟨i0, hi, hz0, hz1, hz2⟩ := info_parts infoB0
  simp [Instr.slice, Instr.sliceBounds, Instr.sliceBound, asIntOf, run_underlying (Tryz.underlying22), go_sem, g0, g1, g2, g3, g4, h1, sizeOf, typeInfo, hi, hz1]
section
variable {w : World} {B : Nat} {q : Sp} {s : Sn}
theorem cap_ge (h : SnAt w B q s) {A : Option Addr} {n c : Nat} (hv : q.sv = .slice A n c) : n = s.src.length ∧ n ≤ c := by
  rcases h.src.2 with ⟨e, e0⟩ | ⟨b, f, c', e, hb, hl, h1, h2, h3, h4⟩
  · rw [hv] at e
    injection e with e1 e2 e3
    omega
  · rw [hv] at e
    injection e with e1 e2 e3
    omega
theorem SnAt.rd (h : SnAt w B q s) {A : Option Addr} {n c : Nat} (hv : q.sv = .slice A n c) : Rd w w.heap.size .u8 A n s.src := by
  obtain ⟨e, _⟩ := cap_ge h hv
  refine ⟨e.symm, fun hn => ?_⟩
  rcases h.src.2 with ⟨e, e0⟩ | ⟨b, f, c', e2, hb, hl, h1, h2, h3, h4⟩
  · omega
  · rw [hv] at e2
    injection e2 with e1 e2 e3
    refine ⟨_, e1, hl, fun i hi => ?_⟩
    rw [Ev.add_at]
    refine h3 i _ ?_
    rw [List.getElem?_map, List.getElem?_eq_getElem (by omega), nth_eq _ _ (by omega)]; rfl
theorem Rd.sub {w : World} {B : Nat} {k : IntKind} {A : Option Addr} {n : Nat} {zs : List Int} (h : Rd w B k A n zs) {lo hi c : Nat} (h1 : lo ≤ hi) (h2 : hi ≤ n) (h3 : n ≤ c) : Rd w B k (if c = lo then A else A.map (·.add lo)) (hi - lo) ((zs.drop lo).take (hi - lo)) := by
  refine ⟨by rw [List.length_take, List.length_drop, h.1]; omega, fun hn => ?_⟩
  obtain ⟨x, rfl, hb, hcell⟩ := h.2 (by omega)
  rw [if_neg (by omega)]
  refine ⟨x.add lo, rfl, by rw [block_add]; exact hb, fun i hi => ?_⟩
  rw [add_add, hcell _ (by omega), nth_take _ _ _ hi, nth_drop]
/-- a piece of the source, as a text: in every world where the scanner lies so -/
theorem SnAt.piece (h : SnAt w B q s) {A : Option Addr} {n c : Nat} (hv : q.sv = .slice A n c) (lo hi : Nat) (h1 : lo ≤ hi) (h2 : hi ≤ s.src.length) :
    ∃ A2, (∀ W, (Instr.slice 22 (.slice A n c) (some (.int .i64 (lo : Int))) (some (.int .i64 (hi : Int))) none).run Tryz.prog W = .ok (.slice A2 (hi - lo) (c - lo)) W) ∧
      (∀ V, Below w.heap.size w V → (convert 22 9 (.slice A2 (hi - lo) (c - lo))).run Tryz.prog V = .ok (.string (bs (chars ((s.src.drop lo).take (hi - lo))))) V) ∧
      (Rd w w.heap.size .u8 A2 (hi - lo) ((s.src.drop lo).take (hi - lo))) := by
  obtain ⟨e, hc⟩ := cap_ge h hv
  have hr := Rd.sub (h.rd hv) (lo := lo) (hi := hi) (c := c) h1 (by omega) hc
  refine ⟨_, fun W => sub_run A n c lo hi h1 (by omega) hc W _ rfl, fun V hV => ?_, hr⟩
  rw [← strOf_bs]
  exact conv_rd (hr.below hV) _
def ldB (c : Int) : Bool := letB c || digB c
/-- a name that begins where the scanner stands -/
def nameF (s : Sn) : Sn :=
  let k := tw ldB (s.src.drop s.at_)
  let l := chars ((s.src.drop s.at_).take k)
  let s1 : Sn := { s with at_ := s.at_ + k }
  if 15 < k then markF s1 3 s1.pos
  else if internN s1 l < 0 then internF s1 l
  else if internN s1 l < s.kw then { internF s1 l with sym := 30 + internN s1 l }
  else { internF s1 l with sym := 25, id := internN s1 l }
end
end Go.Proofs.YthpdgghjaglhnaaGreatDoor
