/-
  The calls that look at a store: is, rider, At, Length, EOF, Room; Seek, Read.
-/
import Derived.Test.YtbpelchampegaaaStoreB
import Derived.WalkMore
namespace Go.Proofs.Ytbpelchampegaaa
open Go.ChangeShapes Go.WideShapes Go.ChangeAt Go.RowKit
set_option linter.unusedVariables false
/-- nothing has changed but what was drawn -/
structure Rest (w w' : World) : Prop where
  os : w'.os = w.os
  tape : w'.tape = w.tape
  output : w'.output = w.output
  heap : w'.heap = w.heap
theorem Rest.refl (w : World) : Rest w w := ⟨rfl, rfl, rfl, rfl⟩
theorem Rest.drew {a b : World} (h : Rest a b) : Rest a b.drew := ⟨h.os, h.tape, h.output, h.heap⟩
theorem Rest.drewN {a b : World} (h : Rest a b) (n : Nat) : Rest a (b.drewN n) := ⟨h.os, h.tape, h.output, h.heap⟩
theorem Rest.trans {a b c : World} (h : Rest a b) (k : Rest b c) : Rest a c := ⟨k.os.trans h.os, k.tape.trans h.tape, k.output.trans h.output, k.heap.trans h.heap⟩
theorem Rest.below {a b : World} (h : Rest a b) (n : Nat) : Below n a b := ⟨h.os, h.tape, h.output, by rw [h.heap]; exact Nat.le_refl _, fun _ _ => by rw [h.heap]⟩
theorem Rest.cell {a b : World} (h : Rest a b) (x : Addr) : b.cell? x = a.cell? x := by unfold World.cell?; rw [h.heap]
theorem Rest.frozen {a b : World} (h : Rest a b) (x : Addr) : b.frozen? x = a.frozen? x := by unfold World.frozen?; rw [h.heap]
theorem StoreAt.rest {w W : World} {B p : Nat} {s : StM} {g : Nat → Tag} (h : StoreAt w B p s g) (hr : Rest w W) : StoreAt W B p s g := h.keep fun b _ _ => by rw [hr.heap]
section
variable {w : World} {B p : Nat} {s : StM} {g : Nat → Tag}
theorem sis_any (h : StoreAt w B p s g) : Calls Try.prog 25 #[.pointer (some ⟨p, 0, none⟩)] w fun e w' => e = .returned (.bool true) ∧ w' = w := by
  obtain ⟨c0, c1, c2, c3, c4, z⟩ := h.cells
  clear h z
  go_enter Try.func25, Try.ntmps25
  go_wp2_with fail
  go_ret
  exact ⟨rfl, rfl⟩
theorem room_any (h : StoreAt w B p s g) : Calls Try.prog 27 #[.pointer (some ⟨p, 0, none⟩)] w fun e w' => e = .returned (.int .i64 ((s.cap : Int) - s.used)) ∧ Rest w w' := by
  obtain ⟨c0, c1, c2, c3, c4, z⟩ := h.cells
  obtain ⟨u1, u2, -, -⟩ := h.used
  have HS := Lib.hid h
  clear h z
  go_enter Try.func27, Try.ntmps27
  go_wp2_with (go_at_call 25; refine (sis_any HS.out).mono ?_; rintro e w' ⟨rfl, rfl⟩)
  go_quiet (fail)
  go_wp2_with fail
  go_ret
  exact ⟨rfl, (Rest.refl _).drewN _⟩
/-- the rider of a number -/
structure Rid (w : World) (s : StM) (f : Int) (i : Nat) (r : Nat × Nat) (b cap : Nat) : Prop where
  num : f = (i : Int) + 1
  at_ : s.rs[i]? = some r
  row : s.rv = .slice (some ⟨b, 0, none⟩) s.rs.length cap
  c0 : w.cell? ⟨b, i * 2, none⟩ = some (.pointer (some ⟨s.blkOf r.1, 0, none⟩))
  c1 : w.cell? ⟨b, i * 2 + 1, none⟩ = some (.int .i64 (r.2 : Nat))
  fz : w.frozen? ⟨b, i * 2 + 1, none⟩ = false
theorem StoreAt.rid (h : StoreAt w B p s g) {i : Nat} {r : Nat × Nat} (hr : s.rs[i]? = some r) {f : Int} (hf : f = (i : Int) + 1) : ∃ b cap, Rid w s f i r b cap ∧ g b = .rd ∧ b < w.heap.size := by
  obtain ⟨b, cap, e, gb, lb, c0, c1, fz⟩ := h.rider hr
  exact ⟨b, cap, ⟨hf, hr, e, c0, c1, fz _⟩, gb, lb⟩
theorem rider_yes (h : StoreAt w B p s g) {f : Int} {i : Nat} {r : Nat × Nat} {b cap : Nat} (hR : Rid w s f i r b cap) : Calls Try.prog 34 #[.pointer (some ⟨p, 0, none⟩), .int .i64 f] w fun e w' => e = .returned (.pointer (some ⟨b, i * 2, none⟩)) ∧ w' = w := by
  obtain ⟨c0, c1, c2, c3, c4, z⟩ := h.cells
  obtain ⟨-, -, u3, -⟩ := h.used
  have HS := Lib.hid h
  obtain ⟨rfl, hi, hrow, -, -, -⟩ := hR
  have hl := (List.getElem?_eq_some_iff.1 hi).1
  rw [hrow] at c4
  clear h z hi
  go_enter Try.func34, Try.ntmps34
  go_wp2_with (go_at_call 25; refine (sis_any HS.out).mono ?_; rintro e w' ⟨rfl, rfl⟩)
  go_ret
  exact ⟨rfl, rfl⟩
theorem rider_no (h : StoreAt w B p s g) {f : Int} (hf : f < 1 ∨ (s.rs.length : Int) < f) : Calls Try.prog 34 #[.pointer (some ⟨p, 0, none⟩), .int .i64 f] w fun e w' => e = .returned (.pointer none) ∧ w' = w := by
  obtain ⟨c0, c1, c2, c3, c4, z⟩ := h.cells
  obtain ⟨-, -, u3, -⟩ := h.used
  have HS := Lib.hid h
  have hrow : ∃ a cap, s.rv = .slice a s.rs.length cap := by
    rcases h.hr.2 with ⟨h1, h2⟩ | ⟨b, cap, cur, h1, -⟩
    · exact ⟨none, 0, by rw [h1, h2]⟩
    · exact ⟨_, cap, h1⟩
  obtain ⟨a, cap, hrow⟩ := hrow
  rw [hrow] at c4
  clear h z hrow
  rcases hf with hf | hf
  · go_enter Try.func34, Try.ntmps34
    go_wp2_with (go_at_call 25; refine (sis_any HS.out).mono ?_; rintro e w' ⟨rfl, rfl⟩)
    go_ret
    exact ⟨rfl, rfl⟩
  · have hn : 1 ≤ f := by omega
    go_enter Try.func34, Try.ntmps34
    go_wp2_with (go_at_call 25; refine (sis_any HS.out).mono ?_; rintro e w' ⟨rfl, rfl⟩)
    go_ret
    exact ⟨rfl, rfl⟩
theorem Rid.file (h : StoreAt w B p s g) {f : Int} {i : Nat} {r : Nat × Nat} {b cap : Nat} (hR : Rid w s f i r b cap) : ∃ q : FileM, s.fs[r.1]? = some q ∧ s.blkOf r.1 = q.blk ∧ r.2 ≤ q.xs.length := by
  obtain ⟨q, hq, hle⟩ := h.rk i r hR.at_
  exact ⟨q, hq, blkOf_at hq, hle⟩
theorem Rid.rest {W : World} {f : Int} {i : Nat} {r : Nat × Nat} {b cap : Nat} (hR : Rid w s f i r b cap) (hr : Rest w W) : Rid W s f i r b cap :=
  ⟨hR.num, hR.at_, hR.row, by rw [hr.cell]; exact hR.c0, by rw [hr.cell]; exact hR.c1, by rw [hr.frozen]; exact hR.fz⟩
theorem at_any (h : StoreAt w B p s g) {f : Int} {i : Nat} {r : Nat × Nat} {b cap : Nat} (hR : Rid w s f i r b cap) : Calls Try.prog 23 #[.pointer (some ⟨p, 0, none⟩), .int .i64 f] w fun e w' => e = .returned (.int .i64 (r.2 : Nat)) ∧ w' = w := by
  have HS := Lib.hid h
  have HR := Lib.hid hR
  obtain ⟨-, -, -, r0, r1, rz⟩ := hR
  clear h
  go_enter Try.func23, Try.ntmps23
  go_wp2_with (go_at_call 34; refine (rider_yes HS.out HR.out).mono ?_; rintro e w' ⟨rfl, rfl⟩)
  go_ret
  exact ⟨rfl, rfl⟩
/-- a file's slice -/
theorem StoreAt.slice (h : StoreAt w B p s g) {i : Nat} {q : FileM} (hq : s.fs[i]? = some q) : ∃ a cap, q.val = .slice a q.xs.length cap ∧ q.xs.length ≤ cap := by
  rcases (h.hd i q hq).2 with ⟨h1, h2⟩ | ⟨b, cap, cur, h1, -, -, hc, -⟩
  · exact ⟨none, 0, by rw [h1, h2], by omega⟩
  · exact ⟨_, cap, h1, hc⟩
theorem length_any (h : StoreAt w B p s g) {f : Int} {i : Nat} {r : Nat × Nat} {b cap : Nat} (hR : Rid w s f i r b cap) {q : FileM} (hq : s.fs[r.1]? = some q) : Calls Try.prog 17 #[.pointer (some ⟨p, 0, none⟩), .int .i64 f] w fun e w' => e = .returned (.int .i64 (q.xs.length : Nat)) ∧ w' = w := by
  have HS := Lib.hid h
  have HR := Lib.hid hR
  obtain ⟨-, -, -, r0, r1, rz⟩ := hR
  rw [blkOf_at hq] at r0
  obtain ⟨f0, f1, f2, -⟩ := h.file hq
  obtain ⟨a, c, e, -⟩ := h.slice hq
  rw [e] at f1
  clear h e
  go_enter Try.func17, Try.ntmps17
  go_wp2_with (go_at_call 34; refine (rider_yes HS.out HR.out).mono ?_; rintro e w' ⟨rfl, rfl⟩)
  go_ret
  exact ⟨rfl, rfl⟩
theorem eof_any (h : StoreAt w B p s g) {f : Int} {i : Nat} {r : Nat × Nat} {b cap : Nat} (hR : Rid w s f i r b cap) {q : FileM} (hq : s.fs[r.1]? = some q) : Calls Try.prog 18 #[.pointer (some ⟨p, 0, none⟩), .int .i64 f] w fun e w' => e = .returned (.bool (r.2 == q.xs.length)) ∧ Rest w w' := by
  have HS := Lib.hid h
  have HR := Lib.hid hR
  obtain ⟨-, -, -, r0, r1, rz⟩ := hR
  rw [blkOf_at hq] at r0
  obtain ⟨f0, f1, f2, -⟩ := h.file hq
  obtain ⟨a, c, e, -⟩ := h.slice hq
  rw [e] at f1
  clear h e
  have hd : ((r.2 : Int) == (q.xs.length : Int)) = (r.2 == q.xs.length) := by
    cases hx : (r.2 == q.xs.length) with
    | true => simp at hx ⊢; omega
    | false => simp at hx ⊢; omega
  go_enter Try.func18, Try.ntmps18
  go_wp2_with (go_at_call 34; refine (rider_yes HS.out HR.out).mono ?_; rintro e w' ⟨rfl, rfl⟩)
  go_quiet (fail)
  go_wp2_with fail
  go_ret
  exact ⟨ret_bool (by simp), (Rest.refl _).drewN _⟩
def seekN (n : Int) (len : Nat) : Nat := if n < 2147483648 then min n.toNat len else 0
theorem setAt_below {i : Nat} {b : Nat} {u : Value} (h : StoreAt w B p s g) (hb : s.rv.ownBlock = some b) : Below B w (w.setCell ⟨b, i, none⟩ u) :=
  Below.setCell (p := ⟨b, i, none⟩) (Below.refl _ _) (h.lr b hb).1 _
theorem seek_any (h : StoreAt w B p s g) {f : Int} {i : Nat} {r : Nat × Nat} {b cap : Nat} (hR : Rid w s f i r b cap) {q : FileM} (hq : s.fs[r.1]? = some q) (n : Int) (n0 : 0 ≤ n) (n1 : n < 4294967296) : Calls Try.prog 21 #[.pointer (some ⟨p, 0, none⟩), .int .i64 f, .int .u32 n] w fun e w' => e = .returned (.tuple #[]) ∧ StoreAt w' B p { s with rs := s.rs.set i (r.1, seekN n q.xs.length) } g ∧ Below B w w' := by
  have HS := Lib.hid h
  have HR := Lib.hid hR
  obtain ⟨-, hi, hrow, r0, r1, rz⟩ := hR
  rw [blkOf_at hq] at r0
  obtain ⟨f0, f1, f2, -⟩ := h.file hq
  obtain ⟨a, c, e, -⟩ := h.slice hq
  have hl : q.xs.length ≤ 67108864 := Nat.le_trans (h.ok _ q hq).2.1 h.used.2.1
  have HP : Hid (∀ m : Nat, m = seekN n q.xs.length → StoreAt (w.setCell ⟨b, i * 2 + 1, none⟩ (.int .i64 (m : Int))) B p { s with rs := s.rs.set i (r.1, seekN n q.xs.length) } g ∧ Below B w (w.setCell ⟨b, i * 2 + 1, none⟩ (.int .i64 (m : Int)))) := Lib.hid fun m hm => by
    rw [hm]
    exact ⟨h.setAt hi hrow ⟨q, hq, by unfold seekN; split <;> omega⟩, setAt_below h (by rw [hrow]; rfl)⟩
  rw [e] at f1
  clear h e hrow hi
  by_cases hn : n < 2147483648
  · go_enter Try.func21, Try.ntmps21
    go_wp2_with (go_at_call 34; refine (rider_yes HS.out HR.out).mono ?_; rintro e w' ⟨rfl, rfl⟩)
    all_goals
      go_end0
      refine ⟨rfl, ?_⟩
    · exact HP.out q.xs.length (by unfold seekN; rw [if_pos hn]; omega)
    · have := HP.out n.toNat (by unfold seekN; rw [if_pos hn]; omega)
      rw [show ((n.toNat : Nat) : Int) = n by omega] at this
      exact this
  · have hw : wrap32 n = n - 4294967296 := by unfold wrap32; omega
    have hw2 : wrap64 (n - 4294967296) = n - 4294967296 := by unfold wrap64; omega
    go_enter Try.func21, Try.ntmps21
    go_wp2_with (go_at_call 34; refine (rider_yes HS.out HR.out).mono ?_; rintro e w' ⟨rfl, rfl⟩)
    all_goals try (exfalso; omega)
    all_goals
      go_end0
      refine ⟨rfl, ?_⟩
      exact HP.out 0 (by unfold seekN; rw [if_neg (by omega)])
/-- the byte at a place -/
theorem read_far (h : StoreAt w B p s g) {f : Int} {i : Nat} {r : Nat × Nat} {b cap : Nat} (hR : Rid w s f i r b cap) {q : FileM} (hq : s.fs[r.1]? = some q) (hlt : r.2 < q.xs.length) : Calls Try.prog 20 #[.pointer (some ⟨p, 0, none⟩), .int .i64 f] w fun e w' => e = .returned (.int .u8 (nth q.xs r.2)) ∧ StoreAt w' B p { s with rs := s.rs.set i (r.1, r.2 + 1) } g ∧ Below B w w' ∧ ∀ c, c ≠ b → w'.heap[c]? = w.heap[c]? := by
  have HS := Lib.hid h
  have HR := Lib.hid hR
  obtain ⟨-, hi, hrow, r0, r1, rz⟩ := hR
  rw [blkOf_at hq] at r0
  obtain ⟨f0, f1, f2, -⟩ := h.file hq
  have hl : q.xs.length ≤ 67108864 := Nat.le_trans (h.ok _ q hq).2.1 h.used.2.1
  obtain ⟨d, c, e, db, dw⟩ := (h.hd _ q hq).form (by omega)
  have hx : w.cell? ⟨d, r.2, none⟩ = some (.int .u8 (nth q.xs r.2)) := by
    have := (h.hd _ q hq).cells (g := d) (by rw [e]; rfl) r.2 (.int .u8 (nth q.xs r.2)) (by unfold vals; rw [List.getElem?_map, List.getElem?_eq_getElem hlt]; simp [nth_eq q.xs r.2 hlt])
    rw [cell_add] at this
    exact this
  have hd2 : ((r.2 : Int) == (q.xs.length : Int)) = false := by simp; omega
  have HP := Lib.hid (h.setAt hi hrow (n := r.2 + 1) ⟨q, hq, hlt⟩)
  have HB := Lib.hid (setAt_below (i := i * 2 + 1) (u := .int .i64 ((r.2 + 1 : Nat) : Int)) h (by rw [hrow]; rfl))
  have hne1 : d ≠ b := tag_ne (h.gd _ q hq d (by rw [e]; rfl)) (h.gr b (by rw [hrow]; rfl)) (by simp)
  have hne2 : q.blk ≠ b := tag_ne (h.gf _ q hq) (h.gr b (by rw [hrow]; rfl)) (by simp)
  have eqv := Lib.hid e
  rw [e] at f1
  clear h e hrow hi
  go_enter Try.func20, Try.ntmps20
  go_wp2_with (go_at_call 34; refine (rider_yes HS.out HR.out).mono ?_; rintro e w' ⟨rfl, rfl⟩)
  go_quiet (fail)
  go_wp2_with fail
  have HV : StoreAt ((w'.drewN nq).setCell ⟨b, i * 2 + 1, none⟩ (.int .i64 ((r.2 : Int) + 1))) B p { s with rs := s.rs.set i (r.1, r.2 + 1) } g := HP.out.rest ⟨rfl, rfl, rfl, rfl⟩
  have HVB : Below B w' ((w'.drewN nq).setCell ⟨b, i * 2 + 1, none⟩ (.int .i64 ((r.2 : Int) + 1))) := HB.out.trans (Rest.below (a := w'.setCell ⟨b, i * 2 + 1, none⟩ (.int .i64 ((r.2 + 1 : Nat) : Int))) (b := (w'.drewN nq).setCell ⟨b, i * 2 + 1, none⟩ (.int .i64 ((r.2 : Int) + 1))) ⟨rfl, rfl, rfl, rfl⟩ B)
  have HVF : Hid (∀ c, c ≠ b → ((w'.drewN nq).setCell ⟨b, i * 2 + 1, none⟩ (.int .i64 ((r.2 : Int) + 1))).heap[c]? = w'.heap[c]?) := Lib.hid fun c hc => Below.heap_setCell _ _ _ _ hc
  have hi := HR.out.at_
  obtain ⟨b2, cap2, e2, -, -, k0, k1, -⟩ := HV.rider (i := i) (r := (r.1, r.2 + 1)) (by show (s.rs.set i (r.1, r.2 + 1))[i]? = _; rw [List.getElem?_set_self (List.getElem?_eq_some_iff.1 hi).1])
  have e3 := HR.out.row
  have e2 : s.rv = _ := e2
  rw [e3] at e2
  obtain ⟨rfl, -⟩ : b = b2 ∧ True := by simp at e2; exact ⟨e2.1, trivial⟩
  have eb : StM.blkOf { s with rs := s.rs.set i (r.1, r.2 + 1) } r.1 = q.blk := blkOf_at (s := s) hq
  rw [eb] at k0
  obtain ⟨m0, m1, m2, -⟩ := HV.file hq
  have hx2 : ((w'.drewN nq).setCell ⟨b, i * 2 + 1, none⟩ (.int .i64 ((r.2 : Int) + 1))).cell? ⟨d, r.2, none⟩ = some (.int .u8 (nth q.xs r.2)) := by
    rw [← hx]
    exact World.cell?_of_block (Below.heap_setCell _ _ _ _ hne1)
  rw [eqv.out] at m1
  replace k1 : ((w'.drewN nq).setCell ⟨b, i * 2 + 1, none⟩ (.int .i64 ((r.2 : Int) + 1))).cell? ⟨b, i * 2 + 1, none⟩ = some (.int .i64 ((r.2 : Int) + 1)) := k1
  clear e2 e3 eb hi r0 r1 rz f0 f1 f2 hx
  replace HV := Lib.hid HV
  replace HVB := Lib.hid HVB
  generalize (w'.drewN nq).setCell ⟨b, i * 2 + 1, none⟩ (.int .i64 ((r.2 : Int) + 1)) = V at *
  clear e2
  go_quiet (fail)
  go_wp2_with fail
  go_ret
  exact ⟨rfl, HV.out.rest ((Rest.refl _).drewN _), HVB.out.trans (((Rest.refl _).drewN _).below B), HVF.out⟩
theorem read_any (h : StoreAt w B p s g) {f : Int} {i : Nat} {r : Nat × Nat} {b cap : Nat} (hR : Rid w s f i r b cap) {q : FileM} (hq : s.fs[r.1]? = some q) (hlt : r.2 < q.xs.length) : Calls Try.prog 20 #[.pointer (some ⟨p, 0, none⟩), .int .i64 f] w fun e w' => e = .returned (.int .u8 (nth q.xs r.2)) ∧ StoreAt w' B p { s with rs := s.rs.set i (r.1, r.2 + 1) } g ∧ Below B w w' :=
  (read_far h hR hq hlt).mono fun e w' ⟨h1, h2, h3, _⟩ => ⟨h1, h2, h3⟩
end
end Go.Proofs.Ytbpelchampegaaa
