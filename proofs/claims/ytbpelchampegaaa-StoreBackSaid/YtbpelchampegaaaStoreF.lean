/-
  Bytes written behind a rider, all of them: put, Write, WriteWord.
-/
import Derived.Test.YtbpelchampegaaaStoreE
namespace Go.Proofs.Ytbpelchampegaaa
open Go.ChangeShapes Go.WideShapes Go.ChangeAt Go.RowKit
set_option linter.unusedVariables false
def wroteL : List Int → Nat → List Int → List Int
  | xs, _, [] => xs
  | xs, n, z :: zs => wroteL (wrote xs n z) (n + 1) zs
theorem wrote_len (xs : List Int) (n : Nat) (x : Int) (h : n ≤ xs.length) : (wrote xs n x).length = max xs.length (n + 1) := by
  unfold wrote
  split
  · simp; omega
  · simp; omega
theorem wroteL_snoc (zs : List Int) (z : Int) : ∀ (xs : List Int) (n : Nat), wroteL xs n (zs ++ [z]) = wrote (wroteL xs n zs) (n + zs.length) z := by
  induction zs with
  | nil => intro xs n; simp [wroteL]
  | cons y zs ih =>
    intro xs n
    simp only [List.cons_append, wroteL, List.length_cons]
    rw [ih]
    congr 1
    omega
theorem wroteL_len (zs : List Int) : ∀ (xs : List Int) (n : Nat), n ≤ xs.length → (wroteL xs n zs).length = max xs.length (n + zs.length) := by
  induction zs with
  | nil => intro xs n h; simp [wroteL]; omega
  | cons z zs ih =>
    intro xs n h
    have := wrote_len xs n z h
    simp only [wroteL, List.length_cons]
    rw [ih _ _ (by omega), this]
    omega
theorem nth_eq' (zs : List Int) (j : Nat) (h : j < zs.length) : zs[j] = nth zs j := by
  have := nth_eq zs j h
  first | exact this | exact this.symm
/-- the state behind so many bytes -/
def StM.puts (s : StM) (i : Nat) (r : Nat × Nat) (q : FileM) (v : Value) (zs : List Int) : StM :=
  { s with fs := s.fs.set r.1 { q with val := v, xs := wroteL q.xs r.2 zs }, rs := s.rs.set i (r.1, r.2 + zs.length), used := s.used + (r.2 + zs.length - q.xs.length) }
theorem puts_nil {s : StM} {i : Nat} {r : Nat × Nat} {q : FileM} (hi : s.rs[i]? = some r) (hq : s.fs[r.1]? = some q) (hle : r.2 ≤ q.xs.length) : s.puts i r q q.val [] = s := by
  unfold StM.puts wroteL
  have e1 : s.fs.set r.1 { q with val := q.val, xs := q.xs } = s.fs := by
    have := (List.getElem?_eq_some_iff.1 hq)
    apply List.ext_getElem?
    intro j
    by_cases e : r.1 = j
    · subst e; rw [List.getElem?_set_self this.1, hq]
    · rw [List.getElem?_set_ne e]
  have e2 : s.rs.set i (r.1, r.2 + ([] : List Int).length) = s.rs := by
    have := (List.getElem?_eq_some_iff.1 hi)
    apply List.ext_getElem?
    intro j
    by_cases e : i = j
    · subst e; rw [List.getElem?_set_self this.1, hi]; rfl
    · rw [List.getElem?_set_ne e]
  have e3 : s.used + (r.2 + ([] : List Int).length - q.xs.length) = s.used := by simp; omega
  rw [e1, e2, e3]
theorem puts_wrote {s : StM} {i : Nat} {r : Nat × Nat} {q : FileM} {v v' : Value} {zs : List Int} {z : Int} (hle : r.2 ≤ q.xs.length) :
    (s.puts i r q v zs).wrote i (r.1, r.2 + zs.length) { q with val := v, xs := wroteL q.xs r.2 zs } v' z = s.puts i r q v' (zs ++ [z]) := by
  have hl := wroteL_len zs q.xs r.2 hle
  unfold StM.wrote StM.puts
  simp only [List.set_set]
  rw [wroteL_snoc]
  have e : (if r.2 + zs.length = (wroteL q.xs r.2 zs).length then s.used + (r.2 + zs.length - q.xs.length) + 1 else s.used + (r.2 + zs.length - q.xs.length)) = s.used + (r.2 + (zs ++ [z]).length - q.xs.length) := by
    rw [hl]
    simp only [List.length_append, List.length_singleton]
    split <;> omega
  rw [e]
  simp [Nat.add_assoc]
section
variable {w : World} {B p : Nat} {s : StM} {g : Nat → Tag}
theorem room_q (h : StoreAt w B p s g) : Calls Try.prog 27 #[.pointer (some ⟨p, 0, none⟩)] w fun e w' => e = .returned (.int .i64 ((s.cap : Int) - s.used)) ∧ ∃ m, w' = w.drewN m := by
  obtain ⟨c0, c1, c2, c3, c4, z⟩ := h.cells
  obtain ⟨u1, u2, -, -⟩ := h.used
  have HS := Lib.hid h
  clear h z
  go_enter Try.func27, Try.ntmps27
  go_wp2_with (go_at_call 25; refine (sis_any HS.out).mono ?_; rintro e w' ⟨rfl, rfl⟩)
  go_quiet (fail)
  go_wp2_with fail
  go_ret
  exact ⟨rfl, _, rfl⟩
/-- where put stands, so many bytes on -/
structure PutAt (w W : World) (B p : Nat) (s : StM) (i : Nat) (r : Nat × Nat) (q : FileM) (zs : List Int) (v : Value) (b : Nat) : Prop where
  st : ∃ g, StoreAt W B p (s.puts i r q v zs) g
  bel : Below B w W
  far : Far w W p b q v
  sz : w.heap.size ≤ W.heap.size
theorem PutAt.next {w W W' : World} {B p : Nat} {s : StM} {i : Nat} {r : Nat × Nat} {q : FileM} {zs : List Int} {v v' : Value} {b : Nat} {z : Int} (h : PutAt w W B p s i r q zs v b) (hle : r.2 ≤ q.xs.length) (hs : ∃ g, StoreAt W' B p ((s.puts i r q v zs).wrote i (r.1, r.2 + zs.length) { q with val := v, xs := wroteL q.xs r.2 zs } v' z) g) (hb : Below B W W')
    (hf : Far W W' p b { q with val := v, xs := wroteL q.xs r.2 zs } v') : PutAt w W' B p s i r q (zs ++ [z]) v' b := by
  rw [puts_wrote hle] at hs
  refine ⟨hs, h.bel.trans hb, ⟨fun c hc h1 h2 h3 h4 => ?_, fun c hc => ?_⟩, Nat.le_trans h.sz hb.size⟩
  · rw [hf.1 c (Nat.lt_of_lt_of_le hc h.sz) h1 h2 h3 fun e => ?_]
    · exact h.far.1 c hc h1 h2 h3 h4
    · rcases h.far.2 c e.symm with e2 | e2
      · exact h4 e2.symm
      · omega
  · rcases hf.2 c hc with e | e
    · exact h.far.2 c e
    · have := h.sz; right; omega
theorem rid_puts {W : World} {B p : Nat} {s : StM} {g : Nat → Tag} {f : Int} {i : Nat} {r : Nat × Nat} {b cap : Nat} {q : FileM} {v : Value} {zs : List Int} (hn : f = (i : Int) + 1) (hi : s.rs[i]? = some r) (hrow : s.rv = .slice (some ⟨b, 0, none⟩) s.rs.length cap) (h : StoreAt W B p (s.puts i r q v zs) g) : Rid W (s.puts i r q v zs) f i (r.1, r.2 + zs.length) b cap := by
  have hl := (List.getElem?_eq_some_iff.1 hi).1
  have hi2 : (s.puts i r q v zs).rs[i]? = some (r.1, r.2 + zs.length) := by show (s.rs.set i _)[i]? = _; rw [List.getElem?_set_self hl]
  obtain ⟨b2, c2, hR, -, -⟩ := h.rid hi2 hn
  have e : s.rv = .slice (some ⟨b2, 0, none⟩) (s.rs.set i (r.1, r.2 + zs.length)).length c2 := hR.row
  rw [hrow] at e
  simp at e
  obtain ⟨rfl, rfl⟩ := e
  exact hR
set_option maxHeartbeats 4000000 in
theorem put_any (h : StoreAt w B p s g) (hBw : B ≤ w.heap.size) {f : Int} {i : Nat} {r : Nat × Nat} {b cap : Nat} (hR : Rid w s f i r b cap) {q : FileM} (hq : s.fs[r.1]? = some q) (hle : r.2 ≤ q.xs.length) {A : Option Addr} {n c : Nat} {zs : List Int} (hrd : Rd w w.heap.size .u8 A n zs) (hsep : ∀ x, A = some x → x.block ≠ p ∧ x.block ≠ b ∧ x.block ≠ q.blk ∧ some x.block ≠ q.val.ownBlock)
    (hz : ∀ z ∈ zs, 0 ≤ z ∧ z ≤ 255) (hn : n ≤ 100000) (hroom : s.used + (r.2 + n - q.xs.length) ≤ s.cap) (hcap : r.2 + n ≤ s.cap) :
    Calls Try.prog 31 #[.pointer (some ⟨p, 0, none⟩), .int .i64 f, .slice A n c] w fun e w' => e = .returned (.int .i64 0) ∧ ∃ v, PutAt w w' B p s i r q zs v b := by
  have hl : q.xs.length ≤ 67108864 := Nat.le_trans (h.ok _ q hq).2.1 h.used.2.1
  obtain ⟨hu1, hu2, -, -⟩ := h.used
  obtain ⟨a, c2, eqv, hc⟩ := h.slice hq
  have HW := Lib.hid (Wf.of h hR hq eqv)
  obtain ⟨r0, r1, rz, f1, fz, c2', pz⟩ := HW.out
  have HS := Lib.hid h
  have HR := Lib.hid hR
  have hlz : zs.length = n := hrd.1
  have HD := Lib.hid hrd
  have HZ := Lib.hid hz
  have HP : Hid (PutAt w w B p s i r q [] q.val b) := Lib.hid ⟨⟨g, by rw [puts_nil hR.at_ hq hle]; exact h⟩, Below.refl _ _, ⟨fun _ _ _ _ _ _ => rfl, fun _ h => .inl h⟩, Nat.le_refl _⟩
  have HSEP := Lib.hid hsep
  have hd : decide ((r.2 : Int) + n - q.xs.length > (s.cap : Int) - s.used) = false := by simp; omega
  clear h hR hrd hz hsep eqv
  go_enter Try.func31, Try.ntmps31
  go_wp2_with (first | (go_at_call 25; refine (sis_any HS.out).mono ?_; rintro e w' ⟨rfl, rfl⟩) | (go_at_call 34; refine (rider_yes HS.out HR.out).mono ?_; rintro e w' ⟨rfl, rfl⟩))
  go_quiet ((go_at_call 27; exact Calls.quiet_of (room_q (HS.out.rest ((Rest.refl _).drewN _)))))
  go_wp2_with fail
  replace HP : Hid (PutAt w' (w'.drewN nq) B p s i r q [] q.val b) := Lib.hid ⟨by obtain ⟨g', hg'⟩ := HP.out.st; exact ⟨g', hg'.rest ((Rest.refl _).drewN _)⟩, HP.out.bel.trans (((Rest.refl _).drewN _).below B), HP.out.far, HP.out.sz⟩
  go_loopw [39] (fun x wr => ∃ (j : Nat) (v : Value), j ≤ n ∧ x = .int .i64 j ∧ Hid (PutAt w' wr B p s i r q (zs.take j) v b)) (fun x _ => n - (intOf x).toNat)
  case atStart => exact ⟨0, q.val, Nat.zero_le _, rfl, HP⟩
  case round =>
    obtain ⟨j, v, hj, rfl, HJ⟩ := hrel
    clear HP
    by_cases hlt : j < n
    · obtain ⟨x, rfl, hxb, hxc⟩ := HD.out.2 (by omega)
      obtain ⟨s1, s2, s3, s4⟩ := HSEP.out x rfl
      have hcell : wr.cell? (x.add j) = some (.int .u8 (nth zs j)) := by
        rw [← hxc j hlt]
        have e : (x.add j).block = x.block := by unfold Addr.add; split <;> rfl
        exact World.cell?_of_block (by rw [e]; exact HJ.out.far.1 _ hxb s1 s2 s3 s4)
      have hzj := HZ.out (nth zs j) (by rw [← nth_eq' zs j (by omega)]; exact List.getElem_mem _)
      obtain ⟨g', hst⟩ := HJ.out.st
      have htl : (zs.take j).length = j := by rw [List.length_take]; omega
      have hq' : (s.puts i r q v (zs.take j)).fs[r.1]? = some { q with val := v, xs := wroteL q.xs r.2 (zs.take j) } := by
        show (s.fs.set r.1 _)[r.1]? = _
        rw [List.getElem?_set_self (List.getElem?_eq_some_iff.1 hq).1]
      have hwl := wroteL_len (zs.take j) q.xs r.2 hle
      have HC := Lib.hid (write_any hst (Nat.le_trans hBw HJ.out.sz) (rid_puts HR.out.num HR.out.at_ HR.out.row hst) hq' (by show r.2 + (zs.take j).length ≤ (wroteL q.xs r.2 (zs.take j)).length; omega) (fun e => by
        have e : r.2 + (zs.take j).length = (wroteL q.xs r.2 (zs.take j)).length := e
        refine ⟨?_, ?_⟩
        · show s.used + (r.2 + (zs.take j).length - q.xs.length) + 1 ≤ s.cap
          omega
        · show (wroteL q.xs r.2 (zs.take j)).length + 1 ≤ s.cap
          omega) (nth zs j) hzj.1 hzj.2)
      have htk : zs.take j ++ [nth zs j] = zs.take (j + 1) := (take_nth zs j (by omega)).symm
      clear hst hq' hxc HD HSEP HZ s1 s2 s3 s4
      go_wp2_with (go_at_call 36; (with_reducible refine HC.out.mono ?_); rintro e w2 ⟨rfl, v', g2, hs2, hb2, hf2⟩; have HN := Lib.hid (HJ.out.next hle ⟨g2, hs2⟩ hb2 hf2); clear hs2 hb2 hf2)
      rw [htk] at HN
      exact ⟨⟨j + 1, v', by omega, by simp, HN⟩, by simp [intOf]; omega⟩
    · obtain rfl : j = n := by omega
      go_wp2_with fail
      go_ret
      have hp := HJ.out
      rw [List.take_of_length_le (by omega)] at hp
      exact ⟨rfl, v, hp⟩
end
end Go.Proofs.Ytbpelchampegaaa
