/-
  selfsameref07.Much, MayImports: what they tell of an object.
-/
import Derived.Test.YtekipbfafofkdaaObS
import Derived.Test.YtekipbfafofkdaaObN
namespace Go.Proofs.Ytekipbfafofkdaa
open Go.ChangeShapes Go.WideShapes Go.ChangeAt Go.RowKit
set_option linter.unusedVariables false
def muchB (li lt lc le lf : Nat) : Bool := decide (40 < li) || (decide (20000 < lt) || (decide (20000 < lc) || (decide (400 < le) || decide (10000 < lf))))
set_option maxHeartbeats 2000000 in
theorem much_any (w : World) (n : ByteArray) (key : Int) (ai : Option Addr) (li ci : Nat) (vars : Int) (at_ : Option Addr) (lt ct : Nat) (ac : Option Addr) (lc cc : Nat) (ae : Option Addr) (le ce : Nat) (af : Option Addr) (lf cf : Nat) :
    Calls Try.prog 5 #[ob n key ai li ci vars at_ lt ct ac lc cc ae le ce af lf cf] w fun e w' => e = .returned (.bool (muchB li lt lc le lf)) ∧ Below w.heap.size w w' := by
  obtain ⟨x0, x1, x2, x3, x4, x5, x6, x7, -⟩ := Ob8.new w n key ai li ci vars at_ lt ct ac lc cc ae le ce af lf cf rfl
  have HB := Lib.hid (below1 w (.cells #[.string n, .int .u32 key, .slice ai li ci, .int .i64 vars, .slice at_ lt ct, .slice ac lc cc, .slice ae le ce, .slice af lf cf] 29))
  unfold ob
  go_enter Try.func5, Try.ntmps5
  go_wp2_with fail
  all_goals
    go_ret
    exact ⟨ret_bool (by unfold muchB; rw [Bool.eq_iff_iff]; simp only [Bool.or_eq_true, decide_eq_true_eq, true_iff]; omega), HB.out⟩
/-- so many imports may be -/
def impsP (n : ByteArray) (l : List (ByteArray × Int)) (j : Nat) : Prop := ∀ i, i < j → ∀ p, l[i]? = some p → nameB p.1 = true ∧ p.1 ≠ n ∧ ∀ k, k < i → ∀ q, l[k]? = some q → q.1 ≠ p.1
open Classical in
noncomputable def mayIB (n : ByteArray) (l : List (ByteArray × Int)) : Bool := decide (impsP n l l.length) && (nameB n && decide (l.length ≤ 12))
theorem mayIB_no {n : ByteArray} {l : List (ByteArray × Int)} (h : ¬ impsP n l l.length) : mayIB n l = false := by
  unfold mayIB
  simp [h]
theorem mayIB_yes {n : ByteArray} {l : List (ByteArray × Int)} (h : impsP n l l.length) : mayIB n l = (nameB n && decide (l.length ≤ 12)) := by
  unfold mayIB
  simp [h]
theorem str_ne {a b : ByteArray} (h : a ≠ b) : (a.toList == b.toList) = false := by
  cases e : (a.toList == b.toList) with
  | false => rfl
  | true => exact absurd (toList_inj (by simpa using e)) h
set_option maxHeartbeats 4000000 in
theorem mayImps_any {w0 w : World} {n : ByteArray} {l : List (ByteArray × Int)} {a : Option Addr} {len cap : Nat} (hn : n.size ≤ maxLen) (hl : ImpsIs w0 l a len cap) (hw : Below w0.heap.size w0 w) :
    Calls Try.prog 22 #[.string n, .slice a len cap] w fun e w' => e = .returned (.bool (mayIB n l)) ∧ Below w.heap.size w w' := by
  have hlen := hl.1
  have hcap : len ≤ maxLen := Nat.le_trans hl.2.1 hl.2.2.1
  have HL := Lib.hid hl
  have HW := Lib.hid hw
  have HN := Lib.hid (rname_any n hn)
  clear hl hw
  unfold maxLen at hcap
  go_enter Try.func22, Try.ntmps22
  go_wp2_with fail
  go_loopw [5] (fun i wr => ∃ j : Nat, j ≤ len ∧ i = .int .i64 j ∧ Hid (impsP n l j) ∧ Hid (Below w.heap.size w wr)) (fun i _ => len - (intOf i).toNat)
  case atStart => exact ⟨0, Nat.zero_le _, rfl, Lib.hid (fun i hi => by omega), Lib.hid (Below.refl _ _)⟩
  case round =>
    obtain ⟨j, hj, rfl, HP, HB⟩ := hrel
    obtain ⟨W1, hW1⟩ : ∃ W1, W1 = wr := ⟨wr, rfl⟩
    subst hW1
    by_cases hlt : j < len
    · have hjl : j < l.length := by omega
      have hbb := HW.out.trans (HB.out.mono HW.out.size)
      obtain ⟨p, rfl, hpb, hp⟩ := HL.out.2.2.2.2 (by omega)
      have hgj := List.getElem?_eq_getElem hjl
      have hsz := (HL.out.2.2.2.1 l[j] (List.getElem_mem hjl)).1
      obtain ⟨c0, c1⟩ := (hp j l[j] hgj).below (by rw [add_sz]; exact hpb) hbb
      have HPP := Lib.hid hp
      have HPB := Lib.hid hpb
      have HGJ := Lib.hid hgj
      have HBB := Lib.hid hbb
      clear hp hbb hgj
      generalize hlj : l[j] = lj at *
      obtain ⟨nj, kj⟩ := lj
      simp only at c0 c1 hsz
      have HNJ := Lib.hid (rname_any nj hsz)
      cases hnj : nameB nj with
      | false =>
        rw [hnj] at HNJ
        have hv : Hid (mayIB n l = false) := Lib.hid (mayIB_no fun h => by
          have := (h j (by omega) _ HGJ.out).1
          rw [show nameB (nj, kj).1 = nameB nj from rfl, hnj] at this
          cases this)
        go_wp2_with (go_at_call 8; refine (HNJ.out _).mono ?_; rintro e w' ⟨rfl, rfl⟩)
        go_ret
        exact ⟨ret_bool hv.out.symm, HB.out⟩
      | true =>
        rw [hnj] at HNJ
        by_cases hnn : nj = n
        · have hv : Hid (mayIB n l = false) := Lib.hid (mayIB_no fun h => (h j (by omega) _ HGJ.out).2.1 hnn)
          subst hnn
          go_wp2_with (go_at_call 8; refine (HNJ.out _).mono ?_; rintro e w' ⟨rfl, rfl⟩)
          go_ret
          exact ⟨ret_bool hv.out.symm, HB.out⟩
        · have z0 := str_ne hnn
          go_wp2_with (go_at_call 8; refine (HNJ.out _).mono ?_; rintro e w' ⟨rfl, rfl⟩)
          go_loopw [6] (fun i wq => ∃ q : Nat, q ≤ j ∧ i = .int .i64 q ∧ Hid (∀ k, k < q → ∀ x, l[k]? = some x → x.1 ≠ nj) ∧ Hid (Below W1.heap.size W1 wq)) (fun i _ => j - (intOf i).toNat)
          case atStart => exact ⟨0, Nat.zero_le _, rfl, Lib.hid (fun k hk => by omega), Lib.hid (Below.refl _ _)⟩
          case round =>
            obtain ⟨q, hq, rfl, HQ, HWQ⟩ := hrel
            by_cases hlt2 : q < j
            · have hql : q < l.length := by omega
              have hbq := HBB.out.trans (HWQ.out.mono HBB.out.size)
              obtain ⟨d0, d1⟩ := (HPP.out q l[q] (List.getElem?_eq_getElem hql)).below (by rw [add_sz]; exact HPB.out) hbq
              obtain ⟨f0, f1⟩ := (HPP.out j (nj, kj) HGJ.out).below (by rw [add_sz]; exact HPB.out) hbq
              have HGQ := Lib.hid (List.getElem?_eq_getElem hql)
              clear hbq c0 c1
              generalize l[q] = lq at *
              obtain ⟨nq, kq⟩ := lq
              simp only at d0 d1 f0 f1
              by_cases he : nq = nj
              · have hv : Hid (mayIB n l = false) := Lib.hid (mayIB_no fun h => (h j (by omega) _ HGJ.out).2.2 q hlt2 _ HGQ.out he)
                subst he
                go_wp2_with fail
                go_quiet (fail)
                go_wp2_with fail
                go_ret
                exact ⟨ret_bool hv.out.symm, HB.out.trans ((by first | exact HWQ.out.drew | exact below_drewN HWQ.out _ : Below W1.heap.size W1 _).mono HB.out.size)⟩
              · have y0 := str_ne he
                go_wp2_with fail
                go_quiet (fail)
                go_wp2_with fail
                exact ⟨⟨q + 1, by omega, by simp, Lib.hid (fun k hk x hx => by
                  by_cases hkq : k < q
                  · exact HQ.out k hkq x hx
                  · obtain rfl : k = q := by omega
                    rw [HGQ.out] at hx
                    cases hx
                    exact he), Lib.hid (by first | exact HWQ.out.drew | exact below_drewN HWQ.out _)⟩, by simp [intOf]; omega⟩
            · obtain rfl : q = j := by omega
              have HP2 : Hid (impsP n l (q + 1)) := Lib.hid (fun i hi p hp => by
                by_cases hiq : i < q
                · exact HP.out i hiq p hp
                · obtain rfl : i = q := by omega
                  rw [HGJ.out] at hp
                  cases hp
                  exact ⟨hnj, hnn, HQ.out⟩)
              go_wp2_with fail
              exact ⟨⟨q + 1, by omega, by simp, HP2, Lib.hid (HB.out.trans (HWQ.out.mono HB.out.size))⟩, by simp [intOf]; omega⟩
    · obtain rfl : j = len := by omega
      have hv : Hid (mayIB n l = (nameB n && decide (j ≤ 12))) := Lib.hid (by rw [mayIB_yes (by rw [hlen]; exact HP.out), hlen])
      cases hnn : nameB n with
      | false =>
        rw [hnn] at HN
        go_wp2_with (go_at_call 8; refine (HN.out _).mono ?_; rintro e w' ⟨rfl, rfl⟩)
        go_ret
        exact ⟨ret_bool (by rw [hv.out, hnn]; rfl), HB.out⟩
      | true =>
        rw [hnn] at HN
        go_wp2_with (go_at_call 8; refine (HN.out _).mono ?_; rintro e w' ⟨rfl, rfl⟩)
        go_ret
        exact ⟨ret_bool (by rw [hv.out, hnn]; first | rfl | (rw [Bool.eq_iff_iff]; simp only [Bool.true_and, decide_eq_true_eq]; omega)), HB.out⟩
end Go.Proofs.Ytekipbfafofkdaa
