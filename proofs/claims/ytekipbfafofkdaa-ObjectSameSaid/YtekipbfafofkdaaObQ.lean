/-
  slices.Equal, of rows of numbers, imports, fixups.
-/
import Derived.Test.YtekipbfafofkdaaObI
import Derived.WalkKit
import Derived.ProofKit
import Derived.Deep.QuietTactic
import Derived.BigQuiet
namespace Go.Proofs.Ytekipbfafofkdaa
open Go.ChangeShapes Go.WideShapes Go.ChangeAt Go.RowKit
set_option linter.unusedVariables false
theorem take_eq {α : Type} {x y : List α} {j : Nat} (h : x.take j = y.take j) (h1 : j < x.length) (h2 : j < y.length) (e : x[j] = y[j]) : x.take (j + 1) = y.take (j + 1) := by
  rw [List.take_succ_eq_append_getElem h1, List.take_succ_eq_append_getElem h2, h, e]
theorem nth_get (x : List Int) (j : Nat) (h : j < x.length) : nth x j = x[j] := by simp [nth, h]
set_option maxHeartbeats 1000000 in
theorem eqU8_any {w0 w : World} {a b : Option Addr} {n m c d : Nat} {x y : List Int} (hx : IsRow .u8 w0 a n c x) (hy : IsRow .u8 w0 b m d y) (hw : Below w0.heap.size w0 w) :
    Calls Try.prog 18 #[.slice a n c, .slice b m d] w fun e w' => e = .returned (.bool (decide (x = y))) ∧ Below w.heap.size w w' := by
  have hlx := hx.1
  have hly := hy.1
  have HX := Lib.hid hx
  have HY := Lib.hid hy
  have hn : n ≤ maxLen := Nat.le_trans hx.2.1 hx.2.2.1
  have hm : m ≤ maxLen := Nat.le_trans hy.2.1 hy.2.2.1
  have HW := Lib.hid hw
  clear hx hy hw
  unfold maxLen at hn hm
  by_cases hne : n = m
  rotate_left
  · have hno : decide (x = y) = false := by
      rw [decide_eq_false_iff_not]
      rintro rfl
      omega
    have hc : ((n : Int) == (m : Int)) = false := by simp; omega
    have hc2 : ((n : Int) != (m : Int)) = true := by simp; omega
    rw [hno]
    go_enter Try.func18, Try.ntmps18
    go_wp2_with fail
    go_ret
    exact ⟨rfl, Below.refl _ _⟩
  subst hne
  go_enter Try.func18, Try.ntmps18
  go_wp2_with fail
  go_loopw [13] (fun i wr => ∃ j : Nat, j ≤ n ∧ i = .int .i64 j ∧ Hid (x.take j = y.take j) ∧ Hid (Below w.heap.size w wr)) (fun i _ => n - (intOf i).toNat)
  case atStart => exact ⟨0, Nat.zero_le _, rfl, Lib.hid rfl, Lib.hid (Below.refl _ _)⟩
  case round =>
    obtain ⟨j, hj, rfl, HE, HB⟩ := hrel
    by_cases hlt : j < n
    · have h1 : j < x.length := by omega
      have h2 : j < y.length := by omega
      have hbb := HW.out.trans (HB.out.mono HW.out.size)
      obtain ⟨p, rfl, hpb, hp⟩ := HX.out.2.2.2.2.2 (by omega)
      obtain ⟨q, rfl, hqb, hq⟩ := HY.out.2.2.2.2.2 (by omega)
      have c1 := (hbb.cell (p := p.add j) (by rw [block_add]; exact hpb)).trans (hp j hlt)
      have c2 := (hbb.cell (p := q.add j) (by rw [block_add]; exact hqb)).trans (hq j hlt)
      rw [nth_get x j h1] at c1
      rw [nth_get y j h2] at c2
      clear hp hq hbb
      have HT := Lib.hid (fun e : x[j] = y[j] => take_eq HE.out h1 h2 e)
      have HNO : Hid (x[j] ≠ y[j] → decide (x = y) = false) := Lib.hid fun h => by
        rw [decide_eq_false_iff_not]
        rintro rfl
        exact h rfl
      generalize hxe : x[j] = xj at *
      generalize hye : y[j] = yj at *
      by_cases he : xj = yj
      · have e1 : (xj == yj) = true := by simpa using he
        have e2 : (xj != yj) = false := by simpa using he
        clear HX HY
        go_wp2_with fail
        go_quiet (fail)
        go_wp2_with fail
        exact ⟨⟨j + 1, by omega, by simp, Lib.hid (HT.out (he)), Lib.hid (by first | exact HB.out.drew | exact below_drewN HB.out _)⟩, by simp [intOf]; omega⟩
      · have e1 : (xj == yj) = false := by simpa using he
        have e2 : (xj != yj) = true := by simpa using he
        clear HX HY
        go_wp2_with fail
        go_quiet (fail)
        go_wp2_with fail
        go_ret
        exact ⟨ret_bool (HNO.out (he)).symm, by first | exact HB.out.drew | exact below_drewN HB.out _⟩
    · obtain rfl : j = n := by omega
      have HD : Hid (decide (x = y) = true) := Lib.hid (by
        have := HE.out
        rw [List.take_of_length_le (by omega), List.take_of_length_le (by omega)] at this
        rw [this]
        simp)
      go_wp2_with fail
      go_ret
      exact ⟨ret_bool HD.out.symm, HB.out⟩
set_option maxHeartbeats 1000000 in
theorem eqU32_any {w0 w : World} {a b : Option Addr} {n m c d : Nat} {x y : List Int} (hx : IsRow .u32 w0 a n c x) (hy : IsRow .u32 w0 b m d y) (hw : Below w0.heap.size w0 w) :
    Calls Try.prog 19 #[.slice a n c, .slice b m d] w fun e w' => e = .returned (.bool (decide (x = y))) ∧ Below w.heap.size w w' := by
  have hlx := hx.1
  have hly := hy.1
  have HX := Lib.hid hx
  have HY := Lib.hid hy
  have hn : n ≤ maxLen := Nat.le_trans hx.2.1 hx.2.2.1
  have hm : m ≤ maxLen := Nat.le_trans hy.2.1 hy.2.2.1
  have HW := Lib.hid hw
  clear hx hy hw
  unfold maxLen at hn hm
  by_cases hne : n = m
  rotate_left
  · have hno : decide (x = y) = false := by
      rw [decide_eq_false_iff_not]
      rintro rfl
      omega
    have hc : ((n : Int) == (m : Int)) = false := by simp; omega
    have hc2 : ((n : Int) != (m : Int)) = true := by simp; omega
    rw [hno]
    go_enter Try.func19, Try.ntmps19
    go_wp2_with fail
    go_ret
    exact ⟨rfl, Below.refl _ _⟩
  subst hne
  go_enter Try.func19, Try.ntmps19
  go_wp2_with fail
  go_loopw [13] (fun i wr => ∃ j : Nat, j ≤ n ∧ i = .int .i64 j ∧ Hid (x.take j = y.take j) ∧ Hid (Below w.heap.size w wr)) (fun i _ => n - (intOf i).toNat)
  case atStart => exact ⟨0, Nat.zero_le _, rfl, Lib.hid rfl, Lib.hid (Below.refl _ _)⟩
  case round =>
    obtain ⟨j, hj, rfl, HE, HB⟩ := hrel
    by_cases hlt : j < n
    · have h1 : j < x.length := by omega
      have h2 : j < y.length := by omega
      have hbb := HW.out.trans (HB.out.mono HW.out.size)
      obtain ⟨p, rfl, hpb, hp⟩ := HX.out.2.2.2.2.2 (by omega)
      obtain ⟨q, rfl, hqb, hq⟩ := HY.out.2.2.2.2.2 (by omega)
      have c1 := (hbb.cell (p := p.add j) (by rw [block_add]; exact hpb)).trans (hp j hlt)
      have c2 := (hbb.cell (p := q.add j) (by rw [block_add]; exact hqb)).trans (hq j hlt)
      rw [nth_get x j h1] at c1
      rw [nth_get y j h2] at c2
      clear hp hq hbb
      have HT := Lib.hid (fun e : x[j] = y[j] => take_eq HE.out h1 h2 e)
      have HNO : Hid (x[j] ≠ y[j] → decide (x = y) = false) := Lib.hid fun h => by
        rw [decide_eq_false_iff_not]
        rintro rfl
        exact h rfl
      generalize hxe : x[j] = xj at *
      generalize hye : y[j] = yj at *
      by_cases he : xj = yj
      · have e1 : (xj == yj) = true := by simpa using he
        have e2 : (xj != yj) = false := by simpa using he
        clear HX HY
        go_wp2_with fail
        go_quiet (fail)
        go_wp2_with fail
        exact ⟨⟨j + 1, by omega, by simp, Lib.hid (HT.out (he)), Lib.hid (by first | exact HB.out.drew | exact below_drewN HB.out _)⟩, by simp [intOf]; omega⟩
      · have e1 : (xj == yj) = false := by simpa using he
        have e2 : (xj != yj) = true := by simpa using he
        clear HX HY
        go_wp2_with fail
        go_quiet (fail)
        go_wp2_with fail
        go_ret
        exact ⟨ret_bool (HNO.out (he)).symm, by first | exact HB.out.drew | exact below_drewN HB.out _⟩
    · obtain rfl : j = n := by omega
      have HD : Hid (decide (x = y) = true) := Lib.hid (by
        have := HE.out
        rw [List.take_of_length_le (by omega), List.take_of_length_le (by omega)] at this
        rw [this]
        simp)
      go_wp2_with fail
      go_ret
      exact ⟨ret_bool HD.out.symm, HB.out⟩
set_option maxHeartbeats 1000000 in
theorem eqI_any {w0 w : World} {a b : Option Addr} {n m c d : Nat} {x y : List Int} (hx : IsRow .i64 w0 a n c x) (hy : IsRow .i64 w0 b m d y) (hw : Below w0.heap.size w0 w) :
    Calls Try.prog 20 #[.slice a n c, .slice b m d] w fun e w' => e = .returned (.bool (decide (x = y))) ∧ Below w.heap.size w w' := by
  have hlx := hx.1
  have hly := hy.1
  have HX := Lib.hid hx
  have HY := Lib.hid hy
  have hn : n ≤ maxLen := Nat.le_trans hx.2.1 hx.2.2.1
  have hm : m ≤ maxLen := Nat.le_trans hy.2.1 hy.2.2.1
  have HW := Lib.hid hw
  clear hx hy hw
  unfold maxLen at hn hm
  by_cases hne : n = m
  rotate_left
  · have hno : decide (x = y) = false := by
      rw [decide_eq_false_iff_not]
      rintro rfl
      omega
    have hc : ((n : Int) == (m : Int)) = false := by simp; omega
    have hc2 : ((n : Int) != (m : Int)) = true := by simp; omega
    rw [hno]
    go_enter Try.func20, Try.ntmps20
    go_wp2_with fail
    go_ret
    exact ⟨rfl, Below.refl _ _⟩
  subst hne
  go_enter Try.func20, Try.ntmps20
  go_wp2_with fail
  go_loopw [13] (fun i wr => ∃ j : Nat, j ≤ n ∧ i = .int .i64 j ∧ Hid (x.take j = y.take j) ∧ Hid (Below w.heap.size w wr)) (fun i _ => n - (intOf i).toNat)
  case atStart => exact ⟨0, Nat.zero_le _, rfl, Lib.hid rfl, Lib.hid (Below.refl _ _)⟩
  case round =>
    obtain ⟨j, hj, rfl, HE, HB⟩ := hrel
    by_cases hlt : j < n
    · have h1 : j < x.length := by omega
      have h2 : j < y.length := by omega
      have hbb := HW.out.trans (HB.out.mono HW.out.size)
      obtain ⟨p, rfl, hpb, hp⟩ := HX.out.2.2.2.2.2 (by omega)
      obtain ⟨q, rfl, hqb, hq⟩ := HY.out.2.2.2.2.2 (by omega)
      have c1 := (hbb.cell (p := p.add j) (by rw [block_add]; exact hpb)).trans (hp j hlt)
      have c2 := (hbb.cell (p := q.add j) (by rw [block_add]; exact hqb)).trans (hq j hlt)
      rw [nth_get x j h1] at c1
      rw [nth_get y j h2] at c2
      clear hp hq hbb
      have HT := Lib.hid (fun e : x[j] = y[j] => take_eq HE.out h1 h2 e)
      have HNO : Hid (x[j] ≠ y[j] → decide (x = y) = false) := Lib.hid fun h => by
        rw [decide_eq_false_iff_not]
        rintro rfl
        exact h rfl
      generalize hxe : x[j] = xj at *
      generalize hye : y[j] = yj at *
      by_cases he : xj = yj
      · have e1 : (xj == yj) = true := by simpa using he
        have e2 : (xj != yj) = false := by simpa using he
        clear HX HY
        go_wp2_with fail
        go_quiet (fail)
        go_wp2_with fail
        exact ⟨⟨j + 1, by omega, by simp, Lib.hid (HT.out (he)), Lib.hid (by first | exact HB.out.drew | exact below_drewN HB.out _)⟩, by simp [intOf]; omega⟩
      · have e1 : (xj == yj) = false := by simpa using he
        have e2 : (xj != yj) = true := by simpa using he
        clear HX HY
        go_wp2_with fail
        go_quiet (fail)
        go_wp2_with fail
        go_ret
        exact ⟨ret_bool (HNO.out (he)).symm, by first | exact HB.out.drew | exact below_drewN HB.out _⟩
    · obtain rfl : j = n := by omega
      have HD : Hid (decide (x = y) = true) := Lib.hid (by
        have := HE.out
        rw [List.take_of_length_le (by omega), List.take_of_length_le (by omega)] at this
        rw [this]
        simp)
      go_wp2_with fail
      go_ret
      exact ⟨ret_bool HD.out.symm, HB.out⟩
theorem toList_inj {a b : ByteArray} (h : a.toList = b.toList) : a = b := by
  rw [ByteArray.toList_eq, ByteArray.toList_eq] at h
  exact Go.WideShapes.bytes_inj h
set_option maxHeartbeats 1000000 in
theorem eqImp_any {w0 w : World} {a b : Option Addr} {n m c d : Nat} {x y : List (ByteArray × Int)} (hx : ImpsIs w0 x a n c) (hy : ImpsIs w0 y b m d) (hw : Below w0.heap.size w0 w) :
    Calls Try.prog 17 #[.slice a n c, .slice b m d] w fun e w' => e = .returned (.bool (decide (x = y))) ∧ Below w.heap.size w w' := by
  have hlx := hx.1
  have hly := hy.1
  have HX := Lib.hid hx
  have HY := Lib.hid hy
  have hn : n ≤ maxLen := Nat.le_trans hx.2.1 hx.2.2.1
  have hm : m ≤ maxLen := Nat.le_trans hy.2.1 hy.2.2.1
  have HW := Lib.hid hw
  clear hx hy hw
  unfold maxLen at hn hm
  by_cases hne : n = m
  rotate_left
  · have hno : decide (x = y) = false := by
      rw [decide_eq_false_iff_not]
      rintro rfl
      omega
    have hc : ((n : Int) == (m : Int)) = false := by simp; omega
    have hc2 : ((n : Int) != (m : Int)) = true := by simp; omega
    rw [hno]
    go_enter Try.func17, Try.ntmps17
    go_wp2_with fail
    go_ret
    exact ⟨rfl, Below.refl _ _⟩
  subst hne
  go_enter Try.func17, Try.ntmps17
  go_wp2_with fail
  go_loopw [13] (fun i wr => ∃ j : Nat, j ≤ n ∧ i = .int .i64 j ∧ Hid (x.take j = y.take j) ∧ Hid (Below w.heap.size w wr)) (fun i _ => n - (intOf i).toNat)
  case atStart => exact ⟨0, Nat.zero_le _, rfl, Lib.hid rfl, Lib.hid (Below.refl _ _)⟩
  case round =>
    obtain ⟨j, hj, rfl, HE, HB⟩ := hrel
    by_cases hlt : j < n
    · have h1 : j < x.length := by omega
      have h2 : j < y.length := by omega
      have hbb := HW.out.trans (HB.out.mono HW.out.size)
      obtain ⟨p, rfl, hpb, hp⟩ := HX.out.2.2.2.2 (by omega)
      obtain ⟨q, rfl, hqb, hq⟩ := HY.out.2.2.2.2 (by omega)
      obtain ⟨c0, c1⟩ := (hp j x[j] (List.getElem?_eq_getElem h1)).below (by rw [add_sz]; exact hpb) hbb
      obtain ⟨d0, d1⟩ := (hq j y[j] (List.getElem?_eq_getElem h2)).below (by rw [add_sz]; exact hqb) hbb
      clear hp hq hbb
      have HT := Lib.hid (fun e : x[j] = y[j] => take_eq HE.out h1 h2 e)
      have HNO : Hid (x[j] ≠ y[j] → decide (x = y) = false) := Lib.hid fun h => by
        rw [decide_eq_false_iff_not]
        rintro rfl
        exact h rfl
      generalize hxe : x[j] = xj at *
      generalize hye : y[j] = yj at *
      obtain ⟨n1, k1⟩ := xj
      obtain ⟨n2, k2⟩ := yj
      simp only at c0 c1 d0 d1
      clear HX HY
      by_cases he : n1.toList = n2.toList
      · obtain rfl := toList_inj he
        by_cases hk : k1 = k2
        · subst hk
          go_wp2_with fail
          go_quiet (fail)
          go_wp2_with fail
          exact ⟨⟨j + 1, by omega, by simp, Lib.hid (HT.out (by first | rfl | trivial)), Lib.hid (by first | exact HB.out.drew | exact below_drewN HB.out _)⟩, by simp [intOf]; omega⟩
        · have e1 : (k1 == k2) = false := by simpa using hk
          go_wp2_with fail
          go_quiet (fail)
          go_wp2_with fail
          go_ret
          exact ⟨ret_bool (HNO.out (fun e => hk (by injection e))).symm, by first | exact HB.out.drew | exact below_drewN HB.out _⟩
      · have e1 : (n1.toList == n2.toList) = false := by simpa using he
        go_wp2_with fail
        go_quiet (fail)
        go_wp2_with fail
        go_ret
        exact ⟨ret_bool (HNO.out (fun e => he (by injection e with e1 e2; rw [e1]))).symm, by first | exact HB.out.drew | exact below_drewN HB.out _⟩
    · obtain rfl : j = n := by omega
      have HD : Hid (decide (x = y) = true) := Lib.hid (by
        have := HE.out
        rw [List.take_of_length_le (by omega), List.take_of_length_le (by omega)] at this
        rw [this]
        simp)
      go_wp2_with fail
      go_ret
      exact ⟨ret_bool HD.out.symm, HB.out⟩
set_option maxHeartbeats 1000000 in
theorem eqFix_any {w0 w : World} {a b : Option Addr} {n m c d : Nat} {x y : List (Int × Int × Int)} (hx : FixsIs w0 x a n c) (hy : FixsIs w0 y b m d) (hw : Below w0.heap.size w0 w) :
    Calls Try.prog 21 #[.slice a n c, .slice b m d] w fun e w' => e = .returned (.bool (decide (x = y))) ∧ Below w.heap.size w w' := by
  have hlx := hx.1
  have hly := hy.1
  have HX := Lib.hid hx
  have HY := Lib.hid hy
  have hn : n ≤ maxLen := Nat.le_trans hx.2.1 hx.2.2.1
  have hm : m ≤ maxLen := Nat.le_trans hy.2.1 hy.2.2.1
  have HW := Lib.hid hw
  clear hx hy hw
  unfold maxLen at hn hm
  by_cases hne : n = m
  rotate_left
  · have hno : decide (x = y) = false := by
      rw [decide_eq_false_iff_not]
      rintro rfl
      omega
    have hc : ((n : Int) == (m : Int)) = false := by simp; omega
    have hc2 : ((n : Int) != (m : Int)) = true := by simp; omega
    rw [hno]
    go_enter Try.func21, Try.ntmps21
    go_wp2_with fail
    go_ret
    exact ⟨rfl, Below.refl _ _⟩
  subst hne
  go_enter Try.func21, Try.ntmps21
  go_wp2_with fail
  go_loopw [13] (fun i wr => ∃ j : Nat, j ≤ n ∧ i = .int .i64 j ∧ Hid (x.take j = y.take j) ∧ Hid (Below w.heap.size w wr)) (fun i _ => n - (intOf i).toNat)
  case atStart => exact ⟨0, Nat.zero_le _, rfl, Lib.hid rfl, Lib.hid (Below.refl _ _)⟩
  case round =>
    obtain ⟨j, hj, rfl, HE, HB⟩ := hrel
    by_cases hlt : j < n
    · have h1 : j < x.length := by omega
      have h2 : j < y.length := by omega
      have hbb := HW.out.trans (HB.out.mono HW.out.size)
      obtain ⟨p, rfl, hpb, hp⟩ := HX.out.2.2.2.2 (by omega)
      obtain ⟨q, rfl, hqb, hq⟩ := HY.out.2.2.2.2 (by omega)
      obtain ⟨c0, c1, c2⟩ := (hp j x[j] (List.getElem?_eq_getElem h1)).below (by rw [add_sz]; exact hpb) hbb
      obtain ⟨d0, d1, d2⟩ := (hq j y[j] (List.getElem?_eq_getElem h2)).below (by rw [add_sz]; exact hqb) hbb
      clear hp hq hbb
      have HT := Lib.hid (fun e : x[j] = y[j] => take_eq HE.out h1 h2 e)
      have HNO : Hid (x[j] ≠ y[j] → decide (x = y) = false) := Lib.hid fun h => by
        rw [decide_eq_false_iff_not]
        rintro rfl
        exact h rfl
      generalize hxe : x[j] = xj at *
      generalize hye : y[j] = yj at *
      obtain ⟨a1, a2, a3⟩ := xj
      obtain ⟨b1, b2, b3⟩ := yj
      simp only at c0 c1 c2 d0 d1 d2
      clear HX HY
      by_cases g1 : a1 = b1
      · subst g1
        by_cases g2 : a2 = b2
        · subst g2
          by_cases g3 : a3 = b3
          · subst g3
            go_wp2_with fail
            go_quiet (fail)
            go_wp2_with fail
            exact ⟨⟨j + 1, by omega, by simp, Lib.hid (HT.out (by first | rfl | trivial)), Lib.hid (by first | exact HB.out.drew | exact below_drewN HB.out _)⟩, by simp [intOf]; omega⟩
          · have e1 : (a3 == b3) = false := by simpa using g3
            go_wp2_with fail
            go_quiet (fail)
            go_wp2_with fail
            go_ret
            exact ⟨ret_bool (HNO.out (fun e => g3 (by injection e with _ e; injection e))).symm, by first | exact HB.out.drew | exact below_drewN HB.out _⟩
        · have e1 : (a2 == b2) = false := by simpa using g2
          go_wp2_with fail
          go_quiet (fail)
          go_wp2_with fail
          go_ret
          exact ⟨ret_bool (HNO.out (fun e => g2 (by injection e with _ e; injection e))).symm, by first | exact HB.out.drew | exact below_drewN HB.out _⟩
      · have e1 : (a1 == b1) = false := by simpa using g1
        go_wp2_with fail
        go_quiet (fail)
        go_wp2_with fail
        go_ret
        exact ⟨ret_bool (HNO.out (fun e => g1 (by injection e))).symm, by first | exact HB.out.drew | exact below_drewN HB.out _⟩
    · obtain rfl : j = n := by omega
      have HD : Hid (decide (x = y) = true) := Lib.hid (by
        have := HE.out
        rw [List.take_of_length_le (by omega), List.take_of_length_le (by omega)] at this
        rw [this]
        simp)
      go_wp2_with fail
      go_ret
      exact ⟨ret_bool HD.out.symm, HB.out⟩
end Go.Proofs.Ytekipbfafofkdaa
