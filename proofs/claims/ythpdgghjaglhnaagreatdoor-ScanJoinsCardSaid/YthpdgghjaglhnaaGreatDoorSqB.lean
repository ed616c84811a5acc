/-
  The document's scanner: signs.
-/
import Derived.Test.YthpdgghjaglhnaaGreatDoorSqA
namespace Go.Proofs.YthpdgghjaglhnaaGreatDoor
open Go.ChangeShapes Go.WideShapes Go.ChangeAt Go.RowKit
set_option linter.unusedVariables false
set_option linter.unusedSimpArgs false
theorem one_run (k : Nat) (hk : k < 23) (W : World) : (Instr.index 9 (.string { data := #[61, 35, 60, 95, 62, 95, 43, 45, 42, 47, 46, 94, 38, 126, 40, 41, 91, 93, 123, 125, 44, 59, 58] }) (.int .i64 (k : Int))).run Tryz.prog W = .ok (.int .u8 (nth oneL k)) W := by
  have h : k = 0 ∨ k = 1 ∨ k = 2 ∨ k = 3 ∨ k = 4 ∨ k = 5 ∨ k = 6 ∨ k = 7 ∨ k = 8 ∨ k = 9 ∨ k = 10 ∨ k = 11 ∨ k = 12 ∨ k = 13 ∨ k = 14 ∨ k = 15 ∨ k = 16 ∨ k = 17 ∨ k = 18 ∨ k = 19 ∨ k = 20 ∨ k = 21 ∨ k = 22 := by omega
  rcases h with rfl | rfl | rfl | rfl | rfl | rfl | rfl | rfl | rfl | rfl | rfl | rfl | rfl | rfl | rfl | rfl | rfl | rfl | rfl | rfl | rfl | rfl | rfl <;> (show Sem.run _ _ _ = _; simp [nth, oneL, go_sem, Instr.index]; try rfl)
theorem two_run0 (W : World) : (Instr.index 9 (.string { data := #[60, 61] }) (.int .i64 0)).run Tryz.prog W = .ok (.int .u8 60) W := by (show Sem.run _ _ _ = _; simp [go_sem, Instr.index]; try rfl)
theorem two_run1 (W : World) : (Instr.index 9 (.string { data := #[62, 61] }) (.int .i64 0)).run Tryz.prog W = .ok (.int .u8 62) W := by (show Sem.run _ _ _ = _; simp [go_sem, Instr.index]; try rfl)
theorem two_run2 (W : World) : (Instr.index 9 (.string { data := #[58, 61] }) (.int .i64 0)).run Tryz.prog W = .ok (.int .u8 58) W := by (show Sem.run _ _ _ = _; simp [go_sem, Instr.index]; try rfl)
structure Tw (b : Nat) (W : World) : Prop where
  a0 : W.cell? ⟨b, 0, none⟩ = some (.string { data := #[60, 61] })
  a1 : W.cell? ⟨b, 1, none⟩ = some (.string { data := #[62, 61] })
  a2 : W.cell? ⟨b, 2, none⟩ = some (.string { data := #[58, 61] })
  b0 : W.cell? ⟨b + 1, 0, none⟩ = some (.int .i64 4)
  b1 : W.cell? ⟨b + 1, 1, none⟩ = some (.int .i64 6)
  b2 : W.cell? ⟨b + 1, 2, none⟩ = some (.int .i64 24)
def twoL : List Int := [60, 62, 58]
theorem sgR_two : sgR 60 61 = (4, 2) ∧ sgR 62 61 = (6, 2) ∧ sgR 58 61 = (24, 2) := by decide
theorem sgR_one (c d : Int) (k : Nat) (hk : k < 23) (h1 : nth oneL k = c) (h2 : c ≠ 95) (h3 : ∀ j, j < 3 → ¬ (c = nth twoL j ∧ d = 61)) : sgR c d = ((k : Int) + 1, 1) := by
  have e := one_hit k hk (by rw [h1]; exact h2)
  rw [h1] at e
  unfold sgR
  rw [e]
  simp only []
  have g0 := h3 0 (by omega)
  have g1 := h3 1 (by omega)
  have g2 := h3 2 (by omega)
  have f : ∀ k : Nat, k < 23 → ((k : Int) + 1 = 3 → nth oneL k = 60) ∧ ((k : Int) + 1 = 5 → nth oneL k = 62) ∧ ((k : Int) + 1 = 23 → nth oneL k = 58) := by decide
  obtain ⟨f0, f1, f2⟩ := f k hk
  rw [h1] at f0 f1 f2
  have t0 : nth twoL 0 = 60 := rfl
  have t1 : nth twoL 1 = 62 := rfl
  have t2 : nth twoL 2 = 58 := rfl
  rw [t0] at g0
  rw [t1] at g1
  rw [t2] at g2
  rw [if_neg (by rintro ⟨e1, e2 | e2⟩; exact g0 ⟨f0 e2, e1⟩; exact g1 ⟨f1 e2, e1⟩), if_neg (by rintro ⟨e1, e2⟩; exact g2 ⟨f2 e2, e1⟩)]
theorem sgR_none (c d : Int) (h : ∀ k, k < 23 → ¬ (nth oneL k = c ∧ c ≠ 95)) : sgR c d = (0, 0) := by
  unfold sgR
  rw [one_none c h]
section
variable {w : World} {A : Option Addr} {n c : Nat} {zs : List Int}
set_option maxRecDepth 100000 in
set_option maxHeartbeats 4000000 in
theorem qsign_any (hr : Rd w w.heap.size .u8 A n zs) (hn : n ≤ 65535) (i : Nat) (hi : i < n) :
    Calls Tryz.prog 24 #[.slice A n c, .int .i64 (i : Int)] w fun e w' => e = .returned (.tuple #[.int .i64 (sgR (nth zs i) (nth zs (i + 1))).1, .int .i64 ((i + (sgR (nth zs i) (nth zs (i + 1))).2 : Nat) : Int)]) ∧ Below w.heap.size w w' := by
  obtain ⟨x, rfl, hx, hcell⟩ := hr.2 (by omega)
  obtain ⟨x0, hx0⟩ : ∃ y, y = nth zs i := ⟨_, rfl⟩
  obtain ⟨x1, hx1⟩ : ∃ y, y = nth zs (i + 1) := ⟨_, rfl⟩
  have HC : Hid (∀ V, Below w.heap.size w V → V.cell? (x.add i) = some (.int .u8 x0)) := Lib.hid fun V hV => by
    rw [hV.cell (by rw [block_add]; exact hx), hx0]; exact hcell i hi
  have HA : Hid (∀ V, Below w.heap.size w V → ∀ k, Calls Tryz.prog 21 #[.slice (some x) n c, .int .i64 ((i : Int) + 1)] (V.drewN k) fun e w' => e = .returned (.int .u8 x1) ∧ ∃ m, w' = V.drewN m) := Lib.hid fun V hV k => (qat1 (((hr.below hV).more hV.size).keep (w' := V.drewN k) fun _ _ => rfl) hn i (by omega)).mono fun e w' ⟨he, hw⟩ => ⟨by rw [he, hx1], k, hw.symm⟩
  rw [← hx0, ← hx1]
  clear hx0 hx1 hr hx hcell
  have wi : IntKind.i64.wrap ((i : Int) + 1) = (i : Int) + 1 := by rw [IntKind.wrap_i64]; omega
  go_enter Tryz.func24, Tryz.ntmps24
  go_wp2_with fail
  go_loopw [8] (fun kv wr => ∃ k : Nat, kv = .int .i64 (k : Int) ∧ k ≤ 3 ∧ Hid (Tw w.heap.size wr) ∧ Hid (Below w.heap.size w wr) ∧ Hid (∀ j, j < k → ¬ (x0 = nth twoL j ∧ x1 = 61))) (fun kv _ => 3 - (intOf kv).toNat)
  case atStart => exact ⟨0, rfl, by omega, Lib.hid ⟨by go_simp, by go_simp, by go_simp, by go_simp, by go_simp, by go_simp⟩, Lib.hid (((Below.refl _ _).alloc (Nat.le_refl _) _).alloc (by simp) _), Lib.hid fun j hj => absurd hj (Nat.not_lt_zero _)⟩
  case round =>
    obtain ⟨k, rfl, hk, HT, HB, HN⟩ := hrel
    have hk4 : k = 0 ∨ k = 1 ∨ k = 2 ∨ k = 3 := by omega
    clear hk
    rcases hk4 with rfl | rfl | rfl | rfl
    · have hc := HC.out _ HB.out
      have ha := HT.out.a0
      have hb := HT.out.b0
      have HAW := Lib.hid (HA.out _ HB.out)
      have hix := two_run0
      by_cases e0 : x0 = 60
      · subst e0
        by_cases e1 : x1 = 61
        · subst e1
          go_wp2_with fail
          go_quiet ((go_at_call 21; exact HAW.out _))
          go_wp2_with fail
          go_ret2
          exact ⟨by rw [sgR_two.1]; rfl, qdrewN HB.out _⟩
        · have e2 : (x1 == 61) = false := by simpa using e1
          go_wp2_with fail
          go_quiet ((go_at_call 21; exact HAW.out _))
          go_wp2_with fail
          exact ⟨⟨1, by simp, by omega, Lib.hid ⟨HT.out.a0, HT.out.a1, HT.out.a2, HT.out.b0, HT.out.b1, HT.out.b2⟩, Lib.hid (qdrewN HB.out _), Lib.hid fun j hj h => e1 h.2⟩, by simp [intOf]⟩
      · have e2 : (x0 == 60) = false := by simpa using e0
        go_wp2_with fail
        go_quiet (fail)
        go_wp2_with fail
        exact ⟨⟨1, by simp, by omega, Lib.hid ⟨HT.out.a0, HT.out.a1, HT.out.a2, HT.out.b0, HT.out.b1, HT.out.b2⟩, Lib.hid (qdrewN HB.out _), Lib.hid fun j hj => by
          rcases Nat.lt_or_ge j 0 with h | h
          · exact HN.out j h
          · obtain rfl : j = 0 := by omega
            exact fun e => e0 e.1⟩, by simp [intOf]⟩
    · have hc := HC.out _ HB.out
      have ha := HT.out.a1
      have hb := HT.out.b1
      have HAW := Lib.hid (HA.out _ HB.out)
      have hix := two_run1
      by_cases e0 : x0 = 62
      · subst e0
        by_cases e1 : x1 = 61
        · subst e1
          go_wp2_with fail
          go_quiet ((go_at_call 21; exact HAW.out _))
          go_wp2_with fail
          go_ret2
          exact ⟨by rw [sgR_two.2.1]; rfl, qdrewN HB.out _⟩
        · have e2 : (x1 == 61) = false := by simpa using e1
          go_wp2_with fail
          go_quiet ((go_at_call 21; exact HAW.out _))
          go_wp2_with fail
          exact ⟨⟨2, by simp, by omega, Lib.hid ⟨HT.out.a0, HT.out.a1, HT.out.a2, HT.out.b0, HT.out.b1, HT.out.b2⟩, Lib.hid (qdrewN HB.out _), Lib.hid fun j hj h => e1 h.2⟩, by simp [intOf]⟩
      · have e2 : (x0 == 62) = false := by simpa using e0
        go_wp2_with fail
        go_quiet (fail)
        go_wp2_with fail
        exact ⟨⟨2, by simp, by omega, Lib.hid ⟨HT.out.a0, HT.out.a1, HT.out.a2, HT.out.b0, HT.out.b1, HT.out.b2⟩, Lib.hid (qdrewN HB.out _), Lib.hid fun j hj => by
          rcases Nat.lt_or_ge j 1 with h | h
          · exact HN.out j h
          · obtain rfl : j = 1 := by omega
            exact fun e => e0 e.1⟩, by simp [intOf]⟩
    · have hc := HC.out _ HB.out
      have ha := HT.out.a2
      have hb := HT.out.b2
      have HAW := Lib.hid (HA.out _ HB.out)
      have hix := two_run2
      by_cases e0 : x0 = 58
      · subst e0
        by_cases e1 : x1 = 61
        · subst e1
          go_wp2_with fail
          go_quiet ((go_at_call 21; exact HAW.out _))
          go_wp2_with fail
          go_ret2
          exact ⟨by rw [sgR_two.2.2]; rfl, qdrewN HB.out _⟩
        · have e2 : (x1 == 61) = false := by simpa using e1
          go_wp2_with fail
          go_quiet ((go_at_call 21; exact HAW.out _))
          go_wp2_with fail
          exact ⟨⟨3, by simp, by omega, Lib.hid ⟨HT.out.a0, HT.out.a1, HT.out.a2, HT.out.b0, HT.out.b1, HT.out.b2⟩, Lib.hid (qdrewN HB.out _), Lib.hid fun j hj h => e1 h.2⟩, by simp [intOf]⟩
      · have e2 : (x0 == 58) = false := by simpa using e0
        go_wp2_with fail
        go_quiet (fail)
        go_wp2_with fail
        exact ⟨⟨3, by simp, by omega, Lib.hid ⟨HT.out.a0, HT.out.a1, HT.out.a2, HT.out.b0, HT.out.b1, HT.out.b2⟩, Lib.hid (qdrewN HB.out _), Lib.hid fun j hj => by
          rcases Nat.lt_or_ge j 2 with h | h
          · exact HN.out j h
          · obtain rfl : j = 2 := by omega
            exact fun e => e0 e.1⟩, by simp [intOf]⟩
    · clear HT
      go_wp2_with fail
      go_loopw [10] (fun kv wl => ∃ k : Nat, kv = .int .i64 (k : Int) ∧ k ≤ 23 ∧ Hid (Below w.heap.size w wl) ∧ Hid (∀ j, j < k → ¬ (nth oneL j = x0 ∧ x0 ≠ 95))) (fun kv _ => 23 - (intOf kv).toNat)
      case atStart => exact ⟨0, rfl, by omega, HB, Lib.hid fun j hj => absurd hj (Nat.not_lt_zero _)⟩
      case round =>
        clear HB
        obtain ⟨k, rfl, hk, HB, H1⟩ := hrel
        rename_i wl _
        by_cases hlt : k < 23
        · have hix := one_run k hlt
          have hc := HC.out _ HB.out
          obtain ⟨y, hy⟩ : ∃ y, y = nth oneL k := ⟨_, rfl⟩
          rw [← hy] at hix
          have HY := Lib.hid hy
          clear hy
          by_cases e0 : y = x0
          · subst e0
            by_cases e1 : y = 95
            · subst e1
              go_wp2_with fail
              go_quiet (fail)
              go_wp2_with fail
              exact ⟨⟨k + 1, by simp, by omega, Lib.hid (qdrewN HB.out _), Lib.hid fun j hj h => h.2 rfl⟩, by simp [intOf]; omega⟩
            · have e2 : (y != 95) = true := by simpa using e1
              have HR := Lib.hid (sgR_one y x1 k hlt HY.out.symm e1 HN.out)
              clear e1
              go_wp2_with fail
              go_quiet (fail)
              go_wp2_with fail
              go_ret2
              exact ⟨by rw [HR.out]; rfl, qdrewN HB.out _⟩
          · have e2 : (y == x0) = false := by simpa using e0
            go_wp2_with fail
            go_quiet (fail)
            go_wp2_with fail
            exact ⟨⟨k + 1, by simp, by omega, Lib.hid (qdrewN HB.out _), Lib.hid fun j hj => by
              rcases Nat.lt_or_ge j k with h | h
              · exact H1.out j h
              · obtain rfl : j = k := by omega
                exact fun e => e0 (HY.out.trans e.1)⟩, by simp [intOf]; omega⟩
        · obtain rfl : k = 23 := by omega
          have HR := Lib.hid (sgR_none x0 x1 H1.out)
          go_wp2_with fail
          go_ret2
          exact ⟨by rw [HR.out]; rfl, HB.out⟩
end
end Go.Proofs.YthpdgghjaglhnaaGreatDoor
