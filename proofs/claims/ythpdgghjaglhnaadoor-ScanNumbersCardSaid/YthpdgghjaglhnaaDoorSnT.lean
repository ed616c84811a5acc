/-
  ScanNumbers: the law's own digits.
-/
import Derived.Test.YthpdgghjaglhnaaDoorSnQ
import Derived.Test.YthpdgghjaglhnaaDoorSnS
namespace Go.Proofs.YthpdgghjaglhnaaDoor
open Go.ChangeShapes Go.WideShapes Go.ChangeAt Go.RowKit
set_option linter.unusedVariables false
set_option linter.unusedSimpArgs false
theorem one_own (w : World) (B : Nat) (hB : B ≤ w.heap.size) (x : Int) : (w.alloc (.cells #[.int .u8 x] 5)).ownsRow B 5 1 (.slice (some ⟨w.heap.size, 0, none⟩) 1 1) 1 [.int .u8 x] :=
  ⟨rfl, .inr ⟨w.heap.size, 1, #[.int .u8 x], rfl, hB, heap_alloc_new w _, Nat.le_refl _, by decide, rfl, rfl⟩⟩
def emS (v : Value) : Nat := match v with | .slice _ n _ => (if n = 0 then 1 else 0) | _ => 0
def DgInv (Bs u m : Nat) (L : List Int) : Prop := m ≤ u ∧ ((L = [] ∧ m = u) ∨ (L ≠ [] ∧ m = 0 ∧ L = dgs Bs u) ∨ (L ≠ [] ∧ 0 < m ∧ dgs Bs u = dgs Bs m ++ L))
theorem DgInv.step {Bs u m : Nat} {L : List Int} (hB : 2 ≤ Bs) (h : DgInv Bs u m L) (hm : 0 < m ∨ L = []) : DgInv Bs u (m / Bs) (dgt (m % Bs) :: L) := by
  obtain ⟨h1, h2⟩ := h
  refine ⟨Nat.le_trans (Nat.div_le_self _ _) h1, ?_⟩
  have h3 : dgs Bs u = dgs Bs m ++ L := by
    rcases h2 with ⟨rfl, rfl⟩ | ⟨hn, h0, _⟩ | ⟨_, _, h⟩
    · simp
    · rcases hm with h | h
      · omega
      · exact absurd h hn
    · exact h
  by_cases hlt : m < Bs
  · refine .inr (.inl ⟨by simp, Nat.div_eq_of_lt hlt, ?_⟩)
    rw [h3, dgs_lt hlt, Nat.mod_eq_of_lt hlt]; rfl
  · refine .inr (.inr ⟨by simp, Nat.div_pos (by omega) (by omega), ?_⟩)
    rw [h3, dgs_ge (by omega) hB, List.append_assoc]; rfl
theorem DgInv.done {Bs u m : Nat} {L : List Int} (h : DgInv Bs u m L) (h0 : m = 0) (hl : L ≠ []) : L = dgs Bs u := by
  rcases h.2 with ⟨h1, _⟩ | ⟨_, _, h1⟩ | ⟨_, h1, _⟩
  · exact absurd h1 hl
  · exact h1
  · omega
theorem DgInv.len {Bs u m : Nat} {L : List Int} (h : DgInv Bs u m L) : L.length ≤ (dgs Bs u).length := by
  rcases h.2 with ⟨h1, _⟩ | ⟨_, _, h1⟩ | ⟨_, _, h1⟩
  · rw [h1]; simp
  · rw [h1]; exact Nat.le_refl _
  · rw [h1]; simp
theorem dgs_len (u : Nat) (h : u < 4294967296) : (dgs 10 u).length ≤ 10 ∧ (dgs 16 u).length ≤ 8 := ⟨dgs_len10 9 u (by omega), dgs16_len 7 u (by omega)⟩
set_option maxRecDepth 100000 in
set_option maxHeartbeats 4000000 in
theorem digits10 (u : Nat) (hu : u < 4294967296) (w : World) : Calls Tryd.prog 20 #[.int .u64 (u : Int), .int .u64 10] w fun e w' => ∃ v, e = .returned v ∧ w'.ownsRow w.heap.size 5 1 v (dgs 10 u).length (valsOf .u8 (dgs 10 u)) ∧ Below w.heap.size w w' := by
  obtain ⟨i0, hi0, hz0, hz1, hz2⟩ := info_parts infoB0
  have HLN := Lib.hid (dgs_len u hu)
  go_enter Tryd.func20, Tryd.ntmps20
  go_wp2_with fail
  go_loopw [0, 5] (fun xv bv wr => ∃ (m : Nat) (L : List Int), xv = .int .u64 (m : Int) ∧ m ≤ u ∧ L.length ≤ 10 ∧ Hid (DgInv 10 u m L) ∧ Hid (wr.ownsRow w.heap.size 5 1 bv L.length (valsOf .u8 L)) ∧ Hid (Below w.heap.size w wr)) (fun xv bv _ => (intOf xv).toNat + emS bv)
  case atStart => exact ⟨u, [], rfl, Nat.le_refl _, by simp, Lib.hid ⟨Nat.le_refl _, .inl ⟨rfl, rfl⟩⟩, Lib.hid (World.ownsRow_nil _ _ _ _), Lib.hid (Below.refl _ _)⟩
  case round =>
    obtain ⟨m, L, rfl, hm, hL, HI, HR, HB⟩ := hrel
    obtain ⟨A, c, rfl, hc, hrd⟩ := rd_own HR.out
    have HRD := Lib.hid (hrd.below (w' := wr) (Below.refl _ _))
    have hBw := HB.out.size
    by_cases hgo : 0 < m ∨ L = []
    · have HI2 := Lib.hid (HI.out.step (by omega) hgo)
      have hL2 : L.length + 1 ≤ 10 := by
        have h1 := HI2.out.len
        have h2 := HLN.out
        simp at h1; omega
      have HN := Lib.hid fun x => one_own wr w.heap.size hBw x
      have HRB : Hid (∀ x : Int, Rd (wr.alloc (.cells #[.int .u8 x] 5)) wr.heap.size .u8 A L.length L) := Lib.hid fun x => hrd.below ((Below.refl _ _).alloc (Nat.le_refl _) _)
      have hmod : (m : Int) % 10 = ((m % 10 : Nat) : Int) := by omega
      have hdiv : (m : Int) / 10 = ((m / 10 : Nat) : Int) := by omega
      have hdv := Nat.div_le_self m 10
      have hdl : m % 10 < 10 := Nat.mod_lt _ (by omega)
      have hms : m / 10 + 0 < m + (if L.length = 0 then 1 else 0) := by
        rcases hgo with h | h
        · have := Nat.div_lt_self h (show 1 < 10 by omega); omega
        · subst h; simp; omega
      have HMS := Lib.hid hms
      have HDV := Lib.hid hdiv
      have HMD := Lib.hid hmod
      have hd9 : m % 10 ≤ 9 ∨ 9 < m % 10 := by omega
      clear hrd hms hdiv hmod
      have hgo2 : 0 < m ∨ (m ≤ 0 ∧ L.length ≤ 0) := by
        rcases hgo with h | h
        · exact .inl h
        · by_cases h0 : 0 < m
          · exact .inl h0
          · exact .inr ⟨by omega, by rw [h]; exact Nat.le_refl _⟩
      have HDG := Lib.hid (show (m % 10 ≤ 9 → dgt (m % 10) = 48 + (m : Int) % 10) ∧ (9 < m % 10 → dgt (m % 10) = 65 + (m : Int) % 10 - 10) from ⟨fun h => by unfold dgt; rw [if_pos h]; omega, fun h => by unfold dgt; rw [if_neg (by omega)]; omega⟩)
      have hmu : m < 4294967296 := by omega
      have FIN : Hid (∀ (x : Int) (v5 : Value) (w5 : World), x = dgt (m % 10) → w5.ownsRow w.heap.size 5 1 v5 (1 + L.length) ([.int .u8 x] ++ valsOf .u8 L) → (wr.alloc (.cells #[.int .u8 x] 5)).grownBy w5 (Value.slice (some ⟨wr.heap.size, 0, none⟩) 1 1).ownBlock →
          (∃ (m' : Nat) (L' : List Int), Value.int .u64 ((m : Int) / 10) = .int .u64 (m' : Int) ∧ m' ≤ u ∧ L'.length ≤ 10 ∧ Hid (DgInv 10 u m' L') ∧ Hid (w5.ownsRow w.heap.size 5 1 v5 L'.length (valsOf .u8 L')) ∧ Hid (Below w.heap.size w w5)) ∧ ((m : Int) / 10).toNat + emS v5 < (m : Int).toNat + (if L.length = 0 then 1 else 0)) := Lib.hid (by
        intro x v5 w5 hx ho hg
        subst hx
        refine ⟨⟨m / 10, dgt (m % 10) :: L, by rw [HDV.out], by omega, by simp; omega, HI2, Lib.hid ?_, Lib.hid ?_⟩, ?_⟩
        · show w5.ownsRow w.heap.size 5 1 v5 (L.length + 1) (.int .u8 (dgt (m % 10)) :: valsOf .u8 L)
          rw [Nat.add_comm L.length 1]; exact ho
        · exact ((HB.out.trans (((Below.refl _ _).alloc (Nat.le_refl _) _).mono hBw)).grown hg (by simp; omega) (fun k hk => by obtain rfl : wr.heap.size = k := Option.some.inj hk; exact hBw))
        · obtain ⟨A5, c5, rfl⟩ := owns_form ho
          have e0 : emS (.slice A5 (1 + L.length) c5) = 0 := by unfold emS; simp
          rw [e0, HDV.out]
          have := HMS.out
          omega)
      clear HI2 HMS HDV HMD HI
      rcases hgo2 with g1 | ⟨g1, g2⟩ <;> rcases hd9 with g3 | g3
      all_goals
        try have g6 : (((L.length : Nat) : Int) == 0) = true := by simp; exact List.eq_nil_of_length_eq_zero (by omega)
        have g5 : (m : Int) % 10 ≤ 9 ∨ 9 < (m : Int) % 10 := by omega
        go_wp2_with (at_builtin; refine wpList_append_rd rfl (.tmp 27) (.tmp 28) 22 rfl w.heap.size 5 i0 (.int .u8 0) 1 Tryd.underlying22 hi0 hz0 hz1 hz2 rfl _ _ _ rfl (HN.out _) wr.heap.size .u8 A L.length c L rfl (HRB.out _) (by unfold maxLen; omega) (by omega) (by simp; omega) ?_; intro v5 w5 ho hg; have HO := Lib.hid ho; have HG := Lib.hid hg; clear ho hg)
      all_goals first
        | exact FIN.out _ _ _ (HDG.out.1 g3).symm HO.out HG.out
        | exact FIN.out _ _ _ (HDG.out.2 g3).symm HO.out HG.out
        | trace_state
    · have hm0 : m = 0 := by omega
      have hLn : L ≠ [] := fun e => hgo (.inr e)
      have HE := Lib.hid (HI.out.done hm0 hLn)
      have hLl : 0 < L.length := List.length_pos_iff.2 hLn
      subst hm0
      clear hrd hgo hLn
      go_wp2_with fail
      go_ret
      refine ⟨_, rfl, ?_, HB.out⟩
      rw [← HE.out]; exact HR.out
set_option maxRecDepth 100000 in
set_option maxHeartbeats 4000000 in
theorem digits16 (u : Nat) (hu : u < 4294967296) (w : World) : Calls Tryd.prog 20 #[.int .u64 (u : Int), .int .u64 16] w fun e w' => ∃ v, e = .returned v ∧ w'.ownsRow w.heap.size 5 1 v (dgs 16 u).length (valsOf .u8 (dgs 16 u)) ∧ Below w.heap.size w w' := by
  obtain ⟨i0, hi0, hz0, hz1, hz2⟩ := info_parts infoB0
  have HLN := Lib.hid (dgs_len u hu)
  go_enter Tryd.func20, Tryd.ntmps20
  go_wp2_with fail
  go_loopw [0, 5] (fun xv bv wr => ∃ (m : Nat) (L : List Int), xv = .int .u64 (m : Int) ∧ m ≤ u ∧ L.length ≤ 10 ∧ Hid (DgInv 16 u m L) ∧ Hid (wr.ownsRow w.heap.size 5 1 bv L.length (valsOf .u8 L)) ∧ Hid (Below w.heap.size w wr)) (fun xv bv _ => (intOf xv).toNat + emS bv)
  case atStart => exact ⟨u, [], rfl, Nat.le_refl _, by simp, Lib.hid ⟨Nat.le_refl _, .inl ⟨rfl, rfl⟩⟩, Lib.hid (World.ownsRow_nil _ _ _ _), Lib.hid (Below.refl _ _)⟩
  case round =>
    obtain ⟨m, L, rfl, hm, hL, HI, HR, HB⟩ := hrel
    obtain ⟨A, c, rfl, hc, hrd⟩ := rd_own HR.out
    have HRD := Lib.hid (hrd.below (w' := wr) (Below.refl _ _))
    have hBw := HB.out.size
    by_cases hgo : 0 < m ∨ L = []
    · have HI2 := Lib.hid (HI.out.step (by omega) hgo)
      have hL2 : L.length + 1 ≤ 10 := by
        have h1 := HI2.out.len
        have h2 := HLN.out
        simp at h1; omega
      have HN := Lib.hid fun x => one_own wr w.heap.size hBw x
      have HRB : Hid (∀ x : Int, Rd (wr.alloc (.cells #[.int .u8 x] 5)) wr.heap.size .u8 A L.length L) := Lib.hid fun x => hrd.below ((Below.refl _ _).alloc (Nat.le_refl _) _)
      have hmod : (m : Int) % 16 = ((m % 16 : Nat) : Int) := by omega
      have hdiv : (m : Int) / 16 = ((m / 16 : Nat) : Int) := by omega
      have hdv := Nat.div_le_self m 16
      have hdl : m % 16 < 16 := Nat.mod_lt _ (by omega)
      have hms : m / 16 + 0 < m + (if L.length = 0 then 1 else 0) := by
        rcases hgo with h | h
        · have := Nat.div_lt_self h (show 1 < 16 by omega); omega
        · subst h; simp; omega
      have HMS := Lib.hid hms
      have HDV := Lib.hid hdiv
      have HMD := Lib.hid hmod
      have hd9 : m % 16 ≤ 9 ∨ 9 < m % 16 := by omega
      clear hrd hms hdiv hmod
      have hgo2 : 0 < m ∨ (m ≤ 0 ∧ L.length ≤ 0) := by
        rcases hgo with h | h
        · exact .inl h
        · by_cases h0 : 0 < m
          · exact .inl h0
          · exact .inr ⟨by omega, by rw [h]; exact Nat.le_refl _⟩
      have HDG := Lib.hid (show (m % 16 ≤ 9 → dgt (m % 16) = 48 + (m : Int) % 16) ∧ (9 < m % 16 → dgt (m % 16) = 65 + (m : Int) % 16 - 10) from ⟨fun h => by unfold dgt; rw [if_pos h]; omega, fun h => by unfold dgt; rw [if_neg (by omega)]; omega⟩)
      have hmu : m < 4294967296 := by omega
      have FIN : Hid (∀ (x : Int) (v5 : Value) (w5 : World), x = dgt (m % 16) → w5.ownsRow w.heap.size 5 1 v5 (1 + L.length) ([.int .u8 x] ++ valsOf .u8 L) → (wr.alloc (.cells #[.int .u8 x] 5)).grownBy w5 (Value.slice (some ⟨wr.heap.size, 0, none⟩) 1 1).ownBlock →
          (∃ (m' : Nat) (L' : List Int), Value.int .u64 ((m : Int) / 16) = .int .u64 (m' : Int) ∧ m' ≤ u ∧ L'.length ≤ 10 ∧ Hid (DgInv 16 u m' L') ∧ Hid (w5.ownsRow w.heap.size 5 1 v5 L'.length (valsOf .u8 L')) ∧ Hid (Below w.heap.size w w5)) ∧ ((m : Int) / 16).toNat + emS v5 < (m : Int).toNat + (if L.length = 0 then 1 else 0)) := Lib.hid (by
        intro x v5 w5 hx ho hg
        subst hx
        refine ⟨⟨m / 16, dgt (m % 16) :: L, by rw [HDV.out], by omega, by simp; omega, HI2, Lib.hid ?_, Lib.hid ?_⟩, ?_⟩
        · show w5.ownsRow w.heap.size 5 1 v5 (L.length + 1) (.int .u8 (dgt (m % 16)) :: valsOf .u8 L)
          rw [Nat.add_comm L.length 1]; exact ho
        · exact ((HB.out.trans (((Below.refl _ _).alloc (Nat.le_refl _) _).mono hBw)).grown hg (by simp; omega) (fun k hk => by obtain rfl : wr.heap.size = k := Option.some.inj hk; exact hBw))
        · obtain ⟨A5, c5, rfl⟩ := owns_form ho
          have e0 : emS (.slice A5 (1 + L.length) c5) = 0 := by unfold emS; simp
          rw [e0, HDV.out]
          have := HMS.out
          omega)
      clear HI2 HMS HDV HMD HI
      rcases hgo2 with g1 | ⟨g1, g2⟩ <;> rcases hd9 with g3 | g3
      all_goals
        try have g6 : (((L.length : Nat) : Int) == 0) = true := by simp; exact List.eq_nil_of_length_eq_zero (by omega)
        have g5 : (m : Int) % 16 ≤ 9 ∨ 9 < (m : Int) % 16 := by omega
        go_wp2_with (at_builtin; refine wpList_append_rd rfl (.tmp 27) (.tmp 28) 22 rfl w.heap.size 5 i0 (.int .u8 0) 1 Tryd.underlying22 hi0 hz0 hz1 hz2 rfl _ _ _ rfl (HN.out _) wr.heap.size .u8 A L.length c L rfl (HRB.out _) (by unfold maxLen; omega) (by omega) (by simp; omega) ?_; intro v5 w5 ho hg; have HO := Lib.hid ho; have HG := Lib.hid hg; clear ho hg)
      all_goals first
        | exact FIN.out _ _ _ (HDG.out.1 g3).symm HO.out HG.out
        | exact FIN.out _ _ _ (HDG.out.2 g3).symm HO.out HG.out
        | trace_state
    · have hm0 : m = 0 := by omega
      have hLn : L ≠ [] := fun e => hgo (.inr e)
      have HE := Lib.hid (HI.out.done hm0 hLn)
      have hLl : 0 < L.length := List.length_pos_iff.2 hLn
      subst hm0
      clear hrd hgo hLn
      go_wp2_with fail
      go_ret
      refine ⟨_, rfl, ?_, HB.out⟩
      rw [← HE.out]; exact HR.out
end Go.Proofs.YthpdgghjaglhnaaDoor
