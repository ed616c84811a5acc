/-
  script.ofHex: hexadecimal digits as bytes.
-/
import Derived.Test.YtlodoilihminaaaGreatDoorScrR
namespace Go.Proofs.YtlodoilihminaaaGreatDoor
open Go.ChangeShapes Go.WideShapes Go.ChangeAt Go.RowKit
set_option linter.unusedVariables false
set_option linter.unusedSimpArgs false
def hexDg : List UInt8 := [48, 49, 50, 51, 52, 53, 54, 55, 56, 57, 97, 98, 99, 100, 101, 102]
theorem ix_hv (c : UInt8) : max (Lib.indexByte hexDg c) 0 = (hv c : Int) ∧ -1 ≤ Lib.indexByte hexDg c ∧ Lib.indexByte hexDg c ≤ 15 := by
  have : ∀ k : Fin 256, max (Lib.indexByte hexDg (UInt8.ofNat k.val)) 0 = (hv (UInt8.ofNat k.val) : Int) ∧ -1 ≤ Lib.indexByte hexDg (UInt8.ofNat k.val) ∧ Lib.indexByte hexDg (UInt8.ofNat k.val) ≤ 15 := by decide +kernel
  have h := this ⟨c.toNat, c.toNat_lt⟩
  rw [show UInt8.ofNat c.toNat = c by simp] at h
  exact h
theorem hv_lt (c : UInt8) : hv c < 16 := by unfold hv; split <;> (try split) <;> omega
theorem ofHx_len (l : List UInt8) : (ofHx l).length = l.length / 2 := by
  induction l using ofHx.induct with
  | case1 a b l ih => rw [ofHx, List.length_cons, ih]; simp only [List.length_cons]; omega
  | case2 l h =>
    match l, h with
    | [], _ => simp [ofHx]
    | [a], _ => simp [ofHx]
    | a :: b :: l, h => exact absurd rfl (h a b l)
theorem ofHx_at (l : List UInt8) : ∀ j (h : 2 * j + 1 < l.length), (ofHx l)[j]? = some (((hv (l[2 * j]'(by omega)) * 16 + hv l[2 * j + 1] : Nat) : Int)) := by
  induction l using ofHx.induct with
  | case1 a b l ih =>
    intro j h
    cases j with
    | zero => rfl
    | succ j =>
      rw [ofHx, List.getElem?_cons_succ, ih j (by simp at h; omega)]
      rfl
  | case2 l h =>
    intro j hj
    match l, h with
    | [], _ => simp at hj
    | [a], _ => simp at hj
    | a :: b :: l, h => exact absurd rfl (h a b l)
theorem ofHx_succ (l : List UInt8) (j : Nat) (h : 2 * j + 1 < l.length) : (ofHx l).take (j + 1) = (ofHx l).take j ++ [((hv (l[2 * j]'(by omega)) * 16 + hv l[2 * j + 1] : Nat) : Int)] := by
  rw [List.take_add_one, ofHx_at l j h]
  rfl
theorem rd_own_lo {w : World} {base : Nat} {e : TypeId} {A : Option Addr} {n c m : Nat} {xs : List Value} (h : w.ownsRow base e 1 (.slice A n c) m xs) : 0 < n → ∃ x, A = some x ∧ base ≤ x.block := by
  intro hn
  rcases h.2 with ⟨h1, -⟩ | ⟨g, cap, cur, h1, hB, -⟩
  · injection h1 with _ h2 _
    omega
  · injection h1 with h1 _ _
    exact ⟨_, h1, hB⟩
theorem step_call {P : Program} {ops : Array Oper} {o : Oper} {a : Act} {w : World} {K : Act → World → Prop} {Q : Exit → Act → World → Prop} {E : Prop} (hgd : o.guard = none) (f : Nat) (args : Array Operand) (ts : Array TypeId)
    (ho : o.op = .call { callee := .value (.func f), args := args, argTypes := ts }) (vals : Array Value) (hv : args.toList.map a.eval = vals.toList) (hf : Sem.run P (callFunc f vals) w = Result.ok (Next.enter f vals) w) {R : Ending → World → Prop} (hc : Calls P f vals w R)
    (h : ∀ e w', R e w' → ∃ v, e = .returned v ∧ K (a.put o.dst v) w') : if Region.wanted o (yielded ops a.tmps) = true then Oper.wp P o a w K Q else E := by
  have hw : Region.wanted o (yielded ops a.tmps) = true := by simp [Region.wanted, hgd]
  rw [if_pos hw]
  have hv : args.map a.eval = vals := by rw [← Array.toList_inj, Array.toList_map]; exact hv
  subst hv
  have hr : (execOp a.eval o).run P w = .ok (.enter f (args.map a.eval)) w := by
    unfold execOp
    simp only [ho, resolve, invoke, Sem.run_bind]
    go_simp
  unfold Oper.wp
  rw [hr, Oper.upon_enter]
  refine Calls.mono hc ?_
  intro e w' hR
  obtain ⟨v, rfl, hK⟩ := h e w' hR
  exact hK
set_option maxHeartbeats 4000000 in
set_option maxRecDepth 100000 in
theorem ofHex_any (s : List UInt8) (hs : s.length ≤ 1000000) (w : World) :
    Calls Tryz.prog 26 #[.string (S s)] w fun e w' => ∃ A n c, e = .returned (.slice A n c) ∧ Rd w' w'.heap.size .u8 A n (ofH s) ∧ n ≤ c ∧ n ≤ 1000000 ∧ (0 < n → ∃ x, A = some x ∧ w.heap.size ≤ x.block) ∧ Below w.heap.size w w' := by
  have hsz := S_size s
  by_cases h45 : s = [45]
  · subst h45
    go_enter Tryz.func26, Tryz.ntmps26
    have e : ((S [45]).toList == ([45] : List UInt8)) = true := by decide +kernel
    go_wp2_with fail
    go_ret
    exact ⟨none, 0, 0, rfl, Rd.nil, Nat.le_refl _, by omega, (fun h => absurd h (by omega)), Below.refl _ _⟩
  have hof : ofH s = ofHx s := by unfold ofH; rw [if_neg h45]
  have hne : ((S s).toList == ([45] : List UInt8)) = false := by
    rw [ByteArray.toList_eq]
    show (s == [45]) = false
    simpa using h45
  obtain ⟨i0, hi, hz0, hz1, hz2⟩ := info_parts hx_infoU8
  have HIX : Hid (∀ (c : UInt8) (V : World), Calls Tryz.prog 55 #[.string { data := #[48, 49, 50, 51, 52, 53, 54, 55, 56, 57, 97, 98, 99, 100, 101, 102] }, .int .u8 (c.toNat : Int)] V fun e w' => e = .returned (.int .i64 (Lib.indexByte hexDg c)) ∧ w' = V) := Lib.hid fun c V => by
    have h := Tryz.strings_IndexByte { data := #[48, 49, 50, 51, 52, 53, 54, 55, 56, 57, 97, 98, 99, 100, 101, 102] } (c.toNat : Int) V
    have e : ((c.toNat : Int).toNat.toUInt8) = c := by simp
    rw [e] at h
    exact h
  have HL := Lib.hid (ofHx_len s)
  have HSC := Lib.hid (ofHx_succ s)
  rw [hof]
  obtain ⟨ss, hss⟩ : ∃ ss, ss = S s := ⟨_, rfl⟩
  rw [← hss] at hsz hne ⊢
  have HSS : Hid (∀ j (h : j < s.length) (h2 : j < ss.size), ss[j]'h2 = s[j]'h) := Lib.hid (by subst hss; intro j h h2; rfl)
  clear hof h45 hss
  go_enter Tryz.func26, Tryz.ntmps26
  go_wp2_with fail
  go_loopw [3, 4] (fun v i wr => ∃ m : Nat, m ≤ s.length + 1 ∧ i = .int .i64 m ∧ Hid (∃ j, m = 2 * j ∧ m ≤ s.length + 1 ∧ wr.ownsRow w.heap.size 5 1 v j (valsOf .u8 ((ofHx s).take j))) ∧ Hid (Below w.heap.size w wr)) (fun _ i _ => s.length + 1 - (intOf i).toNat)
  case atStart =>
    exact ⟨0, Nat.zero_le _, rfl, Lib.hid ⟨0, rfl, by omega, World.ownsRow_nil _ _ _ _⟩, Lib.hid (Below.refl _ _)⟩
  case round =>
    obtain ⟨m, hm, rfl, HO, HB⟩ := hrel
    by_cases hlt : m + 1 < ss.size
    · have hl1 : m < s.length := by omega
      have hl2 : m + 1 < s.length := by omega
      have hq1 : m < ss.size := by omega
      obtain ⟨j, hmj, -, ho⟩ := HO.out
      have HMJ := Lib.hid hmj
      have hsc : (ofHx s).take (j + 1) = (ofHx s).take j ++ [((hv s[m] * 16 + hv s[m + 1] : Nat) : Int)] := by
        subst hmj
        exact HSC.out j (by omega)
      have g1 := HSS.out m hl1 hq1
      have g2 := HSS.out (m + 1) hl2 hlt
      obtain ⟨a, ha⟩ : ∃ a, a = s[m] := ⟨_, rfl⟩
      obtain ⟨b, hb⟩ : ∃ b, b = s[m + 1] := ⟨_, rfl⟩
      rw [← ha] at g1 hsc
      rw [← hb] at g2 hsc
      have hw1 : wr.cell? ⟨0, 0, none⟩ = wr.cell? ⟨0, 0, none⟩ := rfl
      have HSC2 := Lib.hid hsc
      have HA1 := Lib.hid (HIX.out a)
      have HB1 := Lib.hid (HIX.out b)
      obtain ⟨x1, x2, x3⟩ := ix_hv a
      obtain ⟨y1, y2, y3⟩ := ix_hv b
      have z1 := hv_lt a
      have z2 := hv_lt b
      clear ha hb hsc hl1 hl2 hw1 hmj
      go_upto_region 7 with fail
      have HOW := Lib.hid ho
      have hsz2 := HB.out.size
      have hv1 : ((hv a : Nat) : Int) < 16 := by omega
      have hv2 : ((hv b : Nat) : Int) < 16 := by omega
      obtain ⟨p, hp⟩ : ∃ p : Int, p = ((hv a : Nat) : Int) := ⟨_, rfl⟩
      obtain ⟨q, hq⟩ : ∃ q : Int, q = ((hv b : Nat) : Int) := ⟨_, rfl⟩
      have hp0 : 0 ≤ p := by omega
      have hq0 : 0 ≤ q := by omega
      rw [← hp] at x1 hv1
      rw [← hq] at y1 hv2
      have HPQ : Hid (((hv a * 16 + hv b : Nat) : Int) = p * 16 + q) := Lib.hid (by rw [hp, hq]; push_cast; rfl)
      clear hp hq z1 z2
      have e0 : IntKind.i64.wrap ((m : Int) + 1) = (m : Int) + 1 := by unfold IntKind.wrap IntKind.signed IntKind.bits; simp; omega
      have e1 : IntKind.i64.wrap (p * 16) = p * 16 := by unfold IntKind.wrap IntKind.signed IntKind.bits; simp; omega
      have e2 : IntKind.i64.wrap (p * 16 + q) = p * 16 + q := by unfold IntKind.wrap IntKind.signed IntKind.bits; simp; omega
      have e3 : IntKind.u8.wrap (p * 16 + q) = p * 16 + q := by unfold IntKind.wrap IntKind.signed IntKind.bits; simp; omega
      have hown := ho.alloc (.cells #[.int .u8 (p * 16 + q)] 5)
      have hnw : ∀ (jj : Nat) u, [Value.int .u8 (p * 16 + q)][jj]? = some u → (wr.drew.alloc (.cells #[.int .u8 (p * 16 + q)] 5)).cell? (Addr.add ⟨wr.heap.size, 0, none⟩ jj) = some u := World.news_of_block (cs := #[.int .u8 (p * 16 + q)]) (t := 5) (fr := (0, 0)) (heap_alloc_new wr.drew _)
      have j6 : j ≤ 1000000 := by have := HMJ.out; omega
      have ri1 : ∀ V : World, (Instr.index 9 (.string ss) (.int .i64 (m : Int))).run Tryz.prog V = .ok (.int .u8 (a.toNat : Int)) V := fun V => by
        rw [run_index_string (P := Tryz.prog) V 9 ss .i64 (m : Int) (by first | exact Tryz.underlying9 | kernel_rfl)]
        simp [hq1, g1]
      have ri2 : ∀ V : World, (Instr.index 9 (.string ss) (.int .i64 ((m : Int) + 1))).run Tryz.prog V = .ok (.int .u8 (b.toNat : Int)) V := fun V => by
        rw [run_index_string (P := Tryz.prog) V 9 ss .i64 ((m : Int) + 1) (by first | exact Tryz.underlying9 | kernel_rfl)]
        have e : ((m : Int) + 1).toNat = m + 1 := by omega
        rw [dif_pos (by constructor <;> omega)]
        simp only [e]
        rw [g2]
      clear ho
      go_region_law (first | (refine step_call rfl 55 _ _ rfl #[.string { data := #[48, 49, 50, 51, 52, 53, 54, 55, 56, 57, 97, 98, 99, 100, 101, 102] }, .int .u8 (a.toNat : Int)] (by rfl) (by rfl) (HA1.out _) ?_; rintro e w' ⟨rfl, rfl⟩; refine ⟨_, rfl, ?_⟩) | (refine step_call rfl 55 _ _ rfl #[.string { data := #[48, 49, 50, 51, 52, 53, 54, 55, 56, 57, 97, 98, 99, 100, 101, 102] }, .int .u8 (b.toNat : Int)] (by rfl) (by rfl) (HB1.out _) ?_; rintro e w' ⟨rfl, rfl⟩; refine ⟨_, rfl, ?_⟩) | (refine step_append_lies _ (by rfl) _ _ _ (by rfl) w.heap.size 5 i0 _ 1 1 Tryz.underlying24 hi hz0 hz1 hz2 rfl (by omega) _ j (valsOf .u8 ((ofHx s).take j)) (by rfl) hown ⟨wr.heap.size, 0, none⟩ 1 1 [.int .u8 (p * 16 + q)] (by rfl) (by rfl) hnw (by intro u hu; simp at hu; subst hu; rfl) (by omega) (by unfold maxLen; omega) (by omega) (by simp; omega) _ rfl ?_; intro gg cap1 X1 hown1 hgrow hat hlt1; have HO1 := Lib.hid hown1; have HG1 := Lib.hid hgrow; clear hown1 hgrow hat))
      all_goals
        have HO2 : Hid (∃ j', m + 2 = 2 * j' ∧ m + 2 ≤ s.length + 1 ∧ X1.ownsRow w.heap.size 5 1 (.slice (some ⟨gg, 0, none⟩) (j + 1) cap1) j' (valsOf .u8 ((ofHx s).take j'))) := Lib.hid ⟨j + 1, by have := HMJ.out; omega, by omega, by
          rw [HSC2.out, HPQ.out]
          unfold valsOf
          rw [List.map_append]
          exact HO1.out⟩
        have HB2 : Hid (Below w.heap.size w X1) := Lib.hid ((HB.out.drew.alloc hsz2 _).grown HG1.out (by simp; omega) (fun g hg => (HOW.out.lt g hg).1))
        clear HO1 HG1 hown hnw HO HB HOW e1 e2 e3 x1 y1 ri1 ri2
        go_wp2_with fail
        exact ⟨⟨m + 2, by omega, by go_num, HO2, HB2⟩, by simp [intOf]; omega⟩
    · obtain ⟨j, hmj, -, ho⟩ := HO.out
      have hj : (ofHx s).length ≤ j := by rw [HL.out]; omega
      rw [List.take_of_length_le hj] at ho
      have hjl : (ofHx s).length = j := by have := ho.1; unfold valsOf at this; simpa using this
      obtain ⟨A2, c2, rfl, hc2, h2⟩ := rd_own ho
      have HBB := Lib.hid HB.out
      have HR := Lib.hid (And.intro h2 hc2)
      have HLO := Lib.hid (rd_own_lo ho)
      have HJ : Hid (j ≤ 1000000) := Lib.hid (by rw [← hjl, HL.out]; omega)
      clear ho h2 hc2 HO hmj hj hjl HB
      go_wp2_with fail
      go_ret
      exact ⟨_, _, _, rfl, HR.out.1, HR.out.2, HJ.out, HLO.out, HBB.out⟩
end Go.Proofs.YtlodoilihminaaaGreatDoor
