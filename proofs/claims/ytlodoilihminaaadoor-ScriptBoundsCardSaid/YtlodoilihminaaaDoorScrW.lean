/-
  The statement's own functions: num, known, once.
-/
import Derived.Test.YtlodoilihminaaaDoorScrV
import Derived.Test.YtlodoilihminaaaDoorInvR
import Derived.Lib.SlBytesConst
namespace Go.Proofs.YtlodoilihminaaaDoor
open Go.ChangeShapes Go.WideShapes Go.ChangeAt Go.RowKit
set_option linter.unusedVariables false
set_option linter.unusedSimpArgs false
attribute [local go_sem] Oper.semAt_some
/-- the tables that lie -/
structure Tb (w : World) : Prop where
  t : Tab w
  s : SpT w
  m : MxT w
  e : ErrT w
theorem Tb.below {w w' : World} (h : Tb w) (hb : Below w.heap.size w w') : Tb w' := ⟨h.t.below hb, h.s.below hb, h.m.below hb, h.e.below hb⟩
theorem num_any (n : Int) (w : World) : Calls Tryd.prog 13 #[.int .i64 n] w fun e w' => e = .returned (.int .i64 n) ∧ w' = w := by
  go_enter Tryd.func13, Tryd.ntmps13
  go_wp2
  go_ret
  exact ⟨rfl, rfl⟩
theorem fn_nilN (W : World) (f : Fn) (b c : Array Value) : (binOp .eql 68 (.func f b c) .nilFunc).run Tryd.prog W = .ok (.bool false) W := by
  have h : ∀ d : Nat, (Op.equalIn (d + 1) 68 (.func f b c) .nilFunc).run Tryd.prog W = .ok false W := fun d => by
    simp [Op.equalIn, run_underlying Tryd.underlying68]
  simp only [binOp]
  simp [Op.equal, Op.maxDepth, h 9999]
/-- once's variables -/
structure OnI (V : World) (m : Int) (i : Nat) (A : World) : Prop where
  bel : Below V.heap.size V A
  b0 : A.heap[V.heap.size]? = some (.cells #[.int .i64 m] 3 (0, 0))
  b1 : ∃ b, A.heap[V.heap.size + 1]? = some (.cells #[.bool b] 4 (0, 0))
  b2 : A.heap[V.heap.size + 2]? = some (.cells #[.int .i64 i] 3 (0, 0))
theorem OnI.below {V A B : World} {m : Int} {i : Nat} (h : OnI V m i A) (hb : Below (V.heap.size + 3) A B) : OnI V m i B :=
  ⟨h.bel.trans (hb.mono (by omega)), by rw [hb.block _ (by omega)]; exact h.b0, by rw [hb.block _ (by omega)]; exact h.b1, by rw [hb.block _ (by omega)]; exact h.b2⟩
theorem OnI.next {V A : World} {m : Int} {i : Nat} (h : OnI V m i A) : OnI V m (i + 1) (A.setCell ⟨V.heap.size + 2, 0, none⟩ (.int .i64 ((i : Int) + 1))) := by
  refine ⟨h.bel.setCell (by show V.heap.size ≤ V.heap.size + 2; omega) _, ?_, ?_, (heap_setCell_same A _ 0 _ h.b2).trans rfl⟩
  · rw [setCell_kept _ _ _ _ _ (by omega)]; exact h.b0
  · rw [setCell_kept _ _ _ _ _ (by omega)]; exact h.b1
theorem OnI.res {V A : World} {m : Int} {i : Nat} (h : OnI V m i A) (b : Bool) : Below V.heap.size V (A.setCell ⟨V.heap.size + 1, 0, none⟩ (.bool b)) ∧ (A.setCell ⟨V.heap.size + 1, 0, none⟩ (.bool b)).heap[V.heap.size + 1]? = some (.cells #[.bool b] 4 (0, 0)) := by
  obtain ⟨q, hq⟩ := h.b1
  exact ⟨h.bel.setCell (by show V.heap.size ≤ V.heap.size + 1; omega) _, (heap_setCell_same A _ 0 _ hq).trans rfl⟩
theorem once_fin {V W2 : World} {Wz : Nat} (hb : Below V.heap.size V W2) (hr : W2.heap[V.heap.size + 1]? = some (.cells #[.bool true] 4 (0, 0))) (hz : V.heap.size + 3 ≤ Wz) (hD : W2.heap[Wz]? = some (.deferred (some []))) (a : Act) (ht : a.tmps[2]? = some (.pointer (some ⟨V.heap.size + 1, 0, none⟩))) (hd : a.defers = [{ target := .collected Wz, args := #[] }]) :
    bodyPostM Fence.wide 0 Tryd.prog Tryd.f17 (fun e V' => e = .returned (.bool true) ∧ Below V.heap.size V V') .ret a W2 := by
  obtain ⟨tm, ds⟩ := a
  simp only at ht hd
  subst hd
  have hlt := (Array.getElem?_eq_some_iff.1 hD).1
  have hr2 : (W2.putObj Wz (.deferred none)).cell? ⟨V.heap.size + 1, 0, none⟩ = some (.bool true) := box_cell ((World.putObj_heap_other (by omega)).trans hr)
  refine ⟨by simp, .inl ⟨_, _, rfl, run_takeDeferred hD, ?_⟩⟩
  refine ⟨.bool true, ?_, rfl, hb.trans (below_putObj _ (by omega) hlt)⟩
  simp [results, Tryd.f17, go_sem, hr2, ht]
theorem calls_inRound {P : Program} {l n : Nat} {f : FuncId} {args : Array Value} {w : World} {R : Ending → World → Prop} (h : Calls P f args w R) : CallsIn (Fence.wide.inRound l) n P f args w R := callsIn_wide.2 h
theorem Stay.setCell {C : Nat} {A B : World} (h : Stay C A B) (p : Addr) (u : Value) (hp : p.block < C) : Stay C A (B.setCell p u) :=
  ⟨by simpa [World.setCell] using h.1, fun b hb hl => (Below.heap_setCell _ _ _ _ (by omega)).trans (h.2 b hb hl)⟩
set_option maxHeartbeats 4000000 in
set_option maxRecDepth 100000 in
theorem once_any (V : World) (m : Int) (hT : Tb V) :
    Calls Tryd.prog 17 #[.int .i64 m] V fun e V' => e = .returned (.bool true) ∧ Below V.heap.size V V' := by
  refine (callsIn_wide (n := 0)).1 ?_
  refine callsIn_of_wp_marks Tryd.func17 rfl trivial ?_ rfl
  simp only [Tryd.ntmps17, List.size_toArray, List.length_cons, List.length_nil, Nat.reduceAdd, Nat.reduceSub, Array.replicate_succ, Array.replicate_zero, List.push_toArray, List.append_toArray, List.nil_append, List.cons_append]
  have fe := fn_nilN
  refine wpIn_wide.2 ?_
  have hI0 : OnI V m 0 (((V.alloc (.cells #[.int .i64 m] 3)).alloc (.cells #[.bool false] 4)).alloc (.cells #[.int .i64 0] 3)) := by
    have z1 : (V.alloc (.cells #[.int .i64 m] 3)).heap.size = V.heap.size + 1 := by simp
    have z2 : ((V.alloc (.cells #[.int .i64 m] 3)).alloc (.cells #[.bool false] 4)).heap.size = V.heap.size + 2 := by simp
    refine ⟨((sbelow1 V _).alloc (by omega) _).alloc (by omega) _, ?_, ⟨false, ?_⟩, ?_⟩
    · rw [Below.heap_alloc _ _ _ (by omega), Below.heap_alloc _ _ _ (by omega)]; exact heap_alloc_new V _
    · rw [Below.heap_alloc _ _ _ (by omega)]; have := heap_alloc_new (V.alloc (.cells #[.int .i64 m] 3)) (.cells #[.bool false] 4); rw [z1] at this; exact this
    · have := heap_alloc_new ((V.alloc (.cells #[.int .i64 m] 3)).alloc (.cells #[.bool false] 4)) (.cells #[.int .i64 0] 3); rw [z2] at this; exact this
  have hsz : (((V.alloc (.cells #[.int .i64 m] 3)).alloc (.cells #[.bool false] 4)).alloc (.cells #[.int .i64 0] 3)).heap.size = V.heap.size + 3 := by simp
  go_upto_region 2 with fail
  generalize (((V.alloc (.cells #[.int .i64 m] 3)).alloc (.cells #[.bool false] 4)).alloc (.cells #[.int .i64 0] 3)) = W at hI0 hsz ⊢
  have HI0 := Lib.hid hI0
  have HSZ := Lib.hid hsz
  clear hI0 hsz
  rw [show V.heap.size + 1 + 1 = V.heap.size + 2 from rfl]
  go_wp2_with (go_at_call 28; (with_reducible refine (sNames_any _).mono ?_); rintro e w6 ⟨rfl, hw6⟩; subst hw6)
  refine (wpIn_wide (n := 0)).1 ?_
  refine rangeFunc_told (gf := 55) (lb := #[]) rfl (enters_of Tryd.func55 (by kernel_rfl) rfl) (encs := encN) (fun _ => rfl) (X := fun pre x A => x = pre.length) (N := 7) (S := fun xs => xs.length = 7)
    ?seq (fun pre x A B hx _ => hx) (fun pre A => OnI V m pre.length A) (fun c pre A => c = .ret ∧ Below V.heap.size V A ∧ A.heap[V.heap.size + 1]? = some (.cells #[.bool true] 4 (0, 0))) ?hi ?ix HI0.out
    (fun pre x a₁ A => a₁ = { tmps := List.toArray ((.int .i64 m) :: (.pointer (some ⟨V.heap.size, 0, none⟩)) :: (.pointer (some ⟨V.heap.size + 1, 0, none⟩)) :: (.pointer (some ⟨V.heap.size + 2, 0, none⟩)) :: (.func (.func 55) #[] #[]) :: (.int .i64 (1 + (x : Int))) :: (.string (S (actWs.getD x []))) :: (.func (.func 55) #[] #[]) :: (.func (.func 55) #[] #[]) :: (.bool false) :: (.func (.func 55) #[] #[]) :: (.int .i64 (1 + (x : Int))) :: (.string (S (actWs.getD x []))) :: undef :: undef :: undef :: undef :: undef :: undef :: undef :: undef :: undef :: undef :: undef :: undef :: undef :: undef :: undef :: undef :: undef :: undef :: undef :: undef :: undef :: undef :: undef :: []), defers := [] }) ?g ?assign ?body ?done ?stop
  case seq =>
    intro rec
    have hbb : Below V.heap.size V ((w6.alloc (.deferred (some []))).alloc (.loop rec)) := (HI0.out.bel.alloc HI0.out.bel.size _).alloc (by have := HI0.out.bel.size; simp; omega) _
    exact names1_seq (SpT.below hT.s hbb)
  case hi =>
    rintro pre A B h hb
    exact h.below (hb.mono (by have := HSZ.out; omega))
  case ix =>
    rintro c pre A o hlt ⟨h1, h2, h3⟩
    have hz := HSZ.out
    exact ⟨h1, h2.trans (below_putObj _ (by omega) hlt), (World.putObj_heap_other (by omega)).trans h3⟩
  case g => exact fun _ _ _ _ _ h _ => h
  case assign =>
    rintro l pre x A hA hI hX
    clear hA hI hX
    unfold encN
    generalize S (actWs.getD x []) = nm
    gi_wp2_with (rw [Oper.semAt_eq _ _ _ (fun c h => by cases h)]; go_simp; try go_bits)
    exact ⟨Below.refl _ _, trivial⟩
  case body =>
    rintro l pre x a1 A hA hI hpl hX rfl hD ⟨r, hL⟩
    rw [← hX] at hI hpl
    have HX := Lib.hid hX
    have HI := Lib.hid hI
    have HA := Lib.hid hA
    have c1' := box_cell hI.b0
    have c3 := box_cell hI.b2
    have hx0 : (0 : Int) ≤ (x : Int) := by omega
    have hx7 : (x : Int) < 7 := by omega
    have HWD : Hid (∀ U : World, Calls Tryd.prog 42 #[] U fun e w' => ∃ g, e = .returned (.slice (some ⟨g, 0, none⟩) 7 7) ∧ Below U.heap.size U w' ∧ w'.cell? ⟨g, x, none⟩ = some (.string (S (actWs.getD x [])))) := Lib.hid fun U => by
      refine (rwords_any U).mono ?_
      rintro e w' ⟨rfl, rfl⟩
      exact ⟨_, rfl, sbelow1 U _, acts_cell U (Below.refl _ _) x (by omega)⟩
    have HC0 : Hid (∀ U : World, Below A.heap.size A U → U.cell? ⟨V.heap.size + 2, 0, none⟩ = some (.int .i64 (x : Int))) := Lib.hid fun U hU => (hU.cell (World.block_lt_of_cell? _ _ c3)).trans c3
    clear hI hA hX hL hD
    generalize S (actWs.getD x []) = nm at *
    gi_wp2_with (rw [Oper.semAt_eq _ _ _ (fun c h => by cases h)]; go_simp; try go_bits)
    refine wpIn_region_inv' 16 rfl (fun L a' w' => ∃ y0 y1 y2 y3 y4 y5 y6 y7 y8 y9 y10 y11 y12 y13 y14 y15 : Value, a' = { tmps := List.toArray ((.int .i64 m) :: (.pointer (some ⟨V.heap.size, 0, none⟩)) :: (.pointer (some ⟨V.heap.size + 1, 0, none⟩)) :: (.pointer (some ⟨V.heap.size + 2, 0, none⟩)) :: (.func (.func 55) #[] #[]) :: (.int .i64 (1 + (x : Int))) :: (.string nm) :: (.func (.func 55) #[] #[]) :: (.func (.func 55) #[] #[]) :: (.bool false) :: (.func (.func 55) #[] #[]) :: (.int .i64 (1 + (x : Int))) :: (.string nm) :: y0 :: y1 :: y2 :: y3 :: y4 :: y5 :: y6 :: y7 :: y8 :: y9 :: y10 :: y11 :: y12 :: y13 :: y14 :: y15 :: undef :: undef :: undef :: undef :: undef :: undef :: undef :: []), defers := [] } ∧ (L 0 = true → y0 = .int .i64 (x : Int)) ∧ (L 1 = true → y1 = .bool false) ∧ (L 2 = true → y2 = .bool false) ∧ (L 3 = true → y3 = .int .i64 (1 + (x : Int))) ∧ (L 4 = true → y4 = .int .i64 (x : Int)) ∧ (L 5 = true → y5 = .int .i64 ((x : Int) + 1)) ∧ (L 6 = true → y6 = .bool false) ∧ (L 7 = true → y7 = .bool false) ∧ (L 8 = true → y8 = .bool false) ∧ (L 9 = true → y9 = .string nm) ∧ (L 10 = true → ∃ g, y10 = .slice (some ⟨g, 0, none⟩) 7 7) ∧ (L 11 = true → y11 = .int .i64 (x : Int)) ∧ (L 12 = true → ∃ g, y10 = .slice (some ⟨g, 0, none⟩) 7 7 ∧ y12 = .pointer (some ⟨g, x, none⟩)) ∧ (L 13 = true → y13 = .string nm) ∧ (L 14 = true → y14 = .bool false) ∧ (L 15 = true → y15 = .bool false) ∧ (Below A.heap.size A w') ∧ (L 10 = true → ∀ g, y10 = .slice (some ⟨g, 0, none⟩) 7 7 → w'.cell? ⟨g, x, none⟩ = some (.string nm))) (by kernel_rfl) (by kernel_rfl) ?h0 ?step ?fin
    case h0 => exact ⟨undef, undef, undef, undef, undef, undef, undef, undef, undef, undef, undef, undef, undef, undef, undef, undef, rfl, (fun e => by simp at e), (fun e => by simp at e), (fun e => by simp at e), (fun e => by simp at e), (fun e => by simp at e), (fun e => by simp at e), (fun e => by simp at e), (fun e => by simp at e), (fun e => by simp at e), (fun e => by simp at e), (fun e => by simp at e), (fun e => by simp at e), (fun e => by simp at e), (fun e => by simp at e), (fun e => by simp at e), (fun e => by simp at e), (Below.refl _ _).drew, (fun e => by simp at e)⟩
    case step =>
      rintro i hi L a' w' hLi hcl hdp ⟨y0, y1, y2, y3, y4, y5, y6, y7, y8, y9, y10, y11, y12, y13, y14, y15, rfl, e0, e1, e2, e3, e4, e5, e6, e7, e8, e9, e10, e11, e12, e13, e14, e15, hw0, hw1⟩
      have hi2 : i = 0 ∨ i = 1 ∨ i = 2 ∨ i = 3 ∨ i = 4 ∨ i = 5 ∨ i = 6 ∨ i = 7 ∨ i = 8 ∨ i = 9 ∨ i = 10 ∨ i = 11 ∨ i = 12 ∨ i = 13 ∨ i = 14 ∨ i = 15 := by omega
      rcases hi2 with rfl | rfl | rfl | rfl | rfl | rfl | rfl | rfl | rfl | rfl | rfl | rfl | rfl | rfl | rfl | rfl
      · have HF0 := Lib.hid hw0; have HF1 := Lib.hid hw1
        have E1 := Lib.hid e1; have E2 := Lib.hid e2; have E3 := Lib.hid e3; have E4 := Lib.hid e4; have E5 := Lib.hid e5; have E6 := Lib.hid e6; have E7 := Lib.hid e7; have E8 := Lib.hid e8; have E9 := Lib.hid e9; have E10 := Lib.hid e10; have E11 := Lib.hid e11; have E12 := Lib.hid e12; have E13 := Lib.hid e13; have E14 := Lib.hid e14; have E15 := Lib.hid e15
        clear e0 e1 e2 e3 e4 e5 e6 e7 e8 e9 e10 e11 e12 e13 e14 e15 hw0 hw1
        have k0 := HC0.out _ HF0.out
        refine op_any rfl (fun K hK => ?_)
        go_simp
        exact hK _ _ ⟨_, _, _, _, _, _, _, _, _, _, _, _, _, _, _, _, rfl, (fun _ => rfl), (fun h => E1.out (by simpa [upOn] using h)), (fun h => E2.out (by simpa [upOn] using h)), (fun h => E3.out (by simpa [upOn] using h)), (fun h => E4.out (by simpa [upOn] using h)), (fun h => E5.out (by simpa [upOn] using h)), (fun h => E6.out (by simpa [upOn] using h)), (fun h => E7.out (by simpa [upOn] using h)), (fun h => E8.out (by simpa [upOn] using h)), (fun h => E9.out (by simpa [upOn] using h)), (fun h => E10.out (by simpa [upOn] using h)), (fun h => E11.out (by simpa [upOn] using h)), (fun h => E12.out (by simpa [upOn] using h)), (fun h => E13.out (by simpa [upOn] using h)), (fun h => E14.out (by simpa [upOn] using h)), (fun h => E15.out (by simpa [upOn] using h)), HF0.out, (fun h0 => HF1.out (by simpa [upOn] using h0))⟩
      · have HF0 := Lib.hid hw0; have HF1 := Lib.hid hw1
        have l0 := (hdp 0 (by kernel_rfl))
        obtain rfl := e0 l0
        have E2 := Lib.hid e2; have E3 := Lib.hid e3; have E4 := Lib.hid e4; have E5 := Lib.hid e5; have E6 := Lib.hid e6; have E7 := Lib.hid e7; have E8 := Lib.hid e8; have E9 := Lib.hid e9; have E10 := Lib.hid e10; have E11 := Lib.hid e11; have E12 := Lib.hid e12; have E13 := Lib.hid e13; have E14 := Lib.hid e14; have E15 := Lib.hid e15
        clear e0 e1 e2 e3 e4 e5 e6 e7 e8 e9 e10 e11 e12 e13 e14 e15 hw0 hw1
        have d7 : decide ((x : Int) ≥ 7) = false := by simp; omega
        refine op_any rfl (fun K hK => ?_)
        go_simp
        exact hK _ _ ⟨_, _, _, _, _, _, _, _, _, _, _, _, _, _, _, _, rfl, (fun _ => rfl), (fun _ => rfl), (fun h => E2.out (by simpa [upOn] using h)), (fun h => E3.out (by simpa [upOn] using h)), (fun h => E4.out (by simpa [upOn] using h)), (fun h => E5.out (by simpa [upOn] using h)), (fun h => E6.out (by simpa [upOn] using h)), (fun h => E7.out (by simpa [upOn] using h)), (fun h => E8.out (by simpa [upOn] using h)), (fun h => E9.out (by simpa [upOn] using h)), (fun h => E10.out (by simpa [upOn] using h)), (fun h => E11.out (by simpa [upOn] using h)), (fun h => E12.out (by simpa [upOn] using h)), (fun h => E13.out (by simpa [upOn] using h)), (fun h => E14.out (by simpa [upOn] using h)), (fun h => E15.out (by simpa [upOn] using h)), HF0.out, (fun h0 => HF1.out (by simpa [upOn] using h0))⟩
      · have HF0 := Lib.hid hw0; have HF1 := Lib.hid hw1
        have l1 := (hdp 1 (by kernel_rfl))
        obtain rfl := e1 l1
        have E0 := Lib.hid e0; have E3 := Lib.hid e3; have E4 := Lib.hid e4; have E5 := Lib.hid e5; have E6 := Lib.hid e6; have E7 := Lib.hid e7; have E8 := Lib.hid e8; have E9 := Lib.hid e9; have E10 := Lib.hid e10; have E11 := Lib.hid e11; have E12 := Lib.hid e12; have E13 := Lib.hid e13; have E14 := Lib.hid e14; have E15 := Lib.hid e15
        clear e0 e1 e2 e3 e4 e5 e6 e7 e8 e9 e10 e11 e12 e13 e14 e15 hw0 hw1
        refine op_any rfl (fun K hK => ?_)
        go_simp
        exact hK _ _ ⟨_, _, _, _, _, _, _, _, _, _, _, _, _, _, _, _, rfl, (fun h => E0.out (by simpa [upOn] using h)), (fun _ => rfl), (fun _ => rfl), (fun h => E3.out (by simpa [upOn] using h)), (fun h => E4.out (by simpa [upOn] using h)), (fun h => E5.out (by simpa [upOn] using h)), (fun h => E6.out (by simpa [upOn] using h)), (fun h => E7.out (by simpa [upOn] using h)), (fun h => E8.out (by simpa [upOn] using h)), (fun h => E9.out (by simpa [upOn] using h)), (fun h => E10.out (by simpa [upOn] using h)), (fun h => E11.out (by simpa [upOn] using h)), (fun h => E12.out (by simpa [upOn] using h)), (fun h => E13.out (by simpa [upOn] using h)), (fun h => E14.out (by simpa [upOn] using h)), (fun h => E15.out (by simpa [upOn] using h)), HF0.out, (fun h0 => HF1.out (by simpa [upOn] using h0))⟩
      · have HF0 := Lib.hid hw0; have HF1 := Lib.hid hw1
        have l2 := (hdp 2 (by kernel_rfl))
        obtain rfl := e2 l2
        have E0 := Lib.hid e0; have E1 := Lib.hid e1; have E4 := Lib.hid e4; have E5 := Lib.hid e5; have E6 := Lib.hid e6; have E7 := Lib.hid e7; have E8 := Lib.hid e8; have E9 := Lib.hid e9; have E10 := Lib.hid e10; have E11 := Lib.hid e11; have E12 := Lib.hid e12; have E13 := Lib.hid e13; have E14 := Lib.hid e14; have E15 := Lib.hid e15
        clear e0 e1 e2 e3 e4 e5 e6 e7 e8 e9 e10 e11 e12 e13 e14 e15 hw0 hw1
        refine op_any rfl (fun K hK => ?_)
        go_simp
        exact hK _ _ ⟨_, _, _, _, _, _, _, _, _, _, _, _, _, _, _, _, rfl, (fun h => E0.out (by simpa [upOn] using h)), (fun h => E1.out (by simpa [upOn] using h)), (fun _ => rfl), (fun _ => rfl), (fun h => E4.out (by simpa [upOn] using h)), (fun h => E5.out (by simpa [upOn] using h)), (fun h => E6.out (by simpa [upOn] using h)), (fun h => E7.out (by simpa [upOn] using h)), (fun h => E8.out (by simpa [upOn] using h)), (fun h => E9.out (by simpa [upOn] using h)), (fun h => E10.out (by simpa [upOn] using h)), (fun h => E11.out (by simpa [upOn] using h)), (fun h => E12.out (by simpa [upOn] using h)), (fun h => E13.out (by simpa [upOn] using h)), (fun h => E14.out (by simpa [upOn] using h)), (fun h => E15.out (by simpa [upOn] using h)), HF0.out, (fun h0 => HF1.out (by simpa [upOn] using h0))⟩
      · have HF0 := Lib.hid hw0; have HF1 := Lib.hid hw1
        have l2 := (hdp 2 (by kernel_rfl))
        obtain rfl := e2 l2
        have E0 := Lib.hid e0; have E1 := Lib.hid e1; have E3 := Lib.hid e3; have E5 := Lib.hid e5; have E6 := Lib.hid e6; have E7 := Lib.hid e7; have E8 := Lib.hid e8; have E9 := Lib.hid e9; have E10 := Lib.hid e10; have E11 := Lib.hid e11; have E12 := Lib.hid e12; have E13 := Lib.hid e13; have E14 := Lib.hid e14; have E15 := Lib.hid e15
        clear e0 e1 e2 e3 e4 e5 e6 e7 e8 e9 e10 e11 e12 e13 e14 e15 hw0 hw1
        have k0 := HC0.out _ HF0.out
        refine op_any rfl (fun K hK => ?_)
        go_simp
        exact hK _ _ ⟨_, _, _, _, _, _, _, _, _, _, _, _, _, _, _, _, rfl, (fun h => E0.out (by simpa [upOn] using h)), (fun h => E1.out (by simpa [upOn] using h)), (fun _ => rfl), (fun h => E3.out (by simpa [upOn] using h)), (fun _ => rfl), (fun h => E5.out (by simpa [upOn] using h)), (fun h => E6.out (by simpa [upOn] using h)), (fun h => E7.out (by simpa [upOn] using h)), (fun h => E8.out (by simpa [upOn] using h)), (fun h => E9.out (by simpa [upOn] using h)), (fun h => E10.out (by simpa [upOn] using h)), (fun h => E11.out (by simpa [upOn] using h)), (fun h => E12.out (by simpa [upOn] using h)), (fun h => E13.out (by simpa [upOn] using h)), (fun h => E14.out (by simpa [upOn] using h)), (fun h => E15.out (by simpa [upOn] using h)), HF0.out, (fun h0 => HF1.out (by simpa [upOn] using h0))⟩
      · have HF0 := Lib.hid hw0; have HF1 := Lib.hid hw1
        have l2 := (hdp 2 (by kernel_rfl))
        have l4 := (hdp 4 (by kernel_rfl))
        obtain rfl := e2 l2
        obtain rfl := e4 l4
        have E0 := Lib.hid e0; have E1 := Lib.hid e1; have E3 := Lib.hid e3; have E6 := Lib.hid e6; have E7 := Lib.hid e7; have E8 := Lib.hid e8; have E9 := Lib.hid e9; have E10 := Lib.hid e10; have E11 := Lib.hid e11; have E12 := Lib.hid e12; have E13 := Lib.hid e13; have E14 := Lib.hid e14; have E15 := Lib.hid e15
        clear e0 e1 e2 e3 e4 e5 e6 e7 e8 e9 e10 e11 e12 e13 e14 e15 hw0 hw1
        have d7 : IntKind.i64.wrap ((x : Int) + 1) = (x : Int) + 1 := by unfold IntKind.wrap IntKind.signed IntKind.bits; simp; omega
        refine op_any rfl (fun K hK => ?_)
        go_simp
        exact hK _ _ ⟨_, _, _, _, _, _, _, _, _, _, _, _, _, _, _, _, rfl, (fun h => E0.out (by simpa [upOn] using h)), (fun h => E1.out (by simpa [upOn] using h)), (fun _ => rfl), (fun h => E3.out (by simpa [upOn] using h)), (fun _ => rfl), (fun _ => rfl), (fun h => E6.out (by simpa [upOn] using h)), (fun h => E7.out (by simpa [upOn] using h)), (fun h => E8.out (by simpa [upOn] using h)), (fun h => E9.out (by simpa [upOn] using h)), (fun h => E10.out (by simpa [upOn] using h)), (fun h => E11.out (by simpa [upOn] using h)), (fun h => E12.out (by simpa [upOn] using h)), (fun h => E13.out (by simpa [upOn] using h)), (fun h => E14.out (by simpa [upOn] using h)), (fun h => E15.out (by simpa [upOn] using h)), HF0.out, (fun h0 => HF1.out (by simpa [upOn] using h0))⟩
      · have HF0 := Lib.hid hw0; have HF1 := Lib.hid hw1
        have l2 := (hdp 2 (by kernel_rfl))
        have l3 := (hdp 3 (by kernel_rfl))
        have l5 := (hdp 5 (by kernel_rfl))
        obtain rfl := e2 l2
        obtain rfl := e3 l3
        obtain rfl := e5 l5
        have E0 := Lib.hid e0; have E1 := Lib.hid e1; have E4 := Lib.hid e4; have E7 := Lib.hid e7; have E8 := Lib.hid e8; have E9 := Lib.hid e9; have E10 := Lib.hid e10; have E11 := Lib.hid e11; have E12 := Lib.hid e12; have E13 := Lib.hid e13; have E14 := Lib.hid e14; have E15 := Lib.hid e15
        clear e0 e1 e2 e3 e4 e5 e6 e7 e8 e9 e10 e11 e12 e13 e14 e15 hw0 hw1
        have d7 : ((1 + (x : Int)) != (x : Int) + 1) = false := by simp; omega
        refine op_any rfl (fun K hK => ?_)
        go_simp
        exact hK _ _ ⟨_, _, _, _, _, _, _, _, _, _, _, _, _, _, _, _, rfl, (fun h => E0.out (by simpa [upOn] using h)), (fun h => E1.out (by simpa [upOn] using h)), (fun _ => rfl), (fun _ => rfl), (fun h => E4.out (by simpa [upOn] using h)), (fun _ => rfl), (fun _ => rfl), (fun h => E7.out (by simpa [upOn] using h)), (fun h => E8.out (by simpa [upOn] using h)), (fun h => E9.out (by simpa [upOn] using h)), (fun h => E10.out (by simpa [upOn] using h)), (fun h => E11.out (by simpa [upOn] using h)), (fun h => E12.out (by simpa [upOn] using h)), (fun h => E13.out (by simpa [upOn] using h)), (fun h => E14.out (by simpa [upOn] using h)), (fun h => E15.out (by simpa [upOn] using h)), HF0.out, (fun h0 => HF1.out (by simpa [upOn] using h0))⟩
      · have HF0 := Lib.hid hw0; have HF1 := Lib.hid hw1
        have l2 := (hdp 2 (by kernel_rfl))
        have l6 := (hdp 6 (by kernel_rfl))
        obtain rfl := e2 l2
        obtain rfl := e6 l6
        have E0 := Lib.hid e0; have E1 := Lib.hid e1; have E3 := Lib.hid e3; have E4 := Lib.hid e4; have E5 := Lib.hid e5; have E8 := Lib.hid e8; have E9 := Lib.hid e9; have E10 := Lib.hid e10; have E11 := Lib.hid e11; have E12 := Lib.hid e12; have E13 := Lib.hid e13; have E14 := Lib.hid e14; have E15 := Lib.hid e15
        clear e0 e1 e2 e3 e4 e5 e6 e7 e8 e9 e10 e11 e12 e13 e14 e15 hw0 hw1
        refine op_any rfl (fun K hK => ?_)
        go_simp
        exact hK _ _ ⟨_, _, _, _, _, _, _, _, _, _, _, _, _, _, _, _, rfl, (fun h => E0.out (by simpa [upOn] using h)), (fun h => E1.out (by simpa [upOn] using h)), (fun _ => rfl), (fun h => E3.out (by simpa [upOn] using h)), (fun h => E4.out (by simpa [upOn] using h)), (fun h => E5.out (by simpa [upOn] using h)), (fun _ => rfl), (fun _ => rfl), (fun h => E8.out (by simpa [upOn] using h)), (fun h => E9.out (by simpa [upOn] using h)), (fun h => E10.out (by simpa [upOn] using h)), (fun h => E11.out (by simpa [upOn] using h)), (fun h => E12.out (by simpa [upOn] using h)), (fun h => E13.out (by simpa [upOn] using h)), (fun h => E14.out (by simpa [upOn] using h)), (fun h => E15.out (by simpa [upOn] using h)), HF0.out, (fun h0 => HF1.out (by simpa [upOn] using h0))⟩
      · have HF0 := Lib.hid hw0; have HF1 := Lib.hid hw1
        have l7 := (hdp 7 (by kernel_rfl))
        obtain rfl := e7 l7
        have E0 := Lib.hid e0; have E1 := Lib.hid e1; have E2 := Lib.hid e2; have E3 := Lib.hid e3; have E4 := Lib.hid e4; have E5 := Lib.hid e5; have E6 := Lib.hid e6; have E9 := Lib.hid e9; have E10 := Lib.hid e10; have E11 := Lib.hid e11; have E12 := Lib.hid e12; have E13 := Lib.hid e13; have E14 := Lib.hid e14; have E15 := Lib.hid e15
        clear e0 e1 e2 e3 e4 e5 e6 e7 e8 e9 e10 e11 e12 e13 e14 e15 hw0 hw1
        refine op_any rfl (fun K hK => ?_)
        go_simp
        exact hK _ _ ⟨_, _, _, _, _, _, _, _, _, _, _, _, _, _, _, _, rfl, (fun h => E0.out (by simpa [upOn] using h)), (fun h => E1.out (by simpa [upOn] using h)), (fun h => E2.out (by simpa [upOn] using h)), (fun h => E3.out (by simpa [upOn] using h)), (fun h => E4.out (by simpa [upOn] using h)), (fun h => E5.out (by simpa [upOn] using h)), (fun h => E6.out (by simpa [upOn] using h)), (fun _ => rfl), (fun _ => rfl), (fun h => E9.out (by simpa [upOn] using h)), (fun h => E10.out (by simpa [upOn] using h)), (fun h => E11.out (by simpa [upOn] using h)), (fun h => E12.out (by simpa [upOn] using h)), (fun h => E13.out (by simpa [upOn] using h)), (fun h => E14.out (by simpa [upOn] using h)), (fun h => E15.out (by simpa [upOn] using h)), HF0.out, (fun h0 => HF1.out (by simpa [upOn] using h0))⟩
      · have HF0 := Lib.hid hw0; have HF1 := Lib.hid hw1
        have l8 := (hdp 8 (by kernel_rfl))
        obtain rfl := e8 l8
        have E0 := Lib.hid e0; have E1 := Lib.hid e1; have E2 := Lib.hid e2; have E3 := Lib.hid e3; have E4 := Lib.hid e4; have E5 := Lib.hid e5; have E6 := Lib.hid e6; have E7 := Lib.hid e7; have E10 := Lib.hid e10; have E11 := Lib.hid e11; have E12 := Lib.hid e12; have E13 := Lib.hid e13; have E14 := Lib.hid e14; have E15 := Lib.hid e15
        clear e0 e1 e2 e3 e4 e5 e6 e7 e8 e9 e10 e11 e12 e13 e14 e15 hw0 hw1
        refine op_any rfl (fun K hK => ?_)
        go_simp
        exact hK _ _ ⟨_, _, _, _, _, _, _, _, _, _, _, _, _, _, _, _, rfl, (fun h => E0.out (by simpa [upOn] using h)), (fun h => E1.out (by simpa [upOn] using h)), (fun h => E2.out (by simpa [upOn] using h)), (fun h => E3.out (by simpa [upOn] using h)), (fun h => E4.out (by simpa [upOn] using h)), (fun h => E5.out (by simpa [upOn] using h)), (fun h => E6.out (by simpa [upOn] using h)), (fun h => E7.out (by simpa [upOn] using h)), (fun _ => rfl), (fun _ => rfl), (fun h => E10.out (by simpa [upOn] using h)), (fun h => E11.out (by simpa [upOn] using h)), (fun h => E12.out (by simpa [upOn] using h)), (fun h => E13.out (by simpa [upOn] using h)), (fun h => E14.out (by simpa [upOn] using h)), (fun h => E15.out (by simpa [upOn] using h)), HF0.out, (fun h0 => HF1.out (by simpa [upOn] using h0))⟩
      · have HF0 := Lib.hid hw0; have HF1 := Lib.hid hw1
        have l8 := (hdp 8 (by kernel_rfl))
        have l12 : L 12 = false := by
          cases h : L 12
          · rfl
          · exact absurd (hcl 12 10 h (by kernel_rfl)) (by rw [hLi]; decide)
        obtain rfl := e8 l8
        have E0 := Lib.hid e0; have E1 := Lib.hid e1; have E2 := Lib.hid e2; have E3 := Lib.hid e3; have E4 := Lib.hid e4; have E5 := Lib.hid e5; have E6 := Lib.hid e6; have E7 := Lib.hid e7; have E9 := Lib.hid e9; have E11 := Lib.hid e11; have E12 := Lib.hid e12; have E13 := Lib.hid e13; have E14 := Lib.hid e14; have E15 := Lib.hid e15
        clear e0 e1 e2 e3 e4 e5 e6 e7 e8 e9 e10 e11 e12 e13 e14 e15 hw0 hw1
        refine op_any rfl (fun K hK => ?_)
        go_simp
        refine ⟨trivial, rfl, (calls_inRound (HWD.out _)).mono ?_⟩
        rintro e v1 ⟨g, rfl, hb, hc⟩
        exact hK _ _ ⟨_, _, _, _, _, _, _, _, _, _, _, _, _, _, _, _, rfl, (fun h => E0.out (by simpa [upOn] using h)), (fun h => E1.out (by simpa [upOn] using h)), (fun h => E2.out (by simpa [upOn] using h)), (fun h => E3.out (by simpa [upOn] using h)), (fun h => E4.out (by simpa [upOn] using h)), (fun h => E5.out (by simpa [upOn] using h)), (fun h => E6.out (by simpa [upOn] using h)), (fun h => E7.out (by simpa [upOn] using h)), (fun _ => rfl), (fun h => E9.out (by simpa [upOn] using h)), (fun _ => ⟨_, rfl⟩), (fun h => E11.out (by simpa [upOn] using h)), (fun h => by simp [upOn, l12] at h), (fun h => E13.out (by simpa [upOn] using h)), (fun h => E14.out (by simpa [upOn] using h)), (fun h => E15.out (by simpa [upOn] using h)), (HF0.out.trans (hb.mono HF0.out.size)), (fun _ g hg => by cases hg; exact hc)⟩
      · have HF0 := Lib.hid hw0; have HF1 := Lib.hid hw1
        have l8 := (hdp 8 (by kernel_rfl))
        obtain rfl := e8 l8
        have E0 := Lib.hid e0; have E1 := Lib.hid e1; have E2 := Lib.hid e2; have E3 := Lib.hid e3; have E4 := Lib.hid e4; have E5 := Lib.hid e5; have E6 := Lib.hid e6; have E7 := Lib.hid e7; have E9 := Lib.hid e9; have E10 := Lib.hid e10; have E12 := Lib.hid e12; have E13 := Lib.hid e13; have E14 := Lib.hid e14; have E15 := Lib.hid e15
        clear e0 e1 e2 e3 e4 e5 e6 e7 e8 e9 e10 e11 e12 e13 e14 e15 hw0 hw1
        have k0 := HC0.out _ HF0.out
        refine op_any rfl (fun K hK => ?_)
        go_simp
        exact hK _ _ ⟨_, _, _, _, _, _, _, _, _, _, _, _, _, _, _, _, rfl, (fun h => E0.out (by simpa [upOn] using h)), (fun h => E1.out (by simpa [upOn] using h)), (fun h => E2.out (by simpa [upOn] using h)), (fun h => E3.out (by simpa [upOn] using h)), (fun h => E4.out (by simpa [upOn] using h)), (fun h => E5.out (by simpa [upOn] using h)), (fun h => E6.out (by simpa [upOn] using h)), (fun h => E7.out (by simpa [upOn] using h)), (fun _ => rfl), (fun h => E9.out (by simpa [upOn] using h)), (fun h => E10.out (by simpa [upOn] using h)), (fun _ => rfl), (fun h => E12.out (by simpa [upOn] using h)), (fun h => E13.out (by simpa [upOn] using h)), (fun h => E14.out (by simpa [upOn] using h)), (fun h => E15.out (by simpa [upOn] using h)), HF0.out, (fun h0 => HF1.out (by simpa [upOn] using h0))⟩
      · have HF0 := Lib.hid hw0; have HF1 := Lib.hid hw1
        have l8 := (hdp 8 (by kernel_rfl))
        have l10 := (hdp 10 (by kernel_rfl))
        have l11 := (hdp 11 (by kernel_rfl))
        obtain rfl := e8 l8
        obtain ⟨g, rfl⟩ := e10 l10
        obtain rfl := e11 l11
        have E0 := Lib.hid e0; have E1 := Lib.hid e1; have E2 := Lib.hid e2; have E3 := Lib.hid e3; have E4 := Lib.hid e4; have E5 := Lib.hid e5; have E6 := Lib.hid e6; have E7 := Lib.hid e7; have E9 := Lib.hid e9; have E13 := Lib.hid e13; have E14 := Lib.hid e14; have E15 := Lib.hid e15
        clear e0 e1 e2 e3 e4 e5 e6 e7 e8 e9 e10 e11 e12 e13 e14 e15 hw0 hw1
        refine op_any rfl (fun K hK => ?_)
        go_simp
        exact hK _ _ ⟨_, _, _, _, _, _, _, _, _, _, _, _, _, _, _, _, rfl, (fun h => E0.out (by simpa [upOn] using h)), (fun h => E1.out (by simpa [upOn] using h)), (fun h => E2.out (by simpa [upOn] using h)), (fun h => E3.out (by simpa [upOn] using h)), (fun h => E4.out (by simpa [upOn] using h)), (fun h => E5.out (by simpa [upOn] using h)), (fun h => E6.out (by simpa [upOn] using h)), (fun h => E7.out (by simpa [upOn] using h)), (fun _ => rfl), (fun h => E9.out (by simpa [upOn] using h)), (fun _ => ⟨_, rfl⟩), (fun _ => rfl), (fun _ => ⟨_, rfl, rfl⟩), (fun h => E13.out (by simpa [upOn] using h)), (fun h => E14.out (by simpa [upOn] using h)), (fun h => E15.out (by simpa [upOn] using h)), HF0.out, (fun h0 => HF1.out (by simpa [upOn] using h0))⟩
      · have HF0 := Lib.hid hw0; have HF1 := Lib.hid hw1
        have l8 := (hdp 8 (by kernel_rfl))
        have l12 := (hdp 12 (by kernel_rfl))
        obtain rfl := e8 l8
        obtain ⟨g, hg, rfl⟩ := e12 l12
        have E0 := Lib.hid e0; have E1 := Lib.hid e1; have E2 := Lib.hid e2; have E3 := Lib.hid e3; have E4 := Lib.hid e4; have E5 := Lib.hid e5; have E6 := Lib.hid e6; have E7 := Lib.hid e7; have E9 := Lib.hid e9; have E10 := Lib.hid e10; have E11 := Lib.hid e11; have E14 := Lib.hid e14; have E15 := Lib.hid e15
        clear e0 e1 e2 e3 e4 e5 e6 e7 e8 e9 e10 e11 e12 e13 e14 e15 hw0 hw1
        have l10 := hcl 12 10 l12 (by kernel_rfl)
        have k1 := HF1.out l10 g hg
        have HG := Lib.hid hg
        clear hg
        refine op_any rfl (fun K hK => ?_)
        go_simp
        exact hK _ _ ⟨_, _, _, _, _, _, _, _, _, _, _, _, _, _, _, _, rfl, (fun h => E0.out (by simpa [upOn] using h)), (fun h => E1.out (by simpa [upOn] using h)), (fun h => E2.out (by simpa [upOn] using h)), (fun h => E3.out (by simpa [upOn] using h)), (fun h => E4.out (by simpa [upOn] using h)), (fun h => E5.out (by simpa [upOn] using h)), (fun h => E6.out (by simpa [upOn] using h)), (fun h => E7.out (by simpa [upOn] using h)), (fun _ => rfl), (fun h => E9.out (by simpa [upOn] using h)), (fun h => E10.out (by simpa [upOn] using h)), (fun h => E11.out (by simpa [upOn] using h)), (fun _ => ⟨_, HG.out, rfl⟩), (fun _ => rfl), (fun h => E14.out (by simpa [upOn] using h)), (fun h => E15.out (by simpa [upOn] using h)), HF0.out, (fun h0 => HF1.out (by simpa [upOn] using h0))⟩
      · have HF0 := Lib.hid hw0; have HF1 := Lib.hid hw1
        have l8 := (hdp 8 (by kernel_rfl))
        have l9 := (hdp 9 (by kernel_rfl))
        have l13 := (hdp 13 (by kernel_rfl))
        obtain rfl := e8 l8
        obtain rfl := e9 l9
        obtain rfl := e13 l13
        have E0 := Lib.hid e0; have E1 := Lib.hid e1; have E2 := Lib.hid e2; have E3 := Lib.hid e3; have E4 := Lib.hid e4; have E5 := Lib.hid e5; have E6 := Lib.hid e6; have E7 := Lib.hid e7; have E10 := Lib.hid e10; have E11 := Lib.hid e11; have E12 := Lib.hid e12; have E15 := Lib.hid e15
        clear e0 e1 e2 e3 e4 e5 e6 e7 e8 e9 e10 e11 e12 e13 e14 e15 hw0 hw1
        refine op_any rfl (fun K hK => ?_)
        go_simp
        exact hK _ _ ⟨_, _, _, _, _, _, _, _, _, _, _, _, _, _, _, _, rfl, (fun h => E0.out (by simpa [upOn] using h)), (fun h => E1.out (by simpa [upOn] using h)), (fun h => E2.out (by simpa [upOn] using h)), (fun h => E3.out (by simpa [upOn] using h)), (fun h => E4.out (by simpa [upOn] using h)), (fun h => E5.out (by simpa [upOn] using h)), (fun h => E6.out (by simpa [upOn] using h)), (fun h => E7.out (by simpa [upOn] using h)), (fun _ => rfl), (fun _ => rfl), (fun h => E10.out (by simpa [upOn] using h)), (fun h => E11.out (by simpa [upOn] using h)), (fun h => E12.out (by simpa [upOn] using h)), (fun _ => rfl), (fun _ => rfl), (fun h => E15.out (by simpa [upOn] using h)), HF0.out, (fun h0 => HF1.out (by simpa [upOn] using h0))⟩
      · have HF0 := Lib.hid hw0; have HF1 := Lib.hid hw1
        have l8 := (hdp 8 (by kernel_rfl))
        have l14 := (hdp 14 (by kernel_rfl))
        obtain rfl := e8 l8
        obtain rfl := e14 l14
        have E0 := Lib.hid e0; have E1 := Lib.hid e1; have E2 := Lib.hid e2; have E3 := Lib.hid e3; have E4 := Lib.hid e4; have E5 := Lib.hid e5; have E6 := Lib.hid e6; have E7 := Lib.hid e7; have E9 := Lib.hid e9; have E10 := Lib.hid e10; have E11 := Lib.hid e11; have E12 := Lib.hid e12; have E13 := Lib.hid e13
        clear e0 e1 e2 e3 e4 e5 e6 e7 e8 e9 e10 e11 e12 e13 e14 e15 hw0 hw1
        refine op_any rfl (fun K hK => ?_)
        go_simp
        exact hK _ _ ⟨_, _, _, _, _, _, _, _, _, _, _, _, _, _, _, _, rfl, (fun h => E0.out (by simpa [upOn] using h)), (fun h => E1.out (by simpa [upOn] using h)), (fun h => E2.out (by simpa [upOn] using h)), (fun h => E3.out (by simpa [upOn] using h)), (fun h => E4.out (by simpa [upOn] using h)), (fun h => E5.out (by simpa [upOn] using h)), (fun h => E6.out (by simpa [upOn] using h)), (fun h => E7.out (by simpa [upOn] using h)), (fun _ => rfl), (fun h => E9.out (by simpa [upOn] using h)), (fun h => E10.out (by simpa [upOn] using h)), (fun h => E11.out (by simpa [upOn] using h)), (fun h => E12.out (by simpa [upOn] using h)), (fun h => E13.out (by simpa [upOn] using h)), (fun _ => rfl), (fun _ => rfl), HF0.out, (fun h0 => HF1.out (by simpa [upOn] using h0))⟩
    case fin =>
      rintro L a' w' hall ⟨y0, y1, y2, y3, y4, y5, y6, y7, y8, y9, y10, y11, y12, y13, y14, y15, rfl, e0, e1, e2, e3, e4, e5, e6, e7, e8, e9, e10, e11, e12, e13, e14, e15, hw0, hw1⟩
      obtain rfl := e0 (hall 0 (by omega))
      obtain rfl := e1 (hall 1 (by omega))
      obtain rfl := e2 (hall 2 (by omega))
      obtain rfl := e3 (hall 3 (by omega))
      obtain rfl := e4 (hall 4 (by omega))
      obtain rfl := e5 (hall 5 (by omega))
      obtain rfl := e6 (hall 6 (by omega))
      obtain rfl := e7 (hall 7 (by omega))
      obtain rfl := e8 (hall 8 (by omega))
      obtain rfl := e9 (hall 9 (by omega))
      obtain ⟨g, rfl⟩ := e10 (hall 10 (by omega))
      obtain rfl := e11 (hall 11 (by omega))
      obtain ⟨g, hg, rfl⟩ := e12 (hall 12 (by omega))
      obtain rfl := e13 (hall 13 (by omega))
      obtain rfl := e14 (hall 14 (by omega))
      obtain rfl := e15 (hall 15 (by omega))
      have HF0 := Lib.hid hw0
      clear hw0 hw1 hall hg
      have HI2 := Lib.hid (HI.out.below (HF0.out.mono (by have := HSZ.out; have := HA.out; omega)))
      clear c1' c3
      have o0 := box_cell HI2.out.b0
      obtain ⟨bq, hb1⟩ := HI2.out.b1
      have o1 := box_cell hb1
      have f1 := box_frz hb1
      have o2 := box_cell HI2.out.b2
      have f2 := box_frz HI2.out.b2
      clear hb1
      gi_wp2_with (rw [Oper.semAt_eq _ _ _ (fun c h => by cases h)]; go_simp; try go_bits)
      · exact ⟨(Stay.below (C := w6.heap.size) HF0.out).setCell _ _ (by show V.heap.size + 2 < _; have := HSZ.out; omega) |>.setCell _ _ (by show V.heap.size + 1 < _; have := HSZ.out; omega), rfl, (HI2.out.next.res true).1, (HI2.out.next.res true).2⟩
      · have hn : (pre ++ [x]).length = x + 1 := by rw [List.length_append, List.length_singleton, ← HX.out]
        refine ⟨(Stay.below (C := w6.heap.size) HF0.out).setCell _ _ (by show V.heap.size + 2 < _; have := HSZ.out; omega), ?_⟩
        show OnI V m _ _
        rw [hn]
        exact HI2.out.next
  case done =>
    rintro xs W2 hS hI hD
    rw [hS] at hI
    have o2 := box_cell hI.b2
    obtain ⟨bq, hb1⟩ := hI.b1
    have o1 := box_cell hb1
    have f1 := box_frz hb1
    have HI := Lib.hid hI
    have HD := Lib.hid hD
    clear hI hb1 hD
    go_wp2_with fail
    exact once_fin (HI.out.res true).1 (HI.out.res true).2 (by have := HSZ.out; omega) ((setCell_kept _ _ _ _ _ (by have := HSZ.out; omega)).trans HD.out) _ rfl rfl
  case stop =>
    rintro c pre W2 ⟨rfl, hb, hr⟩ hD
    refine wpIn_wide.2 (wp_ret ?_)
    exact once_fin hb hr (by have := HSZ.out; omega) hD _ rfl rfl
/-! ### known -/
def aK : Ac := ⟨2, [97], [120, 32, 58, 61, 32, 49], [], 0, 0⟩
theorem aK_at (W : World) (g : Nat) (h : W.heap[g]? = some (.cells #[.int .u8 120, .int .u8 32, .int .u8 58, .int .u8 61, .int .u8 32, .int .u8 49] 5 (6, 7))) : ActAt W aK (some ⟨g, 0, none⟩) 6 6 none 0 0 := by
  refine ⟨by decide, ⟨rfl, fun _ => ⟨_, rfl, (Array.getElem?_eq_some_iff.1 h).1, fun i hi => ?_⟩⟩, by decide, by decide, Nat.le_refl _, ⟨rfl, by simp [aK], fun h => absurd h (by omega)⟩, Nat.zero_le _, by decide, by decide⟩
  have e : (⟨g, 0, none⟩ : Addr).add i = ⟨g, i, none⟩ := by unfold Addr.add; split <;> simp_all
  rw [e, World.cell?, h]
  match i, hi with
  | 0, _ => rfl
  | 1, _ => rfl
  | 2, _ => rfl
  | 3, _ => rfl
  | 4, _ => rfl
  | 5, _ => rfl
theorem endA : endW 1 4294967295 false ++ ⟨#[32]⟩ ++ S (Lib.itoa 9) = ⟨#[104, 97, 108, 116, 32, 45, 49, 32, 57]⟩ := by decide +kernel
theorem endB : endW 0 0 true ++ ⟨#[32]⟩ ++ S (Lib.itoa 3) = ⟨#[102, 117, 101, 108, 32, 51]⟩ := by decide +kernel
set_option maxHeartbeats 4000000 in
set_option maxRecDepth 100000 in
theorem known_any (w : World) (hT : Tb w) :
    Calls Tryd.prog 8 #[] w fun e w' => e = .returned (.bool true) ∧ Below w.heap.size w w' := by
  have HT := Lib.hid hT
  have HK1 : Hid (∀ (V : World) (g : Nat), V.heap[g]? = some (.cells #[.int .u8 120, .int .u8 32, .int .u8 58, .int .u8 61, .int .u8 32, .int .u8 49] 5 (6, 7)) → Below w.heap.size w V → Calls Tryd.prog 9 #[.agg #[.int .i64 2, .string ⟨#[97]⟩, .slice (some ⟨g, 0, none⟩) 6 6, .slice none 0 0, .int .i64 0, .int .i64 0]] V fun e w' => e = .returned (.tuple #[.string ⟨#[97, 100, 100, 32, 97, 32, 120, 32, 58, 61, 32, 49]⟩, .int .i64 0]) ∧ Below V.heap.size V w') := Lib.hid fun V g h hb => by
    have h1 := acttext_yes V aK _ _ _ _ _ _ (aK_at V g h) (by decide) (by decide) (HT.out.below hb).t (HT.out.below hb).s
    have h2 : aK.txt = [97, 100, 100, 32, 97, 32, 120, 32, 58, 61, 32, 49] := by decide
    rw [h2] at h1
    exact h1
  have HK2 : Hid (∀ (V : World), Below w.heap.size w V → Calls Tryd.prog 23 #[.string ⟨#[112, 117, 116, 32, 97]⟩] V fun e w' => ∃ bA bn bc nA nn nc, e = .returned (.tuple #[.agg #[.int .i64 0, .string ⟨#[]⟩, .slice bA bn bc, .slice nA nn nc, .int .i64 0, .int .i64 0], .int .i64 4]) ∧ Below V.heap.size V w') := Lib.hid fun V hb => by
    have h1 := actOf_any V [112, 117, 116, 32, 97] (by decide) (HT.out.below hb).t (HT.out.below hb).s (HT.out.below hb).m (HT.out.below hb).e
    have h2 : readB [112, 117, 116, 32, 97] = false := by decide +kernel
    have h3 : rdA [112, 117, 116, 32, 97] = ⟨0, [], [], [], 0, 0⟩ := by unfold rdA; rw [h2]; rfl
    rw [h2, h3] at h1
    refine h1.mono ?_
    rintro e w' ⟨bA, bn, bc, nA, nn, nc, rfl, -, -, -, h5⟩
    exact ⟨bA, bn, bc, nA, nn, nc, rfl, h5⟩
  have HK3 : Hid (∀ (V : World), Below w.heap.size w V → Calls Tryd.prog 23 #[.string ⟨#[111, 119, 110]⟩] V fun e w' => ∃ bA bn bc nA nn nc, e = .returned (.tuple #[.agg #[.int .i64 7, .string ⟨#[]⟩, .slice bA bn bc, .slice nA nn nc, .int .i64 0, .int .i64 0], .int .i64 0]) ∧ Below V.heap.size V w') := Lib.hid fun V hb => by
    have h1 := actOf_any V [111, 119, 110] (by decide) (HT.out.below hb).t (HT.out.below hb).s (HT.out.below hb).m (HT.out.below hb).e
    have h2 : readB [111, 119, 110] = true := by decide +kernel
    have h3 : rdA [111, 119, 110] = ⟨7, [], [], [], 0, 0⟩ := by unfold rdA; rw [h2, if_pos rfl]; rfl
    rw [h2, h3] at h1
    refine h1.mono ?_
    rintro e w' ⟨bA, bn, bc, nA, nn, nc, rfl, -, -, -, h5⟩
    exact ⟨bA, bn, bc, nA, nn, nc, rfl, h5⟩
  have HE1 : Hid (∀ (V : World), Below w.heap.size w V → Calls Tryd.prog 15 #[.agg #[.int .i64 1, .int .u32 4294967295, .int .i64 9, .bool false]] V fun e w' => e = .returned (.string ⟨#[104, 97, 108, 116, 32, 45, 49, 32, 57]⟩) ∧ Below V.heap.size V w') := Lib.hid fun V hb => by
    have h1 := endText_any V 1 4294967295 9 false (by omega) (by omega) (HT.out.below hb).t
    rw [endA] at h1
    exact h1
  have HE2 : Hid (∀ (V : World), Below w.heap.size w V → Calls Tryd.prog 15 #[.agg #[.int .i64 0, .int .u32 0, .int .i64 3, .bool true]] V fun e w' => e = .returned (.string ⟨#[102, 117, 101, 108, 32, 51]⟩) ∧ Below V.heap.size V w') := Lib.hid fun V hb => by
    have h1 := endText_any V 0 0 3 true (by omega) (by omega) (HT.out.below hb).t
    rw [endB] at h1
    exact h1
  have hq0 := heap_alloc_new w (.cells #[.int .u8 120, .int .u8 32, .int .u8 58, .int .u8 61, .int .u8 32, .int .u8 49] 5 (6, 7))
  have hb0 := sbelow1 w (.cells #[.int .u8 120, .int .u8 32, .int .u8 58, .int .u8 61, .int .u8 32, .int .u8 49] 5 (6, 7))
  have kc := Lib.run_convert_bytes_const (P := Tryd.prog) w 23 5 #[.int .u8 120, .int .u8 32, .int .u8 58, .int .u8 61, .int .u8 32, .int .u8 49] 6 6 Tryd.underlying23 Tryd.underlying5
  have HQ := Lib.hid hq0
  have HB0 := Lib.hid hb0
  clear hq0 hb0
  go_enter Tryd.func8, Tryd.ntmps8
  go_upto_region 2 with (go_at_call 9; (with_reducible refine (HK1.out _ _ HQ.out HB0.out).mono ?_); rintro e w2 ⟨rfl, hb⟩; have HB2 := Lib.hid (HB0.out.trans (hb.mono HB0.out.size)); clear hb)
  go_upto_region 3 with (go_at_call 23; (with_reducible refine (HK2.out _ HB2.out).mono ?_); rintro e w3 ⟨bA, bn, bc, nA, nn, nc, rfl, hb⟩; have HB3 := Lib.hid (HB2.out.trans (hb.mono HB2.out.size)); clear hb)
  have HB4 := Lib.hid (HB3.out.alloc HB3.out.size (.cells #[.int .i64 0, .string ⟨#[]⟩, .slice bA bn bc, .slice nA nn nc, .int .i64 0, .int .i64 0] 26))
  generalize w3.alloc (.cells #[.int .i64 0, .string ⟨#[]⟩, .slice bA bn bc, .slice nA nn nc, .int .i64 0, .int .i64 0] 26) = w4 at HB4 ⊢
  go_upto_region 4 with (go_at_call 23; (with_reducible refine (HK3.out _ HB4.out).mono ?_); rintro e w5 ⟨bA2, bn2, bc2, nA2, nn2, nc2, rfl, hb⟩; have HB5 := Lib.hid (HB4.out.trans (hb.mono HB4.out.size)); clear hb)
  have HQ6 := Lib.hid (heap_alloc_new w5 (.cells #[.int .i64 7, .string ⟨#[]⟩, .slice bA2 bn2 bc2, .slice nA2 nn2 nc2, .int .i64 0, .int .i64 0] 26))
  have HB6 := Lib.hid (HB5.out.alloc HB5.out.size (.cells #[.int .i64 7, .string ⟨#[]⟩, .slice bA2 bn2 bc2, .slice nA2 nn2 nc2, .int .i64 0, .int .i64 0] 26))
  generalize w5.alloc (.cells #[.int .i64 7, .string ⟨#[]⟩, .slice bA2 bn2 bc2, .slice nA2 nn2 nc2, .int .i64 0, .int .i64 0] 26) = w6 at HQ6 HB6 ⊢
  go_wp2_with (first
    | (go_at_call 15; (with_reducible refine (HE1.out _ HB6.out).mono ?_); rintro e w7 ⟨rfl, hb⟩; have HB7 := Lib.hid (HB6.out.trans (hb.mono HB6.out.size)); have k5 : w7.cell? ⟨w5.heap.size, 0, none⟩ = some (.int .i64 7) := (by rw [World.cell?, (hb.block _ (Array.getElem?_eq_some_iff.1 HQ6.out).1).trans HQ6.out]; rfl); clear hb)
    | (go_at_call 13; (with_reducible refine (num_any _ _).mono ?_); rintro e w' ⟨rfl, rfl⟩)
    | (go_at_call 15; (with_reducible refine (HE2.out _ HB7.out).mono ?_); rintro e w8 ⟨rfl, hb⟩; have HB8 := Lib.hid (HB7.out.trans (hb.mono HB7.out.size)); clear hb))
  go_ret
  exact ⟨rfl, HB8.out⟩
end Go.Proofs.YtlodoilihminaaaDoor
