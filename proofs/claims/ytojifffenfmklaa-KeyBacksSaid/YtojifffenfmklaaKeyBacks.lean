/-
  KeyBacks: for every two words, any byte, any three at most 1000 bytes: a step is one's alone (the factor is odd); with the same end behind, fingerprints are alike just if their beginnings' are.
-/
import Derived.Test.YtojifffenfmklaaKeyB
import Derived.Test.YtojifffenfmklaaOwnA
namespace Go.Proofs.Ytojifffenfmklaa.keyBacks
open Go.ChangeShapes Go.WideShapes Go.ChangeAt Go.RowKit
set_option linter.unusedVariables false

theorem infoU8 : (Try.prog.info? 5).map (fun i => (i.zero, i.size, i.bytes)) = some (some (.int .u8 0), 1, 1) := by kernel_rfl
theorem step_back (k z : Int) (k0 : 0 ≤ k) (k1 : k ≤ 4294967295) : k = ((step k z - (z + 1)) * 899433627) % 4294967296 := by
  unfold step w32
  have h := Int.emod_add_mul_ediv (k * 16777619 + z + 1) 4294967296
  generalize (k * 16777619 + z + 1) % 4294967296 = S at *
  generalize (k * 16777619 + z + 1) / 4294967296 = q at *
  have e : (S - (z + 1)) * 899433627 = k + 4294967296 * (k * 3513497 - q * 899433627) := by omega
  rw [e, Int.add_mul_emod_self_left]
  omega
theorem step_inj (k l z : Int) (k0 : 0 ≤ k) (k1 : k ≤ 4294967295) (l0 : 0 ≤ l) (l1 : l ≤ 4294967295) (h : step k z = step l z) : k = l := by
  rw [step_back k z k0 k1, step_back l z l0 l1, h]
theorem fnv_inj (zs : List Int) : ∀ k l : Int, 0 ≤ k → k ≤ 4294967295 → 0 ≤ l → l ≤ 4294967295 → fnv k zs = fnv l zs → k = l := by
  induction zs with
  | nil => intro k l _ _ _ _ h; exact h
  | cons z zs ih =>
    intro k l k0 k1 l0 l1 h
    have h2 : fnv (step k z) zs = fnv (step l z) zs := h
    exact step_inj k l z k0 k1 l0 l1 (ih _ _ (step_bd k z).1 (step_bd k z).2 (step_bd l z).1 (step_bd l z).2 h2)
theorem step_eq (k l z : Int) (k0 : 0 ≤ k) (k1 : k ≤ 4294967295) (l0 : 0 ≤ l) (l1 : l ≤ 4294967295) : (step k z == step l z) = (k == l) := by
  rw [Bool.eq_iff_iff]; simp only [beq_iff_eq]
  exact ⟨step_inj k l z k0 k1 l0 l1, fun h => by rw [h]⟩
theorem fnv_eq (S : Int) (s0 : 0 ≤ S) (s1 : S ≤ 4294967295) (xs ys zs : List Int) : (fnv S (xs ++ zs) == fnv S (ys ++ zs)) = (fnv S xs == fnv S ys) := by
  rw [Bool.eq_iff_iff]; simp only [beq_iff_eq, fnv_append]
  have h1 := fnv_bd S s0 s1 xs
  have h2 := fnv_bd S s0 s1 ys
  exact ⟨fnv_inj zs _ _ h1.1 h1.2 h2.1 h2.2, fun h => by rw [h]⟩
theorem app_bd (xs ys : List Int) (hx : ∀ z ∈ xs, 0 ≤ z ∧ z ≤ 255) (hy : ∀ z ∈ ys, 0 ≤ z ∧ z ≤ 255) (i : Nat) : 0 ≤ nth (xs ++ ys) i ∧ nth (xs ++ ys) i ≤ 255 :=
  nth_mem (fun z => 0 ≤ z ∧ z ≤ 255) _ (fun z hz => by rcases List.mem_append.1 hz with h | h; exact hx z h; exact hy z h) (by omega) i
theorem walk (a0 a1 a2 : Int) (a3 : Option Addr) (len3 cap3 : Nat) (z3 : List Int) (a4 : Option Addr) (len4 cap4 : Nat) (z4 : List Int) (a5 : Option Addr) (len5 cap5 : Nat) (z5 : List Int) (w : World)
    (w0 : (Lit.int .u32 a0).wf = true) (w1 : (Lit.int .u32 a1).wf = true) (w2 : (Lit.int .u8 a2).wf = true) (w3 : IsRow .u8 w a3 len3 cap3 z3) (w4 : IsRow .u8 w a4 len4 cap4 z4) (w5 : IsRow .u8 w a5 len5 cap5 z5) :
    Calls Try.prog 6 #[.int .u32 a0, .int .u32 a1, .int .u8 a2, .slice a3 len3 cap3, .slice a4 len4 cap4, .slice a5 len5 cap5] w fun e w' => e = .returned (.bool true) ∧ Below w.heap.size w w' := by
  obtain ⟨x0, x1⟩ := bd_u32 w0
  obtain ⟨y0, y1⟩ := bd_u32 w1
  obtain ⟨c0, c1⟩ := bd_u8 w2
  have W3 := Lib.hid w3
  have W4 := Lib.hid w4
  have W5 := Lib.hid w5
  clear w0 w1 w2 w3 w4 w5
  obtain ⟨i0, hi, hz0, hz1, hz2⟩ := info_parts infoU8
  have hs := Lib.hid (step_eq a0 a1 a2 x0 x1 y0 y1)
  have hf := Lib.hid (fnv_eq 2166136261 (by omega) (by omega) z3 z4 z5)
  go_enter Try.func6, Try.ntmps6
  go_wp2_with (first | (go_at_call 10; refine (known6_any _).mono ?_; rintro e w' ⟨rfl, b1⟩) | (at_builtin; refine wpList_append_rd rfl _ _ 25 rfl w.heap.size 5 i0 (.int .u8 0) 1 Try.underlying25 hi hz0 hz1 hz2 rfl _ _ _ rfl (World.ownsRow_nil ..) w.heap.size .u8 a3 len3 cap3 z3 rfl ?c1 ?c2 ?c3 ?c4 ?_))
  · go_ret; exact ⟨rfl, b1⟩
  case c1 => exact W3.out.2.2.2.2
  case c2 => unfold maxLen; omega
  case c3 => omega
  case c4 => exact Nat.le_refl _
  intro v1a u1a o1a g1a
  have p1a : u1a.ownsRow w.heap.size 5 1 v1a len3 (valsOf .u8 z3) := by simpa using o1a
  have b1a : Below w.heap.size w u1a := (Below.refl w.heap.size w).grown g1a (Below.refl w.heap.size w).size (by intro g hg; simp [Value.ownBlock] at hg)
  clear o1a g1a
  go_wp2_with (at_builtin; refine wpList_append_rd rfl _ _ 25 rfl w.heap.size 5 i0 (.int .u8 0) 1 Try.underlying25 hi hz0 hz1 hz2 rfl _ _ _ rfl p1a w.heap.size .u8 a5 len5 cap5 z5 rfl ?c1 ?c2 ?c3 ?c4 ?_)
  case c1 => exact W5.out.2.2.2.2.below b1a
  case c2 => unfold maxLen; omega
  case c3 => omega
  case c4 => exact b1a.size
  intro v2a u2a o2a g2a
  have p2a : u2a.ownsRow w.heap.size 5 1 v2a (len3 + len5) (valsOf .u8 (z3 ++ z5)) := by rw [show valsOf .u8 (z3 ++ z5) = valsOf .u8 z3 ++ valsOf .u8 z5 by simp [valsOf]]; exact o2a
  have b2a : Below w.heap.size w u2a := b1a.grown g2a b1a.size (fun g hg => (p1a.lt g hg).1)
  clear o2a g2a p1a b1a
  obtain ⟨Aa, cca, rfl, _, hra⟩ := rd_own p2a
  have Ha := Lib.hid (rdL_one u2a ⟨Aa, len3 + len5, cca, z3 ++ z5⟩ 25 hra (app_bd _ _ (fun z hz => bd_u8 (W3.out.2.2.2.1 z hz)) (fun z hz => bd_u8 (W5.out.2.2.2.1 z hz))) (by show len3 + len5 ≤ maxLen; unfold maxLen; omega))
  clear hra p2a
  go_wp2_with fail
  refine (key_of_any _ 1 1 _ _ Ha.out (by unfold maxLen; omega)).mono ?_
  rintro e xa ⟨rfl, da⟩
  rw [allOf_one]
  have ea : Below w.heap.size w xa := (b2a.alloc b2a.size _).trans (da.mono (by simp; have := b2a.size; omega))
  clear da b2a Ha
  show _
  go_wp2_with (at_builtin; refine wpList_append_rd rfl _ _ 25 rfl w.heap.size 5 i0 (.int .u8 0) 1 Try.underlying25 hi hz0 hz1 hz2 rfl _ _ _ rfl (World.ownsRow_nil ..) w.heap.size .u8 a4 len4 cap4 z4 rfl ?c1 ?c2 ?c3 ?c4 ?_)
  case c1 => exact W4.out.2.2.2.2.below ea
  case c2 => unfold maxLen; omega
  case c3 => omega
  case c4 => exact ea.size
  intro v1b u1b o1b g1b
  have p1b : u1b.ownsRow w.heap.size 5 1 v1b len4 (valsOf .u8 z4) := by simpa using o1b
  have b1b : Below w.heap.size w u1b := (ea).grown g1b (ea).size (by intro g hg; simp [Value.ownBlock] at hg)
  clear o1b g1b
  go_wp2_with (at_builtin; refine wpList_append_rd rfl _ _ 25 rfl w.heap.size 5 i0 (.int .u8 0) 1 Try.underlying25 hi hz0 hz1 hz2 rfl _ _ _ rfl p1b w.heap.size .u8 a5 len5 cap5 z5 rfl ?c1 ?c2 ?c3 ?c4 ?_)
  case c1 => exact W5.out.2.2.2.2.below b1b
  case c2 => unfold maxLen; omega
  case c3 => omega
  case c4 => exact b1b.size
  intro v2b u2b o2b g2b
  have p2b : u2b.ownsRow w.heap.size 5 1 v2b (len4 + len5) (valsOf .u8 (z4 ++ z5)) := by rw [show valsOf .u8 (z4 ++ z5) = valsOf .u8 z4 ++ valsOf .u8 z5 by simp [valsOf]]; exact o2b
  have b2b : Below w.heap.size w u2b := b1b.grown g2b b1b.size (fun g hg => (p1b.lt g hg).1)
  clear o2b g2b p1b b1b
  obtain ⟨Ab, ccb, rfl, _, hrb⟩ := rd_own p2b
  have Hb := Lib.hid (rdL_one u2b ⟨Ab, len4 + len5, ccb, z4 ++ z5⟩ 25 hrb (app_bd _ _ (fun z hz => bd_u8 (W4.out.2.2.2.1 z hz)) (fun z hz => bd_u8 (W5.out.2.2.2.1 z hz))) (by show len4 + len5 ≤ maxLen; unfold maxLen; omega))
  clear hrb p2b
  go_wp2_with fail
  refine (key_of_any _ 1 1 _ _ Hb.out (by unfold maxLen; omega)).mono ?_
  rintro e xb ⟨rfl, db⟩
  rw [allOf_one]
  have eb : Below w.heap.size w xb := (b2b.alloc b2b.size _).trans (db.mono (by simp; have := b2b.size; omega))
  clear db b2b Hb
  show _
  have hb0 := step_bd a0 a2
  have hb1 := step_bd a1 a2
  go_wp2_with (first | (go_at_call 14; refine (step_any _ _ (by omega) (by omega) (by omega) (by omega) _).mono ?_; rintro e w' ⟨rfl, bs⟩; have eb := eb.trans (bs.mono eb.size); clear bs))
  case isTrue =>
    have B2 : Below w.heap.size w w' := eb
    have q3 := W3.out.2.2.2.2.below B2
    have q4 := W4.out.2.2.2.2.below B2
    refine (same_any a3 len3 cap3 z3 a4 len4 cap4 z4 w' (q3.more B2.size) (q4.more B2.size) W3.out.bytes W4.out.bytes (by unfold maxLen; omega) (by unfold maxLen; omega)).mono ?_
    rintro e w3 ⟨rfl, b3⟩
    have B3 : Below w.heap.size w w3 := B2.trans (b3.mono B2.size)
    have hf' := hf.out
    clear q3 q4 b3 B2 eb ea
    generalize (fnv 2166136261 (z3 ++ z5) == fnv 2166136261 (z4 ++ z5)) = p at *
    generalize (fnv 2166136261 z3 == fnv 2166136261 z4) = q at *
    subst hf'
    go_wp2_with (go_at_call 10; refine (known6_any _).mono ?_; rintro e w' ⟨rfl, b1⟩)
    go_ret
    exact ⟨rfl, B3.trans (b1.mono B3.size)⟩
  all_goals (go_ret; exact ⟨rfl, b1⟩)
theorem own : ownKnob Try.prog.godebug = none := by kernel_rfl
theorem laidOut : laidOutB Try.prog = true := by kernel_rfl
theorem contract (H : Type) (enc : TypeId × Value → H) (W : World) (base : Nat) (args : Array Value) (ds gs : List (DataW H)) (before : List MemPlace)
    (hval : ∀ (j : Nat) t v, Try.f6.params[j]? = some t → args[j]? = some v → Value.okWide Try.prog W .any base t v)
    (hW : DataW.Whole enc Try.prog Try.f6.params.toList Rows.keyBacksSpec.vars false W args.toList ds gs before) :
    Calls Try.prog 6 args W fun e W' => ∃ v, e = .returned v ∧ Rows.keyBacksSpec.post enc Try.prog Try.f6 false true false false W args v W' := by
  have hW' := hW
  obtain ⟨p, q, hA0, hV, rfl, hfz, hnd⟩ := hW
  have hA : DataW.TrodAll enc Try.prog W 0 (fun _ => true) true Try.f6.params.toList args.toList ds p := hA0
  rw [Try.params6] at hA hval
  obtain ⟨v0, vs0, d0, ds0, p0, q0, hargs, rfl, rfl, h0, r0⟩ := trodAll_cons hA
  obtain ⟨v1, vs1, d1, ds1, p1, q1, rfl, rfl, rfl, h1, r1⟩ := trodAll_cons r0
  obtain ⟨v2, vs2, d2, ds2, p2, q2, rfl, rfl, rfl, h2, r2⟩ := trodAll_cons r1
  obtain ⟨v3, vs3, d3, ds3, p3, q3, rfl, rfl, rfl, h3, r3⟩ := trodAll_cons r2
  obtain ⟨v4, vs4, d4, ds4, p4, q4, rfl, rfl, rfl, h4, r4⟩ := trodAll_cons r3
  obtain ⟨v5, vs5, d5, ds5, p5, q5, rfl, rfl, rfl, h5, r5⟩ := trodAll_cons r4
  obtain ⟨rfl, rfl, rfl⟩ := trodAll_nil r5
  obtain rfl : args = #[v0, v1, v2, v3, v4, v5] := by cases args; simp_all
  obtain ⟨rfl, rfl⟩ := trodVars_none hV
  obtain ⟨a0, rfl, rfl, rfl, w0⟩ := open_int Try.underlying27 (hval 0 27 v0 rfl rfl) h0
  obtain ⟨a1, rfl, rfl, rfl, w1⟩ := open_int Try.underlying27 (hval 1 27 v1 rfl rfl) h1
  obtain ⟨a2, rfl, rfl, rfl, w2⟩ := open_int Try.underlying5 (hval 2 5 v2 rfl rfl) h2
  obtain ⟨a3, len3, cap3, rfl⟩ := okWide_slice Try.underlying25 (hval 3 25 v3 rfl rfl)
  have k3 := h3
  have lt3 : ∀ x ∈ p3, x.block < W.heap.size := by obtain ⟨m, hm⟩ := k3; exact DataW.trod_lt m _ _ _ hm
  obtain ⟨z3, w3⟩ := isRow_of Try.underlying25 Try.underlying5 (by kernel_rfl) h3
  obtain ⟨a4, len4, cap4, rfl⟩ := okWide_slice Try.underlying25 (hval 4 25 v4 rfl rfl)
  have k4 := h4
  have lt4 : ∀ x ∈ p4, x.block < W.heap.size := by obtain ⟨m, hm⟩ := k4; exact DataW.trod_lt m _ _ _ hm
  obtain ⟨z4, w4⟩ := isRow_of Try.underlying25 Try.underlying5 (by kernel_rfl) h4
  obtain ⟨a5, len5, cap5, rfl⟩ := okWide_slice Try.underlying25 (hval 5 25 v5 rfl rfl)
  have k5 := h5
  have lt5 : ∀ x ∈ p5, x.block < W.heap.size := by obtain ⟨m, hm⟩ := k5; exact DataW.trod_lt m _ _ _ hm
  obtain ⟨z5, w5⟩ := isRow_of Try.underlying25 Try.underlying5 (by kernel_rfl) h5
  clear hA0
  refine (walk a0 a1 a2 a3 len3 cap3 z3 a4 len4 cap4 z4 a5 len5 cap5 z5 W w0 w1 w2 w3 w4 w5).mono fun e W' ⟨he, bel⟩ => ?_
  subst he
  exact ⟨_, rfl, _, _, _, [], _, [], hW', trodAll_mk1 (shut_bool Try.underlying4 _), (trodAll_cons_mk (shut_int Try.underlying27 w0) (trodAll_cons_mk (shut_int Try.underlying27 w1) (trodAll_cons_mk (shut_int Try.underlying5 w2) (trodAll_cons_mk (Below.trod laidOut (by kernel_rfl) (of_decide_eq_true (by kernel_rfl)) k3 bel lt3) (trodAll_cons_mk (Below.trod laidOut (by kernel_rfl) (of_decide_eq_true (by kernel_rfl)) k4 bel lt4) (trodAll_cons_mk (Below.trod laidOut (by kernel_rfl) (of_decide_eq_true (by kernel_rfl)) k5 bel lt5) trodAll_mk0)))))), rfl, bel.frame _, fun h => by cases h⟩
set_option maxRecDepth 100000 in
theorem lifted (os : Os) (started : os.Started) (H : Type) (enc : TypeId × Value → H) :
    ReturnsInHanded {} Try.checked os 6 .any (Rows.keyBacksSpec.pre6 enc Try.prog Try.f6 Rows.keyBacksRow.domain false) (Rows.keyBacksSpec.post enc Try.prog Try.f6 false true false false) := by
  refine returnsInHanded_of_change (C := Try.checked) own started (by kernel_rfl) Try.func6
    (ChangeSpec.witness6 (enc := enc) (C := Try.checked) false ⟨#[], #[.int .u32 0, .int .u32 0, .int .u8 0, .slice none 0 0, .slice none 0 0, .slice none 0 0], []⟩ 8 (by kernel_rfl) (by kernel_rfl) (by kernel_rfl) (by kernel_rfl)) ?_
  intro W base args ds gs before hval hW hcnd _
  exact contract H enc W base args ds gs before hval hW
theorem said : Rows.KeyBacksSaid :=
  OpenClaim.holds_of_wide 6 Try.f6 rfl rfl rfl rfl rfl rfl rfl ⟨rfl, rfl, rfl, rfl, rfl⟩ rfl rfl rfl rfl rfl (by kernel_rfl) Try.func6 (by kernel_rfl)
    (of_decide_eq_true (by kernel_rfl)) (by unfold Func.isWrapper; first | (rw [if_pos (by decide +kernel)]; kernel_rfl) | (rw [if_neg (by decide +kernel)]; exact ⟨rfl, rfl⟩))
    (fun os started H enc _ => lifted os started H enc)
theorem proved : Rows.KeyBacksSaid := said
end Go.Proofs.Ytojifffenfmklaa.keyBacks
