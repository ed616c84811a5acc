/-
  TypesArrays: the sizes of arrays of arrays, for any lengths, at most six of them looked at, any base. No condition.
-/
import Derived.Test.YtckomckdefcebaaTypesB
import Derived.Test.YtckomckdefcebaaTypesC
import Derived.Test.YtckomckdefcebaaTypesK
namespace Go.Proofs.Ytckomckdefcebaa.typesArrays
open Go.ChangeShapes Go.WideShapes Go.ChangeAt Go.RowKit
set_option linter.unusedVariables false
/-- a number's type has a size, or there is none of that number -/
def SzAt (xs : List Value) (m : Nat) (N S : Int) : Prop := (∃ k : Nat, N = k ∧ 0 < k ∧ k < m ∧ Sz xs k S ∧ 1 ≤ S ∧ S ≤ 262144) ∨ ((N ≤ 0 ∨ m ≤ N) ∧ S = 0)
theorem SzAt.call {B p g cap n : Nat} {xs : List Value} {f N S : Int} (h : SzAt xs n N S) : ∀ W, TabAt W B p g cap n xs f → Calls Try.prog 21 #[.pointer (some ⟨p, 0, none⟩), .int .i64 N] W fun e w' => e = .returned (.int .i64 S) ∧ W = w' := by
  intro W hT
  rcases h with ⟨k, rfl, k0, k1, hz, _, _⟩ | ⟨hn, rfl⟩
  · exact size_yes hT k S k0 k1 hz
  · exact size_no hT N hn
theorem rowB_sizes : ∀ k, 1 ≤ k → k < 7 → ∃ S, Sz (rowB 6) k S ∧ 1 ≤ S ∧ S ≤ 262144 := by
  intro k h1 h2
  have : k = 1 ∨ k = 2 ∨ k = 3 ∨ k = 4 ∨ k = 5 ∨ k = 6 := by omega
  rcases this with rfl | rfl | rfl | rfl | rfl | rfl
  · exact ⟨4, rfl, by omega, by omega⟩
  · exact ⟨1, rfl, by omega, by omega⟩
  · exact ⟨1, rfl, by omega, by omega⟩
  · exact ⟨1, rfl, by omega, by omega⟩
  · exact ⟨4, rfl, by omega, by omega⟩
  · exact ⟨4, rfl, by omega, by omega⟩
theorem start (b : Int) : ∃ S, SzAt (rowB 6) 7 b S := by
  by_cases h : 1 ≤ b ∧ b < 7
  · obtain ⟨k, rfl⟩ := Int.eq_ofNat_of_zero_le (show 0 ≤ b by omega)
    obtain ⟨S, h1, h2, h3⟩ := rowB_sizes k (by omega) (by omega)
    exact ⟨S, .inl ⟨k, rfl, by omega, by omega, h1, h2, h3⟩⟩
  · exact ⟨0, .inr ⟨by omega, rfl⟩⟩
theorem up_le (m : Int) (h0 : 0 ≤ m) (h : m ≤ 262144) : m ≤ (m + 3) / 4 * 4 ∧ (m + 3) / 4 * 4 ≤ 262144 ∧ (m + 3) / 4 * 4 ≤ m + 3 := by omega
theorem mul_bd (l z : Int) (l0 : 1 ≤ l) (l1 : l ≤ 65535) (z0 : 1 ≤ z) (z1 : z ≤ 262144) : 1 ≤ l * z ∧ l * z ≤ 17179607040 := by
  have h1 : 0 ≤ (l - 1) * z := Int.mul_nonneg (by omega) (by omega)
  have h2 : 0 ≤ (65535 - l) * z := Int.mul_nonneg (by omega) (by omega)
  rw [Int.sub_mul] at h1 h2
  omega
theorem len_app (xs : List Value) (n : Nat) (hl : xs.length = n * 7) (x0 x1 x2 x4 x5 x6 : Value) (z : Int) : Sz (xs ++ [x0, x1, x2, .int .i64 z, x4, x5, x6]) n z := by
  unfold Sz
  rw [List.getElem?_append_right (by omega), show n * 7 + 3 - xs.length = 3 by omega]
  rfl
set_option maxHeartbeats 4000000 in
set_option maxRecDepth 4000 in
theorem walk (a0 : Option Addr) (len0 cap0 : Nat) (z0 : List Int) (a1 : Int) (w : World) (w0 : IsRow .i64 w a0 len0 cap0 z0) (w1 : (Lit.int .i64 a1).wf = true) :
    Calls Try.prog 5 #[.slice a0 len0 cap0, .int .i64 a1] w fun e w' => e = .returned (.bool true) ∧ Below w.heap.size w w' := by
  have hb1 := bd_i64 w1
  have W0 := Lib.hid w0
  have hl0 : len0 ≤ maxLen := Nat.le_trans w0.2.1 w0.2.2.1
  have KN := Lib.hid known12_any
  clear w0
  by_cases h6 : 6 < len0
  · unfold maxLen at hl0
    go_enter Try.func5, Try.ntmps5
    go_wp2_with (go_at_call 7; refine (KN.out _).mono ?_; rintro e w' ⟨rfl, hb⟩)
    go_ret
    exact ⟨rfl, hb⟩
  · have NW := Lib.hid (new_any w)
    obtain ⟨S0, hS0⟩ := start a1
    have HS0 := Lib.hid hS0
    clear hS0
    go_enter Try.func5, Try.ntmps5
    go_wp2_with (go_at_call 8; refine NW.out.mono ?_; rintro e w' ⟨p, g, cap, xs, rfl, hb, hT, hxs⟩)
    subst hxs
    have hSz := HS0.out.call w' hT
    go_wp2_with (go_at_call 21; refine hSz.mono ?_; rintro e w2 ⟨rfl, rfl⟩)
    have HR : Hid (∃ G C ys, TabAt w' w.heap.size p G C 7 ys 0 ∧ ys.length = 7 * 7 ∧ SzAt ys 7 a1 S0) := Lib.hid ⟨g, cap, rowB 6, hT, rowB_len 6, HS0.out⟩
    clear hSz hT HS0 NW
    go_loopw [6, 7, 8] (fun nn ss i wr => ∃ (j : Nat) (N S : Int), j ≤ len0 ∧ i = .int .i64 j ∧ nn = .int .i64 N ∧ ss = .int .i64 S ∧ Below w.heap.size w wr ∧ Hid (∃ G C ys, TabAt wr w.heap.size p G C (7 + j) ys 0 ∧ ys.length = (7 + j) * 7 ∧ SzAt ys (7 + j) N S)) (fun _ _ i _ => len0 - (intOf i).toNat)
    case atStart => exact ⟨0, a1, S0, Nat.zero_le _, rfl, rfl, rfl, hb, HR⟩
    case round =>
      obtain ⟨j, N, S, hj, rfl, rfl, rfl, hbr, HT⟩ := hrel
      clear hb HR
      by_cases hlt : j < len0
      · obtain ⟨x, rfl, hx, hcell⟩ := W0.out.2.2.2.2.2 (by omega)
        have hc : wr.cell? (x.add j) = some (.int .i64 (nth z0 j)) := by
          rw [hbr.cell (by rw [block_add]; exact hx)]; exact hcell j hlt
        have hlb := bd_i64 (W0.out.2.2.2.1 (nth z0 j) (by rw [nth_eq z0 j (by rw [W0.out.1]; exact hlt)]; exact List.getElem_mem _))
        clear hcell
        generalize nth z0 j = l at *
        obtain ⟨G, C, ys, hT, hlen, hS⟩ := HT.out
        have hS0 : 0 ≤ S ∧ S ≤ 262144 := by rcases hS with ⟨k, _, _, _, _, h1, h2⟩ | ⟨_, h⟩ <;> omega
        by_cases hbad : S < 1 ∨ l < 1 ∨ 65535 < l ∨ 262144 < S * l
        · have hA := array_bad hT l N S hS.call hS0.1 hS0.2 (by
            rcases hbad with h | h | h | h
            · exact .inr (.inr (.inl (by omega)))
            · exact .inl h
            · exact .inr (.inl h)
            · by_cases h1 : l < 1
              · exact .inl h1
              · by_cases h2 : 65535 < l
                · exact .inr (.inl h2)
                · by_cases h3 : S = 0
                  · exact .inr (.inr (.inl h3))
                  · have hm := mul_bd l S (by omega) (by omega) (by omega) hS0.2
                    rw [Int.mul_comm S l] at h
                    exact .inr (.inr (.inr ⟨by omega, by omega, h⟩)))
          have HA := Lib.hid hA
          clear hA hT hS HT
          have hmul : ¬ S < 1 → ¬ l < 1 → ¬ 65535 < l → IntKind.i64.wrap (S * l) = S * l := fun h1 h2 h3 => IntWalk.i64_in _ (by have hm := mul_bd l S (by omega) (by omega) (by omega) hS0.2; rw [Int.mul_comm] at hm; omega)
          by_cases h1 : S < 1
          · go_wp2_with (first | (go_at_call 15; refine HA.out.mono ?_; rintro e w2 ⟨rfl, hb2, _⟩; have c2 : w2.cell? (x.add j) = some (.int .i64 l) := (by rw [hb2.cell (by rw [block_add]; exact hx)]; exact hc)) | (go_at_call 7; refine (KN.out _).mono ?_; rintro e w3 ⟨rfl, hb3⟩))
            go_ret
            exact ⟨rfl, hbr.trans (hb2.trans (hb3.mono (Nat.le_trans hbr.size hb2.size)))⟩
          by_cases h2 : l < 1
          · go_wp2_with (first | (go_at_call 15; refine HA.out.mono ?_; rintro e w2 ⟨rfl, hb2, _⟩; have c2 : w2.cell? (x.add j) = some (.int .i64 l) := (by rw [hb2.cell (by rw [block_add]; exact hx)]; exact hc)) | (go_at_call 7; refine (KN.out _).mono ?_; rintro e w3 ⟨rfl, hb3⟩))
            go_ret
            exact ⟨rfl, hbr.trans (hb2.trans (hb3.mono (Nat.le_trans hbr.size hb2.size)))⟩
          by_cases h3 : 65535 < l
          · go_wp2_with (first | (go_at_call 15; refine HA.out.mono ?_; rintro e w2 ⟨rfl, hb2, _⟩; have c2 : w2.cell? (x.add j) = some (.int .i64 l) := (by rw [hb2.cell (by rw [block_add]; exact hx)]; exact hc)) | (go_at_call 7; refine (KN.out _).mono ?_; rintro e w3 ⟨rfl, hb3⟩))
            go_ret
            exact ⟨rfl, hbr.trans (hb2.trans (hb3.mono (Nat.le_trans hbr.size hb2.size)))⟩
          · have hw := hmul h1 h2 h3
            obtain ⟨m, hmm⟩ : ∃ m, S * l = m := ⟨_, rfl⟩
            rw [hmm] at hw hbad
            clear hmul
            have h4 : 262144 < m := by omega
            have e1 : decide (S < 1) = false := by simp; omega
            have e2 : decide (l < 1) = false := by simp; omega
            have e3 : decide (65535 < l) = false := by simp; omega
            go_wp2_with (first | (go_at_call 15; refine HA.out.mono ?_; rintro e w2 ⟨rfl, hb2, _⟩; have c2 : w2.cell? (x.add j) = some (.int .i64 l) := (by rw [hb2.cell (by rw [block_add]; exact hx)]; exact hc)) | (go_at_call 7; refine (KN.out _).mono ?_; rintro e w3 ⟨rfl, hb3⟩))
            go_ret
            exact ⟨rfl, hbr.trans (hb2.trans (hb3.mono (Nat.le_trans hbr.size hb2.size)))⟩
        · obtain ⟨k, rfl, k0, k1, hz, g1, g2⟩ : ∃ k : Nat, N = k ∧ 0 < k ∧ k < 7 + j ∧ Sz ys k S ∧ 1 ≤ S ∧ S ≤ 262144 := by
            rcases hS with h | ⟨_, h⟩
            · exact h
            · omega
          have hm := mul_bd l S (by omega) (by omega) g1 g2
          obtain ⟨m, hmm⟩ : ∃ m, S * l = m := ⟨_, rfl⟩
          have hml : l * S = m := by rw [Int.mul_comm]; exact hmm
          rw [hmm] at hbad
          rw [hml] at hm
          have hA := array_good hT l k S k0 k1 hz (by omega) (by omega) g1 (by omega) (by omega) (by omega) hbr.size
          rw [hml] at hA
          have HA := Lib.hid hA
          have hw : IntKind.i64.wrap m = m := IntWalk.i64_in _ (by omega)
          have e1 : decide (S < 1) = false := by simp; omega
          have e2 : decide (l < 1) = false := by simp; omega
          have e3 : decide (65535 < l) = false := by simp; omega
          have e4 : decide (262144 < m) = false := by simp; omega
          clear hA hT hS HT hml hz
          go_wp2_with (go_at_call 15; refine HA.out.mono ?_; rintro e w2 ⟨rfl, hb2, G2, C2, x0, x1, x2, x4, x5, x6, hT2⟩; have c2 : w2.cell? (x.add j) = some (.int .i64 l) := (by rw [hb2.cell (by rw [block_add]; exact hx)]; exact hc))
          have hm0 := hm.1
          have hm1 : m ≤ 262144 := by omega
          have hU : m ≤ (m + 3) / 4 * 4 ∧ (m + 3) / 4 * 4 ≤ m + 3 ∧ (m + 3) / 4 * 4 % 4 = 0 ∧ (m + 3) / 4 * 4 ≤ 262144 := by omega
          clear HA
          generalize (m + 3) / 4 * 4 = U at *
          obtain ⟨u1, u2, u3, u4'⟩ := hU
          have HT2 := Lib.hid hT2
          clear hT2 hmm hb1 hw hbad hm
          go_loop [7] (fun s => ∃ V : Int, m ≤ V ∧ V ≤ U ∧ s = .int .i64 V) (fun s => (262147 - intOf s).toNat)
          case atStart => exact ⟨m, by omega, by omega, rfl⟩
          case round =>
            obtain ⟨V, q0, q1, rfl⟩ := hrel
            by_cases h4 : V % 4 = 0
            · obtain rfl : V = U := by omega
              have HSz := Lib.hid (size_yes HT2.out (7 + j) V (by omega) (by omega) (len_app ys (7 + j) hlen x0 x1 x2 x4 x5 x6 _))
              have HS2 : Hid (∃ G C ys', TabAt w2 w.heap.size p G C (7 + (j + 1)) ys' 0 ∧ ys'.length = (7 + (j + 1)) * 7 ∧ SzAt ys' (7 + (j + 1)) (((7 + j : Nat) : Int)) V) := Lib.hid ⟨G2, C2, _, HT2.out, by simp; omega, .inl ⟨7 + j, rfl, by omega, by omega, len_app ys (7 + j) hlen x0 x1 x2 x4 x5 x6 _, by omega, by omega⟩⟩
              have h5 : (V % 4 != 0) = false := by simp [h4]
              clear HT2 u3 hlen hc h4
              go_wp2_with (go_at_call 21; refine HSz.out.mono ?_; rintro e w5 ⟨rfl, rfl⟩)
              exact ⟨⟨j + 1, ((7 + j : Nat) : Int), V, by omega, by simp, by simp, rfl, hbr.trans hb2, HS2⟩, by simp [intOf]; omega⟩
            · go_wp2_with fail
              refine ⟨⟨V + 1, by omega, by omega, rfl⟩, by simp [intOf]; omega⟩
      · obtain rfl : j = len0 := by omega
        go_wp2_with (go_at_call 7; refine (KN.out _).mono ?_; rintro e w3 ⟨rfl, hb3⟩)
        go_ret
        exact ⟨rfl, hbr.trans (hb3.mono hbr.size)⟩
theorem own : ownKnob Try.prog.godebug = none := by kernel_rfl
theorem laidOut : laidOutB Try.prog = true := by kernel_rfl
set_option maxRecDepth 1000000 in
theorem contract (H : Type) (enc : TypeId × Value → H) (W : World) (base : Nat) (args : Array Value) (ds gs : List (DataW H)) (before : List MemPlace)
    (hval : ∀ (j : Nat) t v, Try.f5.params[j]? = some t → args[j]? = some v → Value.okWide Try.prog W .any base t v)
    (hW : DataW.Whole enc Try.prog Try.f5.params.toList Rows.typesArraysSpec.vars false W args.toList ds gs before) :
    Calls Try.prog 5 args W fun e W' => ∃ v, e = .returned v ∧ Rows.typesArraysSpec.post enc Try.prog Try.f5 false true false false W args v W' := by
  have hW' := hW
  obtain ⟨p, q, hA0, hV, rfl, hfz, hnd⟩ := hW
  have hA : DataW.TrodAll enc Try.prog W 0 (fun _ => true) true Try.f5.params.toList args.toList ds p := hA0
  rw [Try.params5] at hA hval
  obtain ⟨v0, vs0, d0, ds0, p0, q0, hargs, rfl, rfl, h0, r0⟩ := trodAll_cons hA
  obtain ⟨v1, vs1, d1, ds1, p1, q1, rfl, rfl, rfl, h1, r1⟩ := trodAll_cons r0
  obtain ⟨rfl, rfl, rfl⟩ := trodAll_nil r1
  obtain rfl : args = #[v0, v1] := by cases args; simp_all
  obtain ⟨rfl, rfl⟩ := trodVars_none hV
  obtain ⟨a0, len0, cap0, rfl⟩ := okWide_slice Try.underlying46 (hval 0 46 v0 rfl rfl)
  have k0 := h0
  have lt0 : ∀ x ∈ p0, x.block < W.heap.size := by obtain ⟨m, hm⟩ := k0; exact DataW.trod_lt m _ _ _ hm
  obtain ⟨z0, w0⟩ := isRow_of Try.underlying46 Try.underlying3 (by kernel_rfl) h0
  obtain ⟨a1, rfl, rfl, rfl, w1⟩ := open_int Try.underlying3 (hval 1 3 v1 rfl rfl) h1
  clear hA0
  refine (walk a0 len0 cap0 z0 a1 W w0 w1).mono fun e W' ⟨he, bel⟩ => ?_
  subst he
  exact ⟨_, rfl, _, _, _, [], _, [], hW', trodAll_mk1 (shut_bool Try.underlying4 _), (trodAll_cons_mk (Below.trod laidOut (by kernel_rfl) (of_decide_eq_true (by kernel_rfl)) k0 bel lt0) (trodAll_cons_mk (shut_int Try.underlying3 w1) trodAll_mk0)), rfl, bel.frame _, fun h => by cases h⟩
set_option maxRecDepth 100000 in
theorem lifted (os : Os) (started : os.Started) (H : Type) (enc : TypeId × Value → H) :
    ReturnsInHanded {} Try.checked os 5 .any (Rows.typesArraysSpec.pre6 enc Try.prog Try.f5 Rows.typesArraysRow.domain false) (Rows.typesArraysSpec.post enc Try.prog Try.f5 false true false false) := by
  refine returnsInHanded_of_change (C := Try.checked) own started (by kernel_rfl) Try.func5
    (ChangeSpec.witness6 (enc := enc) (C := Try.checked) false ⟨#[], #[.slice none 0 0, .int .i64 0], []⟩ 8 (by kernel_rfl) (by kernel_rfl) (by kernel_rfl) (by kernel_rfl)) ?_
  intro W base args ds gs before hval hW hcnd _
  exact contract H enc W base args ds gs before hval hW
theorem said : Rows.TypesArraysSaid :=
  OpenClaim.holds_of_wide 5 Try.f5 rfl rfl rfl rfl rfl rfl rfl ⟨rfl, rfl, rfl, rfl, rfl⟩ rfl rfl rfl rfl rfl (by kernel_rfl) Try.func5 (by kernel_rfl)
    (of_decide_eq_true (by kernel_rfl)) (by unfold Func.isWrapper; first | (rw [if_pos (by decide +kernel)]; kernel_rfl) | (rw [if_neg (by decide +kernel)]; exact ⟨rfl, rfl⟩))
    (fun os started H enc _ => lifted os started H enc)
theorem proved : Rows.TypesArraysSaid := said
end Go.Proofs.Ytckomckdefcebaa.typesArrays
