/-
  LinkKeys: for every two keys: a module that was compiled against another one's key is linked just as long as that one's key is the same. No condition.
-/
import Derived.Test.YtboobjlbjmlboaaRows
import Derived.Test.YtboobjlbjmlboaaLinkKnown
import Derived.Laws.BitsAllLaws
import Derived.WalkKit
import Derived.ProofKit
import Derived.OpenShut
namespace Go.Proofs.Ytboobjlbjmlboaa.linkKeys
open Go.ChangeShapes Go.WideShapes Go.ChangeAt Go.RowKit
set_option linter.unusedVariables false
set_option linter.unusedSimpArgs false
noncomputable section
theorem bd_u32 {a : Int} (h : (Lit.int .u32 a).wf = true) : 0 ≤ a ∧ a ≤ 4294967295 := by simpa [Lit.wf, IntKind.min, IntKind.max, IntKind.signed, IntKind.bits] using h
/-- a word out of its four bytes -/
def b1 (k : Nat) : Ev.SI := .bin .or .u32 (.wrap .u32 (.wrap .u8 (.atom k))) (.bin .shl .u32 (.wrap .u32 (.wrap .u8 (.bin .shr .u32 (.atom k) (.lit 8)))) (.lit 8))
def b2 (k : Nat) : Ev.SI := .bin .or .u32 (b1 k) (.bin .shl .u32 (.wrap .u32 (.wrap .u8 (.bin .shr .u32 (.atom k) (.lit 16)))) (.lit 16))
def b3 (k : Nat) : Ev.SI := .bin .or .u32 (b2 k) (.bin .shl .u32 (.wrap .u32 (.wrap .u8 (.bin .shr .u32 (.atom k) (.lit 24)))) (.lit 24))
def orc : List Ev.Ent := [⟨8, [], .bool (.lit true)⟩]
def s1 : Ev.SB := .cmp .neq (b3 0) (b3 1)
def s2 : Ev.SB := .cmp .eql (.atom 0) (.atom 1)
set_option maxRecDepth 1000000 in
theorem runEq (φ : Ev.Val → Prop) : Ev.outV ((Ev.evO Try.prog ⟨[(s1, false), (s2, true)], φ⟩ (Ev.orcL orc) 1000 40 (.fn 3) [.int .u32 (.atom 0), .int .u32 (.atom 1)]).go .e 0) = some (.bool (.lit true)) := by kernel_rfl
set_option maxRecDepth 1000000 in
theorem runNe (φ : Ev.Val → Prop) : Ev.outV ((Ev.evO Try.prog ⟨[(s1, true), (s2, false)], φ⟩ (Ev.orcL orc) 1000 40 (.fn 3) [.int .u32 (.atom 0), .int .u32 (.atom 1)]).go .e 0) = some (.bool (.lit true)) := by kernel_rfl
theorem or_shl (a c i : Nat) (ha : a < 2 ^ i) (h : c * 2 ^ i < 4294967296) (hi : a < 4294967296) : bits BinOp.or .u32 (a : Int) ((c * 2 ^ i : Nat) : Int) = ((a + c * 2 ^ i : Nat) : Int) := by
  rw [u32_or_nat a (c * 2 ^ i) hi h]
  have e := Nat.shiftLeft_add_eq_or_of_lt ha c
  rw [Nat.shiftLeft_eq] at e
  rw [Nat.or_comm, ← e, Nat.add_comm]
def val (x y : Int) : Ev.Val := Ev.Val.of (fun k => if k = 0 then x else y) fun _ => false
/-- a byte of a word -/
theorem byte_den (ρ : Ev.Val) (k n i : Nat) (hk : ρ.i k = n) (hi : i ≤ 24) : (Ev.SI.wrap .u32 (.wrap .u8 (.bin .shr .u32 (.atom k) (.lit (i : Int))))).den ρ = ((n / 2 ^ i % 256 : Nat) : Int) := by
  show IntKind.u32.wrap (IntKind.u8.wrap ((ρ.i k).fdiv (2 ^ min (Int.toNat (i : Int)) 32))) = _
  rw [hk, Int.toNat_natCast, Nat.min_eq_left (by omega), IntKind.wrap_u8, IntKind.wrap_u32]
  have e : ((n : Int).fdiv (2 ^ i)) = ((n / 2 ^ i : Nat) : Int) := by
    rw [Int.fdiv_eq_ediv_of_nonneg _ (by exact Int.le_of_lt (Int.pow_pos (by omega)))]
    push_cast
    rfl
  rw [e]
  omega
theorem shl_den (ρ : Ev.Val) (x : Ev.SI) (c i : Nat) (hx : x.den ρ = (c : Int)) (hi : i ≤ 24) (hc : c < 256) : (Ev.SI.bin .shl .u32 x (.lit (i : Int))).den ρ = ((c * 2 ^ i : Nat) : Int) := by
  show IntKind.u32.wrap (x.den ρ * 2 ^ min (Int.toNat (i : Int)) 32) = _
  rw [hx, Int.toNat_natCast, Nat.min_eq_left (by omega), IntKind.wrap_u32]
  have h1 : c * 2 ^ i < 4294967296 := by
    have : 2 ^ i ≤ 2 ^ 24 := Nat.pow_le_pow_right (by omega) hi
    calc c * 2 ^ i ≤ 255 * 2 ^ 24 := Nat.mul_le_mul (by omega) this
      _ < 4294967296 := by decide
  have e : (c : Int) * 2 ^ i = ((c * 2 ^ i : Nat) : Int) := by push_cast; rfl
  rw [e]
  exact Int.emod_eq_of_lt (Int.natCast_nonneg _) (Int.ofNat_lt.2 h1)
theorem or_den (ρ : Ev.Val) (x y : Ev.SI) (a c i : Nat) (hx : x.den ρ = (a : Int)) (hy : y.den ρ = ((c * 2 ^ i : Nat) : Int)) (ha : a < 2 ^ i) (h : c * 2 ^ i < 4294967296) (hi : a < 4294967296) : (Ev.SI.bin .or .u32 x y).den ρ = ((a + c * 2 ^ i : Nat) : Int) := by
  show bits BinOp.or .u32 (x.den ρ) (y.den ρ) = _
  rw [hx, hy, or_shl a c i ha h hi]
theorem word_den (ρ : Ev.Val) (k n : Nat) (hk : ρ.i k = n) (hn : n < 4294967296) : (b3 k).den ρ = (n : Int) := by
  have d0 : (Ev.SI.wrap .u32 (.wrap .u8 (.atom k))).den ρ = ((n % 256 : Nat) : Int) := by
    show IntKind.u32.wrap (IntKind.u8.wrap (ρ.i k)) = _
    rw [hk, IntKind.wrap_u8, IntKind.wrap_u32]
    omega
  have d1 := shl_den ρ _ _ 8 (byte_den ρ k n 8 hk (by omega)) (by omega) (by omega)
  have d2 := shl_den ρ _ _ 16 (byte_den ρ k n 16 hk (by omega)) (by omega) (by omega)
  have d3 := shl_den ρ _ _ 24 (byte_den ρ k n 24 hk (by omega)) (by omega) (by omega)
  have e1 : (b1 k).den ρ = ((n % 65536 : Nat) : Int) := (or_den ρ _ _ _ _ 8 d0 d1 (by omega) (by omega) (by omega)).trans (by congr 1; omega)
  have e2 : (b2 k).den ρ = ((n % 16777216 : Nat) : Int) := (or_den ρ _ _ _ _ 16 e1 d2 (by omega) (by omega) (by omega)).trans (by congr 1; omega)
  exact (or_den ρ _ _ _ _ 24 e2 d3 (by omega) (by omega) (by omega)).trans (by congr 1; omega)
theorem con_ok {ρ : Ev.Val} {s : Ev.SB} {b : Bool} {m : List (Ev.SB × Bool)} (h : s.den ρ = b) (g : ∀ q ∈ m, q.1.den ρ = q.2) : ∀ q ∈ (s, b) :: m, q.1.den ρ = q.2 := fun q hq => by
  rcases List.mem_cons.1 hq with rfl | hq
  · exact h
  · exact g q hq
theorem no_ok {ρ : Ev.Val} : ∀ q ∈ ([] : List (Ev.SB × Bool)), q.1.den ρ = q.2 := fun q hq => by cases hq
theorem orc_ok {l : List (Ev.SB × Bool)} {ρ : Ev.Val} : ∀ e ∈ orc, Ev.EntOk Try.prog ⟨l, fun σ => σ = ρ⟩ e :=
  Ev.ents_cons (Ev.EntOk.of rfl [] trivial (v := .bool true) (fun _ => rfl) known9_any) Ev.ents_nil
set_option maxRecDepth 1000000 in
theorem walk (a0 : Int) (a1 : Int) (w : World) (w0 : (Lit.int .u32 a0).wf = true) (w1 : (Lit.int .u32 a1).wf = true) :
    Calls Try.prog 3 #[.int .u32 a0, .int .u32 a1] w fun e w' => e = .returned (.bool true) ∧ Below w.heap.size w w' := by
  obtain ⟨x0, x1⟩ := bd_u32 w0
  obtain ⟨y0, y1⟩ := bd_u32 w1
  obtain ⟨n, rfl⟩ := Int.eq_ofNat_of_zero_le x0
  obtain ⟨m, rfl⟩ := Int.eq_ofNat_of_zero_le y0
  have dn := word_den (val (n : Int) (m : Int)) 0 n rfl (by omega)
  have dm := word_den (val (n : Int) (m : Int)) 1 m rfl (by omega)
  have f1 : s1.den (val (n : Int) (m : Int)) = ((n : Int) != (m : Int)) := by
    show ((b3 0).den _ != (b3 1).den _) = _
    rw [dn, dm]
  have f2 : s2.den (val (n : Int) (m : Int)) = ((n : Int) == (m : Int)) := rfl
  by_cases h : (n : Int) = (m : Int)
  · exact Ev.law_true 1000 40 runEq (val (n : Int) (m : Int)) (con_ok (by rw [f1, h]; simp) (con_ok (by rw [f2, h]; simp) no_ok)) orc_ok rfl [.int .u32 (n : Int), .int .u32 (m : Int)] w ⟨trivial, Nat.zero_le _⟩ ⟨rfl, rfl, trivial⟩
  · exact Ev.law_true 1000 40 runNe (val (n : Int) (m : Int)) (con_ok (by rw [f1]; simpa using h) (con_ok (by rw [f2]; simpa using h) no_ok)) orc_ok rfl [.int .u32 (n : Int), .int .u32 (m : Int)] w ⟨trivial, Nat.zero_le _⟩ ⟨rfl, rfl, trivial⟩
end
theorem own : ownKnob Try.prog.godebug = none := by kernel_rfl
theorem laidOut : laidOutB Try.prog = true := by kernel_rfl
set_option maxRecDepth 1000000 in
theorem contract (H : Type) (enc : TypeId × Value → H) (W : World) (base : Nat) (args : Array Value) (ds gs : List (DataW H)) (before : List MemPlace)
    (hval : ∀ (j : Nat) t v, Try.f3.params[j]? = some t → args[j]? = some v → Value.okWide Try.prog W .any base t v)
    (hW : DataW.Whole enc Try.prog Try.f3.params.toList Rows.linkKeysSpec.vars false W args.toList ds gs before) :
    Calls Try.prog 3 args W fun e W' => ∃ v, e = .returned v ∧ Rows.linkKeysSpec.post enc Try.prog Try.f3 false true false false W args v W' := by
  have hW' := hW
  obtain ⟨p, q, hA0, hV, rfl, hfz, hnd⟩ := hW
  have hA : DataW.TrodAll enc Try.prog W 0 (fun _ => true) true Try.f3.params.toList args.toList ds p := hA0
  rw [Try.params3] at hA hval
  obtain ⟨v0, vs0, d0, ds0, p0, q0, hargs, rfl, rfl, h0, r0⟩ := trodAll_cons hA
  obtain ⟨v1, vs1, d1, ds1, p1, q1, rfl, rfl, rfl, h1, r1⟩ := trodAll_cons r0
  obtain ⟨rfl, rfl, rfl⟩ := trodAll_nil r1
  obtain rfl : args = #[v0, v1] := by cases args; simp_all
  obtain ⟨rfl, rfl⟩ := trodVars_none hV
  obtain ⟨a0, rfl, rfl, rfl, w0⟩ := open_int Try.underlying22 (hval 0 22 v0 rfl rfl) h0
  obtain ⟨a1, rfl, rfl, rfl, w1⟩ := open_int Try.underlying22 (hval 1 22 v1 rfl rfl) h1
  clear hA0
  refine (walk a0 a1 W w0 w1).mono fun e W' ⟨he, bel⟩ => ?_
  subst he
  exact ⟨_, rfl, _, _, _, [], _, [], hW', trodAll_mk1 (shut_bool Try.underlying4 _), (trodAll_cons_mk (shut_int Try.underlying22 w0) (trodAll_cons_mk (shut_int Try.underlying22 w1) trodAll_mk0)), rfl, bel.frame _, fun h => by cases h⟩
set_option maxRecDepth 100000 in
theorem lifted (os : Os) (started : os.Started) (H : Type) (enc : TypeId × Value → H) :
    ReturnsInHanded {} Try.checked os 3 .any (Rows.linkKeysSpec.pre6 enc Try.prog Try.f3 Rows.linkKeysRow.domain false) (Rows.linkKeysSpec.post enc Try.prog Try.f3 false true false false) := by
  refine returnsInHanded_of_change (C := Try.checked) own started (by kernel_rfl) Try.func3
    (ChangeSpec.witness6 (enc := enc) (C := Try.checked) false ⟨#[], #[.int .u32 0, .int .u32 0], []⟩ 8 (by kernel_rfl) (by kernel_rfl) (by kernel_rfl) (by kernel_rfl)) ?_
  intro W base args ds gs before hval hW hcnd _
  exact contract H enc W base args ds gs before hval hW
theorem said : Rows.LinkKeysSaid :=
  OpenClaim.holds_of_wide 3 Try.f3 rfl rfl rfl rfl rfl rfl rfl ⟨rfl, rfl, rfl, rfl, rfl⟩ rfl rfl rfl rfl rfl (by kernel_rfl) Try.func3 (by kernel_rfl)
    (of_decide_eq_true (by kernel_rfl)) (by unfold Func.isWrapper; first | (rw [if_pos (by decide +kernel)]; kernel_rfl) | (rw [if_neg (by decide +kernel)]; exact ⟨rfl, rfl⟩))
    (fun os started H enc _ => lifted os started H enc)
theorem proved : Rows.LinkKeysSaid := said
end Go.Proofs.Ytboobjlbjmlboaa.linkKeys
