/-
  For every text: it is read as the document says, or wrong in the line that it says; whatever the world holds.
-/
import Derived.Test.YtlodoilihminaaaGreatDoorScrZO
import Derived.Test.YtlodoilihminaaaGreatDoorCards
import Derived.Test.YtlodoilihminaaaGreatDoorTie
import Derived.Deep.DeepHandedRow
import Derived.Lib.LaidTab
import Derived.SevenTiedAt
import Derived.Stop.Joined
namespace Go.Proofs.YtlodoilihminaaaGreatDoor.scriptParses
open Go.ChangeShapes Go.WideShapes Go.ChangeAt Go.RowKit
open Go.ChangeMaps (open_string shut_string)
set_option linter.unusedVariables false
set_option linter.unusedSimpArgs false
set_option maxHeartbeats 4000000 in
set_option maxRecDepth 100000 in
theorem walk (t0 : ByteArray) (w : World) (wt : t0.size ≤ maxLen) (hT : Tb w) :
    Calls Tryz.prog 5 #[.string t0] w fun e w' => e = .returned (.bool true) ∧ Below w.heap.size w w' := by
  obtain ⟨s, rfl⟩ : ∃ s, t0 = S s := ⟨t0.data.toList, (S_list t0).symm⟩
  have hsz := S_size s
  have HT := Lib.hid hT
  have HSZ : Hid (s.length ≤ 9223372036854775807) := Lib.hid (by rw [← hsz]; unfold maxLen at wt; omega)
  have hsm := HSZ.out
  have HK : Hid (∀ V : World, Below w.heap.size w V → Calls Tryz.prog 7 #[] V fun e v => e = .returned (.bool true) ∧ Below w.heap.size w v) := Lib.hid fun V hV =>
    (known_any V (hT.below hV)).mono fun e v ⟨h1, h2⟩ => ⟨h1, hV.trans (h2.mono hV.size)⟩
  have HR := Lib.hid (Below.refl w.heap.size w)
  clear hT wt
  go_enter Tryz.func5, Tryz.ntmps5
  by_cases hlong : (20000 : Int) < (s.length : Int)
  · go_wp2_with (go_at_call 7; (with_reducible refine (HK.out _ HR.out).mono ?_); rintro e w3 ⟨rfl, hb⟩; have HB3 := Lib.hid hb; clear hb)
    go_ret
    exact ⟨rfl, HB3.out⟩
  have hl : s.length ≤ 20000 := by omega
  have HA1 := Lib.hid (sparse_any w s (by omega) HT.out)
  have HA2 := Lib.hid (fun V (hV : Below w.heap.size w V) => rparse_any V s (by omega) (HT.out.below hV))
  obtain ⟨pc, hpc⟩ : ∃ pc, pc = parC s := ⟨_, rfl⟩
  obtain ⟨pl, hpl⟩ : ∃ pl, pl = parL s := ⟨_, rfl⟩
  obtain ⟨pn, hpn⟩ : ∃ pn, pn = parN s := ⟨_, rfl⟩
  obtain ⟨px, hpx⟩ : ∃ px, px = parX s := ⟨_, rfl⟩
  rw [← hpc, ← hpl, ← hpn, ← hpx] at HA1 HA2
  unfold scC at *
  clear hpc hpl hpn hpx
  go_upto_region 4 with (go_at_call 17; (with_reducible refine HA1.out.mono ?_); rintro e w4 ⟨A, n, cc, rfl, hat, hb⟩; have HB4 := Lib.hid hb; have HAT := Lib.hid hat; clear hb hat)
  have hq4 := heap_alloc_new w4 (.cells #[.int .i64 pc, .slice A n cc] 38)
  have hb4 := HB4.out.alloc HB4.out.size (.cells #[.int .i64 pc, .slice A n cc] 38)
  have hat4 := HAT.out.below (sbelow1 w4 (.cells #[.int .i64 pc, .slice A n cc] 38))
  generalize w4.alloc (.cells #[.int .i64 pc, .slice A n cc] 38) = W5 at hq4 hb4 hat4 ⊢
  have HB5 := Lib.hid hb4
  have HQ5 := Lib.hid hq4
  have HAT5 := Lib.hid hat4
  have HLT5 := Lib.hid (Array.getElem?_eq_some_iff.1 hq4).1
  clear hq4 hb4 hat4 HAT
  go_upto_region 5 with (go_at_call 18; (with_reducible refine (HA2.out _ HB5.out).mono ?_); rintro e w6 ⟨A', n', cc', rfl, hat, hb⟩; have HB6 := Lib.hid hb; have HAT := Lib.hid hat; clear hb hat)
  have hq6 := heap_alloc_new w6 (.cells #[.int .i64 pc, .slice A' n' cc'] 38)
  have hb6 := HB6.out.alloc HB6.out.size (.cells #[.int .i64 pc, .slice A' n' cc'] 38)
  have hat6 := HAT.out.below (sbelow1 w6 (.cells #[.int .i64 pc, .slice A' n' cc'] 38))
  generalize w6.alloc (.cells #[.int .i64 pc, .slice A' n' cc'] 38) = W7 at hq6 hb6 hat6 ⊢
  have hq5 := (hb6.block _ HLT5.out).trans HQ5.out
  have k0 : W7.cell? ⟨w4.heap.size, 0, none⟩ = some (.int .i64 pc) := by rw [World.cell?, hq5]; rfl
  have k1 : W7.cell? ⟨w4.heap.size, 1, none⟩ = some (.slice A n cc) := by rw [World.cell?, hq5]; rfl
  have j0 : W7.cell? ⟨w6.heap.size, 0, none⟩ = some (.int .i64 pc) := by rw [World.cell?, hq6]; rfl
  have j1 : W7.cell? ⟨w6.heap.size, 1, none⟩ = some (.slice A' n' cc') := by rw [World.cell?, hq6]; rfl
  have HSA : Hid (Calls Tryz.prog 16 #[.agg #[.int .i64 pc, .slice A n cc], .agg #[.int .i64 pc, .slice A' n' cc']] W7 fun e v => e = .returned (.bool true) ∧ Below W7.heap.size W7 v) := Lib.hid (by
    refine (rsc_any W7 pc pl A n cc (HAT5.out.below hb6) pc pl A' n' cc' hat6).mono ?_
    rintro e v ⟨rfl, hb⟩
    exact ⟨ret_bool ((sameSB_iff _ _ _ _).2 ⟨rfl, rfl⟩), hb⟩)
  have HB7 := Lib.hid (HB5.out.trans (hb6.mono HB5.out.size))
  clear hq6 hb6 hat6 hq5 HAT HQ5 HAT5
  go_wp2_with (first
    | (go_at_call 16; (with_reducible refine HSA.out.mono ?_); rintro e w8 ⟨rfl, hb⟩; have HB8 := Lib.hid (HB7.out.trans (hb.mono HB7.out.size)); clear hb)
    | (go_at_call 11; (with_reducible refine (num_any _ _).mono ?_); rintro e w' ⟨rfl, rfl⟩)
    | (go_at_call 7; (with_reducible refine (HK.out _ HB8.out).mono ?_); rintro e w9 ⟨rfl, hb⟩; have HB9 := Lib.hid hb; clear hb))
  go_ret
  exact ⟨rfl, HB9.out⟩
theorem own : ownKnob Tryz.prog.godebug = none := by kernel_rfl
theorem laidOut : laidOutB Tryz.prog = true := by kernel_rfl
theorem gTab2 : Tryz.prog.globalNamed "internal/strconv.uint64pow10" = some 5 := by kernel_rfl
theorem gTab7 : Tryz.prog.globalNamed "strings.asciiSpace" = some 0 := by kernel_rfl
set_option maxRecDepth 1000000 in
theorem tables {W : World} (h0 : laidMetH Tryz.prog Rows.scriptParsesRow.laid W) (hsh : W.ShapedOpen Tryz.prog) : Tb W := by
  rw [MakeChecks.laidMetH_plain _ _ _ (by kernel_rfl)] at h0
  have h : laidMet Tryz.prog Rows.scriptParsesRow.laid W := h0
  exact ⟨Lib.tabIs_of_head (rest := _) gTab2 (by kernel_rfl) Tryz.underlying156 Tryz.underlying131 (by kernel_rfl) (by kernel_rfl) (laidMet.tail (laidMet.tail h)), Lib.tabIs_of_head (rest := _) gTab7 (by kernel_rfl) Tryz.underlying106 Tryz.underlying5 (by kernel_rfl) (by kernel_rfl) (laidMet.tail (laidMet.tail (laidMet.tail (laidMet.tail (laidMet.tail (laidMet.tail (laidMet.tail h))))))), mx_of hsh, ⟨errS_of (laidMet.tail (laidMet.tail (laidMet.tail (laidMet.tail (laidMet.tail h))))), errR_of (laidMet.tail (laidMet.tail (laidMet.tail (laidMet.tail h))))⟩⟩
set_option maxRecDepth 1000000 in
theorem contract (H : Type) (enc : TypeId × Value → H) (W : World) (base : Nat) (args : Array Value) (ds gs : List (DataW H)) (before : List MemPlace)
    (hval : ∀ (j : Nat) t v, Tryz.f5.params[j]? = some t → args[j]? = some v → Value.okWide Tryz.prog W .any base t v)
    (hW : DataW.Whole enc Tryz.prog Tryz.f5.params.toList Rows.scriptParsesSpec.vars false W args.toList ds gs before) (hL : laidMetH Tryz.prog Rows.scriptParsesRow.laid W) (hsh : W.ShapedOpen Tryz.prog) :
    Calls Tryz.prog 5 args W fun e W' => ∃ v, e = .returned v ∧ Rows.scriptParsesSpec.post enc Tryz.prog Tryz.f5 false true false false W args v W' := by
  have hW' := hW
  obtain ⟨p, q, hA0, hV, rfl, hfz, hnd⟩ := hW
  have hA : DataW.TrodAll enc Tryz.prog W 0 (fun _ => true) true Tryz.f5.params.toList args.toList ds p := hA0
  rw [Tryz.params5] at hA hval
  obtain ⟨v0, vs0, d0, ds0, p0, q0, hargs, rfl, rfl, h0, r0⟩ := trodAll_cons hA
  obtain ⟨rfl, rfl, rfl⟩ := trodAll_nil r0
  obtain rfl : args = #[v0] := by cases args; simp_all
  obtain ⟨rfl, rfl⟩ := trodVars_none hV
  obtain ⟨a0, rfl, rfl, rfl, w0⟩ := open_string Tryz.underlying9 (hval 0 9 v0 rfl rfl) h0
  clear hA0
  have hT := tables hL hsh
  refine (walk a0 W w0 hT).mono fun e W' ⟨he, bel⟩ => ?_
  subst he
  exact ⟨_, rfl, _, _, _, [], _, [], hW', trodAll_mk1 (shut_bool Tryz.underlying4 _), (trodAll_cons_mk (shut_string Tryz.underlying9 w0) trodAll_mk0), rfl, bel.frame _, fun h => by cases h⟩
theorem witness_shaped {H : Type} {enc : TypeId × Value → H} {C : Checked} {os : Os} {f : FuncId} {fn : Func} {s : OpenSpec} {conds : List PathCond} {apart : Bool} {laid : List (String × DataW Unit)} (modest : Bool) (w0 : World) (args : Array Value) (hos : w0.os = os)
    (hsh : (w0.forCall (fun _ _ => 0) ⟨#[], args, []⟩).Shaped C.prog) (hok : Input.okWideB C.prog (w0.forCall (fun _ _ => 0) ⟨#[], args, []⟩) f ⟨#[], args, []⟩ = true)
    (hrow : s.preRow enc C.prog fn conds apart laid (w0.forCall (fun _ _ => 0) ⟨#[], args, []⟩).memory args) :
    ∃ (w : World) (tape : Tape) (i : Input), w.os = os ∧ (w.forCall tape i).Shaped C.prog ∧ i.vars = [] ∧ Input.okWide C.prog (w.forCall tape i) .any w.heap.size f i ∧
      s.preRow enc C.prog fn conds apart laid (w.forCall tape i).memory i.args ∧ ({ modest := modest } : Assume).holds C.prog (lone (Frame.enter C.prog f i.args .normal) [] (w.forCall tape i)) :=
  ⟨w0, fun _ _ => 0, ⟨#[], args, []⟩, hos, hsh, (Input.okWide_of_okWideB (base := 0) hok).1, (Input.okWide_of_okWideB hok).2, hrow, by
    simp only [Assume.holds]
    exact ⟨by simp, by simp, fun _ => Modest.zero, by simp, by simp⟩⟩
set_option maxRecDepth 1000000 in
theorem laid_met (os : Os) : laidMetH Tryz.prog Rows.scriptParsesRow.laid ((World.laidAll Tryz.prog os Rows.scriptParsesRow.laid).forCall (fun _ _ => 0) ⟨#[], #[.string .empty], []⟩).memory := by
  rw [MakeChecks.laidMetH_plain _ _ _ (by kernel_rfl)]
  exact laidMet_laidAll _ (by kernel_rfl) (by kernel_rfl)
set_option maxRecDepth 1000000 in
theorem reads (os : Os) {H : Type} (enc : TypeId × Value → H) : ∃ places, DataW.whole enc Tryz.prog ((World.laidAll Tryz.prog os Rows.scriptParsesRow.laid).forCall (fun _ _ => 0) ⟨#[], #[.string .empty], []⟩).memory Tryz.f5.params.toList Rows.scriptParsesSpec.vars false (#[.string .empty] : Array Value).toList 8 = some ([.lit (.string [])], [], places) := ⟨[], by kernel_rfl⟩
set_option maxRecDepth 1000000 in
theorem lifted (os : Os) (started : os.Started) (H : Type) (enc : TypeId × Value → H) (F : Stop.Interp) :
    ReturnsInHanded {} Tryz.checked os 5 .any ((OpenSpec.ofChange Rows.scriptParsesSpec).preRow enc Tryz.prog Tryz.f5 Rows.scriptParsesRow.domain false Rows.scriptParsesRow.laid) (((OpenSpec.ofChange Rows.scriptParsesSpec).at F).post enc Tryz.prog Tryz.f5 false true false false) := by
  obtain ⟨places, hx⟩ := reads os enc
  refine returnsInHanded_of_row (C := Tryz.checked) (s := OpenSpec.ofChange Rows.scriptParsesSpec) own started (by kernel_rfl) Tryz.func5
    (witness_shaped (enc := enc) (C := Tryz.checked) false (World.laidAll Tryz.prog os Rows.scriptParsesRow.laid) #[.string .empty] (World.laidAll_os _ _ _) (World.shaped_of_ZipB (by kernel_rfl) (by kernel_rfl)) (by kernel_rfl)
      (OpenSpec.preRow_of_cond 8 hx (by kernel_rfl) (fun k hk => by cases hk) (by kernel_rfl) (laid_met os))) ?_
  intro W base args ds gs before hval hW _ _ _ hL hsh _
  exact contract H enc W base args ds gs before hval hW hL hsh
theorem said : Rows.ScriptParsesSaid :=
  OpenClaim.holds_of_cond 5 Tryz.f5 rfl rfl rfl rfl rfl rfl rfl ⟨rfl, rfl, rfl, rfl, rfl⟩ rfl rfl rfl rfl rfl (by kernel_rfl) Tryz.func5 (by kernel_rfl)
    (of_decide_eq_true (by kernel_rfl)) (by unfold Func.isWrapper; first | (rw [if_pos (by decide +kernel)]; kernel_rfl) | (rw [if_neg (by decide +kernel)]; exact ⟨rfl, rfl⟩))
    (fun os started H enc _ F => by rw [OpenClaim.pre_eq_preRow]; exact lifted os started H enc F)
theorem plain (f : FuncId) (fn : Func) (hf : Tryz.pinned.checked.prog.funcNamed "selfsame/selfsamelaw25.ScriptParses" = some f) (hfn : Tryz.pinned.checked.prog.funcs[f]? = some fn) :
    true = Tryz.pinned.checked.prog.looks [] ∧ ∀ (j : Nat) t, fn.params[j]? = some t → Tryz.pinned.checked.prog.wantsStandIn t = false := by
  obtain rfl : f = 5 := Option.some.inj ((show Tryz.prog.funcNamed "selfsame/selfsamelaw25.ScriptParses" = some 5 by kernel_rfl).symm.trans hf) |>.symm
  obtain rfl : fn = Tryz.f5 := (Option.some.inj (Tryz.func5.symm.trans hfn)).symm
  refine ⟨by kernel_rfl, fun j t ht => ?_⟩
  rw [Tryz.params5] at ht
  have hm := Array.mem_of_getElem? ht
  simp only [List.mem_toArray, List.mem_cons, List.not_mem_nil, or_false] at hm
  rcases hm with rfl
  · exact (show Tryz.prog.wantsStandIn 9 = false by kernel_rfl)
theorem proved : Rows.ScriptParsesCardSaid :=
  Claim7.holds_tied_plain_at .later [] _ _ _ _ said (fun _ h => by cases h) (by kernel_rfl) (fun _ h => by cases h) scriptParses_row_tie rfl ⟨rfl, rfl⟩ (by kernel_rfl) rfl plain (by kernel_rfl)
end Go.Proofs.YtlodoilihminaaaGreatDoor.scriptParses
