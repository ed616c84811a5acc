/-
  script.ActText: an act's text.
-/
import Derived.Test.YtlodoilihminaaaGreatDoorScrJP
import Derived.Test.YtlodoilihminaaaGreatDoorTextA
namespace Go.Proofs.YtlodoilihminaaaGreatDoor
open Go.ChangeShapes Go.WideShapes Go.ChangeAt Go.RowKit
set_option linter.unusedVariables false
set_option linter.unusedSimpArgs false
/-- an act's text under way -/
structure AS (w W : World) (b : Nat) (V : Array Value) (L : List UInt8) : Prop where
  hb : Below w.heap.size w W
  qb : w.heap.size < b
  box : W.heap[w.heap.size]? = some (.cells V 27 (0, 0))
  bd : ∃ p v, Bd W b p v L ∧ (L = [] → v.ownBlock = none)
  fn : W.heap[b + 1]? = some (.cells #[.func (.func 49) #[] #[.pointer (some ⟨b, 0, none⟩)]] 94 (0, 0))
section
variable {w W W' : World} {b : Nat} {V : Array Value} {L : List UInt8}
theorem AS.lt (h : AS w W b V L) : b + 1 < W.heap.size := (Array.getElem?_eq_some_iff.1 h.fn).1
theorem AS.next (h : AS w W b V L) (hb : Below W.heap.size W W') : AS w W' b V L := by
  obtain ⟨p, v, hd, hv⟩ := h.bd
  have hl := h.lt
  have hq := h.qb
  exact ⟨h.hb.trans (hb.mono h.hb.size), h.qb, (hb.block _ (by omega)).trans h.box, ⟨p, v, hd.next (hb.block _ (by omega)) (fun k e => hb.block _ (hd.vlt k e).2), hv⟩, (hb.block _ hl).trans h.fn⟩
/-- whatever keeps these blocks -/
theorem AS.keep (h : AS w W b V L) (hb : Below (b + 2) W W') (hv : ∀ p v, Bd W b p v L → ∀ k, v.ownBlock = some k → W'.heap[k]? = W.heap[k]?) : AS w W' b V L := by
  obtain ⟨p, v, hd, hn⟩ := h.bd
  have hl := h.lt
  have hq := h.qb
  exact ⟨h.hb.trans (hb.mono (by omega)), h.qb, (hb.block _ (by omega)).trans h.box, ⟨p, v, hd.next (hb.block _ (by omega)) (hv p v hd), hn⟩, (hb.block _ (by omega)).trans h.fn⟩
theorem AS.keep0 (h : AS w W b V []) (hb : Below (b + 2) W W') : AS w W' b V [] := by
  obtain ⟨p, v, hd, hn⟩ := h.bd
  have hl := h.lt
  have hq := h.qb
  exact ⟨h.hb.trans (hb.mono (by omega)), h.qb, (hb.block _ (by omega)).trans h.box, ⟨p, v, hd.next (hb.block _ (by omega)) (fun k e => by rw [hn rfl] at e; cases e), hn⟩, (hb.block _ (by omega)).trans h.fn⟩
theorem AS.cell (h : AS w W b V L) {o : Nat} {u : Value} (hu : V[o]? = some u) : W.cell? ⟨w.heap.size, o, none⟩ = some u := by rw [World.cell?, h.box]; exact hu
theorem AS.fcell (h : AS w W b V L) : W.cell? ⟨b + 1, 0, none⟩ = some (.func (.func 49) #[] #[.pointer (some ⟨b, 0, none⟩)]) := by rw [World.cell?, h.fn]; rfl
theorem as_put (h : AS w W b V L) (l : List UInt8) (hl : L.length + l.length ≤ 10000000) (hl0 : L = [] → l ≠ []) : Calls Tryz.prog 49 #[.string (S l), .pointer (some ⟨b, 0, none⟩)] W fun e w' => e = .returned (.tuple #[]) ∧ AS w w' b V (sep L l) ∧ Bf b W w' ∧ (L = [] → ∀ z, z < W.heap.size → z ≠ b → w'.heap[z]? = W.heap[z]?) := by
  obtain ⟨p, v, hd, hv⟩ := h.bd
  have hq := h.qb
  refine (put_any hd l hl).mono ?_
  rintro e w' ⟨rfl, p', v', hd', hf, hk⟩
  refine ⟨rfl, ⟨h.hb.trans (hf.below.mono (by omega)), h.qb, (hf.below.block _ (by omega)).trans h.box, ⟨p', v', hd', fun e => ?_⟩, hf.kept _ _ h.fn (by omega) ?_⟩, hf, fun e z hz hzb => hk e z hz hzb (by rw [hv e]; intro e2; cases e2)⟩
  · exfalso
    unfold sep at e
    split at e
    · next e2 => exact hl0 e2 e
    · simp at e
  · intro cs fr e
    injection e with _ e2 _
    exact absurd e2 (by decide)
end
theorem act_fin {V W2 : World} {Wz : Nat} {s : Value} (hb : Below V.heap.size V W2) (hz : V.heap.size ≤ Wz) (hD : W2.heap[Wz]? = some (.deferred (some []))) (a : Act) (h2 : a.tmps[2]? = some s) (h3 : a.tmps[3]? = some (.int .i64 0)) (hd : a.defers = [{ target := .collected Wz, args := #[] }]) :
    bodyPostM Fence.wide 0 Tryz.prog Tryz.f20 (fun e V' => e = .returned (.tuple #[s, .int .i64 0]) ∧ Below V.heap.size V V') .ret a W2 := by
  obtain ⟨tm, ds⟩ := a
  simp only at h2 h3 hd
  subst hd
  have hlt := (Array.getElem?_eq_some_iff.1 hD).1
  refine ⟨by simp, .inl ⟨_, _, rfl, run_takeDeferred hD, ?_⟩⟩
  refine ⟨.tuple #[s, .int .i64 0], ?_, rfl, hb.trans (below_putObj _ (by omega) hlt)⟩
  simp [results, Tryz.f20, go_sem, h2, h3]
theorem act_fin0 {V W2 : World} {s u : Value} (hb : Below V.heap.size V W2) (a : Act) (h2 : a.tmps[2]? = some s) (h3 : a.tmps[3]? = some u) (hd : a.defers = []) (R : Ending → World → Prop) (hR : R (.returned (.tuple #[s, u])) W2) :
    bodyPostM Fence.wide 0 Tryz.prog Tryz.f20 R .ret a W2 := by
  obtain ⟨tm, ds⟩ := a
  simp only at h2 h3 hd
  subst hd
  refine ⟨.tuple #[s, u], ?_, hR⟩
  simp [results, Tryz.f20, go_sem, h2, h3]
/-- .. beside a walk over letters -/
structure LS (w W : World) (b : Nat) (V : Array Value) (L : List UInt8) (it : Nat) (ps : ByteArray) (pos Wz : Nat) : Prop where
  ast : AS w W b V L
  itr : W.heap[it]? = some (.stringIter ps pos)
  dfr : W.heap[Wz]? = some (.deferred (some []))
  hit : b + 1 < it
  hz : b + 1 < Wz
section
variable {w W W' : World} {b : Nat} {V : Array Value} {L : List UInt8} {it : Nat} {ps : ByteArray} {pos Wz : Nat}
theorem LS.ipos (h : LS w W b V L it ps pos Wz) : W.iterPos it = pos := by simp [World.iterPos, h.itr]
theorem LS.stop (h : LS w W b V L it ps pos Wz) (hp : ¬ pos < ps.size) : ∀ ty, (Instr.next (.pointer (some ⟨it, 0, none⟩)) true ty).run Tryz.prog W = .ok (.tuple #[.bool false]) W :=
  fun ty => Lib.run_next_end_at W it ps pos ty h.itr hp
theorem LS.next (h : LS w W b V L it ps pos Wz) (hp : pos < ps.size) (ha : (ps[pos]'hp).toNat < 128) :
    ∃ w1, (∀ ty, (Instr.next (.pointer (some ⟨it, 0, none⟩)) true ty).run Tryz.prog W = .ok (.tuple #[.bool true, .int .i64 pos, .int .i32 (ps[pos]'hp).toNat]) w1) ∧ LS w w1 b V L it ps (pos + 1) Wz := by
  have h1 := h.hit
  refine ⟨W.iterAt it ps (pos + 1), fun ty => Lib.run_next_ascii_at W it ps pos ty h.itr hp ha, h.ast.keep (Lib.below_iterAt (Below.refl (b + 2) W) (by omega) ps _) (fun p v hd k e => ?_), Lib.iterAt_heap W it ps pos _ h.itr, (Lib.iterAt_other W it Wz ps _ ?_).trans h.dfr, h.hit, h.hz⟩
  · obtain ⟨cs, fr, hr⟩ := hd.row k e
    exact Lib.iterAt_other W it k ps _ (by rintro rfl; rw [h.itr] at hr; cases hr)
  · rintro rfl
    have h2 := h.itr
    rw [h.dfr] at h2
    cases h2
theorem LS.below (h : LS w W b V L it ps pos Wz) (hb : Below W.heap.size W W') : LS w W' b V L it ps pos Wz :=
  ⟨h.ast.next hb, (hb.block _ (Array.getElem?_eq_some_iff.1 h.itr).1).trans h.itr, (hb.block _ (Array.getElem?_eq_some_iff.1 h.dfr).1).trans h.dfr, h.hit, h.hz⟩
theorem LS.put (h : LS w W b V L it ps pos Wz) (l : List UInt8) (hl : L.length + l.length ≤ 10000000) (hl0 : L ≠ []) : Calls Tryz.prog 49 #[.string (S l), .pointer (some ⟨b, 0, none⟩)] W fun e w' => e = .returned (.tuple #[]) ∧ LS w w' b V (sep L l) it ps pos Wz := by
  refine (as_put h.ast l hl (fun e => absurd e hl0)).mono ?_
  rintro e w' ⟨rfl, ha, hf, -⟩
  have h1 := h.hit
  have h2 := h.hz
  exact ⟨rfl, ha, hf.kept _ _ h.itr (by omega) (fun _ _ e => by cases e), hf.kept _ _ h.dfr (by omega) (fun _ _ e => by cases e), h.hit, h.hz⟩
end
theorem string_kept {W : World} {b : Nat} {p v : Value} {L : List UInt8} (h : Bd W b p v L) (h0 : L ≠ []) : Calls Tryz.prog 42 #[.pointer (some ⟨b, 0, none⟩)] W fun e w' => e = .returned (.string (S L)) ∧ Below b W w' ∧ Lib.OthersKept 5 (some b) W w' := by
  have hi : Lib.IsBuilder 79 5 b b (Lib.byteCells L) W := by
    have hl : (Lib.byteCells L).length = L.length := by simp [Lib.byteCells]
    rcases h.pp with e | e
    · exact .inl ⟨Nat.le_refl _, v, by rw [← e]; exact h.blk, by rw [hl]; exact h.own, h.ne⟩
    · exact .inr ⟨Nat.le_refl _, v, by rw [← e]; exact h.blk, by rw [hl]; exact h.own, h.ne⟩
  exact (Tryz.Builder_String_k b b L W (Lib.IsBuilderF.of hi) h0).mono fun e w' ⟨h1, _, h2, h3⟩ => ⟨h1, h2, h3⟩
theorem acts_small : ∀ x, x < 7 → (actWs.getD x []).length ≤ 10 ∧ actWs.getD x [] ≠ [] := by decide
theorem store_fn (W : World) (a : Addr) (x : Value) (h : W.cell? a = some x) (hf : W.frozen? a = false) (f : Fn) (b c : Array Value) : (store a (.func f b c)).run Tryz.prog W = .ok () (W.setCell a (.func f b c)) := by
  rw [run_store _ _ _ _ _ rfl, h]
  simp [hf]
set_option maxHeartbeats 4000000 in
set_option maxRecDepth 100000 in
theorem acttext_no (w : World) (a : Ac) (bA : Option Addr) (bn bc : Nat) (nA : Option Addr) (nn nc : Nat) (h : ActAt w a bA bn bc nA nn nc) (hk : (Lit.int .i64 a.kind).wf = true) (hm : a.may = false) :
    Calls Tryz.prog 20 #[.agg (actC a.kind a.name bA bn bc nA nn nc a.mem a.fuel)] w fun e w' => e = .returned (.tuple #[.string ⟨#[]⟩, .int .i64 2]) ∧ Below w.heap.size w w' := by
  have hmay := fun V (hV : Below w.heap.size w V) => mayact_any V a bA bn bc nA nn nc (h.below hV) hk
  obtain ⟨kd, hkd⟩ : ∃ kd, kd = a.kind := ⟨_, rfl⟩
  rw [← hkd] at hmay hk ⊢
  rw [hm] at hmay
  have HM := Lib.hid hmay
  clear h hmay hk hkd hm
  unfold actC at *
  have hq0 := heap_alloc_new w (.cells #[.int .i64 kd, .string (S a.name), .slice bA bn bc, .slice nA nn nc, .int .i64 a.mem, .int .i64 a.fuel] 27)
  have HB1 := Lib.hid (sbelow1 w (.cells #[.int .i64 kd, .string (S a.name), .slice bA bn bc, .slice nA nn nc, .int .i64 a.mem, .int .i64 a.fuel] 27))
  refine (callsIn_wide (n := 0)).1 ?_
  refine callsIn_of_wp_marks Tryz.func20 rfl trivial ?_ rfl
  simp only [Tryz.ntmps20, List.size_toArray, List.length_cons, List.length_nil, Nat.reduceAdd, Nat.reduceSub, Array.replicate_succ, Array.replicate_zero, List.push_toArray, List.append_toArray, List.nil_append, List.cons_append]
  refine wpIn_wide.2 ?_
  go_upto_region 1 with fail
  generalize w.alloc (.cells #[.int .i64 kd, .string (S a.name), .slice bA bn bc, .slice nA nn nc, .int .i64 a.mem, .int .i64 a.fuel] 27) = W1 at hq0 HB1 ⊢
  have c0 : W1.cell? ⟨w.heap.size, 0, none⟩ = some (.int .i64 kd) := by rw [World.cell?, hq0]; rfl
  have c1 : W1.cell? ⟨w.heap.size, 1, none⟩ = some (.string (S a.name)) := by rw [World.cell?, hq0]; rfl
  have c2 : W1.cell? ⟨w.heap.size, 2, none⟩ = some (.slice bA bn bc) := by rw [World.cell?, hq0]; rfl
  have c3 : W1.cell? ⟨w.heap.size, 3, none⟩ = some (.slice nA nn nc) := by rw [World.cell?, hq0]; rfl
  have c4 : W1.cell? ⟨w.heap.size, 4, none⟩ = some (.int .i64 a.mem) := by rw [World.cell?, hq0]; rfl
  have c5 : W1.cell? ⟨w.heap.size, 5, none⟩ = some (.int .i64 a.fuel) := by rw [World.cell?, hq0]; rfl
  clear hq0
  go_wp2_with (go_at_call 36; (with_reducible refine (HM.out _ HB1.out).mono ?_); rintro e w2 ⟨rfl, hb⟩; have HB2 := Lib.hid (HB1.out.trans (hb.mono HB1.out.size)); clear hb)
  refine act_fin0 HB2.out _ rfl rfl rfl _ ⟨?_, HB2.out⟩
  rfl
theorem gSp : Tryz.prog.globalNamed "strings.asciiSpace" = some 0 := by kernel_rfl
theorem SpT.below {w w' : World} (h : SpT w) (hb : Below w.heap.size w w') : SpT w' := by
  have hc := World.block_lt_of_cell? _ _ (Lib.TabIs.cell h gSp 0 (by rw [Lib.asciiSpaceTab_length]; omega))
  exact var?_below hb gSp hc h
set_option maxHeartbeats 4000000 in
set_option maxRecDepth 100000 in
theorem acttext_yes (w : World) (a : Ac) (bA : Option Addr) (bn bc : Nat) (nA : Option Addr) (nn nc : Nat) (h : ActAt w a bA bn bc nA nn nc) (hk : (Lit.int .i64 a.kind).wf = true) (hm : a.may = true) (hT : Tab w) (hT2 : SpT w) :
    Calls Tryz.prog 20 #[.agg (actC a.kind a.name bA bn bc nA nn nc a.mem a.fuel)] w fun e w' => e = .returned (.tuple #[.string (S a.txt), .int .i64 0]) ∧ Below w.heap.size w w' := by
  have HA := Lib.hid h
  have hmay := fun V (hV : Below w.heap.size w V) => mayact_any V a bA bn bc nA nn nc (h.below hV) hk
  have HKI := Lib.hid (may_kind hm)
  have HTX := Lib.hid (txt_fold hm)
  obtain ⟨kd, hkd⟩ : ∃ kd, kd = a.kind := ⟨_, rfl⟩
  rw [← hkd] at hmay hk HKI HTX ⊢
  rw [hm] at hmay
  obtain ⟨wd, hwd⟩ : ∃ wd, wd = actWs.getD (kd - 1).toNat [] := ⟨_, rfl⟩
  rw [← hwd] at HTX
  have HWD := Lib.hid hwd
  have HM := Lib.hid hmay
  have HMM := Lib.hid hm
  have HKD := Lib.hid hkd
  have HK := Lib.hid hk
  have HT := Lib.hid hT
  have HT2 := Lib.hid hT2
  clear h hmay hk hkd hT hT2 hm hwd
  unfold actC at *
  have hq0 := heap_alloc_new w (.cells #[.int .i64 kd, .string (S a.name), .slice bA bn bc, .slice nA nn nc, .int .i64 a.mem, .int .i64 a.fuel] 27)
  have HB1 := Lib.hid (sbelow1 w (.cells #[.int .i64 kd, .string (S a.name), .slice bA bn bc, .slice nA nn nc, .int .i64 a.mem, .int .i64 a.fuel] 27))
  refine (callsIn_wide (n := 0)).1 ?_
  refine callsIn_of_wp_marks Tryz.func20 rfl trivial ?_ rfl
  simp only [Tryz.ntmps20, List.size_toArray, List.length_cons, List.length_nil, Nat.reduceAdd, Nat.reduceSub, Array.replicate_succ, Array.replicate_zero, List.push_toArray, List.append_toArray, List.nil_append, List.cons_append]
  refine wpIn_wide.2 ?_
  go_upto_region 1 with fail
  generalize w.alloc (.cells #[.int .i64 kd, .string (S a.name), .slice bA bn bc, .slice nA nn nc, .int .i64 a.mem, .int .i64 a.fuel] 27) = W1 at hq0 HB1 ⊢
  have HQ := Lib.hid hq0
  have c0 : W1.cell? ⟨w.heap.size, 0, none⟩ = some (.int .i64 kd) := by rw [World.cell?, hq0]; rfl
  have c1 : W1.cell? ⟨w.heap.size, 1, none⟩ = some (.string (S a.name)) := by rw [World.cell?, hq0]; rfl
  have c2 : W1.cell? ⟨w.heap.size, 2, none⟩ = some (.slice bA bn bc) := by rw [World.cell?, hq0]; rfl
  have c3 : W1.cell? ⟨w.heap.size, 3, none⟩ = some (.slice nA nn nc) := by rw [World.cell?, hq0]; rfl
  have c4 : W1.cell? ⟨w.heap.size, 4, none⟩ = some (.int .i64 a.mem) := by rw [World.cell?, hq0]; rfl
  have c5 : W1.cell? ⟨w.heap.size, 5, none⟩ = some (.int .i64 a.fuel) := by rw [World.cell?, hq0]; rfl
  clear hq0
  go_upto_region 3 with (go_at_call 36; (with_reducible refine (HM.out _ HB1.out).mono ?_); rintro e w2 ⟨rfl, hb⟩; have HB2 := Lib.hid (HB1.out.trans (hb.mono HB1.out.size)); have HQ2 := Lib.hid ((hb.block _ (Array.getElem?_eq_some_iff.1 HQ.out).1).trans HQ.out); clear hb)
  clear c0 c1 c2 c3 c4 c5 HM HQ HB1
  go_upto_region 4 with fail
  have hd3 := heap_alloc_new w2 (.cells #[.pointer none, .slice none 0 0] 79)
  have hq3 := (Below.heap_alloc w2 (.cells #[.pointer none, .slice none 0 0] 79) _ (Array.getElem?_eq_some_iff.1 HQ2.out).1).trans HQ2.out
  have hs3 : (w2.alloc (.cells #[.pointer none, .slice none 0 0] 79)).heap.size = w2.heap.size + 1 := by simp
  have hb3 := HB2.out.alloc HB2.out.size (.cells #[.pointer none, .slice none 0 0] 79)
  have hlt : w.heap.size < w2.heap.size := (Array.getElem?_eq_some_iff.1 HQ2.out).1
  generalize w2.alloc (.cells #[.pointer none, .slice none 0 0] 79) = W3 at hd3 hq3 hs3 hb3 ⊢
  generalize w2.heap.size = b at hd3 hs3 hlt ⊢
  clear HB2 HQ2
  have z4 : (W3.alloc (.cells #[.nilFunc] 94)).cell? ⟨W3.heap.size, 0, none⟩ = some .nilFunc := by rw [World.cell?, heap_alloc_new]; rfl
  have zf : (W3.alloc (.cells #[.nilFunc] 94)).frozen? ⟨W3.heap.size, 0, none⟩ = false := by rw [World.frozen?, heap_alloc_new]; simp
  have rs := store_fn _ _ _ z4 zf
  have HD3 := Lib.hid hd3
  have HQ3 := Lib.hid hq3
  have HS3 := Lib.hid hs3
  have HB3 := Lib.hid hb3
  have HLT := Lib.hid hlt
  clear hd3 hq3 hs3 hb3 hlt
  go_upto_region 5 with fail
  have hh5 := heap_alloc_new W3 (.cells #[.func (.func 49) #[] #[.pointer (some ⟨b, 0, none⟩)]] 94)
  have hb5 := sbelow1 W3 (.cells #[.func (.func 49) #[] #[.pointer (some ⟨b, 0, none⟩)]] 94)
  have hs5 : (W3.alloc (.cells #[.func (.func 49) #[] #[.pointer (some ⟨b, 0, none⟩)]] 94)).heap.size = W3.heap.size + 1 := by simp
  generalize (W3.alloc (.cells #[.func (.func 49) #[] #[.pointer (some ⟨b, 0, none⟩)]] 94)) = W5 at hh5 hb5 hs5 ⊢
  clear z4 zf rs
  rw [HS3.out] at hh5 hb5 hs5 ⊢
  have has : AS w W5 b #[.int .i64 kd, .string (S a.name), .slice bA bn bc, .slice nA nn nc, .int .i64 a.mem, .int .i64 a.fuel] [] :=
    ⟨HB3.out.trans (hb5.mono (by have := HLT.out; omega)), HLT.out, (hb5.block _ (by have := HLT.out; omega)).trans HQ3.out, ⟨.pointer none, .slice none 0 0, ⟨(hb5.block _ (by omega)).trans HD3.out, World.ownsRow_nil _ _ _ _, by simp [Value.ownBlock], .inl rfl⟩, fun _ => rfl⟩, hh5.trans rfl⟩
  have HAS := Lib.hid has
  have HS5 := Lib.hid hs5
  clear hh5 hb5 hs5 has HB3 HQ3 HD3 HS3
  go_wp2_with (go_at_call 23; (with_reducible refine (sNames_any _).mono ?_); rintro e w6 ⟨rfl, hw6⟩; subst hw6)
  refine (wpIn_wide (n := 0)).1 ?_
  have HBZ : Hid (w6.heap.size = b + 2) := Lib.hid (by rw [HS5.out])
  clear HS5
  refine rangeFunc_told (gf := 53) (lb := #[]) rfl (enters_of Tryz.func53 (by kernel_rfl) rfl) (encs := encN) (fun _ => rfl) (X := fun pre x A => x = pre.length) (N := 7) (S := fun xs => xs.length = 7)
    ?seq (fun pre x A B hx _ => hx) (fun pre A => AS w A b #[.int .i64 kd, .string (S a.name), .slice bA bn bc, .slice nA nn nc, .int .i64 a.mem, .int .i64 a.fuel] [] ∧ (pre.length : Int) < kd) (fun c pre A => c = .exit 0 ∧ Below w.heap.size w A ∧ A.heap[w.heap.size]? = some (.cells #[.int .i64 kd, .string (S a.name), .slice bA bn bc, .slice nA nn nc, .int .i64 a.mem, .int .i64 a.fuel] 27 (0, 0)) ∧ A.heap[b + 1]? = some (.cells #[.func (.func 49) #[] #[.pointer (some ⟨b, 0, none⟩)]] 94 (0, 0)) ∧ ∃ p v, Bd A b p v wd ∧ v.ownBlock ≠ some (w6.heap.size + 1)) ?hi ?ix ?h0
    (fun pre x a₁ A => a₁ = { tmps := List.toArray ((.agg #[.int .i64 kd, .string (S a.name), .slice bA bn bc, .slice nA nn nc, .int .i64 a.mem, .int .i64 a.fuel]) :: (.pointer (some ⟨w.heap.size, 0, none⟩)) :: (.string ⟨#[]⟩) :: (.int .i64 0) :: (.pointer (some ⟨b, 0, none⟩)) :: (.pointer (some ⟨b + 1, 0, none⟩)) :: (.int .i64 (1 + (x : Int))) :: (.string (S (actWs.getD x []))) :: undef :: undef :: undef :: undef :: (.agg #[.int .i64 kd, .string (S a.name), .slice bA bn bc, .slice nA nn nc, .int .i64 a.mem, .int .i64 a.fuel]) :: (.bool true) :: (.bool false) :: (.func (.func 49) #[] #[.pointer (some ⟨b, 0, none⟩)]) :: (.func (.func 53) #[] #[]) :: (.int .i64 (1 + (x : Int))) :: (.string (S (actWs.getD x []))) :: undef :: undef :: undef :: undef :: undef :: undef :: undef :: undef :: undef :: undef :: undef :: undef :: undef :: undef :: undef :: undef :: undef :: undef :: undef :: undef :: undef :: undef :: undef :: undef :: undef :: undef :: undef :: undef :: undef :: undef :: undef :: undef :: undef :: undef :: undef :: undef :: undef :: undef :: undef :: undef :: undef :: undef :: undef :: undef :: undef :: undef :: undef :: undef :: undef :: undef :: undef :: undef :: undef :: undef :: undef :: undef :: undef :: undef :: undef :: undef :: undef :: undef :: undef :: undef :: undef :: undef :: []), defers := [] }) ?g ?assign ?body ?done ?stop
  case seq =>
    intro rec
    have hbb : Below w.heap.size w ((w6.alloc (.deferred (some []))).alloc (.loop rec)) := (HAS.out.hb.alloc HAS.out.hb.size _).alloc (by have := HAS.out.hb.size; simp; omega) _
    exact names1_seq (SpT.below HT2.out hbb)
  case hi =>
    rintro pre A B ⟨h1, h2⟩ hb
    exact ⟨h1.keep0 (hb.mono (by have := HBZ.out; omega)), h2⟩
  case ix =>
    rintro c pre A o hlt ⟨h1, h2, h3, h4, p, v, h5, h6⟩
    have hz := HBZ.out
    have hl := HLT.out
    refine ⟨h1, h2.trans (below_putObj _ (by omega) hlt), (World.putObj_heap_other (by omega)).trans h3, (World.putObj_heap_other (by omega)).trans h4, p, v, h5.next (World.putObj_heap_other (by omega)) (fun k e => World.putObj_heap_other (by rintro rfl; exact h6 e)), h6⟩
  case h0 =>
    refine ⟨HAS.out, ?_⟩
    have := HKI.out
    simp only [List.length_nil]
    omega
  case g => exact fun _ _ _ _ _ h _ => h
  case assign =>
    rintro l pre x A hA hI hX
    clear hA hI hX
    unfold encN
    generalize S (actWs.getD x []) = nm
    gi_wp2_with (rw [Oper.semAt_eq _ _ _ (fun c h => by cases h)]; go_simp; try go_bits)
    exact ⟨Below.refl _ _, trivial⟩
  case body =>
    rintro l pre x a1 A hA ⟨hI, hlt⟩ hpl hX rfl hD ⟨r, hL⟩
    have HI := Lib.hid hI
    have HL := Lib.hid hL
    have HX := Lib.hid hX
    have HPL := Lib.hid hpl
    have HLTK := Lib.hid hlt
    have HAZ := Lib.hid hA
    have c0 : A.cell? ⟨w.heap.size, 0, none⟩ = some (.int .i64 kd) := hI.cell rfl
    have c1 := hI.fcell
    have hw : (actWs.getD x []).length ≤ 10 ∧ actWs.getD x [] ≠ [] := acts_small x (by omega)
    obtain ⟨nm, hnm⟩ : ∃ nm, nm = actWs.getD x [] := ⟨_, rfl⟩
    rw [← hnm] at hw ⊢
    have HNM := Lib.hid hnm
    have HPUT := Lib.hid (as_put hI nm (by simp; omega) (fun _ => hw.2))
    by_cases hxk : 1 + (x : Int) = kd
    · have he : ((1 + (x : Int)) == kd) = true := by simp; omega
      have HXK := Lib.hid hxk
      clear hI hL hX hpl hlt hA hw hnm hD hxk
      gi_wp2_with (rw [Oper.semAt_eq _ _ _ (fun c h => by cases h)]; go_simp; try go_bits)
      refine ⟨trivial, rfl, callsIn_wide.2 (HPUT.out.mono ?_)⟩
      rintro e B ⟨rfl, hA2, hf2, hk2⟩
      have HA2 := Lib.hid hA2
      have HK2 := Lib.hid (hk2 trivial)
      have HFS := Lib.hid hf2.size
      clear hA2 hf2 hk2
      gi_wp2
      have hwe : wd = nm := by rw [HWD.out, HNM.out]; have := HXK.out; congr 1; omega
      obtain ⟨p, v, hd, -⟩ := HA2.out.bd
      have hsp : sep [] nm = nm := if_pos rfl
      rw [hsp] at hd
      have hlB := HA2.out.lt
      have hz := HBZ.out
      have hAz := HAZ.out
      refine ⟨⟨?_, fun z hz1 hz2 => HK2.out z hz2 (by omega)⟩, rfl, HA2.out.hb, HA2.out.box, HA2.out.fn, p, v, by rw [hwe]; exact hd, fun e => ?_⟩
      · exact HFS.out
      · obtain ⟨cs, fr, hr⟩ := hd.row _ e
        rw [HK2.out (w6.heap.size + 1) (by omega) (by omega), HL.out] at hr
        cases hr
    · have he : ((1 + (x : Int)) == kd) = false := by simp; omega
      have HXK := Lib.hid hxk
      clear hI hL hX hpl hlt hA hw hnm hD hxk
      gi_wp2_with (rw [Oper.semAt_eq _ _ _ (fun c h => by cases h)]; go_simp; try go_bits)
      refine ⟨Stay.refl _ _, HI.out, ?_⟩
      have := HLTK.out
      have := HX.out
      have := HXK.out
      simp
      omega
  case done =>
    rintro xs W hS ⟨-, h2⟩ -
    exfalso
    have := HKI.out
    rw [hS] at h2
    omega
  case stop =>
    rintro c pre W ⟨rfl, h2, h3, h4, p, v, h5, h6⟩ hD
    have HAS2 : Hid (AS w W b #[.int .i64 kd, .string (S a.name), .slice bA bn bc, .slice nA nn nc, .int .i64 a.mem, .int .i64 a.fuel] wd) := Lib.hid ⟨h2, HLT.out, h3, ⟨p, v, h5, fun e => by have := HKI.out; rw [HWD.out] at e; exact absurd e (acts_small _ (by omega)).2⟩, h4⟩
    have HDD := Lib.hid hD
    clear h2 h3 h4 h5 h6 hD HAS
    have HWZ : Hid (b + 1 < w6.heap.size) := Lib.hid (by have := HBZ.out; omega)
    clear HBZ
    generalize w6.heap.size = Wz at HDD HWZ ⊢
    refine wpIn_wide.2 ?_
    go_wp2
    have HSHP := Lib.hid fun (V : World) => shapes_any V
    have HLK := Lib.hid fun (V : World) (b n : Nat) (hm : V.ownsMap Tryz.prog 23 sheldE b n shD) => (look_sh hm kd HK.out).2
    have HC0 : Hid (W.cell? ⟨w.heap.size, 0, none⟩ = some (.int .i64 kd)) := Lib.hid (HAS2.out.cell rfl)
    have hqlt : w.heap.size < W.heap.size := (Array.getElem?_eq_some_iff.1 HAS2.out.box).1
    have HQL := Lib.hid hqlt
    clear hqlt
    obtain ⟨Post, hin, hout⟩ : ∃ Post : Act → World → Prop, Hid (∀ a' W', (∃ m it, a' = { tmps := List.toArray ((.agg #[.int .i64 kd, .string (S a.name), .slice bA bn bc, .slice nA nn nc, .int .i64 a.mem, .int .i64 a.fuel]) :: (.pointer (some ⟨w.heap.size, 0, none⟩)) :: (.string ⟨#[]⟩) :: (.int .i64 0) :: (.pointer (some ⟨b, 0, none⟩)) :: (.pointer (some ⟨b + 1, 0, none⟩)) :: undef :: undef :: undef :: undef :: undef :: undef :: (.agg #[.int .i64 kd, .string (S a.name), .slice bA bn bc, .slice nA nn nc, .int .i64 a.mem, .int .i64 a.fuel]) :: (.bool true) :: (.bool false) :: (.func (.func 49) #[] #[.pointer (some ⟨b, 0, none⟩)]) :: (.func (.func 53) #[] #[]) :: undef :: undef :: undef :: undef :: undef :: undef :: undef :: undef :: undef :: (.map (some m)) :: (.pointer (some ⟨w.heap.size, 0, none⟩)) :: (.int .i64 kd) :: (shV kd) :: (.string (S (shW kd))) :: (.pointer (some ⟨it, 0, none⟩)) :: undef :: undef :: undef :: undef :: undef :: undef :: undef :: undef :: undef :: undef :: undef :: undef :: undef :: undef :: undef :: undef :: undef :: undef :: undef :: undef :: undef :: undef :: undef :: undef :: undef :: undef :: undef :: undef :: undef :: undef :: undef :: undef :: undef :: undef :: undef :: undef :: undef :: undef :: undef :: undef :: undef :: undef :: undef :: undef :: undef :: undef :: undef :: undef :: undef :: undef :: undef :: undef :: undef :: []), defers := [{ target := .collected Wz, args := #[] }] } ∧ Below W.heap.size W W' ∧ W'.heap[it]? = some (.stringIter (S (shW kd)) 0) ∧ W.heap.size ≤ it) → Post a' W') ∧ Hid (∀ a' W', Post a' W' → (∃ m it, a' = { tmps := List.toArray ((.agg #[.int .i64 kd, .string (S a.name), .slice bA bn bc, .slice nA nn nc, .int .i64 a.mem, .int .i64 a.fuel]) :: (.pointer (some ⟨w.heap.size, 0, none⟩)) :: (.string ⟨#[]⟩) :: (.int .i64 0) :: (.pointer (some ⟨b, 0, none⟩)) :: (.pointer (some ⟨b + 1, 0, none⟩)) :: undef :: undef :: undef :: undef :: undef :: undef :: (.agg #[.int .i64 kd, .string (S a.name), .slice bA bn bc, .slice nA nn nc, .int .i64 a.mem, .int .i64 a.fuel]) :: (.bool true) :: (.bool false) :: (.func (.func 49) #[] #[.pointer (some ⟨b, 0, none⟩)]) :: (.func (.func 53) #[] #[]) :: undef :: undef :: undef :: undef :: undef :: undef :: undef :: undef :: undef :: (.map (some m)) :: (.pointer (some ⟨w.heap.size, 0, none⟩)) :: (.int .i64 kd) :: (shV kd) :: (.string (S (shW kd))) :: (.pointer (some ⟨it, 0, none⟩)) :: undef :: undef :: undef :: undef :: undef :: undef :: undef :: undef :: undef :: undef :: undef :: undef :: undef :: undef :: undef :: undef :: undef :: undef :: undef :: undef :: undef :: undef :: undef :: undef :: undef :: undef :: undef :: undef :: undef :: undef :: undef :: undef :: undef :: undef :: undef :: undef :: undef :: undef :: undef :: undef :: undef :: undef :: undef :: undef :: undef :: undef :: undef :: undef :: undef :: undef :: undef :: undef :: undef :: []), defers := [{ target := .collected Wz, args := #[] }] } ∧ Below W.heap.size W W' ∧ W'.heap[it]? = some (.stringIter (S (shW kd)) 0) ∧ W.heap.size ≤ it)) := ⟨_, Lib.hid fun _ _ h => h, Lib.hid fun _ _ h => h⟩
    refine Code.wp_mono (Q := Exit.then Post (fun _ _ _ => False)) ?_ ?_
    rotate_left
    · as_aux_lemma =>
      refine wp_region_inv' 6 rfl (fun L a' w' => ∃ y0 y1 y2 y3 y4 y5 : Value, a' = { tmps := List.toArray ((.agg #[.int .i64 kd, .string (S a.name), .slice bA bn bc, .slice nA nn nc, .int .i64 a.mem, .int .i64 a.fuel]) :: (.pointer (some ⟨w.heap.size, 0, none⟩)) :: (.string ⟨#[]⟩) :: (.int .i64 0) :: (.pointer (some ⟨b, 0, none⟩)) :: (.pointer (some ⟨b + 1, 0, none⟩)) :: undef :: undef :: undef :: undef :: undef :: undef :: (.agg #[.int .i64 kd, .string (S a.name), .slice bA bn bc, .slice nA nn nc, .int .i64 a.mem, .int .i64 a.fuel]) :: (.bool true) :: (.bool false) :: (.func (.func 49) #[] #[.pointer (some ⟨b, 0, none⟩)]) :: (.func (.func 53) #[] #[]) :: undef :: undef :: undef :: undef :: undef :: undef :: undef :: undef :: undef :: y0 :: y1 :: y2 :: y3 :: y4 :: y5 :: undef :: undef :: undef :: undef :: undef :: undef :: undef :: undef :: undef :: undef :: undef :: undef :: undef :: undef :: undef :: undef :: undef :: undef :: undef :: undef :: undef :: undef :: undef :: undef :: undef :: undef :: undef :: undef :: undef :: undef :: undef :: undef :: undef :: undef :: undef :: undef :: undef :: undef :: undef :: undef :: undef :: undef :: undef :: undef :: undef :: undef :: undef :: undef :: undef :: undef :: undef :: undef :: undef :: []), defers := [{ target := .collected Wz, args := #[] }] } ∧ (L 0 = true → ∃ m, y0 = .map (some m)) ∧ (L 1 = true → y1 = .pointer (some ⟨w.heap.size, 0, none⟩)) ∧ (L 2 = true → y2 = .int .i64 kd) ∧ (L 3 = true → y3 = shV kd) ∧ (L 4 = true → y4 = .string (S (shW kd))) ∧ (L 5 = true → ∃ i, y5 = .pointer (some ⟨i, 0, none⟩) ∧ W.heap.size ≤ i) ∧ Below W.heap.size W w' ∧ (L 0 = true → L 3 = false → ∀ m, y0 = .map (some m) → ∃ n, w'.ownsMap Tryz.prog 23 sheldE m n shD) ∧ (L 5 = true → ∀ i, y5 = .pointer (some ⟨i, 0, none⟩) → w'.heap[i]? = some (.stringIter (S (shW kd)) 0))) (by kernel_rfl) (by kernel_rfl) ?h0 ?step ?fin
      case h0 => exact ⟨undef, undef, undef, undef, undef, undef, rfl, (fun e => by simp at e), (fun e => by simp at e), (fun e => by simp at e), (fun e => by simp at e), (fun e => by simp at e), (fun e => by simp at e), (Below.refl _ _).drew, fun e => by simp at e, fun e => by simp at e⟩
      case step =>
        rintro i hi L a' w' hLi hcl hdp ⟨y0, y1, y2, y3, y4, y5, rfl, e0, e1, e2, e3, e4, e5, hW, hM, hB⟩
        have hi2 : i = 0 ∨ i = 1 ∨ i = 2 ∨ i = 3 ∨ i = 4 ∨ i = 5 := by omega
        rcases hi2 with rfl | rfl | rfl | rfl | rfl | rfl
        · have HW := Lib.hid hW; have HM := Lib.hid hM; have HBB := Lib.hid hB; have HCL := Lib.hid hcl
          clear hcl hW hM hB
          have E1 := Lib.hid e1; have E2 := Lib.hid e2; have E3 := Lib.hid e3; have E4 := Lib.hid e4; have E5 := Lib.hid e5
          clear hdp e0 e1 e2 e3 e4 e5
          refine wpOp_step rfl (fun K hK => ?_)
          go_simp
          refine (HSHP.out _).mono ?_
          rintro e v1 ⟨rfl, hm, hb1⟩
          have HBV := Lib.hid (HW.out.trans (hb1.mono HW.out.size))
          exact hK _ _ ⟨_, _, _, _, _, _, rfl, (fun _ => ⟨_, rfl⟩), (fun h => E1.out (by simpa [upOn] using h)), (fun h => E2.out (by simpa [upOn] using h)), (fun h => E3.out (by simpa [upOn] using h)), (fun h => E4.out (by simpa [upOn] using h)), (fun h => E5.out (by simpa [upOn] using h)), HBV.out, (fun _ _ m hm' => by cases hm'; exact ⟨7, hm⟩), (fun h b hb => by have h1 := HBB.out (by simpa [upOn] using h) b hb; have h2 := (hb1.block b (Array.getElem?_eq_some_iff.1 h1).1).trans h1; simpa [upOn] using h2)⟩
        · have HW := Lib.hid hW; have HM := Lib.hid hM; have HBB := Lib.hid hB; have HCL := Lib.hid hcl
          clear hcl hW hM hB
          have E0 := Lib.hid e0; have E2 := Lib.hid e2; have E3 := Lib.hid e3; have E4 := Lib.hid e4; have E5 := Lib.hid e5
          clear hdp e0 e1 e2 e3 e4 e5
          refine wpOp_step rfl (fun K hK => ?_)
          go_simp
          exact hK _ _ ⟨_, _, _, _, _, _, rfl, (fun h => E0.out (by simpa [upOn] using h)), (fun _ => rfl), (fun h => E2.out (by simpa [upOn] using h)), (fun h => E3.out (by simpa [upOn] using h)), (fun h => E4.out (by simpa [upOn] using h)), (fun h => E5.out (by simpa [upOn] using h)), HW.out, (fun h k => HM.out (by simpa [upOn] using h) (by simpa [upOn] using k)), (fun h b hb => by have := HBB.out (by simpa [upOn] using h) b hb; simpa [upOn] using this)⟩
        · have HW := Lib.hid hW; have HM := Lib.hid hM; have HBB := Lib.hid hB; have HCL := Lib.hid hcl
          clear hcl hW hM hB
          obtain rfl := e1 (hdp 1 (by kernel_rfl))
          have E0 := Lib.hid e0; have E3 := Lib.hid e3; have E4 := Lib.hid e4; have E5 := Lib.hid e5
          clear hdp e0 e1 e2 e3 e4 e5
          refine wpOp_step rfl (fun K hK => ?_)
          have k0 : w'.cell? ⟨w.heap.size, 0, none⟩ = some (.int .i64 kd) := (HW.out.cell HQL.out).trans HC0.out
          go_simp
          exact hK _ _ ⟨_, _, _, _, _, _, rfl, (fun h => E0.out (by simpa [upOn] using h)), (fun _ => rfl), (fun _ => rfl), (fun h => E3.out (by simpa [upOn] using h)), (fun h => E4.out (by simpa [upOn] using h)), (fun h => E5.out (by simpa [upOn] using h)), HW.out, (fun h k => HM.out (by simpa [upOn] using h) (by simpa [upOn] using k)), (fun h b hb => by have := HBB.out (by simpa [upOn] using h) b hb; simpa [upOn] using this)⟩
        · have HW := Lib.hid hW; have HM := Lib.hid hM; have HBB := Lib.hid hB; have HCL := Lib.hid hcl
          have l0 := hdp 0 (by kernel_rfl)
          clear hcl hW hM hB
          obtain ⟨m, rfl⟩ := e0 (hdp 0 (by kernel_rfl))
          obtain rfl := e2 (hdp 2 (by kernel_rfl))
          have E1 := Lib.hid e1; have E4 := Lib.hid e4; have E5 := Lib.hid e5
          clear hdp e0 e1 e2 e3 e4 e5
          refine wpOp_step rfl (fun K hK => ?_)
          obtain ⟨n, hm⟩ := HM.out l0 hLi m rfl
          have hl := HLK.out _ _ _ hm
          go_simp
          exact hK _ _ ⟨_, _, _, _, _, _, rfl, (fun _ => ⟨_, rfl⟩), (fun h => E1.out (by simpa [upOn] using h)), (fun _ => rfl), (fun _ => rfl), (fun h => E4.out (by simpa [upOn] using h)), (fun h => E5.out (by simpa [upOn] using h)), HW.out, (fun h k => by simp [upOn] at k), (fun h b hb => by have := HBB.out (by simpa [upOn] using h) b hb; simpa [upOn] using this)⟩
        · have HW := Lib.hid hW; have HM := Lib.hid hM; have HBB := Lib.hid hB; have HCL := Lib.hid hcl
          clear hcl hW hM hB
          obtain rfl := e3 (hdp 3 (by kernel_rfl))
          have E0 := Lib.hid e0; have E1 := Lib.hid e1; have E2 := Lib.hid e2; have E5 := Lib.hid e5
          clear hdp e0 e1 e2 e3 e4 e5
          refine wpOp_step rfl (fun K hK => ?_)
          unfold shV
          go_simp
          exact hK _ _ ⟨_, _, _, _, _, _, rfl, (fun h => E0.out (by simpa [upOn] using h)), (fun h => E1.out (by simpa [upOn] using h)), (fun h => E2.out (by simpa [upOn] using h)), (fun _ => rfl), (fun _ => rfl), (fun h => E5.out (by simpa [upOn] using h)), HW.out, (fun h k => HM.out (by simpa [upOn] using h) (by simpa [upOn] using k)), (fun h b hb => by have := HBB.out (by simpa [upOn] using h) b hb; simpa [upOn] using this)⟩
        · have HW := Lib.hid hW; have HM := Lib.hid hM; have HBB := Lib.hid hB; have HCL := Lib.hid hcl
          clear hcl hW hM hB
          obtain rfl := e4 (hdp 4 (by kernel_rfl))
          have E0 := Lib.hid e0; have E1 := Lib.hid e1; have E2 := Lib.hid e2; have E3 := Lib.hid e3
          clear hdp e0 e1 e2 e3 e4 e5
          refine wpOp_step rfl (fun K hK => ?_)
          go_simp
          have HBV := Lib.hid (HW.out.alloc HW.out.size (.stringIter (S (shW kd)) 0))
          exact hK _ _ ⟨_, _, _, _, _, _, rfl, (fun h => E0.out (by simpa [upOn] using h)), (fun h => E1.out (by simpa [upOn] using h)), (fun h => E2.out (by simpa [upOn] using h)), (fun h => E3.out (by simpa [upOn] using h)), (fun _ => rfl), (fun _ => ⟨_, rfl, HW.out.size⟩), HBV.out, (fun h k m hm => by obtain ⟨n, hx⟩ := HM.out (by simpa [upOn] using h) (by simpa [upOn] using k) m hm; exact ⟨n, hx.alloc _⟩), (fun h b hb => by cases hb; exact heap_alloc_new w' (.stringIter (S (shW kd)) 0))⟩
      case fin =>
        rintro L a' w' hall ⟨y0, y1, y2, y3, y4, y5, rfl, e0, e1, e2, e3, e4, e5, hW, -, hB⟩
        obtain ⟨m, rfl⟩ := e0 (hall 0 (by omega))
        obtain rfl := e1 (hall 1 (by omega))
        obtain rfl := e2 (hall 2 (by omega))
        obtain rfl := e3 (hall 3 (by omega))
        obtain rfl := e4 (hall 4 (by omega))
        obtain ⟨i, rfl, hi1⟩ := e5 (hall 5 (by omega))
        exact hin.out _ _ ⟨m, i, rfl, hW, hB (hall 5 (by omega)) i rfl, hi1⟩
    · intro e a' W' hE0
      have hen : e = Exit.normal := by cases e <;> first | rfl | exact hE0.elim
      subst hen
      obtain ⟨m, it, rfl, hb, hit, hlt⟩ := hout.out _ _ hE0
      clear hin hout hE0 HLK HSHP HC0
      have hls : LS w W' b #[.int .i64 kd, .string (S a.name), .slice bA bn bc, .slice nA nn nc, .int .i64 a.mem, .int .i64 a.fuel] wd it (S (shW kd)) 0 Wz := ⟨HAS2.out.next hb, hit, (hb.block _ (Array.getElem?_eq_some_iff.1 HDD.out).1).trans HDD.out, by have := HAS2.out.lt; omega, HWZ.out⟩
      have HSH := Lib.hid (shW_let kd)
      have HSL := Lib.hid (shW_len kd)
      obtain ⟨ps, hps⟩ : ∃ ps, ps = S (shW kd) := ⟨_, rfl⟩
      obtain ⟨ls, hlse⟩ : ∃ ls, ls = shW kd := ⟨_, rfl⟩
      rw [← hps] at hls
      have HPS : Hid (ps = S ls) := Lib.hid (by rw [hps, hlse])
      have HTX2 : Hid (ls.foldl (stT a) wd = a.txt) := Lib.hid (by rw [hlse]; have := HTX.out; exact this)
      rw [← hlse] at HSH HSL
      have hwn : wd.length ≤ 10 ∧ wd ≠ [] := by rw [HWD.out]; have := HKI.out; exact acts_small _ (by omega)
      have HWN := Lib.hid hwn
      have HLS := Lib.hid hls
      have HAC := Lib.hid (fun (V : World) (hV : Below w.heap.size w V) => HA.out.below hV)
      clear hps hlse hls hb hit hlt hwn HAS2 HDD HTX HWD
      go_wp2_with fail
      go_loopw [9] (fun rv wr => ∃ (pos : Nat), pos ≤ ls.length ∧ Hid (LS w wr b #[.int .i64 kd, .string (S a.name), .slice bA bn bc, .slice nA nn nc, .int .i64 a.mem, .int .i64 a.fuel] ((ls.take pos).foldl (stT a) wd) it ps pos Wz) ∧ Hid (((ls.take pos).foldl (stT a) wd).length ≤ 10 + pos * 140000 ∧ (ls.take pos).foldl (stT a) wd ≠ [])) (fun _ wr => ls.length - wr.iterPos it)
      case atStart => exact ⟨0, Nat.zero_le _, HLS, HWN⟩
      case round =>
        clear HLS
        obtain ⟨pos, hpos, HL, HN⟩ := hrel
        have hpsz : ps.size = ls.length := by rw [HPS.out, S_size]
        by_cases hp : pos < ls.length
        · have hp' : pos < ps.size := by rw [hpsz]; exact hp
          have hg : ps[pos] = ls[pos] := by
            have h := HPS.out
            subst h
            rfl
          have hlet := HSH.out _ (List.getElem_mem hp)
          have hstep : (ls.take (pos + 1)).foldl (stT a) wd = stT a ((ls.take pos).foldl (stT a) wd) ls[pos] := by
            rw [List.take_succ_eq_append_getElem hp, List.foldl_append]; rfl
          have hlt128 : (ps[pos]'hp').toNat < 128 := by
            rw [hg]
            unfold okLet at hlet
            rcases hlet with h | h | h | h | h | h | h <;> rw [h] <;> decide
          obtain ⟨w1, hnx, hm1⟩ := HL.out.next hp' hlt128
          rw [hg] at hnx
          have HL1 := Lib.hid hm1
          have HPM := Lib.hid HL.out.ipos
          have HN2 : Hid (((ls.take (pos + 1)).foldl (stT a) wd).length ≤ 10 + (pos + 1) * 140000 ∧ (ls.take (pos + 1)).foldl (stT a) wd ≠ []) := Lib.hid (by
            rw [hstep]
            have h1 := stT_len HMM.out HA.out.hm HA.out.hf HN.out.2 ls[pos]
            exact ⟨by have := HN.out.1; omega, stT_ne HN.out.2 _⟩)
          have HBD : Hid (((ls.take pos).foldl (stT a) wd).length ≤ 1000000 ∧ (ls.take pos).foldl (stT a) wd ≠ []) := Lib.hid ⟨by have := HN.out.1; have := HSL.out; omega, HN.out.2⟩
          clear hm1 hlt128 hg hp' hpsz HL HN
          generalize (ls.take pos).foldl (stT a) wd = T at HBD HL1 hstep
          obtain ⟨c, hc⟩ : ∃ c, c = ls[pos] := ⟨_, rfl⟩
          rw [← hc] at hlet hstep hnx
          clear hc
          have k1 : w1.cell? ⟨w.heap.size, 1, none⟩ = some (.string (S a.name)) := HL1.out.ast.cell rfl
          have k2 : w1.cell? ⟨w.heap.size, 2, none⟩ = some (.slice bA bn bc) := HL1.out.ast.cell rfl
          have k3 : w1.cell? ⟨w.heap.size, 3, none⟩ = some (.slice nA nn nc) := HL1.out.ast.cell rfl
          have k4 : w1.cell? ⟨w.heap.size, 4, none⟩ = some (.int .i64 a.mem) := HL1.out.ast.cell rfl
          have k5 : w1.cell? ⟨w.heap.size, 5, none⟩ = some (.int .i64 a.fuel) := HL1.out.ast.cell rfl
          have k6 := HL1.out.ast.fcell
          obtain ⟨g1, g2, g3, g4⟩ := may_len HMM.out
          have GB := HBD.out.1
          have GN := HBD.out.2
          have hfin : ∀ (wz : World) (X : List UInt8), X = (ls.take (pos + 1)).foldl (stT a) wd → LS w wz b #[.int .i64 kd, .string (S a.name), .slice bA bn bc, .slice nA nn nc, .int .i64 a.mem, .int .i64 a.fuel] X it ps (pos + 1) Wz → (∃ (pos : Nat), pos ≤ ls.length ∧ Hid (LS w wz b #[.int .i64 kd, .string (S a.name), .slice bA bn bc, .slice nA nn nc, .int .i64 a.mem, .int .i64 a.fuel] ((ls.take pos).foldl (stT a) wd) it ps pos Wz) ∧ Hid (((ls.take pos).foldl (stT a) wd).length ≤ 10 + pos * 140000 ∧ (ls.take pos).foldl (stT a) wd ≠ [])) ∧ ls.length - wz.iterPos it < ls.length - wr.iterPos it := by
            rintro wz X rfl hz
            exact ⟨⟨pos + 1, hp, Lib.hid hz, HN2⟩, by rw [hz.ipos, HPM.out]; omega⟩
          have HFIN := Lib.hid hfin
          have HG := Lib.hid (⟨g1, g2, g3, g4, GB, GN⟩ : _ ∧ _ ∧ _ ∧ _ ∧ _ ∧ _)
          clear hfin g1 g2 g3 g4 GB GN
          unfold okLet at hlet
          rcases hlet with rfl | rfl | rfl | rfl | rfl | rfl | rfl
          · have HST : Hid (sep T a.name = (ls.take (pos + 1)).foldl (stT a) wd) := Lib.hid hstep.symm
            clear hstep
            replace hnx : ∀ ty, (Instr.next (.pointer (some ⟨it, 0, none⟩)) true ty).run Tryz.prog wr = .ok (.tuple #[.bool true, .int .i64 pos, .int .i32 110]) w1 := hnx
            have HPT := Lib.hid (HL1.out.put a.name (by obtain ⟨g1, g2, g3, g4, GB, GN⟩ := HG.out; omega) HG.out.2.2.2.2.2)
            go_wp2_with (go_at_call 49; (with_reducible refine HPT.out.mono ?_); rintro e w' ⟨rfl, hl2⟩; have HL2 := Lib.hid hl2; clear hl2)
            exact HFIN.out _ _ HST.out HL2.out
          · have HST : Hid (sep T a.name = (ls.take (pos + 1)).foldl (stT a) wd) := Lib.hid hstep.symm
            clear hstep
            replace hnx : ∀ ty, (Instr.next (.pointer (some ⟨it, 0, none⟩)) true ty).run Tryz.prog wr = .ok (.tuple #[.bool true, .int .i64 pos, .int .i32 109]) w1 := hnx
            have HPT := Lib.hid (HL1.out.put a.name (by obtain ⟨g1, g2, g3, g4, GB, GN⟩ := HG.out; omega) HG.out.2.2.2.2.2)
            go_wp2_with (go_at_call 49; (with_reducible refine HPT.out.mono ?_); rintro e w' ⟨rfl, hl2⟩; have HL2 := Lib.hid hl2; clear hl2)
            exact HFIN.out _ _ HST.out HL2.out
          · have HST : Hid (sep T (hxT a.bytes) = (ls.take (pos + 1)).foldl (stT a) wd) := Lib.hid hstep.symm
            clear hstep
            replace hnx : ∀ ty, (Instr.next (.pointer (some ⟨it, 0, none⟩)) true ty).run Tryz.prog wr = .ok (.tuple #[.bool true, .int .i64 pos, .int .i32 98]) w1 := hnx
            have HHX : Hid (∀ V : World, LS w V b #[.int .i64 kd, .string (S a.name), .slice bA bn bc, .slice nA nn nc, .int .i64 a.mem, .int .i64 a.fuel] T it ps (pos + 1) Wz → Calls Tryz.prog 50 #[.slice bA bn bc] V fun e w' => e = .returned (.string (S (hxT a.bytes))) ∧ Below V.heap.size V w') := Lib.hid fun V hV => shex_any bA bn bc a.bytes V (HAC.out V hV.ast.hb).hbr HA.out.hbb (by have := HG.out.2.1; have := HA.out.hbr.1; omega)
            have HPT : Hid (∀ V : World, LS w V b #[.int .i64 kd, .string (S a.name), .slice bA bn bc, .slice nA nn nc, .int .i64 a.mem, .int .i64 a.fuel] T it ps (pos + 1) Wz → Calls Tryz.prog 49 #[.string (S (hxT a.bytes)), .pointer (some ⟨b, 0, none⟩)] V fun e w' => e = .returned (.tuple #[]) ∧ LS w w' b #[.int .i64 kd, .string (S a.name), .slice bA bn bc, .slice nA nn nc, .int .i64 a.mem, .int .i64 a.fuel] (sep T (hxT a.bytes)) it ps (pos + 1) Wz) := Lib.hid fun V hV => hV.put (hxT a.bytes) (by obtain ⟨g1, g2, g3, g4, GB, GN⟩ := HG.out; have := hxT_len a.bytes; omega) HG.out.2.2.2.2.2
            go_wp2_with fail
            obtain ⟨Pos2, hin, hout⟩ : ∃ Pos2 : Act → World → Prop, Hid (∀ a' W', (∃ y0 y1 y2 y3 y4 : Value, a' = { tmps := List.toArray ((.agg #[.int .i64 kd, .string (S a.name), .slice bA bn bc, .slice nA nn nc, .int .i64 a.mem, .int .i64 a.fuel]) :: (.pointer (some ⟨w.heap.size, 0, none⟩)) :: (.string ⟨#[]⟩) :: (.int .i64 0) :: (.pointer (some ⟨b, 0, none⟩)) :: (.pointer (some ⟨b + 1, 0, none⟩)) :: undef :: undef :: undef :: (.int .i32 98) :: undef :: u11 :: (.agg #[.int .i64 kd, .string (S a.name), .slice bA bn bc, .slice nA nn nc, .int .i64 a.mem, .int .i64 a.fuel]) :: (.bool true) :: (.bool false) :: (.func (.func 49) #[] #[.pointer (some ⟨b, 0, none⟩)]) :: (.func (.func 53) #[] #[]) :: undef :: undef :: undef :: undef :: undef :: undef :: undef :: undef :: undef :: (.map (some m)) :: (.pointer (some ⟨w.heap.size, 0, none⟩)) :: (.int .i64 kd) :: (shV kd) :: (.string (S (shW kd))) :: (.pointer (some ⟨it, 0, none⟩)) :: (.tuple #[.bool true, .int .i64 (pos : Int), .int .i32 98]) :: (.bool true) :: (.int .i32 98) :: (.int .i32 98) :: (.bool false) :: (.bool false) :: (.bool false) :: u39 :: u40 :: u41 :: u42 :: (.bool true) :: (.bool true) :: y0 :: y1 :: y2 :: y3 :: y4 :: u50 :: u51 :: u52 :: u53 :: u54 :: u55 :: u56 :: u57 :: u58 :: u59 :: u60 :: u61 :: u62 :: u63 :: u64 :: u65 :: u66 :: u67 :: u68 :: u69 :: u70 :: u71 :: u72 :: u73 :: u74 :: u75 :: u76 :: u77 :: u78 :: u79 :: u80 :: u81 :: u82 :: u83 :: undef :: []), defers := [{ target := .collected Wz, args := #[] }] } ∧ LS w W' b #[.int .i64 kd, .string (S a.name), .slice bA bn bc, .slice nA nn nc, .int .i64 a.mem, .int .i64 a.fuel] (sep T (hxT a.bytes)) it ps (pos + 1) Wz) → Pos2 a' W') ∧ Hid (∀ a' W', Pos2 a' W' → (∃ y0 y1 y2 y3 y4 : Value, a' = { tmps := List.toArray ((.agg #[.int .i64 kd, .string (S a.name), .slice bA bn bc, .slice nA nn nc, .int .i64 a.mem, .int .i64 a.fuel]) :: (.pointer (some ⟨w.heap.size, 0, none⟩)) :: (.string ⟨#[]⟩) :: (.int .i64 0) :: (.pointer (some ⟨b, 0, none⟩)) :: (.pointer (some ⟨b + 1, 0, none⟩)) :: undef :: undef :: undef :: (.int .i32 98) :: undef :: u11 :: (.agg #[.int .i64 kd, .string (S a.name), .slice bA bn bc, .slice nA nn nc, .int .i64 a.mem, .int .i64 a.fuel]) :: (.bool true) :: (.bool false) :: (.func (.func 49) #[] #[.pointer (some ⟨b, 0, none⟩)]) :: (.func (.func 53) #[] #[]) :: undef :: undef :: undef :: undef :: undef :: undef :: undef :: undef :: undef :: (.map (some m)) :: (.pointer (some ⟨w.heap.size, 0, none⟩)) :: (.int .i64 kd) :: (shV kd) :: (.string (S (shW kd))) :: (.pointer (some ⟨it, 0, none⟩)) :: (.tuple #[.bool true, .int .i64 (pos : Int), .int .i32 98]) :: (.bool true) :: (.int .i32 98) :: (.int .i32 98) :: (.bool false) :: (.bool false) :: (.bool false) :: u39 :: u40 :: u41 :: u42 :: (.bool true) :: (.bool true) :: y0 :: y1 :: y2 :: y3 :: y4 :: u50 :: u51 :: u52 :: u53 :: u54 :: u55 :: u56 :: u57 :: u58 :: u59 :: u60 :: u61 :: u62 :: u63 :: u64 :: u65 :: u66 :: u67 :: u68 :: u69 :: u70 :: u71 :: u72 :: u73 :: u74 :: u75 :: u76 :: u77 :: u78 :: u79 :: u80 :: u81 :: u82 :: u83 :: undef :: []), defers := [{ target := .collected Wz, args := #[] }] } ∧ LS w W' b #[.int .i64 kd, .string (S a.name), .slice bA bn bc, .slice nA nn nc, .int .i64 a.mem, .int .i64 a.fuel] (sep T (hxT a.bytes)) it ps (pos + 1) Wz)) := ⟨_, Lib.hid fun _ _ h => h, Lib.hid fun _ _ h => h⟩
            refine Code.wp_mono (Q := Exit.then Pos2 (fun _ _ _ => False)) ?_ ?_
            rotate_left
            · as_aux_lemma =>
                refine wp_region_inv' 5 rfl (fun L a' w' => ∃ y0 y1 y2 y3 y4 : Value, a' = { tmps := List.toArray ((.agg #[.int .i64 kd, .string (S a.name), .slice bA bn bc, .slice nA nn nc, .int .i64 a.mem, .int .i64 a.fuel]) :: (.pointer (some ⟨w.heap.size, 0, none⟩)) :: (.string ⟨#[]⟩) :: (.int .i64 0) :: (.pointer (some ⟨b, 0, none⟩)) :: (.pointer (some ⟨b + 1, 0, none⟩)) :: undef :: undef :: undef :: (.int .i32 98) :: undef :: u11 :: (.agg #[.int .i64 kd, .string (S a.name), .slice bA bn bc, .slice nA nn nc, .int .i64 a.mem, .int .i64 a.fuel]) :: (.bool true) :: (.bool false) :: (.func (.func 49) #[] #[.pointer (some ⟨b, 0, none⟩)]) :: (.func (.func 53) #[] #[]) :: undef :: undef :: undef :: undef :: undef :: undef :: undef :: undef :: undef :: (.map (some m)) :: (.pointer (some ⟨w.heap.size, 0, none⟩)) :: (.int .i64 kd) :: (shV kd) :: (.string (S (shW kd))) :: (.pointer (some ⟨it, 0, none⟩)) :: (.tuple #[.bool true, .int .i64 (pos : Int), .int .i32 98]) :: (.bool true) :: (.int .i32 98) :: (.int .i32 98) :: (.bool false) :: (.bool false) :: (.bool false) :: u39 :: u40 :: u41 :: u42 :: (.bool true) :: (.bool true) :: y0 :: y1 :: y2 :: y3 :: y4 :: u50 :: u51 :: u52 :: u53 :: u54 :: u55 :: u56 :: u57 :: u58 :: u59 :: u60 :: u61 :: u62 :: u63 :: u64 :: u65 :: u66 :: u67 :: u68 :: u69 :: u70 :: u71 :: u72 :: u73 :: u74 :: u75 :: u76 :: u77 :: u78 :: u79 :: u80 :: u81 :: u82 :: u83 :: undef :: []), defers := [{ target := .collected Wz, args := #[] }] } ∧ (L 0 = true → y0 = .func (.func 49) #[] #[.pointer (some ⟨b, 0, none⟩)]) ∧ (L 1 = true → y1 = .pointer (some ⟨w.heap.size, 2, none⟩)) ∧ (L 2 = true → y2 = .slice bA bn bc) ∧ (L 3 = true → y3 = .string (S (hxT a.bytes))) ∧ (L 4 = true → y4 = .tuple #[]) ∧ (L 4 = false → LS w w' b #[.int .i64 kd, .string (S a.name), .slice bA bn bc, .slice nA nn nc, .int .i64 a.mem, .int .i64 a.fuel] T it ps (pos + 1) Wz) ∧ (L 4 = true → LS w w' b #[.int .i64 kd, .string (S a.name), .slice bA bn bc, .slice nA nn nc, .int .i64 a.mem, .int .i64 a.fuel] (sep T (hxT a.bytes)) it ps (pos + 1) Wz)) (by kernel_rfl) (by kernel_rfl) ?h0 ?step ?fin
                case h0 => exact ⟨u45, u46, u47, u48, u49, rfl, (fun e => by simp at e), (fun e => by simp at e), (fun e => by simp at e), (fun e => by simp at e), (fun e => by simp at e), fun _ => HL1.out.below (Below.refl _ _).drew, fun e => by simp at e⟩
                case step =>
                  rintro i hi L a' w' hLi hcl hdp ⟨y0, y1, y2, y3, y4, rfl, e0, e1, e2, e3, e4, hW, hM⟩
                  have hi2 : i = 0 ∨ i = 1 ∨ i = 2 ∨ i = 3 ∨ i = 4 := by omega
                  rcases hi2 with rfl | rfl | rfl | rfl | rfl
                  · have l4 : L 4 = false := by
                      cases h : L 4
                      · rfl
                      · exact absurd (hcl 4 0 h (by kernel_rfl)) (by rw [hLi]; decide)
                    have HW := Lib.hid (hW l4)
                    have E1 := Lib.hid e1; have E2 := Lib.hid e2; have E3 := Lib.hid e3; have E4 := Lib.hid e4
                    clear hcl hdp hW hM e0 e1 e2 e3 e4
                    refine wpOp_step rfl (fun K hK => ?_)
                    have kf := HW.out.ast.fcell
                    go_simp
                    exact hK _ _ ⟨_, _, _, _, _, rfl, (fun _ => rfl), (fun h => E1.out (by simpa [upOn] using h)), (fun h => E2.out (by simpa [upOn] using h)), (fun h => E3.out (by simpa [upOn] using h)), (fun h => E4.out (by simpa [upOn] using h)), (fun _ => HW.out), (fun h => by simp [upOn, l4] at h)⟩
                  · have l4 : L 4 = false := by
                      cases h : L 4
                      · rfl
                      · exact absurd (hcl 2 1 (hcl 3 2 (hcl 4 3 h (by kernel_rfl)) (by kernel_rfl)) (by kernel_rfl)) (by rw [hLi]; decide)
                    have HW := Lib.hid (hW l4)
                    have E0 := Lib.hid e0; have E2 := Lib.hid e2; have E3 := Lib.hid e3; have E4 := Lib.hid e4
                    clear hcl hdp hW hM e0 e1 e2 e3 e4
                    refine wpOp_step rfl (fun K hK => ?_)
                    go_simp
                    exact hK _ _ ⟨_, _, _, _, _, rfl, (fun h => E0.out (by simpa [upOn] using h)), (fun _ => rfl), (fun h => E2.out (by simpa [upOn] using h)), (fun h => E3.out (by simpa [upOn] using h)), (fun h => E4.out (by simpa [upOn] using h)), (fun _ => HW.out), (fun h => by simp [upOn, l4] at h)⟩
                  · have l4 : L 4 = false := by
                      cases h : L 4
                      · rfl
                      · exact absurd (hcl 3 2 (hcl 4 3 h (by kernel_rfl)) (by kernel_rfl)) (by rw [hLi]; decide)
                    have HW := Lib.hid (hW l4)
                    obtain rfl := e1 (hdp 1 (by kernel_rfl))
                    have E0 := Lib.hid e0; have E3 := Lib.hid e3; have E4 := Lib.hid e4
                    clear hcl hdp hW hM e0 e1 e2 e3 e4
                    refine wpOp_step rfl (fun K hK => ?_)
                    have kc : w'.cell? ⟨w.heap.size, 2, none⟩ = some (.slice bA bn bc) := HW.out.ast.cell rfl
                    go_simp
                    exact hK _ _ ⟨_, _, _, _, _, rfl, (fun h => E0.out (by simpa [upOn] using h)), (fun _ => rfl), (fun _ => rfl), (fun h => E3.out (by simpa [upOn] using h)), (fun h => E4.out (by simpa [upOn] using h)), (fun _ => HW.out), (fun h => by simp [upOn, l4] at h)⟩
                  · have l4 : L 4 = false := by
                      cases h : L 4
                      · rfl
                      · exact absurd (hcl 4 3 h (by kernel_rfl)) (by rw [hLi]; decide)
                    have HW := Lib.hid (hW l4)
                    obtain rfl := e2 (hdp 2 (by kernel_rfl))
                    have E0 := Lib.hid e0; have E1 := Lib.hid e1; have E4 := Lib.hid e4
                    clear hcl hdp hW hM e0 e1 e2 e3 e4
                    refine wpOp_step rfl (fun K hK => ?_)
                    go_simp
                    refine (HHX.out _ HW.out).mono ?_
                    rintro e v1 ⟨rfl, hb1⟩
                    exact hK _ _ ⟨_, _, _, _, _, rfl, (fun h => E0.out (by simpa [upOn] using h)), (fun h => E1.out (by simpa [upOn] using h)), (fun _ => rfl), (fun _ => rfl), (fun h => E4.out (by simpa [upOn] using h)), (fun _ => HW.out.below hb1), (fun h => by simp [upOn, l4] at h)⟩
                  · have l4 : L 4 = false := by
                      exact hLi
                    have HW := Lib.hid (hW l4)
                    obtain rfl := e0 (hdp 0 (by kernel_rfl))
                    obtain rfl := e3 (hdp 3 (by kernel_rfl))
                    have E1 := Lib.hid e1; have E2 := Lib.hid e2
                    clear hcl hdp hW hM e0 e1 e2 e3 e4
                    refine wpOp_step rfl (fun K hK => ?_)
                    go_simp
                    refine (HPT.out _ HW.out).mono ?_
                    rintro e v1 ⟨rfl, hl1⟩
                    exact hK _ _ ⟨_, _, _, _, _, rfl, (fun _ => rfl), (fun h => E1.out (by simpa [upOn] using h)), (fun h => E2.out (by simpa [upOn] using h)), (fun _ => rfl), (fun _ => rfl), (fun h => by simp [upOn] at h), (fun _ => hl1)⟩
                case fin =>
                  rintro L a' w' hall ⟨y0, y1, y2, y3, y4, rfl, e0, e1, e2, e3, e4, -, hM⟩
                  exact hin.out _ _ ⟨_, _, _, _, _, rfl, hM (hall 4 (by omega))⟩
            · intro e a' W' hE0
              have hen : e = Exit.normal := by cases e <;> first | rfl | exact hE0.elim
              subst hen
              obtain ⟨y0, y1, y2, y3, y4, rfl, hl2⟩ := hout.out _ _ hE0
              have HL2 := Lib.hid hl2
              clear hl2 hin hout hE0 HHX HPT
              go_wp2_with fail
              exact HFIN.out _ _ HST.out HL2.out
          · have HST : Hid (sep T (chs a.bytes) = (ls.take (pos + 1)).foldl (stT a) wd) := Lib.hid hstep.symm
            clear hstep
            replace hnx : ∀ ty, (Instr.next (.pointer (some ⟨it, 0, none⟩)) true ty).run Tryz.prog wr = .ok (.tuple #[.bool true, .int .i64 pos, .int .i32 116]) w1 := hnx
            have hcv := conv_rd (HAC.out w1 HL1.out.ast.hb).hbr bc
            have hce : strOf a.bytes = S (chs a.bytes) := strOf_list a.bytes
            rw [hce] at hcv
            have HPT := Lib.hid (HL1.out.put (chs a.bytes) (by obtain ⟨g1, g2, g3, g4, GB, GN⟩ := HG.out; have hcl : (chs a.bytes).length = a.bytes.length := (by simp [chs]); omega) HG.out.2.2.2.2.2)
            go_wp2_with (go_at_call 49; (with_reducible refine HPT.out.mono ?_); rintro e w' ⟨rfl, hl2⟩; have HL2 := Lib.hid hl2; clear hl2)
            exact HFIN.out _ _ HST.out HL2.out
          · have HST : Hid (sep T (Lib.itoa a.mem) = (ls.take (pos + 1)).foldl (stT a) wd) := Lib.hid hstep.symm
            clear hstep
            replace hnx : ∀ ty, (Instr.next (.pointer (some ⟨it, 0, none⟩)) true ty).run Tryz.prog wr = .ok (.tuple #[.bool true, .int .i64 pos, .int .i32 105]) w1 := hnx
            have HHX : Hid (∀ V : World, LS w V b #[.int .i64 kd, .string (S a.name), .slice bA bn bc, .slice nA nn nc, .int .i64 a.mem, .int .i64 a.fuel] T it ps (pos + 1) Wz → Calls Tryz.prog 41 #[.int .i64 a.mem] V fun e w' => e = .returned (.string (S (Lib.itoa a.mem))) ∧ Below V.heap.size V w') := Lib.hid fun V hV => (Tryz.strconv_Itoa a.mem HA.out.hm.1 HA.out.hm.2 V (Tab.below HT.out hV.ast.hb)).mono fun e w' ⟨he, k, os, hw⟩ => ⟨he, by rw [hw]; exact grow_below _ _ _⟩
            have HPT : Hid (∀ V : World, LS w V b #[.int .i64 kd, .string (S a.name), .slice bA bn bc, .slice nA nn nc, .int .i64 a.mem, .int .i64 a.fuel] T it ps (pos + 1) Wz → Calls Tryz.prog 49 #[.string (S (Lib.itoa a.mem)), .pointer (some ⟨b, 0, none⟩)] V fun e w' => e = .returned (.tuple #[]) ∧ LS w w' b #[.int .i64 kd, .string (S a.name), .slice bA bn bc, .slice nA nn nc, .int .i64 a.mem, .int .i64 a.fuel] (sep T (Lib.itoa a.mem)) it ps (pos + 1) Wz) := Lib.hid fun V hV => hV.put (Lib.itoa a.mem) (by obtain ⟨g1, g2, g3, g4, GB, GN⟩ := HG.out; have := Lib.itoa_length_le a.mem HA.out.hm.1 HA.out.hm.2; omega) HG.out.2.2.2.2.2
            go_wp2_with fail
            obtain ⟨Pos2, hin, hout⟩ : ∃ Pos2 : Act → World → Prop, Hid (∀ a' W', (∃ y0 y1 y2 y3 y4 : Value, a' = { tmps := List.toArray ((.agg #[.int .i64 kd, .string (S a.name), .slice bA bn bc, .slice nA nn nc, .int .i64 a.mem, .int .i64 a.fuel]) :: (.pointer (some ⟨w.heap.size, 0, none⟩)) :: (.string ⟨#[]⟩) :: (.int .i64 0) :: (.pointer (some ⟨b, 0, none⟩)) :: (.pointer (some ⟨b + 1, 0, none⟩)) :: undef :: undef :: undef :: (.int .i32 105) :: undef :: u11 :: (.agg #[.int .i64 kd, .string (S a.name), .slice bA bn bc, .slice nA nn nc, .int .i64 a.mem, .int .i64 a.fuel]) :: (.bool true) :: (.bool false) :: (.func (.func 49) #[] #[.pointer (some ⟨b, 0, none⟩)]) :: (.func (.func 53) #[] #[]) :: undef :: undef :: undef :: undef :: undef :: undef :: undef :: undef :: undef :: (.map (some m)) :: (.pointer (some ⟨w.heap.size, 0, none⟩)) :: (.int .i64 kd) :: (shV kd) :: (.string (S (shW kd))) :: (.pointer (some ⟨it, 0, none⟩)) :: (.tuple #[.bool true, .int .i64 (pos : Int), .int .i32 105]) :: (.bool true) :: (.int .i32 105) :: (.int .i32 105) :: (.bool false) :: (.bool false) :: (.bool false) :: u39 :: u40 :: u41 :: u42 :: (.bool false) :: (.bool false) :: u45 :: u46 :: u47 :: u48 :: u49 :: (.bool false) :: (.bool false) :: u52 :: u53 :: u54 :: u55 :: u56 :: (.bool true) :: (.bool true) :: y0 :: y1 :: y2 :: y3 :: y4 :: u64 :: u65 :: u66 :: u67 :: u68 :: u69 :: u70 :: u71 :: u72 :: u73 :: u74 :: u75 :: u76 :: u77 :: u78 :: u79 :: u80 :: u81 :: u82 :: u83 :: undef :: []), defers := [{ target := .collected Wz, args := #[] }] } ∧ LS w W' b #[.int .i64 kd, .string (S a.name), .slice bA bn bc, .slice nA nn nc, .int .i64 a.mem, .int .i64 a.fuel] (sep T (Lib.itoa a.mem)) it ps (pos + 1) Wz) → Pos2 a' W') ∧ Hid (∀ a' W', Pos2 a' W' → (∃ y0 y1 y2 y3 y4 : Value, a' = { tmps := List.toArray ((.agg #[.int .i64 kd, .string (S a.name), .slice bA bn bc, .slice nA nn nc, .int .i64 a.mem, .int .i64 a.fuel]) :: (.pointer (some ⟨w.heap.size, 0, none⟩)) :: (.string ⟨#[]⟩) :: (.int .i64 0) :: (.pointer (some ⟨b, 0, none⟩)) :: (.pointer (some ⟨b + 1, 0, none⟩)) :: undef :: undef :: undef :: (.int .i32 105) :: undef :: u11 :: (.agg #[.int .i64 kd, .string (S a.name), .slice bA bn bc, .slice nA nn nc, .int .i64 a.mem, .int .i64 a.fuel]) :: (.bool true) :: (.bool false) :: (.func (.func 49) #[] #[.pointer (some ⟨b, 0, none⟩)]) :: (.func (.func 53) #[] #[]) :: undef :: undef :: undef :: undef :: undef :: undef :: undef :: undef :: undef :: (.map (some m)) :: (.pointer (some ⟨w.heap.size, 0, none⟩)) :: (.int .i64 kd) :: (shV kd) :: (.string (S (shW kd))) :: (.pointer (some ⟨it, 0, none⟩)) :: (.tuple #[.bool true, .int .i64 (pos : Int), .int .i32 105]) :: (.bool true) :: (.int .i32 105) :: (.int .i32 105) :: (.bool false) :: (.bool false) :: (.bool false) :: u39 :: u40 :: u41 :: u42 :: (.bool false) :: (.bool false) :: u45 :: u46 :: u47 :: u48 :: u49 :: (.bool false) :: (.bool false) :: u52 :: u53 :: u54 :: u55 :: u56 :: (.bool true) :: (.bool true) :: y0 :: y1 :: y2 :: y3 :: y4 :: u64 :: u65 :: u66 :: u67 :: u68 :: u69 :: u70 :: u71 :: u72 :: u73 :: u74 :: u75 :: u76 :: u77 :: u78 :: u79 :: u80 :: u81 :: u82 :: u83 :: undef :: []), defers := [{ target := .collected Wz, args := #[] }] } ∧ LS w W' b #[.int .i64 kd, .string (S a.name), .slice bA bn bc, .slice nA nn nc, .int .i64 a.mem, .int .i64 a.fuel] (sep T (Lib.itoa a.mem)) it ps (pos + 1) Wz)) := ⟨_, Lib.hid fun _ _ h => h, Lib.hid fun _ _ h => h⟩
            refine Code.wp_mono (Q := Exit.then Pos2 (fun _ _ _ => False)) ?_ ?_
            rotate_left
            · as_aux_lemma =>
                refine wp_region_inv' 5 rfl (fun L a' w' => ∃ y0 y1 y2 y3 y4 : Value, a' = { tmps := List.toArray ((.agg #[.int .i64 kd, .string (S a.name), .slice bA bn bc, .slice nA nn nc, .int .i64 a.mem, .int .i64 a.fuel]) :: (.pointer (some ⟨w.heap.size, 0, none⟩)) :: (.string ⟨#[]⟩) :: (.int .i64 0) :: (.pointer (some ⟨b, 0, none⟩)) :: (.pointer (some ⟨b + 1, 0, none⟩)) :: undef :: undef :: undef :: (.int .i32 105) :: undef :: u11 :: (.agg #[.int .i64 kd, .string (S a.name), .slice bA bn bc, .slice nA nn nc, .int .i64 a.mem, .int .i64 a.fuel]) :: (.bool true) :: (.bool false) :: (.func (.func 49) #[] #[.pointer (some ⟨b, 0, none⟩)]) :: (.func (.func 53) #[] #[]) :: undef :: undef :: undef :: undef :: undef :: undef :: undef :: undef :: undef :: (.map (some m)) :: (.pointer (some ⟨w.heap.size, 0, none⟩)) :: (.int .i64 kd) :: (shV kd) :: (.string (S (shW kd))) :: (.pointer (some ⟨it, 0, none⟩)) :: (.tuple #[.bool true, .int .i64 (pos : Int), .int .i32 105]) :: (.bool true) :: (.int .i32 105) :: (.int .i32 105) :: (.bool false) :: (.bool false) :: (.bool false) :: u39 :: u40 :: u41 :: u42 :: (.bool false) :: (.bool false) :: u45 :: u46 :: u47 :: u48 :: u49 :: (.bool false) :: (.bool false) :: u52 :: u53 :: u54 :: u55 :: u56 :: (.bool true) :: (.bool true) :: y0 :: y1 :: y2 :: y3 :: y4 :: u64 :: u65 :: u66 :: u67 :: u68 :: u69 :: u70 :: u71 :: u72 :: u73 :: u74 :: u75 :: u76 :: u77 :: u78 :: u79 :: u80 :: u81 :: u82 :: u83 :: undef :: []), defers := [{ target := .collected Wz, args := #[] }] } ∧ (L 0 = true → y0 = .func (.func 49) #[] #[.pointer (some ⟨b, 0, none⟩)]) ∧ (L 1 = true → y1 = .pointer (some ⟨w.heap.size, 4, none⟩)) ∧ (L 2 = true → y2 = .int .i64 a.mem) ∧ (L 3 = true → y3 = .string (S (Lib.itoa a.mem))) ∧ (L 4 = true → y4 = .tuple #[]) ∧ (L 4 = false → LS w w' b #[.int .i64 kd, .string (S a.name), .slice bA bn bc, .slice nA nn nc, .int .i64 a.mem, .int .i64 a.fuel] T it ps (pos + 1) Wz) ∧ (L 4 = true → LS w w' b #[.int .i64 kd, .string (S a.name), .slice bA bn bc, .slice nA nn nc, .int .i64 a.mem, .int .i64 a.fuel] (sep T (Lib.itoa a.mem)) it ps (pos + 1) Wz)) (by kernel_rfl) (by kernel_rfl) ?h0 ?step ?fin
                case h0 => exact ⟨u59, u60, u61, u62, u63, rfl, (fun e => by simp at e), (fun e => by simp at e), (fun e => by simp at e), (fun e => by simp at e), (fun e => by simp at e), fun _ => HL1.out.below (Below.refl _ _).drew, fun e => by simp at e⟩
                case step =>
                  rintro i hi L a' w' hLi hcl hdp ⟨y0, y1, y2, y3, y4, rfl, e0, e1, e2, e3, e4, hW, hM⟩
                  have hi2 : i = 0 ∨ i = 1 ∨ i = 2 ∨ i = 3 ∨ i = 4 := by omega
                  rcases hi2 with rfl | rfl | rfl | rfl | rfl
                  · have l4 : L 4 = false := by
                      cases h : L 4
                      · rfl
                      · exact absurd (hcl 4 0 h (by kernel_rfl)) (by rw [hLi]; decide)
                    have HW := Lib.hid (hW l4)
                    have E1 := Lib.hid e1; have E2 := Lib.hid e2; have E3 := Lib.hid e3; have E4 := Lib.hid e4
                    clear hcl hdp hW hM e0 e1 e2 e3 e4
                    refine wpOp_step rfl (fun K hK => ?_)
                    have kf := HW.out.ast.fcell
                    go_simp
                    exact hK _ _ ⟨_, _, _, _, _, rfl, (fun _ => rfl), (fun h => E1.out (by simpa [upOn] using h)), (fun h => E2.out (by simpa [upOn] using h)), (fun h => E3.out (by simpa [upOn] using h)), (fun h => E4.out (by simpa [upOn] using h)), (fun _ => HW.out), (fun h => by simp [upOn, l4] at h)⟩
                  · have l4 : L 4 = false := by
                      cases h : L 4
                      · rfl
                      · exact absurd (hcl 2 1 (hcl 3 2 (hcl 4 3 h (by kernel_rfl)) (by kernel_rfl)) (by kernel_rfl)) (by rw [hLi]; decide)
                    have HW := Lib.hid (hW l4)
                    have E0 := Lib.hid e0; have E2 := Lib.hid e2; have E3 := Lib.hid e3; have E4 := Lib.hid e4
                    clear hcl hdp hW hM e0 e1 e2 e3 e4
                    refine wpOp_step rfl (fun K hK => ?_)
                    go_simp
                    exact hK _ _ ⟨_, _, _, _, _, rfl, (fun h => E0.out (by simpa [upOn] using h)), (fun _ => rfl), (fun h => E2.out (by simpa [upOn] using h)), (fun h => E3.out (by simpa [upOn] using h)), (fun h => E4.out (by simpa [upOn] using h)), (fun _ => HW.out), (fun h => by simp [upOn, l4] at h)⟩
                  · have l4 : L 4 = false := by
                      cases h : L 4
                      · rfl
                      · exact absurd (hcl 3 2 (hcl 4 3 h (by kernel_rfl)) (by kernel_rfl)) (by rw [hLi]; decide)
                    have HW := Lib.hid (hW l4)
                    obtain rfl := e1 (hdp 1 (by kernel_rfl))
                    have E0 := Lib.hid e0; have E3 := Lib.hid e3; have E4 := Lib.hid e4
                    clear hcl hdp hW hM e0 e1 e2 e3 e4
                    refine wpOp_step rfl (fun K hK => ?_)
                    have kc : w'.cell? ⟨w.heap.size, 4, none⟩ = some (.int .i64 a.mem) := HW.out.ast.cell rfl
                    go_simp
                    exact hK _ _ ⟨_, _, _, _, _, rfl, (fun h => E0.out (by simpa [upOn] using h)), (fun _ => rfl), (fun _ => rfl), (fun h => E3.out (by simpa [upOn] using h)), (fun h => E4.out (by simpa [upOn] using h)), (fun _ => HW.out), (fun h => by simp [upOn, l4] at h)⟩
                  · have l4 : L 4 = false := by
                      cases h : L 4
                      · rfl
                      · exact absurd (hcl 4 3 h (by kernel_rfl)) (by rw [hLi]; decide)
                    have HW := Lib.hid (hW l4)
                    obtain rfl := e2 (hdp 2 (by kernel_rfl))
                    have E0 := Lib.hid e0; have E1 := Lib.hid e1; have E4 := Lib.hid e4
                    clear hcl hdp hW hM e0 e1 e2 e3 e4
                    refine wpOp_step rfl (fun K hK => ?_)
                    go_simp
                    refine (HHX.out _ HW.out).mono ?_
                    rintro e v1 ⟨rfl, hb1⟩
                    exact hK _ _ ⟨_, _, _, _, _, rfl, (fun h => E0.out (by simpa [upOn] using h)), (fun h => E1.out (by simpa [upOn] using h)), (fun _ => rfl), (fun _ => rfl), (fun h => E4.out (by simpa [upOn] using h)), (fun _ => HW.out.below hb1), (fun h => by simp [upOn, l4] at h)⟩
                  · have l4 : L 4 = false := by
                      exact hLi
                    have HW := Lib.hid (hW l4)
                    obtain rfl := e0 (hdp 0 (by kernel_rfl))
                    obtain rfl := e3 (hdp 3 (by kernel_rfl))
                    have E1 := Lib.hid e1; have E2 := Lib.hid e2
                    clear hcl hdp hW hM e0 e1 e2 e3 e4
                    refine wpOp_step rfl (fun K hK => ?_)
                    go_simp
                    refine (HPT.out _ HW.out).mono ?_
                    rintro e v1 ⟨rfl, hl1⟩
                    exact hK _ _ ⟨_, _, _, _, _, rfl, (fun _ => rfl), (fun h => E1.out (by simpa [upOn] using h)), (fun h => E2.out (by simpa [upOn] using h)), (fun _ => rfl), (fun _ => rfl), (fun h => by simp [upOn] at h), (fun _ => hl1)⟩
                case fin =>
                  rintro L a' w' hall ⟨y0, y1, y2, y3, y4, rfl, e0, e1, e2, e3, e4, -, hM⟩
                  exact hin.out _ _ ⟨_, _, _, _, _, rfl, hM (hall 4 (by omega))⟩
            · intro e a' W' hE0
              have hen : e = Exit.normal := by cases e <;> first | rfl | exact hE0.elim
              subst hen
              obtain ⟨y0, y1, y2, y3, y4, rfl, hl2⟩ := hout.out _ _ hE0
              have HL2 := Lib.hid hl2
              clear hl2 hin hout hE0 HHX HPT
              go_wp2_with fail
              exact HFIN.out _ _ HST.out HL2.out
          · have HST : Hid (sep T (Lib.itoa a.fuel) = (ls.take (pos + 1)).foldl (stT a) wd) := Lib.hid hstep.symm
            clear hstep
            replace hnx : ∀ ty, (Instr.next (.pointer (some ⟨it, 0, none⟩)) true ty).run Tryz.prog wr = .ok (.tuple #[.bool true, .int .i64 pos, .int .i32 102]) w1 := hnx
            have HHX : Hid (∀ V : World, LS w V b #[.int .i64 kd, .string (S a.name), .slice bA bn bc, .slice nA nn nc, .int .i64 a.mem, .int .i64 a.fuel] T it ps (pos + 1) Wz → Calls Tryz.prog 41 #[.int .i64 a.fuel] V fun e w' => e = .returned (.string (S (Lib.itoa a.fuel))) ∧ Below V.heap.size V w') := Lib.hid fun V hV => (Tryz.strconv_Itoa a.fuel HA.out.hf.1 HA.out.hf.2 V (Tab.below HT.out hV.ast.hb)).mono fun e w' ⟨he, k, os, hw⟩ => ⟨he, by rw [hw]; exact grow_below _ _ _⟩
            have HPT : Hid (∀ V : World, LS w V b #[.int .i64 kd, .string (S a.name), .slice bA bn bc, .slice nA nn nc, .int .i64 a.mem, .int .i64 a.fuel] T it ps (pos + 1) Wz → Calls Tryz.prog 49 #[.string (S (Lib.itoa a.fuel)), .pointer (some ⟨b, 0, none⟩)] V fun e w' => e = .returned (.tuple #[]) ∧ LS w w' b #[.int .i64 kd, .string (S a.name), .slice bA bn bc, .slice nA nn nc, .int .i64 a.mem, .int .i64 a.fuel] (sep T (Lib.itoa a.fuel)) it ps (pos + 1) Wz) := Lib.hid fun V hV => hV.put (Lib.itoa a.fuel) (by obtain ⟨g1, g2, g3, g4, GB, GN⟩ := HG.out; have := Lib.itoa_length_le a.fuel HA.out.hf.1 HA.out.hf.2; omega) HG.out.2.2.2.2.2
            go_wp2_with fail
            obtain ⟨Pos2, hin, hout⟩ : ∃ Pos2 : Act → World → Prop, Hid (∀ a' W', (∃ y0 y1 y2 y3 y4 : Value, a' = { tmps := List.toArray ((.agg #[.int .i64 kd, .string (S a.name), .slice bA bn bc, .slice nA nn nc, .int .i64 a.mem, .int .i64 a.fuel]) :: (.pointer (some ⟨w.heap.size, 0, none⟩)) :: (.string ⟨#[]⟩) :: (.int .i64 0) :: (.pointer (some ⟨b, 0, none⟩)) :: (.pointer (some ⟨b + 1, 0, none⟩)) :: undef :: undef :: undef :: (.int .i32 102) :: undef :: u11 :: (.agg #[.int .i64 kd, .string (S a.name), .slice bA bn bc, .slice nA nn nc, .int .i64 a.mem, .int .i64 a.fuel]) :: (.bool true) :: (.bool false) :: (.func (.func 49) #[] #[.pointer (some ⟨b, 0, none⟩)]) :: (.func (.func 53) #[] #[]) :: undef :: undef :: undef :: undef :: undef :: undef :: undef :: undef :: undef :: (.map (some m)) :: (.pointer (some ⟨w.heap.size, 0, none⟩)) :: (.int .i64 kd) :: (shV kd) :: (.string (S (shW kd))) :: (.pointer (some ⟨it, 0, none⟩)) :: (.tuple #[.bool true, .int .i64 (pos : Int), .int .i32 102]) :: (.bool true) :: (.int .i32 102) :: (.int .i32 102) :: (.bool false) :: (.bool false) :: (.bool false) :: u39 :: u40 :: u41 :: u42 :: (.bool false) :: (.bool false) :: u45 :: u46 :: u47 :: u48 :: u49 :: (.bool false) :: (.bool false) :: u52 :: u53 :: u54 :: u55 :: u56 :: (.bool false) :: (.bool false) :: u59 :: u60 :: u61 :: u62 :: u63 :: (.bool true) :: (.bool true) :: y0 :: y1 :: y2 :: y3 :: y4 :: u71 :: u72 :: u73 :: u74 :: u75 :: u76 :: u77 :: u78 :: u79 :: u80 :: u81 :: u82 :: u83 :: undef :: []), defers := [{ target := .collected Wz, args := #[] }] } ∧ LS w W' b #[.int .i64 kd, .string (S a.name), .slice bA bn bc, .slice nA nn nc, .int .i64 a.mem, .int .i64 a.fuel] (sep T (Lib.itoa a.fuel)) it ps (pos + 1) Wz) → Pos2 a' W') ∧ Hid (∀ a' W', Pos2 a' W' → (∃ y0 y1 y2 y3 y4 : Value, a' = { tmps := List.toArray ((.agg #[.int .i64 kd, .string (S a.name), .slice bA bn bc, .slice nA nn nc, .int .i64 a.mem, .int .i64 a.fuel]) :: (.pointer (some ⟨w.heap.size, 0, none⟩)) :: (.string ⟨#[]⟩) :: (.int .i64 0) :: (.pointer (some ⟨b, 0, none⟩)) :: (.pointer (some ⟨b + 1, 0, none⟩)) :: undef :: undef :: undef :: (.int .i32 102) :: undef :: u11 :: (.agg #[.int .i64 kd, .string (S a.name), .slice bA bn bc, .slice nA nn nc, .int .i64 a.mem, .int .i64 a.fuel]) :: (.bool true) :: (.bool false) :: (.func (.func 49) #[] #[.pointer (some ⟨b, 0, none⟩)]) :: (.func (.func 53) #[] #[]) :: undef :: undef :: undef :: undef :: undef :: undef :: undef :: undef :: undef :: (.map (some m)) :: (.pointer (some ⟨w.heap.size, 0, none⟩)) :: (.int .i64 kd) :: (shV kd) :: (.string (S (shW kd))) :: (.pointer (some ⟨it, 0, none⟩)) :: (.tuple #[.bool true, .int .i64 (pos : Int), .int .i32 102]) :: (.bool true) :: (.int .i32 102) :: (.int .i32 102) :: (.bool false) :: (.bool false) :: (.bool false) :: u39 :: u40 :: u41 :: u42 :: (.bool false) :: (.bool false) :: u45 :: u46 :: u47 :: u48 :: u49 :: (.bool false) :: (.bool false) :: u52 :: u53 :: u54 :: u55 :: u56 :: (.bool false) :: (.bool false) :: u59 :: u60 :: u61 :: u62 :: u63 :: (.bool true) :: (.bool true) :: y0 :: y1 :: y2 :: y3 :: y4 :: u71 :: u72 :: u73 :: u74 :: u75 :: u76 :: u77 :: u78 :: u79 :: u80 :: u81 :: u82 :: u83 :: undef :: []), defers := [{ target := .collected Wz, args := #[] }] } ∧ LS w W' b #[.int .i64 kd, .string (S a.name), .slice bA bn bc, .slice nA nn nc, .int .i64 a.mem, .int .i64 a.fuel] (sep T (Lib.itoa a.fuel)) it ps (pos + 1) Wz)) := ⟨_, Lib.hid fun _ _ h => h, Lib.hid fun _ _ h => h⟩
            refine Code.wp_mono (Q := Exit.then Pos2 (fun _ _ _ => False)) ?_ ?_
            rotate_left
            · as_aux_lemma =>
                refine wp_region_inv' 5 rfl (fun L a' w' => ∃ y0 y1 y2 y3 y4 : Value, a' = { tmps := List.toArray ((.agg #[.int .i64 kd, .string (S a.name), .slice bA bn bc, .slice nA nn nc, .int .i64 a.mem, .int .i64 a.fuel]) :: (.pointer (some ⟨w.heap.size, 0, none⟩)) :: (.string ⟨#[]⟩) :: (.int .i64 0) :: (.pointer (some ⟨b, 0, none⟩)) :: (.pointer (some ⟨b + 1, 0, none⟩)) :: undef :: undef :: undef :: (.int .i32 102) :: undef :: u11 :: (.agg #[.int .i64 kd, .string (S a.name), .slice bA bn bc, .slice nA nn nc, .int .i64 a.mem, .int .i64 a.fuel]) :: (.bool true) :: (.bool false) :: (.func (.func 49) #[] #[.pointer (some ⟨b, 0, none⟩)]) :: (.func (.func 53) #[] #[]) :: undef :: undef :: undef :: undef :: undef :: undef :: undef :: undef :: undef :: (.map (some m)) :: (.pointer (some ⟨w.heap.size, 0, none⟩)) :: (.int .i64 kd) :: (shV kd) :: (.string (S (shW kd))) :: (.pointer (some ⟨it, 0, none⟩)) :: (.tuple #[.bool true, .int .i64 (pos : Int), .int .i32 102]) :: (.bool true) :: (.int .i32 102) :: (.int .i32 102) :: (.bool false) :: (.bool false) :: (.bool false) :: u39 :: u40 :: u41 :: u42 :: (.bool false) :: (.bool false) :: u45 :: u46 :: u47 :: u48 :: u49 :: (.bool false) :: (.bool false) :: u52 :: u53 :: u54 :: u55 :: u56 :: (.bool false) :: (.bool false) :: u59 :: u60 :: u61 :: u62 :: u63 :: (.bool true) :: (.bool true) :: y0 :: y1 :: y2 :: y3 :: y4 :: u71 :: u72 :: u73 :: u74 :: u75 :: u76 :: u77 :: u78 :: u79 :: u80 :: u81 :: u82 :: u83 :: undef :: []), defers := [{ target := .collected Wz, args := #[] }] } ∧ (L 0 = true → y0 = .func (.func 49) #[] #[.pointer (some ⟨b, 0, none⟩)]) ∧ (L 1 = true → y1 = .pointer (some ⟨w.heap.size, 5, none⟩)) ∧ (L 2 = true → y2 = .int .i64 a.fuel) ∧ (L 3 = true → y3 = .string (S (Lib.itoa a.fuel))) ∧ (L 4 = true → y4 = .tuple #[]) ∧ (L 4 = false → LS w w' b #[.int .i64 kd, .string (S a.name), .slice bA bn bc, .slice nA nn nc, .int .i64 a.mem, .int .i64 a.fuel] T it ps (pos + 1) Wz) ∧ (L 4 = true → LS w w' b #[.int .i64 kd, .string (S a.name), .slice bA bn bc, .slice nA nn nc, .int .i64 a.mem, .int .i64 a.fuel] (sep T (Lib.itoa a.fuel)) it ps (pos + 1) Wz)) (by kernel_rfl) (by kernel_rfl) ?h0 ?step ?fin
                case h0 => exact ⟨u66, u67, u68, u69, u70, rfl, (fun e => by simp at e), (fun e => by simp at e), (fun e => by simp at e), (fun e => by simp at e), (fun e => by simp at e), fun _ => HL1.out.below (Below.refl _ _).drew, fun e => by simp at e⟩
                case step =>
                  rintro i hi L a' w' hLi hcl hdp ⟨y0, y1, y2, y3, y4, rfl, e0, e1, e2, e3, e4, hW, hM⟩
                  have hi2 : i = 0 ∨ i = 1 ∨ i = 2 ∨ i = 3 ∨ i = 4 := by omega
                  rcases hi2 with rfl | rfl | rfl | rfl | rfl
                  · have l4 : L 4 = false := by
                      cases h : L 4
                      · rfl
                      · exact absurd (hcl 4 0 h (by kernel_rfl)) (by rw [hLi]; decide)
                    have HW := Lib.hid (hW l4)
                    have E1 := Lib.hid e1; have E2 := Lib.hid e2; have E3 := Lib.hid e3; have E4 := Lib.hid e4
                    clear hcl hdp hW hM e0 e1 e2 e3 e4
                    refine wpOp_step rfl (fun K hK => ?_)
                    have kf := HW.out.ast.fcell
                    go_simp
                    exact hK _ _ ⟨_, _, _, _, _, rfl, (fun _ => rfl), (fun h => E1.out (by simpa [upOn] using h)), (fun h => E2.out (by simpa [upOn] using h)), (fun h => E3.out (by simpa [upOn] using h)), (fun h => E4.out (by simpa [upOn] using h)), (fun _ => HW.out), (fun h => by simp [upOn, l4] at h)⟩
                  · have l4 : L 4 = false := by
                      cases h : L 4
                      · rfl
                      · exact absurd (hcl 2 1 (hcl 3 2 (hcl 4 3 h (by kernel_rfl)) (by kernel_rfl)) (by kernel_rfl)) (by rw [hLi]; decide)
                    have HW := Lib.hid (hW l4)
                    have E0 := Lib.hid e0; have E2 := Lib.hid e2; have E3 := Lib.hid e3; have E4 := Lib.hid e4
                    clear hcl hdp hW hM e0 e1 e2 e3 e4
                    refine wpOp_step rfl (fun K hK => ?_)
                    go_simp
                    exact hK _ _ ⟨_, _, _, _, _, rfl, (fun h => E0.out (by simpa [upOn] using h)), (fun _ => rfl), (fun h => E2.out (by simpa [upOn] using h)), (fun h => E3.out (by simpa [upOn] using h)), (fun h => E4.out (by simpa [upOn] using h)), (fun _ => HW.out), (fun h => by simp [upOn, l4] at h)⟩
                  · have l4 : L 4 = false := by
                      cases h : L 4
                      · rfl
                      · exact absurd (hcl 3 2 (hcl 4 3 h (by kernel_rfl)) (by kernel_rfl)) (by rw [hLi]; decide)
                    have HW := Lib.hid (hW l4)
                    obtain rfl := e1 (hdp 1 (by kernel_rfl))
                    have E0 := Lib.hid e0; have E3 := Lib.hid e3; have E4 := Lib.hid e4
                    clear hcl hdp hW hM e0 e1 e2 e3 e4
                    refine wpOp_step rfl (fun K hK => ?_)
                    have kc : w'.cell? ⟨w.heap.size, 5, none⟩ = some (.int .i64 a.fuel) := HW.out.ast.cell rfl
                    go_simp
                    exact hK _ _ ⟨_, _, _, _, _, rfl, (fun h => E0.out (by simpa [upOn] using h)), (fun _ => rfl), (fun _ => rfl), (fun h => E3.out (by simpa [upOn] using h)), (fun h => E4.out (by simpa [upOn] using h)), (fun _ => HW.out), (fun h => by simp [upOn, l4] at h)⟩
                  · have l4 : L 4 = false := by
                      cases h : L 4
                      · rfl
                      · exact absurd (hcl 4 3 h (by kernel_rfl)) (by rw [hLi]; decide)
                    have HW := Lib.hid (hW l4)
                    obtain rfl := e2 (hdp 2 (by kernel_rfl))
                    have E0 := Lib.hid e0; have E1 := Lib.hid e1; have E4 := Lib.hid e4
                    clear hcl hdp hW hM e0 e1 e2 e3 e4
                    refine wpOp_step rfl (fun K hK => ?_)
                    go_simp
                    refine (HHX.out _ HW.out).mono ?_
                    rintro e v1 ⟨rfl, hb1⟩
                    exact hK _ _ ⟨_, _, _, _, _, rfl, (fun h => E0.out (by simpa [upOn] using h)), (fun h => E1.out (by simpa [upOn] using h)), (fun _ => rfl), (fun _ => rfl), (fun h => E4.out (by simpa [upOn] using h)), (fun _ => HW.out.below hb1), (fun h => by simp [upOn, l4] at h)⟩
                  · have l4 : L 4 = false := by
                      exact hLi
                    have HW := Lib.hid (hW l4)
                    obtain rfl := e0 (hdp 0 (by kernel_rfl))
                    obtain rfl := e3 (hdp 3 (by kernel_rfl))
                    have E1 := Lib.hid e1; have E2 := Lib.hid e2
                    clear hcl hdp hW hM e0 e1 e2 e3 e4
                    refine wpOp_step rfl (fun K hK => ?_)
                    go_simp
                    refine (HPT.out _ HW.out).mono ?_
                    rintro e v1 ⟨rfl, hl1⟩
                    exact hK _ _ ⟨_, _, _, _, _, rfl, (fun _ => rfl), (fun h => E1.out (by simpa [upOn] using h)), (fun h => E2.out (by simpa [upOn] using h)), (fun _ => rfl), (fun _ => rfl), (fun h => by simp [upOn] at h), (fun _ => hl1)⟩
                case fin =>
                  rintro L a' w' hall ⟨y0, y1, y2, y3, y4, rfl, e0, e1, e2, e3, e4, -, hM⟩
                  exact hin.out _ _ ⟨_, _, _, _, _, rfl, hM (hall 4 (by omega))⟩
            · intro e a' W' hE0
              have hen : e = Exit.normal := by cases e <;> first | rfl | exact hE0.elim
              subst hen
              obtain ⟨y0, y1, y2, y3, y4, rfl, hl2⟩ := hout.out _ _ hE0
              have HL2 := Lib.hid hl2
              clear hl2 hin hout hE0 HHX HPT
              go_wp2_with fail
              exact HFIN.out _ _ HST.out HL2.out
          · have HST : Hid (a.names.foldl sep T = (ls.take (pos + 1)).foldl (stT a) wd) := Lib.hid hstep.symm
            clear hstep
            replace hnx : ∀ ty, (Instr.next (.pointer (some ⟨it, 0, none⟩)) true ty).run Tryz.prog wr = .ok (.tuple #[.bool true, .int .i64 pos, .int .i32 108]) w1 := hnx
            have HLEN : Hid (a.names.length = nn) := Lib.hid HA.out.hnr.1
            have HNB : Hid (∀ j, ((a.names.take j).foldl sep T).length ≤ T.length + 600 ∧ (a.names.take j).foldl sep T ≠ []) := Lib.hid fun j => by
              obtain ⟨g1, g2, g3, g4, GB, GN⟩ := HG.out
              rw [names_bls _ _ GN]
              have h1 := bls_len (a.names.take j) (fun x hx => g4 x (List.mem_of_mem_take hx))
              have h2 : (a.names.take j).length ≤ 16 := by rw [List.length_take]; omega
              exact ⟨by rw [List.length_append]; omega, by simp [GN]⟩
            have hnn16 : nn ≤ 16 := by have := HLEN.out; have := HG.out.2.2.1; omega
            go_wp2_with fail
            go_loopw [76] (fun iv wq => ∃ j : Nat, j ≤ nn ∧ iv = .int .i64 (j : Int) ∧ Hid (LS w wq b #[.int .i64 kd, .string (S a.name), .slice bA bn bc, .slice nA nn nc, .int .i64 a.mem, .int .i64 a.fuel] ((a.names.take j).foldl sep T) it ps (pos + 1) Wz)) (fun iv _ => nn - (intOf iv).toNat)
            case atStart => exact ⟨0, Nat.zero_le _, rfl, Lib.hid HL1.out⟩
            case round =>
              obtain ⟨j, hj, rfl, HLJ⟩ := hrel
              by_cases hlt : j < nn
              · obtain ⟨x, l, rfl, hx, hl, hm2, hc⟩ := (HAC.out _ HLJ.out.ast.hb).hnr.at hlt
                have hsucc : (a.names.take (j + 1)).foldl sep T = sep ((a.names.take j).foldl sep T) l := by
                  rw [List.take_add_one, hl, List.foldl_append]; rfl
                have HSU := Lib.hid hsucc
                have h31 : l.length ≤ 31 := HG.out.2.2.2.1 l (List.mem_of_getElem? hl)
                have HPT := Lib.hid (HLJ.out.put l (by have := (HNB.out j).1; have := HG.out.2.2.2.2.1; omega) (HNB.out j).2)
                have k6' := HLJ.out.ast.fcell
                clear hl hm2 hsucc h31 hx
                go_wp2_with (go_at_call 49; (with_reducible refine HPT.out.mono ?_); rintro e w' ⟨rfl, hl2⟩; have HL2 := Lib.hid hl2; clear hl2)
                go_roundw
                case rel => exact ⟨j + 1, by omega, by go_num, Lib.hid (by rw [HSU.out]; exact HL2.out)⟩
                case measure => simp [intOf]; omega
              · have hjn : j = nn := by omega
                have HL2 : Hid (LS w wr b #[.int .i64 kd, .string (S a.name), .slice bA bn bc, .slice nA nn nc, .int .i64 a.mem, .int .i64 a.fuel] (a.names.foldl sep T) it ps (pos + 1) Wz) := Lib.hid (by have h := HLJ.out; rw [List.take_of_length_le (by rw [HLEN.out]; omega)] at h; exact h)
                go_wp2_with fail
                exact HFIN.out _ _ HST.out HL2.out
        · have hnx := HL.out.stop (by rw [hpsz]; exact hp)
          have hfin : (ls.take pos).foldl (stT a) wd = a.txt := by rw [List.take_of_length_le (by omega)]; exact HTX2.out
          rw [hfin] at HL HN
          obtain ⟨p, v, hd, -⟩ := HL.out.ast.bd
          have HSTR := Lib.hid (string_kept hd HN.out.2)
          clear hfin hpsz hd HSH HSL HWN
          go_wp2_with (go_at_call 42; (with_reducible refine HSTR.out.mono ?_); rintro e w' ⟨rfl, hb2, hkept⟩)
          refine act_fin (V := w) (Wz := Wz) (HL.out.ast.hb.trans (hb2.mono (Nat.le_of_lt HLT.out))) (by have := HWZ.out; have := HLT.out; omega) (hkept _ _ HL.out.dfr (by intro e; injection e with e; have := HWZ.out; omega) (fun _ _ e => by cases e)) _ rfl rfl rfl
end Go.Proofs.YtlodoilihminaaaGreatDoor
