/-
  The document's scanner: all symbols of a source.
-/
import Derived.Test.YthpdgghjaglhnaaGreatDoorSqD
namespace Go.Proofs.YthpdgghjaglhnaaGreatDoor
open Go.ChangeShapes Go.WideShapes Go.ChangeAt Go.RowKit
open Ev (WRow)
set_option linter.unusedVariables false
set_option linter.unusedSimpArgs false
/-- where a scanner ends -/
structure Scd (u : Sn) (m : Nat) : Prop where
  j : ∀ j, j < m → (stp u (j + 1)).sym ≠ 0
  f : (stp u (m + 1)).sym = 0
/-- how many symbols are told -/
def allN (u : Sn) (m : Nat) : Nat := if (stp u (m + 1)).code = 0 then m + 1 else m
/-- what is told of a source -/
def Told11 (u : Sn) (w : World) (e : Ending) (W : World) : Prop := ∃ (m : Nat) (v nv : Value), Scd u m ∧ e = .returned (.agg #[v, nv, .int .i64 (stp u (m + 1)).code, .int .i64 (stp u (m + 1)).epos]) ∧ Qf w W v nv (allN u m) (rowL u (allN u m)) (stp u (m + 1)).nms
theorem markF_err {X : Sn} {c p : Int} (h : X.code = 0) (hc : c ≠ 0) : markF X c p = { X with code := c, epos := p, sym := 0, pos := p, val := 0, id := 0, txt := bs [] } := by
  unfold markF
  rw [if_pos ⟨h, hc⟩]
section
variable {u s X : Sn} {k : Nat} {w W V : World} {p : Nat} {v nv : Value}
theorem told_err {c pos : Int} (hs : s = stp u k) (hj : ∀ j, j < k → (stp u (j + 1)).sym ≠ 0) (hg : getF s = markF X c pos) (h : X.code = 0) (hc : c ≠ 0) (hn : X.nms = s.nms) (hq : Qf w W v nv k (rowL u k) s.nms) : Told11 u w (.returned (.agg #[v, nv, .int .i64 c, .int .i64 pos])) W := by
  have e : stp u (k + 1) = markF X c pos := by show getF (stp u k) = _; rw [← hs]; exact hg
  rw [markF_err h hc] at e
  have e1 : (stp u (k + 1)).code = c := by rw [e]
  have e2 : (stp u (k + 1)).epos = pos := by rw [e]
  have e3 : (stp u (k + 1)).nms = s.nms := by rw [e]; exact hn
  have e4 : (stp u (k + 1)).sym = 0 := by rw [e]
  refine ⟨k, v, nv, ⟨hj, e4⟩, by rw [e1, e2], ?_⟩
  have e5 : allN u k = k := by unfold allN; rw [if_neg (by rw [e1]; exact hc)]
  rw [e5, e3]
  exact hq
theorem told_end (hs : s = stp u k) (hj : ∀ j, j < k → (stp u (j + 1)).sym ≠ 0) (hf : Fit s) (hc : s.code = 0) {a : Nat} (hg : getF s = begF s a) (hq : Qf w W v nv (k + 1) (rowL u k ++ (symC (begF s a)).toList) s.nms) : Told11 u w (.returned (.agg #[v, nv, .int .i64 0, .int .i64 0])) W := by
  have e : stp u (k + 1) = begF s a := by show getF (stp u k) = _; rw [← hs]; exact hg
  have e1 : (stp u (k + 1)).code = 0 := by rw [e]; exact hc
  have e2 : (stp u (k + 1)).epos = 0 := by rw [e]; exact hf.ep hc
  have e3 : (stp u (k + 1)).nms = s.nms := by rw [e]; rfl
  have e4 : (stp u (k + 1)).sym = 0 := by rw [e]; rfl
  refine ⟨k, v, nv, ⟨hj, e4⟩, by rw [e1, e2], ?_⟩
  have e5 : allN u k = k + 1 := by unfold allN; rw [if_pos e1]
  rw [e5, e3, rowL, e]
  exact hq
/-- so far -/
def Far (u : Sn) (w : World) (p : Nat) (iv : Value) (wr : World) : Prop := ∃ (k : Nat) (v nv : Value), iv = .int .i64 ((stp u k).at_ : Int) ∧ (∀ j, j < k → (stp u (j + 1)).sym ≠ 0) ∧ Qr w wr p v nv k (rowL u k) (stp u k).nms
theorem far_step {F : Sn} (hs : s = stp u k) (hj : ∀ j, j < k → (stp u (j + 1)).sym ≠ 0) (hg : getF s = F) (hy : F.sym ≠ 0) (hq : Qr w W p v nv (k + 1) (rowL u k ++ (symC F).toList) F.nms) : Far u w p (.int .i64 (F.at_ : Int)) W := by
  have e : stp u (k + 1) = F := by show getF (stp u k) = _; rw [← hs]; exact hg
  refine ⟨k + 1, v, nv, by rw [e], fun j hlt => ?_, by rw [rowL, e]; exact hq⟩
  by_cases h : j < k
  · exact hj j h
  · obtain rfl : j = k := by omega
    rw [e]; exact hy
end
theorem infoY : (Tryz.prog.info? 32).map (fun i => (i.zero, i.size, i.bytes)) = some (some (.agg #[.int .i64 0, .int .i64 0, .int .i32 0, .int .i64 0, .string (bs [])]), 5, 48) := by kernel_rfl
theorem qbs_eq (l2 l : List UInt8) : ((bs l2).toList == (bs l).toList) = decide (l2 = l) := by
  rw [ByteArray.toList_eq, ByteArray.toList_eq, Bool.eq_iff_iff]
  simp only [beq_iff_eq, decide_eq_true_eq]
  exact Iff.rfl
/-- the place of a name among so many -/
def idV (nms : List (List UInt8)) (l : List UInt8) (j : Nat) : Int := if l ∈ nms.take j then (nms.idxOf l : Nat) else -1
theorem idV_hit {nms : List (List UInt8)} (hn : nms.Nodup) {l : List UInt8} {j : Nat} (h : nms[j]? = some l) : idV nms l (j + 1) = (j : Nat) := by
  obtain ⟨hj, e⟩ := List.getElem?_eq_some_iff.1 h
  have hm : l ∈ nms.take (j + 1) := by rw [List.take_succ_eq_append_getElem hj, ← e, List.mem_append]; exact .inr (List.mem_singleton.2 rfl)
  unfold idV
  rw [if_pos hm, ← e, hn.idxOf_getElem j hj]
theorem idV_miss {nms : List (List UInt8)} {l x : List UInt8} {j : Nat} (h : nms[j]? = some x) (hx : x ≠ l) : idV nms l (j + 1) = idV nms l j := by
  obtain ⟨hj, e⟩ := List.getElem?_eq_some_iff.1 h
  have hm : l ∈ nms.take (j + 1) ↔ l ∈ nms.take j := by
    rw [List.take_succ_eq_append_getElem hj, e, List.mem_append, List.mem_singleton]
    exact ⟨fun h => h.resolve_right fun e2 => hx e2.symm, .inl⟩
  unfold idV
  by_cases h2 : l ∈ nms.take j
  · rw [if_pos h2, if_pos (hm.2 h2)]
  · rw [if_neg h2, if_neg (fun e => h2 (hm.1 e))]
theorem rsize (v nv : Value) (e pos : Int) : (Tryz.prog.info? 29).map (·.size) = some (#[v, nv, .int .i64 e, .int .i64 pos] : Array Value).size := by kernel_rfl
section
variable {w W : World} {p : Nat} {v nv : Value} {m : Nat} {xs : List Value} {nms : List (List UInt8)}
theorem wrow_one {w : World} {B sz n : Nat} {v : Value} {xs : List Value} (h : WRow w B sz v n xs) : v.oneCell' = true := by
  rcases h.2 with ⟨e, _⟩ | ⟨b, f, c, e, _⟩ <;> rw [e] <;> rfl
theorem rone (h : Qr w W p v nv m xs nms) (e pos : Int) : (#[v, nv, .int .i64 e, .int .i64 pos] : Array Value).all (·.oneCell') = true := by
  simp [wrow_one h.all, wrow_one h.nm]
  exact ⟨rfl, rfl⟩
end
/-- what is shown elsewhere -/
structure Later (P : Prop) : Prop where
  out : P
theorem ysize (a b d i : Int) (t : ByteArray) : (Tryz.prog.info? 32).map (·.size) = some (#[.int .i64 a, .int .i64 b, .int .i32 d, .int .i64 i, .string t] : Array Value).size := by kernel_rfl
theorem qr_start {w w2 : World} {g f cap : Nat} (hb : Below w.heap.size w w2) (ho : w2.heap[w.heap.size]? = some (.cells #[.slice none 0 0, .slice none 0 0, .int .i64 0, .int .i64 0] 29 (0, 0)))
    (hr : WRow w2 (w.heap.size + 1) 1 (.slice (some ⟨g, f, none⟩) 57 cap) 57 ((kwL.map fun k => Value.string (bs k)) ++ pdL.map fun k => Value.string (bs k))) (hg : g < w2.heap.size) :
    Qr w ((w2.alloc (.cells #[.slice none 0 0, .slice none 0 0, .int .i64 0, .int .i64 0] 29)).setRow w2.heap.size #[.slice none 0 0, .slice (some ⟨g, f, none⟩) 57 cap, .int .i64 0, .int .i64 0]) w2.heap.size (.slice none 0 0) (.slice (some ⟨g, f, none⟩) 57 cap) 0 [] (wsL.take 57) := by
  have hl : w.heap.size < w2.heap.size := (Array.getElem?_eq_some_iff.1 ho).1
  have hba := (Below.refl w2.heap.size w2).alloc (Nat.le_refl _) (.cells #[.slice none 0 0, .slice none 0 0, .int .i64 0, .int .i64 0] 29)
  refine ⟨snbelow_setRow (hb.trans (hba.mono hb.size)) hb.size _, ?_, snsetRow_heap _ _ _ _ _ _ (heap_alloc_new w2 _), ⟨rfl, .inl ⟨rfl, rfl⟩⟩, ?_, hl, by simp [Value.ownBlock], fun e => ?_, .inl rfl⟩
  · rw [setRow_other _ _ _ _ (by omega), hba.block _ hl]; exact ho
  · have e : (wsL.take 57).map (fun l => Value.string (bs l)) = (kwL.map fun k => Value.string (bs k)) ++ pdL.map fun k => Value.string (bs k) := by
      rw [List.take_of_length_le (by rw [wsL_len]; exact Nat.le_refl _)]
      unfold wsL
      rw [List.map_append]
    have e2 : (wsL.take 57).length = 57 := by rw [List.length_take, wsL_len]; rfl
    rw [e, e2]
    exact wrow_keep (hr.below hba) (by simp) fun k hk => setRow_other _ _ _ _ (fun e3 => by
      obtain rfl : g = k := Option.some.inj hk
      omega)
  · have e3 : g = w2.heap.size := Option.some.inj e
    omega
set_option maxRecDepth 100000 in
set_option maxHeartbeats 16000000 in
def qscanA := fun (HL : Later _) (HT : Later _) => PLift.up (by
  intro w A n c zs hr hn hcap hb
  obtain ⟨u, hu⟩ : ∃ u, u = ({ wsF 57 29 with src := zs } : Sn) := ⟨_, rfl⟩
  rw [← hu]
  have hlz := hr.1
  have HUS : Hid (u.src = zs) := Lib.hid (by rw [hu])
  have HA0 : Hid (At0 u u 0) := Lib.hid (by subst hu; exact ⟨rfl, Nat.zero_le _, (by decide : (0 : Int) ≤ 29), rfl, Nat.le_refl _⟩)
  have HFT : Hid (Fit u) := Lib.hid (by rw [hu]; exact fit_start zs)
  have HU0 : Hid (u.at_ = 0 ∧ u.nms = wsL.take 57) := Lib.hid (by rw [hu]; exact ⟨rfl, rfl⟩)
  have HRD := Lib.hid (fun V (hV : Below w.heap.size w V) => (hr.below hV).more (B' := V.heap.size) hV.size)
  have HBY := Lib.hid hb
  have HLZ := Lib.hid hlz
  clear hu hr hb hlz
  obtain ⟨i0, hi0, hz0, hsz0, hby0⟩ := infoS
  obtain ⟨i1, e1, e2⟩ := Option.map_eq_some_iff.1 infoY
  have hi1 := e1
  have hy0 := (Prod.mk.inj e2).1
  have hy1 := (Prod.mk.inj (Prod.mk.inj e2).2).1
  have hy2 := (Prod.mk.inj (Prod.mk.inj e2).2).2
  clear e1 e2
  obtain ⟨W0, hW0⟩ : ∃ W0, W0 = w.alloc (.cells #[.slice none 0 0, .slice none 0 0, .int .i64 0, .int .i64 0] 29) := ⟨_, rfl⟩
  have HO0 : Hid (W0.heap[w.heap.size]? = some (.cells #[.slice none 0 0, .slice none 0 0, .int .i64 0, .int .i64 0] 29 (0, 0))) := Lib.hid (by rw [hW0]; exact heap_alloc_new _ _)
  have HB0 : Hid (Below w.heap.size w W0) := Lib.hid (by rw [hW0]; exact (Below.refl _ _).alloc (Nat.le_refl _) _)
  have hs0 : W0.heap.size = w.heap.size + 1 := by rw [hW0]; simp
  have HS0 := Lib.hid hs0
  have HKW := Lib.hid (kwords_any W0)
  have HR2 : Hid (WRow ((W0.alloc (.cells (kwL.map fun k => Value.string (bs k)).toArray 9)).alloc (.cells (pdL.map fun k => Value.string (bs k)).toArray 9)) W0.heap.size 1 (.slice (some ⟨W0.heap.size, 0, none⟩) 29 29) 29 (kwL.map fun k => Value.string (bs k))) := Lib.hid ((by
    have := WRow.made (B := W0.heap.size) (size := 1) W0 9 (kwL.map fun k => Value.string (bs k)) 29 29 [] (Nat.le_refl _) rfl rfl (Nat.le_refl _) (by decide)
    rw [List.append_nil] at this
    exact this : WRow (W0.alloc (.cells (kwL.map fun k => Value.string (bs k)).toArray 9)) W0.heap.size 1 (.slice (some ⟨W0.heap.size, 0, none⟩) 29 29) 29 (kwL.map fun k => Value.string (bs k))).below ((Below.refl _ _).alloc (Nat.le_refl _) _))
  have HN := Lib.hid (World.news_of_block (heap_alloc_new (W0.alloc (.cells (kwL.map fun k => Value.string (bs k)).toArray 9)) (.cells (pdL.map fun k => Value.string (bs k)).toArray 9)))
  have ONE : Hid (∀ x ∈ (pdL.map fun k => Value.string (bs k)), x.oneCell' = true) := Lib.hid (fun x hx => by
    obtain ⟨l, _, rfl⟩ := List.mem_map.1 hx; rfl)
  have HBA : Hid (Below W0.heap.size W0 ((W0.alloc (.cells (kwL.map fun k => Value.string (bs k)).toArray 9)).alloc (.cells (pdL.map fun k => Value.string (bs k)).toArray 9))) := Lib.hid (((Below.refl _ _).alloc (Nat.le_refl _) _).alloc (by simp) _)
  have hsz1 : (W0.alloc (.cells (kwL.map fun k => Value.string (bs k)).toArray 9)).heap.size = W0.heap.size + 1 := by simp
  rw [hsz1] at HN
  have hB2 : W0.heap.size ≤ ((W0.alloc (.cells (kwL.map fun k => Value.string (bs k)).toArray 9)).alloc (.cells (pdL.map fun k => Value.string (bs k)).toArray 9)).heap.size := HBA.out.size
  have HB2 := Lib.hid hB2
  clear hsz1 hs0 hB2
  go_enter Tryz.func7, Tryz.ntmps7
  go_upto_region 1 with (fail)
  change Code.wp _ _ _ _ (w.alloc (.cells #[.slice none 0 0, .slice none 0 0, .int .i64 0, .int .i64 0] 29))
  rw [← hW0]
  clear hW0
  go_upto_region 2 with (first
    | (go_at_call 17; (refine HKW.out.mono ?_); rintro e w' ⟨rfl, rfl⟩)
    | (go_at_call 18; (refine (kout_any _).mono ?_); rintro e w' ⟨rfl, rfl⟩)
    | (at_builtin; refine Ev.wpList_append_w rfl (.tmp 19) (.tmp 20) 27 27 rfl 9 i0 (.string (bs [])) 16 Tryz.underlying27 Tryz.underlying27 hi0 hz0 hsz0 hby0 rfl rfl HR2.out ⟨W0.heap.size + 1, 0, none⟩ 28 28 (pdL.map fun k => Value.string (bs k)) rfl rfl HN.out ONE.out (by omega) (by omega) (by omega) HB2.out _ rfl ?_; intro g f cap w2 hown hgrow hat hlt2; have HOW := Lib.hid hown; have HGR := Lib.hid hgrow; have HAT := Lib.hid hat; have HZ2 := Lib.hid (heap_alloc_new w2 (.cells #[.slice none 0 0, .slice none 0 0, .int .i64 0, .int .i64 0] 29)); have HSZ := Lib.hid (rsize (.slice none 0 0) (.slice (some ⟨g, f, none⟩) 57 cap) 0 0); clear hown hgrow hat)
    | (with_reducible refine wpList_store_row rfl 29 _ _ rfl w2.heap.size #[.slice none 0 0, .slice (some ⟨g, f, none⟩) 57 cap, .int .i64 0, .int .i64 0] rfl rfl 29 _ HZ2.out HSZ.out rfl (by simp [Value.oneCell']) ?_))
  have HQ0 : Hid (Far u w w2.heap.size (.int .i64 0) ((w2.alloc (.cells #[.slice none 0 0, .slice none 0 0, .int .i64 0, .int .i64 0] 29)).setRow w2.heap.size #[.slice none 0 0, .slice (some ⟨g, f, none⟩) 57 cap, .int .i64 0, .int .i64 0])) := Lib.hid (by
    have hbb : Below w.heap.size w w2 := (HB0.out.trans (HBA.out.mono HB0.out.size)).grown HGR.out ((HB0.out.trans (HBA.out.mono HB0.out.size)).size) (fun z e => by
      obtain rfl : W0.heap.size = z := Option.some.inj e
      exact HB0.out.size)
    refine ⟨0, .slice none 0 0, .slice (some ⟨g, f, none⟩) 57 cap, by show Value.int .i64 0 = .int .i64 ((u.at_ : Nat) : Int); rw [HU0.out.1]; rfl, fun j hj => absurd hj (Nat.not_lt_zero _), ?_⟩
    show Qr w _ _ _ _ 0 [] u.nms
    rw [HU0.out.2]
    refine qr_start hbb ?_ (by have := HOW.out; rw [HS0.out] at this; exact this) hlt2
    rw [HGR.out.block w.heap.size (by have := HBA.out.size; have := HS0.out; omega) (fun e => by
      have := HS0.out
      obtain e2 : w.heap.size = W0.heap.size := Option.some.inj e
      omega), HBA.out.block _ (by have := HS0.out; omega)]
    exact HO0.out)
  obtain ⟨p, hp⟩ : ∃ p, p = w2.heap.size := ⟨_, rfl⟩
  rw [← hp] at HQ0 ⊢
  generalize (w2.alloc (.cells #[.slice none 0 0, .slice none 0 0, .int .i64 0, .int .i64 0] 29)).setRow p #[.slice none 0 0, .slice (some ⟨g, f, none⟩) 57 cap, .int .i64 0, .int .i64 0] = W1 at HQ0 ⊢
  clear HO0 HB0 HS0 HKW HR2 HN ONE HBA HB2 HOW HGR HAT HZ2 HSZ hlt2 hp HU0
  go_wp2_with fail
  go_loopw [4] (fun iv wr => Hid (Far u w p iv wr)) (fun iv _ => n + 1 - (intOf iv).toNat)
  case atStart => exact HQ0
  case round =>
    clear HQ0
    obtain ⟨k, v, nv, rfl, hj, HQ⟩ := hrel.out
    have HQ := Lib.hid HQ
    obtain ⟨s, hs⟩ : ∃ s, s = stp u k := ⟨_, rfl⟩
    have hat := at0_all HA0.out k hj
    have HF := Lib.hid (HFT.out.stp k)
    rw [← hs] at HQ hat HF ⊢
    have HSE := Lib.hid hs
    have HJ := Lib.hid hj
    have ha1 := hat.a
    rw [HUS.out, HLZ.out] at ha1
    have HAT := Lib.hid hat
    have HSS : Hid (s.src = zs) := Lib.hid (hat.e.trans HUS.out)
    clear hs hj hat hrel
    obtain ⟨a, ha⟩ : ∃ a, a = s.at_ := ⟨_, rfl⟩
    rw [← ha] at ha1 ⊢
    have HBK := Lib.hid (qblank_any (c := c) (HRD.out _ HQ.out.b) hn a ha1)
    have HG : Hid (getF s = if (bl (zs.drop a)).1 then tokF (begF s (zs.length - (bl (zs.drop a)).2.length)) else markF { s with at_ := zs.length } 5 ((zs.length - (bl (zs.drop a)).2.length : Nat) : Int)) := Lib.hid (by
      unfold getF
      rw [if_neg (by simpa using HAT.out.c), HSS.out, ← ha])
    have HGS : Hid ((getF s).sym ≠ 0 → a < (getF s).at_ ∧ (getF s).at_ ≤ n) := Lib.hid (fun hy => by
      obtain ⟨q, q1, q2, q3, q4, q5, q6, q7, q8⟩ := get_sym HAT.out.c (by rw [HSS.out, HLZ.out, ← ha]; exact ha1) HAT.out.k hy
      rw [HSS.out, HLZ.out] at q5
      omega)
    have HAE := Lib.hid ha
    clear ha
    unfold BkV at HBK
    rw [HLZ.out] at HBK HG
    obtain ⟨b, hb⟩ : ∃ b, b = (bl (zs.drop a)).1 := ⟨_, rfl⟩
    obtain ⟨p0, hp0⟩ : ∃ p0, p0 = n - (bl (zs.drop a)).2.length := ⟨_, rfl⟩
    have hpn : p0 ≤ n := by omega
    rw [← hb, ← hp0] at HBK HG
    clear hb hp0
    cases b with
    | false =>
      have HBK : Hid (Calls Tryz.prog 19 #[.slice A n c, .int .i64 (a : Int)] wr fun e w' => e = .returned (.tuple #[.int .i64 (n : Int), .int .i64 (p0 : Int)]) ∧ wr = w') := HBK
      replace HG : Hid (getF s = markF { s with at_ := n } 5 (p0 : Int)) := HG
      have c2 := (HQ.out.cell 2 _ rfl).1
      have z2 := (HQ.out.cell 2 _ rfl).2
      have c3 := (HQ.out.cell 3 _ rfl).1
      have z3 := (HQ.out.cell 3 _ rfl).2
      have HFIN := Lib.hid (HQ.out.fin 5 (p0 : Int))
      have HL : Hid (((wr.setCell ⟨p, 2, none⟩ (.int .i64 5)).setCell ⟨p, 3, none⟩ (.int .i64 (p0 : Int))).heap[p]? = some (.cells #[v, nv, .int .i64 5, .int .i64 (p0 : Int)] 29 (0, 0))) := Lib.hid HFIN.out.1
      have HO : Hid (((wr.setCell ⟨p, 2, none⟩ (.int .i64 5)).setCell ⟨p, 3, none⟩ (.int .i64 (p0 : Int))).heap[w.heap.size]? = some (.cells #[.slice none 0 0, .slice none 0 0, .int .i64 0, .int .i64 0] 29 (0, 0))) := Lib.hid HFIN.out.2.1
      have HSZ := Lib.hid (rsize v nv 5 (p0 : Int))
      have HON := Lib.hid (rone HQ.out 5 (p0 : Int))
      go_wp2_with (first
        | (go_at_call 19; (with_reducible refine HBK.out.mono ?_); rintro e w' ⟨rfl, hw⟩; subst hw)
        | (with_reducible refine wpList_load_row rfl 29 _ rfl p rfl 29 #[v, nv, .int .i64 5, .int .i64 (p0 : Int)] (0, 0) _ HL.out Tryz.underlying29 rfl HSZ.out ?_)
        | (with_reducible refine wpList_store_row rfl 29 _ _ rfl w.heap.size #[v, nv, .int .i64 5, .int .i64 (p0 : Int)] rfl rfl 29 _ HO.out HSZ.out rfl HON.out ?_))
      exact bodyPost_ret (results_cell_row rfl _ _ w.heap.size 29 #[v, nv, .int .i64 5, .int .i64 (p0 : Int)] (0, 0) _ rfl (snsetRow_heap _ _ _ _ _ _ HO.out) Tryz.underlying29 rfl HSZ.out) rfl (told_err HSE.out HJ.out HG.out HAT.out.c (by decide) rfl (HFIN.out.2.2 _))
    | true =>
      have HBK : Hid (Calls Tryz.prog 19 #[.slice A n c, .int .i64 (a : Int)] wr fun e w' => e = .returned (.tuple #[.int .i64 (p0 : Int), .int .i64 (-1)]) ∧ wr = w') := HBK
      replace HG : Hid (getF s = tokF (begF s p0)) := HG
      have hk9 : k ≤ 65535 := by
        have h1 := HAT.out.i
        have h2 := HAT.out.a
        rw [HUS.out, HLZ.out] at h2
        omega
      have HZY := Lib.hid (heap_alloc_new wr (.cells #[.int .i64 0, .int .i64 0, .int .i32 0, .int .i64 0, .string ⟨#[]⟩] 32))
      have HSY := Lib.hid (ysize 0 (p0 : Int) 0 0 ⟨#[]⟩)
      go_upto_region 12 with (first
        | (go_at_call 19; (with_reducible refine HBK.out.mono ?_); rintro e w' ⟨rfl, hw⟩; subst hw)
        | (with_reducible refine wpList_store_row rfl 32 _ _ rfl wr.heap.size #[.int .i64 0, .int .i64 (p0 : Int), .int .i32 0, .int .i64 0, .string ⟨#[]⟩] rfl rfl 32 _ HZY.out HSY.out rfl (by simp [Value.oneCell']) ?_))
      have HYX : Hid (((wr.alloc (.cells #[.int .i64 0, .int .i64 0, .int .i32 0, .int .i64 0, .string ⟨#[]⟩] 32)).setRow wr.heap.size #[.int .i64 0, .int .i64 (p0 : Int), .int .i32 0, .int .i64 0, .string ⟨#[]⟩]).heap[wr.heap.size]? = some (.cells #[.int .i64 0, .int .i64 (p0 : Int), .int .i32 0, .int .i64 0, .string ⟨#[]⟩] 32 (0, 0))) := Lib.hid (snsetRow_heap _ _ _ _ _ _ HZY.out)
      have HBX : Hid (Below wr.heap.size wr ((wr.alloc (.cells #[.int .i64 0, .int .i64 0, .int .i32 0, .int .i64 0, .string ⟨#[]⟩] 32)).setRow wr.heap.size #[.int .i64 0, .int .i64 (p0 : Int), .int .i32 0, .int .i64 0, .string ⟨#[]⟩])) := Lib.hid (snbelow_setRow ((Below.refl _ _).alloc (Nat.le_refl _) _) (Nat.le_refl _) _)
      have HQX := Lib.hid (HQ.out.next HBX.out)
      have hpy : p < wr.heap.size := HQ.out.plt
      generalize (wr.alloc (.cells #[.int .i64 0, .int .i64 0, .int .i32 0, .int .i64 0, .string ⟨#[]⟩] 32)).setRow wr.heap.size #[.int .i64 0, .int .i64 (p0 : Int), .int .i32 0, .int .i64 0, .string ⟨#[]⟩] = W1 at HYX HBX HQX ⊢
      obtain ⟨y, hy⟩ : ∃ y, y = wr.heap.size := ⟨_, rfl⟩
      rw [← hy] at HYX HBX hpy ⊢
      have HYE := Lib.hid hy
      clear HZY HSY HBK hy
      by_cases hend : n ≤ p0
      · obtain rfl : p0 = n := by omega
        have HGE := Lib.hid (show getF s = begF s p0 by rw [HG.out]; exact tok_end (by show s.src.length ≤ p0; rw [HSS.out, HLZ.out]; exact Nat.le_refl _))
        clear HG
        have HSY := Lib.hid (ysize (0) ((p0 : Int)) (0) (0) (⟨#[]⟩))
        have HQ5 := Lib.hid (HQX.out.next ((Below.refl _ _).alloc (Nat.le_refl _) (.cells #[.int .i64 0, .int .i64 (p0 : Int), .int .i32 0, .int .i64 0, .string ⟨#[]⟩] 32)))
        have HNW := Lib.hid (World.news_of_block (heap_alloc_new W1 (.cells #[.int .i64 0, .int .i64 (p0 : Int), .int .i32 0, .int .i64 0, .string ⟨#[]⟩] 32)))
        have H3 : Hid (∀ x ∈ ([.int .i64 0, .int .i64 (p0 : Int), .int .i32 0, .int .i64 0, .string ⟨#[]⟩] : List Value), x.oneCell' = true) := Lib.hid (by simp [Value.oneCell'])
        have HB5 := Lib.hid (show w.heap.size + 1 ≤ (W1.alloc (.cells #[.int .i64 0, .int .i64 (p0 : Int), .int .i32 0, .int .i64 0, .string ⟨#[]⟩] 32)).heap.size from Nat.lt_of_lt_of_le HQ5.out.lt (Nat.le_of_lt HQ5.out.plt))
        have c0 := (HQX.out.cell 0 _ rfl).1
        go_upto_region 14 with (first
          | (with_reducible refine wpList_load_row rfl 32 _ rfl y rfl 32 #[.int .i64 0, .int .i64 (p0 : Int), .int .i32 0, .int .i64 0, .string ⟨#[]⟩] (0, 0) _ HYX.out Tryz.underlying32 rfl HSY.out ?_)
          | (at_builtin; refine Ev.wpList_append_w rfl (.tmp 49) (.tmp 51) 26 26 rfl 32 i1 _ 48 Tryz.underlying26 Tryz.underlying26 hi1 hy0 hy1 hy2 rfl rfl HQ5.out.all ⟨W1.heap.size, 0, none⟩ 1 1 [.int .i64 0, .int .i64 (p0 : Int), .int .i32 0, .int .i64 0, .string ⟨#[]⟩] rfl rfl HNW.out H3.out (by omega) (by omega) (by omega) HB5.out _ rfl ?_; intro g9 f9 cap9 w9 hown hgrow hat9 hlt9; have HQ9 := Lib.hid (HQ5.out.app hown hgrow hat9); have c0 := (HQ5.out.app0 hgrow).1; have z0 := (HQ5.out.app0 hgrow).2; clear hown hgrow hat9))
        have HSZ := Lib.hid (rsize (.slice (some ⟨g9, f9, none⟩) (k + 1) cap9) nv 0 0)
        have HON := Lib.hid (rone HQ9.out 0 0)
        have HL : Hid ((w9.setCell ⟨p, 0, none⟩ (.slice (some ⟨g9, f9, none⟩) (k + 1) cap9)).heap[p]? = some (.cells #[.slice (some ⟨g9, f9, none⟩) (k + 1) cap9, nv, .int .i64 0, .int .i64 0] 29 (0, 0))) := Lib.hid HQ9.out.r
        have HO : Hid ((w9.setCell ⟨p, 0, none⟩ (.slice (some ⟨g9, f9, none⟩) (k + 1) cap9)).heap[w.heap.size]? = some (.cells #[.slice none 0 0, .slice none 0 0, .int .i64 0, .int .i64 0] 29 (0, 0))) := Lib.hid HQ9.out.o
        go_wp2_with (first
          | (with_reducible refine wpList_load_row rfl 29 _ rfl p rfl 29 #[.slice (some ⟨g9, f9, none⟩) (k + 1) cap9, nv, .int .i64 0, .int .i64 0] (0, 0) _ HL.out Tryz.underlying29 rfl HSZ.out ?_)
          | (with_reducible refine wpList_store_row rfl 29 _ _ rfl w.heap.size #[.slice (some ⟨g9, f9, none⟩) (k + 1) cap9, nv, .int .i64 0, .int .i64 0] rfl rfl 29 _ HO.out HSZ.out rfl HON.out ?_))
        exact bodyPost_ret (results_cell_row rfl _ _ w.heap.size 29 #[.slice (some ⟨g9, f9, none⟩) (k + 1) cap9, nv, .int .i64 0, .int .i64 0] (0, 0) _ rfl (snsetRow_heap _ _ _ _ _ _ HO.out) Tryz.underlying29 rfl HSZ.out) rfl (told_end HSE.out HJ.out HF.out HAT.out.c HGE.out (HQ9.out.fin0 _))
      have hp9 : p0 < n := by omega
      obtain ⟨xa, hxa, -, hcell⟩ := (HRD.out W1 HQX.out.b).2 (by omega)
      subst hxa
      have hc := hcell p0 hp9
      have HCL := Lib.hid hcell
      have HA1 := Lib.hid (fun k hk => qat_any (c := c) (HRD.out W1 HQX.out.b) hn k hk)
      obtain ⟨x0, hx0⟩ : ∃ x, x = nth zs p0 := ⟨_, rfl⟩
      obtain ⟨q0, hq0⟩ : ∃ q, q = begF s p0 := ⟨_, rfl⟩
      have HQ0 := Lib.hid hq0
      rw [← hx0] at hc
      have HX0 := Lib.hid hx0
      have hq1 : q0.src = zs := by rw [hq0]; exact HSS.out
      have hq2 : q0.at_ = p0 := by rw [hq0]; rfl
      have HK : Hid (getF s = if letB x0 then nameF q0 else if digB x0 then numF q0 else if x0 = 34 then textF q0 else signF q0) := Lib.hid (by
        rw [HG.out, ← hq0]
        unfold tokF
        rw [hq1, hq2, ← hx0, if_neg (by rw [HLZ.out]; omega)])
      have HQS := Lib.hid hq1
      have HQA := Lib.hid hq2
      have HQC : Hid (q0.code = 0 ∧ q0.nms = s.nms ∧ q0.pos = (p0 : Int) ∧ q0.val = 0 ∧ q0.id = 0 ∧ q0.txt = ⟨#[]⟩ ∧ q0.kw = 29) := Lib.hid (by
        rw [hq0]; exact ⟨HAT.out.c, rfl, rfl, rfl, rfl, rfl, HF.out.kw⟩)
      clear hcell hx0 hq0 hq1 hq2 HG hend
      have c2 := (HQX.out.cell 2 _ rfl).1
      have z2 := (HQX.out.cell 2 _ rfl).2
      have c3 := (HQX.out.cell 3 _ rfl).1
      have z3 := (HQX.out.cell 3 _ rfl).2
      have y0 := (qblock_cell (i := 0) HYX.out rfl).1
      have y2 := (qblock_cell (i := 2) HYX.out rfl).1
      have y3 := (qblock_cell (i := 3) HYX.out rfl).1
      have y4 := (qblock_cell (i := 4) HYX.out rfl).1
      have t0 := (qblock_cell (i := 0) HYX.out rfl).2
      have t2 := (qblock_cell (i := 2) HYX.out rfl).2
      have t3 := (qblock_cell (i := 3) HYX.out rfl).2
      have t4 := (qblock_cell (i := 4) HYX.out rfl).2
      cases hl : letB x0 with
      | true =>
        rename_i zz0 zz1 zz2 zz3 zz4 zz5 zz6 zz7
        revert w n c zs hn hcap u HUS HA0 HFT HBY HLZ i0 hi0 hz0 hsz0 hby0 i1 hi1 hy0 hy1 hy2 W0 g f cap w2 p zz0 zz1 wr u5 u6 u7 u8 u9 u10 u11 u12 u13 u14 u15 u16 u17 u18 u29 u30 u31 u32 u33 u34 u35 u36 u37 u38 u39 u40 u41 u42 u43 u44 u45 u46 u47 u48 u49 u50 u51 u52 u53 u54 u55 u56 u57 u58 u59 u60 u61 u62 u63 u64 u65 u66 u67 u68 u69 u70 u71 u72 u73 u74 u75 u76 u77 u78 u79 u80 u81 u82 u83 u84 u85 u86 u87 u88 u89 u90 u91 u92 u93 u94 u95 u96 u97 u98 u99 u100 u101 u102 u103 u104 u105 u106 u107 u108 u109 u110 u111 u112 u113 u114 u115 u116 u117 u118 u119 u120 u121 u122 u123 u124 u125 u126 u127 u128 u129 u130 u131 u132 u133 u134 u135 u136 u137 u138 u139 u140 u141 u142 u143 u144 u145 u146 u147 u148 u149 u150 u151 u152 u153 u154 u155 u156 u157 u158 u159 u160 u161 u162 u163 u164 u165 u166 u167 u168 u169 u170 u171 u172 u173 u174 u175 u176 u177 u178 u179 u180 u181 u182 u183 u184 u185 u186 u187 u188 u189 u190 u191 u192 u193 u194 u195 u196 u197 u198 u199 u200 u201 u202 u203 u204 u205 u206 u207 u208 u209 u210 u211 u212 u213 u214 u215 u216 u217 u218 u219 u220 u221 u222 u223 u224 u225 u226 u227 u228 u229 u230 u231 u232 u233 u234 u235 u236 u237 u238 u239 k v nv zz2 s HQ HF HSE HJ HAT HSS a ha1 HGS HAE p0 hpn hk9 zz3 zz4 W1 HQX y hpy HBX HYX HYE hp9 xa HRD HBK zz5 zz6 zz7 HCL HA1 x0 hc q0 HQ0 HX0 HK HQS HQA HQC c2 z2 c3 z3 y0 y2 y3 y4 t0 t2 t3 t4 hl
        exact HL.out
      | false =>
        cases hd : digB x0 with
        | true =>
          clear HL HT
          rw [hl, hd, if_neg (by simp), if_pos rfl, numF_eq, HQS.out, HQA.out] at HK
          have HNM := Lib.hid (qnum_any (c := c) (HRD.out W1 HQX.out.b) hn p0 hp9)
          obtain ⟨sg, hsg⟩ : ∃ x, x = nuSym zs p0 := ⟨_, rfl⟩
          obtain ⟨en, hen⟩ : ∃ x, x = nuEnd zs p0 := ⟨_, rfl⟩
          obtain ⟨vl, hvl⟩ : ∃ x, x = nuVal zs p0 := ⟨_, rfl⟩
          have HSG : Hid (sg ≠ 0) := Lib.hid (by rw [hsg]; unfold nuSym; split <;> decide)
          unfold NumR at HNM
          rw [← hsg, ← hen, ← hvl] at HK HNM
          clear hsg hen hvl
          cases vl with
          | none =>
            have HNM : Hid (Calls Tryz.prog 23 #[.slice (some xa) n c, .int .i64 (p0 : Int)] W1 fun e w' => (∃ x : Int, e = .returned (.tuple #[.int .i64 sg, .int .i32 x, .int .i64 (en : Int), .bool false]) ∧ ∀ y, none = some y → x = wrap32 y) ∧ W1 = w') := HNM
            have HFIN := Lib.hid (HQX.out.fin 2 (p0 : Int))
            have HL : Hid (((W1.setCell ⟨p, 2, none⟩ (.int .i64 2)).setCell ⟨p, 3, none⟩ (.int .i64 (p0 : Int))).heap[p]? = some (.cells #[v, nv, .int .i64 2, .int .i64 (p0 : Int)] 29 (0, 0))) := Lib.hid HFIN.out.1
            have HO : Hid (((W1.setCell ⟨p, 2, none⟩ (.int .i64 2)).setCell ⟨p, 3, none⟩ (.int .i64 (p0 : Int))).heap[w.heap.size]? = some (.cells #[.slice none 0 0, .slice none 0 0, .int .i64 0, .int .i64 0] 29 (0, 0))) := Lib.hid HFIN.out.2.1
            have HSZ := Lib.hid (rsize v nv 2 (p0 : Int))
            have HON := Lib.hid (rone HQX.out 2 (p0 : Int))
            go_wp2_with (first
              | (go_at_call 20; (with_reducible refine (qletter_any _ _).mono ?_); rintro e w' ⟨rfl, rfl⟩; rw [hl])
              | (go_at_call 22; (with_reducible refine (qdigit_any _ _).mono ?_); rintro e w' ⟨rfl, rfl⟩; rw [hd])
              | (go_at_call 23; (with_reducible refine HNM.out.mono ?_); rintro e w' ⟨⟨xv, rfl, hxv⟩, hw⟩; subst hw; clear hxv)
              | (with_reducible refine wpList_load_row rfl 29 _ rfl p rfl 29 #[v, nv, .int .i64 2, .int .i64 (p0 : Int)] (0, 0) _ HL.out Tryz.underlying29 rfl HSZ.out ?_)
              | (with_reducible refine wpList_store_row rfl 29 _ _ rfl w.heap.size #[v, nv, .int .i64 2, .int .i64 (p0 : Int)] rfl rfl 29 _ HO.out HSZ.out rfl HON.out ?_))
            exact bodyPost_ret (results_cell_row rfl _ _ w.heap.size 29 #[v, nv, .int .i64 2, .int .i64 (p0 : Int)] (0, 0) _ rfl (snsetRow_heap _ _ _ _ _ _ HO.out) Tryz.underlying29 rfl HSZ.out) rfl (told_err (X := { q0 with src := zs, sym := sg, at_ := en }) HSE.out HJ.out (by rw [HK.out]; show markF _ 2 q0.pos = _; rw [HQC.out.2.2.1]) HQC.out.1 (by decide) HQC.out.2.1 (HFIN.out.2.2 _))
          | some vy =>
            have HNM : Hid (Calls Tryz.prog 23 #[.slice (some xa) n c, .int .i64 (p0 : Int)] W1 fun e w' => (∃ x : Int, e = .returned (.tuple #[.int .i64 sg, .int .i32 x, .int .i64 (en : Int), .bool true]) ∧ ∀ y, some vy = some y → x = wrap32 y) ∧ W1 = w') := HNM
            go_upto_region 63 with (first
              | (go_at_call 20; (with_reducible refine (qletter_any _ _).mono ?_); rintro e w' ⟨rfl, rfl⟩; rw [hl])
              | (go_at_call 22; (with_reducible refine (qdigit_any _ _).mono ?_); rintro e w' ⟨rfl, rfl⟩; rw [hd])
              | (go_at_call 23; (with_reducible refine HNM.out.mono ?_); rintro e w' ⟨⟨xv, rfl, hxv⟩, hw⟩; subst hw; have HXV := Lib.hid (hxv _ rfl); clear hxv))
            have HYZ : Hid (((W1.setCell ⟨y, 0, none⟩ (.int .i64 sg)).setCell ⟨y, 2, none⟩ (.int .i32 xv)).heap[y]? = some (.cells #[.int .i64 sg, .int .i64 (p0 : Int), .int .i32 xv, .int .i64 0, .string ⟨#[]⟩] 32 (0, 0))) := Lib.hid (by
              rw [(qset_block (qset_block HYX.out))]; rfl)
            have HBZ : Hid (Below y wr ((W1.setCell ⟨y, 0, none⟩ (.int .i64 sg)).setCell ⟨y, 2, none⟩ (.int .i32 xv))) := Lib.hid (Below.setCell (p := ⟨y, 2, none⟩) (Below.setCell (p := ⟨y, 0, none⟩) HBX.out (Nat.le_refl _) (.int .i64 sg)) (Nat.le_refl _) (.int .i32 xv))
            generalize (W1.setCell ⟨y, 0, none⟩ (.int .i64 sg)).setCell ⟨y, 2, none⟩ (.int .i32 xv) = W2 at HYZ HBZ ⊢
            replace HYX := HYZ
            have HQX := Lib.hid (HQ.out.next (by have := HBZ.out; rw [HYE.out] at this; exact this))
            clear HYZ y0 y2 y3 y4 t0 t2 t3 t4 c2 z2 c3 z3 hc
            have HSY := Lib.hid (ysize (sg) ((p0 : Int)) (xv) (0) (⟨#[]⟩))
            have HQ5 := Lib.hid (HQX.out.next ((Below.refl _ _).alloc (Nat.le_refl _) (.cells #[.int .i64 sg, .int .i64 (p0 : Int), .int .i32 xv, .int .i64 0, .string ⟨#[]⟩] 32)))
            have HNW := Lib.hid (World.news_of_block (heap_alloc_new W2 (.cells #[.int .i64 sg, .int .i64 (p0 : Int), .int .i32 xv, .int .i64 0, .string ⟨#[]⟩] 32)))
            have H3 : Hid (∀ x ∈ ([.int .i64 sg, .int .i64 (p0 : Int), .int .i32 xv, .int .i64 0, .string ⟨#[]⟩] : List Value), x.oneCell' = true) := Lib.hid (by simp [Value.oneCell'])
            have HB5 := Lib.hid (show w.heap.size + 1 ≤ (W2.alloc (.cells #[.int .i64 sg, .int .i64 (p0 : Int), .int .i32 xv, .int .i64 0, .string ⟨#[]⟩] 32)).heap.size from Nat.lt_of_lt_of_le HQ5.out.lt (Nat.le_of_lt HQ5.out.plt))
            have c0 := (HQX.out.cell 0 _ rfl).1
            go_wp2_with (first
              | (with_reducible refine wpList_load_row rfl 32 _ rfl y rfl 32 #[.int .i64 sg, .int .i64 (p0 : Int), .int .i32 xv, .int .i64 0, .string ⟨#[]⟩] (0, 0) _ HYX.out Tryz.underlying32 rfl HSY.out ?_)
              | (at_builtin; refine Ev.wpList_append_w rfl (.tmp 235) (.tmp 237) 26 26 rfl 32 i1 _ 48 Tryz.underlying26 Tryz.underlying26 hi1 hy0 hy1 hy2 rfl rfl HQ5.out.all ⟨W2.heap.size, 0, none⟩ 1 1 [.int .i64 sg, .int .i64 (p0 : Int), .int .i32 xv, .int .i64 0, .string ⟨#[]⟩] rfl rfl HNW.out H3.out (by omega) (by omega) (by omega) HB5.out _ rfl ?_; intro g9 f9 cap9 w9 hown hgrow hat9 hlt9; have HQ9 := Lib.hid (HQ5.out.app hown hgrow hat9); have c0 := (HQ5.out.app0 hgrow).1; have z0 := (HQ5.out.app0 hgrow).2; clear hown hgrow hat9))
            have HGF : Hid (getF s = { q0 with src := zs, sym := sg, at_ := en, val := xv }) := Lib.hid (by rw [HK.out, HXV.out]; rfl)
            have hme := HGS.out (by rw [HGF.out]; exact HSG.out)
            rw [HGF.out] at hme
            have hm1 : a < en := hme.1
            have hm2 : en ≤ n := hme.2
            refine ⟨Lib.hid (far_step (F := { q0 with src := zs, sym := sg, at_ := en, val := xv }) (v := .slice (some ⟨g9, f9, none⟩) (k + 1) cap9) (nv := nv) HSE.out HJ.out HGF.out HSG.out ?_), by simp [intOf]; omega⟩
            have HQ10 := HQ9.out
            rw [← HQC.out.2.1] at HQ10
            have e9 : (symC { q0 with src := zs, sym := sg, at_ := en, val := xv }).toList = [.int .i64 sg, .int .i64 (p0 : Int), .int .i32 xv, .int .i64 0, .string ⟨#[]⟩] := by
              unfold symC
              simp only [HQC.out.2.2.1, HQC.out.2.2.2.1, HQC.out.2.2.2.2.1, HQC.out.2.2.2.2.2.1]
            rw [e9]
            exact HQ10
        | false =>
          by_cases h34 : x0 = 34
          · subst h34
            rename_i zz0 zz1 zz2 zz3 zz4 zz5 zz6 zz7
            revert w n c zs hn hcap u HUS HA0 HFT HBY HLZ i0 hi0 hz0 hsz0 hby0 i1 hi1 hy0 hy1 hy2 W0 g f cap w2 p zz0 zz1 wr u5 u6 u7 u8 u9 u10 u11 u12 u13 u14 u15 u16 u17 u18 u29 u30 u31 u32 u33 u34 u35 u36 u37 u38 u39 u40 u41 u42 u43 u44 u45 u46 u47 u48 u49 u50 u51 u52 u53 u54 u55 u56 u57 u58 u59 u60 u61 u62 u63 u64 u65 u66 u67 u68 u69 u70 u71 u72 u73 u74 u75 u76 u77 u78 u79 u80 u81 u82 u83 u84 u85 u86 u87 u88 u89 u90 u91 u92 u93 u94 u95 u96 u97 u98 u99 u100 u101 u102 u103 u104 u105 u106 u107 u108 u109 u110 u111 u112 u113 u114 u115 u116 u117 u118 u119 u120 u121 u122 u123 u124 u125 u126 u127 u128 u129 u130 u131 u132 u133 u134 u135 u136 u137 u138 u139 u140 u141 u142 u143 u144 u145 u146 u147 u148 u149 u150 u151 u152 u153 u154 u155 u156 u157 u158 u159 u160 u161 u162 u163 u164 u165 u166 u167 u168 u169 u170 u171 u172 u173 u174 u175 u176 u177 u178 u179 u180 u181 u182 u183 u184 u185 u186 u187 u188 u189 u190 u191 u192 u193 u194 u195 u196 u197 u198 u199 u200 u201 u202 u203 u204 u205 u206 u207 u208 u209 u210 u211 u212 u213 u214 u215 u216 u217 u218 u219 u220 u221 u222 u223 u224 u225 u226 u227 u228 u229 u230 u231 u232 u233 u234 u235 u236 u237 u238 u239 k v nv zz2 s HQ HF HSE HJ HAT HSS a ha1 HGS HAE p0 hpn hk9 zz3 zz4 W1 HQX y hpy HBX HYX HYE hp9 xa HRD HBK zz5 zz6 zz7 HCL HA1 q0 HQ0 HQS HQA HQC c2 z2 c3 z3 y0 y2 y3 y4 t0 t2 t3 t4 hc HX0 HK hl hd
            exact HT.out
          · have h34b : (x0 == 34) = false := by simpa using h34
            clear HL HT
            rw [hl, hd, if_neg (by simp), if_neg (by simp), if_neg h34, signF_eq, HQS.out, HQA.out, ← HX0.out] at HK
            have HSN := Lib.hid (qsign_any (c := c) (HRD.out W1 HQX.out.b) hn p0 hp9)
            rw [← HX0.out] at HSN
            obtain ⟨sg, hsg⟩ : ∃ x, x = (sgR x0 (nth zs (p0 + 1))).1 := ⟨_, rfl⟩
            obtain ⟨sl, hsl⟩ : ∃ x, x = (sgR x0 (nth zs (p0 + 1))).2 := ⟨_, rfl⟩
            rw [← hsg, ← hsl] at HK HSN
            obtain ⟨en, hen⟩ : ∃ x, x = p0 + sl := ⟨_, rfl⟩
            rw [← hen] at HK HSN
            have hy9 : y < W1.heap.size := (Array.getElem?_eq_some_iff.1 HYX.out).1
            have hpw := HQX.out.plt
            have HYS := Lib.hid hy9
            clear hsg hsl hen h34 hy9 hpw
            by_cases hs0 : sg = 0
            · subst hs0
              rw [if_pos rfl] at HK
              go_upto_region 16 with (first
                | (go_at_call 20; (with_reducible refine (qletter_any _ _).mono ?_); rintro e w' ⟨rfl, rfl⟩; rw [hl])
                | (go_at_call 22; (with_reducible refine (qdigit_any _ _).mono ?_); rintro e w' ⟨rfl, rfl⟩; rw [hd])
                | (go_at_call 24; (with_reducible refine HSN.out.mono ?_); rintro e w3 ⟨rfl, hb3⟩; have HB3 := Lib.hid hb3; clear hb3))
              replace HQX := Lib.hid (HQX.out.next HB3.out)
              clear c2 z2 c3 z3 y0 y2 y3 y4 t0 t2 t3 t4 hc
              have c2 := (HQX.out.cell 2 _ rfl).1
              have z2 := (HQX.out.cell 2 _ rfl).2
              have c3 := (HQX.out.cell 3 _ rfl).1
              have z3 := (HQX.out.cell 3 _ rfl).2
              have HFIN := Lib.hid (HQX.out.fin 1 (p0 : Int))
              have HL : Hid (((w3.setCell ⟨p, 2, none⟩ (.int .i64 1)).setCell ⟨p, 3, none⟩ (.int .i64 (p0 : Int))).heap[p]? = some (.cells #[v, nv, .int .i64 1, .int .i64 (p0 : Int)] 29 (0, 0))) := Lib.hid HFIN.out.1
              have HO : Hid (((w3.setCell ⟨p, 2, none⟩ (.int .i64 1)).setCell ⟨p, 3, none⟩ (.int .i64 (p0 : Int))).heap[w.heap.size]? = some (.cells #[.slice none 0 0, .slice none 0 0, .int .i64 0, .int .i64 0] 29 (0, 0))) := Lib.hid HFIN.out.2.1
              have HSZ := Lib.hid (rsize v nv 1 (p0 : Int))
              have HON := Lib.hid (rone HQX.out 1 (p0 : Int))
              go_wp2_with (first
                | fail
                | (with_reducible refine wpList_load_row rfl 29 _ rfl p rfl 29 #[v, nv, .int .i64 1, .int .i64 (p0 : Int)] (0, 0) _ HL.out Tryz.underlying29 rfl HSZ.out ?_)
                | (with_reducible refine wpList_store_row rfl 29 _ _ rfl w.heap.size #[v, nv, .int .i64 1, .int .i64 (p0 : Int)] rfl rfl 29 _ HO.out HSZ.out rfl HON.out ?_))
              exact bodyPost_ret (results_cell_row rfl _ _ w.heap.size 29 #[v, nv, .int .i64 1, .int .i64 (p0 : Int)] (0, 0) _ rfl (snsetRow_heap _ _ _ _ _ _ HO.out) Tryz.underlying29 rfl HSZ.out) rfl (told_err (X := q0) HSE.out HJ.out (by rw [HK.out, HQC.out.2.2.1]) HQC.out.1 (by decide) HQC.out.2.1 (HFIN.out.2.2 _))
            · rw [if_neg hs0] at HK
              have hs0b : (sg == 0) = false := by simpa using hs0
              have HSG := Lib.hid hs0
              clear hs0
              go_upto_region 16 with (first
                | (go_at_call 20; (with_reducible refine (qletter_any _ _).mono ?_); rintro e w' ⟨rfl, rfl⟩; rw [hl])
                | (go_at_call 22; (with_reducible refine (qdigit_any _ _).mono ?_); rintro e w' ⟨rfl, rfl⟩; rw [hd])
                | (go_at_call 24; (with_reducible refine HSN.out.mono ?_); rintro e w3 ⟨rfl, hb3⟩; have HB3 := Lib.hid hb3; clear hb3))
              replace HQX := Lib.hid (HQX.out.next HB3.out)
              replace HYX := Lib.hid ((HB3.out.block y HYS.out).trans HYX.out)
              replace HBX := Lib.hid (HBX.out.trans (HB3.out.mono (Nat.le_of_lt HYS.out)))
              clear c2 z2 c3 z3 y0 y2 y3 y4 t0 t2 t3 t4 hc
              have y0 := (qblock_cell (i := 0) HYX.out rfl).1
              have t0 := (qblock_cell (i := 0) HYX.out rfl).2
              go_upto_region 63 with (fail)
              have HYZ : Hid ((w3.setCell ⟨y, 0, none⟩ (.int .i64 sg)).heap[y]? = some (.cells #[.int .i64 sg, .int .i64 (p0 : Int), .int .i32 0, .int .i64 0, .string ⟨#[]⟩] 32 (0, 0))) := Lib.hid (by
                rw [(qset_block HYX.out)]; rfl)
              have HBZ : Hid (Below y wr (w3.setCell ⟨y, 0, none⟩ (.int .i64 sg))) := Lib.hid (Below.setCell (p := ⟨y, 0, none⟩) HBX.out (Nat.le_refl _) (.int .i64 sg))
              generalize w3.setCell ⟨y, 0, none⟩ (.int .i64 sg) = W2 at HYZ HBZ ⊢
              replace HYX := HYZ
              have HQX := Lib.hid (HQ.out.next (by have := HBZ.out; rw [HYE.out] at this; exact this))
              clear HYZ y0 t0
              have HSY := Lib.hid (ysize (sg) ((p0 : Int)) (0) (0) (⟨#[]⟩))
              have HQ5 := Lib.hid (HQX.out.next ((Below.refl _ _).alloc (Nat.le_refl _) (.cells #[.int .i64 sg, .int .i64 (p0 : Int), .int .i32 0, .int .i64 0, .string ⟨#[]⟩] 32)))
              have HNW := Lib.hid (World.news_of_block (heap_alloc_new W2 (.cells #[.int .i64 sg, .int .i64 (p0 : Int), .int .i32 0, .int .i64 0, .string ⟨#[]⟩] 32)))
              have H3 : Hid (∀ x ∈ ([.int .i64 sg, .int .i64 (p0 : Int), .int .i32 0, .int .i64 0, .string ⟨#[]⟩] : List Value), x.oneCell' = true) := Lib.hid (by simp [Value.oneCell'])
              have HB5 := Lib.hid (show w.heap.size + 1 ≤ (W2.alloc (.cells #[.int .i64 sg, .int .i64 (p0 : Int), .int .i32 0, .int .i64 0, .string ⟨#[]⟩] 32)).heap.size from Nat.lt_of_lt_of_le HQ5.out.lt (Nat.le_of_lt HQ5.out.plt))
              have c0 := (HQX.out.cell 0 _ rfl).1
              go_wp2_with (first
                | (with_reducible refine wpList_load_row rfl 32 _ rfl y rfl 32 #[.int .i64 sg, .int .i64 (p0 : Int), .int .i32 0, .int .i64 0, .string ⟨#[]⟩] (0, 0) _ HYX.out Tryz.underlying32 rfl HSY.out ?_)
                | (at_builtin; refine Ev.wpList_append_w rfl (.tmp 235) (.tmp 237) 26 26 rfl 32 i1 _ 48 Tryz.underlying26 Tryz.underlying26 hi1 hy0 hy1 hy2 rfl rfl HQ5.out.all ⟨W2.heap.size, 0, none⟩ 1 1 [.int .i64 sg, .int .i64 (p0 : Int), .int .i32 0, .int .i64 0, .string ⟨#[]⟩] rfl rfl HNW.out H3.out (by omega) (by omega) (by omega) HB5.out _ rfl ?_; intro g9 f9 cap9 w9 hown hgrow hat9 hlt9; have HQ9 := Lib.hid (HQ5.out.app hown hgrow hat9); have c0 := (HQ5.out.app0 hgrow).1; have z0 := (HQ5.out.app0 hgrow).2; clear hown hgrow hat9))
              have HGF : Hid (getF s = { q0 with src := zs, sym := sg, at_ := en }) := Lib.hid HK.out
              have hme := HGS.out (by rw [HGF.out]; exact HSG.out)
              rw [HGF.out] at hme
              have hm1 : a < en := hme.1
              have hm2 : en ≤ n := hme.2
              refine ⟨Lib.hid (far_step (F := { q0 with src := zs, sym := sg, at_ := en }) (v := .slice (some ⟨g9, f9, none⟩) (k + 1) cap9) (nv := nv) HSE.out HJ.out HGF.out HSG.out ?_), by simp [intOf]; omega⟩
              have HQ10 := HQ9.out
              rw [← HQC.out.2.1] at HQ10
              have e9 : (symC { q0 with src := zs, sym := sg, at_ := en }).toList = [.int .i64 sg, .int .i64 (p0 : Int), .int .i32 0, .int .i64 0, .string ⟨#[]⟩] := by
                unfold symC
                simp only [HQC.out.2.2.1, HQC.out.2.2.2.1, HQC.out.2.2.2.2.1, HQC.out.2.2.2.2.2.1]
              rw [e9]
              exact HQ10
  : ∀ (w : World) (A : Option Addr) (n c : Nat) (zs : List Int), Rd w w.heap.size .u8 A n zs → n ≤ 65535 → n ≤ c → (∀ x ∈ zs, 0 ≤ x ∧ x < 256) → Calls Tryz.prog 7 #[.slice A n c] w (Told11 { wsF 57 29 with src := zs } w))
end Go.Proofs.YthpdgghjaglhnaaGreatDoor
