/-
  Texts and acts at their bounds.
-/
import Derived.Test.YtlodoilihminaaaDoorScrZP
import Derived.Deep.AppendSrc
import Derived.Laws.MakeOwn
namespace Go.Proofs.YtlodoilihminaaaDoor
open Go.ChangeShapes Go.WideShapes Go.ChangeAt Go.RowKit
set_option linter.unusedVariables false
set_option linter.unusedSimpArgs false
set_option maxRecDepth 100000
/-! ### acts -/
def zsR (n : Nat) : List Int := List.replicate n 0
def putA (n : Nat) : Ac := ⟨1, [97], zsR n, [], 0, 0⟩
def addZ : List Int := [49, 50, 51, 52, 53, 54, 55, 56, 57, 48, 49, 50, 51, 52, 53, 54, 55, 56, 57, 48, 49, 50, 51, 52, 53, 54, 55, 56, 57, 48, 49, 50, 51, 52, 53, 54, 55, 56, 57, 48, 49, 50, 51, 52, 53, 54, 55, 56, 57, 48, 49, 50, 51, 52, 53, 54, 55, 56, 57, 48, 49, 50, 51, 52, 53, 54, 55, 56, 57, 48, 49, 50, 51, 52, 53, 54, 55, 56, 57, 48, 49, 50, 51, 52, 53, 54, 55, 56, 57, 48, 49, 50, 51, 52, 53, 54, 55, 56, 57, 48, 49, 50, 51, 52, 53, 54, 55, 56, 57, 48, 49, 50, 51, 52, 53, 54, 55, 56, 57, 48, 49, 50, 51, 52, 53, 54, 55, 56, 57, 48, 49, 50, 51, 52, 53, 54, 55, 56, 57, 48, 49, 50, 51, 52, 53, 54, 55, 56, 57, 48, 49, 50, 51, 52, 53, 54, 55, 56, 57, 48, 49, 50, 51, 52, 53, 54, 55, 56, 57, 48, 49, 50, 51, 52, 53, 54, 55, 56, 57, 48, 49, 50, 51, 52, 53, 54, 55, 56, 57, 48, 49, 50, 51, 52, 53, 54, 55, 56, 57, 48]
def addA (zs : List Int) : Ac := ⟨2, [97], zs, [], 0, 0⟩
def ownA : Ac := ⟨7, [], [], [], 0, 0⟩
theorem fn_a : fnB [97] = true := by decide
theorem put_may (n : Nat) : (putA n).may = decide (n ≤ 65536) := by
  show (fnB [97] && (decide ((zsR n).length ≤ 65536) && (true && (decide ((0 : Int) = 0) && decide ((0 : Int) = 0))))) = _
  rw [fn_a, show (zsR n).length = n by unfold zsR; simp]
  simp
theorem add_may (zs : List Int) (h : ∀ x ∈ zs, 32 ≤ x ∧ x ≤ 126) : (addA zs).may = decide (zs.length ≤ 200) := by
  show (fnB [97] && (plnB zs && (true && (decide ((0 : Int) = 0) && decide ((0 : Int) = 0))))) = _
  have h2 : zs.all (fun c => decide (32 ≤ c ∧ c ≤ 126)) = true := List.all_eq_true.2 fun x hx => by simpa using h x hx
  rw [fn_a]
  unfold plnB
  rw [h2]
  simp
theorem addZ_ok : ∀ x ∈ addZ, 32 ≤ x ∧ x ≤ 126 := by decide
theorem addZ_len : addZ.length = 200 := by decide
theorem own_may : ownA.may = true := by decide
theorem rep_may (n : Nat) (a : Ac) (h : a.may = true) : (List.replicate n a).all Ac.may = true := List.all_eq_true.2 fun x hx => by rw [(List.mem_replicate.1 hx).2]; exact h
theorem lines_rep (n : Nat) (a : Ac) : (linesT (List.replicate n a)).length = n * (a.txt.length + 1) := by
  induction n with
  | zero => simp [linesT]
  | succ n ih =>
    rw [List.replicate_succ]
    unfold linesT at ih ⊢
    rw [List.flatMap_cons, List.length_append, ih, List.length_append, List.length_singleton, Nat.succ_mul]
    omega
theorem itoa_zero : Lib.itoa 0 = [48] := by
  unfold Lib.itoa
  rw [if_neg (by decide)]
  exact Lib.decDigits_one (by omega)
theorem cap_zero : (capT 0).length = 11 := by unfold capT; rw [itoa_zero]; rfl
theorem capB_zero : capB 0 = true := by decide
theorem scT_rep (n : Nat) (a : Ac) : (scT 0 (List.replicate n a)).length = 11 + n * (a.txt.length + 1) := by
  unfold scT
  rw [List.length_append, cap_zero, lines_rep]
theorem own_len : ownA.txt.length = 3 := by decide
theorem own_ok (n : Nat) (h : n ≤ 4096) : scE 0 (List.replicate n ownA) = 0 := by
  rw [scE_all capB_zero (rep_may n ownA own_may), scT_rep, own_len, List.length_replicate, if_pos ⟨h, by omega⟩]
theorem own_long (n : Nat) (h : 4096 < n) : scE 0 (List.replicate n ownA) = 3 := by
  rw [scE_all capB_zero (rep_may n ownA own_may), List.length_replicate, if_neg (by omega)]
theorem hx_len : ∀ b : List Int, (b.flatMap hx2).length = 2 * b.length
  | [] => rfl
  | c :: b => by rw [List.flatMap_cons, List.length_append, hx_len b, List.length_cons]; show 2 + _ = _; omega
theorem put_len (n : Nat) (h : 0 < n) : (putA n).txt.length = 6 + 2 * n := by
  show (wPut ++ (32 :: [97] ++ (32 :: hxT (zsR n)))).length = _
  have h1 : (hxT (zsR n)).length = 2 * n := by
    unfold hxT
    rw [if_neg (by unfold zsR; simp; omega), hx_len]
    unfold zsR
    simp
  simp only [List.length_append, List.length_cons, List.length_nil, h1, show wPut.length = 3 from rfl]
  omega
theorem puts_long : scE 0 (List.replicate 32 (putA 65536)) = 3 := by
  rw [scE_all capB_zero (rep_may 32 _ (by rw [put_may]; decide)), scT_rep, put_len 65536 (by omega), if_neg (by omega)]
theorem own_b (n : Nat) : ∀ a ∈ List.replicate n ownA, ∀ x ∈ a.bytes, 0 ≤ x ∧ x < 256 := fun a ha x hx => by
  rw [(List.mem_replicate.1 ha).2] at hx
  cases hx
theorem goL_stop : ∀ (xs : List (List UInt8)) (y : List UInt8) (ys : List (List UInt8)) (i : Nat) (r : List UInt8), (∀ j x, xs[j]? = some x → lineOk (i + j) x = true) → lineOk (i + xs.length) y = false → goL i (xs ++ y :: ys) r = some (i + xs.length)
  | [], y, ys, i, r, _, h => by
    rw [List.nil_append]
    unfold goL
    rw [if_neg (by rw [show lineOk i y = false by simpa using h]; decide)]
    rfl
  | x :: xs, y, ys, i, r, h1, h2 => by
    rw [List.cons_append]
    unfold goL
    rw [if_pos (by simpa using h1 0 x rfl), goL_stop xs y ys (i + 1) r (fun j z hz => by have := h1 (j + 1) z (by simpa using hz); rwa [show i + 1 + j = i + (j + 1) by omega]) (by rw [List.length_cons] at h2; rwa [show i + 1 + xs.length = i + (xs.length + 1) by omega]), List.length_cons]
    congr 1
    omega
theorem scT_more (n : Nat) : scT 0 (List.replicate n ownA) ++ [111, 119, 110, 10] = scT 0 (List.replicate (n + 1) ownA) := by
  rw [List.replicate_succ']
  unfold scT
  rw [linesT_app, List.append_assoc]
  rfl
/-- one line too many -/
theorem own_more : parN (scT 0 (List.replicate 4097 ownA)) = 4097 ∧ parX (scT 0 (List.replicate 4097 ownA)) = 4 ∧ parC (scT 0 (List.replicate 4097 ownA)) = 0 ∧ parL (scT 0 (List.replicate 4097 ownA)) = [] := by
  have h10 : ∀ x ∈ lnsOf 0 (List.replicate 4097 ownA), ∀ c ∈ x, c ≠ 10 := by
    intro x hx
    unfold lnsOf at hx
    rw [List.mem_cons] at hx
    rcases hx with rfl | hx
    · exact app_10 (by decide) (cons_10 (itoa_10 0))
    · obtain ⟨a, ha, rfl⟩ := List.mem_map.1 hx
      rw [(List.mem_replicate.1 ha).2]
      decide
  have h5 := lnF_end (lnsOf 0 (List.replicate 4097 ownA)) h10 [] (by simp)
  rw [List.append_nil, ← scT_end] at h5
  have hsp : lnsOf 0 (List.replicate 4097 ownA) = (cap0 0 :: List.replicate 4096 ownA.txt) ++ [ownA.txt] := by
    unfold lnsOf
    rw [List.map_replicate, show (4097 : Nat) = 4096 + 1 from rfl, List.replicate_succ', List.cons_append]
  have hr : readB ownA.txt = true := (rdA_txt own_may (fun x hx => by cases hx)).1
  have hpe : parE (scT 0 (List.replicate 4097 ownA)) = some 4097 := by
    unfold parE
    rw [h5]
    show goL 0 (lnsOf 0 (List.replicate 4097 ownA)) [] = _
    rw [hsp, goL_stop]
    · rw [List.length_cons, List.length_replicate]
    · intro j x hx
      cases j with
      | zero =>
        simp only [List.getElem?_cons_zero, Option.some.injEq] at hx
        subst hx
        unfold lineOk
        rw [if_pos (by omega), (c_cap0 0).1, (c_cap0 0).2, numOf_cap capB_zero, capB_zero]
        simp
      | succ j =>
        rw [List.getElem?_cons_succ] at hx
        have hlt := (List.getElem?_eq_some_iff.1 hx).1
        rw [List.length_replicate] at hlt
        have he : x = ownA.txt := (List.mem_replicate.1 (List.mem_of_getElem? hx)).2
        rw [he]
        unfold lineOk
        rw [if_neg (by omega), hr]
        simp
        omega
    · unfold lineOk
      rw [if_neg (by simp), hr, List.length_cons, List.length_replicate]
      simp
  obtain ⟨p1, p2, p3, p4⟩ := par_no hpe
  exact ⟨p3, p4, p1, p2⟩
/-! ### rows -/
theorem zu8_info : (Tryd.prog.info? 5).map (fun i => (i.zero, i.size, i.bytes)) = some (some (.int .u8 0), 1, 1) := by kernel_rfl
@[irreducible] def rowZ (n : Nat) : Array Value := madeCells #[.int .u8 0] n
theorem zmake_run (n : Nat) (hn : n ≤ 16777216) (W : World) : (Instr.makeSlice 23 (.int .i64 (n : Int)) (.int .i64 (n : Int))).run Tryd.prog W = .ok (.slice (some ⟨W.heap.size, 0, none⟩) n n) (W.alloc (.cells (rowZ n) 5)) := by
  obtain ⟨i, e1, h0, h1, h2⟩ := inf_parts zu8_info
  have := run_make (P := Tryd.prog) W 23 5 i (.int .u8 0) Tryd.underlying23 e1 h0 .i64 .i64 (n : Int) (n : Int) (by omega) (Int.le_refl _) (by rw [h2]; omega) (by omega)
  rw [h1, Int.toNat_natCast, Nat.mul_one] at this
  unfold rowZ
  exact this
theorem rowZ_get (n i : Nat) (h : i < n) : (rowZ n)[i]? = some (.int .u8 0) := by
  have : i % 1 = 0 := by omega
  unfold rowZ
  simp [madeCells, h, this]
theorem rowZ_rd {X : World} {g n : Nat} (h : X.heap[g]? = some (.cells (rowZ n) 5 (0, 0))) : Rd X X.heap.size .u8 (some ⟨g, 0, none⟩) n (zsR n) := by
  refine ⟨by unfold zsR; simp, fun h0 => ⟨_, rfl, (Array.getElem?_eq_some_iff.1 h).1, fun i hi => ?_⟩⟩
  rw [Addr.add_lit, Nat.zero_add, World.cell?, h]
  show (rowZ n)[i]? = _
  rw [rowZ_get n i hi, nth_eq _ _ (by unfold zsR; simpa using hi)]
  unfold zsR
  simp
theorem list_rd {X : World} {g : Nat} {fr : Nat × Nat} (zs : List Int) (h : X.heap[g]? = some (.cells (zs.map (Value.int .u8)).toArray 5 fr)) : Rd X X.heap.size .u8 (some ⟨g, 0, none⟩) zs.length zs := by
  refine ⟨rfl, fun h0 => ⟨_, rfl, (Array.getElem?_eq_some_iff.1 h).1, fun i hi => ?_⟩⟩
  rw [Addr.add_lit, Nat.zero_add, World.cell?, h]
  show (zs.map (Value.int .u8)).toArray[i]? = _
  rw [List.getElem?_toArray, List.getElem?_map, List.getElem?_eq_getElem hi, nth_eq _ _ hi]
  rfl
/-- an append onto a slice that is full -/
theorem run_append_full {P : Program} {w : World} {M : Nat} {t ty e : TypeId} {i : TypeInfo} {z : Value} (ht : P.underlying t = some (.slice e)) (hi : P.info? e = some i) (hz : i.zero = some z) (hsize : i.size = 6) (hby : i.bytes = 88) (hzs : z.cells.size = 6)
    {g n cap : Nat} {xs : List Value} (hn : n ≤ 10000) (h : w.ownsRow M e 6 (.slice (some ⟨g, 0, none⟩) n cap) n xs) (hM : M ≤ w.heap.size) (ad : Addr) (c : Nat) (news : List Value) (hl : news.length = 6) (hnews : ∀ j u, news[j]? = some u → w.cell? (ad.add j) = some u) (h1 : ∀ u ∈ news, u.oneCell' = true) :
    ∃ cap' w', (Builtin.append_ #[t, t] ty #[.slice (some ⟨g, 0, none⟩) n n, .slice (some ad) 1 c]).run P w = .ok (.slice (some ⟨w.heap.size, 0, none⟩) (n + 1) cap') w' ∧ w'.ownsRow M e 6 (.slice (some ⟨w.heap.size, 0, none⟩) (n + 1) cap') (n + 1) (xs ++ news) ∧ Below w.heap.size w w' := by
  have hxl := h.1
  have hold : (Builtin.firstCells i.size n (.slice (some ⟨g, 0, none⟩) n n)).run P w.drew = .ok xs.toArray w.drew := by
    refine run_firstCells_some w.drew i.size n ⟨g, 0, none⟩ n n xs (by rw [hsize]; exact hxl) (fun j u hu => ?_)
    rcases h.2 with ⟨e1, -⟩ | ⟨g', cap', cur, e1, hb, hg, hn1, hm, hs, hx⟩
    · cases e1
    · cases e1
      rw [Addr.add_lit, Nat.zero_add]
      have hj : j < n * 6 := by rw [← hxl]; exact (List.getElem?_eq_some_iff.1 hu).1
      refine (cell_of_row w g j cur _ (0, 0) hg).trans ?_
      rw [← hx, List.getElem?_take, if_pos hj, Array.getElem?_toList] at hu
      exact hu
  have hs : Src P i.size t (.slice (some ad) 1 c) 1 news w := by rw [hsize]; exact Src.ofSlice w ht ad 1 c news (by rw [hl]) hnews h1
  have hrun := run_append_grow_src (P := P) w t t ty e i z ht hi hz (some ⟨g, 0, none⟩) n n xs hold _ 1 news hs (by omega) (by omega) (growslice_fits (by omega) (by rw [hby]; omega))
  have hge := grownCap_ge w (n + 1) n e
  have hcm := grownCap_le_maxLen w (n + 1) n e (by unfold maxLen; omega)
  refine ⟨_, _, hrun, ⟨by rw [List.length_append, hxl, hl]; omega, .inr ⟨w.heap.size, _, _, rfl, hM, heap_alloc_new w.drew _, hge, hcm, ?_, ?_⟩⟩, ⟨rfl, rfl, rfl, by simp, fun k hk => Below.heap_alloc w.drew _ k hk⟩⟩
  · rw [Array.size_append, List.size_toArray, List.length_append, hxl, hl, size_zeroCells, hzs]
    omega
  · rw [Array.toList_append, List.take_append_of_le_length (by simp [hxl, hl]; omega)]
    rw [List.take_of_length_le (by simp [hxl, hl]; omega)]
theorem wp_append_full {P : Program} {w : World} {o : Oper} {a : Act} {K : Act → World → Prop} {Q : Exit → Act → World → Prop} (s x : Operand) (t : TypeId)
    (ho : o.op = .call { callee := .builtin .append, args := #[s, x], argTypes := #[t, t] })
    {M : Nat} {e : TypeId} {i : TypeInfo} {z : Value} (ht : P.underlying t = some (.slice e)) (hi : P.info? e = some i) (hz : i.zero = some z) (hsize : i.size = 6) (hby : i.bytes = 88) (hzs : z.cells.size = 6)
    {g n cap : Nat} {xs : List Value} (hn : n ≤ 10000) (h : w.ownsRow M e 6 (.slice (some ⟨g, 0, none⟩) n cap) n xs) (hM : M ≤ w.heap.size) (hs : a.eval s = .slice (some ⟨g, 0, none⟩) n n) (ad : Addr) (c : Nat) (news : List Value) (hx : a.eval x = .slice (some ad) 1 c) (hl : news.length = 6) (hnews : ∀ j u, news[j]? = some u → w.cell? (ad.add j) = some u) (h1 : ∀ u ∈ news, u.oneCell' = true)
    (hK : ∀ cap' w', w'.ownsRow M e 6 (.slice (some ⟨w.heap.size, 0, none⟩) (n + 1) cap') (n + 1) (xs ++ news) → Below w.heap.size w w' → K (a.put o.dst (.slice (some ⟨w.heap.size, 0, none⟩) (n + 1) cap')) w') : o.wp P a w K Q := by
  obtain ⟨cap', w', hr, h2, h3⟩ := run_append_full (P := P) (ty := o.type) ht hi hz hsize hby hzs hn h hM ad c news hl hnews h1
  unfold Oper.wp execOp
  simp only [ho, resolve, invoke, builtin, Sem.run_bind, Sem.run_pure, Result.andThen_ok, List.map_toArray, List.map_cons, List.map_nil, hs, hx, hr]
  exact hK cap' w' h2 h3
theorem rep_flat {α : Type} {L : List α} (hL : L.length = 6) : ∀ (n i o : Nat), i < n → o < 6 → ((List.replicate n L).flatten)[i * 6 + o]? = L[o]?
  | 0, _, _, h, _ => by omega
  | n + 1, i, o, h, ho => by
    rw [List.replicate_succ, List.flatten_cons]
    cases i with
    | zero => rw [List.getElem?_append_left (by omega), Nat.zero_mul, Nat.zero_add]
    | succ i =>
      rw [List.getElem?_append_right (by omega), hL, show (i + 1) * 6 + o - 6 = i * 6 + o by omega]
      exact rep_flat hL n i o (by omega) ho
/-- an act, over and over -/
def repC (n : Nat) (cs : List Value) : Array Value := ((List.replicate n cs).flatten).toArray
theorem repC_row {W : World} {g n : Nat} {a : Ac} {bA : Option Addr} {bn bc : Nat} {nA : Option Addr} {nn nc : Nat} {t : TypeId} {fr : Nat × Nat} (h : W.heap[g]? = some (.cells (repC n (actC a.kind a.name bA bn bc nA nn nc a.mem a.fuel).toList) t fr)) (hat : ActAt W a bA bn bc nA nn nc) (hk : (Lit.int .i64 a.kind).wf = true) : ScRow W (List.replicate n a) (some ⟨g, 0, none⟩) n := by
  refine ⟨by simp, fun h0 => ⟨_, rfl, (Array.getElem?_eq_some_iff.1 h).1, fun i b hb => ?_⟩⟩
  have he := (List.mem_replicate.1 (List.mem_of_getElem? hb)).2
  subst he
  have hi : i < n := by have := (List.getElem?_eq_some_iff.1 hb).1; simpa using this
  have hc : ∀ o, o < 6 → W.cell? ⟨g, i * 6 + o, none⟩ = (actC b.kind b.name bA bn bc nA nn nc b.mem b.fuel)[o]? := fun o ho => by
    rw [World.cell?, h]
    show (repC n _)[i * 6 + o]? = _
    unfold repC
    rw [List.getElem?_toArray, rep_flat rfl n i o hi ho, Array.getElem?_toList]
  refine ⟨bA, bn, bc, nA, nn, nc, ?_, hat, hk⟩
  rw [Addr.add_lit, Nat.zero_add]
  exact ⟨hc 0 (by omega), hc 1 (by omega), hc 2 (by omega), hc 3 (by omega), hc 4 (by omega), hc 5 (by omega)⟩
theorem replicate_get {α : Type} {n i : Nat} {a b : α} (h : (List.replicate n a)[i]? = some b) : b = a := (List.mem_replicate.1 (List.mem_of_getElem? h)).2
end Go.Proofs.YtlodoilihminaaaDoor
