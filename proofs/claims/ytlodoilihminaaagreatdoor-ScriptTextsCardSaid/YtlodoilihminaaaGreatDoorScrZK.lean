/-
  ref25.Text.
-/
import Derived.Test.YtlodoilihminaaaGreatDoorScrZP
import Derived.Deep.AppendSrc
import Derived.Deep.Upon
namespace Go.Proofs.YtlodoilihminaaaGreatDoor
open Go.ChangeShapes Go.WideShapes Go.ChangeAt Go.RowKit
set_option linter.unusedVariables false
set_option linter.unusedSimpArgs false
/-! ### bytes in a row of one's own, told by its cells (whatever is frozen behind its end) -/
structure OwB (w : World) (M : Nat) (v : Value) (n : Nat) (xs : List Value) : Prop where
  len : xs.length = n
  ex : ∃ g cap, v = .slice (some ⟨g, 0, none⟩) n cap ∧ M ≤ g ∧ g < w.heap.size ∧ n ≤ cap ∧ cap ≤ maxLen ∧ (∀ j, j < n → w.cell? ⟨g, j, none⟩ = xs[j]?) ∧ (∀ j, j < cap → (w.cell? ⟨g, j, none⟩).isSome = true ∧ w.frozen? ⟨g, j, none⟩ = false)
theorem setCells_tape (b : Nat) : ∀ (vs : List Value) (o : Nat) (w : World), (w.setCells b o vs).tape = w.tape ∧ (w.setCells b o vs).heap.size = w.heap.size
  | [], _, _ => ⟨rfl, rfl⟩
  | v :: vs, o, w => by
    have h := setCells_tape b vs (o + 1) (w.setCell ⟨b, o, none⟩ v)
    refine ⟨h.1.trans rfl, h.2.trans (by simp)⟩
theorem OwB.below {w w' : World} {M : Nat} {v : Value} {n : Nat} {xs : List Value} (h : OwB w M v n xs) (hb : Below w.heap.size w w') : OwB w' M v n xs := by
  obtain ⟨g, cap, rfl, h1, h2, h3, h4, h5, h6⟩ := h.ex
  refine ⟨h.len, g, cap, rfl, h1, Nat.lt_of_lt_of_le h2 hb.size, h3, h4, fun j hj => ?_, fun j hj => ?_⟩
  · exact (hb.cell (p := ⟨g, j, none⟩) h2).trans (h5 j hj)
  · rw [hb.cell (p := ⟨g, j, none⟩) h2, World.frozen?_of_block (a := ⟨g, j, none⟩) (hb.block g h2)]
    exact h6 j hj
theorem owb_append {P : Program} {w : World} {M : Nat} {v : Value} {n : Nat} {xs : List Value} (h : OwB w M v n xs) (hM : M ≤ w.heap.size) (t tx ty e : TypeId) (i : TypeInfo) (ht : P.underlying t = some (.slice e)) (hi : P.info? e = some i) (hz : i.zero = some (.int .u8 0)) (hsize : i.size = 1) (hby : i.bytes = 1)
    (x : Value) (m : Nat) (news : List Value) (hs : Src P 1 tx x m news w) (hb : n + m ≤ 10000000) :
    ∃ v' w', (Builtin.append_ #[t, tx] ty #[v, x]).run P w = .ok v' w' ∧ OwB w' M v' (n + m) (xs ++ news) ∧ Below M w w' := by
  obtain ⟨g, cap, rfl, h1, h2, h3, h4, h5, h6⟩ := h.ex
  have hlx := h.len
  have hnl := hs.newsLen
  rw [Nat.mul_one] at hnl
  have hs' : Src P i.size tx x m news w := by rw [hsize]; exact hs
  have hx2 : xs[0]? = xs[0]? := rfl
  by_cases hr : n + m ≤ cap
  · have hsome : ∀ j, j < news.length → (w.cell? ⟨g, 0 + n * i.size + j, none⟩).isSome = true := fun j hj => by
      rw [hsize, Nat.mul_one, Nat.zero_add]; exact (h6 (n + j) (by omega)).1
    have hrun := run_append_room_src (P := P) w t tx ty e i ht hi g 0 n cap x m news hs' hr hsome (fun j hj => by rw [hsize, Nat.mul_one, Nat.zero_add]; exact (h6 (n + j) (by omega)).2)
    rw [hsize, Nat.mul_one, Nat.zero_add] at hrun hsome
    have hst := setCells_tape g news n w
    refine ⟨_, _, hrun, ⟨by rw [List.length_append]; omega, g, cap, rfl, h1, by rw [hst.2]; exact h2, hr, h4, fun j hj => ?_, fun j hj => ⟨?_, (World.frozen?_setCells g _ _ _ _).trans (h6 j hj).2⟩⟩, World.os_setCells _ _ _ _, hst.1, World.output_setCells _ _ _ _, Nat.le_of_eq hst.2.symm, fun k hk => World.heap_setCells_other w g _ news (Nat.lt_of_lt_of_le hk hM) (by omega)⟩
    · by_cases hjn : j < n
      · rw [World.cell?_setCells_out g _ _ _ _ (fun _ _ => Or.inl (by show j < n; omega)), List.getElem?_append_left (by omega)]
        exact h5 j hjn
      · have := World.cell?_setCells_in g news n w hsome (j - n) (by omega)
        rw [show n + (j - n) = j by omega] at this
        rw [this, List.getElem?_append_right (by omega), hlx, List.getElem?_eq_getElem (by omega)]
    · by_cases hin : n ≤ j ∧ j < n + news.length
      · have := World.cell?_setCells_in g news n w hsome (j - n) (by omega)
        rw [show n + (j - n) = j by omega] at this
        rw [this]
        rfl
      · rw [World.cell?_setCells_out g _ _ _ _ (fun _ _ => by show j < n ∨ n + news.length ≤ j; omega)]
        exact (h6 j hj).1
  · have hold : (Builtin.firstCells i.size n (.slice (some ⟨g, 0, none⟩) n cap)).run P w.drew = .ok xs.toArray w.drew := by
      refine run_firstCells_some w.drew i.size n ⟨g, 0, none⟩ n cap xs (by rw [hsize, Nat.mul_one]; exact hlx) (fun j u hu => ?_)
      rw [Addr.add_lit, Nat.zero_add]
      have hj : j < n := by rw [← hlx]; exact (List.getElem?_eq_some_iff.1 hu).1
      exact (h5 j hj).trans hu
    have hrun := run_append_grow_src (P := P) w t tx ty e i (.int .u8 0) ht hi hz (some ⟨g, 0, none⟩) n cap xs hold x m news hs' (by omega) (by omega) (growslice_fits (by omega) (by rw [hby]; omega))
    have hge := grownCap_ge w (n + m) cap e
    have hcm := grownCap_le_maxLen w (n + m) cap e (by unfold maxLen; omega)
    have hsz : ((xs ++ news).toArray ++ Builtin.zeroCells (Value.int .u8 0).cells (grownCap w (n + m) cap e - (n + m))).size = grownCap w (n + m) cap e := by
      rw [Array.size_append, List.size_toArray, List.length_append, size_zeroCells]
      show xs.length + news.length + (grownCap w (n + m) cap e - (n + m)) * 1 = _
      omega
    refine ⟨_, _, hrun, ⟨by rw [List.length_append]; omega, w.heap.size, _, rfl, hM, by simp, hge, hcm, fun j hj => ?_, fun j hj => ⟨?_, World.frozen?_alloc_new w.drew _ _ j⟩⟩, rfl, rfl, rfl, by simp, fun k hk => Below.heap_alloc w.drew _ k (Nat.lt_of_lt_of_le hk hM)⟩
    · have e1 : (w.drew.alloc (.cells ((xs ++ news).toArray ++ Builtin.zeroCells (Value.int .u8 0).cells (grownCap w (n + m) cap e - (n + m))) e)).cell? ⟨w.heap.size, j, none⟩ = _ := World.cell?_alloc_new w.drew _ _ j
      rw [e1, Array.getElem?_append_left (by simp only [List.size_toArray, List.length_append]; omega), List.getElem?_toArray]
    · have e1 : (w.drew.alloc (.cells ((xs ++ news).toArray ++ Builtin.zeroCells (Value.int .u8 0).cells (grownCap w (n + m) cap e - (n + m))) e)).cell? ⟨w.heap.size, j, none⟩ = _ := World.cell?_alloc_new w.drew _ _ j
      rw [e1, Array.getElem?_eq_getElem (by rw [hsz]; exact hj)]
      rfl
theorem wpList_append_owb {P : Program} {w : World} {ops : Array Oper} {rest : List Oper} {o : Oper} {a : Act} {Q : Exit → Act → World → Prop} (hgd : o.guard = none) (s x : Operand) (t tx : TypeId)
    (ho : o.op = .call { callee := .builtin .append, args := #[s, x], argTypes := #[t, tx] })
    (M : Nat) (e : TypeId) (i : TypeInfo) (ht : P.underlying t = some (.slice e)) (hi : P.info? e = some i) (hz : i.zero = some (.int .u8 0)) (hsize : i.size = 1) (hby : i.bytes = 1)
    (v : Value) (n : Nat) (xs : List Value) (hs : a.eval s = v) (h : OwB w M v n xs) (hM : M ≤ w.heap.size)
    (xv : Value) (m : Nat) (news : List Value) (hx : a.eval x = xv) (hsrc : Src P 1 tx xv m news w) (hb : n + m ≤ 10000000)
    (hK : ∀ v' w', OwB w' M v' (n + m) (xs ++ news) → Below M w w' → wpList P ops Q rest (a.put o.dst v') w') : wpList P ops Q (o :: rest) a w := by
  refine wpList_plain hgd fun K hK' => ?_
  obtain ⟨v', w', hrun, h1, h2⟩ := owb_append (P := P) h hM t tx o.type e i ht hi hz hsize hby xv m news hsrc hb
  unfold Oper.wp
  simp [execOp, ho, resolve, invoke, builtin, hs, hx, hrun, Result.andThen]
  exact hK' _ _ (hK v' w' h1 h2)
theorem OwB.form {w : World} {M : Nat} {v : Value} {n : Nat} {xs : List Value} (h : OwB w M v n xs) : ∃ A c, v = .slice A n c := by
  obtain ⟨g, cap, rfl, -⟩ := h.ex
  exact ⟨_, _, rfl⟩
theorem OwB.rd {w : World} {M : Nat} {A : Option Addr} {n c : Nat} {zs : List Int} (h : OwB w M (.slice A n c) n (zs.map (.int .u8))) : Rd w w.heap.size .u8 A n zs := by
  obtain ⟨g, cap, e, h1, h2, h3, h4, h5, h6⟩ := h.ex
  cases e
  have hl := h.len
  rw [List.length_map] at hl
  refine ⟨hl, fun h0 => ⟨_, rfl, h2, fun i hi => ?_⟩⟩
  rw [Addr.add_lit, Nat.zero_add, h5 i hi, List.getElem?_map, List.getElem?_eq_getElem (by omega), nth_eq _ _ (by omega)]
  rfl
/-- what a text is turned into -/
theorem conv_owb (W : World) (M : Nat) (hM : M ≤ W.heap.size) (l : List UInt8) (hl : l.length ≤ 1000000) : ∃ A c W2, OwB W2 M (.slice A l.length c) l.length (Lib.byteCells l) ∧ Below M W W2 ∧ (convert 9 24 (.string (S l))).run Tryz.prog W = .ok (.slice A l.length c) W2 := by
  have h := Lib.run_convert_string_bytes (P := Tryz.prog) W 9 24 5 (S l) Tryz.underlying9 Tryz.underlying24 Tryz.underlying5
  rw [S_size] at h
  have hge := grownCap_ge W l.length 0 5
  have hcm := grownCap_le_maxLen W l.length 0 5 (by unfold maxLen; omega)
  have hn := Lib.bytesWorld_at_new W 5 (S l)
  have hsz : (Lib.bytesCells W 5 (S l)).size = grownCap W l.length 0 5 := by
    unfold Lib.bytesCells
    rw [Array.size_append, Array.size_map, Array.size_replicate, S_size]
    show (S l).size + _ = _
    rw [S_size]
    omega
  refine ⟨some ⟨W.heap.size, 0, none⟩, grownCap W l.length 0 5, Lib.bytesWorld W 5 (S l), ⟨by simp [Lib.byteCells], W.heap.size, _, rfl, hM, ?_, hge, hcm, fun j hj => ?_, fun j hj => ⟨?_, ?_⟩⟩, ⟨rfl, rfl, rfl, ?_, fun k hk => Lib.bytesWorld_at_old W _ _ k (Nat.lt_of_lt_of_le hk hM)⟩, h⟩
  · rw [Lib.bytesWorld_size]; omega
  · rw [Lib.bytesWorld_cell W _ (S l) j (by rw [S_size]; exact hj)]
    rw [show (S l).data.toList = l from rfl, List.getD_eq_getElem?_getD, List.getElem?_eq_getElem hj]
    unfold Lib.byteCells
    rw [List.getElem?_map, List.getElem?_eq_getElem hj]
    rfl
  · rw [World.cell?, hn]
    show (Lib.bytesCells W 5 (S l))[j]?.isSome = true
    rw [Array.getElem?_eq_getElem (by rw [hsz]; exact hj)]
    rfl
  · rw [World.frozen?, hn]
    simp
    intro h
    rw [hsz] at h
    omega
  · rw [Lib.bytesWorld_size]; omega
theorem byteCells_zs (l : List UInt8) : Lib.byteCells l = (l.map fun c => (c.toNat : Int)).map (Value.int .u8) := by
  unfold Lib.byteCells
  rw [List.map_map]
  rfl
theorem strOf_zs (l : List UInt8) : strOf (l.map fun c => (c.toNat : Int)) = S l := by
  rw [strOf_list, List.map_map]
  unfold S
  congr 2
  conv => rhs; rw [← List.map_id l]
  refine List.map_congr_left fun c _ => ?_
  simp
theorem script_len2 {c : Int} {l : List Ac} (hc : capB c = true) (hall : l.all Ac.may = true) (hm : muchB l = false) (hk : ∀ a ∈ l, (-9223372036854775808 ≤ a.mem ∧ a.mem ≤ 9223372036854775807) ∧ (-9223372036854775808 ≤ a.fuel ∧ a.fuel ≤ 9223372036854775807)) : (scT c l).length ≤ 300000 := by
  obtain ⟨h1, h2⟩ := much_no hm
  have h3 := lines_len l fun a ha => ⟨List.all_eq_true.1 hall a ha, hk a ha⟩
  have hc' : 0 ≤ c ∧ c ≤ 67108864 := by unfold capB at hc; simpa using hc
  have h4 := Lib.itoa_length_le c (by omega) (by omega)
  unfold scT capT
  rw [List.length_append, List.length_append, List.length_append, List.length_cons, List.length_singleton, show wCap.length = 8 from rfl]
  omega
theorem acts_nums {w : World} {l : List Ac} {A : Option Addr} {n : Nat} (h : ScRow w l A n) : ∀ a ∈ l, (-9223372036854775808 ≤ a.mem ∧ a.mem ≤ 9223372036854775807) ∧ (-9223372036854775808 ≤ a.fuel ∧ a.fuel ≤ 9223372036854775807) := by
  intro a ha
  obtain ⟨k, hk, rfl⟩ := List.getElem_of_mem ha
  obtain ⟨x', a', bA, bn, bc, nA, nn, nc, -, -, h1, -, h2, -⟩ := h.at (k := k) (by rw [← h.1]; exact hk)
  rw [List.getElem?_eq_getElem hk] at h1
  cases h1
  exact ⟨h2.hm, h2.hf⟩
theorem tu8_info : (Tryz.prog.info? 5).map (fun i => (i.zero, i.size, i.bytes)) = some (some (.int .u8 0), 1, 1) := by kernel_rfl
set_option maxHeartbeats 4000000 in
set_option maxRecDepth 100000 in
theorem rtext_any (w : World) (c : Int) (l : List Ac) (A : Option Addr) (n cc : Nat) (h : ScAt w c l A n cc) (hmu : muchB l = false) (hT : Tb w) :
    Calls Tryz.prog 14 #[.agg (scC c A n cc)] w fun e w' => e = .returned (.tuple #[.string (S (scR c l)), .int .i64 (scE c l)]) ∧ Below w.heap.size w w' := by
  have HS := Lib.hid h
  have HT := Lib.hid hT
  have hn60 : n ≤ 60 := by have := (much_no hmu).1; rw [h.row.1] at this; exact this
  have hcw := bd_i64 h.hc
  have HLN := Lib.hid h.row.1
  have HMU := Lib.hid hmu
  have hq0 := heap_alloc_new w (.cells #[.int .i64 c, .slice A n cc] 38)
  have hb0 := sbelow1 w (.cells #[.int .i64 c, .slice A n cc] 38)
  have hret : ∀ (s : List UInt8) (e : Int), scR c l = s → scE c l = e → Ending.returned (.tuple #[.string (S s), .int .i64 e]) = Ending.returned (.tuple #[.string (S (scR c l)), .int .i64 (scE c l)]) := fun s e h1 h2 => by rw [h1, h2]
  have hret0 : ∀ (e : Int), scE c l = e → e ≠ 0 → Ending.returned (.tuple #[.string ⟨#[]⟩, .int .i64 e]) = Ending.returned (.tuple #[.string (S (scR c l)), .int .i64 (scE c l)]) := fun e h2 h3 => hret [] e (by unfold scR; rw [if_neg (by rw [h2]; exact h3)]) h2
  have HRET := Lib.hid hret
  have HRET0 := Lib.hid hret0
  have HCW := Lib.hid hcw
  clear h hT hmu hret hret0 hcw
  unfold scC
  go_enter Tryz.func14, Tryz.ntmps14
  go_upto_region 1 with fail
  generalize w.alloc (.cells #[.int .i64 c, .slice A n cc] 38) = W1 at hq0 hb0 ⊢
  have HK : Hid (∀ V, Below W1.heap.size W1 V → V.cell? ⟨w.heap.size, 0, none⟩ = some (.int .i64 c) ∧ V.cell? ⟨w.heap.size, 1, none⟩ = some (.slice A n cc)) := Lib.hid fun V hV => by
    have hq := (hV.block _ (Array.getElem?_eq_some_iff.1 hq0).1).trans hq0
    constructor <;> (rw [World.cell?, hq]; rfl)
  have HB := Lib.hid hb0
  clear hq0 hb0
  obtain ⟨k0, k1⟩ := HK.out W1 (Below.refl _ _)
  by_cases hneg : c < 0
  · have HE := Lib.hid (scE_cap (l := l) (show capB c = false by unfold capB; rw [decide_eq_false_iff_not]; omega))
    go_wp2_with fail
    go_ret2
    exact ⟨HRET0.out 2 HE.out (by omega), HB.out⟩
  by_cases hbig : 67108864 < c
  · have HE := Lib.hid (scE_cap (l := l) (show capB c = false by unfold capB; rw [decide_eq_false_iff_not]; omega))
    go_wp2_with fail
    go_ret2
    exact ⟨HRET0.out 2 HE.out (by omega), HB.out⟩
  have HCAP : Hid (capB c = true) := Lib.hid (by unfold capB; rw [decide_eq_true_eq]; omega)
  go_wp2_with fail
  clear k0 k1
  go_loopw [4] (fun iv wr => ∃ k : Nat, k ≤ n ∧ iv = .int .i64 (k : Int) ∧ Hid ((l.take k).all Ac.may = true) ∧ Hid (Below W1.heap.size W1 wr)) (fun iv _ => n - (intOf iv).toNat)
  case atStart => exact ⟨0, Nat.zero_le _, rfl, Lib.hid rfl, Lib.hid (Below.refl _ _)⟩
  case round =>
    obtain ⟨k, hk, rfl, HM, HBR⟩ := hrel
    obtain ⟨k0, k1⟩ := HK.out wr HBR.out
    by_cases hlt : k < n
    · have hbw : Below w.heap.size w wr := HB.out.trans (HBR.out.mono HB.out.size)
      obtain ⟨x, a, bA, bn, bc, nA, nn, nc, rfl, hx, ha, hc, hat, hkw⟩ := (HS.out.row.below hbw).at hlt
      obtain ⟨c0, c1', c2', c3, c4, c5⟩ := hc
      have HMB := Lib.hid (rmayact_any wr a bA bn bc nA nn nc hat)
      have HA := Lib.hid ha
      clear hat hkw ha hx hbw
      unfold actC at HMB
      cases hm : a.may with
      | false =>
        rw [hm] at HMB
        have HE := Lib.hid (scE_may (c := c) HA.out hm)
        clear hm
        go_wp2_with (go_at_call 33; (with_reducible refine HMB.out.mono ?_); rintro e w6 ⟨rfl, hb⟩; have HB6 := Lib.hid (HBR.out.trans (hb.mono HBR.out.size)); clear hb)
        go_ret2
        exact ⟨HRET0.out 2 HE.out (by omega), HB.out.trans (HB6.out.mono HB.out.size)⟩
      | true =>
        rw [hm] at HMB
        have HM2 : Hid ((l.take (k + 1)).all Ac.may = true) := Lib.hid (by rw [all_may_succ l k a HA.out, HM.out, hm]; rfl)
        clear hm
        go_wp2_with (go_at_call 33; (with_reducible refine HMB.out.mono ?_); rintro e w6 ⟨rfl, hb⟩; have HB6 := Lib.hid (HBR.out.trans (hb.mono HBR.out.size)); clear hb)
        exact ⟨⟨k + 1, by omega, by go_num, HM2, HB6⟩, by simp [intOf]; omega⟩
    · have HALL : Hid (l.all Ac.may = true) := Lib.hid (by
        have h := HM.out
        rw [List.take_of_length_le (by rw [HLN.out]; omega)] at h
        exact h)
      have HIT : Hid (Calls Tryz.prog 41 #[.int .i64 c] wr fun e w' => e = .returned (.string (S (Lib.itoa c))) ∧ Below wr.heap.size wr w') := Lib.hid ((Tryz.strconv_Itoa c HCW.out.1 HCW.out.2 wr (HT.out.t.below (HB.out.trans (HBR.out.mono HB.out.size)))).mono fun e w' ⟨h1, k, os, h2⟩ => ⟨h1, by rw [h2]; exact grow_below _ _ _⟩)
      have si : (S (Lib.itoa c)).size ≤ 21 := by rw [S_size]; exact Lib.itoa_length_le c HCW.out.1 HCW.out.2
      have ns : ¬ 9223372036854775807 < 9 + (S (Lib.itoa c)).size := by omega
      have ns2 : ¬ 9223372036854775807 < 9 + (S (Lib.itoa c)).size + 1 := by omega
      have HST : Hid ((⟨#[99, 97, 112, 97, 99, 105, 116, 121, 32]⟩ : ByteArray) ++ S (Lib.itoa c) ++ ⟨#[10]⟩ = S (capT c)) := Lib.hid (by rw [capT_eq, S_app, S_app]; rfl)
      have HCO : Hid (∀ V : World, Below W1.heap.size W1 V → ∃ A5 c5 W5, OwB W5 W1.heap.size (.slice A5 (capT c).length c5) (capT c).length (Lib.byteCells (capT c)) ∧ Below W1.heap.size V W5 ∧ (convert 9 24 (.string ((⟨#[99, 97, 112, 97, 99, 105, 116, 121, 32]⟩ : ByteArray) ++ S (Lib.itoa c) ++ ⟨#[10]⟩))).run Tryz.prog V = .ok (.slice A5 (capT c).length c5) W5) := Lib.hid fun V hV => by
        rw [HST.out]
        refine conv_owb V W1.heap.size hV.size (capT c) ?_
        rw [capT_eq]
        have := Lib.itoa_length_le c HCW.out.1 HCW.out.2
        simp
        omega
      obtain ⟨cl, hcl⟩ : ∃ cl, cl = (capT c).length := ⟨_, rfl⟩
      rw [← hcl] at HCO
      have HCL := Lib.hid hcl
      clear hcl HM
      go_upto_region 11 with (go_at_call 41; (with_reducible refine HIT.out.mono ?_); rintro e w10 ⟨rfl, hb10⟩; have HB10 : Hid (Below W1.heap.size W1 w10) := Lib.hid (HBR.out.trans (hb10.mono HBR.out.size)); obtain ⟨A5, c5, W5, ho5, hb5, hcv⟩ := HCO.out _ HB10.out; have HO5 := Lib.hid ho5; have HB5 := Lib.hid (HB10.out.trans hb5); clear hb10 ho5 hb5)
      have HSL : Hid (∀ j, (scT c (l.take j)).length ≤ 300000) := Lib.hid fun j => Nat.le_trans (scT_le c l j) (script_len2 HCAP.out HALL.out HMU.out (acts_nums HS.out.row))
      have HS0 : Hid (scT c (l.take 0) = capT c) := Lib.hid (by unfold scT; rw [List.take_zero, linesT_nil, List.append_nil])
      obtain ⟨i5, hi5, hz5, hs5, hb5⟩ := inf_parts tu8_info
      clear k0 k1 si ns ns2 HIT hcv hlt HBR HB10 HST HCO
      go_wp2_with fail
      go_loopw [5, 6] (fun v iv wq => ∃ (j nx : Nat) (Ax : Option Addr) (cx : Nat), j ≤ n ∧ nx ≤ 300000 ∧ v = .slice Ax nx cx ∧ iv = .int .i64 (j : Int) ∧ Hid (nx = (scT c (l.take j)).length) ∧ Hid (OwB wq W1.heap.size (.slice Ax nx cx) nx (Lib.byteCells (scT c (l.take j)))) ∧ Hid (Below W1.heap.size W1 wq)) (fun _ iv _ => n - (intOf iv).toNat)
      case atStart => exact ⟨0, cl, A5, c5, Nat.zero_le _, by have := HSL.out 0; rw [HS0.out] at this; rw [HCL.out]; exact this, rfl, rfl, Lib.hid (by rw [HS0.out, HCL.out]), Lib.hid (by rw [HS0.out]; exact HO5.out), HB5⟩
      case round =>
        obtain ⟨j, nx, Ax, cx, hj, hnx, rfl, rfl, HNX, HOW, HBQ⟩ := hrel
        clear HO5 HB5 HCL HS0
        obtain ⟨k0, k1⟩ := HK.out wr HBQ.out
        have hnx2 : (nx : Int) ≤ 4194304 := by omega
        by_cases hjn : j < n
        · have hbw : Below w.heap.size w wr := HB.out.trans (HBQ.out.mono HB.out.size)
          obtain ⟨x, a, bA, bn, bc, nA, nn, nc, rfl, hx, ha, hc, hat, hkw⟩ := (HS.out.row.below hbw).at hjn
          obtain ⟨c0, c1', c2', c3, c4, c5'⟩ := hc
          have hmay : a.may = true := List.all_eq_true.1 HALL.out a (List.mem_of_getElem? ha)
          have HTX := Lib.hid (ractText_any wr a bA bn bc nA nn nc hat hmay (HT.out.below hbw).t)
          have HTL := Lib.hid (txt_len hmay hat.hm hat.hf)
          have HSU := Lib.hid (scT_succ c l j a ha)
          have HNX2 := Lib.hid (HSL.out (j + 1))
          have HSZ := Lib.hid (S_size a.txt)
          unfold actC at HTX
          clear hat hkw ha hx hmay hbw hnx
          have HSC : Hid (∀ V : World, Src Tryz.prog 1 9 (.string (S a.txt)) a.txt.length (Lib.byteCells a.txt) V) := Lib.hid fun V => by
            have := Src.ofString (w := V) (P := Tryz.prog) (tx := 9) Tryz.underlying9 (S a.txt)
            rw [S_size] at this
            exact this
          obtain ⟨ts, hts⟩ : ∃ ts, ts = S a.txt := ⟨_, rfl⟩
          rw [← hts] at HTX HSC
          clear hts
          go_wp2_with (first
            | (go_at_call 34; (with_reducible refine HTX.out.mono ?_); rintro e w12 ⟨rfl, hb⟩; have HO12 := Lib.hid (HOW.out.below (hb.mono (Nat.le_refl _))); have HB12 := Lib.hid (HBQ.out.trans (hb.mono HBQ.out.size)); clear hb)
            | (at_builtin; refine wpList_append_owb rfl _ _ 24 9 rfl W1.heap.size 5 i5 Tryz.underlying24 hi5 hz5 hs5 hb5 _ nx _ rfl HO12.out HB12.out.size (.string ts) a.txt.length (Lib.byteCells a.txt) rfl (HSC.out _) (by have := HTL.out; have := HNX.out; have := HSL.out j; omega) ?_; intro v13 w13 ho hb; obtain ⟨A13, c13, rfl⟩ := ho.form; have HO13 := Lib.hid (ho.below (sbelow1 w13 (.cells #[.int .u8 10] 5))); have HB13 := Lib.hid ((HB12.out.trans hb).alloc (HB12.out.trans hb).size (.cells #[.int .u8 10] 5)); clear ho hb)
            | (at_builtin; have hs3 := (Src.ofSlice (P := Tryz.prog) (w := w13.alloc (.cells #[.int .u8 10] 5)) (size := 1) (tx := 24) Tryz.underlying24 ⟨w13.heap.size, 0, none⟩ 1 1 [.int .u8 10] rfl (World.news_of_block (cs := #[.int .u8 10]) (t := 5) (fr := (0, 0)) (heap_alloc_new w13 _)) (by intro u hu; simp at hu; subst hu; rfl)); refine wpList_append_owb rfl _ _ 24 24 rfl W1.heap.size 5 i5 Tryz.underlying24 hi5 hz5 hs5 hb5 _ (nx + a.txt.length) _ rfl HO13.out HB13.out.size (.slice (some ⟨w13.heap.size, 0, none⟩) 1 1) 1 [.int .u8 10] rfl hs3 (by have := HTL.out; have := HNX.out; have := HSL.out j; omega) ?_; intro v14 w14 ho hb; obtain ⟨A14, c14, rfl⟩ := ho.form; have HO14 := Lib.hid ho; have HB14 := Lib.hid (HB13.out.trans hb); clear ho hb))
          refine ⟨⟨j + 1, nx + a.txt.length + 1, A14, c14, by omega, ?_, rfl, by go_num, Lib.hid ?_, Lib.hid ?_, HB14⟩, by simp [intOf]; omega⟩
          · have h1 := HNX2.out
            rw [HSU.out, List.length_append, List.length_append, List.length_singleton, ← HNX.out] at h1
            exact h1
          · rw [HSU.out, List.length_append, List.length_append, List.length_singleton, ← HNX.out]
          · rw [HSU.out, byte_app, byte_app]
            exact HO14.out
        · have hje : j = n := by omega
          have htk : l.take j = l := List.take_of_length_le (by rw [HLN.out]; omega)
          have HE : Hid (scE c l = 0) := Lib.hid (by rw [scE_all HCAP.out HALL.out, if_pos ⟨by rw [HLN.out]; omega, by have := HSL.out j; rw [htk] at this; omega⟩])
          have HR : Hid (scR c l = scT c l) := Lib.hid (by unfold scR; rw [if_pos HE.out])
          have how := HOW.out
          rw [htk, byteCells_zs] at how
          have hcv := conv_rd how.rd cx
          rw [strOf_zs] at hcv
          clear htk how
          go_wp2_with fail
          go_ret2
          exact ⟨HRET.out _ _ HR.out HE.out, HB.out.trans (HBQ.out.mono HB.out.size)⟩
end Go.Proofs.YtlodoilihminaaaGreatDoor
