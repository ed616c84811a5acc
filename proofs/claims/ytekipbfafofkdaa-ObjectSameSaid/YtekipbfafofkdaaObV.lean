/-
  selfsameref07.Bytes: an object's bytes.
-/
import Derived.Test.YtekipbfafofkdaaObB
import Derived.Deep.Cut
namespace Go.Proofs.Ytekipbfafofkdaa
open Go.ChangeShapes Go.WideShapes Go.ChangeAt Go.RowKit
set_option linter.unusedVariables false
set_option linter.unusedSimpArgs false
theorem w4_len (n : Int) : (w4 n).length = 4 := rfl
theorem nm_len (s : ByteArray) : (nm s).length = s.size + 1 := by simp [nm, bts_len]

set_option maxHeartbeats 8000000 in
set_option maxRecDepth 100000 in
theorem obytes_any {w0 w : World} {o : Ob} {ai : Option Addr} {li ci : Nat} {at_ : Option Addr} {lt ct : Nat} {ac : Option Addr} {lc cc : Nat} {ae : Option Addr} {le ce : Nat} {af : Option Addr} {lf cf : Nat} (ho : ObRows w0 o ai li ci at_ lt ct ac lc cc ae le ce af lf cf) (hT : o.Tells) (hi : o.imps.length ≤ 12) (ht : o.text.length ≤ 8192) (hc : o.code.length ≤ 16384) (he : o.ents.length ≤ 201) (hf : o.fixs.length ≤ 8192) (hw : Below w0.heap.size w0 w) :
    Calls Try.prog 13 #[ob o.name o.key ai li ci o.vars at_ lt ct ac lc cc ae le ce af lf cf] w fun e w' => ∃ A n c, e = .returned (.slice A n c) ∧ Rd w' w'.heap.size .u8 A n (bytesO o) ∧ Below w.heap.size w w' := by
  obtain ⟨i0, hi0, hz0, hz1, hz2⟩ : ∃ i, Try.prog.info? 5 = some i ∧ i.zero = some (.int .u8 0) ∧ i.size = 1 ∧ i.bytes = 1 := by
    obtain ⟨i, e1, e2⟩ := Option.map_eq_some_iff.1 infoB
    exact ⟨i, e1, (Prod.mk.inj e2).1, (Prod.mk.inj (Prod.mk.inj e2).2).1, (Prod.mk.inj (Prod.mk.inj e2).2).2⟩
  have HR := Lib.hid ho
  have HT := Lib.hid hT
  have HW := Lib.hid hw
  have HLN : Hid (o.imps.length = li ∧ o.text.length = lt ∧ o.code.length = lc ∧ o.ents.length = le ∧ o.fixs.length = lf) := Lib.hid ⟨ho.imps.1, ho.text.1, ho.code.1, ho.ents.1, ho.fixs.1⟩
  have hblt : lt ≤ 8192 := by have := HLN.out.2.1; omega
  have hblc : lc ≤ 16384 := by have := HLN.out.2.2.1; omega
  have hble : le ≤ 201 := by have := HLN.out.2.2.2.1; omega
  have hblf : lf ≤ 8192 := by have := HLN.out.2.2.2.2; omega
  have HNM := Lib.hid (rnm_any o.name (by have := hT.name; omega))
  have HWD := Lib.hid (fun n (h : 0 ≤ n ∧ n < 4294967296) W => rword_rd n h.1 h.2 W)
  have hns := hT.name
  have HS : Hid (BS w o ai li ci at_ lt ct ac lc cc ae le ce af lf cf ((w.alloc (.cells #[.string o.name, .int .u32 o.key, .slice ai li ci, .int .i64 o.vars, .slice at_ lt ct, .slice ac lc cc, .slice ae le ce, .slice af lf cf] 29)).alloc (.cells #[.int .u8 79, .int .u8 49] 5)) (.slice (some ⟨w.heap.size + 1, 0, none⟩) 2 2) [79, 49]) := Lib.hid
    ⟨(Ob8.new w o.name o.key ai li ci o.vars at_ lt ct ac lc cc ae le ce af lf cf rfl).next (below1 _ _), ⟨rfl, .inr ⟨w.heap.size + 1, 2, #[.int .u8 79, .int .u8 49], rfl, Nat.le_refl _, by have := heap_alloc_new (w.alloc (.cells #[.string o.name, .int .u32 o.key, .slice ai li ci, .int .i64 o.vars, .slice at_ lt ct, .slice ac lc cc, .slice ae le ce, .slice af lf cf] 29)) (.cells #[.int .u8 79, .int .u8 49] 5); simpa using this, Nat.le_refl _, by unfold maxLen; decide, rfl, rfl⟩⟩, (below1 w _).alloc (by simp) _⟩
  obtain ⟨x0, x1, x2, x3, x4, x5, x6, x7, -⟩ := HS.out.box
  clear ho hT hw
  unfold ob
  go_enter Try.func13, Try.ntmps13
  go_wp2_with (first
    | (go_at_call 23; refine (HNM.out _).mono ?_; rintro e w1 ⟨A1, c1, rfl, how, hb⟩; obtain ⟨A2, c2, hA, hnc, hrd⟩ := rd_own how; replace HS := Lib.hid (HS.out.next hb); have HRD := Lib.hid hrd; cases hA; clear how hb hrd)
    | (at_builtin; refine wpList_append_rd (by rfl) _ _ 24 (by rfl) (w.heap.size + 1) 5 i0 (.int .u8 0) 1 Try.underlying24 hi0 hz0 hz1 hz2 rfl (.slice (some ⟨w.heap.size + 1, 0, none⟩) 2 2) 2 (valsOf .u8 [79, 49]) (by rfl) HS.out.row _ .u8 A1 (o.name.size + 1) c1 (nm o.name) (by rfl) HRD.out (by unfold maxLen; omega) (by omega) (by have := HS.out.box.lt_; omega) ?_; intro v2 w2 hr2 hg2; have HR2 := Lib.hid hr2; have HG2 := Lib.hid hg2; clear hr2 hg2))
  have hnl : (nm o.name).length = o.name.size + 1 := by simp [nm, bts_len]
  have HS2 := Lib.hid ((HS.out.grow' (n := 2) (k := o.name.size + 1) rfl hnl.symm HG2.out HR2.out))
  have hL2 : ([79, 49] ++ nm o.name).length ≤ 300 := by rw [List.length_append, hnl]; simp; omega
  generalize hd2 : [79, 49] ++ nm o.name = L2 at *
  have HD2 := Lib.hid hd2
  clear hd2
  have HKEY := Lib.hid HT.out.key
  have HLI : Hid (li ≤ 12) := Lib.hid (by have := HLN.out.1; omega)
  clear HS HG2 HR2 HRD x0 x1 x2 x3 x4 x5 x6 x7 hnl HNM HWD
  have HS := HS2
  clear HS2
  go_cut [3] from 9 (fun v W => BS w o ai li ci at_ lt ct ac lc cc ae le ce af lf cf W v (L2 ++ w4 o.key ++ [IntKind.u8.wrap (li : Int)]))
  case first =>
    as_aux_lemma =>
      have HSB := Lib.hid ((HS.out.next (below1 _ (.cells #[.int .u8 (IntKind.u8.wrap (li : Int))] 5))).drew)
      have HQB := Lib.hid ((RdM.made HS.out (IntKind.u8.wrap (li : Int))).next (Below.refl _ _).drew)
      replace HS := Lib.hid HS.out.drew
      obtain ⟨z0, z1, z2, z3, z4, z5, z6, z7, -⟩ := HSB.out.box
      obtain ⟨x0, x1, x2, x3, x4, x5, x6, x7, -⟩ := HS.out.box
      go_region_law (first
        | (first | (refine step_call rfl 24 _ _ rfl #[.int .u32 o.key] (by rfl) (by rfl) (rword_m o.key HKEY.out _) ?_; rintro e v3 ⟨g1, rfl, hge, hrd, hb⟩; refine ⟨_, rfl, ?_⟩; have HQ1 := Lib.hid (RdM.new HS.out hge hrd); (try replace HQ1 := Lib.hid (HQ1.out.next hb)); (try replace HQ2 := Lib.hid (HQ2.out.next hb)); (try replace HG2 := Lib.hid (HG2.out.next hb)); replace HS := Lib.hid (HS.out.next hb); clear hge hrd hb; (try clear x0 x1 x2 x3 x4 x5 x6 x7); (try clear z0 z1 z2 z3 z4 z5 z6 z7); obtain ⟨x0, x1, x2, x3, x4, x5, x6, x7, -⟩ := HS.out.box) | (replace HS := HSB; have HQ2 := HQB; (refine step_call rfl 24 _ _ rfl #[.int .u32 o.key] (by rfl) (by rfl) (rword_m o.key HKEY.out _) ?_; rintro e v3 ⟨g1, rfl, hge, hrd, hb⟩; refine ⟨_, rfl, ?_⟩; have HQ1 := Lib.hid (RdM.new HS.out hge hrd); (try replace HQ1 := Lib.hid (HQ1.out.next hb)); (try replace HQ2 := Lib.hid (HQ2.out.next hb)); (try replace HG2 := Lib.hid (HG2.out.next hb)); replace HS := Lib.hid (HS.out.next hb); clear hge hrd hb; (try clear x0 x1 x2 x3 x4 x5 x6 x7); (try clear z0 z1 z2 z3 z4 z5 z6 z7); obtain ⟨x0, x1, x2, x3, x4, x5, x6, x7, -⟩ := HS.out.box)) | ((have HQ2 := Lib.hid (RdM.made HS.out (IntKind.u8.wrap (li : Int))); (try replace HQ1 := Lib.hid (HQ1.out.next (below1 _ (.cells #[.int .u8 (IntKind.u8.wrap (li : Int))] 5)))); replace HS := Lib.hid (HS.out.next (below1 _ (.cells #[.int .u8 (IntKind.u8.wrap (li : Int))] 5)))); (refine step_call rfl 24 _ _ rfl #[.int .u32 o.key] (by rfl) (by rfl) (rword_m o.key HKEY.out _) ?_; rintro e v3 ⟨g1, rfl, hge, hrd, hb⟩; refine ⟨_, rfl, ?_⟩; have HQ1 := Lib.hid (RdM.new HS.out hge hrd); (try replace HQ1 := Lib.hid (HQ1.out.next hb)); (try replace HQ2 := Lib.hid (HQ2.out.next hb)); (try replace HG2 := Lib.hid (HG2.out.next hb)); replace HS := Lib.hid (HS.out.next hb); clear hge hrd hb; (try clear x0 x1 x2 x3 x4 x5 x6 x7); (try clear z0 z1 z2 z3 z4 z5 z6 z7); obtain ⟨x0, x1, x2, x3, x4, x5, x6, x7, -⟩ := HS.out.box)))
        | (first | (refine step_append_rd (by rfl) _ _ 24 (by rfl) (w.heap.size + 1) 5 i0 (.int .u8 0) 1 Try.underlying24 hi0 hz0 hz1 hz2 rfl _ _ _ (by rfl) HS.out.row _ .u8 _ _ _ _ (by rfl) HQ1.out.1 (by (try simp only [List.length_append, List.length_cons, List.length_nil, w4_len, nm_len]); unfold maxLen; omega) (by (try simp only [List.length_append, List.length_cons, List.length_nil, w4_len, nm_len]); omega) (by have := HS.out.box.lt_; omega) ?_; intro v4 w4' ho4 hg4; (try have HG2 := Lib.hid (HQ2.out.grow hg4)); (try clear HQ2); replace HS := Lib.hid (HS.out.grow' rfl HQ1.out.1.1.symm hg4 ho4); clear ho4 hg4 HQ1; (try clear x0 x1 x2 x3 x4 x5 x6 x7); (try clear z0 z1 z2 z3 z4 z5 z6 z7); obtain ⟨x0, x1, x2, x3, x4, x5, x6, x7, -⟩ := HS.out.box) | ((have HQ2 := Lib.hid (RdM.made HS.out (IntKind.u8.wrap (li : Int))); (try replace HQ1 := Lib.hid (HQ1.out.next (below1 _ (.cells #[.int .u8 (IntKind.u8.wrap (li : Int))] 5)))); replace HS := Lib.hid (HS.out.next (below1 _ (.cells #[.int .u8 (IntKind.u8.wrap (li : Int))] 5)))); (refine step_append_rd (by rfl) _ _ 24 (by rfl) (w.heap.size + 1) 5 i0 (.int .u8 0) 1 Try.underlying24 hi0 hz0 hz1 hz2 rfl _ _ _ (by rfl) HS.out.row _ .u8 _ _ _ _ (by rfl) HQ1.out.1 (by (try simp only [List.length_append, List.length_cons, List.length_nil, w4_len, nm_len]); unfold maxLen; omega) (by (try simp only [List.length_append, List.length_cons, List.length_nil, w4_len, nm_len]); omega) (by have := HS.out.box.lt_; omega) ?_; intro v4 w4' ho4 hg4; (try have HG2 := Lib.hid (HQ2.out.grow hg4)); (try clear HQ2); replace HS := Lib.hid (HS.out.grow' rfl HQ1.out.1.1.symm hg4 ho4); clear ho4 hg4 HQ1; (try clear x0 x1 x2 x3 x4 x5 x6 x7); (try clear z0 z1 z2 z3 z4 z5 z6 z7); obtain ⟨x0, x1, x2, x3, x4, x5, x6, x7, -⟩ := HS.out.box)))
        | (refine step_append_rd (by rfl) _ _ 24 (by rfl) (w.heap.size + 1) 5 i0 (.int .u8 0) 1 Try.underlying24 hi0 hz0 hz1 hz2 rfl _ _ _ (by rfl) HS.out.row _ .u8 _ _ _ _ (by rfl) HG2.out (by (try simp only [List.length_append, List.length_cons, List.length_nil, w4_len, nm_len]); unfold maxLen; omega) (by (try simp only [List.length_append, List.length_cons, List.length_nil, w4_len, nm_len]); omega) (by have := HS.out.box.lt_; omega) ?_; intro v4 w4' ho4 hg4; replace HS := Lib.hid (HS.out.grow' rfl HG2.out.1.symm hg4 ho4); clear ho4 hg4 HG2; (try clear x0 x1 x2 x3 x4 x5 x6 x7); (try clear z0 z1 z2 z3 z4 z5 z6 z7); obtain ⟨x0, x1, x2, x3, x4, x5, x6, x7, -⟩ := HS.out.box)
        | (first | (refine step_append_rd (by rfl) _ _ 24 (by rfl) (w.heap.size + 1) 5 i0 (.int .u8 0) 1 Try.underlying24 hi0 hz0 hz1 hz2 rfl _ _ _ (by rfl) HS.out.row _ .u8 _ _ _ _ (by rfl) HQ2.out.1 (by (try simp only [List.length_append, List.length_cons, List.length_nil, w4_len, nm_len]); unfold maxLen; omega) (by (try simp only [List.length_append, List.length_cons, List.length_nil, w4_len, nm_len]); omega) (by have := HS.out.box.lt_; omega) ?_; intro v4 w4' ho4 hg4; replace HS := Lib.hid (HS.out.grow' rfl HQ2.out.1.1.symm hg4 ho4); clear ho4 hg4 HQ2; (try clear x0 x1 x2 x3 x4 x5 x6 x7); (try clear z0 z1 z2 z3 z4 z5 z6 z7); obtain ⟨x0, x1, x2, x3, x4, x5, x6, x7, -⟩ := HS.out.box) | ((have HQ2 := Lib.hid (RdM.made HS.out (IntKind.u8.wrap (li : Int))); (try replace HQ1 := Lib.hid (HQ1.out.next (below1 _ (.cells #[.int .u8 (IntKind.u8.wrap (li : Int))] 5)))); replace HS := Lib.hid (HS.out.next (below1 _ (.cells #[.int .u8 (IntKind.u8.wrap (li : Int))] 5)))); (refine step_append_rd (by rfl) _ _ 24 (by rfl) (w.heap.size + 1) 5 i0 (.int .u8 0) 1 Try.underlying24 hi0 hz0 hz1 hz2 rfl _ _ _ (by rfl) HS.out.row _ .u8 _ _ _ _ (by rfl) HQ2.out.1 (by (try simp only [List.length_append, List.length_cons, List.length_nil, w4_len, nm_len]); unfold maxLen; omega) (by (try simp only [List.length_append, List.length_cons, List.length_nil, w4_len, nm_len]); omega) (by have := HS.out.box.lt_; omega) ?_; intro v4 w4' ho4 hg4; replace HS := Lib.hid (HS.out.grow' rfl HQ2.out.1.1.symm hg4 ho4); clear ho4 hg4 HQ2; (try clear x0 x1 x2 x3 x4 x5 x6 x7); (try clear z0 z1 z2 z3 z4 z5 z6 z7); obtain ⟨x0, x1, x2, x3, x4, x5, x6, x7, -⟩ := HS.out.box))))
      all_goals
        go_wp2_with fail
        go_meet
        case rel => exact HS.out
  case rest =>
    have HS := Lib.hid hcut
    clear hcut
    have hL3 : (L2 ++ w4 o.key ++ [IntKind.u8.wrap (li : Int)]).length ≤ 310 := by
      simp only [List.length_append, List.length_cons, List.length_nil, w4_len, nm_len]
      omega
    generalize hd3 : L2 ++ w4 o.key ++ [IntKind.u8.wrap (li : Int)] = L3 at *
    have HD3 := Lib.hid hd3
    clear hd3
    obtain ⟨x0, x1, x2, x3, x4, x5, x6, x7, -⟩ := HS.out.box
    go_wp2_with fail
    have HIL : ∀ x ∈ o.imps, (impE x).length ≤ 260 := fun x hx => by have := (HT.out.imps x hx).1; simp only [impE, List.length_append, List.length_cons, List.length_nil, w4_len, nm_len]; omega
    have HIL := Lib.hid HIL
    go_loopw [3, 4] (fun v i wr => ∃ j : Nat, j ≤ li ∧ i = .int .i64 j ∧ Hid (BS w o ai li ci at_ lt ct ac lc cc ae le ce af lf cf wr v (L3 ++ (o.imps.take j).flatMap impE))) (fun _ i _ => li - (intOf i).toNat)
    case atStart => exact ⟨0, Nat.zero_le _, rfl, Lib.hid (by rw [List.take_zero, List.flatMap_nil, List.append_nil]; exact HS.out)⟩
    case round =>
      obtain ⟨j, hj, rfl, HS2⟩ := hrel
      clear HS
      have HS := HS2
      clear HS2
      have hlj : (L3 ++ (o.imps.take j).flatMap impE).length ≤ 3430 := by
        have h1 := flat_len impE 260 (o.imps.take j) fun x hx => HIL.out x (List.mem_of_mem_take hx)
        have h2 : (o.imps.take j).length ≤ 12 := by rw [List.length_take]; omega
        have h3 := Nat.mul_le_mul_right 260 h2
        rw [List.length_append]
        omega
      generalize hdj : L3 ++ (o.imps.take j).flatMap impE = lj at *
      have HDJ := Lib.hid hdj
      clear hdj
      (try clear x0 x1 x2 x3 x4 x5 x6 x7); (try clear z0 z1 z2 z3 z4 z5 z6 z7)
      obtain ⟨x0, x1, x2, x3, x4, x5, x6, x7, -⟩ := HS.out.box
      by_cases hlt : j < li
      · have hjl : j < o.imps.length := by have := HLN.out.1; omega
        obtain ⟨p, rfl, hpb, hp⟩ := HR.out.imps.2.2.2.2 (by omega)
        have HGJ := Lib.hid (List.getElem?_eq_getElem hjl)
        have HCI : Hid (∀ V, Below w.heap.size w V → ImpAt V (p.add (j * 2)) o.imps[j].1 o.imps[j].2) := Lib.hid fun V hV => (hp j _ HGJ.out).below (by rw [add_sz]; exact hpb) (HW.out.trans (hV.mono HW.out.size))
        have hnj : o.imps[j].1.size < 256 := (HT.out.imps _ (List.getElem_mem hjl)).1
        have HKJ := Lib.hid (HT.out.imps _ (List.getElem_mem hjl)).2
        clear hp
        generalize o.imps[j] = ej at *
        obtain ⟨nj, kj⟩ := ej
        simp only at hnj
        have HCI : Hid (∀ V, Below w.heap.size w V → ImpAt V (p.add (j * 2)) nj kj) := HCI
        have HKJ : Hid (0 ≤ kj ∧ kj < 4294967296) := HKJ
        obtain ⟨c0, c1⟩ := HCI.out _ HS.out.bel
        go_wp2_with fail
        replace HS := Lib.hid HS.out.drew
        clear c0 c1
        (try clear x0 x1 x2 x3 x4 x5 x6 x7); (try clear z0 z1 z2 z3 z4 z5 z6 z7)
        obtain ⟨x0, x1, x2, x3, x4, x5, x6, x7, -⟩ := HS.out.box
        obtain ⟨c0, c1⟩ := HCI.out _ HS.out.bel
        as_aux_lemma =>
          go_region_law (first
            | (refine step_call rfl 23 _ _ rfl #[.string nj] (by rfl) (by rfl) (rnm_m nj (by omega) _) ?_; rintro e v3 ⟨A1, k1, rfl, hge, hrd, hb⟩; refine ⟨_, rfl, ?_⟩; have HQ1 := Lib.hid (RdM.new HS.out hge hrd); (try replace HQ1 := Lib.hid (HQ1.out.next hb)); (try replace HQ2 := Lib.hid (HQ2.out.next hb)); (try replace HG2 := Lib.hid (HG2.out.next hb)); replace HS := Lib.hid (HS.out.next hb); clear hge hrd hb; (try clear x0 x1 x2 x3 x4 x5 x6 x7); (try clear z0 z1 z2 z3 z4 z5 z6 z7); obtain ⟨x0, x1, x2, x3, x4, x5, x6, x7, -⟩ := HS.out.box; (try clear c0 c1); obtain ⟨c0, c1⟩ := HCI.out _ HS.out.bel)
            | (refine step_call rfl 24 _ _ rfl #[.int .u32 kj] (by rfl) (by rfl) (rword_m kj HKJ.out _) ?_; rintro e v3 ⟨g2, rfl, hge, hrd, hb⟩; refine ⟨_, rfl, ?_⟩; have HQ2 := Lib.hid (RdM.new HS.out hge hrd); (try replace HQ1 := Lib.hid (HQ1.out.next hb)); (try replace HQ2 := Lib.hid (HQ2.out.next hb)); (try replace HG2 := Lib.hid (HG2.out.next hb)); replace HS := Lib.hid (HS.out.next hb); clear hge hrd hb; (try clear x0 x1 x2 x3 x4 x5 x6 x7); (try clear z0 z1 z2 z3 z4 z5 z6 z7); obtain ⟨x0, x1, x2, x3, x4, x5, x6, x7, -⟩ := HS.out.box; (try clear c0 c1); obtain ⟨c0, c1⟩ := HCI.out _ HS.out.bel)
            | (refine step_append_rd (by rfl) _ _ 24 (by rfl) (w.heap.size + 1) 5 i0 (.int .u8 0) 1 Try.underlying24 hi0 hz0 hz1 hz2 rfl _ _ _ (by rfl) HS.out.row _ .u8 _ _ _ _ (by rfl) HQ1.out.1 (by (try simp only [List.length_append, List.length_cons, List.length_nil, w4_len, nm_len]); unfold maxLen; omega) (by (try simp only [List.length_append, List.length_cons, List.length_nil, w4_len, nm_len]); omega) (by have := HS.out.box.lt_; omega) ?_; intro v4 w4' ho4 hg4; (try have HG2 := Lib.hid (HQ2.out.grow hg4)); (try clear HQ2); replace HS := Lib.hid (HS.out.grow' rfl HQ1.out.1.1.symm hg4 ho4); clear ho4 hg4 HQ1; (try clear x0 x1 x2 x3 x4 x5 x6 x7); (try clear z0 z1 z2 z3 z4 z5 z6 z7); obtain ⟨x0, x1, x2, x3, x4, x5, x6, x7, -⟩ := HS.out.box; (try clear c0 c1); obtain ⟨c0, c1⟩ := HCI.out _ HS.out.bel)
            | (refine step_append_rd (by rfl) _ _ 24 (by rfl) (w.heap.size + 1) 5 i0 (.int .u8 0) 1 Try.underlying24 hi0 hz0 hz1 hz2 rfl _ _ _ (by rfl) HS.out.row _ .u8 _ _ _ _ (by rfl) HG2.out (by (try simp only [List.length_append, List.length_cons, List.length_nil, w4_len, nm_len]); unfold maxLen; omega) (by (try simp only [List.length_append, List.length_cons, List.length_nil, w4_len, nm_len]); omega) (by have := HS.out.box.lt_; omega) ?_; intro v4 w4' ho4 hg4; replace HS := Lib.hid (HS.out.grow' rfl HG2.out.1.symm hg4 ho4); clear ho4 hg4 HG2; (try clear x0 x1 x2 x3 x4 x5 x6 x7); (try clear z0 z1 z2 z3 z4 z5 z6 z7); obtain ⟨x0, x1, x2, x3, x4, x5, x6, x7, -⟩ := HS.out.box)
            | (refine step_append_rd (by rfl) _ _ 24 (by rfl) (w.heap.size + 1) 5 i0 (.int .u8 0) 1 Try.underlying24 hi0 hz0 hz1 hz2 rfl _ _ _ (by rfl) HS.out.row _ .u8 _ _ _ _ (by rfl) HQ2.out.1 (by (try simp only [List.length_append, List.length_cons, List.length_nil, w4_len, nm_len]); unfold maxLen; omega) (by (try simp only [List.length_append, List.length_cons, List.length_nil, w4_len, nm_len]); omega) (by have := HS.out.box.lt_; omega) ?_; intro v4 w4' ho4 hg4; replace HS := Lib.hid (HS.out.grow' rfl HQ2.out.1.1.symm hg4 ho4); clear ho4 hg4 HQ2; (try clear x0 x1 x2 x3 x4 x5 x6 x7); (try clear z0 z1 z2 z3 z4 z5 z6 z7); obtain ⟨x0, x1, x2, x3, x4, x5, x6, x7, -⟩ := HS.out.box))
          all_goals
            go_wp2_with fail
            exact ⟨⟨j + 1, by omega, by simp, Lib.hid (by rw [flat_take _ _ _ _ HGJ.out, ← List.append_assoc, HDJ.out]; have hq := HS.out; rw [List.append_assoc] at hq; exact hq)⟩, by simp [intOf]; omega⟩
      · obtain rfl : li = j := by omega
        have HD4 : Hid (L3 ++ o.imps.flatMap impE = lj) := Lib.hid (by rw [← HDJ.out, List.take_of_length_le (by have := HLN.out.1; omega)])
        clear HDJ HIL
        (try clear x0 x1 x2 x3 x4 x5 x6 x7); (try clear z0 z1 z2 z3 z4 z5 z6 z7)
        clear hlj
        have hlj : lj.length ≤ 3430 := by
          rw [← HD4.out, List.length_append]
          have h1 := flat_len impE 260 o.imps fun x hx => by have := (HT.out.imps x hx).1; simp only [impE, List.length_append, List.length_cons, List.length_nil, w4_len, nm_len]; omega
          have h2 : o.imps.length ≤ 12 := by have := HLN.out.1; have := HLI.out; omega
          have h3 := Nat.mul_le_mul_right 260 h2
          omega
        obtain ⟨x0, x1, x2, x3, x4, x5, x6, x7, -⟩ := HS.out.box
        go_wp2_with fail
        go_cut [3] from 9 (fun v W => BS w o ai li ci at_ lt ct ac lc cc ae le ce af lf cf W v (lj ++ w4 o.vars ++ w4 lt))
        case first =>
          as_aux_lemma =>
            replace HS := Lib.hid HS.out.drew
            (try clear x0 x1 x2 x3 x4 x5 x6 x7); (try clear z0 z1 z2 z3 z4 z5 z6 z7)
            obtain ⟨x0, x1, x2, x3, x4, x5, x6, x7, -⟩ := HS.out.box
            go_region_law (first
              | (refine step_call rfl 24 _ _ rfl #[.int .u32 (IntKind.u32.wrap o.vars)] (by rfl) (by rfl) (rword_w o.vars _) ?_; rintro e v3 ⟨g1, rfl, hge, hrd, hb⟩; refine ⟨_, rfl, ?_⟩; have HQ1 := Lib.hid (RdM.new HS.out hge hrd); (try replace HQ1 := Lib.hid (HQ1.out.next hb)); (try replace HQ2 := Lib.hid (HQ2.out.next hb)); (try replace HG2 := Lib.hid (HG2.out.next hb)); (try replace HC := Lib.hid (HC.out.next hb)); replace HS := Lib.hid (HS.out.next hb); clear hge hrd hb; (try clear x0 x1 x2 x3 x4 x5 x6 x7); (try clear z0 z1 z2 z3 z4 z5 z6 z7); obtain ⟨x0, x1, x2, x3, x4, x5, x6, x7, -⟩ := HS.out.box)
              | (refine step_call rfl 24 _ _ rfl #[.int .u32 (IntKind.u32.wrap (lt : Int))] (by rfl) (by rfl) (rword_w (lt : Int) _) ?_; rintro e v3 ⟨g2, rfl, hge, hrd, hb⟩; refine ⟨_, rfl, ?_⟩; have HQ2 := Lib.hid (RdM.new HS.out hge hrd); (try replace HQ1 := Lib.hid (HQ1.out.next hb)); (try replace HQ2 := Lib.hid (HQ2.out.next hb)); (try replace HG2 := Lib.hid (HG2.out.next hb)); (try replace HC := Lib.hid (HC.out.next hb)); replace HS := Lib.hid (HS.out.next hb); clear hge hrd hb; (try clear x0 x1 x2 x3 x4 x5 x6 x7); (try clear z0 z1 z2 z3 z4 z5 z6 z7); obtain ⟨x0, x1, x2, x3, x4, x5, x6, x7, -⟩ := HS.out.box)
              | (refine step_append_rd (by rfl) _ _ 24 (by rfl) (w.heap.size + 1) 5 i0 (.int .u8 0) 1 Try.underlying24 hi0 hz0 hz1 hz2 rfl _ _ _ (by rfl) HS.out.row _ .u8 _ _ _ _ (by rfl) (HQ1.out.1) (by (try simp only [List.length_append, List.length_cons, List.length_nil, w4_len, nm_len]); unfold maxLen; omega) (by (try simp only [List.length_append, List.length_cons, List.length_nil, w4_len, nm_len]); omega) (by have := HS.out.box.lt_; omega) ?_; intro v4 w4' ho4 hg4; (try have HG2 := Lib.hid (HQ2.out.grow hg4)); (try clear HQ2); (try replace HC := Lib.hid (HC.out.grow hg4)); replace HS := Lib.hid (HS.out.grow' rfl (HQ1.out.1.1.symm) hg4 ho4); clear ho4 hg4; (try clear x0 x1 x2 x3 x4 x5 x6 x7); (try clear z0 z1 z2 z3 z4 z5 z6 z7); obtain ⟨x0, x1, x2, x3, x4, x5, x6, x7, -⟩ := HS.out.box; clear HQ1)
              | (refine step_append_rd (by rfl) _ _ 24 (by rfl) (w.heap.size + 1) 5 i0 (.int .u8 0) 1 Try.underlying24 hi0 hz0 hz1 hz2 rfl _ _ _ (by rfl) HS.out.row _ .u8 _ _ _ _ (by rfl) (HG2.out) (by (try simp only [List.length_append, List.length_cons, List.length_nil, w4_len, nm_len]); unfold maxLen; omega) (by (try simp only [List.length_append, List.length_cons, List.length_nil, w4_len, nm_len]); omega) (by have := HS.out.box.lt_; omega) ?_; intro v4 w4' ho4 hg4; (try clear HC); replace HS := Lib.hid (HS.out.grow' rfl (HG2.out.1.symm) hg4 ho4); clear ho4 hg4; (try clear x0 x1 x2 x3 x4 x5 x6 x7); (try clear z0 z1 z2 z3 z4 z5 z6 z7); obtain ⟨x0, x1, x2, x3, x4, x5, x6, x7, -⟩ := HS.out.box; clear HG2)
              | (refine step_append_rd (by rfl) _ _ 24 (by rfl) (w.heap.size + 1) 5 i0 (.int .u8 0) 1 Try.underlying24 hi0 hz0 hz1 hz2 rfl _ _ _ (by rfl) HS.out.row _ .u8 _ _ _ _ (by rfl) (HQ2.out.1) (by (try simp only [List.length_append, List.length_cons, List.length_nil, w4_len, nm_len]); unfold maxLen; omega) (by (try simp only [List.length_append, List.length_cons, List.length_nil, w4_len, nm_len]); omega) (by have := HS.out.box.lt_; omega) ?_; intro v4 w4' ho4 hg4; (try clear HC); replace HS := Lib.hid (HS.out.grow' rfl (HQ2.out.1.1.symm) hg4 ho4); clear ho4 hg4; (try clear x0 x1 x2 x3 x4 x5 x6 x7); (try clear z0 z1 z2 z3 z4 z5 z6 z7); obtain ⟨x0, x1, x2, x3, x4, x5, x6, x7, -⟩ := HS.out.box; clear HQ2))
            all_goals
              go_wp2_with fail
              go_meet
              case rel => exact HS.out
        case rest =>
          replace HS := Lib.hid hcut
          clear hcut
          have hL5 : (lj ++ w4 o.vars ++ w4 lt).length ≤ 3440 := by
            simp only [List.length_append, List.length_cons, List.length_nil, w4_len, nm_len]
            omega
          generalize hd5 : lj ++ w4 o.vars ++ w4 lt = L5 at *
          have HD5 := Lib.hid hd5
          clear hd5
          (try clear x0 x1 x2 x3 x4 x5 x6 x7); (try clear z0 z1 z2 z3 z4 z5 z6 z7)
          obtain ⟨x0, x1, x2, x3, x4, x5, x6, x7, -⟩ := HS.out.box
          go_wp2_with fail
          go_cut [3] from 9 (fun v W => BS w o ai li ci at_ lt ct ac lc cc ae le ce af lf cf W v (L5 ++ o.text ++ w4 lc))
          case first =>
            as_aux_lemma =>
              replace HS := Lib.hid HS.out.drew
              (try clear x0 x1 x2 x3 x4 x5 x6 x7); (try clear z0 z1 z2 z3 z4 z5 z6 z7)
              obtain ⟨x0, x1, x2, x3, x4, x5, x6, x7, -⟩ := HS.out.box
              have htl : o.text.length = lt := HLN.out.2.1
              have HTL := Lib.hid htl
              clear htl
              go_region_law (first
                | (refine step_call rfl 24 _ _ rfl #[.int .u32 (IntKind.u32.wrap (lc : Int))] (by rfl) (by rfl) (rword_w (lc : Int) _) ?_; rintro e v3 ⟨g2, rfl, hge, hrd, hb⟩; refine ⟨_, rfl, ?_⟩; have HQ2 := Lib.hid (RdM.new HS.out hge hrd); (try replace HQ1 := Lib.hid (HQ1.out.next hb)); (try replace HQ2 := Lib.hid (HQ2.out.next hb)); (try replace HG2 := Lib.hid (HG2.out.next hb)); (try replace HC := Lib.hid (HC.out.next hb)); replace HS := Lib.hid (HS.out.next hb); clear hge hrd hb; (try clear x0 x1 x2 x3 x4 x5 x6 x7); (try clear z0 z1 z2 z3 z4 z5 z6 z7); obtain ⟨x0, x1, x2, x3, x4, x5, x6, x7, -⟩ := HS.out.box)
                | (refine step_append_rd (by rfl) _ _ 24 (by rfl) (w.heap.size + 1) 5 i0 (.int .u8 0) 1 Try.underlying24 hi0 hz0 hz1 hz2 rfl _ _ _ (by rfl) HS.out.row _ .u8 _ _ _ _ (by rfl) (rd_low HS.out HR.out.text HW.out) (by (try simp only [List.length_append, List.length_cons, List.length_nil, w4_len, nm_len]); unfold maxLen; omega) (by (try simp only [List.length_append, List.length_cons, List.length_nil, w4_len, nm_len]); omega) (by have := HS.out.box.lt_; omega) ?_; intro v4 w4' ho4 hg4; (try have HG2 := Lib.hid (HQ2.out.grow hg4)); (try clear HQ2); (try replace HC := Lib.hid (HC.out.grow hg4)); replace HS := Lib.hid (HS.out.grow' rfl (HTL.out.symm) hg4 ho4); clear ho4 hg4; (try clear x0 x1 x2 x3 x4 x5 x6 x7); (try clear z0 z1 z2 z3 z4 z5 z6 z7); obtain ⟨x0, x1, x2, x3, x4, x5, x6, x7, -⟩ := HS.out.box)
                | (refine step_append_rd (by rfl) _ _ 24 (by rfl) (w.heap.size + 1) 5 i0 (.int .u8 0) 1 Try.underlying24 hi0 hz0 hz1 hz2 rfl _ _ _ (by rfl) HS.out.row _ .u8 _ _ _ _ (by rfl) (HG2.out) (by (try simp only [List.length_append, List.length_cons, List.length_nil, w4_len, nm_len]); unfold maxLen; omega) (by (try simp only [List.length_append, List.length_cons, List.length_nil, w4_len, nm_len]); omega) (by have := HS.out.box.lt_; omega) ?_; intro v4 w4' ho4 hg4; (try clear HC); replace HS := Lib.hid (HS.out.grow' rfl (HG2.out.1.symm) hg4 ho4); clear ho4 hg4; (try clear x0 x1 x2 x3 x4 x5 x6 x7); (try clear z0 z1 z2 z3 z4 z5 z6 z7); obtain ⟨x0, x1, x2, x3, x4, x5, x6, x7, -⟩ := HS.out.box; clear HG2)
                | (refine step_append_rd (by rfl) _ _ 24 (by rfl) (w.heap.size + 1) 5 i0 (.int .u8 0) 1 Try.underlying24 hi0 hz0 hz1 hz2 rfl _ _ _ (by rfl) HS.out.row _ .u8 _ _ _ _ (by rfl) (HQ2.out.1) (by (try simp only [List.length_append, List.length_cons, List.length_nil, w4_len, nm_len]); unfold maxLen; omega) (by (try simp only [List.length_append, List.length_cons, List.length_nil, w4_len, nm_len]); omega) (by have := HS.out.box.lt_; omega) ?_; intro v4 w4' ho4 hg4; (try clear HC); replace HS := Lib.hid (HS.out.grow' rfl (HQ2.out.1.1.symm) hg4 ho4); clear ho4 hg4; (try clear x0 x1 x2 x3 x4 x5 x6 x7); (try clear z0 z1 z2 z3 z4 z5 z6 z7); obtain ⟨x0, x1, x2, x3, x4, x5, x6, x7, -⟩ := HS.out.box; clear HQ2))
              all_goals
                go_wp2_with fail
                go_meet
                case rel => exact HS.out
          case rest =>
            replace HS := Lib.hid hcut
            clear hcut
            have hL6 : (L5 ++ o.text ++ w4 lc).length ≤ 11640 := by
              simp only [List.length_append, List.length_cons, List.length_nil, w4_len, nm_len]
              have := HLN.out.2.1
              omega
            generalize hd6 : L5 ++ o.text ++ w4 lc = L6 at *
            have HD6 := Lib.hid hd6
            clear hd6
            (try clear x0 x1 x2 x3 x4 x5 x6 x7); (try clear z0 z1 z2 z3 z4 z5 z6 z7)
            obtain ⟨x0, x1, x2, x3, x4, x5, x6, x7, -⟩ := HS.out.box
            go_wp2_with fail
            go_loopw [3, 5] (fun v i wr => ∃ j : Nat, j ≤ lc ∧ i = .int .i64 j ∧ Hid (BS w o ai li ci at_ lt ct ac lc cc ae le ce af lf cf wr v (L6 ++ (o.code.take j).flatMap w4))) (fun _ i _ => lc - (intOf i).toNat)
            case atStart => exact ⟨0, Nat.zero_le _, rfl, Lib.hid (by rw [List.take_zero, List.flatMap_nil, List.append_nil]; exact HS.out)⟩
            case round =>
              obtain ⟨j, hj, rfl, HS2⟩ := hrel
              clear HS
              have HS := HS2
              clear HS2
              have hlj : (L6 ++ (o.code.take j).flatMap w4).length ≤ 77200 := by
                have h1 := flat_len w4 4 (o.code.take j) fun x hx => Nat.le_refl _
                have h2 : (o.code.take j).length ≤ lc := by rw [List.length_take]; omega
                have h3 := Nat.mul_le_mul_right 4 h2
                rw [List.length_append]
                omega
              generalize hdj : L6 ++ (o.code.take j).flatMap w4 = lk at *
              have HDJ := Lib.hid hdj
              clear hdj
              (try clear x0 x1 x2 x3 x4 x5 x6 x7); (try clear z0 z1 z2 z3 z4 z5 z6 z7)
              obtain ⟨x0, x1, x2, x3, x4, x5, x6, x7, -⟩ := HS.out.box
              by_cases hlt : j < lc
              · have hjl : j < o.code.length := by have := HLN.out.2.2.1; omega
                obtain ⟨p, hpe, hpb, hp⟩ := HR.out.code.2.2.2.2.2 (by omega)
                subst hpe
                have HGJ := Lib.hid (List.getElem?_eq_getElem hjl)
                have HCI : Hid (∀ V, Below w.heap.size w V → V.cell? (p.add j) = some (.int .u32 o.code[j])) := Lib.hid fun V hV => by
                  rw [(HW.out.trans (hV.mono HW.out.size)).cell (by rw [block_add]; exact hpb), hp j hlt, nth_eq _ _ hjl]
                have HKJ := Lib.hid (HT.out.code _ (List.getElem_mem hjl))
                clear hp
                generalize o.code[j] = ej at *
                have c0 := HCI.out _ HS.out.bel
                go_wp2_with (first
                  | (go_at_call 24; refine (rword_m ej HKJ.out _).mono ?_; rintro e v3 ⟨g1, rfl, hge, hrd, hb⟩; have HQ1 := Lib.hid (RdM.new HS.out hge hrd); (try replace HQ1 := Lib.hid (HQ1.out.next hb)); (try replace HQ2 := Lib.hid (HQ2.out.next hb)); (try replace HG2 := Lib.hid (HG2.out.next hb)); (try replace HC := Lib.hid (HC.out.next hb)); replace HS := Lib.hid (HS.out.next hb); clear hge hrd hb; (try clear x0 x1 x2 x3 x4 x5 x6 x7); (try clear z0 z1 z2 z3 z4 z5 z6 z7); obtain ⟨x0, x1, x2, x3, x4, x5, x6, x7, -⟩ := HS.out.box; (try clear c0); have c0 := HCI.out _ HS.out.bel)
                  | (at_builtin; refine wpList_append_rd (by rfl) _ _ 24 (by rfl) (w.heap.size + 1) 5 i0 (.int .u8 0) 1 Try.underlying24 hi0 hz0 hz1 hz2 rfl _ _ _ (by rfl) HS.out.row _ .u8 _ _ _ _ (by rfl) (HQ1.out.1) (by (try simp only [List.length_append, List.length_cons, List.length_nil, w4_len, nm_len]); unfold maxLen; omega) (by (try simp only [List.length_append, List.length_cons, List.length_nil, w4_len, nm_len]); omega) (by have := HS.out.box.lt_; omega) ?_; intro v4 w4' ho4 hg4; replace HS := Lib.hid (HS.out.grow' rfl (HQ1.out.1.1.symm) hg4 ho4); clear ho4 hg4; (try clear x0 x1 x2 x3 x4 x5 x6 x7); (try clear z0 z1 z2 z3 z4 z5 z6 z7); obtain ⟨x0, x1, x2, x3, x4, x5, x6, x7, -⟩ := HS.out.box; clear HQ1))
                exact ⟨⟨j + 1, by omega, by simp, Lib.hid (by rw [flat_take _ _ _ _ HGJ.out, ← List.append_assoc, HDJ.out]; exact HS.out)⟩, by simp [intOf]; omega⟩
              · obtain rfl : lc = j := by omega
                have HD7 : Hid (L6 ++ o.code.flatMap w4 = lk) := Lib.hid (by rw [← HDJ.out, List.take_of_length_le (by have := HLN.out.2.2.1; omega)])
                clear HDJ
                generalize hlkk : lk = L7 at *
                clear hlkk
                (try clear x0 x1 x2 x3 x4 x5 x6 x7); (try clear z0 z1 z2 z3 z4 z5 z6 z7)
                obtain ⟨x0, x1, x2, x3, x4, x5, x6, x7, -⟩ := HS.out.box
                skip
                go_wp2_with (first | (at_builtin; have HQ2 := Lib.hid (RdM.made HS.out (le : Int)); replace HS := Lib.hid (HS.out.next (below1 _ (.cells #[.int .u8 (le : Int)] 5))); refine wpList_append_rd (by rfl) _ _ 24 (by rfl) (w.heap.size + 1) 5 i0 (.int .u8 0) 1 Try.underlying24 hi0 hz0 hz1 hz2 rfl _ _ _ (by rfl) HS.out.row _ .u8 _ _ _ _ (by rfl) (HQ2.out.1) (by (try simp only [List.length_append, List.length_cons, List.length_nil, w4_len, nm_len]); unfold maxLen; omega) (by (try simp only [List.length_append, List.length_cons, List.length_nil, w4_len, nm_len]); omega) (by have := HS.out.box.lt_; omega) ?_; intro v4 w4' ho4 hg4; replace HS := Lib.hid (HS.out.grow' rfl (HQ2.out.1.1.symm) hg4 ho4); clear ho4 hg4; (try clear x0 x1 x2 x3 x4 x5 x6 x7); (try clear z0 z1 z2 z3 z4 z5 z6 z7); obtain ⟨x0, x1, x2, x3, x4, x5, x6, x7, -⟩ := HS.out.box; clear HQ2))
                have hL8 : (L7 ++ [(le : Int)]).length ≤ 77201 := by
                  simp only [List.length_append, List.length_cons, List.length_nil, w4_len, nm_len]
                  omega
                generalize hd8 : L7 ++ [(le : Int)] = L8 at *
                have HD8 := Lib.hid hd8
                clear hd8
                (try clear x0 x1 x2 x3 x4 x5 x6 x7); (try clear z0 z1 z2 z3 z4 z5 z6 z7)
                obtain ⟨x0, x1, x2, x3, x4, x5, x6, x7, -⟩ := HS.out.box
                go_wp2_with fail
                go_loopw [3, 6] (fun v i wr => ∃ j : Nat, j ≤ le ∧ i = .int .i64 j ∧ Hid (BS w o ai li ci at_ lt ct ac lc cc ae le ce af lf cf wr v (L8 ++ (o.ents.take j).flatMap w4))) (fun _ i _ => le - (intOf i).toNat)
                case atStart => exact ⟨0, Nat.zero_le _, rfl, Lib.hid (by rw [List.take_zero, List.flatMap_nil, List.append_nil]; exact HS.out)⟩
                case round =>
                  obtain ⟨j, hj, rfl, HS2⟩ := hrel
                  clear HS
                  have HS := HS2
                  clear HS2
                  have hlj : (L8 ++ (o.ents.take j).flatMap w4).length ≤ 78010 := by
                    have h1 := flat_len w4 4 (o.ents.take j) fun x hx => Nat.le_refl _
                    have h2 : (o.ents.take j).length ≤ le := by rw [List.length_take]; omega
                    have h3 := Nat.mul_le_mul_right 4 h2
                    rw [List.length_append]
                    omega
                  generalize hdj : L8 ++ (o.ents.take j).flatMap w4 = lk at *
                  have HDJ := Lib.hid hdj
                  clear hdj
                  (try clear x0 x1 x2 x3 x4 x5 x6 x7); (try clear z0 z1 z2 z3 z4 z5 z6 z7)
                  obtain ⟨x0, x1, x2, x3, x4, x5, x6, x7, -⟩ := HS.out.box
                  by_cases hlt : j < le
                  · have hjl : j < o.ents.length := by have := HLN.out.2.2.2.1; omega
                    obtain ⟨p, hpe, hpb, hp⟩ := HR.out.ents.2.2.2.2.2 (by omega)
                    subst hpe
                    have HGJ := Lib.hid (List.getElem?_eq_getElem hjl)
                    have HCI : Hid (∀ V, Below w.heap.size w V → V.cell? (p.add j) = some (.int .i64 o.ents[j])) := Lib.hid fun V hV => by
                      rw [(HW.out.trans (hV.mono HW.out.size)).cell (by rw [block_add]; exact hpb), hp j hlt, nth_eq _ _ hjl]
                    have HKJ := Lib.hid (True.intro)
                    clear hp
                    generalize o.ents[j] = ej at *
                    have c0 := HCI.out _ HS.out.bel
                    go_wp2_with (first
                      | (go_at_call 24; refine (rword_w ej _).mono ?_; rintro e v3 ⟨g1, rfl, hge, hrd, hb⟩; have HQ1 := Lib.hid (RdM.new HS.out hge hrd); (try replace HQ1 := Lib.hid (HQ1.out.next hb)); (try replace HQ2 := Lib.hid (HQ2.out.next hb)); (try replace HG2 := Lib.hid (HG2.out.next hb)); (try replace HC := Lib.hid (HC.out.next hb)); replace HS := Lib.hid (HS.out.next hb); clear hge hrd hb; (try clear x0 x1 x2 x3 x4 x5 x6 x7); (try clear z0 z1 z2 z3 z4 z5 z6 z7); obtain ⟨x0, x1, x2, x3, x4, x5, x6, x7, -⟩ := HS.out.box; (try clear c0); have c0 := HCI.out _ HS.out.bel)
                      | (at_builtin; refine wpList_append_rd (by rfl) _ _ 24 (by rfl) (w.heap.size + 1) 5 i0 (.int .u8 0) 1 Try.underlying24 hi0 hz0 hz1 hz2 rfl _ _ _ (by rfl) HS.out.row _ .u8 _ _ _ _ (by rfl) (HQ1.out.1) (by (try simp only [List.length_append, List.length_cons, List.length_nil, w4_len, nm_len]); unfold maxLen; omega) (by (try simp only [List.length_append, List.length_cons, List.length_nil, w4_len, nm_len]); omega) (by have := HS.out.box.lt_; omega) ?_; intro v4 w4' ho4 hg4; replace HS := Lib.hid (HS.out.grow' rfl (HQ1.out.1.1.symm) hg4 ho4); clear ho4 hg4; (try clear x0 x1 x2 x3 x4 x5 x6 x7); (try clear z0 z1 z2 z3 z4 z5 z6 z7); obtain ⟨x0, x1, x2, x3, x4, x5, x6, x7, -⟩ := HS.out.box; clear HQ1))
                    exact ⟨⟨j + 1, by omega, by simp, Lib.hid (by rw [flat_take _ _ _ _ HGJ.out, ← List.append_assoc, HDJ.out]; exact HS.out)⟩, by simp [intOf]; omega⟩
                  · obtain rfl : le = j := by omega
                    have HD9 : Hid (L8 ++ o.ents.flatMap w4 = lk) := Lib.hid (by rw [← HDJ.out, List.take_of_length_le (by have := HLN.out.2.2.2.1; omega)])
                    clear HDJ
                    generalize hlkk : lk = L9 at *
                    clear hlkk
                    (try clear x0 x1 x2 x3 x4 x5 x6 x7); (try clear z0 z1 z2 z3 z4 z5 z6 z7)
                    obtain ⟨x0, x1, x2, x3, x4, x5, x6, x7, -⟩ := HS.out.box
                    go_wp2_with (first
                      | (go_at_call 24; refine (rword_m (lf : Int) ⟨by omega, by omega⟩ _).mono ?_; rintro e v3 ⟨g1, rfl, hge, hrd, hb⟩; have HQ1 := Lib.hid (RdM.new HS.out hge hrd); (try replace HQ1 := Lib.hid (HQ1.out.next hb)); (try replace HQ2 := Lib.hid (HQ2.out.next hb)); (try replace HG2 := Lib.hid (HG2.out.next hb)); (try replace HC := Lib.hid (HC.out.next hb)); replace HS := Lib.hid (HS.out.next hb); clear hge hrd hb; (try clear x0 x1 x2 x3 x4 x5 x6 x7); (try clear z0 z1 z2 z3 z4 z5 z6 z7); obtain ⟨x0, x1, x2, x3, x4, x5, x6, x7, -⟩ := HS.out.box)
                      | (at_builtin; refine wpList_append_rd (by rfl) _ _ 24 (by rfl) (w.heap.size + 1) 5 i0 (.int .u8 0) 1 Try.underlying24 hi0 hz0 hz1 hz2 rfl _ _ _ (by rfl) HS.out.row _ .u8 _ _ _ _ (by rfl) (HQ1.out.1) (by (try simp only [List.length_append, List.length_cons, List.length_nil, w4_len, nm_len]); unfold maxLen; omega) (by (try simp only [List.length_append, List.length_cons, List.length_nil, w4_len, nm_len]); omega) (by have := HS.out.box.lt_; omega) ?_; intro v4 w4' ho4 hg4; replace HS := Lib.hid (HS.out.grow' rfl (HQ1.out.1.1.symm) hg4 ho4); clear ho4 hg4; (try clear x0 x1 x2 x3 x4 x5 x6 x7); (try clear z0 z1 z2 z3 z4 z5 z6 z7); obtain ⟨x0, x1, x2, x3, x4, x5, x6, x7, -⟩ := HS.out.box; clear HQ1))
                    have hL10 : (L9 ++ w4 (lf : Int)).length ≤ 78020 := by
                      simp only [List.length_append, List.length_cons, List.length_nil, w4_len, nm_len]
                      omega
                    generalize hd10 : L9 ++ w4 (lf : Int) = L10 at *
                    have HD10 := Lib.hid hd10
                    clear hd10
                    (try clear x0 x1 x2 x3 x4 x5 x6 x7); (try clear z0 z1 z2 z3 z4 z5 z6 z7)
                    obtain ⟨x0, x1, x2, x3, x4, x5, x6, x7, -⟩ := HS.out.box
                    go_wp2_with fail
                    go_loopw [3, 7] (fun v i wr => ∃ j : Nat, j ≤ lf ∧ i = .int .i64 j ∧ Hid (BS w o ai li ci at_ lt ct ac lc cc ae le ce af lf cf wr v (L10 ++ (o.fixs.take j).flatMap fixE))) (fun _ i _ => lf - (intOf i).toNat)
                    case atStart => exact ⟨0, Nat.zero_le _, rfl, Lib.hid (by rw [List.take_zero, List.flatMap_nil, List.append_nil]; exact HS.out)⟩
                    case round =>
                      obtain ⟨j, hj, rfl, HS2⟩ := hrel
                      clear HS
                      have HS := HS2
                      clear HS2
                      have hlj : (L10 ++ (o.fixs.take j).flatMap fixE).length ≤ 127172 := by
                        have h1 := flat_len fixE 6 (o.fixs.take j) fun x hx => Nat.le_refl _
                        have h2 : (o.fixs.take j).length ≤ lf := by rw [List.length_take]; omega
                        have h3 := Nat.mul_le_mul_right 6 h2
                        rw [List.length_append]
                        omega
                      generalize hdj : L10 ++ (o.fixs.take j).flatMap fixE = lk at *
                      have HDJ := Lib.hid hdj
                      clear hdj
                      (try clear x0 x1 x2 x3 x4 x5 x6 x7); (try clear z0 z1 z2 z3 z4 z5 z6 z7)
                      obtain ⟨x0, x1, x2, x3, x4, x5, x6, x7, -⟩ := HS.out.box
                      by_cases hlt : j < lf
                      · have hjl : j < o.fixs.length := by have := HLN.out.2.2.2.2; omega
                        obtain ⟨p, hpe, hpb, hp⟩ := HR.out.fixs.2.2.2.2 (by omega)
                        subst hpe
                        have HGJ := Lib.hid (List.getElem?_eq_getElem hjl)
                        have HCI : Hid (∀ V, Below w.heap.size w V → FixAt V (p.add (j * 3)) o.fixs[j].1 o.fixs[j].2.1 o.fixs[j].2.2) := Lib.hid fun V hV => (hp j _ HGJ.out).below (by rw [add_sz]; exact hpb) (HW.out.trans (hV.mono HW.out.size))
                        clear hp
                        generalize o.fixs[j] = ej at *
                        obtain ⟨fa, fb, fc⟩ := ej
                        have HCI : Hid (∀ V, Below w.heap.size w V → FixAt V (p.add (j * 3)) fa fb fc) := HCI
                        obtain ⟨c0, c1, c2⟩ := HCI.out _ HS.out.bel
                        go_wp2_with fail
                        have HC : Hid (CM (wr.alloc (.cells #[.int .i64 fa, .int .i64 fb, .int .i64 fc] 51)) u3 wr.heap.size fa fb fc) := Lib.hid (cm_new HS.out fa fb fc)
                        replace HS := Lib.hid (HS.out.next (below1 _ (.cells #[.int .i64 fa, .int .i64 fb, .int .i64 fc] 51)))
                        clear c0 c1 c2
                        (try clear x0 x1 x2 x3 x4 x5 x6 x7); (try clear z0 z1 z2 z3 z4 z5 z6 z7)
                        generalize wr.alloc (.cells #[.int .i64 fa, .int .i64 fb, .int .i64 fc] 51) = W1 at *
                        generalize wr.heap.size = g8 at *
                        obtain ⟨y0, y1, y2⟩ := (HC.out.next ((below1 W1 (.cells #[.int .u8 (IntKind.u8.wrap fb), .int .u8 (IntKind.u8.wrap fc)] 5)).drew)).1.2
                        replace HC := Lib.hid (HC.out.next (Below.refl _ _).drew)
                        replace HS := Lib.hid HS.out.drew
                        obtain ⟨x0, x1, x2, x3, x4, x5, x6, x7, -⟩ := HS.out.box
                        obtain ⟨c0, c1, c2⟩ := HC.out.1.2
                        as_aux_lemma =>
                          go_region_law (first
                            | (refine step_call rfl 24 _ _ rfl #[.int .u32 (IntKind.u32.wrap fa)] (by rfl) (by rfl) (rword_w fa _) ?_; rintro e v3 ⟨g1, rfl, hge, hrd, hb⟩; refine ⟨_, rfl, ?_⟩; have HQ1 := Lib.hid (RdM.new HS.out hge hrd); (try replace HQ1 := Lib.hid (HQ1.out.next hb)); (try replace HQ2 := Lib.hid (HQ2.out.next hb)); (try replace HG2 := Lib.hid (HG2.out.next hb)); (try replace HC := Lib.hid (HC.out.next hb)); replace HS := Lib.hid (HS.out.next hb); clear hge hrd hb; (try clear x0 x1 x2 x3 x4 x5 x6 x7); (try clear z0 z1 z2 z3 z4 z5 z6 z7); obtain ⟨x0, x1, x2, x3, x4, x5, x6, x7, -⟩ := HS.out.box; (try clear c0 c1 c2); (try obtain ⟨c0, c1, c2⟩ := HC.out.1.2); (try obtain ⟨c0, c1, c2⟩ := HC.out.2))
                            | (refine step_append_rd (by rfl) _ _ 24 (by rfl) (w.heap.size + 1) 5 i0 (.int .u8 0) 1 Try.underlying24 hi0 hz0 hz1 hz2 rfl _ _ _ (by rfl) HS.out.row _ .u8 _ _ _ _ (by rfl) (HQ1.out.1) (by (try simp only [List.length_append, List.length_cons, List.length_nil, w4_len, nm_len]); unfold maxLen; omega) (by (try simp only [List.length_append, List.length_cons, List.length_nil, w4_len, nm_len]); omega) (by have := HS.out.box.lt_; omega) ?_; intro v4 w4' ho4 hg4; (try have HG2 := Lib.hid (HQ2.out.grow hg4)); (try clear HQ2); (try replace HC := Lib.hid (HC.out.grow hg4)); replace HS := Lib.hid (HS.out.grow' rfl (HQ1.out.1.1.symm) hg4 ho4); clear ho4 hg4; (try clear x0 x1 x2 x3 x4 x5 x6 x7); (try clear z0 z1 z2 z3 z4 z5 z6 z7); obtain ⟨x0, x1, x2, x3, x4, x5, x6, x7, -⟩ := HS.out.box; clear HQ1; (try clear c0 c1 c2); (try obtain ⟨c0, c1, c2⟩ := HC.out.1.2); (try obtain ⟨c0, c1, c2⟩ := HC.out.2))
                            | (refine step_append_rd (by rfl) _ _ 24 (by rfl) (w.heap.size + 1) 5 i0 (.int .u8 0) 1 Try.underlying24 hi0 hz0 hz1 hz2 rfl _ _ _ (by rfl) HS.out.row _ .u8 _ _ _ _ (by rfl) (HG2.out) (by (try simp only [List.length_append, List.length_cons, List.length_nil, w4_len, nm_len]); unfold maxLen; omega) (by (try simp only [List.length_append, List.length_cons, List.length_nil, w4_len, nm_len]); omega) (by have := HS.out.box.lt_; omega) ?_; intro v4 w4' ho4 hg4; (try clear HC); replace HS := Lib.hid (HS.out.grow' rfl (HG2.out.1.symm) hg4 ho4); clear ho4 hg4; (try clear x0 x1 x2 x3 x4 x5 x6 x7); (try clear z0 z1 z2 z3 z4 z5 z6 z7); obtain ⟨x0, x1, x2, x3, x4, x5, x6, x7, -⟩ := HS.out.box; clear HG2; (try clear c0 c1 c2); (try obtain ⟨c0, c1, c2⟩ := HC.out.1.2); (try obtain ⟨c0, c1, c2⟩ := HC.out.2))
                            | (refine step_append_rd (by rfl) _ _ 24 (by rfl) (w.heap.size + 1) 5 i0 (.int .u8 0) 1 Try.underlying24 hi0 hz0 hz1 hz2 rfl _ _ _ (by rfl) HS.out.row _ .u8 _ _ _ _ (by rfl) (HQ2.out.1) (by (try simp only [List.length_append, List.length_cons, List.length_nil, w4_len, nm_len]); unfold maxLen; omega) (by (try simp only [List.length_append, List.length_cons, List.length_nil, w4_len, nm_len]); omega) (by have := HS.out.box.lt_; omega) ?_; intro v4 w4' ho4 hg4; (try clear HC); replace HS := Lib.hid (HS.out.grow' rfl (HQ2.out.1.1.symm) hg4 ho4); clear ho4 hg4; (try clear x0 x1 x2 x3 x4 x5 x6 x7); (try clear z0 z1 z2 z3 z4 z5 z6 z7); obtain ⟨x0, x1, x2, x3, x4, x5, x6, x7, -⟩ := HS.out.box; clear HQ2; (try clear c0 c1 c2); (try obtain ⟨c0, c1, c2⟩ := HC.out.1.2); (try obtain ⟨c0, c1, c2⟩ := HC.out.2))
                            | (have HQ2 := Lib.hid (RdM.made2 HS.out (IntKind.u8.wrap fb) (IntKind.u8.wrap fc)); (try replace HQ1 := Lib.hid (HQ1.out.next (below1 _ (.cells #[.int .u8 (IntKind.u8.wrap fb), .int .u8 (IntKind.u8.wrap fc)] 5)))); (try replace HC := Lib.hid (HC.out.next (below1 _ (.cells #[.int .u8 (IntKind.u8.wrap fb), .int .u8 (IntKind.u8.wrap fc)] 5)))); replace HS := Lib.hid (HS.out.next (below1 _ (.cells #[.int .u8 (IntKind.u8.wrap fb), .int .u8 (IntKind.u8.wrap fc)] 5))); (first
                              | (refine step_call rfl 24 _ _ rfl #[.int .u32 (IntKind.u32.wrap fa)] (by rfl) (by rfl) (rword_w fa _) ?_; rintro e v3 ⟨g1, rfl, hge, hrd, hb⟩; refine ⟨_, rfl, ?_⟩; have HQ1 := Lib.hid (RdM.new HS.out hge hrd); (try replace HQ1 := Lib.hid (HQ1.out.next hb)); (try replace HQ2 := Lib.hid (HQ2.out.next hb)); (try replace HG2 := Lib.hid (HG2.out.next hb)); (try replace HC := Lib.hid (HC.out.next hb)); replace HS := Lib.hid (HS.out.next hb); clear hge hrd hb; (try clear x0 x1 x2 x3 x4 x5 x6 x7); (try clear z0 z1 z2 z3 z4 z5 z6 z7); obtain ⟨x0, x1, x2, x3, x4, x5, x6, x7, -⟩ := HS.out.box; (try clear c0 c1 c2); (try obtain ⟨c0, c1, c2⟩ := HC.out.1.2); (try obtain ⟨c0, c1, c2⟩ := HC.out.2))
                              | (refine step_append_rd (by rfl) _ _ 24 (by rfl) (w.heap.size + 1) 5 i0 (.int .u8 0) 1 Try.underlying24 hi0 hz0 hz1 hz2 rfl _ _ _ (by rfl) HS.out.row _ .u8 _ _ _ _ (by rfl) (HQ1.out.1) (by (try simp only [List.length_append, List.length_cons, List.length_nil, w4_len, nm_len]); unfold maxLen; omega) (by (try simp only [List.length_append, List.length_cons, List.length_nil, w4_len, nm_len]); omega) (by have := HS.out.box.lt_; omega) ?_; intro v4 w4' ho4 hg4; (try have HG2 := Lib.hid (HQ2.out.grow hg4)); (try clear HQ2); (try replace HC := Lib.hid (HC.out.grow hg4)); replace HS := Lib.hid (HS.out.grow' rfl (HQ1.out.1.1.symm) hg4 ho4); clear ho4 hg4; (try clear x0 x1 x2 x3 x4 x5 x6 x7); (try clear z0 z1 z2 z3 z4 z5 z6 z7); obtain ⟨x0, x1, x2, x3, x4, x5, x6, x7, -⟩ := HS.out.box; clear HQ1; (try clear c0 c1 c2); (try obtain ⟨c0, c1, c2⟩ := HC.out.1.2); (try obtain ⟨c0, c1, c2⟩ := HC.out.2))
                              | (refine step_append_rd (by rfl) _ _ 24 (by rfl) (w.heap.size + 1) 5 i0 (.int .u8 0) 1 Try.underlying24 hi0 hz0 hz1 hz2 rfl _ _ _ (by rfl) HS.out.row _ .u8 _ _ _ _ (by rfl) (HG2.out) (by (try simp only [List.length_append, List.length_cons, List.length_nil, w4_len, nm_len]); unfold maxLen; omega) (by (try simp only [List.length_append, List.length_cons, List.length_nil, w4_len, nm_len]); omega) (by have := HS.out.box.lt_; omega) ?_; intro v4 w4' ho4 hg4; (try clear HC); replace HS := Lib.hid (HS.out.grow' rfl (HG2.out.1.symm) hg4 ho4); clear ho4 hg4; (try clear x0 x1 x2 x3 x4 x5 x6 x7); (try clear z0 z1 z2 z3 z4 z5 z6 z7); obtain ⟨x0, x1, x2, x3, x4, x5, x6, x7, -⟩ := HS.out.box; clear HG2; (try clear c0 c1 c2); (try obtain ⟨c0, c1, c2⟩ := HC.out.1.2); (try obtain ⟨c0, c1, c2⟩ := HC.out.2))
                              | (refine step_append_rd (by rfl) _ _ 24 (by rfl) (w.heap.size + 1) 5 i0 (.int .u8 0) 1 Try.underlying24 hi0 hz0 hz1 hz2 rfl _ _ _ (by rfl) HS.out.row _ .u8 _ _ _ _ (by rfl) (HQ2.out.1) (by (try simp only [List.length_append, List.length_cons, List.length_nil, w4_len, nm_len]); unfold maxLen; omega) (by (try simp only [List.length_append, List.length_cons, List.length_nil, w4_len, nm_len]); omega) (by have := HS.out.box.lt_; omega) ?_; intro v4 w4' ho4 hg4; (try clear HC); replace HS := Lib.hid (HS.out.grow' rfl (HQ2.out.1.1.symm) hg4 ho4); clear ho4 hg4; (try clear x0 x1 x2 x3 x4 x5 x6 x7); (try clear z0 z1 z2 z3 z4 z5 z6 z7); obtain ⟨x0, x1, x2, x3, x4, x5, x6, x7, -⟩ := HS.out.box; clear HQ2; (try clear c0 c1 c2); (try obtain ⟨c0, c1, c2⟩ := HC.out.1.2); (try obtain ⟨c0, c1, c2⟩ := HC.out.2)))))
                          all_goals
                            go_wp2_with fail
                            exact ⟨⟨j + 1, by omega, by simp, Lib.hid (by rw [flat_take _ _ _ _ HGJ.out, ← List.append_assoc, HDJ.out]; have hq := HS.out; rw [List.append_assoc] at hq; exact hq)⟩, by simp [intOf]; omega⟩
                      · obtain rfl : lf = j := by omega
                        have HD11 : Hid (L10 ++ o.fixs.flatMap fixE = lk) := Lib.hid (by rw [← HDJ.out, List.take_of_length_le (by have := HLN.out.2.2.2.2; omega)])
                        clear HDJ
                        have HE : Hid (lk = bytesO o) := Lib.hid (by
                          obtain ⟨e1, e2, e3, e4, e5⟩ := HLN.out
                          rw [← HD11.out, ← HD10.out, ← HD9.out, ← HD8.out, ← HD7.out, ← HD6.out, ← HD5.out, ← HD4.out, ← HD3.out, ← HD2.out]
                          unfold bytesO
                          rw [e1, e2, e3, e4, e5, wrap8, show (le : Int) % 256 = le by omega]
                          simp only [List.append_assoc])
                        obtain ⟨A, c, hv, -, hrd⟩ := rd_own HS.out.row
                        subst hv
                        generalize lk.length = nk at *
                        rw [HE.out] at hrd
                        go_wp2_with fail
                        go_ret
                        exact ⟨A, _, c, rfl, hrd, HS.out.bel⟩
end Go.Proofs.Ytekipbfafofkdaa
