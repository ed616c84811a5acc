/-
  A builder of strings: contracts of what it does, with what stays.
-/
import Derived.Test.YtlodoilihminaaaGreatDoorScrE
import Derived.Lib.Builder
import Derived.Lib.AppendStr
import Derived.Lib.UnsafeStr
import Derived.Laws.AppendOwn
import Derived.Laws.Externs
namespace Go.Proofs.YtlodoilihminaaaGreatDoor
open Go.ChangeShapes Go.WideShapes Go.ChangeAt Go.RowKit
set_option linter.unusedVariables false
set_option linter.unusedSimpArgs false
theorem bt_size : ∃ j, Tryz.prog.info? 79 = some j ∧ j.size ≠ 0 := by
  have h : (Tryz.prog.info? 79).map (·.size) = some 2 := by kernel_rfl
  obtain ⟨j, h1, h2⟩ := Option.map_eq_some_iff.1 h
  exact ⟨j, h1, by rw [h2]; decide⟩
/-- a builder, there -/
structure Bd (W : World) (b : Nat) (p v : Value) (L : List UInt8) : Prop where
  blk : W.heap[b]? = some (.cells #[p, v] 79 (0, 0))
  own : W.ownsRow b 5 1 v L.length (Lib.byteCells L)
  ne : v.ownBlock ≠ some b
  pp : p = .pointer none ∨ p = .pointer (some ⟨b, 0, none⟩)
def notRow (o : Obj) : Prop := ∀ cs fr, o ≠ .cells cs 5 fr
/-- what a writer leaves: all but the builder, and rows of bytes -/
structure Bf (b : Nat) (W W' : World) : Prop where
  below : Below b W W'
  kept : ∀ z o, W.heap[z]? = some o → z ≠ b → notRow o → W'.heap[z]? = some o
/-- .. all but the builder and its own buffer -/
def Bk (b : Nat) (v : Value) (W W' : World) : Prop := ∀ z, z < W.heap.size → z ≠ b → v.ownBlock ≠ some z → W'.heap[z]? = W.heap[z]?
theorem Bk.trans {b : Nat} {v : Value} {W W1 W2 : World} (h : Bk b v W W1) (k : Bk b v W1 W2) (hs : W.heap.size ≤ W1.heap.size) : Bk b v W W2 :=
  fun z hz h1 h2 => (k z (Nat.lt_of_lt_of_le hz hs) h1 h2).trans (h z hz h1 h2)
theorem Bf.size {b : Nat} {W W' : World} (h : Bf b W W') : W.heap.size ≤ W'.heap.size := h.below.size
theorem Bf.trans {b : Nat} {W W1 W2 : World} (h : Bf b W W1) (k : Bf b W1 W2) : Bf b W W2 :=
  ⟨h.below.trans k.below, fun z o hz h1 h2 => k.kept z o (h.kept z o hz h1 h2) h1 h2⟩
theorem Bf.refl (b : Nat) (W : World) : Bf b W W := ⟨Below.refl _ _, fun _ _ h _ _ => h⟩
theorem Bf.of_below {b : Nat} {W W' : World} (h : Below W.heap.size W W') (hb : b ≤ W.heap.size) : Bf b W W' :=
  ⟨h.mono hb, fun z o hz _ _ => (h.block z (Array.getElem?_eq_some_iff.1 hz).1).trans hz⟩
theorem Bd.lt {W : World} {b : Nat} {p v : Value} {L : List UInt8} (h : Bd W b p v L) : b < W.heap.size := (Array.getElem?_eq_some_iff.1 h.blk).1
theorem Bd.vlt {W : World} {b : Nat} {p v : Value} {L : List UInt8} (h : Bd W b p v L) : ∀ k, v.ownBlock = some k → b < k ∧ k < W.heap.size := fun k e => by
  have := h.own.lt k e
  have hn := h.ne
  refine ⟨?_, this.2⟩
  have h3 : k ≠ b := fun e2 => hn (by rw [← e2]; exact e)
  omega
/-- nothing below is touched -/
theorem Bd.next {W V : World} {b : Nat} {p v : Value} {L : List UInt8} (h : Bd W b p v L) (hb : V.heap[b]? = W.heap[b]?) (hv : ∀ k, v.ownBlock = some k → V.heap[k]? = W.heap[k]?) : Bd V b p v L := by
  refine ⟨hb.trans h.blk, ⟨h.own.1, ?_⟩, h.ne, h.pp⟩
  rcases h.own.2 with hn | ⟨g, cap, cur, e, hB, hc, h1, h2, h3, h4⟩
  · exact .inl hn
  · refine .inr ⟨g, cap, cur, e, hB, ?_, h1, h2, h3, h4⟩
    rw [hv g (by rw [e]; rfl)]
    exact hc
theorem len_any {W : World} {b : Nat} {p v : Value} {L : List UInt8} (h : Bd W b p v L) : Calls Tryz.prog 40 #[.pointer (some ⟨b, 0, none⟩)] W fun e w' => e = .returned (.int .i64 (L.length : Int)) ∧ w' = W := by
  have hi : Lib.IsBuilder 79 5 b b (Lib.byteCells L) W := by
    have hl : (Lib.byteCells L).length = L.length := by simp [Lib.byteCells]
    rcases h.pp with e | e
    · exact .inl ⟨Nat.le_refl _, v, by rw [← e]; exact h.blk, by rw [hl]; exact h.own, h.ne⟩
    · exact .inr ⟨Nat.le_refl _, v, by rw [← e]; exact h.blk, by rw [hl]; exact h.own, h.ne⟩
  have c := Tryz.Builder_Len b b (Lib.byteCells L) W hi
  rwa [show (Lib.byteCells L).length = L.length by simp [Lib.byteCells]] at c
theorem string_any {W : World} {b : Nat} {p v : Value} {L : List UInt8} (h : Bd W b p v L) : Calls Tryz.prog 42 #[.pointer (some ⟨b, 0, none⟩)] W fun e w' => e = .returned (.string (S L)) ∧ Below b W w' := by
  have hi : Lib.IsBuilder 79 5 b b (Lib.byteCells L) W := by
    have hl : (Lib.byteCells L).length = L.length := by simp [Lib.byteCells]
    rcases h.pp with e | e
    · exact .inl ⟨Nat.le_refl _, v, by rw [← e]; exact h.blk, by rw [hl]; exact h.own, h.ne⟩
    · exact .inr ⟨Nat.le_refl _, v, by rw [← e]; exact h.blk, by rw [hl]; exact h.own, h.ne⟩
  exact Tryz.Builder_String_any b b L W hi (Nat.le_of_lt h.lt)
set_option maxRecDepth 100000 in
set_option maxHeartbeats 1000000 in
theorem copyCheck_any {W : World} {b : Nat} {p v : Value} {L : List UInt8} (h : Bd W b p v L) : Calls Tryz.prog 68 #[.pointer (some ⟨b, 0, none⟩)] W fun e w' => e = .returned (.tuple #[]) ∧ Bd w' b (.pointer (some ⟨b, 0, none⟩)) v L ∧ Bf b W w' ∧ Bk b v W w' := by
  obtain ⟨j, hj, hjs⟩ := bt_size
  rcases h.pp with rfl | rfl
  · have hsh : W.shape? b = some (79, 2) := by simp [World.shape?, h.blk]
    have h0 : W.cell? ⟨b, 0, none⟩ = some (.pointer none) := by rw [World.cell?, h.blk]; rfl
    have f0 : W.frozen? ⟨b, 0, none⟩ = false := by rw [World.frozen?, h.blk]; simp
    have q1 := Lib.run_to_unsafe (P := Tryz.prog) W (src := 77) (dst := 113) (⟨b, 0, none⟩ : Addr) Tryz.underlying77 Tryz.underlying113 hj hjs hsh (show 0 < 2 by decide)
    have q2 := Lib.run_from_unsafe (P := Tryz.prog) W (src := 113) (dst := 77) (⟨b, 0, none⟩ : Addr) Tryz.underlying113 Tryz.underlying77 hj hsh (by kernel_rfl)
    have q3 := Lib.run_neq_ptr_same (P := Tryz.prog) (W.setCell ⟨b, 0, none⟩ (.pointer (some ⟨b, 0, none⟩))) (tp := 77) (⟨b, 0, none⟩ : Addr) Tryz.underlying77 hj
    have q0 : (callFunc 83 #[.pointer (some ⟨b, 0, none⟩)]).run Tryz.prog W = .ok (.value (.pointer (some ⟨b, 0, none⟩))) W := by
      rw [run_callFunc_extern (P := Tryz.prog) (f := 83) (fn := Tryz.f83) (by kernel_rfl) (by kernel_rfl) (by kernel_rfl) (by kernel_rfl) (e := Extern.AbiNoEscape.same) (by kernel_rfl), Lib.run_noEscape]
      rfl
    have hB : Bd (W.setCell ⟨b, 0, none⟩ (.pointer (some ⟨b, 0, none⟩))) b (.pointer (some ⟨b, 0, none⟩)) v L :=
      ⟨(heap_setCell_same W b 0 _ h.blk).trans rfl, ownsRow_setCell_other h.own (a := ⟨b, 0, none⟩) h.ne _, h.ne, .inr rfl⟩
    have hF : Bf b W (W.setCell ⟨b, 0, none⟩ (.pointer (some ⟨b, 0, none⟩))) :=
      ⟨(Below.refl b W).setCell (Nat.le_refl b) _, fun z o hz h1 h2 => (Below.heap_setCell W _ _ z h1).trans hz⟩
    have HB := Lib.hid hB
    have hK : Bk b v W (W.setCell ⟨b, 0, none⟩ (.pointer (some ⟨b, 0, none⟩))) := fun z hz h1 h2 => Below.heap_setCell W _ _ z h1
    have HF := Lib.hid (And.intro hF hK)
    clear hB hF hK h
    go_enter Tryz.func68, Tryz.ntmps68
    go_wp2
    go_end0
    exact ⟨rfl, HB.out, HF.out⟩
  · have h0 : W.cell? ⟨b, 0, none⟩ = some (.pointer (some ⟨b, 0, none⟩)) := by rw [World.cell?, h.blk]; rfl
    have q3 := Lib.run_neq_ptr_same (P := Tryz.prog) W (tp := 77) (⟨b, 0, none⟩ : Addr) Tryz.underlying77 hj
    have HB := Lib.hid h
    clear h
    go_enter Tryz.func68, Tryz.ntmps68
    go_wp2
    go_end0
    exact ⟨rfl, HB.out, Bf.refl _ _, fun _ _ _ _ => rfl⟩
theorem Bd.row {W : World} {b : Nat} {p v : Value} {L : List UInt8} (h : Bd W b p v L) : ∀ k, v.ownBlock = some k → ∃ cs fr, W.heap[k]? = some (.cells cs 5 fr) := fun k e => by
  rcases h.own.2 with ⟨hn, -⟩ | ⟨g, cap, cur, e2, hB, hc, h1, h2, h3, h4⟩
  · rw [hn] at e; cases e
  · rw [e2] at e
    cases e
    exact ⟨_, _, hc⟩
theorem bi_parts : ∃ i, Tryz.prog.info? 5 = some i ∧ i.zero = some (.int .u8 0) ∧ i.size = 1 ∧ i.bytes = 1 := by
  have h : (Tryz.prog.info? 5).map (fun i => (i.zero, i.size, i.bytes)) = some (some (.int .u8 0), 1, 1) := by kernel_rfl
  obtain ⟨i, e1, e2⟩ := Option.map_eq_some_iff.1 h
  exact ⟨i, e1, (Prod.mk.inj e2).1, (Prod.mk.inj (Prod.mk.inj e2).2).1, (Prod.mk.inj (Prod.mk.inj e2).2).2⟩
/-- behind an append, the buffer stored -/
theorem Bd.stored {W W2 : World} {b : Nat} {v v' : Value} {L L' : List UInt8} (h : Bd W b (.pointer (some ⟨b, 0, none⟩)) v L) (W1 : World) (hb : Below W.heap.size W W1) (ho : W2.ownsRow b 5 1 v' L'.length (Lib.byteCells L')) (hg : W1.grownBy W2 v.ownBlock) :
    W2.heap[b]? = some (.cells #[.pointer (some ⟨b, 0, none⟩), v] 79 (0, 0)) ∧ Bd (W2.setCell ⟨b, 1, none⟩ v') b (.pointer (some ⟨b, 0, none⟩)) v' L' ∧ Bf b W (W2.setCell ⟨b, 1, none⟩ v') ∧ Bk b v W (W2.setCell ⟨b, 1, none⟩ v') := by
  have h0 : W2.heap[b]? = some (.cells #[.pointer (some ⟨b, 0, none⟩), v] 79 (0, 0)) := by
    rw [hg.block b (Nat.lt_of_lt_of_le h.lt hb.size) (fun e => h.ne e.symm), hb.block b h.lt]
    exact h.blk
  have hne : v'.ownBlock ≠ some b := fun e => by
    rcases ho.2 with ⟨hn, -⟩ | ⟨g, cap, cur, e2, hB, hc, -⟩
    · rw [hn] at e; cases e
    · rw [e2] at e
      cases e
      rw [h0] at hc
      have := Option.some.inj hc
      injection this with _ e3 _
      exact absurd e3 (by decide)
  refine ⟨h0, ⟨(heap_setCell_same W2 b 1 _ h0).trans rfl, ownsRow_setCell_other ho (a := ⟨b, 1, none⟩) hne _, hne, .inr rfl⟩, ⟨?_, ?_⟩, fun z hz h1 h2 => by
    rw [Below.heap_setCell W2 _ _ z h1, hg.block z (Nat.lt_of_lt_of_le hz hb.size) (fun e => h2 e.symm), hb.block z hz]⟩
  · have hb2 : Below b W W1 := hb.mono (Nat.le_of_lt h.lt)
    have hb3 : Below b W W2 := hb2.grown hg (Nat.le_trans (Nat.le_of_lt h.lt) hb.size) (fun k e => Nat.le_of_lt (h.vlt k e).1)
    exact hb3.setCell (Nat.le_refl b) _
  · intro z o hz h1 h2
    rw [Below.heap_setCell W2 _ _ z h1]
    have hzl := (Array.getElem?_eq_some_iff.1 hz).1
    rw [hg.block z (Nat.lt_of_lt_of_le hzl hb.size) (fun e => by
      obtain ⟨cs, fr, hr⟩ := h.row z e.symm
      rw [hz] at hr
      exact h2 cs fr (Option.some.inj hr)), hb.block z hzl]
    exact hz
theorem gowns_form {w : World} {b sz n : Nat} {e : TypeId} {v : Value} {xs : List Value} (h : w.ownsRow b e sz v n xs) : ∃ A c, v = .slice A n c := by
  rcases h.2 with ⟨hv, hn⟩ | ⟨g, cap, cur, e2, -⟩
  · obtain ⟨rfl, -⟩ : n = 0 ∧ True := ⟨by first | exact hn.1 | (have := hn; simp_all), trivial⟩
    exact ⟨none, 0, hv⟩
  · exact ⟨_, _, e2⟩
theorem hnew1 (w1 : World) (x : Value) : ∀ (j : Nat) u, [x][j]? = some u → (w1.alloc (.cells #[x] 5)).cell? (Addr.add ⟨w1.heap.size, 0, none⟩ j) = some u := by
  intro j u hj
  match j, hj with
  | 0, hj => simp at hj; subst hj; simp [Addr.add]
theorem byte_snoc (L : List UInt8) (c : UInt8) : Lib.byteCells (L ++ [c]) = Lib.byteCells L ++ [.int .u8 (c.toNat : Int)] := by simp [Lib.byteCells]
set_option maxRecDepth 100000 in
set_option maxHeartbeats 1000000 in
theorem wbyte_any {W : World} {b : Nat} {p v : Value} {L : List UInt8} (h : Bd W b p v L) (c : UInt8) (hl : L.length ≤ 100000000) : Calls Tryz.prog 39 #[.pointer (some ⟨b, 0, none⟩), .int .u8 (c.toNat : Int)] W fun e w' => e = .returned .nilIface ∧ ∃ v', Bd w' b (.pointer (some ⟨b, 0, none⟩)) v' (L ++ [c]) ∧ Bf b W w' := by
  have HC := Lib.hid (copyCheck_any h)
  obtain ⟨i, hi, hz, hs, hb⟩ := bi_parts
  clear h
  go_enter Tryz.func39, Tryz.ntmps39
  go_wp2_with (first
    | (go_at_call 68; (with_reducible refine HC.out.mono ?_); rintro e w1 ⟨rfl, h1, hf, hk⟩; have H1 := Lib.hid h1; have HF := Lib.hid hf; have HK := Lib.hid hk; have k1 : w1.cell? ⟨b, 1, none⟩ = some v := (by rw [World.cell?, h1.blk]; rfl); clear h1 hf hk)
    | (at_builtin; refine wpList_append_own _ rfl _ _ 24 rfl b 5 i (.int .u8 0) 1 1 Tryz.underlying24 hi hz hs hb rfl (by decide) v L.length (Lib.byteCells L) rfl (H1.out.own.alloc _) ⟨w1.heap.size, 0, none⟩ 1 1 [.int .u8 (c.toNat : Int)] rfl rfl (hnew1 w1 _) (by simp [Value.oneCell']) (by unfold maxLen; omega) (by omega) (Nat.le_trans (Nat.le_of_lt H1.out.lt) (by simp)) ?_; intro v' w2 ho hg _; obtain ⟨A2, c2, hv⟩ := gowns_form ho; subst hv; have HST := Lib.hid (H1.out.stored (L' := L ++ [c]) _ (sbelow1 w1 _) (by rw [byte_snoc]; simpa using ho) hg); have k2 : w2.cell? ⟨b, 1, none⟩ = some v := (by rw [World.cell?, HST.out.1]; rfl); have f2 : w2.frozen? ⟨b, 1, none⟩ = false := (by rw [World.frozen?, HST.out.1]; simp); clear ho hg))
  go_ret
  exact ⟨rfl, _, HST.out.2.1, HF.out.trans HST.out.2.2.1⟩
theorem str_cells (l : List UInt8) : Lib.strCells (S l) = Lib.byteCells l := rfl
theorem byte_app (L l : List UInt8) : Lib.byteCells (L ++ l) = Lib.byteCells L ++ Lib.byteCells l := by simp [Lib.byteCells]
set_option maxRecDepth 100000 in
set_option maxHeartbeats 1000000 in
theorem wstr_any {W : World} {b : Nat} {p v : Value} {L : List UInt8} (h : Bd W b p v L) (l : List UInt8) (hl : L.length + l.length ≤ 100000000) : Calls Tryz.prog 38 #[.pointer (some ⟨b, 0, none⟩), .string (S l)] W fun e w' => e = .returned (.tuple #[.int .i64 (l.length : Int), .nilIface]) ∧ ∃ v', Bd w' b (.pointer (some ⟨b, 0, none⟩)) v' (L ++ l) ∧ Bf b W w' ∧ Bk b v W w' := by
  have HC := Lib.hid (copyCheck_any h)
  obtain ⟨i, hi, hz, hs, hb⟩ := bi_parts
  have hsl := S_size l
  obtain ⟨s, hss⟩ : ∃ s, s = S l := ⟨_, rfl⟩
  rw [← hss] at hsl ⊢
  have HSS := Lib.hid hss
  have HSL := Lib.hid hsl
  clear h hss hsl
  go_enter Tryz.func38, Tryz.ntmps38
  go_wp2_with (first
    | (go_at_call 68; (with_reducible refine HC.out.mono ?_); rintro e w1 ⟨rfl, h1, hf, hk⟩; have H1 := Lib.hid h1; have HF := Lib.hid hf; have HK := Lib.hid hk; have k1 : w1.cell? ⟨b, 1, none⟩ = some v := (by rw [World.cell?, h1.blk]; rfl); clear h1 hf hk)
    | (at_builtin; refine Lib.wpList_append_own_string _ rfl _ _ 24 9 rfl b 5 i Tryz.underlying24 Tryz.underlying9 hi hz hs hb v L.length (Lib.byteCells L) rfl H1.out.own s rfl (by rw [HSL.out]; unfold maxLen; omega) (by rw [HSL.out]; omega) (Nat.le_of_lt H1.out.lt) ?_; intro v' w2 ho hg _; obtain ⟨A2, c2, hv⟩ := gowns_form ho; subst hv; have HST := Lib.hid (H1.out.stored (L' := L ++ l) _ (Below.refl _ _) (by rw [byte_app]; have h := ho; rw [HSS.out, str_cells, S_size] at h; simpa [HSS.out, S_size] using h) hg); have k2 : w2.cell? ⟨b, 1, none⟩ = some v := (by rw [World.cell?, HST.out.1]; rfl); have f2 : w2.frozen? ⟨b, 1, none⟩ = false := (by rw [World.frozen?, HST.out.1]; simp); clear ho hg))
  go_ret2
  rw [HSL.out]
  exact ⟨rfl, _, HST.out.2.1, HF.out.trans HST.out.2.2.1, HK.out.trans HST.out.2.2.2 HF.out.size⟩
end Go.Proofs.YtlodoilihminaaaGreatDoor
