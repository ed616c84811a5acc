/-
  tree.Names of a node, told: each name once, in the order in which they come.
-/
import Derived.Test.YtkhbmamgfkpdbaaTreeX
import Derived.Test.YtkhbmamgfkpdbaaTreeO
import Derived.Maps.OwnSet
import Derived.StringKeys
import Derived.Deep.Cut
import Derived.Deep.AppendLies
namespace Go.Proofs.Ytkhbmamgfkpdbaa
open Go.ChangeShapes Go.WideShapes Go.ChangeAt Go.RowKit
set_option linter.unusedVariables false
def notName (k : Int) : Bool := k == 27 || k == 34 || k == 35
open Classical in
noncomputable def addName (l : List ByteArray) (k : Int) (s : ByteArray) : List ByteArray := if notName k = true then l else if s.toList = [] then l else if s ∈ l then l else l ++ [s]
theorem addName_len (l : List ByteArray) (k : Int) (s : ByteArray) : (addName l k s).length ≤ l.length + 1 := by
  unfold addName
  repeat' split
  all_goals simp
mutual
/-- the names of a tree, behind some -/
noncomputable def Tr.names : Tr → List ByteArray → List ByteArray
  | .mk k s _ _ ts, l => Tr.namesL ts (addName l k s)
noncomputable def Tr.namesL : List Tr → List ByteArray → List ByteArray
  | [], l => l
  | t :: ts, l => Tr.namesL ts (t.names l)
end
mutual
theorem names_len : ∀ (t : Tr) (l : List ByteArray), (t.names l).length ≤ l.length + t.count
  | .mk k s v m ts, l => by
    unfold Tr.names Tr.count
    have h1 := namesL_len ts (addName l k s)
    have h2 := addName_len l k s
    omega
theorem namesL_len : ∀ (ts : List Tr) (l : List ByteArray), (Tr.namesL ts l).length ≤ l.length + Tr.countL ts
  | [], l => by unfold Tr.namesL Tr.countL; omega
  | t :: ts, l => by
    unfold Tr.namesL Tr.countL
    have h1 := namesL_len ts (t.names l)
    have h2 := names_len t l
    omega
end
theorem namesL_take {ts : List Tr} {j : Nat} (h : j < ts.length) (l : List ByteArray) : Tr.namesL (ts.take (j + 1)) l = ts[j].names (Tr.namesL (ts.take j) l) := by
  induction ts generalizing j l with
  | nil => simp at h
  | cons t ts ih =>
    cases j with
    | zero => simp [Tr.namesL]
    | succ j =>
      simp only [List.take_succ_cons, Tr.namesL, List.getElem_cons_succ]
      exact ih (by simpa using h) _
noncomputable def intE : Value → Option (DataW Unit × List MemPlace) := plainElem Try.prog 3
/-- where Names stands: its variables, and what they hold -/
structure NamesAt (B : Nat) (W : World) (bl bs bk mb : Nat) (lv : Value) (n : Nat) (D : DataW Unit) (l : List ByteArray) : Prop where
  hl : W.heap[bl]? = some (.cells #[lv] 32 (0, 0))
  row : W.ownsRow B 9 1 lv l.length (l.map Value.string)
  hs : W.heap[bs]? = some (.cells #[.map (some mb)] 51 (0, 0))
  hk : W.heap[bk]? = some (.cells #[.func (.func 29) #[] #[.pointer (some ⟨bs, 0, none⟩), .pointer (some ⟨bl, 0, none⟩), .pointer (some ⟨bk, 0, none⟩)]] 52 (0, 0))
  hm : W.ownsMap Try.prog 9 intE mb n D
  hn : n ≤ l.length
  yes : ∀ s : ByteArray, s ∈ l → ∃ c : Int, D.atKey (.string s.data.toList) (.lit (.int .i64 0)) = .lit (.int .i64 c) ∧ c ≠ 0
  no : ∀ s : ByteArray, s ∉ l → D.atKey (.string s.data.toList) (.lit (.int .i64 0)) = .lit (.int .i64 0)
  far : ∀ b, lv.ownBlock = some b → b ≠ bl ∧ b ≠ bs ∧ b ≠ bk ∧ b ≠ mb
  d1 : bl ≠ bs
  d2 : bl ≠ bk
  d3 : bs ≠ bk
  d4 : mb ≠ bl
  d5 : mb ≠ bs
  d6 : mb ≠ bk
  Bl : B ≤ bl
  Bm : B ≤ mb
section
variable {B bl bs bk mb n : Nat} {W V : World} {lv : Value} {D : DataW Unit} {l : List ByteArray}
theorem lt_blk {W : World} {b : Nat} {o : Obj} (h : W.heap[b]? = some o) : b < W.heap.size := (Array.getElem?_eq_some_iff.1 h).1
theorem ownsMap_keepI {b n : Nat} {D : DataW Unit} (h : W.ownsMap Try.prog 9 intE b n D) (hk : V.heap[b]? = W.heap[b]?) : V.ownsMap Try.prog 9 intE b n D := by
  obtain ⟨es, clock, hb, F, hs, hD⟩ := h
  exact ⟨es, clock, hk.trans hb, F, hs, hD⟩
theorem NamesAt.below (h : NamesAt B W bl bs bk mb lv n D l) (hb : Below W.heap.size W V) : NamesAt B V bl bs bk mb lv n D l :=
  ⟨by rw [hb.block _ (lt_blk h.hl)]; exact h.hl, ownsRow_keep h.row fun b hx => hb.block b (h.row.lt b hx).2, by rw [hb.block _ (lt_blk h.hs)]; exact h.hs, by rw [hb.block _ (lt_blk h.hk)]; exact h.hk, ownsMap_keepI h.hm (hb.block _ h.hm.lt), h.hn, h.yes, h.no, h.far, h.d1, h.d2, h.d3, h.d4, h.d5, h.d6, h.Bl, h.Bm⟩
theorem cell0 {b : Nat} {v : Value} {t : TypeId} (h : W.heap[b]? = some (.cells #[v] t (0, 0))) : W.cell? ⟨b, 0, none⟩ = some v := by simp [World.cell?, h]
theorem frz0 {b : Nat} {cs : Array Value} {t : TypeId} (o : Nat) (h : W.heap[b]? = some (.cells cs t (0, 0))) : W.frozen? ⟨b, o, none⟩ = false := by simp [World.frozen?, h]
theorem zeroI (w : World) : (zeroValue 3).run Try.prog w = .ok (.int .i64 0) w := by kernel_rfl
theorem keyS {nm : ByteArray} (h : nm.size ≤ maxLen) : keyOf Try.prog 9 (.string nm) = some (.string nm.data.toList) := Go.WideMaps.keyOf_string_mk Try.underlying9 h
theorem keyedS : Maps.Keyed Try.prog 9 := Maps.string_keyed Try.underlying9
theorem NamesAt.look (h : NamesAt B W bl bs bk mb lv n D l) {s : ByteArray} (hs : s.size ≤ maxLen) : ∃ c : Int, (Instr.lookup 51 (.map (some mb)) (.string s) false).run Try.prog W = .ok (.int .i64 c) W ∧ (s ∈ l → (c == 0) = false) ∧ (s ∉ l → c = 0) := by
  obtain ⟨c, hrun, hat, -⟩ := h.hm.lookup_int keyedS Try.underlying51 Try.underlying3 (zeroI W) (keyS hs)
  refine ⟨c, hrun, fun hm => ?_, fun hm => ?_⟩
  · obtain ⟨c', e, hc⟩ := h.yes s hm
    rw [e] at hat
    cases hat
    simpa using hc
  · have e := h.no s hm
    rw [e] at hat
    cases hat
    rfl
theorem set_blk {w : World} {b i : Nat} {cs : Array Value} {u : Value} {t : TypeId} (h : w.heap[b]? = some (.cells cs t (0, 0))) : (w.setCell ⟨b, i, none⟩ u).heap[b]? = some (.cells (cs.setIfInBounds i u) t (0, 0)) := by
  have hlt := lt_blk h
  have h' : w.heap[b] = .cells cs t (0, 0) := by simpa [Array.getElem?_eq_getElem hlt] using h
  show (w.heap.modify b _)[b]? = _
  rw [Array.getElem?_eq_getElem (by simpa using hlt), Array.getElem_modify_self, h']
  rfl
theorem keyLitT (l : List UInt8) : WideAt.IsKeyLit (.string l) := by
  first
    | trivial
    | simp [WideAt.IsKeyLit]
/-- a name more -/
theorem NamesAt.push (h : NamesAt B W bl bs bk mb lv n D l) {s : ByteArray} (hs : s.size ≤ maxLen) (hnew : s ∉ l) {X Y : World} {gg cap1 : Nat} (ho : X.ownsRow B 9 1 (.slice (some ⟨gg, 0, none⟩) (l.length + 1) cap1) (l.length + 1) (l.map Value.string ++ [.string s])) (hX : W.grownBy X lv.ownBlock) (hat : lv.ownBlock = some gg ∨ W.heap.size ≤ gg)
    {D' : DataW Unit} (hD : D' = D.put (.string s.data.toList) (.lit (.int .i64 ((l.length : Int) + 1)))) (hm : Y.ownsMap Try.prog 9 intE mb (n + 1) D') (hY : (X.setCell ⟨bl, 0, none⟩ (.slice (some ⟨gg, 0, none⟩) (l.length + 1) cap1)).grownBy Y (some mb)) :
    NamesAt B Y bl bs bk mb (.slice (some ⟨gg, 0, none⟩) (l.length + 1) cap1) (n + 1) D' (l ++ [s]) := by
  have kX : ∀ c, c < W.heap.size → some c ≠ lv.ownBlock → X.heap[c]? = W.heap[c]? := fun c hc hn => hX.block c hc hn
  have sX : W.heap.size ≤ X.heap.size := hX.size
  have kS : ∀ c, c ≠ bl → (X.setCell ⟨bl, 0, none⟩ (.slice (some ⟨gg, 0, none⟩) (l.length + 1) cap1)).heap[c]? = X.heap[c]? := fun c hc => Below.heap_setCell _ _ _ _ hc
  have sS : (X.setCell ⟨bl, 0, none⟩ (.slice (some ⟨gg, 0, none⟩) (l.length + 1) cap1)).heap.size = X.heap.size := by simp [World.setCell]
  have kY : ∀ c, c < X.heap.size → c ≠ mb → Y.heap[c]? = (X.setCell ⟨bl, 0, none⟩ (.slice (some ⟨gg, 0, none⟩) (l.length + 1) cap1)).heap[c]? := fun c hc hn => hY.block c (by rw [sS]; exact hc) (fun e => hn (Option.some.inj e))
  have fr : ∀ c, c = bl ∨ c = bs ∨ c = bk ∨ c = mb → some c ≠ lv.ownBlock := fun c hc e => by
    obtain ⟨h1, h2, h3, h4⟩ := h.far c e.symm
    omega
  have lbl := lt_blk h.hl
  have lbs := lt_blk h.hs
  have lbk := lt_blk h.hk
  have lmb := h.hm.lt
  have hgg : gg ≠ bl ∧ gg ≠ bs ∧ gg ≠ bk ∧ gg ≠ mb := by
    rcases hat with e | e
    · exact h.far gg e
    · omega
  have hne := h.d1
  have hne2 := h.d2
  refine ⟨?_, ?_, ?_, ?_, hm, by have := h.hn; simp; omega, fun x hx => ?_, fun x hx => ?_, fun b hb => ?_, h.d1, h.d2, h.d3, h.d4, h.d5, h.d6, h.Bl, h.Bm⟩
  · rw [kY bl (by omega) (Ne.symm h.d4)]
    have e : X.heap[bl]? = some (.cells #[lv] 32 (0, 0)) := by rw [kX bl lbl (fr bl (.inl rfl))]; exact h.hl
    exact set_blk (i := 0) e
  · have e : (l ++ [s]).length = l.length + 1 := by simp
    have e2 : (l ++ [s]).map Value.string = l.map Value.string ++ [.string s] := by simp
    rw [e, e2]
    refine ownsRow_keep ho fun c hc => ?_
    have hc : gg = c := by simpa [Value.ownBlock] using hc
    subst hc
    have hlt := (ho.lt gg rfl).2
    rw [kY gg hlt hgg.2.2.2, kS gg hgg.1]
  · rw [kY bs (by omega) (Ne.symm h.d5), kS bs (Ne.symm hne), kX bs lbs (fr bs (.inr (.inl rfl)))]; exact h.hs
  · rw [kY bk (by omega) (Ne.symm h.d6), kS bk (Ne.symm hne2), kX bk lbk (fr bk (.inr (.inr (.inl rfl))))]; exact h.hk
  · rw [hD]
    by_cases e : x.data.toList = s.data.toList
    · rw [e, Maps.atKey_put_same h.hm.isMap (keyLitT _)]
      exact ⟨_, rfl, by omega⟩
    · rw [Maps.atKey_put_other (by intro e2; injection e2 with e2; exact e e2)]
      refine h.yes x ?_
      simp at hx
      rcases hx with hx | rfl
      · exact hx
      · exact absurd rfl e
  · rw [hD]
    simp at hx
    have e : x.data.toList ≠ s.data.toList := fun e => hx.2 (by cases x; cases s; simp at e; simp [e])
    rw [Maps.atKey_put_other (by intro e2; injection e2 with e2; exact e e2)]
    exact h.no x hx.1
  · have hb : gg = b := by simpa [Value.ownBlock] using hb
    subst hb
    exact hgg
end
def LookT (w0 : World) (t : Tr) (u : Value) : Prop := ∀ (B : Nat) (W : World) (bl bs bk mb : Nat) (lv : Value) (n : Nat) (D : DataW Unit) (l : List ByteArray), w0.heap.size ≤ B → Below w0.heap.size w0 W → NamesAt B W bl bs bk mb lv n D l → l.length + t.count ≤ 100000 →
  Calls Try.prog 29 #[u, .pointer (some ⟨bs, 0, none⟩), .pointer (some ⟨bl, 0, none⟩), .pointer (some ⟨bk, 0, none⟩)] W fun e W' => e = .returned (.tuple #[]) ∧ (∃ lv' n' D', NamesAt B W' bl bs bk mb lv' n' D' (t.names l)) ∧ Below B W W'
theorem LookT.call {w0 : World} {t : Tr} {u : Value} (h : LookT w0 t u) {B : Nat} {W : World} {bl bs bk mb : Nat} {lv : Value} {n : Nat} {D : DataW Unit} {l : List ByteArray} (hB : w0.heap.size ≤ B) (hw : Below w0.heap.size w0 W) (hN : NamesAt B W bl bs bk mb lv n D l) (hc : l.length + t.count ≤ 100000) :
  Calls Try.prog 29 #[u, .pointer (some ⟨bs, 0, none⟩), .pointer (some ⟨bl, 0, none⟩), .pointer (some ⟨bk, 0, none⟩)] W fun e W' => e = .returned (.tuple #[]) ∧ (∃ lv' n' D', NamesAt B W' bl bs bk mb lv' n' D' (t.names l)) ∧ Below B W W' := h B W bl bs bk mb lv n D l hB hw hN hc
theorem i64_wf (x : Int) (h0 : 0 ≤ x) (h1 : x ≤ 1000000) : (Lit.int .i64 x).wf = true := by
  show (decide ((-9223372036854775808 : Int) ≤ x) && decide (x ≤ 9223372036854775807)) = true
  rw [decide_eq_true (by omega), decide_eq_true (by omega)]
  rfl
theorem infoS : (Try.prog.info? 9).map (fun i => (i.zero, i.size, i.bytes)) = some (some (.string ⟨#[]⟩), 1, 16) := by kernel_rfl
section
variable {w0 : World} {k : Int} {s : ByteArray} {v : Int} {m : Bool} {a : Option Addr} {len cap : Nat} {ts : List Tr}
set_option maxHeartbeats 4000000 in
theorem lookT_one (hs : s.size ≤ maxLen) (hl : len ≤ maxLen) (ht : ts.length = len) (hk : 0 < len → ∃ x, a = some x ∧ x.block < w0.heap.size ∧ ∀ j (h : j < ts.length), KidIs w0 x j (LookT w0 ts[j])) : LookT w0 (.mk k s v m ts) (nd k s v m a len cap) := by
  intro B w bl bs bk mb lv n D l hB hw hN hc
  have HK := Lib.hid hk
  have HO := Lib.hid (Own.start w k s v m a len cap)
  have HT := Lib.hid ht
  have HSS := Lib.hid hs
  have HC : Hid (l.length + (1 + Tr.countL ts) ≤ 100000) := Lib.hid (by unfold Tr.count at hc; exact hc)
  have hlen0 : l.length ≤ 100000 := by omega
  have hBw : B ≤ w.heap.size := by have := hN.Bl; have := lt_blk hN.hl; omega
  have hbl : bl < w.heap.size := lt_blk hN.hl
  have hmb0 : mb < w.heap.size := hN.hm.lt
  have hrow0 : ∀ b, lv.ownBlock = some b → b < w.heap.size := fun b hb => (hN.row.lt b hb).2
  have HROW0 := Lib.hid hrow0
  clear hrow0
  have HN := Lib.hid (hN.below (below1 w (.cells #[.int .i64 k, .string s, .int .u32 v, .bool m, .slice a len cap] 26)))
  have HB := Lib.hid ((below1 w (.cells #[.int .i64 k, .string s, .int .u32 v, .bool m, .slice a len cap] 26)).mono hBw)
  have hVs : (w.alloc (.cells #[.int .i64 k, .string s, .int .u32 v, .bool m, .slice a len cap] 26)).heap.size = w.heap.size + 1 := by simp
  have HSZ := Lib.hid hVs
  clear hk ht hc hN hs hVs
  unfold maxLen at hl
  unfold nd at *
  have hcs : (k = 27 ∨ k = 34 ∨ k = 35) ∨ ((k == 27) = false ∧ (k == 34) = false ∧ (k == 35) = false) := by
    simp only [beq_eq_false_iff_ne]
    omega
  rcases hcs with hcs | ⟨k1, k2, k3⟩
  · have HA : Hid (addName l k s = l) := Lib.hid (by unfold addName; rw [if_pos (by unfold notName; rcases hcs with rfl | rfl | rfl <;> decide)])
    have HS : Hid ((∃ lv n D, NamesAt B (w.alloc (.cells #[.int .i64 k, .string s, .int .u32 v, .bool m, .slice a len cap] 26)) bl bs bk mb lv n D (Tr.namesL (ts.take 0) l)) ∧ Below B w (w.alloc (.cells #[.int .i64 k, .string s, .int .u32 v, .bool m, .slice a len cap] 26))) := Lib.hid ⟨⟨lv, n, D, HN.out⟩, HB.out⟩
    have HL1 : Hid (l.length ≤ l.length + 1) := Lib.hid (by simp)
    rcases hcs with rfl | rfl | rfl
    all_goals
      obtain ⟨e0, e1, e2, e3, e4, -, -⟩ := HO.out
      go_enter Try.func29, Try.ntmps29
      go_wp2_with fail
      clear e0 e1 e2 e3 e4
      go_loopw [36] (fun i wr => ∃ j : Nat, j ≤ len ∧ i = .int .i64 j ∧ Hid ((∃ lv n D, NamesAt B wr bl bs bk mb lv n D (Tr.namesL (ts.take j) l)) ∧ Below B w wr)) (fun i _ => len - (intOf i).toNat)
      case atStart => exact ⟨0, Nat.zero_le _, rfl, HS⟩
      case round =>
        obtain ⟨j, hj, rfl, HR⟩ := hrel
        clear HS
        by_cases hlt : j < len
        · have hjt : j < ts.length := by rw [HT.out]; exact hlt
          obtain ⟨⟨b, o, x⟩, rfl, hb, hKK⟩ := HK.out (by omega)
          obtain ⟨k', s', v', m', a', l', c', hkid, hex⟩ := hKK j hjt
          obtain ⟨⟨lv', n', D', hN'⟩, hB'⟩ := HR.out
          have hwr : Below w0.heap.size w0 wr := hw.trans (hB'.mono hB)
          obtain ⟨g0, g1, g2, g3, g4⟩ := (hkid.below hb hwr).at
          have HX := Lib.hid hex
          have hBr : B ≤ wr.heap.size := Nat.le_trans hBw hB'.size
          have HW := Lib.hid (hwr.alloc hwr.size (.cells #[.int .i64 k', .string s', .int .u32 v', .bool m', .slice a' l' c'] 26))
          have hN3 := hN'.below (below1 wr (.cells #[.int .i64 k', .string s', .int .u32 v', .bool m', .slice a' l' c'] 26))
          have q5 := cell0 hN3.hk
          have HN3 := Lib.hid hN3
          have HB3 := Lib.hid (hB'.trans ((below1 wr (.cells #[.int .i64 k', .string s', .int .u32 v', .bool m', .slice a' l' c'] 26)).mono hBr))
          have h5 := take_succ_count hjt
          have h6 := take_le (ts := ts) (j := j + 1)
          have h7 := namesL_len (ts.take j) l
          have h8 := HL1.out
          have h9 := HC.out
          have hcj : (Tr.namesL (ts.take j) l).length + ts[j].count ≤ 100000 := by omega
          have HNX := Lib.hid (namesL_take hjt l)
          clear hkid hex hKK h5 h6 h7 h8 h9 hN' hB' hN3 hwr
          generalize ts[j] = t at *
          unfold nd at *
          go_wp2_with (go_at_call 29; refine (LookT.call HX.out hB HW.out HN3.out hcj).mono ?_; rintro e w2 ⟨rfl, hN4, hb2⟩; have HS2 := Lib.hid (And.intro hN4 (HB3.out.trans hb2)); clear hN4 hb2)
          exact ⟨⟨j + 1, by omega, by simp, Lib.hid ⟨by rw [HNX.out]; exact HS2.out.1, HS2.out.2⟩⟩, by simp [intOf]; omega⟩
        · obtain rfl : j = len := by omega
          have he : ts.take j = ts := List.take_of_length_le (by rw [HT.out]; exact Nat.le_refl _)
          have HS2 := Lib.hid HR.out
          rw [he] at HS2
          clear HR he
          go_wp2_with fail
          go_end0
          refine ⟨rfl, ?_, HS2.out.2⟩
          have := HS2.out.1
          rw [← HA.out] at this
          unfold Tr.names
          exact this
  · have hnn : notName k = false := by unfold notName; rw [k1, k2, k3]; rfl
    by_cases hE : s.toList = []
    · have HA : Hid (addName l k s = l) := Lib.hid (by unfold addName; rw [if_neg (by rw [hnn]; decide), if_pos hE])
      have HS : Hid ((∃ lv n D, NamesAt B (w.alloc (.cells #[.int .i64 k, .string s, .int .u32 v, .bool m, .slice a len cap] 26)) bl bs bk mb lv n D (Tr.namesL (ts.take 0) l)) ∧ Below B w (w.alloc (.cells #[.int .i64 k, .string s, .int .u32 v, .bool m, .slice a len cap] 26))) := Lib.hid ⟨⟨lv, n, D, HN.out⟩, HB.out⟩
      have HL1 : Hid (l.length ≤ l.length + 1) := Lib.hid (by simp)
      obtain ⟨e0, e1, e2, e3, e4, -, -⟩ := HO.out
      go_enter Try.func29, Try.ntmps29
      go_wp2_with fail
      clear e0 e1 e2 e3 e4
      go_loopw [36] (fun i wr => ∃ j : Nat, j ≤ len ∧ i = .int .i64 j ∧ Hid ((∃ lv n D, NamesAt B wr bl bs bk mb lv n D (Tr.namesL (ts.take j) l)) ∧ Below B w wr)) (fun i _ => len - (intOf i).toNat)
      case atStart => exact ⟨0, Nat.zero_le _, rfl, HS⟩
      case round =>
        obtain ⟨j, hj, rfl, HR⟩ := hrel
        clear HS
        by_cases hlt : j < len
        · have hjt : j < ts.length := by rw [HT.out]; exact hlt
          obtain ⟨⟨b, o, x⟩, rfl, hb, hKK⟩ := HK.out (by omega)
          obtain ⟨k', s', v', m', a', l', c', hkid, hex⟩ := hKK j hjt
          obtain ⟨⟨lv', n', D', hN'⟩, hB'⟩ := HR.out
          have hwr : Below w0.heap.size w0 wr := hw.trans (hB'.mono hB)
          obtain ⟨g0, g1, g2, g3, g4⟩ := (hkid.below hb hwr).at
          have HX := Lib.hid hex
          have hBr : B ≤ wr.heap.size := Nat.le_trans hBw hB'.size
          have HW := Lib.hid (hwr.alloc hwr.size (.cells #[.int .i64 k', .string s', .int .u32 v', .bool m', .slice a' l' c'] 26))
          have hN3 := hN'.below (below1 wr (.cells #[.int .i64 k', .string s', .int .u32 v', .bool m', .slice a' l' c'] 26))
          have q5 := cell0 hN3.hk
          have HN3 := Lib.hid hN3
          have HB3 := Lib.hid (hB'.trans ((below1 wr (.cells #[.int .i64 k', .string s', .int .u32 v', .bool m', .slice a' l' c'] 26)).mono hBr))
          have h5 := take_succ_count hjt
          have h6 := take_le (ts := ts) (j := j + 1)
          have h7 := namesL_len (ts.take j) l
          have h8 := HL1.out
          have h9 := HC.out
          have hcj : (Tr.namesL (ts.take j) l).length + ts[j].count ≤ 100000 := by omega
          have HNX := Lib.hid (namesL_take hjt l)
          clear hkid hex hKK h5 h6 h7 h8 h9 hN' hB' hN3 hwr
          generalize ts[j] = t at *
          unfold nd at *
          go_wp2_with (go_at_call 29; refine (LookT.call HX.out hB HW.out HN3.out hcj).mono ?_; rintro e w2 ⟨rfl, hN4, hb2⟩; have HS2 := Lib.hid (And.intro hN4 (HB3.out.trans hb2)); clear hN4 hb2)
          exact ⟨⟨j + 1, by omega, by simp, Lib.hid ⟨by rw [HNX.out]; exact HS2.out.1, HS2.out.2⟩⟩, by simp [intOf]; omega⟩
        · obtain rfl : j = len := by omega
          have he : ts.take j = ts := List.take_of_length_le (by rw [HT.out]; exact Nat.le_refl _)
          have HS2 := Lib.hid HR.out
          rw [he] at HS2
          clear HR he
          go_wp2_with fail
          go_end0
          refine ⟨rfl, ?_, HS2.out.2⟩
          have := HS2.out.1
          rw [← HA.out] at this
          unfold Tr.names
          exact this
    · obtain ⟨c, hlook, hin, hout⟩ := HN.out.look HSS.out
      have hE2 : (s.toList == []) = false := by simpa using hE
      have q3 := cell0 HN.out.hs
      by_cases hm : s ∈ l
      · have HA : Hid (addName l k s = l) := Lib.hid (by unfold addName; rw [if_neg (by rw [hnn]; decide), if_neg hE, if_pos hm])
        have HS : Hid ((∃ lv n D, NamesAt B (w.alloc (.cells #[.int .i64 k, .string s, .int .u32 v, .bool m, .slice a len cap] 26)) bl bs bk mb lv n D (Tr.namesL (ts.take 0) l)) ∧ Below B w (w.alloc (.cells #[.int .i64 k, .string s, .int .u32 v, .bool m, .slice a len cap] 26))) := Lib.hid ⟨⟨lv, n, D, HN.out⟩, HB.out⟩
        have HL1 : Hid (l.length ≤ l.length + 1) := Lib.hid (by simp)
        have hc0 := hin hm
        obtain ⟨e0, e1, e2, e3, e4, -, -⟩ := HO.out
        clear hin hout
        go_enter Try.func29, Try.ntmps29
        go_wp2_with fail
        clear e0 e1 e2 e3 e4 hlook q3 hc0 hE2
        go_loopw [36] (fun i wr => ∃ j : Nat, j ≤ len ∧ i = .int .i64 j ∧ Hid ((∃ lv n D, NamesAt B wr bl bs bk mb lv n D (Tr.namesL (ts.take j) l)) ∧ Below B w wr)) (fun i _ => len - (intOf i).toNat)
        case atStart => exact ⟨0, Nat.zero_le _, rfl, HS⟩
        case round =>
          obtain ⟨j, hj, rfl, HR⟩ := hrel
          clear HS
          by_cases hlt : j < len
          · have hjt : j < ts.length := by rw [HT.out]; exact hlt
            obtain ⟨⟨b, o, x⟩, rfl, hb, hKK⟩ := HK.out (by omega)
            obtain ⟨k', s', v', m', a', l', c', hkid, hex⟩ := hKK j hjt
            obtain ⟨⟨lv', n', D', hN'⟩, hB'⟩ := HR.out
            have hwr : Below w0.heap.size w0 wr := hw.trans (hB'.mono hB)
            obtain ⟨g0, g1, g2, g3, g4⟩ := (hkid.below hb hwr).at
            have HX := Lib.hid hex
            have hBr : B ≤ wr.heap.size := Nat.le_trans hBw hB'.size
            have HW := Lib.hid (hwr.alloc hwr.size (.cells #[.int .i64 k', .string s', .int .u32 v', .bool m', .slice a' l' c'] 26))
            have hN3 := hN'.below (below1 wr (.cells #[.int .i64 k', .string s', .int .u32 v', .bool m', .slice a' l' c'] 26))
            have q5 := cell0 hN3.hk
            have HN3 := Lib.hid hN3
            have HB3 := Lib.hid (hB'.trans ((below1 wr (.cells #[.int .i64 k', .string s', .int .u32 v', .bool m', .slice a' l' c'] 26)).mono hBr))
            have h5 := take_succ_count hjt
            have h6 := take_le (ts := ts) (j := j + 1)
            have h7 := namesL_len (ts.take j) l
            have h8 := HL1.out
            have h9 := HC.out
            have hcj : (Tr.namesL (ts.take j) l).length + ts[j].count ≤ 100000 := by omega
            have HNX := Lib.hid (namesL_take hjt l)
            clear hkid hex hKK h5 h6 h7 h8 h9 hN' hB' hN3 hwr
            generalize ts[j] = t at *
            unfold nd at *
            go_wp2_with (go_at_call 29; refine (LookT.call HX.out hB HW.out HN3.out hcj).mono ?_; rintro e w2 ⟨rfl, hN4, hb2⟩; have HS2 := Lib.hid (And.intro hN4 (HB3.out.trans hb2)); clear hN4 hb2)
            exact ⟨⟨j + 1, by omega, by simp, Lib.hid ⟨by rw [HNX.out]; exact HS2.out.1, HS2.out.2⟩⟩, by simp [intOf]; omega⟩
          · obtain rfl : j = len := by omega
            have he : ts.take j = ts := List.take_of_length_le (by rw [HT.out]; exact Nat.le_refl _)
            have HS2 := Lib.hid HR.out
            rw [he] at HS2
            clear HR he
            go_wp2_with fail
            go_end0
            refine ⟨rfl, ?_, HS2.out.2⟩
            have := HS2.out.1
            rw [← HA.out] at this
            unfold Tr.names
            exact this
      · obtain rfl := hout hm
        have HA : Hid (addName l k s = l ++ [s]) := Lib.hid (by unfold addName; rw [if_neg (by rw [hnn]; decide), if_neg hE, if_neg hm])
        have HL1 : Hid ((l ++ [s]).length ≤ l.length + 1) := Lib.hid (by simp)
        obtain ⟨al, cl, rfl⟩ : ∃ al cl, lv = .slice al l.length cl := by
          rcases HN.out.row.2 with ⟨h1, h2⟩ | ⟨b, cap, cur, h1, -⟩
          · exact ⟨none, 0, by rw [h1, h2]⟩
          · exact ⟨_, cap, h1⟩
        obtain ⟨i0, hi0, hz0, hz1, hz2⟩ : ∃ i, Try.prog.info? 9 = some i ∧ i.zero = some (.string ⟨#[]⟩) ∧ i.size = 1 ∧ i.bytes = 16 := by
          obtain ⟨i, e1, e2⟩ := Option.map_eq_some_iff.1 infoS
          exact ⟨i, e1, (Prod.mk.inj e2).1, (Prod.mk.inj (Prod.mk.inj e2).2).1, (Prod.mk.inj (Prod.mk.inj e2).2).2⟩
        have q4 := cell0 HN.out.hl
        obtain ⟨e0, e1, e2, e3, e4, -, -⟩ := HO.out
        have HMM := Lib.hid hm
        have HE4 := Lib.hid (And.intro e1 e4)
        clear hin hout hm
        go_enter Try.func29, Try.ntmps29
        go_upto_region 3 with (fail)
        have HNV := Lib.hid HN.out
        have hVB := HB.out
        clear e0 e2 e3 e4 hlook q3 HO HN
        have hV1 : w.heap.size < (w.alloc (.cells #[.int .i64 k, .string s, .int .u32 v, .bool m, .slice a len cap] 26)).heap.size := by have := HSZ.out; omega
        generalize w.alloc (.cells #[.int .i64 k, .string s, .int .u32 v, .bool m, .slice a len cap] 26) = V at *
        have HVB := Lib.hid hVB
        clear hVB
        have hA1 := below1 V (.cells #[.string s] 9)
        have hNA := HNV.out.below hA1
        have l1 := lt_blk HNV.out.hl
        have l2 := lt_blk HNV.out.hs
        have l3 := HNV.out.hm.lt
        have f1 := HNV.out.far
        have HROW := Lib.hid HNV.out.row
        have HNA := Lib.hid hNA
        have HWN : Hid ((V.alloc (.cells #[.string s] 9)).cell? ⟨w.heap.size, 1, none⟩ = some (.string s) ∧ (V.alloc (.cells #[.string s] 9)).cell? ⟨w.heap.size, 4, none⟩ = some (.slice a len cap)) := Lib.hid ⟨by rw [hA1.cell (by show w.heap.size < _; omega)]; exact HE4.out.1, by rw [hA1.cell (by show w.heap.size < _; omega)]; exact HE4.out.2⟩
        have hwn : some w.heap.size ≠ (Value.slice al l.length cl).ownBlock ∧ w.heap.size ≠ bl ∧ w.heap.size ≠ mb := ⟨fun e => by have := HROW0.out _ e.symm; omega, by omega, by omega⟩
        have n1 : ∀ c, c = bl ∨ c = bs ∨ c = bk ∨ c = mb → some c ≠ (Value.slice al l.length cl).ownBlock := fun c hc e => by
          obtain ⟨h1, h2, h3, h4⟩ := f1 c e.symm
          omega
        have HN1 := Lib.hid n1
        have HWN2 := Lib.hid hwn
        have HA1 := Lib.hid hA1
        have hd1 := HNV.out.d1
        have hd4 := HNV.out.d4
        have hd5 := HNV.out.d5
        clear f1 n1 hwn hA1
        clear hNA
        go_wp2_with (first
          | (at_builtin; refine wpList_append_lies _ (by rfl) _ _ 32 (by rfl) B 9 i0 _ 1 16 Try.underlying32 hi0 hz0 hz1 hz2 rfl (by omega) (.slice al l.length cl) l.length (l.map Value.string) (by rfl) (HROW.out.alloc _) ⟨V.heap.size, 0, none⟩ 1 1 [.string s] (by rfl) (by rfl) (World.news_of_block (cs := #[.string s]) (t := 9) (fr := (0, 0)) (heap_alloc_new _ _)) (by intro u hu; simp at hu; subst hu; rfl) (by omega) (by unfold maxLen; omega) (by omega) (by simp; omega) _ rfl ?_; intro gg cap1 X ho hg hat hlt; have HOX := Lib.hid ho; have HG := Lib.hid hg; have HAT := Lib.hid hat;
              have C1 : X.cell? ⟨bl, 0, none⟩ = some (.slice al l.length cl) := (by rw [hg.cell_far _ (by simp; omega) (HN1.out bl (.inl rfl))]; exact cell0 HNA.out.hl);
              have F1 : X.frozen? ⟨bl, 0, none⟩ = false := (by rw [hg.frozen_far _ (by simp; omega) (HN1.out bl (.inl rfl))]; exact frz0 0 HNA.out.hl);
              have BX : X.heap[bl]? = some (.cells #[.slice al l.length cl] 32 (0, 0)) := (by rw [hg.block bl (by simp; omega) (HN1.out bl (.inl rfl))]; exact HNA.out.hl);
              have S2 : (X.setCell ⟨bl, 0, none⟩ (.slice (some ⟨gg, 0, none⟩) (l.length + 1) cap1)).cell? ⟨bl, 0, none⟩ = some (.slice (some ⟨gg, 0, none⟩) (l.length + 1) cap1) := cell0 (set_blk (i := 0) BX);
              have SB : (X.setCell ⟨bl, 0, none⟩ (.slice (some ⟨gg, 0, none⟩) (l.length + 1) cap1)).cell? ⟨bs, 0, none⟩ = some (.map (some mb)) := (by rw [World.cell?_of_block (w := X) (Below.heap_setCell _ _ _ _ (by show bs ≠ bl; omega)), hg.cell_far _ (by simp; omega) (HN1.out bs (.inr (.inl rfl)))]; exact cell0 HNA.out.hs);
              have SN : (X.setCell ⟨bl, 0, none⟩ (.slice (some ⟨gg, 0, none⟩) (l.length + 1) cap1)).cell? ⟨w.heap.size, 1, none⟩ = some (.string s) := (by rw [World.cell?_of_block (w := X) (Below.heap_setCell _ _ _ _ (by exact HWN2.out.2.1)), hg.cell_far _ (by simp; omega) HWN2.out.1]; exact HWN.out.1);
              have SE := Lib.hid (show (X.setCell ⟨bl, 0, none⟩ (.slice (some ⟨gg, 0, none⟩) (l.length + 1) cap1)).cell? ⟨w.heap.size, 4, none⟩ = some (.slice a len cap) by rw [World.cell?_of_block (w := X) (Below.heap_setCell _ _ _ _ (by exact HWN2.out.2.1)), hg.cell_far _ (by simp; omega) HWN2.out.1]; exact HWN.out.2);
              have HOM : Hid ((X.setCell ⟨bl, 0, none⟩ (.slice (some ⟨gg, 0, none⟩) (l.length + 1) cap1)).ownsMap Try.prog 9 intE mb n D) := Lib.hid (ownsMap_keepI HNA.out.hm (by rw [Below.heap_setCell _ _ _ _ (by show mb ≠ bl; omega), hg.block mb (by simp; omega) (HN1.out mb (.inr (.inr (.inr rfl))))]));
              clear BX ho hg hat)
          | (at_mapUpdate; refine wpList_mapUpdate_own _ rfl _ _ _ 51 rfl 9 3 keyedS Try.underlying51 intE mb n D rfl HOM.out (by have := HNV.out.hn; unfold maxLen; omega) (.string s) (.int .i64 ((l.length : Int) + 1)) (.string s.data.toList) rfl rfl (keyS HSS.out) (.lit (.int .i64 ((l.length : Int) + 1))) [] (plainElem_int Try.underlying3 (i64_wf _ (by omega) (by omega))) ?_; intro w1 hown1 hgrow1; have HOY := Lib.hid hown1; have HGY := Lib.hid hgrow1; have EY : w1.cell? ⟨w.heap.size, 4, none⟩ = some (.slice a len cap) := (by rw [hgrow1.cell_far _ (by simp [World.setCell]; have := HG.out.size; simp at this; omega) (fun e => HWN2.out.2.2 (Option.some.inj e))]; exact SE.out); clear hown1 hgrow1))
        have hBl := HNV.out.Bl
        have hBm := HNV.out.Bm
        have hBV : B ≤ V.heap.size := by omega
        have hBA := HA1.out.size
        have HS : Hid ((∃ lv n D, NamesAt B w1 bl bs bk mb lv n D (Tr.namesL (ts.take 0) (l ++ [s]))) ∧ Below B w w1) := Lib.hid ⟨⟨_, _, _, NamesAt.push HNA.out HSS.out HMM.out HOX.out HG.out (by rcases HAT.out with e | e; exact .inl e; exact .inr (by omega)) rfl HOY.out HGY.out⟩, by
          have h1 : Below B w (V.alloc (.cells #[.string s] 9)) := HVB.out.trans (HA1.out.mono hBV)
          have h2 : Below B w X := h1.grown HG.out (by omega) (fun k hk => (HNA.out.row.lt k hk).1)
          have h3 : Below B w (X.setCell ⟨bl, 0, none⟩ (.slice (some ⟨gg, 0, none⟩) (l.length + 1) cap1)) := Below.setCell (p := ⟨bl, 0, none⟩) h2 hBl _
          refine h3.grown HGY.out (by have := HG.out.size; simp [World.setCell]; omega) (fun k hk => by cases hk; exact hBm)⟩
        clear q4 e1 C1 F1 S2 SB SN EY SE HOM HOY HGY HOX HG HAT HNV HNA HWN HWN2 HN1 HROW HE4 HVB HA1 HSZ hd1 hd4 hd5 hV1 l1 l2 l3 hlt hBl hBm hBV hBA HB hE2
        go_loopw [36] (fun i wr => ∃ j : Nat, j ≤ len ∧ i = .int .i64 j ∧ Hid ((∃ lv n D, NamesAt B wr bl bs bk mb lv n D (Tr.namesL (ts.take j) (l ++ [s]))) ∧ Below B w wr)) (fun i _ => len - (intOf i).toNat)
        case atStart => exact ⟨0, Nat.zero_le _, rfl, HS⟩
        case round =>
          obtain ⟨j, hj, rfl, HR⟩ := hrel
          clear HS
          by_cases hlt : j < len
          · have hjt : j < ts.length := by rw [HT.out]; exact hlt
            obtain ⟨⟨b, o, x⟩, rfl, hb, hKK⟩ := HK.out (by omega)
            obtain ⟨k', s', v', m', a', l', c', hkid, hex⟩ := hKK j hjt
            obtain ⟨⟨lv', n', D', hN'⟩, hB'⟩ := HR.out
            have hwr : Below w0.heap.size w0 wr := hw.trans (hB'.mono hB)
            obtain ⟨g0, g1, g2, g3, g4⟩ := (hkid.below hb hwr).at
            have HX := Lib.hid hex
            have hBr : B ≤ wr.heap.size := Nat.le_trans hBw hB'.size
            have HW := Lib.hid (hwr.alloc hwr.size (.cells #[.int .i64 k', .string s', .int .u32 v', .bool m', .slice a' l' c'] 26))
            have hN3 := hN'.below (below1 wr (.cells #[.int .i64 k', .string s', .int .u32 v', .bool m', .slice a' l' c'] 26))
            have q5 := cell0 hN3.hk
            have HN3 := Lib.hid hN3
            have HB3 := Lib.hid (hB'.trans ((below1 wr (.cells #[.int .i64 k', .string s', .int .u32 v', .bool m', .slice a' l' c'] 26)).mono hBr))
            have h5 := take_succ_count hjt
            have h6 := take_le (ts := ts) (j := j + 1)
            have h7 := namesL_len (ts.take j) (l ++ [s])
            have h8 := HL1.out
            have h9 := HC.out
            have hcj : (Tr.namesL (ts.take j) (l ++ [s])).length + ts[j].count ≤ 100000 := by omega
            have HNX := Lib.hid (namesL_take hjt (l ++ [s]))
            clear hkid hex hKK h5 h6 h7 h8 h9 hN' hB' hN3 hwr
            generalize ts[j] = t at *
            unfold nd at *
            go_wp2_with (go_at_call 29; refine (LookT.call HX.out hB HW.out HN3.out hcj).mono ?_; rintro e w2 ⟨rfl, hN4, hb2⟩; have HS2 := Lib.hid (And.intro hN4 (HB3.out.trans hb2)); clear hN4 hb2)
            exact ⟨⟨j + 1, by omega, by simp, Lib.hid ⟨by rw [HNX.out]; exact HS2.out.1, HS2.out.2⟩⟩, by simp [intOf]; omega⟩
          · obtain rfl : j = len := by omega
            have he : ts.take j = ts := List.take_of_length_le (by rw [HT.out]; exact Nat.le_refl _)
            have HS2 := Lib.hid HR.out
            rw [he] at HS2
            clear HR he
            go_wp2_with fail
            go_end0
            refine ⟨rfl, ?_, HS2.out.2⟩
            have := HS2.out.1
            rw [← HA.out] at this
            unfold Tr.names
            exact this
end
theorem lookT_all {w0 : World} : ∀ (t : Tr) (u : Value), Reads w0 t u → LookT w0 t u
  | .mk k s v m ts, u, h => by
    unfold Reads at h
    obtain ⟨a, len, cap, rfl, hs, _, _, ht, hl, hc, hk⟩ := h
    refine lookT_one hs (by omega) ht fun h0 => ?_
    obtain ⟨x, hx, hb, hL⟩ := hk h0
    refine ⟨x, hx, hb, fun j hj => ?_⟩
    obtain ⟨k', s', v', m', a', l', c', g1, g2⟩ := readsL_get ts 0 j ts[j] hL (List.getElem?_eq_getElem hj)
    rw [Nat.zero_add] at g1
    have hd : SizeOf.sizeOf ts[j] < SizeOf.sizeOf ts := List.sizeOf_lt_of_mem (List.getElem_mem hj)
    exact ⟨k', s', v', m', a', l', c', g1, lookT_all ts[j] _ g2⟩
  termination_by t => SizeOf.sizeOf t
  decreasing_by
    simp
    omega
end Go.Proofs.Ytkhbmamgfkpdbaa
