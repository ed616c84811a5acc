/-
  ScanInterns: names' numbers: each its own, in the order in which they come, as many as may be. No condition but the laid tables'.
-/
import Derived.Test.YthpdgghjaglhnaaDoorSnQ
import Derived.Test.YthpdgghjaglhnaaDoorRows
import Derived.Test.YthpdgghjaglhnaaDoorCards
import Derived.Test.YthpdgghjaglhnaaDoorTie
import Derived.Deep.DeepHandedRow
import Derived.Stop.LaidErr
import Derived.WalkKit
import Derived.ProofKit
import Derived.OpenShut
import Derived.LaidMore
import Derived.Lay
import Derived.SevenTiedAt
import Derived.Stop.Joined
namespace Go.Proofs.YthpdgghjaglhnaaDoor.scanInterns
open Go.ChangeShapes Go.WideShapes Go.ChangeAt Go.RowKit
open Ev (WRow)
set_option linter.unusedVariables false
set_option linter.unusedSimpArgs false
structure Tab (w : World) : Prop where
  space : Lib.TabIs Tryd.prog w "strings.asciiSpace" .u8 spaceTab
  pow : Lib.TabIs Tryd.prog w "internal/strconv.uint64pow10" .u64 Lib.pow10Tab
/-- may the first bytes go on as a name's -/
def mayK (nm : ByteArray) (k : Nat) : Bool := decide (1 ≤ nm.size ∧ nm.size ≤ 15) && ((nm.data.toList.take k).all okB && (decide (k = 0) || letB ((nm.data.toList.headD 0).toNat : Int)))
theorem mayK_end (nm : ByteArray) : mayK nm nm.size = nameB nm := by
  unfold mayK nameB
  by_cases h : 1 ≤ nm.size ∧ nm.size ≤ 15
  · rw [List.take_of_length_le (by simp), show decide (nm.size = 0) = false from decide_eq_false (by omega), Bool.false_or, Bool.and_comm (List.all _ _)]
  · simp [h]
theorem mayK_step (nm : ByteArray) (k : Nat) (h : k < nm.size) : mayK nm (k + 1) = (mayK nm k && (letB (nm[k].toNat : Int) || (digB (nm[k].toNat : Int) && decide (0 < k)))) := by
  unfold mayK
  rw [all_succ nm k h, decide_eq_false (show ¬ k + 1 = 0 by omega), Bool.false_or]
  by_cases h0 : k = 0
  · subst h0
    rw [head_at nm h]
    unfold okB
    simp only [List.take_zero, List.all_nil, Bool.true_and]
    cases letB (nm[0].toNat : Int) <;> cases digB (nm[0].toNat : Int) <;> simp
  · rw [decide_eq_false h0, Bool.false_or, decide_eq_true (show 0 < k by omega), Bool.and_true]
    unfold okB
    cases decide (1 ≤ nm.size ∧ nm.size ≤ 15) <;> cases List.all (nm.data.toList.take k) (fun c => letB (c.toNat : Int) || digB (c.toNat : Int)) <;> cases letB ((nm.data.toList.headD 0).toNat : Int) <;> simp
/-- where the rounds are -/
structure St (w wr : World) (q : Sp) (s : Sn) (wv : Value) (full : Bool) : Prop where
  b : Below w.heap.size w wr
  sn : SnAt wr w.heap.size q s
  r : WRow wr w.heap.size 1 wv s.nms.length (s.nms.map fun l => .string (bs l))
  a : ∀ z, wv.ownBlock = some z → ApS z q
  c : s.code = if full then 62 else 0
  n : 57 ≤ s.nms.length
theorem want_step (ws : List (List UInt8)) (hn : ws.Nodup) (l : List UInt8) (k : Nat) (hk : k < ws.length) :
    (if l ∈ ws.take (k + 1) then ((ws.idxOf l : Nat) : Int) else -1) = if ws[k] = l then (k : Int) else if l ∈ ws.take k then ((ws.idxOf l : Nat) : Int) else -1 := by
  rw [List.take_succ_eq_append_getElem hk]
  by_cases h : ws[k] = l
  · rw [if_pos h, if_pos (by rw [h]; simp)]
    have hm : l ∈ ws := by rw [← h]; exact List.getElem_mem hk
    have hi := List.idxOf_lt_length_iff.2 hm
    have hg : ws[ws.idxOf l] = l := List.getElem_idxOf hi
    have : ws.idxOf l = k := by
      have hp := List.pairwise_iff_getElem.1 hn
      rcases Nat.lt_trichotomy (ws.idxOf l) k with e | e | e
      · exact absurd (hg.trans h.symm) (hp _ _ hi hk e)
      · exact e
      · exact absurd (h.trans hg.symm) (hp _ _ hk hi e)
    rw [this]
  · rw [if_neg h]
    have e : (l ∈ ws.take k ++ [ws[k]]) = (l ∈ ws.take k) := by
      rw [List.mem_append, List.mem_singleton]
      exact propext ⟨fun h2 => h2.elim id fun e => absurd e.symm h, .inl⟩
    simp only [e]
theorem bs_eq_iff (nm : ByteArray) (l : List UInt8) : ((bs l).toList == nm.toList) = decide (l = nm.data.toList) := by
  rw [ByteArray.toList_eq, ByteArray.toList_eq, Bool.eq_iff_iff]
  simp only [beq_iff_eq, decide_eq_true_eq]
  exact Iff.rfl
theorem wrow_less {w : World} {B B' sz n : Nat} {v : Value} {xs : List Value} (h : WRow w B sz v n xs) (hB : B' ≤ B) : WRow w B' sz v n xs := by
  refine ⟨h.1, ?_⟩
  rcases h.2 with hn | ⟨b, f, c, e, hb, hl⟩
  · exact .inl hn
  · exact .inr ⟨b, f, c, e, by omega, hl⟩
section
variable {w wr : World} {q : Sp} {s : Sn} {wv : Value} {full : Bool}
/-- the row grows -/
theorem St.more {w2 w3 : World} (h : St w wr q s wv full) {l : List UInt8} {q' : Sp} (hw : Below wr.heap.size wr w2) {g f n cap : Nat} (hg : w2.grownBy w3 wv.ownBlock) (hat : wv.ownBlock = some g ∨ g = w2.heap.size) :
    Below w.heap.size w w3 ∧ SnAt w3 w.heap.size q s ∧ ApS g q := by
  have h1 := h.b.size
  have h2 := hw.size
  refine ⟨(h.b.trans (hw.mono h1)).grown hg (by omega) (fun k hk => (h.r.lt k hk).1), (h.sn.next hw).grown hg h.a, ?_⟩
  rcases hat with e | e
  · exact h.a g e
  · exact h.sn.far (by omega)
/-- Intern, in the rounds -/
theorem St.intern {w3 : World} {s' : Sn} {q' : Sp} {wv' : Value} {full' : Bool} (hb : Below w.heap.size w wr) (hs : SnAt wr w.heap.size q s) (hr : WRow wr w.heap.size 1 wv' s'.nms.length (s'.nms.map fun l => .string (bs l))) (ha : ∀ z, wv'.ownBlock = some z → ApS z q) (hs3 : SnAt w3 w.heap.size q' s') (hf : Sf q q' wr w3) (hc : s'.code = if full' then 62 else 0) (hn : 57 ≤ s'.nms.length) :
    St w w3 q' s' wv' full' := by
  have hk : ∀ z, wv'.ownBlock = some z → z < wr.heap.size := fun z hz => (hr.lt z hz).2
  refine ⟨hb.trans (hf.below hs hb.size), hs3, ⟨hr.1, ?_⟩, fun z hz => ((ha z hz).sf hf (hk z hz)).1, hc, hn⟩
  rcases hr.2 with hn | ⟨b, f, c, e, hB, hl, h1, h2, h3, h4⟩
  · exact .inl hn
  · have hz : wv'.ownBlock = some b := by rw [e]; rfl
    have hk2 := ((ha b hz).sf hf hl).2
    exact .inr ⟨b, f, c, e, hB, Nat.lt_of_lt_of_le hl hf.size, h1, h2, fun j x hx => by rw [World.cell?_of_block (w := wr) hk2]; exact h3 j x hx, fun j hj => by rw [World.cell?_of_block (w := wr) hk2, World.frozen?_of_block (w := wr) hk2]; exact h4 j hj⟩
end
set_option maxHeartbeats 8000000 in
set_option maxRecDepth 100000 in
theorem walk {H : Type} {enc : TypeId × Value → H} {p0 : List MemPlace} (a0 : Option Addr) (len0 cap0 : Nat) (d : DataW H) (w : World) (h : DataW.Trod enc Tryd.prog w 0 (fun _ => true) true 34 (.slice a0 len0 cap0) d p0) (hT : Tab w) :
    Calls Tryd.prog 4 #[.slice a0 len0 cap0] w fun e w' => e = .returned (.bool true) ∧ Below w.heap.size w w' := by
  obtain ⟨hl0, hrow⟩ := strRow_of Tryd.underlying34 Tryd.underlying9 (by kernel_rfl) h
  have HROW := Lib.hid hrow
  have HSP : SpTab w := ⟨hT.space⟩
  have HTT : Hid (∀ V, Below w.heap.size w V → SpTab V ∧ Proofs.YthpdgghjaglhnaaDoor.Tab V) := Lib.hid fun V hV => ⟨HSP.stab fun k hk => hV.block k (Nat.lt_of_lt_of_le hk (tab_base HSP (fun _ => 0) (fun _ => false) (fun _ => []) (fun _ => Nat.zero_le _)).2), Proofs.YthpdgghjaglhnaaDoor.Tab.below (w := w) hT.pow hV⟩
  have KN : Hid (∀ W, Below w.heap.size w W → Calls Tryd.prog 8 #[] W fun e w' => e = .returned (.bool true) ∧ Below W.heap.size W w') := Lib.hid fun W hW => known11 W (HTT.out W hW).1
  clear hT HSP hrow h
  unfold maxLen at hl0
  by_cases hbig : 800 < len0
  · go_enter Tryd.func4, Tryd.ntmps4
    go_wp2_with (go_at_call 8; (refine (KN.out _ (Below.refl _ _)).mono ?_); rintro e w' ⟨rfl, hb⟩)
    go_ret
    exact ⟨rfl, hb⟩
  have HNEW := Lib.hid (new_any w none 0 0 [] Rd.nil (by unfold maxLen; omega) (fun x hx => by cases hx) HTT.out)
  rw [newF_nil] at HNEW
  obtain ⟨i, hi, hz, hsz, hby⟩ := infoS
  go_enter Tryd.func4, Tryd.ntmps4
  go_upto_region 4 with (go_at_call 9; (refine HNEW.out.mono ?_); rintro e w1 ⟨q, rfl, hs, hb⟩; have HS := Lib.hid hs; have HB := Lib.hid hb; clear hs hb)
  clear HNEW
  have hBw1 := HB.out.size
  have HR2 : Hid (WRow ((w1.alloc (.cells (kwL.map fun k => Value.string (bs k)).toArray 9)).alloc (.cells (pdL.map fun k => Value.string (bs k)).toArray 9)) w1.heap.size 1 (.slice (some ⟨w1.heap.size, 0, none⟩) 29 29) 29 (kwL.map fun k => Value.string (bs k))) := Lib.hid ((by
    have := WRow.made (B := w1.heap.size) (size := 1) w1 9 (kwL.map fun k => Value.string (bs k)) 29 29 [] (Nat.le_refl _) rfl rfl (Nat.le_refl _) (by decide)
    rw [List.append_nil] at this
    exact this : WRow (w1.alloc (.cells (kwL.map fun k => Value.string (bs k)).toArray 9)) w1.heap.size 1 (.slice (some ⟨w1.heap.size, 0, none⟩) 29 29) 29 (kwL.map fun k => Value.string (bs k))).below ((Below.refl _ _).alloc (Nat.le_refl _) _))
  have HN := Lib.hid (World.news_of_block (heap_alloc_new (w1.alloc (.cells (kwL.map fun k => Value.string (bs k)).toArray 9)) (.cells (pdL.map fun k => Value.string (bs k)).toArray 9)))
  have ONE : Hid (∀ x ∈ (pdL.map fun k => Value.string (bs k)), x.oneCell' = true) := Lib.hid (fun x hx => by
    obtain ⟨l, _, rfl⟩ := List.mem_map.1 hx; rfl)
  have HBA : Below w1.heap.size w1 ((w1.alloc (.cells (kwL.map fun k => Value.string (bs k)).toArray 9)).alloc (.cells (pdL.map fun k => Value.string (bs k)).toArray 9)) := ((Below.refl _ _).alloc (Nat.le_refl _) _).alloc (by simp) _
  have hsz2 : ((w1.alloc (.cells (kwL.map fun k => Value.string (bs k)).toArray 9)).alloc (.cells (pdL.map fun k => Value.string (bs k)).toArray 9)).heap.size = w1.heap.size + 2 := by simp
  have hsz1 : (w1.alloc (.cells (kwL.map fun k => Value.string (bs k)).toArray 9)).heap.size = w1.heap.size + 1 := by simp
  rw [hsz1] at HN
  have HS2 := Lib.hid (HS.out.next HBA)
  have HB2 := Lib.hid (HB.out.trans (HBA.mono hBw1))
  have hB2 : w1.heap.size ≤ ((w1.alloc (.cells (kwL.map fun k => Value.string (bs k)).toArray 9)).alloc (.cells (pdL.map fun k => Value.string (bs k)).toArray 9)).heap.size := HBA.size
  have HFAR := Lib.hid fun z (hz : w1.heap.size ≤ z) => HS.out.far hz
  clear HBA HS HB hsz1
  have HW1 := Lib.hid (kwords_any w1)
  go_wp2_with (first
    | (go_at_call 15; (refine HW1.out.mono ?_); rintro e w' ⟨rfl, rfl⟩)
    | (go_at_call 16; (refine (kout_any _).mono ?_); rintro e w' ⟨rfl, rfl⟩)
    | (at_builtin; refine Ev.wpList_append_w rfl (.tmp 21) (.tmp 22) 34 34 rfl 9 i (.string (bs [])) 16 Tryd.underlying34 Tryd.underlying34 hi hz hsz hby rfl rfl HR2.out ⟨w1.heap.size + 1, 0, none⟩ 28 28 (pdL.map fun k => Value.string (bs k)) rfl rfl HN.out ONE.out (by omega) (by omega) (by omega) hB2 _ rfl ?_; intro g f cap w2 hown hgrow hat hlt2; have HO := Lib.hid hown; have HGR := Lib.hid hgrow; have HAT := Lib.hid hat; clear hown hgrow hat))
  have H0 : Hid (St w w2 q (begF (wsF 57 29) 0) (.slice (some ⟨g, f, none⟩) 57 cap) false) := Lib.hid ⟨HB2.out.grown HGR.out (by rw [hsz2]; omega) (fun k hk => by obtain rfl : w1.heap.size = k := Option.some.inj hk; omega), HS2.out.grown HGR.out (fun z hz => by obtain rfl : w1.heap.size = z := Option.some.inj hz; exact HFAR.out _ (Nat.le_refl _)), wrow_less HO.out hBw1, fun z hz => by
    obtain rfl : g = z := Option.some.inj hz
    refine HFAR.out g ?_
    rcases HAT.out with e | e
    · have e2 : w1.heap.size = g := Option.some.inj e; omega
    · rw [hsz2] at e; omega, rfl, Nat.le_refl _⟩
  clear HO HGR HAT HFAR HS2 HB2 hB2 hsz2 HN HR2 ONE HW1 hlt2
  have hl8 : len0 ≤ 800 := by omega
  go_loopw [4, 5, 6] (fun wv fv iv wr => ∃ (i : Nat) (q' : Sp) (s : Sn) (full : Bool), iv = .int .i64 (i : Int) ∧ i ≤ len0 ∧ fv = .bool full ∧ q'.p = q.p ∧ Hid (St w wr q' s wv full)) (fun _ _ iv _ => len0 - (intOf iv).toNat)
  case atStart => exact ⟨0, q, _, false, rfl, by omega, rfl, rfl, H0⟩
  case round =>
    clear H0
    obtain ⟨i0, q', s, full, rfl, hi0, rfl, hqp, HS⟩ := hrel
    obtain ⟨p', sv, nv, ib, gb⟩ := q'
    obtain rfl : p' = q.p := hqp
    by_cases hlt : i0 < len0
    · obtain ⟨x, nm, he, hxb, hnm, hnz⟩ := HROW.out i0 hlt
      subst he
      have hcell : wr.cell? (x.add i0) = some (.string nm) := by rw [HS.out.b.cell (by rw [block_add]; exact hxb)]; exact hnm
      clear hnm
      have HNZ := Lib.hid hnz
      clear hnz
      by_cases h40 : 40 < nm.size
      · clear HNZ
        go_wp2_with (go_at_call 8; (refine (KN.out _ (HS.out.b)).mono ?_); rintro e w' ⟨rfl, hb⟩; have HKB := Lib.hid (HS.out.b.trans (hb.mono HS.out.b.size)); clear hb)
        go_ret
        exact ⟨rfl, HKB.out⟩
      have hBr : w.heap.size ≤ wr.heap.size := HS.out.b.size
      obtain ⟨rb, rf, rc, hv, _, _⟩ := HS.out.r.form (by have := HS.out.n; omega)
      subst hv
      obtain ⟨m0, hm0⟩ : ∃ m0, m0 = mayK nm 0 := ⟨_, rfl⟩
      have hc3 : (nm.size < 1 ∧ m0 = false) ∨ (1 ≤ nm.size ∧ nm.size ≤ 15 ∧ m0 = true) ∨ (15 < nm.size ∧ m0 = false ∧ 1 ≤ nm.size) := by
        rw [hm0]
        unfold mayK
        by_cases g1 : 1 ≤ nm.size ∧ nm.size ≤ 15
        · exact .inr (.inl ⟨g1.1, g1.2, by simp [g1.1, g1.2]⟩)
        · by_cases g2 : nm.size < 1
          · exact .inl ⟨g2, by simp [g1]⟩
          · exact .inr (.inr ⟨by omega, by simp [g1], by omega⟩)
      have HM0 := Lib.hid hm0
      clear hm0
      rcases hc3 with ⟨g1, rfl⟩ | ⟨g1, g2, rfl⟩ | ⟨g1, rfl, g2⟩
      all_goals
        go_wp2_with fail
        go_loopw [8, 9] (fun mv kv wr2 => ∃ k : Nat, kv = .int .i64 (k : Int) ∧ k ≤ nm.size ∧ mv = .bool (mayK nm k) ∧ wr = wr2) (fun _ kv _ => nm.size - (intOf kv).toNat)
        case atStart => exact ⟨0, rfl, Nat.zero_le _, by first | (rw [HM0.out]; done) | (rw [← HM0.out]; congr 1; simp; omega), rfl⟩
        case round =>
          clear HM0
          obtain ⟨k, rfl, hk, rfl, rfl⟩ := hrel
          by_cases hlk : k < nm.size
          · by_cases himp : nm.size < 1
            · exfalso; omega
            obtain ⟨b, hb⟩ : ∃ b, b = mayK nm k := ⟨_, rfl⟩
            rw [← hb]
            have HB := Lib.hid hb
            have HSTEP := Lib.hid (mayK_step nm k hlk)
            have hr7 : (nm[k].toNat : Int) < 48 ∨ (48 ≤ (nm[k].toNat : Int) ∧ (nm[k].toNat : Int) ≤ 57) ∨ (57 < (nm[k].toNat : Int) ∧ (nm[k].toNat : Int) < 65) ∨ (65 ≤ (nm[k].toNat : Int) ∧ (nm[k].toNat : Int) ≤ 90) ∨ (90 < (nm[k].toNat : Int) ∧ (nm[k].toNat : Int) < 97) ∨ (97 ≤ (nm[k].toNat : Int) ∧ (nm[k].toNat : Int) ≤ 122) ∨ 122 < (nm[k].toNat : Int) := by omega
            have hL : letB (nm[k].toNat : Int) = decide (65 ≤ (nm[k].toNat : Int) ∧ (nm[k].toNat : Int) ≤ 90 ∨ 97 ≤ (nm[k].toNat : Int) ∧ (nm[k].toNat : Int) ≤ 122) := rfl
            have hD : digB (nm[k].toNat : Int) = decide (48 ≤ (nm[k].toNat : Int) ∧ (nm[k].toNat : Int) ≤ 57) := rfl
            rw [hL, hD, ← hb] at HSTEP
            clear hL hD hb HNZ himp
            have hk0 : k = 0 ∨ 0 < k := by omega
            have hsz : nm.size ≤ 40 := by omega
            have hb15 : b = true → nm.size ≤ 15 := fun e => by
              have := HB.out
              unfold mayK at this
              by_cases g : 1 ≤ nm.size ∧ nm.size ≤ 15
              · exact g.2
              · rw [e, decide_eq_false g] at this; cases this
            clear HB
            cases b
            · clear hb15
              replace HSTEP : Hid (mayK nm (k + 1) = false) := Lib.hid (by rw [HSTEP.out]; rfl)
              rcases hr7 with g | ⟨g, g'⟩ | ⟨g, g'⟩ | ⟨g, g'⟩ | ⟨g, g'⟩ | ⟨g, g'⟩ | g
              all_goals
                go_wp2_with fail
                all_goals exact ⟨⟨k + 1, by simp, by omega, by rw [HSTEP.out]; try (congr 1; simp; omega), trivial⟩, by simp [intOf]; try omega⟩
            · have hb15 := hb15 rfl
              by_cases himp2 : 15 < nm.size
              · exfalso; omega
              rcases hr7 with g | ⟨g, g'⟩ | ⟨g, g'⟩ | ⟨g, g'⟩ | ⟨g, g'⟩ | ⟨g, g'⟩ | g
              · replace HSTEP : Hid (mayK nm (k + 1) = false) := Lib.hid (by rw [HSTEP.out, decide_eq_false (by omega), decide_eq_false (by omega)]; try rfl)
                go_wp2_with fail
                all_goals exact ⟨⟨k + 1, by simp, by omega, by rw [HSTEP.out]; try (congr 1; simp; omega), trivial⟩, by simp [intOf]; try omega⟩
              · rcases hk0 with hk0 | hk0
                · replace HSTEP : Hid (mayK nm (k + 1) = false) := Lib.hid (by rw [HSTEP.out, decide_eq_false (by omega), decide_eq_false (show ¬ 0 < k by omega), Bool.and_false]; try rfl)
                  have hk1 : k ≤ 0 := by omega
                  clear hk0
                  go_wp2_with fail
                  all_goals exact ⟨⟨k + 1, by simp, by omega, by rw [HSTEP.out]; try (congr 1; simp; omega), trivial⟩, by simp [intOf]; try omega⟩
                · replace HSTEP : Hid (mayK nm (k + 1) = true) := Lib.hid (by rw [HSTEP.out, decide_eq_false (by omega), decide_eq_true (by omega), decide_eq_true hk0]; try rfl)
                  go_wp2_with fail
                  all_goals exact ⟨⟨k + 1, by simp, by omega, by rw [HSTEP.out]; try (congr 1; simp; omega), trivial⟩, by simp [intOf]; try omega⟩
              · replace HSTEP : Hid (mayK nm (k + 1) = false) := Lib.hid (by rw [HSTEP.out, decide_eq_false (by omega), decide_eq_false (by omega)]; try rfl)
                go_wp2_with fail
                all_goals exact ⟨⟨k + 1, by simp, by omega, by rw [HSTEP.out]; try (congr 1; simp; omega), trivial⟩, by simp [intOf]; try omega⟩
              · replace HSTEP : Hid (mayK nm (k + 1) = true) := Lib.hid (by rw [HSTEP.out, decide_eq_true (by omega)]; try rfl)
                go_wp2_with fail
                all_goals exact ⟨⟨k + 1, by simp, by omega, by rw [HSTEP.out]; try (congr 1; simp; omega), trivial⟩, by simp [intOf]; try omega⟩
              · replace HSTEP : Hid (mayK nm (k + 1) = false) := Lib.hid (by rw [HSTEP.out, decide_eq_false (by omega), decide_eq_false (by omega)]; try rfl)
                go_wp2_with fail
                all_goals exact ⟨⟨k + 1, by simp, by omega, by rw [HSTEP.out]; try (congr 1; simp; omega), trivial⟩, by simp [intOf]; try omega⟩
              · replace HSTEP : Hid (mayK nm (k + 1) = true) := Lib.hid (by rw [HSTEP.out, decide_eq_true (by omega)]; try rfl)
                go_wp2_with fail
                all_goals exact ⟨⟨k + 1, by simp, by omega, by rw [HSTEP.out]; try (congr 1; simp; omega), trivial⟩, by simp [intOf]; try omega⟩
              · replace HSTEP : Hid (mayK nm (k + 1) = false) := Lib.hid (by rw [HSTEP.out, decide_eq_false (by omega), decide_eq_false (by omega)]; try rfl)
                go_wp2_with fail
                all_goals exact ⟨⟨k + 1, by simp, by omega, by rw [HSTEP.out]; try (congr 1; simp; omega), trivial⟩, by simp [intOf]; try omega⟩
          · obtain rfl : k = nm.size := by omega
            rw [mayK_end]
            have HINT0 := Lib.hid (Intern_any HS.out.sn hBr nm HNZ.out)
            have hn1 := HS.out.sn.n1
            have hn57 := HS.out.n
            unfold InternedB at HINT0
            cases hnb : nameB nm with
            | false =>
              rw [hnb] at HINT0
              have HINT : Hid (Calls Tryd.prog 17 #[.pointer (some ⟨q.p, 0, none⟩), .string nm] wr fun e w' => e = .returned (.int .i64 (-1)) ∧ w' = wr) := Lib.hid (HINT0.out.mono fun e w' he => he)
              clear hk hlk HNZ HINT0
              go_wp2_with fail
              go_loopw [12, 13] (fun wv kv wr2 => wv = .int .i64 (-1) ∧ kv = .int .i64 0 ∧ wr = wr2) (fun _ _ _ => 1)
              case atStart => exact ⟨rfl, rfl, rfl⟩
              case round =>
                obtain ⟨rfl, rfl, rfl⟩ := hrel
                go_wp2_with (go_at_call 17; (with_reducible refine HINT.out.mono ?_); rintro e w' ⟨rfl, rfl⟩)
                exact ⟨⟨i0 + 1, ⟨q.p, sv, nv, ib, gb⟩, s, full, by simp, by omega, rfl, rfl, HS⟩, by simp [intOf]; try omega⟩
            | true =>
              rw [hnb] at HINT0
              have hl15 : nm.data.toList.length ≤ 15 := by
                unfold nameB at hnb
                simp only [Bool.and_eq_true, decide_eq_true_eq] at hnb
                simpa using hnb.1.2
              obtain ⟨l, hl⟩ : ∃ l, l = nm.data.toList := ⟨_, rfl⟩
              have hbl : bs l = nm := by rw [hl]; rfl
              have HINT : Hid (Calls Tryd.prog 17 #[.pointer (some ⟨q.p, 0, none⟩), .string nm] wr (Interned wr w.heap.size ⟨q.p, sv, nv, ib, gb⟩ s l)) := Lib.hid (by rw [hl]; exact HINT0.out.mono fun e w' he => he)
              clear HINT0
              have HEQ := Lib.hid fun l2 => (show ((bs l2).toList == nm.toList) = decide (l2 = l) by rw [hl]; exact bs_eq_iff nm l2)
              have HND := HS.out.sn.nd
              have HCW := Lib.hid HS.out.r
              have HWS := Lib.hid (want_step s.nms HND l)
              rw [← hl] at hl15
              have HBL := Lib.hid hbl
              have HNB := Lib.hid hnb
              clear hnb hl hbl hk hlk HND
              go_wp2_with fail
              go_loopw [12, 13] (fun wv kv wr2 => ∃ k : Nat, kv = .int .i64 (k : Int) ∧ k ≤ s.nms.length ∧ wv = .int .i64 (if l ∈ s.nms.take k then ((s.nms.idxOf l : Nat) : Int) else -1) ∧ wr = wr2) (fun _ kv _ => s.nms.length - (intOf kv).toNat)
              case atStart => exact ⟨0, rfl, Nat.zero_le _, by simp, rfl⟩
              case round =>
                obtain ⟨k, rfl, hk, rfl, rfl⟩ := hrel
                by_cases hlk : k < s.nms.length
                · have hck : wr.cell? ⟨rb, rf + k, none⟩ = some (.string (bs s.nms[k])) := by
                    rw [(HCW.out.cell k (by omega)).1, List.getElem?_map, List.getElem?_eq_getElem hlk]; rfl
                  have hq := HEQ.out s.nms[k]
                  have HWK := Lib.hid (HWS.out k hlk)
                  obtain ⟨wn, hwn⟩ : ∃ x, x = (if l ∈ s.nms.take k then ((s.nms.idxOf l : Nat) : Int) else -1) := ⟨_, rfl⟩
                  rw [← hwn] at HWK ⊢
                  have HWN := Lib.hid hwn
                  obtain ⟨y, hy⟩ : ∃ y, y = s.nms[k] := ⟨_, rfl⟩
                  rw [← hy] at hck hq HWK
                  clear hwn hy
                  by_cases hyl : y = l
                  · rw [decide_eq_true hyl] at hq
                    rw [if_pos hyl] at HWK
                    clear hyl
                    go_wp2_with fail
                    exact ⟨⟨k + 1, by simp, by omega, by rw [HWK.out], trivial⟩, by simp [intOf]; try omega⟩
                  · rw [decide_eq_false hyl] at hq
                    rw [if_neg hyl] at HWK
                    clear hyl
                    go_wp2_with fail
                    exact ⟨⟨k + 1, by simp, by omega, by rw [HWK.out], trivial⟩, by simp [intOf]; try omega⟩
                · obtain rfl : k = s.nms.length := by omega
                  rw [List.take_length]
                  unfold Interned at HINT
                  by_cases hmem : l ∈ s.nms
                  · rw [if_pos hmem]
                    have HINTM : Hid (Calls Tryd.prog 17 #[.pointer (some ⟨q.p, 0, none⟩), .string nm] wr fun e w' => e = .returned (.int .i64 ((s.nms.idxOf l : Nat) : Int)) ∧ ∃ q', SnAt w' w.heap.size q' s ∧ Sf ⟨q.p, sv, nv, ib, gb⟩ q' wr w') := Lib.hid (HINT.out.mono fun e w' he => by
                      rw [show internN s l = ((s.nms.idxOf l : Nat) : Int) by unfold internN; rw [if_pos hmem], show internF s l = s by unfold internF; rw [if_pos hmem]] at he
                      exact he)
                    have hx0 : (0 : Int) ≤ ((s.nms.idxOf l : Nat) : Int) := by omega
                    have HIX := Lib.hid hmem
                    generalize s.nms.idxOf l = ix at *
                    clear hmem HWS HEQ HIX
                    go_wp2_with (go_at_call 17; (with_reducible refine HINTM.out.mono ?_); rintro e w4 ⟨rfl, q4, hA, hF⟩; have HA := Lib.hid hA; have HF := Lib.hid hF; clear hA hF)
                    exact ⟨⟨i0 + 1, q4, s, full, by simp, by omega, rfl, HF.out.p, Lib.hid (St.intern HS.out.b HS.out.sn HS.out.r HS.out.a HA.out HF.out HS.out.c HS.out.n)⟩, by simp [intOf]; try omega⟩
                  · rw [if_neg hmem]
                    have HNM := Lib.hid hmem
                    by_cases h7 : 700 ≤ s.nms.length
                    · have HINTM : Hid (Calls Tryd.prog 17 #[.pointer (some ⟨q.p, 0, none⟩), .string nm] wr fun e w' => e = .returned (.int .i64 (-1)) ∧ ∃ q', SnAt w' w.heap.size q' (markF s 62 s.pos) ∧ Sf ⟨q.p, sv, nv, ib, gb⟩ q' wr w') := Lib.hid (HINT.out.mono fun e w' he => by
                        rw [show internN s l = -1 by unfold internN; rw [if_neg hmem, if_pos h7], show internF s l = markF s 62 s.pos by unfold internF; rw [if_neg hmem, if_pos h7]] at he
                        exact he)
                      have HMC : Hid ((markF s 62 s.pos).code = 62) := Lib.hid (by
                        have hc := HS.out.c
                        unfold markF
                        cases full with
                        | false =>
                          have hc : s.code = 0 := hc
                          rw [if_pos ⟨hc, by decide⟩]
                        | true =>
                          have hc : s.code = 62 := hc
                          rw [if_neg (by rw [hc]; decide)]
                          exact hc)
                      have HMN := Lib.hid (markF_nms s 62 s.pos)
                      clear hmem HWS HEQ
                      go_wp2_with (go_at_call 17; (with_reducible refine HINTM.out.mono ?_); rintro e w4 ⟨rfl, q4, hA, hF⟩; have HA := Lib.hid hA; have HF := Lib.hid hF; clear hA hF)
                      exact ⟨⟨i0 + 1, q4, _, true, by simp, by omega, rfl, HF.out.p, Lib.hid (St.intern HS.out.b HS.out.sn (by rw [HMN.out]; exact HS.out.r) HS.out.a HA.out HF.out (by rw [HMC.out]; rfl) (by rw [HMN.out]; exact HS.out.n))⟩, by simp [intOf]; try omega⟩
                    · have h8 : s.nms.length < 700 := by omega
                      clear hmem HWS HEQ HINT
                      have HRB : Hid (WRow (wr.alloc (.cells #[.string nm] 9)) w.heap.size 1 (.slice (some ⟨rb, rf, none⟩) s.nms.length rc) s.nms.length (s.nms.map fun l => .string (bs l))) := Lib.hid (HS.out.r.below ((Below.refl _ _).alloc (Nat.le_refl _) _))
                      have HNW := Lib.hid (World.news_of_block (heap_alloc_new wr (.cells #[.string nm] 9)))
                      have HBL2 : Below wr.heap.size wr (wr.alloc (.cells #[.string nm] 9)) := (Below.refl _ _).alloc (Nat.le_refl _) _
                      have HBLH := Lib.hid HBL2
                      have hsz9 : w.heap.size ≤ (wr.alloc (.cells #[.string nm] 9)).heap.size := by simp; omega
                      have HSZ := Lib.hid hsz9
                      have ONE : Hid (∀ x ∈ [Value.string nm], x.oneCell' = true) := Lib.hid (by simp [Value.oneCell'])
                      clear HBL2 hsz9
                      go_wp2_with (first
                        | (at_builtin; refine Ev.wpList_append_w rfl (.tmp 121) (.tmp 123) 34 34 rfl 9 i (.string (bs [])) 16 Tryd.underlying34 Tryd.underlying34 hi hz hsz hby rfl rfl HRB.out ⟨wr.heap.size, 0, none⟩ 1 1 [.string nm] rfl rfl HNW.out ONE.out (by omega) (by omega) (by omega) HSZ.out _ rfl ?_; intro g2 f2 cap2 w3 hown hgrow hat hlt2; have HO := Lib.hid hown; have HM3 := Lib.hid (HS.out.more (q' := ⟨q.p, sv, nv, ib, gb⟩) (l := l) (f := f2) (n := 0) (cap := 0) HBLH.out hgrow hat); have HIN3 : Hid (Calls Tryd.prog 17 #[.pointer (some ⟨q.p, 0, none⟩), .string nm] w3 fun e w' => e = .returned (.int .i64 ((s.nms.length : Nat) : Int)) ∧ ∃ q', SnAt w' w.heap.size q' { s with nms := s.nms ++ [l] } ∧ Sf ⟨q.p, sv, nv, ib, gb⟩ q' w3 w') := Lib.hid (by
                            have h9 := Intern_any HM3.out.2.1 HM3.out.1.size nm HNZ.out
                            unfold InternedB Interned at h9
                            rw [HNB.out] at h9
                            refine h9.mono fun e w' he => ?_
                            have he : e = .returned (.int .i64 (internN s nm.data.toList)) ∧ ∃ q', SnAt w' w.heap.size q' (internF s nm.data.toList) ∧ Sf ⟨q.p, sv, nv, ib, gb⟩ q' w3 w' := he
                            have hl9 : nm.data.toList = l := by rw [← HBL.out]; rfl
                            rw [hl9, show internN s l = ((s.nms.length : Nat) : Int) by unfold internN; rw [if_neg HNM.out, if_neg (by omega)], show internF s l = { s with nms := s.nms ++ [l] } by unfold internF; rw [if_neg HNM.out, if_neg (by omega)]] at he
                            exact he); clear hown hgrow hat)
                        | (go_at_call 17; (with_reducible refine HIN3.out.mono ?_); rintro e w4 ⟨rfl, q4, hA, hF⟩; have HA := Lib.hid hA; have HF := Lib.hid hF; clear hA hF))
                      have HO2 : WRow w3 w.heap.size 1 (.slice (some ⟨g2, f2, none⟩) (s.nms.length + 1) cap2) ({ s with nms := s.nms ++ [l] } : Sn).nms.length (({ s with nms := s.nms ++ [l] } : Sn).nms.map fun l => .string (bs l)) := by
                        have := HO.out
                        show WRow w3 w.heap.size 1 _ (s.nms ++ [l]).length ((s.nms ++ [l]).map _)
                        rw [show (s.nms ++ [l]).length = s.nms.length + 1 by simp, List.map_append]
                        rw [← HBL.out] at this
                        exact this
                      exact ⟨⟨i0 + 1, q4, _, full, by simp, by omega, rfl, HF.out.p, Lib.hid (St.intern HM3.out.1 HM3.out.2.1 HO2 (fun z hz => by obtain rfl : g2 = z := Option.some.inj hz; exact HM3.out.2.2) HA.out HF.out HS.out.c (by show 57 ≤ (s.nms ++ [l]).length; simp; omega))⟩, by simp [intOf]; try omega⟩
    · obtain rfl : i0 = len0 := by omega
      have HER := Lib.hid (snerr_any HS.out.sn)
      have HNMS := Lib.hid fun V (hV : Below wr.heap.size wr V) => snnames_any (HS.out.sn.next hV)
      have HKN := Lib.hid fun V (hV : Below wr.heap.size wr V) => KN.out V (HS.out.b.trans (hV.mono HS.out.b.size))
      obtain ⟨rb, rf, rc, hv, _, _⟩ := HS.out.r.form (by have := HS.out.n; omega)
      subst hv
      have hcd := HS.out.c
      have HBB := Lib.hid HS.out.b
      cases full
      all_goals
        have HER : Hid (Calls Tryd.prog 11 #[.pointer (some ⟨q.p, 0, none⟩)] wr fun e w' => e = .returned (.tuple #[.int .i64 s.code, .int .i64 s.epos]) ∧ Below wr.heap.size wr w') := HER
        first
          | rw [show s.code = 0 from hcd] at HER
          | rw [show s.code = 62 from hcd] at HER
        clear hcd
        go_wp2_with (first
          | (go_at_call 11; (with_reducible refine HER.out.mono ?_); rintro e w5 ⟨rfl, hb⟩; have HB5 := Lib.hid hb; clear hb)
          | (go_at_call 18; (with_reducible refine (HNMS.out _ HB5.out).mono ?_); rintro e w' ⟨rfl, rfl⟩)
          | (go_at_call 8; (refine (HKN.out _ HB5.out).mono ?_); rintro e w6 ⟨rfl, hb⟩; have HB6 := Lib.hid (HB5.out.trans (hb.mono HB5.out.size)); clear hb))
        go_ret
        exact ⟨rfl, HBB.out.trans (HB6.out.mono HBB.out.size)⟩
theorem own : ownKnob Tryd.prog.godebug = none := by kernel_rfl
theorem laidOut : laidOutB Tryd.prog = true := by kernel_rfl
theorem gTab5 : Tryd.prog.globalNamed "strings.asciiSpace" = some 0 := by kernel_rfl
theorem gTab2 : Tryd.prog.globalNamed "internal/strconv.uint64pow10" = some 6 := by kernel_rfl
set_option maxRecDepth 1000000 in
theorem tables {W : World} (h0 : laidMetH Tryd.prog Rows.scanInternsRow.laid W) : Tab W := by
  rw [MakeChecks.laidMetH_plain _ _ _ (by kernel_rfl)] at h0
  have h : laidMet Tryd.prog Rows.scanInternsRow.laid W := h0
  exact ⟨Lib.tabIs_of_head (rest := _) gTab5 (by kernel_rfl) Tryd.underlying57 Tryd.underlying5 (by kernel_rfl) (by kernel_rfl) (laidMet.tail (laidMet.tail (laidMet.tail (laidMet.tail (laidMet.tail h))))), Lib.tabIs_of_head (rest := _) gTab2 (by kernel_rfl) Tryd.underlying150 Tryd.underlying47 (by kernel_rfl) (by kernel_rfl) (laidMet.tail (laidMet.tail h))⟩
set_option maxRecDepth 1000000 in
theorem contract (H : Type) (enc : TypeId × Value → H) (W : World) (base : Nat) (args : Array Value) (ds gs : List (DataW H)) (before : List MemPlace)
    (hval : ∀ (j : Nat) t v, Tryd.f4.params[j]? = some t → args[j]? = some v → Value.okWide Tryd.prog W .any base t v)
    (hW : DataW.Whole enc Tryd.prog Tryd.f4.params.toList Rows.scanInternsSpec.vars false W args.toList ds gs before) (hL : laidMetH Tryd.prog Rows.scanInternsRow.laid W) :
    Calls Tryd.prog 4 args W fun e W' => ∃ v, e = .returned v ∧ Rows.scanInternsSpec.post enc Tryd.prog Tryd.f4 false true false false W args v W' := by
  have hW' := hW
  obtain ⟨p, q, hA0, hV, rfl, hfz, hnd⟩ := hW
  have hA : DataW.TrodAll enc Tryd.prog W 0 (fun _ => true) true Tryd.f4.params.toList args.toList ds p := hA0
  rw [Tryd.params4] at hA hval
  obtain ⟨v0, vs0, d0, ds0, p0, q0, hargs, rfl, rfl, h0, r0⟩ := trodAll_cons hA
  obtain ⟨rfl, rfl, rfl⟩ := trodAll_nil r0
  obtain rfl : args = #[v0] := by cases args; simp_all
  obtain ⟨rfl, rfl⟩ := trodVars_none hV
  obtain ⟨a0, len0, cap0, rfl⟩ := okWide_slice Tryd.underlying34 (hval 0 34 v0 rfl rfl)
  have k0 := h0
  have lt0 : ∀ x ∈ p0, x.block < W.heap.size := by obtain ⟨m, hm⟩ := k0; exact DataW.trod_lt m _ _ _ hm
  clear hA0
  have hT := tables hL
  refine (walk a0 len0 cap0 _ W h0 hT).mono fun e W' ⟨he, bel⟩ => ?_
  subst he
  exact ⟨_, rfl, _, _, _, [], _, [], hW', trodAll_mk1 (shut_bool Tryd.underlying4 _), (trodAll_cons_mk (Below.trod laidOut (by kernel_rfl) (of_decide_eq_true (by kernel_rfl)) k0 bel lt0) trodAll_mk0), rfl, bel.frame _, fun h => by cases h⟩
theorem witness_shaped {H : Type} {enc : TypeId × Value → H} {C : Checked} {os : Os} {f : FuncId} {fn : Func} {s : OpenSpec} {conds : List PathCond} {apart : Bool} {laid : List (String × DataW Unit)} (modest : Bool) (w0 : World) (args : Array Value) (hos : w0.os = os)
    (hsh : (w0.forCall (fun _ _ => 0) ⟨#[], args, []⟩).Shaped C.prog) (hok : Input.okWideB C.prog (w0.forCall (fun _ _ => 0) ⟨#[], args, []⟩) f ⟨#[], args, []⟩ = true)
    (hrow : s.preRow enc C.prog fn conds apart laid (w0.forCall (fun _ _ => 0) ⟨#[], args, []⟩).memory args) :
    ∃ (w : World) (tape : Tape) (i : Input), w.os = os ∧ (w.forCall tape i).Shaped C.prog ∧ i.vars = [] ∧ Input.okWide C.prog (w.forCall tape i) .any w.heap.size f i ∧
      s.preRow enc C.prog fn conds apart laid (w.forCall tape i).memory i.args ∧ ({ modest := modest } : Assume).holds C.prog (lone (Frame.enter C.prog f i.args .normal) [] (w.forCall tape i)) :=
  ⟨w0, fun _ _ => 0, ⟨#[], args, []⟩, hos, hsh, (Input.okWide_of_okWideB (base := 0) hok).1, (Input.okWide_of_okWideB hok).2, hrow, by
    simp only [Assume.holds]
    exact ⟨by simp, by simp, fun _ => Modest.zero, by simp, by simp⟩⟩
set_option maxRecDepth 1000000 in
theorem laid_met (os : Os) : laidMetH Tryd.prog Rows.scanInternsRow.laid ((World.laidAll Tryd.prog os Rows.scanInternsRow.laid).forCall (fun _ _ => 0) ⟨#[], #[.slice none 0 0], []⟩).memory := by
  rw [MakeChecks.laidMetH_plain _ _ _ (by kernel_rfl)]
  exact laidMet_laidAll _ (by kernel_rfl) (by kernel_rfl)
set_option maxRecDepth 1000000 in
theorem reads (os : Os) {H : Type} (enc : TypeId × Value → H) : ∃ places, DataW.whole enc Tryd.prog ((World.laidAll Tryd.prog os Rows.scanInternsRow.laid).forCall (fun _ _ => 0) ⟨#[], #[.slice none 0 0], []⟩).memory Tryd.f4.params.toList Rows.scanInternsSpec.vars false (#[.slice none 0 0] : Array Value).toList 8 = some ([.nil], [], places) := ⟨[], by kernel_rfl⟩
set_option maxRecDepth 1000000 in
theorem lifted (os : Os) (started : os.Started) (H : Type) (enc : TypeId × Value → H) (F : Stop.Interp) :
    ReturnsInHanded {} Tryd.checked os 4 .any ((OpenSpec.ofChange Rows.scanInternsSpec).preRow enc Tryd.prog Tryd.f4 Rows.scanInternsRow.domain false Rows.scanInternsRow.laid) (((OpenSpec.ofChange Rows.scanInternsSpec).at F).post enc Tryd.prog Tryd.f4 false true false false) := by
  obtain ⟨places, hx⟩ := reads os enc
  refine returnsInHanded_of_row (C := Tryd.checked) (s := OpenSpec.ofChange Rows.scanInternsSpec) own started (by kernel_rfl) Tryd.func4
    (witness_shaped (enc := enc) (C := Tryd.checked) false (World.laidAll Tryd.prog os Rows.scanInternsRow.laid) #[.slice none 0 0] (World.laidAll_os _ _ _) (World.shaped_of_ZipB (by kernel_rfl) (by kernel_rfl)) (by kernel_rfl)
      (OpenSpec.preRow_of_cond 8 hx (by kernel_rfl) (fun k hk => by cases hk) (by kernel_rfl) (laid_met os))) ?_
  intro W base args ds gs before hval hW _ _ _ hL _ _
  exact contract H enc W base args ds gs before hval hW hL
theorem said : Rows.ScanInternsSaid :=
  OpenClaim.holds_of_cond 4 Tryd.f4 rfl rfl rfl rfl rfl rfl rfl ⟨rfl, rfl, rfl, rfl, rfl⟩ rfl rfl rfl rfl rfl (by kernel_rfl) Tryd.func4 (by kernel_rfl)
    (of_decide_eq_true (by kernel_rfl)) (by unfold Func.isWrapper; first | (rw [if_pos (by decide +kernel)]; kernel_rfl) | (rw [if_neg (by decide +kernel)]; exact ⟨rfl, rfl⟩))
    (fun os started H enc _ F => by rw [OpenClaim.pre_eq_preRow]; exact lifted os started H enc F)
theorem plain (f : FuncId) (fn : Func) (hf : Tryd.pinned.checked.prog.funcNamed "selfsame/selfsamelaw11.ScanInterns" = some f) (hfn : Tryd.pinned.checked.prog.funcs[f]? = some fn) :
    false = Tryd.pinned.checked.prog.looks [] ∧ ∀ (j : Nat) t, fn.params[j]? = some t → Tryd.pinned.checked.prog.wantsStandIn t = false := by
  obtain rfl : f = 4 := Option.some.inj ((show Tryd.prog.funcNamed "selfsame/selfsamelaw11.ScanInterns" = some 4 by kernel_rfl).symm.trans hf) |>.symm
  obtain rfl : fn = Tryd.f4 := (Option.some.inj (Tryd.func4.symm.trans hfn)).symm
  refine ⟨by kernel_rfl, fun j t ht => ?_⟩
  rw [Tryd.params4] at ht
  have hm := Array.mem_of_getElem? ht
  simp only [List.mem_toArray, List.mem_cons, List.not_mem_nil, or_false] at hm
  rcases hm with rfl
  · exact (show Tryd.prog.wantsStandIn 34 = false by kernel_rfl)
theorem proved : Rows.ScanInternsCardSaid :=
  Claim7.holds_tied_plain_at .later [] _ _ _ _ said (fun _ h => by cases h) (by kernel_rfl) (fun _ h => by cases h) scanInterns_row_tie rfl ⟨rfl, rfl⟩ (by kernel_rfl) rfl plain (by kernel_rfl)
end Go.Proofs.YthpdgghjaglhnaaDoor.scanInterns
