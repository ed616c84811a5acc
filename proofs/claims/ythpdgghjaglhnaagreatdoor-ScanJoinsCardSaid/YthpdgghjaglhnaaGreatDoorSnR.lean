/-
  A scanner in memory: its symbol is told; what is true of all its states.
-/
import Derived.Test.YthpdgghjaglhnaaGreatDoorSnO
namespace Go.Proofs.YthpdgghjaglhnaaGreatDoor
open Go.ChangeShapes Go.WideShapes Go.ChangeAt Go.RowKit
open Ev (WRow)
set_option linter.unusedVariables false
set_option linter.unusedSimpArgs false
def symC (s : Sn) : Array Value := #[.int .i64 s.sym, .int .i64 s.pos, .int .i32 s.val, .int .i64 s.id, .string s.txt]
def symV (s : Sn) : Value := .agg (symC s)
theorem sym_size (s : Sn) : (Tryz.prog.info? 32).map (·.size) = some (symC s).size := by kernel_rfl
theorem sym_len (s : Sn) : (Tryz.prog.info? 32).map (·.size) = some (symC s).toList.length := by kernel_rfl
theorem sym_one (s : Sn) : (symC s).all (·.oneCell') = true := by simp [symC, Value.oneCell']
def sym0 : Array Value := #[.int .i64 0, .int .i64 0, .int .i32 0, .int .i64 0, .string (bs [])]
theorem snsetRow_heap (w : World) (b : Nat) (cs ds : Array Value) (t : TypeId) (fr : Nat × Nat) (h : w.heap[b]? = some (.cells ds t fr)) : (w.setRow b cs).heap[b]? = some (.cells cs t fr) := by
  have hlt : b < w.heap.size := (Array.getElem?_eq_some_iff.1 h).1
  have h' : w.heap[b] = .cells ds t fr := by simpa [Array.getElem?_eq_getElem hlt] using h
  show (w.heap.modify b _)[b]? = _
  rw [Array.getElem?_eq_getElem (by simpa using hlt), Array.getElem_modify_self, h']
theorem snbelow_setRow {B g : Nat} {w0 w : World} (hb : Below B w0 w) (hBg : B ≤ g) (cs : Array Value) : Below B w0 (w.setRow g cs) :=
  ⟨hb.os, hb.tape, hb.output, by simpa using hb.size, fun k hk => (setRow_other w g k cs (by omega)).trans (hb.block k hk)⟩
section
variable {w : World} {B : Nat} {q : Sp} {s : Sn}
set_option maxHeartbeats 2000000 in
theorem symbol_any (h : SnAt w B q s) : Calls Tryz.prog 8 #[.pointer (some ⟨q.p, 0, none⟩)] w fun e w' => e = .returned (symV s) ∧ Below w.heap.size w w' := by
  have hb := (Below.refl w.heap.size w).alloc (Nat.le_refl _) (.cells sym0 32)
  have H1 := h.next hb
  have HI := Lib.hid (snis_any H1)
  have HC : Hid (World.rangeAt (w.alloc (.cells sym0 32)) q.p 2 (symC s).toList) := Lib.hid (fun j v hv => by
    refine H1.c (2 + j) v ?_
    match j, hv with
    | 0, hv | 1, hv | 2, hv | 3, hv | 4, hv => exact hv
    | n + 5, hv => cases hv)
  have HS := Lib.hid (sym_size s)
  have HL := Lib.hid (sym_len s)
  have H3 := Lib.hid (sym_one s)
  have HZ := Lib.hid (heap_alloc_new w (.cells sym0 32))
  have HW := Lib.hid hb
  clear hb H1
  go_enter Tryz.func8, Tryz.ntmps8
  go_upto_region 1 with (fail)
  change Code.wp _ _ _ _ (w.alloc (.cells sym0 32))
  generalize w.alloc (.cells sym0 32) = W at HI HC HZ HW ⊢
  go_wp2_with (first | (go_at_call 25; (with_reducible refine HI.out.mono ?_); rintro e w' ⟨rfl, rfl⟩) | (with_reducible refine wpList_load_mid rfl 32 _ rfl q.p 2 rfl (symC s).toList _ HC.out Tryz.underlying32 rfl HL.out ?_; rw [Array.toArray_toList]) | (with_reducible refine wpList_store_row rfl 32 _ _ rfl w.heap.size (symC s) rfl rfl 32 _ HZ.out HS.out rfl H3.out ?_))
  exact bodyPost_ret (results_cell_row rfl _ _ w.heap.size 32 (symC s) (0, 0) _ rfl (snsetRow_heap _ _ _ _ _ _ HZ.out) Tryz.underlying32 rfl HS.out) rfl ⟨rfl, snbelow_setRow HW.out (Nat.le_refl _) _⟩
end
/-! ### what is true of all states -/
/-- where an error is, the symbol is the end, there -/
def Ok (s : Sn) : Prop := s.code ≠ 0 → s.sym = 0 ∧ s.pos = s.epos
theorem mark_ok {s : Sn} (h : Ok s) (c p : Int) : Ok (markF s c p) := by
  unfold markF
  split
  · intro _; exact ⟨rfl, rfl⟩
  · exact h
theorem ok_0 {s : Sn} (h : s.code = 0) : Ok s := fun e => absurd h e
theorem intern_ok {s : Sn} (l : List UInt8) (h : s.code = 0) : Ok (internF s l) ∧ (0 ≤ internN s l → (internF s l).code = 0) := by
  unfold internF internN
  by_cases h1 : l ∈ s.nms
  · simp only [if_pos h1]
    exact ⟨ok_0 h, fun _ => h⟩
  · by_cases h2 : 700 ≤ s.nms.length
    · simp only [if_neg h1, if_pos h2]
      exact ⟨mark_ok (ok_0 h) _ _, fun e => absurd e (by decide)⟩
    · simp only [if_neg h1, if_neg h2]
      exact ⟨ok_0 h, fun _ => h⟩
theorem name_ok {s : Sn} (h : s.code = 0) : Ok (nameF s) := by
  unfold nameF
  simp only []
  split
  · (apply mark_ok; exact ok_0 h)
  · have hi := intern_ok (s := { s with at_ := s.at_ + tw ldB (s.src.drop s.at_) }) (chars ((s.src.drop s.at_).take (tw ldB (s.src.drop s.at_)))) h
    split
    · exact hi.1
    · split
      · exact ok_0 (hi.2 (by omega))
      · exact ok_0 (hi.2 (by omega))
theorem num_ok {s : Sn} (h : s.code = 0) : Ok (numF s) := by
  unfold numF
  simp only []
  split
  · (apply mark_ok; exact ok_0 h)
  · exact ok_0 h
theorem text_ok {s : Sn} (h : s.code = 0) : Ok (textF s) := by
  unfold textF
  simp only []
  split
  · (apply mark_ok; exact ok_0 h)
  · exact ok_0 h
theorem sign_ok {s : Sn} (h : s.code = 0) : Ok (signF s) := by
  unfold signF
  split
  · (apply mark_ok; exact ok_0 h)
  · split
    · exact ok_0 h
    · split <;> exact ok_0 h
theorem get_ok {s : Sn} (h : Ok s) : Ok (getF s) := by
  unfold getF
  split
  · exact h
  · rename_i hc
    have hc : s.code = 0 := by simpa using hc
    split
    · unfold tokF
      have hb : ∀ p, (begF s p).code = 0 := fun _ => hc
      split
      · exact ok_0 (hb _)
      · split
        · exact name_ok (hb _)
        · split
          · exact num_ok (hb _)
          · split
            · exact text_ok (hb _)
            · exact sign_ok (hb _)
    · (apply mark_ok; exact ok_0 hc)
theorem get_kw (s : Sn) : (getF s).kw = s.kw := by
  unfold getF
  split
  · rfl
  · split
    · unfold tokF
      split
      · rfl
      · split
        · unfold nameF
          simp only []
          split
          · rw [markF_kw]; rfl
          · split
            · rw [internF_kw]; rfl
            · split
              · show (internF _ _).kw = _; rw [internF_kw]; rfl
              · show (internF _ _).kw = _; rw [internF_kw]; rfl
        · split
          · unfold numF
            simp only []
            split
            · rw [markF_kw]; rfl
            · rfl
          · split
            · unfold textF
              simp only []
              split
              · rw [markF_kw]; rfl
              · rfl
            · unfold signF
              split
              · rw [markF_kw]; rfl
              · split
                · rfl
                · split <;> rfl
    · rw [markF_kw]
theorem new_ok (zs : List Int) : Ok (newF zs) ∧ (newF zs).kw = 29 := by
  unfold newF
  split
  · exact ⟨mark_ok (ok_0 rfl) _ _, by rw [markF_kw]; rfl⟩
  · exact ⟨get_ok (ok_0 rfl), by rw [get_kw]; rfl⟩
end Go.Proofs.YthpdgghjaglhnaaGreatDoor
