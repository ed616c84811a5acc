/-
  An evaluator of Go's code over known data, run by the kernel: pointers, maps, ranges over strings. Nothing of the program.
-/
import Derived.Test.YtdoegipkfjndbaaGreatDoorEvB
import Derived.MapKept
namespace Go.Proofs.YtdoegipkfjndbaaGreatDoor.Ev
set_option linter.unusedVariables false
set_option linter.unusedSimpArgs false
noncomputable section
open Go.RowKit
section
variable {P : Program}
theorem R.keepOld {ρ : Val} {μ : Names} {B : Nat} {H : Mem} {w w' : World} (h : R ρ μ B H w) (e : ∀ k, k < w.heap.size → w'.heap[k]? = w.heap[k]?) (hs : w.heap.size ≤ w'.heap.size) : R ρ μ B H w' :=
  ⟨fun i o v hv => let ⟨p, ep, c⟩ := h.at' i o v hv; ⟨p, ep, c.world (e _ (h.lt i p ep))⟩, fun i o p hs ep => (h.place i o p hs ep).world (e _ (h.lt i p ep)), h.inj, fun i p ep => Nat.lt_of_lt_of_le (h.lt i p ep) hs, h.cont, fun i o v b f hv h8 ea o' => by
    obtain ⟨p, ep, ha⟩ := Names.at_get ea
    have := h.lt i p ep
    rw [Place.at_block ha] at this
    rw [frozen_block (e b this)]
    exact h.clean i o v b f hv h8 ea o',
    ⟨ρ.stab w w' (fun k hk => e k (Nat.lt_of_lt_of_le hk h.keep.2.2)) h.keep.1, h.keep.2.1, Nat.le_trans h.keep.2.2 hs⟩⟩
/-- a row of bytes is marked: it goes over to a new name -/
theorem R.stringish {P : Program} {ρ : Val} {μ : Names} {B : Nat} {H : Mem} {w : World} (hR : R ρ μ B H w) (hB : B ≤ w.heap.size) {id n b f off : Nat} (hn : μ.get n = none) (hid : μ id = some (b, f)) (hlive : (H.at id 0).isSome = true) {l : List AV} (hl : ∀ j v, l[j]? = some v → H.at id (off + j) = some v) (hu : allU8 l = true) :
    ∃ p, p.at = some (b, f + off) ∧ (markStringish ⟨b, f + off, none⟩).run P w = .ok () (w.freeze ⟨b, (match w.shape? b with | some (_, n) => n | none => 0), none⟩ 1) ∧ R ρ (μ.add n p) B ((H.drop id).new n l) (w.freeze ⟨b, (match w.shape? b with | some (_, n) => n | none => 0), none⟩ 1) ∧ Below B w (w.freeze ⟨b, (match w.shape? b with | some (_, n) => n | none => 0), none⟩ 1) := by
  obtain ⟨q, hq, hqa⟩ := Names.at_get hid
  have hfrz : Frz w b := by
    have := hR.place id 0 q hlive hq
    cases q with
    | cells b' f' => simp only [Place.at, Option.some.injEq, Prod.mk.injEq] at hqa; obtain ⟨rfl, rfl⟩ := hqa; exact this
    | row b' f' N => simp only [Place.at, Option.some.injEq, Prod.mk.injEq] at hqa; obtain ⟨rfl, rfl⟩ := hqa; exact this.1
    | obj b' => cases hqa
  obtain ⟨c, e, lo, hi, hh, hlo⟩ := hfrz
  have hsh : w.shape? b = some (e, c.size) := by simp [World.shape?, hh]
  rw [hsh]
  dsimp only
  obtain ⟨v0, hv0⟩ := Option.isSome_iff_exists.1 hlive
  have hBb : B ≤ b := by
    obtain ⟨_, hb, _⟩ := hR.cell id 0 v0 hv0 hid
    exact hb
  have hlt : b < w.heap.size := (Array.getElem?_eq_some_iff.1 hh).1
  have hother : ∀ k, k ≠ b → (w.freeze ⟨b, c.size, none⟩ 1).heap[k]? = w.heap[k]? := fun k hk => by
    simp only [World.freeze, Nat.one_ne_zero, if_false, Array.getElem?_modify]
    rw [if_neg (fun e => hk e.symm)]
  have hnew : (w.freeze ⟨b, c.size, none⟩ 1).heap[b]? = some (.cells c e (if lo == hi then (c.size, c.size + 1) else (min lo c.size, max hi (c.size + 1)))) := by
    simp [World.freeze, Array.getElem?_modify, hh]
  have hsz : (w.freeze ⟨b, c.size, none⟩ 1).heap.size = w.heap.size := by simp [World.freeze]
  have hcell : ∀ o, (w.freeze ⟨b, c.size, none⟩ 1).cell? ⟨b, o, none⟩ = w.cell? ⟨b, o, none⟩ := fun o => by simp [World.cell?, hnew, hh]
  have hrange : ∃ lo2 hi2, (if lo == hi then (c.size, c.size + 1) else (min lo c.size, max hi (c.size + 1))) = (lo2, hi2) ∧ c.size ≤ lo2 := by
    by_cases h : lo = hi
    · exact ⟨c.size, c.size + 1, by simp [h], Nat.le_refl _⟩
    · exact ⟨min lo c.size, max hi (c.size + 1), by simp [h], by have := hlo.resolve_left h; omega⟩
  obtain ⟨lo2, hi2, er, hlo2⟩ := hrange
  rw [er] at hnew
  have hfz : ∀ o, o < c.size → (w.freeze ⟨b, c.size, none⟩ 1).frozen? ⟨b, o, none⟩ = false := fun o ho => by
    simp only [World.frozen?, hnew]
    simp
    omega
  have hdrop : ∀ a o y, (H.drop id).at a o = some y → H.at a o = some y := fun a o y hy => by
    rw [Mem.at_drop] at hy
    split at hy
    · cases hy
    · exact hy
  have hdc : ∀ a o, ((H.drop id).at a (o + 1)).isSome = true → ((H.drop id).at a o).isSome = true := fun a o hs => by
    rw [Mem.at_drop] at hs ⊢
    split at hs
    · cases hs
    · rename_i ha; rw [if_neg ha]; exact hR.cont a o hs
  refine ⟨.cells b (f + off), rfl, ?_, ?_, ⟨by simp [World.freeze], by simp [World.freeze], by simp [World.freeze], by rw [hsz]; exact Nat.le_refl _, fun k hk => hother k (by omega)⟩⟩
  · simp [markStringish, hsh, shape, freeze, Sem.run]
  · refine hR.into hn (fun a o y ha hy => ?_) (fun a o y q' ha hy eq => ?_) (by rw [hsz]; exact Nat.le_refl _) ⟨c, e, lo2, hi2, hnew, .inr hlo2⟩ (by rw [hsz]; exact hlt) (fun o y hy => ?_) (fun o y b' f' hy hy8 ha o' => ?_) (new_cont hdc) (fun k hk => hother k (by omega))
    · rw [Mem.at_new, if_neg ha] at hy; exact hdrop a o y hy
    · rw [Mem.at_new, if_neg ha] at hy
      have hai : a ≠ id := fun e => by rw [Mem.at_drop, if_pos e] at hy; cases hy
      have hne2 : q'.block ≠ b := fun e => hai (hR.inj a o id 0 q' q (by rw [hdrop a o y hy]; rfl) hlive eq hq (by rw [Place.at_block hqa]; exact e))
      exact ⟨hne2, hother _ hne2⟩
    · rw [Mem.at_new, if_pos rfl] at hy
      obtain ⟨x, _, c1, c2, _, c4⟩ := hR.cell id (off + o) y (hl o y hy) hid
      rw [← Nat.add_assoc] at c1
      refine .inl ⟨b, f + off, x, rfl, hBb, by rw [hcell]; exact c1, rel.mono (Names.le_add hn _) _ _ c2, hfz _ ?_, c4⟩
      simp only [World.cell?, hh] at c1
      exact (Array.getElem?_eq_some_iff.1 (by simpa using c1)).1
    · rw [Mem.at_new, if_pos rfl] at hy
      rw [allU8_get hu o y hy] at hy8
      cases hy8
/-! ### bytes to string and back -/
theorem aConvM_run {src dst : TypeId} {x : AV} {k : AV → AM} {H : Mem} {n : Nat} {acc : List Tok} {r : Out × Mem × Nat × List Tok} (h : (aConvM P src dst x k).run H n acc = some r) :
    ∃ v H1 n1 acc1, (k v).run H1 n1 acc1 = some r ∧ n ≤ n1 ∧ ∀ (ρ : Val) (μ : Names) (B : Nat) (w : World) (xv : Value), R ρ μ B H w → B ≤ w.heap.size → (∀ i, n ≤ i → i < n1 → μ.get i = none) → rel ρ μ x xv →
      SemOk P B μ w n v H1 n1 ρ (convert src dst xv) := by
  unfold aConvM at h
  split at h
  · rename_i e hs hd
    split at h
    · cases h
    · rename_i x o1 o2 x2 m he hns hn
      obtain ⟨l, acc1, h2, hsrc⟩ := aSrc_run (P := P) h
      cases hb : aBytes l with
      | none => rw [hb] at h2; cases h2
      | some q =>
        rw [hb] at h2
        refine ⟨.str q, H, n, acc1, h2, Nat.le_refl _, fun ρ μ B w xv hR hB hf hx => ?_⟩
        obtain ⟨xs, e1, e2, e3⟩ := hsrc ρ μ B w xv hR hx
        obtain ⟨hq, rfl⟩ := aBytes_rel hb xs e2
        have fin : ∀ (a : Option Addr) (len c : Nat), xv = .slice a len c → len = m → SemOk P B μ w n (.str q) H n ρ (convert src dst xv) := fun a len c hv hlen => by
          subst hv hlen
          refine ⟨.string (bytesOf q), μ, w, ?_, ⟨hq, rfl⟩, Step.refl _ _ _, hR, Below.refl _ _⟩
          rw [run_convert_bytes_string w src dst e a len c hs he hd]
          cases a with
          | none =>
            rw [run_firstCells_none] at e1
            have hq0 : q = [] := by
              injection e1 with e1 _
              have := congrArg Array.size e1
              simp at this
              exact List.eq_nil_of_length_eq_zero this.symm
            subst hq0
            rfl
          | some a =>
            have hl : (loadCells a len).run P w = .ok ((q.map fun n : Nat => (n : Int)).map (Value.int .u8)).toArray w := by
              rw [← e1]; simp [Builtin.firstCells]
            rw [run_bytesToString w a len c _ hl, foldl_push]
            congr 2
        cases x <;> simp only [aLenS, Option.some.injEq, reduceCtorEq] at hn
        case nilSlice => simp only [rel] at hx; exact fin none 0 0 hx hn
        case emptyS => obtain ⟨a, c, hx, _⟩ := hx; exact fin _ _ _ hx hn
        case slice => obtain ⟨b, f, _, hx⟩ := hx; exact fin _ _ _ hx hn
        case rowS => obtain ⟨b, f, N, c, _, hx, _⟩ := hx; exact fin _ _ _ hx hn
        case str => exact (hns _ rfl).elim
    · cases h
  · rename_i d1 e hs hd
    split at h
    · rename_i id off len cap he
      cases hsd : Nat.beq src dst with
      | false => rw [hsd] at h; cases h
      | true =>
        rw [hsd, cond_true] at h
        rw [Nat.beq_eq] at hsd
        subst hsd
        obtain ⟨l, acc1, h2, ho1, ho2⟩ := loadN_run id _ _ _ H n acc r h
        cases hu : allU8 l with
        | false => rw [hu] at h2; cases h2
        | true =>
          rw [hu, cond_true] at h2
          simp only [AM.run_drop, AM.run_alloc] at h2
          cases hv0 : H.at id 0 with
          | none => rw [hv0] at h2; cases h2
          | some v0 =>
            rw [hv0] at h2
            dsimp only at h2
            refine ⟨.slice n 0 len cap, (H.drop id).new n l, n + 1, _, h2, by omega, fun ρ μ B w xv hR hB hf hx => ?_⟩
            have hn := hf n (Nat.le_refl _) (by omega)
            obtain ⟨b, f, hid, rfl⟩ := hx
            have hrun : (convert src src (.slice (some ⟨b, f + off, none⟩) len cap)).run P w = (do markStringish ⟨b, f + off, none⟩; pure (.slice (some ⟨b, f + off, none⟩) len cap) : Sem Value).run P w := by
              simp [convert, run_underlying hd, run_underlying he]
            obtain ⟨p, g1, g2, g3⟩ := hR.stringish (P := P) hB hn hid (by rw [hv0]; rfl) (l := l) (off := off) ho2 hu
            refine ⟨_, _, _, ?_, ⟨b, f + off, Names.cell_of (Names.add_new μ n p) g1, rfl⟩, ⟨Names.le_add hn _, fun i hi => Names.add_ne _ _ (by omega)⟩, g3.1, g3.2⟩
            rw [hrun]
            simp only [Sem.run_bind, g2, Result.andThen_ok, Sem.run_pure, Nat.add_zero]
    · rename_i l he
      cases hl : Nat.beq l.length 0 with
      | true =>
        rw [hl, cond_true] at h
        rw [Nat.beq_eq] at hl
        have : l = [] := List.eq_nil_of_length_eq_zero hl
        subst this
        refine ⟨.emptyS, H, n, acc, h, Nat.le_refl _, fun ρ μ B w xv hR hB hf hx => ?_⟩
        obtain ⟨hl, rfl⟩ := hx
        exact ⟨_, μ, _, Lib.run_convert_string_bytes w src dst e _ hs hd he, ⟨⟨w.heap.size, 0, none⟩, _, rfl, rfl⟩, Step.refl _ _ _, hR.keepOld (fun k hk => Lib.bytesWorld_at_old w e _ k hk) (by rw [Lib.bytesWorld_size]; omega), bytesWorld_below hB e _⟩
      | false =>
        rw [hl, cond_false] at h
        cases hb : Nat.ble l.length 4611686018427387904 with
        | false => rw [hb] at h; cases h
        | true =>
          rw [hb, cond_true] at h
          rw [Nat.ble_eq] at hb
          simp only [AM.run_ret, AM.run_fail, AM.run_load, AM.run_store, AM.run_alloc, AM.run_sub, AM.run_call, AM.run_here, AM.run_drop, AM.run_renew] at h
          refine ⟨.rowS n 0 l.length 1, H.new n (strCells l), n + 1, acc, h, by omega, fun ρ μ B w xv hR hB hf hx => ?_⟩
          obtain ⟨hl, rfl⟩ := hx
          have hn := hf n (Nat.le_refl _) (by omega)
          obtain ⟨p, g1, g2⟩ := hR.bytes hB hn l hl e (by simp only [maxLen]; omega)
          exact ⟨_, μ.add n p, _, Lib.run_convert_string_bytes w src dst e _ hs hd he, g2, ⟨Names.le_add hn _, fun i hi => Names.add_ne _ _ (by omega)⟩, g1, bytesWorld_below hB e _⟩
    · cases h
  · cases h
/-! ### equality, with memory -/
/-- addresses of cells that are there -/
theorem cell_shape {w : World} {b o : Nat} {x : Value} (h : w.cell? ⟨b, o, none⟩ = some x) : ∃ e n, w.shape? b = some (e, n + 1) := by
  unfold World.cell? at h
  unfold World.shape?
  cases hb : w.heap[b]? with
  | none => simp [hb] at h
  | some ob =>
    cases ob <;> simp [hb] at h
    rename_i c e fr
    have : o < c.size := (Array.getElem?_eq_some_iff.1 h).1
    exact ⟨e, c.size - 1, by simp; omega⟩
theorem run_sameAddr_far {w : World} {b1 o1 b2 o2 : Nat} {x1 x2 : Value} (hne : b1 ≠ b2) (h1 : w.cell? ⟨b1, o1, none⟩ = some x1) (h2 : w.cell? ⟨b2, o2, none⟩ = some x2) (f1 : w.frozen? ⟨b1, o1, none⟩ = false) (f2 : w.frozen? ⟨b2, o2, none⟩ = false)
    (hc : (∀ o, w.frozen? ⟨b1, o, none⟩ = false) ∨ ∀ o, w.frozen? ⟨b2, o, none⟩ = false) : (sameAddr ⟨b1, o1, none⟩ ⟨b2, o2, none⟩).run P w = .ok false w := by
  obtain ⟨e1, n1, s1⟩ := cell_shape h1
  obtain ⟨e2, n2, s2⟩ := cell_shape h2
  rcases hc with hc | hc
  · cases hf2 : w.frozen? ⟨b2, n2 + 1, none⟩ <;> simp [sameAddr, hne, f1, f2, noView, viewAt, s1, s2, mayBeOne, stringish, hc, hf2]
  · cases hf1 : w.frozen? ⟨b1, n1 + 1, none⟩ <;> simp [sameAddr, hne, f1, f2, noView, viewAt, s1, s2, mayBeOne, stringish, hc, hf1]
end
section
variable (P : Program)
def eqA (t : TypeId) (x y : AV) (c : Bool → AM) : AM :=
  match x, y with
  | .ptr i o, .ptr j p => match P.underlying t with
    | some (.pointer e) => match P.info? e with
      | some ie => bif Nat.blt 0 ie.size then .load i o fun u1 => .load j p fun u2 => bif u1.isU8 && u2.isU8 then .fail 83 else c (Nat.beq i j && Nat.beq o p) else .fail 83
      | none => .fail 83
    | _ => .fail 83
  | x, y => match aEqIn P 50 t x y with
    | some (.lit b) => c b
    | _ => .fail 84
end
section
variable {P : Program}
theorem eqA_run {t : TypeId} {x y : AV} {c : Bool → AM} {H : Mem} {n : Nat} {acc : List Tok} {r : Out × Mem × Nat × List Tok} (h : (eqA P t x y c).run H n acc = some r) :
    ∃ b acc1, (c b).run H n acc1 = some r ∧ ∀ (ρ : Val) (μ : Names) (B : Nat) (w : World) (v u : Value), R ρ μ B H w → rel ρ μ x v → rel ρ μ y u → (Op.equal t v u).run P w = .ok b w := by
  unfold eqA at h
  split at h
  · rename_i i o j p
    split at h
    · rename_i e ht
      split at h
      · rename_i ie hie
        cases hs : Nat.blt 0 ie.size with
        | false => rw [hs] at h; cases h
        | true =>
          rw [hs, cond_true] at h
          rw [blt_iff] at hs
          simp only [AM.run_ret, AM.run_fail, AM.run_load, AM.run_store, AM.run_alloc, AM.run_sub, AM.run_call, AM.run_here, AM.run_drop, AM.run_renew] at h
          cases h1 : H.at i o with
          | none => rw [h1] at h; cases h
          | some u1 =>
            rw [h1] at h
            dsimp only at h
            cases h2 : H.at j p with
            | none => rw [h2] at h; cases h
            | some u2 =>
              rw [h2] at h
              dsimp only at h
              cases hb : (u1.isU8 && u2.isU8) with
              | true => rw [hb] at h; cases h
              | false =>
                rw [hb, cond_false] at h
                refine ⟨_, _, h, fun ρ μ B w v u hR hx hy => ?_⟩
                obtain ⟨b1, f1, m1, rfl⟩ := hx
                obtain ⟨b2, f2, m2, rfl⟩ := hy
                have hsz : ie.size ≠ 0 := by omega
                have key : (sameAddr ⟨b1, f1 + o, none⟩ ⟨b2, f2 + p, none⟩).run P w = .ok (Nat.beq i j && Nat.beq o p) w := by
                  by_cases hij : i = j
                  · subst hij
                    rw [m1] at m2
                    obtain ⟨rfl, rfl⟩ := Prod.mk.inj (Option.some.inj m2)
                    by_cases hop : o = p
                    · subst hop; simp [sameAddr]
                    · have : (⟨b1, f1 + o, none⟩ : Addr) ≠ ⟨b1, f1 + p, none⟩ := fun e => by
                        have := congrArg Addr.off e
                        simp at this
                        exact hop this
                      simp [sameAddr, this, Tr.beq_f hop]
                  · rw [Tr.beq_f hij, Bool.false_and]
                    obtain ⟨x1, _, c1, _, g1, _⟩ := hR.cell i o u1 h1 m1
                    obtain ⟨x2, _, c2, _, g2, _⟩ := hR.cell j p u2 h2 m2
                    obtain ⟨p1, e1, a1⟩ := Names.at_get m1
                    obtain ⟨p2, e2, a2⟩ := Names.at_get m2
                    refine run_sameAddr_far (fun e => hij (hR.inj i o j p p1 p2 (by rw [h1]; rfl) (by rw [h2]; rfl) e1 e2 (by rw [Place.at_block a1, Place.at_block a2]; exact e))) c1 c2 g1 g2 ?_
                    rw [Bool.and_eq_false_iff] at hb
                    rcases hb with hb | hb
                    · exact .inl (hR.clean i o u1 b1 f1 h1 hb m1)
                    · exact .inr (hR.clean j p u2 b2 f2 h2 hb m2)
                have any : ∀ d, (Op.equalIn (d + 1) t (.pointer (some ⟨b1, f1 + o, none⟩)) (.pointer (some ⟨b2, f2 + p, none⟩))).run P w = .ok (Nat.beq i j && Nat.beq o p) w := fun d => by
                  simp [Op.equalIn, run_underlying ht, sizeOf, typeInfo, hie, hsz, key]
                exact any 9999
      · cases h
    · cases h
  · split at h
    · rename_i b hb
      refine ⟨b, acc, h, fun ρ μ B w v u hR hx hy => ?_⟩
      exact aEqIn_run P 50 9950 t _ _ _ hb ρ μ v u w hx hy
    · cases h
end
end
end Go.Proofs.YtdoegipkfjndbaaGreatDoor.Ev
namespace Go.Proofs.YtdoegipkfjndbaaGreatDoor.Ev
set_option linter.unusedVariables false
set_option linter.unusedSimpArgs false
noncomputable section
open Go.RowKit
section
variable {P : Program}
/-! ### a key among entries -/
def FindOk (eq : Value → Bool → Prop) : List MapEntry → Option Nat → Prop
  | [], none => True
  | [], some _ => False
  | e :: _, some 0 => eq e.key true
  | e :: es, some (i + 1) => eq e.key false ∧ FindOk eq es (some i)
  | e :: es, none => eq e.key false ∧ FindOk eq es none
theorem sameNow_equal {kt : TypeId} {d : TypeDesc} (hd : P.underlying kt = some d) {k u : Value} {b : Bool} (h : Instr.sameNow d k u = some b) (w : World) : (Op.equal kt k u).run P w = .ok b w := by
  have any : ∀ n, (Op.equalIn (n + 1) kt k u).run P w = .ok b w := fun n => by
    unfold Instr.sameNow at h
    split at h
    · split at h
      · rename_i hk
        cases h
        simp [Op.equalIn, run_underlying hd, hk]
      · cases h
    · cases h; simp [Op.equalIn, run_underlying hd]
    · cases h; simp [Op.equalIn, run_underlying hd]
    · cases h
  exact any 9999
theorem findNow_ok {kt : TypeId} {d : TypeDesc} (hd : P.underlying kt = some d) {k : Value} {w : World} : ∀ (es : List MapEntry) (res : Option Nat) (i0 : Nat) (r : Option (Nat × Value)), FindOk (fun u b => (Op.equal kt k u).run P w = .ok b w) es res → Instr.findNow d k es i0 = some r →
    r = res.bind fun i => (es[i]?).map fun e => (i0 + i, e.val)
  | [], none, i0, r, _, h => by cases h; rfl
  | [], some _, i0, r, hf, _ => hf.elim
  | e :: es, res, i0, r, hf, h => by
    unfold Instr.findNow at h
    cases hs : Instr.sameNow d k e.key with
    | none => rw [hs] at h; cases h
    | some b =>
      have hb := sameNow_equal (P := P) hd hs w
      rw [hs] at h
      cases b with
      | true =>
        cases h
        cases res with
        | none => rw [hf.1] at hb; injection hb with hb _; cases hb
        | some i =>
          cases i with
          | zero => simp
          | succ i => rw [hf.1] at hb; injection hb with hb _; cases hb
      | false =>
        dsimp only at h
        cases res with
        | none =>
          have := findNow_ok hd es none (i0 + 1) r hf.2 h
          simpa using this
        | some i =>
          cases i with
          | zero =>
            have h2 : (Op.equal kt k e.key).run P w = .ok true w := hf
            rw [h2] at hb; injection hb with hb _; cases hb
          | succ i =>
            have := findNow_ok hd es (some i) (i0 + 1) r hf.2 h
            rw [this]
            simp only [Option.bind_some, List.getElem?_cons_succ]
            congr 1
            funext e
            simp; omega
theorem findAsking_ok {kt : TypeId} {k : Value} {w : World} : ∀ (es : List MapEntry) (res : Option Nat) (i0 : Nat), FindOk (fun u b => (Op.equal kt k u).run P w = .ok b w) es res →
    (Instr.findAsking kt k es i0).run P w = .ok (res.bind fun i => (es[i]?).map fun e => (i0 + i, e.val)) w
  | [], none, i0, _ => rfl
  | [], some _, i0, hf => hf.elim
  | e :: es, none, i0, hf => by
    rw [Instr.findAsking, Sem.run_bind, hf.1, Result.andThen_ok]
    simpa using findAsking_ok es none (i0 + 1) hf.2
  | e :: es, some 0, i0, hf => by
    have h2 : (Op.equal kt k e.key).run P w = .ok true w := hf
    rw [Instr.findAsking, Sem.run_bind, h2, Result.andThen_ok]
    simp
  | e :: es, some (i + 1), i0, hf => by
    rw [Instr.findAsking, Sem.run_bind, hf.1, Result.andThen_ok]
    have := findAsking_ok es (some i) (i0 + 1) hf.2
    simp only [Bool.false_eq_true, if_false, this, Option.bind_some, List.getElem?_cons_succ]
    congr 2
    funext e
    simp; omega
theorem run_findKey_ok {kt : TypeId} {d : TypeDesc} (hd : P.underlying kt = some d) {k : Value} {w : World} {es : List MapEntry} {res : Option Nat} (hf : FindOk (fun u b => (Op.equal kt k u).run P w = .ok b w) es res) :
    (Instr.findKey kt k es).run P w = .ok (res.bind fun i => (es[i]?).map fun e => (i, e.val)) w := by
  unfold Instr.findKey
  rw [Sem.run_bind, run_underlying hd, Result.andThen_ok]
  cases hn : Instr.findNow d k es 0 with
  | some r =>
    have := findNow_ok hd es res 0 r hf hn
    simp only [Nat.zero_add] at this
    rw [this]; rfl
  | none =>
    have := findAsking_ok es res 0 hf
    simpa using this
end
section
variable (P : Program)
def findA (kt : TypeId) (k : AV) : List AV → Nat → (Option Nat → AM) → AM
  | [], _, c => c none
  | x :: l, i, c => eqA P kt k x fun b => bif b then c (some i) else findA kt k l (i + 1) c
def simpleKey : TypeDesc → Bool
  | .interface _ | .array .. | .struct _ => false
  | _ => true
end
section
variable {P : Program}
theorem findA_run {kt : TypeId} {k : AV} {c : Option Nat → AM} {H : Mem} {n : Nat} {r : Out × Mem × Nat × List Tok} : ∀ (l : List AV) (i : Nat) (acc : List Tok), (findA P kt k l i c).run H n acc = some r →
    ∃ res acc1, (c (res.map (i + ·))).run H n acc1 = some r ∧ (∀ j, res = some j → j < l.length) ∧ ∀ (ρ : Val) (μ : Names) (B : Nat) (w : World) (v : Value) (es : List MapEntry), R ρ μ B H w → rel ρ μ k v → relL ρ μ l (es.map (·.key)) → FindOk (fun u b => (Op.equal kt v u).run P w = .ok b w) es res
  | [], i, acc, h => ⟨none, acc, h, (fun j hj => by cases hj), fun ρ μ B w v es hR hk hl => by
      cases es with
      | nil => trivial
      | cons e es => exact hl.elim⟩
  | x :: l, i, acc, h => by
    simp only [findA] at h
    obtain ⟨b, acc1, h1, he⟩ := eqA_run h
    cases b with
    | true =>
      rw [cond_true] at h1
      refine ⟨some 0, acc1, h1, (fun j hj => by cases hj; simp), fun ρ μ B w v es hR hk hl => ?_⟩
      cases es with
      | nil => exact hl.elim
      | cons e es => exact he ρ μ B w v e.key hR hk hl.1
    | false =>
      rw [cond_false] at h1
      obtain ⟨res, acc2, h2, hlt, hf⟩ := findA_run l (i + 1) acc1 h1
      refine ⟨res.map (· + 1), acc2, ?_, fun j hj => ?_, fun ρ μ B w v es hR hk hl => ?_⟩
      · rw [← h2]
        cases res with
        | none => rfl
        | some j => simp only [Option.map_some]; rw [show i + (j + 1) = i + 1 + j by omega]
      · cases res with
        | none => cases hj
        | some j' => simp at hj; have := hlt j' rfl; simp; omega
      · cases es with
        | nil => exact hl.elim
        | cons e es =>
          have h0 := he ρ μ B w v e.key hR hk hl.1
          have h3 := hf ρ μ B w v es hR hk hl.2
          cases res with
          | none => exact ⟨h0, h3⟩
          | some j => exact ⟨h0, h3⟩
theorem run_checkKey_simple {kt : TypeId} {d : TypeDesc} (hd : P.underlying kt = some d) (hs : simpleKey d = true) (e : Bool) (v : Value) (w : World) : (Instr.checkKey e 10000 kt v).run P w = .ok () w := by
  have any : ∀ n, (Instr.checkKey e (n + 1) kt v).run P w = .ok () w := fun n => by
    unfold Instr.checkKey
    rw [Sem.run_bind, run_underlying hd, Result.andThen_ok]
    cases d <;> first | rfl | cases hs
  exact any 9999
end
/-! ### maps -/
/-! keys that are strings, by recursors alone -/
def eqR (l : List Nat) : List Nat → Bool :=
  List.rec (motive := fun _ => List Nat → Bool) (fun m => List.rec (motive := fun _ => Bool) true (fun _ _ _ => false) m) (fun a _ ih m => List.rec (motive := fun _ => Bool) false (fun b m' _ => cond (Nat.beq a b) (ih m') false) m) l
theorem eqR_eq : ∀ (l m : List Nat), eqR l m = eqL l m
  | [], [] => rfl
  | [], _ :: _ => rfl
  | _ :: _, [] => rfl
  | a :: l, b :: m => by
    show cond (Nat.beq a b) (eqR l m) false = bif Nat.beq a b then eqL l m else false
    rw [eqR_eq l m]
def strOf (a : AV) (e : AM) (c : List Nat → AM) : AM := View.rec (motive := fun _ => AM) (fun _ _ => e) (fun _ => e) c e a.view
theorem strOf_eq {a : AV} {G : AM} {c : List Nat → AM} (h : ∀ l, a = .str l → c l = G) : strOf a G c = G := by
  unfold strOf
  cases hv : a.view with
  | str l => exact h l (view_str hv)
  | _ => rfl
def findS (l : List Nat) (c : Option Nat → AM) (G : AM) (ks : List AV) : Nat → AM :=
  List.rec (motive := fun _ => Nat → AM) (fun _ => c none) (fun x _ ih i => strOf x G fun m => cond (eqR l m) (c (some i)) (natK (Nat.succ i) fun i => ih i)) ks
def isStrT : Option TypeDesc → Bool
  | some .string => true
  | _ => false
def findX (P : Program) (kt : TypeId) (k : AV) (ks : List AV) (c : Option Nat → AM) : AM :=
  cond (isStrT (P.underlying kt)) (strOf k (findA P kt k ks 0 c) fun l => findS l c (findA P kt k ks 0 c) ks 0) (findA P kt k ks 0 c)
theorem eqA_str {P : Program} {kt : TypeId} (h : P.underlying kt = some .string) (l m : List Nat) (c : Bool → AM) : eqA P kt (.str l) (.str m) c = c (eqL l m) := by
  unfold eqA
  simp only [show (50 : Nat) = 49 + 1 from rfl, aEqIn, h]
theorem findS_eq {P : Program} {kt : TypeId} (h : P.underlying kt = some .string) (l : List Nat) (c : Option Nat → AM) (G : AM) : ∀ (ks : List AV) (i : Nat), findA P kt (.str l) ks i c = G → findS l c G ks i = G
  | [], _, e => e
  | x :: t, i, e => by
    show strOf x G (fun m => cond (eqR l m) (c (some i)) (natK (Nat.succ i) fun i => findS l c G t i)) = G
    refine strOf_eq fun m hm => ?_
    subst hm
    rw [findA, eqA_str h] at e
    rw [eqR_eq, natK_eq]
    cases hb : eqL l m with
    | true => rw [hb] at e; exact e
    | false => rw [hb] at e; exact findS_eq h l c G t (i + 1) e
theorem findX_eq (P : Program) (kt : TypeId) (k : AV) (ks : List AV) (c : Option Nat → AM) : findX P kt k ks c = findA P kt k ks 0 c := by
  unfold findX
  cases hs : isStrT (P.underlying kt) with
  | false => rfl
  | true =>
    have h : P.underlying kt = some .string := by
      unfold isStrT at hs
      split at hs
      · rename_i h; exact h
      · cases hs
    rw [cond_true]
    refine strOf_eq fun l hl => ?_
    subst hl
    exact findS_eq h _ c _ ks 0 rfl
def snocA {β : Type} (l : List AV) (a : AV) (c : List AV → β) : β := List.rec (motive := fun _ => (List AV → β) → β) (fun c => c [a]) (fun x _ ih c => ih fun t => c (x :: t)) l c
theorem snocA_eq {β : Type} (a : AV) : ∀ (l : List AV) (c : List AV → β), snocA l a c = c (l ++ [a])
  | [], _ => rfl
  | x :: l, c => by
    show snocA l a (fun t => c (x :: t)) = _
    rw [snocA_eq a l]; rfl
def sameSI : SI → SI → Bool
  | .lit a, .lit b => eqF a b
  | _, _ => false
def sameSB : SB → SB → Bool
  | .lit a, .lit b => a == b
  | _, _ => false
theorem sameSI_eq {x y : SI} (h : sameSI x y = true) : x = y := by
  cases x <;> cases y <;> simp only [sameSI, Bool.false_eq_true, eqF_eq, beq_iff_eq] at h
  rw [h]
theorem sameSB_eq {x y : SB} (h : sameSB x y = true) : x = y := by
  cases x <;> cases y <;> simp only [sameSB, Bool.false_eq_true, beq_iff_eq] at h
  rw [h]
mutual
def sameAV : AV → AV → Bool
  | .int k x, .int k' y => k == k' && sameSI x y
  | .str l, .str m => eqL l m
  | .bool x, .bool y => sameSB x y
  | .nilPtr, .nilPtr => true
  | .ptr i o, .ptr j p => Nat.beq i j && Nat.beq o p
  | .agg l, .agg m => sameL l m
  | _, _ => false
def sameL : List AV → List AV → Bool
  | [], [] => true
  | a :: l, b :: m => bif sameAV a b then sameL l m else false
  | _, _ => false
end
theorem eqL_same : ∀ {l m : List Nat}, eqL l m = true → l = m
  | [], [], _ => rfl
  | a :: l, b :: m, h => by
    unfold eqL at h
    cases hb : Nat.beq a b with
    | false => rw [hb] at h; cases h
    | true =>
      rw [hb, cond_true] at h
      rw [Nat.beq_eq] at hb
      rw [hb, eqL_same h]
  | [], _ :: _, h => by cases h
  | _ :: _, [], h => by cases h
mutual
theorem sameAV_eq : ∀ (a b : AV), sameAV a b = true → a = b
  | .int k x, b, h => by
    cases b <;> first | (exfalso; simp [sameAV] at h; done) | skip
    simp only [sameAV, Bool.and_eq_true, beq_iff_eq] at h
    rw [h.1, sameSI_eq h.2]
  | .str l, b, h => by
    cases b <;> first | (exfalso; simp [sameAV] at h; done) | skip
    simp only [sameAV] at h; rw [eqL_same h]
  | .bool x, b, h => by
    cases b <;> first | (exfalso; simp [sameAV] at h; done) | skip
    simp only [sameAV] at h; rw [sameSB_eq h]
  | .nilPtr, b, h => by
    cases b <;> first | (exfalso; simp [sameAV] at h; done) | skip
    rfl
  | .ptr i o, b, h => by
    cases b <;> first | (exfalso; simp [sameAV] at h; done) | skip
    simp only [sameAV, Bool.and_eq_true, Nat.beq_eq] at h; rw [h.1, h.2]
  | .agg l, .agg m, h => by simp only [sameAV] at h; rw [sameL_eq l m h]
  | .agg l, .int .., h | .agg l, .bool .., h | .agg l, .str .., h | .agg l, .nilPtr, h | .agg l, .ptr .., h | .agg l, .nilSlice, h | .agg l, .slice .., h | .agg l, .rowS .., h | .agg l, .emptyS, h | .agg l, .nilMap, h | .agg l, .mapP _, h | .agg l, .objP _, h | .agg l, .func .., h | .agg l, .nilFunc, h | .agg l, .iface .., h | .agg l, .nilIface, h | .agg l, .tuple _, h | .agg l, .ite .., h | .agg l, .any, h | .agg l, .mapO .., h | .agg l, .iterO .., h | .agg l, .yieldF _, h | .agg l, .txt _, h | .agg l, .fptr .., h | .agg l, .rowF .., h | .agg l, .sym _, h | .agg l, .loopO .., h | .agg l, .defO, h | .agg l, .defX, h => by simp [sameAV] at h
  | .nilSlice, _, h | .slice .., _, h | .rowS .., _, h | .emptyS, _, h | .nilMap, _, h | .mapP _, _, h | .objP _, _, h | .func .., _, h | .nilFunc, _, h | .iface .., _, h | .nilIface, _, h | .tuple _, _, h | .ite .., _, h | .any, _, h | .mapO .., _, h | .iterO .., _, h | .yieldF _, _, h | .txt _, _, h | .fptr .., _, h | .rowF .., _, h | .sym _, _, h | .loopO .., _, h | .defO, _, h | .defX, _, h => by simp [sameAV] at h
theorem sameL_eq : ∀ (l m : List AV), sameL l m = true → l = m
  | [], [], _ => rfl
  | a :: l, b :: m, h => by
    unfold sameL at h
    cases hb : sameAV a b with
    | false => rw [hb] at h; cases h
    | true =>
      rw [hb, cond_true] at h
      rw [sameAV_eq a b hb, sameL_eq l m h]
  | [], _ :: _, h => by simp [sameL] at h
  | _ :: _, [], h => by simp [sameL] at h
end
end
end Go.Proofs.YtdoegipkfjndbaaGreatDoor.Ev
namespace Go.Proofs.YtdoegipkfjndbaaGreatDoor.Ev
set_option linter.unusedVariables false
set_option linter.unusedSimpArgs false
noncomputable section
open Go.RowKit
section
variable (P : Program)
def zeroV (t : TypeId) : Option AV :=
  match P.info? t with
  | some i => match i.zero with
    | some z => ofV z
    | none => none
  | none => none
theorem zeroV_run {t : TypeId} {a : AV} (h : zeroV P t = some a) (ρ : Val) (μ : Names) (w : World) : ∃ z, (zeroValue t).run P w = .ok z w ∧ rel ρ μ a z := by
  unfold zeroV at h
  cases hi : P.info? t with
  | none => simp [hi] at h
  | some i =>
    cases hz : i.zero with
    | none => simp [hi, hz] at h
    | some z =>
      simp only [hi, hz] at h
      exact ⟨z, by simp [zeroValue, Sem.run_bind, run_typeInfo w hi, hz], ofV_rel h⟩
def outL (ok : Bool) (v : AV) (b : Bool) : AV := bif ok then .tuple [v, .bool (.lit b)] else v
/-- a number that is not known -/
def isSym : AV → Bool
  | .int _ (.lit _) => false
  | .int _ _ => true
  | _ => false
/-- a key that is none of these -/
def noKey (A : Ass) (kt : TypeId) (k : AV) (ks : List AV) : Bool := ks.all fun y => match aEqIn P 50 kt k y with
  | some s => match dec A s with
    | some b => !b
    | none => false
  | none => false
def aLookup (A : Ass) (mt : TypeId) (m k : AV) (ok : Bool) (K : AV → AM) : AM :=
  match P.underlying mt with
  | some (.map kt et) => match P.underlying kt, zeroV P et with
    | some d, some z => bif simpleKey d then
        (match m with
        | .nilMap => K (outL ok z false)
        | .mapP id => .load id 0 fun o => match o with
          | .mapO ks vs => bif isSym k && noKey P A kt k ks then K (outL ok z false) else findX P kt k ks fun res => match res with
            | some i => match vs[i]? with
              | some v => K (outL ok v true)
              | none => .fail 85
            | none => K (outL ok z false)
          | _ => .fail 85
        | _ => .fail 85)
      else .fail 86
    | _, _ => .fail 86
  | _ => .fail 86
def aMapSet (mt : TypeId) (m k v : AV) (K : AM) : AM :=
  match P.underlying mt, m with
  | some (.map kt et), .mapP id => match P.underlying kt with
    | some d => bif simpleKey d then
        .load id 0 fun o => match o with
          | .mapO ks vs => findX P kt k ks fun res => match res with
            | some i => match ks[i]? with
              | some k' => bif sameAV k k' then .store id 0 (.mapO ks (vs.set i v)) K else .fail 87
              | none => .fail 87
            | none => snocA ks k fun ks => snocA vs v fun vs => .store id 0 (.mapO ks vs) K
          | _ => .fail 87
      else .fail 88
    | none => .fail 88
  | _, _ => .fail 88
def aMapDel (mt : TypeId) (m k : AV) (K : AM) : AM :=
  match P.underlying mt with
  | some (.map kt et) => match P.underlying kt with
    | some d => bif simpleKey d then
        (match m with
        | .nilMap => K
        | .mapP id => .load id 0 fun o => match o with
          | .mapO ks vs => findX P kt k ks fun res => match res with
            | some i => .store id 0 (.mapO (ks.eraseIdx i) (vs.eraseIdx i)) K
            | none => .store id 0 (.mapO ks vs) K
          | _ => .fail 89
        | _ => .fail 89)
      else .fail 89
    | none => .fail 89
  | _ => .fail 89
def aMapLen (t : TypeId) (m : AV) (K : AV → AM) : AM :=
  match P.underlying t, m with
  | some (.map _ _), .mapP id => .load id 0 fun o => match o with
    | .mapO ks _ => natK (lenL ks) fun n => K (.int .i64 (.lit (.ofNat n)))
    | _ => .fail 90
  | _, _ => .fail 90
end
section
variable {P : Program}
theorem R.mapAt {ρ : Val} {μ : Names} {B : Nat} {H : Mem} {w : World} (h : R ρ μ B H w) {id b : Nat} {ks vs : List AV} (hv : H.at id 0 = some (.mapO ks vs)) (hm : μ.get id = some (.obj b)) :
    ∃ es clock, w.heap[b]? = some (.map es clock) ∧ relL ρ μ ks (es.toList.map (·.key)) ∧ relL ρ μ vs (es.toList.map (·.val)) := by
  obtain ⟨p, e, c⟩ := h.at' id 0 _ hv
  rw [hm] at e
  obtain rfl := Option.some.inj e
  rcases c with ⟨_, _, _, e, _⟩ | ⟨b', ob, e, _, _, hh, hr⟩
  · cases e
  · cases e
    cases ob <;> simp only [relObj] at hr
    rename_i es clock
    exact ⟨es, clock, hh, hr.1, hr.2⟩
theorem find_get {l : List MapEntry} {i : Nat} {e : MapEntry} (h : l[i]? = some e) : ((some i).bind fun i => (l[i]?).map fun e => (i, e.val)) = some (i, e.val) := by simp [h]
theorem relL.get' {ρ : Val} {μ : Names} {l : List AV} {es : List MapEntry} {f : MapEntry → Value} {i : Nat} {a : AV} (h : relL ρ μ l (es.map f)) (ha : l[i]? = some a) : ∃ e, es[i]? = some e ∧ rel ρ μ a (f e) := by
  obtain ⟨x, hx, hr⟩ := relL.get i a h ha
  rw [List.getElem?_map] at hx
  cases he : es[i]? with
  | none => rw [he] at hx; cases hx
  | some e => rw [he] at hx; simp at hx; subst hx; exact ⟨e, rfl, hr⟩
theorem outL_rel {ρ : Val} {μ : Names} {ok : Bool} {v : AV} {x : Value} {b : Bool} (h : rel ρ μ v x) : rel ρ μ (outL ok v b) (if ok then .tuple #[x, .bool b] else x) := by
  cases ok with
  | true => exact ⟨[x, .bool b], rfl, h, rfl, trivial⟩
  | false => exact h
theorem noKey_find {A : Ass} {kt : TypeId} {k : AV} {ρ : Val} {μ : Names} {w : World} {v : Value} (hA : A.has ρ) (hk : rel ρ μ k v) : ∀ {ks : List AV} {es : List MapEntry}, noKey P A kt k ks = true → relL ρ μ ks (es.map (·.key)) → FindOk (fun u b => (Op.equal kt v u).run P w = .ok b w) es none
  | [], [], _, _ => trivial
  | [], _ :: _, _, h => h.elim
  | _ :: _, [], _, h => h.elim
  | y :: ks, e :: es, hn, h => by
    unfold noKey at hn
    rw [List.all_cons, Bool.and_eq_true] at hn
    refine ⟨?_, noKey_find hA hk (ks := ks) (by unfold noKey; exact hn.2) h.2⟩
    have h1 := hn.1
    split at h1
    · rename_i s hs
      split at h1
      · rename_i b hb
        have := aEqIn_run P 50 9950 kt _ _ s hs ρ μ v e.key w hk h.1
        rw [dec_eq hA hb] at this
        cases b
        · exact this
        · cases h1
      · cases h1
    · cases h1
theorem aLookup_run {A : Ass} {mt : TypeId} {m k : AV} {ok : Bool} {K : AV → AM} {H : Mem} {n : Nat} {acc : List Tok} {r : Out × Mem × Nat × List Tok} (h : (aLookup P A mt m k ok K).run H n acc = some r) :
    ∃ v acc1, (K v).run H n acc1 = some r ∧ ∀ (ρ : Val) (μ : Names) (B : Nat) (w : World) (mv kv : Value), A.has ρ → R ρ μ B H w → rel ρ μ m mv → rel ρ μ k kv → ∃ z, (Instr.lookup mt mv kv ok).run P w = .ok z w ∧ rel ρ μ v z := by
  unfold aLookup at h
  split at h
  · rename_i kt et hmt
    split at h
    · rename_i d z hd hz
      cases hs : simpleKey d with
      | false => rw [hs] at h; cases h
      | true =>
        rw [hs, cond_true] at h
        split at h
        · refine ⟨_, acc, h, fun ρ μ B w mv kv hA hR hm hk => ?_⟩
          simp only [rel] at hm
          subst hm
          obtain ⟨zv, e1, e2⟩ := zeroV_run P hz ρ μ w
          refine ⟨_, ?_, outL_rel e2⟩
          have hf := run_findKey_ok (P := P) (es := []) (res := none) hd (k := kv) (w := w) trivial
          simp [Instr.lookup, run_underlying hmt, run_checkKey_simple hd hs, hf, e1]
        · rename_i id
          simp only [AM.run_ret, AM.run_fail, AM.run_load, AM.run_store, AM.run_alloc, AM.run_sub, AM.run_call, AM.run_here, AM.run_drop, AM.run_renew] at h
          cases ho : H.at id 0 with
          | none => rw [ho] at h; cases h
          | some o =>
            rw [ho] at h
            dsimp only at h
            cases o <;> dsimp only at h <;> try (cases h; done)
            rename_i ks vs
            cases hnk : (isSym k && noKey P A kt k ks) with
            | true =>
              rw [hnk, cond_true] at h
              rw [Bool.and_eq_true] at hnk
              refine ⟨_, _, h, fun ρ μ B w mv kv hA hR hm hk => ?_⟩
              obtain ⟨b, hb, rfl⟩ := hm
              obtain ⟨es, clock, hh, hks, hvs⟩ := hR.mapAt ho hb
              obtain ⟨zv, e1, e2⟩ := zeroV_run P hz ρ μ w
              refine ⟨_, ?_, outL_rel e2⟩
              have hf2 := run_findKey_ok hd (noKey_find (w := w) hA hk hnk.2 hks)
              simp [Instr.lookup, run_underlying hmt, MapKept.run_getObj_map hh, run_checkKey_simple hd hs, hf2, e1]
            | false =>
            rw [hnk, cond_false] at h
            rw [findX_eq] at h
            obtain ⟨res, acc1, h1, hlt, hf⟩ := findA_run ks 0 _ h
            cases res with
            | none =>
              refine ⟨_, acc1, h1, fun ρ μ B w mv kv hA hR hm hk => ?_⟩
              obtain ⟨b, hb, rfl⟩ := hm
              obtain ⟨es, clock, hh, hks, hvs⟩ := hR.mapAt ho hb
              obtain ⟨zv, e1, e2⟩ := zeroV_run P hz ρ μ w
              refine ⟨_, ?_, outL_rel e2⟩
              have hf2 := run_findKey_ok hd (hf ρ μ B w kv es.toList hR hk hks)
              simp [Instr.lookup, run_underlying hmt, MapKept.run_getObj_map hh, run_checkKey_simple hd hs, hf2, e1]
            | some i =>
              simp only [Option.map_some, Nat.zero_add] at h1
              cases hv : vs[i]? with
              | none => rw [hv] at h1; cases h1
              | some v =>
                rw [hv] at h1
                refine ⟨_, acc1, h1, fun ρ μ B w mv kv hA hR hm hk => ?_⟩
                obtain ⟨b, hb, rfl⟩ := hm
                obtain ⟨es, clock, hh, hks, hvs⟩ := hR.mapAt ho hb
                obtain ⟨e, he, hr⟩ := hvs.get' hv
                refine ⟨_, ?_, outL_rel hr⟩
                have hf2 := run_findKey_ok hd (hf ρ μ B w kv es.toList hR hk hks)
                rw [find_get he] at hf2
                simp [Instr.lookup, run_underlying hmt, MapKept.run_getObj_map hh, run_checkKey_simple hd hs, hf2]
        · cases h
    · cases h
  · cases h
theorem run_oneOf {q : Question} (hq : q.forced = false) (a b : Value) (w : World) : ∃ r w1, ((do pure (if (← choose q) = 0 then b else a)) : Sem Value).run P w = .ok r w1 ∧ (r = a ∨ r = b) ∧ (w1 = w ∨ w1 = w.drew) := by
  by_cases h2 : q.cut (w.tape w.drawn q) = 0
  · exact ⟨b, w.drew, by simp [hq, h2], .inr rfl, .inr rfl⟩
  · exact ⟨a, w.drew, by simp [hq, h2], .inl rfl, .inr rfl⟩
theorem run_keeps {a b : Value} (w : World) : ∃ r w1, (Instr.keyThatStays a b).run P w = .ok r w1 ∧ (r = a ∨ r = b) ∧ (w1 = w ∨ w1 = w.drew) := by
  unfold Instr.keyThatStays
  by_cases h : Instr.sameBits 10000 a b = true
  · exact ⟨b, w, by simp [h], .inr rfl, .inl rfl⟩
  · rw [if_neg h]
    exact run_oneOf rfl a b w
theorem modify_keys {es : Array MapEntry} {i : Nat} {f : MapEntry → MapEntry} : (es.modify i f).toList = es.toList.modify i f := by simp
theorem relL.modK {ρ : Val} {μ : Names} {ks : List AV} {f : MapEntry → MapEntry} {k : AV} : ∀ {es : List MapEntry} {i : Nat} {ks : List AV}, relL ρ μ ks (es.map (·.key)) → ks[i]? = some k → (∀ e, rel ρ μ k (f e).key) → relL ρ μ ks ((es.modify i f).map (·.key))
  | [], i, ks, h, hk, _ => by cases ks with | nil => simp at hk | cons a l => exact h.elim
  | e :: es, 0, [], h, hk, _ => by simp at hk
  | e :: es, 0, a :: ks, h, hk, hf => by simp at hk; subst hk; exact ⟨hf e, h.2⟩
  | e :: es, i + 1, [], h, hk, _ => by simp at hk
  | e :: es, i + 1, a :: ks, h, hk, hf => ⟨h.1, relL.modK (ks := ks) h.2 (by simpa using hk) hf⟩
theorem relL.modV {ρ : Val} {μ : Names} {f : MapEntry → MapEntry} {v : AV} : ∀ {es : List MapEntry} {i : Nat} {vs : List AV}, relL ρ μ vs (es.map (·.val)) → (∀ e, rel ρ μ v (f e).val) → relL ρ μ (vs.set i v) ((es.modify i f).map (·.val))
  | [], i, [], h, _ => by cases i <;> trivial
  | [], i, a :: l, h, _ => h.elim
  | e :: es, 0, [], h, _ => h.elim
  | e :: es, 0, a :: vs, h, hf => ⟨hf e, h.2⟩
  | e :: es, i + 1, [], h, _ => h.elim
  | e :: es, i + 1, a :: vs, h, hf => ⟨h.1, relL.modV (vs := vs) h.2 hf⟩
theorem relL.erase {ρ : Val} {μ : Names} {g : MapEntry → Value} : ∀ {es : List MapEntry} {i : Nat} {vs : List AV}, relL ρ μ vs (es.map g) → relL ρ μ (vs.eraseIdx i) ((es.eraseIdx i).map g)
  | [], i, [], h => trivial
  | [], i, a :: l, h => h.elim
  | e :: es, 0, [], h => h.elim
  | e :: es, 0, a :: vs, h => h.2
  | e :: es, i + 1, [], h => h.elim
  | e :: es, i + 1, a :: vs, h => ⟨h.1, relL.erase (vs := vs) h.2⟩
theorem Below.setObj {B : Nat} {w : World} {b : Nat} (hB : B ≤ b) (ob : Obj) : Below B w { w with heap := w.heap.setIfInBounds b ob } :=
  ⟨rfl, rfl, rfl, by simp, fun k hk => Array.getElem?_setIfInBounds_ne (by omega)⟩
theorem aMapSet_run {mt : TypeId} {m k v : AV} {K : AM} {H : Mem} {n : Nat} {acc : List Tok} {r : Out × Mem × Nat × List Tok} (h : (aMapSet P mt m k v K).run H n acc = some r) :
    ∃ H1 acc1, K.run H1 n acc1 = some r ∧ ∀ (ρ : Val) (μ : Names) (B : Nat) (w : World) (mv kv vv : Value), R ρ μ B H w → rel ρ μ m mv → rel ρ μ k kv → rel ρ μ v vv → ∃ w1, (Instr.mapUpdate mt mv kv vv).run P w = .ok () w1 ∧ R ρ μ B H1 w1 ∧ Below B w w1 := by
  unfold aMapSet at h
  split at h
  · rename_i kt et id hmt
    split at h
    · rename_i d hd
      cases hs : simpleKey d with
      | false => rw [hs] at h; cases h
      | true =>
        rw [hs, cond_true] at h
        simp only [AM.run_ret, AM.run_fail, AM.run_load, AM.run_store, AM.run_alloc, AM.run_sub, AM.run_call, AM.run_here, AM.run_drop, AM.run_renew] at h
        cases ho : H.at id 0 with
        | none => rw [ho] at h; cases h
        | some o =>
          rw [ho] at h
          dsimp only at h
          cases o <;> dsimp only at h <;> try (cases h; done)
          rename_i ks vs
          rw [findX_eq] at h
          obtain ⟨res, acc1, h1, hlt, hf⟩ := findA_run ks 0 _ h
          cases res with
          | none =>
            simp only [Option.map_none, snocA_eq, AM.run_ret, AM.run_fail, AM.run_load, AM.run_store, AM.run_alloc, AM.run_sub, AM.run_call, AM.run_here, AM.run_drop, AM.run_renew, ho] at h1
            dsimp only [AV.isU8] at h1
            rw [Bool.false_and, cond_false] at h1
            refine ⟨_, _, h1, fun ρ μ B w mv kv vv hR hm hk hv => ?_⟩
            obtain ⟨b, hb, rfl⟩ := hm
            obtain ⟨es, clock, hh, hks, hvs⟩ := hR.mapAt ho hb
            have hf2 := run_findKey_ok hd (hf ρ μ B w kv es.toList hR hk hks)
            have rk : relL ρ μ [k] [kv] := ⟨hk, trivial⟩
            have rv : relL ρ μ [v] [vv] := ⟨hv, trivial⟩
            obtain ⟨hB, hR2⟩ := hR.setObj ho hb (v := .mapO (ks ++ [k]) (vs ++ [v])) (ob := .map (es.push { key := kv, val := vv, born := clock }) (clock + 1)) ⟨by simpa using hks.append rk, by simpa using hvs.append rv⟩
            refine ⟨_, ?_, hR2, Below.setObj hB _⟩
            simp [Instr.mapUpdate, run_underlying hmt, MapKept.run_getObj_map hh, run_checkKey_simple hd hs, hf2, MapKept.run_setObj_map _ hh]
          | some i =>
            simp only [Option.map_some, Nat.zero_add] at h1
            cases hk' : ks[i]? with
            | none => rw [hk'] at h1; cases h1
            | some k' =>
              rw [hk'] at h1
              dsimp only at h1
              cases hsm : sameAV k k' with
              | false => rw [hsm] at h1; cases h1
              | true =>
                rw [hsm, cond_true] at h1
                obtain rfl := sameAV_eq _ _ hsm
                simp only [AM.run_ret, AM.run_fail, AM.run_load, AM.run_store, AM.run_alloc, AM.run_sub, AM.run_call, AM.run_here, AM.run_drop, AM.run_renew, ho] at h1
                dsimp only [AV.isU8] at h1
                rw [Bool.false_and, cond_false] at h1
                refine ⟨_, _, h1, fun ρ μ B w mv kv vv hR hm hk hv => ?_⟩
                obtain ⟨b, hb, rfl⟩ := hm
                obtain ⟨es, clock, hh, hks, hvs⟩ := hR.mapAt ho hb
                obtain ⟨e, he, hr⟩ := hks.get' hk'
                have hf2 := run_findKey_ok hd (hf ρ μ B w kv es.toList hR hk hks)
                rw [find_get he] at hf2
                have he2 : es[i]? = some e := by simpa using he
                obtain ⟨kr, w1, q1, q2, q3⟩ := run_keeps (P := P) (a := e.key) (b := kv) w
                have hkr : rel ρ μ k kr := by rcases q2 with rfl | rfl; exact hr; exact hk
                have hw1 : w1.heap = w.heap := by rcases q3 with rfl | rfl <;> rfl
                have hR1 : R ρ μ B H w1 := by rcases q3 with rfl | rfl; exact hR; exact hR.drew
                have hb1 : Below B w w1 := by rcases q3 with rfl | rfl; exact Below.refl _ _; exact (Below.refl _ _).drew
                have hh1 : w1.heap[b]? = some (.map es clock) := by rw [hw1]; exact hh
                obtain ⟨hB, hR2⟩ := hR1.setObj ho hb (v := .mapO ks (vs.set i v)) (ob := .map (es.modify i fun e => { e with key := kr, val := vv }) clock) ⟨by rw [modify_keys]; exact hks.modK (ks := ks) hk' (fun _ => hkr), by rw [modify_keys]; exact hvs.modV (fun _ => hv)⟩
                refine ⟨_, ?_, hR2, hb1.trans (Below.setObj hB _)⟩
                simp [Instr.mapUpdate, run_underlying hmt, MapKept.run_getObj_map hh, run_checkKey_simple hd hs, hf2, he2, q1, MapKept.run_setObj_map _ hh1]
    · cases h
  · cases h
theorem aMapDel_run {mt t2 : TypeId} {m k : AV} {K : AM} {H : Mem} {n : Nat} {acc : List Tok} {r : Out × Mem × Nat × List Tok} (h : (aMapDel P mt m k K).run H n acc = some r) :
    ∃ H1 acc1, K.run H1 n acc1 = some r ∧ ∀ (ρ : Val) (μ : Names) (B : Nat) (w : World) (mv kv : Value) (ty : TypeId), R ρ μ B H w → rel ρ μ m mv → rel ρ μ k kv → ∃ w1, (Builtin.delete_ #[mt, t2] ty #[mv, kv]).run P w = .ok (.tuple #[]) w1 ∧ R ρ μ B H1 w1 ∧ Below B w w1 := by
  unfold aMapDel at h
  split at h
  · rename_i kt et hmt
    split at h
    · rename_i d hd
      cases hs : simpleKey d with
      | false => rw [hs] at h; cases h
      | true =>
        rw [hs, cond_true] at h
        split at h
        · refine ⟨H, acc, h, fun ρ μ B w mv kv ty hR hm hk => ?_⟩
          simp only [rel] at hm
          subst hm
          refine ⟨w, ?_, hR, Below.refl _ _⟩
          simp [Builtin.delete_, run_underlying hmt, run_checkKey_simple hd hs]
        · rename_i id
          simp only [AM.run_ret, AM.run_fail, AM.run_load, AM.run_store, AM.run_alloc, AM.run_sub, AM.run_call, AM.run_here, AM.run_drop, AM.run_renew] at h
          cases ho : H.at id 0 with
          | none => rw [ho] at h; cases h
          | some o =>
            rw [ho] at h
            dsimp only at h
            cases o <;> dsimp only at h <;> try (cases h; done)
            rename_i ks vs
            rw [findX_eq] at h
            obtain ⟨res, acc1, h1, hlt, hf⟩ := findA_run ks 0 _ h
            cases res with
            | none =>
              simp only [Option.map_none, snocA_eq, AM.run_ret, AM.run_fail, AM.run_load, AM.run_store, AM.run_alloc, AM.run_sub, AM.run_call, AM.run_here, AM.run_drop, AM.run_renew, ho] at h1
              dsimp only [AV.isU8] at h1
              rw [Bool.false_and, cond_false] at h1
              refine ⟨_, _, h1, fun ρ μ B w mv kv ty hR hm hk => ?_⟩
              obtain ⟨b, hb, rfl⟩ := hm
              obtain ⟨es, clock, hh, hks, hvs⟩ := hR.mapAt ho hb
              have hf2 := run_findKey_ok hd (hf ρ μ B w kv es.toList hR hk hks)
              obtain ⟨hB, hR2⟩ := hR.setObj ho hb (v := .mapO ks vs) (ob := .map es clock) ⟨hks, hvs⟩
              refine ⟨_, ?_, hR2, Below.setObj hB _⟩
              simp [Builtin.delete_, run_underlying hmt, MapKept.run_getObj_map hh, run_checkKey_simple hd hs, hf2, MapKept.run_setObj_map _ hh]
            | some i =>
              simp only [Option.map_some, Nat.zero_add, AM.run_ret, AM.run_fail, AM.run_load, AM.run_store, AM.run_alloc, AM.run_sub, AM.run_call, AM.run_here, AM.run_drop, AM.run_renew, ho] at h1
              dsimp only [AV.isU8] at h1
              rw [Bool.false_and, cond_false] at h1
              refine ⟨_, _, h1, fun ρ μ B w mv kv ty hR hm hk => ?_⟩
              obtain ⟨b, hb, rfl⟩ := hm
              obtain ⟨es, clock, hh, hks, hvs⟩ := hR.mapAt ho hb
              have hi := hlt i rfl
              obtain ⟨e, he, hr⟩ := hks.get' (List.getElem?_eq_getElem hi)
              have hf2 := run_findKey_ok hd (hf ρ μ B w kv es.toList hR hk hks)
              rw [find_get he] at hf2
              obtain ⟨hB, hR2⟩ := hR.setObj ho hb (v := .mapO (ks.eraseIdx i) (vs.eraseIdx i)) (ob := .map (es.eraseIdxIfInBounds i) clock) ⟨by
                have := hks.erase (i := i)
                rw [Array.toList_eraseIdxIfInBounds]; exact this, by
                have := hvs.erase (i := i)
                rw [Array.toList_eraseIdxIfInBounds]; exact this⟩
              refine ⟨_, ?_, hR2, Below.setObj hB _⟩
              simp [Builtin.delete_, run_underlying hmt, MapKept.run_getObj_map hh, run_checkKey_simple hd hs, hf2, MapKept.run_setObj_map _ hh]
        · cases h
    · cases h
  · cases h
theorem aMapLen_run {t : TypeId} {m : AV} {K : AV → AM} {H : Mem} {n : Nat} {acc : List Tok} {r : Out × Mem × Nat × List Tok} (h : (aMapLen P t m K).run H n acc = some r) :
    ∃ v acc1, (K v).run H n acc1 = some r ∧ ∀ (ρ : Val) (μ : Names) (B : Nat) (w : World) (mv : Value) (ats : Array TypeId) (ty : TypeId), ats[0]? = some t → R ρ μ B H w → rel ρ μ m mv → ∃ z, (Builtin.len_ ats ty #[mv]).run P w = .ok z w ∧ rel ρ μ v z := by
  unfold aMapLen at h
  simp only [natK_eq, lenL_eq] at h
  split at h
  · rename_i kt et id ht
    simp only [AM.run_ret, AM.run_fail, AM.run_load, AM.run_store, AM.run_alloc, AM.run_sub, AM.run_call, AM.run_here, AM.run_drop, AM.run_renew] at h
    cases ho : H.at id 0 with
    | none => rw [ho] at h; cases h
    | some o =>
      rw [ho] at h
      dsimp only at h
      cases o <;> dsimp only at h <;> try (cases h; done)
      rename_i ks vs
      refine ⟨_, _, h, fun ρ μ B w mv ats ty hat hR hm => ?_⟩
      obtain ⟨b, hb, rfl⟩ := hm
      obtain ⟨es, clock, hh, hks, hvs⟩ := hR.mapAt ho hb
      refine ⟨goInt es.size, ?_, ?_⟩
      · simp [Builtin.len_, hat, run_underlying ht, MapKept.run_getObj_map hh]
      · have := hks.length
        simp at this
        simp only [rel, SI.den, goInt, this, Int.ofNat_eq_natCast]
  · cases h
end
end
end Go.Proofs.YtdoegipkfjndbaaGreatDoor.Ev
namespace Go.Proofs.YtdoegipkfjndbaaGreatDoor.Ev
set_option linter.unusedVariables false
set_option linter.unusedSimpArgs false
noncomputable section
open Go.RowKit
section
variable (P : Program)
def aRange (t : TypeId) (x : AV) (K : AV → AM) : AM :=
  match P.underlying t, x with
  | some .string, .str l => .alloc [.iterO l 0] fun i => K (.objP i)
  | _, _ => .fail 91
def aNext (x : AV) (K : AV → AM) : AM :=
  match x with
  | .objP id => .load id 0 fun o => match o with
    | .iterO l pos => match l[pos]? with
      | none => K (.tuple [.bool (.lit false)])
      | some b => bif Nat.blt b 128 then .store id 0 (.iterO l (pos + 1)) (K (.tuple [.bool (.lit true), .int .i64 (.lit (.ofNat pos)), .int .i32 (.lit (.ofNat b))])) else .fail 92
    | _ => .fail 92
  | _ => .fail 92
end
section
variable {P : Program}
theorem aRange_run {t : TypeId} {x : AV} {K : AV → AM} {H : Mem} {n : Nat} {acc : List Tok} {r : Out × Mem × Nat × List Tok} (h : (aRange P t x K).run H n acc = some r) :
    ∃ v H1 n1 acc1, (K v).run H1 n1 acc1 = some r ∧ n ≤ n1 ∧ ∀ (ρ : Val) (μ : Names) (B : Nat) (w : World) (xv : Value), R ρ μ B H w → B ≤ w.heap.size → (∀ i, n ≤ i → i < n1 → μ.get i = none) → rel ρ μ x xv →
      SemOk P B μ w n v H1 n1 ρ (Instr.range t xv) := by
  unfold aRange at h
  split at h
  · rename_i l ht
    simp only [AM.run_ret, AM.run_fail, AM.run_load, AM.run_store, AM.run_alloc, AM.run_sub, AM.run_call, AM.run_here, AM.run_drop, AM.run_renew] at h
    refine ⟨.objP n, H.new n [.iterO l 0], n + 1, acc, h, by omega, fun ρ μ B w xv hR hB hf hx => ?_⟩
    obtain ⟨hl, rfl⟩ := hx
    have hn := hf n (Nat.le_refl _) (by omega)
    have hR2 := hR.allocObj hB hn (v := .iterO l 0) (ob := .stringIter (bytesOf l) 0) ⟨hl, rfl, rfl⟩
    refine ⟨.pointer (some ⟨w.heap.size, 0, none⟩), μ.add n (.obj w.heap.size), _, ?_, ⟨w.heap.size, Names.add_new _ _ _, rfl⟩, ⟨Names.le_add hn _, fun i hi => Names.add_ne _ _ (by omega)⟩, hR2, (Below.refl _ _).alloc hB _⟩
    simp [Instr.range, run_underlying ht]
  · cases h
theorem bytesOf_get {l : List Nat} {i b : Nat} (h : l[i]? = some b) (hs : small l) : (bytesOf l).get! i = UInt8.ofNat b := by
  obtain ⟨hlt, hget⟩ := List.getElem?_eq_some_iff.1 h
  show (bytesOf l).data[i]! = _
  simp [bytesOf, hlt, hget]
theorem aNext_run {x : AV} {K : AV → AM} {H : Mem} {n : Nat} {acc : List Tok} {r : Out × Mem × Nat × List Tok} (h : (aNext x K).run H n acc = some r) :
    ∃ v H1 acc1, (K v).run H1 n acc1 = some r ∧ ∀ (ρ : Val) (μ : Names) (B : Nat) (w : World) (xv : Value) (ty : TypeId), R ρ μ B H w → B ≤ w.heap.size → rel ρ μ x xv →
      SemOk P B μ w n v H1 n ρ (Instr.next xv true ty) := by
  unfold aNext at h
  split at h
  · rename_i id
    simp only [AM.run_ret, AM.run_fail, AM.run_load, AM.run_store, AM.run_alloc, AM.run_sub, AM.run_call, AM.run_here, AM.run_drop, AM.run_renew] at h
    cases ho : H.at id 0 with
    | none => rw [ho] at h; cases h
    | some o =>
      rw [ho] at h
      dsimp only at h
      cases o <;> dsimp only at h <;> try (cases h; done)
      rename_i l pos
      have world : ∀ {ρ : Val} {μ : Names} {B : Nat} {w : World} {b : Nat}, R ρ μ B H w → μ.get id = some (.obj b) → w.heap[b]? = some (.stringIter (bytesOf l) pos) ∧ small l := fun {ρ μ B w b} hR hb => by
        obtain ⟨p, e, c⟩ := hR.at' id 0 _ ho
        rw [hb] at e
        obtain rfl := Option.some.inj e
        rcases c with ⟨_, _, _, e, _⟩ | ⟨b', ob, e, _, _, hh, hr⟩
        · cases e
        · cases e
          cases ob <;> simp only [relObj] at hr
          obtain ⟨q1, q2, q3⟩ := hr
          subst q2 q3
          exact ⟨hh, q1⟩
      cases hl : l[pos]? with
      | none =>
        rw [hl] at h
        refine ⟨_, H, _, h, fun ρ μ B w xv ty hR hB hx => ?_⟩
        obtain ⟨b, hb, rfl⟩ := hx
        obtain ⟨hh, hs⟩ := world hR hb
        refine ⟨.tuple #[.bool false], μ, w, ?_, ⟨[.bool false], rfl, rfl, trivial⟩, Step.refl _ _ _, hR, Below.refl _ _⟩
        have hge : ¬ pos < l.length := by
          intro hlt
          rw [List.getElem?_eq_getElem hlt] at hl
          cases hl
        have hg : (getObj b).run P w = .ok (.stringIter (bytesOf l) pos) w := by simp [getObj, Sem.run, hh]
        simp [Instr.next, hg, bytesOf_size, hge]
      | some c =>
        rw [hl] at h
        dsimp only at h
        cases hc : Nat.blt c 128 with
        | false => rw [hc] at h; cases h
        | true =>
          rw [hc, cond_true] at h
          rw [blt_iff] at hc
          simp only [AM.run_ret, AM.run_fail, AM.run_load, AM.run_store, AM.run_alloc, AM.run_sub, AM.run_call, AM.run_here, AM.run_drop, AM.run_renew, ho] at h
          dsimp only [AV.isU8] at h
          rw [Bool.false_and, cond_false] at h
          refine ⟨_, _, _, h, fun ρ μ B w xv ty hR hB hx => ?_⟩
          obtain ⟨b, hb, rfl⟩ := hx
          obtain ⟨hh, hs⟩ := world hR hb
          obtain ⟨hBb, hR2⟩ := hR.setObj ho hb (v := .iterO l (pos + 1)) (ob := .stringIter (bytesOf l) (pos + 1)) ⟨hs, rfl, rfl⟩
          refine ⟨.tuple #[.bool true, goInt pos, .int .i32 c], μ, _, ?_, ⟨[.bool true, goInt pos, .int .i32 c], rfl, rfl, rfl, rfl, trivial⟩, Step.refl _ _ _, hR2, Below.setObj hBb _⟩
          have hlt : pos < l.length := (List.getElem?_eq_some_iff.1 hl).1
          have hg : (getObj b).run P w = .ok (.stringIter (bytesOf l) pos) w := by simp [getObj, Sem.run, hh]
          have hst : ∀ o, (setObj b o).run P w = .ok () { w with heap := w.heap.setIfInBounds b o } := fun o => by simp [setObj, Sem.run, hh]
          have hd : Utf8.decode (bytesOf l) pos = (c, 1) := by
            unfold Utf8.decode
            have h0 : ((bytesOf l).get! (pos + 0)).toNat = c := by
              rw [Nat.add_zero, bytesOf_get hl hs]
              simp
              omega
            simp only [h0]
            rw [if_pos (show c < 0x80 from hc)]
          simp [Instr.next, hg, bytesOf_size, hlt, hd, hst]
  · cases h
end
end
end Go.Proofs.YtdoegipkfjndbaaGreatDoor.Ev
namespace Go.Proofs.YtdoegipkfjndbaaGreatDoor.Ev
set_option linter.unusedVariables false
set_option linter.unusedSimpArgs false
noncomputable section
open Go.RowKit
section
variable (P : Program)
def aMax : AV → AV → Option AV
  | .int k (.lit x), .int _ (.lit y) => some (.int k (.lit (bif ltF x y then y else x)))
  | _, _ => none
def aMin : AV → AV → Option AV
  | .int k (.lit x), .int _ (.lit y) => some (.int k (.lit (bif ltF y x then y else x)))
  | _, _ => none
def aBuiltin (b : Builtin) (ats : List TypeId) (args : List AV) (k : AV → AM) : AM :=
  match b, ats, args with
  | .append, [t, u], [x, y] => aAppend P t u x y k
  | .copy, [t, _], [x, y] => aCopy P t x y k
  | .delete, [t, _], [x, y] => aMapDel P t x y (k (.tuple []))
  | .len, [t], [x] => aMapLen P t x k
  | .max, _, [x, y] => match aMax x y with
    | some v => k v
    | none => .fail 8
  | .min, _, [x, y] => match aMin x y with
    | some v => k v
    | none => .fail 8
  | _, _, _ => .fail 8
def hintOk (T : Sl) : Option Operand → Bool
  | none => true
  | some x => match val T x with
    | some (.int ..) => true
    | _ => false
def aPtrEq (op : BinOp) (t : TypeId) (x y : AV) (k : AV → AM) (e : AM) : AM :=
  match op, x, y with
  | .eql, .ptr i o, .ptr j p => eqA P t (.ptr i o) (.ptr j p) fun b => k (.bool (.lit b))
  | .neq, .ptr i o, .ptr j p => eqA P t (.ptr i o) (.ptr j p) fun b => k (.bool (.lit (!b)))
  | _, _, _ => e
def aMost (A : Ass) (T : Sl) (o : Oper) (k : AV → AM) : AM :=
  match o.op with
  | .call c => match c.callee with
    | .builtin b => match vals T c.args.toList with
      | some l => aBuiltin P b c.argTypes.toList l k
      | none => .fail 8
    | _ => .fail 8
  | .convert s d x => match val T x with
    | some a => aConvM P s d a k
    | none => .fail 907
  | .makeMap t r => match P.underlying t with
    | some (.map _ _) => bif hintOk T r then .alloc [.mapO [] []] fun i => k (.mapP i) else .fail 910
    | _ => .fail 910
  | .lookup t m i ok => match val T m, val T i with
    | some a, some b => aLookup P A t a b ok k
    | _, _ => .fail 917
  | .mapUpdate t m i x => match val T m, val T i, val T x with
    | some a, some b, some c => aMapSet P t a b c (k .any)
    | _, _, _ => .fail 918
  | .insert t m i x => match val T m, val T i, val T x with
    | some a, some b, some c => aMapSet P t a b c (k .any)
    | _, _, _ => .fail 932
  | .range t x => match val T x with
    | some a => aRange P t a k
    | none => .fail 921
  | .next x true => match val T x with
    | some a => aNext a k
    | none => .fail 922
  | .binOp op t x y _ => match val T x, val T y with
    | some a, some b => aPtrEq P op t a b k (aMore P A T o k)
    | _, _ => .fail 905
  | .buildSlice t len ps => bif Nat.beq len 0 && Nat.beq ps.size 0 then (match P.underlying t with
      | some (.slice e) => match P.info? e with
        | some _ => .alloc [] fun i => k (.slice i 0 0 0)
        | none => .fail 62
      | _ => .fail 62) else aMore P A T o k
  | _ => aMore P A T o k
end
section
variable {P : Program} {A : Ass}
theorem vals_cases {T : Sl} {l : List Operand} {m : List AV} (h : vals T l = some m) {ρ : Val} {μ : Names} {N : Nat} {a : Act} (hT : TRel ρ μ N T a) : relL ρ μ m (l.map a.eval) := vals_rel hT h
theorem aMost_run {B N : Nat} {T : Sl} {o : Oper} {k : AV → AM} {H : Mem} {n : Nat} {acc : List Tok} {r : Out × Mem × Nat × List Tok} (h : (aMost P A T o k).run H n acc = some r) :
    ∃ v H1 n1 acc1, (k v).run H1 n1 acc1 = some r ∧ OpOk P A B N o T H n v H1 n1 := by
  unfold aMost at h
  split at h
  · rename_i c ho
    split at h
    · rename_i b hc
      split at h
      · rename_i l hl
        have exec : ∀ (a : Act) (w w1 : World) (xs : List Value) (z : Value), c.args.toList.map a.eval = xs → (builtin b c.argTypes o.type (c.args.map fun | .const _ => true | _ => false) xs.toArray).run P w = .ok (.value z) w1 → (execOp a.eval o).run P w = .ok (.value z) w1 := fun a w w1 xs z hxs hrun => by
          have hargs : c.args.map a.eval = xs.toArray := by
            apply Array.ext'
            simp [← hxs]
          unfold execOp
          rw [ho]
          simp only [resolve, hc, Sem.run_bind, Sem.run_pure, Result.andThen_ok, invoke, hargs]
          exact hrun
        unfold aBuiltin at h
        split at h
        · rename_i t u x y hat
          obtain ⟨v, H1, n1, acc1, h1, hn, ok⟩ := aAppend_run h
          refine ⟨v, H1, n1, acc1, h1, hn, fun ρ μ a w hA hT hR hB hf rb K Q hK => ?_⟩
          have hr := vals_rel hT hl
          have hat2 : c.argTypes = #[t, u] := by have := congrArg List.toArray hat; simpa using this
          cases hm : c.args.toList.map a.eval with
          | nil => rw [hm] at hr; exact hr.elim
          | cons x1 l1 =>
            cases l1 with
            | nil => rw [hm] at hr; exact hr.2.elim
            | cons x2 l2 =>
              cases l2 with
              | cons x3 l3 => rw [hm] at hr; exact hr.2.2.elim
              | nil =>
                rw [hm] at hr
                refine (ok ρ μ B w x1 x2 o.type hR hB hf hr.1 hr.2.1).op (fun w1 z e => exec a w w1 _ z hm ?_) hK
                rw [hat2]
                simp only [builtin, Sem.run_bind, e, Result.andThen_ok, Sem.run_pure]
        · rename_i t u x y hat
          obtain ⟨v, H1, acc1, h1, ok⟩ := aCopy_run (u := u) h
          refine ⟨v, H1, n, acc1, h1, Nat.le_refl _, fun ρ μ a w hA hT hR hB hf rb K Q hK => ?_⟩
          have hr := vals_rel hT hl
          have hat2 : c.argTypes = #[t, u] := by have := congrArg List.toArray hat; simpa using this
          cases hm : c.args.toList.map a.eval with
          | nil => rw [hm] at hr; exact hr.elim
          | cons x1 l1 =>
            cases l1 with
            | nil => rw [hm] at hr; exact hr.2.elim
            | cons x2 l2 =>
              cases l2 with
              | cons x3 l3 => rw [hm] at hr; exact hr.2.2.elim
              | nil =>
                rw [hm] at hr
                refine (ok ρ μ B w x1 x2 o.type hR hB hr.1 hr.2.1).op (fun w1 z e => exec a w w1 _ z hm ?_) hK
                rw [hat2]
                simp only [builtin, Sem.run_bind, e, Result.andThen_ok, Sem.run_pure]
        · rename_i t u x y hat
          obtain ⟨H1, acc1, h1, ok⟩ := aMapDel_run (t2 := u) h
          refine ⟨_, H1, n, acc1, h1, Nat.le_refl _, fun ρ μ a w hA hT hR hB hf rb K Q hK => ?_⟩
          have hr := vals_rel hT hl
          have hat2 : c.argTypes = #[t, u] := by have := congrArg List.toArray hat; simpa using this
          cases hm : c.args.toList.map a.eval with
          | nil => rw [hm] at hr; exact hr.elim
          | cons x1 l1 =>
            cases l1 with
            | nil => rw [hm] at hr; exact hr.2.elim
            | cons x2 l2 =>
              cases l2 with
              | cons x3 l3 => rw [hm] at hr; exact hr.2.2.elim
              | nil =>
                rw [hm] at hr
                obtain ⟨w1, e, q1, q2⟩ := ok ρ μ B w x1 x2 o.type hR hr.1 hr.2.1
                refine wp_value (x := .tuple #[]) (w1 := w1) (exec a w w1 _ _ hm ?_) (hK _ μ w1 ⟨[], rfl, trivial⟩ (Step.refl _ _ _) q1 q2)
                rw [hat2]
                simp only [builtin, Sem.run_bind, e, Result.andThen_ok, Sem.run_pure]
        · rename_i t x hat
          obtain ⟨v, acc1, h1, ok⟩ := aMapLen_run h
          refine ⟨v, H, n, acc1, h1, Nat.le_refl _, fun ρ μ a w hA hT hR hB hf rb K Q hK => ?_⟩
          have hr := vals_rel hT hl
          have hat2 : c.argTypes = #[t] := by have := congrArg List.toArray hat; simpa using this
          cases hm : c.args.toList.map a.eval with
          | nil => rw [hm] at hr; exact hr.elim
          | cons x1 l1 =>
            cases l1 with
            | cons x2 l2 => rw [hm] at hr; exact hr.2.elim
            | nil =>
              rw [hm] at hr
              obtain ⟨z, e, q1⟩ := ok ρ μ B w x1 c.argTypes o.type (by rw [hat2]; rfl) hR hr.1
              refine wp_value (x := z) (w1 := w) (exec a w w _ _ hm ?_) (hK _ μ w q1 (Step.refl _ _ _) hR (Below.refl _ _))
              simp only [builtin, Sem.run_bind, e, Result.andThen_ok, Sem.run_pure]
        · rename_i b' ats x y
          split at h
          · rename_i v hv
            refine ⟨v, H, n, acc, h, Nat.le_refl _, fun ρ μ a w hA hT hR hB hf rb K Q hK => ?_⟩
            have hr := vals_rel hT hl
            cases hm : c.args.toList.map a.eval with
            | nil => rw [hm] at hr; exact hr.elim
            | cons x1 l1 =>
              cases l1 with
              | nil => rw [hm] at hr; exact hr.2.elim
              | cons x2 l2 =>
                cases l2 with
                | cons x3 l3 => rw [hm] at hr; exact hr.2.2.elim
                | nil =>
                  rw [hm] at hr
                  unfold aMax at hv
                  split at hv
                  · rename_i k1 p k2 q
                    cases hv
                    have h1 := hr.1
                    have h2 := hr.2.1
                    simp only [rel, SI.den] at h1 h2
                    subst h1 h2
                    refine wp_value (x := .int k1 (if q > p then q else p)) (w1 := w) (exec a w w _ _ hm ?_) (hK _ μ w ?_ (Step.refl _ _ _) hR (Below.refl _ _))
                    · simp [builtin, Builtin.max_, Builtin.max2]
                    · simp only [rel, SI.den, ltF_eq]
                      by_cases hpq : p < q <;> simp [hpq]
                  · cases hv
          · cases h
        · rename_i b' ats x y
          split at h
          · rename_i v hv
            refine ⟨v, H, n, acc, h, Nat.le_refl _, fun ρ μ a w hA hT hR hB hf rb K Q hK => ?_⟩
            have hr := vals_rel hT hl
            cases hm : c.args.toList.map a.eval with
            | nil => rw [hm] at hr; exact hr.elim
            | cons x1 l1 =>
              cases l1 with
              | nil => rw [hm] at hr; exact hr.2.elim
              | cons x2 l2 =>
                cases l2 with
                | cons x3 l3 => rw [hm] at hr; exact hr.2.2.elim
                | nil =>
                  rw [hm] at hr
                  unfold aMin at hv
                  split at hv
                  · rename_i k1 p k2 q
                    cases hv
                    have h1 := hr.1
                    have h2 := hr.2.1
                    simp only [rel, SI.den] at h1 h2
                    subst h1 h2
                    refine wp_value (x := .int k1 (if q < p then q else p)) (w1 := w) (exec a w w _ _ hm ?_) (hK _ μ w ?_ (Step.refl _ _ _) hR (Below.refl _ _))
                    · simp [builtin, Builtin.min_, Builtin.min2]
                    · simp only [rel, SI.den, ltF_eq]
                      by_cases hpq : q < p <;> simp [hpq]
                  · cases hv
          · cases h
        · cases h
      · cases h
    · cases h
  · rename_i s d x ho
    split at h
    · rename_i p hx
      obtain ⟨v, H1, n1, acc1, h1, hn, ok⟩ := aConvM_run h
      refine ⟨v, H1, n1, acc1, h1, hn, fun ρ μ a w hA hT hR hB hf rb K Q hK => ?_⟩
      refine (ok ρ μ B w _ hR hB hf (val_rel hT hx)).op (fun w1 z e => ?_) hK
      unfold execOp
      rw [ho]
      simp only [Sem.run_bind, e, Result.andThen_ok, Sem.run_pure]
    · cases h
  · rename_i t hr ho
    split at h
    · rename_i kt et ht
      cases hb : hintOk T hr with
      | false => rw [hb] at h; cases h
      | true =>
        rw [hb, cond_true] at h
        simp only [AM.run_ret, AM.run_fail, AM.run_load, AM.run_store, AM.run_alloc, AM.run_sub, AM.run_call, AM.run_here, AM.run_drop, AM.run_renew] at h
        refine ⟨.mapP n, H.new n [.mapO [] []], n + 1, acc, h, by omega, fun ρ μ a w hA hT hR hB hf rb K Q hK => ?_⟩
        have hn := hf n (Nat.le_refl _) (by omega)
        have hR2 := hR.allocObj hB hn (v := .mapO [] []) (ob := .map #[] 0) ⟨trivial, trivial⟩
        refine wp_value (x := .map (some w.heap.size)) (w1 := w.alloc (.map #[] 0)) ?_ (hK _ (μ.add n (.obj w.heap.size)) _ ⟨w.heap.size, Names.add_new _ _ _, rfl⟩ ⟨Names.le_add hn _, fun i hi => Names.add_ne _ _ (by omega)⟩ hR2 ((Below.refl _ _).alloc hB _))
        unfold execOp
        rw [ho]
        cases hr with
        | none => simp [Instr.makeMap]
        | some x =>
          unfold hintOk at hb
          dsimp only at hb
          cases hv : val T x with
          | none => rw [hv] at hb; cases hb
          | some p =>
            rw [hv] at hb
            cases p <;> simp only [Bool.false_eq_true] at hb
            have := val_rel hT hv
            simp only [rel] at this
            simp [Instr.makeMap, run_underlying ht, this, asInt, asIntOf]
    · cases h
  · rename_i t m i ok ho
    split at h
    · rename_i p q hp hq
      obtain ⟨v, acc1, h1, hok⟩ := aLookup_run h
      refine ⟨v, H, n, acc1, h1, Nat.le_refl _, fun ρ μ a w hA hT hR hB hf rb K Q hK => ?_⟩
      obtain ⟨z, e, q1⟩ := hok ρ μ B w _ _ hA hR (val_rel hT hp) (val_rel hT hq)
      refine wp_value (x := z) (w1 := w) ?_ (hK _ μ w q1 (Step.refl _ _ _) hR (Below.refl _ _))
      unfold execOp
      rw [ho]
      simp only [Sem.run_bind, e, Result.andThen_ok, Sem.run_pure]
    · cases h
  · rename_i t m i x ho
    split at h
    · rename_i p q s hp hq hs
      obtain ⟨H1, acc1, h1, hok⟩ := aMapSet_run h
      refine ⟨_, H1, n, acc1, h1, Nat.le_refl _, fun ρ μ a w hA hT hR hB hf rb K Q hK => ?_⟩
      obtain ⟨w1, e, q1, q2⟩ := hok ρ μ B w _ _ _ hR (val_rel hT hp) (val_rel hT hq) (val_rel hT hs)
      refine wp_skip' (w1 := w1) ?_ (hK undef μ w1 trivial (Step.refl _ _ _) q1 q2)
      unfold execOp
      rw [ho]
      simp only [Sem.run_bind, e, Result.andThen_ok, Sem.run_pure]
    · cases h
  · rename_i t m i x ho
    split at h
    · rename_i p q s hp hq hs
      obtain ⟨H1, acc1, h1, hok⟩ := aMapSet_run h
      refine ⟨_, H1, n, acc1, h1, Nat.le_refl _, fun ρ μ a w hA hT hR hB hf rb K Q hK => ?_⟩
      obtain ⟨w1, e, q1, q2⟩ := hok ρ μ B w _ _ _ hR (val_rel hT hp) (val_rel hT hq) (val_rel hT hs)
      refine wp_skip' (w1 := w1) ?_ (hK undef μ w1 trivial (Step.refl _ _ _) q1 q2)
      unfold execOp
      rw [ho]
      simp only [Sem.run_bind, e, Result.andThen_ok, Sem.run_pure]
    · cases h
  · rename_i t x ho
    split at h
    · rename_i p hp
      obtain ⟨v, H1, n1, acc1, h1, hn, ok⟩ := aRange_run h
      refine ⟨v, H1, n1, acc1, h1, hn, fun ρ μ a w hA hT hR hB hf rb K Q hK => ?_⟩
      refine (ok ρ μ B w _ hR hB hf (val_rel hT hp)).op (fun w1 z e => ?_) hK
      unfold execOp
      rw [ho]
      simp only [Sem.run_bind, e, Result.andThen_ok, Sem.run_pure]
    · cases h
  · rename_i x ho
    split at h
    · rename_i p hp
      obtain ⟨v, H1, acc1, h1, ok⟩ := aNext_run (P := P) h
      refine ⟨v, H1, n, acc1, h1, Nat.le_refl _, fun ρ μ a w hA hT hR hB hf rb K Q hK => ?_⟩
      refine (ok ρ μ B w _ o.type hR hB (val_rel hT hp)).op (fun w1 z e => ?_) hK
      unfold execOp
      rw [ho]
      simp only [Sem.run_bind, e, Result.andThen_ok, Sem.run_pure]
    · cases h
  · rename_i op t x y ty ho
    split at h
    · rename_i p q hp hq
      unfold aPtrEq at h
      split at h
      · obtain ⟨b, acc1, h1, ok⟩ := eqA_run h
        refine ⟨_, H, n, acc1, h1, Nat.le_refl _, fun ρ μ a w hA hT hR hB hf rb K Q hK => ?_⟩
        have rx := val_rel hT hp
        have ry := val_rel hT hq
        have e := ok ρ μ B w _ _ hR rx ry
        obtain ⟨b1, f1, _, ex⟩ := rx
        obtain ⟨b2, f2, _, ey⟩ := ry
        refine wp_value (x := .bool b) (w1 := w) ?_ (hK _ μ w rfl (Step.refl _ _ _) hR (Below.refl _ _))
        rw [ex, ey] at e
        unfold execOp
        rw [ho]
        simp [ex, ey, eqGuard, binOp, e]
      · obtain ⟨b, acc1, h1, ok⟩ := eqA_run h
        refine ⟨_, H, n, acc1, h1, Nat.le_refl _, fun ρ μ a w hA hT hR hB hf rb K Q hK => ?_⟩
        have rx := val_rel hT hp
        have ry := val_rel hT hq
        have e := ok ρ μ B w _ _ hR rx ry
        obtain ⟨b1, f1, _, ex⟩ := rx
        obtain ⟨b2, f2, _, ey⟩ := ry
        refine wp_value (x := .bool (!b)) (w1 := w) ?_ (hK _ μ w rfl (Step.refl _ _ _) hR (Below.refl _ _))
        rw [ex, ey] at e
        unfold execOp
        rw [ho]
        simp [ex, ey, eqGuard, binOp, e]
      · exact aMore_run h
    · cases h
  · rename_i t len ps ho
    cases hb : (Nat.beq len 0 && Nat.beq ps.size 0) with
    | false => rw [hb, cond_false] at h; exact aMore_run h
    | true =>
      rw [hb, cond_true] at h
      rw [Bool.and_eq_true, Nat.beq_eq, Nat.beq_eq] at hb
      split at h
      · rename_i e ht
        split at h
        · rename_i ie hie
          simp only [AM.run_ret, AM.run_fail, AM.run_load, AM.run_store, AM.run_alloc, AM.run_sub, AM.run_call, AM.run_here, AM.run_drop, AM.run_renew] at h
          refine ⟨.slice n 0 0 0, H.new n [], n + 1, acc, h, by omega, fun ρ μ a w hA hT hR hB hf rb K Q hK => ?_⟩
          have hn := hf n (Nat.le_refl _) (by omega)
          have hR2 := hR.alloc hB hn (cs := []) (xs := []) trivial (fun x hx => by cases hx) e []
          refine wp_value (x := .slice (some ⟨w.heap.size, 0, none⟩) 0 0) (w1 := w.alloc (.cells #[] e)) ?_ (hK _ (μ.add n (.cells w.heap.size 0)) _ ⟨w.heap.size, 0, Names.cell_of (Names.add_new _ _ _) rfl, rfl⟩ ⟨Names.le_add hn _, fun i hi => Names.add_ne _ _ (by omega)⟩ (by simpa using hR2) ((Below.refl _ _).alloc hB _))
          have hps : ps = #[] := Array.eq_empty_of_size_eq_zero hb.2
          unfold execOp
          rw [ho, hb.1, hps]
          simp [Instr.buildSlice, run_underlying ht, sizeOf, typeInfo, hie, newRow, Instr.fill]
          congr 2
          apply Array.ext'
          simp
        · cases h
      · cases h
  · exact aMore_run h
end
end
end Go.Proofs.YtdoegipkfjndbaaGreatDoor.Ev
