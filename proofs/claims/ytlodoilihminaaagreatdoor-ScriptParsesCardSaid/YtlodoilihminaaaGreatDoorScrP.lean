/-
  Acts as data: which may be told, their texts, what a line is read as. Nothing of the program.
-/
import Derived.Test.YtlodoilihminaaaGreatDoorText
import Derived.Lib.AtoiAll
namespace Go.Proofs.YtlodoilihminaaaGreatDoor
set_option linter.unusedVariables false
set_option linter.unusedSimpArgs false
structure Ac where
  kind : Int
  name : List UInt8
  bytes : List Int
  names : List (List UInt8)
  mem : Int
  fuel : Int
def Ac.none : Ac := ⟨0, [], [], [], 0, 0⟩
def letB (c : Int) : Bool := decide ((65 ≤ c ∧ c ≤ 90) ∨ (97 ≤ c ∧ c ≤ 122))
def digB (c : Int) : Bool := decide (48 ≤ c ∧ c ≤ 57)
def fokB (c : UInt8) : Bool := letB (c.toNat : Int) || (digB (c.toNat : Int) || decide ((c.toNat : Int) = 46))
/-- may it be a file's name? -/
def fnB (l : List UInt8) : Bool := decide (1 ≤ l.length ∧ l.length ≤ 31) && (letB ((l.headD 0).toNat : Int) && l.all fokB)
def dotB (l : List UInt8) : Bool := l.any fun c => decide ((c.toNat : Int) = 46)
/-- a module's? -/
def modB (l : List UInt8) : Bool := fnB l && (decide (l.length ≤ 15) && !dotB l)
def numB (n : Int) : Bool := decide (0 ≤ n ∧ n ≤ 1099511627776)
def plnB (b : List Int) : Bool := b.all (fun c => decide (32 ≤ c ∧ c ≤ 126)) && decide (b.length ≤ 200)
def nmsB (l : List (List UInt8)) : Bool := l.all fnB && decide (1 ≤ l.length ∧ l.length ≤ 16)
def Ac.noB (a : Ac) : Bool := a.bytes.isEmpty
def Ac.noN (a : Ac) : Bool := a.names.isEmpty
def Ac.may (a : Ac) : Bool :=
  if a.kind = 1 then fnB a.name && (decide (a.bytes.length ≤ 65536) && (a.names.isEmpty && (decide (a.mem = 0) && decide (a.fuel = 0))))
  else if a.kind = 2 then fnB a.name && (plnB a.bytes && (a.names.isEmpty && (decide (a.mem = 0) && decide (a.fuel = 0))))
  else if a.kind = 3 ∨ a.kind = 4 then fnB a.name && (a.bytes.isEmpty && (a.names.isEmpty && (decide (a.mem = 0) && decide (a.fuel = 0))))
  else if a.kind = 5 then modB a.name && (a.bytes.isEmpty && (a.names.isEmpty && (numB a.mem && numB a.fuel)))
  else if a.kind = 6 then modB a.name && (a.bytes.isEmpty && (nmsB a.names && (decide (a.mem = 0) && numB a.fuel)))
  else if a.kind = 7 then a.name.isEmpty && (a.bytes.isEmpty && (a.names.isEmpty && (decide (a.mem = 0) && decide (a.fuel = 0))))
  else false
/-! ### texts -/
def wPut : List UInt8 := [112, 117, 116]
def wAdd : List UInt8 := [97, 100, 100]
def wDrop : List UInt8 := [100, 114, 111, 112]
def wBuild : List UInt8 := [98, 117, 105, 108, 100]
def wRun : List UInt8 := [114, 117, 110]
def wMean : List UInt8 := [109, 101, 97, 110]
def wOwn : List UInt8 := [111, 119, 110]
def actWs : List (List UInt8) := [wPut, wAdd, wDrop, wBuild, wRun, wMean, wOwn]
def chs (b : List Int) : List UInt8 := b.map fun c => UInt8.ofNat c.toNat
def hx2 (c : Int) : List UInt8 := [hexdig (c.toNat / 16), hexdig (c.toNat % 16)]
def hxT (b : List Int) : List UInt8 := if b.isEmpty then [45] else b.flatMap hx2
def bls (l : List (List UInt8)) : List UInt8 := l.flatMap fun n => 32 :: n
/-- an act's text -/
def Ac.txt (a : Ac) : List UInt8 :=
  if a.kind = 1 then wPut ++ (32 :: a.name ++ (32 :: hxT a.bytes))
  else if a.kind = 2 then wAdd ++ (32 :: a.name ++ (32 :: chs a.bytes))
  else if a.kind = 3 then wDrop ++ (32 :: a.name)
  else if a.kind = 4 then wBuild ++ (32 :: a.name)
  else if a.kind = 5 then wRun ++ (32 :: a.name ++ (32 :: Lib.itoa a.mem ++ (32 :: Lib.itoa a.fuel)))
  else if a.kind = 6 then wMean ++ (32 :: a.name ++ (32 :: Lib.itoa a.fuel ++ bls a.names))
  else wOwn
/-! ### reading -/
/-- ahead of the first blank -/
def c1 (l : List UInt8) : List UInt8 := l.takeWhile fun c => c != 32
/-- behind it -/
def c2 (l : List UInt8) : List UInt8 := (l.dropWhile fun c => c != 32).tail
theorem c1_app (a : List UInt8) (h : ∀ c ∈ a, c ≠ 32) (r : List UInt8) : c1 (a ++ 32 :: r) = a := by
  unfold c1
  rw [List.takeWhile_append_of_pos (by simpa using h)]
  simp
theorem c2_app (a : List UInt8) (h : ∀ c ∈ a, c ≠ 32) (r : List UInt8) : c2 (a ++ 32 :: r) = r := by
  unfold c2
  rw [List.dropWhile_append_of_pos (by simpa using h)]
  simp
theorem c1_all (a : List UInt8) (h : ∀ c ∈ a, c ≠ 32) : c1 a = a := by
  unfold c1
  have := List.takeWhile_append_of_pos (l₂ := []) (p := fun c : UInt8 => c != 32) (l₁ := a) (by simpa using h)
  simpa using this
theorem c2_all (a : List UInt8) (h : ∀ c ∈ a, c ≠ 32) : c2 a = [] := by
  unfold c2
  have := List.dropWhile_append_of_pos (l₂ := []) (p := fun c : UInt8 => c != 32) (l₁ := a) (by simpa using h)
  simp at this
  rw [this]; rfl
/-- all words -/
def spl : List UInt8 → List (List UInt8)
  | [] => [[]]
  | c :: l => if c = 32 then [] :: spl l else match spl l with
    | [] => [[c]]
    | w :: r => (c :: w) :: r
theorem spl_ne (l : List UInt8) : spl l ≠ [] := by
  cases l with
  | nil => simp [spl]
  | cons c l =>
    unfold spl
    split
    · simp
    · split <;> simp
theorem spl_word (a : List UInt8) (h : ∀ c ∈ a, c ≠ 32) : spl a = [a] := by
  induction a with
  | nil => rfl
  | cons c a ih =>
    unfold spl
    rw [if_neg (h c (by simp)), ih (fun c hc => h c (by simp [hc]))]
theorem spl_app (a : List UInt8) (h : ∀ c ∈ a, c ≠ 32) (r : List UInt8) : spl (a ++ 32 :: r) = a :: spl r := by
  induction a with
  | nil => show spl (32 :: r) = _; rw [spl, if_pos rfl]
  | cons c a ih =>
    rw [List.cons_append, spl, if_neg (h c (by simp)), ih (fun c hc => h c (by simp [hc]))]
theorem spl_bls (n : List UInt8) (l : List (List UInt8)) (h : ∀ x ∈ n :: l, ∀ c ∈ x, c ≠ 32) : spl (n ++ bls l) = n :: l := by
  induction l generalizing n with
  | nil => rw [show bls [] = [] from rfl, List.append_nil]; exact spl_word n (h n (by simp))
  | cons m l ih =>
    rw [show bls (m :: l) = 32 :: (m ++ bls l) from rfl, spl_app n (h n (by simp)), ih m (fun x hx => h x (by simp at hx ⊢; right; exact hx))]
/-- a hexadecimal digit's value; 0 of others -/
def hv (c : UInt8) : Nat := if 97 ≤ c.toNat ∧ c.toNat ≤ 102 then c.toNat - 87 else if 48 ≤ c.toNat ∧ c.toNat ≤ 57 then c.toNat - 48 else 0
def ofHx : List UInt8 → List Int
  | a :: b :: l => ((hv a * 16 + hv b : Nat) : Int) :: ofHx l
  | _ => []
def ofH (l : List UInt8) : List Int := if l = [45] then [] else ofHx l
theorem hv_hexdig (n : Nat) (h : n < 16) : hv (hexdig n) = n := by
  have : ∀ m : Fin 16, hv (hexdig m.val) = m.val := by decide
  exact this ⟨n, h⟩
theorem ofHx_hx (b : List Int) (h : ∀ x ∈ b, 0 ≤ x ∧ x < 256) : ofHx (b.flatMap hx2) = b := by
  induction b with
  | nil => rfl
  | cons c b ih =>
    obtain ⟨h0, h1⟩ := h c (by simp)
    rw [List.flatMap_cons]
    show ofHx (hexdig (c.toNat / 16) :: hexdig (c.toNat % 16) :: b.flatMap hx2) = _
    rw [ofHx, hv_hexdig _ (by omega), hv_hexdig _ (by omega), ih (fun x hx => h x (by simp [hx]))]
    congr 1
    omega
theorem ofH_hxT (b : List Int) (h : ∀ x ∈ b, 0 ≤ x ∧ x < 256) : ofH (hxT b) = b := by
  cases b with
  | nil => rfl
  | cons c b =>
    unfold hxT
    rw [if_neg (by simp)]
    unfold ofH
    rw [if_neg, ofHx_hx _ h]
    rw [List.flatMap_cons]
    intro e
    have := congrArg List.length e
    simp [hx2] at this
theorem not32 {c : UInt8} (h : c.toNat ≠ 32) : c ≠ 32 := fun e => h (by rw [e]; rfl)
theorem hexdig_ne (n : Nat) (h : n < 16) : hexdig n ≠ 32 := by
  have : ∀ m : Fin 16, hexdig m.val ≠ 32 := by decide
  exact this ⟨n, h⟩
theorem hxT_ne (b : List Int) (h : ∀ x ∈ b, 0 ≤ x ∧ x < 256) : ∀ c ∈ hxT b, c ≠ 32 := by
  unfold hxT
  intro c hc
  split at hc
  · rw [List.mem_singleton] at hc; rw [hc]; decide
  · obtain ⟨x, hx, hc⟩ := List.mem_flatMap.1 hc
    have := h x hx
    simp only [hx2, List.mem_cons, List.not_mem_nil, or_false] at hc
    rcases hc with rfl | rfl
    · exact hexdig_ne _ (by omega)
    · exact hexdig_ne _ (by omega)
theorem itoa_ne (v : Int) : ∀ c ∈ Lib.itoa v, c ≠ 32 := by
  intro c hc
  unfold Lib.itoa at hc
  split at hc
  · rw [List.mem_cons] at hc
    rcases hc with rfl | hc
    · decide
    · have := decDigits_dig _ c hc
      unfold isDig at this
      exact not32 (by omega)
  · have := decDigits_dig _ c hc
    unfold isDig at this
    exact not32 (by omega)
theorem fok_ne {c : UInt8} (h : fokB c = true) : c ≠ 32 := by
  rintro rfl
  revert h
  decide
theorem fn_ne {l : List UInt8} (h : fnB l = true) : ∀ c ∈ l, c ≠ 32 := by
  unfold fnB at h
  simp only [Bool.and_eq_true] at h
  intro c hc
  exact fok_ne (List.all_eq_true.1 h.2.2 c hc)
theorem mod_fn {l : List UInt8} (h : modB l = true) : fnB l = true := by
  unfold modB at h
  simp only [Bool.and_eq_true] at h
  exact h.1
theorem chs_chs (b : List Int) (h : ∀ x ∈ b, 0 ≤ x ∧ x < 256) : (chs b).map (fun c => (c.toNat : Int)) = b := by
  unfold chs
  rw [List.map_map]
  conv => rhs; rw [← List.map_id b]
  refine List.map_congr_left fun x hx => ?_
  have := h x hx
  simp
  omega
def kindOf (l : List UInt8) : Int := if actWs.idxOf l < 7 then (actWs.idxOf l : Int) + 1 else 0
/-- what a text's number is read as (the very number whose text it is; below 0: none) -/
def numOf (l : List UInt8) : Int := match Lib.atoiAll l with
  | .ok v => if Lib.itoa v = l then v else -1
  | _ => -1
theorem parse_app (a b : List UInt8) : ∀ acc, Lib.parseUint10 acc (a ++ b) = match Lib.parseUint10 acc a with | .ok v => Lib.parseUint10 v b | r => r := by
  induction a with
  | nil => intro acc; rfl
  | cons c a ih =>
    intro acc
    simp only [List.cons_append, Lib.parseUint10]
    split
    · split
      · rfl
      · split
        · rfl
        · exact ih _
    · rfl
theorem parse_one (acc d : Nat) (hd : d < 10) (h : acc * 10 + d < 9223372036854775808) : Lib.parseUint10 acc [UInt8.ofNat (48 + d)] = .ok (acc * 10 + d) := by
  simp only [Lib.parseUint10]
  rw [dig_nat d hd, if_pos ⟨by omega, by omega⟩, if_neg (by omega), if_neg (by omega)]
  congr 1
  omega
theorem parse_dec (u : Nat) (h : u < 9223372036854775808) : Lib.parseUint10 0 (Lib.decDigits u) = .ok u := by
  induction u using Nat.strongRecOn with
  | _ u ih =>
    rw [Lib.decDigits]
    split
    · rename_i h1
      rw [parse_one 0 u h1 (by omega)]
      congr 1
      omega
    · rename_i h1
      rw [parse_app, ih (u / 10) (by omega) (by omega)]
      show Lib.parseUint10 (u / 10) [UInt8.ofNat (48 + u % 10)] = _
      rw [parse_one (u / 10) (u % 10) (by omega) (by omega)]
      congr 1
      omega
theorem atoi_itoa (u : Nat) (h : u < 9223372036854775808) : Lib.atoiAll (Lib.itoa (u : Int)) = .ok (u : Int) := by
  have e : Lib.itoa (u : Int) = Lib.decDigits u := by unfold Lib.itoa; rw [if_neg (by omega)]; rfl
  rw [e]
  have hp := parse_dec u h
  have hd := decDigits_dig u
  have hl := decDigits_pos u
  cases hc : Lib.decDigits u with
  | nil => rw [hc] at hl; simp at hl
  | cons c r =>
    rw [hc] at hp hd
    have h0 := hd c (by simp)
    unfold isDig at h0
    unfold Lib.atoiAll
    simp only []
    rw [if_neg (by omega)]
    unfold Lib.parseMag
    rw [if_neg (by simp), hp]
    simp only []
    rw [if_neg (by omega), if_neg (by omega), if_neg (by omega)]
theorem numOf_itoa (v : Int) (h0 : 0 ≤ v) (h1 : v ≤ 1099511627776) : numOf (Lib.itoa v) = v := by
  obtain ⟨u, rfl⟩ : ∃ u : Nat, v = u := ⟨v.toNat, by omega⟩
  unfold numOf
  rw [atoi_itoa u (by omega)]
  simp only []
  rw [if_pos trivial]
/-- what a line is read as, by its words -/
def pC (s : List UInt8) : Ac :=
  if kindOf (c1 s) = 1 then ⟨1, c1 (c2 s), ofH (c1 (c2 (c2 s))), [], 0, 0⟩
  else if kindOf (c1 s) = 2 then ⟨2, c1 (c2 s), (c2 (c2 s)).map fun c => (c.toNat : Int), [], 0, 0⟩
  else if kindOf (c1 s) = 3 then ⟨3, c1 (c2 s), [], [], 0, 0⟩
  else if kindOf (c1 s) = 4 then ⟨4, c1 (c2 s), [], [], 0, 0⟩
  else if kindOf (c1 s) = 5 then ⟨5, c1 (c2 s), [], [], numOf (c1 (c2 (c2 s))), numOf (c1 (c2 (c2 (c2 s))))⟩
  else if kindOf (c1 s) = 6 then ⟨6, c1 (c2 s), [], spl (c2 (c2 (c2 s))), 0, numOf (c1 (c2 (c2 s)))⟩
  else if kindOf (c1 s) = 7 then ⟨7, [], [], [], 0, 0⟩
  else Ac.none
theorem may_kind {a : Ac} (h : a.may = true) : a.kind = 1 ∨ a.kind = 2 ∨ a.kind = 3 ∨ a.kind = 4 ∨ a.kind = 5 ∨ a.kind = 6 ∨ a.kind = 7 := by
  by_cases h' : a.kind = 1 ∨ a.kind = 2 ∨ a.kind = 3 ∨ a.kind = 4 ∨ a.kind = 5 ∨ a.kind = 6 ∨ a.kind = 7
  · exact h'
  · unfold Ac.may at h
    rw [if_neg (by omega), if_neg (by omega), if_neg (by omega), if_neg (by omega), if_neg (by omega), if_neg (by omega)] at h
    cases h
theorem nms_ne {l : List (List UInt8)} (h : nmsB l = true) : (∀ x ∈ l, fnB x = true) ∧ l ≠ [] := by
  unfold nmsB at h
  simp only [Bool.and_eq_true, decide_eq_true_eq] at h
  refine ⟨fun x hx => List.all_eq_true.1 h.1 x hx, ?_⟩
  rintro rfl
  have := h.2.1
  simp at this
theorem bytes_pC (s : List UInt8) : ∀ x ∈ (pC s).bytes, 0 ≤ x ∧ x < 256 := by
  have h1 : ∀ l : List UInt8, ∀ x ∈ ofHx l, 0 ≤ x ∧ x < 256 := by
    intro l
    induction l using ofHx.induct with
    | case1 a b l ih =>
      intro x hx
      rw [ofHx, List.mem_cons] at hx
      have hb : ∀ c : UInt8, hv c < 16 := fun c => by unfold hv; split <;> (try split) <;> omega
      have := hb a; have := hb b
      rcases hx with rfl | hx
      · omega
      · exact ih x hx
    | case2 l h =>
      intro x hx
      unfold ofHx at hx
      split at hx
      · exact absurd rfl (h _ _ _)
      · cases hx
  intro x hx
  unfold pC at hx
  split at hx
  · replace hx : x ∈ ofH (c1 (c2 (c2 s))) := hx
    unfold ofH at hx
    split at hx
    · cases hx
    · exact h1 _ x hx
  · split at hx
    · obtain ⟨c, -, rfl⟩ := List.mem_map.1 hx
      have := c.toNat_lt
      omega
    · repeat' split at hx
      all_goals cases hx
set_option maxHeartbeats 1000000 in
theorem pC_txt (a : Ac) (hm : a.may = true) (hb : ∀ x ∈ a.bytes, 0 ≤ x ∧ x < 256) : pC a.txt = a := by
  obtain ⟨k, n, b, ns, m, f⟩ := a
  replace hb : ∀ x ∈ b, 0 ≤ x ∧ x < 256 := hb
  have w1 : ∀ c ∈ wPut, c ≠ 32 := by decide
  have w2 : ∀ c ∈ wAdd, c ≠ 32 := by decide
  have w3 : ∀ c ∈ wDrop, c ≠ 32 := by decide
  have w4 : ∀ c ∈ wBuild, c ≠ 32 := by decide
  have w5 : ∀ c ∈ wRun, c ≠ 32 := by decide
  have w6 : ∀ c ∈ wMean, c ≠ 32 := by decide
  have w7 : ∀ c ∈ wOwn, c ≠ 32 := by decide
  have k1 : kindOf wPut = 1 := by decide
  have k2 : kindOf wAdd = 2 := by decide
  have k3 : kindOf wDrop = 3 := by decide
  have k4 : kindOf wBuild = 4 := by decide
  have k5 : kindOf wRun = 5 := by decide
  have k6 : kindOf wMean = 6 := by decide
  have k7 : kindOf wOwn = 7 := by decide
  rcases may_kind hm with h | h | h | h | h | h | h <;> replace h : k = _ := h <;> subst h
  · replace hm : (fnB n && (decide (b.length ≤ 65536) && (ns.isEmpty && (decide (m = 0) && decide (f = 0))))) = true := hm
    simp only [Bool.and_eq_true, decide_eq_true_eq, List.isEmpty_iff] at hm
    obtain ⟨hn, -, rfl, rfl, rfl⟩ := hm
    have e : (⟨1, n, b, [], 0, 0⟩ : Ac).txt = wPut ++ 32 :: (n ++ 32 :: hxT b) := rfl
    unfold pC
    rw [e, c1_app _ w1, c2_app _ w1, k1, if_pos rfl, c1_app _ (fn_ne hn), c2_app _ (fn_ne hn), c1_all _ (hxT_ne b hb), ofH_hxT b hb]
  · replace hm : (fnB n && (plnB b && (ns.isEmpty && (decide (m = 0) && decide (f = 0))))) = true := hm
    simp only [Bool.and_eq_true, decide_eq_true_eq, List.isEmpty_iff] at hm
    obtain ⟨hn, -, rfl, rfl, rfl⟩ := hm
    have e : (⟨2, n, b, [], 0, 0⟩ : Ac).txt = wAdd ++ 32 :: (n ++ 32 :: chs b) := rfl
    unfold pC
    rw [e, c1_app _ w2, c2_app _ w2, k2, if_neg (by decide), if_pos rfl, c1_app _ (fn_ne hn), c2_app _ (fn_ne hn), chs_chs b hb]
  · replace hm : (fnB n && (b.isEmpty && (ns.isEmpty && (decide (m = 0) && decide (f = 0))))) = true := hm
    simp only [Bool.and_eq_true, decide_eq_true_eq, List.isEmpty_iff] at hm
    obtain ⟨hn, rfl, rfl, rfl, rfl⟩ := hm
    have e : (⟨3, n, [], [], 0, 0⟩ : Ac).txt = wDrop ++ 32 :: n := rfl
    unfold pC
    rw [e, c1_app _ w3, c2_app _ w3, k3, if_neg (by decide), if_neg (by decide), if_pos rfl, c1_all _ (fn_ne hn)]
  · replace hm : (fnB n && (b.isEmpty && (ns.isEmpty && (decide (m = 0) && decide (f = 0))))) = true := hm
    simp only [Bool.and_eq_true, decide_eq_true_eq, List.isEmpty_iff] at hm
    obtain ⟨hn, rfl, rfl, rfl, rfl⟩ := hm
    have e : (⟨4, n, [], [], 0, 0⟩ : Ac).txt = wBuild ++ 32 :: n := rfl
    unfold pC
    rw [e, c1_app _ w4, c2_app _ w4, k4, if_neg (by decide), if_neg (by decide), if_neg (by decide), if_pos rfl, c1_all _ (fn_ne hn)]
  · replace hm : (modB n && (b.isEmpty && (ns.isEmpty && (numB m && numB f)))) = true := hm
    simp only [Bool.and_eq_true, decide_eq_true_eq, List.isEmpty_iff, numB] at hm
    obtain ⟨hn, rfl, rfl, ⟨m0, m1⟩, f0, f1⟩ := hm
    replace hn := mod_fn hn
    have e : (⟨5, n, [], [], m, f⟩ : Ac).txt = wRun ++ 32 :: (n ++ 32 :: (Lib.itoa m ++ 32 :: Lib.itoa f)) := rfl
    unfold pC
    rw [e, c1_app _ w5, c2_app _ w5, k5, if_neg (by decide), if_neg (by decide), if_neg (by decide), if_neg (by decide), if_pos rfl, c1_app _ (fn_ne hn), c2_app _ (fn_ne hn), c1_app _ (itoa_ne m), c2_app _ (itoa_ne m), c1_all _ (itoa_ne f), numOf_itoa m m0 m1, numOf_itoa f f0 f1]
  · replace hm : (modB n && (b.isEmpty && (nmsB ns && (decide (m = 0) && numB f)))) = true := hm
    simp only [Bool.and_eq_true, decide_eq_true_eq, List.isEmpty_iff, numB] at hm
    obtain ⟨hn, rfl, hns, rfl, f0, f1⟩ := hm
    replace hn := mod_fn hn
    obtain ⟨hx, hne⟩ := nms_ne hns
    obtain ⟨y, ys, rfl⟩ : ∃ y ys, ns = y :: ys := by cases ns with | nil => exact absurd rfl hne | cons y ys => exact ⟨y, ys, rfl⟩
    have e : (⟨6, n, [], y :: ys, 0, f⟩ : Ac).txt = wMean ++ 32 :: (n ++ 32 :: (Lib.itoa f ++ 32 :: (y ++ bls ys))) := rfl
    unfold pC
    rw [e, c1_app _ w6, c2_app _ w6, k6, if_neg (by decide), if_neg (by decide), if_neg (by decide), if_neg (by decide), if_neg (by decide), if_pos rfl, c1_app _ (fn_ne hn), c2_app _ (fn_ne hn), c1_app _ (itoa_ne f), c2_app _ (itoa_ne f), numOf_itoa f f0 f1, spl_bls y ys (fun x hx' => fn_ne (hx x hx'))]
  · replace hm : (n.isEmpty && (b.isEmpty && (ns.isEmpty && (decide (m = 0) && decide (f = 0))))) = true := hm
    simp only [Bool.and_eq_true, decide_eq_true_eq, List.isEmpty_iff] at hm
    obtain ⟨rfl, rfl, rfl, rfl, rfl⟩ := hm
    have e : (⟨7, [], [], [], 0, 0⟩ : Ac).txt = wOwn := rfl
    unfold pC
    rw [e, c1_all _ w7, k7, if_neg (by decide), if_neg (by decide), if_neg (by decide), if_neg (by decide), if_neg (by decide), if_neg (by decide), if_pos rfl]
end Go.Proofs.YtlodoilihminaaaGreatDoor
