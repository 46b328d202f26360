/- Part 6 of the texts that the statements of this seat lean on: mathematics, and what functions answer, as contracts over memory; each part says its own conditions. -/
import Derived.Test.YtjpoolddgocbbaaGreatDoorM5
import Derived.Deep.RegionWith
import Derived.Deep.RegionHeld3
import Derived.Deep.CutRange
/- Mathematics of literals: the longest one with which a text begins, its parts, its number. No condition. -/
namespace Go.Proofs.YtjpoolddgocbbaaGreatDoor.Limb
set_option linter.unusedVariables false

/-- With how many digits a text begins. -/
def litRun (l : List Nat) : Nat := (l.takeWhile isDig).length
/-- How long a point and its digits are. -/
def litPoint (l : List Nat) : Nat := if lim l 0 = 46 ∧ litRun (l.drop 1) ≠ 0 then 1 + litRun (l.drop 1) else 0
/-- Where an exponent's digits begin. -/
def litAt (l : List Nat) : Nat := if lim l 1 = 45 then 2 else 1
/-- How long an exponent is. -/
def litExp (l : List Nat) : Nat := if lim l 0 = 101 ∧ litRun (l.drop (litAt l)) ≠ 0 then litAt l + min (litRun (l.drop (litAt l))) 3 else 0
/-- The longest literal with which a text begins. -/
def litLen (l : List Nat) : Nat :=
  if litRun l = 0 then 0 else litRun l + litPoint (l.drop (litRun l)) + litExp (l.drop (litRun l + litPoint (l.drop (litRun l))))
/-- Is a text a literal? -/
def litGood (l : List Nat) : Bool := decide (1 ≤ l.length) && decide (l.length ≤ 400) && decide (litLen l = l.length)

/-- A point's part. -/
def litF : Option (List Nat) → List Nat
  | none => []
  | some p => 46 :: p
/-- A sign. -/
def litSg (s : Bool) : List Nat := if s = true then [45] else []
/-- An exponent's part. -/
def litX : Option (Bool × List Nat) → List Nat
  | none => []
  | some (s, d) => 101 :: (litSg s ++ d)
/-- What a literal is made of: digits; a point's digits; an exponent's sign and digits. -/
def litMk (w : List Nat) (f : Option (List Nat)) (x : Option (Bool × List Nat)) : List Nat := w ++ litF f ++ litX x
/-- Digits, at least one. -/
def Dig1 (l : List Nat) : Prop := allDig l = true ∧ l ≠ []
structure LitOk (w : List Nat) (f : Option (List Nat)) (x : Option (Bool × List Nat)) : Prop where
  whole : Dig1 w
  part : ∀ p, f = some p → Dig1 p
  exp : ∀ s d, x = some (s, d) → Dig1 d ∧ d.length ≤ 3
/-- What ends a literal, whatever it is. -/
def Ender (r : List Nat) : Prop := r = [] ∨ ∃ c t, r = c :: t ∧ isDig c = false ∧ c ≠ 46 ∧ c ≠ 101
/-- What ends a row of digits. -/
def Ends (r : List Nat) : Prop := r = [] ∨ ∃ c t, r = c :: t ∧ isDig c = false

theorem lim_cons0 (x : Nat) (l : List Nat) : lim (x :: l) 0 = x := rfl
theorem lim_nil (k : Nat) : lim [] k = 0 := by simp [lim]
theorem lim_drop0 (l : List Nat) (k : Nat) : lim (l.drop k) 0 = lim l k := by
  simp [lim, List.getD_eq_getElem?_getD]
theorem lim_drop1 (l : List Nat) (k j : Nat) : lim (l.drop k) j = lim l (k + j) := by
  simp [lim, List.getD_eq_getElem?_getD, List.getElem?_drop]
theorem run_ends {a r : List Nat} (ha : allDig a = true) (hr : Ends r) : (a ++ r).takeWhile isDig = a := by
  rw [List.takeWhile_append_of_pos (fun x hx => List.all_eq_true.1 ha x hx)]
  rcases hr with rfl | ⟨c, t, rfl, hc⟩
  · simp
  · rw [List.takeWhile_cons_of_neg (by simp [hc])]; simp
theorem litRun_ends {a r : List Nat} (ha : allDig a = true) (hr : Ends r) : litRun (a ++ r) = a.length := by rw [litRun, run_ends ha hr]
theorem Ender.ends {r : List Nat} (h : Ender r) : Ends r := h.imp id fun ⟨c, t, e, hc, _⟩ => ⟨c, t, e, hc⟩
theorem Dig1.pos {l : List Nat} (h : Dig1 l) : l.length ≠ 0 := fun e => h.2 (List.eq_nil_of_length_eq_zero e)
theorem Dig1.lim0 {l r : List Nat} (h : Dig1 l) : isDig (lim (l ++ r) 0) = true := by
  cases l with
  | nil => exact absurd rfl h.2
  | cons x l => exact List.all_eq_true.1 h.1 x (by simp)
theorem isDig_46 : isDig 46 = false := by decide
theorem isDig_101 : isDig 101 = false := by decide
theorem isDig_45 : isDig 45 = false := by decide

theorem litPoint_none {r : List Nat} (h : lim r 0 ≠ 46) : litPoint r = 0 := if_neg fun h2 => h h2.1
theorem litExp_none {r : List Nat} (h : lim r 0 ≠ 101) : litExp r = 0 := if_neg fun h2 => h h2.1
theorem Ender.lim {r : List Nat} (h : Ender r) : lim r 0 ≠ 46 ∧ lim r 0 ≠ 101 := by
  rcases h with rfl | ⟨c, t, rfl, _, h1, h2⟩
  · rw [lim_nil]; exact ⟨by decide, by decide⟩
  · exact ⟨h1, h2⟩
theorem litPoint_some {p r : List Nat} (hp : Dig1 p) (hr : Ends r) : litPoint (46 :: p ++ r) = 1 + p.length := by
  have e : litRun ((46 :: p ++ r).drop 1) = p.length := by
    show litRun (p ++ r) = _
    exact litRun_ends hp.1 hr
  unfold litPoint
  rw [e, if_pos ⟨rfl, hp.pos⟩]
theorem litExp_some {s : Bool} {d r : List Nat} (hd : Dig1 d) (hl : d.length ≤ 3) (hr : Ends r) : litExp (litX (some (s, d)) ++ r) = (litX (some (s, d))).length := by
  cases s with
  | true =>
    have ea : litAt (101 :: ([45] ++ d) ++ r) = 2 := if_pos rfl
    have e : litRun ((101 :: ([45] ++ d) ++ r).drop 2) = d.length := by
      show litRun (d ++ r) = _
      exact litRun_ends hd.1 hr
    show litExp (101 :: ([45] ++ d) ++ r) = d.length + 1 + 1
    unfold litExp
    rw [ea, e, if_pos ⟨rfl, hd.pos⟩, Nat.min_eq_left hl]
    omega
  | false =>
    have h0 : lim (101 :: ([] ++ d) ++ r) 1 ≠ 45 := by
      intro h
      have h2 := hd.lim0 (r := r)
      have h3 : lim (d ++ r) 0 = 45 := h
      rw [h3] at h2
      exact absurd h2 (by decide)
    have ea : litAt (101 :: ([] ++ d) ++ r) = 1 := if_neg h0
    have e : litRun ((101 :: ([] ++ d) ++ r).drop 1) = d.length := by
      show litRun (d ++ r) = _
      exact litRun_ends hd.1 hr
    show litExp (101 :: ([] ++ d) ++ r) = d.length + 1
    unfold litExp
    rw [ea, e, if_pos ⟨rfl, hd.pos⟩, Nat.min_eq_left hl]
    omega

/-- What is made of a literal's parts, and ended, is the longest one. -/
theorem litLen_mk {w : List Nat} {f : Option (List Nat)} {x : Option (Bool × List Nat)} {r : List Nat} (h : LitOk w f x) (hr : Ender r) : litLen (litMk w f x ++ r) = (litMk w f x).length := by
  have hXr : Ends (litX x ++ r) := by
    cases x with
    | none => exact hr.ends
    | some y => exact .inr ⟨101, _, rfl, isDig_101⟩
  have hX46 : lim (litX x ++ r) 0 ≠ 46 := by
    cases x with
    | none => exact hr.lim.1
    | some y => show (101 : Nat) ≠ 46; decide
  have hXl : litExp (litX x ++ r) = (litX x).length := by
    cases x with
    | none => exact litExp_none hr.lim.2
    | some y =>
      obtain ⟨s, d⟩ := y
      obtain ⟨h1, h2⟩ := h.exp s d rfl
      exact litExp_some h1 h2 hr.ends
  have hFr : Ends (litF f ++ (litX x ++ r)) := by
    cases f with
    | none => exact hXr
    | some p => exact .inr ⟨46, _, rfl, isDig_46⟩
  have hFl : litPoint (litF f ++ (litX x ++ r)) = (litF f).length := by
    cases f with
    | none => exact litPoint_none hX46
    | some p =>
      show litPoint (46 :: p ++ (litX x ++ r)) = p.length + 1
      rw [litPoint_some (h.part p rfl) hXr]; omega
  have e : litMk w f x ++ r = w ++ (litF f ++ (litX x ++ r)) := by unfold litMk; simp
  have e1 : litRun (w ++ (litF f ++ (litX x ++ r))) = w.length := litRun_ends h.whole.1 hFr
  rw [e]
  unfold litLen litMk
  rw [e1, if_neg h.whole.pos, List.drop_left, hFl]
  have e3 : (w ++ (litF f ++ (litX x ++ r))).drop (w.length + (litF f).length) = litX x ++ r := by
    rw [← List.drop_drop, List.drop_left, List.drop_left]
  rw [e3, hXl, List.length_append, List.length_append]

theorem litRun_le (l : List Nat) : litRun l ≤ l.length := (List.takeWhile_sublist _).length_le
theorem take_run (l : List Nat) : l.take (litRun l) = l.takeWhile isDig := (List.prefix_iff_eq_take.1 (List.takeWhile_prefix isDig)).symm
theorem allDig_run (l : List Nat) : allDig (l.takeWhile isDig) = true := by
  rw [allDig, List.all_eq_true]
  intro x hx
  have h := List.all_takeWhile (p := isDig) (l := l)
  exact List.all_eq_true.1 h x hx
theorem dig1_take {l : List Nat} {k : Nat} (h0 : litRun l ≠ 0) (hk : 0 < k) (hl : k ≤ litRun l) : Dig1 (l.take k) := by
  have e : l.take k = (l.takeWhile isDig).take k := by rw [← take_run, List.take_take, Nat.min_eq_left hl]
  rw [e]
  refine ⟨?_, ?_⟩
  · exact allDig_iff.2 fun x hx => allDig_iff.1 (allDig_run l) x (List.mem_of_mem_take hx)
  · intro h
    have h2 : min k (l.takeWhile isDig).length = 0 := by rw [← List.length_take, h]; rfl
    have h3 : litRun l = (l.takeWhile isDig).length := rfl
    omega
theorem lim_ne_cons {l : List Nat} {v : Nat} (h : lim l 0 = v) (hv : v ≠ 0) : l = v :: l.drop 1 := by
  cases l with
  | nil => rw [lim_nil] at h; exact absurd h.symm hv
  | cons x l => rw [show x = v from h]; rfl
theorem point_parts (r : List Nat) : ∃ f, (∀ p, f = some p → Dig1 p) ∧ r.take (litPoint r) = litF f ∧ litPoint r ≤ r.length := by
  unfold litPoint
  by_cases h : lim r 0 = 46 ∧ litRun (r.drop 1) ≠ 0
  · rw [if_pos h]
    refine ⟨some ((r.drop 1).take (litRun (r.drop 1))), fun p hp => ?_, ?_, ?_⟩
    · injection hp with hp
      subst hp
      exact dig1_take h.2 (Nat.pos_of_ne_zero h.2) (Nat.le_refl _)
    · conv => lhs; rw [lim_ne_cons h.1 (by decide)]
      rw [Nat.add_comm 1]; rfl
    · have h1 := litRun_le (r.drop 1)
      rw [List.length_drop] at h1
      omega
  · rw [if_neg h]
    exact ⟨none, (fun p hp => by cases hp), rfl, Nat.zero_le _⟩
theorem exp_parts (r : List Nat) : ∃ x, (∀ s d, x = some (s, d) → Dig1 d ∧ d.length ≤ 3) ∧ r.take (litExp r) = litX x ∧ litExp r ≤ r.length := by
  unfold litExp
  by_cases h : lim r 0 = 101 ∧ litRun (r.drop (litAt r)) ≠ 0
  · rw [if_pos h]
    have h1 := litRun_le (r.drop (litAt r))
    rw [List.length_drop] at h1
    have hd : Dig1 ((r.drop (litAt r)).take (min (litRun (r.drop (litAt r))) 3)) := dig1_take h.2 (by have := h.2; omega) (Nat.min_le_left _ _)
    have hl : ((r.drop (litAt r)).take (min (litRun (r.drop (litAt r))) 3)).length ≤ 3 := by rw [List.length_take]; omega
    have hc := lim_ne_cons h.1 (by decide)
    by_cases h45 : lim r 1 = 45
    · have ea : litAt r = 2 := if_pos h45
      have h5 := h.2
      rw [ea] at h1 hd hl h5 ⊢
      refine ⟨some (true, (r.drop 2).take (min (litRun (r.drop 2)) 3)), fun s d e => ?_, ?_, by omega⟩
      · injection e with e; injection e with e1 e2; subst e2; exact ⟨hd, hl⟩
      · have hc2 : r.drop 1 = 45 :: r.drop 2 := by
          have h2 : lim (r.drop 1) 0 = 45 := by rw [lim_drop0]; exact h45
          have h3 := lim_ne_cons h2 (by decide)
          rwa [List.drop_drop] at h3
        generalize min (litRun (r.drop 2)) 3 = k
        have e : r.take (2 + k) = 101 :: 45 :: (r.drop 2).take k := by
          conv => lhs; rw [hc, hc2]
          rw [show 2 + k = k + 1 + 1 by omega]; rfl
        exact e
    · have ea : litAt r = 1 := if_neg h45
      have h5 := h.2
      rw [ea] at h1 hd hl h5 ⊢
      refine ⟨some (false, (r.drop 1).take (min (litRun (r.drop 1)) 3)), fun s d e => ?_, ?_, by omega⟩
      · injection e with e; injection e with e1 e2; subst e2; exact ⟨hd, hl⟩
      · generalize min (litRun (r.drop 1)) 3 = k
        have e : r.take (1 + k) = 101 :: (r.drop 1).take k := by
          conv => lhs; rw [hc]
          rw [show 1 + k = k + 1 by omega]; rfl
        exact e
  · rw [if_neg h]
    exact ⟨none, (fun s d hp => by cases hp), rfl, Nat.zero_le _⟩
/-- The longest literal with which a text begins is one, made of its parts. -/
theorem litLen_parts {l : List Nat} (h : litLen l ≠ 0) : ∃ w f x, LitOk w f x ∧ l.take (litLen l) = litMk w f x := by
  have h0 : litRun l ≠ 0 := fun e => h (if_pos e)
  obtain ⟨f, f1, f2, f3⟩ := point_parts (l.drop (litRun l))
  obtain ⟨x, x1, x2, x3⟩ := exp_parts (l.drop (litRun l + litPoint (l.drop (litRun l))))
  refine ⟨l.takeWhile isDig, f, x, ⟨⟨allDig_run l, fun e => h0 (by rw [litRun, e]; rfl)⟩, f1, x1⟩, ?_⟩
  unfold litLen litMk
  rw [if_neg h0, List.take_add, List.take_add, take_run, f2, x2]
theorem litLen_le (l : List Nat) : litLen l ≤ l.length := by
  unfold litLen
  split
  · exact Nat.zero_le _
  · obtain ⟨_, _, _, f3⟩ := point_parts (l.drop (litRun l))
    obtain ⟨_, _, _, x3⟩ := exp_parts (l.drop (litRun l + litPoint (l.drop (litRun l))))
    have h1 := litRun_le l
    rw [List.length_drop] at f3 x3
    omega
theorem Ender.nil : Ender [] := .inl rfl
theorem Ender.of {c : Nat} (t : List Nat) (h : isDig c = false ∧ c ≠ 46 ∧ c ≠ 101) : Ender (c :: t) := .inr ⟨c, t, rfl, h⟩
theorem litGood_iff {l : List Nat} : litGood l = true ↔ 1 ≤ l.length ∧ l.length ≤ 400 ∧ litLen l = l.length := by
  simp [litGood, and_assoc]
/-- A literal stands behind what is put behind it, where that is no digit, point or e. -/
theorem litLen_more {l : List Nat} (h : litGood l = true) {c : Nat} (t : List Nat) (hc : isDig c = false ∧ c ≠ 46 ∧ c ≠ 101) : litLen (l ++ c :: t) = l.length := by
  obtain ⟨h1, h2, h3⟩ := litGood_iff.1 h
  obtain ⟨w, f, x, hok, e⟩ := litLen_parts (l := l) (by omega)
  rw [h3, List.take_length] at e
  rw [e]
  exact litLen_mk hok (Ender.of t hc)
/-- What is the longest literal is one. -/
theorem litGood_take {l : List Nat} (h : litLen l ≠ 0) (hl : l.length ≤ 400) : litGood (l.take (litLen l)) = true := by
  obtain ⟨w, f, x, hok, e⟩ := litLen_parts h
  have h2 := litLen_mk hok Ender.nil
  rw [List.append_nil, ← e] at h2
  have h3 := litLen_le l
  have h4 : (l.take (litLen l)).length = litLen l := by rw [List.length_take]; omega
  exact litGood_iff.2 ⟨by omega, by omega, h2⟩
theorem litGood_mk {w : List Nat} {f : Option (List Nat)} {x : Option (Bool × List Nat)} (h : LitOk w f x) (hl : (litMk w f x).length ≤ 400) : litGood (litMk w f x) = true := by
  have h2 := litLen_mk h Ender.nil
  rw [List.append_nil] at h2
  refine litGood_iff.2 ⟨?_, hl, h2⟩
  have := h.whole.pos
  unfold litMk
  rw [List.length_append, List.length_append]
  omega

/-- What has been read of a literal: its digits, how many places, the exponent's number, its sign; behind a point; behind an e. -/
structure LitSt where
  ds : List Nat
  places : Nat
  exp : Nat
  neg : Bool
  point : Bool
  e : Bool
def litStep (t : LitSt) (c : Nat) : LitSt :=
  if c = 46 then { t with point := true } else if c = 101 then { t with e := true } else if c = 45 then { t with neg := true }
  else if t.e = true then { t with exp := t.exp * 10 + (c - 48) } else { t with ds := t.ds ++ [c], places := t.places + (if t.point = true then 1 else 0) }
def litRead (l : List Nat) : LitSt := l.foldl litStep ⟨[], 0, 0, false, false, false⟩
/-- By which power of ten a literal's digits are multiplied. -/
def litPow (t : LitSt) : Int := (if t.neg = true then -(t.exp : Int) else (t.exp : Int)) - (t.places : Int)

theorem step_dig {t : LitSt} {c : Nat} (h : isDig c = true) : litStep t c = if t.e = true then { t with exp := t.exp * 10 + (c - 48) } else { t with ds := t.ds ++ [c], places := t.places + (if t.point = true then 1 else 0) } := by
  simp only [isDig, Bool.and_eq_true, decide_eq_true_eq] at h
  unfold litStep
  rw [if_neg (by omega), if_neg (by omega), if_neg (by omega)]
theorem fold_ds : ∀ (a : List Nat) (t : LitSt), allDig a = true → t.e = false → a.foldl litStep t = { t with ds := t.ds ++ a, places := t.places + (if t.point = true then a.length else 0) }
  | [], t, _, _ => by cases t; simp
  | x :: a, t, ha, he => by
    have h1 := List.all_eq_true.1 ha x (by simp)
    have h2 : allDig a = true := allDig_iff.2 fun y hy => allDig_iff.1 ha y (by simp [hy])
    rw [List.foldl_cons, step_dig h1, if_neg (by rw [he]; decide), fold_ds a { t with ds := t.ds ++ [x], places := t.places + (if t.point = true then 1 else 0) } h2 he]
    cases t
    rename_i ds places exp neg point e
    cases point <;> simp
    omega
theorem fold_exp : ∀ (a : List Nat) (t : LitSt), allDig a = true → t.e = true → a.foldl litStep t = { t with exp := t.exp * 10 ^ a.length + decV a }
  | [], t, _, _ => by cases t; simp [decV_nil]
  | x :: a, t, ha, he => by
    have h1 := List.all_eq_true.1 ha x (by simp)
    have h2 : allDig a = true := allDig_iff.2 fun y hy => allDig_iff.1 ha y (by simp [hy])
    rw [List.foldl_cons, step_dig h1, if_pos he, fold_exp a { t with exp := t.exp * 10 + (x - 48) } h2 he, decV_cons, List.length_cons, Nat.pow_succ]
    congr 1
    show (t.exp * 10 + (x - 48)) * 10 ^ a.length + decV a = _
    grind
/-- What a literal of parts reads as. -/
theorem litRead_mk {w : List Nat} {f : Option (List Nat)} {x : Option (Bool × List Nat)} (h : LitOk w f x) :
    litRead (litMk w f x) = ⟨w ++ f.getD [], (f.getD []).length, decV ((x.map Prod.snd).getD []), (x.map Prod.fst).getD false, f.isSome, x.isSome⟩ := by
  unfold litRead litMk
  rw [List.foldl_append, List.foldl_append, fold_ds w _ h.whole.1 rfl]
  have hf : (litF f).foldl litStep ⟨w, 0, 0, false, false, false⟩ = ⟨w ++ f.getD [], (f.getD []).length, 0, false, f.isSome, false⟩ := by
    cases f with
    | none => simp [litF]
    | some p =>
      show p.foldl litStep ⟨w, 0, 0, false, true, false⟩ = _
      rw [fold_ds p _ (h.part p rfl).1 rfl]
      simp
  simp only [List.nil_append]
  rw [show ({ ds := w, places := 0 + (if false = true then w.length else 0), exp := 0, neg := false, point := false, e := false } : LitSt) = ⟨w, 0, 0, false, false, false⟩ by simp, hf]
  cases x with
  | none => simp [litX, decV_nil]
  | some y =>
    obtain ⟨s, d⟩ := y
    have hd := (h.exp s d rfl).1.1
    cases s with
    | true =>
      show d.foldl litStep ⟨w ++ f.getD [], (f.getD []).length, 0, true, f.isSome, true⟩ = _
      rw [fold_exp d _ hd rfl]
      simp
    | false =>
      show d.foldl litStep ⟨w ++ f.getD [], (f.getD []).length, 0, false, f.isSome, true⟩ = _
      rw [fold_exp d _ hd rfl]
      simp
end Go.Proofs.YtjpoolddgocbbaaGreatDoor.Limb

/- Mathematics of the statements of stage 9: what literals tell, in rational numbers. No condition. -/
namespace Go.Proofs.YtjpoolddgocbbaaGreatDoor
open Go.RowKit Limb
set_option linter.unusedVariables false

/-- The number of what has been read of a literal. -/
def litQ (t : LitSt) : Rat := ((decV t.ds : Nat) : Rat) * (10 : Rat) ^ litPow t
/-- What a text tells as a literal. -/
def litR (l : List Nat) : Option Rat × Int := if litGood l = true then limR (litQ (litRead l)) else (none, 12)
theorem litR_yes {l : List Nat} (h : litGood l = true) : litR l = limR (litQ (litRead l)) := if_pos h
theorem litR_no {l : List Nat} (h : litGood l = false) : litR l = (none, 12) := if_neg (by rw [h]; decide)
theorem litR_cases (l : List Nat) : litR l = (none, 12) ∨ litR l = (none, 2) ∨ ∃ q, litR l = (some q, 0) := by
  cases h : litGood l with
  | false => exact .inl (litR_no h)
  | true =>
    rw [litR_yes h]
    cases hf : fitsQ (litQ (litRead l)) with
    | true => exact .inr (.inr ⟨_, limR_yes hf⟩)
    | false => exact .inr (.inl (limR_no hf))

/-- A number of digits times a power of ten, out of a top and a bottom. -/
theorem lit_up (D k : Nat) : ofR ((D * 10 ^ k : Nat) : Int) 1 = limR (((D : Nat) : Rat) * (10 : Rat) ^ (k : Int)) := by
  have h := scale_up (D : Rat) k
  rw [Rat.num_natCast, Rat.den_natCast, ← Int.natCast_mul] at h
  exact h
theorem lit_down (D k : Nat) : ofR (D : Int) (10 ^ k) = limR (((D : Nat) : Rat) * (10 : Rat) ^ (-(k : Int))) := by
  have h := scale_down (D : Rat) k
  rw [Rat.num_natCast, Rat.den_natCast, Nat.one_mul] at h
  exact h

theorem nat_bd {D L : Nat} (h : D < 4294967296 ^ L) : Bd ((D : Nat) : Rat) L 1 := by
  refine ⟨?_, ?_⟩
  · rw [Rat.num_natCast, Int.natAbs_natCast]; exact h
  · rw [Rat.den_natCast]; decide
theorem ten_add (a b : Int) : (10 : Rat) ^ a * (10 : Rat) ^ b = (10 : Rat) ^ (a + b) := (Rat.zpow_add ten_ne a b).symm
/-- A number of at most so many digits times a power of ten that is not too great. -/
theorem dec_bd {D d : Nat} (h : D < 10 ^ d) (hd : d < 45) {k : Int} (hk : k.natAbs ≤ 60) : Bd (((D : Nat) : Rat) * (10 : Rat) ^ k) 12 12 := by
  have h1 : D < 4294967296 ^ 5 := Nat.lt_trans h (dec_room_lt (by omega))
  exact ((nat_bd h1).mul (ten_bd k)).mono (by omega) (by omega)

/-- A literal of parts whose number is not too great. -/
theorem litR_mk {w : List Nat} {f : Option (List Nat)} {x : Option (Bool × List Nat)} (h : LitOk w f x) (hl : (litMk w f x).length ≤ 44) {k : Int} (hk : litPow (litRead (litMk w f x)) = k) (hk2 : k.natAbs ≤ 60) {q : Rat}
    (hq : ((decV (w ++ f.getD []) : Nat) : Rat) * (10 : Rat) ^ k = q) : litR (litMk w f x) = (some q, 0) := by
  rw [litR_yes (litGood_mk h (by omega))]
  have e : litQ (litRead (litMk w f x)) = q := by
    unfold litQ
    rw [hk, litRead_mk h]
    exact hq
  rw [e, ← hq]
  have hd : allDig (w ++ f.getD []) = true := by
    rw [allDig_append, h.whole.1]
    cases f with
    | none => rfl
    | some p => exact (h.part p rfl).1
  have hlen : (w ++ f.getD []).length < 45 := by
    have h2 : (w ++ f.getD []).length ≤ (litMk w f x).length := by
      unfold litMk
      rw [List.length_append, List.length_append, List.length_append]
      have : (f.getD []).length ≤ (litF f).length := by
        cases f with
        | none => exact Nat.zero_le _
        | some p => exact Nat.le_succ _
      omega
    omega
  exact limR_fits (dec_bd (decV_lt hd) hlen hk2) (by decide) (by decide)

theorem dig1_dec (n : Nat) : Dig1 (decT n) := ⟨decT_dig n, decT_ne n⟩
theorem dec32_len {n : Nat} (h : n < 4294967296) : (decT n).length ≤ 10 := decT_len_le (Nat.lt_trans h (by decide)) (by decide)
theorem pow_cast (n : Nat) : ((10 ^ n : Nat) : Rat) = (10 : Rat) ^ (n : Int) := by rw [Rat.zpow_natCast, Rat.natCast_pow]; rfl
theorem ten_pos (k : Int) : (10 : Rat) ^ k ≠ 0 := zpow_ne ten_ne k

/-- What the first statement of numbers asks: a whole part, and places. -/
theorem parts_facts {A B : Nat} (hA : A < 4294967296) (hB : B < 4294967296) :
    ∃ X Z : Rat, litR (decT A ++ 46 :: decT B) = (some X, 0) ∧ litR (decT A) = (some (A : Rat), 0) ∧ litR (48 :: 46 :: decT B) = (some Z, 0) ∧ addR (some (A : Rat)) (some Z) = (some X, 0) ∧ litR (decT A ++ [101, 48]) = (some (A : Rat), 0) ∧
      divR (some ((A : Int) : Rat)) (some ((1 : Int) : Rat)) = (some (A : Rat), 0) := by
  have la := dec32_len hA
  have lb := dec32_len hB
  obtain ⟨b, hb⟩ : ∃ b, (decT B).length = b := ⟨_, rfl⟩
  rw [hb] at lb
  have oX : LitOk (decT A) (some (decT B)) none := ⟨dig1_dec A, fun p e => by injection e with e; subst e; exact dig1_dec B, fun s d e => by cases e⟩
  have oY : LitOk (decT A) none none := ⟨dig1_dec A, (fun p e => by cases e), fun s d e => by cases e⟩
  have oZ : LitOk [48] (some (decT B)) none := ⟨⟨rfl, by simp⟩, fun p e => by injection e with e; subst e; exact dig1_dec B, fun s d e => by cases e⟩
  have oW : LitOk (decT A) none (some (false, [48])) := ⟨dig1_dec A, (fun p e => by cases e), fun s d e => by injection e with e; injection e with e1 e2; subst e2; exact ⟨⟨rfl, by simp⟩, by simp⟩⟩
  have eX : decT A ++ 46 :: decT B = litMk (decT A) (some (decT B)) none := by simp [litMk, litF, litX]
  have eY : decT A = litMk (decT A) none none := by simp [litMk, litF, litX]
  have eZ : 48 :: 46 :: decT B = litMk [48] (some (decT B)) none := by simp [litMk, litF, litX]
  have eW : decT A ++ [101, 48] = litMk (decT A) none (some (false, [48])) := by simp [litMk, litF, litX, litSg]
  have kX : litPow (litRead (litMk (decT A) (some (decT B)) none)) = -(b : Int) := by rw [litRead_mk oX]; simp [litPow, decV_nil, hb]
  have kY : litPow (litRead (litMk (decT A) none none)) = 0 := by rw [litRead_mk oY]; simp [litPow, decV_nil]
  have kZ : litPow (litRead (litMk [48] (some (decT B)) none)) = -(b : Int) := by rw [litRead_mk oZ]; simp [litPow, decV_nil, hb]
  have kW : litPow (litRead (litMk (decT A) none (some (false, [48])))) = 0 := by rw [litRead_mk oW]; simp [litPow, decV]
  have hbB : Bd ((B : Rat) * (10 : Rat) ^ (-(b : Int))) 12 12 := dec_bd (d := 10) (Nat.lt_trans hB (by decide)) (by decide) (by omega)
  have hsum : (A : Rat) + (B : Rat) * (10 : Rat) ^ (-(b : Int)) = ((A * 10 ^ b + B : Nat) : Rat) * (10 : Rat) ^ (-(b : Int)) := by
    rw [Rat.natCast_add, Rat.natCast_mul, pow_cast, Rat.add_mul, Rat.mul_assoc, ten_add, Int.add_right_neg, Rat.zpow_zero, Rat.mul_one]
  have hlt : A * 10 ^ b + B < 10 ^ 20 := by
    have h1 : decV (decT A ++ decT B) < 10 ^ (decT A ++ decT B).length := decV_lt (by rw [allDig_append, decT_dig, decT_dig]; rfl)
    rw [decV_append, decV_decT, decV_decT, hb, List.length_append, hb] at h1
    exact Nat.lt_of_lt_of_le h1 (Nat.pow_le_pow_right (by decide) (by omega))
  refine ⟨((A * 10 ^ b + B : Nat) : Rat) * (10 : Rat) ^ (-(b : Int)), (B : Rat) * (10 : Rat) ^ (-(b : Int)), ?_, ?_, ?_, ?_, ?_, ?_⟩
  · rw [eX]
    refine litR_mk oX ?_ kX (by omega) ?_
    · rw [← eX, List.length_append, List.length_cons, hb]; omega
    · show ((decV (decT A ++ decT B) : Nat) : Rat) * _ = _
      rw [decV_append, decV_decT, decV_decT, hb]
  · conv => lhs; rw [eY]
    refine litR_mk oY ?_ kY (by decide) ?_
    · rw [← eY]; omega
    · show ((decV (decT A ++ []) : Nat) : Rat) * _ = _
      rw [List.append_nil, decV_decT, Rat.zpow_zero, Rat.mul_one]
  · rw [eZ]
    refine litR_mk oZ ?_ kZ (by omega) ?_
    · rw [← eZ, List.length_cons, List.length_cons, hb]; omega
    · show ((decV ([48] ++ decT B) : Nat) : Rat) * _ = _
      rw [decV_append, decV_decT, show decV [48] = 0 from rfl, Nat.zero_mul, Nat.zero_add]
  · exact add_is hsum (dec_bd hlt (by decide) (by omega)) (by decide) (by decide)
  · rw [eW]
    refine litR_mk oW ?_ kW (by decide) ?_
    · rw [← eW, List.length_append]; show _ + 2 ≤ 44; omega
    · show ((decV (decT A ++ []) : Nat) : Rat) * _ = _
      rw [List.append_nil, decV_decT, Rat.zpow_zero, Rat.mul_one]
  · refine div_is (by decide) ?_ (nat_bd (L := 1) hA) (by decide) (by decide)
    rw [show ((1 : Int) : Rat) = 1 from rfl, Rat.div_def, show (1 : Rat)⁻¹ = 1 by decide +kernel, Rat.mul_one]
    rfl

theorem decV_behind (l : List Nat) (N : Nat) : decV (l ++ List.replicate N 48) = decV l * 10 ^ N := by
  have h := decV_zeros N []
  rw [List.append_nil, decV_nil] at h
  rw [decV_append, h, List.length_replicate, Nat.add_zero]
theorem tens_step {j : Nat} (h : j < 30) : mulR (some ((10 : Rat) ^ j)) (some 10) = (some ((10 : Rat) ^ (j + 1)), 0) := by
  refine mul_is (Rat.pow_succ (10 : Rat) j).symm (k := 12) (l := 12) ?_ (by decide) (by decide)
  rw [← Rat.zpow_natCast]
  exact (ten_bd _).mono (by omega) (by omega)
/-- What the second statement of numbers asks: noughts, exponents. -/
theorem noughts_facts {A B : Nat} (hA : A < 4294967296) (hB : B < 4294967296) {N k : Nat} (hN : N ≤ 8) (hk : k < 30) :
    ∃ X Z U V : Rat, litR (decT A ++ 46 :: decT B) = (some X, 0) ∧ litR (List.replicate N 48 ++ decT A ++ 46 :: decT B ++ List.replicate N 48) = (some X, 0) ∧ litR (decT A ++ decT B) = (some Z, 0) ∧
      litR (decT A ++ 46 :: decT B ++ 101 :: decT k) = (some U, 0) ∧ litR (decT A ++ 46 :: decT B ++ 101 :: 45 :: decT k) = (some V, 0) ∧
      mulR (some X) (some ((10 : Rat) ^ (decT B).length)) = (some Z, 0) ∧ mulR (some X) (some ((10 : Rat) ^ k)) = (some U, 0) ∧ divR (some X) (some ((10 : Rat) ^ k)) = (some V, 0) := by
  have la := dec32_len hA
  have lb := dec32_len hB
  have lk : (decT k).length ≤ 2 := decT_len_le (Nat.lt_trans hk (by decide)) (by decide)
  obtain ⟨b, hb⟩ : ∃ b, (decT B).length = b := ⟨_, rfl⟩
  rw [hb] at lb
  have hz : allDig (List.replicate N 48) = true := allDig_zeros N
  have oX : LitOk (decT A) (some (decT B)) none := ⟨dig1_dec A, fun p e => by injection e with e; subst e; exact dig1_dec B, fun s d e => by cases e⟩
  have oY : LitOk (List.replicate N 48 ++ decT A) (some (decT B ++ List.replicate N 48)) none :=
    ⟨⟨by rw [allDig_append, hz, decT_dig]; rfl, fun e => decT_ne A (List.append_eq_nil_iff.1 e).2⟩, fun p e => by injection e with e; subst e; exact ⟨by rw [allDig_append, hz, decT_dig]; rfl, fun e => decT_ne B (List.append_eq_nil_iff.1 e).1⟩, fun s d e => by cases e⟩
  have oZ : LitOk (decT A ++ decT B) none none := ⟨⟨by rw [allDig_append, decT_dig, decT_dig]; rfl, fun e => decT_ne A (List.append_eq_nil_iff.1 e).1⟩, (fun p e => by cases e), fun s d e => by cases e⟩
  have oU : ∀ s, LitOk (decT A) (some (decT B)) (some (s, decT k)) := fun s => ⟨dig1_dec A, fun p e => by injection e with e; subst e; exact dig1_dec B, fun s' d e => by injection e with e; injection e with e1 e2; subst e2; exact ⟨dig1_dec k, by omega⟩⟩
  have eX : decT A ++ 46 :: decT B = litMk (decT A) (some (decT B)) none := by simp [litMk, litF, litX]
  have eY : List.replicate N 48 ++ decT A ++ 46 :: decT B ++ List.replicate N 48 = litMk (List.replicate N 48 ++ decT A) (some (decT B ++ List.replicate N 48)) none := by simp [litMk, litF, litX]
  have eZ : decT A ++ decT B = litMk (decT A ++ decT B) none none := by simp [litMk, litF, litX]
  have eU : decT A ++ 46 :: decT B ++ 101 :: decT k = litMk (decT A) (some (decT B)) (some (false, decT k)) := by simp [litMk, litF, litX, litSg]
  have eV : decT A ++ 46 :: decT B ++ 101 :: 45 :: decT k = litMk (decT A) (some (decT B)) (some (true, decT k)) := by simp [litMk, litF, litX, litSg]
  have kX : litPow (litRead (litMk (decT A) (some (decT B)) none)) = -(b : Int) := by rw [litRead_mk oX]; simp [litPow, decV_nil, hb]
  have kY : litPow (litRead (litMk (List.replicate N 48 ++ decT A) (some (decT B ++ List.replicate N 48)) none)) = -((b + N : Nat) : Int) := by rw [litRead_mk oY]; simp [litPow, decV_nil, hb]
  have kZ : litPow (litRead (litMk (decT A ++ decT B) none none)) = 0 := by rw [litRead_mk oZ]; simp [litPow, decV_nil]
  have kU : litPow (litRead (litMk (decT A) (some (decT B)) (some (false, decT k)))) = (k : Int) - (b : Int) := by rw [litRead_mk (oU false)]; simp [litPow, decV_decT, hb]
  have kV : litPow (litRead (litMk (decT A) (some (decT B)) (some (true, decT k)))) = -(k : Int) - (b : Int) := by rw [litRead_mk (oU true)]; simp [litPow, decV_decT, hb]
  obtain ⟨S, hS⟩ : ∃ S, A * 10 ^ b + B = S := ⟨_, rfl⟩
  have hv : decV (decT A ++ decT B) = S := by rw [decV_append, decV_decT, decV_decT, hb, hS]
  have hlt : S < 10 ^ 20 := by
    have h1 : decV (decT A ++ decT B) < 10 ^ (decT A ++ decT B).length := decV_lt (by rw [allDig_append, decT_dig, decT_dig]; rfl)
    rw [hv, List.length_append, hb] at h1
    exact Nat.lt_of_lt_of_le h1 (Nat.pow_le_pow_right (by decide) (by omega))
  refine ⟨(S : Rat) * (10 : Rat) ^ (-(b : Int)), (S : Rat), (S : Rat) * (10 : Rat) ^ ((k : Int) - (b : Int)), (S : Rat) * (10 : Rat) ^ (-(k : Int) - (b : Int)), ?_, ?_, ?_, ?_, ?_, ?_, ?_, ?_⟩
  · rw [eX]
    refine litR_mk oX ?_ kX (by omega) ?_
    · rw [← eX, List.length_append, List.length_cons, hb]; omega
    · show ((decV (decT A ++ decT B) : Nat) : Rat) * _ = _
      rw [hv]
  · rw [eY]
    refine litR_mk oY ?_ kY (by omega) ?_
    · rw [← eY]; simp only [List.length_append, List.length_cons, List.length_replicate]; omega
    · show ((decV (List.replicate N 48 ++ decT A ++ (decT B ++ List.replicate N 48)) : Nat) : Rat) * _ = _
      have e : List.replicate N 48 ++ decT A ++ (decT B ++ List.replicate N 48) = List.replicate N 48 ++ ((decT A ++ decT B) ++ List.replicate N 48) := by simp
      rw [e, decV_zeros, decV_behind, hv, Rat.natCast_mul, pow_cast, Rat.mul_assoc, ten_add]
      congr 2
      omega
  · rw [eZ]
    refine litR_mk oZ ?_ kZ (by decide) ?_
    · rw [← eZ, List.length_append]; omega
    · show ((decV (decT A ++ decT B ++ []) : Nat) : Rat) * _ = _
      rw [List.append_nil, hv, Rat.zpow_zero, Rat.mul_one]
  · rw [eU]
    refine litR_mk (oU false) ?_ kU (by omega) ?_
    · rw [← eU]; simp only [List.length_append, List.length_cons]; omega
    · show ((decV (decT A ++ decT B) : Nat) : Rat) * _ = _
      rw [hv]
  · rw [eV]
    refine litR_mk (oU true) ?_ kV (by omega) ?_
    · rw [← eV]; simp only [List.length_append, List.length_cons]; omega
    · show ((decV (decT A ++ decT B) : Nat) : Rat) * _ = _
      rw [hv]
  · rw [hb]
    refine mul_is ?_ (nat_bd (L := 5) (Nat.lt_trans hlt (dec_room_lt (by decide)))) (by decide) (by decide)
    rw [← Rat.zpow_natCast, Rat.mul_assoc, ten_add, Int.add_left_neg, Rat.zpow_zero, Rat.mul_one]
  · refine mul_is ?_ (dec_bd hlt (by decide) (show ((k : Int) - (b : Int)).natAbs ≤ 60 by omega)) (by decide) (by decide)
    rw [← Rat.zpow_natCast, Rat.mul_assoc, ten_add]
    congr 2
    omega
  · refine div_is (num_of_ne (npow_ne ten_ne k)) ?_ (dec_bd hlt (by decide) (show (-(k : Int) - (b : Int)).natAbs ≤ 60 by omega)) (by decide) (by decide)
    rw [Rat.div_def, ← Rat.zpow_natCast, ← Rat.zpow_neg, Rat.mul_assoc, ten_add]
    congr 2
    omega

end Go.Proofs.YtjpoolddgocbbaaGreatDoor

/- Mathematics of reading a literal byte by byte: what has been read stays small, what it is made of. No condition. -/
namespace Go.Proofs.YtjpoolddgocbbaaGreatDoor
open Go.RowKit Limb
set_option linter.unusedVariables false

theorem read_step {l : List Nat} {i : Nat} (hi : i < l.length) : litRead (l.take (i + 1)) = litStep (litRead (l.take i)) (lim l i) := by
  have e : l.take (i + 1) = l.take i ++ [lim l i] := by
    rw [List.take_succ_eq_append_getElem hi]
    simp [lim, List.getD_eq_getElem?_getD, List.getElem?_eq_getElem hi]
  unfold litRead
  rw [e, List.foldl_append]
  rfl
theorem step_le (t : LitSt) (c : Nat) : t.exp ≤ (litStep t c).exp ∧ t.places ≤ (litStep t c).places ∧ t.ds.length ≤ (litStep t c).ds.length := by
  unfold litStep
  split
  · exact ⟨Nat.le_refl _, Nat.le_refl _, Nat.le_refl _⟩
  · split
    · exact ⟨Nat.le_refl _, Nat.le_refl _, Nat.le_refl _⟩
    · split
      · exact ⟨Nat.le_refl _, Nat.le_refl _, Nat.le_refl _⟩
      · split
        · refine ⟨?_, Nat.le_refl _, Nat.le_refl _⟩
          show t.exp ≤ t.exp * 10 + (c - 48)
          omega
        · refine ⟨Nat.le_refl _, Nat.le_add_right _ _, ?_⟩
          show t.ds.length ≤ (t.ds ++ [c]).length
          rw [List.length_append]; exact Nat.le_add_right _ _
theorem fold_le : ∀ (l : List Nat) (t : LitSt), t.exp ≤ (l.foldl litStep t).exp ∧ t.places ≤ (l.foldl litStep t).places ∧ t.ds.length ≤ (l.foldl litStep t).ds.length
  | [], t => ⟨Nat.le_refl _, Nat.le_refl _, Nat.le_refl _⟩
  | c :: l, t => by
    obtain ⟨h1, h2, h3⟩ := step_le t c
    obtain ⟨k1, k2, k3⟩ := fold_le l (litStep t c)
    exact ⟨Nat.le_trans h1 k1, Nat.le_trans h2 k2, Nat.le_trans h3 k3⟩
theorem good_mk {l : List Nat} (h : litGood l = true) : ∃ w f x, LitOk w f x ∧ l = litMk w f x := by
  obtain ⟨h1, h2, h3⟩ := litGood_iff.1 h
  obtain ⟨w, f, x, hok, e⟩ := litLen_parts (l := l) (by omega)
  rw [h3, List.take_length] at e
  exact ⟨w, f, x, hok, e⟩
theorem good_end {l : List Nat} (h : litGood l = true) : (litRead l).exp ≤ 999 ∧ (litRead l).places ≤ 400 ∧ 1 ≤ (litRead l).ds.length ∧ (litRead l).ds.length ≤ 400 ∧ allDig (litRead l).ds = true := by
  obtain ⟨w, f, x, hok, rfl⟩ := good_mk h
  obtain ⟨_, h2, _⟩ := litGood_iff.1 h
  rw [litRead_mk hok]
  have hf : (f.getD []).length ≤ (litF f).length := by
    cases f with
    | none => exact Nat.zero_le _
    | some p => exact Nat.le_succ _
  have hl : (litMk w f x).length = w.length + (litF f).length + (litX x).length := by unfold litMk; rw [List.length_append, List.length_append]
  have hw := hok.whole.pos
  refine ⟨?_, ?_, ?_, ?_, ?_⟩
  · show decV ((x.map Prod.snd).getD []) ≤ 999
    cases x with
    | none => show decV [] ≤ 999; rw [decV_nil]; omega
    | some y =>
      obtain ⟨s, d⟩ := y
      obtain ⟨⟨hd, _⟩, hd3⟩ := hok.exp s d rfl
      have h3 := decV_lt hd
      have h4 : 10 ^ d.length ≤ 10 ^ 3 := Nat.pow_le_pow_right (by decide) hd3
      show decV d ≤ 999
      omega
  · show (f.getD []).length ≤ 400
    omega
  · show 1 ≤ (w ++ f.getD []).length
    rw [List.length_append]; omega
  · show (w ++ f.getD []).length ≤ 400
    rw [List.length_append]; omega
  · show allDig (w ++ f.getD []) = true
    rw [allDig_append, hok.whole.1]
    cases f with
    | none => rfl
    | some p => exact (hok.part p rfl).1
theorem good_at {l : List Nat} (h : litGood l = true) (i : Nat) {ds : List Nat} {pl ex : Nat} {ng pt ee : Bool} (hr : litRead (l.take i) = ⟨ds, pl, ex, ng, pt, ee⟩) : ex ≤ 999 ∧ pl ≤ 400 ∧ ds.length ≤ 400 := by
  obtain ⟨h1, h2, _, h3, _⟩ := good_end h
  have e : litRead l = (l.drop i).foldl litStep (litRead (l.take i)) := by
    unfold litRead
    rw [← List.foldl_append, List.take_append_drop]
  have h4 := fold_le (l.drop i) (litRead (l.take i))
  rw [← e, hr] at h4
  obtain ⟨k1, k2, k3⟩ := h4
  exact ⟨Nat.le_trans k1 h1, Nat.le_trans k2 h2, Nat.le_trans k3 h3⟩
theorem good_bytes {l : List Nat} (h : litGood l = true) {i : Nat} (hi : i < l.length) {d : Nat} (hd : lim l i = d) : (48 ≤ d ∧ d ≤ 57) ∨ d = 46 ∨ d = 101 ∨ d = 45 := by
  obtain ⟨w, f, x, hok, rfl⟩ := good_mk h
  have hm : d ∈ litMk w f x := by
    have e : lim (litMk w f x) i = (litMk w f x)[i] := by simp [lim, List.getD_eq_getElem?_getD, List.getElem?_eq_getElem hi]
    rw [← hd, e]; exact List.getElem_mem hi
  unfold litMk at hm
  rcases List.mem_append.1 hm with hm | hm
  · rcases List.mem_append.1 hm with hm | hm
    · exact .inl (allDig_iff.1 hok.whole.1 d hm)
    · cases f with
      | none => cases hm
      | some p =>
        rcases List.mem_cons.1 hm with rfl | hm
        · exact .inr (.inl rfl)
        · exact .inl (allDig_iff.1 (hok.part p rfl).1 d hm)
  · cases x with
    | none => cases hm
    | some y =>
      obtain ⟨s, q⟩ := y
      rcases List.mem_cons.1 hm with rfl | hm
      · exact .inr (.inr (.inl rfl))
      · rcases List.mem_append.1 hm with hm | hm
        · cases s with
          | true => simp [litSg] at hm; exact .inr (.inr (.inr hm))
          | false => simp [litSg] at hm
        · exact .inl (allDig_iff.1 (hok.exp s q rfl).1.1 d hm)
theorem bytes_cut (s : ByteArray) (i j : Nat) : bytesOf (s.extract i j) = ((bytesOf s).drop i).take (j - i) := by
  unfold bytesOf
  rw [ByteArray.data_extract, Array.toList_extract, List.extract_eq_take_drop, List.map_take, List.map_drop]
theorem byte_cut (s : ByteArray) (i : Nat) (h : i < s.size) {d : Nat} (hd : lim (bytesOf s) i = d) : bytesOf (s.extract i (i + 1)) = [d] := by
  rw [bytes_cut, show i + 1 - i = 1 by omega]
  have hl : 0 < ((bytesOf s).drop i).length := by rw [List.length_drop, length_bytesOf]; omega
  have e : lim ((bytesOf s).drop i) 0 = d := by rw [lim_drop0]; exact hd
  cases hc : (bytesOf s).drop i with
  | nil => rw [hc] at hl; simp at hl
  | cons x t => rw [hc] at e; rw [show x = d from e]; rfl
/-- The number of what stands behind the loop. -/
theorem num_read {l : List Nat} (h : litGood l = true) {ds : List Nat} {pl ex : Nat} {ng pt ee : Bool} (hr : litRead l = ⟨ds, pl, ex, ng, pt, ee⟩) : numOk ds = true ∧ numV ds = decV ds := by
  obtain ⟨_, _, h3, h4, h5⟩ := good_end h
  rw [hr] at h3 h4 h5
  have h6 : numOk ds = true := numOk_good h3 (Nat.le_trans h4 (by decide)) h5
  exact ⟨h6, numV_yes h6⟩
theorem litR_up {l : List Nat} (h : litGood l = true) {ds : List Nat} {pl ex : Nat} {ng pt ee : Bool} (hr : litRead l = ⟨ds, pl, ex, ng, pt, ee⟩) {N : Nat} (hN : litPow ⟨ds, pl, ex, ng, pt, ee⟩ = (N : Int)) {D T : Nat} (hD : decV ds = D) (hT : 10 ^ N = T) {r : Option Rat} {e : Int} (hR : litR l = (r, e)) :
    ofR ((D : Int) * (T : Int)) 1 = (r, e) := by
  rw [litR_yes h, hr] at hR
  unfold litQ at hR
  rw [hN] at hR
  rw [← hR, ← Int.natCast_mul, ← hT, lit_up]
  show limR _ = limR (((decV ds : Nat) : Rat) * _)
  rw [hD]
theorem litR_down {l : List Nat} (h : litGood l = true) {ds : List Nat} {pl ex : Nat} {ng pt ee : Bool} (hr : litRead l = ⟨ds, pl, ex, ng, pt, ee⟩) {N : Nat} (hN : litPow ⟨ds, pl, ex, ng, pt, ee⟩ = -(N : Int)) {D T : Nat} (hD : decV ds = D) (hT : 10 ^ N = T) {r : Option Rat} {e : Int} (hR : litR l = (r, e)) :
    ofR (D : Int) T = (r, e) := by
  rw [litR_yes h, hr] at hR
  unfold litQ at hR
  rw [hN] at hR
  rw [← hR, ← hT, lit_down]
  show limR _ = limR (((decV ds : Nat) : Rat) * _)
  rw [hD]
theorem ten_limbs {N : Nat} (h : N ≤ 1399) : 10 ^ N < 4294967296 ^ 156 := Nat.lt_of_lt_of_le (ten_room N) (Nat.pow_le_pow_right (by decide) (by omega))

end Go.Proofs.YtjpoolddgocbbaaGreatDoor

/- What package whole's own helpers answer (signed, isBelow), and strings.CutPrefix of a minus sign, as contracts over memory. Conditions: sizes of at most so many limbs. -/
namespace Go.Proofs.YtjpoolddgocbbaaGreatDoor
open Go.RowKit Limb
set_option linter.unusedVariables false

theorem len_limbs_zero {a : Nat} : (limbs a).length = 0 ↔ a = 0 := by
  constructor
  · intro h
    have h2 := val_limbs a
    rw [List.eq_nil_of_length_eq_zero h] at h2
    exact h2.symm
  · rintro rfl; rw [limbs_zero]; rfl

/-- Two results: a row of cells, and a plain one. -/
theorem results_mixed {P : Program} {fn : Func} {p q : Tmp} {ty : TypeId} (h : fn.results = #[.cell p ty, .tmp q]) (tmps : Array Value) (w : World) (g : Nat) (t : TypeId) (cs : Array Value) (fr : Nat × Nat) (d : TypeDesc) (v : Value)
    (hp : tmps.getD p undef = .pointer (some ⟨g, 0, none⟩)) (hq : tmps.getD q undef = v) (hg : w.heap[g]? = some (.cells cs t fr))
    (hu : P.underlying ty = some d) (hd : (match d with | .struct _ | .array _ _ => true | _ => false) = true) (hi : (P.info? ty).map (·.size) = some cs.size) :
    (results fn tmps).run P w = .ok (.tuple #[.agg cs, v]) w := by
  have hp' : tmps[p]?.getD undef = .pointer (some ⟨g, 0, none⟩) := by simpa using hp
  have hq' : tmps[q]?.getD undef = v := by simpa using hq
  simp [results, h, hp', hq', asAddr, run_loadVar_row w g t ty cs fr d hg hu hd hi]

section
variable {w : World} {s s' : Bool} {A A' : Option Addr} {n c n' c' : Nat} {xs ys : List Nat} {x y : Int} {L L' : Nat}

theorem signed_c {a : Nat} (hx : NN w A n c (limbs a) a L) (b : Bool) (z : Int) (hz : zOf b a = z) :
    Calls Tryz.prog 62 #[.bool b, .slice A n c] w fun e w' => e = .returned (.agg #[.bool (sg z), .slice A n c]) ∧ ZZ w' (sg z) A n c (limbs z.natAbs) z L ∧ Below w.heap.size w w' := by
  have ez : z.natAbs = a := by rw [← hz, zOf_abs]
  have hn : n = 0 ↔ a = 0 := by rw [← hx.isN.len]; exact len_limbs_zero
  have HZ : RowKit.Hid (ZZ w (sg z) A n c (limbs z.natAbs) z L) := ZZ.mk' (by rw [ez]; exact hx)
  clear hx
  by_cases hb : b = true
  · subst hb
    by_cases h0 : a = 0
    · have es : sg z = false := by rw [← hz, h0]; rfl
      obtain rfl : n = 0 := hn.2 h0
      rw [es] at HZ ⊢
      clear es hn ez hz h0
      go_enter Tryz.func62, Tryz.ntmps62
      go_wp2
      refine bodyPost_ret (results_cell_row rfl _ _ w.heap.size 26 #[.bool false, .slice A 0 c] (0, 0) _ rfl (row2_new w _ _ _) Tryz.underlying26 rfl int_size) rfl ?_
      exact ⟨rfl, HZ.out.below (below_new _ _), below_new _ _⟩
    · have es : sg z = true := by
        rw [← hz]; apply sg_neg
        unfold zOf; rw [if_pos rfl]; omega
      have Hp : RowKit.Hid (decide (0 < n) = true) := by
        have : n ≠ 0 := fun h => h0 (hn.1 h)
        show _ = _
        rw [decide_eq_true_eq]; omega
      rw [es] at HZ ⊢
      clear es hn ez hz h0
      go_enter Tryz.func62, Tryz.ntmps62
      go_wp2
      refine bodyPost_ret (results_cell_row rfl _ _ w.heap.size 26 #[.bool (decide (0 < n)), .slice A n c] (0, 0) _ rfl (row2_new w _ _ _) Tryz.underlying26 rfl int_size) rfl ?_
      exact ⟨by rw [Hp.out], HZ.out.below (below_new _ _), below_new _ _⟩
  · have hb2 : b = false := by simpa using hb
    subst hb2
    have es : sg z = false := by rw [← hz]; apply sg_pos; unfold zOf; simp
    rw [es] at HZ ⊢
    clear es hn ez hz hb
    go_enter Tryz.func62, Tryz.ntmps62
    go_wp2
    refine bodyPost_ret (results_cell_row rfl _ _ w.heap.size 26 #[.bool false, .slice A n c] (0, 0) _ rfl (row2_new w _ _ _) Tryz.underlying26 rfl int_size) rfl ?_
    exact ⟨rfl, HZ.out.below (below_new _ _), below_new _ _⟩

end

/-- The first byte of a text is a minus sign; what stands behind it. -/
theorem bytesOf_tail {S : ByteArray} (h : 1 ≤ S.size) : bytesOf (S.extract 1 S.size) = (bytesOf S).tail := by
  unfold bytesOf
  rw [ByteArray.data_extract, Array.toList_extract, List.extract_eq_take_drop, List.map_take, List.map_drop, List.drop_one]
  refine List.take_of_length_le ?_
  rw [List.length_tail, List.length_map, Array.length_toList]
  exact Nat.le_refl _
theorem bytesOf_first {S : ByteArray} : bytesOf (S.extract 0 1) = (bytesOf S).take 1 := by
  unfold bytesOf
  rw [ByteArray.data_extract, Array.toList_extract, List.extract_eq_take_drop, List.map_take, List.map_drop]
  rfl
theorem head_minus (S : ByteArray) : ((S.extract 0 1).toList == (⟨#[45]⟩ : ByteArray).toList) = decide ((bytesOf S).head? = some 45) := by
  have e1 : S.extract 0 1 = strOf ((bytesOf S).take 1) := by rw [← bytesOf_first, strOf_bytesOf]
  have e2 : (⟨#[45]⟩ : ByteArray) = strOf [45] := rfl
  rw [e1, e2, str_beq (bytes_take (bytes_bytesOf S) 1) (bytes_cons.2 ⟨by decide, bytes_nil⟩), decide_eq_decide]
  cases bytesOf S with
  | nil => simp
  | cons x l => simp

end Go.Proofs.YtjpoolddgocbbaaGreatDoor

/- What package whole answers, as contracts over memory: whole numbers in the shortest limbs, 0 not below 0. Conditions: sizes of at most so many limbs; the table of powers of ten where texts are made or read. -/
namespace Go.Proofs.YtjpoolddgocbbaaGreatDoor
open Go.RowKit Limb
set_option linter.unusedVariables false

theorem ZZ.zof {w : World} {s : Bool} {A : Option Addr} {n c : Nat} {xs : List Nat} {x : Int} {L : Nat} (h : ZZ w s A n c xs x L) : zOf s x.natAbs = x := h.sgn.symm
theorem zOf_not {s : Bool} {a : Nat} {x : Int} (h : zOf s a = x) : zOf (!s) a = -x := by
  subst h; cases s <;> simp [zOf]
theorem zOf_add {s : Bool} {a b : Nat} {x y : Int} (h : zOf s a = x) (k : zOf s b = y) : zOf s (a + b) = x + y := by
  subst h; subst k; cases s <;> simp [zOf] <;> omega
theorem zOf_sub {s s' : Bool} {a b : Nat} {x y : Int} (h : zOf s a = x) (k : zOf s' b = y) (hs : s ≠ s') (hab : b ≤ a) : zOf s (a - b) = x + y := by
  subst h; subst k; cases s <;> cases s' <;> simp [zOf] at hs ⊢ <;> omega
theorem zOf_mul {s s' : Bool} {a b : Nat} {x y : Int} (h : zOf s a = x) (k : zOf s' b = y) : zOf (s != s') (a * b) = x * y := by
  subst h; subst k; cases s <;> cases s' <;> simp [zOf, Int.neg_mul, Int.mul_neg]


theorem cmp_abs_neg {x y : Int} (hx : x < 0) (hy : y < 0) : cmpI y.natAbs x.natAbs = cmpZ x y := by
  rcases Int.lt_trichotomy x y with h | h | h
  · rw [cmpZ_lt h, cmpI_lt (by omega)]
  · rw [cmpZ_eq h, cmpI_same (by omega)]
  · rw [cmpZ_gt h, cmpI_gt (by omega)]
theorem cmp_abs_pos {x y : Int} (hx : 0 ≤ x) (hy : 0 ≤ y) : cmpI x.natAbs y.natAbs = cmpZ x y := by
  rcases Int.lt_trichotomy x y with h | h | h
  · rw [cmpZ_lt h, cmpI_lt (by omega)]
  · rw [cmpZ_eq h, cmpI_same (by omega)]
  · rw [cmpZ_gt h, cmpI_gt (by omega)]

theorem conv_u64 {v : Int} (h : -9223372036854775808 ≤ v) (h1 : v ≤ 9223372036854775807) : IntKind.u64.wrap v = if v < 0 then v + 18446744073709551616 else v := by
  rw [IntKind.wrap_u64]; split <;> omega
theorem zz_zof {v : Int} : zOf (decide (v < 0)) v.natAbs = v := by
  unfold zOf
  by_cases h : v < 0
  · simp [h]; omega
  · simp [h]; omega


end Go.Proofs.YtjpoolddgocbbaaGreatDoor

/- What the reference of layer 6 answers (Make, Trim, Neg, Text, Of), as contracts over memory. Conditions: sizes of at most so many limbs. -/
namespace Go.Proofs.YtjpoolddgocbbaaGreatDoor
open Go.RowKit Limb
set_option linter.unusedVariables false
section
variable {w : World} {s s' : Bool} {A A' : Option Addr} {n c n' c' : Nat} {xs ys : List Nat} {x y : Int} {L L' : Nat}
set_option maxHeartbeats 4000000 in
set_option maxRecDepth 100000 in
theorem refMake_c {a : Nat} (hx : NN w A n c xs a L) (h1 : L ≤ 1000000000) (z : Int) (hz : zOf s a = z) :
    Calls Tryz.prog 25 #[.bool s, .slice A n c] w fun e w' => ∃ A2 n2 c2, e = .returned (.agg #[.bool (sg z), .slice A2 n2 c2]) ∧ ZZ w' (sg z) A2 n2 c2 (limbs z.natAbs) z L ∧ Below w.heap.size w w' := by
  have HW := Lib.hid (below_new w zbox)
  have HZ : RowKit.Hid (ZB (w.alloc zbox) w.heap.size) := row2_new w _ _ _
  have HN := Lib.hid (hx.below HW.out)
  clear hx
  go_enter Tryz.func25, Tryz.ntmps25
  go_wp2_with fail
  refine (refTrim_c HN.out h1).mono ?_
  rintro e w2 ⟨A2, n2, c2, rfl, h2, bn⟩
  have BN := Lib.hid bn
  have hn : n2 = 0 ↔ a = 0 := by rw [← h2.isN.len]; exact len_limbs_zero
  have HZ2 : RowKit.Hid (ZZ w2 (sg z) A2 n2 c2 (limbs z.natAbs) z L) := ZZ.mk' (by rw [← hz, zOf_abs]; exact h2)
  obtain ⟨e0, e1, f0, f1⟩ := (HZ.out.below BN.out).cells
  clear h2 bn
  by_cases hb : s = true
  · by_cases h0 : a = 0
    · have es : sg z = false := by rw [← hz, h0]; cases s <;> rfl
      subst hb
      have e2 : n2 = 0 := hn.2 h0
      subst e2
      have Hes := Lib.hid es
      rw [es] at HZ2
      clear es hn hz h0
      have HF := Lib.hid ((HZ.out.below BN.out).fill (.bool false) (.slice A2 0 c2))
      have HP := Lib.hid (HZ2.out.put (HZ.out.below BN.out) (.bool false) (.slice A2 0 c2))
      have HB := Lib.hid (below_fill (g := w.heap.size) (below_two HW.out BN.out) (Nat.le_refl _) (.bool false) (.slice A2 0 c2))
      go_wp2
      refine bodyPost_ret (results_cell_row rfl _ _ w.heap.size 26 #[.bool false, .slice A2 0 c2] (0, 0) _ rfl HF.out Tryz.underlying26 rfl int_size) rfl ?_
      exact ⟨A2, 0, c2, by rw [Hes.out], by rw [Hes.out]; exact HP.out, HB.out⟩
    · have es : sg z = true := by
        rw [← hz, hb]; apply sg_neg
        unfold zOf; rw [if_pos rfl]; omega
      have Hp : RowKit.Hid (decide (0 < n2) = true) := by
        have : n2 ≠ 0 := fun h => h0 (hn.1 h)
        show _ = _
        rw [decide_eq_true_eq]; omega
      subst hb
      have Hes := Lib.hid es
      rw [es] at HZ2
      clear es hn hz h0
      have HF := Lib.hid ((HZ.out.below BN.out).fill (.bool (decide (0 < n2))) (.slice A2 n2 c2))
      have HP := Lib.hid (HZ2.out.put (HZ.out.below BN.out) (.bool (decide (0 < n2))) (.slice A2 n2 c2))
      have HB := Lib.hid (below_fill (g := w.heap.size) (below_two HW.out BN.out) (Nat.le_refl _) (.bool (decide (0 < n2))) (.slice A2 n2 c2))
      go_wp2
      refine bodyPost_ret (results_cell_row rfl _ _ w.heap.size 26 #[.bool (decide (0 < n2)), .slice A2 n2 c2] (0, 0) _ rfl HF.out Tryz.underlying26 rfl int_size) rfl ?_
      exact ⟨A2, n2, c2, by rw [Hes.out, Hp.out], by rw [Hes.out]; exact HP.out, HB.out⟩
  · have hb2 : s = false := by simpa using hb
    have es : sg z = false := by rw [← hz, hb2]; apply sg_pos; unfold zOf; simp
    subst hb2
    have Hes := Lib.hid es
    rw [es] at HZ2
    clear es hn hz hb
    have HF := Lib.hid ((HZ.out.below BN.out).fill (.bool false) (.slice A2 n2 c2))
    have HP := Lib.hid (HZ2.out.put (HZ.out.below BN.out) (.bool false) (.slice A2 n2 c2))
    have HB := Lib.hid (below_fill (g := w.heap.size) (below_two HW.out BN.out) (Nat.le_refl _) (.bool false) (.slice A2 n2 c2))
    go_wp2
    refine bodyPost_ret (results_cell_row rfl _ _ w.heap.size 26 #[.bool false, .slice A2 n2 c2] (0, 0) _ rfl HF.out Tryz.underlying26 rfl int_size) rfl ?_
    exact ⟨A2, n2, c2, by rw [Hes.out], by rw [Hes.out]; exact HP.out, HB.out⟩

set_option maxHeartbeats 4000000 in
set_option maxRecDepth 100000 in
theorem refITrim_c (hx : ZZ w s A n c xs x L) (h1 : L ≤ 100000) :
    Calls Tryz.prog 59 #[.agg #[.bool s, .slice A n c]] w fun e w' => ∃ A2 n2 c2, e = .returned (.agg #[.bool (sg x), .slice A2 n2 c2]) ∧ ZZ w' (sg x) A2 n2 c2 (limbs x.natAbs) x L ∧ Below w.heap.size w w' := by
  have HS := Lib.hid hx.zof
  have b0 := below_new w (.cells #[Value.bool s, Value.slice A n c] 26)
  have bz := below_new (w.alloc (.cells #[Value.bool s, Value.slice A n c] 26)) zbox
  have HW := Lib.hid (below_two b0 bz)
  have HN := Lib.hid (hx.nn.below HW.out)
  have r0 := (row2_new w 26 (.bool s) (.slice A n c)).below bz
  have rz : ZB ((w.alloc (.cells #[Value.bool s, Value.slice A n c] 26)).alloc zbox) (w.alloc (.cells #[Value.bool s, Value.slice A n c] 26)).heap.size := row2_new (w.alloc (.cells #[Value.bool s, Value.slice A n c] 26)) _ _ _
  simp only [World.size_alloc] at rz
  clear b0 bz hx
  go_enter Tryz.func59, Tryz.ntmps59
  go_wp2_with fail
  generalize (w.alloc (.cells #[Value.bool s, Value.slice A n c] 26)).alloc zbox = w1 at *
  have HR0 := Lib.hid r0
  have c00 := r0.c0
  have c01 := r0.c1
  have HZ := Lib.hid rz
  clear r0 rz
  refine (refMake_c HN.out (by omega) x (by first | exact HS.out | simpa using HS.out)).mono ?_
  rintro e w2 ⟨A2, n2, c2, rfl, h4, bm⟩
  have BN4 := Lib.hid bm
  obtain ⟨e0, e1, f0, f1⟩ := (HZ.out.below BN4.out).cells
  have HF := Lib.hid ((HZ.out.below BN4.out).fill (.bool (sg x)) (.slice A2 n2 c2))
  have HP := Lib.hid (h4.put (HZ.out.below BN4.out) (.bool (sg x)) (.slice A2 n2 c2))
  have HB := Lib.hid (below_fill (g := w.heap.size + 1) (below_two HW.out BN4.out) (by omega) (.bool (sg x)) (.slice A2 n2 c2))
  clear bm h4 c00 c01
  go_wp2
  refine bodyPost_ret (results_cell_row rfl _ _ (w.heap.size + 1) 26 #[.bool (sg x), .slice A2 n2 c2] (0, 0) _ rfl HF.out Tryz.underlying26 rfl int_size) rfl ?_
  exact ⟨A2, n2, c2, rfl, HP.out, HB.out⟩

end
set_option maxHeartbeats 4000000 in
set_option maxRecDepth 100000 in
theorem refIOf_c (v : Int) (h0 : -9223372036854775808 ≤ v) (h1 : v ≤ 9223372036854775807) (w : World) :
    Calls Tryz.prog 76 #[.int .i64 v] w fun e w' => ∃ A2 n2 c2, e = .returned (.agg #[.bool (sg v), .slice A2 n2 c2]) ∧ ZZ w' (sg v) A2 n2 c2 (limbs v.natAbs) v 2 ∧ Below w.heap.size w w' := by
  have HW := Lib.hid (below_new w zbox)
  have HZ : RowKit.Hid (ZB (w.alloc zbox) w.heap.size) := row2_new w _ _ _
  by_cases hv0 : v < 0
  · obtain ⟨u, hu⟩ : ∃ u, u = v.natAbs := ⟨_, rfl⟩
    have hlt : u < 18446744073709551616 := by omega
    obtain ⟨q, hq⟩ : ∃ q : Nat, -(v + 1) = (q : Int) := ⟨(-(v + 1)).toNat, by omega⟩
    have hq2 : q < 9223372036854775808 := by omega
    have e0 : IntKind.i64.wrap (v + 1) = v + 1 := by rw [IntKind.wrap_i64]; omega
    have e0b : wrap64 (v + 1) = v + 1 := by unfold wrap64; omega
    have e1 : IntKind.i64.wrap (-(v + 1)) = (q : Int) := by rw [hq, IntKind.wrap_i64]; omega
    have e1b : wrap64 (-(v + 1)) = (q : Int) := by rw [hq]; unfold wrap64; omega
    have e2 : IntKind.u64.wrap (q : Int) = (q : Int) := by rw [IntKind.wrap_u64]; omega
    have e3 : IntKind.u64.wrap ((q : Int) + 1) = (u : Int) := by rw [IntKind.wrap_u64]; omega
    have eu : q + 1 = u := by omega
    have HS : RowKit.Hid (zOf true u = v) := by
      show _ = _
      rw [hu]; unfold zOf; simp; omega
    have HC := Lib.hid (refOf_c u _ rfl hlt (w.alloc zbox))
    clear hu h0 h1 hq hq2 eu
    go_enter Tryz.func76, Tryz.ntmps76
    go_wp2_with fail
    refine HC.out.mono ?_
    rintro e w2 ⟨A2, n2, c2, rfl, h2, bn⟩
    have BN2 := Lib.hid bn
    clear bn
    go_wp2_with fail
    refine (refMake_c h2 (by decide) v (by first | exact HS.out | simpa using HS.out)).mono ?_
    rintro e w4 ⟨A3, n3, c3, rfl, h4, bm⟩
    have BN4 := Lib.hid (below_two BN2.out bm)
    obtain ⟨e0, e1, f0, f1⟩ := (HZ.out.below BN4.out).cells
    have HF := Lib.hid ((HZ.out.below BN4.out).fill (.bool (sg v)) (.slice A3 n3 c3))
    have HP := Lib.hid (h4.put (HZ.out.below BN4.out) (.bool (sg v)) (.slice A3 n3 c3))
    have HB := Lib.hid (below_fill (g := w.heap.size) (below_two HW.out BN4.out) (Nat.le_refl _) (.bool (sg v)) (.slice A3 n3 c3))
    clear bm h2 h4
    go_wp2
    refine bodyPost_ret (results_cell_row rfl _ _ w.heap.size 26 #[.bool (sg v), .slice A3 n3 c3] (0, 0) _ rfl HF.out Tryz.underlying26 rfl int_size) rfl ?_
    exact ⟨A3, n3, c3, rfl, HP.out, HB.out⟩
  · obtain ⟨u, hu⟩ : ∃ u, u = v.natAbs := ⟨_, rfl⟩
    have hlt : u < 18446744073709551616 := by omega
    have ec : IntKind.u64.wrap v = (u : Int) := by rw [conv_u64 h0 h1, if_neg hv0]; omega
    have hv1 : 0 ≤ v := by omega
    have HS : RowKit.Hid (zOf false u = v) := by
      show _ = _
      rw [hu]; unfold zOf; simp; omega
    have HC := Lib.hid (refOf_c u _ rfl hlt (w.alloc zbox))
    clear hu h0 h1 hv0
    go_enter Tryz.func76, Tryz.ntmps76
    go_wp2_with fail
    refine HC.out.mono ?_
    rintro e w2 ⟨A2, n2, c2, rfl, h2, bn⟩
    have BN2 := Lib.hid bn
    clear bn
    go_wp2_with fail
    refine (refMake_c h2 (by decide) v (by first | exact HS.out | simpa using HS.out)).mono ?_
    rintro e w4 ⟨A3, n3, c3, rfl, h4, bm⟩
    have BN4 := Lib.hid (below_two BN2.out bm)
    obtain ⟨e0, e1, f0, f1⟩ := (HZ.out.below BN4.out).cells
    have HF := Lib.hid ((HZ.out.below BN4.out).fill (.bool (sg v)) (.slice A3 n3 c3))
    have HP := Lib.hid (h4.put (HZ.out.below BN4.out) (.bool (sg v)) (.slice A3 n3 c3))
    have HB := Lib.hid (below_fill (g := w.heap.size) (below_two HW.out BN4.out) (Nat.le_refl _) (.bool (sg v)) (.slice A3 n3 c3))
    clear bm h2 h4
    go_wp2
    refine bodyPost_ret (results_cell_row rfl _ _ w.heap.size 26 #[.bool (sg v), .slice A3 n3 c3] (0, 0) _ rfl HF.out Tryz.underlying26 rfl int_size) rfl ?_
    exact ⟨A3, n3, c3, rfl, HP.out, HB.out⟩

end Go.Proofs.YtjpoolddgocbbaaGreatDoor

/- What the reference of layer 7 answers (trimmed, pos, Wide), as contracts over memory. Conditions: sizes of at most so many limbs. -/
namespace Go.Proofs.YtjpoolddgocbbaaGreatDoor
open Go.RowKit Limb
set_option linter.unusedVariables false
theorem rat_size : (Tryz.prog.info? 28).map (·.size) = some 3 := by kernel_rfl
/-- Is a list trimmed? -/
theorem trimmed_iff {xs : List Nat} (h : Small xs) : xs = limbs (Limb.val xs) ↔ xs = [] ∨ lim xs (xs.length - 1) ≠ 0 := by
  constructor
  · intro e
    rcases Nat.eq_zero_or_pos (Limb.val xs) with h0 | h0
    · left; rw [e, h0, limbs_zero]
    · right
      intro hl
      have hp : 0 < xs.length := by
        rcases xs with _ | ⟨y, l⟩
        · simp [Limb.val] at h0
        · simp
      have h1 := trim_take_last (xs := xs) (k := xs.length - 1) (by omega) (by simpa [lim] using hl)
      rw [show xs.length - 1 + 1 = xs.length by omega, List.take_length, trim_eq_limbs h, ← e] at h1
      have h2 := trim_len_le (xs.take (xs.length - 1))
      rw [← h1, List.length_take] at h2
      omega
  · rintro (e | e)
    · subst e; rfl
    · have hp : 0 < xs.length := by
        rcases xs with _ | ⟨y, l⟩
        · simp [lim] at e
        · simp
      have h1 := trim_take_full (xs := xs) (k := xs.length - 1) (by omega) (by simpa [lim] using e)
      rw [show xs.length - 1 + 1 = xs.length by omega, List.take_length, trim_eq_limbs h] at h1
      exact h1.symm
section
variable {w : World} {s s' : Bool} {A B A' B' : Option Addr} {n c m d n' c' m' d' : Nat} {xs ys xs' ys' : List Nat} {x : Int} {a b L L' : Nat}
set_option maxHeartbeats 4000000 in
set_option maxRecDepth 100000 in
theorem refTrimmed_c (hx : NN w A n c xs a L) (h1 : L ≤ 9223372036854775807) (v : Bool) (hv : decide (xs = limbs a) = v) :
    Calls Tryz.prog 103 #[.slice A n c] w fun e w' => e = .returned (.bool v) ∧ w = w' := by
  have Hv := Lib.hid hv
  have Hx := Lib.hid hx
  have hsm := hx.isN.small
  have hlen := hx.isN.len
  have hle := hx.le
  have htr := trimmed_iff hsm
  rw [hx.val] at htr
  clear hx hv
  by_cases h0 : n = 0
  · have hB : RowKit.Hid (v = true) := by
      show _ = _
      rw [← Hv.out, decide_eq_true_eq, htr]
      exact .inl (List.eq_nil_of_length_eq_zero (by omega))
    subst h0
    clear hlen htr
    go_enter Tryz.func103, Tryz.ntmps103
    go_wp2
    go_ret
    exact ⟨by rw [hB.out]; rfl, rfl⟩
  · obtain ⟨g, o, eA, hlt, hc⟩ := Hx.out.isN.2.2 (by omega)
    obtain ⟨k, hk⟩ : ∃ k, n = k + 1 := ⟨n - 1, by omega⟩
    have hcell := hc k (by omega)
    obtain ⟨u, hu⟩ : ∃ u, lim xs k = u := ⟨_, rfl⟩
    rw [hu] at hcell
    have h00 : ((n : Int) == 0) = false := by rw [beq_eq_false_iff_ne]; omega
    have h0k : (n : Int) - 1 = (k : Int) := by omega
    have hB : RowKit.Hid (decide (u ≠ 0) = v) := by
      show _ = _
      rw [← Hv.out, decide_eq_decide, htr, ← hu, show xs.length - 1 = k by omega]
      constructor
      · exact fun h => .inr h
      · rintro (h | h)
        · rw [h] at hlen; simp at hlen; omega
        · exact h
    subst eA
    clear htr hc hu hsm
    subst hk
    go_enter Tryz.func103, Tryz.ntmps103
    go_wp2
    go_ret
    refine ⟨?_, rfl⟩
    rw [← hB.out]
    show Ending.returned (Value.bool (((k : Int) + 1 == 0) || ((u : Int) != 0))) = _
    rw [show ((k : Int) + 1 == 0) = false by rw [beq_eq_false_iff_ne]; omega, Bool.false_or]
    congr 2
    rw [Bool.eq_iff_iff]
    simp

set_option maxHeartbeats 4000000 in
set_option maxRecDepth 100000 in
theorem refWide_c (hx : ZZ w s A n c xs x L) (hy : NN w B m d ys b L') (h1 : L ≤ 10000) (h2 : L' ≤ 10000) (hb : b ≠ 0) (q : Rat) (hq : mkRat x b = q) :
    Calls Tryz.prog 58 #[.agg #[.bool s, .slice A n c], .slice B m d] w fun e w' => ∃ A2 n2 c2 B2 m2 d2, e = .returned (.agg #[.bool (sg q.num), .slice A2 n2 c2, .slice B2 m2 d2]) ∧ ZZ w' (sg q.num) A2 n2 c2 (limbs q.num.natAbs) q.num L ∧ NN w' B2 m2 d2 (limbs q.den) q.den L' ∧ Below w.heap.size w w' := by
  obtain ⟨g, hg⟩ : ∃ g, gcdN x.natAbs b = g := ⟨_, rfl⟩
  have hg2 : Nat.gcd x.natAbs b = g := hg
  have hg0 : g ≠ 0 := by rw [← hg2]; exact Nat.pos_iff_ne_zero.1 (Nat.gcd_pos_of_pos_right _ (Nat.pos_of_ne_zero hb))
  obtain ⟨m1, m2⟩ := mk_num (x := x) hb
  have m3 := mk_den (x := x) hb
  rw [hq, hg2] at m1 m3
  rw [hq] at m2
  have HS : RowKit.Hid (zOf (sg x) (x.natAbs / g) = q.num) := by
    show _ = _
    rw [← m1, ← m2]; exact zOf_sg
  have HD : RowKit.Hid (b / g = q.den) := m3.symm
  have Hg := Lib.hid hg
  have Hgl : RowKit.Hid (g < 4294967296 ^ (L + L')) := by
    show _ < _
    rw [← hg2]
    exact Nat.lt_of_le_of_lt (Nat.gcd_le_right _ (Nat.pos_of_ne_zero hb)) (Nat.lt_of_lt_of_le (lt_pow hy) (Nat.pow_le_pow_right (by decide) (Nat.le_add_left _ _)))
  clear hq m1 m2 m3 hg hg2 hb
  have b0 := below_new w (.cells #[Value.bool s, Value.slice A n c] 26)
  have b1 := below_new (w.alloc (.cells #[Value.bool s, Value.slice A n c] 26)) (.cells #[Value.bool false, Value.slice none 0 0, Value.slice none 0 0] 28)
  have HW := Lib.hid (below_two b0 b1)
  have HX := Lib.hid (hx.below HW.out)
  have HY := Lib.hid (hy.below HW.out)
  have r0 := (row2_new w 26 (.bool s) (.slice A n c)).below b1
  have rz := row3_new (w.alloc (.cells #[Value.bool s, Value.slice A n c] 26)) 28 (.bool false) (.slice none 0 0) (.slice none 0 0)
  simp only [World.size_alloc] at rz
  clear b0 b1 hx hy
  go_enter Tryz.func58, Tryz.ntmps58
  go_wp2_with fail
  generalize (w.alloc (.cells #[Value.bool s, Value.slice A n c] 26)).alloc (.cells #[Value.bool false, Value.slice none 0 0, Value.slice none 0 0] 28) = w1 at *
  have HZ := Lib.hid rz
  clear r0 rz
  refine (refITrim_c HX.out (by omega)).mono ?_
  rintro e w2 ⟨A5, n5, c5, rfl, h5, bn⟩
  have bx := below_new w2 (.cells #[Value.bool (sg x), Value.slice A5 n5 c5] 26)
  have H5 := Lib.hid (h5.below bx)
  have HR5 := Lib.hid (row2_new w2 26 (.bool (sg x)) (.slice A5 n5 c5))
  replace HY := Lib.hid ((HY.out.below bn).below bx)
  replace HZ := Lib.hid ((HZ.out.below bn).below bx)
  replace HW := Lib.hid (below_two (below_two HW.out bn) bx)
  have y0 := HR5.out.c0
  have y1 := HR5.out.c1
  clear h5 bn bx
  go_wp2_with fail
  clear y0 y1
  generalize w2.alloc (.cells #[Value.bool (sg x), Value.slice A5 n5 c5] 26) = w3 at *
  obtain ⟨q5, eg⟩ : ∃ g, g = w2.heap.size := ⟨_, rfl⟩
  rw [← eg] at HR5 ⊢
  clear eg
  refine (refGcd_c H5.out.nn HY.out (by omega) (by omega)).mono ?_
  rw [Hg.out]
  rintro e wS ⟨A6, n6, c6, rfl, h6, bn⟩
  have HG := Lib.hid h6
  replace H5 := Lib.hid (H5.out.below bn)
  replace HR5 := Lib.hid (HR5.out.below bn)
  replace HY := Lib.hid (HY.out.below bn)
  replace HZ := Lib.hid (HZ.out.below bn)
  replace HW := Lib.hid (below_two HW.out bn)
  have Hq : RowKit.Hid (w.heap.size ≤ w.heap.size + 1) := Nat.le_succ _
  have c0 := HR5.out.c0
  have c1 := HR5.out.c1
  clear h6 bn
  go_wp2_with fail
  clear c0 c1
  refine region_free 13 1 [13, 14, 15, 16, 17, 18, 19, 20, 21, 22, 23, 24, 25] ?aF1 (fun wx => Below wS.heap.size wS wx) (fun k vv wx => match k with
      | 0 => vv = .pointer (some ⟨q5, 0, none⟩)
      | 1 => vv = .bool (sg x)
      | 2 => vv = .pointer (some ⟨q5, 1, none⟩)
      | 3 => vv = .slice A5 n5 c5
      | 4 => vv = .slice A6 n6 c6
      | 5 => ∃ (e0 : Option Addr) (e1 : Nat) (e2 : Nat) (e3 : Option Addr) (e4 : Nat) (e5 : Nat), vv = .agg #[.slice e0 e1 e2, .slice e3 e4 e5, .bool true] ∧ NN wx e0 e1 e2 (limbs (x.natAbs / g)) (x.natAbs / g) L ∧ NN wx e3 e4 e5 (limbs (x.natAbs % g)) (x.natAbs % g) L
      | 6 => ∃ (e0 : Option Addr) (e1 : Nat) (e2 : Nat), vv = .slice e0 e1 e2 ∧ NN wx e0 e1 e2 (limbs (x.natAbs / g)) (x.natAbs / g) L
      | 7 => ∃ (e0 : Option Addr) (e1 : Nat) (e2 : Nat), vv = .agg #[.bool (sg q.num), .slice e0 e1 e2] ∧ ZZ wx (sg q.num) e0 e1 e2 (limbs q.num.natAbs) q.num L
      | 8 => vv = .slice B m d
      | 9 => vv = .slice A6 n6 c6
      | 10 => ∃ (e0 : Option Addr) (e1 : Nat) (e2 : Nat) (e3 : Option Addr) (e4 : Nat) (e5 : Nat), vv = .agg #[.slice e0 e1 e2, .slice e3 e4 e5, .bool true] ∧ NN wx e0 e1 e2 (limbs (b / g)) (b / g) L' ∧ NN wx e3 e4 e5 (limbs (b % g)) (b % g) L'
      | 11 => ∃ (e0 : Option Addr) (e1 : Nat) (e2 : Nat), vv = .slice e0 e1 e2 ∧ NN wx e0 e1 e2 (limbs (b / g)) (b / g) L'
      | _ => ∃ (e0 : Option Addr) (e1 : Nat) (e2 : Nat) (e3 : Option Addr) (e4 : Nat) (e5 : Nat), vv = .agg #[.bool (sg q.num), .slice e0 e1 e2, .slice e3 e4 e5] ∧ ZZ wx (sg q.num) e0 e1 e2 (limbs q.num.natAbs) q.num L ∧ NN wx e3 e4 e5 (limbs (b / g)) (b / g) L')
    (fun k => false) (by kernel_rfl) ?haF1 rfl (by kernel_rfl) (by kernel_rfl) (fun _ _ _ _ _ h => h) ?hSb1 ?hPb1 ?hS1 ?hop1 ?hfin1
  case haF1 =>
    intro vals
    simp only [fillAll, List.getElem?_cons_zero, List.getElem?_cons_succ, Act.put, List.setIfInBounds_toArray, List.set_cons_zero, List.set_cons_succ]
    exact rfl
  case hSb1 => exact fun wx w2 hb hS => below_two hS hb
  case hPb1 =>
    intro k v wa wb hb h
    match k, h with
    | 0, h => exact h
    | 1, h => exact h
    | 2, h => exact h
    | 3, h => exact h
    | 4, h => exact h
    | 5, ⟨e0, e1, e2, e3, e4, e5, h1, g0, g1⟩ => exact ⟨e0, e1, e2, e3, e4, e5, h1, g0.below hb, g1.below hb⟩
    | 6, ⟨e0, e1, e2, h1, g0⟩ => exact ⟨e0, e1, e2, h1, g0.below hb⟩
    | 7, ⟨e0, e1, e2, h1, g0⟩ => exact ⟨e0, e1, e2, h1, g0.below hb⟩
    | 8, h => exact h
    | 9, h => exact h
    | 10, ⟨e0, e1, e2, e3, e4, e5, h1, g0, g1⟩ => exact ⟨e0, e1, e2, e3, e4, e5, h1, g0.below hb, g1.below hb⟩
    | 11, ⟨e0, e1, e2, h1, g0⟩ => exact ⟨e0, e1, e2, h1, g0.below hb⟩
    | _ + 12, ⟨e0, e1, e2, e3, e4, e5, h1, g0, g1⟩ => exact ⟨e0, e1, e2, e3, e4, e5, h1, g0.below hb, g1.below hb⟩
  case hS1 => exact (Below.refl _ _).drew
  case hop1 =>
    refine .cons (k := 0) ?_ (.cons (k := 1) ?_ (.cons (k := 2) ?_ (.cons (k := 3) ?_ (.cons (k := 4) ?_ (.cons (k := 5) ?_ (.cons (k := 6) ?_ (.cons (k := 7) ?_ (.cons (k := 8) ?_ (.cons (k := 9) ?_ (.cons (k := 10) ?_ (.cons (k := 11) ?_ (.cons (k := 12) ?_ (.nil)))))))))))))
    all_goals intro vals wr hS hd KC hK
    all_goals (show Oper.wp _ _ _ _ _ _; dsimp only)
    · go_simp
      refine hK _ _ rfl (Below.refl _ _) (by first | rfl | simp) (fun h => by cases h)
    · have d0 : vals 0 = _ := hd 0 (by decide +kernel)
      rw [d0]
      have z0 := (HR5.out.below hS).c0
      go_simp
      refine hK _ _ rfl (Below.refl _ _) (by first | rfl | simp) (fun h => by cases h)
    · go_simp
      refine hK _ _ rfl (Below.refl _ _) (by first | rfl | simp) (fun h => by cases h)
    · have d2 : vals 2 = _ := hd 2 (by decide +kernel)
      rw [d2]
      have z0 := (HR5.out.below hS).c1
      go_simp
      refine hK _ _ rfl (Below.refl _ _) (by first | rfl | simp) (fun h => by cases h)
    · go_simp
      refine hK _ _ rfl (Below.refl _ _) (by first | rfl | simp) (fun h => by cases h)
    · have d3 : vals 3 = _ := hd 3 (by decide +kernel)
      have d4 : vals 4 = _ := hd 4 (by decide +kernel)
      rw [d3, d4]
      go_simp
      go_at_call 91
      with_reducible refine (refRem_yes (H5.out.nn.below hS) (HG.out.below hS) (by omega) (by omega) hg0).mono ?_
      rintro e w2 ⟨r0, r1, r2, r3, r4, r5, rfl, f0, f1, bn_r⟩
      refine hK _ _ rfl bn_r ⟨_, _, _, _, _, _, rfl, f0, f1⟩ (fun h => by cases h)
    · obtain ⟨A_5_0, n_5_1, n_5_2, A_5_3, n_5_4, n_5_5, d5, h_5_0, h_5_1⟩ := hd 5 (by decide +kernel)
      rw [d5]
      have hfld : ∀ W, (Instr.field 109 (.agg #[.slice A_5_0 n_5_1 n_5_2, .slice A_5_3 n_5_4 n_5_5, .bool true]) 0).run Tryz.prog W = .ok (.slice A_5_0 n_5_1 n_5_2) W := fun _ => by kernel_rfl
      go_simp
      refine hK _ _ rfl (Below.refl _ _) ⟨_, _, _, rfl, h_5_0⟩ (fun h => by cases h)
    · have d1 : vals 1 = _ := hd 1 (by decide +kernel)
      obtain ⟨A_6_0, n_6_1, n_6_2, d6, h_6_0⟩ := hd 6 (by decide +kernel)
      rw [d1, d6]
      go_simp
      go_at_call 25
      with_reducible refine (refMake_c h_6_0 (by omega) q.num HS.out).mono ?_
      rintro e w2 ⟨r0, r1, r2, rfl, f0, bn_r⟩
      refine hK _ _ rfl bn_r ⟨_, _, _, rfl, f0⟩ (fun h => by cases h)
    · go_simp
      refine hK _ _ rfl (Below.refl _ _) (by first | rfl | simp) (fun h => by cases h)
    · go_simp
      refine hK _ _ rfl (Below.refl _ _) (by first | rfl | simp) (fun h => by cases h)
    · have d8 : vals 8 = _ := hd 8 (by decide +kernel)
      have d9 : vals 9 = _ := hd 9 (by decide +kernel)
      rw [d8, d9]
      go_simp
      go_at_call 91
      with_reducible refine (refRem_yes (HY.out.below hS) (HG.out.below hS) (by omega) (by omega) hg0).mono ?_
      rintro e w2 ⟨r0, r1, r2, r3, r4, r5, rfl, f0, f1, bn_r⟩
      refine hK _ _ rfl bn_r ⟨_, _, _, _, _, _, rfl, f0, f1⟩ (fun h => by cases h)
    · obtain ⟨A_10_0, n_10_1, n_10_2, A_10_3, n_10_4, n_10_5, d10, h_10_0, h_10_1⟩ := hd 10 (by decide +kernel)
      rw [d10]
      have hfld : ∀ W, (Instr.field 109 (.agg #[.slice A_10_0 n_10_1 n_10_2, .slice A_10_3 n_10_4 n_10_5, .bool true]) 0).run Tryz.prog W = .ok (.slice A_10_0 n_10_1 n_10_2) W := fun _ => by kernel_rfl
      go_simp
      refine hK _ _ rfl (Below.refl _ _) ⟨_, _, _, rfl, h_10_0⟩ (fun h => by cases h)
    · obtain ⟨A_7_0, n_7_1, n_7_2, d7, h_7_0⟩ := hd 7 (by decide +kernel)
      obtain ⟨A_11_0, n_11_1, n_11_2, d11, h_11_0⟩ := hd 11 (by decide +kernel)
      rw [d7, d11]
      go_simp
      refine hK _ _ rfl (Below.refl _ _) ⟨_, _, _, _, _, _, rfl, h_7_0, h_11_0⟩ (fun h => by cases h)
  case hfin1 =>
    intro vals wr hS hP hne
    obtain ⟨y0, y1, y2, y3, y4, y5, ez, h3_0, h3_1⟩ := hP 12 (by decide)
    have hZ3 := HZ.out.below hS
    have hNo := hZ3.noLimb (by intro v e; cases e) (by intro v e; cases e) (by intro v e; cases e)
    have e0 := hZ3.c0
    have e1 := hZ3.c1
    have e2 := hZ3.c2
    have f0 := hZ3.free 0
    have f1 := hZ3.free 1
    have f2 := hZ3.free 2
    have HF := Lib.hid (hZ3.fill (.bool (sg q.num)) (.slice y0 y1 y2) (.slice y3 y4 y5))
    have HP1 := Lib.hid (h3_0.fillR3 hNo (.bool (sg q.num)) (.slice y0 y1 y2) (.slice y3 y4 y5))
    have HP2 := Lib.hid ((show NN wr y3 y4 y5 (limbs q.den) q.den L' from by rw [← HD.out]; exact h3_1).fillR3 hNo (.bool (sg q.num)) (.slice y0 y1 y2) (.slice y3 y4 y5))
    have HB := Lib.hid (below_fill3' (below_two HW.out hS) Hq.out (.bool (sg q.num)) (.slice y0 y1 y2) (.slice y3 y4 y5))
    try dsimp only
    rw [ez]
    refine wpAny_ready (rs := [13]) (by kernel_rfl) (by simp) (AllReady.cons rfl (fun KC hK => ?_) AllReady.nil)
    go_simp
    refine hK _ _ ?_
    clear hK KC
    refine wpAny_done (by kernel_rfl) ?_ _
    go_wp2
    refine bodyPost_ret (results_cell_row rfl _ _ _ 28 #[.bool (sg q.num), .slice y0 y1 y2, .slice y3 y4 y5] (0, 0) _ rfl HF.out Tryz.underlying28 rfl rat_size) rfl ?_
    exact ⟨y0, y1, y2, y3, y4, y5, rfl, HP1.out, HP2.out, HB.out⟩

end
end Go.Proofs.YtjpoolddgocbbaaGreatDoor

/- What package whole's Mul answers, as a contract over memory: whole numbers in the shortest limbs, 0 not below 0. Conditions: sizes of at most so many limbs; the table of powers of ten where texts are made or read. -/
namespace Go.Proofs.YtjpoolddgocbbaaGreatDoor
open Go.RowKit Limb
set_option linter.unusedVariables false
section
variable {w : World} {s s' : Bool} {A A' : Option Addr} {n c n' c' : Nat} {xs ys : List Nat} {x y : Int} {L L' : Nat}
set_option maxHeartbeats 4000000 in
set_option maxRecDepth 100000 in
theorem wMul_c (hx : ZZ w s A n c xs x L) (hy : ZZ w s' A' n' c' ys y L') (K : Nat) (h1 : L ≤ 100000) (h2 : L' ≤ 100000) (h3 : L + L' ≤ K) (z : Int) (hz : x * y = z) :
    Calls Tryz.prog 40 #[.agg #[.bool s, .slice A n c], .agg #[.bool s', .slice A' n' c']] w fun e w' => ∃ A2 n2 c2, e = .returned (.agg #[.bool (sg z), .slice A2 n2 c2]) ∧ ZZ w' (sg z) A2 n2 c2 (limbs z.natAbs) z K ∧ Below w.heap.size w w' := by
  have HS : RowKit.Hid (zOf (s != s') (x.natAbs * y.natAbs) = z) := (zOf_mul hx.zof hy.zof).trans hz
  clear hz
  have b0 := below_new w (.cells #[Value.bool s, Value.slice A n c] 26)
  have b1 := below_new (w.alloc (.cells #[Value.bool s, Value.slice A n c] 26)) (.cells #[Value.bool s', Value.slice A' n' c'] 26)
  have bz := below_new ((w.alloc (.cells #[Value.bool s, Value.slice A n c] 26)).alloc (.cells #[Value.bool s', Value.slice A' n' c'] 26)) zbox
  have HW := Lib.hid (below_two (below_two b0 b1) bz)
  have HN := Lib.hid (hx.nn.below HW.out)
  have HM := Lib.hid (hy.nn.below HW.out)
  have r0 := ((row2_new w 26 (.bool s) (.slice A n c)).below b1).below bz
  have r1 := (row2_new (w.alloc (.cells #[Value.bool s, Value.slice A n c] 26)) 26 (.bool s') (.slice A' n' c')).below bz
  have rz : ZB (((w.alloc (.cells #[Value.bool s, Value.slice A n c] 26)).alloc (.cells #[Value.bool s', Value.slice A' n' c'] 26)).alloc zbox) ((w.alloc (.cells #[Value.bool s, Value.slice A n c] 26)).alloc (.cells #[Value.bool s', Value.slice A' n' c'] 26)).heap.size := row2_new ((w.alloc (.cells #[Value.bool s, Value.slice A n c] 26)).alloc (.cells #[Value.bool s', Value.slice A' n' c'] 26)) _ _ _
  simp only [World.size_alloc] at r1 rz
  clear b0 b1 bz hx hy
  go_enter Tryz.func40, Tryz.ntmps40
  go_wp2
  generalize ((w.alloc (.cells #[Value.bool s, Value.slice A n c] 26)).alloc (.cells #[Value.bool s', Value.slice A' n' c'] 26)).alloc zbox = w1 at *
  have HR0 := Lib.hid r0
  have c00 := r0.c0
  have c01 := r0.c1
  have HR1 := Lib.hid r1
  have c10 := r1.c0
  have c11 := r1.c1
  have HZ := Lib.hid rz
  clear r0 r1 rz
  clear c00 c01 c10 c11
  refine region_free 11 1 [5, 6, 7, 8, 9, 10, 11, 12, 13, 14, 15] ?aF (fun wx => Below w1.heap.size w1 wx) (fun k v wx => match k with
      | 0 => v = .pointer (some ⟨w.heap.size, 0, none⟩)
      | 1 => v = .bool s
      | 2 => v = .pointer (some ⟨w.heap.size + 1, 0, none⟩)
      | 3 => v = .bool s'
      | 4 => v = .bool (s != s')
      | 5 => v = .pointer (some ⟨w.heap.size, 1, none⟩)
      | 6 => v = .slice A n c
      | 7 => v = .pointer (some ⟨w.heap.size + 1, 1, none⟩)
      | 8 => v = .slice A' n' c'
      | 9 => ∃ A2 n2 c2, v = .slice A2 n2 c2 ∧ NN wx A2 n2 c2 (limbs (x.natAbs * y.natAbs)) (x.natAbs * y.natAbs) K
      | _ => ∃ A2 n2 c2, v = .agg #[.bool (sg z), .slice A2 n2 c2] ∧ ZZ wx (sg z) A2 n2 c2 (limbs z.natAbs) z K)
    (fun _ => false) (by kernel_rfl) ?haF rfl (by kernel_rfl) (by kernel_rfl) (fun _ _ _ _ _ h => h) ?hSb ?hPb ?hS ?hop ?hfin
  case haF =>
    intro vals
    simp only [fillAll, List.getElem?_cons_zero, List.getElem?_cons_succ, Act.put, List.setIfInBounds_toArray, List.set_cons_zero, List.set_cons_succ]
    exact rfl
  case hSb => exact fun wx w2 hb hS => below_two hS hb
  case hPb =>
    intro k v wa wb hb h
    match k, h with
    | 0, h => exact h
    | 1, h => exact h
    | 2, h => exact h
    | 3, h => exact h
    | 4, h => exact h
    | 5, h => exact h
    | 6, h => exact h
    | 7, h => exact h
    | 8, h => exact h
    | 9, ⟨A2, n2, c2, h1, h2⟩ => exact ⟨A2, n2, c2, h1, h2.below hb⟩
    | _ + 10, ⟨A2, n2, c2, h1, h2⟩ => exact ⟨A2, n2, c2, h1, h2.below hb⟩
  case hS => exact (Below.refl _ _).drew
  case hop =>
    refine .cons (k := 0) ?_ (.cons (k := 1) ?_ (.cons (k := 2) ?_ (.cons (k := 3) ?_ (.cons (k := 4) ?_ (.cons (k := 5) ?_ (.cons (k := 6) ?_ (.cons (k := 7) ?_ (.cons (k := 8) ?_ (.cons (k := 9) ?_ (.cons (k := 10) ?_ (.nil)))))))))))
    all_goals intro vals wr hS hd KC hK
    all_goals (show Oper.wp _ _ _ _ _ _; dsimp only)
    · go_simp
      refine hK _ _ rfl (Below.refl _ _) rfl (fun h => by cases h)
    · have d0 : vals 0 = _ := hd 0 (by decide +kernel)
      rw [d0]
      have c0 := (HR0.out.below hS).c0
      go_simp
      refine hK _ _ rfl (Below.refl _ _) rfl (fun h => by cases h)
    · go_simp
      refine hK _ _ rfl (Below.refl _ _) rfl (fun h => by cases h)
    · have d2 : vals 2 = _ := hd 2 (by decide +kernel)
      rw [d2]
      have c0 := (HR1.out.below hS).c0
      go_simp
      refine hK _ _ rfl (Below.refl _ _) rfl (fun h => by cases h)
    · have d1 : vals 1 = _ := hd 1 (by decide +kernel)
      have d3 : vals 3 = _ := hd 3 (by decide +kernel)
      rw [d1, d3]
      go_simp
      refine hK _ _ rfl (Below.refl _ _) (by first | rfl | (simp)) (fun h => by cases h)
    · go_simp
      refine hK _ _ rfl (Below.refl _ _) rfl (fun h => by cases h)
    · have d5 : vals 5 = _ := hd 5 (by decide +kernel)
      rw [d5]
      have c0 := (HR0.out.below hS).c1
      go_simp
      refine hK _ _ rfl (Below.refl _ _) rfl (fun h => by cases h)
    · go_simp
      refine hK _ _ rfl (Below.refl _ _) rfl (fun h => by cases h)
    · have d7 : vals 7 = _ := hd 7 (by decide +kernel)
      rw [d7]
      have c0 := (HR1.out.below hS).c1
      go_simp
      refine hK _ _ rfl (Below.refl _ _) rfl (fun h => by cases h)
    · have d6 : vals 6 = _ := hd 6 (by decide +kernel)
      have d8 : vals 8 = _ := hd 8 (by decide +kernel)
      rw [d6, d8]
      go_simp
      go_at_call 41
      with_reducible refine (mulOf_c (HN.out.below hS) (HM.out.below hS) K (by omega) (by omega) h3).mono ?_
      rintro e w2 ⟨A_r, n_r, c_r, rfl, h_r, bn_r⟩
      refine hK _ _ rfl bn_r ⟨_, _, _, rfl, h_r⟩ (fun h => by cases h)
    · have d4 : vals 4 = _ := hd 4 (by decide +kernel)
      obtain ⟨A_m, n_m, c_m, d9, h_m⟩ := hd 9 (by decide +kernel)
      rw [d4, d9]
      go_simp
      go_at_call 62
      with_reducible refine (signed_c h_m _ z (by first | exact HS.out | simpa using HS.out)).mono ?_
      rintro e w2 ⟨rfl, h_r, bn_r⟩
      refine hK _ _ rfl bn_r ⟨_, _, _, rfl, h_r⟩ (fun h => by cases h)
  case hfin =>
    intro vals wr hS hP hne
    obtain ⟨A2, n2, c2, ez, h3⟩ := hP 10 (by decide)
    have hZ3 := HZ.out.below hS
    obtain ⟨e0, e1, f0, f1⟩ := hZ3.cells
    try dsimp only
    rw [ez]
    have HF := Lib.hid (hZ3.fill (.bool (sg z)) (.slice A2 n2 c2))
    have HP := Lib.hid (h3.put hZ3 (.bool (sg z)) (.slice A2 n2 c2))
    have HB := Lib.hid (below_fill (g := w.heap.size + 1 + 1) (below_two HW.out hS) (by omega) (.bool (sg z)) (.slice A2 n2 c2))
    refine wpAny_ready (rs := [11]) (by kernel_rfl) (by simp) (AllReady.cons rfl (fun KC hK => ?_) AllReady.nil)
    go_simp
    refine hK _ _ ?_
    clear hK KC
    refine wpAny_done (by kernel_rfl) ?_ _
    go_wp2
    refine bodyPost_ret (results_cell_row rfl _ _ (w.heap.size + 1 + 1) 26 #[.bool (sg z), .slice A2 n2 c2] (0, 0) _ rfl HF.out Tryz.underlying26 rfl int_size) rfl ?_
    exact ⟨A2, n2, c2, rfl, HP.out, HB.out⟩
end

end Go.Proofs.YtjpoolddgocbbaaGreatDoor

/- What package whole's Trim answers, as a contract over memory: whole numbers in the shortest limbs, 0 not below 0. Conditions: sizes of at most so many limbs; the table of powers of ten where texts are made or read. -/
namespace Go.Proofs.YtjpoolddgocbbaaGreatDoor
open Go.RowKit Limb
set_option linter.unusedVariables false
section
variable {w : World} {s s' : Bool} {A A' : Option Addr} {n c n' c' : Nat} {xs ys : List Nat} {x y : Int} {L L' : Nat}
set_option maxHeartbeats 4000000 in
set_option maxRecDepth 100000 in
theorem wTrim_c (hx : ZZ w s A n c xs x L) (h1 : L ≤ 100000) :
    Calls Tryz.prog 70 #[.agg #[.bool s, .slice A n c]] w fun e w' => ∃ A2 n2 c2, e = .returned (.agg #[.bool (sg x), .slice A2 n2 c2]) ∧ ZZ w' (sg x) A2 n2 c2 (limbs x.natAbs) x L ∧ Below w.heap.size w w' := by
  have HS := Lib.hid hx.zof
  have b0 := below_new w (.cells #[Value.bool s, Value.slice A n c] 26)
  have bz := below_new (w.alloc (.cells #[Value.bool s, Value.slice A n c] 26)) zbox
  have HW := Lib.hid (below_two b0 bz)
  have HN := Lib.hid (hx.nn.below HW.out)
  have r0 := (row2_new w 26 (.bool s) (.slice A n c)).below bz
  have rz : ZB ((w.alloc (.cells #[Value.bool s, Value.slice A n c] 26)).alloc zbox) (w.alloc (.cells #[Value.bool s, Value.slice A n c] 26)).heap.size := row2_new (w.alloc (.cells #[Value.bool s, Value.slice A n c] 26)) _ _ _
  simp only [World.size_alloc] at rz
  clear b0 bz hx
  go_enter Tryz.func70, Tryz.ntmps70
  go_wp2
  generalize (w.alloc (.cells #[Value.bool s, Value.slice A n c] 26)).alloc zbox = w1 at *
  have HR0 := Lib.hid r0
  have c00 := r0.c0
  have c01 := r0.c1
  have HZ := Lib.hid rz
  clear r0 rz
  clear c00 c01
  refine region_free 6 1 [3, 4, 5, 6, 7, 8] ?aF (fun wx => Below w1.heap.size w1 wx) (fun k v wx => match k with
      | 0 => v = .pointer (some ⟨w.heap.size, 0, none⟩)
      | 1 => v = .bool s
      | 2 => v = .pointer (some ⟨w.heap.size, 1, none⟩)
      | 3 => v = .slice A n c
      | 4 => ∃ A2 n2 c2, v = .slice A2 n2 c2 ∧ NN wx A2 n2 c2 (limbs x.natAbs) x.natAbs L
      | _ => ∃ A2 n2 c2, v = .agg #[.bool (sg x), .slice A2 n2 c2] ∧ ZZ wx (sg x) A2 n2 c2 (limbs x.natAbs) x L)
    (fun _ => false) (by kernel_rfl) ?haF rfl (by kernel_rfl) (by kernel_rfl) (fun _ _ _ _ _ h => h) ?hSb ?hPb ?hS ?hop ?hfin
  case haF =>
    intro vals
    simp only [fillAll, List.getElem?_cons_zero, List.getElem?_cons_succ, Act.put, List.setIfInBounds_toArray, List.set_cons_zero, List.set_cons_succ]
    exact rfl
  case hSb => exact fun wx w2 hb hS => below_two hS hb
  case hPb =>
    intro k v wa wb hb h
    match k, h with
    | 0, h => exact h
    | 1, h => exact h
    | 2, h => exact h
    | 3, h => exact h
    | 4, ⟨A2, n2, c2, h1, h2⟩ => exact ⟨A2, n2, c2, h1, h2.below hb⟩
    | _ + 5, ⟨A2, n2, c2, h1, h2⟩ => exact ⟨A2, n2, c2, h1, h2.below hb⟩
  case hS => exact (Below.refl _ _).drew
  case hop =>
    refine .cons (k := 0) ?_ (.cons (k := 1) ?_ (.cons (k := 2) ?_ (.cons (k := 3) ?_ (.cons (k := 4) ?_ (.cons (k := 5) ?_ (.nil))))))
    all_goals intro vals wr hS hd KC hK
    all_goals (show Oper.wp _ _ _ _ _ _; dsimp only)
    · go_simp
      refine hK _ _ rfl (Below.refl _ _) rfl (fun h => by cases h)
    · have d0 : vals 0 = _ := hd 0 (by decide +kernel)
      rw [d0]
      have c0 := (HR0.out.below hS).c0
      go_simp
      refine hK _ _ rfl (Below.refl _ _) rfl (fun h => by cases h)
    · go_simp
      refine hK _ _ rfl (Below.refl _ _) rfl (fun h => by cases h)
    · have d2 : vals 2 = _ := hd 2 (by decide +kernel)
      rw [d2]
      have c0 := (HR0.out.below hS).c1
      go_simp
      refine hK _ _ rfl (Below.refl _ _) rfl (fun h => by cases h)
    · have d3 : vals 3 = _ := hd 3 (by decide +kernel)
      rw [d3]
      go_simp
      go_at_call 63
      with_reducible refine (trim_c (HN.out.below hS) (by omega)).mono ?_
      rintro e w2 ⟨A_r, n_r, c_r, rfl, h_r, bn_r⟩
      refine hK _ _ rfl bn_r ⟨_, _, _, rfl, h_r⟩ (fun h => by cases h)
    · have d1 : vals 1 = _ := hd 1 (by decide +kernel)
      obtain ⟨A_m, n_m, c_m, d4, h_m⟩ := hd 4 (by decide +kernel)
      rw [d1, d4]
      go_simp
      go_at_call 62
      with_reducible refine (signed_c h_m _ x (by first | exact HS.out | simpa using HS.out)).mono ?_
      rintro e w2 ⟨rfl, h_r, bn_r⟩
      refine hK _ _ rfl bn_r ⟨_, _, _, rfl, h_r⟩ (fun h => by cases h)
  case hfin =>
    intro vals wr hS hP hne
    obtain ⟨A2, n2, c2, ez, h3⟩ := hP 5 (by decide)
    have hZ3 := HZ.out.below hS
    obtain ⟨e0, e1, f0, f1⟩ := hZ3.cells
    try dsimp only
    rw [ez]
    have HF := Lib.hid (hZ3.fill (.bool (sg x)) (.slice A2 n2 c2))
    have HP := Lib.hid (h3.put hZ3 (.bool (sg x)) (.slice A2 n2 c2))
    have HB := Lib.hid (below_fill (g := w.heap.size + 1) (below_two HW.out hS) (by omega) (.bool (sg x)) (.slice A2 n2 c2))
    refine wpAny_ready (rs := [6]) (by kernel_rfl) (by simp) (AllReady.cons rfl (fun KC hK => ?_) AllReady.nil)
    go_simp
    refine hK _ _ ?_
    clear hK KC
    refine wpAny_done (by kernel_rfl) ?_ _
    go_wp2
    refine bodyPost_ret (results_cell_row rfl _ _ (w.heap.size + 1) 26 #[.bool (sg x), .slice A2 n2 c2] (0, 0) _ rfl HF.out Tryz.underlying26 rfl int_size) rfl ?_
    exact ⟨A2, n2, c2, rfl, HP.out, HB.out⟩
end

end Go.Proofs.YtjpoolddgocbbaaGreatDoor

/- What the reference's product of layer 6 answers, as a contract over memory. Conditions: sizes of at most so many limbs. -/
namespace Go.Proofs.YtjpoolddgocbbaaGreatDoor
open Go.RowKit Limb
set_option linter.unusedVariables false
theorem sg_zof {x : Int} : zOf (sg x) x.natAbs = x := by
  unfold zOf sg
  by_cases h : x < 0
  · simp [h]; omega
  · simp [h]; omega

section
variable {w : World} {s s' : Bool} {A A' : Option Addr} {n c n' c' : Nat} {xs ys : List Nat} {x y : Int} {L L' : Nat}
set_option maxHeartbeats 4000000 in
set_option maxRecDepth 100000 in
theorem refIMul_c (hx : ZZ w s A n c xs x L) (hy : ZZ w s' A' n' c' ys y L') (h1 : L ≤ 100000) (h2 : L' ≤ 100000) (z : Int) (hz : x * y = z) :
    Calls Tryz.prog 28 #[.agg #[.bool s, .slice A n c], .agg #[.bool s', .slice A' n' c']] w fun e w' => ∃ A2 n2 c2, e = .returned (.agg #[.bool (sg z), .slice A2 n2 c2]) ∧ ZZ w' (sg z) A2 n2 c2 (limbs z.natAbs) z (L + L') ∧ Below w.heap.size w w' := by
  have HS : RowKit.Hid (zOf (sg x != sg y) (x.natAbs * y.natAbs) = z) := (zOf_mul sg_zof sg_zof).trans hz
  have HX0 := Lib.hid hx
  have HY0 := Lib.hid hy
  clear hz
  have b0 := below_new w (.cells #[Value.bool s, Value.slice A n c] 26)
  have b1 := below_new (w.alloc (.cells #[Value.bool s, Value.slice A n c] 26)) (.cells #[Value.bool s', Value.slice A' n' c'] 26)
  have bz := below_new ((w.alloc (.cells #[Value.bool s, Value.slice A n c] 26)).alloc (.cells #[Value.bool s', Value.slice A' n' c'] 26)) zbox
  have HW := Lib.hid (below_two (below_two b0 b1) bz)
  have HN := Lib.hid (hx.nn.below HW.out)
  have HM := Lib.hid (hy.nn.below HW.out)
  have r0 := ((row2_new w 26 (.bool s) (.slice A n c)).below b1).below bz
  have r1 := (row2_new (w.alloc (.cells #[Value.bool s, Value.slice A n c] 26)) 26 (.bool s') (.slice A' n' c')).below bz
  have rz : ZB (((w.alloc (.cells #[Value.bool s, Value.slice A n c] 26)).alloc (.cells #[Value.bool s', Value.slice A' n' c'] 26)).alloc zbox) ((w.alloc (.cells #[Value.bool s, Value.slice A n c] 26)).alloc (.cells #[Value.bool s', Value.slice A' n' c'] 26)).heap.size := row2_new ((w.alloc (.cells #[Value.bool s, Value.slice A n c] 26)).alloc (.cells #[Value.bool s', Value.slice A' n' c'] 26)) _ _ _
  simp only [World.size_alloc] at r1 rz
  clear b0 b1 bz hx hy
  go_enter Tryz.func28, Tryz.ntmps28
  go_wp2
  have HX := Lib.hid (HX0.out.below HW.out)
  have HY := Lib.hid (HY0.out.below HW.out)
  generalize ((w.alloc (.cells #[Value.bool s, Value.slice A n c] 26)).alloc (.cells #[Value.bool s', Value.slice A' n' c'] 26)).alloc zbox = wS at *
  have HR0 := Lib.hid r0
  have c00 := r0.c0
  have c01 := r0.c1
  have HR1 := Lib.hid r1
  have c10 := r1.c0
  have c11 := r1.c1
  have HZ := Lib.hid rz
  clear r0 r1 rz
  have Hq : RowKit.Hid (w.heap.size ≤ w.heap.size + 1 + 1) := by show _ ≤ _; omega
  clear c00 c01 c10 c11
  refine region_free 13 1 [5, 6, 7, 8, 9, 10, 11, 12, 13, 14, 15, 16, 17] ?aF1 (fun wx => Below wS.heap.size wS wx) (fun k v wx => match k with
      | 0 => v = .agg #[.bool s, .slice A n c]
      | 1 => ∃ A2 n2 c2, v = .agg #[.bool (sg x), .slice A2 n2 c2] ∧ ZZ wx (sg x) A2 n2 c2 (limbs x.natAbs) x L
      | 2 => v = .bool (sg x)
      | 3 => v = .agg #[.bool s', .slice A' n' c']
      | 4 => ∃ A2 n2 c2, v = .agg #[.bool (sg y), .slice A2 n2 c2] ∧ ZZ wx (sg y) A2 n2 c2 (limbs y.natAbs) y L'
      | 5 => v = .bool (sg y)
      | 6 => v = .bool (sg x != sg y)
      | 7 => v = .pointer (some ⟨w.heap.size, 1, none⟩)
      | 8 => v = .slice A n c
      | 9 => v = .pointer (some ⟨w.heap.size + 1, 1, none⟩)
      | 10 => v = .slice A' n' c'
      | 11 => ∃ A2 n2 c2, v = .slice A2 n2 c2 ∧ NN wx A2 n2 c2 (limbs (x.natAbs * y.natAbs)) (x.natAbs * y.natAbs) (L + L')
      | _ => ∃ A2 n2 c2, v = .agg #[.bool (sg z), .slice A2 n2 c2] ∧ ZZ wx (sg z) A2 n2 c2 (limbs z.natAbs) z (L + L'))
    (fun _ => false) (by kernel_rfl) ?haF1 rfl (by kernel_rfl) (by kernel_rfl) (fun _ _ _ _ _ h => h) ?hSb1 ?hPb1 ?hS1 ?hop1 ?hfin1
  case haF1 =>
    intro vals
    simp only [fillAll, List.getElem?_cons_zero, List.getElem?_cons_succ, Act.put, List.setIfInBounds_toArray, List.set_cons_zero, List.set_cons_succ]
    exact rfl
  case hSb1 => exact fun wx w2 hb hS => below_two hS hb
  case hPb1 =>
    intro k v wa wb hb h
    match k, h with
    | 0, h => exact h
    | 1, ⟨A2, n2, c2, h1, h2⟩ => exact ⟨A2, n2, c2, h1, h2.below hb⟩
    | 2, h => exact h
    | 3, h => exact h
    | 4, ⟨A2, n2, c2, h1, h2⟩ => exact ⟨A2, n2, c2, h1, h2.below hb⟩
    | 5, h => exact h
    | 6, h => exact h
    | 7, h => exact h
    | 8, h => exact h
    | 9, h => exact h
    | 10, h => exact h
    | 11, ⟨A2, n2, c2, h1, h2⟩ => exact ⟨A2, n2, c2, h1, h2.below hb⟩
    | _ + 12, ⟨A2, n2, c2, h1, h2⟩ => exact ⟨A2, n2, c2, h1, h2.below hb⟩
  case hS1 => exact (Below.refl _ _).drew
  case hop1 =>
    refine .cons (k := 0) ?_ (.cons (k := 1) ?_ (.cons (k := 2) ?_ (.cons (k := 3) ?_ (.cons (k := 4) ?_ (.cons (k := 5) ?_ (.cons (k := 6) ?_ (.cons (k := 7) ?_ (.cons (k := 8) ?_ (.cons (k := 9) ?_ (.cons (k := 10) ?_ (.cons (k := 11) ?_ (.cons (k := 12) ?_ (.nil)))))))))))))
    all_goals intro vals wr hS hd KC hK
    all_goals (show Oper.wp _ _ _ _ _ _; dsimp only)
    · have c0 := (HR0.out.below hS).c0
      have c1 := (HR0.out.below hS).c1
      go_simp
      refine hK _ _ rfl (Below.refl _ _) (by first | rfl | simp) (fun h => by cases h)
    · have d0 : vals 0 = _ := hd 0 (by decide +kernel)
      rw [d0]
      go_simp
      go_at_call 59
      with_reducible refine (refITrim_c (HX.out.below hS) (by omega)).mono ?_
      rintro e w2 ⟨A_r, n_r, c_r, rfl, h_r, bn_r⟩
      refine hK _ _ rfl bn_r ⟨_, _, _, rfl, h_r⟩ (fun h => by cases h)
    · obtain ⟨A_1, n_1, c_1, d1, h_1⟩ := hd 1 (by decide +kernel)
      rw [d1]
      have hfld : ∀ W, (Instr.field 26 (.agg #[.bool (sg x), .slice A_1 n_1 c_1]) 0).run Tryz.prog W = .ok (.bool (sg x)) W := fun _ => by kernel_rfl
      go_simp
      refine hK _ _ rfl (Below.refl _ _) (by first | rfl | simp) (fun h => by cases h)
    · have c0 := (HR1.out.below hS).c0
      have c1 := (HR1.out.below hS).c1
      go_simp
      refine hK _ _ rfl (Below.refl _ _) (by first | rfl | simp) (fun h => by cases h)
    · have d3 : vals 3 = _ := hd 3 (by decide +kernel)
      rw [d3]
      go_simp
      go_at_call 59
      with_reducible refine (refITrim_c (HY.out.below hS) (by omega)).mono ?_
      rintro e w2 ⟨A_r, n_r, c_r, rfl, h_r, bn_r⟩
      refine hK _ _ rfl bn_r ⟨_, _, _, rfl, h_r⟩ (fun h => by cases h)
    · obtain ⟨A_4, n_4, c_4, d4, h_4⟩ := hd 4 (by decide +kernel)
      rw [d4]
      have hfld : ∀ W, (Instr.field 26 (.agg #[.bool (sg y), .slice A_4 n_4 c_4]) 0).run Tryz.prog W = .ok (.bool (sg y)) W := fun _ => by kernel_rfl
      go_simp
      refine hK _ _ rfl (Below.refl _ _) (by first | rfl | simp) (fun h => by cases h)
    · have d2 : vals 2 = _ := hd 2 (by decide +kernel)
      have d5 : vals 5 = _ := hd 5 (by decide +kernel)
      rw [d2, d5]
      go_simp
      refine hK _ _ rfl (Below.refl _ _) (by first | rfl | simp) (fun h => by cases h)
    · go_simp
      refine hK _ _ rfl (Below.refl _ _) (by first | rfl | simp) (fun h => by cases h)
    · have d7 : vals 7 = _ := hd 7 (by decide +kernel)
      rw [d7]
      have c0 := (HR0.out.below hS).c1
      go_simp
      refine hK _ _ rfl (Below.refl _ _) (by first | rfl | simp) (fun h => by cases h)
    · go_simp
      refine hK _ _ rfl (Below.refl _ _) (by first | rfl | simp) (fun h => by cases h)
    · have d9 : vals 9 = _ := hd 9 (by decide +kernel)
      rw [d9]
      have c0 := (HR1.out.below hS).c1
      go_simp
      refine hK _ _ rfl (Below.refl _ _) (by first | rfl | simp) (fun h => by cases h)
    · have d8 : vals 8 = _ := hd 8 (by decide +kernel)
      have d10 : vals 10 = _ := hd 10 (by decide +kernel)
      rw [d8, d10]
      go_simp
      go_at_call 60
      with_reducible refine (refMul_c (HX.out.nn.below hS) (HY.out.nn.below hS) (by omega) (by omega)).mono ?_
      rintro e w2 ⟨A_r, n_r, c_r, rfl, h_r, bn_r⟩
      refine hK _ _ rfl bn_r ⟨_, _, _, rfl, h_r⟩ (fun h => by cases h)
    · have d6 : vals 6 = _ := hd 6 (by decide +kernel)
      obtain ⟨A_11, n_11, c_11, d11, h_11⟩ := hd 11 (by decide +kernel)
      rw [d6, d11]
      go_simp
      go_at_call 25
      with_reducible refine (refMake_c h_11 (by omega) z (by first | exact HS.out | simpa using HS.out)).mono ?_
      rintro e w2 ⟨A_r, n_r, c_r, rfl, h_r, bn_r⟩
      refine hK _ _ rfl bn_r ⟨_, _, _, rfl, h_r⟩ (fun h => by cases h)
  case hfin1 =>
    intro vals wr hS hP hne
    obtain ⟨A2, n2, c2, ez, h3⟩ := hP 12 (by decide)
    have hZ3 := HZ.out.below hS
    obtain ⟨e0, e1, f0, f1⟩ := hZ3.cells
    try dsimp only
    rw [ez]
    have HF := Lib.hid (hZ3.fill (.bool (sg z)) (.slice A2 n2 c2))
    have HP := Lib.hid (h3.put hZ3 (.bool (sg z)) (.slice A2 n2 c2))
    have HB := Lib.hid (below_fill (below_two HW.out hS) Hq.out (.bool (sg z)) (.slice A2 n2 c2))
    refine wpAny_ready (rs := [13]) (by kernel_rfl) (by simp) (AllReady.cons rfl (fun KC hK => ?_) AllReady.nil)
    go_simp
    refine hK _ _ ?_
    clear hK KC
    refine wpAny_done (by kernel_rfl) ?_ _
    go_wp2
    refine bodyPost_ret (results_cell_row rfl _ _ (w.heap.size + 1 + 1) 26 #[.bool (sg z), .slice A2 n2 c2] (0, 0) _ rfl HF.out Tryz.underlying26 rfl int_size) rfl ?_
    exact ⟨A2, n2, c2, rfl, HP.out, HB.out⟩

end
end Go.Proofs.YtjpoolddgocbbaaGreatDoor

/- What the reference's sum of layer 6 answers, as a contract over memory. Conditions: sizes of at most so many limbs. -/
namespace Go.Proofs.YtjpoolddgocbbaaGreatDoor
open Go.RowKit Limb
set_option linter.unusedVariables false
theorem lt_of_sum {w : World} {A : Option Addr} {n c a L K : Nat} {xs : List Nat} (h : NN w A n c xs a L) (hK : L ≤ K) : a < 4294967296 ^ K :=
  Nat.lt_of_lt_of_le (lt_pow h) (Nat.pow_le_pow_right (by decide) hK)

end Go.Proofs.YtjpoolddgocbbaaGreatDoor

/- What the reference of layer 7 answers (Times, Plus), as contracts over memory. Conditions: sizes of at most so many limbs. -/
namespace Go.Proofs.YtjpoolddgocbbaaGreatDoor
open Go.RowKit Limb
set_option linter.unusedVariables false
section
variable {w : World} {s s' : Bool} {A B A' B' : Option Addr} {n c m d n' c' m' d' : Nat} {xs ys xs' ys' : List Nat} {x y : Int} {a b L L' : Nat}
set_option maxHeartbeats 4000000 in
set_option maxRecDepth 100000 in
theorem refTimes_c (hx : ZZ w s A n c xs x L) (hy : NN w B m d ys a L) (hx' : ZZ w s' A' n' c' xs' y L') (hy' : NN w B' m' d' ys' b L') (h1 : L ≤ 1000) (h2 : L' ≤ 1000) (ha : a ≠ 0) (hb : b ≠ 0) (q : Rat) (hq : mkRat (x * y) (a * b) = q) :
    Calls Tryz.prog 75 #[.agg #[.bool s, .slice A n c, .slice B m d], .agg #[.bool s', .slice A' n' c', .slice B' m' d']] w fun e w' => ∃ A2 n2 c2 B2 m2 d2, e = .returned (.agg #[.bool (sg q.num), .slice A2 n2 c2, .slice B2 m2 d2]) ∧ ZZ w' (sg q.num) A2 n2 c2 (limbs q.num.natAbs) q.num (L + L') ∧ NN w' B2 m2 d2 (limbs q.den) q.den (L + L') ∧ Below w.heap.size w w' := by
  have hab : a * b ≠ 0 := Nat.mul_ne_zero ha hb
  have b0 := below_new w (.cells #[Value.bool s, Value.slice A n c, Value.slice B m d] 28)
  have b1 := below_new (w.alloc (.cells #[Value.bool s, Value.slice A n c, Value.slice B m d] 28)) (.cells #[Value.bool s', Value.slice A' n' c', Value.slice B' m' d'] 28)
  have b2 := below_new ((w.alloc (.cells #[Value.bool s, Value.slice A n c, Value.slice B m d] 28)).alloc (.cells #[Value.bool s', Value.slice A' n' c', Value.slice B' m' d'] 28)) (.cells #[Value.bool false, Value.slice none 0 0, Value.slice none 0 0] 28)
  have HW := Lib.hid (below_two (below_two b0 b1) b2)
  have HX := Lib.hid (hx.below HW.out)
  have HY := Lib.hid (hy.below HW.out)
  have HX1 := Lib.hid (hx'.below HW.out)
  have HY1 := Lib.hid (hy'.below HW.out)
  have r0 := ((row3_new w 28 (.bool s) (.slice A n c) (.slice B m d)).below b1).below b2
  have r1 := (row3_new (w.alloc (.cells #[Value.bool s, Value.slice A n c, Value.slice B m d] 28)) 28 (.bool s') (.slice A' n' c') (.slice B' m' d')).below b2
  have rz := row3_new ((w.alloc (.cells #[Value.bool s, Value.slice A n c, Value.slice B m d] 28)).alloc (.cells #[Value.bool s', Value.slice A' n' c', Value.slice B' m' d'] 28)) 28 (.bool false) (.slice none 0 0) (.slice none 0 0)
  simp only [World.size_alloc] at r1 rz
  clear b0 b1 b2 hx hy hx' hy'
  go_enter Tryz.func75, Tryz.ntmps75
  go_wp2
  generalize ((w.alloc (.cells #[Value.bool s, Value.slice A n c, Value.slice B m d] 28)).alloc (.cells #[Value.bool s', Value.slice A' n' c', Value.slice B' m' d'] 28)).alloc (.cells #[Value.bool false, Value.slice none 0 0, Value.slice none 0 0] 28) = wS at *
  have HR0 := Lib.hid r0
  have HR1 := Lib.hid r1
  have HZ := Lib.hid rz
  have Hq : RowKit.Hid (w.heap.size ≤ w.heap.size + 1 + 1) := by show _ ≤ _; omega
  clear r0 r1 rz
  refine region_free 11 1 [5, 6, 7, 8, 9, 10, 11, 12, 13, 14, 15] ?aF2 (fun wx => Below wS.heap.size wS wx) (fun k vv wx => match k with
      | 0 => vv = .pointer (some ⟨w.heap.size, 0, none⟩)
      | 1 => vv = .agg #[.bool s, .slice A n c]
      | 2 => vv = .pointer (some ⟨w.heap.size + 1, 0, none⟩)
      | 3 => vv = .agg #[.bool s', .slice A' n' c']
      | 4 => ∃ (e0 : Option Addr) (e1 : Nat) (e2 : Nat), vv = .agg #[.bool (sg (x * y)), .slice e0 e1 e2] ∧ ZZ wx (sg (x * y)) e0 e1 e2 (limbs (x * y).natAbs) (x * y) (L + L')
      | 5 => vv = .pointer (some ⟨w.heap.size, 2, none⟩)
      | 6 => vv = .slice B m d
      | 7 => vv = .pointer (some ⟨w.heap.size + 1, 2, none⟩)
      | 8 => vv = .slice B' m' d'
      | 9 => ∃ (e0 : Option Addr) (e1 : Nat) (e2 : Nat), vv = .slice e0 e1 e2 ∧ NN wx e0 e1 e2 (limbs (a * b)) (a * b) (L + L')
      | _ => ∃ (e0 : Option Addr) (e1 : Nat) (e2 : Nat) (e3 : Option Addr) (e4 : Nat) (e5 : Nat), vv = .agg #[.bool (sg q.num), .slice e0 e1 e2, .slice e3 e4 e5] ∧ ZZ wx (sg q.num) e0 e1 e2 (limbs q.num.natAbs) q.num (L + L') ∧ NN wx e3 e4 e5 (limbs q.den) q.den (L + L'))
    (fun k => false) (by kernel_rfl) ?haF2 rfl (by kernel_rfl) (by kernel_rfl) (fun _ _ _ _ _ h => h) ?hSb2 ?hPb2 ?hS2 ?hop2 ?hfin2
  case haF2 =>
    intro vals
    simp only [fillAll, List.getElem?_cons_zero, List.getElem?_cons_succ, Act.put, List.setIfInBounds_toArray, List.set_cons_zero, List.set_cons_succ]
    exact rfl
  case hSb2 => exact fun wx w2 hb hS => below_two hS hb
  case hPb2 =>
    intro k v wa wb hb h
    match k, h with
    | 0, h => exact h
    | 1, h => exact h
    | 2, h => exact h
    | 3, h => exact h
    | 4, ⟨e0, e1, e2, h1, g0⟩ => exact ⟨e0, e1, e2, h1, g0.below hb⟩
    | 5, h => exact h
    | 6, h => exact h
    | 7, h => exact h
    | 8, h => exact h
    | 9, ⟨e0, e1, e2, h1, g0⟩ => exact ⟨e0, e1, e2, h1, g0.below hb⟩
    | _ + 10, ⟨e0, e1, e2, e3, e4, e5, h1, g0, g1⟩ => exact ⟨e0, e1, e2, e3, e4, e5, h1, g0.below hb, g1.below hb⟩
  case hS2 => exact (Below.refl _ _).drew
  case hop2 =>
    refine .cons (k := 0) ?_ (.cons (k := 1) ?_ (.cons (k := 2) ?_ (.cons (k := 3) ?_ (.cons (k := 4) ?_ (.cons (k := 5) ?_ (.cons (k := 6) ?_ (.cons (k := 7) ?_ (.cons (k := 8) ?_ (.cons (k := 9) ?_ (.cons (k := 10) ?_ (.nil)))))))))))
    all_goals intro vals wr hS hd KC hK
    all_goals (show Oper.wp _ _ _ _ _ _; dsimp only)
    · go_simp
      refine hK _ _ rfl (Below.refl _ _) (by first | rfl | simp) (fun h => by cases h)
    · have d0 : vals 0 = _ := hd 0 (by decide +kernel)
      rw [d0]
      have z0 := (HR0.out.below hS).c0
      have z1 := (HR0.out.below hS).c1
      go_simp
      refine hK _ _ rfl (Below.refl _ _) (by first | rfl | simp) (fun h => by cases h)
    · go_simp
      refine hK _ _ rfl (Below.refl _ _) (by first | rfl | simp) (fun h => by cases h)
    · have d2 : vals 2 = _ := hd 2 (by decide +kernel)
      rw [d2]
      have z0 := (HR1.out.below hS).c0
      have z1 := (HR1.out.below hS).c1
      go_simp
      refine hK _ _ rfl (Below.refl _ _) (by first | rfl | simp) (fun h => by cases h)
    · have d1 : vals 1 = _ := hd 1 (by decide +kernel)
      have d3 : vals 3 = _ := hd 3 (by decide +kernel)
      rw [d1, d3]
      go_simp
      go_at_call 28
      with_reducible refine (refIMul_c (HX.out.below hS) (HX1.out.below hS) (by omega) (by omega) (x * y) rfl).mono ?_
      rintro e w2 ⟨r0, r1, r2, rfl, f0, bn_r⟩
      refine hK _ _ rfl bn_r ⟨_, _, _, rfl, f0⟩ (fun h => by cases h)
    · go_simp
      refine hK _ _ rfl (Below.refl _ _) (by first | rfl | simp) (fun h => by cases h)
    · have d5 : vals 5 = _ := hd 5 (by decide +kernel)
      rw [d5]
      have z0 := (HR0.out.below hS).c2
      go_simp
      refine hK _ _ rfl (Below.refl _ _) (by first | rfl | simp) (fun h => by cases h)
    · go_simp
      refine hK _ _ rfl (Below.refl _ _) (by first | rfl | simp) (fun h => by cases h)
    · have d7 : vals 7 = _ := hd 7 (by decide +kernel)
      rw [d7]
      have z0 := (HR1.out.below hS).c2
      go_simp
      refine hK _ _ rfl (Below.refl _ _) (by first | rfl | simp) (fun h => by cases h)
    · have d6 : vals 6 = _ := hd 6 (by decide +kernel)
      have d8 : vals 8 = _ := hd 8 (by decide +kernel)
      rw [d6, d8]
      go_simp
      go_at_call 60
      with_reducible refine (refMul_c (HY.out.below hS) (HY1.out.below hS) (by omega) (by omega)).mono ?_
      rintro e w2 ⟨r0, r1, r2, rfl, f0, bn_r⟩
      refine hK _ _ rfl bn_r ⟨_, _, _, rfl, f0⟩ (fun h => by cases h)
    · obtain ⟨A_4_0, n_4_1, n_4_2, d4, h_4_0⟩ := hd 4 (by decide +kernel)
      obtain ⟨A_9_0, n_9_1, n_9_2, d9, h_9_0⟩ := hd 9 (by decide +kernel)
      rw [d4, d9]
      go_simp
      go_at_call 58
      with_reducible refine (refWide_c h_4_0 h_9_0 (by omega) (by omega) hab q hq).mono ?_
      rintro e w2 ⟨r0, r1, r2, r3, r4, r5, rfl, f0, f1, bn_r⟩
      refine hK _ _ rfl bn_r ⟨_, _, _, _, _, _, rfl, f0, f1⟩ (fun h => by cases h)
  case hfin2 =>
    intro vals wr hS hP hne
    obtain ⟨y0, y1, y2, y3, y4, y5, ez, h3_0, h3_1⟩ := hP 10 (by decide)
    have hZ3 := HZ.out.below hS
    have hNo := hZ3.noLimb (by intro v e; cases e) (by intro v e; cases e) (by intro v e; cases e)
    have e0 := hZ3.c0
    have e1 := hZ3.c1
    have e2 := hZ3.c2
    have f0 := hZ3.free 0
    have f1 := hZ3.free 1
    have f2 := hZ3.free 2
    have HF := Lib.hid (hZ3.fill (.bool (sg q.num)) (.slice y0 y1 y2) (.slice y3 y4 y5))
    have HP1 := Lib.hid (h3_0.fillR3 hNo (.bool (sg q.num)) (.slice y0 y1 y2) (.slice y3 y4 y5))
    have HP2 := Lib.hid (h3_1.fillR3 hNo (.bool (sg q.num)) (.slice y0 y1 y2) (.slice y3 y4 y5))
    have HB := Lib.hid (below_fill3' (below_two HW.out hS) Hq.out (.bool (sg q.num)) (.slice y0 y1 y2) (.slice y3 y4 y5))
    try dsimp only
    rw [ez]
    refine wpAny_ready (rs := [11]) (by kernel_rfl) (by simp) (AllReady.cons rfl (fun KC hK => ?_) AllReady.nil)
    go_simp
    refine hK _ _ ?_
    clear hK KC
    refine wpAny_done (by kernel_rfl) ?_ _
    go_wp2
    refine bodyPost_ret (results_cell_row rfl _ _ _ 28 #[.bool (sg q.num), .slice y0 y1 y2, .slice y3 y4 y5] (0, 0) _ rfl HF.out Tryz.underlying28 rfl rat_size) rfl ?_
    exact ⟨y0, y1, y2, y3, y4, y5, rfl, HP1.out, HP2.out, HB.out⟩

end
end Go.Proofs.YtjpoolddgocbbaaGreatDoor
