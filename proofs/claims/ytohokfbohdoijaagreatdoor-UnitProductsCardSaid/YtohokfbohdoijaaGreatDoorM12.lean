/- Part 12 of the texts that the statements of this seat lean on: mathematics, and what functions answer, as contracts over memory; each part says its own conditions. -/
import Derived.Test.YtohokfbohdoijaaGreatDoorM11
/- Mathematics of units' texts: a text with more behind it, a text from another start, a name alone, a name and an exponent. No condition. -/
namespace Go.Proofs.YtohokfbohdoijaaGreatDoor
open Go.RowKit Limb
set_option linter.unusedVariables false
/-! ### more behind -/
def isStop (c : Nat) : Bool := !(decide (c = 32) || isWd c || decide (c = 94) || decide (c = 45))
def moreP {α : Type} (X : List Nat) : PR (α × List Nat) → PR (α × List Nat)
 | .ok (a, l) => .ok (a, l ++ X)
 | .bad e r => .bad e (r + X.length)
section
variable {c : Nat} {r : List Nat}
theorem stop_facts (h : isStop c = true) : c ≠ 32 ∧ isWd c = false ∧ isLet c = false ∧ isDig c = false ∧ c ≠ 94 ∧ c ≠ 45 ∧ c ≠ 49 := by
 unfold isStop at h
 simp only [Bool.not_eq_true', Bool.or_eq_false_iff, decide_eq_false_iff_not] at h
 obtain ⟨⟨⟨h1, h2⟩, h3⟩, h4⟩ := h
 have h5 := h2
 unfold isWd at h5
 simp only [Bool.or_eq_false_iff] at h5
 refine ⟨h1, h2, h5.1.1, h5.1.2, h3, h4, ?_⟩
 rintro rfl
 exact absurd h5.1.2 (by decide)
theorem while_app {p : Nat → Bool} (h : p c = false) : ∀ l : List Nat, (l ++ c :: r).takeWhile p = l.takeWhile p
 | [] => by rw [List.nil_append, List.takeWhile_cons_of_neg (by rw [h]; decide)]; rfl
 | a :: l => by
  by_cases ha : p a = true
  · rw [List.cons_append, List.takeWhile_cons_of_pos ha, List.takeWhile_cons_of_pos ha, while_app h l]
  · rw [List.cons_append, List.takeWhile_cons_of_neg ha, List.takeWhile_cons_of_neg ha]
theorem drop_app {p : Nat → Bool} (h : p c = false) : ∀ l : List Nat, (l ++ c :: r).dropWhile p = l.dropWhile p ++ c :: r
 | [] => by rw [List.nil_append, List.dropWhile_cons_of_neg (by rw [h]; decide)]; rfl
 | a :: l => by
  by_cases ha : p a = true
  · rw [List.cons_append, List.dropWhile_cons_of_pos ha, List.dropWhile_cons_of_pos ha, drop_app h l]
  · rw [List.cons_append, List.dropWhile_cons_of_neg ha, List.dropWhile_cons_of_neg ha]; rfl
variable (hs : isStop c = true)
include hs
theorem skip_app (l : List Nat) : skipR (l ++ c :: r) = skipR l ++ c :: r := drop_app (p := fun c => decide (c = 32)) (by simpa using (stop_facts hs).1) l
theorem name_app (l : List Nat) : nameN (l ++ c :: r) = nameN l := by
 cases l with
 | nil => rw [List.nil_append, nameN_cons, if_neg (by rw [(stop_facts hs).2.2.1]; decide)]; rfl
 | cons a l => rw [List.cons_append, nameN_cons, nameN_cons, while_app (stop_facts hs).2.1]
theorem run_app (l : List Nat) : litRun (l ++ c :: r) = litRun l := by
 unfold litRun
 rw [while_app (stop_facts hs).2.2.2.1]
theorem dig_app (l : List Nat) : digR (l ++ c :: r) = moreP (c :: r) (digR l) := by
 have hle : litRun l ≤ l.length := (List.takeWhile_prefix _).length_le
 unfold digR
 rw [run_app hs]
 split
 · show PR.bad 12 _ = PR.bad 12 _
   rw [List.length_append]
 · split
   · show PR.bad 12 _ = PR.bad 12 _
     congr 1
     rw [List.length_append]; omega
   · show PR.ok _ = PR.ok _
     rw [List.take_append_of_le_length hle, List.drop_append_of_le_length hle]
theorem expS_app (l : List Nat) : expS (l ++ c :: r) = moreP (c :: r) (expS l) := by
 obtain ⟨f1, f2, f3, f4, f5, f6, f7⟩ := stop_facts hs
 cases l with
 | nil =>
  rw [List.nil_append, expS_cons, if_neg f6]
  have e : litRun (c :: r) = 0 := by unfold litRun; rw [List.takeWhile_cons_of_neg (by rw [f4]; decide)]; rfl
  unfold digR
  rw [if_pos e]
  show PR.bad 12 _ = PR.bad 12 _
  rw [Nat.zero_add]
 | cons a l =>
  rw [List.cons_append, expS_cons, expS_cons]
  split
  · rw [skip_app hs, dig_app hs]
    cases digR (skipR l) with
    | bad e k => rfl
    | ok y => rfl
  · rw [← List.cons_append, dig_app hs]
theorem expR_app (l : List Nat) : expR (l ++ c :: r) = moreP (c :: r) (expR l) := by
 unfold expR
 rw [skip_app hs]
 cases skipR l with
 | nil =>
  rw [List.nil_append, expT_cons, if_neg (stop_facts hs).2.2.2.2.1]
  rfl
 | cons a l =>
  rw [List.cons_append, expT_cons, expT_cons]
  split
  · rw [skip_app hs, expS_app hs]
  · rfl
theorem powT_app {p u : UQ} {dir : Int} {at0 : Nat} (R : PR (Int × List Nat)) : powT p u dir (at0 + (c :: r).length) (moreP (c :: r) R) = moreP (c :: r) (powT p u dir at0 R) := by
 cases R with
 | bad e k => rfl
 | ok y =>
  obtain ⟨n, l⟩ := y
  unfold powT moreP
  dsimp only
  split
  · rfl
  · cases mulU p u (dir * n) with
    | none => rfl
    | some q => dsimp only; rw [skip_app hs]
theorem piece_app {M : Tb} {dir : Int} {p : UQ} (l : List Nat) : pieceR M dir p (l ++ c :: r) = moreP (c :: r) (pieceR M dir p l) := by
 obtain ⟨f1, f2, f3, f4, f5, f6, f7⟩ := stop_facts hs
 unfold pieceR
 rw [skip_app hs]
 cases skipR l with
 | nil =>
  rw [List.nil_append, pieceT_cons, if_neg f7, if_neg (by rw [f3]; decide)]
  show PR.bad 12 _ = PR.bad 12 _
  rw [Nat.zero_add]; rfl
 | cons a l =>
  have hn := name_app (r := r) hs (a :: l)
  have hle := nameN_le (a :: l)
  rw [List.cons_append] at hn ⊢
  rw [pieceT_cons, pieceT_cons]
  split
  · rw [skip_app hs]; rfl
  · split
    · rw [hn]
      split
      · show PR.bad 12 _ = PR.bad 12 _
        congr 1
        have : nameN (a :: l) ≤ l.length + 1 := by simpa using hle
        rw [List.length_append]; omega
      · rw [← List.cons_append, List.take_append_of_le_length hle, List.drop_append_of_le_length hle, List.length_append]
        cases M.lookup ((a :: l).take (nameN (a :: l))) with
        | none =>
         show PR.bad 15 _ = PR.bad 15 _
         congr 1; omega
        | some u =>
         dsimp only
         rw [expR_app hs, show l.length + (c :: r).length + 1 = l.length + 1 + (c :: r).length by omega, powT_app hs]
    · show PR.bad 12 _ = PR.bad 12 _
      congr 1
      rw [List.length_append]; omega
end
theorem parse_fuel {M : Tb} (hM : TbOk M) : ∀ (f f' : Nat) (dir : Int) (p : UQ) (l : List Nat), okU p → l.length < f → l.length < f' → parseR M f dir p l = parseR M f' dir p l
 | 0, _, _, _, l, _, h, _ => absurd h (by omega)
 | f + 1, 0, _, _, l, _, _, h => absurd h (by omega)
 | f + 1, f' + 1, dir, p, l, hp, h1, h2 => by
  rw [parseR_succ, parseR_succ]
  cases e : pieceR M dir p l with
  | bad x k => rfl
  | ok y =>
   obtain ⟨q, l2⟩ := y
   obtain ⟨hq, hl⟩ := pieceR_ok hM hp e
   cases l2 with
   | nil => rfl
   | cons a l3 =>
    simp only [List.length_cons] at hl
    dsimp only
    split
    · exact parse_fuel hM f f' 1 q l3 hq (by omega) (by omega)
    · split
      · exact parse_fuel hM f f' (-1) q l3 hq (by omega) (by omega)
      · rfl
def onP (M : Tb) (f : Nat) (d : Int) (r : List Nat) : PR UQ → PR UQ
 | .bad e k => .bad e (k + (r.length + 1))
 | .ok q => parseR M f d q r
theorem parse_app {M : Tb} (hM : TbOk M) {c : Nat} {r : List Nat} {d : Int} (hc : (c = 42 ∧ d = 1) ∨ (c = 47 ∧ d = -1)) : ∀ (f F : Nat) (dir : Int) (p : UQ) (l : List Nat), okU p → l.length + r.length + 1 < f → r.length < F →
 parseR M f dir p (l ++ c :: r) = onP M F d r (parseR M f dir p l)
 | 0, _, _, _, l, _, h, _ => absurd h (by omega)
 | f + 1, F, dir, p, l, hp, h1, h2 => by
  have hs : isStop c = true := by rcases hc with ⟨rfl, _⟩ | ⟨rfl, _⟩ <;> decide
  rw [parseR_succ, parseR_succ, piece_app hs]
  cases e : pieceR M dir p l with
  | bad x k => rfl
  | ok y =>
   obtain ⟨q, l2⟩ := y
   obtain ⟨hq, hl⟩ := pieceR_ok hM hp e
   cases l2 with
   | nil =>
    simp only [moreP, List.nil_append]
    rcases hc with ⟨rfl, rfl⟩ | ⟨rfl, rfl⟩
    · rw [if_pos rfl]; exact parse_fuel hM f F 1 q r hq (by omega) h2
    · rw [if_neg (by decide), if_pos rfl]; exact parse_fuel hM f F (-1) q r hq (by omega) h2
   | cons a l3 =>
    simp only [List.length_cons] at hl
    simp only [moreP, List.cons_append]
    split
    · exact parse_app hM hc f F 1 q l3 hq (by omega) h2
    · split
      · exact parse_app hM hc f F (-1) q l3 hq (by omega) h2
      · show PR.bad 12 _ = PR.bad 12 _
        congr 1
        rw [List.length_append, List.length_cons]; omega
theorem parseU_app {M : Tb} (hM : TbOk M) {c : Nat} {l r : List Nat} {d : Int} (hc : (c = 42 ∧ d = 1) ∨ (c = 47 ∧ d = -1)) : parseU M (l ++ c :: r) = onP M (r.length + 1) d r (parseU M l) := by
 unfold parseU
 rw [parse_app hM hc _ (r.length + 1) 1 oneU l oneU_ok (by rw [List.length_append, List.length_cons]; omega) (by omega)]
 congr 1
 exact parse_fuel hM _ _ 1 oneU l oneU_ok (by rw [List.length_append, List.length_cons]; omega) (by omega)
/-! ### from another start -/
def mulX (x p : UQ) : UQ := (x.1 * p.1, addD x.2 p.2)
theorem addD_assoc : ∀ a b c : List Int, addD (addD a b) c = addD a (addD b c)
 | [], b, c => by simp
 | a :: l, [], c => by simp
 | a :: l, b :: m, [] => by simp
 | a :: l, b :: m, c :: n => by
  show (a + b + c) :: addD (addD l m) n = (a + (b + c)) :: addD l (addD m n)
  rw [Int.add_assoc, addD_assoc l m n]
theorem mulU_from {x p u q : UQ} {k : Int} (h : mulU p u k = some q) : mulU (mulX x p) u k = some (mulX x q) ∨ mulU (mulX x p) u k = none := by
 rw [mulU_cases] at h ⊢
 split at h
 · cases h
   split
   · left
     unfold mulX
     simp only [Rat.mul_assoc, addD_assoc]
   · right; rfl
 · cases h
def fromP (x : UQ) : PR (UQ × List Nat) → PR (UQ × List Nat) → Prop
 | .ok (q, l2), R => R = .ok (mulX x q, l2) ∨ ∃ r, R = .bad 2 r
 | .bad e r, R => e = 2 ∨ R = .bad e r
theorem piece_from {M : Tb} {dir : Int} {x p : UQ} {l : List Nat} : fromP x (pieceR M dir p l) (pieceR M dir (mulX x p) l) := by
 unfold pieceR
 cases skipR l with
 | nil => exact .inr rfl
 | cons a l =>
  rw [pieceT_cons, pieceT_cons]
  by_cases h1 : a = 49
  · rw [if_pos h1, if_pos h1]; exact .inl rfl
  rw [if_neg h1, if_neg h1]
  by_cases h2 : isLet a = true
  · rw [if_pos h2, if_pos h2]
    by_cases h3 : 16 < nameN (a :: l)
    · rw [if_pos h3, if_pos h3]; exact .inr rfl
    rw [if_neg h3, if_neg h3]
    cases M.lookup ((a :: l).take (nameN (a :: l))) with
    | none => exact .inr rfl
    | some u =>
     dsimp only
     cases expR ((a :: l).drop (nameN (a :: l))) with
     | bad e k => exact .inr rfl
     | ok y =>
      obtain ⟨n, l3⟩ := y
      unfold powT
      dsimp only
      by_cases h4 : 64 < n.natAbs
      · rw [if_pos h4, if_pos h4]; exact .inl rfl
      rw [if_neg h4, if_neg h4]
      cases hm : mulU p u (dir * n) with
      | none => exact .inl rfl
      | some q =>
       dsimp only
       rcases mulU_from (x := x) hm with h | h
       · rw [h]; exact .inl rfl
       · rw [h]; exact .inr ⟨_, rfl⟩
  · rw [if_neg h2, if_neg h2]; exact .inr rfl
def fromR (x : UQ) : PR UQ → PR UQ → Prop
 | .ok y, R => R = .ok (mulX x y) ∨ ∃ r, R = .bad 2 r
 | .bad e r, R => e = 2 ∨ ∃ e' r', R = .bad e' r'
theorem from_two {x : UQ} {r : Nat} : ∀ Z : PR UQ, fromR x Z (.bad 2 r)
 | .ok y => .inr ⟨_, rfl⟩
 | .bad e k => .inr ⟨_, _, rfl⟩
theorem parse_from {M : Tb} {x : UQ} : ∀ (f : Nat) (dir : Int) (p : UQ) (l : List Nat), fromR x (parseR M f dir p l) (parseR M f dir (mulX x p) l)
 | 0, dir, p, l => .inr ⟨_, _, rfl⟩
 | f + 1, dir, p, l => by
  have h := piece_from (M := M) (dir := dir) (x := x) (p := p) (l := l)
  rw [parseR_succ, parseR_succ]
  cases e : pieceR M dir p l with
  | bad y k =>
   rw [e] at h
   rcases h with h | h
   · exact .inl h
   · rw [h]; exact .inr ⟨_, _, rfl⟩
  | ok y =>
   obtain ⟨q, l2⟩ := y
   rw [e] at h
   rcases h with h | ⟨r, h⟩
   · rw [h]
     cases l2 with
     | nil => exact .inl rfl
     | cons a l3 =>
      dsimp only
      by_cases h1 : a = 42
      · rw [if_pos h1, if_pos h1]; exact parse_from f 1 q l3
      rw [if_neg h1, if_neg h1]
      by_cases h2 : a = 47
      · rw [if_pos h2, if_pos h2]; exact parse_from f (-1) q l3
      rw [if_neg h2, if_neg h2]
      exact .inr ⟨_, _, rfl⟩
   · rw [h]
     exact from_two _
theorem piece_err {M : Tb} {dir : Int} {p : UQ} {l : List Nat} {e : Int} {r : Nat} (h : pieceR M dir p l = .bad e r) : e = 2 ∨ e = 12 ∨ e = 15 := by
 have dig : ∀ t e r, digR t = .bad e r → e = 12 := by
  intro t e r h
  unfold digR at h
  split at h
  · cases h; rfl
  · split at h
    · cases h; rfl
    · cases h
 have exS : ∀ t e r, expS t = .bad e r → e = 12 := by
  intro t e r h
  cases t with
  | nil => cases h; rfl
  | cons a t =>
   rw [expS_cons] at h
   split at h
   · cases h2 : digR (skipR t) with
     | bad e2 r2 => rw [h2] at h; cases h; exact dig _ _ _ h2
     | ok y => rw [h2] at h; cases h
   · exact dig _ _ _ h
 have exR : ∀ t e r, expR t = .bad e r → e = 12 := by
  intro t e r h
  unfold expR at h
  cases h2 : skipR t with
  | nil => rw [h2] at h; cases h
  | cons a t2 =>
   rw [h2, expT_cons] at h
   split at h
   · exact exS _ _ _ h
   · cases h
 unfold pieceR at h
 cases h2 : skipR l with
 | nil => rw [h2] at h; cases h; exact .inr (.inl rfl)
 | cons a t =>
  rw [h2, pieceT_cons] at h
  split at h
  · cases h
  · split at h
    · split at h
      · cases h; exact .inr (.inl rfl)
      · split at h
        · cases h; exact .inr (.inr rfl)
        · cases h3 : expR ((a :: t).drop (nameN (a :: t))) with
          | bad e2 r2 => rw [h3] at h; cases h; exact .inr (.inl (exR _ _ _ h3))
          | ok y =>
           obtain ⟨n, l3⟩ := y
           rw [h3] at h
           unfold powT at h
           dsimp only at h
           split at h
           · cases h; exact .inl rfl
           · split at h
             · cases h; exact .inl rfl
             · cases h
    · cases h; exact .inr (.inl rfl)
theorem parse_err {M : Tb} : ∀ (f : Nat) (dir : Int) (p : UQ) (l : List Nat) (e : Int) (r : Nat), parseR M f dir p l = .bad e r → e = 2 ∨ e = 12 ∨ e = 15
 | 0, dir, p, l, e, r, h => by cases h; exact .inr (.inl rfl)
 | f + 1, dir, p, l, e, r, h => by
  rw [parseR_succ] at h
  cases h2 : pieceR M dir p l with
  | bad e2 r2 => rw [h2] at h; cases h; exact piece_err h2
  | ok y =>
   obtain ⟨q, l2⟩ := y
   rw [h2] at h
   cases l2 with
   | nil => cases h
   | cons a l3 =>
    dsimp only at h
    split at h
    · exact parse_err f 1 q l3 e r h
    · split at h
      · exact parse_err f (-1) q l3 e r h
      · cases h; exact .inr (.inl rfl)
/-! ### a name -/
theorem name_head {b : List Nat} (h : isNm b = true) : ∃ a t, b = a :: t ∧ isLet a = true ∧ t.takeWhile isWd = t ∧ b.length ≤ 16 := by
 unfold isNm at h
 simp only [Bool.and_eq_true, decide_eq_true_eq] at h
 obtain ⟨⟨h1, h2⟩, h3⟩ := h
 cases b with
 | nil => simp at h1
 | cons a t =>
  rw [nameN_cons] at h3
  simp only [List.length_cons] at h3
  by_cases ha : isLet a = true
  · rw [if_pos ha] at h3
    refine ⟨a, t, rfl, ha, ?_, h2⟩
    have h4 : (t.takeWhile isWd).length = t.length := by omega
    have h5 := List.takeWhile_prefix isWd (l := t)
    exact h5.eq_of_length h4
  · rw [if_neg ha] at h3; omega
theorem let_not {a : Nat} (h : isLet a = true) : a ≠ 32 ∧ a ≠ 49 ∧ isWd a = true := by
 refine ⟨?_, ?_, ?_⟩
 · rintro rfl; exact absurd h (by decide)
 · rintro rfl; exact absurd h (by decide)
 · unfold isWd; rw [h]; rfl
theorem name_piece {M : Tb} {dir : Int} {p u : UQ} {b rest : List Nat} (hb : isNm b = true) (hr : ∀ a t, rest = a :: t → isWd a = false) (hl : M.lookup b = some u) : pieceR M dir p (b ++ rest) = powT p u dir (b.length + rest.length) (expR rest) := by
 obtain ⟨a, t, rfl, ha, ht, h16⟩ := name_head hb
 obtain ⟨g1, g2, g3⟩ := let_not ha
 unfold pieceR
 have e : skipR (a :: t ++ rest) = a :: t ++ rest := by unfold skipR; rw [List.cons_append, List.dropWhile_cons_of_neg (by simpa using g1)]
 rw [e, List.cons_append, pieceT_cons, if_neg g2, if_pos ha]
 have hn : nameN (a :: (t ++ rest)) = (a :: t).length := by
  rw [nameN_cons, if_pos ha]
  have e2 : (t ++ rest).takeWhile isWd = t := by
   cases rest with
   | nil => rw [List.append_nil, ht]
   | cons d r => rw [while_app (hr d r rfl), ht]
  rw [e2, List.length_cons]; omega
 rw [hn, if_neg (by omega), ← List.cons_append, List.take_left, List.drop_left, hl]
 dsimp only
 congr 1
 rw [List.length_append, List.length_cons]; omega
theorem mulU_one {u : UQ} (hu : okU u) : mulU oneU u 1 = some u := by
 obtain ⟨q, xs⟩ := u
 obtain ⟨h1, h2, h3, h4⟩ := hu
 dsimp only at h1 h2 h3 h4
 have e1 : q ^ (1 : Int) = q := by rw [show (1 : Int) = ((1 : Nat) : Int) from rfl, Rat.zpow_natCast, Rat.pow_succ, Rat.pow_zero, Rat.one_mul]
 have e2 : xs.map (· * (1 : Int)) = xs := by simp
 have e3 : addD dimZ xs = xs := by
  match xs, h3 with
  | [a, b, c, d, e, f, g], _ => simp [dimZ]
 rw [mulU_cases]
 simp only [oneU, e1, e2, e3, Rat.one_mul]
 rw [if_pos ⟨h2, h2, h4, h4⟩]
theorem parse_name {M : Tb} {b : List Nat} {u : UQ} (hb : isNm b = true) (hl : M.lookup b = some u) (hu : okU u) : parseU M b = .ok u := by
 have h := name_piece (M := M) (dir := 1) (p := oneU) (rest := []) hb (fun a t h => by cases h) hl
 rw [List.append_nil] at h
 unfold parseU
 rw [parseR_succ, h]
 have e : expR [] = .ok (1, []) := rfl
 rw [e]
 unfold powT
 dsimp only
 rw [if_neg (by decide), show (1 : Int) * 1 = 1 from rfl, mulU_one hu]
 rfl
theorem parse_noname {M : Tb} {b : List Nat} (hb : isNm b = true) (hl : M.lookup b = none) : parseU M b = .bad 15 b.length := by
 obtain ⟨a, t, rfl, ha, ht, h16⟩ := name_head hb
 obtain ⟨g1, g2, g3⟩ := let_not ha
 unfold parseU
 rw [parseR_succ]
 unfold pieceR
 have e : skipR (a :: t) = a :: t := by unfold skipR; rw [List.dropWhile_cons_of_neg (by simpa using g1)]
 have hn : nameN (a :: t) = (a :: t).length := by
  rw [nameN_cons, if_pos ha, ht, List.length_cons]; omega
 rw [e, pieceT_cons, if_neg g2, if_pos ha, hn, if_neg (by omega), List.take_length, hl]
 rfl
theorem name_pow {M : Tb} {dir n : Int} {p u : UQ} {b X : List Nat} (hb : isNm b = true) (hl : M.lookup b = some u) (hX : expR X = .ok (n, [])) (hw : ∀ a t, X = a :: t → isWd a = false) (hn : n.natAbs ≤ 64) {q : UQ} (hq : mulU p u (dir * n) = some q) (f : Nat) : parseR M (f + 1) dir p (b ++ X) = .ok q := by
 rw [parseR_succ, name_piece hb hw hl, hX]
 unfold powT
 dsimp only
 rw [if_neg (by omega), hq]
 rfl
end Go.Proofs.YtohokfbohdoijaaGreatDoor

/- What the reader of a unit's text does: all pieces, as a contract over memory. Condition: a text of at most 200 bytes. -/
namespace Go.Proofs.YtohokfbohdoijaaGreatDoor
open Go.RowKit Limb
set_option linter.unusedVariables false
section
variable {w : World} {rb mb i : Nat} {s : ByteArray} {L : List Value} {p : UQ} {M : Tb}
set_option maxHeartbeats 4000000 in
set_option maxRecDepth 100000 in
theorem tPieces_c (h : Rd w rb mb s i L) (hV : UV w L.toArray (some p.1) p.2) (okp : okU p) (hM : MapU w mb M) (hz : s.size ≤ 200) (hi : i ≤ s.size) (f : Nat) (hf : s.size - i < f) (R : PR UQ) (hR : parseR M f 1 p ((bytesOf s).drop i) = R) :
 Calls Tryz.prog 44 #[.pointer (some ⟨rb, 0, none⟩)] w fun e w' => ∃ E A : Int, e = .returned (fltV E A) ∧ w.grownBy w' (some rb) ∧ PiecesP w' rb mb s E A R := by
 have hn0 : rb ≠ w.heap.size := by have := h.lt; omega
 have bn := below_new w (.cells (fltC 0 0) 56)
 have h_rz := rowA_new w 56 (fltC 0 0)
 have HC := Lib.hid (h.below bn)
 have HV := Lib.hid (UV.below hV bn)
 have HM := Lib.hid (hM.below bn)
 have HG := Lib.hid (grown_of bn (some rb))
 have HL := Lib.hid (length_bytesOf s)
 have HI := Lib.hid hi
 have HP := Lib.hid okp
 have HMK := Lib.hid hM.ok
 have HX := Lib.hid hR
 have HFU := Lib.hid hf
 clear h bn hi hV hM okp hR hf
 go_enter Tryz.func44, Tryz.ntmps44
 go_wp2_with fail
 generalize w.alloc (.cells (fltC 0 0) 56) = w1 at *
 obtain ⟨qz, eq⟩ : ∃ g, g = w.heap.size := ⟨_, rfl⟩
 rw [← eq] at h_rz hn0 ⊢
 have hqz : Hid (w.heap.size ≤ qz) := by show _ ≤ _; omega
 have hnHZ := Lib.hid hn0
 have HZ := Lib.hid h_rz
 clear eq hn0 h_rz
 go_loopw [3] (fun dv wr => ∃ (dir : Int) (i : Nat) (L : List Value) (p : UQ) (f : Nat), dv = .int .i64 dir ∧ Hid (dir = 1 ∨ dir = -1) ∧ Hid (i ≤ s.size) ∧ Hid (s.size - i < f) ∧ Hid (parseR M f dir p ((bytesOf s).drop i) = R) ∧ Hid (okU p) ∧ Hid (Rd wr rb mb s i L) ∧ Hid (UV wr L.toArray (some p.1) p.2) ∧ Hid (MapU wr mb M) ∧ Hid (RowA wr qz 56 (fltC 0 0)) ∧ Hid (w.grownBy wr (some rb))) (fun _ wr => s.size - posOf wr rb)
 · exact ⟨1, i, L, p, f, rfl, .inl rfl, HI.out, HFU.out, HX.out, HP.out, HC.out, HV.out, HM.out, HZ.out, HG.out⟩
 · obtain ⟨dir, i, L, p, f, rfl, HDIR, HI, HFU, HX, HP, HC, HV, HM, HZ, HG⟩ := hrel
   have HPOS := Lib.hid (posOf_is HC.out)
   obtain ⟨f1, rfl⟩ : ∃ k, f = k + 1 := ⟨f - 1, by have := HFU.out; omega⟩
   go_wp2_with fail
   refine (tPiece_c HC.out HV.out HP.out HM.out hz HI.out HDIR.out).mono ?_
   rintro e w3 ⟨E, A, rfl, hg, hp⟩
   have nM := (rd_step HC.out HV.out HM.out hg).2
   have nG := grown_trans HG.out hg
   have nZ := RowA.onward (rb := rb) HZ.out hg hnHZ.out
   have bn := below_new w3 (.cells (fltC E A) 56)
   have hBN := Lib.hid bn
   have nZ2 := Lib.hid (RowA.below nZ bn)
   have nG2 := Lib.hid (grown_trans nG (grown_of bn (some rb)))
   have nM2 := Lib.hid (nM.below bn)
   clear HC HV HM HG HZ nM nG nZ bn hg
   have HZ := nZ2
   have HG := nG2
   have HM := nM2
   clear nZ2 nG2 nM2
   cases hpc : pieceR M dir p ((bytesOf s).drop i) with
   | bad x r =>
    rw [hpc] at hp
    obtain ⟨rfl, rfl, hx0⟩ := hp
    have HR2 : Hid (R = .bad E r) := by show _ = _; rw [← HX.out]; exact parse_bad hpc
    have hE : (E != 0) = true := by simpa using hx0
    have HE0 := Lib.hid hx0
    clear hpc hx0 HX
    have HR := Lib.hid (RowA.fill HZ.out (V' := (fltC E ((s.size : Int) - (r : Int)))))
    have HE := Lib.hid (grown_fill HG.out hqz.out (fltC E ((s.size : Int) - (r : Int))))
    go_wp2_with (first | (refine wpList_storeNew (by rfl) _ _ _ (by rfl) _ _ _ (by rfl) (by rfl) (Lib.hid (fitsF (E) ((s.size : Int) - (r : Int)))) ?_) | (refine wpList_storeV (by rfl) _ _ _ (by rfl) _ (by rfl) _ (by rfl) _ _ (by assumption) (Lib.hid (fitsF (E) ((s.size : Int) - (r : Int)))) ?_))
    refine bodyPost_ret (results_cell_row rfl _ _ _ 56 (fltC E ((s.size : Int) - (r : Int))) (0, 0) _ rfl HR.out Tryz.underlying56 rfl sizeF) rfl ?_
    refine ⟨E, _, rfl, HE.out, ?_⟩
    rw [HR2.out]
    exact ⟨rfl, rfl, HE0.out⟩
   | ok y =>
    obtain ⟨q, l2⟩ := y
    rw [hpc] at hp
    obtain ⟨rfl, rfl, j, L2, hj, hd, hr, hv⟩ := hp
    obtain ⟨hoq, hlen⟩ := pieceR_ok HM.out.ok HP.out hpc
    have HQ := Lib.hid hoq
    have HLN := Lib.hid hlen
    have HC := Lib.hid (hr.below hBN.out)
    have HV := Lib.hid (UV.below hv hBN.out)
    have HJ := Lib.hid hj
    have HD := Lib.hid hd
    have HPC := Lib.hid hpc
    clear hpc hr hv hj hd hoq hlen
    go_wp2_with (first | (refine wpList_storeNew (by rfl) _ _ _ (by rfl) _ _ _ (by rfl) (by rfl) (Lib.hid (fitsF (0) (0))) ?_))
    generalize w3.alloc (.cells (fltC 0 0) 56) = w4 at *
    refine (tSkip_c HC.out hz HJ.out).mono ?_
    rintro e w5 ⟨rfl, k, hjk, hk, hdk, hr, hg⟩
    have nG := grown_trans HG.out hg
    have nZ := RowA.onward (rb := rb) HZ.out hg hnHZ.out
    have st := rd_step HC.out HV.out HM.out hg
    have nV := st.1
    have nM := st.2
    clear HC HV HM HG HZ st hg hBN
    have HC := Lib.hid hr
    have HV := Lib.hid nV
    have HM := Lib.hid nM
    have HG := Lib.hid nG
    have HZ := Lib.hid nZ
    clear hr nV nM nG nZ
    have HK := Lib.hid hk
    have HPC2 : Hid (pieceR M dir p ((bytesOf s).drop i) = .ok (q, (bytesOf s).drop k)) := by show _ = _; rw [HPC.out, hdk, HD.out]
    have hik : Hid (i < k ∨ k = s.size) := by
     show _ ∨ _
     have h1 := HLN.out
     have h2 : ((bytesOf s).drop k).length = l2.length := by rw [hdk, HD.out]
     rw [List.length_drop, HL.out] at h2
     rw [List.length_drop, HL.out] at h1
     omega
    clear hdk hk HPC HD HLN
    have c1 := HC.out.c1
    have c2 := HC.out.c2
    by_cases hke : k = s.size
    · have HR2 : Hid (R = .ok q) := by show _ = _; rw [← HX.out]; exact parse_end HPC2.out (by rw [HL.out]; omega)
      subst hke
      go_wp2_with fail
      go_quiet (fail)
      have bn := below_drewN (Below.refl w5.heap.size w5) nq
      have nC := HC.out.below bn
      have nV := UV.below HV.out bn
      have nM := HM.out.below bn
      have nZ := RowA.below HZ.out bn
      have nG := grown_trans HG.out (grown_of bn (some rb))
      generalize w5.drewN nq = w6 at *
      clear HC HV HM HG HZ bn c1 c2
      have HC := Lib.hid nC
      have HV := Lib.hid nV
      have HM := Lib.hid nM
      have HG := Lib.hid nG
      have HZ := Lib.hid nZ
      clear nC nV nM nG nZ
      have HR := Lib.hid (RowA.fill HZ.out (V' := fltC 0 0))
      have HE := Lib.hid (grown_fill HG.out hqz.out (fltC 0 0))
      have HF := Lib.hid (Rd.farF HC.out hnHZ.out (V := fltC 0 0))
      have HV2 := Lib.hid (UV.fill (V := fltC 0 0) HV.out HZ.out flt_limb)
      go_wp2_with (refine wpList_storeV (by rfl) _ _ _ (by rfl) _ (by rfl) _ (by rfl) _ _ (by assumption) (Lib.hid (fitsF (0) (0))) ?_)
      refine bodyPost_ret (results_cell_row rfl _ _ _ 56 (fltC 0 0) (0, 0) _ rfl HR.out Tryz.underlying56 rfl sizeF) rfl ?_
      refine ⟨0, 0, rfl, HE.out, ?_⟩
      rw [HR2.out]
      exact ⟨rfl, rfl, HQ.out, _, L2, HF.out, HV2.out⟩
    · have hlt : Hid (k < s.size) := by show _ < _; have := HK.out; omega
      have e1 : ((k : Int) == (s.size : Int)) = false := by rw [beq_eq_false_iff_ne]; omega
      clear hke
      go_wp2_with fail
      go_quiet (fail)
      have bn := below_drewN (Below.refl w5.heap.size w5) nq
      have nC := HC.out.below bn
      have nV := UV.below HV.out bn
      have nM := HM.out.below bn
      have nZ := RowA.below HZ.out bn
      have nG := grown_trans HG.out (grown_of bn (some rb))
      generalize w5.drewN nq = w6 at *
      clear HC HV HM HG HZ bn c1 c2
      have HC := Lib.hid nC
      have HV := Lib.hid nV
      have HM := Lib.hid nM
      have HG := Lib.hid nG
      have HZ := Lib.hid nZ
      clear nC nV nM nG nZ
      go_wp2_with fail
      clear e1
      by_cases h42 : lim (bytesOf s) k = 42
      · have hc := Lib.hid h42
        clear h42
        refine (tTake_yes HC.out hz hlt.out 42 hc.out).mono ?_
        rintro e w7 ⟨rfl, hr, hg⟩
        have nG := grown_trans HG.out hg
        have nZ := RowA.onward (rb := rb) HZ.out hg hnHZ.out
        have st := rd_step HC.out HV.out HM.out hg
        have nV := Lib.hid st.1
        have nM := Lib.hid st.2
        have nG2 := Lib.hid nG
        have nZ2 := Lib.hid nZ
        have nC := Lib.hid hr
        have HMS : Hid (s.size - posOf w7 rb < s.size - posOf wr rb) := by show _ < _; rw [posOf_is hr, HPOS.out]; have := hik.out; have := hlt.out; omega
        have HX2 : Hid (parseR M f1 (1) q ((bytesOf s).drop (k + 1)) = R) := by show _ = _; rw [← HX.out]; exact (parse_mul HPC2.out (by rw [HL.out]; exact hlt.out) hc.out).symm
        have HF2 : Hid (s.size - (k + 1) < f1) := by show _ < _; have := hik.out; have := HFU.out; have := hlt.out; omega
        clear HC HV HM HG HZ st hg nG nZ hr
        go_wp2
        exact ⟨⟨1, k + 1, L2, q, f1, rfl, .inl rfl, hlt.out, HF2.out, HX2.out, HQ.out, nC.out, nV.out, nM.out, nZ2.out, nG2.out⟩, HMS.out⟩
      · replace h42 := Lib.hid h42
        refine (tTake_no HC.out hz HK.out 42 (fun _ => h42.out)).mono ?_
        rintro e w7 ⟨rfl, bn⟩
        have nC := HC.out.below bn
        have nV := UV.below HV.out bn
        have nM := HM.out.below bn
        have nZ := RowA.below HZ.out bn
        have nG := grown_trans HG.out (grown_of bn (some rb))
        clear HC HV HM HG HZ bn
        have HC := Lib.hid nC
        have HV := Lib.hid nV
        have HM := Lib.hid nM
        have HG := Lib.hid nG
        have HZ := Lib.hid nZ
        clear nC nV nM nG nZ
        go_wp2_with fail
        by_cases h47 : lim (bytesOf s) k = 47
        · have hc := Lib.hid h47
          clear h47
          refine (tTake_yes HC.out hz hlt.out 47 hc.out).mono ?_
          rintro e w8 ⟨rfl, hr, hg⟩
          have nG := grown_trans HG.out hg
          have nZ := RowA.onward (rb := rb) HZ.out hg hnHZ.out
          have st := rd_step HC.out HV.out HM.out hg
          have nV := Lib.hid st.1
          have nM := Lib.hid st.2
          have nG2 := Lib.hid nG
          have nZ2 := Lib.hid nZ
          have nC := Lib.hid hr
          have HMS : Hid (s.size - posOf w8 rb < s.size - posOf wr rb) := by show _ < _; rw [posOf_is hr, HPOS.out]; have := hik.out; have := hlt.out; omega
          have HX2 : Hid (parseR M f1 (-1) q ((bytesOf s).drop (k + 1)) = R) := by show _ = _; rw [← HX.out]; exact (parse_div HPC2.out (by rw [HL.out]; exact hlt.out) hc.out).symm
          have HF2 : Hid (s.size - (k + 1) < f1) := by show _ < _; have := hik.out; have := HFU.out; have := hlt.out; omega
          clear HC HV HM HG HZ st hg nG nZ hr
          go_wp2
          exact ⟨⟨-1, k + 1, L2, q, f1, rfl, .inr rfl, hlt.out, HF2.out, HX2.out, HQ.out, nC.out, nV.out, nM.out, nZ2.out, nG2.out⟩, HMS.out⟩
        · replace h47 := Lib.hid h47
          refine (tTake_no HC.out hz HK.out 47 (fun _ => h47.out)).mono ?_
          rintro e w8 ⟨rfl, bn⟩
          have nC := HC.out.below bn
          have nV := UV.below HV.out bn
          have nM := HM.out.below bn
          have nZ := RowA.below HZ.out bn
          have nG := grown_trans HG.out (grown_of bn (some rb))
          clear HC HV HM HG HZ bn
          have HC := Lib.hid nC
          have HV := Lib.hid nV
          have HM := Lib.hid nM
          have HG := Lib.hid nG
          have HZ := Lib.hid nZ
          clear nC nV nM nG nZ
          go_wp2_with fail
          refine (tNoText_c HC.out).mono ?_
          rintro e w9 ⟨rfl, bn⟩
          have nZ := RowA.below HZ.out bn
          have nG := grown_trans HG.out (grown_of bn (some rb))
          clear HC HV HM HG HZ bn
          have HG := Lib.hid nG
          have HZ := Lib.hid nZ
          clear nG nZ
          have HR2 : Hid (R = .bad 12 (s.size - k)) := by show _ = _; rw [← HX.out, ← HL.out]; exact parse_no HPC2.out (by rw [HL.out]; exact hlt.out) h42.out h47.out
          have HR := Lib.hid (RowA.fill HZ.out (V' := fltC 12 (k : Int)))
          have HE := Lib.hid (grown_fill HG.out hqz.out (fltC 12 (k : Int)))
          go_wp2_with (refine wpList_storeV (by rfl) _ _ _ (by rfl) _ (by rfl) _ (by rfl) _ _ (by assumption) (Lib.hid (fitsF (12) ((k : Int)))) ?_)
          refine bodyPost_ret (results_cell_row rfl _ _ _ 56 (fltC 12 (k : Int)) (0, 0) _ rfl HR.out Tryz.underlying56 rfl sizeF) rfl ?_
          refine ⟨12, _, rfl, HE.out, ?_⟩
          rw [HR2.out]
          refine ⟨rfl, ?_, by decide⟩
          have := HK.out
          omega
end
end Go.Proofs.YtohokfbohdoijaaGreatDoor

/- What Parse of a table of units answers, as contracts over memory. Condition: the table of prefixes reads as it is laid. -/
namespace Go.Proofs.YtohokfbohdoijaaGreatDoor
open Go.RowKit Limb
set_option linter.unusedVariables false
theorem results_two2 {P : Program} {fn : Func} {p q : Tmp} {ty ty' : TypeId} (h : fn.results = #[.cell p ty, .cell q ty']) (tmps : Array Value) (w : World) (g k : Nat) (t t' : TypeId) (cs ds : Array Value) (fr : Nat × Nat) (d d' : TypeDesc)
 (hp : tmps.getD p undef = .pointer (some ⟨g, 0, none⟩)) (hq : tmps.getD q undef = .pointer (some ⟨k, 0, none⟩)) (hg : w.heap[g]? = some (.cells cs t fr)) (hk : w.heap[k]? = some (.cells ds t' fr))
 (hu : P.underlying ty = some d) (hd : (match d with | .struct _ | .array _ _ => true | _ => false) = true) (hu' : P.underlying ty' = some d') (hd' : (match d' with | .struct _ | .array _ _ => true | _ => false) = true)
 (hi : (P.info? ty).map (·.size) = some cs.size) (hj : (P.info? ty').map (·.size) = some ds.size) :
 (results fn tmps).run P w = .ok (.tuple #[.agg cs, .agg ds]) w := by
 have hp' : tmps[p]?.getD undef = .pointer (some ⟨g, 0, none⟩) := by simpa using hp
 have hq' : tmps[q]?.getD undef = .pointer (some ⟨k, 0, none⟩) := by simpa using hq
 simp [results, h, hp', hq', asAddr, run_loadVar_row w g t ty cs fr d hg hu hd hi, run_loadVar_row w k t' ty' ds fr d' hk hu' hd' hj]
theorem z10_one : ∀ v ∈ z10, v.oneCell' = true := by intro v hv; simp at hv; rcases hv with rfl | rfl | rfl <;> rfl
theorem uL_one {s : Bool} {A : Option Addr} {n c : Nat} {B : Option Addr} {m d : Nat} {xs : List Int} : ∀ v ∈ uL s A n c B m d xs, v.oneCell' = true := fun v hv => uV_one v (by simpa [uV] using hv)
theorem size13 : (Tryz.prog.info? 107).map (·.size) = some 13 := by kernel_rfl
theorem fits13 {mb : Nat} {s : ByteArray} {i : Int} {L : List Value} (h : L.length = 10) (h1 : ∀ v ∈ L, v.oneCell' = true) : Many Tryz.prog 107 (rdV mb s i L).size ∧ (#[.map none, .string ⟨#[]⟩, .int .i64 0, .bool false, .slice none 0 0, .slice none 0 0, .int .i64 0, .int .i64 0, .int .i64 0, .int .i64 0, .int .i64 0, .int .i64 0, .int .i64 0] : Array Value).size = (rdV mb s i L).size ∧ ∀ v ∈ rdV mb s i L, v.oneCell' = true := by
 have e : (rdV mb s i L).size = 13 := by simp [rdV, h]
 refine ⟨⟨by rw [e]; exact size13, _, Tryz.underlying107, rfl⟩, by rw [e]; rfl, fun v hv => ?_⟩
 simp only [rdV, List.mem_toArray, List.mem_cons] at hv
 rcases hv with rfl | rfl | rfl | hv
 · rfl
 · rfl
 · rfl
 · exact h1 v hv
theorem build_reader (mb : Nat) (t : ByteArray) {s : Bool} {A : Option Addr} {n c : Nat} {B : Option Addr} {m d : Nat} {xs : List Int} (h : xs.length = 7) (W : World) :
 (Instr.build 107 ([(0, .map (some mb)), (1, .string t), (3, .agg (uV s A n c B m d xs))] : List (Nat × Value)).toArray).run Tryz.prog W = .ok (.agg (rdV mb t ((0 : Nat) : Int) (uL s A n c B m d xs))) W := by
 obtain ⟨x0, x1, x2, x3, x4, x5, x6, rfl⟩ := len7 h
 kernel_rfl
theorem scale_one : scaleR (some 1) 0 = (some 1, 0) := by decide +kernel
theorem Kw.grown {tb B : Nat} {w w' w2 : World} (h : Kw tb B w w') {rb : Nat} (hg : w'.grownBy w2 (some rb)) (hr : w.heap.size ≤ rb) (hB : B ≤ w.heap.size) : Kw tb B w w2 := by
 refine ⟨h.bel.grown hg (Nat.le_trans hB h.size) (fun k e => by cases e; omega), fun g V T f e he => ?_⟩
 have hlt : g < w.heap.size := (Array.getElem?_eq_some_iff.1 e).1
 exact (hg.block g (Nat.lt_of_lt_of_le hlt h.size) (fun e2 => by injection e2 with e2; omega)).trans (h.stay g V T f e he)
theorem Kp.grown {tb B : Nat} {w w' w2 : World} (h : Kp tb B w w') {rb : Nat} (hg : w'.grownBy w2 (some rb)) (hr : w.heap.size ≤ rb) (hB : B ≤ w.heap.size) : Kp tb B w w2 :=
 ⟨h.toKw.grown hg hr hB, fun hl hn => (h.made hl hn).grown hg h.size (fun k e => by cases e; omega)⟩
def Duo (qa qb : Nat) (F : Array Value) (wx wy : World) : Prop :=
 wy.os = wx.os ∧ wy.tape = wx.tape ∧ wy.output = wx.output ∧ wx.heap.size ≤ wy.heap.size ∧ (∀ g, g ≠ qa → g ≠ qb → wy.heap[g]? = wx.heap[g]?) ∧ (RowA wx qa 37 z10 → RowA wy qa 37 z10) ∧ (RowA wx qb 56 F → RowA wy qb 56 F) ∧ (RowA wx qb 56 (fltC 0 0) → RowA wy qb 56 (fltC 0 0) ∨ RowA wy qb 56 F)
def DuoS (wS : World) (qa qb : Nat) (F : Array Value) (wx : World) : Prop :=
 wx.os = wS.os ∧ wx.tape = wS.tape ∧ wx.output = wS.output ∧ wS.heap.size ≤ wx.heap.size ∧ (∀ g, g ≠ qa → g ≠ qb → wx.heap[g]? = wS.heap[g]?) ∧ RowA wx qa 37 z10 ∧ (RowA wx qb 56 (fltC 0 0) ∨ RowA wx qb 56 F)
theorem Duo.refl {qa qb : Nat} {F : Array Value} (w : World) : Duo qa qb F w w := ⟨rfl, rfl, rfl, Nat.le_refl _, fun _ _ _ => rfl, id, id, .inl⟩
theorem DuoS.step {wS wx wy : World} {qa qb : Nat} {F : Array Value} (h : DuoS wS qa qb F wx) (k : Duo qa qb F wx wy) : DuoS wS qa qb F wy :=
 ⟨k.1.trans h.1, k.2.1.trans h.2.1, k.2.2.1.trans h.2.2.1, Nat.le_trans h.2.2.2.1 k.2.2.2.1, fun g a b => (k.2.2.2.2.1 g a b).trans (h.2.2.2.2.1 g a b), k.2.2.2.2.2.1 h.2.2.2.2.2.1, h.2.2.2.2.2.2.elim k.2.2.2.2.2.2.2 fun x => .inr (k.2.2.2.2.2.2.1 x)⟩
theorem DuoS.start {wS : World} {qa qb : Nat} {F : Array Value} (ha : RowA wS qa 37 z10) (hb : RowA wS qb 56 (fltC 0 0)) : DuoS wS qa qb F wS.drew := ⟨rfl, rfl, rfl, Nat.le_refl _, fun _ _ _ => rfl, ha, .inl hb⟩
theorem DuoS.row {wS wx : World} {qa qb g : Nat} {F V : Array Value} {T : TypeId} (h : DuoS wS qa qb F wx) (r : RowA wS g T V) (ha : qa ≠ g) (hb : qb ≠ g) : RowA wx g T V := (h.2.2.2.2.1 g (Ne.symm ha) (Ne.symm hb)).trans r
theorem Duo.storeA {wS wx : World} {qa qb : Nat} {F : Array Value} (h : DuoS wS qa qb F wx) (hab : qa ≠ qb) : Duo qa qb F wx (wx.setRow qa z10) :=
 ⟨rfl, rfl, rfl, by rw [setRow_size]; exact Nat.le_refl _, fun g a _ => setRow_other wx qa g z10 a, fun r => RowA.fill r, fun r => RowA.farRow r hab, fun r => .inl (RowA.farRow r hab)⟩
theorem Duo.storeB {wx : World} {qa qb : Nat} {F V : Array Value} (hb : RowA wx qb 56 V) (hab : qa ≠ qb) : Duo qa qb F wx (wx.setRow qb F) :=
 ⟨rfl, rfl, rfl, by rw [setRow_size]; exact Nat.le_refl _, fun g _ b => setRow_other wx qb g F b, fun r => RowA.farRow r (Ne.symm hab), fun r => RowA.fill r, fun r => .inr (RowA.fill r)⟩
theorem DuoS.bel {wS wx : World} {qa qb : Nat} {F : Array Value} (h : DuoS wS qa qb F wx) (ha : RowA wS qa 37 z10) (hb : RowA wS qb 56 (fltC 0 0)) (hF : RowA wx qb 56 F) (hab : qa ≠ qb) : Below (wS.setRow qb F).heap.size (wS.setRow qb F) wx := by
 refine ⟨h.1, h.2.1, h.2.2.1, by rw [setRow_size]; exact h.2.2.2.1, fun k _ => ?_⟩
 by_cases e1 : k = qb
 · subst e1
   have r := RowA.fill (V' := F) hb
   exact (show wx.heap[k]? = _ from hF).trans (show (wS.setRow k F).heap[k]? = _ from r).symm
 · by_cases e2 : k = qa
   · subst e2
     rw [setRow_other wS qb k F e1]
     exact (show wx.heap[k]? = _ from h.2.2.2.2.2.1).trans (show wS.heap[k]? = _ from ha).symm
   · rw [setRow_other wS qb k F e1]
     exact h.2.2.2.2.1 k e2 e1
theorem rd_unit {w : World} {rb mb i : Nat} {s : ByteArray} {L : List Value} (h : Rd w rb mb s i L) : InV w rb 3 L.toArray :=
 RowA.part h fun j v hv => by
  rw [Nat.add_comm]
  simpa [rdV] using hv
def ParsedP (w' : World) (V : Array Value) (E A : Int) (n : Nat) : PR UQ → Prop
 | .ok q => E = 0 ∧ A = 0 ∧ okU q ∧ UV w' V (some q.1) q.2
 | .bad x r => E = x ∧ A = (n : Int) - (r : Int) ∧ x ≠ 0 ∧ V = z10
section
variable {w : World} {B tb : Nat} {M : Tb}
set_option maxHeartbeats 4000000 in
set_option maxRecDepth 100000 in
theorem tParse_nil (t : ByteArray) (w : World) :
 Calls Tryz.prog 19 #[.pointer none, .string t] w fun e w' => e = .returned (.tuple #[.agg z10, fltV 1 0]) ∧ Below w.heap.size w w' := by
 have bw := below_new w (.cells z10 37)
 have h_ra := rowA_new w 37 z10
 have bn := below_new (w.alloc (.cells z10 37)) (.cells (fltC 0 0) 56)
 have h_rb := rowA_new (w.alloc (.cells z10 37)) 56 (fltC 0 0)
 replace h_ra := h_ra.below bn
 replace bw := below_two bw bn
 clear bn
 simp only [World.size_alloc] at h_rb
 have HRA0 := Lib.hid (RowA.fill h_ra (V' := z10))
 have HRA := Lib.hid (RowA.farRow (V' := fltC 1 0) HRA0.out (show w.heap.size + 1 ≠ w.heap.size by omega))
 have nB := Lib.hid (RowA.farRow (V' := z10) h_rb (show w.heap.size ≠ w.heap.size + 1 by omega))
 have HRB := Lib.hid (RowA.fill nB.out (V' := fltC 1 0))
 have HE := Lib.hid (below_fillRow (below_fillRow bw (Nat.le_refl _) z10) (g := w.heap.size + 1) (by omega) (fltC 1 0))
 have HA := Lib.hid h_ra
 clear h_ra h_rb bw HRA0
 go_enter Tryz.func19, Tryz.ntmps19
 go_wp2_with (first | (refine wpList_storeV (by rfl) _ _ _ (by rfl) _ (by rfl) _ (by rfl) _ _ (by assumption) (Lib.hid (fits10 (V := z10) rfl z10_one)) ?_) | (refine wpList_storeV (by rfl) _ _ _ (by rfl) _ (by rfl) _ (by rfl) _ _ (by assumption) (Lib.hid (fitsF (1) (0))) ?_))
 refine bodyPost_ret (results_two2 rfl _ _ _ _ _ _ z10 (fltC (1) (0)) (0, 0) _ _ rfl rfl HRA.out HRB.out Tryz.underlying37 rfl Tryz.underlying56 rfl size10 sizeF) rfl ?_
 exact ⟨rfl, HE.out⟩
set_option maxHeartbeats 4000000 in
set_option maxRecDepth 100000 in
theorem tParse_main (T : UTab w) (hs : TabS w B tb M) (hB : B ≤ w.heap.size) (t : ByteArray) (hz : t.size ≤ 200) :
 Calls Tryz.prog 19 #[.pointer (some ⟨tb, 0, none⟩), .string t] w fun e w' => ∃ V E A, e = .returned (.tuple #[.agg V, fltV E A]) ∧ (∃ mb, TabM w' B tb mb M) ∧ Kp tb B w w' ∧ ParsedP w' V E A t.size (parseU M (bytesOf t)) := by
 have bw := below_new w (.cells z10 37)
 have h_ra := rowA_new w 37 z10
 have bn := below_new (w.alloc (.cells z10 37)) (.cells (fltC 0 0) 56)
 have h_rb := rowA_new (w.alloc (.cells z10 37)) 56 (fltC 0 0)
 replace h_ra := h_ra.below bn
 replace bw := below_two bw bn
 clear bn
 simp only [World.size_alloc] at h_rb
 have HT := Lib.hid (T.below bw)
 have HS := Lib.hid (hs.below bw)
 have HB0 := Lib.hid hB
 have HB1 : Hid (B ≤ ((w.alloc (.cells z10 37)).alloc (.cells (fltC 0 0) 56)).heap.size) := by show _ ≤ _; simp only [World.size_alloc]; omega
 have HK0 := Lib.hid (Kp.of (tb := tb) bw hB)
 have htb := hs.lt
 have hle : (t.size : Int) ≤ 200 := by omega
 clear T hs hB bw
 go_enter Tryz.func19, Tryz.ntmps19
 go_wp2_with fail
 generalize (w.alloc (.cells z10 37)).alloc (.cells (fltC 0 0) 56) = w1 at *
 obtain ⟨qb, eb⟩ : ∃ g, g = w.heap.size + 1 := ⟨_, rfl⟩
 obtain ⟨qa, ea⟩ : ∃ g, g = w.heap.size := ⟨_, rfl⟩
 rw [← eb] at h_rb
 rw [← ea] at h_ra
 rw [← eb]
 rw [← ea]
 have hqa : Hid (w.heap.size ≤ qa) := by show _ ≤ _; omega
 have hqb : Hid (w.heap.size ≤ qb) := by show _ ≤ _; omega
 have hab : Hid (qa ≠ qb) := by show _ ≠ _; omega
 have hta : Hid (qa ≠ tb) := by show _ ≠ _; omega
 have htb2 : Hid (qb ≠ tb) := by show _ ≠ _; omega
 clear ea eb htb
 refine (uKnown_c HT.out HS.out HB1.out).mono ?_
 rintro e w2 ⟨mb, rfl, hM, hk⟩
 replace h_ra := hk.row h_ra hta.out
 replace h_rb := hk.row h_rb htb2.out
 replace hk := HK0.out.trans hk
 clear HT HS HK0
 go_wp2_with fail
 refine (uOf_c 1 0 (by decide) (by decide) 1 one_cast 1 scale_one dimZ rfl w2).mono ?_
 rintro e w3 ⟨V1, rfl, hv1, bn⟩
 obtain ⟨A1, n1, c1, B1, m1, d1, rfl, hq1, hx1⟩ := hv1
 replace hM := hM.below bn
 replace h_ra := h_ra.below bn
 replace h_rb := h_rb.below bn
 replace hk := hk.trans (Kp.of bn (Nat.le_trans HB0.out hk.size))
 clear bn hx1
 have HBL := Lib.hid (fun W => build_reader mb t (s := sg (oTop (some 1))) (A := A1) (n := n1) (c := c1) (B := B1) (m := m1) (d := d1) (xs := dimZ) rfl W)
 have hra0 : Hid (qa < w3.heap.size) := h_ra.lt
 have hrb0 : Hid (qb < w3.heap.size) := h_rb.lt
 have hrt0 : Hid (tb < w3.heap.size) := hM.s.lt
 have hkz : Hid (w.heap.size ≤ w3.heap.size) := hk.size
 have h_rr := rowA_new w3 107 (rdV mb t ((0 : Nat) : Int) (uL (sg (oTop (some 1))) A1 n1 c1 B1 m1 d1 dimZ))
 have bn := below_new w3 (.cells (rdV mb t ((0 : Nat) : Int) (uL (sg (oTop (some 1))) A1 n1 c1 B1 m1 d1 dimZ)) 107)
 replace hM := hM.below bn
 replace h_ra := h_ra.below bn
 replace h_rb := h_rb.below bn
 have hq2 := hq1.below bn
 replace hk := hk.trans (Kp.of bn (Nat.le_trans HB0.out hk.size))
 clear hq1 bn
 have HF13 := Lib.hid (fits13 (L := (uL (sg (oTop (some 1))) A1 n1 c1 B1 m1 d1 dimZ)) (mb := mb) (s := t) (i := ((0 : Nat) : Int)) rfl uL_one)
 go_wp2_with (first | (refine wpList_buildV (by rfl) _ _ (by rfl) _ (by rfl) _ (by assumption) ?_) | (refine wpList_storeNew (by rfl) _ _ _ (by rfl) _ _ _ (by rfl) (by rfl) (by assumption) ?_))
 generalize w3.alloc (.cells (rdV mb t ((0 : Nat) : Int) (uL (sg (oTop (some 1))) A1 n1 c1 B1 m1 d1 dimZ)) 107) = w4 at *
 obtain ⟨rb, er⟩ : ∃ g, g = w3.heap.size := ⟨_, rfl⟩
 rw [← er] at h_rr hra0 hrb0 hrt0 hkz
 rw [← er]
 clear er HBL HF13
 refine (tPieces_c (p := oneU) h_rr ⟨A1, n1, c1, B1, m1, d1, rfl, hq2, rfl⟩ oneU_ok hM.map hz (Nat.zero_le _) (t.size + 1) (by omega) (parseU M (bytesOf t)) (by unfold parseU; rw [length_bytesOf, List.drop_zero])).mono ?_
 rintro e w5 ⟨E, A, rfl, hg, hp⟩
 have nA := RowA.onward (rb := rb) h_ra hg (by have := hra0.out; omega)
 have nB := RowA.onward (rb := rb) h_rb hg (by have := hrb0.out; omega)
 have nM : TabM w5 B tb mb M := ⟨RowA.onward (rb := rb) hM.row hg (by have := hrt0.out; omega), hM.2.1, hM.2.2.1, MapU.over h_rr rd_noughts hg hM.map⟩
 have nK := hk.grown hg hkz.out HB0.out
 have bn := below_new w5 (.cells (fltC E A) 56)
 have h_rf := rowA_new w5 56 (fltC E A)
 have HRA := Lib.hid (nA.below bn)
 have HRB := Lib.hid (nB.below bn)
 have HM := Lib.hid (nM.below bn)
 have HK := Lib.hid (nK.trans (Kp.of bn (Nat.le_trans HB0.out nK.size)))
 have hfa0 : Hid (w5.heap.size ≠ qa) := by show _ ≠ _; have := RowA.lt nA; omega
 have hfb0 : Hid (w5.heap.size ≠ qb) := by show _ ≠ _; have := RowA.lt nB; omega
 have HBN := Lib.hid bn
 have HSZ : Hid (w.heap.size ≤ w5.heap.size) := nK.size
 clear h_ra h_rb hM hk nA nB nM nK h_rr hq2 hg bn
 cases hR : parseU M (bytesOf t) with
 | bad x r =>
  rw [hR] at hp
  obtain ⟨rfl, rfl, hx0⟩ := hp
  have hE : (E != 0) = true := by simpa using hx0
  have HE0 := Lib.hid hx0
  have HR := Lib.hid hR
  clear hx0 hR
  go_wp2_with (refine wpList_storeNew (by rfl) _ _ _ (by rfl) _ _ _ (by rfl) (by rfl) (Lib.hid (fitsF (E) ((t.size : Int) - (r : Int)))) ?_)
  generalize w5.alloc (.cells (fltC E ((t.size : Int) - (r : Int))) 56) = wS at *
  obtain ⟨qf, ef⟩ : ∃ g, g = w5.heap.size := ⟨_, rfl⟩
  rw [← ef] at h_rf
  rw [← ef]
  have hfa : Hid (qf ≠ qa) := by show _ ≠ _; rw [ef]; exact hfa0.out
  have hfb : Hid (qf ≠ qb) := by show _ ≠ _; rw [ef]; exact hfb0.out
  clear ef hfa0 hfb0
  refine region_freeR 4 [some 29, some 30, none, none] ?aF9 (Duo qa qb (fltC E ((t.size : Int) - (r : Int)))) (DuoS wS qa qb (fltC E ((t.size : Int) - (r : Int)))) (fun k vv wx => match k with
   | 0 => vv = .agg z10
   | 1 => vv = .agg (fltC E ((t.size : Int) - (r : Int)))
   | 2 => True
   | _ => RowA wx qb 56 (fltC E ((t.size : Int) - (r : Int))))
   (by kernel_rfl) ?haF9 rfl (by kernel_rfl) (fun _ _ _ _ _ h => h) ?hSb9 ?hPb9 ?hS9 ?hop9 ?hfin9
  case haF9 =>
   intro vals
   simp only [fillAll, dAt, Act.put, List.setIfInBounds_toArray, List.set_cons_zero, List.set_cons_succ]
   exact rfl
  case hSb9 => exact fun wx wy h k => DuoS.step k h
  case hPb9 =>
   intro k v wa wb hb hS h
   match k, h with
   | 0, h => exact h
   | 1, h => exact h
   | 2, h => exact h
   | _ + 3, h => exact hb.2.2.2.2.2.2.1 h
  case hS9 => exact DuoS.start HRA.out HRB.out
  case hop9 =>
   refine .cons (k := 0) ?_ (.cons (k := 1) ?_ (.cons (k := 2) ?_ (.cons (k := 3) ?_ .nil)))
   all_goals intro vals wr hS hd KC hK
   all_goals (show Oper.wp _ _ _ _ _ _; dsimp only)
   · go_simp
     refine hK _ _ rfl (Duo.refl _) (by first | rfl | simp)
   · refine wp_loadV 56 _ rfl _ _ rfl (fltC E ((t.size : Int) - (r : Int))) (Lib.hid (DuoS.row hS h_rf (Ne.symm hfa.out) (Ne.symm hfb.out)).inV) (Lib.hid (manyF _ _)) ?_
     refine hK _ _ rfl (Duo.refl _) (by first | rfl | simp)
   · have d0 : vals 0 = _ := hd 0 (by decide +kernel)
     rw [d0]
     have hA1 := hS.2.2.2.2.2.1
     refine wp_storeV 37 _ _ rfl _ rfl z10 rfl _ _ (Lib.hid hA1) (Lib.hid (fits10 (V := z10) rfl z10_one)) ?_
     exact hK _ _ rfl (Duo.storeA hS hab.out) trivial
   · have d1 : vals 1 = _ := hd 1 (by decide +kernel)
     rw [d1]
     rcases hS.2.2.2.2.2.2 with hB1 | hB1
     · refine wp_storeV 56 _ _ rfl _ rfl (fltC E ((t.size : Int) - (r : Int))) rfl _ _ (Lib.hid hB1) (Lib.hid (fitsF _ _)) ?_
       exact hK _ _ rfl (Duo.storeB hB1 hab.out) (RowA.fill hB1)
     · refine wp_storeV 56 _ _ rfl _ rfl (fltC E ((t.size : Int) - (r : Int))) rfl _ _ (Lib.hid hB1) (Lib.hid ⟨manyF _ _, rfl, (fitsF _ _).2.2⟩) ?_
       exact hK _ _ rfl (Duo.storeB hB1 hab.out) (RowA.fill hB1)
  case hfin9 =>
   intro vals wr hS hP
   have hB2 : RowA wr qb 56 (fltC E ((t.size : Int) - (r : Int))) := hP 3 (by decide)
   have HRA1 := Lib.hid hS.2.2.2.2.2.1
   have HRB2 := Lib.hid hB2
   have hbel := DuoS.bel hS HRA.out HRB.out hB2 hab.out
   have nM := TabM.fill (V := (fltC E ((t.size : Int) - (r : Int)))) HM.out HRB.out flt_limb htb2.out
   have nM2 := Lib.hid (nM.below hbel)
   have nK0 := (HK.out.fill hqb.out (Nat.le_trans HB0.out hqb.out) (fltC E ((t.size : Int) - (r : Int))))
   have nK := Lib.hid (nK0.trans (Kp.of hbel (Nat.le_trans HB0.out nK0.size)))
   refine wpAny_done (by kernel_rfl) ?_ _
   clear hP hS nM hbel nK0
   go_wp2_with fail
   refine bodyPost_ret (results_two2 rfl _ _ _ _ _ _ z10 (fltC E ((t.size : Int) - (r : Int))) (0, 0) _ _ rfl rfl HRA1.out HRB2.out Tryz.underlying37 rfl Tryz.underlying56 rfl size10 sizeF) rfl ?_
   exact ⟨_, E, _, rfl, ⟨mb, nM2.out⟩, nK.out, by rw [HR.out]; exact ⟨rfl, rfl, HE0.out, rfl⟩⟩
 | ok q =>
  rw [hR] at hp
  obtain ⟨rfl, rfl, hoq, jj, L2, hr2, hu2⟩ := hp
  have hr3 := hr2.below HBN.out
  have hu3 := UV.below hu2 HBN.out
  have HR := Lib.hid hR
  clear hr2 hu2 hR HBN
  have HI := Lib.hid (rd_unit hr3)
  have HMu := Lib.hid (many10 (UV.size hu3).1)
  have HU := Lib.hid (fits10 (UV.size hu3).1 (UV.size hu3).2)
  have HSz : Hid ((Tryz.prog.info? 37).map (·.size) = some L2.toArray.size) := by show _ = _; rw [(UV.size hu3).1]; exact size10
  have HRA2 := Lib.hid (RowA.fill HRA.out (V' := L2.toArray))
  have HRB1 := Lib.hid (RowA.farRow (V' := L2.toArray) HRB.out hab.out)
  have HRA1 := Lib.hid (RowA.farRow (V' := fltC 0 0) HRA2.out (Ne.symm hab.out))
  have HRB2 := Lib.hid (RowA.fill HRB1.out (V' := fltC 0 0))
  have hu4 := UV.fill (V := L2.toArray) hu3 HRA.out z10_limb
  have hu5 := Lib.hid (UV.fill (V := fltC 0 0) hu4 HRB1.out flt_limb)
  have nM := TabM.fill (V := L2.toArray) HM.out HRA.out z10_limb hta.out
  have nM2 := Lib.hid (TabM.fill (V := fltC 0 0) nM HRB1.out flt_limb htb2.out)
  have nK := Lib.hid ((HK.out.fill hqa.out (Nat.le_trans HB0.out hqa.out) L2.toArray).fill hqb.out (Nat.le_trans HB0.out hqb.out) (fltC 0 0))
  clear hr3 hu3 hu4 nM h_rf
  go_wp2_with (first | (refine wpList_loadV (by rfl) _ _ (by rfl) _ _ (by rfl) _ (by assumption) (by assumption) ?_) | (refine wpList_storeNew (by rfl) _ _ _ (by rfl) _ _ _ (by rfl) (by rfl) (Lib.hid (fitsF (0) (0))) ?_) | (refine wpList_storeV (by rfl) _ _ _ (by rfl) _ (by rfl) _ (by rfl) _ _ (by assumption) (by assumption) ?_) | (refine wpList_storeV (by rfl) _ _ _ (by rfl) _ (by rfl) _ (by rfl) _ _ (by assumption) (Lib.hid (fitsF (0) (0))) ?_))
  refine bodyPost_ret (results_two2 rfl _ _ _ _ _ _ L2.toArray (fltC 0 0) (0, 0) _ _ rfl rfl HRA1.out HRB2.out Tryz.underlying37 rfl Tryz.underlying56 rfl HSz.out sizeF) rfl ?_
  exact ⟨_, 0, 0, rfl, ⟨mb, nM2.out⟩, nK.out, by rw [HR.out]; exact ⟨rfl, rfl, hoq, hu5.out⟩⟩
end
end Go.Proofs.YtohokfbohdoijaaGreatDoor

/- What the method Define of a table of units answers, as contracts over memory. Conditions: a name of at most a million bytes; the table of prefixes reads as it is laid. -/
namespace Go.Proofs.YtohokfbohdoijaaGreatDoor
open Go.RowKit Limb
set_option linter.unusedVariables false
section
variable {w : World} {B tb : Nat} {M : Tb} {s : Bool} {A : Option Addr} {n c : Nat} {az : List Nat} {C : Option Addr} {m d : Nat} {bz : List Nat} {o : Option Rat} {L : Nat} {xs : List Int} {q : Rat}
theorem uv_of (hx : QQ w s A n c az C m d bz (some q) L) (hl : xs.length = 7) : UV w (uV s A n c C m d xs) (some q) xs := by
 obtain ⟨e1, e2, e3, e4, e5, e6, _⟩ := hx.some
 subst e1 e2 e3
 exact ⟨A, n, c, C, m, d, rfl, qt_some e5 e6 e4, hl⟩
set_option maxHeartbeats 4000000 in
set_option maxRecDepth 100000 in
theorem uDefine_name (T : UTab w) (hs : TabS w B tb M) (hB : B ≤ w.heap.size) (t : ByteArray) (hz : t.size ≤ 1000000) (hx : QQ w s A n c az C m d bz o L) (hL : L ≤ 1000) (hl : xs.length = 7) (h64 : I64 xs) (hN : Hid (isNm (bytesOf t) = false)) :
 Calls Tryz.prog 13 #[.pointer (some ⟨tb, 0, none⟩), .string t, .agg (uV s A n c C m d xs)] w fun e w' => e = .returned (.int .i64 1) ∧ TabS w' B tb M ∧ Kp tb B w w' := by
 have bn := below_new w (.cells (uV s A n c C m d xs) 37)
 have h_rx := rowA_new w 37 (uV s A n c C m d xs)
 have hT := Lib.hid (T.below bn)
 have hS0 := Lib.hid (hs.below bn)
 replace hx := hx.below bn
 have HK := Lib.hid (Kp.of (tb := tb) bn hB)
 have hne : tb ≠ w.heap.size := by have := hs.lt; omega
 have hB2 : Hid (B ≤ (w.alloc (.cells (uV s A n c C m d xs) 37)).heap.size) := by show _ ≤ _; rw [World.size_alloc]; omega
 have hB0 := Lib.hid hB
 have HL := Lib.hid hl
 have H64 := Lib.hid h64
 have HLL := Lib.hid hL
 have HMu := Lib.hid (many10 (size_uV (s := s) (A := A) (n := n) (c := c) (B := C) (m := m) (d := d) hl))
 have HI := Lib.hid h_rx.inV
 have HZ := Lib.hid hz
 clear T hs bn hl h64 hB hL hz
 go_enter Tryz.func13, Tryz.ntmps13
 go_wp2_with (first | (go_at_call 39; refine (uIsName_c t (by have := HZ.out; omega) false hN.out _).mono ?_; rintro e w2 ⟨rfl, rfl⟩) | (refine wpList_loadV (by rfl) _ _ (by rfl) _ _ (by rfl) _ (by assumption) (by assumption) ?_))
 go_ret
 exact ⟨rfl, hS0.out, HK.out⟩
set_option maxHeartbeats 4000000 in
set_option maxRecDepth 100000 in
theorem uDefine_may (T : UTab w) (hs : TabS w B tb M) (hB : B ≤ w.heap.size) (t : ByteArray) (hz : t.size ≤ 1000000) (hx : QQ w s A n c az C m d bz o L) (hL : L ≤ 1000) (hl : xs.length = 7) (h64 : I64 xs) (hN : Hid (isNm (bytesOf t) = true)) (hY : Hid (mayB o xs = false)) :
 Calls Tryz.prog 13 #[.pointer (some ⟨tb, 0, none⟩), .string t, .agg (uV s A n c C m d xs)] w fun e w' => e = .returned (.int .i64 1) ∧ TabS w' B tb M ∧ Kp tb B w w' := by
 have bn := below_new w (.cells (uV s A n c C m d xs) 37)
 have h_rx := rowA_new w 37 (uV s A n c C m d xs)
 have hT := Lib.hid (T.below bn)
 have hS0 := Lib.hid (hs.below bn)
 replace hx := hx.below bn
 have HK := Lib.hid (Kp.of (tb := tb) bn hB)
 have hne : tb ≠ w.heap.size := by have := hs.lt; omega
 have hB2 : Hid (B ≤ (w.alloc (.cells (uV s A n c C m d xs) 37)).heap.size) := by show _ ≤ _; rw [World.size_alloc]; omega
 have hB0 := Lib.hid hB
 have HL := Lib.hid hl
 have H64 := Lib.hid h64
 have HLL := Lib.hid hL
 have HMu := Lib.hid (many10 (size_uV (s := s) (A := A) (n := n) (c := c) (B := C) (m := m) (d := d) hl))
 have HI := Lib.hid h_rx.inV
 have HZ := Lib.hid hz
 clear T hs bn hl h64 hB hL hz
 go_enter Tryz.func13, Tryz.ntmps13
 go_wp2_with (first | (go_at_call 39; refine (uIsName_c t (by have := HZ.out; omega) true hN.out _).mono ?_; rintro e w2 ⟨rfl, rfl⟩) | (refine wpList_loadV (by rfl) _ _ (by rfl) _ _ (by rfl) _ (by assumption) (by assumption) ?_))
 clear HI
 generalize w.alloc (.cells (uV s A n c C m d xs) 37) = w1 at *
 obtain ⟨qx, eq⟩ : ∃ g, g = w.heap.size := ⟨_, rfl⟩
 rw [← eq] at h_rx hne ⊢
 clear eq
 refine (uMay_c hx HLL.out xs HL.out H64.out false hY.out).mono ?_
 rintro e w2 ⟨rfl, bn⟩
 have hS1 := Lib.hid (hS0.out.below bn)
 have hK1 := Lib.hid (HK.out.trans (Kp.of bn hB2.out))
 clear bn
 go_wp2
 go_ret
 exact ⟨rfl, hS1.out, hK1.out⟩
set_option maxHeartbeats 4000000 in
set_option maxRecDepth 100000 in
theorem uDefine_twice (T : UTab w) (hs : TabS w B tb M) (hB : B ≤ w.heap.size) (t : ByteArray) (hz : t.size ≤ 1000000) (hx : QQ w s A n c az C m d bz o L) (hL : L ≤ 1000) (hl : xs.length = 7) (h64 : I64 xs) (hN : Hid (isNm (bytesOf t) = true)) (hY : Hid (mayB o xs = true)) (hW : Hid ((M.lookup (bytesOf t)).isSome = true)) :
 Calls Tryz.prog 13 #[.pointer (some ⟨tb, 0, none⟩), .string t, .agg (uV s A n c C m d xs)] w fun e w' => e = .returned (.int .i64 14) ∧ (∃ mb, TabM w' B tb mb M) ∧ Kp tb B w w' := by
 have bn := below_new w (.cells (uV s A n c C m d xs) 37)
 have h_rx := rowA_new w 37 (uV s A n c C m d xs)
 have hT := Lib.hid (T.below bn)
 have hS0 := Lib.hid (hs.below bn)
 replace hx := hx.below bn
 have HK := Lib.hid (Kp.of (tb := tb) bn hB)
 have hne : tb ≠ w.heap.size := by have := hs.lt; omega
 have hB2 : Hid (B ≤ (w.alloc (.cells (uV s A n c C m d xs) 37)).heap.size) := by show _ ≤ _; rw [World.size_alloc]; omega
 have hB0 := Lib.hid hB
 have HL := Lib.hid hl
 have H64 := Lib.hid h64
 have HLL := Lib.hid hL
 have HMu := Lib.hid (many10 (size_uV (s := s) (A := A) (n := n) (c := c) (B := C) (m := m) (d := d) hl))
 have HI := Lib.hid h_rx.inV
 have HZ := Lib.hid hz
 clear T hs bn hl h64 hB hL hz
 go_enter Tryz.func13, Tryz.ntmps13
 go_wp2_with (first | (go_at_call 39; refine (uIsName_c t (by have := HZ.out; omega) true hN.out _).mono ?_; rintro e w2 ⟨rfl, rfl⟩) | (refine wpList_loadV (by rfl) _ _ (by rfl) _ _ (by rfl) _ (by assumption) (by assumption) ?_))
 clear HI
 generalize w.alloc (.cells (uV s A n c C m d xs) 37) = w1 at *
 obtain ⟨qx, eq⟩ : ∃ g, g = w.heap.size := ⟨_, rfl⟩
 rw [← eq] at h_rx hne ⊢
 clear eq
 refine (uMay_c hx HLL.out xs HL.out H64.out true hY.out).mono ?_
 rintro e w2 ⟨rfl, bn⟩
 have hS1 := hS0.out.below bn
 have hK1 := HK.out.trans (Kp.of bn hB2.out)
 have hT1 := hT.out.below bn
 have hB3 := Nat.le_trans hB0.out hK1.size
 have hI := Lib.hid hS1
 have hK2 := Lib.hid hK1
 have hT2 := Lib.hid hT1
 have hB4 := Lib.hid hB3
 clear bn hS1 hK1 hT1 hB3
 go_wp2_with fail
 refine (uHas_c hT2.out hI.out hB4.out t HZ.out).mono ?_
 rintro e w3 ⟨rfl, ⟨mb, hM⟩, hk⟩
 rw [hW.out]
 have hM2 := Lib.hid hM
 have hk2 := Lib.hid (hK2.out.trans hk)
 clear hM hk
 go_wp2
 go_ret
 exact ⟨rfl, ⟨mb, hM2.out⟩, hk2.out⟩
set_option maxHeartbeats 4000000 in
set_option maxRecDepth 100000 in
theorem uDefine_ok (T : UTab w) (hs : TabS w B tb M) (hB : B ≤ w.heap.size) (t : ByteArray) (hz : t.size ≤ 1000000) (hx : QQ w s A n c az C m d bz (some q) L) (hL : L ≤ 1000) (hl : xs.length = 7) (h64 : I64 xs) (hN : Hid (isNm (bytesOf t) = true)) (hY : Hid (mayB (some q) xs = true)) (hNo : Hid (M.lookup (bytesOf t) = none)) (hlen : Hid (M.length ≤ 1000000)) :
 Calls Tryz.prog 13 #[.pointer (some ⟨tb, 0, none⟩), .string t, .agg (uV s A n c C m d xs)] w fun e w' => e = .returned (.int .i64 0) ∧ (∃ mb, TabM w' B tb mb ((bytesOf t, (q, xs)) :: M)) ∧ Kw tb B w w' := by
 have hOk : Hid (okU (q, xs)) := by
  obtain ⟨q2, e, h⟩ := (mayB_iff hl (fun q2 e => by cases e; exact hx.some.2.2.2.1)).1 hY.out
  cases e; exact h
 have hu0 := uv_of hx hl
 have bn := below_new w (.cells (uV s A n c C m d xs) 37)
 have h_rx := rowA_new w 37 (uV s A n c C m d xs)
 have hT := Lib.hid (T.below bn)
 have hS0 := Lib.hid (hs.below bn)
 replace hx := hx.below bn
 have hu1 := Lib.hid (hu0.below bn)
 clear hu0
 have HK := Lib.hid (Kp.of (tb := tb) bn hB)
 have hne : tb ≠ w.heap.size := by have := hs.lt; omega
 have hB2 : Hid (B ≤ (w.alloc (.cells (uV s A n c C m d xs) 37)).heap.size) := by show _ ≤ _; rw [World.size_alloc]; omega
 have hB0 := Lib.hid hB
 have HL := Lib.hid hl
 have H64 := Lib.hid h64
 have HLL := Lib.hid hL
 have HMu := Lib.hid (many10 (size_uV (s := s) (A := A) (n := n) (c := c) (B := C) (m := m) (d := d) hl))
 have HI := Lib.hid h_rx.inV
 have HZ := Lib.hid hz
 clear T hs bn hl h64 hB hL hz
 go_enter Tryz.func13, Tryz.ntmps13
 go_wp2_with (first | (go_at_call 39; refine (uIsName_c t (by have := HZ.out; omega) true hN.out _).mono ?_; rintro e w2 ⟨rfl, rfl⟩) | (refine wpList_loadV (by rfl) _ _ (by rfl) _ _ (by rfl) _ (by assumption) (by assumption) ?_))
 clear HI
 generalize w.alloc (.cells (uV s A n c C m d xs) 37) = w1 at *
 obtain ⟨qx, eq⟩ : ∃ g, g = w.heap.size := ⟨_, rfl⟩
 rw [← eq] at h_rx hne ⊢
 clear eq
 refine (uMay_c hx HLL.out xs HL.out H64.out true hY.out).mono ?_
 rintro e w2 ⟨rfl, bn⟩
 have hS1 := hS0.out.below bn
 have hK1 := HK.out.trans (Kp.of bn hB2.out)
 have hT1 := hT.out.below bn
 have hB3 := Nat.le_trans hB0.out hK1.size
 have hI := Lib.hid hS1
 have hK2 := Lib.hid hK1
 have hT2 := Lib.hid hT1
 have hB4 := Lib.hid hB3
 have hu2 := Lib.hid (hu1.out.below bn)
 have hr2 := Lib.hid (h_rx.below bn)
 clear bn hS1 hK1 hT1 hB3 h_rx hx hu1 hS0 hT
 go_wp2_with fail
 refine (uHas_c hT2.out hI.out hB4.out t HZ.out).mono ?_
 rintro e wS ⟨rfl, ⟨mb, hM⟩, hk⟩
 have hW : (M.lookup (bytesOf t)).isSome = false := by rw [hNo.out]; rfl
 rw [hW]
 clear hW
 have hu := hu2.out.kp hk
 have h_rx := hk.row hr2.out (Ne.symm hne)
 replace hk := hK2.out.trans hk
 have hB := hB0
 have hz := HZ
 clear hu2 hr2 hI hT2 hK2 HK
 go_wp2_with fail
 refine region_free 5 1 [24, 25, 26, 27, 28] ?aF1 (fun wx => Below wS.heap.size wS wx) (fun k vv wx => match k with
  | 0 => vv = .pointer (some ⟨tb, 0, none⟩)
  | 1 => vv = .map (some mb)
  | 2 => vv = .string t
  | 3 => vv = .agg (uV s A n c C m d xs)
  | _ => ∃ (e0 : Array Value), vv = .agg e0 ∧ UV wx e0 (some q) xs)
  (fun k => false) (by kernel_rfl) ?haF1 rfl (by kernel_rfl) (by kernel_rfl) (fun _ _ _ _ _ h => h) ?hSb1 ?hPb1 ?hS1 ?hop1 ?hfin1
 case haF1 =>
  intro vals
  simp only [fillAll, List.getElem?_cons_zero, List.getElem?_cons_succ, Act.put, List.setIfInBounds_toArray, List.set_cons_zero, List.set_cons_succ]
  exact rfl
 case hSb1 => exact fun wx w2 hb hS => below_two hS hb
 case hPb1 =>
  intro k v wa wb hb h
  match k, h with
  | 0, h => exact h
  | 1, h => exact h
  | 2, h => exact h
  | 3, h => exact h
  | _ + 4, ⟨e0, h1, g0⟩ => exact ⟨e0, h1, g0.below hb⟩
 case hS1 => exact (Below.refl _ _).drew
 case hop1 =>
  refine .cons (k := 0) ?_ (.cons (k := 1) ?_ (.cons (k := 2) ?_ (.cons (k := 3) ?_ (.cons (k := 4) ?_ (.nil)))))
  all_goals intro vals wr hS hd KC hK
  all_goals (show Oper.wp _ _ _ _ _ _; dsimp only)
  · go_simp
    refine hK _ _ rfl (Below.refl _ _) (by first | rfl | simp) (fun h => by cases h)
  · have d0 : vals 0 = _ := hd 0 (by decide +kernel)
    rw [d0]
    go_simp
    go_at_call 42
    with_reducible refine (uKnown_done (TabM.row (hM.below hS))).mono ?_
    rintro e w2 ⟨rfl, bn_r⟩
    refine hK _ _ rfl bn_r rfl (fun h => by cases h)
  · go_simp
    refine hK _ _ rfl (Below.refl _ _) (by first | rfl | simp) (fun h => by cases h)
  · refine wp_loadV 37 _ rfl _ _ rfl (uV s A n c C m d xs) (Lib.hid (h_rx.below hS).inV) HMu ?_
    refine hK _ _ rfl (Below.refl _ _) (by first | rfl | simp) (fun h => by cases h)
  · have d3 : vals 3 = _ := hd 3 (by decide +kernel)
    rw [d3]
    go_simp
    go_at_call 41
    with_reducible refine (uClone_c (hu.below hS)).mono ?_
    rintro e w2 ⟨r0, rfl, f0, bn_r⟩
    refine hK _ _ rfl bn_r ⟨_, rfl, f0⟩ (fun h => by cases h)
 case hfin1 =>
  intro vals wr hS hP hne
  have ez_1 : vals 1 = _ := hP 1 (by decide)
  have ez_2 : vals 2 = _ := hP 2 (by decide)
  obtain ⟨V_4_0, ez_4, h_4_0⟩ := hP 4 (by decide)
  obtain ⟨w', hrun, hm2, hcs, hg⟩ := (TabM.map (hM.below hS)).store hlen.out (.string t) (bytesOf t) (bytes_bytesOf t) (key_str hz.out) (u := (q, xs)) hOk.out hNo.out h_4_0
  have hT2 := Lib.hid (show TabM w' B tb mb ((bytesOf t, (q, xs)) :: M) from ⟨RowA.cs hcs (hM.below hS).1, hM.2.1, hM.2.2.1, hm2⟩)
  have hK2 := Lib.hid (hk.toKw.trans ((Kw.of hS (Nat.le_trans hB.out hk.size)).trans (show Kw tb B wr w' from ⟨(Below.refl _ _).grown hg (Nat.le_trans hB.out (Nat.le_trans hk.size hS.size)) (fun k e => by cases e; exact hM.2.2.1), fun g V S f e _ => hcs.stay g V S f e⟩)))
  clear hm2 hcs hg
  try dsimp only
  rw [ez_1, ez_2, ez_4]
  refine wpAny_ready (rs := [5]) (by kernel_rfl) (by simp) (AllReady.cons rfl (fun KC hK => ?_) AllReady.nil)
  go_simp
  refine hK _ _ ?_
  clear hK KC
  refine wpAny_done (by kernel_rfl) ?_ _
  go_wp2
  go_ret
  exact ⟨rfl, ⟨mb, hT2.out⟩, hK2.out⟩
end
end Go.Proofs.YtohokfbohdoijaaGreatDoor

/- What the statements on units ask beside a table's calls: New, whether two units are alike, whether a unit, a name may be, whether a factor is too long, Define of no table, a digit; as contracts over memory. No condition. -/
namespace Go.Proofs.YtohokfbohdoijaaGreatDoor
open Go.RowKit Limb
set_option linter.unusedVariables false
set_option maxRecDepth 100000 in
theorem uNew_c (w : World) : Calls Tryz.prog 8 #[] w fun e w' => e = .returned (.pointer (some ⟨w.heap.size, 0, none⟩)) ∧ w' = w.alloc (.cells (tabV 0 none) 95) := by
 go_enter Tryz.func8, Tryz.ntmps8
 go_wp2
 go_ret
 exact ⟨rfl, rfl⟩
section
variable {w : World} {s : Bool} {A : Option Addr} {n c : Nat} {az : List Nat} {C : Option Addr} {m d : Nat} {bz : List Nat} {o : Option Rat} {L : Nat} {xs : List Int}
variable {s' : Bool} {A' : Option Addr} {n' c' : Nat} {az' : List Nat} {C' : Option Addr} {m' d' : Nat} {bz' : List Nat} {o' : Option Rat} {L' : Nat} {ys : List Int}
set_option maxHeartbeats 4000000 in
set_option maxRecDepth 100000 in
theorem keepUnit_c (hx : QQ w s A n c az C m d bz o L) (hy : QQ w s' A' n' c' az' C' m' d' bz' o' L') (h1 : L ≤ 100000) (h2 : L' ≤ 100000) (hl : xs.length = 7) (hl' : ys.length = 7) (v : Bool) (hv : (decide (s = s') && same az az' && same bz bz') = v) (u : Bool) (hu : (decide (xs = ys) && v) = u) :
 Calls Tryz.prog 18 #[.agg (uV s A n c C m d xs), .agg (uV s' A' n' c' C' m' d' ys)] w fun e w' => e = .returned (.bool u) ∧ Below w.heap.size w w' := by
 have bw := below_new w (.cells (uV s A n c C m d xs) 37)
 have h_rx := rowA_new w 37 (uV s A n c C m d xs)
 have bn := below_new (w.alloc (.cells (uV s A n c C m d xs) 37)) (.cells (uV s' A' n' c' C' m' d' ys) 37)
 have h_ry := rowA_new (w.alloc (.cells (uV s A n c C m d xs) 37)) 37 (uV s' A' n' c' C' m' d' ys)
 replace h_rx := h_rx.below bn
 replace bw := below_two bw bn
 replace hx := hx.below bw
 replace hy := hy.below bw
 clear bn
 simp only [World.size_alloc] at h_ry
 have HX := Lib.hid hx
 have HY := Lib.hid hy
 have H1 := Lib.hid h1
 have H2 := Lib.hid h2
 have HV := Lib.hid hv
 have HU := Lib.hid hu
 have HB := Lib.hid bw
 have I1 := Lib.hid (uV_rat h_rx)
 have I2 := Lib.hid (uV_dim h_rx)
 have I3 := Lib.hid (uV_rat h_ry)
 have I4 := Lib.hid (uV_dim h_ry)
 have M1 := Lib.hid (many3 (.bool s) (.slice A n c) (.slice C m d))
 have M2 := Lib.hid (many7 hl)
 have M3 := Lib.hid (many3 (.bool s') (.slice A' n' c') (.slice C' m' d'))
 have M4 := Lib.hid (many7 hl')
 have heq := fun W => equal_dim (xs := xs) (ys := ys) hl hl' (b := decide (xs = ys)) rfl W
 obtain ⟨e, he⟩ : ∃ e, decide (xs = ys) = e := ⟨_, rfl⟩
 rw [he] at heq
 replace HU : Hid ((e && v) = u) := by show _ = _; rw [← he]; exact HU.out
 clear hx hy h1 h2 hl hl' hv hu bw h_rx h_ry he
 go_enter Tryz.func18, Tryz.ntmps18
 cases e
 · have hu2 : Hid (false = u) := by show _ = _; rw [← HU.out]; rfl
   clear HU
   go_wp2_with (refine wpList_loadV (by rfl) _ _ (by rfl) _ _ (by rfl) _ (by assumption) (by assumption) ?_)
   go_ret
   exact ⟨by rw [← hu2.out]; rfl, HB.out⟩
 · have hu2 : Hid (v = u) := by show _ = _; rw [← HU.out]; rfl
   clear HU
   go_wp2_with (first | (go_at_call 27; refine (keepRat_c HX.out HY.out H1.out H2.out v HV.out).mono ?_; rintro e w2 ⟨rfl, bn⟩) | (refine wpList_loadV (by rfl) _ _ (by rfl) _ _ (by rfl) _ (by assumption) (by assumption) ?_))
   go_ret
   exact ⟨by rw [← hu2.out]; rfl, below_two HB.out bn⟩
end
theorem keepUnit_eq {w : World} {v v' : Array Value} {o o' : Option Rat} {xs ys : List Int} (h : UV w v o xs) (h' : UV w v' o' ys) (e : o = o') (e2 : xs = ys) :
 Calls Tryz.prog 18 #[.agg v, .agg v'] w fun e w' => e = .returned (.bool true) ∧ Below w.heap.size w w' := by
 obtain ⟨A, n, c, C, m, d, rfl, hq, hx⟩ := h
 obtain ⟨A', n', c', C', m', d', rfl, hq', hx'⟩ := h'
 subst e e2
 exact keepUnit_c hq hq' (by decide) (by decide) hx hx' true (keepQ rfl) true (by simp)
section
variable {w : World} {s : Bool} {A : Option Addr} {n c : Nat} {az : List Nat} {B : Option Addr} {m d : Nat} {bs : List Nat} {o : Option Rat} {L : Nat} {xs : List Int}
set_option maxHeartbeats 4000000 in
set_option maxRecDepth 100000 in
theorem refUMay_c (hx : QQ w s A n c az B m d bs o L) (h1 : L ≤ 1000) (hl : xs.length = 7) (v : Bool) (hv : mayB o xs = v) :
 Calls Tryz.prog 24 #[.agg (uV s A n c B m d xs)] w fun e w' => e = .returned (.bool v) ∧ Below w.heap.size w w' := by
 have HX := Lib.hid hl
 have HV := Lib.hid hv
 have H1 := Lib.hid h1
 have HM3 := Lib.hid (many3 (.bool s) (.slice A n c) (.slice B m d))
 have HM7 := Lib.hid (many7 hl)
 clear hl hv h1
 have bw := below_new w (.cells (uV s A n c B m d xs) 37)
 have h_rx := rowA_new w 37 (uV s A n c B m d xs)
 have HI := Lib.hid (uV_rat h_rx)
 replace hx := hx.below bw
 go_enter Tryz.func24, Tryz.ntmps24
 go_wp2_with (refine wpList_loadV (by rfl) _ _ (by rfl) _ _ (by rfl) _ (by assumption) (by assumption) ?_)
 clear HI
 generalize w.alloc (.cells (uV s A n c B m d xs) 37) = w1 at *
 obtain ⟨q_x, ex⟩ : ∃ g, g = w.heap.size := ⟨_, rfl⟩
 rw [← ex] at h_rx ⊢
 clear ex
 cases ho : o.isSome with
 | false =>
  refine (refGood_c hx (by have := H1.out; omega) false ho).mono ?_
  rintro e w2 ⟨rfl, bn⟩
  have hb := Lib.hid (below_two bw bn)
  have hv2 : Hid (false = v) := by
   show _ = _
   rw [← HV.out]
   cases o with
   | none => rfl
   | some q => cases ho
  clear bn bw hx h_rx
  go_wp2
  go_ret
  exact ⟨by rw [← hv2.out]; rfl, hb.out⟩
 | true =>
  refine (refGood_c hx (by have := H1.out; omega) true ho).mono ?_
  rintro e w2 ⟨rfl, bn⟩
  replace h_rx := h_rx.below bn
  replace hx := hx.below bn
  replace bw := below_two bw bn
  clear bn
  have HI := Lib.hid (uV_rat h_rx)
  go_wp2_with (refine wpList_loadV (by rfl) _ _ (by rfl) _ _ (by rfl) _ (by assumption) (by assumption) ?_)
  clear HI
  refine (refQSign_c hx H1.out _ rfl).mono ?_
  rintro e w3 ⟨rfl, bn⟩
  replace h_rx := h_rx.below bn
  replace bw := below_two bw bn
  clear bn hx
  have HI := Lib.hid (uV_dim h_rx)
  have HB := Lib.hid bw
  clear bw h_rx
  generalize hC : cmpR o (some 0) = K at *
  have HC := Lib.hid hC
  clear hC
  by_cases hK : 0 < K
  · have hv2 : Hid (goodD xs = v) := by
     show _ = _
     rw [← HV.out]; unfold mayB; rw [HC.out, decide_eq_true hK]; rfl
    go_wp2_with (refine wpList_loadV (by rfl) _ _ (by rfl) _ _ (by rfl) _ (by assumption) (by assumption) ?_)
    clear HI
    refine (refDGood_c HX.out v hv2.out).mono ?_
    rintro e w4 ⟨rfl, bn⟩
    have hb := Lib.hid (below_two HB.out bn)
    clear bn
    go_wp2
    go_ret
    exact ⟨rfl, hb.out⟩
  · have hv2 : Hid (false = v) := by
     show _ = _
     rw [← HV.out]; unfold mayB; rw [HC.out, decide_eq_false hK]; rfl
    have hK2 : K ≤ 0 := by omega
    go_wp2
    go_ret
    exact ⟨by rw [← hv2.out]; rfl, HB.out⟩
end
def longU (n m : Nat) : Bool := decide (70 < n) || decide (70 < m)
set_option maxHeartbeats 4000000 in
set_option maxRecDepth 100000 in
theorem ratLong_c (s : Bool) (A B : Option Addr) (n c m d : Nat) (v : Bool) (hv : longU n m = v) (w : World) :
 Calls Tryz.prog 36 #[.agg #[.bool s, .slice A n c, .slice B m d]] w fun e w' => e = .returned (.bool v) ∧ Below w.heap.size w w' := by
 have HW := Lib.hid (below_new w (.cells #[Value.bool s, Value.slice A n c, Value.slice B m d] 33))
 have Hv := Lib.hid hv
 clear hv
 by_cases h1 : 70 < n
 · have e1 : decide ((70 : Int) < (n : Int)) = true := by rw [decide_eq_true_eq]; omega
   have HV : RowKit.Hid (true = v) := by
    show _ = _
    rw [← Hv.out]; unfold longU; rw [decide_eq_true h1]; rfl
   clear h1 Hv
   go_enter Tryz.func36, Tryz.ntmps36
   go_wp2
   go_ret
   exact ⟨by rw [← HV.out]; rfl, HW.out⟩
 · have e1 : decide ((70 : Int) < (n : Int)) = false := by rw [decide_eq_false_iff_not]; omega
   have HV : RowKit.Hid (decide ((70 : Int) < (m : Int)) = v) := by
    show _ = _
    rw [← Hv.out]; unfold longU; rw [decide_eq_false h1, Bool.false_or, decide_eq_decide]; omega
   clear h1 Hv
   go_enter Tryz.func36, Tryz.ntmps36
   go_wp2
   go_ret
   exact ⟨by rw [← HV.out]; rfl, HW.out⟩
set_option maxHeartbeats 4000000 in
set_option maxRecDepth 100000 in
theorem unitLong_c {s : Bool} {A B : Option Addr} {n c m d : Nat} {xs : List Int} (v : Bool) (hv : longU n m = v) (w : World) :
 Calls Tryz.prog 11 #[.agg (uV s A n c B m d xs)] w fun e w' => e = .returned (.bool v) ∧ Below w.heap.size w w' := by
 have bw := below_new w (.cells (uV s A n c B m d xs) 37)
 have h_rx := rowA_new w 37 (uV s A n c B m d xs)
 have HI := Lib.hid (uV_rat h_rx)
 have HM3 := Lib.hid (many3 (.bool s) (.slice A n c) (.slice B m d))
 have HB := Lib.hid bw
 have HV := Lib.hid hv
 clear bw h_rx hv
 go_enter Tryz.func11, Tryz.ntmps11
 go_wp2_with (first | (go_at_call 36; refine (ratLong_c s A B n c m d v HV.out _).mono ?_; rintro e w2 ⟨rfl, bn⟩) | (refine wpList_loadV (by rfl) _ _ (by rfl) _ _ (by rfl) _ (by assumption) (by assumption) ?_))
 go_ret
 exact ⟨rfl, below_two HB.out bn⟩
set_option maxHeartbeats 4000000 in
set_option maxRecDepth 100000 in
theorem uDefine_nil {w : World} {V : Array Value} (t : ByteArray) (hV : V.size = 10 ∧ ∀ x ∈ V, x.oneCell' = true) :
 Calls Tryz.prog 13 #[.pointer none, .string t, .agg V] w fun e w' => e = .returned (.int .i64 1) ∧ Below w.heap.size w w' := by
 have HB := Lib.hid (below_new w (.cells V 37))
 go_enter Tryz.func13, Tryz.ntmps13
 go_wp2
 go_ret
 exact ⟨rfl, HB.out⟩
set_option maxHeartbeats 2000000 in
set_option maxRecDepth 100000 in
theorem dec12_c (n : Nat) (h10 : n < 10) (w : World) : Calls Tryz.prog 32 #[.int .i64 (n : Int)] w fun e w' => e = .returned (.string (Limb.strOf [48 + n])) ∧ Below w.heap.size w w' := by
 have hc : ∀ W : World, (convert 131 9 (.slice (some ⟨W.heap.size, 0, none⟩) 1 1)).run Tryz.prog (W.alloc (.cells #[Value.int IntKind.u8 ((48 + n : Nat) : Int)] 5)) = .ok (.string (Limb.strOf [48 + n])) (W.alloc (.cells #[Value.int IntKind.u8 ((48 + n : Nat) : Int)] 5)) := fun W =>
  run_text ⟨rfl, bytes_cons.2 ⟨by omega, bytes_nil⟩, fun _ => ⟨W.heap.size, 0, rfl, by simp, fun j hj => by
   obtain rfl : j = 0 := by omega
   rw [World.cell?_alloc_at _ _ _ _ rfl]; rfl⟩⟩ (by decide)
 have HB := Lib.hid (below_new w (.cells #[Value.int IntKind.u8 ((48 + n : Nat) : Int)] 5))
 obtain ⟨y, hy⟩ : ∃ y, 48 + n = y := ⟨_, rfl⟩
 rw [hy] at hc HB
 rw [hy]
 have e1 : IntKind.u8.wrap (n : Int) = (n : Int) := by rw [IntKind.wrap_u8]; omega
 have e2 : IntKind.u8.wrap (48 + (n : Int)) = (y : Int) := by rw [IntKind.wrap_u8]; omega
 have e3 : (48 : Int) + (n : Int) = (y : Int) := by omega
 clear hy
 go_enter Tryz.func32, Tryz.ntmps32
 go_wp2
 go_ret
 exact ⟨rfl, HB.out⟩
end Go.Proofs.YtohokfbohdoijaaGreatDoor

/- Mathematics of the statements on units: what a table of the document's units tells of its names, their squares, their prefixes; a unit by itself. No condition. -/
namespace Go.Proofs.YtohokfbohdoijaaGreatDoor
open Go.RowKit Limb
set_option linter.unusedVariables false
def selfB (u : UQ) (n : Nat) : Bool := (match mulU oneU u n with | some P => decide (mulU P u (-(n : Int)) = some oneU) | none => false)
theorem std_self : ∀ p ∈ stdU, ∀ n < 5, selfB p.2 n = true := by decide +kernel
theorem std_names : ∀ p ∈ stdU, isNm p.1 = true ∧ p.1.length ≤ 10 := by decide +kernel
theorem std_square : ∀ p ∈ stdU, mulU oneU p.2 2 = some (p.2.1 * p.2.1, p.2.2.map (· * 2)) ∧ fitsQ (p.2.1 * p.2.1) = true ∧ goodD (p.2.2.map (· * 2)) = true := by decide +kernel
def preB (i k : Nat) : Bool :=
 match stdU.lookup (bAt i).1, stdU.lookup ((pAt (k + 1)).1 ++ (bAt i).1) with
 | some x, some y => decide (x.1 * (10 : Rat) ^ (pAt (k + 1)).2 = y.1) && decide (x.2 = y.2) && fitsQ (x.1 * (10 : Rat) ^ (pAt (k + 1)).2)
 | _, _ => false
theorem std_pre : ∀ i < 15, ∀ k < 5, preB i k = true := by decide +kernel
theorem exp_up : ∀ k : Nat, k < 5 → expR [94, 48 + k] = .ok ((k : Nat), [])
 | 0, _ => rfl
 | 1, _ => rfl
 | 2, _ => rfl
 | 3, _ => rfl
 | 4, _ => rfl
 | k + 5, h => absurd h (by omega)
theorem exp_down : ∀ k : Nat, k < 5 → expR [94, 45, 48 + k] = .ok (-((k : Nat) : Int), [])
 | 0, _ => rfl
 | 1, _ => rfl
 | 2, _ => rfl
 | 3, _ => rfl
 | 4, _ => rfl
 | k + 5, h => absurd h (by omega)
theorem self_facts {b : List Nat} {u : UQ} (hb : isNm b = true) (hl : stdU.lookup b = some u) {n : Nat} (hn : n < 5) :
 parseU stdU (b ++ 47 :: b) = .ok oneU ∧ parseU stdU ((b ++ [94, 48 + n]) ++ 42 :: (b ++ [94, 45, 48 + n])) = .ok oneU ∧ parseU stdU (32 :: 32 :: (b ++ [32, 94, 32, 49, 32])) = .ok u := by
 have hu := stdU_ok.ok hl
 have hp := std_self _ (lookup_mem hl)
 refine ⟨?_, ?_, ?_⟩
 · rw [parseU_app stdU_ok (.inr ⟨rfl, rfl⟩), parse_name hb hl hu]
   show parseR stdU (b.length + 1) (-1) u b = _
   have h1 := hp 1 (by decide)
   unfold selfB at h1
   rw [show ((1 : Nat) : Int) = 1 from rfl, mulU_one hu] at h1
   have h2 : mulU u u (-1 * 1) = some oneU := by simpa using h1
   have := name_pow (M := stdU) (dir := -1) (n := 1) (p := u) (u := u) (b := b) (X := []) hb hl rfl (fun a t h => by cases h) (by decide) (q := oneU) h2 b.length
   rwa [List.append_nil] at this
 · have h1 := hp n hn
   unfold selfB at h1
   cases hm : mulU oneU u (n : Int) with
   | none => rw [hm] at h1; cases h1
   | some P =>
    rw [hm] at h1
    have h2 : mulU P u (-(n : Int)) = some oneU := by simpa using h1
    have hx : expR [94, 48 + n] = .ok ((n : Int), []) := by
     exact exp_up n hn
    have hy : expR [94, 45, 48 + n] = .ok (-(n : Int), []) := by
     exact exp_down n hn
    rw [parseU_app stdU_ok (.inl ⟨rfl, rfl⟩)]
    have e1 : parseU stdU (b ++ [94, 48 + n]) = .ok P := by
     unfold parseU
     exact name_pow (dir := 1) (n := n) hb hl hx (fun a t h => by cases h; decide) (by omega) (by rw [Int.one_mul]; exact hm) _
    rw [e1]
    show parseR stdU ((b ++ [94, 45, 48 + n]).length + 1) 1 P (b ++ [94, 45, 48 + n]) = _
    exact name_pow (dir := 1) (n := -(n : Int)) hb hl hy (fun a t h => by cases h; decide) (by omega) (by rw [Int.one_mul]; exact h2) _
 · obtain ⟨a, t, rfl, ha, ht, h16⟩ := name_head hb
   obtain ⟨g1, g2, g3⟩ := let_not ha
   have e1 : skipR (32 :: 32 :: (a :: t ++ [32, 94, 32, 49, 32])) = skipR (a :: t ++ [32, 94, 32, 49, 32]) := rfl
   have e2 : pieceR stdU 1 oneU (32 :: 32 :: (a :: t ++ [32, 94, 32, 49, 32])) = pieceR stdU 1 oneU (a :: t ++ [32, 94, 32, 49, 32]) := by unfold pieceR; rw [e1]
   unfold parseU
   rw [parseR_succ, e2, name_piece hb (fun a t h => by cases h; decide) hl]
   have e3 : expR [32, 94, 32, 49, 32] = .ok (1, [32]) := by kernel_rfl
   rw [e3]
   unfold powT
   dsimp only
   rw [if_neg (by decide), show (1 : Int) * 1 = 1 from rfl, mulU_one hu]
   rfl
theorem square_facts {b : List Nat} {u : UQ} (hl : stdU.lookup b = some u) : isNm b = true ∧ okU u ∧ parseU stdU b = .ok u ∧ parseU stdU (b ++ [94, 50]) = .ok (u.1 * u.1, u.2.map (· * 2)) ∧ fitsQ (u.1 * u.1) = true ∧ goodD (u.2.map (· * 2)) = true ∧ b.length ≤ 10 := by
 have hm := lookup_mem hl
 obtain ⟨h1, h2, h3⟩ := std_square _ hm
 obtain ⟨hb, hlen⟩ := std_names _ hm
 have hu := stdU_ok.ok hl
 refine ⟨hb, hu, parse_name hb hl hu, ?_, h2, h3, hlen⟩
 unfold parseU
 exact name_pow (dir := 1) (n := 2) (X := [94, 50]) hb hl (by kernel_rfl) (fun a t h => by cases h; decide) (by decide) (by rw [Int.one_mul]; exact h1) _
theorem prod_bad {M : Tb} (hM : TbOk M) {a b : List Nat} {e : Int} {r : Nat} (h : parseU M a = .bad e r) : ∃ e2 r2, parseU M (a ++ 42 :: b) = .bad e2 r2 := by
 rw [parseU_app hM (.inl ⟨rfl, rfl⟩), h]
 exact ⟨_, _, rfl⟩
theorem mulX_one {x : UQ} (h : x.2.length = 7) : mulX x oneU = x := by
 obtain ⟨q, xs⟩ := x
 match xs, h with
 | [a, b, c, d, e, f, g], _ => simp [mulX, oneU, dimZ]
theorem prod_from {M : Tb} (hM : TbOk M) {a b : List Nat} {x : UQ} (h : parseU M a = .ok x) (hx : okU x) : fromR x (parseU M b) (parseU M (a ++ 42 :: b)) := by
 rw [parseU_app hM (.inl ⟨rfl, rfl⟩), h]
 have := parse_from (M := M) (x := x) (b.length + 1) 1 oneU b
 rw [mulX_one hx.2.2.1] at this
 exact this
theorem parseU_ok {M : Tb} (hM : TbOk M) : ∀ (f : Nat) (dir : Int) (p : UQ) (l : List Nat) (q : UQ), okU p → parseR M f dir p l = .ok q → okU q
 | 0, _, _, _, _, _, h => by cases h
 | f + 1, dir, p, l, q, hp, h => by
  rw [parseR_succ] at h
  cases e : pieceR M dir p l with
  | bad y k => rw [e] at h; cases h
  | ok y =>
   obtain ⟨q2, l2⟩ := y
   obtain ⟨hq, hl⟩ := pieceR_ok hM hp e
   rw [e] at h
   cases l2 with
   | nil => cases h; exact hq
   | cons a l3 =>
    dsimp only at h
    by_cases h1 : a = 42
    · rw [if_pos h1] at h; exact parseU_ok hM f 1 q2 l3 q hq h
    rw [if_neg h1] at h
    by_cases h2 : a = 47
    · rw [if_pos h2] at h; exact parseU_ok hM f (-1) q2 l3 q hq h
    rw [if_neg h2] at h; cases h
theorem lookup_some {M : Tb} {k : List Nat} (h : k ∈ M.map (·.1)) : ∃ u, M.lookup k = some u := by
 cases e : M.lookup k with
 | none => exact absurd h (lookup_none.1 e)
 | some u => exact ⟨u, rfl⟩
end Go.Proofs.YtohokfbohdoijaaGreatDoor

/- What the reference's letter, digit, Name of layer 12 answer, as contracts. No condition. -/
namespace Go.Proofs.YtohokfbohdoijaaGreatDoor
open Go.RowKit Limb
set_option linter.unusedVariables false
theorem refLetter_c (c : Nat) (v : Bool) (hv : isLet c = v) (w : World) : Calls Tryz.prog 46 #[.int .u8 (c : Int)] w fun e w' => e = .returned (.bool v) ∧ w' = w := by
 go_enter Tryz.func46, Tryz.ntmps46
 go_wp2
 all_goals go_ret
 all_goals refine ⟨ret_bool ?_, rfl⟩
 all_goals subst hv
 all_goals unfold isLet
 all_goals grind
theorem refDigit_c (c : Nat) (v : Bool) (hv : isDig c = v) (w : World) : Calls Tryz.prog 47 #[.int .u8 (c : Int)] w fun e w' => e = .returned (.bool v) ∧ w' = w := by
 go_enter Tryz.func47, Tryz.ntmps47
 go_wp2
 all_goals go_ret
 all_goals refine ⟨ret_bool ?_, rfl⟩
 all_goals subst hv
 all_goals unfold isDig
 all_goals grind
theorem isNm_short {l : List Nat} {k : Nat} (h : nameN l = k) (hk : k < l.length) : isNm l = false := by
 unfold isNm
 rw [h, decide_eq_false (show ¬ k = l.length by omega), Bool.and_false]
theorem isNm_all {l : List Nat} {v : Bool} (h : nameN l = l.length) (hv : isNm l = v) : (decide (1 ≤ l.length) && decide (l.length ≤ 16)) = v := by
 rw [← hv]
 unfold isNm
 rw [decide_eq_true h, Bool.and_true]
set_option maxHeartbeats 1000000 in
set_option maxRecDepth 100000 in
theorem refName_c (s : ByteArray) (hs : s.size ≤ 9223372036854775807) (v : Bool) (hv : isNm (bytesOf s) = v) (w : World) :
 Calls Tryz.prog 31 #[.string s] w fun e w' => e = .returned (.bool v) ∧ w' = w := by
 have HL := Lib.hid (length_bytesOf s)
 have HV := Lib.hid hv
 clear hv
 go_enter Tryz.func31, Tryz.ntmps31
 go_wp2
 go_loopw [3] (fun i wr => ∃ k : Nat, i = .int .i64 (k : Int) ∧ k ≤ s.size ∧ RowKit.Hid (k ≤ nameN (bytesOf s)) ∧ wr = w) (fun i _ => s.size - (intOf i).toNat)
 case atStart => exact ⟨0, rfl, Nat.zero_le _, Nat.zero_le _, rfl⟩
 case round =>
  obtain ⟨k, rfl, hk, HK, rfl⟩ := hrel
  by_cases hlt : k < s.size
  · obtain ⟨d, hd⟩ : ∃ d, (s[k]'hlt).toNat = d := ⟨_, rfl⟩
    have hdl : RowKit.Hid (lim (bytesOf s) k = d) := by show _ = _; rw [← byte_at s k hlt, hd]
    have HS : RowKit.Hid (nmAt k d = true → k + 1 ≤ nameN (bytesOf s)) := fun h => name_step HK.out (by rw [HL.out]; exact hlt) (by rw [hdl.out]; exact h)
    have HE : RowKit.Hid (nmAt k d = false → v = false) := fun h => by rw [← HV.out]; exact isNm_short (name_stop HK.out (fun _ => by rw [hdl.out]; exact h)) (by rw [HL.out]; exact hlt)
    clear hdl HK HV
    cases hL : isLet d with
    | true =>
     have H1 : RowKit.Hid (k + 1 ≤ nameN (bytesOf s)) := HS.out (by unfold nmAt; rw [hL]; rfl)
     clear HS HE
     go_wp2_with (first | (go_at_call 46; refine (refLetter_c d true hL _).mono ?_; rintro e w' ⟨rfl, rfl⟩))
     exact ⟨⟨k + 1, by go_num, by omega, H1.out, trivial⟩, by simp [intOf]; omega⟩
    | false =>
     by_cases hk0 : k = 0
     · subst hk0
       have H1 : RowKit.Hid (v = false) := HE.out (by unfold nmAt; rw [hL]; rfl)
       clear HS HE
       go_wp2_with (first | (go_at_call 46; refine (refLetter_c d false hL _).mono ?_; rintro e w' ⟨rfl, rfl⟩))
       go_ret; exact ⟨by rw [H1.out]; rfl, rfl⟩
     · have hkp : 0 < k := by omega
       have hkz : ((k : Int) == 0) = false := by rw [beq_eq_false_iff_ne]; omega
       cases hD : isDig d with
       | true =>
        have H1 : RowKit.Hid (k + 1 ≤ nameN (bytesOf s)) := HS.out (by unfold nmAt; rw [hL, hD, decide_eq_true hkp]; rfl)
        clear HS HE
        go_wp2_with (first | (go_at_call 46; refine (refLetter_c d false hL _).mono ?_; rintro e w' ⟨rfl, rfl⟩) | (go_at_call 47; refine (refDigit_c d true hD _).mono ?_; rintro e w' ⟨rfl, rfl⟩))
        exact ⟨⟨k + 1, by go_num, by omega, H1.out, trivial⟩, by simp [intOf]; omega⟩
       | false =>
        by_cases h95 : d = 95
        · have H1 : RowKit.Hid (k + 1 ≤ nameN (bytesOf s)) := HS.out (by unfold nmAt; rw [hL, hD, decide_eq_true hkp, decide_eq_true h95]; rfl)
          have e95 : ((d : Int) != 95) = false := by rw [h95]; rfl
          have f95 : ((d : Int) == 95) = true := by rw [h95]; rfl
          clear HS HE h95
          go_wp2_with (first | (go_at_call 46; refine (refLetter_c d false hL _).mono ?_; rintro e w' ⟨rfl, rfl⟩) | (go_at_call 47; refine (refDigit_c d false hD _).mono ?_; rintro e w' ⟨rfl, rfl⟩))
          exact ⟨⟨k + 1, by go_num, by omega, H1.out, trivial⟩, by simp [intOf]; omega⟩
        · have H1 : RowKit.Hid (v = false) := HE.out (by unfold nmAt; rw [hL, hD, decide_eq_false h95, Bool.or_false, Bool.and_false]; rfl)
          have e95 : ((d : Int) != 95) = true := by rw [bne_iff_ne]; omega
          have f95 : ((d : Int) == 95) = false := by rw [beq_eq_false_iff_ne]; omega
          clear HS HE h95
          go_wp2_with (first | (go_at_call 46; refine (refLetter_c d false hL _).mono ?_; rintro e w' ⟨rfl, rfl⟩) | (go_at_call 47; refine (refDigit_c d false hD _).mono ?_; rintro e w' ⟨rfl, rfl⟩))
          go_ret; exact ⟨by rw [H1.out]; rfl, rfl⟩
  · have HE := Lib.hid (isNm_all (name_stop HK.out (fun h => by rw [HL.out] at h; omega) |>.trans (by rw [HL.out]; omega)) HV.out)
    have h3 : s.size = k := by omega
    clear hlt HK HV
    subst h3
    go_wp2
    all_goals go_ret
    all_goals refine ⟨ret_bool ?_, rfl⟩
    all_goals rw [← HE.out, HL.out]
    all_goals grind
end Go.Proofs.YtohokfbohdoijaaGreatDoor
