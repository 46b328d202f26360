/- Part 1 of the texts that the statements of this seat lean on: mathematics, and what functions answer, as contracts over memory; each part says its own conditions. -/
import Derived.Test.YtannifhcjcbkcaaGreatDoorMA0
import Derived.LoopIn
import Derived.Deep.WholeRow
import Derived.Deep.MidRow
namespace Go.Proofs.YtannifhcjcbkcaaGreatDoor
open Go.RowKit Limb
set_option linter.unusedVariables false
theorem while_split {p : Nat → Bool} {r : List Nat} {n : Nat} (h : (r.takeWhile p).length = n) : ∃ v, r = r.takeWhile p ++ v ∧ r.drop n = v ∧ (v = [] ∨ ∃ d q, v = d :: q ∧ p d = false) := by
 subst h
 refine ⟨r.drop (r.takeWhile p).length, ?_, rfl, ?_⟩
 · conv => lhs; rw [← List.take_append_drop (r.takeWhile p).length r, take_whileL]
 · cases e : r.drop (r.takeWhile p).length with
   | nil => exact .inl rfl
   | cons d q => exact .inr ⟨d, q, rfl, while_next e⟩
theorem all_while {p : Nat → Bool} (r : List Nat) : (r.takeWhile p).all p = true := List.all_takeWhile
end Go.Proofs.YtannifhcjcbkcaaGreatDoor

namespace Go.Proofs.YtannifhcjcbkcaaGreatDoor
open Go.RowKit Go.ChangeShapes Limb
set_option linter.unusedVariables false
def lkindsL : List Int := [0, 0, 0, 0, 0, 0, 0, 0, 0, 1, 1, 0, 0, 0, 0, 0, 0, 0, 0, 0, 0, 0, 0, 0, 0, 0, 0, 0, 0, 0, 0, 0, 1, 0, 0, 2, 0, 0, 0, 0, 6, 6, 6, 6, 0, 6, 5, 6, 4, 4, 4, 4, 4, 4, 4, 4, 4, 4, 6, 6, 0, 6, 0, 0, 0, 3, 3, 3, 3, 3, 3, 3, 3, 3, 3, 3, 3, 3, 3, 3, 3, 3, 3, 3, 3, 3, 3, 3, 3, 3, 3, 7, 0, 0, 6, 3, 0, 3, 3, 3, 3, 3, 3, 3, 3, 3, 3, 3, 3, 3, 3, 3, 3, 3, 3, 3, 3, 3, 3, 3, 3, 3, 3]
def lkN (c : Nat) : Nat := if isBl c = true then 1 else if c = 35 then 2 else if isLt c = true then 3 else if isDig c = true then 4 else if c = 46 then 5 else if isSg c = true then 6 else if c = 91 then 7 else 0
set_option maxRecDepth 4000 in
theorem lkinds_at : ∀ i, i < 123 → lkindsL.getD i 0 = ((lkN i : Nat) : Int) := by decide
def NTab (w : World) : Prop := ∀ i, i < 123 → w.cell? ⟨2, i, none⟩ = some (.int .u8 ((lkN i : Nat) : Int))
def XTab (w : World) : Prop := KTab w ∧ NTab w
theorem XTab.below {w w' : World} (h : XTab w) (hb : Below w.heap.size w w') : XTab w' :=
 ⟨h.1.below hb, fun i hi => (hb.cell (p := ⟨2, i, none⟩) (kcell_lt (h.2 i hi))).trans (h.2 i hi)⟩
set_option maxRecDepth 4000 in
theorem lkinds_tab {W : World} {name : String} {r : List (String × DataW Unit)} (h : laidMet Tryz.prog ((name, Lib.tabData .u8 lkindsL) :: r) W) (hg : Tryz.prog.globalNamed name = some 2) :
 ∀ i, i < 123 → W.cell? ⟨2, i, none⟩ = some (.int .u8 ((lkN i : Nat) : Int)) := fun i hi => by
 have hT := Lib.tabIs_of_head hg (t := 169) (by kernel_rfl) Tryz.underlying169 Tryz.underlying5 (by kernel_rfl) (by kernel_rfl) h
 rw [hT.cell hg i hi, lkinds_at i hi]
end Go.Proofs.YtannifhcjcbkcaaGreatDoor

namespace Go.Proofs.YtannifhcjcbkcaaGreatDoor
open Go.RowKit Limb
set_option linter.unusedVariables false
theorem lkN_big {c : Nat} (h : 123 ≤ c) : lkN c = 0 := by
 unfold lkN
 rw [if_neg (by simp [isBl]; omega), if_neg (by omega), if_neg (by simp [isLt]; omega), if_neg (by simp [isDig]; omega), if_neg (by omega), if_neg (by simp [isSg]; omega), if_neg (by omega)]
theorem lkN_all : ∀ c, c < 256 → ((lkN c = 1 ↔ isBl c = true) ∧ (lkN c = 2 ↔ c = 35) ∧ (lkN c = 3 ↔ isLt c = true) ∧ (lkN c = 4 ↔ isDig c = true) ∧ (lkN c = 5 ↔ c = 46) ∧ (lkN c = 6 ↔ isSg c = true) ∧ (lkN c = 7 ↔ c = 91)) := by
 decide +kernel
theorem byte_lt (s : ByteArray) (i : Nat) : lim (bytesOf s) i < 256 := bytes_lim (bytes_bytesOf s) i
theorem lw_step {p : Nat → Bool} : ∀ {l : List Nat} {k : Nat}, k ≤ (l.takeWhile p).length → k < l.length → p (lim l k) = true → k + 1 ≤ (l.takeWhile p).length
 | [], k, h, hk, _ => absurd hk (by simp)
 | c :: l, 0, h, hk, hp => by rw [List.takeWhile_cons_of_pos (by simpa [lim] using hp)]; simp
 | c :: l, k + 1, h, hk, hp => by
  by_cases hc : p c = true
  · rw [List.takeWhile_cons_of_pos hc] at h ⊢
    have := lw_step (l := l) (k := k) (by simpa using h) (by simpa using hk) (by simpa [lim] using hp)
    simpa using this
  · rw [List.takeWhile_cons_of_neg hc] at h; simp at h
theorem lw_stop {p : Nat → Bool} : ∀ {l : List Nat} {k : Nat}, k ≤ (l.takeWhile p).length → (k < l.length → p (lim l k) = false) → (l.takeWhile p).length = k
 | [], k, h, _ => by simp at h ⊢; omega
 | c :: l, 0, h, hp => by
  have := hp (by simp)
  rw [List.takeWhile_cons_of_neg (by simpa [lim] using this)]; rfl
 | c :: l, k + 1, h, hp => by
  by_cases hc : p c = true
  · rw [List.takeWhile_cons_of_pos hc] at h ⊢
    have := lw_stop (p := p) (l := l) (k := k) (by simpa using h) (fun h2 => by simpa [lim] using hp (by simpa using h2))
    simpa using this
  · rw [List.takeWhile_cons_of_neg hc] at h; simp at h
def wordN : List Nat → Nat
 | [] => 0
 | c :: r => if isLt c = true then 1 + (r.takeWhile isLw).length else 0
def wdAt (k c : Nat) : Bool := isLt c || (decide (0 < k) && isDig c)
theorem wordN_cons (c : Nat) (r : List Nat) : wordN (c :: r) = if isLt c = true then 1 + (r.takeWhile isLw).length else 0 := rfl
theorem word_step {l : List Nat} {k : Nat} (h : k ≤ wordN l) (hk : k < l.length) (hp : wdAt k (lim l k) = true) : k + 1 ≤ wordN l := by
 cases l with
 | nil => simp at hk
 | cons c l =>
  cases k with
  | zero =>
   have : isLt c = true := by simpa [wdAt, lim] using hp
   rw [wordN_cons, if_pos this]; omega
  | succ k =>
   by_cases hc : isLt c = true
   · rw [wordN_cons, if_pos hc] at h ⊢
     have := lw_step (p := isLw) (l := l) (k := k) (by omega) (by simpa using hk) (by simpa [wdAt, isLw, lim] using hp)
     omega
   · rw [wordN_cons, if_neg hc] at h; omega
theorem word_stop {l : List Nat} {k : Nat} (h : k ≤ wordN l) (hp : k < l.length → wdAt k (lim l k) = false) : wordN l = k := by
 cases l with
 | nil => simp [wordN] at h ⊢; omega
 | cons c l =>
  cases k with
  | zero =>
   have : isLt c = false := by simpa [wdAt, lim] using hp (by simp)
   rw [wordN_cons, if_neg (by rw [this]; decide)]
  | succ k =>
   by_cases hc : isLt c = true
   · rw [wordN_cons, if_pos hc] at h ⊢
     have := lw_stop (p := isLw) (l := l) (k := k) (by omega) (fun h2 => by simpa [wdAt, isLw, lim] using hp (by simpa using h2))
     omega
   · rw [wordN_cons, if_neg hc] at h; omega
def wordL (l : List Nat) : Nat := if 16 < wordN l then 0 else wordN l
def numL (l : List Nat) : Nat := if 400 < litLen l ∨ stopN (l.drop (litLen l)) = true then 0 else litLen l
def unitL (l : List Nat) : Nat :=
 match l with
 | [] => 0
 | _ :: r => if (r.takeWhile inUn).length = 0 ∨ 200 < (r.takeWhile inUn).length ∨ closeU (r.drop (r.takeWhile inUn).length) = false then 0 else (r.takeWhile inUn).length + 2
def ownW (l : List Nat) : Bool := [[117, 110, 105, 116], [115, 111, 117, 114, 99, 101], [99, 111, 118], [108, 101, 116], [111, 117, 116, 112, 117, 116], [105, 110]].contains l
def isNam (l : List Nat) : Bool := isWdB l && !ownW l
theorem wordL_is (l : List Nat) (h : l ≠ []) : decide (wordL l = l.length) = isWdB l := by
 cases l with
 | nil => exact absurd rfl h
 | cons c r =>
  unfold wordL isWdB
  rw [wordN_cons]
  show decide _ = (isLt c && r.all isLw && decide (r.length < 16))
  have hle : (r.takeWhile isLw).length ≤ r.length := (List.takeWhile_sublist _).length_le
  by_cases hc : isLt c = true
  · rw [if_pos hc, hc, Bool.true_and]
    by_cases ha : r.all isLw = true
    · rw [take_all ha, ha, Bool.true_and, List.length_cons]
      by_cases h16 : 16 < 1 + r.length
      · rw [if_pos h16, decide_eq_false (by omega), decide_eq_false (by omega)]
      · rw [if_neg h16, decide_eq_true (by omega), decide_eq_true (by omega)]
    · have hlt : (r.takeWhile isLw).length < r.length := by
       rcases Nat.lt_or_ge (r.takeWhile isLw).length r.length with e | e
       · exact e
       · exfalso
         have e2 : r.takeWhile isLw = r := (List.takeWhile_prefix isLw).eq_of_length (by omega)
         exact ha (by rw [← e2]; exact all_while r)
      have ha2 : r.all isLw = false := by simpa using ha
      rw [ha2, Bool.false_and, List.length_cons]
      split
      · exact decide_eq_false (by omega)
      · exact decide_eq_false (by omega)
  · have hc2 : isLt c = false := by simpa using hc
    rw [if_neg hc, hc2]
    simp
inductive FirstP (c : Nat) (r : List Nat) (k n : Nat) : Prop
 | bad : n = 0 → lexS c r = .bad → FirstP c r k n
 | tok (t : List Nat) : lexS c r = .tok k t n → FirstP c r k n
theorem first_word {c : Nat} {r : List Nat} (h : isLt c = true) : FirstP c r 1 (wordL (c :: r)) := by
 obtain ⟨n1, n2⟩ := lt_not h
 unfold wordL
 rw [wordN_cons, if_pos h]
 by_cases h16 : 16 < 1 + (r.takeWhile isLw).length
 · rw [if_pos h16]
   exact .bad rfl (by unfold lexS; rw [if_neg (by rw [n1]; decide), if_neg n2, if_pos h, if_pos h16])
 · rw [if_neg h16]
   exact .tok _ (by unfold lexS; rw [if_neg (by rw [n1]; decide), if_neg n2, if_pos h, if_neg h16])
theorem first_num {c : Nat} {r : List Nat} (h : isDig c = true) : FirstP c r 2 (numL (c :: r)) := by
 have n1 : isBl c = false := by
  simp only [isDig, Bool.and_eq_true, decide_eq_true_eq] at h
  simp [isBl]; omega
 have n2 : c ≠ 35 := by rintro rfl; exact absurd h (by decide)
 have n3 : isLt c = false := by
  simp only [isDig, Bool.and_eq_true, decide_eq_true_eq] at h
  simp [isLt]; omega
 unfold numL
 by_cases h4 : 400 < litLen (c :: r) ∨ stopN ((c :: r).drop (litLen (c :: r))) = true
 · rw [if_pos h4]
   exact .bad rfl (by unfold lexS; rw [if_neg (by rw [n1]; decide), if_neg n2, if_neg (by rw [n3]; decide), if_pos h, if_pos h4])
 · rw [if_neg h4]
   exact .tok _ (by unfold lexS; rw [if_neg (by rw [n1]; decide), if_neg n2, if_neg (by rw [n3]; decide), if_pos h, if_neg h4])
theorem first_unit {r : List Nat} : FirstP 91 r 4 (unitL (91 :: r)) := by
 unfold unitL
 dsimp only
 by_cases h4 : (r.takeWhile inUn).length = 0 ∨ 200 < (r.takeWhile inUn).length ∨ closeU (r.drop (r.takeWhile inUn).length) = false
 · rw [if_pos h4]
   exact .bad rfl (by unfold lexS; rw [if_neg (by decide), if_neg (by decide), if_neg (by decide), if_neg (by decide), if_pos rfl, if_pos h4])
 · rw [if_neg h4]
   exact .tok _ (by unfold lexS; rw [if_neg (by decide), if_neg (by decide), if_neg (by decide), if_neg (by decide), if_pos rfl, if_neg h4])
theorem first_sign {c : Nat} {r : List Nat} (h : isSg c = true) : FirstP c r 3 1 := by
 have hc : c = 40 ∨ c = 41 ∨ c = 43 ∨ c = 45 ∨ c = 42 ∨ c = 47 ∨ c = 94 ∨ c = 61 ∨ c = 59 ∨ c = 58 := by simpa [isSg] using h
 rcases hc with rfl | rfl | rfl | rfl | rfl | rfl | rfl | rfl | rfl | rfl <;> exact .tok _ rfl
theorem first_none {c : Nat} {r : List Nat} (k : Nat) (h1 : isBl c = false) (h2 : c ≠ 35) (h3 : isLt c = false) (h4 : isDig c = false) (h5 : c ≠ 91) (h6 : isSg c = false) : FirstP c r k 0 :=
 .bad rfl (by unfold lexS; rw [if_neg (by rw [h1]; decide), if_neg h2, if_neg (by rw [h3]; decide), if_neg (by rw [h4]; decide), if_neg h5, if_neg (by rw [h6]; decide)])
def Gap (l : List Nat) (n : Nat) : Prop := n ≤ l.length ∧ ∀ f F a, l.length < f → l.length - n < F → lexR f a l = lexR F (a + n) (l.drop n)
theorem Gap.zero (l : List Nat) : Gap l 0 := ⟨Nat.zero_le _, fun f F a h1 h2 => lexR_fuel f F a l h1 h2⟩
theorem Gap.skip {l : List Nat} {n m c : Nat} {r : List Nat} (h : Gap l n) (hd : l.drop n = c :: r) (hs : lexS c r = .skip m) : Gap l (n + m) := by
 obtain ⟨h1, h2⟩ := h
 have hl := lexS_len.1 m hs
 have hlen : l.length - n = r.length + 1 := by rw [← List.length_drop, hd, List.length_cons]
 refine ⟨by omega, fun f F a hf hF => ?_⟩
 obtain ⟨R, hR⟩ : ∃ R, lexR F (a + (n + m)) (l.drop (n + m)) = R := ⟨_, rfl⟩
 rw [hR, h2 f (l.length + 1) a hf (by omega), hd]
 show lexR (l.length + 1) (a + n) (c :: r) = _
 unfold lexR
 rw [hs]
 dsimp only
 rw [← hR, ← hd, List.drop_drop, ← Nat.add_assoc]
 exact lexR_fuel _ _ _ _ (by rw [List.length_drop]; omega) (by rw [List.length_drop]; omega)
def Stop (l : List Nat) (n : Nat) : Prop := ∀ c r, l.drop n = c :: r → isBl c = false ∧ c ≠ 35
theorem skip_blank {c : Nat} {r : List Nat} (h : isBl c = true) : lexS c r = .skip 1 := by unfold lexS; rw [if_pos h]
theorem skip_note {r : List Nat} : lexS 35 r = .skip (1 + (r.takeWhile notNl).length) := by unfold lexS; rw [if_neg (by decide), if_pos rfl]
theorem note_line {r : List Nat} : ((35 :: r).takeWhile notNl).length = 1 + (r.takeWhile notNl).length := by
 rw [List.takeWhile_cons_of_pos (by decide), List.length_cons, Nat.add_comm]
end Go.Proofs.YtannifhcjcbkcaaGreatDoor

namespace Go.Proofs.YtannifhcjcbkcaaGreatDoor
open Go.RowKit Limb
set_option linter.unusedVariables false
structure Nd where
 k : Int
 a : Int
 b : Int
 n : Int
 t : ByteArray
 u : ByteArray
 p : Int
theorem Nd.ext' {x y : Nd} (h1 : x.k = y.k) (h2 : x.a = y.a) (h3 : x.b = y.b) (h4 : x.n = y.n) (h5 : x.t = y.t) (h6 : x.u = y.u) (h7 : x.p = y.p) : x = y := by
 cases x; cases y; simp only [Nd.mk.injEq]; exact ⟨h1, h2, h3, h4, h5, h6, h7⟩
def unitOk (u : ByteArray) : Bool := decide (u.size ≤ 200) && (bytesOf u).all fun c => !(c == 93 || c == 10)
def twoK (k : Int) : Bool := decide (3 ≤ k) && decide (k ≤ 6)
def oneK (k : Int) : Bool := decide (k = 7) || decide (k = 8)
def fitsN (x : Nd) : Bool :=
 if x.k = 1 then decide (x.a = 0) && decide (x.b = 0) && decide (x.n = 0) && litGood (bytesOf x.t) && unitOk x.u
 else if x.k = 2 then decide (x.a = 0) && decide (x.b = 0) && decide (x.n = 0) && decide (x.u.size = 0) && isNam (bytesOf x.t)
 else if twoK x.k then decide (x.n = 0) && decide (x.t.size = 0) && decide (x.u.size = 0)
 else if x.k = 7 then decide (x.b = 0) && decide (x.n = 0) && decide (x.t.size = 0) && decide (x.u.size = 0)
 else if x.k = 8 then decide (x.b = 0) && decide (x.t.size = 0) && decide (x.u.size = 0) && decide (-64 ≤ x.n) && decide (x.n ≤ 64)
 else false
def endN (o : List Nat) (c : Int) (m : Nat) : Option Nat := if 0 ≤ c ∧ c + 1 = (m : Int) then some (o.getD c.toNat 0) else none
def startN (o : List Nat) (x : Nd) : Option Nat :=
 if x.k = 1 ∨ x.k = 2 then some o.length
 else if x.k = 7 ∨ x.k = 8 then endN o x.a o.length
 else match endN o x.b o.length with
  | none => none
  | some s => endN o x.a s
def stepB (o : List Nat) (x : Nd) : Option Nat := if fitsN x = true then startN o x else none
def begF (o : Option (List Nat)) : List Nd → Option (List Nat)
 | [] => o
 | x :: r => begF (o.bind fun o => (stepB o x).map fun s => o ++ [s]) r
def begT (ts : List Nd) : Option (List Nat) := begF (some []) ts
def goodT (ts : List Nd) : Bool := decide (1 ≤ ts.length) && decide (ts.length ≤ 2000) && match begT ts with
 | none => false
 | some o => decide (o.getD (ts.length - 1) 1 = 0)
theorem begF_none (ts : List Nd) : begF none ts = none := by induction ts with
 | nil => rfl
 | cons x r ih => exact ih
theorem begF_append (o : Option (List Nat)) (a b : List Nd) : begF o (a ++ b) = begF (begF o a) b := by induction a generalizing o with
 | nil => rfl
 | cons x r ih => exact ih _
theorem begF_cons {o q : List Nat} {x : Nd} {r : List Nd} (h : begF (some o) (x :: r) = some q) : ∃ s, stepB o x = some s ∧ begF (some (o ++ [s])) r = some q := by
 unfold begF at h
 cases hs : stepB o x with
 | none => rw [Option.bind_some, hs, Option.map_none, begF_none] at h; cases h
 | some s => rw [Option.bind_some, hs, Option.map_some] at h; exact ⟨s, rfl, h⟩
theorem begF_step {o : List Nat} {x : Nd} {s : Nat} (h : stepB o x = some s) (r : List Nd) : begF (some o) (x :: r) = begF (some (o ++ [s])) r := by
 conv => lhs; unfold begF
 rw [Option.bind_some, h, Option.map_some]
theorem begF_fall {o : List Nat} {x : Nd} (h : stepB o x = none) (r : List Nd) : begF (some o) (x :: r) = none := by
 conv => lhs; unfold begF
 rw [Option.bind_some, h, Option.map_none, begF_none]
theorem begF_len {ts : List Nd} : ∀ {o q : List Nat}, begF (some o) ts = some q → q.length = o.length + ts.length := by
 induction ts with
 | nil => intro o q h; injection h with h; rw [h]; rfl
 | cons x r ih =>
  intro o q h
  obtain ⟨s, _, h2⟩ := begF_cons h
  rw [ih h2, List.length_append, List.length_cons]; simp; omega
theorem begT_len {ts : List Nd} {o : List Nat} (h : begT ts = some o) : o.length = ts.length := by have := begF_len h; simpa using this
def Low (o : List Nat) : Prop := ∀ j, j < o.length → o.getD j 0 ≤ j
theorem Low.nil : Low [] := fun j h => by simp at h
theorem Low.le {o : List Nat} (h : Low o) (j : Nat) : o.getD j 0 ≤ j := by
 rcases Nat.lt_or_ge j o.length with h1 | h1
 · exact h j h1
 · rw [List.getD_eq_getElem?_getD, List.getElem?_eq_none h1]; exact Nat.zero_le _
theorem endN_some {o : List Nat} {c : Int} {m s : Nat} (h : endN o c m = some s) : ∃ j : Nat, c = (j : Int) ∧ m = j + 1 ∧ s = o.getD j 0 := by
 unfold endN at h
 split at h
 · rename_i hc
   injection h with h
   exact ⟨c.toNat, by omega, by omega, h.symm⟩
 · cases h
theorem startN_le {o : List Nat} (hl : Low o) {x : Nd} {s : Nat} (h : startN o x = some s) : s ≤ o.length := by
 unfold startN at h
 split at h
 · injection h with h; omega
 · split at h
   · obtain ⟨j, _, h1, rfl⟩ := endN_some h
     have := hl.le j; omega
   · cases hb : endN o x.b o.length with
     | none => rw [hb] at h; cases h
     | some t =>
      rw [hb] at h
      obtain ⟨j, _, h1, rfl⟩ := endN_some hb
      obtain ⟨i, _, h2, rfl⟩ := endN_some h
      have := hl.le j; have := hl.le i; omega
theorem stepB_le {o : List Nat} (hl : Low o) {x : Nd} {s : Nat} (h : stepB o x = some s) : s ≤ o.length := by
 unfold stepB at h
 split at h
 · exact startN_le hl h
 · cases h
theorem getD_snoc_lt {α : Type} {o : List α} {s d : α} {j : Nat} (h : j < o.length) : (o ++ [s]).getD j d = o.getD j d := by
 simp [List.getD_eq_getElem?_getD, List.getElem?_append_left h]
theorem getD_snoc_eq {α : Type} (o : List α) (s d : α) : (o ++ [s]).getD o.length d = s := by simp [List.getD_eq_getElem?_getD]
theorem Low.snoc {o : List Nat} (hl : Low o) {s : Nat} (h : s ≤ o.length) : Low (o ++ [s]) := by
 intro j hj
 rw [List.length_append, List.length_singleton] at hj
 rcases Nat.lt_or_ge j o.length with h1 | h1
 · rw [getD_snoc_lt h1]; exact hl.le j
 · obtain rfl : j = o.length := by omega
   rw [getD_snoc_eq]; exact h
theorem begF_low {ts : List Nd} : ∀ {o q : List Nat}, Low o → begF (some o) ts = some q → Low q := by
 induction ts with
 | nil => intro o q hl h; injection h with h; exact h ▸ hl
 | cons x r ih => intro o q hl h; obtain ⟨s, h1, h2⟩ := begF_cons h; exact ih (hl.snoc (stepB_le hl h1)) h2
theorem begT_low {ts : List Nd} {o : List Nat} (h : begT ts = some o) : Low o := begF_low Low.nil h
theorem begF_take {ts : List Nd} (n : Nat) : ∀ {o q : List Nat}, begF (some o) ts = some q → begF (some o) (ts.take n) = some (q.take (o.length + n)) := by
 induction ts generalizing n with
 | nil => intro o q h; injection h with h; subst h; rw [List.take_nil, List.take_of_length_le (by omega)]; rfl
 | cons x r ih =>
  intro o q h
  cases n with
  | zero =>
   have hl := begF_len h
   obtain ⟨s, h1, h2⟩ := begF_cons h
   rw [List.take_zero]
   show some o = _
   have h3 := ih 0 h2
   rw [List.take_zero] at h3
   have h4 : o ++ [s] = q.take (o.length + 1) := by
    have : some (o ++ [s]) = some (q.take ((o ++ [s]).length + 0)) := h3
    injection this with this
    rw [this]; simp
   have h5 := congrArg (List.take o.length) h4
   rw [List.take_left, List.take_take] at h5
   rw [show o.length + 0 = min o.length (o.length + 1) by omega, ← h5]
  | succ n =>
   obtain ⟨s, h1, h2⟩ := begF_cons h
   rw [List.take_succ_cons, begF_step h1, ih n h2]
   simp only [List.length_append, List.length_singleton]
   rw [show o.length + 1 + n = o.length + (n + 1) by omega]
theorem begT_take {ts : List Nd} {q : List Nat} (h : begT ts = some q) (n : Nat) : begT (ts.take n) = some (q.take n) := by
 have := begF_take n h
 simpa [begT] using this
theorem begT_snoc {ts : List Nd} {o : List Nat} (h : begT ts = some o) (x : Nd) : begT (ts ++ [x]) = (stepB o x).map fun s => o ++ [s] := by
 unfold begT at h ⊢
 rw [begF_append, h]
 cases hs : stepB o x with
 | none => rw [begF_fall hs]; rfl
 | some s => rw [begF_step hs]; rfl
theorem begT_fall {ts : List Nd} {i : Nat} {x : Nd} {o : List Nat} (hx : ts[i]? = some x) (h : begT (ts.take i) = some o) (hs : stepB o x = none) : begT ts = none := by
 have e : ts = ts.take i ++ (x :: ts.drop (i + 1)) := by
  have hi := (List.getElem?_eq_some_iff.1 hx).1
  have h2 : ts[i] = x := (List.getElem?_eq_some_iff.1 hx).2
  rw [← h2, ← List.drop_eq_getElem_cons hi, List.take_append_drop]
 rw [e]
 unfold begT at h ⊢
 rw [begF_append, h, begF_fall hs]
theorem begT_next {ts : List Nd} {i : Nat} {x : Nd} {o : List Nat} {s : Nat} (hx : ts[i]? = some x) (h : begT (ts.take i) = some o) (hs : stepB o x = some s) : begT (ts.take (i + 1)) = some (o ++ [s]) := by
 have hi := (List.getElem?_eq_some_iff.1 hx).1
 rw [List.take_add_one, hx, Option.toList_some, begT_snoc h, hs]
 rfl
theorem goodT_no {ts : List Nd} (h : begT ts = none) : goodT ts = false := by unfold goodT; rw [h, Bool.and_false]
theorem goodT_of {ts : List Nd} {o : List Nat} (h : begT ts = some o) (h1 : 1 ≤ ts.length) (h2 : ts.length ≤ 2000) : goodT ts = decide (o.getD (ts.length - 1) 1 = 0) := by
 unfold goodT
 rw [h, decide_eq_true h1, decide_eq_true h2]
 rfl
theorem goodT_empty {ts : List Nd} (h : ts.length < 1) : goodT ts = false := by unfold goodT; rw [decide_eq_false (by omega)]; rfl
theorem goodT_long {ts : List Nd} (h : 2000 < ts.length) : goodT ts = false := by unfold goodT; rw [decide_eq_false (show ¬ ts.length ≤ 2000 by omega), Bool.and_false]; rfl
theorem good_all {ts : List Nd} (h : goodT ts = true) : 1 ≤ ts.length ∧ ts.length ≤ 2000 ∧ ∃ o, begT ts = some o ∧ o.length = ts.length ∧ Low o ∧ o.getD (ts.length - 1) 1 = 0 := by
 unfold goodT at h
 simp only [Bool.and_eq_true, decide_eq_true_eq] at h
 obtain ⟨⟨h1, h2⟩, h3⟩ := h
 cases hb : begT ts with
 | none => rw [hb] at h3; cases h3
 | some o => rw [hb] at h3; exact ⟨h1, h2, o, rfl, begT_len hb, begT_low hb, of_decide_eq_true h3⟩
end Go.Proofs.YtannifhcjcbkcaaGreatDoor

namespace Go.Proofs.YtannifhcjcbkcaaGreatDoor
open Go.RowKit Limb
set_option linter.unusedVariables false
theorem fitsN_kinds {x : Nd} (h : fitsN x = true) : x.k = 1 ∨ x.k = 2 ∨ twoK x.k = true ∨ x.k = 7 ∨ x.k = 8 := by
 unfold fitsN at h
 by_cases h1 : x.k = 1
 · exact .inl h1
 · rw [if_neg h1] at h
   by_cases h2 : x.k = 2
   · exact .inr (.inl h2)
   · rw [if_neg h2] at h
     by_cases h3 : twoK x.k = true
     · exact .inr (.inr (.inl h3))
     · rw [if_neg h3] at h
       by_cases h7 : x.k = 7
       · exact .inr (.inr (.inr (.inl h7)))
       · rw [if_neg h7] at h
         by_cases h8 : x.k = 8
         · exact .inr (.inr (.inr (.inr h8)))
         · rw [if_neg h8] at h; cases h
theorem twoK_iff {k : Int} : twoK k = true ↔ 3 ≤ k ∧ k ≤ 6 := by unfold twoK; rw [Bool.and_eq_true, decide_eq_true_eq, decide_eq_true_eq]
theorem oneK_iff {k : Int} : oneK k = true ↔ k = 7 ∨ k = 8 := by unfold oneK; rw [Bool.or_eq_true, decide_eq_true_eq, decide_eq_true_eq]
inductive StepC (o : List Nat) (x : Nd) (s : Nat) : Prop where
 | leaf (hk : x.k = 1 ∨ x.k = 2) (hs : s = o.length) : StepC o x s
 | one (hk : oneK x.k = true) (j : Nat) (ha : x.a = (j : Int)) (hl : o.length = j + 1) (hs : s = o.getD j 0) : StepC o x s
 | two (hk : twoK x.k = true) (j i : Nat) (hb : x.b = (j : Int)) (hl : o.length = j + 1) (ha : x.a = (i : Int)) (hi : o.getD j 0 = i + 1) (hs : s = o.getD i 0) : StepC o x s
theorem stepB_cases {o : List Nat} {x : Nd} {s : Nat} (h : stepB o x = some s) : fitsN x = true ∧ StepC o x s := by
 unfold stepB at h
 split at h
 · rename_i hf
   refine ⟨hf, ?_⟩
   unfold startN at h
   rcases fitsN_kinds hf with h1 | h1 | h1 | h1 | h1
   · rw [if_pos (.inl h1)] at h; injection h with h; exact .leaf (.inl h1) h.symm
   · rw [if_pos (.inr h1)] at h; injection h with h; exact .leaf (.inr h1) h.symm
   · have h2 := twoK_iff.1 h1
     rw [if_neg (by omega), if_neg (by omega)] at h
     cases hb : endN o x.b o.length with
     | none => rw [hb] at h; cases h
     | some t =>
      rw [hb] at h
      obtain ⟨j, e1, e2, e3⟩ := endN_some hb
      obtain ⟨i, e4, e5, e6⟩ := endN_some h
      exact .two h1 j i e1 e2 e4 (by omega) e6
   · rw [if_neg (by omega), if_pos (.inl h1)] at h
     obtain ⟨j, e1, e2, e3⟩ := endN_some h
     exact .one (oneK_iff.2 (.inl h1)) j e1 e2 e3
   · rw [if_neg (by omega), if_pos (.inr h1)] at h
     obtain ⟨j, e1, e2, e3⟩ := endN_some h
     exact .one (oneK_iff.2 (.inr h1)) j e1 e2 e3
 · cases h
theorem stepB_leaf {o : List Nat} {x : Nd} (hf : fitsN x = true) (hk : x.k = 1 ∨ x.k = 2) : stepB o x = some o.length := by
 unfold stepB startN
 rw [if_pos hf, if_pos hk]
/-! ### nodes moved -/
def shiftN (d : Nat) (x : Nd) : Nd := if twoK x.k = true then { x with a := x.a + d, b := x.b + d } else if oneK x.k = true then { x with a := x.a + d } else x
theorem shiftN_two {d : Nat} {x : Nd} (h : twoK x.k = true) : shiftN d x = { x with a := x.a + d, b := x.b + d } := by unfold shiftN; rw [if_pos h]
theorem one_not_two {k : Int} (h : oneK k = true) : twoK k = false := by have := oneK_iff.1 h; rw [Bool.eq_false_iff]; intro e; have := twoK_iff.1 e; omega
theorem shiftN_one {d : Nat} {x : Nd} (h : oneK x.k = true) : shiftN d x = { x with a := x.a + d } := by unfold shiftN; rw [if_neg (by rw [one_not_two h]; decide), if_pos h]
theorem shiftN_leaf {d : Nat} {x : Nd} (h : twoK x.k = false) (h2 : oneK x.k = false) : shiftN d x = x := by unfold shiftN; rw [h, h2]; rfl
theorem shiftN_zero (x : Nd) : shiftN 0 x = x := by
 unfold shiftN
 split
 · exact Nd.ext' rfl (by simp) (by simp) rfl rfl rfl rfl
 · split
   · exact Nd.ext' rfl (by simp) rfl rfl rfl rfl rfl
   · rfl
/-! ### depths -/
def depS (d : List Nat) (x : Nd) : Nat := if twoK x.k = true then 1 + max (d.getD x.a.toNat 0) (d.getD x.b.toNat 0) else if oneK x.k = true then 1 + d.getD x.a.toNat 0 else 1
def DepOk (d : List Nat) : Prop := ∀ j, j < d.length → 1 ≤ d.getD j 0 ∧ d.getD j 0 ≤ j + 1
theorem DepOk.snoc {d : List Nat} (h : DepOk d) {o : List Nat} {x : Nd} {s : Nat} (hl : o.length = d.length) (ho : Low o) (hs : stepB o x = some s) : DepOk (d ++ [depS d x]) := by
 intro j hj
 rw [List.length_append, List.length_singleton] at hj
 rcases Nat.lt_or_ge j d.length with h1 | h1
 · rw [getD_snoc_lt h1]; exact h j h1
 · obtain rfl : j = d.length := by omega
   rw [getD_snoc_eq]
   unfold depS
   cases (stepB_cases hs).2 with
   | leaf hk _ =>
    have e1 : twoK x.k = false := by rw [Bool.eq_false_iff]; intro e; have := twoK_iff.1 e; omega
    have e2 : oneK x.k = false := by rw [Bool.eq_false_iff]; intro e; have := oneK_iff.1 e; omega
    rw [e1, e2]; simp
   | one hk i ha hl2 _ =>
    rw [if_neg (by rw [one_not_two hk]; decide), if_pos hk, ha, Int.toNat_natCast]
    have := h i (by omega); omega
   | two hk i j hb hl2 ha hi _ =>
    rw [if_pos hk, ha, hb, Int.toNat_natCast, Int.toNat_natCast]
    have h5 := ho.le i
    have := h i (by omega); have := h j (by omega); omega
end Go.Proofs.YtannifhcjcbkcaaGreatDoor

namespace Go.Proofs.YtannifhcjcbkcaaGreatDoor
open Go.RowKit Limb
set_option linter.unusedVariables false
def kidN (j : Nat) (x : Nd) : Nat := if twoK x.k = true then (if x.a = (j : Int) then 1 else 0) + (if x.b = (j : Int) then 1 else 0) else if oneK x.k = true then (if x.a = (j : Int) then 1 else 0) else 0
def kids (ts : List Nd) (j : Nat) : Nat := (ts.map (kidN j)).sum
def leafK (x : Nd) : Bool := decide (x.k = 1) || decide (x.k = 2)
def leafC (ts : List Nd) : Nat := ts.countP leafK
def twoC (ts : List Nd) : Nat := ts.countP fun x => twoK x.k
theorem kids_snoc (ts : List Nd) (x : Nd) (j : Nat) : kids (ts ++ [x]) j = kids ts j + kidN j x := by simp [kids]
theorem leafC_snoc (ts : List Nd) (x : Nd) : leafC (ts ++ [x]) = leafC ts + (if leafK x = true then 1 else 0) := by unfold leafC; rw [List.countP_append, List.countP_singleton]
theorem twoC_snoc (ts : List Nd) (x : Nd) : twoC (ts ++ [x]) = twoC ts + (if twoK x.k = true then 1 else 0) := by unfold twoC; rw [List.countP_append, List.countP_singleton]
theorem nmem {a j : Nat} {S : List Nat} (h : j ≠ a) (h2 : j ∉ S) : j ∉ a :: S := fun e => (List.mem_cons.1 e).elim h h2
inductive Chain (o : List Nat) : Nat → List Nat → Prop where
 | nil : Chain o 0 []
 | cons {j : Nat} {S : List Nat} (h : Chain o (o.getD j 0) S) : Chain o (j + 1) (j :: S)
theorem Chain.lt {o : List Nat} (hl : Low o) {p : Nat} {S : List Nat} (h : Chain o p S) : ∀ j ∈ S, j < p := by
 induction h with
 | nil => intro j hj; cases hj
 | @cons j S h ih =>
  intro i hi
  rcases List.mem_cons.1 hi with rfl | hi
  · omega
  · have := ih i hi; have := hl.le j; omega
theorem Chain.snoc {o : List Nat} (hl : Low o) (s : Nat) {p : Nat} {S : List Nat} (h : Chain o p S) : p ≤ o.length → Chain (o ++ [s]) p S := by
 induction h with
 | nil => intro _; exact .nil
 | @cons j S h ih =>
  intro hp
  refine .cons ?_
  rw [getD_snoc_lt (by omega)]
  exact ih (by have := hl.le j; omega)
structure Roots (P : List Nd) (o S : List Nat) : Prop where
 len : o.length = P.length
 low : Low o
 chain : Chain o P.length S
 kid : ∀ j, j < P.length → kids P j = if j ∈ S then 0 else 1
 none : ∀ j, P.length ≤ j → kids P j = 0
 count : leafC P = twoC P + S.length
theorem Roots.nil : Roots [] [] [] := ⟨rfl, Low.nil, .nil, fun j h => absurd h (by simp), fun _ _ => rfl, rfl⟩
theorem kidN_leaf {x : Nd} (h1 : twoK x.k = false) (h2 : oneK x.k = false) (j : Nat) : kidN j x = 0 := by unfold kidN; rw [h1, h2]; rfl
theorem Roots.step {P : List Nd} {o S : List Nat} {x : Nd} {s : Nat} (h : Roots P o S) (hs : stepB o x = some s) : ∃ S', Roots (P ++ [x]) (o ++ [s]) S' := by
 have hlow := h.low.snoc (stepB_le h.low hs)
 have hlen : (o ++ [s]).length = (P ++ [x]).length := by simp [h.len]
 have hP : (P ++ [x]).length = P.length + 1 := by simp
 have hlt := h.chain.lt h.low
 have hnew : (o ++ [s]).getD P.length 0 = s := by rw [← h.len]; exact getD_snoc_eq o s 0
 cases (stepB_cases hs).2 with
 | leaf hk e =>
  have e1 : twoK x.k = false := by rw [Bool.eq_false_iff]; intro e; have := twoK_iff.1 e; omega
  have e2 : oneK x.k = false := by rw [Bool.eq_false_iff]; intro e; have := oneK_iff.1 e; omega
  have e3 : leafK x = true := by unfold leafK; rw [Bool.or_eq_true, decide_eq_true_eq, decide_eq_true_eq]; exact hk
  refine ⟨P.length :: S, hlen, hlow, ?_, fun j hj => ?_, fun j hj => ?_, ?_⟩
  · rw [hP]
    refine .cons ?_
    rw [hnew]
    have hz := h.chain.snoc h.low s (by rw [h.len]; exact Nat.le_refl _)
    rw [← h.len, ← e] at hz
    exact hz
  · rw [kids_snoc, kidN_leaf e1 e2]
    rcases Nat.lt_or_ge j P.length with h1 | h1
    · rw [h.kid j h1]
      by_cases hm : j ∈ S
      · rw [if_pos hm, if_pos (List.mem_cons_of_mem _ hm)]
      · rw [if_neg hm, if_neg (nmem (by omega) hm)]
    · obtain rfl : j = P.length := by omega
      rw [h.none _ (Nat.le_refl _), if_pos (List.mem_cons_self)]
  · rw [kids_snoc, kidN_leaf e1 e2, h.none j (by omega)]
  · rw [leafC_snoc, twoC_snoc, e1, e3, h.count, List.length_cons]; simp; omega
 | one hk i ha hl e =>
  have e1 := one_not_two hk
  have e3 : leafK x = false := by have := oneK_iff.1 hk; unfold leafK; rw [Bool.or_eq_false_iff, decide_eq_false_iff_not, decide_eq_false_iff_not]; omega
  have hi : P.length = i + 1 := by rw [← h.len]; exact hl
  have hc := h.chain
  rw [hi] at hc
  cases hc with
  | @cons _ S0 hc =>
   have hlt0 := hc.lt h.low
   have hlo := h.low.le i
   refine ⟨P.length :: S0, hlen, hlow, ?_, fun j hj => ?_, fun j hj => ?_, ?_⟩
   · rw [hP]
     refine .cons ?_
     rw [hnew]
     have hz := hc.snoc h.low s (by omega)
     rw [← e] at hz
     exact hz
   · rw [kids_snoc]
     unfold kidN
     rw [if_neg (by rw [e1]; decide), if_pos hk, ha]
     rcases Nat.lt_or_ge j P.length with h1 | h1
     · rw [h.kid j h1]
       by_cases hji : j = i
       · subst hji
         rw [if_pos (List.mem_cons_self), if_pos rfl, if_neg (nmem (by omega) fun e => by have := hlt0 _ e; omega)]
       · rw [if_neg (show ¬ ((i : Int) = (j : Int)) by omega)]
         by_cases hm : j ∈ S0
         · rw [if_pos (List.mem_cons_of_mem _ hm), if_pos (List.mem_cons_of_mem _ hm)]
         · rw [if_neg (nmem (by omega) hm), if_neg (nmem (by omega) hm)]
     · obtain rfl : j = P.length := by omega
       rw [h.none _ (Nat.le_refl _), if_pos (List.mem_cons_self), if_neg (by omega)]
   · rw [kids_snoc, h.none j (by omega)]
     unfold kidN
     rw [if_neg (by rw [e1]; decide), if_pos hk, ha, if_neg (by omega)]
   · rw [leafC_snoc, twoC_snoc, e1, e3, h.count]; simp
 | two hk i m hb hl ha hi e =>
  have e3 : leafK x = false := by have := twoK_iff.1 hk; unfold leafK; rw [Bool.or_eq_false_iff, decide_eq_false_iff_not, decide_eq_false_iff_not]; omega
  have hiP : P.length = i + 1 := by rw [← h.len]; exact hl
  have hc := h.chain
  rw [hiP] at hc
  cases hc with
  | @cons _ S0 hc =>
   have hlo := h.low.le i
   rw [hi] at hc
   cases hc with
   | @cons _ S1 hc =>
    have hlt1 := hc.lt h.low
    have hlo2 := h.low.le m
    refine ⟨P.length :: S1, hlen, hlow, ?_, fun j hj => ?_, fun j hj => ?_, ?_⟩
    · rw [hP]
      refine .cons ?_
      rw [hnew]
      have hz := hc.snoc h.low s (by omega)
      rw [← e] at hz
      exact hz
    · rw [kids_snoc]
      unfold kidN
      rw [if_pos hk, ha, hb]
      rcases Nat.lt_or_ge j P.length with h1 | h1
      · rw [h.kid j h1]
        by_cases hji : j = i
        · subst hji
          rw [if_pos (List.mem_cons_self), if_neg (show ¬ ((m : Int) = (j : Int)) by omega), if_pos rfl, if_neg (nmem (by omega) fun e => by have := hlt1 _ e; omega)]
        · by_cases hjm : j = m
          · subst hjm
            rw [if_pos (List.mem_cons_of_mem _ (List.mem_cons_self)), if_pos rfl, if_neg (show ¬ ((i : Int) = (j : Int)) by omega), if_neg (nmem (by omega) fun e => by have := hlt1 _ e; omega)]
          · rw [if_neg (show ¬ ((m : Int) = (j : Int)) by omega), if_neg (show ¬ ((i : Int) = (j : Int)) by omega)]
            by_cases hm : j ∈ S1
            · rw [if_pos (List.mem_cons_of_mem _ (List.mem_cons_of_mem _ hm)), if_pos (List.mem_cons_of_mem _ hm)]
            · rw [if_neg (nmem (by omega) (nmem (by omega) hm)), if_neg (nmem (by omega) hm)]
      · obtain rfl : j = P.length := by omega
        rw [h.none _ (Nat.le_refl _), if_pos (List.mem_cons_self), if_neg (by omega), if_neg (by omega)]
    · rw [kids_snoc, h.none j (by omega)]
      unfold kidN
      rw [if_pos hk, ha, hb, if_neg (by omega), if_neg (by omega)]
    · rw [leafC_snoc, twoC_snoc, hk, e3, h.count, List.length_cons, List.length_cons, List.length_cons]; simp; omega
theorem Roots.all {us : List Nd} : ∀ {P : List Nd} {o S q : List Nat}, Roots P o S → begF (some o) us = some q → ∃ S', Roots (P ++ us) q S' := by
 induction us with
 | nil => intro P o S q h hq; injection hq with hq; subst hq; rw [List.append_nil]; exact ⟨S, h⟩
 | cons x us ih =>
  intro P o S q h hq
  obtain ⟨s, h1, h2⟩ := begF_cons hq
  obtain ⟨S1, h3⟩ := h.step h1
  obtain ⟨S2, h4⟩ := ih h3 h2
  rw [List.append_assoc] at h4
  exact ⟨S2, h4⟩
/-! ### what is alike -/
def bareN (x : Nd) : Nd := { x with p := 0 }
def sameN (x y : Nd) : Bool := decide (x.k = y.k) && decide (x.a = y.a) && decide (x.b = y.b) && decide (x.n = y.n) && decide (x.t = y.t) && decide (x.u = y.u)
def sameT : List Nd → List Nd → Bool
 | [], [] => true
 | x :: a, y :: b => sameN x y && sameT a b
 | _, _ => false
theorem sameT_iff : ∀ {a b : List Nd}, sameT a b = true ↔ a.length = b.length ∧ ∀ (i : Nat) (x y : Nd), a[i]? = some x → b[i]? = some y → sameN x y = true
 | [], [] => ⟨fun _ => ⟨rfl, fun i x y h => by simp at h⟩, fun _ => rfl⟩
 | [], y :: b => ⟨(fun h => by cases h), (fun h => by simp at h)⟩
 | x :: a, [] => ⟨(fun h => by cases h), (fun h => by simp at h)⟩
 | x :: a, y :: b => by
  unfold sameT
  rw [Bool.and_eq_true, sameT_iff]
  constructor
  · rintro ⟨h1, h2, h3⟩
    refine ⟨by simp [h2], fun i u v hu hv => ?_⟩
    cases i with
    | zero => simp at hu hv; subst hu; subst hv; exact h1
    | succ i => exact h3 i u v (by simpa using hu) (by simpa using hv)
  · rintro ⟨h1, h2⟩
    exact ⟨h2 0 x y rfl rfl, by simpa using h1, fun i u v hu hv => h2 (i + 1) u v (by simpa using hu) (by simpa using hv)⟩
end Go.Proofs.YtannifhcjcbkcaaGreatDoor

namespace Go.Proofs.YtannifhcjcbkcaaGreatDoor
open Go.RowKit Limb
set_option linter.unusedVariables false
structure Lim where
 text : Nat
 deep : Nat
 nodes : Nat
 power : Nat
inductive PaR (α : Type) where
 | ok : α → List Tk → Nat → PaR α
 | bad : Nat → Nat → PaR α
def PaR.next {α β : Type} (r : PaR α) (f : α → List Tk → Nat → PaR β) : PaR β :=
 match r with
 | .ok a l n => f a l n
 | .bad e p => .bad e p
theorem PaR.next_ok {α β : Type} (a : α) (l : List Tk) (n : Nat) (f : α → List Tk → Nat → PaR β) : (PaR.ok a l n).next f = f a l n := rfl
theorem PaR.next_bad {α β : Type} (e p : Nat) (f : α → List Tk → Nat → PaR β) : (PaR.bad e p : PaR α).next f = .bad e p := rfl
def isT (kd : Nat) (tx : List Nat) (t : Tk) : Bool := decide (t.1 = kd) && (tx.isEmpty || decide (t.2.1 = tx))
def hereT (en : Nat) : List Tk → Nat
 | [] => en
 | t :: _ => t.2.2
def nextT (kd : Nat) (tx : List Nat) : List Tk → Bool
 | [] => false
 | t :: _ => isT kd tx t
def takeT (en kd : Nat) (tx : List Nat) : List Tk → Nat → PaR Tk
 | [], _ => .bad 12 en
 | t :: r, n => if isT kd tx t = true then .ok t r n else .bad 12 t.2.2
def nameT (en : Nat) : List Tk → Nat → PaR Tk
 | [], _ => .bad 12 en
 | t :: r, n => if t.1 = 1 ∧ isNam t.2.1 = true then .ok t r n else .bad 12 t.2.2
def numB (en : Nat) (s : List Nat) (l : List Tk) (n : Nat) : PaR (List Nat) :=
 (takeT en 2 [] l n).next fun t l2 n => if nextT 3 [47] l2 = true then (takeT en 2 [] l2.tail n).next fun u l3 n => .ok (s ++ t.2.1 ++ [47] ++ u.2.1) l3 n else .ok (s ++ t.2.1) l2 n
def numT (en : Nat) (l : List Tk) (n : Nat) : PaR (List Nat) := if nextT 3 [45] l = true then numB en [45] l.tail n else numB en [] l n
def digV (l : List Nat) : Nat := l.foldl (fun a d => a * 10 + (d - 48)) 0
def smallT (s : List Nat) (most : Nat) : Option Nat := if s.all isDig = true ∧ 1 ≤ s.length ∧ s.length ≤ most then some (digV s) else none
def litN (s u : List Nat) (p : Nat) : List Nd := [⟨1, 0, 0, 0, strOf s, strOf u, p⟩]
def refN (s : List Nat) (p : Nat) : List Nd := [⟨2, 0, 0, 0, strOf s, ⟨#[]⟩, p⟩]
def overN (k j : Int) (t : List Nd) (p : Nat) : List Nd := t ++ [⟨k, (t.length : Int) - 1, 0, j, ⟨#[]⟩, ⟨#[]⟩, p⟩]
def joinN (k : Int) (t u : List Nd) (p : Nat) : List Nd := t ++ u.map (shiftN t.length) ++ [⟨k, (t.length : Int) - 1, (t.length : Int) + (u.length : Int) - 1, 0, ⟨#[]⟩, ⟨#[]⟩, p⟩]
def madeT (L : Lim) (t : List Nd) (p : Nat) (l : List Tk) (n : Nat) : PaR (List Nd) := if L.nodes < n + 1 then .bad 2 p else .ok t l (n + 1)
abbrev Rdr := List Tk → Nat → PaR (List Nd)
def powB (L : Lim) (en : Nat) (t : List Nd) (pa : Nat) (sg : Bool) (l : List Tk) (n : Nat) : PaR (List Nd) :=
 (takeT en 2 [] l n).next fun x r n =>
   match smallT x.2.1 3 with
   | none => .bad 12 x.2.2
   | some k => if L.power < k then .bad 2 x.2.2 else madeT L (overN 8 (if sg = true then -(k : Int) else (k : Int)) t pa) pa r n
def powT (L : Lim) (en : Nat) (t : List Nd) (l : List Tk) (n : Nat) : PaR (List Nd) :=
 if nextT 3 [94] l = true then
  if nextT 3 [45] l.tail = true then powB L en t (hereT en l) true l.tail.tail n else powB L en t (hereT en l) false l.tail n
 else .ok t l n
def atomT (L : Lim) (en : Nat) (l : List Tk) (n : Nat) : PaR (List Nd) :=
 match l with
 | [] => .bad 12 en
 | x :: r =>
  if isT 2 [] x = true then
   match r with
   | [] => madeT L (litN x.2.1 [] x.2.2) x.2.2 [] n
   | y :: q => if isT 4 [] y = true then madeT L (litN x.2.1 y.2.1 x.2.2) x.2.2 q n else madeT L (litN x.2.1 [] x.2.2) x.2.2 (y :: q) n
  else if x.1 = 1 ∧ isNam x.2.1 = true then madeT L (refN x.2.1 x.2.2) x.2.2 r n
  else .bad 12 x.2.2
def loopT (L : Lim) (f : Rdr) (op : Tk → Option Int) : Nat → List Nd → List Tk → Nat → PaR (List Nd)
 | 0, t, l, n => .ok t l n
 | _ + 1, t, [], n => .ok t [] n
 | g + 1, t, x :: r, n =>
  match op x with
  | none => .ok t (x :: r) n
  | some k => (f r n).next fun u r2 n2 => (madeT L (joinN k t u x.2.2) x.2.2 r2 n2).next fun t2 r3 n3 => loopT L f op g t2 r3 n3
def mulO (x : Tk) : Option Int := if isT 3 [42] x = true then some 5 else if isT 3 [47] x = true then some 6 else none
def addO (x : Tk) : Option Int := if isT 3 [43] x = true then some 3 else if isT 3 [45] x = true then some 4 else none
def rowT (L : Lim) (f : Rdr) (op : Tk → Option Int) : Rdr := fun l n => (f l n).next fun t r n => loopT L f op r.length t r n
def termT (L : Lim) (f : Rdr) : Rdr := rowT L f mulO
def formT (L : Lim) (f : Rdr) : Rdr := rowT L (termT L f) addO
def facS (L : Lim) (en : Nat) (sub : Option Rdr) : Rdr := fun l n =>
 if nextT 3 [45] l = true then
  match sub with
  | none => .bad 2 (hereT en l)
  | some f => (f l.tail n).next fun a r n => madeT L (overN 7 0 a (hereT en l)) (hereT en l) r n
 else if nextT 3 [40] l = true then
  match sub with
  | none => .bad 2 (hereT en l)
  | some f => (formT L f l.tail n).next fun t r n => (takeT en 3 [41] r n).next fun _ r n => powT L en t r n
 else (atomT L en l n).next fun t r n => powT L en t r n
def facT (L : Lim) (en : Nat) : Nat → Rdr
 | 0 => facS L en none
 | d + 1 => facS L en (some (facT L en d))
def formL (L : Lim) (en : Nat) : Rdr := formT L (facT L en L.deep)
structure Dc where
 k : Int
 nm : List Nat
 ot : List Nat
 nu : List Nat
 va : List Nat
 un : List Nat
 tr : List Nd
 pl : Int
 at' : Int
def wordK (t : Tk) : Option Nat :=
 if isT 1 [117, 110, 105, 116] t = true then some 1
 else if isT 1 [115, 111, 117, 114, 99, 101] t = true then some 2
 else if isT 1 [99, 111, 118] t = true then some 3
 else if isT 1 [108, 101, 116] t = true then some 4
 else if isT 1 [111, 117, 116, 112, 117, 116] t = true then some 5
 else none
def semiT (en : Nat) (d : Dc) (l : List Tk) (n : Nat) : PaR Dc := (takeT en 3 [59] l n).next fun _ r n => .ok d r n
def unitT (l : List Tk) : List Nat × List Tk :=
 match l with
 | [] => ([], [])
 | t :: r => if isT 4 [] t = true then (t.2.1, r) else ([], t :: r)
def outB (en : Nat) (d : Dc) (l : List Tk) (n : Nat) : PaR Dc :=
 (takeT en 3 [58] l n).next fun _ r n => (takeT en 2 [] r n).next fun x r n =>
   match smallT x.2.1 2 with
   | none => .bad 12 x.2.2
   | some k => if 60 < k then .bad 2 x.2.2 else semiT en { d with pl := k } r n
def bodyT (L : Lim) (en : Nat) (k : Nat) (d : Dc) (l : List Tk) (n : Nat) : PaR Dc :=
 if k = 1 then (numT en l n).next fun s r n => (takeT en 4 [] r n).next fun u r n => semiT en { d with nu := s, un := u.2.1 } r n
 else if k = 2 then (numT en l n).next fun s r n => (takeT en 3 [58] (unitT r).2 n).next fun _ r2 n => (numT en r2 n).next fun v r3 n => semiT en { d with nu := s, va := v, un := (unitT r).1 } r3 n
 else if k = 3 then (numT en l n).next fun s r n => semiT en { d with nu := s } r n
 else if k = 4 then (formL L en l n).next fun t r n => semiT en { d with tr := t } r n
 else (formL L en l n).next fun t r n =>
  if nextT 1 [105, 110] r = true then (takeT en 4 [] r.tail n).next fun u r n => outB en { d with tr := t, un := u.2.1 } r n
  else outB en { d with tr := t } r n
def headT (en : Nat) (k : Nat) (l : List Tk) (n : Nat) : PaR Dc :=
 (nameT en l n).next fun x r n =>
   if k = 3 then (nameT en r n).next fun y r n => (takeT en 3 [61] r n).next fun _ r n => .ok ⟨k, x.2.1, y.2.1, [], [], [], [], 0, x.2.2⟩ r n
   else (takeT en 3 [61] r n).next fun _ r n => .ok ⟨k, x.2.1, [], [], [], [], [], 0, x.2.2⟩ r n
def declT (L : Lim) (en i : Nat) (l : List Tk) (n : Nat) : PaR Dc :=
 match l with
 | [] => .bad 12 en
 | w :: r =>
  match wordK w with
  | none => .bad 12 w.2.2
  | some k => if 60 ≤ i then .bad 2 w.2.2 else (headT en k r n).next fun d r n => bodyT L en k d r n
def scrT (L : Lim) (en : Nat) : Nat → Nat → List Tk → Nat → PaR (List Dc)
 | _, _, [], n => .ok [] [] n
 | 0, _, l, n => .ok [] l n
 | g + 1, i, x :: r, n => (declT L en i (x :: r) n).next fun d r n => (scrT L en g (i + 1) r n).next fun ds r n => .ok (d :: ds) r n
def scrV (L : Lim) (s : List Nat) : List Dc × Int × Int :=
 if L.text < s.length then ([], 2, 0) else
 match lexT s with
 | .bad p => ([], 11, p)
 | .ok ts =>
  match scrT L s.length ts.length 0 ts 0 with
  | .ok ds _ _ => (ds, 0, 0)
  | .bad e p => ([], e, p)
def frmV (L : Lim) (s : List Nat) : List Nd × Int × Int :=
 if L.text < s.length then ([], 2, 0) else
 match lexT s with
 | .bad p => ([], 11, p)
 | .ok ts =>
  match formL L s.length ts 0 with
  | .ok t [] _ => (t, 0, 0)
  | .ok _ (x :: _) _ => ([], 12, x.2.2)
  | .bad e p => ([], e, p)
def cutL (t d n p : Int) : Lim := ⟨(max 0 (min t 4000)).toNat, (max 0 (min d 60)).toNat, (max 0 (min n 2000)).toNat, (max 0 (min p 64)).toNat⟩
end Go.Proofs.YtannifhcjcbkcaaGreatDoor

namespace Go.Proofs.YtannifhcjcbkcaaGreatDoor
open Go.RowKit Limb
set_option linter.unusedVariables false
end Go.Proofs.YtannifhcjcbkcaaGreatDoor

namespace Go.Proofs.YtannifhcjcbkcaaGreatDoor
open Go.RowKit Limb
set_option linter.unusedVariables false
theorem good_mk {l : List Nat} (h : litGood l = true) : ∃ w f x, LitOk w f x ∧ l = litMk w f x := by
 obtain ⟨h1, h2, h3⟩ := litGood_iff.1 h
 obtain ⟨w, f, x, hok, e⟩ := litLen_parts (l := l) (by omega)
 rw [h3, List.take_length] at e
 exact ⟨w, f, x, hok, e⟩
theorem good_bytes {l : List Nat} (h : litGood l = true) {i : Nat} (hi : i < l.length) {d : Nat} (hd : lim l i = d) : (48 ≤ d ∧ d ≤ 57) ∨ d = 46 ∨ d = 101 ∨ d = 45 := by
 obtain ⟨w, f, x, hok, rfl⟩ := good_mk h
 have hm : d ∈ litMk w f x := by
  have e : lim (litMk w f x) i = (litMk w f x)[i] := by simp [lim, List.getD_eq_getElem?_getD, List.getElem?_eq_getElem hi]
  rw [← hd, e]; exact List.getElem_mem hi
 unfold litMk at hm
 rcases List.mem_append.1 hm with hm | hm
 · rcases List.mem_append.1 hm with hm | hm
   · exact .inl (allDig_iff.1 hok.whole.1 d hm)
   · cases f with
     | none => cases hm
     | some p =>
      rcases List.mem_cons.1 hm with rfl | hm
      · exact .inr (.inl rfl)
      · exact .inl (allDig_iff.1 (hok.part p rfl).1 d hm)
 · cases x with
   | none => cases hm
   | some y =>
    obtain ⟨s, q⟩ := y
    rcases List.mem_cons.1 hm with rfl | hm
    · exact .inr (.inr (.inl rfl))
    · rcases List.mem_append.1 hm with hm | hm
      · cases s with
        | true => simp [litSg] at hm; exact .inr (.inr (.inr hm))
        | false => simp [litSg] at hm
      · exact .inl (allDig_iff.1 (hok.exp s q rfl).1.1 d hm)
end Go.Proofs.YtannifhcjcbkcaaGreatDoor

namespace Go.Proofs.YtannifhcjcbkcaaGreatDoor
open Go.RowKit Limb
set_option linter.unusedVariables false
section
variable {w : World} {s s' : Bool} {A A' : Option Addr} {n c n' c' : Nat} {xs ys : List Nat} {x y : Int} {L L' : Nat}
end
theorem bytesOf_tail {S : ByteArray} (h : 1 ≤ S.size) : bytesOf (S.extract 1 S.size) = (bytesOf S).tail := by
 unfold bytesOf
 rw [ByteArray.data_extract, Array.toList_extract, List.extract_eq_take_drop, List.map_take, List.map_drop, List.drop_one]
 refine List.take_of_length_le ?_
 rw [List.length_tail, List.length_map, Array.length_toList]
 exact Nat.le_refl _
theorem bytesOf_first {S : ByteArray} : bytesOf (S.extract 0 1) = (bytesOf S).take 1 := by
 unfold bytesOf
 rw [ByteArray.data_extract, Array.toList_extract, List.extract_eq_take_drop, List.map_take, List.map_drop]
 rfl
theorem head_minus (S : ByteArray) : ((S.extract 0 1).toList == (⟨#[45]⟩ : ByteArray).toList) = decide ((bytesOf S).head? = some 45) := by
 have e1 : S.extract 0 1 = strOf ((bytesOf S).take 1) := by rw [← bytesOf_first, strOf_bytesOf]
 have e2 : (⟨#[45]⟩ : ByteArray) = strOf [45] := rfl
 rw [e1, e2, str_beq (bytes_take (bytes_bytesOf S) 1) (bytes_cons.2 ⟨by decide, bytes_nil⟩), decide_eq_decide]
 cases bytesOf S with
 | nil => simp
 | cons x l => simp
theorem hasMinus_c (S : ByteArray) (v : Bool) (hv : decide ((bytesOf S).head? = some 45) = v) (w : World) :
 Calls Tryz.prog 173 #[.string S, .string ⟨#[45]⟩] w fun e w' => e = .returned (.bool v) ∧ w = w' := by
 by_cases h0 : S.size = 0
 · have ev : v = false := by
    rw [← hv, List.eq_nil_of_length_eq_zero ((length_bytesOf S).trans h0)]; rfl
   subst ev
   have h1 : (S.size : Int) < 1 := by omega
   clear hv h0
   go_enter Tryz.func173, Tryz.ntmps173
   go_wp2
   go_ret
   exact ⟨rfl, rfl⟩
 · have h1 : (1 : Int) ≤ (S.size : Int) := by omega
   have h2 : 1 ≤ S.size := by omega
   rw [← head_minus] at hv
   obtain ⟨G, hG⟩ : ∃ G, S.extract 0 1 = G := ⟨_, rfl⟩
   rw [hG] at hv
   have e45 : (⟨#[45]⟩ : ByteArray).toList = [45] := toList_strOf [45]
   rw [e45] at hv
   have HV := Lib.hid hv
   clear h0 hv e45
   go_enter Tryz.func173, Tryz.ntmps173
   go_wp2
   go_ret
   exact ⟨by show Ending.returned (Value.bool (G.toList == [45])) = _; rw [HV.out], rfl⟩
end Go.Proofs.YtannifhcjcbkcaaGreatDoor

namespace Go.Proofs.YtannifhcjcbkcaaGreatDoor
open Go.RowKit Limb
set_option linter.unusedVariables false
theorem lim_run {l : List Nat} {k : Nat} (h : k < litRun l) : isDig (lim l k) = true := by
 have e : lim l k = lim (l.takeWhile isDig) k := by
  rw [← take_run]
  simp [lim, List.getD_eq_getElem?_getD, h]
 have h2 : k < (l.takeWhile isDig).length := h
 rw [e]
 have h3 : lim (l.takeWhile isDig) k = (l.takeWhile isDig)[k] := by simp [lim, List.getD_eq_getElem?_getD, List.getElem?_eq_getElem h2]
 rw [h3]
 exact List.all_eq_true.1 (allDig_run l) _ (List.getElem_mem h2)
theorem lim_run_stop {l : List Nat} (h : litRun l < l.length) : isDig (lim l (litRun l)) = false := by
 have e : l.drop (litRun l) = l.dropWhile isDig := by
  conv => lhs; rw [← List.takeWhile_append_dropWhile (p := isDig) (l := l)]
  rw [show litRun (l.takeWhile isDig ++ l.dropWhile isDig) = (l.takeWhile isDig).length by rw [List.takeWhile_append_dropWhile]; rfl, List.drop_left]
 have h2 : lim l (litRun l) = lim (l.dropWhile isDig) 0 := by rw [← e, lim_drop0]
 rw [h2]
 cases hd : l.dropWhile isDig with
 | nil => rw [hd] at e; have := congrArg List.length e; rw [List.length_drop] at this; simp at this; omega
 | cons x t =>
  have h3 := List.head_dropWhile_not isDig (l := l) (by rw [hd]; simp)
  simp only [hd, List.head_cons] at h3
  simpa [lim] using h3
theorem run_step {l : List Nat} {k : Nat} (h : k ≤ litRun l) (hk : k < l.length) (hd : isDig (lim l k) = true) : k + 1 ≤ litRun l := by
 rcases Nat.lt_or_ge k (litRun l) with h2 | h2
 · exact h2
 · obtain rfl : k = litRun l := by omega
   rw [lim_run_stop hk] at hd; cases hd
theorem run_stop {l : List Nat} {k : Nat} (h : k ≤ litRun l) (hd : isDig (lim l k) = false) : litRun l = k := by
 rcases Nat.lt_or_ge k (litRun l) with h2 | h2
 · rw [lim_run h2] at hd; cases hd
 · omega
end Go.Proofs.YtannifhcjcbkcaaGreatDoor

namespace Go.Proofs.YtannifhcjcbkcaaGreatDoor
open Go.RowKit Limb
set_option linter.unusedVariables false
theorem lim_past {l : List Nat} {n : Nat} (h : l.length ≤ n) : lim l n = 0 := by
 simp [lim, List.getD_eq_getElem?_getD, List.getElem?_eq_none h]
end Go.Proofs.YtannifhcjcbkcaaGreatDoor

namespace Go.Proofs.YtannifhcjcbkcaaGreatDoor
open Go.RowKit Limb
set_option linter.unusedVariables false
theorem kindN_big {c : Nat} (h : 102 ≤ c) : kindN c = 0 := by
 unfold kindN
 rw [if_neg (by omega), if_neg (by omega), if_neg (by omega), if_neg]
 simp [isDig]; omega
theorem kindN_dig {c : Nat} : (kindN c = 1) ↔ isDig c = true := by
 unfold kindN
 by_cases h1 : c = 45
 · subst h1; decide
 · by_cases h2 : c = 46
   · subst h2; decide
   · by_cases h3 : c = 101
     · subst h3; decide
     · rw [if_neg h1, if_neg h2, if_neg h3]
       cases isDig c <;> decide
theorem kindN_point {c : Nat} : (kindN c = 2) ↔ c = 46 := by
 unfold kindN
 by_cases h1 : c = 45
 · subst h1; decide
 · by_cases h2 : c = 46
   · subst h2; decide
   · by_cases h3 : c = 101
     · subst h3; decide
     · rw [if_neg h1, if_neg h2, if_neg h3]
       cases isDig c <;> simp [h2]
theorem kindN_mark {c : Nat} : (kindN c = 3) ↔ c = 101 := by
 unfold kindN
 by_cases h1 : c = 45
 · subst h1; decide
 · by_cases h2 : c = 46
   · subst h2; decide
   · by_cases h3 : c = 101
     · subst h3; decide
     · rw [if_neg h1, if_neg h2, if_neg h3]
       cases isDig c <;> simp [h3]
theorem kindN_minus {c : Nat} : (kindN c = 4) ↔ c = 45 := by
 unfold kindN
 by_cases h1 : c = 45
 · subst h1; decide
 · by_cases h2 : c = 46
   · subst h2; decide
   · by_cases h3 : c = 101
     · subst h3; decide
     · rw [if_neg h1, if_neg h2, if_neg h3]
       cases isDig c <;> simp [h1]
set_option maxHeartbeats 1000000 in
theorem kindAt_c (s : ByteArray) (hs : s.size ≤ 9223372036854775807) (i : Nat) (V : Int) (hV : V = i) (w : World) (T : KTab w) (v : Nat) (hv : kindN (lim (bytesOf s) i) = v) :
 Calls Tryz.prog 181 #[.string s, .int .i64 V] w fun e w' => e = .returned (.int .u8 (v : Int)) ∧ w = w' := by
 subst hV
 by_cases hlt : i < s.size
 · obtain ⟨d, hd⟩ : ∃ d, (s[i]'hlt).toNat = d := ⟨_, rfl⟩
   have hdl : lim (bytesOf s) i = d := by rw [← Limb.byte_at s i hlt, hd]
   have hd2 : d < 256 := by rw [← hd]; exact UInt8.toNat_lt _
   rw [hdl] at hv
   by_cases h1 : d < 102
   · have hc := T d h1
     rw [hv] at hc
     clear hv hdl T
     go_enter Tryz.func181, Tryz.ntmps181
     go_wp2
     go_ret
     exact ⟨rfl, rfl⟩
   · have h2 : 102 ≤ d := by omega
     rw [kindN_big h2] at hv
     subst hv
     clear hdl T h1
     go_enter Tryz.func181, Tryz.ntmps181
     go_wp2
     go_ret
     exact ⟨rfl, rfl⟩
 · have h2 : s.size ≤ i := by omega
   have h0 : lim (bytesOf s) i = 0 := lim_past (by rw [length_bytesOf]; exact h2)
   rw [h0] at hv
   obtain rfl : v = 0 := by rw [← hv]; rfl
   clear hv h0 T hlt
   go_enter Tryz.func181, Tryz.ntmps181
   go_wp2
   go_ret
   exact ⟨rfl, rfl⟩
theorem lim_dig {l : List Nat} {k : Nat} (h : isDig (lim l k) = true) : k < l.length := by
 rcases Nat.lt_or_ge k l.length with h2 | h2
 · exact h2
 · rw [lim_past h2] at h; exact absurd h (by decide)
set_option maxHeartbeats 1000000 in
theorem digitsLen_c (s : ByteArray) (hs : s.size ≤ 9223372036854775807) (m : Nat) (V : Int) (hV : V = m) (hm : m ≤ 9223372036854775807) (w : World) (T : KTab w) (n : Nat) (hn : min (litRun (bytesOf s)) m = n) :
 Calls Tryz.prog 163 #[.string s, .int .i64 V] w fun e w' => e = .returned (.int .i64 (n : Int)) ∧ w = w' := by
 subst hV
 have HT := Lib.hid T
 have Hn := Lib.hid hn
 clear T hn
 go_enter Tryz.func163, Tryz.ntmps163
 go_wp2
 go_loopw [5] (fun i wr => ∃ k : Nat, i = .int .i64 (k : Int) ∧ k ≤ m ∧ RowKit.Hid (k ≤ litRun (bytesOf s)) ∧ w = wr) (fun i _ => m - (intOf i).toNat)
 case atStart => exact ⟨0, rfl, Nat.zero_le _, Nat.zero_le _, rfl⟩
 case round =>
  obtain ⟨k, rfl, hk, HK, rfl⟩ := hrel
  by_cases hlt : k < m
  · cases hd : isDig (lim (bytesOf s) k) with
    | true =>
     have HK2 : RowKit.Hid (k + 1 ≤ litRun (bytesOf s)) := run_step HK.out (lim_dig hd) hd
     have HC := Lib.hid (kindAt_c s hs k k rfl w HT.out 1 (kindN_dig.2 hd))
     clear hd HK
     go_wp2_with fail
     refine HC.out.mono ?_
     rintro e w1 ⟨rfl, rfl⟩
     go_wp2
     go_roundw
     case rel => exact ⟨k + 1, by go_num, by omega, HK2, by first | rfl | trivial⟩
     case measure => simp [intOf]; omega
    | false =>
     have HE : RowKit.Hid (n = k) := by
      show _ = _
      rw [← Hn.out, run_stop HK.out hd]
      omega
     obtain ⟨v, hv⟩ : ∃ v, kindN (lim (bytesOf s) k) = v := ⟨_, rfl⟩
     have hv1 : ((v : Int) == 1) = false := by
      rw [beq_eq_false_iff_ne]
      intro h
      have h2 : v = 1 := by omega
      rw [h2] at hv
      rw [kindN_dig.1 hv] at hd; cases hd
     have HC := Lib.hid (kindAt_c s hs k k rfl w HT.out v hv)
     clear hd HK hv
     go_wp2_with fail
     refine HC.out.mono ?_
     rintro e w1 ⟨rfl, rfl⟩
     go_wp2
     go_ret
     exact ⟨by rw [HE.out]; rfl, rfl⟩
  · have HE : RowKit.Hid (n = m) := by
     show _ = _
     have := HK.out
     rw [← Hn.out]; omega
    obtain rfl : k = m := by omega
    clear HK hlt
    go_wp2
    go_ret
    exact ⟨by rw [HE.out]; rfl, rfl⟩
theorem tail_of (s : ByteArray) (k : Nat) : bytesOf (s.extract k s.size) = (bytesOf s).drop k := by
 rw [bytesOf_extract]
 refine List.take_of_length_le ?_
 rw [List.length_drop, length_bytesOf]
 exact Nat.le_refl _
theorem tail_size (s : ByteArray) {k : Nat} (h : k ≤ s.size) : (s.extract k s.size).size = s.size - k := by
 rw [← length_bytesOf, tail_of, List.length_drop, length_bytesOf]
theorem ne_kind {v c : Nat} (h : v ≠ c) : ((v : Int) == (c : Int)) = false := by rw [beq_eq_false_iff_ne]; omega
theorem size_of_lim {s : ByteArray} {k v : Nat} (h : lim (bytesOf s) k = v) (hv : v ≠ 0) : k < s.size := by
 rcases Nat.lt_or_ge k s.size with h2 | h2
 · exact h2
 · rw [lim_past (by rw [length_bytesOf]; exact h2)] at h; exact absurd h.symm hv
set_option maxHeartbeats 1000000 in
theorem placesLen_c (s : ByteArray) (hs : s.size ≤ 9223372036854775807) (w : World) (T : KTab w) (n : Nat) (hn : litPoint (bytesOf s) = n) :
 Calls Tryz.prog 164 #[.string s] w fun e w' => e = .returned (.int .i64 (n : Int)) ∧ w = w' := by
 by_cases h : lim (bytesOf s) 0 = 46
 · have h1 : 1 ≤ s.size := size_of_lim h (by decide)
   obtain ⟨S, hS⟩ : ∃ S, s.extract 1 s.size = S := ⟨_, rfl⟩
   have hb : bytesOf S = (bytesOf s).drop 1 := by rw [← hS]; exact tail_of s 1
   have hz : S.size = s.size - 1 := by rw [← hS]; exact tail_size s h1
   have HK := Lib.hid (kindAt_c s hs 0 0 rfl w T 2 (kindN_point.2 h))
   obtain ⟨k, hk⟩ : ∃ k, litRun (bytesOf S) = k := ⟨_, rfl⟩
   have hkl : k ≤ S.size := by have := litRun_le (bytesOf S); rw [hk, length_bytesOf] at this; exact this
   have HC := Lib.hid (digitsLen_c S (by omega) s.size _ rfl hs w T k (by rw [hk]; omega))
   by_cases k0 : k = 0
   · obtain rfl : n = 0 := by rw [← hn]; unfold litPoint; rw [← hb, hk]; exact if_neg fun h2 => h2.2 k0
     subst k0
     clear hn hb hk h
     go_enter Tryz.func164, Tryz.ntmps164
     go_wp2_with fail
     refine HK.out.mono ?_
     rintro e w1 ⟨rfl, rfl⟩
     go_wp2_with fail
     refine HC.out.mono ?_
     rintro e w1 ⟨rfl, rfl⟩
     go_wp2
     go_ret
     exact ⟨rfl, rfl⟩
   · obtain rfl : n = 1 + k := by rw [← hn]; unfold litPoint; rw [← hb, hk]; exact if_pos ⟨h, k0⟩
     have k1 : ((k : Int) == 0) = false := ne_kind k0
     clear hn hb hk h
     go_enter Tryz.func164, Tryz.ntmps164
     go_wp2_with fail
     refine HK.out.mono ?_
     rintro e w1 ⟨rfl, rfl⟩
     go_wp2_with fail
     refine HC.out.mono ?_
     rintro e w1 ⟨rfl, rfl⟩
     go_wp2
     go_ret
     exact ⟨congrArg (fun v => Ending.returned (Value.int IntKind.i64 v)) (by omega), rfl⟩
 · obtain ⟨v, hv⟩ : ∃ v, kindN (lim (bytesOf s) 0) = v := ⟨_, rfl⟩
   have hv1 : ((v : Int) == 2) = false := ne_kind (c := 2) fun h2 => h (kindN_point.1 (hv.trans h2))
   have HK := Lib.hid (kindAt_c s hs 0 0 rfl w T v hv)
   obtain rfl : n = 0 := by rw [← hn]; exact litPoint_none h
   clear hn hv h
   go_enter Tryz.func164, Tryz.ntmps164
   go_wp2_with fail
   refine HK.out.mono ?_
   rintro e w1 ⟨rfl, rfl⟩
   go_wp2
   go_ret
   exact ⟨rfl, rfl⟩
set_option maxHeartbeats 1000000 in
theorem exponentLen_c (s : ByteArray) (hs : s.size ≤ 9223372036854775807) (w : World) (T : KTab w) (n : Nat) (hn : litExp (bytesOf s) = n) :
 Calls Tryz.prog 165 #[.string s] w fun e w' => e = .returned (.int .i64 (n : Int)) ∧ w = w' := by
 by_cases h : lim (bytesOf s) 0 = 101
 · have h1 : 1 ≤ s.size := size_of_lim h (by decide)
   have HK := Lib.hid (kindAt_c s hs 0 0 rfl w T 3 (kindN_mark.2 h))
   have ha : ∃ a, litAt (bytesOf s) = a ∧ ((lim (bytesOf s) 1 = 45 ∧ a = 2) ∨ (lim (bytesOf s) 1 ≠ 45 ∧ a = 1)) := by
    by_cases h45 : lim (bytesOf s) 1 = 45
    · exact ⟨2, if_pos h45, .inl ⟨h45, rfl⟩⟩
    · exact ⟨1, if_neg h45, .inr ⟨h45, rfl⟩⟩
   obtain ⟨a, ha, hab⟩ := ha
   have has : a ≤ s.size := by
    rcases hab with ⟨h2, rfl⟩ | ⟨_, rfl⟩
    · exact size_of_lim h2 (by decide)
    · exact h1
   obtain ⟨S, hS⟩ : ∃ S, s.extract a s.size = S := ⟨_, rfl⟩
   have hb : bytesOf S = (bytesOf s).drop a := by rw [← hS]; exact tail_of s a
   have hz : S.size = s.size - a := by rw [← hS]; exact tail_size s has
   obtain ⟨k, hk⟩ : ∃ k, min (litRun (bytesOf S)) 3 = k := ⟨_, rfl⟩
   have hk3 : k ≤ 3 := by omega
   have HC := Lib.hid (digitsLen_c S (by omega) 3 3 rfl (by decide) w T k hk)
   have HE : RowKit.Hid (n = if k = 0 then 0 else a + k) := by
    show _ = _
    rw [← hn, ← hk]
    unfold litExp
    rw [ha, ← hb]
    by_cases k0 : litRun (bytesOf S) = 0
    · rw [if_neg (fun h2 => h2.2 k0), if_pos (by omega)]
    · rw [if_pos ⟨h, k0⟩, if_neg (by omega)]
   clear hn hb hk h ha hz
   rcases hab with ⟨h45, rfl⟩ | ⟨h45, rfl⟩
   · have HM := Lib.hid (kindAt_c s hs 1 1 rfl w T 4 (kindN_minus.2 h45))
     clear h45
     by_cases k0 : k = 0
     · subst k0
       obtain rfl : n = 0 := HE.out
       go_enter Tryz.func165, Tryz.ntmps165
       go_wp2_with fail
       refine HK.out.mono ?_
       rintro e w1 ⟨rfl, rfl⟩
       go_wp2_with fail
       refine HM.out.mono ?_
       rintro e w1 ⟨rfl, rfl⟩
       go_wp2_with fail
       refine HC.out.mono ?_
       rintro e w1 ⟨rfl, rfl⟩
       go_wp2
       go_ret
       exact ⟨rfl, rfl⟩
     · obtain rfl : n = 2 + k := HE.out.trans (if_neg k0)
       have k1 : ((k : Int) == 0) = false := ne_kind k0
       go_enter Tryz.func165, Tryz.ntmps165
       go_wp2_with fail
       refine HK.out.mono ?_
       rintro e w1 ⟨rfl, rfl⟩
       go_wp2_with fail
       refine HM.out.mono ?_
       rintro e w1 ⟨rfl, rfl⟩
       go_wp2_with fail
       refine HC.out.mono ?_
       rintro e w1 ⟨rfl, rfl⟩
       go_wp2
       go_ret
       exact ⟨congrArg (fun v => Ending.returned (Value.int IntKind.i64 v)) (by omega), rfl⟩
   · obtain ⟨v, hv⟩ : ∃ v, kindN (lim (bytesOf s) 1) = v := ⟨_, rfl⟩
     have hv1 : ((v : Int) == 4) = false := ne_kind (c := 4) fun h2 => h45 (kindN_minus.1 (hv.trans h2))
     have HM := Lib.hid (kindAt_c s hs 1 1 rfl w T v hv)
     clear h45 hv
     by_cases k0 : k = 0
     · subst k0
       obtain rfl : n = 0 := HE.out
       go_enter Tryz.func165, Tryz.ntmps165
       go_wp2_with fail
       refine HK.out.mono ?_
       rintro e w1 ⟨rfl, rfl⟩
       go_wp2_with fail
       refine HM.out.mono ?_
       rintro e w1 ⟨rfl, rfl⟩
       go_wp2_with fail
       refine HC.out.mono ?_
       rintro e w1 ⟨rfl, rfl⟩
       go_wp2
       go_ret
       exact ⟨rfl, rfl⟩
     · obtain rfl : n = 1 + k := HE.out.trans (if_neg k0)
       have k1 : ((k : Int) == 0) = false := ne_kind k0
       go_enter Tryz.func165, Tryz.ntmps165
       go_wp2_with fail
       refine HK.out.mono ?_
       rintro e w1 ⟨rfl, rfl⟩
       go_wp2_with fail
       refine HM.out.mono ?_
       rintro e w1 ⟨rfl, rfl⟩
       go_wp2_with fail
       refine HC.out.mono ?_
       rintro e w1 ⟨rfl, rfl⟩
       go_wp2
       go_ret
       exact ⟨congrArg (fun v => Ending.returned (Value.int IntKind.i64 v)) (by omega), rfl⟩
 · obtain ⟨v, hv⟩ : ∃ v, kindN (lim (bytesOf s) 0) = v := ⟨_, rfl⟩
   have hv1 : ((v : Int) == 3) = false := ne_kind (c := 3) fun h2 => h (kindN_mark.1 (hv.trans h2))
   have HK := Lib.hid (kindAt_c s hs 0 0 rfl w T v hv)
   obtain rfl : n = 0 := by rw [← hn]; exact litExp_none h
   clear hn hv h
   go_enter Tryz.func165, Tryz.ntmps165
   go_wp2_with fail
   refine HK.out.mono ?_
   rintro e w1 ⟨rfl, rfl⟩
   go_wp2
   go_ret
   exact ⟨rfl, rfl⟩
set_option maxHeartbeats 1000000 in
theorem litLen_c (s : ByteArray) (hs : s.size ≤ 9223372036854775807) (w : World) (T : KTab w) (n : Nat) (hn : litLen (bytesOf s) = n) :
 Calls Tryz.prog 149 #[.string s] w fun e w' => e = .returned (.int .i64 (n : Int)) ∧ w = w' := by
 obtain ⟨a, ha⟩ : ∃ a, litRun (bytesOf s) = a := ⟨_, rfl⟩
 have has : a ≤ s.size := by have := litRun_le (bytesOf s); rw [ha, length_bytesOf] at this; exact this
 have HC := Lib.hid (digitsLen_c s hs s.size _ rfl hs w T a (by rw [ha]; omega))
 by_cases a0 : a = 0
 · subst a0
   obtain rfl : n = 0 := by rw [← hn]; exact if_pos ha
   clear hn ha
   go_enter Tryz.func149, Tryz.ntmps149
   go_wp2_with fail
   refine HC.out.mono ?_
   rintro e w1 ⟨rfl, rfl⟩
   go_wp2
   go_ret
   exact ⟨rfl, rfl⟩
 · have a1 : ((a : Int) == 0) = false := ne_kind a0
   obtain ⟨S, hS⟩ : ∃ S, s.extract a s.size = S := ⟨_, rfl⟩
   have hb : bytesOf S = (bytesOf s).drop a := by rw [← hS]; exact tail_of s a
   have hz : S.size = s.size - a := by rw [← hS]; exact tail_size s has
   obtain ⟨p, hp⟩ : ∃ p, litPoint (bytesOf S) = p := ⟨_, rfl⟩
   have hpl : p ≤ S.size := by
    obtain ⟨_, _, _, h3⟩ := point_parts (bytesOf S)
    rw [hp, length_bytesOf] at h3; exact h3
   have HP := Lib.hid (placesLen_c S (by omega) w T p hp)
   obtain ⟨b, hb2⟩ : ∃ b, a + p = b := ⟨_, rfl⟩
   have hbs : b ≤ s.size := by omega
   obtain ⟨S2, hS2⟩ : ∃ S2, s.extract b s.size = S2 := ⟨_, rfl⟩
   have hbb : bytesOf S2 = (bytesOf s).drop b := by rw [← hS2]; exact tail_of s b
   have hz2 : S2.size = s.size - b := by rw [← hS2]; exact tail_size s hbs
   obtain ⟨x, hx⟩ : ∃ x, litExp (bytesOf S2) = x := ⟨_, rfl⟩
   have hxl : x ≤ S2.size := by
    obtain ⟨_, _, _, h3⟩ := exp_parts (bytesOf S2)
    rw [hx, length_bytesOf] at h3; exact h3
   have HX := Lib.hid (exponentLen_c S2 (by omega) w T x hx)
   obtain rfl : n = b + x := by
    rw [← hn]
    unfold litLen
    rw [ha, if_neg a0, ← hb, hp, hb2, ← hbb, hx]
   have eb : (a : Int) + (p : Int) = (b : Int) := by omega
   clear hn ha hb hp hbb hx hb2
   go_enter Tryz.func149, Tryz.ntmps149
   go_wp2_with fail
   refine HC.out.mono ?_
   rintro e w1 ⟨rfl, rfl⟩
   go_wp2_with fail
   refine HP.out.mono ?_
   rintro e w1 ⟨rfl, rfl⟩
   go_wp2_with fail
   refine HX.out.mono ?_
   rintro e w1 ⟨rfl, rfl⟩
   go_wp2
   go_ret
   exact ⟨congrArg (fun v => Ending.returned (Value.int IntKind.i64 v)) (by omega), rfl⟩
set_option maxHeartbeats 1000000 in
theorem litGood_w (s : ByteArray) (hs : s.size ≤ 9223372036854775807) (w : World) (T : KTab w) (v : Bool) (hv : litGood (bytesOf s) = v) :
 Calls Tryz.prog 124 #[.string s] w fun e w' => e = .returned (.bool v) ∧ w = w' := by
 have HL := Lib.hid (length_bytesOf s)
 have Hv := Lib.hid hv
 clear hv
 by_cases h1 : 1 ≤ s.size
 · have h10 : (0 : Int) < (s.size : Int) := by omega
   by_cases h2 : s.size ≤ 400
   · have h20 : (s.size : Int) ≤ 400 := by omega
     obtain ⟨n, hn⟩ : ∃ n, litLen (bytesOf s) = n := ⟨_, rfl⟩
     have HC := Lib.hid (litLen_c s hs w T n hn)
     have HV : RowKit.Hid (((n : Int) == (s.size : Int)) = v) := by
      show _ = _
      rw [← Hv.out]
      unfold litGood
      rw [HL.out, hn, decide_eq_true h1, decide_eq_true h2]
      by_cases h3 : n = s.size
      · rw [h3, decide_eq_true rfl]; simp
      · rw [decide_eq_false h3, beq_eq_false_iff_ne.2 (by omega)]; rfl
     clear hn Hv HL
     go_enter Tryz.func124, Tryz.ntmps124
     go_wp2_with fail
     refine HC.out.mono ?_
     rintro e w1 ⟨rfl, rfl⟩
     have hv2 := HV.out
     go_wp2
     go_ret
     exact ⟨by first | rfl | (rw [← HV.out]; rfl), rfl⟩
   · have HV : RowKit.Hid (v = false) := by
      show _ = _
      rw [← Hv.out]; unfold litGood; rw [HL.out, decide_eq_true h1, decide_eq_false h2]; rfl
     have h3 : ¬ ((s.size : Int) ≤ 400) := by omega
     clear Hv HL
     go_enter Tryz.func124, Tryz.ntmps124
     go_wp2
     go_ret
     exact ⟨by rw [HV.out]; rfl, rfl⟩
 · have HV : RowKit.Hid (v = false) := by
    show _ = _
    rw [← Hv.out]; unfold litGood; rw [HL.out, decide_eq_false h1]; rfl
   have h3 : ¬ ((0 : Int) < (s.size : Int)) := by omega
   have h4 : ¬ (0 < s.size) := by omega
   clear Hv HL
   go_enter Tryz.func124, Tryz.ntmps124
   go_wp2
   go_ret
   exact ⟨by rw [HV.out]; rfl, rfl⟩
end Go.Proofs.YtannifhcjcbkcaaGreatDoor

namespace Go.Proofs.YtannifhcjcbkcaaGreatDoor
open Go.RowKit Limb
set_option linter.unusedVariables false
def RowA (w : World) (g : Nat) (T : TypeId) (V : Array Value) : Prop := w.heap[g]? = some (.cells V T (0, 0))
def InV (w : World) (g o : Nat) (V : Array Value) : Prop := ∀ j v, V[j]? = some v → w.cell? ⟨g, o + j, none⟩ = some v
section
variable {w w' : World} {g o : Nat} {T : TypeId} {V V' : Array Value}
theorem RowA.lt (h : RowA w g T V) : g < w.heap.size := by
 rcases Nat.lt_or_ge g w.heap.size with hlt | hge
 · exact hlt
 · unfold RowA at h; rw [Array.getElem?_eq_none hge] at h; cases h
theorem RowA.below (h : RowA w g T V) (hb : Below w.heap.size w w') : RowA w' g T V := (hb.block g h.lt).trans h
theorem RowA.drew (h : RowA w g T V) : RowA w.drew g T V := h
theorem RowA.cell (h : RowA w g T V) {k : Nat} {v : Value} (hk : V[k]? = some v) : w.cell? ⟨g, k, none⟩ = some v := by
 unfold RowA at h
 simp only [World.cell?, h]
 exact hk
theorem RowA.free (h : RowA w g T V) (k : Nat) : w.frozen? ⟨g, k, none⟩ = false := by unfold RowA at h; simp [World.frozen?, h]
theorem RowA.set (h : RowA w g T V) (k : Nat) (v : Value) : RowA (w.setCell ⟨g, k, none⟩ v) g T (V.setIfInBounds k v) := by
 unfold RowA at h ⊢
 simp [World.setCell, Array.getElem?_modify, h]
theorem RowA.far (h : RowA w g T V) {g' : Nat} (hne : g' ≠ g) (k : Nat) (v : Value) : RowA (w.setCell ⟨g', k, none⟩ v) g T V := by
 unfold RowA at h ⊢
 simp only [World.setCell, Array.getElem?_modify]
 rw [if_neg hne]
 exact h
theorem RowA.fill (h : RowA w g T V) : RowA (w.setRow g V') g T V' := setRow_heap w g V V' T (0, 0) h
theorem RowA.farRow (h : RowA w g T V) {g' : Nat} (hne : g' ≠ g) : RowA (w.setRow g' V') g T V := by
 unfold RowA at h ⊢
 rw [setRow_other w g' g V' (Ne.symm hne)]
 exact h
theorem RowA.inV (h : RowA w g T V) : InV w g 0 V := fun j v hv => by rw [Nat.zero_add]; exact h.cell hv
theorem RowA.part (h : RowA w g T V) (hp : ∀ j v, V'[j]? = some v → V[o + j]? = some v) : InV w g o V' := fun j v hv => h.cell (hp j v hv)
theorem InV.below (h : InV w g o V) (hg : g < w.heap.size) (hb : Below w.heap.size w w') : InV w' g o V := fun j v hv => (hb.cell (p := ⟨g, o + j, none⟩) hg).trans (h j v hv)
end
theorem rowA_new (w : World) (T : TypeId) (V : Array Value) : RowA (w.alloc (.cells V T)) w.heap.size T V := heap_alloc_new _ _
theorem below_fillRow {B : Nat} {w w' : World} (h : Below B w w') {g : Nat} (hg : B ≤ g) (V : Array Value) : Below B w (w'.setRow g V) :=
 h.trans ⟨rfl, rfl, rfl, by simp, fun k hk => setRow_other w' g k V (by omega)⟩
def ints (K : IntKind) (xs : List Int) : Array Value := (xs.map (Value.int K)).toArray
theorem ints_get {K : IntKind} {xs : List Int} {i : Nat} (h : i < xs.length) : (ints K xs)[i]? = some (.int K (xs.getD i 0)) := by
 simp [ints, List.getD_eq_getElem?_getD, h]
theorem ints_set {K : IntKind} {xs : List Int} (k : Nat) (x : Int) : (ints K xs).setIfInBounds k (.int K x) = ints K (xs.set k x) := by
 simp [ints, List.map_set]
theorem RowA.int {w : World} {g : Nat} {T : TypeId} {K : IntKind} {xs : List Int} (h : RowA w g T (ints K xs)) {i : Nat} (hi : i < xs.length) : w.cell? ⟨g, i, none⟩ = some (.int K (xs.getD i 0)) := h.cell (ints_get hi)
theorem RowA.setInt {w : World} {g : Nat} {T : TypeId} {K : IntKind} {xs : List Int} (h : RowA w g T (ints K xs)) (k : Nat) (x : Int) : RowA (w.setCell ⟨g, k, none⟩ (.int K x)) g T (ints K (xs.set k x)) := by
 rw [← ints_set]; exact h.set k _
section
variable {P : Program} {ops : Array Oper} {rest : List Oper} {o : Oper} {a : Act} {w : World} {K : Act → World → Prop} {Q : Exit → Act → World → Prop}
def Many (P : Program) (ty : TypeId) (n : Nat) : Prop := (P.info? ty).map (·.size) = some n ∧ ∃ d, P.underlying ty = some d ∧ d.isRow = true
theorem run_loadV {ty : TypeId} {g p : Nat} {V : Array Value} (hc : InV w g p V) (hT : Many P ty V.size) : (Instr.loadAt ty (.pointer (some ⟨g, p, none⟩))).run P w = .ok (.agg V) w := by
 obtain ⟨h1, d, h2, h3⟩ := hT
 have := run_loadAt_mid (P := P) w g p ty V.toList d (fun j v hv => hc j v (by simpa using hv)) h2 h3 (by simpa using h1)
 simpa using this
theorem wp_loadV (ty : TypeId) (x : Operand) (ho : o.op = .load ty x) (g p : Nat) (hx : a.eval x = .pointer (some ⟨g, p, none⟩)) (V : Array Value) (hc : Hid (InV w g p V)) (hT : Hid (Many P ty V.size))
 (h : K (a.put o.dst (.agg V)) w) : o.wp P a w K Q := by
 unfold Oper.wp execOp
 simp only [ho, hx, run_loadV hc.out hT.out, Sem.run_bind, Sem.run_pure, Result.andThen_ok]
 exact h
theorem wpList_loadV (hg : Region.wanted o (yielded ops a.tmps) = true) (ty : TypeId) (x : Operand) (ho : o.op = .load ty x) (g p : Nat) (hx : a.eval x = .pointer (some ⟨g, p, none⟩)) (V : Array Value) (hc : Hid (InV w g p V)) (hT : Hid (Many P ty V.size))
 (h : wpList P ops Q rest (a.put o.dst (.agg V)) w) : wpList P ops Q (o :: rest) a w :=
 BigFrame.wpList_want hg fun _ hK => wp_loadV ty x ho g p hx V hc hT (hK _ _ h)
theorem wp_buildV (ty : TypeId) (parts : Array (Nat × Operand)) (ho : o.op = .build ty parts) (ps : List (Nat × Value)) (hp : parts.toList.map (fun p => (p.1, a.eval p.2)) = ps) (V : Array Value) (hr : Hid (∀ W, (Instr.build ty ps.toArray).run P W = .ok (.agg V) W))
 (h : K (a.put o.dst (.agg V)) w) : o.wp P a w K Q := by
 have e : (parts.map fun (i, x) => (i, a.eval x)) = ps.toArray := by
  rw [← hp]
  apply Array.ext'
  simp
 unfold Oper.wp execOp
 simp only [ho, e, hr.out, Sem.run_bind, Sem.run_pure, Result.andThen_ok]
 exact h
theorem wpList_buildV (hg : Region.wanted o (yielded ops a.tmps) = true) (ty : TypeId) (parts : Array (Nat × Operand)) (ho : o.op = .build ty parts) (ps : List (Nat × Value)) (hp : parts.toList.map (fun p => (p.1, a.eval p.2)) = ps) (V : Array Value) (hr : Hid (∀ W, (Instr.build ty ps.toArray).run P W = .ok (.agg V) W))
 (h : wpList P ops Q rest (a.put o.dst (.agg V)) w) : wpList P ops Q (o :: rest) a w :=
 BigFrame.wpList_want hg fun _ hK => wp_buildV ty parts ho ps hp V hr (hK _ _ h)
theorem wp_storeV (ty : TypeId) (x y : Operand) (ho : o.op = .store ty x y) (g : Nat) (hx : a.eval x = .pointer (some ⟨g, 0, none⟩)) (V : Array Value) (hy : a.eval y = .agg V) (T : TypeId) (V0 : Array Value) (hc : Hid (RowA w g T V0)) (hT : Hid (Many P ty V.size ∧ V0.size = V.size ∧ ∀ v ∈ V, v.oneCell' = true))
 (h : K (a.put o.dst undef) (w.setRow g V)) : o.wp P a w K Q :=
 wp_store_row ty x y ho g V hx hy T V0 hc.out hT.out.1.1 hT.out.2.1 (Array.all_eq_true_iff_forall_mem.2 hT.out.2.2) h
theorem wpList_storeV (hg : Region.wanted o (yielded ops a.tmps) = true) (ty : TypeId) (x y : Operand) (ho : o.op = .store ty x y) (g : Nat) (hx : a.eval x = .pointer (some ⟨g, 0, none⟩)) (V : Array Value) (hy : a.eval y = .agg V) (T : TypeId) (V0 : Array Value) (hc : Hid (RowA w g T V0)) (hT : Hid (Many P ty V.size ∧ V0.size = V.size ∧ ∀ v ∈ V, v.oneCell' = true))
 (h : wpList P ops Q rest (a.put o.dst undef) (w.setRow g V)) : wpList P ops Q (o :: rest) a w :=
 BigFrame.wpList_want hg fun _ hK => wp_storeV ty x y ho g hx V hy T V0 hc hT (hK _ _ h)
theorem wpList_storeNew (hg : Region.wanted o (yielded ops a.tmps) = true) (ty : TypeId) (x y : Operand) (ho : o.op = .store ty x y) (V V0 : Array Value) (T : TypeId) (hx : a.eval x = .pointer (some ⟨w.heap.size, 0, none⟩)) (hy : a.eval y = .agg V) (hT : Hid (Many P ty V.size ∧ V0.size = V.size ∧ ∀ v ∈ V, v.oneCell' = true))
 (h : wpList P ops Q rest (a.put o.dst undef) (w.alloc (.cells V T))) : wpList P ops Q (o :: rest) a (w.alloc (.cells V0 T)) := by
 refine wpList_storeV hg ty x y ho w.heap.size hx V hy T V0 (rowA_new w T V0) hT ?_
 rw [World.setRow_alloc_new]
 exact h
end
end Go.Proofs.YtannifhcjcbkcaaGreatDoor

namespace Go.Proofs.YtannifhcjcbkcaaGreatDoor
open Go.RowKit Limb
set_option linter.unusedVariables false
def OwnR (w : World) (B : Nat) (e : TypeId) (sz : Nat) (A : Option Addr) (n c : Nat) (xs : List Value) : Prop := w.ownsRow B e sz (.slice A n c) n xs
def Elem (P : Program) (t e : TypeId) (sz : Nat) : Prop := ∃ i z, P.underlying t = some (.slice e) ∧ P.info? e = some i ∧ i.zero = some z ∧ i.size = sz ∧ z.cells.size = sz ∧ 0 < sz ∧ i.bytes ≤ 1000
theorem elem_of {P : Program} {t e : TypeId} {sz b : Nat} {v : Value} (h : P.underlying t = some (.slice e)) (hi : (P.info? e).map (fun i => (i.zero, i.size, i.bytes)) = some (some v, sz, b)) (hz : v.cells.size = sz) (h0 : 0 < sz) (hb : b ≤ 1000) : Elem P t e sz := by
 cases hq : P.info? e with
 | none => simp [hq] at hi
 | some i =>
  simp [hq] at hi
  exact ⟨i, v, h, hq, hi.1, hi.2.1, hz, h0, by omega⟩
section
variable {w w' : World} {B : Nat} {e : TypeId} {sz n c : Nat} {A : Option Addr} {xs : List Value}
theorem OwnR.nil (w : World) (B : Nat) (e : TypeId) (sz : Nat) : OwnR w B e sz none 0 0 [] := World.ownsRow_nil w B e sz
theorem OwnR.len (h : OwnR w B e sz A n c xs) : xs.length = n * sz := h.1
theorem OwnR.lt (h : OwnR w B e sz A n c xs) : ∀ k, Value.ownBlock (.slice A n c) = some k → B ≤ k ∧ k < w.heap.size := World.ownsRow.lt h
theorem shape_row {v : Value} (h : w.ownsRow B e sz v n xs) : ∃ A c, v = .slice A n c ∧ OwnR w B e sz A n c xs := by
 rcases h.2 with ⟨rfl, rfl⟩ | ⟨g, cap, cur, rfl, _⟩
 · exact ⟨none, 0, rfl, h⟩
 · exact ⟨some ⟨g, 0, none⟩, cap, rfl, h⟩
theorem OwnR.cells (h : OwnR w B e sz A n c xs) (hn : 0 < n) : ∃ g, A = some ⟨g, 0, none⟩ ∧ B ≤ g ∧ g < w.heap.size ∧ n ≤ c ∧ c ≤ maxLen ∧ ∀ j u, xs[j]? = some u → w.cell? ⟨g, j, none⟩ = some u := by
 rcases h.2 with ⟨hv, h0⟩ | ⟨g, cap, cur, hv, hB, hg, hnc, hcm, hcs, ht⟩
 · omega
 · injection hv with h1 h2 h3
   subst h1; subst h3
   refine ⟨g, rfl, hB, (Array.getElem?_eq_some_iff.1 hg).1, hnc, hcm, fun j u hu => ?_⟩
   rw [cell_of_row w g j cur e (0, 0) hg]
   rw [← ht] at hu
   have hj : j < n * sz := by
    rcases Nat.lt_or_ge j (n * sz) with h1 | h1
    · exact h1
    · rw [List.getElem?_eq_none (by rw [List.length_take]; omega)] at hu; cases hu
   rw [List.getElem?_take_of_lt hj] at hu
   simpa using hu
theorem OwnR.below (h : OwnR w B e sz A n c xs) (hb : Below w.heap.size w w') : OwnR w' B e sz A n c xs := by
 refine ⟨h.1, ?_⟩
 rcases h.2 with h1 | ⟨g, cap, cur, hv, hB, hg, r⟩
 · exact .inl h1
 · exact .inr ⟨g, cap, cur, hv, hB, (hb.block g (Array.getElem?_eq_some_iff.1 hg).1).trans hg, r⟩
theorem RowA.grown {g : Nat} {T : TypeId} {V : Array Value} {o : Option Nat} (h : RowA w g T V) (hg : w.grownBy w' o) (hne : o ≠ some g) : RowA w' g T V := (hg.block g h.lt (fun e => hne e.symm)).trans h
theorem OwnR.apart {g : Nat} {T : TypeId} {V : Array Value} (h : OwnR w B e sz A n c xs) (hr : RowA w g T V) (hg : g < B) : Value.ownBlock (.slice A n c) ≠ some g := fun e2 => by have := (h.lt g e2).1; omega
theorem below_append {C : Nat} {w0 : World} (hb : Below C w0 w) (hC : C ≤ B) (hB : B ≤ w.heap.size) (h : OwnR w B e sz A n c xs) (hg : w.grownBy w' (Value.ownBlock (.slice A n c))) : Below C w0 w' :=
 hb.grown hg (by omega) (fun k hk => by have := (h.lt k hk).1; omega)
end
section
variable {P : Program} {ops : Array Oper} {rest : List Oper} {o : Oper} {a : Act} {w : World} {K : Act → World → Prop} {Q : Exit → Act → World → Prop}
theorem wp_append_one (s x : Operand) (t : TypeId) (ho : o.op = .call { callee := .builtin .append, args := #[s, x], argTypes := #[t, t] })
 (B : Nat) (e : TypeId) (sz : Nat) (ht : Elem P t e sz) (A : Option Addr) (n c : Nat) (xs : List Value) (hs : a.eval s = .slice A n c) (hown : Hid (OwnR w B e sz A n c xs))
 (g : Nat) (hx : a.eval x = .slice (some ⟨g, 0, none⟩) 1 1) (T : TypeId) (V : Array Value) (hy : Hid (RowA w g T V ∧ V.size = sz ∧ ∀ v ∈ V, v.oneCell' = true)) (hb : Hid (n ≤ 1000000 ∧ B ≤ w.heap.size))
 (h : ∀ A2 c2 w', Hid (OwnR w' B e sz A2 (n + 1) c2 (xs ++ V.toList)) → Hid (w.grownBy w' (Value.ownBlock (.slice A n c))) → K (a.put o.dst (.slice A2 (n + 1) c2)) w') : o.wp P a w K Q := by
 obtain ⟨i, z, h1, h2, h3, h4, h5, h6, h7⟩ := ht
 obtain ⟨y1, y2, y3⟩ := hy.out
 obtain ⟨b1, b2⟩ := hb.out
 refine wp_append_own w s x t ho B e i z sz i.bytes h1 h2 h3 h4 rfl h5 h6 (.slice A n c) n xs hs hown.out ⟨g, 0, none⟩ 1 1 V.toList hx (by simp [y2]) ?_ (fun u hu => y3 u (by simpa using hu)) (by unfold maxLen; omega) ?_ b2 ?_
 · intro j u hu
   rw [Addr.add_mid, Nat.zero_add]
   exact y1.cell (by simpa using hu)
 · exact Nat.le_trans (Nat.mul_le_mul (show n + 1 ≤ 1000001 by omega) h7) (by decide)
 · intro v' w' hown' hg _
   obtain ⟨A2, c2, rfl, how⟩ := shape_row hown'
   exact h A2 c2 w' how hg
theorem wpList_append_one (hgd : o.guard = none) (s x : Operand) (t : TypeId) (ho : o.op = .call { callee := .builtin .append, args := #[s, x], argTypes := #[t, t] })
 (B : Nat) (e : TypeId) (sz : Nat) (ht : Elem P t e sz) (A : Option Addr) (n c : Nat) (xs : List Value) (hs : a.eval s = .slice A n c) (hown : Hid (OwnR w B e sz A n c xs))
 (g : Nat) (hx : a.eval x = .slice (some ⟨g, 0, none⟩) 1 1) (T : TypeId) (V : Array Value) (hy : Hid (RowA w g T V ∧ V.size = sz ∧ ∀ v ∈ V, v.oneCell' = true)) (hb : Hid (n ≤ 1000000 ∧ B ≤ w.heap.size))
 (h : ∀ A2 c2 w', Hid (OwnR w' B e sz A2 (n + 1) c2 (xs ++ V.toList)) → Hid (w.grownBy w' (Value.ownBlock (.slice A n c))) → wpList P ops Q rest (a.put o.dst (.slice A2 (n + 1) c2)) w') : wpList P ops Q (o :: rest) a w :=
 wpList_plain hgd fun _ hK => wp_append_one s x t ho B e sz ht A n c xs hs hown g hx T V hy hb fun A2 c2 w' h1 h2 => hK _ _ (h A2 c2 w' h1 h2)
end
end Go.Proofs.YtannifhcjcbkcaaGreatDoor

namespace Go.Proofs.YtannifhcjcbkcaaGreatDoor
open Go.RowKit Limb
set_option linter.unusedVariables false
abbrev fltC (e at0 : Int) : Array Value := #[.int .i64 e, .int .i64 at0]
theorem sizeF : (Tryz.prog.info? 29).map (·.size) = some 2 := by kernel_rfl
theorem manyF (e a : Int) : Many Tryz.prog 29 (fltC e a).size := ⟨sizeF, _, Tryz.underlying29, rfl⟩
theorem fitsF (e a : Int) : Many Tryz.prog 29 (fltC e a).size ∧ (fltC 0 0).size = (fltC e a).size ∧ ∀ v ∈ fltC e a, v.oneCell' = true := ⟨manyF e a, rfl, by simp [Value.oneCell']⟩
theorem results_mixed2 {P : Program} {fn : Func} {p q : Tmp} {ty : TypeId} (h : fn.results = #[.tmp q, .cell p ty]) (tmps : Array Value) (w : World) (g : Nat) (t : TypeId) (cs : Array Value) (fr : Nat × Nat) (d : TypeDesc) (v : Value)
 (hp : tmps.getD p undef = .pointer (some ⟨g, 0, none⟩)) (hq : tmps.getD q undef = v) (hg : w.heap[g]? = some (.cells cs t fr))
 (hu : P.underlying ty = some d) (hd : (match d with | .struct _ | .array _ _ => true | _ => false) = true) (hi : (P.info? ty).map (·.size) = some cs.size) :
 (results fn tmps).run P w = .ok (.tuple #[v, .agg cs]) w := by
 have hp' : tmps[p]?.getD undef = .pointer (some ⟨g, 0, none⟩) := by simpa using hp
 have hq' : tmps[q]?.getD undef = v := by simpa using hq
 simp [results, h, hp', hq', asAddr, run_loadVar_row w g t ty cs fr d hg hu hd hi]
end Go.Proofs.YtannifhcjcbkcaaGreatDoor

namespace Go.Proofs.YtannifhcjcbkcaaGreatDoor
open Go.RowKit Limb
set_option linter.unusedVariables false
abbrev ndC (k a b n : Int) (t u : ByteArray) (p : Int) : Array Value := #[.int .i64 k, .int .i64 a, .int .i64 b, .int .i64 n, .string t, .string u, .int .i64 p]
def ndV (x : Nd) : Array Value := ndC x.k x.a x.b x.n x.t x.u x.p
abbrev zN : Array Value := #[.int .i64 0, .int .i64 0, .int .i64 0, .int .i64 0, .string ⟨#[]⟩, .string ⟨#[]⟩, .int .i64 0]
def zNd : Nd := ⟨0, 0, 0, 0, ⟨#[]⟩, ⟨#[]⟩, 0⟩
theorem size_ndV (x : Nd) : (ndV x).size = 7 := rfl
theorem ndV_one (x : Nd) : ∀ v ∈ ndV x, v.oneCell' = true := by simp [ndV, Value.oneCell']
def ndCells (ts : List Nd) : List Value := ts.flatMap fun x => (ndV x).toList
theorem ndCells_app (a b : List Nd) : ndCells (a ++ b) = ndCells a ++ ndCells b := by simp [ndCells]
theorem ndCells_snoc (ts : List Nd) (x : Nd) : ndCells (ts ++ [x]) = ndCells ts ++ (ndV x).toList := by simp [ndCells]
theorem len_ndCells (ts : List Nd) : (ndCells ts).length = ts.length * 7 := by
 induction ts with
 | nil => rfl
 | cons x ts ih => show ((ndV x).toList ++ ndCells ts).length = _; rw [List.length_append, ih]; simp [ndV]; omega
theorem ndCells_at : ∀ {ts : List Nd} {i : Nat} {x : Nd}, ts[i]? = some x → ∀ j v, (ndV x)[j]? = some v → (ndCells ts)[i * 7 + j]? = some v
 | [], i, x, h, _, _, _ => by simp at h
 | y :: ts, 0, x, h, j, v, hj => by
  obtain rfl : y = x := by simpa using h
  have hl : j < 7 := by
   rcases Nat.lt_or_ge j 7 with h1 | h1
   · exact h1
   · rw [Array.getElem?_eq_none (by rw [size_ndV]; exact h1)] at hj; cases hj
  show ((ndV y).toList ++ ndCells ts)[0 * 7 + j]? = some v
  rw [Nat.zero_mul, Nat.zero_add, List.getElem?_append_left (by simpa [ndV] using hl)]
  simpa using hj
 | y :: ts, i + 1, x, h, j, v, hj => by
  have := ndCells_at (ts := ts) (i := i) (x := x) (by simpa using h) j v hj
  show ((ndV y).toList ++ ndCells ts)[(i + 1) * 7 + j]? = some v
  rw [List.getElem?_append_right (by simp [ndV]; omega), show (i + 1) * 7 + j - (ndV y).toList.length = i * 7 + j by simp [ndV]; omega]
  exact this
theorem ndCells_one (ts : List Nd) : ∀ v ∈ ndCells ts, v.oneCell' = true := by
 intro v hv
 unfold ndCells at hv
 obtain ⟨x, _, hx⟩ := List.mem_flatMap.1 hv
 exact ndV_one x v (by simpa using hx)
theorem nds_elem : Elem Tryz.prog 33 51 7 := elem_of Tryz.underlying33 (v := .agg zN) (b := 72) (by kernel_rfl) rfl (by decide) (by decide)
theorem sizeNd : (Tryz.prog.info? 51).map (·.size) = some 7 := by kernel_rfl
theorem manyNd (k a b n : Int) (t u : ByteArray) (p : Int) : Many Tryz.prog 51 (ndC k a b n t u p).size := ⟨sizeNd, _, Tryz.underlying51, rfl⟩
theorem manyN (x : Nd) : Many Tryz.prog 51 (ndV x).size := manyNd _ _ _ _ _ _ _
theorem fitsNd (x y : Nd) : Many Tryz.prog 51 (ndV x).size ∧ (ndV y).size = (ndV x).size ∧ ∀ v ∈ ndV x, v.oneCell' = true := ⟨manyN x, rfl, ndV_one x⟩
def TreR (w : World) (A : Option Addr) (n c : Nat) (ts : List Nd) : Prop := n = ts.length ∧ n ≤ c ∧ c ≤ maxLen ∧ (0 < n → ∃ g o, A = some ⟨g, o, none⟩ ∧ g < w.heap.size ∧ ∀ i x, ts[i]? = some x → InV w g (o + i * 7) (ndV x))
section
variable {w w' : World} {A : Option Addr} {n c : Nat} {ts : List Nd}
theorem TreR.below (h : TreR w A n c ts) (hb : Below w.heap.size w w') : TreR w' A n c ts := by
 obtain ⟨h1, h2, h3, h4⟩ := h
 refine ⟨h1, h2, h3, fun h0 => ?_⟩
 obtain ⟨g, o, e, hg, hc⟩ := h4 h0
 exact ⟨g, o, e, Nat.lt_of_lt_of_le hg hb.size, fun i x hx => (hc i x hx).below hg hb⟩
theorem TreR.at (h : TreR w A n c ts) {i : Nat} {x : Nd} (hi : ts[i]? = some x) : ∃ g o, A = some ⟨g, o, none⟩ ∧ g < w.heap.size ∧ InV w g (o + i * 7) (ndV x) := by
 obtain ⟨h1, h2, h3, h4⟩ := h
 obtain ⟨g, o, e, hg, hc⟩ := h4 (by have := (List.getElem?_eq_some_iff.1 hi).1; omega)
 exact ⟨g, o, e, hg, hc i x hi⟩
theorem TreR.len (h : TreR w A n c ts) : n = ts.length := h.1
theorem TreR.nil (w : World) {A : Option Addr} {c : Nat} (hc : c ≤ maxLen) : TreR w A 0 c [] := ⟨rfl, Nat.zero_le _, hc, fun h => absurd h (by omega)⟩
theorem TreR.take (h : TreR w A n c ts) {m : Nat} (hm : m ≤ n) : TreR w A m c (ts.take m) := by
 obtain ⟨h1, h2, h3, h4⟩ := h
 refine ⟨by rw [List.length_take]; omega, by omega, h3, fun h0 => ?_⟩
 obtain ⟨g, o, e, hg, hc⟩ := h4 (by omega)
 refine ⟨g, o, e, hg, fun i x hx => hc i x ?_⟩
 rw [List.getElem?_take] at hx
 split at hx
 · exact hx
 · cases hx
theorem OwnR.tree {B : Nat} (h : OwnR w B 51 7 A n c (ndCells ts)) (hn : n = ts.length) (hc : n ≤ c) (hm : c ≤ maxLen) : TreR w A n c ts := by
 refine ⟨hn, hc, hm, fun h0 => ?_⟩
 obtain ⟨g, e, _, h4, _, h5, h6⟩ := h.cells h0
 exact ⟨g, 0, e, h4, fun i x hx j v hj => by rw [Nat.zero_add]; exact h6 _ _ (ndCells_at hx j v hj)⟩
end
def eqN (x y : Nd) : Bool := sameN x y && decide (x.p = y.p)
set_option maxHeartbeats 2000000 in
theorem equal_nd {x y : Nd} {b : Bool} (h : eqN x y = b) (W : World) : (Op.equalIn 10000 51 (.agg (ndV x)) (.agg (ndV y))).run Tryz.prog W = .ok b W := by
 obtain ⟨k, a, b, n, t, u, p⟩ := x
 obtain ⟨k', a', b', n', t', u', p'⟩ := y
 unfold eqN sameN at h
 dsimp only at h
 subst h
 show (Op.equalIn 10000 51 (.agg (ndC k a b n t u p)) (.agg (ndC k' a' b' n' t' u' p'))).run Tryz.prog W = _
 by_cases h0 : k = k'
 · subst h0
   by_cases h1 : a = a'
   · subst h1
     by_cases h2 : b = b'
     · subst h2
       by_cases h3 : n = n'
       · subst h3
         by_cases h4 : t = t'
         · subst h4
           by_cases h5 : u = u'
           · subst h5
             by_cases h6 : p = p'
             · subst h6
               have : (Op.equalIn 10000 51 (.agg (ndC k a b n t u p)) (.agg (ndC k a b n t u p))).run Tryz.prog W = .ok (decide (k = k) && decide (a = a) && decide (b = b) && decide (n = n) && decide (t = t) && decide (u = u) && decide (p = p)) W := by go_simp
               exact this
             · go_simp
           · have g5 : (u.toList == u'.toList) = false := by
              rw [beq_eq_false_iff_ne]
              intro e
              exact h5 (by rw [ByteArray.toList_eq, ByteArray.toList_eq] at e; exact ByteArray.ext (Array.toList_inj.1 e))
             go_simp
         · have g4 : (t.toList == t'.toList) = false := by
            rw [beq_eq_false_iff_ne]
            intro e
            exact h4 (by rw [ByteArray.toList_eq, ByteArray.toList_eq] at e; exact ByteArray.ext (Array.toList_inj.1 e))
           go_simp
       · go_simp
     · go_simp
   · go_simp
 · go_simp
end Go.Proofs.YtannifhcjcbkcaaGreatDoor

namespace Go.Proofs.YtannifhcjcbkcaaGreatDoor
open Go.RowKit Limb
set_option linter.unusedVariables false
def dAt : List (Option Tmp) → Nat → Option Tmp
 | [], _ => none
 | d :: _, 0 => d
 | _ :: r, k + 1 => dAt r k
def slotV (d : Option Tmp) (a : Act) : Value := match d with
 | some t => a.eval (.tmp t)
 | none => undef
section
variable {P : Program} {Q : Exit → Act → World → Prop}
def okAtR (ops : Array Oper) (m : Nat) (ds : List (Option Tmp)) (N : Nat) (i : Nat) : Bool :=
 match ops[i]? with
 | none => false
 | some o => o.dst == dAt ds i && (match dAt ds i with | some d => decide (d < N) | none => true) && o.guard.isNone && isPlain o.op && (afters ops i).all (fun e => decide (e < i)) &&
  (List.range m).all (fun k => k == i || (dAt ds i).isNone || dAt ds k != dAt ds i) &&
  o.op.operands.toList.all (fun x => match x with
   | .tmp t => (List.range m).all fun k => dAt ds k != some t || (afters ops i).contains k
   | _ => true)
theorem okAtR_spec {ops : Array Oper} {m : Nat} {ds : List (Option Tmp)} {N i : Nat} (h : okAtR ops m ds N i = true) :
 ∃ o, ops[i]? = some o ∧ o.dst = dAt ds i ∧ (∀ d, dAt ds i = some d → d < N) ∧ o.guard = none ∧ (∀ cs b, o.op ≠ .select cs b) ∧ (∀ e ∈ afters ops i, e < i) ∧
  (∀ k, k < m → k ≠ i → ∀ d, dAt ds i = some d → dAt ds k ≠ some d) ∧ (∀ x ∈ o.op.operands, ∀ t, x = .tmp t → ∀ k, k < m → dAt ds k = some t → k ∈ afters ops i) := by
 unfold okAtR at h
 cases ho : ops[i]? with
 | none => rw [ho] at h; cases h
 | some o =>
  rw [ho] at h
  simp only [Bool.and_eq_true, beq_iff_eq, decide_eq_true_eq, List.all_eq_true, Bool.or_eq_true, bne_iff_ne, List.mem_range, Option.isNone_iff_eq_none] at h
  obtain ⟨⟨⟨⟨⟨⟨h1, h3⟩, h4⟩, h5⟩, h6⟩, h7⟩, h8⟩ := h
  refine ⟨o, rfl, h1, fun d hd => ?_, h4, ?_, h6, fun k hk hne d hd hkd => ?_, ?_⟩
  · rw [hd] at h3; simpa using h3
  · intro cs b he
    rw [he] at h5
    cases h5
  · rcases h7 k hk with (h9 | h9) | h9
    · exact hne h9
    · rw [hd] at h9; cases h9
    · exact h9 (hkd.trans hd.symm)
  · rintro x hx t rfl k hk hd
    have := h8 _ (by simpa using hx)
    simp only [List.all_eq_true, List.mem_range, Bool.or_eq_true, bne_iff_ne, List.contains_iff_mem] at this
    exact (this k hk).resolve_left fun h => h hd
def FreeStepR (P : Program) (Q : Exit → Act → World → Prop) (ops : Array Oper) (ds : List (Option Tmp)) (aF : (Nat → Value) → Act) (R : World → World → Prop) (S : World → Prop) (Φ : Nat → Value → World → Prop) (i : Nat) (o : Oper) : Prop :=
 ∀ (vals : Nat → Value) (w : World), S w → (∀ e ∈ afters ops i, Φ e (vals e) w) → ∀ K : Act → World → Prop,
  (∀ a' w', a'.defers = (aF vals).defers → R w w' → Φ i (slotV (dAt ds i) a') w' → K a' w') → o.wp P (aF vals) w K Q
theorem region_freeR {id : Nat} {a : Act} {w : World} {os : List Oper} (m : Nat) (ds : List (Option Tmp)) (aF : (Nat → Value) → Act) (R : World → World → Prop) (S : World → Prop) (Φ : Nat → Value → World → Prop)
 (hm : P.follows .mixedOrders = true)
 (haF : ∀ vals, fillAll (dAt ds) vals a m = aF vals)
 (hr : os.length = m)
 (hok : (List.range m).all (okAtR os.toArray m ds a.tmps.size) = true)
 (hQ : ∀ c (t t' : Array Value) (d : List Deferred) w, Q (.panic c) ⟨t, d⟩ w → Q (.panic c) ⟨t', d⟩ w)
 (hSb : ∀ w w', R w w' → S w → S w')
 (hΦb : ∀ k v w w', R w w' → S w → Φ k v w → Φ k v w')
 (hS : S w.drew)
 (hop : AllAt (FreeStepR P Q os.toArray ds aF R S Φ) 0 os m)
 (hfin : ∀ (vals : Nat → Value) (w : World), S w → (∀ k, k < m → Φ k (vals k) w) → wpAny P .any os.toArray Q 0 (firsts m m) (aF vals) w) :
 (Code.region id os.toArray true).wp P Q a w := by
 generalize hops : os.toArray = ops at *
 have hsz0 : ops.size = m := by rw [← hops]; simpa using hr
 have hle : m ≤ ops.size := by omega
 replace hop : ∀ i, i < m → ∀ o, ops[i]? = some o → FreeStepR P Q ops ds aF R S Φ i o := fun i hi o ho => by
  have := hop.at i hi o (by rw [← hops] at ho; simpa using ho)
  rwa [Nat.zero_add] at this
 replace hfin : ∀ (vals : Nat → Value) (w : World), S w → (∀ k, k < m → Φ k (vals k) w) →
  ∀ l : Array Bool, l.size = ops.size → (∀ k, l.getD k false = decide (k < m)) → wpAny P .any ops Q (ops.size - m) l (aF vals) w := fun vals w h1 h2 l h4 h5 => by
  rw [firsts_eq (h4.trans hsz0) (by omega) h5, show ops.size - m = 0 by omega]
  exact hfin vals w h1 h2
 replace hQ : ∀ c (a a' : Act) w, a.defers = a'.defers → Q (.panic c) a w → Q (.panic c) a' w := by
  rintro c ⟨t, d⟩ ⟨t', d'⟩ w he h
  obtain rfl : d = d' := he
  exact hQ c t t' d w h
 refine wp_region_any hm ?_
 have hat : ∀ i, i < m → okAtR ops m ds a.tmps.size i = true := fun i hi => List.all_eq_true.1 hok i (List.mem_range.2 hi)
 have hfr : ∀ (l : Array Bool), l = Array.replicate ops.size false → ∀ k, l.getD k false = false := by
  rintro l rfl k
  simp only [Array.getD_eq_getD_getElem?, Array.getElem?_replicate]
  split <;> rfl
 let J : Array Bool → Act → World → Prop := fun l a' w' => (l.size = ops.size ∧ ∀ k, m ≤ k → l.getD k false = false) ∧ S w' ∧ (∀ k, k < m → l.getD k false = true → ∀ e ∈ afters ops k, l.getD e false = true) ∧
  ∃ vals, a' = fill (dAt ds) vals l a m ∧ (∀ k, k < m → l.getD k false = true → Φ k (vals k) w')
 have hz : ∀ j, j ≤ m → left (Array.replicate ops.size false) j = j := fun j => by
  induction j with
  | zero => exact fun _ => rfl
  | succ j ihj => exact fun h => by unfold left; rw [ihj (by omega), hfr _ rfl j]; rfl
 have key := wpAny_inv (P := P) (ops := ops) (Q := Q) (md := .any) m J (fun l a' w' hj => hj.1) hle (fun i o h1 ho e he hb => ?hback) (fun l a' w' i hj hi h1 => ?hstep) (fun l a' w' i hj hi h1 k hk => ?hwait) (fun l a' w' hj hall => ?hfin)
  m (Array.replicate ops.size false) a w.drew (hz m (Nat.le_refl _)) ⟨⟨by simp, fun k _ => hfr _ rfl k⟩, hS, fun k _ h => (by rw [hfr _ rfl k] at h; cases h),
   fun _ => undef, (fill_none fun k _ => hfr _ rfl k).symm, fun k _ h => (by rw [hfr _ rfl k] at h; cases h)⟩
 · have e : ops.size - m + m = ops.size := by omega
   rw [e] at key
   exact key
 case hback =>
  obtain ⟨_, _, _, _, _, _, hlow, _, _⟩ := okAtR_spec (hat i h1)
  refine hlow e.on ?_
  unfold afters
  rw [ho]
  exact List.mem_map.2 ⟨e, List.mem_filter.2 ⟨by simpa using he, hb⟩, rfl⟩
 case hwait =>
  have hlt : i < ops.size := by
   obtain ⟨_, o, ho, _⟩ := mem_ready.1 hi
   exact (Array.getElem?_eq_some_iff.1 ho).1
  omega
 case hfin =>
  obtain ⟨⟨hs, hl⟩, hSw, _, vals, rfl, hv⟩ := hj
  rw [fill_all hall, haF]
  refine hfin vals w' hSw (fun k hk => hv k hk (hall k hk)) l hs fun k => ?_
  rcases Nat.lt_or_ge k m with h | h
  · rw [hall k h, decide_eq_true h]
  · rw [hl k h, decide_eq_false (by omega)]
 case hstep =>
  obtain ⟨⟨hs, hl⟩, hSw, hdn, vals, rfl, hv⟩ := hj
  obtain ⟨o, ho, hdst, hlt, hg, hsel, hlow, hdist, hops⟩ := okAtR_spec (hat i h1)
  have hu : l.getD i false = false := by
   have h2 := (mem_ready.1 hi).1
   have h3 : i < l.size := by omega
   simp only [Array.getD_eq_getD_getElem?] at h2 ⊢
   rw [Array.getElem?_eq_getElem h3] at h2 ⊢
   simpa using h2
  have hdep : ∀ e ∈ afters ops i, l.getD e false = true := fun e he => ready_after hi he
  have heval : ∀ x ∈ o.op.operands, (fill (dAt ds) vals l a m).eval x = (aF vals).eval x := fun x hx => by
   rw [← haF vals]
   exact fill_eval fun k hk hk2 d hd hxd => by
    rw [hdep k (hops x hx d hxd k hk hd)] at hk2
    cases hk2
  have hrun := hop i h1 o ho vals w' hSw (fun e he => hv e (by have := hlow e he; omega) (hdep e he))
   (fun a2 w2 => a2.defers = (aF vals).defers ∧ R w' w2 ∧ Φ i (slotV (dAt ds i) a2) w2)
   (fun a2 w2 h1 h2 h3 => ⟨h1, h2, h3⟩)
  have next : ∀ v v' w2, R w' w2 → Φ i v w2 → (dAt ds i ≠ none → v = v') →
   J (l.setIfInBounds i true) ((fill (dAt ds) vals l a m).put o.dst v') w2 := fun v v' w2 hb hphi hvv => by
   have hne : ∀ k, k ≠ i → (l.setIfInBounds i true).getD k false = l.getD k false := fun k hk => getD_other (Ne.symm hk) _
   refine ⟨⟨by simpa using hs, fun k hk => by rw [hne k (by omega)]; exact hl k hk⟩, hSb _ _ hb hSw, fun k hk hk2 e he => ?_, upd vals i v, ?_, fun k hk hk2 => ?_⟩
   · by_cases hki : k = i
     · subst hki
       rw [hne e (by have := hlow e he; omega)]
       exact hdep e he
     · rw [hne k hki] at hk2
       by_cases hei : e = i
       · subst hei
         exact getD_same (by omega) _
       · rw [hne e hei]
         exact hdn k hk hk2 e he
   · rw [hdst]
     have h4 := fill_set (D := dAt ds) (vals := vals) (l := l) (a := a) (i := i) (v := v) (by omega) hu h1 fun j hj hji d hd hdi2 => hdist j hj hji d hdi2 hd
     rw [← h4]
     cases hd : dAt ds i with
     | none => rfl
     | some d => rw [hvv (by rw [hd]; simp)]
   · by_cases hki : k = i
     · subst hki
       rw [show upd vals k v k = v from if_pos rfl]
       exact hphi
     · rw [hne k hki] at hk2
       rw [show upd vals i v k = vals k from if_neg hki]
       exact hΦb _ _ _ _ hb hSw (hv k hk hk2)
  unfold wpOp
  rw [ho]
  simp only []
  rw [if_pos (by unfold Region.wanted; rw [hg])]
  refine .inl ?_
  unfold Oper.wp at hrun ⊢
  rw [execOp_congr o hsel heval]
  generalize (execOp (aF vals).eval o).run P w' = r at hrun ⊢
  have hdef : (aF vals).defers = (fill (dAt ds) vals l a m).defers := by rw [← haF vals, fillAll_defers, fill_defers]
  have hput : ∀ v, dAt ds i ≠ none → slotV (dAt ds i) ((aF vals).put o.dst v) = v := fun v hd => by
   rw [hdst]
   cases hq : dAt ds i with
   | none => exact absurd hq hd
   | some d => exact put_same _ _ _ (by rw [← haF vals, fillAll_size]; exact hlt d hq)
  cases r with
  | ok n w2 =>
   cases n <;> simp only [Oper.upon] at hrun ⊢
   case value v => exact next _ _ _ hrun.2.1 hrun.2.2 (hput v)
   case skip => exact next _ _ _ hrun.2.1 hrun.2.2 (hput _)
   case defer d =>
    exfalso
    have := hrun.1
    rw [put_defers2] at this
    have := congrArg List.length this
    simp at this
   case enter f args =>
    refine Calls.mono hrun fun e w3 he => ?_
    cases e with
    | returned v => simp only at he ⊢; exact next _ _ _ he.2.1 he.2.2 (hput v)
    | panicked c => exact hQ _ _ _ _ hdef he
    | outgrown => exact he
   case row r args =>
    refine Rows.mono hrun fun v w3 he => ?_
    exact next _ _ _ he.2.1 he.2.2 (hput v)
  | halt x w2 =>
   cases x <;> simp only [Oper.upon] at hrun ⊢ <;> exact hQ _ _ _ _ hdef hrun
end
/-! Stores of single cells into blocks of the call's own: rows: the block, what it held, what it will hold. -/
def StR (T : TypeId) (rows : List (Nat × Array Value × Array Value)) (wx wy : World) : Prop :=
 wy.os = wx.os ∧ wy.tape = wx.tape ∧ wy.output = wx.output ∧ wx.heap.size ≤ wy.heap.size ∧ (∀ g, (∀ r ∈ rows, r.1 ≠ g) → wy.heap[g]? = wx.heap[g]?) ∧
  ∀ r ∈ rows, ∀ V, RowA wx r.1 T V → RowA wy r.1 T V ∨ RowA wy r.1 T r.2.2
def StS (T : TypeId) (rows : List (Nat × Array Value × Array Value)) (w0 wS wx : World) : Prop :=
 Below w0.heap.size w0 wx ∧ (∀ r ∈ rows, w0.heap.size ≤ r.1) ∧ (∀ g, (∀ r ∈ rows, r.1 ≠ g) → wx.heap[g]? = wS.heap[g]?) ∧ ∀ r ∈ rows, RowA wx r.1 T r.2.1 ∨ RowA wx r.1 T r.2.2
section
variable {T : TypeId} {rows : List (Nat × Array Value × Array Value)} {w0 wS wx wy : World}
theorem StR.refl (wx : World) : StR T rows wx wx := ⟨rfl, rfl, rfl, Nat.le_refl _, fun _ _ => rfl, fun _ _ _ h => .inl h⟩
theorem StS.free (h : StS T rows w0 wS wx) {r : Nat × Array Value × Array Value} (hr : r ∈ rows) (k : Nat) : wx.frozen? ⟨r.1, k, none⟩ = false := by
 rcases h.2.2.2 r hr with h3 | h3 <;> exact h3.free k
end
end Go.Proofs.YtannifhcjcbkcaaGreatDoor

namespace Go.Proofs.YtannifhcjcbkcaaGreatDoor
open Go.RowKit Limb
set_option linter.unusedVariables false
abbrev tkC (k : Int) (s : ByteArray) (a : Int) : Array Value := #[.int .i64 k, .string s, .int .i64 a]
def tkV (t : Tk) : Array Value := tkC (t.1 : Int) (strOf t.2.1) (t.2.2 : Int)
def tkCells (ts : List Tk) : List Value := ts.flatMap fun t => (tkV t).toList
theorem tkCells_snoc (ts : List Tk) (t : Tk) : tkCells (ts ++ [t]) = tkCells ts ++ (tkV t).toList := by simp [tkCells]
theorem tkCells_at : ∀ {ts : List Tk} {i : Nat} {t : Tk}, ts[i]? = some t → ∀ j v, (tkV t)[j]? = some v → (tkCells ts)[i * 3 + j]? = some v
 | [], i, t, h, _, _, _ => by simp at h
 | u :: ts, 0, t, h, j, v, hj => by
  obtain rfl : u = t := by simpa using h
  have hl : j < 3 := by
   rcases Nat.lt_or_ge j 3 with h1 | h1
   · exact h1
   · simp [tkV, Array.getElem?_eq_none (show (#[Value.int .i64 (u.1 : Int), .string (strOf u.2.1), .int .i64 (u.2.2 : Int)] : Array Value).size ≤ j from h1)] at hj
  show ((tkV u).toList ++ tkCells ts)[0 * 3 + j]? = some v
  rw [Nat.zero_mul, Nat.zero_add, List.getElem?_append_left (by simpa [tkV] using hl)]
  simpa using hj
 | u :: ts, i + 1, t, h, j, v, hj => by
  have := tkCells_at (ts := ts) (i := i) (t := t) (by simpa using h) j v hj
  show ((tkV u).toList ++ tkCells ts)[(i + 1) * 3 + j]? = some v
  rw [List.getElem?_append_right (by simp [tkV]; omega), show (i + 1) * 3 + j - (tkV u).toList.length = i * 3 + j by simp [tkV]; omega]
  exact this
theorem toks_elem : Elem Tryz.prog 69 109 3 := elem_of Tryz.underlying69 (v := .agg #[.int .i64 0, .string ⟨#[]⟩, .int .i64 0]) (b := 32) (by kernel_rfl) rfl (by decide) (by decide)
theorem sizeTk : (Tryz.prog.info? 109).map (·.size) = some 3 := by kernel_rfl
theorem manyTk (k : Int) (s : ByteArray) (a : Int) : Many Tryz.prog 109 (tkC k s a).size := ⟨sizeTk, _, Tryz.underlying109, rfl⟩
def TokR (w : World) (A : Option Addr) (n c : Nat) (ts : List Tk) : Prop := n = ts.length ∧ n ≤ c ∧ ∃ B, OwnR w B 109 3 A n c (tkCells ts)
theorem TokR.at {w : World} {A : Option Addr} {n c : Nat} {ts : List Tk} (h : TokR w A n c ts) {i : Nat} {t : Tk} (hi : ts[i]? = some t) : ∃ g, A = some ⟨g, 0, none⟩ ∧ g < w.heap.size ∧ c ≤ maxLen ∧ InV w g (i * 3) (tkV t) := by
 obtain ⟨h1, h2, B, h3⟩ := h
 have hlt : i < ts.length := (List.getElem?_eq_some_iff.1 hi).1
 obtain ⟨g, e, _, h4, _, h5, h6⟩ := h3.cells (by omega)
 exact ⟨g, e, h4, h5, fun j v hj => h6 _ _ (tkCells_at hi j v hj)⟩
theorem TokR.nil (w : World) : TokR w none 0 0 [] := ⟨rfl, Nat.le_refl _, 0, OwnR.nil _ _ _ _⟩
end Go.Proofs.YtannifhcjcbkcaaGreatDoor
