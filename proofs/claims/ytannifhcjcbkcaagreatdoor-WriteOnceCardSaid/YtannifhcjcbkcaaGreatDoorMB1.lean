/- Part 1 of the texts that the statements of this seat lean on: mathematics, and what functions answer, as contracts over memory; each part says its own conditions. -/
import Derived.Test.YtannifhcjcbkcaaGreatDoorMB0
import Derived.LoopIn
import Derived.Deep.WholeRow
import Derived.Deep.MidRow
import Derived.ProofKit
import Derived.OpenShut
import Derived.ShutString
import Derived.ChangeOld
set_option linter.unusedVariables false
set_option maxHeartbeats 8000000
namespace Go.Proofs.YtannifhcjcbkcaaGreatDoor
open Go.RowKit Limb
open Lib (hid)
structure Nd where
 k : Int
 a : Int
 b : Int
 n : Int
 t : ByteArray
 u : ByteArray
 p : Int
theorem Nd.ext' {x y : Nd} (h1 : x.k = y.k) (h2 : x.a = y.a) (h3 : x.b = y.b) (h4 : x.n = y.n) (h5 : x.t = y.t) (h6 : x.u = y.u) (h7 : x.p = y.p) : x = y := by
 cases x; cases y; simp only [Nd.mk.injEq]; exact ⟨h1, h2, h3, h4, h5, h6, h7⟩
def xjt (u : ByteArray) : Bool := decide (u.size ≤ 200) && (bytesOf u).all fun c => !(c == 93 || c == 10)
def xq8 (k : Int) : Bool := decide (3 ≤ k) && decide (k ≤ 6)
def oneK (k : Int) : Bool := decide (k = 7) || decide (k = 8)
def xjw (x : Nd) : Bool :=
 if x.k = 1 then decide (x.a = 0) && decide (x.b = 0) && decide (x.n = 0) && xq0 (bytesOf x.t) && xjt x.u
 else if x.k = 2 then decide (x.a = 0) && decide (x.b = 0) && decide (x.n = 0) && decide (x.u.size = 0) && xjn (bytesOf x.t)
 else if xq8 x.k then decide (x.n = 0) && decide (x.t.size = 0) && decide (x.u.size = 0)
 else if x.k = 7 then decide (x.b = 0) && decide (x.n = 0) && decide (x.t.size = 0) && decide (x.u.size = 0)
 else if x.k = 8 then decide (x.b = 0) && decide (x.t.size = 0) && decide (x.u.size = 0) && decide (-64 ≤ x.n) && decide (x.n ≤ 64)
 else false
def endN (o : List Nat) (c : Int) (m : Nat) : Option Nat := if 0 ≤ c ∧ c + 1 = (m : Int) then some (o.getD c.toNat 0) else none
def xwj (o : List Nat) (x : Nd) : Option Nat :=
 if x.k = 1 ∨ x.k = 2 then some o.length
 else if x.k = 7 ∨ x.k = 8 then endN o x.a o.length
 else match endN o x.b o.length with
  | none => none
  | some s => endN o x.a s
def xz6 (o : List Nat) (x : Nd) : Option Nat := if xjw x = true then xwj o x else none
def zjj (o : Option (List Nat)) : List Nd → Option (List Nat)
 | [] => o
 | x :: r => zjj (o.bind fun o => (xz6 o x).map fun s => o ++ [s]) r
def yzt (ts : List Nd) : Option (List Nat) := zjj (some []) ts
def xq5 (ts : List Nd) : Bool := decide (1 ≤ ts.length) && decide (ts.length ≤ 2000) && match yzt ts with
 | none => false
 | some o => decide (o.getD (ts.length - 1) 1 = 0)
theorem begF_none (ts : List Nd) : zjj none ts = none := by induction ts with
 | nil => rfl
 | cons x r ih => exact ih
theorem xwo (o : Option (List Nat)) (a b : List Nd) : zjj o (a ++ b) = zjj (zjj o a) b := by induction a generalizing o with
 | nil => rfl
 | cons x r ih => exact ih _
theorem xv5 {o q : List Nat} {x : Nd} {r : List Nd} (h : zjj (some o) (x :: r) = some q) : ∃ s, xz6 o x = some s ∧ zjj (some (o ++ [s])) r = some q := by
 unfold zjj at h;cases hs : xz6 o x with
 | none => rw [Option.bind_some, hs, Option.map_none, begF_none] at h; cases h
 | some s => rw [Option.bind_some, hs, Option.map_some] at h; exact ⟨s, rfl, h⟩
theorem yql {o : List Nat} {x : Nd} {s : Nat} (h : xz6 o x = some s) (r : List Nd) : zjj (some o) (x :: r) = zjj (some (o ++ [s])) r := by
 conv => lhs; unfold zjj
 rw [Option.bind_some, h, Option.map_some]
theorem begF_fall {o : List Nat} {x : Nd} (h : xz6 o x = none) (r : List Nd) : zjj (some o) (x :: r) = none := by
 conv => lhs; unfold zjj
 rw [Option.bind_some, h, Option.map_none, begF_none]
theorem begF_len {ts : List Nd} : ∀ {o q : List Nat}, zjj (some o) ts = some q → q.length = o.length + ts.length := by
 induction ts with
 | nil => intro o q h; injection h with h; rw [h]; rfl
 | cons x r ih =>
  intro o q h;obtain ⟨s, _, h2⟩ := xv5 h;rw [ih h2, List.length_append, List.length_cons]; simp; omega
theorem begT_len {ts : List Nd} {o : List Nat} (h : yzt ts = some o) : o.length = ts.length := by have := begF_len h; simpa using this
def Low (o : List Nat) : Prop := ∀ j, j < o.length → o.getD j 0 ≤ j
theorem Low.nil : Low [] := fun j h => by simp at h
theorem Low.le {o : List Nat} (h : Low o) (j : Nat) : o.getD j 0 ≤ j := by
 rcases Nat.lt_or_ge j o.length with h1 | h1
 · exact h j h1
 · rw [List.getD_eq_getElem?_getD, List.getElem?_eq_none h1]; exact Nat.zero_le _
theorem xzd {o : List Nat} {c : Int} {m s : Nat} (h : endN o c m = some s) : ∃ j : Nat, c = (j : Int) ∧ m = j + 1 ∧ s = o.getD j 0 := by
 unfold endN at h
 split at h
 · rename_i hc
   injection h with h
   exact ⟨c.toNat, by omega, by omega, h.symm⟩
 · cases h
theorem endN_of (o : List Nat) (j : Nat) : endN o (j : Int) (j + 1) = some (o.getD j 0) := by
 unfold endN;rw [if_pos ⟨by omega, by omega⟩];rfl
theorem startN_le {o : List Nat} (hl : Low o) {x : Nd} {s : Nat} (h : xwj o x = some s) : s ≤ o.length := by
 unfold xwj at h
 split at h
 · injection h with h; omega
 · split at h
   · obtain ⟨j, _, h1, rfl⟩ := xzd h;have := hl.le j; omega
   · cases hb : endN o x.b o.length with
     | none => rw [hb] at h; cases h
     | some t =>
      rw [hb] at h;obtain ⟨j, _, h1, rfl⟩ := xzd hb;obtain ⟨i, _, h2, rfl⟩ := xzd h;have := hl.le j; have := hl.le i; omega
theorem stepB_le {o : List Nat} (hl : Low o) {x : Nd} {s : Nat} (h : xz6 o x = some s) : s ≤ o.length := by
 unfold xz6 at h
 split at h
 · exact startN_le hl h
 · cases h
theorem ywp {α : Type} {o : List α} {s d : α} {j : Nat} (h : j < o.length) : (o ++ [s]).getD j d = o.getD j d := by
 simp [List.getD_eq_getElem?_getD, List.getElem?_append_left h]
theorem xj5 {α : Type} (o : List α) (s d : α) : (o ++ [s]).getD o.length d = s := by simp [List.getD_eq_getElem?_getD]
theorem Low.snoc {o : List Nat} (hl : Low o) {s : Nat} (h : s ≤ o.length) : Low (o ++ [s]) := by
 intro j hj;rw [List.length_append, List.length_singleton] at hj;rcases Nat.lt_or_ge j o.length with h1 | h1
 · rw [ywp h1]; exact hl.le j
 · obtain rfl : j = o.length := by omega
   rw [xj5]; exact h
theorem begF_low {ts : List Nd} : ∀ {o q : List Nat}, Low o → zjj (some o) ts = some q → Low q := by
 induction ts with
 | nil => intro o q hl h; injection h with h; exact h ▸ hl
 | cons x r ih => intro o q hl h; obtain ⟨s, h1, h2⟩ := xv5 h; exact ih (hl.snoc (stepB_le hl h1)) h2
theorem zqd {ts : List Nd} {o : List Nat} (h : yzt ts = some o) : Low o := begF_low Low.nil h
theorem begF_take {ts : List Nd} (n : Nat) : ∀ {o q : List Nat}, zjj (some o) ts = some q → zjj (some o) (ts.take n) = some (q.take (o.length + n)) := by
 induction ts generalizing n with
 | nil => intro o q h; injection h with h; subst h; rw [List.take_nil, List.take_of_length_le (by omega)]; rfl
 | cons x r ih =>
  intro o q h;cases n with
  | zero =>
   have hl := begF_len h;obtain ⟨s, h1, h2⟩ := xv5 h;rw [List.take_zero];show some o = _;have h3 := ih 0 h2;rw [List.take_zero] at h3;have h4 : o ++ [s] = q.take (o.length + 1) := by
    have : some (o ++ [s]) = some (q.take ((o ++ [s]).length + 0)) := h3;injection this with this
    rw [this]; simp
   have h5 := congrArg (List.take o.length) h4;rw [List.take_left, List.take_take] at h5;rw [show o.length + 0 = min o.length (o.length + 1) by omega, ← h5]
  | succ n =>
   obtain ⟨s, h1, h2⟩ := xv5 h;rw [List.take_succ_cons, yql h1, ih n h2];simp only [List.length_append, List.length_singleton];rw [show o.length + 1 + n = o.length + (n + 1) by omega]
theorem zji {ts : List Nd} {q : List Nat} (h : yzt ts = some q) (n : Nat) : yzt (ts.take n) = some (q.take n) := by
 have := begF_take n h
 simpa [yzt] using this
theorem begT_snoc {ts : List Nd} {o : List Nat} (h : yzt ts = some o) (x : Nd) : yzt (ts ++ [x]) = (xz6 o x).map fun s => o ++ [s] := by
 unfold yzt at h ⊢;rw [xwo, h];cases hs : xz6 o x with
 | none => rw [begF_fall hs]; rfl
 | some s => rw [yql hs]; rfl
theorem yvp {ts : List Nd} {i : Nat} {x : Nd} {o : List Nat} (hx : ts[i]? = some x) (h : yzt (ts.take i) = some o) (hs : xz6 o x = none) : yzt ts = none := by
 have e : ts = ts.take i ++ (x :: ts.drop (i + 1)) := by
  have hi := (List.getElem?_eq_some_iff.1 hx).1;have h2 : ts[i] = x := (List.getElem?_eq_some_iff.1 hx).2;rw [← h2, ← List.drop_eq_getElem_cons hi, List.take_append_drop]
 rw [e];unfold yzt at h ⊢;rw [xwo, h, begF_fall hs]
theorem begT_next {ts : List Nd} {i : Nat} {x : Nd} {o : List Nat} {s : Nat} (hx : ts[i]? = some x) (h : yzt (ts.take i) = some o) (hs : xz6 o x = some s) : yzt (ts.take (i + 1)) = some (o ++ [s]) := by
 have hi := (List.getElem?_eq_some_iff.1 hx).1;rw [List.take_add_one, hx, Option.toList_some, begT_snoc h, hs];rfl
theorem goodT_no {ts : List Nd} (h : yzt ts = none) : xq5 ts = false := by unfold xq5; rw [h, Bool.and_false]
theorem yve {ts : List Nd} {o : List Nat} (h : yzt ts = some o) (h1 : 1 ≤ ts.length) (h2 : ts.length ≤ 2000) : xq5 ts = decide (o.getD (ts.length - 1) 1 = 0) := by
 unfold xq5;rw [h, decide_eq_true h1, decide_eq_true h2];rfl
theorem goodT_empty {ts : List Nd} (h : ts.length < 1) : xq5 ts = false := by unfold xq5; rw [decide_eq_false (by omega)]; rfl
theorem goodT_long {ts : List Nd} (h : 2000 < ts.length) : xq5 ts = false := by unfold xq5; rw [decide_eq_false (show ¬ ts.length ≤ 2000 by omega), Bool.and_false]; rfl
theorem xz4 {ts : List Nd} (h : xq5 ts = true) : 1 ≤ ts.length ∧ ts.length ≤ 2000 ∧ ∃ o, yzt ts = some o ∧ o.length = ts.length ∧ Low o ∧ o.getD (ts.length - 1) 1 = 0 := by
 unfold xq5 at h;simp only [Bool.and_eq_true, decide_eq_true_eq] at h;obtain ⟨⟨h1, h2⟩, h3⟩ := h;cases hb : yzt ts with
 | none => rw [hb] at h3; cases h3
 | some o => rw [hb] at h3; exact ⟨h1, h2, o, rfl, begT_len hb, zqd hb, of_decide_eq_true h3⟩
theorem yzp {x : Nd} (h : xjw x = true) : x.k = 1 ∨ x.k = 2 ∨ xq8 x.k = true ∨ x.k = 7 ∨ x.k = 8 := by
 unfold xjw at h;by_cases h1 : x.k = 1
 · exact .inl h1
 · rw [if_neg h1] at h;by_cases h2 : x.k = 2
   · exact .inr (.inl h2)
   · rw [if_neg h2] at h;by_cases h3 : xq8 x.k = true
     · exact .inr (.inr (.inl h3))
     · rw [if_neg h3] at h;by_cases h7 : x.k = 7
       · exact .inr (.inr (.inr (.inl h7)))
       · rw [if_neg h7] at h;by_cases h8 : x.k = 8
         · exact .inr (.inr (.inr (.inr h8)))
         · rw [if_neg h8] at h; cases h
theorem twoK_iff {k : Int} : xq8 k = true ↔ 3 ≤ k ∧ k ≤ 6 := by unfold xq8; rw [Bool.and_eq_true, decide_eq_true_eq, decide_eq_true_eq]
theorem oneK_iff {k : Int} : oneK k = true ↔ k = 7 ∨ k = 8 := by unfold oneK; rw [Bool.or_eq_true, decide_eq_true_eq, decide_eq_true_eq]
inductive StepC (o : List Nat) (x : Nd) (s : Nat) : Prop where
 | leaf (hk : x.k = 1 ∨ x.k = 2) (hs : s = o.length) : StepC o x s
 | one (hk : oneK x.k = true) (j : Nat) (ha : x.a = (j : Int)) (hl : o.length = j + 1) (hs : s = o.getD j 0) : StepC o x s
 | two (hk : xq8 x.k = true) (j i : Nat) (hb : x.b = (j : Int)) (hl : o.length = j + 1) (ha : x.a = (i : Int)) (hi : o.getD j 0 = i + 1) (hs : s = o.getD i 0) : StepC o x s
theorem xvs {o : List Nat} {x : Nd} {s : Nat} (h : xz6 o x = some s) : xjw x = true ∧ StepC o x s := by
 unfold xz6 at h
 split at h
 · rename_i hf
   refine ⟨hf, ?_⟩;unfold xwj at h;rcases yzp hf with h1 | h1 | h1 | h1 | h1
   · rw [if_pos (.inl h1)] at h; injection h with h; exact .leaf (.inl h1) h.symm
   · rw [if_pos (.inr h1)] at h; injection h with h; exact .leaf (.inr h1) h.symm
   · have h2 := twoK_iff.1 h1;rw [if_neg (by omega), if_neg (by omega)] at h;cases hb : endN o x.b o.length with
     | none => rw [hb] at h; cases h
     | some t =>
      rw [hb] at h;obtain ⟨j, e1, e2, e3⟩ := xzd hb;obtain ⟨i, e4, e5, e6⟩ := xzd h;exact .two h1 j i e1 e2 e4 (by omega) e6
   · rw [if_neg (by omega), if_pos (.inl h1)] at h;obtain ⟨j, e1, e2, e3⟩ := xzd h;exact .one (oneK_iff.2 (.inl h1)) j e1 e2 e3
   · rw [if_neg (by omega), if_pos (.inr h1)] at h;obtain ⟨j, e1, e2, e3⟩ := xzd h;exact .one (oneK_iff.2 (.inr h1)) j e1 e2 e3
 · cases h
theorem yjl {o : List Nat} {x : Nd} (hf : xjw x = true) (hk : x.k = 1 ∨ x.k = 2) : xz6 o x = some o.length := by
 unfold xz6 xwj;rw [if_pos hf, if_pos hk]
theorem stepB_one {o : List Nat} {x : Nd} {j : Nat} (hf : xjw x = true) (hk : oneK x.k = true) (ha : x.a = (j : Int)) (hl : o.length = j + 1) : xz6 o x = some (o.getD j 0) := by
 have h := oneK_iff.1 hk;unfold xz6 xwj;rw [if_pos hf, if_neg (by omega), if_pos h, ha, hl, endN_of]
theorem stepB_two {o : List Nat} {x : Nd} {j i : Nat} (hf : xjw x = true) (hk : xq8 x.k = true) (hb : x.b = (j : Int)) (hl : o.length = j + 1) (ha : x.a = (i : Int)) (hi : o.getD j 0 = i + 1) : xz6 o x = some (o.getD i 0) := by
 have h := twoK_iff.1 hk;unfold xz6 xwj;rw [if_pos hf, if_neg (by omega), if_neg (by omega), hb, hl, endN_of, hi, ha];exact endN_of o i
/-! ### nodes moved -/
def xqj (d : Nat) (x : Nd) : Nd := if xq8 x.k = true then { x with a := x.a + d, b := x.b + d } else if oneK x.k = true then { x with a := x.a + d } else x
theorem shiftN_k (d : Nat) (x : Nd) : (xqj d x).k = x.k := by
 unfold xqj
 split
 · rfl
 · split <;> rfl
theorem xzu {d : Nat} {x : Nd} (h : xq8 x.k = true) : xqj d x = { x with a := x.a + d, b := x.b + d } := by unfold xqj; rw [if_pos h]
theorem xwm {k : Int} (h : oneK k = true) : xq8 k = false := by have := oneK_iff.1 h; rw [Bool.eq_false_iff]; intro e; have := twoK_iff.1 e; omega
theorem xzi {d : Nat} {x : Nd} (h : oneK x.k = true) : xqj d x = { x with a := x.a + d } := by unfold xqj; rw [if_neg (by rw [xwm h]; decide), if_pos h]
theorem xju {d : Nat} {x : Nd} (h : xq8 x.k = false) (h2 : oneK x.k = false) : xqj d x = x := by unfold xqj; rw [h, h2]; rfl
theorem yzf (x : Nd) : xqj 0 x = x := by
 unfold xqj
 split
 · exact Nd.ext' rfl (by simp) (by simp) rfl rfl rfl rfl
 · split
   · exact Nd.ext' rfl (by simp) rfl rfl rfl rfl rfl
   · rfl
theorem fits_shift {d : Nat} {x : Nd} (h : xjw x = true) : xjw (xqj d x) = true := by
 by_cases h1 : xq8 x.k = true
 · rw [xzu h1];have hk := twoK_iff.1 h1;unfold xjw at h ⊢;rw [if_neg (by omega), if_neg (by omega), if_pos h1] at h;rw [if_neg (by show ¬ x.k = 1; omega), if_neg (by show ¬ x.k = 2; omega), if_pos h1];exact h
 · by_cases h2 : oneK x.k = true
   · rw [xzi h2];have hk := oneK_iff.1 h2;unfold xjw at h ⊢;rw [if_neg (by omega), if_neg (by omega), if_neg h1] at h;rw [if_neg (by show ¬ x.k = 1; omega), if_neg (by show ¬ x.k = 2; omega), if_neg h1];exact h
   · rw [xju (by simpa using h1) (by simpa using h2)]; exact h
theorem xvf {α : Type} {a b : List α} {d : α} (j : Nat) : (a ++ b).getD (a.length + j) d = b.getD j d := by
 rw [List.getD_eq_getElem?_getD, List.getElem?_append_right (by omega), Nat.add_sub_cancel_left, List.getD_eq_getElem?_getD]
theorem xw0 {q : List Nat} {d j : Nat} (h : j < q.length) : (q.map (· + d)).getD j 0 = q.getD j 0 + d := by
 simp [List.getD_eq_getElem?_getD, h]
theorem step_shift {oa q : List Nat} {x : Nd} {s : Nat} (hq : Low q) (h : xz6 q x = some s) : xz6 (oa ++ q.map (· + oa.length)) (xqj oa.length x) = some (s + oa.length) := by
 obtain ⟨hf, hc⟩ := xvs h;have hlen : (oa ++ q.map (· + oa.length)).length = oa.length + q.length := by simp
 cases hc with
 | leaf hk hs =>
  have h1 : xq8 x.k = false := by rw [Bool.eq_false_iff]; intro e; have := twoK_iff.1 e; omega
  have h2 : oneK x.k = false := by rw [Bool.eq_false_iff]; intro e; have := oneK_iff.1 e; omega
  rw [xju h1 h2, yjl hf hk, hlen, hs, Nat.add_comm]
 | one hk j ha hl hs =>
  have hf2 := fits_shift (d := oa.length) hf;rw [xzi hk] at hf2 ⊢;rw [stepB_one (j := oa.length + j) hf2 hk (by show x.a + _ = _; omega) (by rw [hlen]; omega), xvf, xw0 (by omega), hs]
 | two hk j i hb hl ha hi hs =>
  have hf2 := fits_shift (d := oa.length) hf;rw [xzu hk] at hf2 ⊢;have hij : i < q.length := by have := hq.le j; omega
  rw [stepB_two (j := oa.length + j) (i := oa.length + i) hf2 hk (by show x.b + _ = _; omega) (by rw [hlen]; omega) (by show x.a + _ = _; omega) (by rw [xvf, xw0 (by omega), hi]; omega), xvf, xw0 hij, hs]
theorem begF_shift {us : List Nd} {oa : List Nat} : ∀ {q r : List Nat}, Low q → zjj (some q) us = some r → zjj (some (oa ++ q.map (· + oa.length))) (us.map (xqj oa.length)) = some (oa ++ r.map (· + oa.length)) := by
 induction us with
 | nil => intro q r _ h; injection h with h; subst h; rfl
 | cons x us ih =>
  intro q r hq h;obtain ⟨s, h1, h2⟩ := xv5 h;have h3 := ih (hq.snoc (stepB_le hq h1)) h2;rw [List.map_cons, yql (step_shift hq h1), ← h3, List.map_append, List.append_assoc];rfl
theorem begT_join {ts us : List Nd} {o q : List Nat} (h1 : yzt ts = some o) (h2 : yzt us = some q) : yzt (ts ++ us.map (xqj ts.length)) = some (o ++ q.map (· + ts.length)) := by
 have hl := begT_len h1;have h3 := begF_shift (oa := o) Low.nil h2;unfold yzt at h1 ⊢;rw [xwo, h1, ← hl]
 simpa using h3
/-! ### depths -/
def depS (d : List Nat) (x : Nd) : Nat := if xq8 x.k = true then 1 + max (d.getD x.a.toNat 0) (d.getD x.b.toNat 0) else if oneK x.k = true then 1 + d.getD x.a.toNat 0 else 1
def depF (d : List Nat) : List Nd → List Nat
 | [] => d
 | x :: r => depF (d ++ [depS d x]) r
def depT (ts : List Nd) : List Nat := depF [] ts
theorem zjd (d : List Nat) (a b : List Nd) : depF d (a ++ b) = depF (depF d a) b := by induction a generalizing d with
 | nil => rfl
 | cons x r ih => exact ih _
theorem depT_snoc (ts : List Nd) (x : Nd) : depT (ts ++ [x]) = depT ts ++ [depS (depT ts) x] := by unfold depT; rw [zjd]; rfl
theorem depF_len (ts : List Nd) : ∀ d : List Nat, (depF d ts).length = d.length + ts.length := by induction ts with
 | nil => intro d; rfl
 | cons x r ih => intro d; show (depF _ r).length = _; rw [ih, List.length_append, List.length_cons]; simp; omega
theorem yvm (ts : List Nd) : (depT ts).length = ts.length := by have := depF_len ts []; simpa [depT] using this
theorem dep_shift {da : List Nat} {o q : List Nat} {d : List Nat} {x : Nd} {s : Nat} (hq : Low q) (hl : q.length = d.length) (h : xz6 q x = some s) : depS (da ++ d) (xqj da.length x) = depS d x := by
 cases (xvs h).2 with
 | leaf hk _ =>
  have e1 : xq8 x.k = false := by rw [Bool.eq_false_iff]; intro e; have := twoK_iff.1 e; omega
  have e2 : oneK x.k = false := by rw [Bool.eq_false_iff]; intro e; have := oneK_iff.1 e; omega
  rw [xju e1 e2];unfold depS;rw [e1, e2]; rfl
 | one hk i ha hl2 _ =>
  rw [xzi hk];unfold depS;rw [if_neg (by show ¬ xq8 x.k = true; rw [xwm hk]; decide), if_pos (by exact hk), if_neg (by rw [xwm hk]; decide), if_pos hk];show 1 + (da ++ d).getD (x.a + _).toNat 0 = _;rw [ha, Int.toNat_natCast, show ((i : Int) + (da.length : Int)).toNat = da.length + i by omega, xvf]
 | two hk i j hb hl2 ha hi _ =>
  rw [xzu hk];unfold depS;rw [if_pos (by exact hk), if_pos hk];show 1 + max ((da ++ d).getD (x.a + _).toNat 0) ((da ++ d).getD (x.b + _).toNat 0) = _;rw [ha, hb, Int.toNat_natCast, Int.toNat_natCast, show ((i : Int) + (da.length : Int)).toNat = da.length + i by omega, show ((j : Int) + (da.length : Int)).toNat = da.length + j by omega, xvf, xvf]
theorem depF_shift {us : List Nd} {da : List Nat} : ∀ {q r d : List Nat}, Low q → q.length = d.length → zjj (some q) us = some r → depF (da ++ d) (us.map (xqj da.length)) = da ++ depF d us := by
 induction us with
 | nil => intro q r d _ _ h; rfl
 | cons x us ih =>
  intro q r d hq hl h;obtain ⟨s, h1, h2⟩ := xv5 h;have h3 := ih (d := d ++ [depS d x]) (hq.snoc (stepB_le hq h1)) (by rw [List.length_append, List.length_append, hl]; rfl) h2;rw [List.map_cons];show depF (da ++ d ++ [depS (da ++ d) (xqj da.length x)]) _ = _;rw [dep_shift (o := q) hq hl h1, List.append_assoc];exact h3
theorem depT_join {ts us : List Nd} {q : List Nat} (h2 : yzt us = some q) : depT (ts ++ us.map (xqj ts.length)) = depT ts ++ depT us := by
 have h := depF_shift (da := depT ts) (d := []) Low.nil rfl h2;rw [yvm, List.append_nil] at h;unfold depT at h ⊢;rw [zjd, h]
structure Lim where
 text : Nat
 deep : Nat
 nodes : Nat
 power : Nat
inductive PaR (α : Type) where
 | ok : α → List Tk → Nat → PaR α
 | bad : Nat → Nat → PaR α
def PaR.next {α β : Type} (r : PaR α) (f : α → List Tk → Nat → PaR β) : PaR β :=
 match r with
 | .ok a l n => f a l n
 | .bad e p => .bad e p
theorem PaR.next_ok {α β : Type} (a : α) (l : List Tk) (n : Nat) (f : α → List Tk → Nat → PaR β) : (PaR.ok a l n).next f = f a l n := rfl
theorem PaR.next_bad {α β : Type} (e p : Nat) (f : α → List Tk → Nat → PaR β) : (PaR.bad e p : PaR α).next f = .bad e p := rfl
def isT (kd : Nat) (tx : List Nat) (t : Tk) : Bool := decide (t.1 = kd) && (tx.isEmpty || decide (t.2.1 = tx))
def xws (en : Nat) : List Tk → Nat
 | [] => en
 | t :: _ => t.2.2
def xqp (kd : Nat) (tx : List Nat) : List Tk → Bool
 | [] => false
 | t :: _ => isT kd tx t
def xjr (en kd : Nat) (tx : List Nat) : List Tk → Nat → PaR Tk
 | [], _ => .bad 12 en
 | t :: r, n => if isT kd tx t = true then .ok t r n else .bad 12 t.2.2
def yz9 (en : Nat) : List Tk → Nat → PaR Tk
 | [], _ => .bad 12 en
 | t :: r, n => if t.1 = 1 ∧ xjn t.2.1 = true then .ok t r n else .bad 12 t.2.2
def numB (en : Nat) (s : List Nat) (l : List Tk) (n : Nat) : PaR (List Nat) :=
 (xjr en 2 [] l n).next fun t l2 n => if xqp 3 [47] l2 = true then (xjr en 2 [] l2.tail n).next fun u l3 n => .ok (s ++ t.2.1 ++ [47] ++ u.2.1) l3 n else .ok (s ++ t.2.1) l2 n
def numT (en : Nat) (l : List Tk) (n : Nat) : PaR (List Nat) := if xqp 3 [45] l = true then numB en [45] l.tail n else numB en [] l n
def digV (l : List Nat) : Nat := l.foldl (fun a d => a * 10 + (d - 48)) 0
def xvk (s : List Nat) (most : Nat) : Option Nat := if s.all xq2 = true ∧ 1 ≤ s.length ∧ s.length ≤ most then some (digV s) else none
def litN (s u : List Nat) (p : Nat) : List Nd := [⟨1, 0, 0, 0, strOf s, strOf u, p⟩]
def refN (s : List Nat) (p : Nat) : List Nd := [⟨2, 0, 0, 0, strOf s, ⟨#[]⟩, p⟩]
def xva (k j : Int) (t : List Nd) (p : Nat) : List Nd := t ++ [⟨k, (t.length : Int) - 1, 0, j, ⟨#[]⟩, ⟨#[]⟩, p⟩]
def xwf (k : Int) (t u : List Nd) (p : Nat) : List Nd := t ++ u.map (xqj t.length) ++ [⟨k, (t.length : Int) - 1, (t.length : Int) + (u.length : Int) - 1, 0, ⟨#[]⟩, ⟨#[]⟩, p⟩]
def xvb (L : Lim) (t : List Nd) (p : Nat) (l : List Tk) (n : Nat) : PaR (List Nd) := if L.nodes < n + 1 then .bad 2 p else .ok t l (n + 1)
abbrev Rdr := List Tk → Nat → PaR (List Nd)
def powB (L : Lim) (en : Nat) (t : List Nd) (pa : Nat) (sg : Bool) (l : List Tk) (n : Nat) : PaR (List Nd) :=
 (xjr en 2 [] l n).next fun x r n =>
   match xvk x.2.1 3 with
   | none => .bad 12 x.2.2
   | some k => if L.power < k then .bad 2 x.2.2 else xvb L (xva 8 (if sg = true then -(k : Int) else (k : Int)) t pa) pa r n
def yw1 (L : Lim) (en : Nat) (t : List Nd) (l : List Tk) (n : Nat) : PaR (List Nd) :=
 if xqp 3 [94] l = true then
  if xqp 3 [45] l.tail = true then powB L en t (xws en l) true l.tail.tail n else powB L en t (xws en l) false l.tail n
 else .ok t l n
def yqm (L : Lim) (en : Nat) (l : List Tk) (n : Nat) : PaR (List Nd) :=
 match l with
 | [] => .bad 12 en
 | x :: r =>
  if isT 2 [] x = true then
   match r with
   | [] => xvb L (litN x.2.1 [] x.2.2) x.2.2 [] n
   | y :: q => if isT 4 [] y = true then xvb L (litN x.2.1 y.2.1 x.2.2) x.2.2 q n else xvb L (litN x.2.1 [] x.2.2) x.2.2 (y :: q) n
  else if x.1 = 1 ∧ xjn x.2.1 = true then xvb L (refN x.2.1 x.2.2) x.2.2 r n
  else .bad 12 x.2.2
def xv4 (L : Lim) (f : Rdr) (op : Tk → Option Int) : Nat → List Nd → List Tk → Nat → PaR (List Nd)
 | 0, t, l, n => .ok t l n
 | _ + 1, t, [], n => .ok t [] n
 | g + 1, t, x :: r, n =>
  match op x with
  | none => .ok t (x :: r) n
  | some k => (f r n).next fun u r2 n2 => (xvb L (xwf k t u x.2.2) x.2.2 r2 n2).next fun t2 r3 n3 => xv4 L f op g t2 r3 n3
def mulO (x : Tk) : Option Int := if isT 3 [42] x = true then some 5 else if isT 3 [47] x = true then some 6 else none
def addO (x : Tk) : Option Int := if isT 3 [43] x = true then some 3 else if isT 3 [45] x = true then some 4 else none
def rowT (L : Lim) (f : Rdr) (op : Tk → Option Int) : Rdr := fun l n => (f l n).next fun t r n => xv4 L f op r.length t r n
def yq5 (L : Lim) (f : Rdr) : Rdr := rowT L f mulO
def yjw (L : Lim) (f : Rdr) : Rdr := rowT L (yq5 L f) addO
def zq9 (L : Lim) (en : Nat) (sub : Option Rdr) : Rdr := fun l n =>
 if xqp 3 [45] l = true then
  match sub with
  | none => .bad 2 (xws en l)
  | some f => (f l.tail n).next fun a r n => xvb L (xva 7 0 a (xws en l)) (xws en l) r n
 else if xqp 3 [40] l = true then
  match sub with
  | none => .bad 2 (xws en l)
  | some f => (yjw L f l.tail n).next fun t r n => (xjr en 3 [41] r n).next fun _ r n => yw1 L en t r n
 else (yqm L en l n).next fun t r n => yw1 L en t r n
def yjs (L : Lim) (en : Nat) : Nat → Rdr
 | 0 => zq9 L en none
 | d + 1 => zq9 L en (some (yjs L en d))
def yjx (L : Lim) (en : Nat) : Rdr := yjw L (yjs L en L.deep)
structure Dc where
 k : Int
 nm : List Nat
 ot : List Nat
 nu : List Nat
 va : List Nat
 un : List Nat
 tr : List Nd
 pl : Int
 at' : Int
def xvz (t : Tk) : Option Nat :=
 if isT 1 [117, 110, 105, 116] t = true then some 1
 else if isT 1 [115, 111, 117, 114, 99, 101] t = true then some 2
 else if isT 1 [99, 111, 118] t = true then some 3
 else if isT 1 [108, 101, 116] t = true then some 4
 else if isT 1 [111, 117, 116, 112, 117, 116] t = true then some 5
 else none
def yq8 (en : Nat) (d : Dc) (l : List Tk) (n : Nat) : PaR Dc := (xjr en 3 [59] l n).next fun _ r n => .ok d r n
def xv6 (l : List Tk) : List Nat × List Tk :=
 match l with
 | [] => ([], [])
 | t :: r => if isT 4 [] t = true then (t.2.1, r) else ([], t :: r)
def outB (en : Nat) (d : Dc) (l : List Tk) (n : Nat) : PaR Dc :=
 (xjr en 3 [58] l n).next fun _ r n => (xjr en 2 [] r n).next fun x r n =>
   match xvk x.2.1 2 with
   | none => .bad 12 x.2.2
   | some k => if 60 < k then .bad 2 x.2.2 else yq8 en { d with pl := k } r n
def yqk (L : Lim) (en : Nat) (k : Nat) (d : Dc) (l : List Tk) (n : Nat) : PaR Dc :=
 if k = 1 then (numT en l n).next fun s r n => (xjr en 4 [] r n).next fun u r n => yq8 en { d with nu := s, un := u.2.1 } r n
 else if k = 2 then (numT en l n).next fun s r n => (xjr en 3 [58] (xv6 r).2 n).next fun _ r2 n => (numT en r2 n).next fun v r3 n => yq8 en { d with nu := s, va := v, un := (xv6 r).1 } r3 n
 else if k = 3 then (numT en l n).next fun s r n => yq8 en { d with nu := s } r n
 else if k = 4 then (yjx L en l n).next fun t r n => yq8 en { d with tr := t } r n
 else (yjx L en l n).next fun t r n =>
  if xqp 1 [105, 110] r = true then (xjr en 4 [] r.tail n).next fun u r n => outB en { d with tr := t, un := u.2.1 } r n
  else outB en { d with tr := t } r n
def yqy (en : Nat) (k : Nat) (l : List Tk) (n : Nat) : PaR Dc :=
 (yz9 en l n).next fun x r n =>
   if k = 3 then (yz9 en r n).next fun y r n => (xjr en 3 [61] r n).next fun _ r n => .ok ⟨k, x.2.1, y.2.1, [], [], [], [], 0, x.2.2⟩ r n
   else (xjr en 3 [61] r n).next fun _ r n => .ok ⟨k, x.2.1, [], [], [], [], [], 0, x.2.2⟩ r n
def xw8 (L : Lim) (en i : Nat) (l : List Tk) (n : Nat) : PaR Dc :=
 match l with
 | [] => .bad 12 en
 | w :: r =>
  match xvz w with
  | none => .bad 12 w.2.2
  | some k => if 60 ≤ i then .bad 2 w.2.2 else (yqy en k r n).next fun d r n => yqk L en k d r n
def ywh (L : Lim) (en : Nat) : Nat → Nat → List Tk → Nat → PaR (List Dc)
 | _, _, [], n => .ok [] [] n
 | 0, _, l, n => .ok [] l n
 | g + 1, i, x :: r, n => (xw8 L en i (x :: r) n).next fun d r n => (ywh L en g (i + 1) r n).next fun ds r n => .ok (d :: ds) r n
def scrV (L : Lim) (s : List Nat) : List Dc × Int × Int :=
 if L.text < s.length then ([], 2, 0) else
 match lexT s with
 | .bad p => ([], 11, p)
 | .ok ts =>
  match ywh L s.length ts.length 0 ts 0 with
  | .ok ds _ _ => (ds, 0, 0)
  | .bad e p => ([], e, p)
def frmV (L : Lim) (s : List Nat) : List Nd × Int × Int :=
 if L.text < s.length then ([], 2, 0) else
 match lexT s with
 | .bad p => ([], 11, p)
 | .ok ts =>
  match yjx L s.length ts 0 with
  | .ok t [] _ => (t, 0, 0)
  | .ok _ (x :: _) _ => ([], 12, x.2.2)
  | .bad e p => ([], e, p)
def xjd (t d n p : Int) : Lim := ⟨(max 0 (min t 4000)).toNat, (max 0 (min d 60)).toNat, (max 0 (min n 2000)).toNat, (max 0 (min p 64)).toNat⟩
def mostL : Lim := ⟨4000, 60, 2000, 64⟩
inductive Chain (o : List Nat) : Nat → List Nat → Prop where
 | nil : Chain o 0 []
 | cons {j : Nat} {S : List Nat} (h : Chain o (o.getD j 0) S) : Chain o (j + 1) (j :: S)
theorem Chain.lt {o : List Nat} (hl : Low o) {p : Nat} {S : List Nat} (h : Chain o p S) : ∀ j ∈ S, j < p := by
 induction h with
 | nil => intro j hj; cases hj
 | @cons j S h ih =>
  intro i hi;rcases List.mem_cons.1 hi with rfl | hi
  · omega
  · have := ih i hi; have := hl.le j; omega
/-! ### what is alike -/
def xjs (x : Nd) : Nd := { x with p := 0 }
def ywv (x y : Nd) : Bool := decide (x.k = y.k) && decide (x.a = y.a) && decide (x.b = y.b) && decide (x.n = y.n) && decide (x.t = y.t) && decide (x.u = y.u)
def sameT : List Nd → List Nd → Bool
 | [], [] => true
 | x :: a, y :: b => ywv x y && sameT a b
 | _, _ => false
theorem sameT_iff : ∀ {a b : List Nd}, sameT a b = true ↔ a.length = b.length ∧ ∀ (i : Nat) (x y : Nd), a[i]? = some x → b[i]? = some y → ywv x y = true
 | [], [] => ⟨fun _ => ⟨rfl, fun i x y h => by simp at h⟩, fun _ => rfl⟩
 | [], y :: b => ⟨(fun h => by cases h), (fun h => by simp at h)⟩
 | x :: a, [] => ⟨(fun h => by cases h), (fun h => by simp at h)⟩
 | x :: a, y :: b => by
  unfold sameT;rw [Bool.and_eq_true, sameT_iff];constructor
  · rintro ⟨h1, h2, h3⟩;refine ⟨by simp [h2], fun i u v hu hv => ?_⟩;cases i with
    | zero => simp at hu hv; subst hu; subst hv; exact h1
    | succ i => exact h3 i u v (by simpa using hu) (by simpa using hv)
  · rintro ⟨h1, h2⟩;exact ⟨h2 0 x y rfl rfl, by simpa using h1, fun i u v hu hv => h2 (i + 1) u v (by simpa using hu) (by simpa using hv)⟩
theorem good_mk {l : List Nat} (h : xq0 l = true) : ∃ w f x, LitOk w f x ∧ l = yjd w f x := by
 obtain ⟨h1, h2, h3⟩ := litGood_iff.1 h;obtain ⟨w, f, x, hok, e⟩ := yje (l := l) (by omega);rw [h3, List.take_length] at e;exact ⟨w, f, x, hok, e⟩
theorem good_bytes {l : List Nat} (h : xq0 l = true) {i : Nat} (hi : i < l.length) {d : Nat} (hd : lim l i = d) : (48 ≤ d ∧ d ≤ 57) ∨ d = 46 ∨ d = 101 ∨ d = 45 := by
 obtain ⟨w, f, x, hok, rfl⟩ := good_mk h;have hm : d ∈ yjd w f x := by
  have e : lim (yjd w f x) i = (yjd w f x)[i] := by simp [lim, List.getD_eq_getElem?_getD, List.getElem?_eq_getElem hi]
  rw [← hd, e]; exact List.getElem_mem hi
 unfold yjd at hm;rcases List.mem_append.1 hm with hm | hm
 · rcases List.mem_append.1 hm with hm | hm
   · exact .inl (allDig_iff.1 hok.whole.1 d hm)
   · cases f with
     | none => cases hm
     | some p =>
      rcases List.mem_cons.1 hm with rfl | hm
      · exact .inr (.inl rfl)
      · exact .inl (allDig_iff.1 (hok.part p rfl).1 d hm)
 · cases x with
   | none => cases hm
   | some y =>
    obtain ⟨s, q⟩ := y;rcases List.mem_cons.1 hm with rfl | hm
    · exact .inr (.inr (.inl rfl))
    · rcases List.mem_append.1 hm with hm | hm
      · cases s with
        | true => simp [litSg] at hm; exact .inr (.inr (.inr hm))
        | false => simp [litSg] at hm
      · exact .inl (allDig_iff.1 (hok.exp s q rfl).1.1 d hm)
section
variable {w : World} {s s' : Bool} {A A' : Option Addr} {n c n' c' : Nat} {xs ys : List Nat} {x y : Int} {L L' : Nat}
end
theorem bytesOf_tail {S : ByteArray} (h : 1 ≤ S.size) : bytesOf (S.extract 1 S.size) = (bytesOf S).tail := by
 unfold bytesOf;rw [ByteArray.data_extract, Array.toList_extract, List.extract_eq_take_drop, List.map_take, List.map_drop, List.drop_one];refine List.take_of_length_le ?_;rw [List.length_tail, List.length_map, Array.length_toList];exact Nat.le_refl _
theorem bytesOf_first {S : ByteArray} : bytesOf (S.extract 0 1) = (bytesOf S).take 1 := by
 unfold bytesOf;rw [ByteArray.data_extract, Array.toList_extract, List.extract_eq_take_drop, List.map_take, List.map_drop];rfl
theorem head_minus (S : ByteArray) : ((S.extract 0 1).toList == (⟨#[45]⟩ : ByteArray).toList) = decide ((bytesOf S).head? = some 45) := by
 have e1 : S.extract 0 1 = strOf ((bytesOf S).take 1) := by rw [← bytesOf_first, xzt]
 have e2 : (⟨#[45]⟩ : ByteArray) = strOf [45] := rfl;rw [e1, e2, yzb (bytes_take (xjg S) 1) (bytes_cons.2 ⟨by decide, xjq⟩), decide_eq_decide];cases bytesOf S with
 | nil => simp
 | cons x l => simp
theorem hasMinus_c (S : ByteArray) (v : Bool) (hv : decide ((bytesOf S).head? = some 45) = v) (w : World) :
 Calls Tryz.prog 173 #[.string S, .string ⟨#[45]⟩] w fun e w' => e = .returned (.bool v) ∧ w = w' := by
 by_cases h0 : S.size = 0
 · have ev : v = false := by
    rw [← hv, List.eq_nil_of_length_eq_zero ((xqe S).trans h0)]; rfl
   subst ev;have h1 : (S.size : Int) < 1 := by omega
   clear hv h0;go_enter Tryz.func173, Tryz.ntmps173;go_wp2
   go_ret
   exact ⟨rfl, rfl⟩
 · have h1 : (1 : Int) ≤ (S.size : Int) := by omega
   have h2 : 1 ≤ S.size := by omega
   rw [← head_minus] at hv;obtain ⟨G, hG⟩ : ∃ G, S.extract 0 1 = G := ⟨_, rfl⟩;rw [hG] at hv;have e45 : (⟨#[45]⟩ : ByteArray).toList = [45] := xv0 [45];rw [e45] at hv;have HV := hid hv;clear h0 hv e45;go_enter Tryz.func173, Tryz.ntmps173;go_wp2
   go_ret
   exact ⟨by show Ending.returned (Value.bool (G.toList == [45])) = _; rw [HV.out], rfl⟩
theorem lim_run {l : List Nat} {k : Nat} (h : k < xqw l) : xq2 (lim l k) = true := by
 have e : lim l k = lim (l.takeWhile xq2) k := by
  rw [← take_run];simp [lim, List.getD_eq_getElem?_getD, h]
 have h2 : k < (l.takeWhile xq2).length := h;rw [e];have h3 : lim (l.takeWhile xq2) k = (l.takeWhile xq2)[k] := by simp [lim, List.getD_eq_getElem?_getD, List.getElem?_eq_getElem h2]
 rw [h3];exact List.all_eq_true.1 (ywe l) _ (List.getElem_mem h2)
theorem lim_run_stop {l : List Nat} (h : xqw l < l.length) : xq2 (lim l (xqw l)) = false := by
 have e : l.drop (xqw l) = l.dropWhile xq2 := by
  conv => lhs; rw [← List.takeWhile_append_dropWhile (p := xq2) (l := l)]
  rw [show xqw (l.takeWhile xq2 ++ l.dropWhile xq2) = (l.takeWhile xq2).length by rw [List.takeWhile_append_dropWhile]; rfl, List.drop_left]
 have h2 : lim l (xqw l) = lim (l.dropWhile xq2) 0 := by rw [← e, lim_drop0]
 rw [h2];cases hd : l.dropWhile xq2 with
 | nil => rw [hd] at e; have := congrArg List.length e; rw [List.length_drop] at this; simp at this; omega
 | cons x t =>
  have h3 := List.head_dropWhile_not xq2 (l := l) (by rw [hd]; simp);simp only [hd, List.head_cons] at h3
  simpa [lim] using h3
theorem run_step {l : List Nat} {k : Nat} (h : k ≤ xqw l) (hk : k < l.length) (hd : xq2 (lim l k) = true) : k + 1 ≤ xqw l := by
 rcases Nat.lt_or_ge k (xqw l) with h2 | h2
 · exact h2
 · obtain rfl : k = xqw l := by omega
   rw [lim_run_stop hk] at hd; cases hd
theorem run_stop {l : List Nat} {k : Nat} (h : k ≤ xqw l) (hd : xq2 (lim l k) = false) : xqw l = k := by
 rcases Nat.lt_or_ge k (xqw l) with h2 | h2
 · rw [lim_run h2] at hd; cases hd
 · omega
theorem yjp {l : List Nat} {n : Nat} (h : l.length ≤ n) : lim l n = 0 := by
 simp [lim, List.getD_eq_getElem?_getD, List.getElem?_eq_none h]
theorem kindN_big {c : Nat} (h : 102 ≤ c) : yqw c = 0 := by
 unfold yqw;rw [if_neg (by omega), if_neg (by omega), if_neg (by omega), if_neg];simp [xq2]; omega
theorem kindN_dig {c : Nat} : (yqw c = 1) ↔ xq2 c = true := by
 unfold yqw;by_cases h1 : c = 45
 · subst h1; decide
 · by_cases h2 : c = 46
   · subst h2; decide
   · by_cases h3 : c = 101
     · subst h3; decide
     · rw [if_neg h1, if_neg h2, if_neg h3];cases xq2 c <;> decide
theorem kindN_point {c : Nat} : (yqw c = 2) ↔ c = 46 := by
 unfold yqw;by_cases h1 : c = 45
 · subst h1; decide
 · by_cases h2 : c = 46
   · subst h2; decide
   · by_cases h3 : c = 101
     · subst h3; decide
     · rw [if_neg h1, if_neg h2, if_neg h3];cases xq2 c <;> simp [h2]
theorem kindN_mark {c : Nat} : (yqw c = 3) ↔ c = 101 := by
 unfold yqw;by_cases h1 : c = 45
 · subst h1; decide
 · by_cases h2 : c = 46
   · subst h2; decide
   · by_cases h3 : c = 101
     · subst h3; decide
     · rw [if_neg h1, if_neg h2, if_neg h3];cases xq2 c <;> simp [h3]
theorem kindN_minus {c : Nat} : (yqw c = 4) ↔ c = 45 := by
 unfold yqw;by_cases h1 : c = 45
 · subst h1; decide
 · by_cases h2 : c = 46
   · subst h2; decide
   · by_cases h3 : c = 101
     · subst h3; decide
     · rw [if_neg h1, if_neg h2, if_neg h3];cases xq2 c <;> simp [h1]
theorem xwz (s : ByteArray) (hs : s.size ≤ 9223372036854775807) (i : Nat) (V : Int) (hV : V = i) (w : World) (T : KTab w) (v : Nat) (hv : yqw (lim (bytesOf s) i) = v) :
 Calls Tryz.prog 181 #[.string s, .int .i64 V] w fun e w' => e = .returned (.int .u8 (v : Int)) ∧ w = w' := by
 subst hV;by_cases hlt : i < s.size
 · obtain ⟨d, hd⟩ : ∃ d, (s[i]'hlt).toNat = d := ⟨_, rfl⟩;have hdl : lim (bytesOf s) i = d := by rw [← Limb.byte_at s i hlt, hd]
   have hd2 : d < 256 := by rw [← hd]; exact UInt8.toNat_lt _
   rw [hdl] at hv;by_cases h1 : d < 102
   · have hc := T d h1;rw [hv] at hc;clear hv hdl T;go_enter Tryz.func181, Tryz.ntmps181;go_wp2
     go_ret
     exact ⟨rfl, rfl⟩
   · have h2 : 102 ≤ d := by omega
     rw [kindN_big h2] at hv;subst hv;clear hdl T h1;go_enter Tryz.func181, Tryz.ntmps181;go_wp2
     go_ret
     exact ⟨rfl, rfl⟩
 · have h2 : s.size ≤ i := by omega
   have h0 : lim (bytesOf s) i = 0 := yjp (by rw [xqe]; exact h2);rw [h0] at hv;obtain rfl : v = 0 := by rw [← hv]; rfl
   clear hv h0 T hlt;go_enter Tryz.func181, Tryz.ntmps181;go_wp2
   go_ret
   exact ⟨rfl, rfl⟩
theorem lim_dig {l : List Nat} {k : Nat} (h : xq2 (lim l k) = true) : k < l.length := by
 rcases Nat.lt_or_ge k l.length with h2 | h2
 · exact h2
 · rw [yjp h2] at h; exact absurd h (by decide)
theorem yzr (s : ByteArray) (hs : s.size ≤ 9223372036854775807) (m : Nat) (V : Int) (hV : V = m) (hm : m ≤ 9223372036854775807) (w : World) (T : KTab w) (n : Nat) (hn : min (xqw (bytesOf s)) m = n) :
 Calls Tryz.prog 163 #[.string s, .int .i64 V] w fun e w' => e = .returned (.int .i64 (n : Int)) ∧ w = w' := by
 subst hV;have HT := hid T;have Hn := hid hn;clear T hn;go_enter Tryz.func163, Tryz.ntmps163;go_wp2
 go_loopw [5] (fun i wr => ∃ k : Nat, i = .int .i64 (k : Int) ∧ k ≤ m ∧ RowKit.Hid (k ≤ xqw (bytesOf s)) ∧ w = wr) (fun i _ => m - (intOf i).toNat)
 case atStart => exact ⟨0, rfl, Nat.zero_le _, Nat.zero_le _, rfl⟩
 case round =>
  obtain ⟨k, rfl, hk, HK, rfl⟩ := hrel;by_cases hlt : k < m
  · cases hd : xq2 (lim (bytesOf s) k) with
    | true =>
     have HK2 : RowKit.Hid (k + 1 ≤ xqw (bytesOf s)) := run_step HK.out (lim_dig hd) hd;have HC := hid (xwz s hs k k rfl w HT.out 1 (kindN_dig.2 hd));clear hd HK;go_wp2_with fail
     refine HC.out.mono ?_;rintro e w1 ⟨rfl, rfl⟩;go_wp2
     go_roundw
     case rel => exact ⟨k + 1, by go_num, by omega, HK2, by first | rfl | trivial⟩
     case measure => simp [intOf]; omega
    | false =>
     have HE : RowKit.Hid (n = k) := by
      show _ = _;rw [← Hn.out, run_stop HK.out hd];omega
     obtain ⟨v, hv⟩ : ∃ v, yqw (lim (bytesOf s) k) = v := ⟨_, rfl⟩;have hv1 : ((v : Int) == 1) = false := by
      rw [beq_eq_false_iff_ne];intro h;have h2 : v = 1 := by omega
      rw [h2] at hv;rw [kindN_dig.1 hv] at hd; cases hd
     have HC := hid (xwz s hs k k rfl w HT.out v hv);clear hd HK hv;go_wp2_with fail
     refine HC.out.mono ?_;rintro e w1 ⟨rfl, rfl⟩;go_wp2
     go_ret
     exact ⟨by rw [HE.out]; rfl, rfl⟩
  · have HE : RowKit.Hid (n = m) := by
     show _ = _;have := HK.out;rw [← Hn.out]; omega
    obtain rfl : k = m := by omega
    clear HK hlt;go_wp2
    go_ret
    exact ⟨by rw [HE.out]; rfl, rfl⟩
theorem yq6 (s : ByteArray) (k : Nat) : bytesOf (s.extract k s.size) = (bytesOf s).drop k := by
 rw [xze];refine List.take_of_length_le ?_;rw [List.length_drop, xqe];exact Nat.le_refl _
theorem tail_size (s : ByteArray) {k : Nat} (h : k ≤ s.size) : (s.extract k s.size).size = s.size - k := by
 rw [← xqe, yq6, List.length_drop, xqe]
theorem yzj {v c : Nat} (h : v ≠ c) : ((v : Int) == (c : Int)) = false := by rw [beq_eq_false_iff_ne]; omega
theorem yzd {s : ByteArray} {k v : Nat} (h : lim (bytesOf s) k = v) (hv : v ≠ 0) : k < s.size := by
 rcases Nat.lt_or_ge k s.size with h2 | h2
 · exact h2
 · rw [yjp (by rw [xqe]; exact h2)] at h; exact absurd h.symm hv
theorem placesLen_c (s : ByteArray) (hs : s.size ≤ 9223372036854775807) (w : World) (T : KTab w) (n : Nat) (hn : xza (bytesOf s) = n) :
 Calls Tryz.prog 164 #[.string s] w fun e w' => e = .returned (.int .i64 (n : Int)) ∧ w = w' := by
 by_cases h : lim (bytesOf s) 0 = 46
 · have h1 : 1 ≤ s.size := yzd h (by decide);obtain ⟨S, hS⟩ : ∃ S, s.extract 1 s.size = S := ⟨_, rfl⟩;have hb : bytesOf S = (bytesOf s).drop 1 := by rw [← hS]; exact yq6 s 1
   have hz : S.size = s.size - 1 := by rw [← hS]; exact tail_size s h1
   have HK := hid (xwz s hs 0 0 rfl w T 2 (kindN_point.2 h));obtain ⟨k, hk⟩ : ∃ k, xqw (bytesOf S) = k := ⟨_, rfl⟩;have hkl : k ≤ S.size := by have := yjc (bytesOf S); rw [hk, xqe] at this; exact this
   have HC := hid (yzr S (by omega) s.size _ rfl hs w T k (by rw [hk]; omega));by_cases k0 : k = 0
   · obtain rfl : n = 0 := by rw [← hn]; unfold xza; rw [← hb, hk]; exact if_neg fun h2 => h2.2 k0
     subst k0;clear hn hb hk h;go_enter Tryz.func164, Tryz.ntmps164;go_wp2_with fail
     refine HK.out.mono ?_;rintro e w1 ⟨rfl, rfl⟩;go_wp2_with fail
     refine HC.out.mono ?_;rintro e w1 ⟨rfl, rfl⟩;go_wp2
     go_ret
     exact ⟨rfl, rfl⟩
   · obtain rfl : n = 1 + k := by rw [← hn]; unfold xza; rw [← hb, hk]; exact if_pos ⟨h, k0⟩
     have k1 : ((k : Int) == 0) = false := yzj k0;clear hn hb hk h;go_enter Tryz.func164, Tryz.ntmps164;go_wp2_with fail
     refine HK.out.mono ?_;rintro e w1 ⟨rfl, rfl⟩;go_wp2_with fail
     refine HC.out.mono ?_;rintro e w1 ⟨rfl, rfl⟩;go_wp2
     go_ret
     exact ⟨congrArg (fun v => Ending.returned (Value.int IntKind.i64 v)) (by omega), rfl⟩
 · obtain ⟨v, hv⟩ : ∃ v, yqw (lim (bytesOf s) 0) = v := ⟨_, rfl⟩;have hv1 : ((v : Int) == 2) = false := yzj (c := 2) fun h2 => h (kindN_point.1 (hv.trans h2))
   have HK := hid (xwz s hs 0 0 rfl w T v hv);obtain rfl : n = 0 := by rw [← hn]; exact yva h
   clear hn hv h;go_enter Tryz.func164, Tryz.ntmps164;go_wp2_with fail
   refine HK.out.mono ?_;rintro e w1 ⟨rfl, rfl⟩;go_wp2
   go_ret
   exact ⟨rfl, rfl⟩
theorem exponentLen_c (s : ByteArray) (hs : s.size ≤ 9223372036854775807) (w : World) (T : KTab w) (n : Nat) (hn : xwy (bytesOf s) = n) :
 Calls Tryz.prog 165 #[.string s] w fun e w' => e = .returned (.int .i64 (n : Int)) ∧ w = w' := by
 by_cases h : lim (bytesOf s) 0 = 101
 · have h1 : 1 ≤ s.size := yzd h (by decide);have HK := hid (xwz s hs 0 0 rfl w T 3 (kindN_mark.2 h));have ha : ∃ a, yvb (bytesOf s) = a ∧ ((lim (bytesOf s) 1 = 45 ∧ a = 2) ∨ (lim (bytesOf s) 1 ≠ 45 ∧ a = 1)) := by
    by_cases h45 : lim (bytesOf s) 1 = 45
    · exact ⟨2, if_pos h45, .inl ⟨h45, rfl⟩⟩
    · exact ⟨1, if_neg h45, .inr ⟨h45, rfl⟩⟩
   obtain ⟨a, ha, hab⟩ := ha;have has : a ≤ s.size := by
    rcases hab with ⟨h2, rfl⟩ | ⟨_, rfl⟩
    · exact yzd h2 (by decide)
    · exact h1
   obtain ⟨S, hS⟩ : ∃ S, s.extract a s.size = S := ⟨_, rfl⟩;have hb : bytesOf S = (bytesOf s).drop a := by rw [← hS]; exact yq6 s a
   have hz : S.size = s.size - a := by rw [← hS]; exact tail_size s has
   obtain ⟨k, hk⟩ : ∃ k, min (xqw (bytesOf S)) 3 = k := ⟨_, rfl⟩;have hk3 : k ≤ 3 := by omega
   have HC := hid (yzr S (by omega) 3 3 rfl (by decide) w T k hk);have HE : RowKit.Hid (n = if k = 0 then 0 else a + k) := by
    show _ = _;rw [← hn, ← hk];unfold xwy;rw [ha, ← hb];by_cases k0 : xqw (bytesOf S) = 0
    · rw [if_neg (fun h2 => h2.2 k0), if_pos (by omega)]
    · rw [if_pos ⟨h, k0⟩, if_neg (by omega)]
   clear hn hb hk h ha hz;rcases hab with ⟨h45, rfl⟩ | ⟨h45, rfl⟩
   · have HM := hid (xwz s hs 1 1 rfl w T 4 (kindN_minus.2 h45));clear h45;by_cases k0 : k = 0
     · subst k0;obtain rfl : n = 0 := HE.out;go_enter Tryz.func165, Tryz.ntmps165;go_wp2_with fail
       refine HK.out.mono ?_;rintro e w1 ⟨rfl, rfl⟩;go_wp2_with fail
       refine HM.out.mono ?_;rintro e w1 ⟨rfl, rfl⟩;go_wp2_with fail
       refine HC.out.mono ?_;rintro e w1 ⟨rfl, rfl⟩;go_wp2
       go_ret
       exact ⟨rfl, rfl⟩
     · obtain rfl : n = 2 + k := HE.out.trans (if_neg k0);have k1 : ((k : Int) == 0) = false := yzj k0;go_enter Tryz.func165, Tryz.ntmps165;go_wp2_with fail
       refine HK.out.mono ?_;rintro e w1 ⟨rfl, rfl⟩;go_wp2_with fail
       refine HM.out.mono ?_;rintro e w1 ⟨rfl, rfl⟩;go_wp2_with fail
       refine HC.out.mono ?_;rintro e w1 ⟨rfl, rfl⟩;go_wp2
       go_ret
       exact ⟨congrArg (fun v => Ending.returned (Value.int IntKind.i64 v)) (by omega), rfl⟩
   · obtain ⟨v, hv⟩ : ∃ v, yqw (lim (bytesOf s) 1) = v := ⟨_, rfl⟩;have hv1 : ((v : Int) == 4) = false := yzj (c := 4) fun h2 => h45 (kindN_minus.1 (hv.trans h2))
     have HM := hid (xwz s hs 1 1 rfl w T v hv);clear h45 hv;by_cases k0 : k = 0
     · subst k0;obtain rfl : n = 0 := HE.out;go_enter Tryz.func165, Tryz.ntmps165;go_wp2_with fail
       refine HK.out.mono ?_;rintro e w1 ⟨rfl, rfl⟩;go_wp2_with fail
       refine HM.out.mono ?_;rintro e w1 ⟨rfl, rfl⟩;go_wp2_with fail
       refine HC.out.mono ?_;rintro e w1 ⟨rfl, rfl⟩;go_wp2
       go_ret
       exact ⟨rfl, rfl⟩
     · obtain rfl : n = 1 + k := HE.out.trans (if_neg k0);have k1 : ((k : Int) == 0) = false := yzj k0;go_enter Tryz.func165, Tryz.ntmps165;go_wp2_with fail
       refine HK.out.mono ?_;rintro e w1 ⟨rfl, rfl⟩;go_wp2_with fail
       refine HM.out.mono ?_;rintro e w1 ⟨rfl, rfl⟩;go_wp2_with fail
       refine HC.out.mono ?_;rintro e w1 ⟨rfl, rfl⟩;go_wp2
       go_ret
       exact ⟨congrArg (fun v => Ending.returned (Value.int IntKind.i64 v)) (by omega), rfl⟩
 · obtain ⟨v, hv⟩ : ∃ v, yqw (lim (bytesOf s) 0) = v := ⟨_, rfl⟩;have hv1 : ((v : Int) == 3) = false := yzj (c := 3) fun h2 => h (kindN_mark.1 (hv.trans h2))
   have HK := hid (xwz s hs 0 0 rfl w T v hv);obtain rfl : n = 0 := by rw [← hn]; exact zq2 h
   clear hn hv h;go_enter Tryz.func165, Tryz.ntmps165;go_wp2_with fail
   refine HK.out.mono ?_;rintro e w1 ⟨rfl, rfl⟩;go_wp2
   go_ret
   exact ⟨rfl, rfl⟩
theorem litLen_c (s : ByteArray) (hs : s.size ≤ 9223372036854775807) (w : World) (T : KTab w) (n : Nat) (hn : xjv (bytesOf s) = n) :
 Calls Tryz.prog 149 #[.string s] w fun e w' => e = .returned (.int .i64 (n : Int)) ∧ w = w' := by
 obtain ⟨a, ha⟩ : ∃ a, xqw (bytesOf s) = a := ⟨_, rfl⟩;have has : a ≤ s.size := by have := yjc (bytesOf s); rw [ha, xqe] at this; exact this
 have HC := hid (yzr s hs s.size _ rfl hs w T a (by rw [ha]; omega));by_cases a0 : a = 0
 · subst a0;obtain rfl : n = 0 := by rw [← hn]; exact if_pos ha
   clear hn ha;go_enter Tryz.func149, Tryz.ntmps149;go_wp2_with fail
   refine HC.out.mono ?_;rintro e w1 ⟨rfl, rfl⟩;go_wp2
   go_ret
   exact ⟨rfl, rfl⟩
 · have a1 : ((a : Int) == 0) = false := yzj a0;obtain ⟨S, hS⟩ : ∃ S, s.extract a s.size = S := ⟨_, rfl⟩;have hb : bytesOf S = (bytesOf s).drop a := by rw [← hS]; exact yq6 s a
   have hz : S.size = s.size - a := by rw [← hS]; exact tail_size s has
   obtain ⟨p, hp⟩ : ∃ p, xza (bytesOf S) = p := ⟨_, rfl⟩;have hpl : p ≤ S.size := by
    obtain ⟨_, _, _, h3⟩ := yzh (bytesOf S);rw [hp, xqe] at h3; exact h3
   have HP := hid (placesLen_c S (by omega) w T p hp);obtain ⟨b, hb2⟩ : ∃ b, a + p = b := ⟨_, rfl⟩;have hbs : b ≤ s.size := by omega
   obtain ⟨S2, hS2⟩ : ∃ S2, s.extract b s.size = S2 := ⟨_, rfl⟩;have hbb : bytesOf S2 = (bytesOf s).drop b := by rw [← hS2]; exact yq6 s b
   have hz2 : S2.size = s.size - b := by rw [← hS2]; exact tail_size s hbs
   obtain ⟨x, hx⟩ : ∃ x, xwy (bytesOf S2) = x := ⟨_, rfl⟩;have hxl : x ≤ S2.size := by
    obtain ⟨_, _, _, h3⟩ := zja (bytesOf S2);rw [hx, xqe] at h3; exact h3
   have HX := hid (exponentLen_c S2 (by omega) w T x hx);obtain rfl : n = b + x := by
    rw [← hn];unfold xjv;rw [ha, if_neg a0, ← hb, hp, hb2, ← hbb, hx]
   have eb : (a : Int) + (p : Int) = (b : Int) := by omega
   clear hn ha hb hp hbb hx hb2;go_enter Tryz.func149, Tryz.ntmps149;go_wp2_with fail
   refine HC.out.mono ?_;rintro e w1 ⟨rfl, rfl⟩;go_wp2_with fail
   refine HP.out.mono ?_;rintro e w1 ⟨rfl, rfl⟩;go_wp2_with fail
   refine HX.out.mono ?_;rintro e w1 ⟨rfl, rfl⟩;go_wp2
   go_ret
   exact ⟨congrArg (fun v => Ending.returned (Value.int IntKind.i64 v)) (by omega), rfl⟩
theorem xwn (s : ByteArray) (hs : s.size ≤ 9223372036854775807) (w : World) (T : KTab w) (v : Bool) (hv : xq0 (bytesOf s) = v) :
 Calls Tryz.prog 124 #[.string s] w fun e w' => e = .returned (.bool v) ∧ w = w' := by
 have HL := hid (xqe s);have Hv := hid hv;clear hv;by_cases h1 : 1 ≤ s.size
 · have h10 : (0 : Int) < (s.size : Int) := by omega
   by_cases h2 : s.size ≤ 400
   · have h20 : (s.size : Int) ≤ 400 := by omega
     obtain ⟨n, hn⟩ : ∃ n, xjv (bytesOf s) = n := ⟨_, rfl⟩;have HC := hid (litLen_c s hs w T n hn);have HV : RowKit.Hid (((n : Int) == (s.size : Int)) = v) := by
      show _ = _;rw [← Hv.out];unfold xq0;rw [HL.out, hn, decide_eq_true h1, decide_eq_true h2];by_cases h3 : n = s.size
      · rw [h3, decide_eq_true rfl]; simp
      · rw [decide_eq_false h3, beq_eq_false_iff_ne.2 (by omega)]; rfl
     clear hn Hv HL;go_enter Tryz.func124, Tryz.ntmps124;go_wp2_with fail
     refine HC.out.mono ?_;rintro e w1 ⟨rfl, rfl⟩;have hv2 := HV.out;go_wp2
     go_ret
     exact ⟨by first | rfl | (rw [← HV.out]; rfl), rfl⟩
   · have HV : RowKit.Hid (v = false) := by
      show _ = _;rw [← Hv.out]; unfold xq0; rw [HL.out, decide_eq_true h1, decide_eq_false h2]; rfl
     have h3 : ¬ ((s.size : Int) ≤ 400) := by omega
     clear Hv HL;go_enter Tryz.func124, Tryz.ntmps124;go_wp2
     go_ret
     exact ⟨by rw [HV.out]; rfl, rfl⟩
 · have HV : RowKit.Hid (v = false) := by
    show _ = _;rw [← Hv.out]; unfold xq0; rw [HL.out, decide_eq_false h1]; rfl
   have h3 : ¬ ((0 : Int) < (s.size : Int)) := by omega
   have h4 : ¬ (0 < s.size) := by omega
   clear Hv HL;go_enter Tryz.func124, Tryz.ntmps124;go_wp2
   go_ret
   exact ⟨by rw [HV.out]; rfl, rfl⟩
def RowA (w : World) (g : Nat) (T : TypeId) (V : Array Value) : Prop := w.heap[g]? = some (.cells V T (0, 0))
def InV (w : World) (g o : Nat) (V : Array Value) : Prop := ∀ j v, V[j]? = some v → w.cell? ⟨g, o + j, none⟩ = some v
section
variable {w w' : World} {g o : Nat} {T : TypeId} {V V' : Array Value}
theorem RowA.lt (h : RowA w g T V) : g < w.heap.size := by
 rcases Nat.lt_or_ge g w.heap.size with hlt | hge
 · exact hlt
 · unfold RowA at h; rw [Array.getElem?_eq_none hge] at h; cases h
theorem RowA.below (h : RowA w g T V) (hb : Below w.heap.size w w') : RowA w' g T V := (hb.block g h.lt).trans h
theorem RowA.drew (h : RowA w g T V) : RowA w.drew g T V := h
theorem RowA.cell (h : RowA w g T V) {k : Nat} {v : Value} (hk : V[k]? = some v) : w.cell? ⟨g, k, none⟩ = some v := by
 unfold RowA at h;simp only [World.cell?, h];exact hk
theorem RowA.free (h : RowA w g T V) (k : Nat) : w.frozen? ⟨g, k, none⟩ = false := by unfold RowA at h; simp [World.frozen?, h]
theorem RowA.set (h : RowA w g T V) (k : Nat) (v : Value) : RowA (w.setCell ⟨g, k, none⟩ v) g T (V.setIfInBounds k v) := by
 unfold RowA at h ⊢;simp [World.setCell, Array.getElem?_modify, h]
theorem RowA.far (h : RowA w g T V) {g' : Nat} (hne : g' ≠ g) (k : Nat) (v : Value) : RowA (w.setCell ⟨g', k, none⟩ v) g T V := by
 unfold RowA at h ⊢;simp only [World.setCell, Array.getElem?_modify];rw [if_neg hne];exact h
theorem RowA.fill (h : RowA w g T V) : RowA (w.setRow g V') g T V' := setRow_heap w g V V' T (0, 0) h
theorem RowA.farRow (h : RowA w g T V) {g' : Nat} (hne : g' ≠ g) : RowA (w.setRow g' V') g T V := by
 unfold RowA at h ⊢;rw [setRow_other w g' g V' (Ne.symm hne)];exact h
theorem RowA.inV (h : RowA w g T V) : InV w g 0 V := fun j v hv => by rw [Nat.zero_add]; exact h.cell hv
theorem RowA.part (h : RowA w g T V) (hp : ∀ j v, V'[j]? = some v → V[o + j]? = some v) : InV w g o V' := fun j v hv => h.cell (hp j v hv)
theorem InV.below (h : InV w g o V) (hg : g < w.heap.size) (hb : Below w.heap.size w w') : InV w' g o V := fun j v hv => (hb.cell (p := ⟨g, o + j, none⟩) hg).trans (h j v hv)
end
theorem xqd (w : World) (T : TypeId) (V : Array Value) : RowA (w.alloc (.cells V T)) w.heap.size T V := heap_alloc_new _ _
theorem xqv {B : Nat} {w w' : World} (h : Below B w w') {g : Nat} (hg : B ≤ g) (V : Array Value) : Below B w (w'.setRow g V) :=
 h.trans ⟨rfl, rfl, rfl, by simp, fun k hk => setRow_other w' g k V (by omega)⟩
def ints (K : IntKind) (xs : List Int) : Array Value := (xs.map (Value.int K)).toArray
theorem ints_get {K : IntKind} {xs : List Int} {i : Nat} (h : i < xs.length) : (ints K xs)[i]? = some (.int K (xs.getD i 0)) := by
 simp [ints, List.getD_eq_getElem?_getD, h]
theorem ints_set {K : IntKind} {xs : List Int} (k : Nat) (x : Int) : (ints K xs).setIfInBounds k (.int K x) = ints K (xs.set k x) := by
 simp [ints, List.map_set]
theorem RowA.int {w : World} {g : Nat} {T : TypeId} {K : IntKind} {xs : List Int} (h : RowA w g T (ints K xs)) {i : Nat} (hi : i < xs.length) : w.cell? ⟨g, i, none⟩ = some (.int K (xs.getD i 0)) := h.cell (ints_get hi)
theorem RowA.setInt {w : World} {g : Nat} {T : TypeId} {K : IntKind} {xs : List Int} (h : RowA w g T (ints K xs)) (k : Nat) (x : Int) : RowA (w.setCell ⟨g, k, none⟩ (.int K x)) g T (ints K (xs.set k x)) := by
 rw [← ints_set]; exact h.set k _
section
variable {P : Program} {ops : Array Oper} {rest : List Oper} {o : Oper} {a : Act} {w : World} {K : Act → World → Prop} {Q : Exit → Act → World → Prop}
def xq7 (P : Program) (ty : TypeId) (n : Nat) : Prop := (P.info? ty).map (·.size) = some n ∧ ∃ d, P.underlying ty = some d ∧ d.isRow = true
theorem run_loadV {ty : TypeId} {g p : Nat} {V : Array Value} (hc : InV w g p V) (hT : xq7 P ty V.size) : (Instr.loadAt ty (.pointer (some ⟨g, p, none⟩))).run P w = .ok (.agg V) w := by
 obtain ⟨h1, d, h2, h3⟩ := hT;have := run_loadAt_mid (P := P) w g p ty V.toList d (fun j v hv => hc j v (by simpa using hv)) h2 h3 (by simpa using h1)
 simpa using this
theorem xq1 (ty : TypeId) (x : Operand) (ho : o.op = .load ty x) (g p : Nat) (hx : a.eval x = .pointer (some ⟨g, p, none⟩)) (V : Array Value) (hc : Hid (InV w g p V)) (hT : Hid (xq7 P ty V.size))
 (h : K (a.put o.dst (.agg V)) w) : o.wp P a w K Q := by
 unfold Oper.wp execOp;simp only [ho, hx, run_loadV hc.out hT.out, Sem.run_bind, Sem.run_pure, Result.andThen_ok];exact h
theorem xqf (hg : Region.wanted o (yielded ops a.tmps) = true) (ty : TypeId) (x : Operand) (ho : o.op = .load ty x) (g p : Nat) (hx : a.eval x = .pointer (some ⟨g, p, none⟩)) (V : Array Value) (hc : Hid (InV w g p V)) (hT : Hid (xq7 P ty V.size))
 (h : wpList P ops Q rest (a.put o.dst (.agg V)) w) : wpList P ops Q (o :: rest) a w :=
 BigFrame.wpList_want hg fun _ hK => xq1 ty x ho g p hx V hc hT (hK _ _ h)
theorem xw9 (ty : TypeId) (parts : Array (Nat × Operand)) (ho : o.op = .build ty parts) (ps : List (Nat × Value)) (hp : parts.toList.map (fun p => (p.1, a.eval p.2)) = ps) (V : Array Value) (hr : Hid (∀ W, (Instr.build ty ps.toArray).run P W = .ok (.agg V) W))
 (h : K (a.put o.dst (.agg V)) w) : o.wp P a w K Q := by
 have e : (parts.map fun (i, x) => (i, a.eval x)) = ps.toArray := by
  rw [← hp];apply Array.ext'
  simp
 unfold Oper.wp execOp;simp only [ho, e, hr.out, Sem.run_bind, Sem.run_pure, Result.andThen_ok];exact h
theorem xqn (hg : Region.wanted o (yielded ops a.tmps) = true) (ty : TypeId) (parts : Array (Nat × Operand)) (ho : o.op = .build ty parts) (ps : List (Nat × Value)) (hp : parts.toList.map (fun p => (p.1, a.eval p.2)) = ps) (V : Array Value) (hr : Hid (∀ W, (Instr.build ty ps.toArray).run P W = .ok (.agg V) W))
 (h : wpList P ops Q rest (a.put o.dst (.agg V)) w) : wpList P ops Q (o :: rest) a w :=
 BigFrame.wpList_want hg fun _ hK => xw9 ty parts ho ps hp V hr (hK _ _ h)
theorem wp_storeV (ty : TypeId) (x y : Operand) (ho : o.op = .store ty x y) (g : Nat) (hx : a.eval x = .pointer (some ⟨g, 0, none⟩)) (V : Array Value) (hy : a.eval y = .agg V) (T : TypeId) (V0 : Array Value) (hc : Hid (RowA w g T V0)) (hT : Hid (xq7 P ty V.size ∧ V0.size = V.size ∧ ∀ v ∈ V, v.oneCell' = true))
 (h : K (a.put o.dst undef) (w.setRow g V)) : o.wp P a w K Q :=
 wp_store_row ty x y ho g V hx hy T V0 hc.out hT.out.1.1 hT.out.2.1 (Array.all_eq_true_iff_forall_mem.2 hT.out.2.2) h
theorem xqi (hg : Region.wanted o (yielded ops a.tmps) = true) (ty : TypeId) (x y : Operand) (ho : o.op = .store ty x y) (g : Nat) (hx : a.eval x = .pointer (some ⟨g, 0, none⟩)) (V : Array Value) (hy : a.eval y = .agg V) (T : TypeId) (V0 : Array Value) (hc : Hid (RowA w g T V0)) (hT : Hid (xq7 P ty V.size ∧ V0.size = V.size ∧ ∀ v ∈ V, v.oneCell' = true))
 (h : wpList P ops Q rest (a.put o.dst undef) (w.setRow g V)) : wpList P ops Q (o :: rest) a w :=
 BigFrame.wpList_want hg fun _ hK => wp_storeV ty x y ho g hx V hy T V0 hc hT (hK _ _ h)
theorem xqg (hg : Region.wanted o (yielded ops a.tmps) = true) (ty : TypeId) (x y : Operand) (ho : o.op = .store ty x y) (V V0 : Array Value) (T : TypeId) (hx : a.eval x = .pointer (some ⟨w.heap.size, 0, none⟩)) (hy : a.eval y = .agg V) (hT : Hid (xq7 P ty V.size ∧ V0.size = V.size ∧ ∀ v ∈ V, v.oneCell' = true))
 (h : wpList P ops Q rest (a.put o.dst undef) (w.alloc (.cells V T))) : wpList P ops Q (o :: rest) a (w.alloc (.cells V0 T)) := by
 refine xqi hg ty x y ho w.heap.size hx V hy T V0 (xqd w T V0) hT ?_;rw [World.setRow_alloc_new];exact h
end
def OwnR (w : World) (B : Nat) (e : TypeId) (sz : Nat) (A : Option Addr) (n c : Nat) (xs : List Value) : Prop := w.ownsRow B e sz (.slice A n c) n xs
def Elem (P : Program) (t e : TypeId) (sz : Nat) : Prop := ∃ i z, P.underlying t = some (.slice e) ∧ P.info? e = some i ∧ i.zero = some z ∧ i.size = sz ∧ z.cells.size = sz ∧ 0 < sz ∧ i.bytes ≤ 1000
theorem zjc {P : Program} {t e : TypeId} {sz b : Nat} {v : Value} (h : P.underlying t = some (.slice e)) (hi : (P.info? e).map (fun i => (i.zero, i.size, i.bytes)) = some (some v, sz, b)) (hz : v.cells.size = sz) (h0 : 0 < sz) (hb : b ≤ 1000) : Elem P t e sz := by
 cases hq : P.info? e with
 | none => simp [hq] at hi
 | some i =>
  simp [hq] at hi;exact ⟨i, v, h, hq, hi.1, hi.2.1, hz, h0, by omega⟩
section
variable {w w' : World} {B : Nat} {e : TypeId} {sz n c : Nat} {A : Option Addr} {xs : List Value}
theorem OwnR.nil (w : World) (B : Nat) (e : TypeId) (sz : Nat) : OwnR w B e sz none 0 0 [] := World.ownsRow_nil w B e sz
theorem OwnR.len (h : OwnR w B e sz A n c xs) : xs.length = n * sz := h.1
theorem OwnR.lt (h : OwnR w B e sz A n c xs) : ∀ k, Value.ownBlock (.slice A n c) = some k → B ≤ k ∧ k < w.heap.size := World.ownsRow.lt h
theorem xwk {v : Value} (h : w.ownsRow B e sz v n xs) : ∃ A c, v = .slice A n c ∧ OwnR w B e sz A n c xs := by
 rcases h.2 with ⟨rfl, rfl⟩ | ⟨g, cap, cur, rfl, _⟩
 · exact ⟨none, 0, rfl, h⟩
 · exact ⟨some ⟨g, 0, none⟩, cap, rfl, h⟩
theorem OwnR.cells (h : OwnR w B e sz A n c xs) (hn : 0 < n) : ∃ g, A = some ⟨g, 0, none⟩ ∧ B ≤ g ∧ g < w.heap.size ∧ n ≤ c ∧ c ≤ maxLen ∧ ∀ j u, xs[j]? = some u → w.cell? ⟨g, j, none⟩ = some u := by
 rcases h.2 with ⟨hv, h0⟩ | ⟨g, cap, cur, hv, hB, hg, hnc, hcm, hcs, ht⟩
 · omega
 · injection hv with h1 h2 h3
   subst h1; subst h3;refine ⟨g, rfl, hB, (Array.getElem?_eq_some_iff.1 hg).1, hnc, hcm, fun j u hu => ?_⟩;rw [cell_of_row w g j cur e (0, 0) hg];rw [← ht] at hu;have hj : j < n * sz := by
    rcases Nat.lt_or_ge j (n * sz) with h1 | h1
    · exact h1
    · rw [List.getElem?_eq_none (by rw [List.length_take]; omega)] at hu; cases hu
   rw [List.getElem?_take_of_lt hj] at hu
   simpa using hu
theorem OwnR.below (h : OwnR w B e sz A n c xs) (hb : Below w.heap.size w w') : OwnR w' B e sz A n c xs := by
 refine ⟨h.1, ?_⟩;rcases h.2 with h1 | ⟨g, cap, cur, hv, hB, hg, r⟩
 · exact .inl h1
 · exact .inr ⟨g, cap, cur, hv, hB, (hb.block g (Array.getElem?_eq_some_iff.1 hg).1).trans hg, r⟩
theorem RowA.grown {g : Nat} {T : TypeId} {V : Array Value} {o : Option Nat} (h : RowA w g T V) (hg : w.grownBy w' o) (hne : o ≠ some g) : RowA w' g T V := (hg.block g h.lt (fun e => hne e.symm)).trans h
theorem OwnR.apart {g : Nat} {T : TypeId} {V : Array Value} (h : OwnR w B e sz A n c xs) (hr : RowA w g T V) (hg : g < B) : Value.ownBlock (.slice A n c) ≠ some g := fun e2 => by have := (h.lt g e2).1; omega
theorem xq6 {C : Nat} {w0 : World} (hb : Below C w0 w) (hC : C ≤ B) (hB : B ≤ w.heap.size) (h : OwnR w B e sz A n c xs) (hg : w.grownBy w' (Value.ownBlock (.slice A n c))) : Below C w0 w' :=
 hb.grown hg (by omega) (fun k hk => by have := (h.lt k hk).1; omega)
end
section
variable {P : Program} {ops : Array Oper} {rest : List Oper} {o : Oper} {a : Act} {w : World} {K : Act → World → Prop} {Q : Exit → Act → World → Prop}
theorem yqo (s x : Operand) (t : TypeId) (ho : o.op = .call { callee := .builtin .append, args := #[s, x], argTypes := #[t, t] })
 (B : Nat) (e : TypeId) (sz : Nat) (ht : Elem P t e sz) (A : Option Addr) (n c : Nat) (xs : List Value) (hs : a.eval s = .slice A n c) (hown : Hid (OwnR w B e sz A n c xs))
 (g : Nat) (hx : a.eval x = .slice (some ⟨g, 0, none⟩) 1 1) (T : TypeId) (V : Array Value) (hy : Hid (RowA w g T V ∧ V.size = sz ∧ ∀ v ∈ V, v.oneCell' = true)) (hb : Hid (n ≤ 1000000 ∧ B ≤ w.heap.size))
 (h : ∀ A2 c2 w', Hid (OwnR w' B e sz A2 (n + 1) c2 (xs ++ V.toList)) → Hid (w.grownBy w' (Value.ownBlock (.slice A n c))) → K (a.put o.dst (.slice A2 (n + 1) c2)) w') : o.wp P a w K Q := by
 obtain ⟨i, z, h1, h2, h3, h4, h5, h6, h7⟩ := ht;obtain ⟨y1, y2, y3⟩ := hy.out;obtain ⟨b1, b2⟩ := hb.out;refine wp_append_own w s x t ho B e i z sz i.bytes h1 h2 h3 h4 rfl h5 h6 (.slice A n c) n xs hs hown.out ⟨g, 0, none⟩ 1 1 V.toList hx (by simp [y2]) ?_ (fun u hu => y3 u (by simpa using hu)) (by unfold maxLen; omega) ?_ b2 ?_
 · intro j u hu;rw [Addr.add_mid, Nat.zero_add];exact y1.cell (by simpa using hu)
 · exact Nat.le_trans (Nat.mul_le_mul (show n + 1 ≤ 1000001 by omega) h7) (by decide)
 · intro v' w' hown' hg _;obtain ⟨A2, c2, rfl, how⟩ := xwk hown';exact h A2 c2 w' how hg
theorem xvr (hgd : o.guard = none) (s x : Operand) (t : TypeId) (ho : o.op = .call { callee := .builtin .append, args := #[s, x], argTypes := #[t, t] })
 (B : Nat) (e : TypeId) (sz : Nat) (ht : Elem P t e sz) (A : Option Addr) (n c : Nat) (xs : List Value) (hs : a.eval s = .slice A n c) (hown : Hid (OwnR w B e sz A n c xs))
 (g : Nat) (hx : a.eval x = .slice (some ⟨g, 0, none⟩) 1 1) (T : TypeId) (V : Array Value) (hy : Hid (RowA w g T V ∧ V.size = sz ∧ ∀ v ∈ V, v.oneCell' = true)) (hb : Hid (n ≤ 1000000 ∧ B ≤ w.heap.size))
 (h : ∀ A2 c2 w', Hid (OwnR w' B e sz A2 (n + 1) c2 (xs ++ V.toList)) → Hid (w.grownBy w' (Value.ownBlock (.slice A n c))) → wpList P ops Q rest (a.put o.dst (.slice A2 (n + 1) c2)) w') : wpList P ops Q (o :: rest) a w :=
 wpList_plain hgd fun _ hK => yqo s x t ho B e sz ht A n c xs hs hown g hx T V hy hb fun A2 c2 w' h1 h2 => hK _ _ (h A2 c2 w' h1 h2)
end
abbrev xzw (e at0 : Int) : Array Value := #[.int .i64 e, .int .i64 at0]
theorem sizeF : (Tryz.prog.info? 29).map (·.size) = some 2 := by kernel_rfl
theorem manyF (e a : Int) : xq7 Tryz.prog 29 (xzw e a).size := ⟨sizeF, _, Tryz.underlying29, rfl⟩
theorem fitsF (e a : Int) : xq7 Tryz.prog 29 (xzw e a).size ∧ (xzw 0 0).size = (xzw e a).size ∧ ∀ v ∈ xzw e a, v.oneCell' = true := ⟨manyF e a, rfl, by simp [Value.oneCell']⟩
theorem xjf {P : Program} {fn : Func} {p q : Tmp} {ty : TypeId} (h : fn.results = #[.tmp q, .cell p ty]) (tmps : Array Value) (w : World) (g : Nat) (t : TypeId) (cs : Array Value) (fr : Nat × Nat) (d : TypeDesc) (v : Value)
 (hp : tmps.getD p undef = .pointer (some ⟨g, 0, none⟩)) (hq : tmps.getD q undef = v) (hg : w.heap[g]? = some (.cells cs t fr))
 (hu : P.underlying ty = some d) (hd : (match d with | .struct _ | .array _ _ => true | _ => false) = true) (hi : (P.info? ty).map (·.size) = some cs.size) :
 (results fn tmps).run P w = .ok (.tuple #[v, .agg cs]) w := by
 have hp' : tmps[p]?.getD undef = .pointer (some ⟨g, 0, none⟩) := by simpa using hp
 have hq' : tmps[q]?.getD undef = v := by simpa using hq
 simp [results, h, hp', hq', asAddr, run_loadVar_row w g t ty cs fr d hg hu hd hi]
abbrev ndC (k a b n : Int) (t u : ByteArray) (p : Int) : Array Value := #[.int .i64 k, .int .i64 a, .int .i64 b, .int .i64 n, .string t, .string u, .int .i64 p]
def ndV (x : Nd) : Array Value := ndC x.k x.a x.b x.n x.t x.u x.p
abbrev zN : Array Value := #[.int .i64 0, .int .i64 0, .int .i64 0, .int .i64 0, .string ⟨#[]⟩, .string ⟨#[]⟩, .int .i64 0]
def zNd : Nd := ⟨0, 0, 0, 0, ⟨#[]⟩, ⟨#[]⟩, 0⟩
theorem size_ndV (x : Nd) : (ndV x).size = 7 := rfl
theorem zqw (x : Nd) : ∀ v ∈ ndV x, v.oneCell' = true := by simp [ndV, Value.oneCell']
def xql (ts : List Nd) : List Value := ts.flatMap fun x => (ndV x).toList
theorem yzl (a b : List Nd) : xql (a ++ b) = xql a ++ xql b := by simp [xql]
theorem ywk (ts : List Nd) (x : Nd) : xql (ts ++ [x]) = xql ts ++ (ndV x).toList := by simp [xql]
theorem xvd (ts : List Nd) : (xql ts).length = ts.length * 7 := by
 induction ts with
 | nil => rfl
 | cons x ts ih => show ((ndV x).toList ++ xql ts).length = _; rw [List.length_append, ih]; simp [ndV]; omega
theorem yqd : ∀ {ts : List Nd} {i : Nat} {x : Nd}, ts[i]? = some x → ∀ j v, (ndV x)[j]? = some v → (xql ts)[i * 7 + j]? = some v
 | [], i, x, h, _, _, _ => by simp at h
 | y :: ts, 0, x, h, j, v, hj => by
  obtain rfl : y = x := by simpa using h
  have hl : j < 7 := by
   rcases Nat.lt_or_ge j 7 with h1 | h1
   · exact h1
   · rw [Array.getElem?_eq_none (by rw [size_ndV]; exact h1)] at hj; cases hj
  show ((ndV y).toList ++ xql ts)[0 * 7 + j]? = some v;rw [Nat.zero_mul, Nat.zero_add, List.getElem?_append_left (by simpa [ndV] using hl)]
  simpa using hj
 | y :: ts, i + 1, x, h, j, v, hj => by
  have := yqd (ts := ts) (i := i) (x := x) (by simpa using h) j v hj;show ((ndV y).toList ++ xql ts)[(i + 1) * 7 + j]? = some v;rw [List.getElem?_append_right (by simp [ndV]; omega), show (i + 1) * 7 + j - (ndV y).toList.length = i * 7 + j by simp [ndV]; omega];exact this
theorem zqx (ts : List Nd) : ∀ v ∈ xql ts, v.oneCell' = true := by
 intro v hv;unfold xql at hv;obtain ⟨x, _, hx⟩ := List.mem_flatMap.1 hv;exact zqw x v (by simpa using hx)
theorem yw5 : Elem Tryz.prog 33 51 7 := zjc Tryz.underlying33 (v := .agg zN) (b := 72) (by kernel_rfl) rfl (by decide) (by decide)
theorem yj1 : (Tryz.prog.info? 51).map (·.size) = some 7 := by kernel_rfl
theorem xjx (k a b n : Int) (t u : ByteArray) (p : Int) : xq7 Tryz.prog 51 (ndC k a b n t u p).size := ⟨yj1, _, Tryz.underlying51, rfl⟩
theorem manyN (x : Nd) : xq7 Tryz.prog 51 (ndV x).size := xjx _ _ _ _ _ _ _
theorem xz0 (x y : Nd) : xq7 Tryz.prog 51 (ndV x).size ∧ (ndV y).size = (ndV x).size ∧ ∀ v ∈ ndV x, v.oneCell' = true := ⟨manyN x, rfl, zqw x⟩
def TreR (w : World) (A : Option Addr) (n c : Nat) (ts : List Nd) : Prop := n = ts.length ∧ n ≤ c ∧ c ≤ maxLen ∧ (0 < n → ∃ g o, A = some ⟨g, o, none⟩ ∧ g < w.heap.size ∧ ∀ i x, ts[i]? = some x → InV w g (o + i * 7) (ndV x))
section
variable {w w' : World} {A : Option Addr} {n c : Nat} {ts : List Nd}
theorem TreR.below (h : TreR w A n c ts) (hb : Below w.heap.size w w') : TreR w' A n c ts := by
 obtain ⟨h1, h2, h3, h4⟩ := h;refine ⟨h1, h2, h3, fun h0 => ?_⟩;obtain ⟨g, o, e, hg, hc⟩ := h4 h0;exact ⟨g, o, e, Nat.lt_of_lt_of_le hg hb.size, fun i x hx => (hc i x hx).below hg hb⟩
theorem TreR.at (h : TreR w A n c ts) {i : Nat} {x : Nd} (hi : ts[i]? = some x) : ∃ g o, A = some ⟨g, o, none⟩ ∧ g < w.heap.size ∧ InV w g (o + i * 7) (ndV x) := by
 obtain ⟨h1, h2, h3, h4⟩ := h;obtain ⟨g, o, e, hg, hc⟩ := h4 (by have := (List.getElem?_eq_some_iff.1 hi).1; omega);exact ⟨g, o, e, hg, hc i x hi⟩
theorem TreR.len (h : TreR w A n c ts) : n = ts.length := h.1
theorem TreR.nil (w : World) {A : Option Addr} {c : Nat} (hc : c ≤ maxLen) : TreR w A 0 c [] := ⟨rfl, Nat.zero_le _, hc, fun h => absurd h (by omega)⟩
theorem OwnR.tree {B : Nat} (h : OwnR w B 51 7 A n c (xql ts)) (hn : n = ts.length) (hc : n ≤ c) (hm : c ≤ maxLen) : TreR w A n c ts := by
 refine ⟨hn, hc, hm, fun h0 => ?_⟩;obtain ⟨g, e, _, h4, _, h5, h6⟩ := h.cells h0;exact ⟨g, 0, e, h4, fun i x hx j v hj => by rw [Nat.zero_add]; exact h6 _ _ (yqd hx j v hj)⟩
end
def eqN (x y : Nd) : Bool := ywv x y && decide (x.p = y.p)
theorem yvk {x y : Nd} {b : Bool} (h : eqN x y = b) (W : World) : (Op.equalIn 10000 51 (.agg (ndV x)) (.agg (ndV y))).run Tryz.prog W = .ok b W := by
 obtain ⟨k, a, b, n, t, u, p⟩ := x;obtain ⟨k', a', b', n', t', u', p'⟩ := y;unfold eqN ywv at h;dsimp only at h;subst h;show (Op.equalIn 10000 51 (.agg (ndC k a b n t u p)) (.agg (ndC k' a' b' n' t' u' p'))).run Tryz.prog W = _;by_cases h0 : k = k'
 · subst h0;by_cases h1 : a = a'
   · subst h1;by_cases h2 : b = b'
     · subst h2;by_cases h3 : n = n'
       · subst h3;by_cases h4 : t = t'
         · subst h4;by_cases h5 : u = u'
           · subst h5;by_cases h6 : p = p'
             · subst h6;have : (Op.equalIn 10000 51 (.agg (ndC k a b n t u p)) (.agg (ndC k a b n t u p))).run Tryz.prog W = .ok (decide (k = k) && decide (a = a) && decide (b = b) && decide (n = n) && decide (t = t) && decide (u = u) && decide (p = p)) W := by go_simp
               exact this
             · go_simp
           · have g5 : (u.toList == u'.toList) = false := by
              rw [beq_eq_false_iff_ne];intro e;exact h5 (by rw [ByteArray.toList_eq, ByteArray.toList_eq] at e; exact ByteArray.ext (Array.toList_inj.1 e))
             go_simp
         · have g4 : (t.toList == t'.toList) = false := by
            rw [beq_eq_false_iff_ne];intro e;exact h4 (by rw [ByteArray.toList_eq, ByteArray.toList_eq] at e; exact ByteArray.ext (Array.toList_inj.1 e))
           go_simp
       · go_simp
     · go_simp
   · go_simp
 · go_simp
def dAt : List (Option Tmp) → Nat → Option Tmp
 | [], _ => none
 | d :: _, 0 => d
 | _ :: r, k + 1 => dAt r k
def slotV (d : Option Tmp) (a : Act) : Value := match d with
 | some t => a.eval (.tmp t)
 | none => undef
section
variable {P : Program} {Q : Exit → Act → World → Prop}
def okAtR (ops : Array Oper) (m : Nat) (ds : List (Option Tmp)) (N : Nat) (i : Nat) : Bool :=
 match ops[i]? with
 | none => false
 | some o => o.dst == dAt ds i && (match dAt ds i with | some d => decide (d < N) | none => true) && o.guard.isNone && isPlain o.op && (xq4 ops i).all (fun e => decide (e < i)) &&
  (List.range m).all (fun k => k == i || (dAt ds i).isNone || dAt ds k != dAt ds i) &&
  o.op.operands.toList.all (fun x => match x with
   | .tmp t => (List.range m).all fun k => dAt ds k != some t || (xq4 ops i).contains k
   | _ => true)
theorem xwi {ops : Array Oper} {m : Nat} {ds : List (Option Tmp)} {N i : Nat} (h : okAtR ops m ds N i = true) :
 ∃ o, ops[i]? = some o ∧ o.dst = dAt ds i ∧ (∀ d, dAt ds i = some d → d < N) ∧ o.guard = none ∧ (∀ cs b, o.op ≠ .select cs b) ∧ (∀ e ∈ xq4 ops i, e < i) ∧
  (∀ k, k < m → k ≠ i → ∀ d, dAt ds i = some d → dAt ds k ≠ some d) ∧ (∀ x ∈ o.op.operands, ∀ t, x = .tmp t → ∀ k, k < m → dAt ds k = some t → k ∈ xq4 ops i) := by
 unfold okAtR at h;cases ho : ops[i]? with
 | none => rw [ho] at h; cases h
 | some o =>
  rw [ho] at h;simp only [Bool.and_eq_true, beq_iff_eq, decide_eq_true_eq, List.all_eq_true, Bool.or_eq_true, bne_iff_ne, List.mem_range, Option.isNone_iff_eq_none] at h;obtain ⟨⟨⟨⟨⟨⟨h1, h3⟩, h4⟩, h5⟩, h6⟩, h7⟩, h8⟩ := h;refine ⟨o, rfl, h1, fun d hd => ?_, h4, ?_, h6, fun k hk hne d hd hkd => ?_, ?_⟩
  · rw [hd] at h3; simpa using h3
  · intro cs b he;rw [he] at h5;cases h5
  · rcases h7 k hk with (h9 | h9) | h9
    · exact hne h9
    · rw [hd] at h9; cases h9
    · exact h9 (hkd.trans hd.symm)
  · rintro x hx t rfl k hk hd;have := h8 _ (by simpa using hx);simp only [List.all_eq_true, List.mem_range, Bool.or_eq_true, bne_iff_ne, List.contains_iff_mem] at this;exact (this k hk).resolve_left fun h => h hd
def FreeStepR (P : Program) (Q : Exit → Act → World → Prop) (ops : Array Oper) (ds : List (Option Tmp)) (aF : (Nat → Value) → Act) (R : World → World → Prop) (S : World → Prop) (Φ : Nat → Value → World → Prop) (i : Nat) (o : Oper) : Prop :=
 ∀ (vals : Nat → Value) (w : World), S w → (∀ e ∈ xq4 ops i, Φ e (vals e) w) → ∀ K : Act → World → Prop,
  (∀ a' w', a'.defers = (aF vals).defers → R w w' → Φ i (slotV (dAt ds i) a') w' → K a' w') → o.wp P (aF vals) w K Q
theorem xv1 {id : Nat} {a : Act} {w : World} {os : List Oper} (m : Nat) (ds : List (Option Tmp)) (aF : (Nat → Value) → Act) (R : World → World → Prop) (S : World → Prop) (Φ : Nat → Value → World → Prop)
 (hm : P.follows .mixedOrders = true)
 (haF : ∀ vals, xqx (dAt ds) vals a m = aF vals)
 (hr : os.length = m)
 (hok : (List.range m).all (okAtR os.toArray m ds a.tmps.size) = true)
 (hQ : ∀ c (t t' : Array Value) (d : List Deferred) w, Q (.panic c) ⟨t, d⟩ w → Q (.panic c) ⟨t', d⟩ w)
 (hSb : ∀ w w', R w w' → S w → S w')
 (hΦb : ∀ k v w w', R w w' → S w → Φ k v w → Φ k v w')
 (hS : S w.drew)
 (hop : AllAt (FreeStepR P Q os.toArray ds aF R S Φ) 0 os m)
 (hfin : ∀ (vals : Nat → Value) (w : World), S w → (∀ k, k < m → Φ k (vals k) w) → wpAny P .any os.toArray Q 0 (ywq m m) (aF vals) w) :
 (Code.region id os.toArray true).wp P Q a w := by
 generalize hops : os.toArray = ops at *;have hsz0 : ops.size = m := by rw [← hops]; simpa using hr
 have hle : m ≤ ops.size := by omega
 replace hop : ∀ i, i < m → ∀ o, ops[i]? = some o → FreeStepR P Q ops ds aF R S Φ i o := fun i hi o ho => by
  have := hop.at i hi o (by rw [← hops] at ho; simpa using ho)
  rwa [Nat.zero_add] at this
 replace hfin : ∀ (vals : Nat → Value) (w : World), S w → (∀ k, k < m → Φ k (vals k) w) →
  ∀ l : Array Bool, l.size = ops.size → (∀ k, l.getD k false = decide (k < m)) → wpAny P .any ops Q (ops.size - m) l (aF vals) w := fun vals w h1 h2 l h4 h5 => by
  rw [yjh (h4.trans hsz0) (by omega) h5, show ops.size - m = 0 by omega];exact hfin vals w h1 h2
 replace hQ : ∀ c (a a' : Act) w, a.defers = a'.defers → Q (.panic c) a w → Q (.panic c) a' w := by
  rintro c ⟨t, d⟩ ⟨t', d'⟩ w he h;obtain rfl : d = d' := he;exact hQ c t t' d w h
 refine wp_region_any hm ?_;have hat : ∀ i, i < m → okAtR ops m ds a.tmps.size i = true := fun i hi => List.all_eq_true.1 hok i (List.mem_range.2 hi)
 have hfr : ∀ (l : Array Bool), l = Array.replicate ops.size false → ∀ k, l.getD k false = false := by
  rintro l rfl k;simp only [Array.getD_eq_getD_getElem?, Array.getElem?_replicate]
  split <;> rfl
 let J : Array Bool → Act → World → Prop := fun l a' w' => (l.size = ops.size ∧ ∀ k, m ≤ k → l.getD k false = false) ∧ S w' ∧ (∀ k, k < m → l.getD k false = true → ∀ e ∈ xq4 ops k, l.getD e false = true) ∧
  ∃ vals, a' = fill (dAt ds) vals l a m ∧ (∀ k, k < m → l.getD k false = true → Φ k (vals k) w')
 have hz : ∀ j, j ≤ m → left (Array.replicate ops.size false) j = j := fun j => by
  induction j with
  | zero => exact fun _ => rfl
  | succ j ihj => exact fun h => by unfold left; rw [ihj (by omega), hfr _ rfl j]; rfl
 have key := yq0 (P := P) (ops := ops) (Q := Q) (md := .any) m J (fun l a' w' hj => hj.1) hle (fun i o h1 ho e he hb => ?hback) (fun l a' w' i hj hi h1 => ?hstep) (fun l a' w' i hj hi h1 k hk => ?hwait) (fun l a' w' hj hall => ?hfin)
  m (Array.replicate ops.size false) a w.drew (hz m (Nat.le_refl _)) ⟨⟨by simp, fun k _ => hfr _ rfl k⟩, hS, fun k _ h => (by rw [hfr _ rfl k] at h; cases h),
   fun _ => undef, (yqh fun k _ => hfr _ rfl k).symm, fun k _ h => (by rw [hfr _ rfl k] at h; cases h)⟩
 · have e : ops.size - m + m = ops.size := by omega
   rw [e] at key;exact key
 case hback =>
  obtain ⟨_, _, _, _, _, _, hlow, _, _⟩ := xwi (hat i h1);refine hlow e.on ?_;unfold xq4;rw [ho];exact List.mem_map.2 ⟨e, List.mem_filter.2 ⟨by simpa using he, hb⟩, rfl⟩
 case hwait =>
  have hlt : i < ops.size := by
   obtain ⟨_, o, ho, _⟩ := mem_ready.1 hi;exact (Array.getElem?_eq_some_iff.1 ho).1
  omega
 case hfin =>
  obtain ⟨⟨hs, hl⟩, hSw, _, vals, rfl, hv⟩ := hj;rw [yjr hall, haF];refine hfin vals w' hSw (fun k hk => hv k hk (hall k hk)) l hs fun k => ?_
  rcases Nat.lt_or_ge k m with h | h
  · rw [hall k h, decide_eq_true h]
  · rw [hl k h, decide_eq_false (by omega)]
 case hstep =>
  obtain ⟨⟨hs, hl⟩, hSw, hdn, vals, rfl, hv⟩ := hj;obtain ⟨o, ho, hdst, hlt, hg, hsel, hlow, hdist, hops⟩ := xwi (hat i h1);have hu : l.getD i false = false := by
   have h2 := (mem_ready.1 hi).1;have h3 : i < l.size := by omega
   simp only [Array.getD_eq_getD_getElem?] at h2 ⊢;rw [Array.getElem?_eq_getElem h3] at h2 ⊢
   simpa using h2
  have hdep : ∀ e ∈ xq4 ops i, l.getD e false = true := fun e he => xzf hi he
  have heval : ∀ x ∈ o.op.operands, (fill (dAt ds) vals l a m).eval x = (aF vals).eval x := fun x hx => by
   rw [← haF vals];exact yqi fun k hk hk2 d hd hxd => by
    rw [hdep k (hops x hx d hxd k hk hd)] at hk2;cases hk2
  have hrun := hop i h1 o ho vals w' hSw (fun e he => hv e (by have := hlow e he; omega) (hdep e he))
   (fun a2 w2 => a2.defers = (aF vals).defers ∧ R w' w2 ∧ Φ i (slotV (dAt ds i) a2) w2)
   (fun a2 w2 h1 h2 h3 => ⟨h1, h2, h3⟩)
  have next : ∀ v v' w2, R w' w2 → Φ i v w2 → (dAt ds i ≠ none → v = v') →
   J (l.setIfInBounds i true) ((fill (dAt ds) vals l a m).put o.dst v') w2 := fun v v' w2 hb hphi hvv => by
   have hne : ∀ k, k ≠ i → (l.setIfInBounds i true).getD k false = l.getD k false := fun k hk => xzv (Ne.symm hk) _
   refine ⟨⟨by simpa using hs, fun k hk => by rw [hne k (by omega)]; exact hl k hk⟩, hSb _ _ hb hSw, fun k hk hk2 e he => ?_, upd vals i v, ?_, fun k hk hk2 => ?_⟩
   · by_cases hki : k = i
     · subst hki;rw [hne e (by have := hlow e he; omega)];exact hdep e he
     · rw [hne k hki] at hk2;by_cases hei : e = i
       · subst hei;exact xvo (by omega) _
       · rw [hne e hei];exact hdn k hk hk2 e he
   · rw [hdst];have h4 := yjq (D := dAt ds) (vals := vals) (l := l) (a := a) (i := i) (v := v) (by omega) hu h1 fun j hj hji d hd hdi2 => hdist j hj hji d hdi2 hd
     rw [← h4];cases hd : dAt ds i with
     | none => rfl
     | some d => rw [hvv (by rw [hd]; simp)]
   · by_cases hki : k = i
     · subst hki;rw [show upd vals k v k = v from if_pos rfl];exact hphi
     · rw [hne k hki] at hk2;rw [show upd vals i v k = vals k from if_neg hki];exact hΦb _ _ _ _ hb hSw (hv k hk hk2)
  unfold wpOp;rw [ho];simp only [];rw [if_pos (by unfold Region.wanted; rw [hg])];refine .inl ?_;unfold Oper.wp at hrun ⊢;rw [execOp_congr o hsel heval];generalize (execOp (aF vals).eval o).run P w' = r at hrun ⊢;have hdef : (aF vals).defers = (fill (dAt ds) vals l a m).defers := by rw [← haF vals, xzj, xvx]
  have hput : ∀ v, dAt ds i ≠ none → slotV (dAt ds i) ((aF vals).put o.dst v) = v := fun v hd => by
   rw [hdst];cases hq : dAt ds i with
   | none => exact absurd hq hd
   | some d => exact yjn _ _ _ (by rw [← haF vals, xzp]; exact hlt d hq)
  cases r with
  | ok n w2 =>
   cases n <;> simp only [Oper.upon] at hrun ⊢
   case value v => exact next _ _ _ hrun.2.1 hrun.2.2 (hput v)
   case skip => exact next _ _ _ hrun.2.1 hrun.2.2 (hput _)
   case defer d =>
    exfalso
    have := hrun.1;rw [xz9] at this;have := congrArg List.length this;simp at this
   case enter f args =>
    refine Calls.mono hrun fun e w3 he => ?_
    cases e with
    | returned v => simp only at he ⊢; exact next _ _ _ he.2.1 he.2.2 (hput v)
    | panicked c => exact hQ _ _ _ _ hdef he
    | outgrown => exact he
   case row r args =>
    refine Rows.mono hrun fun v w3 he => ?_
    exact next _ _ _ he.2.1 he.2.2 (hput v)
  | halt x w2 =>
   cases x <;> simp only [Oper.upon] at hrun ⊢ <;> exact hQ _ _ _ _ hdef hrun
end
/-! Stores of single cells into blocks of the call's own: rows: the block, what it held, what it will hold. -/
section
variable {T : TypeId} {rows : List (Nat × Array Value × Array Value)} {w0 wS wx wy : World}
end
abbrev tkC (k : Int) (s : ByteArray) (a : Int) : Array Value := #[.int .i64 k, .string s, .int .i64 a]
def tkV (t : Tk) : Array Value := tkC (t.1 : Int) (strOf t.2.1) (t.2.2 : Int)
def xv7 (ts : List Tk) : List Value := ts.flatMap fun t => (tkV t).toList
theorem tkCells_snoc (ts : List Tk) (t : Tk) : xv7 (ts ++ [t]) = xv7 ts ++ (tkV t).toList := by simp [xv7]
theorem tkCells_at : ∀ {ts : List Tk} {i : Nat} {t : Tk}, ts[i]? = some t → ∀ j v, (tkV t)[j]? = some v → (xv7 ts)[i * 3 + j]? = some v
 | [], i, t, h, _, _, _ => by simp at h
 | u :: ts, 0, t, h, j, v, hj => by
  obtain rfl : u = t := by simpa using h
  have hl : j < 3 := by
   rcases Nat.lt_or_ge j 3 with h1 | h1
   · exact h1
   · simp [tkV, Array.getElem?_eq_none (show (#[Value.int .i64 (u.1 : Int), .string (strOf u.2.1), .int .i64 (u.2.2 : Int)] : Array Value).size ≤ j from h1)] at hj
  show ((tkV u).toList ++ xv7 ts)[0 * 3 + j]? = some v;rw [Nat.zero_mul, Nat.zero_add, List.getElem?_append_left (by simpa [tkV] using hl)]
  simpa using hj
 | u :: ts, i + 1, t, h, j, v, hj => by
  have := tkCells_at (ts := ts) (i := i) (t := t) (by simpa using h) j v hj;show ((tkV u).toList ++ xv7 ts)[(i + 1) * 3 + j]? = some v;rw [List.getElem?_append_right (by simp [tkV]; omega), show (i + 1) * 3 + j - (tkV u).toList.length = i * 3 + j by simp [tkV]; omega];exact this
theorem toks_elem : Elem Tryz.prog 69 109 3 := zjc Tryz.underlying69 (v := .agg #[.int .i64 0, .string ⟨#[]⟩, .int .i64 0]) (b := 32) (by kernel_rfl) rfl (by decide) (by decide)
theorem ywg : (Tryz.prog.info? 109).map (·.size) = some 3 := by kernel_rfl
theorem manyTk (k : Int) (s : ByteArray) (a : Int) : xq7 Tryz.prog 109 (tkC k s a).size := ⟨ywg, _, Tryz.underlying109, rfl⟩
def TokR (w : World) (A : Option Addr) (n c : Nat) (ts : List Tk) : Prop := n = ts.length ∧ n ≤ c ∧ ∃ B, OwnR w B 109 3 A n c (xv7 ts)
theorem TokR.at {w : World} {A : Option Addr} {n c : Nat} {ts : List Tk} (h : TokR w A n c ts) {i : Nat} {t : Tk} (hi : ts[i]? = some t) : ∃ g, A = some ⟨g, 0, none⟩ ∧ g < w.heap.size ∧ c ≤ maxLen ∧ InV w g (i * 3) (tkV t) := by
 obtain ⟨h1, h2, B, h3⟩ := h;have hlt : i < ts.length := (List.getElem?_eq_some_iff.1 hi).1;obtain ⟨g, e, _, h4, _, h5, h6⟩ := h3.cells (by omega);exact ⟨g, e, h4, h5, fun j v hj => h6 _ _ (tkCells_at hi j v hj)⟩
theorem TokR.nil (w : World) : TokR w none 0 0 [] := ⟨rfl, Nat.le_refl _, 0, OwnR.nil _ _ _ _⟩
section
variable {P : Program} {Q : Exit → Act → World → Prop}
def yvq (P : Program) (Q : Exit → Act → World → Prop) (ops : Array Oper) (ds : List (Option Tmp)) (aF : (Nat → Value) → Act) (R : Nat → World → World → Prop) (S : (Nat → Bool) → World → Prop) (Φ : Nat → Value → World → Prop) (i : Nat) (o : Oper) : Prop :=
 ∀ (vals : Nat → Value) (w : World) (l : Nat → Bool), l i = false → S l w → (∀ e ∈ xq4 ops i, Φ e (vals e) w) → ∀ K : Act → World → Prop,
  (∀ a' w', a'.defers = (aF vals).defers → R i w w' → Φ i (slotV (dAt ds i) a') w' → K a' w') → o.wp P (aF vals) w K Q
theorem ywi {id : Nat} {a : Act} {w : World} {os : List Oper} (m r : Nat) (ds : List (Option Tmp)) (aF : (Nat → Value) → Act) (R : Nat → World → World → Prop) (S : (Nat → Bool) → World → Prop) (Φ : Nat → Value → World → Prop)
 (hm : P.follows .mixedOrders = true)
 (haF : ∀ vals, xqx (dAt ds) vals a m = aF vals)
 (hr : os.length = m + r)
 (hok : (List.range m).all (okAtR os.toArray m ds a.tmps.size) = true)
 (hend : (List.range os.length).all (fun i => decide (i < m) || (List.range m).all fun k => (anc os.toArray 3 i).contains k) = true)
 (hQ : ∀ c (t t' : Array Value) (d : List Deferred) w, Q (.panic c) ⟨t, d⟩ w → Q (.panic c) ⟨t', d⟩ w)
 (hSb : ∀ i (l : Nat → Bool) w w', i < m → l i = false → R i w w' → S l w → S (fun k => if k = i then true else l k) w')
 (hΦb : ∀ i k v w w', i < m → i ≠ k → R i w w' → Φ k v w → Φ k v w')
 (hS : S (fun _ => false) w.drew)
 (hop : AllAt (yvq P Q os.toArray ds aF R S Φ) 0 os m)
 (hfin : ∀ (vals : Nat → Value) (w : World) (l : Nat → Bool), (∀ k, k < m → l k = true) → S l w → (∀ k, k < m → Φ k (vals k) w) → wpAny P .any os.toArray Q r (ywq (m + r) m) (aF vals) w) :
 (Code.region id os.toArray true).wp P Q a w := by
 generalize hops : os.toArray = ops at *;have hsz0 : ops.size = m + r := by rw [← hops]; simpa using hr
 replace hend : (List.range ops.size).all (fun i => decide (i < m) || (List.range m).all fun k => (anc ops 3 i).contains k) = true := by rw [hsz0, ← hr]; exact hend
 have hle : m ≤ ops.size := by omega
 replace hop : ∀ i, i < m → ∀ o, ops[i]? = some o → yvq P Q ops ds aF R S Φ i o := fun i hi o ho => by
  have := hop.at i hi o (by rw [← hops] at ho; simpa using ho)
  rwa [Nat.zero_add] at this
 replace hfin : ∀ (vals : Nat → Value) (w : World) (z : Nat → Bool), (∀ k, k < m → z k = true) → S z w → (∀ k, k < m → Φ k (vals k) w) →
  ∀ l : Array Bool, l.size = ops.size → (∀ k, l.getD k false = decide (k < m)) → wpAny P .any ops Q (ops.size - m) l (aF vals) w := fun vals w z h0 h1 h2 l h4 h5 => by
  rw [yjh (h4.trans hsz0) (by omega) h5, show ops.size - m = r by omega];exact hfin vals w z h0 h1 h2
 replace hQ : ∀ c (a a' : Act) w, a.defers = a'.defers → Q (.panic c) a w → Q (.panic c) a' w := by
  rintro c ⟨t, d⟩ ⟨t', d'⟩ w he h;obtain rfl : d = d' := he;exact hQ c t t' d w h
 refine wp_region_any hm ?_;have hat : ∀ i, i < m → okAtR ops m ds a.tmps.size i = true := fun i hi => List.all_eq_true.1 hok i (List.mem_range.2 hi)
 have hlate : ∀ i, m ≤ i → i < ops.size → ∀ k, k < m → k ∈ anc ops 3 i := fun i h1 h2 k hk => by
  have := List.all_eq_true.1 hend i (List.mem_range.2 h2);simp only [Bool.or_eq_true, decide_eq_true_eq, List.all_eq_true, List.mem_range, List.contains_iff_mem] at this;exact (this.resolve_left (by omega)) k hk
 have hfr : ∀ (l : Array Bool), l = Array.replicate ops.size false → ∀ k, l.getD k false = false := by
  rintro l rfl k;simp only [Array.getD_eq_getD_getElem?, Array.getElem?_replicate]
  split <;> rfl
 let J : Array Bool → Act → World → Prop := fun l a' w' => (l.size = ops.size ∧ ∀ k, m ≤ k → l.getD k false = false) ∧ S (fun k => l.getD k false) w' ∧ (∀ k, k < m → l.getD k false = true → ∀ e ∈ xq4 ops k, l.getD e false = true) ∧
  ∃ vals, a' = fill (dAt ds) vals l a m ∧ (∀ k, k < m → l.getD k false = true → Φ k (vals k) w')
 have hdown : ∀ l a' w', J l a' w' → ∀ k, l.getD k false = true → ∀ e ∈ xq4 ops k, l.getD e false = true := fun l a' w' hj k hk => by
  rcases Nat.lt_or_ge k m with h1 | h1
  · exact hj.2.2.1 k h1 hk
  · rw [hj.1.2 k h1] at hk;cases hk
 have hz : ∀ j, j ≤ m → left (Array.replicate ops.size false) j = j := fun j => by
  induction j with
  | zero => exact fun _ => rfl
  | succ j ihj => exact fun h => by unfold left; rw [ihj (by omega), hfr _ rfl j]; rfl
 have key := yq0 (P := P) (ops := ops) (Q := Q) (md := .any) m J (fun l a' w' hj => hj.1) hle (fun i o h1 ho e he hb => ?hback) (fun l a' w' i hj hi h1 => ?hstep) (fun l a' w' i hj hi h1 k hk => ?hwait) (fun l a' w' hj hall => ?hfin)
  m (Array.replicate ops.size false) a w.drew (hz m (Nat.le_refl _)) ⟨⟨by simp, fun k _ => hfr _ rfl k⟩, (by rw [show (fun k => (Array.replicate ops.size false).getD k false) = fun _ => false from funext fun k => hfr _ rfl k]; exact hS), fun k _ h => (by rw [hfr _ rfl k] at h; cases h),
   fun _ => undef, (yqh fun k _ => hfr _ rfl k).symm, fun k _ h => (by rw [hfr _ rfl k] at h; cases h)⟩
 · have e : ops.size - m + m = ops.size := by omega
   rw [e] at key;exact key
 case hback =>
  obtain ⟨_, _, _, _, _, _, hlow, _, _⟩ := xwi (hat i h1);refine hlow e.on ?_;unfold xq4;rw [ho];exact List.mem_map.2 ⟨e, List.mem_filter.2 ⟨by simpa using he, hb⟩, rfl⟩
 case hwait =>
  have hlt : i < ops.size := by
   obtain ⟨_, o, ho, _⟩ := mem_ready.1 hi;exact (Array.getElem?_eq_some_iff.1 ho).1
  exact anc_up (hdown l a' w' hj) 3 i (fun e he => xzf hi he) k (hlate i h1 hlt k hk)
 case hfin =>
  obtain ⟨⟨hs, hl⟩, hSw, _, vals, rfl, hv⟩ := hj;rw [yjr hall, haF];refine hfin vals w' _ hall hSw (fun k hk => hv k hk (hall k hk)) l hs fun k => ?_
  rcases Nat.lt_or_ge k m with h | h
  · rw [hall k h, decide_eq_true h]
  · rw [hl k h, decide_eq_false (by omega)]
 case hstep =>
  obtain ⟨⟨hs, hl⟩, hSw, hdn, vals, rfl, hv⟩ := hj;obtain ⟨o, ho, hdst, hlt, hg, hsel, hlow, hdist, hops⟩ := xwi (hat i h1);have hu : l.getD i false = false := by
   have h2 := (mem_ready.1 hi).1;have h3 : i < l.size := by omega
   simp only [Array.getD_eq_getD_getElem?] at h2 ⊢;rw [Array.getElem?_eq_getElem h3] at h2 ⊢
   simpa using h2
  have hdep : ∀ e ∈ xq4 ops i, l.getD e false = true := fun e he => xzf hi he
  have heval : ∀ x ∈ o.op.operands, (fill (dAt ds) vals l a m).eval x = (aF vals).eval x := fun x hx => by
   rw [← haF vals];exact yqi fun k hk hk2 d hd hxd => by
    rw [hdep k (hops x hx d hxd k hk hd)] at hk2;cases hk2
  have hrun := hop i h1 o ho vals w' _ hu hSw (fun e he => hv e (by have := hlow e he; omega) (hdep e he))
   (fun a2 w2 => a2.defers = (aF vals).defers ∧ R i w' w2 ∧ Φ i (slotV (dAt ds i) a2) w2)
   (fun a2 w2 h1 h2 h3 => ⟨h1, h2, h3⟩)
  have next : ∀ v v' w2, R i w' w2 → Φ i v w2 → (dAt ds i ≠ none → v = v') →
   J (l.setIfInBounds i true) ((fill (dAt ds) vals l a m).put o.dst v') w2 := fun v v' w2 hb hphi hvv => by
   have hne : ∀ k, k ≠ i → (l.setIfInBounds i true).getD k false = l.getD k false := fun k hk => xzv (Ne.symm hk) _
   refine ⟨⟨by simpa using hs, fun k hk => by rw [hne k (by omega)]; exact hl k hk⟩, (by
    have h9 := hSb i _ _ _ h1 hu hb hSw;have e9 : (fun k => if k = i then true else l.getD k false) = fun k => (l.setIfInBounds i true).getD k false := funext fun k => by
     by_cases hk : k = i
     · subst hk; rw [if_pos rfl, xvo (by omega)]
     · rw [if_neg hk, hne k hk]
    rw [← e9]; exact h9), fun k hk hk2 e he => ?_, upd vals i v, ?_, fun k hk hk2 => ?_⟩
   · by_cases hki : k = i
     · subst hki;rw [hne e (by have := hlow e he; omega)];exact hdep e he
     · rw [hne k hki] at hk2;by_cases hei : e = i
       · subst hei;exact xvo (by omega) _
       · rw [hne e hei];exact hdn k hk hk2 e he
   · rw [hdst];have h4 := yjq (D := dAt ds) (vals := vals) (l := l) (a := a) (i := i) (v := v) (by omega) hu h1 fun j hj hji d hd hdi2 => hdist j hj hji d hdi2 hd
     rw [← h4];cases hd : dAt ds i with
     | none => rfl
     | some d => rw [hvv (by rw [hd]; simp)]
   · by_cases hki : k = i
     · subst hki;rw [show upd vals k v k = v from if_pos rfl];exact hphi
     · rw [hne k hki] at hk2;rw [show upd vals i v k = vals k from if_neg hki];exact hΦb i _ _ _ _ h1 (Ne.symm hki) hb (hv k hk hk2)
  unfold wpOp;rw [ho];simp only [];rw [if_pos (by unfold Region.wanted; rw [hg])];refine .inl ?_;unfold Oper.wp at hrun ⊢;rw [execOp_congr o hsel heval];generalize (execOp (aF vals).eval o).run P w' = r at hrun ⊢;have hdef : (aF vals).defers = (fill (dAt ds) vals l a m).defers := by rw [← haF vals, xzj, xvx]
  have hput : ∀ v, dAt ds i ≠ none → slotV (dAt ds i) ((aF vals).put o.dst v) = v := fun v hd => by
   rw [hdst];cases hq : dAt ds i with
   | none => exact absurd hq hd
   | some d => exact yjn _ _ _ (by rw [← haF vals, xzp]; exact hlt d hq)
  cases r with
  | ok n w2 =>
   cases n <;> simp only [Oper.upon] at hrun ⊢
   case value v => exact next _ _ _ hrun.2.1 hrun.2.2 (hput v)
   case skip => exact next _ _ _ hrun.2.1 hrun.2.2 (hput _)
   case defer d =>
    exfalso
    have := hrun.1;rw [xz9] at this;have := congrArg List.length this;simp at this
   case enter f args =>
    refine Calls.mono hrun fun e w3 he => ?_
    cases e with
    | returned v => simp only at he ⊢; exact next _ _ _ he.2.1 he.2.2 (hput v)
    | panicked c => exact hQ _ _ _ _ hdef he
    | outgrown => exact he
   case row r args =>
    refine Rows.mono hrun fun v w3 he => ?_
    exact next _ _ _ he.2.1 he.2.2 (hput v)
  | halt x w2 =>
   cases x <;> simp only [Oper.upon] at hrun ⊢ <;> exact hQ _ _ _ _ hdef hrun
end
section
variable {P : Program} {Q : Exit → Act → World → Prop}
theorem xwv {id : Nat} {a : Act} {w : World} {os : List Oper} (m r D : Nat) (ds : List (Option Tmp)) (aF : (Nat → Value) → Act) (R : Nat → World → World → Prop) (S : (Nat → Bool) → World → Prop) (Φ : Nat → Value → World → Prop)
 (hm : P.follows .mixedOrders = true)
 (haF : ∀ vals, xqx (dAt ds) vals a m = aF vals)
 (hr : os.length = m + r)
 (hok : (List.range m).all (okAtR os.toArray m ds a.tmps.size) = true)
 (hend : (List.range os.length).all (fun i => decide (i < m) || (List.range m).all fun k => (anc os.toArray D i).contains k) = true)
 (hQ : ∀ c (t t' : Array Value) (d : List Deferred) w, Q (.panic c) ⟨t, d⟩ w → Q (.panic c) ⟨t', d⟩ w)
 (hSb : ∀ i (l : Nat → Bool) w w', i < m → l i = false → R i w w' → S l w → S (fun k => if k = i then true else l k) w')
 (hΦb : ∀ i k v w w', i < m → i ≠ k → R i w w' → Φ k v w → Φ k v w')
 (hS : S (fun _ => false) w.drew)
 (hop : AllAt (yvq P Q os.toArray ds aF R S Φ) 0 os m)
 (hfin : ∀ (vals : Nat → Value) (w : World) (l : Nat → Bool), (∀ k, k < m → l k = true) → S l w → (∀ k, k < m → Φ k (vals k) w) → wpAny P .any os.toArray Q r (ywq (m + r) m) (aF vals) w) :
 (Code.region id os.toArray true).wp P Q a w := by
 generalize hops : os.toArray = ops at *;have hsz0 : ops.size = m + r := by rw [← hops]; simpa using hr
 replace hend : (List.range ops.size).all (fun i => decide (i < m) || (List.range m).all fun k => (anc ops D i).contains k) = true := by rw [hsz0, ← hr]; exact hend
 have hle : m ≤ ops.size := by omega
 replace hop : ∀ i, i < m → ∀ o, ops[i]? = some o → yvq P Q ops ds aF R S Φ i o := fun i hi o ho => by
  have := hop.at i hi o (by rw [← hops] at ho; simpa using ho)
  rwa [Nat.zero_add] at this
 replace hfin : ∀ (vals : Nat → Value) (w : World) (z : Nat → Bool), (∀ k, k < m → z k = true) → S z w → (∀ k, k < m → Φ k (vals k) w) →
  ∀ l : Array Bool, l.size = ops.size → (∀ k, l.getD k false = decide (k < m)) → wpAny P .any ops Q (ops.size - m) l (aF vals) w := fun vals w z h0 h1 h2 l h4 h5 => by
  rw [yjh (h4.trans hsz0) (by omega) h5, show ops.size - m = r by omega];exact hfin vals w z h0 h1 h2
 replace hQ : ∀ c (a a' : Act) w, a.defers = a'.defers → Q (.panic c) a w → Q (.panic c) a' w := by
  rintro c ⟨t, d⟩ ⟨t', d'⟩ w he h;obtain rfl : d = d' := he;exact hQ c t t' d w h
 refine wp_region_any hm ?_;have hat : ∀ i, i < m → okAtR ops m ds a.tmps.size i = true := fun i hi => List.all_eq_true.1 hok i (List.mem_range.2 hi)
 have hlate : ∀ i, m ≤ i → i < ops.size → ∀ k, k < m → k ∈ anc ops D i := fun i h1 h2 k hk => by
  have := List.all_eq_true.1 hend i (List.mem_range.2 h2);simp only [Bool.or_eq_true, decide_eq_true_eq, List.all_eq_true, List.mem_range, List.contains_iff_mem] at this;exact (this.resolve_left (by omega)) k hk
 have hfr : ∀ (l : Array Bool), l = Array.replicate ops.size false → ∀ k, l.getD k false = false := by
  rintro l rfl k;simp only [Array.getD_eq_getD_getElem?, Array.getElem?_replicate]
  split <;> rfl
 let J : Array Bool → Act → World → Prop := fun l a' w' => (l.size = ops.size ∧ ∀ k, m ≤ k → l.getD k false = false) ∧ S (fun k => l.getD k false) w' ∧ (∀ k, k < m → l.getD k false = true → ∀ e ∈ xq4 ops k, l.getD e false = true) ∧
  ∃ vals, a' = fill (dAt ds) vals l a m ∧ (∀ k, k < m → l.getD k false = true → Φ k (vals k) w')
 have hdown : ∀ l a' w', J l a' w' → ∀ k, l.getD k false = true → ∀ e ∈ xq4 ops k, l.getD e false = true := fun l a' w' hj k hk => by
  rcases Nat.lt_or_ge k m with h1 | h1
  · exact hj.2.2.1 k h1 hk
  · rw [hj.1.2 k h1] at hk;cases hk
 have hz : ∀ j, j ≤ m → left (Array.replicate ops.size false) j = j := fun j => by
  induction j with
  | zero => exact fun _ => rfl
  | succ j ihj => exact fun h => by unfold left; rw [ihj (by omega), hfr _ rfl j]; rfl
 have key := yq0 (P := P) (ops := ops) (Q := Q) (md := .any) m J (fun l a' w' hj => hj.1) hle (fun i o h1 ho e he hb => ?hback) (fun l a' w' i hj hi h1 => ?hstep) (fun l a' w' i hj hi h1 k hk => ?hwait) (fun l a' w' hj hall => ?hfin)
  m (Array.replicate ops.size false) a w.drew (hz m (Nat.le_refl _)) ⟨⟨by simp, fun k _ => hfr _ rfl k⟩, (by rw [show (fun k => (Array.replicate ops.size false).getD k false) = fun _ => false from funext fun k => hfr _ rfl k]; exact hS), fun k _ h => (by rw [hfr _ rfl k] at h; cases h),
   fun _ => undef, (yqh fun k _ => hfr _ rfl k).symm, fun k _ h => (by rw [hfr _ rfl k] at h; cases h)⟩
 · have e : ops.size - m + m = ops.size := by omega
   rw [e] at key;exact key
 case hback =>
  obtain ⟨_, _, _, _, _, _, hlow, _, _⟩ := xwi (hat i h1);refine hlow e.on ?_;unfold xq4;rw [ho];exact List.mem_map.2 ⟨e, List.mem_filter.2 ⟨by simpa using he, hb⟩, rfl⟩
 case hwait =>
  have hlt : i < ops.size := by
   obtain ⟨_, o, ho, _⟩ := mem_ready.1 hi;exact (Array.getElem?_eq_some_iff.1 ho).1
  exact anc_up (hdown l a' w' hj) D i (fun e he => xzf hi he) k (hlate i h1 hlt k hk)
 case hfin =>
  obtain ⟨⟨hs, hl⟩, hSw, _, vals, rfl, hv⟩ := hj;rw [yjr hall, haF];refine hfin vals w' _ hall hSw (fun k hk => hv k hk (hall k hk)) l hs fun k => ?_
  rcases Nat.lt_or_ge k m with h | h
  · rw [hall k h, decide_eq_true h]
  · rw [hl k h, decide_eq_false (by omega)]
 case hstep =>
  obtain ⟨⟨hs, hl⟩, hSw, hdn, vals, rfl, hv⟩ := hj;obtain ⟨o, ho, hdst, hlt, hg, hsel, hlow, hdist, hops⟩ := xwi (hat i h1);have hu : l.getD i false = false := by
   have h2 := (mem_ready.1 hi).1;have h3 : i < l.size := by omega
   simp only [Array.getD_eq_getD_getElem?] at h2 ⊢;rw [Array.getElem?_eq_getElem h3] at h2 ⊢
   simpa using h2
  have hdep : ∀ e ∈ xq4 ops i, l.getD e false = true := fun e he => xzf hi he
  have heval : ∀ x ∈ o.op.operands, (fill (dAt ds) vals l a m).eval x = (aF vals).eval x := fun x hx => by
   rw [← haF vals];exact yqi fun k hk hk2 d hd hxd => by
    rw [hdep k (hops x hx d hxd k hk hd)] at hk2;cases hk2
  have hrun := hop i h1 o ho vals w' _ hu hSw (fun e he => hv e (by have := hlow e he; omega) (hdep e he))
   (fun a2 w2 => a2.defers = (aF vals).defers ∧ R i w' w2 ∧ Φ i (slotV (dAt ds i) a2) w2)
   (fun a2 w2 h1 h2 h3 => ⟨h1, h2, h3⟩)
  have next : ∀ v v' w2, R i w' w2 → Φ i v w2 → (dAt ds i ≠ none → v = v') →
   J (l.setIfInBounds i true) ((fill (dAt ds) vals l a m).put o.dst v') w2 := fun v v' w2 hb hphi hvv => by
   have hne : ∀ k, k ≠ i → (l.setIfInBounds i true).getD k false = l.getD k false := fun k hk => xzv (Ne.symm hk) _
   refine ⟨⟨by simpa using hs, fun k hk => by rw [hne k (by omega)]; exact hl k hk⟩, (by
    have h9 := hSb i _ _ _ h1 hu hb hSw;have e9 : (fun k => if k = i then true else l.getD k false) = fun k => (l.setIfInBounds i true).getD k false := funext fun k => by
     by_cases hk : k = i
     · subst hk; rw [if_pos rfl, xvo (by omega)]
     · rw [if_neg hk, hne k hk]
    rw [← e9]; exact h9), fun k hk hk2 e he => ?_, upd vals i v, ?_, fun k hk hk2 => ?_⟩
   · by_cases hki : k = i
     · subst hki;rw [hne e (by have := hlow e he; omega)];exact hdep e he
     · rw [hne k hki] at hk2;by_cases hei : e = i
       · subst hei;exact xvo (by omega) _
       · rw [hne e hei];exact hdn k hk hk2 e he
   · rw [hdst];have h4 := yjq (D := dAt ds) (vals := vals) (l := l) (a := a) (i := i) (v := v) (by omega) hu h1 fun j hj hji d hd hdi2 => hdist j hj hji d hdi2 hd
     rw [← h4];cases hd : dAt ds i with
     | none => rfl
     | some d => rw [hvv (by rw [hd]; simp)]
   · by_cases hki : k = i
     · subst hki;rw [show upd vals k v k = v from if_pos rfl];exact hphi
     · rw [hne k hki] at hk2;rw [show upd vals i v k = vals k from if_neg hki];exact hΦb i _ _ _ _ h1 (Ne.symm hki) hb (hv k hk hk2)
  unfold wpOp;rw [ho];simp only [];rw [if_pos (by unfold Region.wanted; rw [hg])];refine .inl ?_;unfold Oper.wp at hrun ⊢;rw [execOp_congr o hsel heval];generalize (execOp (aF vals).eval o).run P w' = r at hrun ⊢;have hdef : (aF vals).defers = (fill (dAt ds) vals l a m).defers := by rw [← haF vals, xzj, xvx]
  have hput : ∀ v, dAt ds i ≠ none → slotV (dAt ds i) ((aF vals).put o.dst v) = v := fun v hd => by
   rw [hdst];cases hq : dAt ds i with
   | none => exact absurd hq hd
   | some d => exact yjn _ _ _ (by rw [← haF vals, xzp]; exact hlt d hq)
  cases r with
  | ok n w2 =>
   cases n <;> simp only [Oper.upon] at hrun ⊢
   case value v => exact next _ _ _ hrun.2.1 hrun.2.2 (hput v)
   case skip => exact next _ _ _ hrun.2.1 hrun.2.2 (hput _)
   case defer d =>
    exfalso
    have := hrun.1;rw [xz9] at this;have := congrArg List.length this;simp at this
   case enter f args =>
    refine Calls.mono hrun fun e w3 he => ?_
    cases e with
    | returned v => simp only at he ⊢; exact next _ _ _ he.2.1 he.2.2 (hput v)
    | panicked c => exact hQ _ _ _ _ hdef he
    | outgrown => exact he
   case row r args =>
    refine Rows.mono hrun fun v w3 he => ?_
    exact next _ _ _ he.2.1 he.2.2 (hput v)
  | halt x w2 =>
   cases x <;> simp only [Oper.upon] at hrun ⊢ <;> exact hQ _ _ _ _ hdef hrun
end
end Go.Proofs.YtannifhcjcbkcaaGreatDoor
namespace Go.Proofs.YtannifhcjcbkcaaGreatDoor
open Go.ChangeShapes Go.WideShapes Go.ChangeAt Go.RowKit Limb
open Lib (hid)
theorem own : ownKnob Tryz.prog.godebug = none := by kernel_rfl
end Go.Proofs.YtannifhcjcbkcaaGreatDoor
