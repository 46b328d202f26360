/- Part 4 of the texts that the statements of this seat lean on: mathematics, and what functions answer, as contracts over memory; each part says its own conditions. -/
import Derived.Test.YtheaepceghnkpaaGreatDoorM3
/- Mathematics of the grammar: two readings of tokens that are alike but for their places, one under limits that are not greater and with more nodes made: they tell the same, or the first one is over a limit. No condition. -/
namespace Go.Proofs.YtheaepceghnkpaaGreatDoor
open Go.RowKit Limb
set_option linter.unusedVariables false
inductive All2 {α β : Type} (R : α → β → Prop) : List α → List β → Prop where
  | nil : All2 R [] []
  | cons {a : α} {b : β} {l : List α} {m : List β} : R a b → All2 R l m → All2 R (a :: l) (b :: m)
theorem All2.len {α β : Type} {R : α → β → Prop} {l : List α} {m : List β} (h : All2 R l m) : l.length = m.length := by
 induction h with
 | nil => rfl
 | cons _ _ ih => rw [List.length_cons, List.length_cons, ih]
theorem All2.app {α β : Type} {R : α → β → Prop} {l l2 : List α} {m m2 : List β} (h : All2 R l m) (k : All2 R l2 m2) : All2 R (l ++ l2) (m ++ m2) := by
 induction h with
 | nil => exact k
 | cons h1 _ ih => exact .cons h1 ih
theorem All2.map {α β : Type} {R : α → β → Prop} {f : α → α} {g : β → β} (hf : ∀ a b, R a b → R (f a) (g b)) {l : List α} {m : List β} (h : All2 R l m) : All2 R (l.map f) (m.map g) := by
 induction h with
 | nil => exact .nil
 | cons h1 _ ih => exact .cons (hf _ _ h1) ih
theorem All2.refl {α : Type} {R : α → α → Prop} (hr : ∀ a, R a a) (l : List α) : All2 R l l := by
 induction l with
 | nil => exact .nil
 | cons a l ih => exact .cons (hr a) ih
theorem All2.eq {α : Type} {R : α → α → Prop} (hr : ∀ a b, R a b → a = b) {l m : List α} (h : All2 R l m) : l = m := by
 induction h with
 | nil => rfl
 | cons h1 _ ih => rw [hr _ _ h1, ih]
theorem All2.one {α β : Type} {R : α → β → Prop} {a : α} {b : β} (h : R a b) : All2 R [a] [b] := .cons h .nil
def TkR (P : Nat → Nat → Prop) (a b : Tk) : Prop := a.1 = b.1 ∧ a.2.1 = b.2.1 ∧ P a.2.2 b.2.2
def NdQ (P : Nat → Nat → Prop) (x y : Nd) : Prop := bareN x = bareN y ∧ ∃ a b : Nat, x.p = (a : Int) ∧ y.p = (b : Int) ∧ P a b
def TrQ (P : Nat → Nat → Prop) : List Nd → List Nd → Prop := All2 (NdQ P)
def PaQ {α : Type} (P : Nat → Nat → Prop) (R : α → α → Prop) (d : Nat) (r r' : PaR α) : Prop :=
 (∃ p, r = .bad 2 p) ∨ (∃ a q m a' q', r = .ok a q (m + d) ∧ r' = .ok a' q' m ∧ R a a' ∧ All2 (TkR P) q q') ∨ ∃ e p p', r = .bad e p ∧ r' = .bad e p'
theorem PaQ.next {α β : Type} {P : Nat → Nat → Prop} {R : α → α → Prop} {S : β → β → Prop} {d : Nat} {r r' : PaR α} {f f' : α → List Tk → Nat → PaR β} (h : PaQ P R d r r') (k : ∀ a a' q q' m, R a a' → All2 (TkR P) q q' → PaQ P S d (f a q (m + d)) (f' a' q' m)) : PaQ P S d (r.next f) (r'.next f') := by
 rcases h with ⟨p, rfl⟩ | ⟨a, q, m, a', q', rfl, rfl, h1, h2⟩ | ⟨e, p, p', rfl, rfl⟩
 · exact .inl ⟨p, rfl⟩
 · exact k a a' q q' m h1 h2
 · exact .inr (.inr ⟨e, p, p', rfl, rfl⟩)
theorem PaQ.ok {α : Type} {P : Nat → Nat → Prop} {R : α → α → Prop} {d : Nat} {a a' : α} {q q' : List Tk} {m : Nat} (h : R a a') (k : All2 (TkR P) q q') : PaQ P R d (.ok a q (m + d)) (.ok a' q' m) := .inr (.inl ⟨a, q, m, a', q', rfl, rfl, h, k⟩)
theorem PaQ.bad {α : Type} {P : Nat → Nat → Prop} {R : α → α → Prop} {d : Nat} (e p p' : Nat) : PaQ P R d (.bad e p : PaR α) (.bad e p') := .inr (.inr ⟨e, p, p', rfl, rfl⟩)
theorem PaQ.lim {α : Type} {P : Nat → Nat → Prop} {R : α → α → Prop} {d : Nat} (p : Nat) (r' : PaR α) : PaQ P R d (.bad 2 p) r' := .inl ⟨p, rfl⟩
variable {P : Nat → Nat → Prop}
theorem TkR.isT {a b : Tk} (h : TkR P a b) (kd : Nat) (tx : List Nat) : isT kd tx a = isT kd tx b := by unfold Proofs.YtheaepceghnkpaaGreatDoor.isT; rw [h.1, h.2.1]
theorem next_eq {l m : List Tk} (h : All2 (TkR P) l m) (kd : Nat) (tx : List Nat) : nextT kd tx l = nextT kd tx m := by
 cases h with
 | nil => rfl
 | cons h1 _ => exact h1.isT kd tx
theorem tail_q {l m : List Tk} (h : All2 (TkR P) l m) : All2 (TkR P) l.tail m.tail := by
 cases h with
 | nil => exact .nil
 | cons _ h => exact h
theorem takeT_q (en en' kd : Nat) (tx : List Nat) (d : Nat) {l m : List Tk} (n : Nat) (h : All2 (TkR P) l m) : PaQ P (TkR P) d (takeT en kd tx l (n + d)) (takeT en' kd tx m n) := by
 cases h with
 | nil => exact .bad _ _ _
 | cons h1 h2 =>
  rw [takeT_cons, takeT_cons, h1.isT]
  split
  · exact .ok h1 h2
  · exact .bad _ _ _
theorem nameT_q (en en' : Nat) (d : Nat) {l m : List Tk} (n : Nat) (h : All2 (TkR P) l m) : PaQ P (TkR P) d (nameT en l (n + d)) (nameT en' m n) := by
 cases h with
 | nil => exact .bad _ _ _
 | cons h1 h2 =>
  rw [nameT_cons, nameT_cons, h1.1, h1.2.1]
  split
  · exact .ok h1 h2
  · exact .bad _ _ _
theorem numB_q (en en' : Nat) (s : List Nat) (d : Nat) {l m : List Tk} (n : Nat) (h : All2 (TkR P) l m) : PaQ P Eq d (numB en s l (n + d)) (numB en' s m n) := by
 unfold numB
 refine (takeT_q en en' 2 [] d n h).next fun a a' q q' k h1 h2 => ?_
 rw [next_eq h2]
 split
 · exact (takeT_q en en' 2 [] d k (tail_q h2)).next fun b b' q q' k h3 h4 => .ok (by rw [h1.2.1, h3.2.1]) h4
 · exact .ok (by rw [h1.2.1]) h2
theorem numT_q (en en' : Nat) (d : Nat) {l m : List Tk} (n : Nat) (h : All2 (TkR P) l m) : PaQ P Eq d (numT en l (n + d)) (numT en' m n) := by
 unfold numT
 rw [next_eq h]
 split
 · exact numB_q en en' _ d n (tail_q h)
 · exact numB_q en en' _ d n h
def Lim.le (L L' : Lim) : Prop := L.nodes ≤ L'.nodes ∧ L.power ≤ L'.power ∧ L.deep ≤ L'.deep
theorem madeT_q {L L' : Lim} (hL : L.le L') (d : Nat) {t t' : List Nd} (ht : TrQ P t t') (p p' : Nat) {l m : List Tk} (h : All2 (TkR P) l m) (n : Nat) : PaQ P (TrQ P) d (madeT L t p l (n + d)) (madeT L' t' p' m n) := by
 unfold madeT
 by_cases h1 : L.nodes < n + d + 1
 · rw [if_pos h1]; exact .lim _ _
 · have := hL.1
   rw [if_neg h1, if_neg (by omega), show n + d + 1 = n + 1 + d by omega]
   exact .ok ht h
theorem TrQ.len {t t' : List Nd} (h : TrQ P t t') : t.length = t'.length := All2.len h
theorem NdQ.mk' (k a b n : Int) (t u : ByteArray) {p p' : Nat} (h : P p p') : NdQ P ⟨k, a, b, n, t, u, p⟩ ⟨k, a, b, n, t, u, p'⟩ := ⟨rfl, p, p', rfl, rfl, h⟩
theorem overN_q {t t' : List Nd} (h : TrQ P t t') (k j : Int) {p p' : Nat} (hp : P p p') : TrQ P (overN k j t p) (overN k j t' p') := by
 unfold overN
 rw [h.len]
 exact All2.app h (.one (NdQ.mk' _ _ _ _ _ _ hp))
theorem shiftN_q {x y : Nd} (s : Nat) (h : NdQ P x y) : NdQ P (shiftN s x) (shiftN s y) := by
 obtain ⟨k, a, b, n, t, u, p⟩ := x
 obtain ⟨k', a', b', n', t', u', p'⟩ := y
 obtain ⟨h1, c, c', h2, h3, h4⟩ := h
 unfold bareN at h1
 simp only [Nd.mk.injEq] at h1
 obtain ⟨rfl, rfl, rfl, rfl, rfl, rfl, _⟩ := h1
 refine ⟨?_, c, c', by rw [shiftN_p]; exact h2, by rw [shiftN_p]; exact h3, h4⟩
 unfold shiftN bareN
 dsimp only
 split
 · rfl
 · split <;> rfl
theorem joinN_q {t t' u u' : List Nd} (h : TrQ P t t') (h' : TrQ P u u') (k : Int) {p p' : Nat} (hp : P p p') : TrQ P (joinN k t u p) (joinN k t' u' p') := by
 unfold joinN
 rw [h.len, h'.len]
 exact All2.app (All2.app h (All2.map (fun a b hab => shiftN_q _ hab) h')) (.one (NdQ.mk' _ _ _ _ _ _ hp))
def RdQ (P : Nat → Nat → Prop) (d : Nat) (f f' : Rdr) : Prop := ∀ l m n, All2 (TkR P) l m → PaQ P (TrQ P) d (f l (n + d)) (f' m n)
theorem powB_q {L L' : Lim} (hL : L.le L') (en en' d : Nat) {t t' : List Nd} (ht : TrQ P t t') {pa pa' : Nat} (hp : P pa pa') (sg : Bool) {l m : List Tk} (h : All2 (TkR P) l m) (n : Nat) : PaQ P (TrQ P) d (powB L en t pa sg l (n + d)) (powB L' en' t' pa' sg m n) := by
 unfold powB
 refine (takeT_q en en' 2 [] d n h).next fun x x' q q' k h1 h2 => ?_
 rw [h1.2.1]
 cases smallT x'.2.1 3 with
 | none => exact .bad _ _ _
 | some j =>
  dsimp only
  by_cases hj : L.power < j
  · rw [if_pos hj]; exact .lim _ _
  · have := hL.2.1
    rw [if_neg hj, if_neg (show ¬ L'.power < j by omega)]
    exact madeT_q hL d (overN_q ht _ _ hp) _ _ h2 k
theorem here_q {l m : List Tk} (h : All2 (TkR P) l m) (en en' : Nat) (hn : l ≠ []) : P (hereT en l) (hereT en' m) := by
 cases h with
 | nil => exact absurd rfl hn
 | cons h1 _ => exact h1.2.2
theorem nextT_ne {kd : Nat} {tx : List Nat} {l : List Tk} (h : nextT kd tx l = true) : l ≠ [] := by rintro rfl; cases h
theorem powT_q {L L' : Lim} (hL : L.le L') (en en' d : Nat) {t t' : List Nd} (ht : TrQ P t t') {l m : List Tk} (h : All2 (TkR P) l m) (n : Nat) : PaQ P (TrQ P) d (powT L en t l (n + d)) (powT L' en' t' m n) := by
 unfold powT
 by_cases h1 : nextT 3 [94] l = true
 · rw [if_pos h1, if_pos (show nextT 3 [94] m = true by rw [← next_eq h]; exact h1), next_eq (tail_q h)]
   have hp := here_q h en en' (nextT_ne h1)
   split
   · exact powB_q hL en en' d ht hp true (tail_q (tail_q h)) n
   · exact powB_q hL en en' d ht hp false (tail_q h) n
 · rw [if_neg h1, if_neg (show ¬ nextT 3 [94] m = true by rw [← next_eq h]; exact h1)]
   exact .ok ht h
theorem atomT_q {L L' : Lim} (hL : L.le L') (en en' d : Nat) {l m : List Tk} (h : All2 (TkR P) l m) (n : Nat) : PaQ P (TrQ P) d (atomT L en l (n + d)) (atomT L' en' m n) := by
 unfold atomT
 cases h with
 | nil => exact .bad _ _ _
 | @cons a b l m h1 h2 =>
  dsimp only
  rw [h1.isT]
  split
  · cases h2 with
    | nil => dsimp only; rw [h1.2.1]; exact madeT_q hL d (.one (NdQ.mk' _ _ _ _ _ _ h1.2.2)) _ _ .nil n
    | @cons c e l m h3 h4 =>
     dsimp only
     rw [h3.isT, h1.2.1, h3.2.1]
     split
     · exact madeT_q hL d (.one (NdQ.mk' _ _ _ _ _ _ h1.2.2)) _ _ h4 n
     · exact madeT_q hL d (.one (NdQ.mk' _ _ _ _ _ _ h1.2.2)) _ _ (.cons h3 h4) n
  · rw [h1.1, h1.2.1]
    split
    · exact madeT_q hL d (.one (NdQ.mk' _ _ _ _ _ _ h1.2.2)) _ _ h2 n
    · exact .bad _ _ _
theorem loopT_q {L L' : Lim} (hL : L.le L') {d : Nat} {f f' : Rdr} (hf : RdQ P d f f') {op : Tk → Option Int} (ho : ∀ a b, TkR P a b → op a = op b) : ∀ (g : Nat) {t t' : List Nd}, TrQ P t t' → ∀ {l m : List Tk}, All2 (TkR P) l m → ∀ n, PaQ P (TrQ P) d (loopT L f op g t l (n + d)) (loopT L' f' op g t' m n) := by
 intro g
 induction g with
 | zero => intro t t' ht l m h n; exact .ok ht h
 | succ g ih =>
  intro t t' ht l m h n
  cases h with
  | nil => exact .ok ht .nil
  | @cons a b l m h1 h2 =>
   unfold loopT
   rw [ho a b h1]
   cases op b with
   | none => exact .ok ht (.cons h1 h2)
   | some k =>
    dsimp only
    refine (hf l m n h2).next fun u u' q q' m2 h3 h4 => ?_
    exact (madeT_q hL d (joinN_q ht h3 k h1.2.2) _ _ h4 m2).next fun t2 t2' q q' m3 h5 h6 => ih h5 h6 m3
theorem rowT_q {L L' : Lim} (hL : L.le L') {d : Nat} {f f' : Rdr} (hf : RdQ P d f f') {op : Tk → Option Int} (ho : ∀ a b, TkR P a b → op a = op b) : RdQ P d (rowT L f op) (rowT L' f' op) := by
 intro l m n h
 refine (hf l m n h).next fun t t' q q' k h1 h2 => ?_
 rw [h2.len]
 exact loopT_q hL hf ho _ h1 h2 k
theorem mulO_q (a b : Tk) (h : TkR P a b) : mulO a = mulO b := by unfold mulO; rw [h.isT, h.isT]
theorem addO_q (a b : Tk) (h : TkR P a b) : addO a = addO b := by unfold addO; rw [h.isT, h.isT]
theorem formT_q {L L' : Lim} (hL : L.le L') {d : Nat} {f f' : Rdr} (hf : RdQ P d f f') : RdQ P d (formT L f) (formT L' f') := rowT_q hL (rowT_q hL hf mulO_q) addO_q
theorem facS_q {L L' : Lim} (hL : L.le L') (en en' : Nat) {d : Nat} {sub sub' : Option Rdr} (hs : ∀ f, sub = some f → ∃ f', sub' = some f' ∧ RdQ P d f f') : RdQ P d (facS L en sub) (facS L' en' sub') := by
 intro l m n h
 unfold facS
 by_cases h1 : nextT 3 [45] l = true
 · rw [if_pos h1, if_pos (show nextT 3 [45] m = true by rw [← next_eq h]; exact h1)]
   have hp := here_q h en en' (nextT_ne h1)
   cases sub with
   | none => exact .lim _ _
   | some f =>
    obtain ⟨f', rfl, hf⟩ := hs f rfl
    dsimp only
    refine (hf _ _ n (tail_q h)).next fun a a' q q' k h2 h3 => madeT_q hL d (overN_q h2 _ _ hp) _ _ h3 k
 · rw [if_neg h1, if_neg (show ¬ nextT 3 [45] m = true by rw [← next_eq h]; exact h1)]
   by_cases h2 : nextT 3 [40] l = true
   · rw [if_pos h2, if_pos (show nextT 3 [40] m = true by rw [← next_eq h]; exact h2)]
     cases sub with
     | none => exact .lim _ _
     | some f =>
      obtain ⟨f', rfl, hf⟩ := hs f rfl
      dsimp only
      refine (formT_q hL hf _ _ n (tail_q h)).next fun a a' q q' k h3 h4 => ?_
      exact (takeT_q en en' 3 [41] d k h4).next fun x x' q q' k h5 h6 => powT_q hL en en' d h3 h6 k
   · rw [if_neg h2, if_neg (show ¬ nextT 3 [40] m = true by rw [← next_eq h]; exact h2)]
     exact (atomT_q hL en en' d h n).next fun a a' q q' k h5 h6 => powT_q hL en en' d h5 h6 k
theorem facT_q {L L' : Lim} (hL : L.le L') (en en' d : Nat) : ∀ k k', k ≤ k' → RdQ P d (facT L en k) (facT L' en' k')
 | 0, 0, _ => facS_q hL en en' fun f h => by cases h
 | 0, k' + 1, _ => facS_q hL en en' fun f h => by cases h
 | k + 1, 0, h => absurd h (by omega)
 | k + 1, k' + 1, h => facS_q hL en en' fun f hf => by injection hf with hf; subst hf; exact ⟨_, rfl, facT_q hL en en' d k k' (by omega)⟩
theorem formL_q {L L' : Lim} (hL : L.le L') (en en' d : Nat) : RdQ P d (formL L en) (formL L' en') := formT_q hL (facT_q hL en en' d _ _ hL.2.2)
def DcQ (P : Nat → Nat → Prop) (x y : Dc) : Prop := x.k = y.k ∧ x.nm = y.nm ∧ x.ot = y.ot ∧ x.nu = y.nu ∧ x.va = y.va ∧ x.un = y.un ∧ TrQ P x.tr y.tr ∧ x.pl = y.pl ∧ ∃ a b : Nat, x.at' = (a : Int) ∧ y.at' = (b : Int) ∧ P a b
theorem semiT_q (en en' d : Nat) {x y : Dc} (hd : DcQ P x y) {l m : List Tk} (h : All2 (TkR P) l m) (n : Nat) : PaQ P (DcQ P) d (semiT en x l (n + d)) (semiT en' y m n) := by
 unfold semiT
 exact (takeT_q en en' 3 [59] d n h).next fun a a' q q' k h1 h2 => .ok hd h2
theorem unitT_q {l m : List Tk} (h : All2 (TkR P) l m) : (unitT l).1 = (unitT m).1 ∧ All2 (TkR P) (unitT l).2 (unitT m).2 := by
 cases h with
 | nil => exact ⟨rfl, .nil⟩
 | @cons a b l m h1 h2 =>
  unfold unitT
  dsimp only
  rw [h1.isT]
  split
  · exact ⟨h1.2.1, h2⟩
  · exact ⟨rfl, .cons h1 h2⟩
theorem outB_q (en en' d : Nat) {x y : Dc} (hd : DcQ P x y) {l m : List Tk} (h : All2 (TkR P) l m) (n : Nat) : PaQ P (DcQ P) d (outB en x l (n + d)) (outB en' y m n) := by
 unfold outB
 refine (takeT_q en en' 3 [58] d n h).next fun a a' q q' k h1 h2 => (takeT_q en en' 2 [] d k h2).next fun b b' q q' k h3 h4 => ?_
 rw [h3.2.1]
 cases smallT b'.2.1 2 with
 | none => exact .bad _ _ _
 | some j =>
  dsimp only
  split
  · exact .lim _ _
  · obtain ⟨e1, e2, e3, e4, e5, e6, e7, e8, e9⟩ := hd
    exact semiT_q en en' d (by exact ⟨e1, e2, e3, e4, e5, e6, e7, rfl, e9⟩) h4 k
theorem bodyT_q {L L' : Lim} (hL : L.le L') (en en' d w : Nat) {x y : Dc} (hd : DcQ P x y) {l m : List Tk} (h : All2 (TkR P) l m) (n : Nat) : PaQ P (DcQ P) d (bodyT L en w x l (n + d)) (bodyT L' en' w y m n) := by
 obtain ⟨e1, e2, e3, e4, e5, e6, e7, e8, e9⟩ := hd
 unfold bodyT
 split
 · exact (numT_q en en' d n h).next fun s s' q q' k h1 h2 => (takeT_q en en' 4 [] d k h2).next fun u u' q q' k h3 h4 => semiT_q en en' d (by exact ⟨e1, e2, e3, h1, e5, h3.2.1, e7, e8, e9⟩) h4 k
 · split
   · refine (numT_q en en' d n h).next fun s s' q q' k h1 h2 => ?_
     obtain ⟨u1, u2⟩ := unitT_q h2
     exact (takeT_q en en' 3 [58] d k u2).next fun _ _ q q' k _ h4 => (numT_q en en' d k h4).next fun v v' q q' k h5 h6 => semiT_q en en' d (by exact ⟨e1, e2, e3, h1, h5, u1, e7, e8, e9⟩) h6 k
   · split
     · exact (numT_q en en' d n h).next fun s s' q q' k h1 h2 => semiT_q en en' d (by exact ⟨e1, e2, e3, h1, e5, e6, e7, e8, e9⟩) h2 k
     · split
       · exact (formL_q hL en en' d _ _ n h).next fun s s' q q' k h1 h2 => semiT_q en en' d (by exact ⟨e1, e2, e3, e4, e5, e6, h1, e8, e9⟩) h2 k
       · refine (formL_q hL en en' d _ _ n h).next fun s s' q q' k h1 h2 => ?_
         rw [next_eq h2]
         split
         · exact (takeT_q en en' 4 [] d k (tail_q h2)).next fun u u' q q' k h3 h4 => outB_q en en' d (by exact ⟨e1, e2, e3, e4, e5, h3.2.1, h1, e8, e9⟩) h4 k
         · exact outB_q en en' d (by exact ⟨e1, e2, e3, e4, e5, e6, h1, e8, e9⟩) h2 k
theorem headT_q (en en' d w : Nat) {l m : List Tk} (h : All2 (TkR P) l m) (n : Nat) : PaQ P (DcQ P) d (headT en w l (n + d)) (headT en' w m n) := by
 unfold headT
 refine (nameT_q en en' d n h).next fun x x' q q' k h1 h2 => ?_
 split
 · exact (nameT_q en en' d k h2).next fun y y' q q' k h3 h4 => (takeT_q en en' 3 [61] d k h4).next fun _ _ q q' k _ h6 => .ok ⟨rfl, h1.2.1, h3.2.1, rfl, rfl, rfl, .nil, rfl, _, _, rfl, rfl, h1.2.2⟩ h6
 · exact (takeT_q en en' 3 [61] d k h2).next fun _ _ q q' k _ h6 => .ok ⟨rfl, h1.2.1, rfl, rfl, rfl, rfl, .nil, rfl, _, _, rfl, rfl, h1.2.2⟩ h6
theorem wordK_q (a b : Tk) (h : TkR P a b) : wordK a = wordK b := by unfold wordK; rw [h.isT, h.isT, h.isT, h.isT, h.isT]
theorem declT_q {L L' : Lim} (hL : L.le L') (en en' d : Nat) {i i' : Nat} (hi : i' ≤ i) {l m : List Tk} (h : All2 (TkR P) l m) (n : Nat) : PaQ P (DcQ P) d (declT L en i l (n + d)) (declT L' en' i' m n) := by
 unfold declT
 cases h with
 | nil => exact .bad _ _ _
 | @cons a b l m h1 h2 =>
  dsimp only
  rw [wordK_q a b h1]
  cases wordK b with
  | none => exact .bad _ _ _
  | some w =>
   dsimp only
   by_cases h60 : 60 ≤ i
   · rw [if_pos h60]; exact .lim _ _
   · rw [if_neg h60, if_neg (by omega)]
     exact (headT_q en en' d w h2 n).next fun x x' q q' k h3 h4 => bodyT_q hL en en' d w h3 h4 k
theorem scrT_q {L L' : Lim} (hL : L.le L') (en en' d : Nat) : ∀ (g : Nat) {i i' : Nat}, i' ≤ i → ∀ {l m : List Tk}, All2 (TkR P) l m → ∀ n, PaQ P (All2 (DcQ P)) d (scrT L en g i l (n + d)) (scrT L' en' g i' m n) := by
 intro g
 induction g with
 | zero =>
  intro i i' hi l m h n
  cases h with
  | nil => exact .ok .nil .nil
  | cons h1 h2 => exact .ok .nil (.cons h1 h2)
 | succ g ih =>
  intro i i' hi l m h n
  cases h with
  | nil => exact .ok .nil .nil
  | @cons a b l m h1 h2 =>
   unfold scrT
   exact (declT_q hL en en' d hi (.cons h1 h2) n).next fun x x' q q' k h3 h4 => (ih (by omega) h4 k).next fun xs xs' q q' k h5 h6 => .ok (.cons h3 h5) h6
end Go.Proofs.YtheaepceghnkpaaGreatDoor

/- Mathematics of the grammar: what is read leaves a row's end; with another end behind what was looked at, the same is read. No condition. -/
namespace Go.Proofs.YtheaepceghnkpaaGreatDoor
open Go.RowKit Limb
set_option linter.unusedVariables false
def PaS {α : Type} (l : List Tk) (n : Nat) (r : PaR α) : Prop := ∀ a q m, r = .ok a q m → (∃ x, l = x ++ q) ∧ n ≤ m
theorem PaS.next {α β : Type} {l : List Tk} {n : Nat} {r : PaR α} {f : α → List Tk → Nat → PaR β} (h : PaS l n r) (k : ∀ a q m, PaS q m (f a q m)) : PaS l n (r.next f) := by
 intro b q m e
 cases r with
 | bad e' p => cases e
 | ok a q' m' =>
  obtain ⟨⟨x, rfl⟩, h1⟩ := h a q' m' rfl
  obtain ⟨⟨z, rfl⟩, h2⟩ := k a q' m' b q m e
  exact ⟨⟨x ++ z, by rw [List.append_assoc]⟩, Nat.le_trans h1 h2⟩
theorem PaS.bad {α : Type} (l : List Tk) (n e p : Nat) : PaS l n (.bad e p : PaR α) := fun _ _ _ h => by cases h
theorem PaS.ok {α : Type} (l : List Tk) (a : α) (n : Nat) : PaS l n (.ok a l n) := fun _ _ _ h => by cases h; exact ⟨⟨[], rfl⟩, Nat.le_refl _⟩
theorem PaS.cons {α : Type} {t : Tk} {l : List Tk} {n : Nat} {r : PaR α} (h : PaS l n r) : PaS (t :: l) n r := fun a q m e => by obtain ⟨⟨x, rfl⟩, h2⟩ := h a q m e; exact ⟨⟨t :: x, rfl⟩, h2⟩
theorem PaS.tail {α : Type} {l : List Tk} {n : Nat} {r : PaR α} (h : PaS l.tail n r) : PaS l n r := by
 cases l with
 | nil => exact h
 | cons t l => exact PaS.cons h
theorem takeT_s (en kd : Nat) (tx : List Nat) (l : List Tk) (n : Nat) : PaS l n (takeT en kd tx l n) := by
 cases l with
 | nil => exact .bad _ _ _ _
 | cons t r =>
  rw [takeT_cons]
  split
  · exact .cons (.ok _ _ _)
  · exact .bad _ _ _ _
theorem nameT_s (en : Nat) (l : List Tk) (n : Nat) : PaS l n (nameT en l n) := by
 cases l with
 | nil => exact .bad _ _ _ _
 | cons t r =>
  rw [nameT_cons]
  split
  · exact .cons (.ok _ _ _)
  · exact .bad _ _ _ _
theorem madeT_s (L : Lim) (t : List Nd) (p : Nat) (l : List Tk) (n : Nat) : PaS l n (madeT L t p l n) := by
 unfold madeT
 split
 · exact .bad _ _ _ _
 · intro a q m e; injection e with _ e2 e3; exact ⟨⟨[], e2⟩, by omega⟩
theorem powB_s (L : Lim) (en : Nat) (t : List Nd) (pa : Nat) (sg : Bool) (l : List Tk) (n : Nat) : PaS l n (powB L en t pa sg l n) := by
 unfold powB
 refine (takeT_s _ _ _ _ _).next fun x q m => ?_
 cases smallT x.2.1 3 with
 | none => exact .bad _ _ _ _
 | some k =>
  dsimp only
  split
  · exact .bad _ _ _ _
  · exact madeT_s _ _ _ _ _
theorem powT_s (L : Lim) (en : Nat) (t : List Nd) (l : List Tk) (n : Nat) : PaS l n (powT L en t l n) := by
 unfold powT
 split
 · split
   · exact .tail (.tail (powB_s _ _ _ _ _ _ _))
   · exact .tail (powB_s _ _ _ _ _ _ _)
 · exact .ok _ _ _
theorem atomT_s (L : Lim) (en : Nat) (l : List Tk) (n : Nat) : PaS l n (atomT L en l n) := by
 unfold atomT
 cases l with
 | nil => exact .bad _ _ _ _
 | cons x r =>
  dsimp only
  split
  · cases r with
    | nil => exact .cons (madeT_s _ _ _ _ _)
    | cons y q =>
     dsimp only
     split
     · exact .cons (.cons (madeT_s _ _ _ _ _))
     · exact .cons (madeT_s _ _ _ _ _)
  · split
    · exact .cons (madeT_s _ _ _ _ _)
    · exact .bad _ _ _ _
def RdS (f : Rdr) : Prop := ∀ l n, PaS l n (f l n)
theorem loopT_s (L : Lim) {f : Rdr} (hf : RdS f) (op : Tk → Option Int) : ∀ (g : Nat) (t : List Nd) (l : List Tk) (n : Nat), PaS l n (loopT L f op g t l n) := by
 intro g
 induction g with
 | zero => intro t l n; exact .ok _ _ _
 | succ g ih =>
  intro t l n
  cases l with
  | nil => exact .ok _ _ _
  | cons x r =>
   unfold loopT
   cases op x with
   | none => exact .ok _ _ _
   | some k => exact .cons ((hf r n).next fun u q m => (madeT_s _ _ _ _ _).next fun t q m => ih t q m)
theorem rowT_s (L : Lim) {f : Rdr} (hf : RdS f) (op : Tk → Option Int) : RdS (rowT L f op) := fun l n => (hf l n).next fun t q m => loopT_s L hf op _ _ _ _
theorem formT_s (L : Lim) {f : Rdr} (hf : RdS f) : RdS (formT L f) := rowT_s L (rowT_s L hf _) _
theorem facS_s (L : Lim) (en : Nat) {sub : Option Rdr} (hs : ∀ f, sub = some f → RdS f) : RdS (facS L en sub) := by
 intro l n
 unfold facS
 split
 · cases sub with
   | none => exact .bad _ _ _ _
   | some f => exact .tail ((hs f rfl _ _).next fun a q m => madeT_s _ _ _ _ _)
 · split
   · cases sub with
     | none => exact .bad _ _ _ _
     | some f => exact .tail ((formT_s L (hs f rfl) _ _).next fun a q m => (takeT_s _ _ _ _ _).next fun b q m => powT_s _ _ _ _ _)
   · exact (atomT_s _ _ _ _).next fun a q m => powT_s _ _ _ _ _
theorem facT_s (L : Lim) (en : Nat) : ∀ d, RdS (facT L en d)
 | 0 => facS_s L en fun f h => by cases h
 | d + 1 => facS_s L en fun f h => by injection h with h; subst h; exact facT_s L en d
theorem formL_s (L : Lim) (en : Nat) : RdS (formL L en) := formT_s L (facT_s L en _)
theorem numB_s (en : Nat) (s : List Nat) (l : List Tk) (n : Nat) : PaS l n (numB en s l n) := by
 unfold numB
 refine (takeT_s _ _ _ _ _).next fun x q m => ?_
 split
 · exact .tail ((takeT_s _ _ _ _ _).next fun x q m => .ok _ _ _)
 · exact .ok _ _ _
theorem numT_s (en : Nat) (l : List Tk) (n : Nat) : PaS l n (numT en l n) := by
 unfold numT
 split
 · exact .tail (numB_s _ _ _ _)
 · exact numB_s _ _ _ _
theorem semiT_s (en : Nat) (d : Dc) (l : List Tk) (n : Nat) : PaS l n (semiT en d l n) := (takeT_s _ _ _ _ _).next fun x q m => .ok _ _ _
theorem outB_s (en : Nat) (d : Dc) (l : List Tk) (n : Nat) : PaS l n (outB en d l n) := by
 unfold outB
 refine (takeT_s _ _ _ _ _).next fun _ q m => (takeT_s _ _ _ _ _).next fun x q m => ?_
 cases smallT x.2.1 2 with
 | none => exact .bad _ _ _ _
 | some k =>
  dsimp only
  split
  · exact .bad _ _ _ _
  · exact semiT_s _ _ _ _
theorem unitT_s (l : List Tk) : ∃ x, l = x ++ (unitT l).2 := by
 unfold unitT
 cases l with
 | nil => exact ⟨[], rfl⟩
 | cons t r =>
  dsimp only
  split
  · exact ⟨[t], rfl⟩
  · exact ⟨[], rfl⟩
theorem PaS.of {α : Type} {l q : List Tk} {n : Nat} {r : PaR α} (h : ∃ x, l = x ++ q) (k : PaS q n r) : PaS l n r := by
 obtain ⟨x, rfl⟩ := h
 intro a q' m e
 obtain ⟨⟨z, rfl⟩, h2⟩ := k a q' m e
 exact ⟨⟨x ++ z, by rw [List.append_assoc]⟩, h2⟩
theorem bodyT_s (L : Lim) (en k : Nat) (d : Dc) (l : List Tk) (n : Nat) : PaS l n (bodyT L en k d l n) := by
 unfold bodyT
 split
 · exact (numT_s _ _ _).next fun _ _ _ => (takeT_s _ _ _ _ _).next fun _ _ _ => semiT_s _ _ _ _
 · split
   · exact (numT_s _ _ _).next fun _ _ _ => .of (unitT_s _) ((takeT_s _ _ _ _ _).next fun _ _ _ => (numT_s _ _ _).next fun _ _ _ => semiT_s _ _ _ _)
   · split
     · exact (numT_s _ _ _).next fun _ _ _ => semiT_s _ _ _ _
     · split
       · exact (formL_s _ _ _ _).next fun _ _ _ => semiT_s _ _ _ _
       · refine (formL_s _ _ _ _).next fun _ _ _ => ?_
         split
         · exact .tail ((takeT_s _ _ _ _ _).next fun _ _ _ => outB_s _ _ _ _)
         · exact outB_s _ _ _ _
theorem headT_s (en k : Nat) (l : List Tk) (n : Nat) : PaS l n (headT en k l n) := by
 unfold headT
 refine (nameT_s _ _ _).next fun _ _ _ => ?_
 split
 · exact (nameT_s _ _ _).next fun _ _ _ => (takeT_s _ _ _ _ _).next fun _ _ _ => .ok _ _ _
 · exact (takeT_s _ _ _ _ _).next fun _ _ _ => .ok _ _ _
def PaT {α : Type} (y y' : List Tk) (r r' : PaR α) : Prop := ∀ a q m, q ≠ [] → r = .ok a (q ++ y) m → r' = .ok a (q ++ y') m
theorem PaT.next {α β : Type} {y y' : List Tk} {r r' : PaR α} {f f' : α → List Tk → Nat → PaR β} (h : PaT y y' r r') (k : ∀ a q m, q ≠ [] → PaT y y' (f a (q ++ y) m) (f' a (q ++ y') m)) (s : ∀ a q m, PaS q m (f a q m)) : PaT y y' (r.next f) (r'.next f') := by
 intro b q m hq e
 cases r with
 | bad e' p => cases e
 | ok a q' m' =>
  obtain ⟨⟨x, rfl⟩, _⟩ := s a q' m' b _ m e
  rw [← List.append_assoc] at e h
  have hx : x ++ q ≠ [] := by simp [hq]
  rw [h a (x ++ q) m' hx rfl, PaR.next_ok]
  exact k a (x ++ q) m' hx b q m hq e
theorem PaT.none {α : Type} {y y' : List Tk} {n : Nat} {r r' : PaR α} (h : PaS y n r) : PaT y y' r r' := by
 intro a q m hq e
 obtain ⟨⟨x, hx⟩, _⟩ := h a _ m e
 have h1 := congrArg List.length hx
 rw [List.length_append, List.length_append] at h1
 have := List.length_pos_iff.2 hq
 omega
theorem PaT.bad {α : Type} {y y' : List Tk} {e p : Nat} {r' : PaR α} : PaT y y' (.bad e p) r' := fun _ _ _ _ h => by cases h
theorem PaT.ok {α : Type} {y y' x : List Tk} (a : α) (n : Nat) : PaT y y' (.ok a (x ++ y) n) (.ok a (x ++ y') n) := by
 intro b q m hq e
 injection e with e1 e2 e3
 rw [List.append_cancel_right e2, e1, e3]
variable {y y' : List Tk}
end Go.Proofs.YtheaepceghnkpaaGreatDoor

/- Mathematics of the grammar: a declaration ends with its first ';', and nothing behind that is looked at; a script is read declaration by declaration. No condition. -/
namespace Go.Proofs.YtheaepceghnkpaaGreatDoor
open Go.RowKit Limb
set_option linter.unusedVariables false
def PaN {α : Type} (l : List Tk) (r : PaR α) : Prop := ∀ a q m, r = .ok a q m → ∃ x, l = x ++ q ∧ ∀ z ∈ x, semi z = false
def PaE {α : Type} (l : List Tk) (r : PaR α) : Prop := ∀ a q m, r = .ok a q m → ∃ x s, l = x ++ s :: q ∧ semi s = true ∧ ∀ z ∈ x, semi z = false
theorem PaN.bad {α : Type} (l : List Tk) (e p : Nat) : PaN l (.bad e p : PaR α) := fun _ _ _ h => by cases h
theorem PaN.ok {α : Type} (l : List Tk) (a : α) (n : Nat) : PaN l (.ok a l n) := fun _ _ _ h => by cases h; exact ⟨[], rfl, fun z hz => by cases hz⟩
theorem PaN.cons {α : Type} {t : Tk} (ht : semi t = false) {l : List Tk} {r : PaR α} (h : PaN l r) : PaN (t :: l) r := fun a q m e => by
 obtain ⟨x, rfl, h1⟩ := h a q m e
 exact ⟨t :: x, rfl, fun z hz => by rcases List.mem_cons.1 hz with rfl | hz; · exact ht
                                    · exact h1 z hz⟩
theorem PaN.next {α β : Type} {l : List Tk} {r : PaR α} {f : α → List Tk → Nat → PaR β} (h : PaN l r) (hl : ToksK l) (k : ∀ a q m, ToksK q → PaN q (f a q m)) : PaN l (r.next f) := by
 intro b q m e
 cases r with
 | bad e' p => cases e
 | ok a q' m' =>
  obtain ⟨x, rfl, h1⟩ := h a q' m' rfl
  obtain ⟨z, rfl, h2⟩ := k a q' m' hl.behind b q m e
  exact ⟨x ++ z, by rw [List.append_assoc], fun y hy => (List.mem_append.1 hy).elim (h1 y) (h2 y)⟩
theorem PaE.bad {α : Type} (l : List Tk) (e p : Nat) : PaE l (.bad e p : PaR α) := fun _ _ _ h => by cases h
theorem PaE.next {α β : Type} {l : List Tk} {r : PaR α} {f : α → List Tk → Nat → PaR β} (h : PaN l r) (hl : ToksK l) (k : ∀ a q m, ToksK q → PaE q (f a q m)) : PaE l (r.next f) := by
 intro b q m e
 cases r with
 | bad e' p => cases e
 | ok a q' m' =>
  obtain ⟨x, rfl, h1⟩ := h a q' m' rfl
  obtain ⟨z, s, rfl, h2, h3⟩ := k a q' m' hl.behind b q m e
  exact ⟨x ++ z, s, by rw [List.append_assoc], h2, fun y hy => (List.mem_append.1 hy).elim (h1 y) (h3 y)⟩
theorem PaE.cons {α : Type} {t : Tk} (ht : semi t = false) {l : List Tk} {r : PaR α} (h : PaE l r) : PaE (t :: l) r := fun a q m e => by
 obtain ⟨x, s, rfl, h1, h2⟩ := h a q m e
 exact ⟨t :: x, s, rfl, h1, fun z hz => by rcases List.mem_cons.1 hz with rfl | hz; · exact ht
                                           · exact h2 z hz⟩
theorem PaN.tail {α : Type} {kd : Nat} {tx : List Nat} {l : List Tk} {r : PaR α} (hn : nextT kd tx l = true) (hk : ∀ t, isT kd tx t = true → semi t = false) (h : PaN l.tail r) : PaN l r := by
 obtain ⟨t, q, rfl, ht⟩ := nextT_cons hn
 exact .cons (hk t ht) h
theorem PaE.tail {α : Type} {kd : Nat} {tx : List Nat} {l : List Tk} {r : PaR α} (hn : nextT kd tx l = true) (hk : ∀ t, isT kd tx t = true → semi t = false) (h : PaE l.tail r) : PaE l r := by
 obtain ⟨t, q, rfl, ht⟩ := nextT_cons hn
 exact .cons (hk t ht) h
theorem PaE.of {α : Type} {l q : List Tk} {r : PaR α} (h : ∃ x, l = x ++ q ∧ ∀ z ∈ x, semi z = false) (k : PaE q r) : PaE l r := by
 obtain ⟨x, rfl, h1⟩ := h
 intro a q' m e
 obtain ⟨z, s, rfl, h2, h3⟩ := k a q' m e
 exact ⟨x ++ z, s, by rw [List.append_assoc], h2, fun y hy => (List.mem_append.1 hy).elim (h1 y) (h3 y)⟩
theorem unitT_toks {l : List Tk} (h : ToksK l) : ToksK (unitT l).2 := by
 obtain ⟨x, e⟩ := unitT_s l
 rw [e] at h
 exact h.behind
theorem wordK_some {w : Tk} {k : Nat} (h : wordK w = some k) : w.1 = 1 ∧ 1 ≤ k ∧ k ≤ 5 := by
 unfold wordK at h
 repeat' split at h
 all_goals first | (injection h with h; subst h; rename_i h; exact ⟨(isT_kind h).1, by decide, by decide⟩) | cases h
def PaX {α : Type} (y y' : List Tk) (r r' : PaR α) : Prop := ∀ a q m, r = .ok a (q ++ y) m → r' = .ok a (q ++ y') m
theorem PaX.bad {α : Type} {y y' : List Tk} {e p : Nat} {r' : PaR α} : PaX y y' (.bad e p) r' := fun _ _ _ h => by cases h
theorem PaX.next {α β : Type} {y y' l : List Tk} {n : Nat} {r r' : PaR α} {f f' : α → List Tk → Nat → PaR β} (hl : ToksK l) (h : PaT y y' r r') (hs : PaS l n r) (k : ∀ a q m, q ≠ [] → ToksK (q ++ y) → PaX y y' (f a (q ++ y) m) (f' a (q ++ y') m)) (e : ∀ a q m, ToksK q → PaE q (f a q m)) : PaX y y' (r.next f) (r'.next f') := by
 intro b q m eq
 cases r with
 | bad e' p => cases eq
 | ok a q' m' =>
  obtain ⟨⟨x0, hx0⟩, _⟩ := hs a q' m' rfl
  have hq' : ToksK q' := by rw [hx0] at hl; exact hl.behind
  obtain ⟨x, s, hxs, _⟩ := e a q' m' hq' b _ m eq
  have hc : q' = (x ++ s :: q) ++ y := by rw [hxs]; simp
  subst hc
  rw [h a (x ++ s :: q) m' (by simp) rfl, PaR.next_ok]
  exact k a (x ++ s :: q) m' (by simp) hq' b q m eq
variable {y y' : List Tk}
end Go.Proofs.YtheaepceghnkpaaGreatDoor

/- Mathematics of the grammar: a row that is cut where something that was read goes on is told at its end. No condition. -/
namespace Go.Proofs.YtheaepceghnkpaaGreatDoor
open Go.RowKit Limb
set_option linter.unusedVariables false
def PaC {α : Type} (en' : Nat) (S : α → α → Prop) (y : List Tk) (r r' : PaR α) : Prop := ∀ a q m, r = .ok a q m → r' = .bad 12 en' ∨ (∃ a' m', r' = .ok a' [] m' ∧ m' ≤ m ∧ S a a') ∨ ∃ q1, q1 ≠ [] ∧ q = q1 ++ y ∧ r' = .ok a q1 m
def PaZ {α : Type} (en' : Nat) (S : α → α → Prop) (r r' : PaR α) : Prop := ∀ a q m, r = .ok a q m → r' = .bad 12 en' ∨ ∃ a' m', r' = .ok a' [] m' ∧ m' ≤ m ∧ S a a'
def Any {α : Type} (_ _ : α) : Prop := True
theorem PaC.next {α β : Type} {en' : Nat} {S : α → α → Prop} {T : β → β → Prop} {y : List Tk} {r r' : PaR α} {f f' : α → List Tk → Nat → PaR β} (h : PaC en' S y r r') (k1 : ∀ a q m, q ≠ [] → PaC en' T y (f a (q ++ y) m) (f' a q m)) (k2 : ∀ a a' q m m', S a a' → m' ≤ m → PaZ en' T (f a q m) (f' a' [] m')) : PaC en' T y (r.next f) (r'.next f') := by
 intro b q m e
 cases r with
 | bad e' p => cases e
 | ok a q0 m0 =>
  rcases h a q0 m0 rfl with rfl | ⟨a', m', rfl, h1, h2⟩ | ⟨q1, h1, rfl, rfl⟩
  · exact .inl rfl
  · rcases k2 a a' q0 m0 m' h2 h1 b q m e with h | h
    · exact .inl h
    · exact .inr (.inl h)
  · exact k1 a q1 m0 h1 b q m e
theorem PaZ.next {α β : Type} {en' : Nat} {S : α → α → Prop} {T : β → β → Prop} {r r' : PaR α} {f f' : α → List Tk → Nat → PaR β} (h : PaZ en' S r r') (k : ∀ a a' q m m', S a a' → m' ≤ m → PaZ en' T (f a q m) (f' a' [] m')) : PaZ en' T (r.next f) (r'.next f') := by
 intro b q m e
 cases r with
 | bad e' p => cases e
 | ok a q0 m0 =>
  rcases h a q0 m0 rfl with rfl | ⟨a', m', rfl, h1, h2⟩
  · exact .inl rfl
  · exact k a a' q0 m0 m' h2 h1 b q m e
theorem PaC.bad {α : Type} {en' : Nat} {S : α → α → Prop} {y : List Tk} {e p : Nat} {r' : PaR α} : PaC en' S y (.bad e p) r' := fun _ _ _ h => by cases h
theorem PaZ.bad {α : Type} {en' : Nat} {S : α → α → Prop} {e p : Nat} {r' : PaR α} : PaZ en' S (.bad e p) r' := fun _ _ _ h => by cases h
theorem PaC.no {α : Type} {en' : Nat} {S : α → α → Prop} {y : List Tk} {r : PaR α} : PaC en' S y r (.bad 12 en') := fun _ _ _ _ => .inl rfl
theorem PaZ.no {α : Type} {en' : Nat} {S : α → α → Prop} {r : PaR α} : PaZ en' S r (.bad 12 en') := fun _ _ _ _ => .inl rfl
theorem PaC.ok {α : Type} {en' : Nat} {S : α → α → Prop} (hS : ∀ a, S a a) {y : List Tk} (a : α) (x : List Tk) (n : Nat) : PaC en' S y (.ok a (x ++ y) n) (.ok a x n) := by
 intro b q m e
 injection e with e1 e2 e3
 subst e1 e2 e3
 by_cases hx : x = []
 · subst hx; exact .inr (.inl ⟨_, _, rfl, Nat.le_refl _, hS _⟩)
 · exact .inr (.inr ⟨x, hx, rfl, rfl⟩)
theorem PaZ.stay {α : Type} {en' : Nat} {S : α → α → Prop} {q0 : List Tk} {m0 m' : Nat} {r : PaR α} {a' : α} (hs : PaS q0 m0 r) (hm : m' ≤ m0) (h : ∀ a, S a a') : PaZ en' S r (.ok a' [] m') := fun a q m e => .inr ⟨a', m', rfl, Nat.le_trans hm (hs a q m e).2, h a⟩
variable {y : List Tk}
end Go.Proofs.YtheaepceghnkpaaGreatDoor

/- Mathematics of the grammar: declarations and scripts that are read may be; tokens as lexing tells them; scripts behind one another, scripts that are cut. No condition. -/
namespace Go.Proofs.YtheaepceghnkpaaGreatDoor
open Go.RowKit Limb
set_option linter.unusedVariables false
theorem lexS_unit {c : Nat} {r : List Nat} {s : List Nat} {n : Nat} (h : lexS c r = .tok 4 s n) : s.all inUn = true := by
 unfold lexS at h
 split at h
 · cases h
 · split at h
   · cases h
   · split at h
     · split at h <;> cases h
     · split at h
       · split at h <;> cases h
       · split at h
         · split at h
           · cases h
           · cases h; rw [take_whileL]; exact all_while r
         · split at h <;> cases h
theorem lexS_tok {c : Nat} {r s : List Nat} {k n a : Nat} (hb : Bytes (c :: r)) (h : lexS c r = .tok k s n) : TokK (k, s, a) := by
 refine ⟨lexS_kind h, ?_, fun e => ?_⟩
 · have h1 := (raw_at (a := a) h).2
   intro x hx
   have h2 : x ∈ (c :: r).take n := by
    rw [h1]; unfold rawT
    split
    · exact List.mem_cons_of_mem _ (List.mem_append_left _ hx)
    · exact hx
   exact hb x (List.mem_of_mem_take h2)
 · have e' : k = 4 := e
   subst e'; exact lexS_unit h
theorem bytes_drop {l : List Nat} (h : Bytes l) (n : Nat) : Bytes (l.drop n) := fun x hx => h x (List.mem_of_mem_drop hx)
theorem lexR_tok : ∀ (f a : Nat) (l : List Nat) (ts : List Tk), Bytes l → lexR f a l = .ok ts → ∀ t ∈ ts, TokK t ∧ a ≤ t.2.2 ∧ t.2.2 < a + l.length
 | 0, _, _, _, _, h => by cases h
 | f + 1, a, [], ts, _, h => by cases h; simp
 | f + 1, a, c :: r, ts, hb, h => by
  unfold lexR at h
  cases e : lexS c r with
  | bad => rw [e] at h; cases h
  | skip n =>
   rw [e] at h
   have hl := lexS_len.1 n e
   intro t ht
   obtain ⟨h1, h2, h3⟩ := lexR_tok f _ _ ts (bytes_drop hb n) h t ht
   rw [List.length_drop, List.length_cons] at h3
   exact ⟨h1, by omega, by rw [List.length_cons]; omega⟩
  | tok k s n =>
   rw [e] at h
   have hl := lexS_len.2 k s n e
   dsimp only at h
   cases e2 : lexR f (a + n) ((c :: r).drop n) with
   | bad p => rw [e2] at h; cases h
   | ok us =>
    rw [e2] at h
    cases h
    intro t ht
    rcases List.mem_cons.1 ht with rfl | ht
    · exact ⟨lexS_tok hb e, Nat.le_refl _, by rw [List.length_cons]; show a < _; omega⟩
    · obtain ⟨h1, h2, h3⟩ := lexR_tok f _ _ us (bytes_drop hb n) e2 t ht
      rw [List.length_drop, List.length_cons] at h3
      exact ⟨h1, by omega, by rw [List.length_cons]; omega⟩
theorem lexT_tok {l : List Nat} {ts : List Tk} (hb : Bytes l) (h : lexT l = .ok ts) : ToksK ts ∧ ∀ t ∈ ts, t.2.2 < l.length :=
 ⟨fun t ht => (lexR_tok _ _ _ _ hb h t ht).1, fun t ht => by have := (lexR_tok _ _ _ _ hb h t ht).2.2; omega⟩
def numH (b : List Nat) : Bool := if (b.takeWhile (· ≠ 47)).length < b.length then litGood (b.takeWhile (· ≠ 47)) && litGood (b.drop ((b.takeWhile (· ≠ 47)).length + 1)) else litGood b
def numG (s : List Nat) : Bool :=
 match s with
 | [] => numH []
 | c :: r => if c = 45 then numH r else numH (c :: r)
def unitG (u : List Nat) : Bool := decide (u.length ≤ 200) && u.all inUn && u.all (fun c => decide (c < 256))
def goodD (d : Dc) : Bool :=
 isNam d.nm && unitG d.un &&
 (if d.k = 1 then numG d.nu && decide (d.un ≠ []) && decide (d.ot = []) && decide (d.va = []) && decide (d.tr.length = 0) && decide (d.pl = 0)
  else if d.k = 2 then numG d.nu && numG d.va && decide (d.ot = []) && decide (d.tr.length = 0) && decide (d.pl = 0)
  else if d.k = 3 then numG d.nu && isNam d.ot && decide (d.va = []) && decide (d.un = []) && decide (d.tr.length = 0) && decide (d.pl = 0)
  else if d.k = 4 then goodT d.tr && decide (d.ot = []) && decide (d.nu = []) && decide (d.va = []) && decide (d.un = []) && decide (d.pl = 0)
  else if d.k = 5 then goodT d.tr && decide (0 ≤ d.pl) && decide (d.pl ≤ 60) && decide (d.ot = []) && decide (d.nu = []) && decide (d.va = [])
  else false)
theorem while_all {p : Nat → Bool} {l : List Nat} (h : ∀ c ∈ l, p c = true) (r : List Nat) : (l ++ r).takeWhile p = l ++ r.takeWhile p := List.takeWhile_append_of_pos h
theorem good_no47 {l : List Nat} (h : litGood l = true) : ∀ c ∈ l, decide (c ≠ 47) = true := by
 intro c hc
 obtain ⟨i, hi, rfl⟩ := List.getElem_of_mem hc
 have hd : lim l i = l[i] := by unfold lim; rw [List.getD_eq_getElem?_getD, List.getElem?_eq_getElem hi]; rfl
 have := good_bytes h hi hd
 rw [decide_eq_true_eq]
 rcases this with h | h | h | h <;> omega
theorem good_hd {l : List Nat} (h : litGood l = true) : ∃ c r, l = c :: r ∧ c ≠ 45 := by
 obtain ⟨w, f, x, ho, rfl⟩ := good_mk h
 have h1 := ho.whole
 cases w with
 | nil => exact absurd rfl h1.2
 | cons c w =>
  refine ⟨c, w ++ litF f ++ litX x, by unfold litMk; simp, ?_⟩
  have h2 := List.all_eq_true.1 h1.1 c (by simp)
  rintro rfl
  exact absurd h2 (by decide)
theorem numH_one {l : List Nat} (h : litGood l = true) : numH l = true := by
 unfold numH
 have := while_all (good_no47 h) []
 rw [List.append_nil] at this
 rw [this, List.takeWhile_nil, List.append_nil, if_neg (by omega)]; exact h
theorem numH_two {l m : List Nat} (h : litGood l = true) (h' : litGood m = true) : numH (l ++ [47] ++ m) = true := by
 unfold numH
 have e : (l ++ [47] ++ m).takeWhile (· ≠ 47) = l := by
  rw [List.append_assoc, while_all (good_no47 h)]; simp
 rw [e, if_pos (by simp), h, Bool.true_and]
 have e2 : (l ++ [47] ++ m).drop (l.length + 1) = m := by rw [show l.length + 1 = (l ++ [47]).length by simp, List.drop_left]
 rw [e2]; exact h'
theorem numG_bare {c : Nat} {r : List Nat} (hc : c ≠ 45) : numG (c :: r) = numH (c :: r) := by show (if c = 45 then numH r else numH (c :: r)) = _; rw [if_neg hc]
def PostN (L : Lim) (en : Nat) (l : List Tk) (n : Nat) : PaR (List Nat) → Prop
 | .ok s q m => (∃ x, l = x ++ q) ∧ m = n ∧ numG s = true
 | .bad e p => FaultK en l e p
theorem numG_sg {sg : List Nat} (hs : sg = [] ∨ sg = [45]) {l : List Nat} (h : numH l = true) (hd : ∃ c r, l = c :: r ∧ c ≠ 45) : numG (sg ++ l) = true := by
 obtain ⟨c, r, rfl, hc⟩ := hd
 rcases hs with rfl | rfl
 · rw [List.nil_append, numG_bare hc]; exact h
 · show (if (45 : Nat) = 45 then numH (c :: r) else numH (45 :: c :: r)) = true
   rw [if_pos rfl]; exact h
theorem numB_post (L : Lim) (en : Nat) {sg : List Nat} (hs : sg = [] ∨ sg = [45]) {l : List Tk} (hl : ToksK l) (n : Nat) : PostN L en l n (numB en sg l n) := by
 unfold numB
 have h := takeT_post en 2 [] l n
 cases ht : takeT en 2 [] l n with
 | bad e p => rw [ht] at h; exact h
 | ok t r m =>
  rw [ht] at h
  obtain ⟨rfl, h1, rfl⟩ := h
  rw [PaR.next_ok]
  have hg := hl.head.lit (isT_kind h1).1
  by_cases h2 : nextT 3 [47] r = true
  · rw [if_pos h2]
    obtain ⟨x, q, rfl, hx⟩ := nextT_cons h2
    have k := takeT_post en 2 [] q m
    show PostN L en _ _ ((takeT en 2 [] q m).next _)
    cases hu : takeT en 2 [] q m with
    | bad e p => rw [hu] at k; exact FaultK.up k fun z hz => List.mem_cons_of_mem _ (List.mem_cons_of_mem _ hz)
    | ok u r m =>
     rw [hu] at k
     obtain ⟨rfl, h3, rfl⟩ := k
     have hg2 := hl.tail.tail.head.lit (isT_kind h3).1
     obtain ⟨c, z, e, hc⟩ := good_hd hg
     refine ⟨⟨[t, x, u], rfl⟩, rfl, ?_⟩
     rw [List.append_assoc, List.append_assoc, ← List.append_assoc t.2.1]
     exact numG_sg hs (numH_two hg hg2) ⟨c, z ++ [47] ++ u.2.1, by rw [e]; simp, hc⟩
  · rw [if_neg h2]
    exact ⟨⟨[t], rfl⟩, rfl, numG_sg hs (numH_one hg) (good_hd hg)⟩
theorem PostN.cons {L : Lim} {en n : Nat} {t : Tk} {l : List Tk} {r : PaR (List Nat)} (h : PostN L en l n r) : PostN L en (t :: l) n r := by
 cases r with
 | bad e p => exact FaultK.up h fun z hz => List.mem_cons_of_mem _ hz
 | ok s q m => obtain ⟨⟨x, rfl⟩, h2, h3⟩ := h; exact ⟨⟨t :: x, rfl⟩, h2, h3⟩
theorem numT_post (L : Lim) (en : Nat) {l : List Tk} (hl : ToksK l) (n : Nat) : PostN L en l n (numT en l n) := by
 unfold numT
 by_cases h : nextT 3 [45] l = true
 · rw [if_pos h]
   obtain ⟨t, r, rfl, ht⟩ := nextT_cons h
   exact (numB_post L en (.inr rfl) hl.tail n).cons
 · rw [if_neg h]; exact numB_post L en (.inl rfl) hl n
structure DcK (L : Lim) (l : List Tk) (d : Dc) : Prop where
 good : goodD d = true
 at' : ∃ z ∈ l, d.at' = (z.2.2 : Int)
 nds : ∀ y ∈ d.tr, ∃ z ∈ l, y.p = (z.2.2 : Int)
 pow : ∀ y ∈ d.tr, y.k = 8 → -(L.power : Int) ≤ y.n ∧ y.n ≤ (L.power : Int)
theorem DcK.mono {L : Lim} {l q : List Tk} {d : Dc} (h : DcK L q d) (hs : ∀ z ∈ q, z ∈ l) : DcK L l d := by
 obtain ⟨h1, ⟨z, hz, e⟩, h3, h4⟩ := h
 exact ⟨h1, ⟨z, hs z hz, e⟩, fun y hy => by obtain ⟨z, hz, e⟩ := h3 y hy; exact ⟨z, hs z hz, e⟩, h4⟩
def PostD (L : Lim) (en : Nat) (l0 l : List Tk) (n0 n : Nat) : PaR Dc → Prop
 | .ok d q m => (∃ x, l = x ++ q) ∧ DcK L l0 d ∧ m = n0 + d.tr.length ∧ (m ≤ L.nodes ∨ m = n0)
 | .bad e p => FaultK en l0 e p
theorem semiT_post {L : Lim} {en n0 n : Nat} {d : Dc} {l0 l : List Tk} (hs : ∀ z ∈ l, z ∈ l0) (hd : DcK L l0 d) (hn : n = n0 + d.tr.length) (hm : n ≤ L.nodes ∨ n = n0) : PostD L en l0 l n0 n (semiT en d l n) := by
 unfold semiT
 have h := takeT_post en 3 [59] l n
 cases ht : takeT en 3 [59] l n with
 | bad e p => rw [ht] at h; exact FaultK.up h hs
 | ok t r m =>
  rw [ht] at h
  obtain ⟨rfl, h1, rfl⟩ := h
  exact ⟨⟨[t], rfl⟩, hd, hn, hm⟩
theorem PostD.of {L : Lim} {en n0 n m : Nat} {l0 l q : List Tk} {r : PaR Dc} (h : PostD L en l0 q n0 m r) (hx : ∃ x, l = x ++ q) : PostD L en l0 l n0 n r := by
 cases r with
 | bad e p => exact h
 | ok d q' m' =>
  obtain ⟨⟨x, rfl⟩, h2⟩ := h
  obtain ⟨z, rfl⟩ := hx
  exact ⟨⟨z ++ x, by rw [List.append_assoc]⟩, h2⟩
structure HdK (l0 : List Tk) (k : Nat) (d : Dc) : Prop where
 kind : d.k = k
 nm : isNam d.nm = true
 ot : if k = 3 then isNam d.ot = true else d.ot = []
 rest : d.nu = [] ∧ d.va = [] ∧ d.un = [] ∧ d.tr = [] ∧ d.pl = 0
 at' : ∃ z ∈ l0, d.at' = (z.2.2 : Int)
theorem unitG_nil : unitG [] = true := rfl
theorem TokK.unitG {t : Tk} (h : TokK t) (hk : t.1 = 4) : unitG t.2.1 = true ∧ t.2.1 ≠ [] := by
 have h1 := h.unit hk
 unfold Proofs.YtheaepceghnkpaaGreatDoor.unitG
 have h3 : t.2.1.all (fun c => decide (c < 256)) = true := List.all_eq_true.2 fun c hc => decide_eq_true (h.2.1 c hc)
 rw [h.2.2 hk, decide_eq_true h1.2, h3]
 exact ⟨rfl, fun e => by rw [e] at h1; simp at h1⟩
theorem outB_post {L : Lim} {en n0 n : Nat} {d : Dc} {l0 l : List Tk} (hs : ∀ z ∈ l, z ∈ l0) (hd : ∀ k : Nat, k ≤ 60 → DcK L l0 { d with pl := k }) (hn : n = n0 + d.tr.length) (hm : n ≤ L.nodes ∨ n = n0) : PostD L en l0 l n0 n (outB en d l n) := by
 unfold outB
 have h := takeT_post en 3 [58] l n
 cases ht : takeT en 3 [58] l n with
 | bad e p => rw [ht] at h; exact FaultK.up h hs
 | ok t r m =>
  rw [ht] at h
  obtain ⟨rfl, h1, rfl⟩ := h
  rw [PaR.next_ok]
  have k := takeT_post en 2 [] r m
  cases hu : takeT en 2 [] r m with
  | bad e p => rw [hu] at k; exact FaultK.up k fun z hz => hs z (List.mem_cons_of_mem _ hz)
  | ok x q m =>
   rw [hu] at k
   obtain ⟨rfl, h3, rfl⟩ := k
   rw [PaR.next_ok]
   have hx : x ∈ l0 := hs x (by simp)
   cases hsm : smallT x.2.1 2 with
   | none => exact ⟨.inr rfl, .inr ⟨x, hx, rfl⟩⟩
   | some j =>
    dsimp only
    by_cases hj : 60 < j
    · rw [if_pos hj]; exact ⟨.inl rfl, .inr ⟨x, hx, rfl⟩⟩
    · rw [if_neg hj]
      exact (semiT_post (fun z hz => hs z (by simp [hz])) (hd j (by omega)) hn hm).of ⟨[t, x], rfl⟩
theorem bodyT_post {L : Lim} (hL : L.Fit) {en n0 k : Nat} (hk : 1 ≤ k ∧ k ≤ 5) {d : Dc} {l0 l : List Tk} (hs : ∀ z ∈ l, z ∈ l0) (hl : ToksK l) (hd : HdK l0 k d) : PostD L en l0 l n0 n0 (bodyT L en k d l n0) := by
 obtain ⟨k1, k2, k3, ⟨r1, r2, r3, r4, r5⟩, k5⟩ := hd
 obtain ⟨dk, nm, ot, nu, va, un, tr, pl, at'⟩ := d
 dsimp only at k1 k2 k3 r1 r2 r3 r4 r5 k5
 subst k1 r1 r2 r3 r4 r5
 have nopow : ∀ y ∈ ([] : List Nd), y.k = 8 → -(L.power : Int) ≤ y.n ∧ y.n ≤ (L.power : Int) := fun y hy => by cases hy
 have nonds : ∀ y ∈ ([] : List Nd), ∃ z ∈ l0, y.p = (z.2.2 : Int) := fun y hy => by cases hy
 unfold bodyT
 by_cases h1 : k = 1
 · subst h1
   rw [if_pos rfl]
   have h := numT_post L en hl n0
   cases hr : numT en l n0 with
   | bad e p => rw [hr] at h; exact FaultK.up h hs
   | ok s r m =>
    rw [hr] at h
    obtain ⟨⟨x, rfl⟩, rfl, hg⟩ := h
    rw [PaR.next_ok]
    have hq := takeT_post en 4 [] r m
    cases hu : takeT en 4 [] r m with
    | bad e p => rw [hu] at hq; exact FaultK.up hq fun z hz => hs z (List.mem_append_right _ hz)
    | ok u q m =>
     rw [hu] at hq
     obtain ⟨rfl, h3, rfl⟩ := hq
     rw [PaR.next_ok]
     obtain ⟨u1, u2⟩ := (hl.behind.head).unitG (isT_kind h3).1
     rw [if_neg (by decide)] at k3
     exact (semiT_post (fun z hz => hs z (by simp [hz])) ⟨by unfold goodD; simp [k2, u1, u2, hg, k3], k5, nonds, nopow⟩ rfl (.inr rfl)).of ⟨x ++ [u], by simp⟩
 · rw [if_neg h1]
   by_cases h2 : k = 2
   · subst h2
     rw [if_pos rfl]
     have h := numT_post L en hl n0
     cases hr : numT en l n0 with
     | bad e p => rw [hr] at h; exact FaultK.up h hs
     | ok s r m =>
      rw [hr] at h
      obtain ⟨⟨x, rfl⟩, rfl, hg⟩ := h
      rw [PaR.next_ok]
      have hlr := hl.behind
      have hu1 : unitG (unitT r).1 = true := by
       unfold unitT
       cases r with
       | nil => rfl
       | cons t r =>
        dsimp only
        by_cases h4 : isT 4 [] t = true
        · rw [if_pos h4]; exact (hlr.head.unitG (isT_kind h4).1).1
        · rw [if_neg h4]; rfl
      have hut := unitT_toks hlr
      have hux := unitT_s r
      generalize (unitT r).1 = u at *
      generalize (unitT r).2 = r2 at *
      obtain ⟨y, rfl⟩ := hux
      have hq := takeT_post en 3 [58] r2 m
      cases ht : takeT en 3 [58] r2 m with
      | bad e p => rw [ht] at hq; exact FaultK.up hq fun z hz => hs z (by simp [hz])
      | ok t q m =>
       rw [ht] at hq
       obtain ⟨rfl, h3, rfl⟩ := hq
       rw [PaR.next_ok]
       have h := numT_post L en hut.tail m
       cases hr : numT en q m with
       | bad e p => rw [hr] at h; exact FaultK.up h fun z hz => hs z (by simp [hz])
       | ok v r m =>
        rw [hr] at h
        obtain ⟨⟨z, rfl⟩, rfl, hv⟩ := h
        rw [PaR.next_ok]
        rw [if_neg (by decide)] at k3
        exact (semiT_post (fun w hw => hs w (by simp [hw])) ⟨by unfold goodD; simp [k2, hu1, hg, hv, k3], k5, nonds, nopow⟩ rfl (.inr rfl)).of ⟨x ++ (y ++ t :: z), by simp⟩
   · rw [if_neg h2]
     by_cases h3 : k = 3
     · subst h3
       rw [if_pos rfl]
       have h := numT_post L en hl n0
       cases hr : numT en l n0 with
       | bad e p => rw [hr] at h; exact FaultK.up h hs
       | ok s r m =>
        rw [hr] at h
        obtain ⟨⟨x, rfl⟩, rfl, hg⟩ := h
        rw [PaR.next_ok]
        rw [if_pos rfl] at k3
        exact (semiT_post (fun z hz => hs z (by simp [hz])) ⟨by unfold goodD; simp [k2, hg, k3, unitG_nil], k5, nonds, nopow⟩ rfl (.inr rfl)).of ⟨x, rfl⟩
     · rw [if_neg h3]
       rw [if_neg h3] at k3
       have h := formL_fine hL en l n0 hl
       by_cases h4 : k = 4
       · subst h4
         rw [if_pos rfl]
         cases hr : formL L en l n0 with
         | bad e p => rw [hr] at h; exact FaultK.up h hs
         | ok t r m =>
          rw [hr] at h
          obtain ⟨h5, h6⟩ := h
          obtain ⟨x, _, rfl, _⟩ := h5
          replace h6 := h6.mono hs
          rw [PaR.next_ok]
          exact (semiT_post (fun z hz => hs z (by simp [hz])) ⟨by unfold goodD; simp [k2, h6.good, k3, unitG_nil], k5, h6.at', h6.pow⟩ h6.cnt (.inl h6.lim)).of ⟨x, rfl⟩
       · rw [if_neg h4]
         have hk5 : k = 5 := by omega
         subst hk5
         cases hr : formL L en l n0 with
         | bad e p => rw [hr] at h; exact FaultK.up h hs
         | ok t r m =>
          rw [hr] at h
          obtain ⟨h5, h6⟩ := h
          obtain ⟨x, _, rfl, _⟩ := h5
          replace h6 := h6.mono hs
          rw [PaR.next_ok]
          by_cases hin : nextT 1 [105, 110] r = true
          · rw [if_pos hin]
            obtain ⟨w, r, rfl, hw⟩ := nextT_cons hin
            have hq := takeT_post en 4 [] r m
            show PostD L en l0 _ n0 n0 ((takeT en 4 [] r m).next _)
            cases hu : takeT en 4 [] r m with
            | bad e p => rw [hu] at hq; exact FaultK.up hq fun z hz => hs z (by simp [hz])
            | ok u q m =>
             rw [hu] at hq
             obtain ⟨rfl, h3, rfl⟩ := hq
             rw [PaR.next_ok]
             obtain ⟨u1, u2⟩ := (hl.behind.tail.head).unitG (isT_kind h3).1
             exact (outB_post (fun z hz => hs z (by simp [hz])) (fun j hj => ⟨by unfold goodD; simp [k2, u1, h6.good, k3]; omega, k5, h6.at', h6.pow⟩) h6.cnt (.inl h6.lim)).of ⟨x ++ [w, u], by simp⟩
          · rw [if_neg hin]
            exact (outB_post (fun z hz => hs z (by simp [hz])) (fun j hj => ⟨by unfold goodD; simp [k2, unitG_nil, h6.good, k3]; omega, k5, h6.at', h6.pow⟩) h6.cnt (.inl h6.lim)).of ⟨x, rfl⟩
def PostH (en : Nat) (l0 l : List Tk) (n k : Nat) : PaR Dc → Prop
 | .ok d q m => (∃ x, l = x ++ q) ∧ m = n ∧ HdK l0 k d
 | .bad e p => FaultK en l0 e p
theorem headT_post {en n k : Nat} {l0 l : List Tk} (hs : ∀ z ∈ l, z ∈ l0) : PostH en l0 l n k (headT en k l n) := by
 unfold headT
 have h := nameT_post en l n
 cases hr : nameT en l n with
 | bad e p => rw [hr] at h; exact FaultK.up h hs
 | ok x r m =>
  rw [hr] at h
  obtain ⟨rfl, h1, rfl⟩ := h
  rw [PaR.next_ok]
  have hx : ∃ z ∈ l0, ((x.2.2 : Nat) : Int) = (z.2.2 : Int) := ⟨x, hs x (by simp), rfl⟩
  by_cases h3 : k = 3
  · subst h3
    rw [if_pos rfl]
    have h := nameT_post en r m
    cases hr : nameT en r m with
    | bad e p => rw [hr] at h; exact FaultK.up h fun z hz => hs z (by simp [hz])
    | ok y r m =>
     rw [hr] at h
     obtain ⟨rfl, h2, rfl⟩ := h
     rw [PaR.next_ok]
     have h := takeT_post en 3 [61] r m
     cases hr : takeT en 3 [61] r m with
     | bad e p => rw [hr] at h; exact FaultK.up h fun z hz => hs z (by simp [hz])
     | ok t r m =>
      rw [hr] at h
      obtain ⟨rfl, _, rfl⟩ := h
      exact ⟨⟨[x, y, t], rfl⟩, rfl, ⟨rfl, h1.2, h2.2, ⟨rfl, rfl, rfl, rfl, rfl⟩, hx⟩⟩
  · rw [if_neg h3]
    have h := takeT_post en 3 [61] r m
    cases hr : takeT en 3 [61] r m with
    | bad e p => rw [hr] at h; exact FaultK.up h fun z hz => hs z (by simp [hz])
    | ok t r m =>
     rw [hr] at h
     obtain ⟨rfl, _, rfl⟩ := h
     exact ⟨⟨[x, t], rfl⟩, rfl, ⟨rfl, h1.2, by rw [if_neg h3], ⟨rfl, rfl, rfl, rfl, rfl⟩, hx⟩⟩
theorem declT_post {L : Lim} (hL : L.Fit) {en n i : Nat} {l0 : List Tk} {w : Tk} {r : List Tk} (hs : ∀ z ∈ w :: r, z ∈ l0) (hl : ToksK (w :: r)) : PostD L en l0 r n n (declT L en i (w :: r) n) ∧ ∀ d q m, declT L en i (w :: r) n = .ok d q m → i < 60 := by
 unfold declT
 dsimp only
 have hw0 : w ∈ l0 := hs w (by simp)
 cases hw : wordK w with
 | none => exact ⟨⟨.inr rfl, .inr ⟨w, hw0, rfl⟩⟩, fun d q m h => by cases h⟩
 | some k =>
  dsimp only
  by_cases h60 : 60 ≤ i
  · rw [if_pos h60]; exact ⟨⟨.inl rfl, .inr ⟨w, hw0, rfl⟩⟩, fun d q m h => by cases h⟩
  · rw [if_neg h60]
    refine ⟨?_, fun _ _ _ _ => by omega⟩
    have h := headT_post (en := en) (n := n) (k := k) (l0 := l0) (l := r) (fun z hz => hs z (by simp [hz]))
    cases hr : headT en k r n with
    | bad e p => rw [hr] at h; exact h
    | ok d q m =>
     rw [hr] at h
     obtain ⟨⟨x, rfl⟩, rfl, h2⟩ := h
     rw [PaR.next_ok]
     exact (bodyT_post hL (wordK_some hw).2 (fun z hz => hs z (by simp [hz])) hl.tail.behind h2).of ⟨x, rfl⟩
def ndsD (ds : List Dc) : Nat := (ds.map fun d => d.tr.length).sum
def PostS (L : Lim) (en i : Nat) (l0 : List Tk) (n : Nat) : PaR (List Dc) → Prop
 | .ok ds q m => q = [] ∧ (∀ d ∈ ds, DcK L l0 d) ∧ m = n + ndsD ds ∧ m ≤ L.nodes ∧ (ds = [] ∨ i + ds.length ≤ 60)
 | .bad e p => FaultK en l0 e p
theorem scrT_post {L : Lim} (hL : L.Fit) {en : Nat} {l0 : List Tk} : ∀ (g i : Nat) (l : List Tk) (n : Nat), l.length ≤ g → (∀ z ∈ l, z ∈ l0) → ToksK l → n ≤ L.nodes → PostS L en i l0 n (scrT L en g i l n) := by
 intro g
 induction g with
 | zero =>
  intro i l n hg hs hl hn
  cases l with
  | nil => exact ⟨rfl, fun d hd => (by cases hd), rfl, hn, .inl rfl⟩
  | cons x r => simp at hg
 | succ g ih =>
  intro i l n hg hs hl hn
  cases l with
  | nil => exact ⟨rfl, fun d hd => (by cases hd), rfl, hn, .inl rfl⟩
  | cons x r =>
   unfold scrT
   obtain ⟨h, h60⟩ := declT_post hL (en := en) (n := n) (i := i) hs hl
   cases hr : declT L en i (x :: r) n with
   | bad e p => rw [hr] at h; exact h
   | ok d q m =>
    rw [hr] at h
    have hi := h60 d q m hr
    obtain ⟨⟨z, rfl⟩, h2, rfl, h4⟩ := h
    rw [PaR.next_ok]
    rw [List.length_cons, List.length_append] at hg
    have k := ih (i + 1) q (n + d.tr.length) (by omega) (fun y hy => hs y (by simp [hy])) hl.tail.behind (by omega)
    cases hr2 : scrT L en g (i + 1) q (n + d.tr.length) with
    | bad e p => rw [hr2] at k; exact k
    | ok ds q2 m2 =>
     rw [hr2] at k
     obtain ⟨rfl, k2, rfl, k4, k5⟩ := k
     refine ⟨rfl, fun y hy => ?_, by unfold ndsD; rw [List.map_cons, List.sum_cons]; omega, k4, .inr ?_⟩
     · rcases List.mem_cons.1 hy with rfl | hy
       · exact h2
       · exact k2 y hy
     · rw [List.length_cons]
       rcases k5 with rfl | k5
       · simp; omega
       · omega
end Go.Proofs.YtheaepceghnkpaaGreatDoor

/- Mathematics of the grammar: a num's text, a unit's, as bytes. No condition. -/
namespace Go.Proofs.YtheaepceghnkpaaGreatDoor
open Go.RowKit Limb
set_option linter.unusedVariables false
theorem good_lt {l : List Nat} (h : litGood l = true) : Bytes l := by
 intro c hc
 obtain ⟨i, hi, rfl⟩ := List.getElem_of_mem hc
 have hd : lim l i = l[i] := by unfold lim; rw [List.getD_eq_getElem?_getD, List.getElem?_eq_getElem hi]; rfl
 have := good_bytes h hi hd
 rcases this with h | h | h | h <;> omega
theorem numH_cases {b : List Nat} (h : numH b = true) : litGood b = true ∨ ∃ k, k < b.length ∧ lim b k = 47 ∧ litGood (b.take k) = true ∧ litGood (b.drop (k + 1)) = true ∧ ∀ i, i < k → lim b i ≠ 47 := by
 unfold numH at h
 split at h
 · rename_i hk
   rw [Bool.and_eq_true] at h
   have ht : b.take (b.takeWhile (· ≠ 47)).length = b.takeWhile (· ≠ 47) := take_whileL b
   refine .inr ⟨(b.takeWhile (· ≠ 47)).length, hk, ?_, by rw [ht]; exact h.1, h.2, fun i hi e => ?_⟩
   · have h9 := drop_lim hk
     have := while_next h9
     simpa using this
   · have h1 : lim (b.takeWhile (· ≠ 47)) i = lim b i := by
      rw [← ht]
      unfold lim
      rw [List.getD_eq_getElem?_getD, List.getD_eq_getElem?_getD, List.getElem?_take_of_lt hi]
     have hm : lim (b.takeWhile (· ≠ 47)) i ∈ b.takeWhile (· ≠ 47) := by
      unfold lim
      rw [List.getD_eq_getElem?_getD, List.getElem?_eq_getElem hi]
      exact List.getElem_mem hi
     have := while_mem _ hm
     rw [h1, e] at this
     exact absurd this (by decide)
 · exact .inl h
theorem numH_bytes {b : List Nat} (h : numH b = true) : Bytes b := by
 rcases numH_cases h with h | ⟨k, h1, h2, h3, h4, _⟩
 · exact good_lt h
 · have e : b = b.take k ++ 47 :: b.drop (k + 1) := by
    have h5 := drop_lim h1
    rw [h2] at h5
    rw [← h5, List.take_append_drop]
   rw [e]
   intro c hc
   rcases List.mem_append.1 hc with hc | hc
   · exact good_lt h3 c hc
   · rcases List.mem_cons.1 hc with rfl | hc
     · decide
     · exact good_lt h4 c hc
theorem numG_cases {s : List Nat} (h : numG s = true) : (∃ r, s = 45 :: r ∧ numH r = true) ∨ (∃ c r, s = c :: r ∧ c ≠ 45 ∧ numH s = true) := by
 cases s with
 | nil => exact absurd h (by decide)
 | cons c r =>
  unfold numG at h
  by_cases hc : c = 45
  · have h2 : (if c = 45 then numH r else numH (c :: r)) = true := h
    rw [if_pos hc] at h2
    exact .inl ⟨r, by rw [hc], h2⟩
  · have h2 : (if c = 45 then numH r else numH (c :: r)) = true := h
    rw [if_neg hc] at h2
    exact .inr ⟨c, r, rfl, hc, h2⟩
theorem numG_bytes {s : List Nat} (h : numG s = true) : Bytes s := by
 rcases numG_cases h with ⟨r, rfl, h⟩ | ⟨c, r, rfl, _, h⟩
 · intro d hd
   rcases List.mem_cons.1 hd with rfl | hd
   · decide
   · exact numH_bytes h d hd
 · exact numH_bytes h
theorem isNam_bytes {s : List Nat} (h : isNam s = true) : Bytes s := by
 have hw : isWdB s = true := by unfold isNam at h; rw [Bool.and_eq_true] at h; exact h.1
 cases s with
 | nil => cases hw
 | cons c r =>
  unfold isWdB at hw
  simp only [Bool.and_eq_true] at hw
  have lw : ∀ c, isLw c = true → c < 256 := fun c h => by
   unfold isLw isLt isDig at h
   simp at h; omega
  intro d hd
  rcases List.mem_cons.1 hd with rfl | hd
  · exact lw _ (by unfold isLw; rw [hw.1.1]; rfl)
  · exact lw d (List.all_eq_true.1 hw.1.2 d hd)
theorem unitG_facts {u : List Nat} (h : unitG u = true) : Bytes u ∧ u.length ≤ 200 ∧ u.all inUn = true := by
 unfold unitG at h
 simp only [Bool.and_eq_true, decide_eq_true_eq] at h
 exact ⟨fun c hc => by have := List.all_eq_true.1 h.2 c hc; simpa using this, h.1.1, h.1.2⟩
end Go.Proofs.YtheaepceghnkpaaGreatDoor

/- Mathematics of the grammar: two scripts behind one another; a script that is cut ahead of a token; what ParseMay, ParseCuts and ParseRows ask. No condition. -/
namespace Go.Proofs.YtheaepceghnkpaaGreatDoor
open Go.RowKit Limb
set_option linter.unusedVariables false
theorem declT_r {L : Lim} {en i : Nat} {w : Tk} {r : List Tk} {n : Nat} {d : Dc} {q : List Tk} {m : Nat} (h : declT L en i (w :: r) n = .ok d q m) : ∃ x, r = x ++ q := by
 unfold declT at h
 dsimp only at h
 cases hw : wordK w with
 | none => rw [hw] at h; cases h
 | some k =>
  rw [hw] at h
  dsimp only at h
  by_cases h60 : 60 ≤ i
  · rw [if_pos h60] at h; cases h
  · rw [if_neg h60] at h
    exact (((headT_s en k r n).next fun d q m => bodyT_s L en k d q m) d q m h).1
theorem scrT_nil (L : Lim) (en g i n : Nat) : scrT L en g i [] n = .ok [] [] n := by cases g <;> rfl
theorem scrT_step (L : Lim) (en g i : Nat) (x : Tk) (r : List Tk) (n : Nat) : scrT L en (g + 1) i (x :: r) n = (declT L en i (x :: r) n).next fun d r n => (scrT L en g (i + 1) r n).next fun ds r n => .ok (d :: ds) r n := rfl
theorem scrT_len (L : Lim) (en : Nat) : ∀ (g i : Nat) (l : List Tk) (n : Nat), l.length ≤ g → scrT L en g i l n = scrT L en l.length i l n := by
 intro g
 induction g using Nat.strongRecOn with
 | ind g ih =>
  intro i l n hg
  cases l with
  | nil => rw [scrT_nil, scrT_nil]
  | cons x r =>
   cases g with
   | zero => simp at hg
   | succ g =>
    rw [List.length_cons] at hg ⊢
    rw [scrT_step, scrT_step]
    cases hd : declT L en i (x :: r) n with
    | bad e p => rfl
    | ok d q m =>
     rw [PaR.next_ok, PaR.next_ok]
     obtain ⟨z, rfl⟩ := declT_r hd
     rw [List.length_append] at hg ⊢
     rw [ih g (by omega) _ q _ (by omega), ih (z.length + q.length) (by omega) _ q _ (by omega)]
end Go.Proofs.YtheaepceghnkpaaGreatDoor

/- Mathematics of the grammar: what ParseMay, ParseCuts and ParseRows ask of a script's reading. No condition. -/
namespace Go.Proofs.YtheaepceghnkpaaGreatDoor
open Go.RowKit Limb
set_option linter.unusedVariables false
theorem lexR_bad : ∀ (f a : Nat) (l : List Nat) (p : Nat), l.length < f → lexR f a l = .bad p → a ≤ p ∧ p < a + l.length
 | 0, _, _, _, hf, _ => absurd hf (by omega)
 | f + 1, a, [], p, _, h => by cases h
 | f + 1, a, c :: r, p, hf, h => by
  rw [List.length_cons] at hf ⊢
  unfold lexR at h
  cases e : lexS c r with
  | bad => rw [e] at h; cases h; omega
  | skip n =>
   rw [e] at h
   have hl := lexS_len.1 n e
   have := lexR_bad f _ _ p (by rw [List.length_drop, List.length_cons]; omega) h
   rw [List.length_drop, List.length_cons] at this
   omega
  | tok k s n =>
   rw [e] at h
   have hl := lexS_len.2 k s n e
   dsimp only at h
   cases e2 : lexR f (a + n) ((c :: r).drop n) with
   | ok us => rw [e2] at h; cases h
   | bad p' =>
    rw [e2] at h
    cases h
    have := lexR_bad f _ _ p (by rw [List.length_drop, List.length_cons]; omega) e2
    rw [List.length_drop, List.length_cons] at this
    omega
theorem cutL_fit (t d n p : Int) : (cutL t d n p).Fit := by unfold cutL Lim.Fit; dsimp only; omega
theorem fit_most {L : Lim} (h : L.Fit) : L.le mostL := ⟨h.1, h.2.1, h.2.2.1⟩
theorem scrV_bad {L : Lim} (hL : L.Fit) {s : List Nat} (hb : Bytes s) {ds : List Dc} {E P : Int} (h : scrV L s = (ds, E, P)) (hE : E ≠ 0) : ds = [] ∧ 0 ≤ P ∧ P ≤ s.length := by
 unfold scrV at h
 by_cases h0 : L.text < s.length
 · rw [if_pos h0] at h
   cases h; exact ⟨rfl, by omega, by omega⟩
 · rw [if_neg h0] at h
   cases hl : lexT s with
   | bad p =>
    rw [hl] at h
    cases h
    have := lexR_bad _ _ _ _ (by omega) hl
    exact ⟨rfl, by omega, by omega⟩
   | ok ts =>
    rw [hl] at h
    dsimp only at h
    obtain ⟨h1, h2⟩ := lexT_tok hb hl
    have hp := scrT_post hL (en := s.length) (l0 := ts) ts.length 0 ts 0 (Nat.le_refl _) (fun z hz => hz) h1 (Nat.zero_le _)
    cases hs : scrT L s.length ts.length 0 ts 0 with
    | ok a q m => rw [hs] at h; cases h; exact absurd rfl hE
    | bad e p =>
     rw [hs] at h hp
     cases h
     refine ⟨rfl, by omega, ?_⟩
     rcases hp.2 with rfl | ⟨z, hz, rfl⟩
     · omega
     · have := h2 z hz; omega
theorem dcq_eq {x y : Dc} (h : DcQ Eq x y) : x = y := by
 obtain ⟨k, nm, ot, nu, va, un, tr, pl, at'⟩ := x
 obtain ⟨e1, e2, e3, e4, e5, e6, e7, e8, a, b, e9, e10, e11⟩ := h
 dsimp only at *
 have ht := All2.eq (R := NdQ Eq) (fun x y hxy => by
  obtain ⟨g1, a, b, g2, g3, g4⟩ := hxy
  obtain ⟨k, aa, bb, n, t, u, p⟩ := x
  obtain ⟨k', aa', bb', n', t', u', p'⟩ := y
  unfold bareN at g1
  simp only [Nd.mk.injEq] at g1 g2 g3 ⊢
  try dsimp only at g2 g3
  obtain ⟨i1, i2, i3, i4, i5, i6, _⟩ := g1
  exact ⟨i1, i2, i3, i4, i5, i6, by rw [g2, g3, g4]⟩) e7
 subst e1 e2 e3 e4 e5 e6 ht e8 e9 e11
 rw [← e10]
theorem tkq_refl (t : Tk) : TkR Eq t t := ⟨rfl, rfl, rfl⟩
theorem scrV_ok {L : Lim} (hL : L.Fit) {s : List Nat} (hb : Bytes s) {ds : List Dc} {P : Int} (h : scrV L s = (ds, 0, P)) :
 P = 0 ∧ s.length ≤ L.text ∧ (∀ d ∈ ds, goodD d = true ∧ (0 ≤ d.at' ∧ d.at' < s.length) ∧ ∀ y ∈ d.tr, (0 ≤ y.p ∧ y.p < s.length) ∧ (y.k = 8 → -(L.power : Int) ≤ y.n ∧ y.n ≤ L.power)) ∧ ndsD ds ≤ L.nodes ∧ ds.length ≤ 60 ∧ scrV mostL s = (ds, 0, 0) := by
 unfold scrV at h ⊢
 by_cases h0 : L.text < s.length
 · rw [if_pos h0] at h
   cases h
 · rw [if_neg h0] at h
   cases hl : lexT s with
   | bad p => rw [hl] at h; cases h
   | ok ts =>
    rw [hl] at h
    dsimp only at h ⊢
    obtain ⟨h1, h2⟩ := lexT_tok hb hl
    have hp := scrT_post hL (en := s.length) (l0 := ts) ts.length 0 ts 0 (Nat.le_refl _) (fun z hz => hz) h1 (Nat.zero_le _)
    have hq := scrT_q (P := Eq) (fit_most hL) s.length s.length 0 ts.length (Nat.le_refl 0) (All2.refl tkq_refl ts) 0
    cases hs : scrT L s.length ts.length 0 ts 0 with
    | bad e p => rw [hs] at h hp; cases h; exfalso; rcases (show (0 : Nat) = 2 ∨ (0 : Nat) = 12 from hp.1) with h | h <;> omega
    | ok a q m =>
     rw [hs] at h hp
     cases h
     obtain ⟨_, p2, p3, p4, p5⟩ := hp
     rw [Nat.zero_add] at p3
     refine ⟨rfl, by omega, fun d hd => ?_, by omega, ?_, ?_⟩
     · obtain ⟨g, ⟨z, hz, e⟩, k3, k4⟩ := p2 d hd
       have hz2 := h2 z hz
       refine ⟨g, ⟨by omega, by omega⟩, fun y hy => ⟨?_, k4 y hy⟩⟩
       obtain ⟨z, hz, e⟩ := k3 y hy
       have hz2 := h2 z hz
       exact ⟨by omega, by omega⟩
     · rcases p5 with rfl | p5
       · simp
       · omega
     · rw [if_neg (by show ¬ 4000 < s.length; have := hL.2.2.2; omega)]
       rw [Nat.add_zero, hs] at hq
       rcases hq with ⟨p, hq⟩ | ⟨a1, q1, m1, a2, q2, e1, e2, e3, e4⟩ | ⟨e, p, p', e1, e2⟩
       · cases hq
       · injection e1 with e1 _ _
         subst e1
         rw [e2, All2.eq (fun x y => dcq_eq) e3]
       · cases e1
end Go.Proofs.YtheaepceghnkpaaGreatDoor

/- Mathematics of declarations that may be: how long their texts are; what lies in a tree that may be. No condition. -/
namespace Go.Proofs.YtheaepceghnkpaaGreatDoor
open Go.RowKit Limb
set_option linter.unusedVariables false
theorem begF_fits {ts : List Nd} : ∀ {o q : List Nat}, begF (some o) ts = some q → ∀ x ∈ ts, fitsN x = true := by
 induction ts with
 | nil => intro o q _ x hx; cases hx
 | cons y r ih =>
  intro o q h x hx
  obtain ⟨s, h1, h2⟩ := begF_cons h
  rcases List.mem_cons.1 hx with rfl | hx
  · exact (stepB_cases h1).1
  · exact ih h2 x hx
theorem fits_sizes {x : Nd} (h : fitsN x = true) : x.t.size ≤ 400 ∧ x.u.size ≤ 200 := by
 unfold fitsN at h
 by_cases h1 : x.k = 1
 · rw [if_pos h1] at h
   simp only [Bool.and_eq_true, decide_eq_true_eq] at h
   have h2 := (litGood_iff.1 h.1.2).2.1
   rw [length_bytesOf] at h2
   have h3 := h.2
   unfold unitOk at h3
   rw [Bool.and_eq_true, decide_eq_true_eq] at h3
   exact ⟨h2, h3.1⟩
 · rw [if_neg h1] at h
   by_cases h2 : x.k = 2
   · rw [if_pos h2] at h
     simp only [Bool.and_eq_true, decide_eq_true_eq] at h
     have h3 : isWdB (bytesOf x.t) = true := by have := h.2; unfold isNam at this; rw [Bool.and_eq_true] at this; exact this.1
     have h4 : (bytesOf x.t).length ≤ 16 := by
      cases hb : bytesOf x.t with
      | nil => simp
      | cons c r => rw [hb] at h3; unfold isWdB at h3; simp only [Bool.and_eq_true, decide_eq_true_eq] at h3; rw [List.length_cons]; omega
     rw [length_bytesOf] at h4
     exact ⟨by omega, by omega⟩
   · rw [if_neg h2] at h
     have hz : x.t.size = 0 ∧ x.u.size = 0 := by
      by_cases h3 : twoK x.k = true
      · rw [if_pos h3] at h; simp only [Bool.and_eq_true, decide_eq_true_eq] at h; exact ⟨h.1.2, h.2⟩
      · rw [if_neg h3] at h
        by_cases h4 : x.k = 7
        · rw [if_pos h4] at h; simp only [Bool.and_eq_true, decide_eq_true_eq] at h; exact ⟨h.1.2, h.2⟩
        · rw [if_neg h4] at h
          by_cases h5 : x.k = 8
          · rw [if_pos h5] at h; simp only [Bool.and_eq_true, decide_eq_true_eq] at h; exact ⟨h.1.1.1.2, h.1.1.2⟩
          · rw [if_neg h5] at h; cases h
     omega
theorem good_mild {ts : List Nd} (h : goodT ts = true) : ts.length ≤ 2000 ∧ ∀ x ∈ ts, x.t.size ≤ 400 ∧ x.u.size ≤ 200 := by
 obtain ⟨_, h2, o, hb, _⟩ := good_all h
 exact ⟨h2, fun x hx => fits_sizes (begF_fits hb x hx)⟩
theorem isNam_len {l : List Nat} (h : isNam l = true) : l.length ≤ 16 := by
 have h3 : isWdB l = true := by unfold isNam at h; rw [Bool.and_eq_true] at h; exact h.1
 cases l with
 | nil => simp
 | cons c r => unfold isWdB at h3; simp only [Bool.and_eq_true, decide_eq_true_eq] at h3; rw [List.length_cons]; omega
theorem numH_len {b : List Nat} (h : numH b = true) : b.length ≤ 802 := by
 rcases numH_cases h with h | ⟨k, h1, _, h3, h4, _⟩
 · have := (litGood_iff.1 h).2.1; omega
 · have h5 := (litGood_iff.1 h3).2.1
   have h6 := (litGood_iff.1 h4).2.1
   rw [List.length_take] at h5
   rw [List.length_drop] at h6
   omega
theorem numG_len {s : List Nat} (h : numG s = true) : s.length ≤ 803 := by
 rcases numG_cases h with ⟨r, rfl, h⟩ | ⟨c, r, rfl, _, h⟩
 · have := numH_len h; rw [List.length_cons]; omega
 · have := numH_len h; omega
theorem goodD_sizes {d : Dc} (h : goodD d = true) : d.nm.length ≤ 1000 ∧ d.ot.length ≤ 1000 ∧ d.nu.length ≤ 1000 ∧ d.va.length ≤ 1000 ∧ d.un.length ≤ 1000 ∧ (d.tr = [] ∨ goodT d.tr = true) := by
 unfold goodD at h
 rw [Bool.and_eq_true, Bool.and_eq_true] at h
 obtain ⟨⟨g1, g2⟩, g3⟩ := h
 have h1 := isNam_len g1
 have h2 := (unitG_facts g2).2.1
 refine ⟨by omega, ?_⟩
 by_cases k1 : d.k = 1
 · rw [if_pos k1] at g3
   simp only [Bool.and_eq_true, decide_eq_true_eq] at g3
   obtain ⟨⟨⟨⟨⟨p1, p2⟩, p3⟩, p4⟩, p5⟩, _⟩ := g3
   have := numG_len p1
   rw [p3, p4]
   exact ⟨by simp, by omega, by simp, by omega, .inl (List.eq_nil_of_length_eq_zero p5)⟩
 · rw [if_neg k1] at g3
   by_cases k2 : d.k = 2
   · rw [if_pos k2] at g3
     simp only [Bool.and_eq_true, decide_eq_true_eq] at g3
     obtain ⟨⟨⟨⟨p1, p2⟩, p3⟩, p5⟩, _⟩ := g3
     have := numG_len p1
     have := numG_len p2
     rw [p3]
     exact ⟨by simp, by omega, by omega, by omega, .inl (List.eq_nil_of_length_eq_zero p5)⟩
   · rw [if_neg k2] at g3
     by_cases k3 : d.k = 3
     · rw [if_pos k3] at g3
       simp only [Bool.and_eq_true, decide_eq_true_eq] at g3
       obtain ⟨⟨⟨⟨⟨p1, p2⟩, p3⟩, p4⟩, p5⟩, _⟩ := g3
       have := numG_len p1
       have := isNam_len p2
       rw [p3, p4]
       exact ⟨by omega, by omega, by simp, by simp, .inl (List.eq_nil_of_length_eq_zero p5)⟩
     · rw [if_neg k3] at g3
       by_cases k4 : d.k = 4
       · rw [if_pos k4] at g3
         simp only [Bool.and_eq_true, decide_eq_true_eq] at g3
         obtain ⟨⟨⟨⟨⟨p1, p2⟩, p3⟩, p4⟩, p5⟩, _⟩ := g3
         rw [p2, p3, p4, p5]
         exact ⟨by simp, by simp, by simp, by simp, .inr p1⟩
       · rw [if_neg k4] at g3
         by_cases k5 : d.k = 5
         · rw [if_pos k5] at g3
           simp only [Bool.and_eq_true, decide_eq_true_eq] at g3
           obtain ⟨⟨⟨⟨⟨p1, p2⟩, p2'⟩, p3⟩, p4⟩, p5⟩ := g3
           rw [p3, p4, p5]
           exact ⟨by simp, by simp, by simp, by omega, .inr p1⟩
         · rw [if_neg k5] at g3; cases g3
theorem ndsD_next {ds : List Dc} {k : Nat} {d : Dc} (h : ds[k]? = some d) : ndsD (ds.take (k + 1)) = ndsD (ds.take k) + d.tr.length := by
 unfold ndsD
 rw [List.take_add_one, h, List.map_append, List.sum_append]; simp
theorem ndsD_le (ds : List Dc) (k : Nat) : ndsD (ds.take k) ≤ ndsD ds := by
 have : ndsD ds = ndsD (ds.take k) + ndsD (ds.drop k) := by
  unfold ndsD
  rw [List.map_take, List.map_drop, ← List.sum_append, List.take_append_drop]
 omega
end Go.Proofs.YtheaepceghnkpaaGreatDoor

/- Own rows of nodes; what keep.OwnTree, keep.Tree answer, as contracts over memory. Conditions: rows of nodes that can be read, at most 10^6 nodes. -/
namespace Go.Proofs.YtheaepceghnkpaaGreatDoor
open Go.RowKit Limb
set_option linter.unusedVariables false
def OwnT (w : World) (B : Nat) (A : Option Addr) (n c : Nat) (ts : List Nd) : Prop := n = ts.length ∧ OwnR w B 47 7 A n c (ndCells ts)
theorem OwnR.caps {w : World} {B sz n c : Nat} {e : TypeId} {A : Option Addr} {xs : List Value} (h : OwnR w B e sz A n c xs) : n ≤ c ∧ c ≤ maxLen := by
 rcases h.2 with ⟨hv, h0⟩ | ⟨g, cap, cur, hv, hB, hg, hnc, hcm, _⟩
 · injection hv with h1 h2 h3
   subst h2 h3
   exact ⟨Nat.le_refl _, Nat.zero_le _⟩
 · injection hv with h1 h2 h3
   subst h3
   exact ⟨hnc, hcm⟩
theorem OwnT.tree {w : World} {B n c : Nat} {A : Option Addr} {ts : List Nd} (h : OwnT w B A n c ts) : TreR w A n c ts := OwnR.tree h.2 h.1 h.2.caps.1 h.2.caps.2
theorem OwnT.below {w w' : World} {B n c : Nat} {A : Option Addr} {ts : List Nd} (h : OwnT w B A n c ts) (hb : Below w.heap.size w w') : OwnT w' B A n c ts := ⟨h.1, h.2.below hb⟩
theorem ndCells_set {ts : List Nd} {i r : Nat} {x y : Nd} {v : Value} (hx : ts[i]? = some x) (hr : r < 7) (hy : (ndV x).toList.set r v = (ndV y).toList) : (ndCells ts).set (i * 7 + r) v = ndCells (ts.set i y) := by
 induction ts generalizing i with
 | nil => simp at hx
 | cons z ts ih =>
  have e : ∀ z ts, ndCells (z :: ts) = (ndV z).toList ++ ndCells ts := fun _ _ => rfl
  cases i with
  | zero =>
   obtain rfl : z = x := by simpa using hx
   rw [List.set_cons_zero, e, e, Nat.zero_mul, Nat.zero_add, List.set_append_left _ _ (by show r < 7; exact hr), hy]
  | succ i =>
   rw [List.set_cons_succ, e, e, List.set_append_right _ _ (by show 7 ≤ _; omega), show (i + 1) * 7 + r - (ndV z).toList.length = i * 7 + r by show (i + 1) * 7 + r - 7 = _; omega, ih (by simpa using hx)]
theorem OwnR.set {w : World} {B sz n c g : Nat} {e : TypeId} {xs : List Value} (h : OwnR w B e sz (some ⟨g, 0, none⟩) n c xs) {j : Nat} (hj : j < xs.length) (v : Value) : OwnR (w.setCell ⟨g, j, none⟩ v) B e sz (some ⟨g, 0, none⟩) n c (xs.set j v) := by
 refine ⟨by rw [List.length_set]; exact h.1, ?_⟩
 rcases h.2 with ⟨hv, _⟩ | ⟨g2, cap, cur, hv, hB, hg, hnc, hcm, hcs, ht⟩
 · cases hv
 · injection hv with h1 h2 h3
   injection h1 with h1
   injection h1 with h1
   subst h1
   refine .inr ⟨g, cap, cur.setIfInBounds j v, by rw [h3], hB, ?_, hnc, hcm, by rw [Array.size_setIfInBounds]; exact hcs, ?_⟩
   · have : RowA (w.setCell ⟨g, j, none⟩ v) g e (cur.setIfInBounds j v) := RowA.set (show RowA w g e cur from hg) j v
     exact this
   · rw [Array.toList_setIfInBounds, ← ht]
     rw [← ht] at hj
     have h1 := h.1
     rw [List.take_set]
theorem OwnT.set {w : World} {B n c g : Nat} {ts : List Nd} (h : OwnT w B (some ⟨g, 0, none⟩) n c ts) {i r : Nat} {x y : Nd} {v : Value} (hx : ts[i]? = some x) (hr : r < 7) (hy : (ndV x).toList.set r v = (ndV y).toList) : OwnT (w.setCell ⟨g, i * 7 + r, none⟩ v) B (some ⟨g, 0, none⟩) n c (ts.set i y) := by
 refine ⟨by rw [List.length_set]; exact h.1, ?_⟩
 rw [← ndCells_set hx hr hy]
 have hi := (List.getElem?_eq_some_iff.1 hx).1
 exact h.2.set (by rw [len_ndCells]; omega) v
theorem OwnT.free {w : World} {B n c g : Nat} {ts : List Nd} (h : OwnT w B (some ⟨g, 0, none⟩) n c ts) (j : Nat) : w.frozen? ⟨g, j, none⟩ = false := by
 rcases h.2.2 with ⟨hv, _⟩ | ⟨g2, cap, cur, hv, hB, hg, _⟩
 · cases hv
 · injection hv with h1 h2 h3
   injection h1 with h1
   injection h1 with h1
   subst h1
   exact RowA.free (show RowA w g 47 cur from hg) j
theorem OwnT.inV {w : World} {B n c g : Nat} {ts : List Nd} (h : OwnT w B (some ⟨g, 0, none⟩) n c ts) {i : Nat} {x : Nd} (hx : ts[i]? = some x) : InV w g (i * 7) (ndV x) := by
 obtain ⟨g2, o, e, _, h3⟩ := h.tree.2.2.2 (by have := (List.getElem?_eq_some_iff.1 hx).1; have := h.1; omega)
 obtain ⟨g3, e3, _, _, _, _, h6⟩ := h.2.cells (by have := (List.getElem?_eq_some_iff.1 hx).1; have := h.1; omega)
 cases e3
 exact fun j v hj => h6 _ _ (ndCells_at hx j v hj)
theorem eqN_iff {x y : Nd} : eqN x y = true ↔ x = y := by
 constructor
 · intro h
   unfold eqN sameN at h
   simp only [Bool.and_eq_true, decide_eq_true_eq] at h
   obtain ⟨⟨⟨⟨⟨⟨h1, h2⟩, h3⟩, h4⟩, h5⟩, h6⟩, h7⟩ := h
   exact Nd.ext' h1 h2 h3 h4 h5 h6 h7
 · rintro rfl
   unfold eqN sameN
   simp
def eqT : List Nd → List Nd → Bool
 | [], [] => true
 | x :: a, y :: b => eqN x y && eqT a b
 | _, _ => false
theorem eqT_iff : ∀ {a b : List Nd}, eqT a b = true ↔ a = b
 | [], [] => ⟨fun _ => rfl, fun _ => rfl⟩
 | [], y :: b => ⟨(fun h => by cases h), (fun h => by cases h)⟩
 | x :: a, [] => ⟨(fun h => by cases h), (fun h => by cases h)⟩
 | x :: a, y :: b => by
  unfold eqT
  rw [Bool.and_eq_true, eqN_iff, eqT_iff, List.cons.injEq]
set_option maxHeartbeats 4000000 in
set_option maxRecDepth 100000 in
theorem kTree_c {w : World} {A B : Option Addr} {n c m0 d : Nat} {ts us : List Nd} (h1 : TreR w A n c ts) (h2 : TreR w B m0 d us) (v : Bool) (hv : eqT ts us = v) :
 Calls Tryz.prog 13 #[.slice A n c, .slice B m0 d] w fun e w' => e = .returned (.bool v) ∧ Below w.heap.size w w' := by
 obtain ⟨hn, hc, hcm, _⟩ := id h1
 obtain ⟨hn2, hc2, hcm2, _⟩ := id h2
 have H1 := Lib.hid h1
 have H2 := Lib.hid h2
 have HN1 := Lib.hid hn
 have HN2 := Lib.hid hn2
 have HV := Lib.hid hv
 clear h1 h2 hn hn2 hv
 have eq1 : maxLen = 9223372036854775807 := rfl
 by_cases hl : n = m0
 · subst hl
   go_enter Tryz.func13, Tryz.ntmps13
   go_wp2
   go_loopw [5] (fun i wr => ∃ k0 : Nat, i = .int .i64 (k0 : Int) ∧ k0 ≤ n ∧ Hid (∀ i x y, i < k0 → ts[i]? = some x → us[i]? = some y → x = y) ∧ Hid (Below w.heap.size w wr)) (fun i _ => n - (intOf i).toNat)
   case atStart => exact ⟨0, rfl, Nat.zero_le _, fun i x y h => absurd h (Nat.not_lt_zero i), Below.refl _ _⟩
   case round =>
    obtain ⟨k0, rfl, hk, HP, HB⟩ := hrel
    by_cases hlt : k0 < n
    · skip
      obtain ⟨x, hx⟩ : ∃ x, ts[k0]? = some x := ⟨_, List.getElem?_eq_getElem (by rw [← HN1.out]; exact hlt)⟩
      obtain ⟨y, hy⟩ : ∃ y, us[k0]? = some y := ⟨_, List.getElem?_eq_getElem (by rw [← HN2.out]; exact hlt)⟩
      have HX := Lib.hid hx
      have HY := Lib.hid hy
      obtain ⟨g, og, rfl, hg, hin⟩ := (H1.out.below HB.out).at hx
      obtain ⟨g2, og2, rfl, hg2, hin2⟩ := (H2.out.below HB.out).at hy
      obtain ⟨k1, a1, b1, m1, t1, u1, p1⟩ := x
      obtain ⟨k2, a2, b2, m2, t2, u2, p2⟩ := y
      have HI_1 : Hid (InV wr g (og + k0 * 7) (ndC k1 a1 b1 m1 t1 u1 p1)) := hin
      have HI_2 : Hid (InV wr g2 (og2 + k0 * 7) (ndC k2 a2 b2 m2 t2 u2 p2)) := hin2
      have HG1 := Lib.hid hg
      have HG2 := Lib.hid hg2
      have HM_1 := Lib.hid (manyNd k1 a1 b1 m1 t1 u1 p1)
      have HM_2 := Lib.hid (manyNd k2 a2 b2 m2 t2 u2 p2)
      clear hx hy hin hin2 hg hg2
      go_wp2
      generalize wr = wS at *
      have g1 : (k0 : Int) < (n : Int) := by omega
      cases hq : eqN ⟨k1, a1, b1, m1, t1, u1, p1⟩ ⟨k2, a2, b2, m2, t2, u2, p2⟩
      · skip
        have HQ := Lib.hid hq
        have HV0 : Hid (v = false) := by
         show _ = _
         rw [← HV.out]
         refine Bool.eq_false_iff.2 fun e0 => ?_
         have e := eqT_iff.1 e0
         have h1 := HX.out
         rw [e, HY.out] at h1
         have h2 := eqN_iff.2 (Option.some.inj h1)
         have h3 : eqN ⟨k1, a1, b1, m1, t1, u1, p1⟩ ⟨k2, a2, b2, m2, t2, u2, p2⟩ = true := eqN_iff.2 (Option.some.inj h1).symm
         rw [HQ.out] at h3; cases h3
        clear hq
        refine region_freed 9 0 6 [17, 18, 19, 20, 21, 22, 23, 24, 25] ?aF4 (fun wx => Below wS.heap.size wS wx) (fun k vv wx => match k with
         | 0 => vv = .slice (some ⟨g, og, none⟩) n c
         | 1 => vv = .int .i64 (k0 : Int)
         | 2 => vv = .pointer (some ⟨g, og + k0 * 7, none⟩)
         | 3 => vv = .agg (ndC k1 a1 b1 m1 t1 u1 p1)
         | 4 => vv = .slice (some ⟨g2, og2, none⟩) n d
         | 5 => vv = .int .i64 (k0 : Int)
         | 6 => vv = .pointer (some ⟨g2, og2 + k0 * 7, none⟩)
         | 7 => vv = .agg (ndC k2 a2 b2 m2 t2 u2 p2)
         | _ => vv = .bool true)
         (fun k => false) (by kernel_rfl) ?haF4 rfl (by kernel_rfl) (by kernel_rfl) (fun _ _ _ _ _ h => h) ?hSb4 ?hPb4 ?hS4 ?hop4 ?hfin4
        case haF4 =>
         intro vals
         simp only [fillAll, List.getElem?_cons_zero, List.getElem?_cons_succ, Act.put, List.setIfInBounds_toArray, List.set_cons_zero, List.set_cons_succ]
         exact rfl
        case hSb4 => exact fun wx w2 hb hS => below_two hS hb
        case hPb4 =>
         intro k v wa wb hb h
         match k, h with
         | 0, h => exact h
         | 1, h => exact h
         | 2, h => exact h
         | 3, h => exact h
         | 4, h => exact h
         | 5, h => exact h
         | 6, h => exact h
         | 7, h => exact h
         | _ + 8, h => exact h
        case hS4 => exact (Below.refl _ _).drew
        case hop4 =>
         refine .cons (k := 0) (.plain rfl ?_) (.cons (k := 1) (.plain rfl ?_) (.cons (k := 2) (.plain rfl ?_) (.cons (k := 3) (.plain rfl ?_) (.cons (k := 4) (.plain rfl ?_) (.cons (k := 5) (.plain rfl ?_) (.cons (k := 6) (.plain rfl ?_) (.cons (k := 7) (.plain rfl ?_) (.cons (k := 8) (.plain rfl ?_) (.nil)))))))))
         all_goals intro vals wr hS hd KC hK
         all_goals (show Oper.wp _ _ _ _ _ _; dsimp only)
         · go_simp
           refine hK _ _ rfl (Below.refl _ _) (by first | rfl | simp) (fun h => by cases h)
         · go_simp
           refine hK _ _ rfl (Below.refl _ _) (by first | rfl | simp) (fun h => by cases h)
         · have d0 : vals 0 = _ := hd 0 (by decide +kernel)
           have d1 : vals 1 = _ := hd 1 (by decide +kernel)
           rw [d0, d1]
           go_simp
           refine hK _ _ rfl (Below.refl _ _) (by first | rfl | simp) (fun h => by cases h)
         · have d2 : vals 2 = _ := hd 2 (by decide +kernel)
           rw [d2]
           refine wp_loadV 47 _ rfl _ _ rfl (ndC k1 a1 b1 m1 t1 u1 p1) (Lib.hid HI_1.out.below HG1.out hS) (Lib.hid HM_1.out) ?_
           refine hK _ _ rfl (Below.refl _ _) (by first | rfl | simp) (fun h => by cases h)
         · go_simp
           refine hK _ _ rfl (Below.refl _ _) (by first | rfl | simp) (fun h => by cases h)
         · go_simp
           refine hK _ _ rfl (Below.refl _ _) (by first | rfl | simp) (fun h => by cases h)
         · have d4 : vals 4 = _ := hd 4 (by decide +kernel)
           have d5 : vals 5 = _ := hd 5 (by decide +kernel)
           rw [d4, d5]
           go_simp
           refine hK _ _ rfl (Below.refl _ _) (by first | rfl | simp) (fun h => by cases h)
         · have d6 : vals 6 = _ := hd 6 (by decide +kernel)
           rw [d6]
           refine wp_loadV 47 _ rfl _ _ rfl (ndC k2 a2 b2 m2 t2 u2 p2) (Lib.hid HI_2.out.below HG2.out hS) (Lib.hid HM_2.out) ?_
           refine hK _ _ rfl (Below.refl _ _) (by first | rfl | simp) (fun h => by cases h)
         · have d3 : vals 3 = _ := hd 3 (by decide +kernel)
           have d7 : vals 7 = _ := hd 7 (by decide +kernel)
           rw [d3, d7]
           have heq : ∀ W, (Op.equalIn 10000 47 (.agg (ndC k1 a1 b1 m1 t1 u1 p1)) (.agg (ndC k2 a2 b2 m2 t2 u2 p2))).run Tryz.prog W = .ok false W := fun W => equal_nd (x := ⟨k1, a1, b1, m1, t1, u1, p1⟩) (y := ⟨k2, a2, b2, m2, t2, u2, p2⟩) HQ.out W
           go_simp
           refine hK _ _ rfl (Below.refl _ _) (by first | rfl | simp) (fun h => by cases h)
        case hfin4 =>
         intro vals wr hS hP hne
         have ez_8 : vals 8 = _ := hP 8 (by decide)
         try dsimp only
         rw [ez_8]
         refine wpAny_done (by kernel_rfl) ?_ _
         have HB2 := Lib.hid (below_two HB.out hS)
         clear hS hP hne
         go_wp2
         go_ret
         exact ⟨by rw [HV0.out]; rfl, HB2.out⟩
      · skip
        have HQ := Lib.hid hq
        have HP2 : Hid (∀ i x y, i < k0 + 1 → ts[i]? = some x → us[i]? = some y → x = y) := by
         intro i x y hi h1 h2
         rcases Nat.lt_or_ge i k0 with h | h
         · exact HP.out i x y h h1 h2
         · obtain rfl : i = k0 := by omega
           obtain rfl := Option.some.inj (HX.out.symm.trans h1)
           obtain rfl := Option.some.inj (HY.out.symm.trans h2)
           exact eqN_iff.1 HQ.out
        clear hq HP
        refine region_freed 9 0 6 [17, 18, 19, 20, 21, 22, 23, 24, 25] ?aF5 (fun wx => Below wS.heap.size wS wx) (fun k vv wx => match k with
         | 0 => vv = .slice (some ⟨g, og, none⟩) n c
         | 1 => vv = .int .i64 (k0 : Int)
         | 2 => vv = .pointer (some ⟨g, og + k0 * 7, none⟩)
         | 3 => vv = .agg (ndC k1 a1 b1 m1 t1 u1 p1)
         | 4 => vv = .slice (some ⟨g2, og2, none⟩) n d
         | 5 => vv = .int .i64 (k0 : Int)
         | 6 => vv = .pointer (some ⟨g2, og2 + k0 * 7, none⟩)
         | 7 => vv = .agg (ndC k2 a2 b2 m2 t2 u2 p2)
         | _ => vv = .bool false)
         (fun k => false) (by kernel_rfl) ?haF5 rfl (by kernel_rfl) (by kernel_rfl) (fun _ _ _ _ _ h => h) ?hSb5 ?hPb5 ?hS5 ?hop5 ?hfin5
        case haF5 =>
         intro vals
         simp only [fillAll, List.getElem?_cons_zero, List.getElem?_cons_succ, Act.put, List.setIfInBounds_toArray, List.set_cons_zero, List.set_cons_succ]
         exact rfl
        case hSb5 => exact fun wx w2 hb hS => below_two hS hb
        case hPb5 =>
         intro k v wa wb hb h
         match k, h with
         | 0, h => exact h
         | 1, h => exact h
         | 2, h => exact h
         | 3, h => exact h
         | 4, h => exact h
         | 5, h => exact h
         | 6, h => exact h
         | 7, h => exact h
         | _ + 8, h => exact h
        case hS5 => exact (Below.refl _ _).drew
        case hop5 =>
         refine .cons (k := 0) (.plain rfl ?_) (.cons (k := 1) (.plain rfl ?_) (.cons (k := 2) (.plain rfl ?_) (.cons (k := 3) (.plain rfl ?_) (.cons (k := 4) (.plain rfl ?_) (.cons (k := 5) (.plain rfl ?_) (.cons (k := 6) (.plain rfl ?_) (.cons (k := 7) (.plain rfl ?_) (.cons (k := 8) (.plain rfl ?_) (.nil)))))))))
         all_goals intro vals wr hS hd KC hK
         all_goals (show Oper.wp _ _ _ _ _ _; dsimp only)
         · go_simp
           refine hK _ _ rfl (Below.refl _ _) (by first | rfl | simp) (fun h => by cases h)
         · go_simp
           refine hK _ _ rfl (Below.refl _ _) (by first | rfl | simp) (fun h => by cases h)
         · have d0 : vals 0 = _ := hd 0 (by decide +kernel)
           have d1 : vals 1 = _ := hd 1 (by decide +kernel)
           rw [d0, d1]
           go_simp
           refine hK _ _ rfl (Below.refl _ _) (by first | rfl | simp) (fun h => by cases h)
         · have d2 : vals 2 = _ := hd 2 (by decide +kernel)
           rw [d2]
           refine wp_loadV 47 _ rfl _ _ rfl (ndC k1 a1 b1 m1 t1 u1 p1) (Lib.hid HI_1.out.below HG1.out hS) (Lib.hid HM_1.out) ?_
           refine hK _ _ rfl (Below.refl _ _) (by first | rfl | simp) (fun h => by cases h)
         · go_simp
           refine hK _ _ rfl (Below.refl _ _) (by first | rfl | simp) (fun h => by cases h)
         · go_simp
           refine hK _ _ rfl (Below.refl _ _) (by first | rfl | simp) (fun h => by cases h)
         · have d4 : vals 4 = _ := hd 4 (by decide +kernel)
           have d5 : vals 5 = _ := hd 5 (by decide +kernel)
           rw [d4, d5]
           go_simp
           refine hK _ _ rfl (Below.refl _ _) (by first | rfl | simp) (fun h => by cases h)
         · have d6 : vals 6 = _ := hd 6 (by decide +kernel)
           rw [d6]
           refine wp_loadV 47 _ rfl _ _ rfl (ndC k2 a2 b2 m2 t2 u2 p2) (Lib.hid HI_2.out.below HG2.out hS) (Lib.hid HM_2.out) ?_
           refine hK _ _ rfl (Below.refl _ _) (by first | rfl | simp) (fun h => by cases h)
         · have d3 : vals 3 = _ := hd 3 (by decide +kernel)
           have d7 : vals 7 = _ := hd 7 (by decide +kernel)
           rw [d3, d7]
           have heq : ∀ W, (Op.equalIn 10000 47 (.agg (ndC k1 a1 b1 m1 t1 u1 p1)) (.agg (ndC k2 a2 b2 m2 t2 u2 p2))).run Tryz.prog W = .ok true W := fun W => equal_nd (x := ⟨k1, a1, b1, m1, t1, u1, p1⟩) (y := ⟨k2, a2, b2, m2, t2, u2, p2⟩) HQ.out W
           go_simp
           refine hK _ _ rfl (Below.refl _ _) (by first | rfl | simp) (fun h => by cases h)
        case hfin5 =>
         intro vals wr hS hP hne
         have ez_8 : vals 8 = _ := hP 8 (by decide)
         try dsimp only
         rw [ez_8]
         refine wpAny_done (by kernel_rfl) ?_ _
         have HB2 := Lib.hid (below_two HB.out hS)
         clear hS hP hne
         go_wp2
         go_roundw
         case rel => exact ⟨k0 + 1, by go_num, hlt, HP2, HB2⟩
         case measure => simp [intOf]; omega
    · obtain rfl : n = k0 := by omega
      have HV1 : Hid (v = true) := by
       show _ = _
       rw [← HV.out]
       refine eqT_iff.2 (List.ext_getElem? fun i => ?_)
       by_cases hi : i < n
       · have h1 : ts[i]? = some (ts[i]'(by rw [← HN1.out]; exact hi)) := List.getElem?_eq_getElem _
         have h2 : us[i]? = some (us[i]'(by rw [← HN2.out]; exact hi)) := List.getElem?_eq_getElem _
         rw [h1, h2, HP.out i _ _ hi h1 h2]
       · rw [List.getElem?_eq_none (by rw [← HN1.out]; omega), List.getElem?_eq_none (by rw [← HN2.out]; omega)]
      go_wp2
      go_ret
      exact ⟨by rw [HV1.out]; rfl, HB.out⟩
 · have HV0 : Hid (v = false) := by
    show _ = _
    rw [← HV.out]
    exact Bool.eq_false_iff.2 fun e => hl (by rw [HN1.out, HN2.out, eqT_iff.1 e])
   have e0 : ((n : Int) != (m0 : Int)) = true := by rw [bne_iff_ne]; omega
   go_enter Tryz.func13, Tryz.ntmps13
   go_wp2
   go_ret
   exact ⟨by rw [HV0.out]; rfl, Below.refl _ _⟩
end Go.Proofs.YtheaepceghnkpaaGreatDoor

/- Declarations in memory. No condition. -/
namespace Go.Proofs.YtheaepceghnkpaaGreatDoor
open Go.RowKit Limb
set_option linter.unusedVariables false
abbrev dcC (k : Int) (nm ot nu va un : ByteArray) (A : Option Addr) (n c : Nat) (pl at' : Int) : Array Value := #[.int .i64 k, .string nm, .string ot, .string nu, .string va, .string un, .slice A n c, .int .i64 pl, .int .i64 at']
structure DS where
 d : Dc
 A : Option Addr
 n : Nat
 c : Nat
def dcV (x : DS) : Array Value := dcC x.d.k (strOf x.d.nm) (strOf x.d.ot) (strOf x.d.nu) (strOf x.d.va) (strOf x.d.un) x.A x.n x.c x.d.pl x.d.at'
abbrev zDc : Array Value := dcC 0 ⟨#[]⟩ ⟨#[]⟩ ⟨#[]⟩ ⟨#[]⟩ ⟨#[]⟩ none 0 0 0 0
theorem size_dcV (x : DS) : (dcV x).size = 9 := rfl
def dcCells (xs : List DS) : List Value := xs.flatMap fun x => (dcV x).toList
theorem dcCells_snoc (xs : List DS) (x : DS) : dcCells (xs ++ [x]) = dcCells xs ++ (dcV x).toList := by simp [dcCells]
theorem len_dcCells (xs : List DS) : (dcCells xs).length = xs.length * 9 := by
 induction xs with
 | nil => rfl
 | cons x xs ih => show ((dcV x).toList ++ dcCells xs).length = _; rw [List.length_append, ih]; simp [dcV]; omega
theorem dcCells_at : ∀ {xs : List DS} {i : Nat} {x : DS}, xs[i]? = some x → ∀ j v, (dcV x)[j]? = some v → (dcCells xs)[i * 9 + j]? = some v
 | [], i, x, h, _, _, _ => by simp at h
 | y :: xs, 0, x, h, j, v, hj => by
  obtain rfl : y = x := by simpa using h
  have hl : j < 9 := by
   rcases Nat.lt_or_ge j 9 with h1 | h1
   · exact h1
   · rw [Array.getElem?_eq_none (by rw [size_dcV]; exact h1)] at hj; cases hj
  show ((dcV y).toList ++ dcCells xs)[0 * 9 + j]? = some v
  rw [Nat.zero_mul, Nat.zero_add, List.getElem?_append_left (by simpa [dcV] using hl)]
  simpa using hj
 | y :: xs, i + 1, x, h, j, v, hj => by
  have := dcCells_at (xs := xs) (i := i) (x := x) (by simpa using h) j v hj
  show ((dcV y).toList ++ dcCells xs)[(i + 1) * 9 + j]? = some v
  rw [List.getElem?_append_right (by simp [dcV]; omega), show (i + 1) * 9 + j - (dcV y).toList.length = i * 9 + j by simp [dcV]; omega]
  exact this
theorem dcs_elem : Elem Tryz.prog 26 45 9 := elem_of Tryz.underlying26 (v := .agg zDc) (b := 128) (by kernel_rfl) rfl (by decide) (by decide)
theorem sizeDc : (Tryz.prog.info? 45).map (·.size) = some 9 := by kernel_rfl
theorem manyDc (k : Int) (nm ot nu va un : ByteArray) (A : Option Addr) (n c : Nat) (pl at' : Int) : Many Tryz.prog 45 (dcC k nm ot nu va un A n c pl at').size := ⟨sizeDc, _, Tryz.underlying45, rfl⟩
def DsR (w : World) (xs : List DS) : Prop := ∀ x ∈ xs, TreR w x.A x.n x.c x.d.tr
theorem DsR.below {w w' : World} {xs : List DS} (h : DsR w xs) (hb : Below w.heap.size w w') : DsR w' xs := fun x hx => (h x hx).below hb
def DcR (w : World) (A : Option Addr) (n c : Nat) (ds : List Dc) : Prop := ∃ xs : List DS, xs.map DS.d = ds ∧ n = xs.length ∧ n ≤ c ∧ c ≤ maxLen ∧ DsR w xs ∧ (0 < n → ∃ g o, A = some ⟨g, o, none⟩ ∧ g < w.heap.size ∧ ∀ i x, xs[i]? = some x → InV w g (o + i * 9) (dcV x))
theorem DcR.below {w w' : World} {A : Option Addr} {n c : Nat} {ds : List Dc} (h : DcR w A n c ds) (hb : Below w.heap.size w w') : DcR w' A n c ds := by
 obtain ⟨xs, h1, h2, h3, h4, h5, h6⟩ := h
 refine ⟨xs, h1, h2, h3, h4, h5.below hb, fun h0 => ?_⟩
 obtain ⟨g, o, e, hg, hc⟩ := h6 h0
 exact ⟨g, o, e, Nat.lt_of_lt_of_le hg hb.size, fun i x hx => (hc i x hx).below hg hb⟩
theorem DcR.len {w : World} {A : Option Addr} {n c : Nat} {ds : List Dc} (h : DcR w A n c ds) : n = ds.length := by
 obtain ⟨xs, h1, h2, _⟩ := h
 rw [← h1, List.length_map]; exact h2
theorem DcR.at {w : World} {A : Option Addr} {n c : Nat} {ds : List Dc} (h : DcR w A n c ds) {i : Nat} {d : Dc} (hi : ds[i]? = some d) : ∃ g o B m k, A = some ⟨g, o, none⟩ ∧ g < w.heap.size ∧ InV w g (o + i * 9) (dcV ⟨d, B, m, k⟩) ∧ TreR w B m k d.tr := by
 obtain ⟨xs, h1, h2, h3, h4, h5, h6⟩ := h
 subst h1
 rw [List.getElem?_map] at hi
 obtain ⟨x, hx, rfl⟩ := Option.map_eq_some_iff.1 hi
 obtain ⟨g, o, e, hg, hc⟩ := h6 (by have := (List.getElem?_eq_some_iff.1 hx).1; omega)
 exact ⟨g, o, x.A, x.n, x.c, e, hg, hc i x hx, h5 x (List.mem_of_getElem? hx)⟩
theorem DcR.nil (w : World) {A : Option Addr} {c : Nat} (hc : c ≤ maxLen) : DcR w A 0 c [] := ⟨[], rfl, rfl, Nat.zero_le _, hc, fun x hx => (by cases hx), fun h => absurd h (by omega)⟩
theorem DcR.take {w : World} {A : Option Addr} {n c : Nat} {ds : List Dc} (h : DcR w A n c ds) {m : Nat} (hm : m ≤ n) : DcR w A m c (ds.take m) := by
 obtain ⟨xs, h1, h2, h3, h4, h5, h6⟩ := h
 refine ⟨xs.take m, by rw [List.map_take, h1], by rw [List.length_take]; omega, by omega, h4, fun x hx => h5 x (List.mem_of_mem_take hx), fun h0 => ?_⟩
 obtain ⟨g, o, e, hg, hc⟩ := h6 (by omega)
 refine ⟨g, o, e, hg, fun i x hx => hc i x ?_⟩
 rw [List.getElem?_take] at hx
 split at hx
 · exact hx
 · cases hx
def OwnD (w : World) (B : Nat) (A : Option Addr) (n c : Nat) (xs : List DS) : Prop := n = xs.length ∧ OwnR w B 45 9 A n c (dcCells xs)
theorem OwnD.below {w w' : World} {B n c : Nat} {A : Option Addr} {xs : List DS} (h : OwnD w B A n c xs) (hb : Below w.heap.size w w') : OwnD w' B A n c xs := ⟨h.1, h.2.below hb⟩
theorem OwnD.row {w : World} {B n c : Nat} {A : Option Addr} {xs : List DS} (h : OwnD w B A n c xs) (hd : DsR w xs) : DcR w A n c (xs.map DS.d) := by
 refine ⟨xs, rfl, h.1, h.2.caps.1, h.2.caps.2, hd, fun h0 => ?_⟩
 obtain ⟨g, e, _, h4, _, h5, h6⟩ := h.2.cells h0
 exact ⟨g, 0, e, h4, fun i x hx j v hj => by rw [Nat.zero_add]; exact h6 _ _ (dcCells_at hx j v hj)⟩
theorem OwnD.inV {w : World} {B n c g : Nat} {xs : List DS} (h : OwnD w B (some ⟨g, 0, none⟩) n c xs) {i : Nat} {x : DS} (hx : xs[i]? = some x) : InV w g (i * 9) (dcV x) := by
 obtain ⟨g3, e3, _, _, _, _, h6⟩ := h.2.cells (by have := (List.getElem?_eq_some_iff.1 hx).1; have := h.1; omega)
 cases e3
 exact fun j v hj => h6 _ _ (dcCells_at hx j v hj)
theorem OwnD.free {w : World} {B n c g : Nat} {xs : List DS} (h : OwnD w B (some ⟨g, 0, none⟩) n c xs) (j : Nat) : w.frozen? ⟨g, j, none⟩ = false := by
 rcases h.2.2 with ⟨hv, _⟩ | ⟨g2, cap, cur, hv, hB, hg, _⟩
 · cases hv
 · injection hv with h1 h2 h3
   injection h1 with h1
   injection h1 with h1
   subst h1
   exact RowA.free (show RowA w g 45 cur from hg) j
theorem dcCells_set {xs : List DS} {i r : Nat} {x y : DS} {v : Value} (hx : xs[i]? = some x) (hr : r < 9) (hy : (dcV x).toList.set r v = (dcV y).toList) : (dcCells xs).set (i * 9 + r) v = dcCells (xs.set i y) := by
 induction xs generalizing i with
 | nil => simp at hx
 | cons z xs ih =>
  have e : ∀ z xs, dcCells (z :: xs) = (dcV z).toList ++ dcCells xs := fun _ _ => rfl
  cases i with
  | zero =>
   obtain rfl : z = x := by simpa using hx
   rw [List.set_cons_zero, e, e, Nat.zero_mul, Nat.zero_add, List.set_append_left _ _ (by show r < 9; exact hr), hy]
  | succ i =>
   rw [List.set_cons_succ, e, e, List.set_append_right _ _ (by show 9 ≤ _; omega), show (i + 1) * 9 + r - (dcV z).toList.length = i * 9 + r by show (i + 1) * 9 + r - 9 = _; omega, ih (by simpa using hx)]
theorem OwnD.set {w : World} {B n c g : Nat} {xs : List DS} (h : OwnD w B (some ⟨g, 0, none⟩) n c xs) {i r : Nat} {x y : DS} {v : Value} (hx : xs[i]? = some x) (hr : r < 9) (hy : (dcV x).toList.set r v = (dcV y).toList) : OwnD (w.setCell ⟨g, i * 9 + r, none⟩ v) B (some ⟨g, 0, none⟩) n c (xs.set i y) := by
 refine ⟨by rw [List.length_set]; exact h.1, ?_⟩
 rw [← dcCells_set hx hr hy]
 have hi := (List.getElem?_eq_some_iff.1 hx).1
 exact h.2.set (by rw [len_dcCells]; omega) v
theorem str_ne {s t : ByteArray} (h : s ≠ t) : (s.toList == t.toList) = false := by
 rw [beq_eq_false_iff_ne]
 intro e
 exact h (by rw [ByteArray.toList_eq, ByteArray.toList_eq] at e; exact ByteArray.ext (Array.toList_inj.1 e))
theorem DcR.at2 {w : World} {A : Option Addr} {n c : Nat} {ds : List Dc} (h : DcR w A n c ds) {i : Nat} {d : Dc} (hi : ds[i]? = some d) : ∃ g o B m k nm ot nu va un, A = some ⟨g, o, none⟩ ∧ g < w.heap.size ∧ InV w g (o + i * 9) (dcC d.k nm ot nu va un B m k d.pl d.at') ∧ TreR w B m k d.tr ∧ strOf d.nm = nm ∧ strOf d.ot = ot ∧ strOf d.nu = nu ∧ strOf d.va = va ∧ strOf d.un = un := by
 obtain ⟨g, o, B, m, k, h1, h2, h3, h4⟩ := h.at hi
 exact ⟨g, o, B, m, k, _, _, _, _, _, h1, h2, h3, h4, rfl, rfl, rfl, rfl, rfl⟩
def eqD (x y : Dc) : Bool := decide (x.k = y.k) && decide (strOf x.nm = strOf y.nm) && decide (strOf x.ot = strOf y.ot) && decide (strOf x.nu = strOf y.nu) && decide (strOf x.va = strOf y.va) && decide (strOf x.un = strOf y.un) && eqT x.tr y.tr && decide (x.pl = y.pl) && decide (x.at' = y.at')
def eqDs : List Dc → List Dc → Bool
 | [], [] => true
 | x :: a, y :: b => eqD x y && eqDs a b
 | _, _ => false
theorem eqD_refl (x : Dc) : eqD x x = true := by unfold eqD; simp [eqT_iff.2]
theorem eqDs_refl : ∀ l : List Dc, eqDs l l = true
 | [] => rfl
 | x :: l => by unfold eqDs; rw [eqD_refl, eqDs_refl l]; rfl
theorem eqDs_len : ∀ {a b : List Dc}, eqDs a b = true → a.length = b.length
 | [], [], _ => rfl
 | [], _ :: _, h => by cases h
 | _ :: _, [], h => by cases h
 | x :: a, y :: b, h => by
  unfold eqDs at h
  rw [Bool.and_eq_true] at h
  rw [List.length_cons, List.length_cons, eqDs_len h.2]
theorem eqDs_no {a b : List Dc} (h : a.length ≠ b.length) : eqDs a b = false := by
 rw [Bool.eq_false_iff]; exact fun e => h (eqDs_len e)
theorem eqDs_take {a b : List Dc} {i : Nat} {x y : Dc} (hx : a[i]? = some x) (hy : b[i]? = some y) (h : eqDs (a.take i) (b.take i) = true) (e : eqD x y = true) : eqDs (a.take (i + 1)) (b.take (i + 1)) = true := by
 induction a generalizing b i with
 | nil => simp at hx
 | cons u a ih =>
  cases b with
  | nil => simp at hy
  | cons v b =>
   cases i with
   | zero =>
    obtain rfl : u = x := by simpa using hx
    obtain rfl : v = y := by simpa using hy
    show (eqD u v && eqDs [] []) = true
    rw [e]; rfl
   | succ i =>
    have h2 : (eqD u v && eqDs (a.take i) (b.take i)) = true := h
    rw [Bool.and_eq_true] at h2
    show (eqD u v && eqDs (a.take (i + 1)) (b.take (i + 1))) = true
    rw [h2.1, ih (by simpa using hx) (by simpa using hy) h2.2]; rfl
theorem eqDs_bad {a b : List Dc} {i : Nat} {x y : Dc} (hx : a[i]? = some x) (hy : b[i]? = some y) (e : eqD x y = false) : eqDs a b = false := by
 induction a generalizing b i with
 | nil => simp at hx
 | cons u a ih =>
  cases b with
  | nil => simp at hy
  | cons v b =>
   cases i with
   | zero =>
    obtain rfl : u = x := by simpa using hx
    obtain rfl : v = y := by simpa using hy
    show (eqD u v && _) = false
    rw [e]; rfl
   | succ i =>
    show (eqD u v && eqDs a b) = false
    rw [ih (by simpa using hx) (by simpa using hy), Bool.and_false]
end Go.Proofs.YtheaepceghnkpaaGreatDoor
