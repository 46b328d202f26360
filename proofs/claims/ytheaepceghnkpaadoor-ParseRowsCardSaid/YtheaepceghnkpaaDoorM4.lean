/- Part 4 of the texts that the statements of this seat lean on: mathematics, and what functions answer, as contracts over memory; each part says its own conditions. -/
import Derived.Test.YtheaepceghnkpaaDoorM3
/- Mathematics of the grammar: what is read leaves a row's end; with another end behind what was looked at, the same is read. No condition. -/
namespace Go.Proofs.YtheaepceghnkpaaDoor
open Go.RowKit Limb
set_option linter.unusedVariables false
def PaS {α : Type} (l : List Tk) (n : Nat) (r : PaR α) : Prop := ∀ a q m, r = .ok a q m → (∃ x, l = x ++ q) ∧ n ≤ m
theorem PaS.next {α β : Type} {l : List Tk} {n : Nat} {r : PaR α} {f : α → List Tk → Nat → PaR β} (h : PaS l n r) (k : ∀ a q m, PaS q m (f a q m)) : PaS l n (r.next f) := by
 intro b q m e
 cases r with
 | bad e' p => cases e
 | ok a q' m' =>
  obtain ⟨⟨x, rfl⟩, h1⟩ := h a q' m' rfl
  obtain ⟨⟨z, rfl⟩, h2⟩ := k a q' m' b q m e
  exact ⟨⟨x ++ z, by rw [List.append_assoc]⟩, Nat.le_trans h1 h2⟩
theorem PaS.bad {α : Type} (l : List Tk) (n e p : Nat) : PaS l n (.bad e p : PaR α) := fun _ _ _ h => by cases h
theorem PaS.ok {α : Type} (l : List Tk) (a : α) (n : Nat) : PaS l n (.ok a l n) := fun _ _ _ h => by cases h; exact ⟨⟨[], rfl⟩, Nat.le_refl _⟩
theorem PaS.cons {α : Type} {t : Tk} {l : List Tk} {n : Nat} {r : PaR α} (h : PaS l n r) : PaS (t :: l) n r := fun a q m e => by obtain ⟨⟨x, rfl⟩, h2⟩ := h a q m e; exact ⟨⟨t :: x, rfl⟩, h2⟩
theorem PaS.tail {α : Type} {l : List Tk} {n : Nat} {r : PaR α} (h : PaS l.tail n r) : PaS l n r := by
 cases l with
 | nil => exact h
 | cons t l => exact PaS.cons h
theorem takeT_s (en kd : Nat) (tx : List Nat) (l : List Tk) (n : Nat) : PaS l n (takeT en kd tx l n) := by
 cases l with
 | nil => exact .bad _ _ _ _
 | cons t r =>
  rw [takeT_cons]
  split
  · exact .cons (.ok _ _ _)
  · exact .bad _ _ _ _
theorem nameT_s (en : Nat) (l : List Tk) (n : Nat) : PaS l n (nameT en l n) := by
 cases l with
 | nil => exact .bad _ _ _ _
 | cons t r =>
  rw [nameT_cons]
  split
  · exact .cons (.ok _ _ _)
  · exact .bad _ _ _ _
theorem madeT_s (L : Lim) (t : List Nd) (p : Nat) (l : List Tk) (n : Nat) : PaS l n (madeT L t p l n) := by
 unfold madeT
 split
 · exact .bad _ _ _ _
 · intro a q m e; injection e with _ e2 e3; exact ⟨⟨[], e2⟩, by omega⟩
theorem powB_s (L : Lim) (en : Nat) (t : List Nd) (pa : Nat) (sg : Bool) (l : List Tk) (n : Nat) : PaS l n (powB L en t pa sg l n) := by
 unfold powB
 refine (takeT_s _ _ _ _ _).next fun x q m => ?_
 cases smallT x.2.1 3 with
 | none => exact .bad _ _ _ _
 | some k =>
  dsimp only
  split
  · exact .bad _ _ _ _
  · exact madeT_s _ _ _ _ _
theorem powT_s (L : Lim) (en : Nat) (t : List Nd) (l : List Tk) (n : Nat) : PaS l n (powT L en t l n) := by
 unfold powT
 split
 · split
   · exact .tail (.tail (powB_s _ _ _ _ _ _ _))
   · exact .tail (powB_s _ _ _ _ _ _ _)
 · exact .ok _ _ _
theorem atomT_s (L : Lim) (en : Nat) (l : List Tk) (n : Nat) : PaS l n (atomT L en l n) := by
 unfold atomT
 cases l with
 | nil => exact .bad _ _ _ _
 | cons x r =>
  dsimp only
  split
  · cases r with
    | nil => exact .cons (madeT_s _ _ _ _ _)
    | cons y q =>
     dsimp only
     split
     · exact .cons (.cons (madeT_s _ _ _ _ _))
     · exact .cons (madeT_s _ _ _ _ _)
  · split
    · exact .cons (madeT_s _ _ _ _ _)
    · exact .bad _ _ _ _
def RdS (f : Rdr) : Prop := ∀ l n, PaS l n (f l n)
theorem loopT_s (L : Lim) {f : Rdr} (hf : RdS f) (op : Tk → Option Int) : ∀ (g : Nat) (t : List Nd) (l : List Tk) (n : Nat), PaS l n (loopT L f op g t l n) := by
 intro g
 induction g with
 | zero => intro t l n; exact .ok _ _ _
 | succ g ih =>
  intro t l n
  cases l with
  | nil => exact .ok _ _ _
  | cons x r =>
   unfold loopT
   cases op x with
   | none => exact .ok _ _ _
   | some k => exact .cons ((hf r n).next fun u q m => (madeT_s _ _ _ _ _).next fun t q m => ih t q m)
theorem rowT_s (L : Lim) {f : Rdr} (hf : RdS f) (op : Tk → Option Int) : RdS (rowT L f op) := fun l n => (hf l n).next fun t q m => loopT_s L hf op _ _ _ _
theorem formT_s (L : Lim) {f : Rdr} (hf : RdS f) : RdS (formT L f) := rowT_s L (rowT_s L hf _) _
theorem facS_s (L : Lim) (en : Nat) {sub : Option Rdr} (hs : ∀ f, sub = some f → RdS f) : RdS (facS L en sub) := by
 intro l n
 unfold facS
 split
 · cases sub with
   | none => exact .bad _ _ _ _
   | some f => exact .tail ((hs f rfl _ _).next fun a q m => madeT_s _ _ _ _ _)
 · split
   · cases sub with
     | none => exact .bad _ _ _ _
     | some f => exact .tail ((formT_s L (hs f rfl) _ _).next fun a q m => (takeT_s _ _ _ _ _).next fun b q m => powT_s _ _ _ _ _)
   · exact (atomT_s _ _ _ _).next fun a q m => powT_s _ _ _ _ _
theorem facT_s (L : Lim) (en : Nat) : ∀ d, RdS (facT L en d)
 | 0 => facS_s L en fun f h => by cases h
 | d + 1 => facS_s L en fun f h => by injection h with h; subst h; exact facT_s L en d
theorem formL_s (L : Lim) (en : Nat) : RdS (formL L en) := formT_s L (facT_s L en _)
theorem numB_s (en : Nat) (s : List Nat) (l : List Tk) (n : Nat) : PaS l n (numB en s l n) := by
 unfold numB
 refine (takeT_s _ _ _ _ _).next fun x q m => ?_
 split
 · exact .tail ((takeT_s _ _ _ _ _).next fun x q m => .ok _ _ _)
 · exact .ok _ _ _
theorem numT_s (en : Nat) (l : List Tk) (n : Nat) : PaS l n (numT en l n) := by
 unfold numT
 split
 · exact .tail (numB_s _ _ _ _)
 · exact numB_s _ _ _ _
theorem semiT_s (en : Nat) (d : Dc) (l : List Tk) (n : Nat) : PaS l n (semiT en d l n) := (takeT_s _ _ _ _ _).next fun x q m => .ok _ _ _
theorem outB_s (en : Nat) (d : Dc) (l : List Tk) (n : Nat) : PaS l n (outB en d l n) := by
 unfold outB
 refine (takeT_s _ _ _ _ _).next fun _ q m => (takeT_s _ _ _ _ _).next fun x q m => ?_
 cases smallT x.2.1 2 with
 | none => exact .bad _ _ _ _
 | some k =>
  dsimp only
  split
  · exact .bad _ _ _ _
  · exact semiT_s _ _ _ _
theorem unitT_s (l : List Tk) : ∃ x, l = x ++ (unitT l).2 := by
 unfold unitT
 cases l with
 | nil => exact ⟨[], rfl⟩
 | cons t r =>
  dsimp only
  split
  · exact ⟨[t], rfl⟩
  · exact ⟨[], rfl⟩
theorem PaS.of {α : Type} {l q : List Tk} {n : Nat} {r : PaR α} (h : ∃ x, l = x ++ q) (k : PaS q n r) : PaS l n r := by
 obtain ⟨x, rfl⟩ := h
 intro a q' m e
 obtain ⟨⟨z, rfl⟩, h2⟩ := k a q' m e
 exact ⟨⟨x ++ z, by rw [List.append_assoc]⟩, h2⟩
theorem bodyT_s (L : Lim) (en k : Nat) (d : Dc) (l : List Tk) (n : Nat) : PaS l n (bodyT L en k d l n) := by
 unfold bodyT
 split
 · exact (numT_s _ _ _).next fun _ _ _ => (takeT_s _ _ _ _ _).next fun _ _ _ => semiT_s _ _ _ _
 · split
   · exact (numT_s _ _ _).next fun _ _ _ => .of (unitT_s _) ((takeT_s _ _ _ _ _).next fun _ _ _ => (numT_s _ _ _).next fun _ _ _ => semiT_s _ _ _ _)
   · split
     · exact (numT_s _ _ _).next fun _ _ _ => semiT_s _ _ _ _
     · split
       · exact (formL_s _ _ _ _).next fun _ _ _ => semiT_s _ _ _ _
       · refine (formL_s _ _ _ _).next fun _ _ _ => ?_
         split
         · exact .tail ((takeT_s _ _ _ _ _).next fun _ _ _ => outB_s _ _ _ _)
         · exact outB_s _ _ _ _
theorem headT_s (en k : Nat) (l : List Tk) (n : Nat) : PaS l n (headT en k l n) := by
 unfold headT
 refine (nameT_s _ _ _).next fun _ _ _ => ?_
 split
 · exact (nameT_s _ _ _).next fun _ _ _ => (takeT_s _ _ _ _ _).next fun _ _ _ => .ok _ _ _
 · exact (takeT_s _ _ _ _ _).next fun _ _ _ => .ok _ _ _
def PaT {α : Type} (y y' : List Tk) (r r' : PaR α) : Prop := ∀ a q m, q ≠ [] → r = .ok a (q ++ y) m → r' = .ok a (q ++ y') m
theorem PaT.next {α β : Type} {y y' : List Tk} {r r' : PaR α} {f f' : α → List Tk → Nat → PaR β} (h : PaT y y' r r') (k : ∀ a q m, q ≠ [] → PaT y y' (f a (q ++ y) m) (f' a (q ++ y') m)) (s : ∀ a q m, PaS q m (f a q m)) : PaT y y' (r.next f) (r'.next f') := by
 intro b q m hq e
 cases r with
 | bad e' p => cases e
 | ok a q' m' =>
  obtain ⟨⟨x, rfl⟩, _⟩ := s a q' m' b _ m e
  rw [← List.append_assoc] at e h
  have hx : x ++ q ≠ [] := by simp [hq]
  rw [h a (x ++ q) m' hx rfl, PaR.next_ok]
  exact k a (x ++ q) m' hx b q m hq e
theorem PaT.none {α : Type} {y y' : List Tk} {n : Nat} {r r' : PaR α} (h : PaS y n r) : PaT y y' r r' := by
 intro a q m hq e
 obtain ⟨⟨x, hx⟩, _⟩ := h a _ m e
 have h1 := congrArg List.length hx
 rw [List.length_append, List.length_append] at h1
 have := List.length_pos_iff.2 hq
 omega
theorem PaT.bad {α : Type} {y y' : List Tk} {e p : Nat} {r' : PaR α} : PaT y y' (.bad e p) r' := fun _ _ _ _ h => by cases h
theorem PaT.ok {α : Type} {y y' x : List Tk} (a : α) (n : Nat) : PaT y y' (.ok a (x ++ y) n) (.ok a (x ++ y') n) := by
 intro b q m hq e
 injection e with e1 e2 e3
 rw [List.append_cancel_right e2, e1, e3]
variable {y y' : List Tk}
theorem takeT_t (en en' kd : Nat) (tx : List Nat) (x : List Tk) (n : Nat) : PaT y y' (takeT en kd tx (x ++ y) n) (takeT en' kd tx (x ++ y') n) := by
 cases x with
 | nil => exact .none (takeT_s _ _ _ _ _)
 | cons t r =>
  rw [List.cons_append, List.cons_append, takeT_cons, takeT_cons]
  split
  · exact .ok _ _
  · exact .bad
theorem nameT_t (en en' : Nat) (x : List Tk) (n : Nat) : PaT y y' (nameT en (x ++ y) n) (nameT en' (x ++ y') n) := by
 cases x with
 | nil => exact .none (nameT_s _ _ _)
 | cons t r =>
  rw [List.cons_append, List.cons_append, nameT_cons, nameT_cons]
  split
  · exact .ok _ _
  · exact .bad
theorem madeT_t (L : Lim) (t : List Nd) (p : Nat) (x : List Tk) (n : Nat) : PaT y y' (madeT L t p (x ++ y) n) (madeT L t p (x ++ y') n) := by
 unfold madeT
 split
 · exact .bad
 · exact .ok _ _
theorem powB_t (L : Lim) (en en' : Nat) (t : List Nd) (pa : Nat) (sg : Bool) (x : List Tk) (n : Nat) : PaT y y' (powB L en t pa sg (x ++ y) n) (powB L en' t pa sg (x ++ y') n) := by
 unfold powB
 refine (takeT_t en en' 2 [] x n).next (fun x q m hq => ?_) fun x q m => ?_
 · cases smallT x.2.1 3 with
   | none => exact .bad
   | some k =>
    dsimp only
    split
    · exact .bad
    · exact madeT_t _ _ _ _ _
 · cases smallT x.2.1 3 with
   | none => exact .bad _ _ _ _
   | some k =>
    dsimp only
    split
    · exact .bad _ _ _ _
    · exact madeT_s _ _ _ _ _
theorem nextT_app {kd : Nat} {tx : List Nat} {x : List Tk} (hx : x ≠ []) (z : List Tk) : nextT kd tx (x ++ z) = nextT kd tx x := by
 cases x with
 | nil => exact absurd rfl hx
 | cons t r => rfl
theorem tail_app {x : List Tk} (hx : x ≠ []) (z : List Tk) : (x ++ z).tail = x.tail ++ z := by
 cases x with
 | nil => exact absurd rfl hx
 | cons t r => rfl
theorem here_app {x : List Tk} (hx : x ≠ []) (z : List Tk) (en en' : Nat) : hereT en (x ++ z) = hereT en' x := by
 cases x with
 | nil => exact absurd rfl hx
 | cons t r => rfl
theorem powT_t (L : Lim) (en en' : Nat) (t : List Nd) {x : List Tk} (hx : x ≠ []) (n : Nat) : PaT y y' (powT L en t (x ++ y) n) (powT L en' t (x ++ y') n) := by
 unfold powT
 rw [nextT_app hx, nextT_app hx, tail_app hx, tail_app hx, here_app hx y en en', here_app hx y' en' en']
 by_cases h1 : nextT 3 [94] x = true
 · rw [if_pos h1, if_pos h1]
   by_cases h0 : x.tail = []
   · rw [h0, List.nil_append]
     split
     · exact .none (.tail (powB_s _ _ _ _ _ _ _))
     · exact .none (powB_s _ _ _ _ _ _ _)
   · rw [nextT_app h0, nextT_app h0, tail_app h0, tail_app h0]
     split
     · exact powB_t _ _ _ _ _ _ _ _
     · exact powB_t _ _ _ _ _ _ _ _
 · rw [if_neg h1, if_neg h1]; exact .ok _ _
theorem atomT_t (L : Lim) (en en' : Nat) (x : List Tk) (n : Nat) : PaT y y' (atomT L en (x ++ y) n) (atomT L en' (x ++ y') n) := by
 cases x with
 | nil => exact .none (atomT_s _ _ _ _)
 | cons a r =>
  unfold atomT
  rw [List.cons_append, List.cons_append]
  dsimp only
  split
  · cases r with
    | nil =>
     rw [List.nil_append]
     refine .none (n := n) ?_
     cases y with
     | nil => exact madeT_s _ _ _ _ _
     | cons b q =>
      dsimp only
      split
      · exact .cons (madeT_s _ _ _ _ _)
      · exact madeT_s _ _ _ _ _
    | cons b q =>
     rw [List.cons_append, List.cons_append]
     dsimp only
     split
     · exact madeT_t _ _ _ _ _
     · exact madeT_t L _ _ (b :: q) n
  · split
    · exact madeT_t _ _ _ _ _
    · exact .bad
def RdT (y y' : List Tk) (f f' : Rdr) : Prop := ∀ x n, PaT y y' (f (x ++ y) n) (f' (x ++ y') n)
theorem loopT_len (L : Lim) {f : Rdr} (hs : RdS f) (op : Tk → Option Int) : ∀ (g : Nat) (t : List Nd) (l : List Tk) (n : Nat), l.length ≤ g → loopT L f op g t l n = loopT L f op l.length t l n := by
 intro g
 induction g using Nat.strongRecOn with
 | ind g ih =>
  intro t l n hg
  cases l with
  | nil => cases g <;> rfl
  | cons x r =>
   cases g with
   | zero => simp at hg
   | succ g =>
    rw [List.length_cons] at hg ⊢
    unfold loopT
    cases op x with
    | none => rfl
    | some k =>
     dsimp only
     cases hfr : f r n with
     | bad e p => rfl
     | ok u q m =>
      rw [PaR.next_ok, PaR.next_ok]
      have hq : q.length ≤ r.length := by
       obtain ⟨⟨z, e⟩, _⟩ := hs r n u q m hfr
       rw [e, List.length_append]; omega
      unfold madeT
      split
      · rfl
      · rw [PaR.next_ok, PaR.next_ok, ih g (by omega) _ _ _ (by omega), ih r.length (by omega) _ _ _ hq]
theorem loopT_t (L : Lim) {f f' : Rdr} (hf : RdT y y' f f') (hs : RdS f) (op : Tk → Option Int) : ∀ (g : Nat) (t : List Nd) (x : List Tk) (n : Nat), x ≠ [] → PaT y y' (loopT L f op g t (x ++ y) n) (loopT L f' op g t (x ++ y') n) := by
 intro g
 induction g with
 | zero => intro t x n hx; exact .ok _ _
 | succ g ih =>
  intro t x n hx
  cases x with
  | nil => exact absurd rfl hx
  | cons a r =>
   rw [List.cons_append, List.cons_append]
   unfold loopT
   cases op a with
   | none => exact PaT.ok (x := a :: r) _ _
   | some k =>
    dsimp only
    exact (hf r n).next (fun u q m hq => (madeT_t L _ _ q m).next (fun t q m hq => ih t q m hq) fun t q m => loopT_s L hs op g t q m) fun u q m => (madeT_s L _ _ q m).next fun t q m => loopT_s L hs op g t q m
theorem rowT_t (L : Lim) {f f' : Rdr} (hf : RdT y y' f f') (hs : RdS f) (hs' : RdS f') (op : Tk → Option Int) : RdT y y' (rowT L f op) (rowT L f' op) := by
 intro x n
 unfold rowT
 refine (hf x n).next (fun t q m hq => ?_) fun t q m => loopT_s L hs op _ _ _ _
 rw [← loopT_len L hs op ((q ++ y).length + (q ++ y').length) t (q ++ y) m (by omega), ← loopT_len L hs' op ((q ++ y).length + (q ++ y').length) t (q ++ y') m (by omega)]
 exact loopT_t L hf hs op _ t q m hq
theorem formT_t (L : Lim) {f f' : Rdr} (hf : RdT y y' f f') (hs : RdS f) (hs' : RdS f') : RdT y y' (formT L f) (formT L f') := rowT_t L (rowT_t L hf hs hs' _) (rowT_s L hs _) (rowT_s L hs' _) _
theorem facS_t (L : Lim) (en en' : Nat) {sub sub' : Option Rdr} (hs : ∀ f, sub = some f → RdS f ∧ ∃ f', sub' = some f' ∧ RdT y y' f f' ∧ RdS f') : RdT y y' (facS L en sub) (facS L en' sub') := by
 intro x n
 by_cases hx : x = []
 · subst hx
   exact .none (facS_s L en (fun f h => (hs f h).1) _ _)
 · unfold facS
   rw [nextT_app hx, nextT_app hx, nextT_app hx, nextT_app hx, tail_app hx, tail_app hx, here_app hx y en en', here_app hx y' en' en']
   by_cases h1 : nextT 3 [45] x = true
   · rw [if_pos h1, if_pos h1]
     cases sub with
     | none => exact .bad
     | some f =>
      obtain ⟨h2, f', rfl, h3, h4⟩ := hs f rfl
      exact (h3 x.tail n).next (fun a q m hq => madeT_t _ _ _ _ _) fun a q m => madeT_s _ _ _ _ _
   · rw [if_neg h1, if_neg h1]
     by_cases h2 : nextT 3 [40] x = true
     · rw [if_pos h2, if_pos h2]
       cases sub with
       | none => exact .bad
       | some f =>
        obtain ⟨h2, f', rfl, h3, h4⟩ := hs f rfl
        exact (formT_t L h3 h2 h4 x.tail n).next (fun a q m hq => (takeT_t en en' 3 [41] q m).next (fun b q m hq => powT_t L en en' a hq m) fun b q m => powT_s _ _ _ _ _) fun a q m => (takeT_s _ _ _ _ _).next fun b q m => powT_s _ _ _ _ _
     · rw [if_neg h2, if_neg h2]
       exact (atomT_t L en en' x n).next (fun a q m hq => powT_t L en en' a hq m) fun a q m => powT_s _ _ _ _ _
theorem facT_t (L : Lim) (en en' : Nat) : ∀ d, RdT y y' (facT L en d) (facT L en' d)
 | 0 => facS_t L en en' fun f h => by cases h
 | d + 1 => facS_t L en en' fun f h => by injection h with h; subst h; exact ⟨facT_s L en d, _, rfl, facT_t L en en' d, facT_s L en' d⟩
theorem formL_t (L : Lim) (en en' : Nat) : RdT y y' (formL L en) (formL L en') := formT_t L (facT_t L en en' _) (facT_s L en _) (facT_s L en' _)
theorem numB_t (en en' : Nat) (s : List Nat) (x : List Tk) (n : Nat) : PaT y y' (numB en s (x ++ y) n) (numB en' s (x ++ y') n) := by
 unfold numB
 refine (takeT_t en en' 2 [] x n).next (fun a q m hq => ?_) fun a q m => ?_
 · rw [nextT_app hq, nextT_app hq, tail_app hq, tail_app hq]
   split
   · exact (takeT_t en en' 2 [] q.tail m).next (fun b q m hq => .ok _ _) fun b q m => .ok _ _ _
   · exact .ok _ _
 · split
   · exact .tail ((takeT_s _ _ _ _ _).next fun x q m => .ok _ _ _)
   · exact .ok _ _ _
theorem numT_t (en en' : Nat) (x : List Tk) (n : Nat) : PaT y y' (numT en (x ++ y) n) (numT en' (x ++ y') n) := by
 by_cases hx : x = []
 · subst hx; exact .none (numT_s _ _ _)
 · unfold numT
   rw [nextT_app hx, nextT_app hx, tail_app hx, tail_app hx]
   split
   · exact numB_t _ _ _ _ _
   · exact numB_t _ _ _ _ _
end Go.Proofs.YtheaepceghnkpaaDoor

/- Mathematics of the grammar: a declaration ends with its first ';', and nothing behind that is looked at; a script is read declaration by declaration. No condition. -/
namespace Go.Proofs.YtheaepceghnkpaaDoor
open Go.RowKit Limb
set_option linter.unusedVariables false
def PaN {α : Type} (l : List Tk) (r : PaR α) : Prop := ∀ a q m, r = .ok a q m → ∃ x, l = x ++ q ∧ ∀ z ∈ x, semi z = false
def PaE {α : Type} (l : List Tk) (r : PaR α) : Prop := ∀ a q m, r = .ok a q m → ∃ x s, l = x ++ s :: q ∧ semi s = true ∧ ∀ z ∈ x, semi z = false
theorem PaN.bad {α : Type} (l : List Tk) (e p : Nat) : PaN l (.bad e p : PaR α) := fun _ _ _ h => by cases h
theorem PaN.ok {α : Type} (l : List Tk) (a : α) (n : Nat) : PaN l (.ok a l n) := fun _ _ _ h => by cases h; exact ⟨[], rfl, fun z hz => by cases hz⟩
theorem PaN.cons {α : Type} {t : Tk} (ht : semi t = false) {l : List Tk} {r : PaR α} (h : PaN l r) : PaN (t :: l) r := fun a q m e => by
 obtain ⟨x, rfl, h1⟩ := h a q m e
 exact ⟨t :: x, rfl, fun z hz => by rcases List.mem_cons.1 hz with rfl | hz; · exact ht
                                    · exact h1 z hz⟩
theorem PaN.next {α β : Type} {l : List Tk} {r : PaR α} {f : α → List Tk → Nat → PaR β} (h : PaN l r) (hl : ToksK l) (k : ∀ a q m, ToksK q → PaN q (f a q m)) : PaN l (r.next f) := by
 intro b q m e
 cases r with
 | bad e' p => cases e
 | ok a q' m' =>
  obtain ⟨x, rfl, h1⟩ := h a q' m' rfl
  obtain ⟨z, rfl, h2⟩ := k a q' m' hl.behind b q m e
  exact ⟨x ++ z, by rw [List.append_assoc], fun y hy => (List.mem_append.1 hy).elim (h1 y) (h2 y)⟩
theorem PaE.bad {α : Type} (l : List Tk) (e p : Nat) : PaE l (.bad e p : PaR α) := fun _ _ _ h => by cases h
theorem PaE.next {α β : Type} {l : List Tk} {r : PaR α} {f : α → List Tk → Nat → PaR β} (h : PaN l r) (hl : ToksK l) (k : ∀ a q m, ToksK q → PaE q (f a q m)) : PaE l (r.next f) := by
 intro b q m e
 cases r with
 | bad e' p => cases e
 | ok a q' m' =>
  obtain ⟨x, rfl, h1⟩ := h a q' m' rfl
  obtain ⟨z, s, rfl, h2, h3⟩ := k a q' m' hl.behind b q m e
  exact ⟨x ++ z, s, by rw [List.append_assoc], h2, fun y hy => (List.mem_append.1 hy).elim (h1 y) (h3 y)⟩
theorem PaE.cons {α : Type} {t : Tk} (ht : semi t = false) {l : List Tk} {r : PaR α} (h : PaE l r) : PaE (t :: l) r := fun a q m e => by
 obtain ⟨x, s, rfl, h1, h2⟩ := h a q m e
 exact ⟨t :: x, s, rfl, h1, fun z hz => by rcases List.mem_cons.1 hz with rfl | hz; · exact ht
                                           · exact h2 z hz⟩
theorem takeT_n (en kd : Nat) (tx : List Nat) (hk : ∀ t, isT kd tx t = true → semi t = false) (l : List Tk) (n : Nat) : PaN l (takeT en kd tx l n) := by
 cases l with
 | nil => exact .bad _ _ _
 | cons t r =>
  rw [takeT_cons]
  by_cases h : isT kd tx t = true
  · rw [if_pos h]; exact .cons (hk t h) (.ok _ _ _)
  · rw [if_neg h]; exact .bad _ _ _
theorem takeK_n (en kd : Nat) (tx : List Nat) (hk : kd ≠ 3) (l : List Tk) (n : Nat) : PaN l (takeT en kd tx l n) := takeT_n en kd tx (fun t h => semi_T h hk) l n
theorem takeC_n (en c : Nat) (hc : c ≠ 59) (l : List Tk) (n : Nat) : PaN l (takeT en 3 [c] l n) := takeT_n en 3 [c] (fun t h => semi_sign h hc) l n
theorem PaN.tail {α : Type} {kd : Nat} {tx : List Nat} {l : List Tk} {r : PaR α} (hn : nextT kd tx l = true) (hk : ∀ t, isT kd tx t = true → semi t = false) (h : PaN l.tail r) : PaN l r := by
 obtain ⟨t, q, rfl, ht⟩ := nextT_cons hn
 exact .cons (hk t ht) h
theorem PaE.tail {α : Type} {kd : Nat} {tx : List Nat} {l : List Tk} {r : PaR α} (hn : nextT kd tx l = true) (hk : ∀ t, isT kd tx t = true → semi t = false) (h : PaE l.tail r) : PaE l r := by
 obtain ⟨t, q, rfl, ht⟩ := nextT_cons hn
 exact .cons (hk t ht) h
theorem ToksK.tl {l : List Tk} (h : ToksK l) : ToksK l.tail := by
 cases l with
 | nil => exact h
 | cons t r => exact h.tail
theorem numB_n (en : Nat) (s : List Nat) {l : List Tk} (hl : ToksK l) (n : Nat) : PaN l (numB en s l n) := by
 unfold numB
 refine (takeK_n en 2 [] (by decide) l n).next hl fun t q m hq => ?_
 by_cases h : nextT 3 [47] q = true
 · rw [if_pos h]
   exact .tail h (fun t ht => semi_sign ht (by decide)) ((takeK_n en 2 [] (by decide) _ _).next hq.tl fun _ _ _ _ => .ok _ _ _)
 · rw [if_neg h]; exact .ok _ _ _
theorem numT_n (en : Nat) {l : List Tk} (hl : ToksK l) (n : Nat) : PaN l (numT en l n) := by
 unfold numT
 by_cases h : nextT 3 [45] l = true
 · rw [if_pos h]; exact .tail h (fun t ht => semi_sign ht (by decide)) (numB_n en _ hl.tl n)
 · rw [if_neg h]; exact numB_n en _ hl n
theorem formL_n {L : Lim} (hL : L.Fit) (en : Nat) {l : List Tk} (hl : ToksK l) (n : Nat) : PaN l (formL L en l n) := by
 intro a q m e
 have h := formL_fine hL en l n hl
 rw [e] at h
 obtain ⟨x, _, h1, h2⟩ := h.1
 exact ⟨x, h1, h2⟩
theorem semiT_e (en : Nat) (d : Dc) (l : List Tk) (n : Nat) : PaE l (semiT en d l n) := by
 unfold semiT
 intro a q m e
 have h := takeT_post en 3 [59] l n
 cases ht : takeT en 3 [59] l n with
 | bad e' p => rw [ht] at e; cases e
 | ok t r m' =>
  rw [ht] at h e
  obtain ⟨rfl, h2, _⟩ := h
  injection e with _ e2 _
  subst e2
  exact ⟨[], t, rfl, h2, fun z hz => by cases hz⟩
theorem outB_e (en : Nat) (d : Dc) {l : List Tk} (hl : ToksK l) (n : Nat) : PaE l (outB en d l n) := by
 unfold outB
 refine PaE.next (takeC_n en 58 (by decide) l n) hl fun _ q m hq => PaE.next (takeK_n en 2 [] (by decide) _ _) hq fun x q m hq => ?_
 cases smallT x.2.1 2 with
 | none => exact .bad _ _ _
 | some k =>
  dsimp only
  split
  · exact .bad _ _ _
  · exact semiT_e _ _ _ _
theorem unitT_n (l : List Tk) : ∃ x, l = x ++ (unitT l).2 ∧ ∀ z ∈ x, semi z = false := by
 unfold unitT
 cases l with
 | nil => exact ⟨[], rfl, fun z hz => by cases hz⟩
 | cons t r =>
  dsimp only
  split
  · rename_i h
    exact ⟨[t], rfl, fun z hz => by rw [List.mem_singleton.1 hz]; exact semi_T h (by decide)⟩
  · exact ⟨[], rfl, fun z hz => by cases hz⟩
theorem PaE.of {α : Type} {l q : List Tk} {r : PaR α} (h : ∃ x, l = x ++ q ∧ ∀ z ∈ x, semi z = false) (k : PaE q r) : PaE l r := by
 obtain ⟨x, rfl, h1⟩ := h
 intro a q' m e
 obtain ⟨z, s, rfl, h2, h3⟩ := k a q' m e
 exact ⟨x ++ z, s, by rw [List.append_assoc], h2, fun y hy => (List.mem_append.1 hy).elim (h1 y) (h3 y)⟩
theorem unitT_toks {l : List Tk} (h : ToksK l) : ToksK (unitT l).2 := by
 obtain ⟨x, e⟩ := unitT_s l
 rw [e] at h
 exact h.behind
theorem bodyT_e {L : Lim} (hL : L.Fit) (en k : Nat) (d : Dc) {l : List Tk} (hl : ToksK l) (n : Nat) : PaE l (bodyT L en k d l n) := by
 unfold bodyT
 split
 · exact PaE.next (numT_n en hl n) hl fun _ _ _ hq => PaE.next (takeK_n en 4 [] (by decide) _ _) hq fun _ _ _ _ => semiT_e _ _ _ _
 · split
   · exact PaE.next (numT_n en hl n) hl fun _ q _ hq => .of (unitT_n q) (PaE.next (takeC_n en 58 (by decide) _ _) (unitT_toks hq) fun _ _ _ hq => PaE.next (numT_n en hq _) hq fun _ _ _ _ => semiT_e _ _ _ _)
   · split
     · exact PaE.next (numT_n en hl n) hl fun _ _ _ _ => semiT_e _ _ _ _
     · split
       · exact PaE.next (formL_n hL en hl n) hl fun _ _ _ _ => semiT_e _ _ _ _
       · refine PaE.next (formL_n hL en hl n) hl fun _ q m hq => ?_
         by_cases h : nextT 1 [105, 110] q = true
         · rw [if_pos h]
           exact .tail h (fun t ht => semi_T ht (by decide)) (PaE.next (takeK_n en 4 [] (by decide) _ _) hq.tl fun _ _ _ hq => outB_e _ _ hq _)
         · rw [if_neg h]; exact outB_e _ _ hq _
theorem wordK_some {w : Tk} {k : Nat} (h : wordK w = some k) : w.1 = 1 ∧ 1 ≤ k ∧ k ≤ 5 := by
 unfold wordK at h
 repeat' split at h
 all_goals first | (injection h with h; subst h; rename_i h; exact ⟨(isT_kind h).1, by decide, by decide⟩) | cases h
def PaX {α : Type} (y y' : List Tk) (r r' : PaR α) : Prop := ∀ a q m, r = .ok a (q ++ y) m → r' = .ok a (q ++ y') m
theorem PaX.bad {α : Type} {y y' : List Tk} {e p : Nat} {r' : PaR α} : PaX y y' (.bad e p) r' := fun _ _ _ h => by cases h
theorem PaX.next {α β : Type} {y y' l : List Tk} {n : Nat} {r r' : PaR α} {f f' : α → List Tk → Nat → PaR β} (hl : ToksK l) (h : PaT y y' r r') (hs : PaS l n r) (k : ∀ a q m, q ≠ [] → ToksK (q ++ y) → PaX y y' (f a (q ++ y) m) (f' a (q ++ y') m)) (e : ∀ a q m, ToksK q → PaE q (f a q m)) : PaX y y' (r.next f) (r'.next f') := by
 intro b q m eq
 cases r with
 | bad e' p => cases eq
 | ok a q' m' =>
  obtain ⟨⟨x0, hx0⟩, _⟩ := hs a q' m' rfl
  have hq' : ToksK q' := by rw [hx0] at hl; exact hl.behind
  obtain ⟨x, s, hxs, _⟩ := e a q' m' hq' b _ m eq
  have hc : q' = (x ++ s :: q) ++ y := by rw [hxs]; simp
  subst hc
  rw [h a (x ++ s :: q) m' (by simp) rfl, PaR.next_ok]
  exact k a (x ++ s :: q) m' (by simp) hq' b q m eq
theorem semiT_x {y y' : List Tk} (en en' : Nat) (d : Dc) {x : List Tk} (hx : x ≠ []) (n : Nat) : PaX y y' (semiT en d (x ++ y) n) (semiT en' d (x ++ y') n) := by
 unfold semiT
 cases x with
 | nil => exact absurd rfl hx
 | cons t r =>
  rw [List.cons_append, List.cons_append, takeT_cons, takeT_cons]
  by_cases h : isT 3 [59] t = true
  · rw [if_pos h, if_pos h, PaR.next_ok, PaR.next_ok]
    intro a q m e
    injection e with e1 e2 e3
    rw [List.append_cancel_right e2, e1, e3]
  · rw [if_neg h, if_neg h]; exact .bad
variable {y y' : List Tk}
theorem outB_x (en en' : Nat) (d : Dc) {x : List Tk} (hl : ToksK (x ++ y)) (n : Nat) : PaX y y' (outB en d (x ++ y) n) (outB en' d (x ++ y') n) := by
 unfold outB
 refine PaX.next hl (takeT_t en en' 3 [58] x n) (takeT_s _ _ _ _ _) (fun _ q m hq hl => PaX.next hl (takeT_t en en' 2 [] q m) (takeT_s _ _ _ _ _) (fun z q m hq hl => ?_) fun z q m hq => ?_) fun _ q m hq => PaE.next (takeK_n en 2 [] (by decide) _ _) hq fun z q m hq => ?_
 · cases smallT z.2.1 2 with
   | none => exact .bad
   | some k =>
    dsimp only
    split
    · exact .bad
    · exact semiT_x _ _ _ hq _
 all_goals
  cases smallT z.2.1 2 with
  | none => exact .bad _ _ _
  | some k =>
   dsimp only
   split
   · exact .bad _ _ _
   · exact semiT_e _ _ _ _
theorem unitT_app {x : List Tk} (hx : x ≠ []) (z : List Tk) : (unitT (x ++ z)).1 = (unitT x).1 ∧ (unitT (x ++ z)).2 = (unitT x).2 ++ z := by
 cases x with
 | nil => exact absurd rfl hx
 | cons t r =>
  rw [List.cons_append]
  unfold unitT
  dsimp only
  split
  · exact ⟨rfl, rfl⟩
  · exact ⟨rfl, rfl⟩
theorem bodyT_x {L : Lim} (hL : L.Fit) (en en' k : Nat) (d : Dc) {x : List Tk} (hx : x ≠ []) (hl : ToksK (x ++ y)) (n : Nat) : PaX y y' (bodyT L en k d (x ++ y) n) (bodyT L en' k d (x ++ y') n) := by
 unfold bodyT
 split
 · exact PaX.next hl (numT_t en en' x n) (numT_s _ _ _) (fun _ q m hq hl => PaX.next hl (takeT_t en en' 4 [] q m) (takeT_s _ _ _ _ _) (fun _ q m hq hl => semiT_x _ _ _ hq _) fun _ _ _ _ => semiT_e _ _ _ _) fun _ _ _ hq => PaE.next (takeK_n en 4 [] (by decide) _ _) hq fun _ _ _ _ => semiT_e _ _ _ _
 · split
   · refine PaX.next hl (numT_t en en' x n) (numT_s _ _ _) (fun s q m hq hl => ?_) fun _ q _ hq => .of (unitT_n q) (PaE.next (takeC_n en 58 (by decide) _ _) (unitT_toks hq) fun _ _ _ hq => PaE.next (numT_n en hq _) hq fun _ _ _ _ => semiT_e _ _ _ _)
     rw [(unitT_app hq y).1, (unitT_app hq y).2, (unitT_app hq y').1, (unitT_app hq y').2]
     have hl2 : ToksK ((unitT q).2 ++ y) := by rw [← (unitT_app hq y).2]; exact unitT_toks hl
     exact PaX.next hl2 (takeT_t en en' 3 [58] _ m) (takeT_s _ _ _ _ _) (fun _ q m hq hl => PaX.next hl (numT_t en en' q m) (numT_s _ _ _) (fun _ q m hq hl => semiT_x _ _ _ hq _) fun _ _ _ _ => semiT_e _ _ _ _) fun _ _ _ hq => PaE.next (numT_n en hq _) hq fun _ _ _ _ => semiT_e _ _ _ _
   · split
     · exact PaX.next hl (numT_t en en' x n) (numT_s _ _ _) (fun _ q m hq hl => semiT_x _ _ _ hq _) fun _ _ _ hq => semiT_e _ _ _ _
     · split
       · exact PaX.next hl (formL_t L en en' x n) (formL_s _ _ _ _) (fun _ q m hq hl => semiT_x _ _ _ hq _) fun _ _ _ hq => semiT_e _ _ _ _
       · refine PaX.next hl (formL_t L en en' x n) (formL_s _ _ _ _) (fun t q m hq hl => ?_) fun _ q m hq => ?_
         · rw [nextT_app hq, nextT_app hq, tail_app hq, tail_app hq]
           split
           · have hl2 : ToksK (q.tail ++ y) := by rw [← tail_app hq]; exact hl.tl
             exact PaX.next hl2 (takeT_t en en' 4 [] _ m) (takeT_s _ _ _ _ _) (fun _ q m hq hl => outB_x _ _ _ hl _) fun _ _ _ hq => outB_e _ _ hq _
           · exact outB_x _ _ _ hl _
         · by_cases h : nextT 1 [105, 110] q = true
           · rw [if_pos h]
             exact .tail h (fun t ht => semi_T ht (by decide)) (PaE.next (takeK_n en 4 [] (by decide) _ _) hq.tl fun _ _ _ hq => outB_e _ _ hq _)
           · rw [if_neg h]; exact outB_e _ _ hq _
theorem headT_t (en en' k : Nat) (x : List Tk) (n : Nat) : PaT y y' (headT en k (x ++ y) n) (headT en' k (x ++ y') n) := by
 unfold headT
 refine (nameT_t en en' x n).next (fun a q m hq => ?_) fun a q m => ?_
 · split
   · exact (nameT_t en en' q m).next (fun b q m hq => (takeT_t en en' 3 [61] q m).next (fun c q m hq => .ok _ _) fun _ _ _ => .ok _ _ _) fun _ _ _ => (takeT_s _ _ _ _ _).next fun _ _ _ => .ok _ _ _
   · exact (takeT_t en en' 3 [61] q m).next (fun c q m hq => .ok _ _) fun _ _ _ => .ok _ _ _
 · split
   · exact (nameT_s _ _ _).next fun _ _ _ => (takeT_s _ _ _ _ _).next fun _ _ _ => .ok _ _ _
   · exact (takeT_s _ _ _ _ _).next fun _ _ _ => .ok _ _ _
theorem declT_x {L : Lim} (hL : L.Fit) (en en' i : Nat) {x : List Tk} (hx : x ≠ []) (hl : ToksK (x ++ y)) (n : Nat) : PaX y y' (declT L en i (x ++ y) n) (declT L en' i (x ++ y') n) := by
 cases x with
 | nil => exact absurd rfl hx
 | cons w r =>
  unfold declT
  rw [List.cons_append, List.cons_append]
  dsimp only
  cases wordK w with
  | none => exact .bad
  | some k =>
   dsimp only
   split
   · exact .bad
   · exact PaX.next hl.tail (headT_t en en' k r n) (headT_s _ _ _ _) (fun d q m hq hl => bodyT_x hL en en' k d hq hl m) fun _ _ _ hq => bodyT_e hL _ _ _ hq _
end Go.Proofs.YtheaepceghnkpaaDoor

/- Mathematics of the grammar: a row that is cut where something that was read goes on is told at its end. No condition. -/
namespace Go.Proofs.YtheaepceghnkpaaDoor
open Go.RowKit Limb
set_option linter.unusedVariables false
def PaC {α : Type} (en' : Nat) (S : α → α → Prop) (y : List Tk) (r r' : PaR α) : Prop := ∀ a q m, r = .ok a q m → r' = .bad 12 en' ∨ (∃ a' m', r' = .ok a' [] m' ∧ m' ≤ m ∧ S a a') ∨ ∃ q1, q1 ≠ [] ∧ q = q1 ++ y ∧ r' = .ok a q1 m
def PaZ {α : Type} (en' : Nat) (S : α → α → Prop) (r r' : PaR α) : Prop := ∀ a q m, r = .ok a q m → r' = .bad 12 en' ∨ ∃ a' m', r' = .ok a' [] m' ∧ m' ≤ m ∧ S a a'
def Any {α : Type} (_ _ : α) : Prop := True
theorem PaC.next {α β : Type} {en' : Nat} {S : α → α → Prop} {T : β → β → Prop} {y : List Tk} {r r' : PaR α} {f f' : α → List Tk → Nat → PaR β} (h : PaC en' S y r r') (k1 : ∀ a q m, q ≠ [] → PaC en' T y (f a (q ++ y) m) (f' a q m)) (k2 : ∀ a a' q m m', S a a' → m' ≤ m → PaZ en' T (f a q m) (f' a' [] m')) : PaC en' T y (r.next f) (r'.next f') := by
 intro b q m e
 cases r with
 | bad e' p => cases e
 | ok a q0 m0 =>
  rcases h a q0 m0 rfl with rfl | ⟨a', m', rfl, h1, h2⟩ | ⟨q1, h1, rfl, rfl⟩
  · exact .inl rfl
  · rcases k2 a a' q0 m0 m' h2 h1 b q m e with h | h
    · exact .inl h
    · exact .inr (.inl h)
  · exact k1 a q1 m0 h1 b q m e
theorem PaZ.next {α β : Type} {en' : Nat} {S : α → α → Prop} {T : β → β → Prop} {r r' : PaR α} {f f' : α → List Tk → Nat → PaR β} (h : PaZ en' S r r') (k : ∀ a a' q m m', S a a' → m' ≤ m → PaZ en' T (f a q m) (f' a' [] m')) : PaZ en' T (r.next f) (r'.next f') := by
 intro b q m e
 cases r with
 | bad e' p => cases e
 | ok a q0 m0 =>
  rcases h a q0 m0 rfl with rfl | ⟨a', m', rfl, h1, h2⟩
  · exact .inl rfl
  · exact k a a' q0 m0 m' h2 h1 b q m e
theorem PaC.bad {α : Type} {en' : Nat} {S : α → α → Prop} {y : List Tk} {e p : Nat} {r' : PaR α} : PaC en' S y (.bad e p) r' := fun _ _ _ h => by cases h
theorem PaZ.bad {α : Type} {en' : Nat} {S : α → α → Prop} {e p : Nat} {r' : PaR α} : PaZ en' S (.bad e p) r' := fun _ _ _ h => by cases h
theorem PaC.no {α : Type} {en' : Nat} {S : α → α → Prop} {y : List Tk} {r : PaR α} : PaC en' S y r (.bad 12 en') := fun _ _ _ _ => .inl rfl
theorem PaZ.no {α : Type} {en' : Nat} {S : α → α → Prop} {r : PaR α} : PaZ en' S r (.bad 12 en') := fun _ _ _ _ => .inl rfl
theorem PaC.ok {α : Type} {en' : Nat} {S : α → α → Prop} (hS : ∀ a, S a a) {y : List Tk} (a : α) (x : List Tk) (n : Nat) : PaC en' S y (.ok a (x ++ y) n) (.ok a x n) := by
 intro b q m e
 injection e with e1 e2 e3
 subst e1 e2 e3
 by_cases hx : x = []
 · subst hx; exact .inr (.inl ⟨_, _, rfl, Nat.le_refl _, hS _⟩)
 · exact .inr (.inr ⟨x, hx, rfl, rfl⟩)
theorem PaZ.stay {α : Type} {en' : Nat} {S : α → α → Prop} {q0 : List Tk} {m0 m' : Nat} {r : PaR α} {a' : α} (hs : PaS q0 m0 r) (hm : m' ≤ m0) (h : ∀ a, S a a') : PaZ en' S r (.ok a' [] m') := fun a q m e => .inr ⟨a', m', rfl, Nat.le_trans hm (hs a q m e).2, h a⟩
variable {y : List Tk}
end Go.Proofs.YtheaepceghnkpaaDoor

/- Mathematics of the grammar: declarations and scripts that are read may be; tokens as lexing tells them; scripts behind one another, scripts that are cut. No condition. -/
namespace Go.Proofs.YtheaepceghnkpaaDoor
open Go.RowKit Limb
set_option linter.unusedVariables false
theorem lexS_unit {c : Nat} {r : List Nat} {s : List Nat} {n : Nat} (h : lexS c r = .tok 4 s n) : s.all inUn = true := by
 unfold lexS at h
 split at h
 · cases h
 · split at h
   · cases h
   · split at h
     · split at h <;> cases h
     · split at h
       · split at h <;> cases h
       · split at h
         · split at h
           · cases h
           · cases h; rw [take_whileL]; exact all_while r
         · split at h <;> cases h
theorem lexS_tok {c : Nat} {r s : List Nat} {k n a : Nat} (hb : Bytes (c :: r)) (h : lexS c r = .tok k s n) : TokK (k, s, a) := by
 refine ⟨lexS_kind h, ?_, fun e => ?_⟩
 · have h1 := (raw_at (a := a) h).2
   intro x hx
   have h2 : x ∈ (c :: r).take n := by
    rw [h1]; unfold rawT
    split
    · exact List.mem_cons_of_mem _ (List.mem_append_left _ hx)
    · exact hx
   exact hb x (List.mem_of_mem_take h2)
 · have e' : k = 4 := e
   subst e'; exact lexS_unit h
theorem bytes_drop {l : List Nat} (h : Bytes l) (n : Nat) : Bytes (l.drop n) := fun x hx => h x (List.mem_of_mem_drop hx)
theorem lexR_tok : ∀ (f a : Nat) (l : List Nat) (ts : List Tk), Bytes l → lexR f a l = .ok ts → ∀ t ∈ ts, TokK t ∧ a ≤ t.2.2 ∧ t.2.2 < a + l.length
 | 0, _, _, _, _, h => by cases h
 | f + 1, a, [], ts, _, h => by cases h; simp
 | f + 1, a, c :: r, ts, hb, h => by
  unfold lexR at h
  cases e : lexS c r with
  | bad => rw [e] at h; cases h
  | skip n =>
   rw [e] at h
   have hl := lexS_len.1 n e
   intro t ht
   obtain ⟨h1, h2, h3⟩ := lexR_tok f _ _ ts (bytes_drop hb n) h t ht
   rw [List.length_drop, List.length_cons] at h3
   exact ⟨h1, by omega, by rw [List.length_cons]; omega⟩
  | tok k s n =>
   rw [e] at h
   have hl := lexS_len.2 k s n e
   dsimp only at h
   cases e2 : lexR f (a + n) ((c :: r).drop n) with
   | bad p => rw [e2] at h; cases h
   | ok us =>
    rw [e2] at h
    cases h
    intro t ht
    rcases List.mem_cons.1 ht with rfl | ht
    · exact ⟨lexS_tok hb e, Nat.le_refl _, by rw [List.length_cons]; show a < _; omega⟩
    · obtain ⟨h1, h2, h3⟩ := lexR_tok f _ _ us (bytes_drop hb n) e2 t ht
      rw [List.length_drop, List.length_cons] at h3
      exact ⟨h1, by omega, by rw [List.length_cons]; omega⟩
theorem lexT_tok {l : List Nat} {ts : List Tk} (hb : Bytes l) (h : lexT l = .ok ts) : ToksK ts ∧ ∀ t ∈ ts, t.2.2 < l.length :=
 ⟨fun t ht => (lexR_tok _ _ _ _ hb h t ht).1, fun t ht => by have := (lexR_tok _ _ _ _ hb h t ht).2.2; omega⟩
def numH (b : List Nat) : Bool := if (b.takeWhile (· ≠ 47)).length < b.length then litGood (b.takeWhile (· ≠ 47)) && litGood (b.drop ((b.takeWhile (· ≠ 47)).length + 1)) else litGood b
def numG (s : List Nat) : Bool :=
 match s with
 | [] => numH []
 | c :: r => if c = 45 then numH r else numH (c :: r)
def unitG (u : List Nat) : Bool := decide (u.length ≤ 200) && u.all inUn && u.all (fun c => decide (c < 256))
def goodD (d : Dc) : Bool :=
 isNam d.nm && unitG d.un &&
 (if d.k = 1 then numG d.nu && decide (d.un ≠ []) && decide (d.ot = []) && decide (d.va = []) && decide (d.tr.length = 0) && decide (d.pl = 0)
  else if d.k = 2 then numG d.nu && numG d.va && decide (d.ot = []) && decide (d.tr.length = 0) && decide (d.pl = 0)
  else if d.k = 3 then numG d.nu && isNam d.ot && decide (d.va = []) && decide (d.un = []) && decide (d.tr.length = 0) && decide (d.pl = 0)
  else if d.k = 4 then goodT d.tr && decide (d.ot = []) && decide (d.nu = []) && decide (d.va = []) && decide (d.un = []) && decide (d.pl = 0)
  else if d.k = 5 then goodT d.tr && decide (0 ≤ d.pl) && decide (d.pl ≤ 60) && decide (d.ot = []) && decide (d.nu = []) && decide (d.va = [])
  else false)
theorem while_all {p : Nat → Bool} {l : List Nat} (h : ∀ c ∈ l, p c = true) (r : List Nat) : (l ++ r).takeWhile p = l ++ r.takeWhile p := List.takeWhile_append_of_pos h
theorem good_no47 {l : List Nat} (h : litGood l = true) : ∀ c ∈ l, decide (c ≠ 47) = true := by
 intro c hc
 obtain ⟨i, hi, rfl⟩ := List.getElem_of_mem hc
 have hd : lim l i = l[i] := by unfold lim; rw [List.getD_eq_getElem?_getD, List.getElem?_eq_getElem hi]; rfl
 have := good_bytes h hi hd
 rw [decide_eq_true_eq]
 rcases this with h | h | h | h <;> omega
theorem good_hd {l : List Nat} (h : litGood l = true) : ∃ c r, l = c :: r ∧ c ≠ 45 := by
 obtain ⟨w, f, x, ho, rfl⟩ := good_mk h
 have h1 := ho.whole
 cases w with
 | nil => exact absurd rfl h1.2
 | cons c w =>
  refine ⟨c, w ++ litF f ++ litX x, by unfold litMk; simp, ?_⟩
  have h2 := List.all_eq_true.1 h1.1 c (by simp)
  rintro rfl
  exact absurd h2 (by decide)
theorem numH_one {l : List Nat} (h : litGood l = true) : numH l = true := by
 unfold numH
 have := while_all (good_no47 h) []
 rw [List.append_nil] at this
 rw [this, List.takeWhile_nil, List.append_nil, if_neg (by omega)]; exact h
theorem numH_two {l m : List Nat} (h : litGood l = true) (h' : litGood m = true) : numH (l ++ [47] ++ m) = true := by
 unfold numH
 have e : (l ++ [47] ++ m).takeWhile (· ≠ 47) = l := by
  rw [List.append_assoc, while_all (good_no47 h)]; simp
 rw [e, if_pos (by simp), h, Bool.true_and]
 have e2 : (l ++ [47] ++ m).drop (l.length + 1) = m := by rw [show l.length + 1 = (l ++ [47]).length by simp, List.drop_left]
 rw [e2]; exact h'
theorem numG_bare {c : Nat} {r : List Nat} (hc : c ≠ 45) : numG (c :: r) = numH (c :: r) := by show (if c = 45 then numH r else numH (c :: r)) = _; rw [if_neg hc]
def PostN (L : Lim) (en : Nat) (l : List Tk) (n : Nat) : PaR (List Nat) → Prop
 | .ok s q m => (∃ x, l = x ++ q) ∧ m = n ∧ numG s = true
 | .bad e p => FaultK en l e p
theorem numG_sg {sg : List Nat} (hs : sg = [] ∨ sg = [45]) {l : List Nat} (h : numH l = true) (hd : ∃ c r, l = c :: r ∧ c ≠ 45) : numG (sg ++ l) = true := by
 obtain ⟨c, r, rfl, hc⟩ := hd
 rcases hs with rfl | rfl
 · rw [List.nil_append, numG_bare hc]; exact h
 · show (if (45 : Nat) = 45 then numH (c :: r) else numH (45 :: c :: r)) = true
   rw [if_pos rfl]; exact h
theorem numB_post (L : Lim) (en : Nat) {sg : List Nat} (hs : sg = [] ∨ sg = [45]) {l : List Tk} (hl : ToksK l) (n : Nat) : PostN L en l n (numB en sg l n) := by
 unfold numB
 have h := takeT_post en 2 [] l n
 cases ht : takeT en 2 [] l n with
 | bad e p => rw [ht] at h; exact h
 | ok t r m =>
  rw [ht] at h
  obtain ⟨rfl, h1, rfl⟩ := h
  rw [PaR.next_ok]
  have hg := hl.head.lit (isT_kind h1).1
  by_cases h2 : nextT 3 [47] r = true
  · rw [if_pos h2]
    obtain ⟨x, q, rfl, hx⟩ := nextT_cons h2
    have k := takeT_post en 2 [] q m
    show PostN L en _ _ ((takeT en 2 [] q m).next _)
    cases hu : takeT en 2 [] q m with
    | bad e p => rw [hu] at k; exact FaultK.up k fun z hz => List.mem_cons_of_mem _ (List.mem_cons_of_mem _ hz)
    | ok u r m =>
     rw [hu] at k
     obtain ⟨rfl, h3, rfl⟩ := k
     have hg2 := hl.tail.tail.head.lit (isT_kind h3).1
     obtain ⟨c, z, e, hc⟩ := good_hd hg
     refine ⟨⟨[t, x, u], rfl⟩, rfl, ?_⟩
     rw [List.append_assoc, List.append_assoc, ← List.append_assoc t.2.1]
     exact numG_sg hs (numH_two hg hg2) ⟨c, z ++ [47] ++ u.2.1, by rw [e]; simp, hc⟩
  · rw [if_neg h2]
    exact ⟨⟨[t], rfl⟩, rfl, numG_sg hs (numH_one hg) (good_hd hg)⟩
theorem PostN.cons {L : Lim} {en n : Nat} {t : Tk} {l : List Tk} {r : PaR (List Nat)} (h : PostN L en l n r) : PostN L en (t :: l) n r := by
 cases r with
 | bad e p => exact FaultK.up h fun z hz => List.mem_cons_of_mem _ hz
 | ok s q m => obtain ⟨⟨x, rfl⟩, h2, h3⟩ := h; exact ⟨⟨t :: x, rfl⟩, h2, h3⟩
theorem numT_post (L : Lim) (en : Nat) {l : List Tk} (hl : ToksK l) (n : Nat) : PostN L en l n (numT en l n) := by
 unfold numT
 by_cases h : nextT 3 [45] l = true
 · rw [if_pos h]
   obtain ⟨t, r, rfl, ht⟩ := nextT_cons h
   exact (numB_post L en (.inr rfl) hl.tail n).cons
 · rw [if_neg h]; exact numB_post L en (.inl rfl) hl n
structure DcK (L : Lim) (l : List Tk) (d : Dc) : Prop where
 good : goodD d = true
 at' : ∃ z ∈ l, d.at' = (z.2.2 : Int)
 nds : ∀ y ∈ d.tr, ∃ z ∈ l, y.p = (z.2.2 : Int)
 pow : ∀ y ∈ d.tr, y.k = 8 → -(L.power : Int) ≤ y.n ∧ y.n ≤ (L.power : Int)
theorem DcK.mono {L : Lim} {l q : List Tk} {d : Dc} (h : DcK L q d) (hs : ∀ z ∈ q, z ∈ l) : DcK L l d := by
 obtain ⟨h1, ⟨z, hz, e⟩, h3, h4⟩ := h
 exact ⟨h1, ⟨z, hs z hz, e⟩, fun y hy => by obtain ⟨z, hz, e⟩ := h3 y hy; exact ⟨z, hs z hz, e⟩, h4⟩
def PostD (L : Lim) (en : Nat) (l0 l : List Tk) (n0 n : Nat) : PaR Dc → Prop
 | .ok d q m => (∃ x, l = x ++ q) ∧ DcK L l0 d ∧ m = n0 + d.tr.length ∧ (m ≤ L.nodes ∨ m = n0)
 | .bad e p => FaultK en l0 e p
theorem semiT_post {L : Lim} {en n0 n : Nat} {d : Dc} {l0 l : List Tk} (hs : ∀ z ∈ l, z ∈ l0) (hd : DcK L l0 d) (hn : n = n0 + d.tr.length) (hm : n ≤ L.nodes ∨ n = n0) : PostD L en l0 l n0 n (semiT en d l n) := by
 unfold semiT
 have h := takeT_post en 3 [59] l n
 cases ht : takeT en 3 [59] l n with
 | bad e p => rw [ht] at h; exact FaultK.up h hs
 | ok t r m =>
  rw [ht] at h
  obtain ⟨rfl, h1, rfl⟩ := h
  exact ⟨⟨[t], rfl⟩, hd, hn, hm⟩
theorem PostD.of {L : Lim} {en n0 n m : Nat} {l0 l q : List Tk} {r : PaR Dc} (h : PostD L en l0 q n0 m r) (hx : ∃ x, l = x ++ q) : PostD L en l0 l n0 n r := by
 cases r with
 | bad e p => exact h
 | ok d q' m' =>
  obtain ⟨⟨x, rfl⟩, h2⟩ := h
  obtain ⟨z, rfl⟩ := hx
  exact ⟨⟨z ++ x, by rw [List.append_assoc]⟩, h2⟩
structure HdK (l0 : List Tk) (k : Nat) (d : Dc) : Prop where
 kind : d.k = k
 nm : isNam d.nm = true
 ot : if k = 3 then isNam d.ot = true else d.ot = []
 rest : d.nu = [] ∧ d.va = [] ∧ d.un = [] ∧ d.tr = [] ∧ d.pl = 0
 at' : ∃ z ∈ l0, d.at' = (z.2.2 : Int)
theorem unitG_nil : unitG [] = true := rfl
theorem TokK.unitG {t : Tk} (h : TokK t) (hk : t.1 = 4) : unitG t.2.1 = true ∧ t.2.1 ≠ [] := by
 have h1 := h.unit hk
 unfold Proofs.YtheaepceghnkpaaDoor.unitG
 have h3 : t.2.1.all (fun c => decide (c < 256)) = true := List.all_eq_true.2 fun c hc => decide_eq_true (h.2.1 c hc)
 rw [h.2.2 hk, decide_eq_true h1.2, h3]
 exact ⟨rfl, fun e => by rw [e] at h1; simp at h1⟩
theorem outB_post {L : Lim} {en n0 n : Nat} {d : Dc} {l0 l : List Tk} (hs : ∀ z ∈ l, z ∈ l0) (hd : ∀ k : Nat, k ≤ 60 → DcK L l0 { d with pl := k }) (hn : n = n0 + d.tr.length) (hm : n ≤ L.nodes ∨ n = n0) : PostD L en l0 l n0 n (outB en d l n) := by
 unfold outB
 have h := takeT_post en 3 [58] l n
 cases ht : takeT en 3 [58] l n with
 | bad e p => rw [ht] at h; exact FaultK.up h hs
 | ok t r m =>
  rw [ht] at h
  obtain ⟨rfl, h1, rfl⟩ := h
  rw [PaR.next_ok]
  have k := takeT_post en 2 [] r m
  cases hu : takeT en 2 [] r m with
  | bad e p => rw [hu] at k; exact FaultK.up k fun z hz => hs z (List.mem_cons_of_mem _ hz)
  | ok x q m =>
   rw [hu] at k
   obtain ⟨rfl, h3, rfl⟩ := k
   rw [PaR.next_ok]
   have hx : x ∈ l0 := hs x (by simp)
   cases hsm : smallT x.2.1 2 with
   | none => exact ⟨.inr rfl, .inr ⟨x, hx, rfl⟩⟩
   | some j =>
    dsimp only
    by_cases hj : 60 < j
    · rw [if_pos hj]; exact ⟨.inl rfl, .inr ⟨x, hx, rfl⟩⟩
    · rw [if_neg hj]
      exact (semiT_post (fun z hz => hs z (by simp [hz])) (hd j (by omega)) hn hm).of ⟨[t, x], rfl⟩
theorem bodyT_post {L : Lim} (hL : L.Fit) {en n0 k : Nat} (hk : 1 ≤ k ∧ k ≤ 5) {d : Dc} {l0 l : List Tk} (hs : ∀ z ∈ l, z ∈ l0) (hl : ToksK l) (hd : HdK l0 k d) : PostD L en l0 l n0 n0 (bodyT L en k d l n0) := by
 obtain ⟨k1, k2, k3, ⟨r1, r2, r3, r4, r5⟩, k5⟩ := hd
 obtain ⟨dk, nm, ot, nu, va, un, tr, pl, at'⟩ := d
 dsimp only at k1 k2 k3 r1 r2 r3 r4 r5 k5
 subst k1 r1 r2 r3 r4 r5
 have nopow : ∀ y ∈ ([] : List Nd), y.k = 8 → -(L.power : Int) ≤ y.n ∧ y.n ≤ (L.power : Int) := fun y hy => by cases hy
 have nonds : ∀ y ∈ ([] : List Nd), ∃ z ∈ l0, y.p = (z.2.2 : Int) := fun y hy => by cases hy
 unfold bodyT
 by_cases h1 : k = 1
 · subst h1
   rw [if_pos rfl]
   have h := numT_post L en hl n0
   cases hr : numT en l n0 with
   | bad e p => rw [hr] at h; exact FaultK.up h hs
   | ok s r m =>
    rw [hr] at h
    obtain ⟨⟨x, rfl⟩, rfl, hg⟩ := h
    rw [PaR.next_ok]
    have hq := takeT_post en 4 [] r m
    cases hu : takeT en 4 [] r m with
    | bad e p => rw [hu] at hq; exact FaultK.up hq fun z hz => hs z (List.mem_append_right _ hz)
    | ok u q m =>
     rw [hu] at hq
     obtain ⟨rfl, h3, rfl⟩ := hq
     rw [PaR.next_ok]
     obtain ⟨u1, u2⟩ := (hl.behind.head).unitG (isT_kind h3).1
     rw [if_neg (by decide)] at k3
     exact (semiT_post (fun z hz => hs z (by simp [hz])) ⟨by unfold goodD; simp [k2, u1, u2, hg, k3], k5, nonds, nopow⟩ rfl (.inr rfl)).of ⟨x ++ [u], by simp⟩
 · rw [if_neg h1]
   by_cases h2 : k = 2
   · subst h2
     rw [if_pos rfl]
     have h := numT_post L en hl n0
     cases hr : numT en l n0 with
     | bad e p => rw [hr] at h; exact FaultK.up h hs
     | ok s r m =>
      rw [hr] at h
      obtain ⟨⟨x, rfl⟩, rfl, hg⟩ := h
      rw [PaR.next_ok]
      have hlr := hl.behind
      have hu1 : unitG (unitT r).1 = true := by
       unfold unitT
       cases r with
       | nil => rfl
       | cons t r =>
        dsimp only
        by_cases h4 : isT 4 [] t = true
        · rw [if_pos h4]; exact (hlr.head.unitG (isT_kind h4).1).1
        · rw [if_neg h4]; rfl
      have hut := unitT_toks hlr
      have hux := unitT_s r
      generalize (unitT r).1 = u at *
      generalize (unitT r).2 = r2 at *
      obtain ⟨y, rfl⟩ := hux
      have hq := takeT_post en 3 [58] r2 m
      cases ht : takeT en 3 [58] r2 m with
      | bad e p => rw [ht] at hq; exact FaultK.up hq fun z hz => hs z (by simp [hz])
      | ok t q m =>
       rw [ht] at hq
       obtain ⟨rfl, h3, rfl⟩ := hq
       rw [PaR.next_ok]
       have h := numT_post L en hut.tail m
       cases hr : numT en q m with
       | bad e p => rw [hr] at h; exact FaultK.up h fun z hz => hs z (by simp [hz])
       | ok v r m =>
        rw [hr] at h
        obtain ⟨⟨z, rfl⟩, rfl, hv⟩ := h
        rw [PaR.next_ok]
        rw [if_neg (by decide)] at k3
        exact (semiT_post (fun w hw => hs w (by simp [hw])) ⟨by unfold goodD; simp [k2, hu1, hg, hv, k3], k5, nonds, nopow⟩ rfl (.inr rfl)).of ⟨x ++ (y ++ t :: z), by simp⟩
   · rw [if_neg h2]
     by_cases h3 : k = 3
     · subst h3
       rw [if_pos rfl]
       have h := numT_post L en hl n0
       cases hr : numT en l n0 with
       | bad e p => rw [hr] at h; exact FaultK.up h hs
       | ok s r m =>
        rw [hr] at h
        obtain ⟨⟨x, rfl⟩, rfl, hg⟩ := h
        rw [PaR.next_ok]
        rw [if_pos rfl] at k3
        exact (semiT_post (fun z hz => hs z (by simp [hz])) ⟨by unfold goodD; simp [k2, hg, k3, unitG_nil], k5, nonds, nopow⟩ rfl (.inr rfl)).of ⟨x, rfl⟩
     · rw [if_neg h3]
       rw [if_neg h3] at k3
       have h := formL_fine hL en l n0 hl
       by_cases h4 : k = 4
       · subst h4
         rw [if_pos rfl]
         cases hr : formL L en l n0 with
         | bad e p => rw [hr] at h; exact FaultK.up h hs
         | ok t r m =>
          rw [hr] at h
          obtain ⟨h5, h6⟩ := h
          obtain ⟨x, _, rfl, _⟩ := h5
          replace h6 := h6.mono hs
          rw [PaR.next_ok]
          exact (semiT_post (fun z hz => hs z (by simp [hz])) ⟨by unfold goodD; simp [k2, h6.good, k3, unitG_nil], k5, h6.at', h6.pow⟩ h6.cnt (.inl h6.lim)).of ⟨x, rfl⟩
       · rw [if_neg h4]
         have hk5 : k = 5 := by omega
         subst hk5
         cases hr : formL L en l n0 with
         | bad e p => rw [hr] at h; exact FaultK.up h hs
         | ok t r m =>
          rw [hr] at h
          obtain ⟨h5, h6⟩ := h
          obtain ⟨x, _, rfl, _⟩ := h5
          replace h6 := h6.mono hs
          rw [PaR.next_ok]
          by_cases hin : nextT 1 [105, 110] r = true
          · rw [if_pos hin]
            obtain ⟨w, r, rfl, hw⟩ := nextT_cons hin
            have hq := takeT_post en 4 [] r m
            show PostD L en l0 _ n0 n0 ((takeT en 4 [] r m).next _)
            cases hu : takeT en 4 [] r m with
            | bad e p => rw [hu] at hq; exact FaultK.up hq fun z hz => hs z (by simp [hz])
            | ok u q m =>
             rw [hu] at hq
             obtain ⟨rfl, h3, rfl⟩ := hq
             rw [PaR.next_ok]
             obtain ⟨u1, u2⟩ := (hl.behind.tail.head).unitG (isT_kind h3).1
             exact (outB_post (fun z hz => hs z (by simp [hz])) (fun j hj => ⟨by unfold goodD; simp [k2, u1, h6.good, k3]; omega, k5, h6.at', h6.pow⟩) h6.cnt (.inl h6.lim)).of ⟨x ++ [w, u], by simp⟩
          · rw [if_neg hin]
            exact (outB_post (fun z hz => hs z (by simp [hz])) (fun j hj => ⟨by unfold goodD; simp [k2, unitG_nil, h6.good, k3]; omega, k5, h6.at', h6.pow⟩) h6.cnt (.inl h6.lim)).of ⟨x, rfl⟩
def PostH (en : Nat) (l0 l : List Tk) (n k : Nat) : PaR Dc → Prop
 | .ok d q m => (∃ x, l = x ++ q) ∧ m = n ∧ HdK l0 k d
 | .bad e p => FaultK en l0 e p
theorem headT_post {en n k : Nat} {l0 l : List Tk} (hs : ∀ z ∈ l, z ∈ l0) : PostH en l0 l n k (headT en k l n) := by
 unfold headT
 have h := nameT_post en l n
 cases hr : nameT en l n with
 | bad e p => rw [hr] at h; exact FaultK.up h hs
 | ok x r m =>
  rw [hr] at h
  obtain ⟨rfl, h1, rfl⟩ := h
  rw [PaR.next_ok]
  have hx : ∃ z ∈ l0, ((x.2.2 : Nat) : Int) = (z.2.2 : Int) := ⟨x, hs x (by simp), rfl⟩
  by_cases h3 : k = 3
  · subst h3
    rw [if_pos rfl]
    have h := nameT_post en r m
    cases hr : nameT en r m with
    | bad e p => rw [hr] at h; exact FaultK.up h fun z hz => hs z (by simp [hz])
    | ok y r m =>
     rw [hr] at h
     obtain ⟨rfl, h2, rfl⟩ := h
     rw [PaR.next_ok]
     have h := takeT_post en 3 [61] r m
     cases hr : takeT en 3 [61] r m with
     | bad e p => rw [hr] at h; exact FaultK.up h fun z hz => hs z (by simp [hz])
     | ok t r m =>
      rw [hr] at h
      obtain ⟨rfl, _, rfl⟩ := h
      exact ⟨⟨[x, y, t], rfl⟩, rfl, ⟨rfl, h1.2, h2.2, ⟨rfl, rfl, rfl, rfl, rfl⟩, hx⟩⟩
  · rw [if_neg h3]
    have h := takeT_post en 3 [61] r m
    cases hr : takeT en 3 [61] r m with
    | bad e p => rw [hr] at h; exact FaultK.up h fun z hz => hs z (by simp [hz])
    | ok t r m =>
     rw [hr] at h
     obtain ⟨rfl, _, rfl⟩ := h
     exact ⟨⟨[x, t], rfl⟩, rfl, ⟨rfl, h1.2, by rw [if_neg h3], ⟨rfl, rfl, rfl, rfl, rfl⟩, hx⟩⟩
theorem declT_post {L : Lim} (hL : L.Fit) {en n i : Nat} {l0 : List Tk} {w : Tk} {r : List Tk} (hs : ∀ z ∈ w :: r, z ∈ l0) (hl : ToksK (w :: r)) : PostD L en l0 r n n (declT L en i (w :: r) n) ∧ ∀ d q m, declT L en i (w :: r) n = .ok d q m → i < 60 := by
 unfold declT
 dsimp only
 have hw0 : w ∈ l0 := hs w (by simp)
 cases hw : wordK w with
 | none => exact ⟨⟨.inr rfl, .inr ⟨w, hw0, rfl⟩⟩, fun d q m h => by cases h⟩
 | some k =>
  dsimp only
  by_cases h60 : 60 ≤ i
  · rw [if_pos h60]; exact ⟨⟨.inl rfl, .inr ⟨w, hw0, rfl⟩⟩, fun d q m h => by cases h⟩
  · rw [if_neg h60]
    refine ⟨?_, fun _ _ _ _ => by omega⟩
    have h := headT_post (en := en) (n := n) (k := k) (l0 := l0) (l := r) (fun z hz => hs z (by simp [hz]))
    cases hr : headT en k r n with
    | bad e p => rw [hr] at h; exact h
    | ok d q m =>
     rw [hr] at h
     obtain ⟨⟨x, rfl⟩, rfl, h2⟩ := h
     rw [PaR.next_ok]
     exact (bodyT_post hL (wordK_some hw).2 (fun z hz => hs z (by simp [hz])) hl.tail.behind h2).of ⟨x, rfl⟩
def ndsD (ds : List Dc) : Nat := (ds.map fun d => d.tr.length).sum
def PostS (L : Lim) (en i : Nat) (l0 : List Tk) (n : Nat) : PaR (List Dc) → Prop
 | .ok ds q m => q = [] ∧ (∀ d ∈ ds, DcK L l0 d) ∧ m = n + ndsD ds ∧ m ≤ L.nodes ∧ (ds = [] ∨ i + ds.length ≤ 60)
 | .bad e p => FaultK en l0 e p
theorem scrT_post {L : Lim} (hL : L.Fit) {en : Nat} {l0 : List Tk} : ∀ (g i : Nat) (l : List Tk) (n : Nat), l.length ≤ g → (∀ z ∈ l, z ∈ l0) → ToksK l → n ≤ L.nodes → PostS L en i l0 n (scrT L en g i l n) := by
 intro g
 induction g with
 | zero =>
  intro i l n hg hs hl hn
  cases l with
  | nil => exact ⟨rfl, fun d hd => (by cases hd), rfl, hn, .inl rfl⟩
  | cons x r => simp at hg
 | succ g ih =>
  intro i l n hg hs hl hn
  cases l with
  | nil => exact ⟨rfl, fun d hd => (by cases hd), rfl, hn, .inl rfl⟩
  | cons x r =>
   unfold scrT
   obtain ⟨h, h60⟩ := declT_post hL (en := en) (n := n) (i := i) hs hl
   cases hr : declT L en i (x :: r) n with
   | bad e p => rw [hr] at h; exact h
   | ok d q m =>
    rw [hr] at h
    have hi := h60 d q m hr
    obtain ⟨⟨z, rfl⟩, h2, rfl, h4⟩ := h
    rw [PaR.next_ok]
    rw [List.length_cons, List.length_append] at hg
    have k := ih (i + 1) q (n + d.tr.length) (by omega) (fun y hy => hs y (by simp [hy])) hl.tail.behind (by omega)
    cases hr2 : scrT L en g (i + 1) q (n + d.tr.length) with
    | bad e p => rw [hr2] at k; exact k
    | ok ds q2 m2 =>
     rw [hr2] at k
     obtain ⟨rfl, k2, rfl, k4, k5⟩ := k
     refine ⟨rfl, fun y hy => ?_, by unfold ndsD; rw [List.map_cons, List.sum_cons]; omega, k4, .inr ?_⟩
     · rcases List.mem_cons.1 hy with rfl | hy
       · exact h2
       · exact k2 y hy
     · rw [List.length_cons]
       rcases k5 with rfl | k5
       · simp; omega
       · omega
end Go.Proofs.YtheaepceghnkpaaDoor

/- Mathematics of the grammar: two scripts behind one another; a script that is cut ahead of a token; what ParseMay, ParseCuts and ParseRows ask. No condition. -/
namespace Go.Proofs.YtheaepceghnkpaaDoor
open Go.RowKit Limb
set_option linter.unusedVariables false
theorem declT_r {L : Lim} {en i : Nat} {w : Tk} {r : List Tk} {n : Nat} {d : Dc} {q : List Tk} {m : Nat} (h : declT L en i (w :: r) n = .ok d q m) : ∃ x, r = x ++ q := by
 unfold declT at h
 dsimp only at h
 cases hw : wordK w with
 | none => rw [hw] at h; cases h
 | some k =>
  rw [hw] at h
  dsimp only at h
  by_cases h60 : 60 ≤ i
  · rw [if_pos h60] at h; cases h
  · rw [if_neg h60] at h
    exact (((headT_s en k r n).next fun d q m => bodyT_s L en k d q m) d q m h).1
theorem scrT_nil (L : Lim) (en g i n : Nat) : scrT L en g i [] n = .ok [] [] n := by cases g <;> rfl
theorem scrT_step (L : Lim) (en g i : Nat) (x : Tk) (r : List Tk) (n : Nat) : scrT L en (g + 1) i (x :: r) n = (declT L en i (x :: r) n).next fun d r n => (scrT L en g (i + 1) r n).next fun ds r n => .ok (d :: ds) r n := rfl
theorem scrT_len (L : Lim) (en : Nat) : ∀ (g i : Nat) (l : List Tk) (n : Nat), l.length ≤ g → scrT L en g i l n = scrT L en l.length i l n := by
 intro g
 induction g using Nat.strongRecOn with
 | ind g ih =>
  intro i l n hg
  cases l with
  | nil => rw [scrT_nil, scrT_nil]
  | cons x r =>
   cases g with
   | zero => simp at hg
   | succ g =>
    rw [List.length_cons] at hg ⊢
    rw [scrT_step, scrT_step]
    cases hd : declT L en i (x :: r) n with
    | bad e p => rfl
    | ok d q m =>
     rw [PaR.next_ok, PaR.next_ok]
     obtain ⟨z, rfl⟩ := declT_r hd
     rw [List.length_append] at hg ⊢
     rw [ih g (by omega) _ q _ (by omega), ih (z.length + q.length) (by omega) _ q _ (by omega)]
theorem scrT_app {L : Lim} (hL : L.Fit) (en en' : Nat) {X : List Tk} (hX : ToksK X) : ∀ (g i : Nat) (l : List Tk) (n : Nat) (ds : List Dc) (m : Nat), l.length ≤ g → ToksK l → scrT L en l.length i l n = .ok ds [] m →
 scrT L en' (l ++ X).length i (l ++ X) n = (scrT L en' X.length (i + ds.length) X m).next fun es r k => .ok (ds ++ es) r k := by
 intro g
 induction g with
 | zero =>
  intro i l n ds m hg hl h
  obtain rfl : l = [] := List.eq_nil_of_length_eq_zero (by omega)
  rw [scrT_nil] at h
  injection h with h1 _ h3
  subst h1 h3
  rw [List.nil_append]
  show _ = (scrT L en' X.length i X n).next _
  cases scrT L en' X.length i X n <;> rfl
 | succ g ih =>
  intro i l n ds m hg hl h
  cases l with
  | nil =>
   rw [scrT_nil] at h
   injection h with h1 _ h3
   subst h1 h3
   rw [List.nil_append]
   show _ = (scrT L en' X.length i X n).next _
   cases scrT L en' X.length i X n <;> rfl
  | cons x r =>
   rw [List.length_cons] at hg h
   rw [scrT_step] at h
   rw [List.cons_append, List.length_cons, scrT_step]
   cases hd : declT L en i (x :: r) n with
   | bad e p => rw [hd] at h; cases h
   | ok d q m1 =>
    rw [hd, PaR.next_ok] at h
    obtain ⟨z, hz⟩ := declT_r hd
    have hq : ToksK q := by have := hl.tail; rw [hz] at this; exact this.behind
    have hx := declT_x (y := []) (y' := X) hL en en' i (x := x :: r) (by simp) (by simpa using hl) n d q m1
    rw [List.append_nil, List.append_nil] at hx
    have hd2 := hx hd
    rw [List.cons_append] at hd2
    rw [hd2, PaR.next_ok]
    have hlen : q.length ≤ r.length := by rw [hz, List.length_append]; omega
    rw [scrT_len L en r.length (i + 1) q m1 hlen] at h
    cases hs : scrT L en q.length (i + 1) q m1 with
    | bad e p => rw [hs] at h; cases h
    | ok es q2 m2 =>
     rw [hs] at h
     injection h with h1 h2 h3
     subst h1 h2 h3
     rw [scrT_len L en' (r ++ X).length (i + 1) (q ++ X) m1 (by rw [List.length_append, List.length_append]; omega), ih (i + 1) q m1 es m2 (by omega) hq hs, List.length_cons, show i + (es.length + 1) = i + 1 + es.length by omega]
     cases scrT L en' X.length (i + 1 + es.length) X m2 <;> rfl
end Go.Proofs.YtheaepceghnkpaaDoor

/- Mathematics of the grammar: what ParseMay, ParseCuts and ParseRows ask of a script's reading. No condition. -/
namespace Go.Proofs.YtheaepceghnkpaaDoor
open Go.RowKit Limb
set_option linter.unusedVariables false
theorem cutL_fit (t d n p : Int) : (cutL t d n p).Fit := by unfold cutL Lim.Fit; dsimp only; omega
theorem mostL_fit : mostL.Fit := by unfold mostL Lim.Fit; dsimp only; omega
theorem fit_most {L : Lim} (h : L.Fit) : L.le mostL := ⟨h.1, h.2.1, h.2.2.1⟩
theorem dcq_eq {x y : Dc} (h : DcQ Eq x y) : x = y := by
 obtain ⟨k, nm, ot, nu, va, un, tr, pl, at'⟩ := x
 obtain ⟨e1, e2, e3, e4, e5, e6, e7, e8, a, b, e9, e10, e11⟩ := h
 dsimp only at *
 have ht := All2.eq (R := NdQ Eq) (fun x y hxy => by
  obtain ⟨g1, a, b, g2, g3, g4⟩ := hxy
  obtain ⟨k, aa, bb, n, t, u, p⟩ := x
  obtain ⟨k', aa', bb', n', t', u', p'⟩ := y
  unfold bareN at g1
  simp only [Nd.mk.injEq] at g1 g2 g3 ⊢
  try dsimp only at g2 g3
  obtain ⟨i1, i2, i3, i4, i5, i6, _⟩ := g1
  exact ⟨i1, i2, i3, i4, i5, i6, by rw [g2, g3, g4]⟩) e7
 subst e1 e2 e3 e4 e5 e6 ht e8 e9 e11
 rw [← e10]
theorem tkq_refl (t : Tk) : TkR Eq t t := ⟨rfl, rfl, rfl⟩
theorem scrV_ok {L : Lim} (hL : L.Fit) {s : List Nat} (hb : Bytes s) {ds : List Dc} {P : Int} (h : scrV L s = (ds, 0, P)) :
 P = 0 ∧ s.length ≤ L.text ∧ (∀ d ∈ ds, goodD d = true ∧ (0 ≤ d.at' ∧ d.at' < s.length) ∧ ∀ y ∈ d.tr, (0 ≤ y.p ∧ y.p < s.length) ∧ (y.k = 8 → -(L.power : Int) ≤ y.n ∧ y.n ≤ L.power)) ∧ ndsD ds ≤ L.nodes ∧ ds.length ≤ 60 ∧ scrV mostL s = (ds, 0, 0) := by
 unfold scrV at h ⊢
 by_cases h0 : L.text < s.length
 · rw [if_pos h0] at h
   cases h
 · rw [if_neg h0] at h
   cases hl : lexT s with
   | bad p => rw [hl] at h; cases h
   | ok ts =>
    rw [hl] at h
    dsimp only at h ⊢
    obtain ⟨h1, h2⟩ := lexT_tok hb hl
    have hp := scrT_post hL (en := s.length) (l0 := ts) ts.length 0 ts 0 (Nat.le_refl _) (fun z hz => hz) h1 (Nat.zero_le _)
    have hq := scrT_q (P := Eq) (fit_most hL) s.length s.length 0 ts.length (Nat.le_refl 0) (All2.refl tkq_refl ts) 0
    cases hs : scrT L s.length ts.length 0 ts 0 with
    | bad e p => rw [hs] at h hp; cases h; exfalso; rcases (show (0 : Nat) = 2 ∨ (0 : Nat) = 12 from hp.1) with h | h <;> omega
    | ok a q m =>
     rw [hs] at h hp
     cases h
     obtain ⟨_, p2, p3, p4, p5⟩ := hp
     rw [Nat.zero_add] at p3
     refine ⟨rfl, by omega, fun d hd => ?_, by omega, ?_, ?_⟩
     · obtain ⟨g, ⟨z, hz, e⟩, k3, k4⟩ := p2 d hd
       have hz2 := h2 z hz
       refine ⟨g, ⟨by omega, by omega⟩, fun y hy => ⟨?_, k4 y hy⟩⟩
       obtain ⟨z, hz, e⟩ := k3 y hy
       have hz2 := h2 z hz
       exact ⟨by omega, by omega⟩
     · rcases p5 with rfl | p5
       · simp
       · omega
     · rw [if_neg (by show ¬ 4000 < s.length; have := hL.2.2.2; omega)]
       rw [Nat.add_zero, hs] at hq
       rcases hq with ⟨p, hq⟩ | ⟨a1, q1, m1, a2, q2, e1, e2, e3, e4⟩ | ⟨e, p, p', e1, e2⟩
       · cases hq
       · injection e1 with e1 _ _
         subst e1
         rw [e2, All2.eq (fun x y => dcq_eq) e3]
       · cases e1
def bareD (d : Dc) : Dc := { d with tr := d.tr.map bareN, at' := 0 }
theorem bareT_q {P : Nat → Nat → Prop} {t u : List Nd} (h : TrQ P t u) : t.map bareN = u.map bareN := by
 unfold TrQ at h
 induction h with
 | nil => rfl
 | cons h1 _ ih => rw [List.map_cons, List.map_cons, h1.1, ih]
theorem bareD_q {P : Nat → Nat → Prop} {x y : Dc} (h : DcQ P x y) : bareD x = bareD y := by
 obtain ⟨k, nm, ot, nu, va, un, tr, pl, at'⟩ := x
 obtain ⟨k', nm', ot', nu', va', un', tr', pl', at''⟩ := y
 obtain ⟨e1, e2, e3, e4, e5, e6, e7, e8, _⟩ := h
 unfold bareD
 dsimp only at *
 rw [e1, e2, e3, e4, e5, e6, bareT_q e7, e8]
theorem bareL_q {P : Nat → Nat → Prop} {l m : List Dc} (h : All2 (DcQ P) l m) : l.map bareD = m.map bareD := by
 induction h with
 | nil => rfl
 | cons h1 _ ih => rw [List.map_cons, List.map_cons, bareD_q h1, ih]
theorem shL_q (d : Nat) (ts : List Tk) : All2 (TkR fun _ _ => True) (shL d ts) ts := by
 unfold shL
 induction ts with
 | nil => exact .nil
 | cons t r ih => exact .cons ⟨rfl, rfl, trivial⟩ ih
theorem shL_toks {d : Nat} {ts : List Tk} (h : ToksK ts) : ToksK (shL d ts) := by
 intro t ht
 obtain ⟨u, hu, rfl⟩ := List.mem_map.1 ht
 exact h u hu
theorem scrV_rows {s t : List Nat} (hs : Bytes s) (ht : Bytes t) (hlen : s.length + t.length ≤ 3000) {a b : List Dc} {P Q : Int} (h : scrV mostL s = (a, 0, P)) (k : scrV mostL t = (b, 0, Q)) :
 ∃ ds E R, scrV mostL (s ++ 10 :: t) = (ds, E, R) ∧ (E = 2 ∨ (E = 0 ∧ a.length + b.length ≤ 60 ∧ ds.map bareD = (a ++ b).map bareD)) := by
 have pre : ∀ {s : List Nat} {a : List Dc} {P : Int}, Bytes s → scrV mostL s = (a, 0, P) → ∃ us m, lexT s = .ok us ∧ ToksK us ∧ scrT mostL s.length us.length 0 us 0 = .ok a [] m ∧ m ≤ 2000 ∧ (a = [] ∨ 0 + a.length ≤ 60) := by
  intro s a P hs h
  unfold scrV at h
  by_cases h0 : mostL.text < s.length
  · rw [if_pos h0] at h; cases h
  · rw [if_neg h0] at h
    cases hl : lexT s with
    | bad p => rw [hl] at h; cases h
    | ok us =>
     rw [hl] at h
     dsimp only at h
     have h1 := (lexT_tok hs hl).1
     have hp := scrT_post mostL_fit (en := s.length) (l0 := us) us.length 0 us 0 (Nat.le_refl _) (fun z hz => hz) h1 (Nat.zero_le _)
     cases hsc : scrT mostL s.length us.length 0 us 0 with
     | bad e p => rw [hsc] at h hp; cases h; exfalso; rcases (show (0 : Nat) = 2 ∨ (0 : Nat) = 12 from hp.1) with h | h <;> omega
     | ok ds q m =>
      rw [hsc] at h hp
      cases h
      obtain ⟨rfl, _, _, p4, p5⟩ := hp
      exact ⟨us, m, rfl, h1, hsc, p4, p5⟩
 obtain ⟨us, m, e1, e2, e3, e4, e5⟩ := pre hs h
 obtain ⟨ts, m2, g1, g2, g3, g4, g5⟩ := pre ht k
 have hrow := lexT_row_ok e1 g1
 have hsh := shL_toks (d := s.length + 1) g2
 have happ := scrT_app mostL_fit s.length (s ++ 10 :: t).length hsh us.length 0 us 0 a m (Nat.le_refl _) e2 e3
 have hV : scrV mostL (s ++ 10 :: t) = match scrT mostL (s ++ 10 :: t).length (us ++ shL (s.length + 1) ts).length 0 (us ++ shL (s.length + 1) ts) 0 with | .ok ds _ _ => (ds, 0, 0) | .bad e p => ([], (e : Int), (p : Int)) := by
  unfold scrV
  rw [if_neg (by show ¬ 4000 < _; rw [List.length_append, List.length_cons]; omega), hrow]
  rfl
 rw [Nat.zero_add] at happ
 have hshl : (shL (s.length + 1) ts).length = ts.length := by unfold shL; rw [List.length_map]
 have hq := scrT_q (P := fun _ _ => True) (L := mostL) (L' := mostL) ⟨Nat.le_refl _, Nat.le_refl _, Nat.le_refl _⟩ (s ++ 10 :: t).length t.length m ts.length (i := a.length) (i' := 0) (Nat.zero_le _) (shL_q (s.length + 1) ts) 0
 rw [Nat.zero_add, g3] at hq
 have hpost := scrT_post mostL_fit (en := (s ++ 10 :: t).length) (l0 := shL (s.length + 1) ts) ts.length a.length (shL (s.length + 1) ts) m (by omega) (fun z hz => hz) hsh e4
 rw [hshl] at happ
 rcases hq with ⟨p, hq⟩ | ⟨a1, q1, m1, a2, q2, i1, i2, i3, i4⟩ | ⟨e, p, p', i1, i2⟩
 · rw [hq] at happ
   exact ⟨[], 2, (p : Int), by rw [hV, happ]; rfl, .inl rfl⟩
 · injection i2 with i2 _ _
   subst i2
   rw [i1] at happ hpost
   refine ⟨a ++ a1, 0, 0, by rw [hV, happ]; rfl, .inr ⟨rfl, ?_, ?_⟩⟩
   · have hl := i3.len
     obtain ⟨_, _, _, _, p5⟩ := hpost
     rcases p5 with rfl | p5
     · rcases e5 with rfl | e5
       · simp at hl; rw [← hl]; simp
       · simp at hl; rw [← hl]; omega
     · omega
   · rw [List.map_append, List.map_append]
     congr 1
     exact bareL_q i3
 · cases i2
end Go.Proofs.YtheaepceghnkpaaDoor

/- Own rows of nodes; what keep.OwnTree, keep.Tree answer, as contracts over memory. Conditions: rows of nodes that can be read, at most 10^6 nodes. -/
namespace Go.Proofs.YtheaepceghnkpaaDoor
open Go.RowKit Limb
set_option linter.unusedVariables false
def OwnT (w : World) (B : Nat) (A : Option Addr) (n c : Nat) (ts : List Nd) : Prop := n = ts.length ∧ OwnR w B 51 7 A n c (ndCells ts)
theorem OwnR.caps {w : World} {B sz n c : Nat} {e : TypeId} {A : Option Addr} {xs : List Value} (h : OwnR w B e sz A n c xs) : n ≤ c ∧ c ≤ maxLen := by
 rcases h.2 with ⟨hv, h0⟩ | ⟨g, cap, cur, hv, hB, hg, hnc, hcm, _⟩
 · injection hv with h1 h2 h3
   subst h2 h3
   exact ⟨Nat.le_refl _, Nat.zero_le _⟩
 · injection hv with h1 h2 h3
   subst h3
   exact ⟨hnc, hcm⟩
theorem OwnT.tree {w : World} {B n c : Nat} {A : Option Addr} {ts : List Nd} (h : OwnT w B A n c ts) : TreR w A n c ts := OwnR.tree h.2 h.1 h.2.caps.1 h.2.caps.2
theorem OwnT.below {w w' : World} {B n c : Nat} {A : Option Addr} {ts : List Nd} (h : OwnT w B A n c ts) (hb : Below w.heap.size w w') : OwnT w' B A n c ts := ⟨h.1, h.2.below hb⟩
theorem OwnT.blk {w : World} {B n c : Nat} {A : Option Addr} {ts : List Nd} (h : OwnT w B A n c ts) (h0 : 0 < n) : ∃ g, A = some ⟨g, 0, none⟩ ∧ B ≤ g ∧ g < w.heap.size := by
 obtain ⟨g, e, h1, h2, _⟩ := h.2.cells h0
 exact ⟨g, e, h1, h2⟩
theorem ndCells_set {ts : List Nd} {i r : Nat} {x y : Nd} {v : Value} (hx : ts[i]? = some x) (hr : r < 7) (hy : (ndV x).toList.set r v = (ndV y).toList) : (ndCells ts).set (i * 7 + r) v = ndCells (ts.set i y) := by
 induction ts generalizing i with
 | nil => simp at hx
 | cons z ts ih =>
  have e : ∀ z ts, ndCells (z :: ts) = (ndV z).toList ++ ndCells ts := fun _ _ => rfl
  cases i with
  | zero =>
   obtain rfl : z = x := by simpa using hx
   rw [List.set_cons_zero, e, e, Nat.zero_mul, Nat.zero_add, List.set_append_left _ _ (by show r < 7; exact hr), hy]
  | succ i =>
   rw [List.set_cons_succ, e, e, List.set_append_right _ _ (by show 7 ≤ _; omega), show (i + 1) * 7 + r - (ndV z).toList.length = i * 7 + r by show (i + 1) * 7 + r - 7 = _; omega, ih (by simpa using hx)]
theorem OwnR.set {w : World} {B sz n c g : Nat} {e : TypeId} {xs : List Value} (h : OwnR w B e sz (some ⟨g, 0, none⟩) n c xs) {j : Nat} (hj : j < xs.length) (v : Value) : OwnR (w.setCell ⟨g, j, none⟩ v) B e sz (some ⟨g, 0, none⟩) n c (xs.set j v) := by
 refine ⟨by rw [List.length_set]; exact h.1, ?_⟩
 rcases h.2 with ⟨hv, _⟩ | ⟨g2, cap, cur, hv, hB, hg, hnc, hcm, hcs, ht⟩
 · cases hv
 · injection hv with h1 h2 h3
   injection h1 with h1
   injection h1 with h1
   subst h1
   refine .inr ⟨g, cap, cur.setIfInBounds j v, by rw [h3], hB, ?_, hnc, hcm, by rw [Array.size_setIfInBounds]; exact hcs, ?_⟩
   · have : RowA (w.setCell ⟨g, j, none⟩ v) g e (cur.setIfInBounds j v) := RowA.set (show RowA w g e cur from hg) j v
     exact this
   · rw [Array.toList_setIfInBounds, ← ht]
     rw [← ht] at hj
     have h1 := h.1
     rw [List.take_set]
theorem OwnT.set {w : World} {B n c g : Nat} {ts : List Nd} (h : OwnT w B (some ⟨g, 0, none⟩) n c ts) {i r : Nat} {x y : Nd} {v : Value} (hx : ts[i]? = some x) (hr : r < 7) (hy : (ndV x).toList.set r v = (ndV y).toList) : OwnT (w.setCell ⟨g, i * 7 + r, none⟩ v) B (some ⟨g, 0, none⟩) n c (ts.set i y) := by
 refine ⟨by rw [List.length_set]; exact h.1, ?_⟩
 rw [← ndCells_set hx hr hy]
 have hi := (List.getElem?_eq_some_iff.1 hx).1
 exact h.2.set (by rw [len_ndCells]; omega) v
theorem OwnT.free {w : World} {B n c g : Nat} {ts : List Nd} (h : OwnT w B (some ⟨g, 0, none⟩) n c ts) (j : Nat) : w.frozen? ⟨g, j, none⟩ = false := by
 rcases h.2.2 with ⟨hv, _⟩ | ⟨g2, cap, cur, hv, hB, hg, _⟩
 · cases hv
 · injection hv with h1 h2 h3
   injection h1 with h1
   injection h1 with h1
   subst h1
   exact RowA.free (show RowA w g 51 cur from hg) j
theorem OwnT.inV {w : World} {B n c g : Nat} {ts : List Nd} (h : OwnT w B (some ⟨g, 0, none⟩) n c ts) {i : Nat} {x : Nd} (hx : ts[i]? = some x) : InV w g (i * 7) (ndV x) := by
 obtain ⟨g2, o, e, _, h3⟩ := h.tree.2.2.2 (by have := (List.getElem?_eq_some_iff.1 hx).1; have := h.1; omega)
 obtain ⟨g3, e3, _, _, _, _, h6⟩ := h.2.cells (by have := (List.getElem?_eq_some_iff.1 hx).1; have := h.1; omega)
 cases e3
 exact fun j v hj => h6 _ _ (ndCells_at hx j v hj)
theorem wpList_append_nd {w : World} {ops : Array Oper} {rest : List Oper} {o : Oper} {a : Act} {Q : Exit → Act → World → Prop} (hgd : o.guard = none) (s x : Operand)
 (ho : o.op = .call { callee := .builtin .append, args := #[s, x], argTypes := #[45, 45] })
 (base : Nat) (v : Value) (n : Nat) (xs : List Nd) (hs : a.eval s = v) (hown : Hid (w.ownsRow base 51 7 v n (ndCells xs)))
 (A : Option Addr) (m c : Nat) (ys : List Nd) (hx : a.eval x = .slice A m c) (hy : Hid (TreR w A m c ys)) (hb : Hid (n ≤ 1000000 ∧ m ≤ 1000000 ∧ base ≤ w.heap.size))
 (h : ∀ A2 c2 w', Hid (OwnR w' base 51 7 A2 (n + m) c2 (ndCells (xs ++ ys))) → Hid (w.grownBy w' v.ownBlock) → wpList Tryd.prog ops Q rest (a.put o.dst (.slice A2 (n + m) c2)) w') : wpList Tryd.prog ops Q (o :: rest) a w := by
 obtain ⟨i, z, h1, h2, h3, h4, h5, h6, h7⟩ := nds_elem
 obtain ⟨b1, b2, b3⟩ := hb.out
 obtain ⟨y1, y2, y3, y4⟩ := hy.out
 rcases Nat.eq_zero_or_pos m with h0 | h0
 · subst h0
   obtain rfl : ys = [] := List.eq_nil_of_length_eq_zero y1.symm
   rcases A with _ | ad
   · refine wpList_plain hgd fun KK hK => ?_
     have hrun := run_append_nothing (P := Tryd.prog) w base 45 o.type 51 i 7 h1 h2 v n (ndCells xs) hown.out c
     unfold Oper.wp execOp
     simp only [ho, resolve, invoke, builtin, Sem.run_bind, Sem.run_pure, Result.andThen_ok, List.map_toArray, List.map_cons, List.map_nil, hs, hx, hrun]
     obtain ⟨A2, c2, rfl, how⟩ := shape_row hown.out
     exact hK _ _ (h A2 c2 w (by rw [List.append_nil]; exact how) (World.grownBy.refl w _))
   · refine wpList_append_own w hgd s x 45 ho base 51 i z 7 i.bytes h1 h2 h3 h4 rfl h5 h6 v n (ndCells xs) hs hown.out ad 0 c [] hx rfl (fun j u hu => by simp at hu) (fun u hu => by cases hu) (by unfold maxLen; omega) ?_ b3 ?_
     · exact Nat.le_trans (Nat.mul_le_mul (show n + 0 ≤ 1000001 by omega) h7) (by decide)
     · intro v' w' ho' hg _
       obtain ⟨A2, c2, rfl, how⟩ := shape_row ho'
       exact h A2 c2 w' (show OwnR _ _ _ _ _ _ _ _ from by rw [List.append_nil]; simpa using how) hg
 · obtain ⟨gs, os, rfl, hgs, hin⟩ := y4 h0
   refine wpList_append_own w hgd s x 45 ho base 51 i z 7 i.bytes h1 h2 h3 h4 rfl h5 h6 v n (ndCells xs) hs hown.out ⟨gs, os, none⟩ m c (ndCells ys) hx (by rw [len_ndCells, y1]) ?_ (ndCells_one ys) (by unfold maxLen; omega) ?_ b3 ?_
   · intro j u hu
     obtain ⟨i2, r, x2, rfl, hx2, hr⟩ := ndCells_get hu
     rw [Addr.add_mid, ← Nat.add_assoc]
     exact hin i2 x2 hx2 r u hr
   · exact Nat.le_trans (Nat.mul_le_mul (show n + m ≤ 2000000 by omega) h7) (by decide)
   · intro v' w' ho' hg _
     rw [← ndCells_app] at ho'
     obtain ⟨A2, c2, rfl, how⟩ := shape_row ho'
     exact h A2 c2 w' how hg
theorem own_nd0 (w : World) : (w.alloc (.cells #[] 51)).ownsRow w.heap.size 51 7 (.slice (some ⟨w.heap.size, 0, none⟩) 0 0) 0 (ndCells []) := by
 have := World.ownsRow_lit (e := 51) (size := 7) w #[] 0 (Nat.le_refl _) (Nat.zero_le _) (by simp)
 simpa [ndCells] using this
theorem eqN_iff {x y : Nd} : eqN x y = true ↔ x = y := by
 constructor
 · intro h
   unfold eqN sameN at h
   simp only [Bool.and_eq_true, decide_eq_true_eq] at h
   obtain ⟨⟨⟨⟨⟨⟨h1, h2⟩, h3⟩, h4⟩, h5⟩, h6⟩, h7⟩ := h
   exact Nd.ext' h1 h2 h3 h4 h5 h6 h7
 · rintro rfl
   unfold eqN sameN
   simp
def eqT : List Nd → List Nd → Bool
 | [], [] => true
 | x :: a, y :: b => eqN x y && eqT a b
 | _, _ => false
theorem eqT_iff : ∀ {a b : List Nd}, eqT a b = true ↔ a = b
 | [], [] => ⟨fun _ => rfl, fun _ => rfl⟩
 | [], y :: b => ⟨(fun h => by cases h), (fun h => by cases h)⟩
 | x :: a, [] => ⟨(fun h => by cases h), (fun h => by cases h)⟩
 | x :: a, y :: b => by
  unfold eqT
  rw [Bool.and_eq_true, eqN_iff, eqT_iff, List.cons.injEq]
set_option maxHeartbeats 4000000 in
set_option maxRecDepth 100000 in
theorem kOwnT_c {w : World} {A : Option Addr} {n c : Nat} {ts : List Nd} (h : TreR w A n c ts) (hn6 : n ≤ 1000000) :
 Calls Tryd.prog 35 #[.slice A n c] w fun e w' => ∃ A2 c2, e = .returned (.slice A2 n c2) ∧ OwnT w' w.heap.size A2 n c2 ts ∧ Below w.heap.size w w' := by
 have hn := h.1
 have bn := below_new w (.cells #[] 51)
 have Hx := Lib.hid (h.below bn)
 have Hown := Lib.hid (own_nd0 w)
 have Hb : Hid (0 ≤ 1000000 ∧ n ≤ 1000000 ∧ w.heap.size ≤ (w.alloc (.cells #[] 51)).heap.size) := ⟨by omega, hn6, by simp⟩
 have HN := Lib.hid hn
 clear h bn hn
 go_enter Tryd.func35, Tryd.ntmps35
 go_wp2_with (at_builtin; refine wpList_append_nd rfl _ _ rfl w.heap.size _ 0 [] rfl Hown A n c ts rfl Hx Hb ?_)
 intro A2 c2 w' how hgrow
 have HB := Lib.hid (below_lit hgrow.out (Nat.le_refl _))
 have HO : Hid (OwnT w' w.heap.size A2 n c2 ts) := ⟨HN.out, by have h := how.out; simpa using h⟩
 clear how hgrow Hown Hb Hx
 try rw [Nat.zero_add]
 go_wp2
 go_ret
 exact ⟨_, _, by first | rfl | simp, HO.out, HB.out⟩
set_option maxHeartbeats 4000000 in
set_option maxRecDepth 100000 in
theorem kTree_c {w : World} {A B : Option Addr} {n c m0 d : Nat} {ts us : List Nd} (h1 : TreR w A n c ts) (h2 : TreR w B m0 d us) (v : Bool) (hv : eqT ts us = v) :
 Calls Tryd.prog 34 #[.slice A n c, .slice B m0 d] w fun e w' => e = .returned (.bool v) ∧ Below w.heap.size w w' := by
 obtain ⟨hn, hc, hcm, _⟩ := id h1
 obtain ⟨hn2, hc2, hcm2, _⟩ := id h2
 have H1 := Lib.hid h1
 have H2 := Lib.hid h2
 have HN1 := Lib.hid hn
 have HN2 := Lib.hid hn2
 have HV := Lib.hid hv
 clear h1 h2 hn hn2 hv
 have eq1 : maxLen = 9223372036854775807 := rfl
 by_cases hl : n = m0
 · subst hl
   go_enter Tryd.func34, Tryd.ntmps34
   go_wp2
   go_loopw [5] (fun i wr => ∃ k0 : Nat, i = .int .i64 (k0 : Int) ∧ k0 ≤ n ∧ Hid (∀ i x y, i < k0 → ts[i]? = some x → us[i]? = some y → x = y) ∧ Hid (Below w.heap.size w wr)) (fun i _ => n - (intOf i).toNat)
   case atStart => exact ⟨0, rfl, Nat.zero_le _, fun i x y h => absurd h (Nat.not_lt_zero i), Below.refl _ _⟩
   case round =>
    obtain ⟨k0, rfl, hk, HP, HB⟩ := hrel
    by_cases hlt : k0 < n
    · skip
      obtain ⟨x, hx⟩ : ∃ x, ts[k0]? = some x := ⟨_, List.getElem?_eq_getElem (by rw [← HN1.out]; exact hlt)⟩
      obtain ⟨y, hy⟩ : ∃ y, us[k0]? = some y := ⟨_, List.getElem?_eq_getElem (by rw [← HN2.out]; exact hlt)⟩
      have HX := Lib.hid hx
      have HY := Lib.hid hy
      obtain ⟨g, og, rfl, hg, hin⟩ := (H1.out.below HB.out).at hx
      obtain ⟨g2, og2, rfl, hg2, hin2⟩ := (H2.out.below HB.out).at hy
      obtain ⟨k1, a1, b1, m1, t1, u1, p1⟩ := x
      obtain ⟨k2, a2, b2, m2, t2, u2, p2⟩ := y
      have HI_1 : Hid (InV wr g (og + k0 * 7) (ndC k1 a1 b1 m1 t1 u1 p1)) := hin
      have HI_2 : Hid (InV wr g2 (og2 + k0 * 7) (ndC k2 a2 b2 m2 t2 u2 p2)) := hin2
      have HG1 := Lib.hid hg
      have HG2 := Lib.hid hg2
      have HM_1 := Lib.hid (manyNd k1 a1 b1 m1 t1 u1 p1)
      have HM_2 := Lib.hid (manyNd k2 a2 b2 m2 t2 u2 p2)
      clear hx hy hin hin2 hg hg2
      go_wp2
      generalize wr = wS at *
      have g1 : (k0 : Int) < (n : Int) := by omega
      cases hq : eqN ⟨k1, a1, b1, m1, t1, u1, p1⟩ ⟨k2, a2, b2, m2, t2, u2, p2⟩
      · skip
        have HQ := Lib.hid hq
        have HV0 : Hid (v = false) := by
         show _ = _
         rw [← HV.out]
         refine Bool.eq_false_iff.2 fun e0 => ?_
         have e := eqT_iff.1 e0
         have h1 := HX.out
         rw [e, HY.out] at h1
         have h2 := eqN_iff.2 (Option.some.inj h1)
         have h3 : eqN ⟨k1, a1, b1, m1, t1, u1, p1⟩ ⟨k2, a2, b2, m2, t2, u2, p2⟩ = true := eqN_iff.2 (Option.some.inj h1).symm
         rw [HQ.out] at h3; cases h3
        clear hq
        refine region_freed 9 0 6 [17, 18, 19, 20, 21, 22, 23, 24, 25] ?aF4 (fun wx => Below wS.heap.size wS wx) (fun k vv wx => match k with
         | 0 => vv = .slice (some ⟨g, og, none⟩) n c
         | 1 => vv = .int .i64 (k0 : Int)
         | 2 => vv = .pointer (some ⟨g, og + k0 * 7, none⟩)
         | 3 => vv = .agg (ndC k1 a1 b1 m1 t1 u1 p1)
         | 4 => vv = .slice (some ⟨g2, og2, none⟩) n d
         | 5 => vv = .int .i64 (k0 : Int)
         | 6 => vv = .pointer (some ⟨g2, og2 + k0 * 7, none⟩)
         | 7 => vv = .agg (ndC k2 a2 b2 m2 t2 u2 p2)
         | _ => vv = .bool true)
         (fun k => false) (by kernel_rfl) ?haF4 rfl (by kernel_rfl) (by kernel_rfl) (fun _ _ _ _ _ h => h) ?hSb4 ?hPb4 ?hS4 ?hop4 ?hfin4
        case haF4 =>
         intro vals
         simp only [fillAll, List.getElem?_cons_zero, List.getElem?_cons_succ, Act.put, List.setIfInBounds_toArray, List.set_cons_zero, List.set_cons_succ]
         exact rfl
        case hSb4 => exact fun wx w2 hb hS => below_two hS hb
        case hPb4 =>
         intro k v wa wb hb h
         match k, h with
         | 0, h => exact h
         | 1, h => exact h
         | 2, h => exact h
         | 3, h => exact h
         | 4, h => exact h
         | 5, h => exact h
         | 6, h => exact h
         | 7, h => exact h
         | _ + 8, h => exact h
        case hS4 => exact (Below.refl _ _).drew
        case hop4 =>
         refine .cons (k := 0) (.plain rfl ?_) (.cons (k := 1) (.plain rfl ?_) (.cons (k := 2) (.plain rfl ?_) (.cons (k := 3) (.plain rfl ?_) (.cons (k := 4) (.plain rfl ?_) (.cons (k := 5) (.plain rfl ?_) (.cons (k := 6) (.plain rfl ?_) (.cons (k := 7) (.plain rfl ?_) (.cons (k := 8) (.plain rfl ?_) (.nil)))))))))
         all_goals intro vals wr hS hd KC hK
         all_goals (show Oper.wp _ _ _ _ _ _; dsimp only)
         · go_simp
           refine hK _ _ rfl (Below.refl _ _) (by first | rfl | simp) (fun h => by cases h)
         · go_simp
           refine hK _ _ rfl (Below.refl _ _) (by first | rfl | simp) (fun h => by cases h)
         · have d0 : vals 0 = _ := hd 0 (by decide +kernel)
           have d1 : vals 1 = _ := hd 1 (by decide +kernel)
           rw [d0, d1]
           go_simp
           refine hK _ _ rfl (Below.refl _ _) (by first | rfl | simp) (fun h => by cases h)
         · have d2 : vals 2 = _ := hd 2 (by decide +kernel)
           rw [d2]
           refine wp_loadV 51 _ rfl _ _ rfl (ndC k1 a1 b1 m1 t1 u1 p1) (Lib.hid HI_1.out.below HG1.out hS) (Lib.hid HM_1.out) ?_
           refine hK _ _ rfl (Below.refl _ _) (by first | rfl | simp) (fun h => by cases h)
         · go_simp
           refine hK _ _ rfl (Below.refl _ _) (by first | rfl | simp) (fun h => by cases h)
         · go_simp
           refine hK _ _ rfl (Below.refl _ _) (by first | rfl | simp) (fun h => by cases h)
         · have d4 : vals 4 = _ := hd 4 (by decide +kernel)
           have d5 : vals 5 = _ := hd 5 (by decide +kernel)
           rw [d4, d5]
           go_simp
           refine hK _ _ rfl (Below.refl _ _) (by first | rfl | simp) (fun h => by cases h)
         · have d6 : vals 6 = _ := hd 6 (by decide +kernel)
           rw [d6]
           refine wp_loadV 51 _ rfl _ _ rfl (ndC k2 a2 b2 m2 t2 u2 p2) (Lib.hid HI_2.out.below HG2.out hS) (Lib.hid HM_2.out) ?_
           refine hK _ _ rfl (Below.refl _ _) (by first | rfl | simp) (fun h => by cases h)
         · have d3 : vals 3 = _ := hd 3 (by decide +kernel)
           have d7 : vals 7 = _ := hd 7 (by decide +kernel)
           rw [d3, d7]
           have heq : ∀ W, (Op.equalIn 10000 51 (.agg (ndC k1 a1 b1 m1 t1 u1 p1)) (.agg (ndC k2 a2 b2 m2 t2 u2 p2))).run Tryd.prog W = .ok false W := fun W => equal_nd (x := ⟨k1, a1, b1, m1, t1, u1, p1⟩) (y := ⟨k2, a2, b2, m2, t2, u2, p2⟩) HQ.out W
           go_simp
           refine hK _ _ rfl (Below.refl _ _) (by first | rfl | simp) (fun h => by cases h)
        case hfin4 =>
         intro vals wr hS hP hne
         have ez_8 : vals 8 = _ := hP 8 (by decide)
         try dsimp only
         rw [ez_8]
         refine wpAny_done (by kernel_rfl) ?_ _
         have HB2 := Lib.hid (below_two HB.out hS)
         clear hS hP hne
         go_wp2
         go_ret
         exact ⟨by rw [HV0.out]; rfl, HB2.out⟩
      · skip
        have HQ := Lib.hid hq
        have HP2 : Hid (∀ i x y, i < k0 + 1 → ts[i]? = some x → us[i]? = some y → x = y) := by
         intro i x y hi h1 h2
         rcases Nat.lt_or_ge i k0 with h | h
         · exact HP.out i x y h h1 h2
         · obtain rfl : i = k0 := by omega
           obtain rfl := Option.some.inj (HX.out.symm.trans h1)
           obtain rfl := Option.some.inj (HY.out.symm.trans h2)
           exact eqN_iff.1 HQ.out
        clear hq HP
        refine region_freed 9 0 6 [17, 18, 19, 20, 21, 22, 23, 24, 25] ?aF5 (fun wx => Below wS.heap.size wS wx) (fun k vv wx => match k with
         | 0 => vv = .slice (some ⟨g, og, none⟩) n c
         | 1 => vv = .int .i64 (k0 : Int)
         | 2 => vv = .pointer (some ⟨g, og + k0 * 7, none⟩)
         | 3 => vv = .agg (ndC k1 a1 b1 m1 t1 u1 p1)
         | 4 => vv = .slice (some ⟨g2, og2, none⟩) n d
         | 5 => vv = .int .i64 (k0 : Int)
         | 6 => vv = .pointer (some ⟨g2, og2 + k0 * 7, none⟩)
         | 7 => vv = .agg (ndC k2 a2 b2 m2 t2 u2 p2)
         | _ => vv = .bool false)
         (fun k => false) (by kernel_rfl) ?haF5 rfl (by kernel_rfl) (by kernel_rfl) (fun _ _ _ _ _ h => h) ?hSb5 ?hPb5 ?hS5 ?hop5 ?hfin5
        case haF5 =>
         intro vals
         simp only [fillAll, List.getElem?_cons_zero, List.getElem?_cons_succ, Act.put, List.setIfInBounds_toArray, List.set_cons_zero, List.set_cons_succ]
         exact rfl
        case hSb5 => exact fun wx w2 hb hS => below_two hS hb
        case hPb5 =>
         intro k v wa wb hb h
         match k, h with
         | 0, h => exact h
         | 1, h => exact h
         | 2, h => exact h
         | 3, h => exact h
         | 4, h => exact h
         | 5, h => exact h
         | 6, h => exact h
         | 7, h => exact h
         | _ + 8, h => exact h
        case hS5 => exact (Below.refl _ _).drew
        case hop5 =>
         refine .cons (k := 0) (.plain rfl ?_) (.cons (k := 1) (.plain rfl ?_) (.cons (k := 2) (.plain rfl ?_) (.cons (k := 3) (.plain rfl ?_) (.cons (k := 4) (.plain rfl ?_) (.cons (k := 5) (.plain rfl ?_) (.cons (k := 6) (.plain rfl ?_) (.cons (k := 7) (.plain rfl ?_) (.cons (k := 8) (.plain rfl ?_) (.nil)))))))))
         all_goals intro vals wr hS hd KC hK
         all_goals (show Oper.wp _ _ _ _ _ _; dsimp only)
         · go_simp
           refine hK _ _ rfl (Below.refl _ _) (by first | rfl | simp) (fun h => by cases h)
         · go_simp
           refine hK _ _ rfl (Below.refl _ _) (by first | rfl | simp) (fun h => by cases h)
         · have d0 : vals 0 = _ := hd 0 (by decide +kernel)
           have d1 : vals 1 = _ := hd 1 (by decide +kernel)
           rw [d0, d1]
           go_simp
           refine hK _ _ rfl (Below.refl _ _) (by first | rfl | simp) (fun h => by cases h)
         · have d2 : vals 2 = _ := hd 2 (by decide +kernel)
           rw [d2]
           refine wp_loadV 51 _ rfl _ _ rfl (ndC k1 a1 b1 m1 t1 u1 p1) (Lib.hid HI_1.out.below HG1.out hS) (Lib.hid HM_1.out) ?_
           refine hK _ _ rfl (Below.refl _ _) (by first | rfl | simp) (fun h => by cases h)
         · go_simp
           refine hK _ _ rfl (Below.refl _ _) (by first | rfl | simp) (fun h => by cases h)
         · go_simp
           refine hK _ _ rfl (Below.refl _ _) (by first | rfl | simp) (fun h => by cases h)
         · have d4 : vals 4 = _ := hd 4 (by decide +kernel)
           have d5 : vals 5 = _ := hd 5 (by decide +kernel)
           rw [d4, d5]
           go_simp
           refine hK _ _ rfl (Below.refl _ _) (by first | rfl | simp) (fun h => by cases h)
         · have d6 : vals 6 = _ := hd 6 (by decide +kernel)
           rw [d6]
           refine wp_loadV 51 _ rfl _ _ rfl (ndC k2 a2 b2 m2 t2 u2 p2) (Lib.hid HI_2.out.below HG2.out hS) (Lib.hid HM_2.out) ?_
           refine hK _ _ rfl (Below.refl _ _) (by first | rfl | simp) (fun h => by cases h)
         · have d3 : vals 3 = _ := hd 3 (by decide +kernel)
           have d7 : vals 7 = _ := hd 7 (by decide +kernel)
           rw [d3, d7]
           have heq : ∀ W, (Op.equalIn 10000 51 (.agg (ndC k1 a1 b1 m1 t1 u1 p1)) (.agg (ndC k2 a2 b2 m2 t2 u2 p2))).run Tryd.prog W = .ok true W := fun W => equal_nd (x := ⟨k1, a1, b1, m1, t1, u1, p1⟩) (y := ⟨k2, a2, b2, m2, t2, u2, p2⟩) HQ.out W
           go_simp
           refine hK _ _ rfl (Below.refl _ _) (by first | rfl | simp) (fun h => by cases h)
        case hfin5 =>
         intro vals wr hS hP hne
         have ez_8 : vals 8 = _ := hP 8 (by decide)
         try dsimp only
         rw [ez_8]
         refine wpAny_done (by kernel_rfl) ?_ _
         have HB2 := Lib.hid (below_two HB.out hS)
         clear hS hP hne
         go_wp2
         go_roundw
         case rel => exact ⟨k0 + 1, by go_num, hlt, HP2, HB2⟩
         case measure => simp [intOf]; omega
    · obtain rfl : n = k0 := by omega
      have HV1 : Hid (v = true) := by
       show _ = _
       rw [← HV.out]
       refine eqT_iff.2 (List.ext_getElem? fun i => ?_)
       by_cases hi : i < n
       · have h1 : ts[i]? = some (ts[i]'(by rw [← HN1.out]; exact hi)) := List.getElem?_eq_getElem _
         have h2 : us[i]? = some (us[i]'(by rw [← HN2.out]; exact hi)) := List.getElem?_eq_getElem _
         rw [h1, h2, HP.out i _ _ hi h1 h2]
       · rw [List.getElem?_eq_none (by rw [← HN1.out]; omega), List.getElem?_eq_none (by rw [← HN2.out]; omega)]
      go_wp2
      go_ret
      exact ⟨by rw [HV1.out]; rfl, HB.out⟩
 · have HV0 : Hid (v = false) := by
    show _ = _
    rw [← HV.out]
    exact Bool.eq_false_iff.2 fun e => hl (by rw [HN1.out, HN2.out, eqT_iff.1 e])
   have e0 : ((n : Int) != (m0 : Int)) = true := by rw [bne_iff_ne]; omega
   go_enter Tryd.func34, Tryd.ntmps34
   go_wp2
   go_ret
   exact ⟨by rw [HV0.out]; rfl, Below.refl _ _⟩
end Go.Proofs.YtheaepceghnkpaaDoor

/- Declarations in memory. No condition. -/
namespace Go.Proofs.YtheaepceghnkpaaDoor
open Go.RowKit Limb
set_option linter.unusedVariables false
abbrev dcC (k : Int) (nm ot nu va un : ByteArray) (A : Option Addr) (n c : Nat) (pl at' : Int) : Array Value := #[.int .i64 k, .string nm, .string ot, .string nu, .string va, .string un, .slice A n c, .int .i64 pl, .int .i64 at']
structure DS where
 d : Dc
 A : Option Addr
 n : Nat
 c : Nat
def dcV (x : DS) : Array Value := dcC x.d.k (strOf x.d.nm) (strOf x.d.ot) (strOf x.d.nu) (strOf x.d.va) (strOf x.d.un) x.A x.n x.c x.d.pl x.d.at'
abbrev zDc : Array Value := dcC 0 ⟨#[]⟩ ⟨#[]⟩ ⟨#[]⟩ ⟨#[]⟩ ⟨#[]⟩ none 0 0 0 0
theorem size_dcV (x : DS) : (dcV x).size = 9 := rfl
theorem dcV_one (x : DS) : ∀ v ∈ dcV x, v.oneCell' = true := by simp [dcV, Value.oneCell']
def dcCells (xs : List DS) : List Value := xs.flatMap fun x => (dcV x).toList
theorem dcCells_snoc (xs : List DS) (x : DS) : dcCells (xs ++ [x]) = dcCells xs ++ (dcV x).toList := by simp [dcCells]
theorem dcCells_app (a b : List DS) : dcCells (a ++ b) = dcCells a ++ dcCells b := by simp [dcCells]
theorem len_dcCells (xs : List DS) : (dcCells xs).length = xs.length * 9 := by
 induction xs with
 | nil => rfl
 | cons x xs ih => show ((dcV x).toList ++ dcCells xs).length = _; rw [List.length_append, ih]; simp [dcV]; omega
theorem dcCells_at : ∀ {xs : List DS} {i : Nat} {x : DS}, xs[i]? = some x → ∀ j v, (dcV x)[j]? = some v → (dcCells xs)[i * 9 + j]? = some v
 | [], i, x, h, _, _, _ => by simp at h
 | y :: xs, 0, x, h, j, v, hj => by
  obtain rfl : y = x := by simpa using h
  have hl : j < 9 := by
   rcases Nat.lt_or_ge j 9 with h1 | h1
   · exact h1
   · rw [Array.getElem?_eq_none (by rw [size_dcV]; exact h1)] at hj; cases hj
  show ((dcV y).toList ++ dcCells xs)[0 * 9 + j]? = some v
  rw [Nat.zero_mul, Nat.zero_add, List.getElem?_append_left (by simpa [dcV] using hl)]
  simpa using hj
 | y :: xs, i + 1, x, h, j, v, hj => by
  have := dcCells_at (xs := xs) (i := i) (x := x) (by simpa using h) j v hj
  show ((dcV y).toList ++ dcCells xs)[(i + 1) * 9 + j]? = some v
  rw [List.getElem?_append_right (by simp [dcV]; omega), show (i + 1) * 9 + j - (dcV y).toList.length = i * 9 + j by simp [dcV]; omega]
  exact this
theorem dcCells_one (xs : List DS) : ∀ v ∈ dcCells xs, v.oneCell' = true := by
 intro v hv
 unfold dcCells at hv
 obtain ⟨x, _, hx⟩ := List.mem_flatMap.1 hv
 exact dcV_one x v (by simpa using hx)
theorem dcs_elem : Elem Tryd.prog 25 49 9 := elem_of Tryd.underlying25 (v := .agg zDc) (b := 128) (by kernel_rfl) rfl (by decide) (by decide)
theorem sizeDc : (Tryd.prog.info? 49).map (·.size) = some 9 := by kernel_rfl
theorem manyDc (k : Int) (nm ot nu va un : ByteArray) (A : Option Addr) (n c : Nat) (pl at' : Int) : Many Tryd.prog 49 (dcC k nm ot nu va un A n c pl at').size := ⟨sizeDc, _, Tryd.underlying49, rfl⟩
def DsR (w : World) (xs : List DS) : Prop := ∀ x ∈ xs, TreR w x.A x.n x.c x.d.tr
theorem DsR.below {w w' : World} {xs : List DS} (h : DsR w xs) (hb : Below w.heap.size w w') : DsR w' xs := fun x hx => (h x hx).below hb
def DcR (w : World) (A : Option Addr) (n c : Nat) (ds : List Dc) : Prop := ∃ xs : List DS, xs.map DS.d = ds ∧ n = xs.length ∧ n ≤ c ∧ c ≤ maxLen ∧ DsR w xs ∧ (0 < n → ∃ g o, A = some ⟨g, o, none⟩ ∧ g < w.heap.size ∧ ∀ i x, xs[i]? = some x → InV w g (o + i * 9) (dcV x))
theorem DcR.below {w w' : World} {A : Option Addr} {n c : Nat} {ds : List Dc} (h : DcR w A n c ds) (hb : Below w.heap.size w w') : DcR w' A n c ds := by
 obtain ⟨xs, h1, h2, h3, h4, h5, h6⟩ := h
 refine ⟨xs, h1, h2, h3, h4, h5.below hb, fun h0 => ?_⟩
 obtain ⟨g, o, e, hg, hc⟩ := h6 h0
 exact ⟨g, o, e, Nat.lt_of_lt_of_le hg hb.size, fun i x hx => (hc i x hx).below hg hb⟩
theorem DcR.len {w : World} {A : Option Addr} {n c : Nat} {ds : List Dc} (h : DcR w A n c ds) : n = ds.length := by
 obtain ⟨xs, h1, h2, _⟩ := h
 rw [← h1, List.length_map]; exact h2
theorem DcR.at {w : World} {A : Option Addr} {n c : Nat} {ds : List Dc} (h : DcR w A n c ds) {i : Nat} {d : Dc} (hi : ds[i]? = some d) : ∃ g o B m k, A = some ⟨g, o, none⟩ ∧ g < w.heap.size ∧ InV w g (o + i * 9) (dcV ⟨d, B, m, k⟩) ∧ TreR w B m k d.tr := by
 obtain ⟨xs, h1, h2, h3, h4, h5, h6⟩ := h
 subst h1
 rw [List.getElem?_map] at hi
 obtain ⟨x, hx, rfl⟩ := Option.map_eq_some_iff.1 hi
 obtain ⟨g, o, e, hg, hc⟩ := h6 (by have := (List.getElem?_eq_some_iff.1 hx).1; omega)
 exact ⟨g, o, x.A, x.n, x.c, e, hg, hc i x hx, h5 x (List.mem_of_getElem? hx)⟩
theorem DcR.nil (w : World) {A : Option Addr} {c : Nat} (hc : c ≤ maxLen) : DcR w A 0 c [] := ⟨[], rfl, rfl, Nat.zero_le _, hc, fun x hx => (by cases hx), fun h => absurd h (by omega)⟩
theorem DcR.take {w : World} {A : Option Addr} {n c : Nat} {ds : List Dc} (h : DcR w A n c ds) {m : Nat} (hm : m ≤ n) : DcR w A m c (ds.take m) := by
 obtain ⟨xs, h1, h2, h3, h4, h5, h6⟩ := h
 refine ⟨xs.take m, by rw [List.map_take, h1], by rw [List.length_take]; omega, by omega, h4, fun x hx => h5 x (List.mem_of_mem_take hx), fun h0 => ?_⟩
 obtain ⟨g, o, e, hg, hc⟩ := h6 (by omega)
 refine ⟨g, o, e, hg, fun i x hx => hc i x ?_⟩
 rw [List.getElem?_take] at hx
 split at hx
 · exact hx
 · cases hx
def OwnD (w : World) (B : Nat) (A : Option Addr) (n c : Nat) (xs : List DS) : Prop := n = xs.length ∧ OwnR w B 49 9 A n c (dcCells xs)
theorem OwnD.below {w w' : World} {B n c : Nat} {A : Option Addr} {xs : List DS} (h : OwnD w B A n c xs) (hb : Below w.heap.size w w') : OwnD w' B A n c xs := ⟨h.1, h.2.below hb⟩
theorem OwnD.row {w : World} {B n c : Nat} {A : Option Addr} {xs : List DS} (h : OwnD w B A n c xs) (hd : DsR w xs) : DcR w A n c (xs.map DS.d) := by
 refine ⟨xs, rfl, h.1, h.2.caps.1, h.2.caps.2, hd, fun h0 => ?_⟩
 obtain ⟨g, e, _, h4, _, h5, h6⟩ := h.2.cells h0
 exact ⟨g, 0, e, h4, fun i x hx j v hj => by rw [Nat.zero_add]; exact h6 _ _ (dcCells_at hx j v hj)⟩
theorem OwnD.blk {w : World} {B n c : Nat} {A : Option Addr} {xs : List DS} (h : OwnD w B A n c xs) (h0 : 0 < n) : ∃ g, A = some ⟨g, 0, none⟩ ∧ B ≤ g ∧ g < w.heap.size := by
 obtain ⟨g, e, h1, h2, _⟩ := h.2.cells h0
 exact ⟨g, e, h1, h2⟩
theorem OwnD.inV {w : World} {B n c g : Nat} {xs : List DS} (h : OwnD w B (some ⟨g, 0, none⟩) n c xs) {i : Nat} {x : DS} (hx : xs[i]? = some x) : InV w g (i * 9) (dcV x) := by
 obtain ⟨g3, e3, _, _, _, _, h6⟩ := h.2.cells (by have := (List.getElem?_eq_some_iff.1 hx).1; have := h.1; omega)
 cases e3
 exact fun j v hj => h6 _ _ (dcCells_at hx j v hj)
theorem OwnD.free {w : World} {B n c g : Nat} {xs : List DS} (h : OwnD w B (some ⟨g, 0, none⟩) n c xs) (j : Nat) : w.frozen? ⟨g, j, none⟩ = false := by
 rcases h.2.2 with ⟨hv, _⟩ | ⟨g2, cap, cur, hv, hB, hg, _⟩
 · cases hv
 · injection hv with h1 h2 h3
   injection h1 with h1
   injection h1 with h1
   subst h1
   exact RowA.free (show RowA w g 49 cur from hg) j
theorem dcCells_set {xs : List DS} {i r : Nat} {x y : DS} {v : Value} (hx : xs[i]? = some x) (hr : r < 9) (hy : (dcV x).toList.set r v = (dcV y).toList) : (dcCells xs).set (i * 9 + r) v = dcCells (xs.set i y) := by
 induction xs generalizing i with
 | nil => simp at hx
 | cons z xs ih =>
  have e : ∀ z xs, dcCells (z :: xs) = (dcV z).toList ++ dcCells xs := fun _ _ => rfl
  cases i with
  | zero =>
   obtain rfl : z = x := by simpa using hx
   rw [List.set_cons_zero, e, e, Nat.zero_mul, Nat.zero_add, List.set_append_left _ _ (by show r < 9; exact hr), hy]
  | succ i =>
   rw [List.set_cons_succ, e, e, List.set_append_right _ _ (by show 9 ≤ _; omega), show (i + 1) * 9 + r - (dcV z).toList.length = i * 9 + r by show (i + 1) * 9 + r - 9 = _; omega, ih (by simpa using hx)]
theorem OwnD.set {w : World} {B n c g : Nat} {xs : List DS} (h : OwnD w B (some ⟨g, 0, none⟩) n c xs) {i r : Nat} {x y : DS} {v : Value} (hx : xs[i]? = some x) (hr : r < 9) (hy : (dcV x).toList.set r v = (dcV y).toList) : OwnD (w.setCell ⟨g, i * 9 + r, none⟩ v) B (some ⟨g, 0, none⟩) n c (xs.set i y) := by
 refine ⟨by rw [List.length_set]; exact h.1, ?_⟩
 rw [← dcCells_set hx hr hy]
 have hi := (List.getElem?_eq_some_iff.1 hx).1
 exact h.2.set (by rw [len_dcCells]; omega) v
theorem str_ne {s t : ByteArray} (h : s ≠ t) : (s.toList == t.toList) = false := by
 rw [beq_eq_false_iff_ne]
 intro e
 exact h (by rw [ByteArray.toList_eq, ByteArray.toList_eq] at e; exact ByteArray.ext (Array.toList_inj.1 e))
theorem DcR.at2 {w : World} {A : Option Addr} {n c : Nat} {ds : List Dc} (h : DcR w A n c ds) {i : Nat} {d : Dc} (hi : ds[i]? = some d) : ∃ g o B m k nm ot nu va un, A = some ⟨g, o, none⟩ ∧ g < w.heap.size ∧ InV w g (o + i * 9) (dcC d.k nm ot nu va un B m k d.pl d.at') ∧ TreR w B m k d.tr ∧ strOf d.nm = nm ∧ strOf d.ot = ot ∧ strOf d.nu = nu ∧ strOf d.va = va ∧ strOf d.un = un := by
 obtain ⟨g, o, B, m, k, h1, h2, h3, h4⟩ := h.at hi
 exact ⟨g, o, B, m, k, _, _, _, _, _, h1, h2, h3, h4, rfl, rfl, rfl, rfl, rfl⟩
def eqD (x y : Dc) : Bool := decide (x.k = y.k) && decide (strOf x.nm = strOf y.nm) && decide (strOf x.ot = strOf y.ot) && decide (strOf x.nu = strOf y.nu) && decide (strOf x.va = strOf y.va) && decide (strOf x.un = strOf y.un) && eqT x.tr y.tr && decide (x.pl = y.pl) && decide (x.at' = y.at')
def eqDs : List Dc → List Dc → Bool
 | [], [] => true
 | x :: a, y :: b => eqD x y && eqDs a b
 | _, _ => false
theorem eqD_refl (x : Dc) : eqD x x = true := by unfold eqD; simp [eqT_iff.2]
theorem eqDs_refl : ∀ l : List Dc, eqDs l l = true
 | [] => rfl
 | x :: l => by unfold eqDs; rw [eqD_refl, eqDs_refl l]; rfl
theorem eqDs_len : ∀ {a b : List Dc}, eqDs a b = true → a.length = b.length
 | [], [], _ => rfl
 | [], _ :: _, h => by cases h
 | _ :: _, [], h => by cases h
 | x :: a, y :: b, h => by
  unfold eqDs at h
  rw [Bool.and_eq_true] at h
  rw [List.length_cons, List.length_cons, eqDs_len h.2]
theorem eqDs_no {a b : List Dc} (h : a.length ≠ b.length) : eqDs a b = false := by
 rw [Bool.eq_false_iff]; exact fun e => h (eqDs_len e)
theorem eqDs_take {a b : List Dc} {i : Nat} {x y : Dc} (hx : a[i]? = some x) (hy : b[i]? = some y) (h : eqDs (a.take i) (b.take i) = true) (e : eqD x y = true) : eqDs (a.take (i + 1)) (b.take (i + 1)) = true := by
 induction a generalizing b i with
 | nil => simp at hx
 | cons u a ih =>
  cases b with
  | nil => simp at hy
  | cons v b =>
   cases i with
   | zero =>
    obtain rfl : u = x := by simpa using hx
    obtain rfl : v = y := by simpa using hy
    show (eqD u v && eqDs [] []) = true
    rw [e]; rfl
   | succ i =>
    have h2 : (eqD u v && eqDs (a.take i) (b.take i)) = true := h
    rw [Bool.and_eq_true] at h2
    show (eqD u v && eqDs (a.take (i + 1)) (b.take (i + 1))) = true
    rw [h2.1, ih (by simpa using hx) (by simpa using hy) h2.2]; rfl
theorem eqDs_bad {a b : List Dc} {i : Nat} {x y : Dc} (hx : a[i]? = some x) (hy : b[i]? = some y) (e : eqD x y = false) : eqDs a b = false := by
 induction a generalizing b i with
 | nil => simp at hx
 | cons u a ih =>
  cases b with
  | nil => simp at hy
  | cons v b =>
   cases i with
   | zero =>
    obtain rfl : u = x := by simpa using hx
    obtain rfl : v = y := by simpa using hy
    show (eqD u v && _) = false
    rw [e]; rfl
   | succ i =>
    show (eqD u v && eqDs a b) = false
    rw [ih (by simpa using hx) (by simpa using hy), Bool.and_false]
end Go.Proofs.YtheaepceghnkpaaDoor
