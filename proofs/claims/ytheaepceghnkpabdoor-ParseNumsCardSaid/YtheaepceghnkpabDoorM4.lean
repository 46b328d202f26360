/- Part 4 of the texts that the statements of this seat lean on: mathematics, and what functions answer, as contracts over memory; each part says its own conditions. -/
import Derived.Test.YtheaepceghnkpabDoorM3
/- Mathematics of the grammar: a row that is cut where something that was read goes on is told at its end. No condition. -/
namespace Go.Proofs.YtheaepceghnkpabDoor
open Go.RowKit Limb
set_option linter.unusedVariables false
def PaC {α : Type} (en' : Nat) (S : α → α → Prop) (y : List Tk) (r r' : PaR α) : Prop := ∀ a q m, r = .ok a q m → r' = .bad 12 en' ∨ (∃ a' m', r' = .ok a' [] m' ∧ m' ≤ m ∧ S a a') ∨ ∃ q1, q1 ≠ [] ∧ q = q1 ++ y ∧ r' = .ok a q1 m
def PaZ {α : Type} (en' : Nat) (S : α → α → Prop) (r r' : PaR α) : Prop := ∀ a q m, r = .ok a q m → r' = .bad 12 en' ∨ ∃ a' m', r' = .ok a' [] m' ∧ m' ≤ m ∧ S a a'
def Any {α : Type} (_ _ : α) : Prop := True
theorem PaC.next {α β : Type} {en' : Nat} {S : α → α → Prop} {T : β → β → Prop} {y : List Tk} {r r' : PaR α} {f f' : α → List Tk → Nat → PaR β} (h : PaC en' S y r r') (k1 : ∀ a q m, q ≠ [] → PaC en' T y (f a (q ++ y) m) (f' a q m)) (k2 : ∀ a a' q m m', S a a' → m' ≤ m → PaZ en' T (f a q m) (f' a' [] m')) : PaC en' T y (r.next f) (r'.next f') := by
 intro b q m e
 cases r with
 | bad e' p => cases e
 | ok a q0 m0 =>
  rcases h a q0 m0 rfl with rfl | ⟨a', m', rfl, h1, h2⟩ | ⟨q1, h1, rfl, rfl⟩
  · exact .inl rfl
  · rcases k2 a a' q0 m0 m' h2 h1 b q m e with h | h
    · exact .inl h
    · exact .inr (.inl h)
  · exact k1 a q1 m0 h1 b q m e
theorem PaZ.next {α β : Type} {en' : Nat} {S : α → α → Prop} {T : β → β → Prop} {r r' : PaR α} {f f' : α → List Tk → Nat → PaR β} (h : PaZ en' S r r') (k : ∀ a a' q m m', S a a' → m' ≤ m → PaZ en' T (f a q m) (f' a' [] m')) : PaZ en' T (r.next f) (r'.next f') := by
 intro b q m e
 cases r with
 | bad e' p => cases e
 | ok a q0 m0 =>
  rcases h a q0 m0 rfl with rfl | ⟨a', m', rfl, h1, h2⟩
  · exact .inl rfl
  · exact k a a' q0 m0 m' h2 h1 b q m e
theorem PaC.bad {α : Type} {en' : Nat} {S : α → α → Prop} {y : List Tk} {e p : Nat} {r' : PaR α} : PaC en' S y (.bad e p) r' := fun _ _ _ h => by cases h
theorem PaZ.bad {α : Type} {en' : Nat} {S : α → α → Prop} {e p : Nat} {r' : PaR α} : PaZ en' S (.bad e p) r' := fun _ _ _ h => by cases h
theorem PaC.no {α : Type} {en' : Nat} {S : α → α → Prop} {y : List Tk} {r : PaR α} : PaC en' S y r (.bad 12 en') := fun _ _ _ _ => .inl rfl
theorem PaZ.no {α : Type} {en' : Nat} {S : α → α → Prop} {r : PaR α} : PaZ en' S r (.bad 12 en') := fun _ _ _ _ => .inl rfl
theorem PaC.ok {α : Type} {en' : Nat} {S : α → α → Prop} (hS : ∀ a, S a a) {y : List Tk} (a : α) (x : List Tk) (n : Nat) : PaC en' S y (.ok a (x ++ y) n) (.ok a x n) := by
 intro b q m e
 injection e with e1 e2 e3
 subst e1 e2 e3
 by_cases hx : x = []
 · subst hx; exact .inr (.inl ⟨_, _, rfl, Nat.le_refl _, hS _⟩)
 · exact .inr (.inr ⟨x, hx, rfl, rfl⟩)
theorem PaZ.stay {α : Type} {en' : Nat} {S : α → α → Prop} {q0 : List Tk} {m0 m' : Nat} {r : PaR α} {a' : α} (hs : PaS q0 m0 r) (hm : m' ≤ m0) (h : ∀ a, S a a') : PaZ en' S r (.ok a' [] m') := fun a q m e => .inr ⟨a', m', rfl, Nat.le_trans hm (hs a q m e).2, h a⟩
variable {y : List Tk}
end Go.Proofs.YtheaepceghnkpabDoor

/- Mathematics of formulas: the tokens of a formula's plain text, and that they are read as the formula. No condition. -/
namespace Go.Proofs.YtheaepceghnkpabDoor
open Go.RowKit Limb
set_option linter.unusedVariables false
def sumK (k : Int) : Bool := decide (k = 3) || decide (k = 4)
def sgK (k : Int) : Nat := if k = 3 then 43 else if k = 4 then 45 else if k = 5 then 42 else 47
def leafF (f : Fm) : Bool := decide (f.kind = 1) || decide (f.kind = 2)
end Go.Proofs.YtheaepceghnkpabDoor

/- Mathematics of the grammar: declarations and scripts that are read may be; tokens as lexing tells them; scripts behind one another, scripts that are cut. No condition. -/
namespace Go.Proofs.YtheaepceghnkpabDoor
open Go.RowKit Limb
set_option linter.unusedVariables false
theorem lexS_unit {c : Nat} {r : List Nat} {s : List Nat} {n : Nat} (h : lexS c r = .tok 4 s n) : s.all inUn = true := by
 unfold lexS at h
 split at h
 · cases h
 · split at h
   · cases h
   · split at h
     · split at h <;> cases h
     · split at h
       · split at h <;> cases h
       · split at h
         · split at h
           · cases h
           · cases h; rw [take_whileL]; exact all_while r
         · split at h <;> cases h
theorem lexS_tok {c : Nat} {r s : List Nat} {k n a : Nat} (hb : Bytes (c :: r)) (h : lexS c r = .tok k s n) : TokK (k, s, a) := by
 refine ⟨lexS_kind h, ?_, fun e => ?_⟩
 · have h1 := (raw_at (a := a) h).2
   intro x hx
   have h2 : x ∈ (c :: r).take n := by
    rw [h1]; unfold rawT
    split
    · exact List.mem_cons_of_mem _ (List.mem_append_left _ hx)
    · exact hx
   exact hb x (List.mem_of_mem_take h2)
 · have e' : k = 4 := e
   subst e'; exact lexS_unit h
theorem bytes_drop {l : List Nat} (h : Bytes l) (n : Nat) : Bytes (l.drop n) := fun x hx => h x (List.mem_of_mem_drop hx)
theorem lexR_tok : ∀ (f a : Nat) (l : List Nat) (ts : List Tk), Bytes l → lexR f a l = .ok ts → ∀ t ∈ ts, TokK t ∧ a ≤ t.2.2 ∧ t.2.2 < a + l.length
 | 0, _, _, _, _, h => by cases h
 | f + 1, a, [], ts, _, h => by cases h; simp
 | f + 1, a, c :: r, ts, hb, h => by
  unfold lexR at h
  cases e : lexS c r with
  | bad => rw [e] at h; cases h
  | skip n =>
   rw [e] at h
   have hl := lexS_len.1 n e
   intro t ht
   obtain ⟨h1, h2, h3⟩ := lexR_tok f _ _ ts (bytes_drop hb n) h t ht
   rw [List.length_drop, List.length_cons] at h3
   exact ⟨h1, by omega, by rw [List.length_cons]; omega⟩
  | tok k s n =>
   rw [e] at h
   have hl := lexS_len.2 k s n e
   dsimp only at h
   cases e2 : lexR f (a + n) ((c :: r).drop n) with
   | bad p => rw [e2] at h; cases h
   | ok us =>
    rw [e2] at h
    cases h
    intro t ht
    rcases List.mem_cons.1 ht with rfl | ht
    · exact ⟨lexS_tok hb e, Nat.le_refl _, by rw [List.length_cons]; show a < _; omega⟩
    · obtain ⟨h1, h2, h3⟩ := lexR_tok f _ _ us (bytes_drop hb n) e2 t ht
      rw [List.length_drop, List.length_cons] at h3
      exact ⟨h1, by omega, by rw [List.length_cons]; omega⟩
theorem lexT_tok {l : List Nat} {ts : List Tk} (hb : Bytes l) (h : lexT l = .ok ts) : ToksK ts ∧ ∀ t ∈ ts, t.2.2 < l.length :=
 ⟨fun t ht => (lexR_tok _ _ _ _ hb h t ht).1, fun t ht => by have := (lexR_tok _ _ _ _ hb h t ht).2.2; omega⟩
def numH (b : List Nat) : Bool := if (b.takeWhile (· ≠ 47)).length < b.length then litGood (b.takeWhile (· ≠ 47)) && litGood (b.drop ((b.takeWhile (· ≠ 47)).length + 1)) else litGood b
def numG (s : List Nat) : Bool :=
 match s with
 | [] => numH []
 | c :: r => if c = 45 then numH r else numH (c :: r)
def unitG (u : List Nat) : Bool := decide (u.length ≤ 200) && u.all inUn && u.all (fun c => decide (c < 256))
def goodD (d : Dc) : Bool :=
 isNam d.nm && unitG d.un &&
 (if d.k = 1 then numG d.nu && decide (d.un ≠ []) && decide (d.ot = []) && decide (d.va = []) && decide (d.tr.length = 0) && decide (d.pl = 0)
  else if d.k = 2 then numG d.nu && numG d.va && decide (d.ot = []) && decide (d.tr.length = 0) && decide (d.pl = 0)
  else if d.k = 3 then numG d.nu && isNam d.ot && decide (d.va = []) && decide (d.un = []) && decide (d.tr.length = 0) && decide (d.pl = 0)
  else if d.k = 4 then goodT d.tr && decide (d.ot = []) && decide (d.nu = []) && decide (d.va = []) && decide (d.un = []) && decide (d.pl = 0)
  else if d.k = 5 then goodT d.tr && decide (0 ≤ d.pl) && decide (d.pl ≤ 60) && decide (d.ot = []) && decide (d.nu = []) && decide (d.va = [])
  else false)
def PostN (L : Lim) (en : Nat) (l : List Tk) (n : Nat) : PaR (List Nat) → Prop
 | .ok s q m => (∃ x, l = x ++ q) ∧ m = n ∧ numG s = true
 | .bad e p => FaultK en l e p
theorem PostN.cons {L : Lim} {en n : Nat} {t : Tk} {l : List Tk} {r : PaR (List Nat)} (h : PostN L en l n r) : PostN L en (t :: l) n r := by
 cases r with
 | bad e p => exact FaultK.up h fun z hz => List.mem_cons_of_mem _ hz
 | ok s q m => obtain ⟨⟨x, rfl⟩, h2, h3⟩ := h; exact ⟨⟨t :: x, rfl⟩, h2, h3⟩
structure DcK (L : Lim) (l : List Tk) (d : Dc) : Prop where
 good : goodD d = true
 at' : ∃ z ∈ l, d.at' = (z.2.2 : Int)
 nds : ∀ y ∈ d.tr, ∃ z ∈ l, y.p = (z.2.2 : Int)
 pow : ∀ y ∈ d.tr, y.k = 8 → -(L.power : Int) ≤ y.n ∧ y.n ≤ (L.power : Int)
theorem DcK.mono {L : Lim} {l q : List Tk} {d : Dc} (h : DcK L q d) (hs : ∀ z ∈ q, z ∈ l) : DcK L l d := by
 obtain ⟨h1, ⟨z, hz, e⟩, h3, h4⟩ := h
 exact ⟨h1, ⟨z, hs z hz, e⟩, fun y hy => by obtain ⟨z, hz, e⟩ := h3 y hy; exact ⟨z, hs z hz, e⟩, h4⟩
def PostD (L : Lim) (en : Nat) (l0 l : List Tk) (n0 n : Nat) : PaR Dc → Prop
 | .ok d q m => (∃ x, l = x ++ q) ∧ DcK L l0 d ∧ m = n0 + d.tr.length ∧ (m ≤ L.nodes ∨ m = n0)
 | .bad e p => FaultK en l0 e p
theorem PostD.of {L : Lim} {en n0 n m : Nat} {l0 l q : List Tk} {r : PaR Dc} (h : PostD L en l0 q n0 m r) (hx : ∃ x, l = x ++ q) : PostD L en l0 l n0 n r := by
 cases r with
 | bad e p => exact h
 | ok d q' m' =>
  obtain ⟨⟨x, rfl⟩, h2⟩ := h
  obtain ⟨z, rfl⟩ := hx
  exact ⟨⟨z ++ x, by rw [List.append_assoc]⟩, h2⟩
theorem TokK.unitG {t : Tk} (h : TokK t) (hk : t.1 = 4) : unitG t.2.1 = true ∧ t.2.1 ≠ [] := by
 have h1 := h.unit hk
 unfold Proofs.YtheaepceghnkpabDoor.unitG
 have h3 : t.2.1.all (fun c => decide (c < 256)) = true := List.all_eq_true.2 fun c hc => decide_eq_true (h.2.1 c hc)
 rw [h.2.2 hk, decide_eq_true h1.2, h3]
 exact ⟨rfl, fun e => by rw [e] at h1; simp at h1⟩
end Go.Proofs.YtheaepceghnkpabDoor

/- Mathematics of the grammar: two scripts behind one another; a script that is cut ahead of a token; what ParseMay, ParseCuts and ParseRows ask. No condition. -/
namespace Go.Proofs.YtheaepceghnkpabDoor
open Go.RowKit Limb
set_option linter.unusedVariables false
theorem declT_r {L : Lim} {en i : Nat} {w : Tk} {r : List Tk} {n : Nat} {d : Dc} {q : List Tk} {m : Nat} (h : declT L en i (w :: r) n = .ok d q m) : ∃ x, r = x ++ q := by
 unfold declT at h
 dsimp only at h
 cases hw : wordK w with
 | none => rw [hw] at h; cases h
 | some k =>
  rw [hw] at h
  dsimp only at h
  by_cases h60 : 60 ≤ i
  · rw [if_pos h60] at h; cases h
  · rw [if_neg h60] at h
    exact (((headT_s en k r n).next fun d q m => bodyT_s L en k d q m) d q m h).1
theorem scrT_nil (L : Lim) (en g i n : Nat) : scrT L en g i [] n = .ok [] [] n := by cases g <;> rfl
theorem scrT_step (L : Lim) (en g i : Nat) (x : Tk) (r : List Tk) (n : Nat) : scrT L en (g + 1) i (x :: r) n = (declT L en i (x :: r) n).next fun d r n => (scrT L en g (i + 1) r n).next fun ds r n => .ok (d :: ds) r n := rfl
theorem scrT_len (L : Lim) (en : Nat) : ∀ (g i : Nat) (l : List Tk) (n : Nat), l.length ≤ g → scrT L en g i l n = scrT L en l.length i l n := by
 intro g
 induction g using Nat.strongRecOn with
 | ind g ih =>
  intro i l n hg
  cases l with
  | nil => rw [scrT_nil, scrT_nil]
  | cons x r =>
   cases g with
   | zero => simp at hg
   | succ g =>
    rw [List.length_cons] at hg ⊢
    rw [scrT_step, scrT_step]
    cases hd : declT L en i (x :: r) n with
    | bad e p => rfl
    | ok d q m =>
     rw [PaR.next_ok, PaR.next_ok]
     obtain ⟨z, rfl⟩ := declT_r hd
     rw [List.length_append] at hg ⊢
     rw [ih g (by omega) _ q _ (by omega), ih (z.length + q.length) (by omega) _ q _ (by omega)]
end Go.Proofs.YtheaepceghnkpabDoor

/- Mathematics of tokens: reading a text piece by piece. No condition. -/
namespace Go.Proofs.YtheaepceghnkpabDoor
open Go.RowKit Limb
set_option linter.unusedVariables false
def lexG (a : Nat) (l : List Nat) : LR := lexR (l.length + 1) a l
theorem lexT_G (l : List Nat) : lexT l = lexG 0 l := rfl
theorem lexG_nil (a : Nat) : lexG a [] = .ok [] := rfl
theorem lexG_skip {c : Nat} {r : List Nat} {n : Nat} (h : lexS c r = .skip n) (a : Nat) : lexG a (c :: r) = lexG (a + n) ((c :: r).drop n) := by
 have hl := lexS_len.1 n h
 unfold lexG
 conv => lhs; unfold lexR
 rw [h]
 exact lexR_fuel _ _ _ _ (by rw [List.length_drop, List.length_cons]; omega) (by omega)
theorem lexG_tok {c : Nat} {r s : List Nat} {k n : Nat} (h : lexS c r = .tok k s n) (a : Nat) : lexG a (c :: r) = consL (k, s, a) (lexG (a + n) ((c :: r).drop n)) := by
 have hl := lexS_len.2 k s n h
 unfold lexG
 conv => lhs; unfold lexR
 rw [h]
 show consL (k, s, a) (lexR (c :: r).length (a + n) ((c :: r).drop n)) = _
 rw [lexR_fuel (c :: r).length (((c :: r).drop n).length + 1) _ _ (by rw [List.length_drop, List.length_cons]; omega) (by omega)]
theorem lexG_bl {c : Nat} (h : isBl c = true) (a : Nat) (l : List Nat) : lexG a (c :: l) = lexG (a + 1) l := by
 have hs : lexS c l = .skip 1 := by unfold lexS; rw [if_pos h]
 exact lexG_skip hs a
theorem isSg_not {c : Nat} (h : isSg c = true) : isBl c = false ∧ c ≠ 35 ∧ isLt c = false ∧ isDig c = false ∧ c ≠ 91 := by
 unfold isSg at h
 simp only [List.contains_cons, List.contains_nil, Bool.or_false, Bool.or_eq_true, beq_iff_eq] at h
 rcases h with rfl | rfl | rfl | rfl | rfl | rfl | rfl | rfl | rfl | rfl <;> decide
theorem lexG_sg {c : Nat} (h : isSg c = true) (a : Nat) (l : List Nat) : lexG a (c :: l) = consL (3, [c], a) (lexG (a + 1) l) := by
 obtain ⟨h1, h2, h3, h4, h5⟩ := isSg_not h
 have hs : lexS c l = .tok 3 [c] 1 := by
  unfold lexS
  rw [if_neg (by rw [h1]; decide), if_neg h2, if_neg (by rw [h3]; decide), if_neg (by rw [h4]; decide), if_neg h5, if_pos h]
 exact lexG_tok hs a
def StopW (l : List Nat) : Prop := l = [] ∨ ∃ d q, l = d :: q ∧ isLw d = false
def StopD (l : List Nat) : Prop := l = [] ∨ ∃ d q, l = d :: q ∧ isDig d = false ∧ d ≠ 46 ∧ isLt d = false
theorem while_end {p : Nat → Bool} {u l : List Nat} (hu : u.all p = true) (hl : l = [] ∨ ∃ d q, l = d :: q ∧ p d = false) : (u ++ l).takeWhile p = u := by
 rcases hl with rfl | ⟨d, q, rfl, hd⟩
 · rw [List.append_nil]; exact take_all hu
 · exact while_at hd hu
theorem lexG_wd {w l : List Nat} (h : isWdB w = true) (hl : StopW l) (a : Nat) : lexG a (w ++ l) = consL (1, w, a) (lexG (a + w.length) l) := by
 cases w with
 | nil => cases h
 | cons c r =>
  unfold isWdB at h
  simp only [Bool.and_eq_true, decide_eq_true_eq] at h
  obtain ⟨⟨hc, hr⟩, h16⟩ := h
  obtain ⟨n1, n2⟩ := lt_not hc
  have hw := while_end hr hl
  have hs : lexS c (r ++ l) = .tok 1 (c :: r) (1 + r.length) := by
   unfold lexS
   rw [if_neg (by rw [n1]; decide), if_neg n2, if_pos hc, hw, if_neg (by omega), show 1 + r.length = r.length + 1 by omega, List.take_succ_cons, List.take_left]
  rw [List.cons_append, lexG_tok hs, show 1 + r.length = (c :: r).length by rw [List.length_cons]; omega, ← List.cons_append, List.drop_left]
theorem litGood_len {w : List Nat} (h : litGood w = true) : litLen w = w.length := (litGood_iff.1 h).2.2
theorem lexG_num {w l : List Nat} (h : litGood w = true) (hl : StopD l) (a : Nat) : lexG a (w ++ l) = consL (2, w, a) (lexG (a + w.length) l) := by
 obtain ⟨ww, f, x, ho, e⟩ := good_mk h
 have hww := ho.whole
 cases w with
 | nil => have := (litGood_iff.1 h).1; simp at this
 | cons c r =>
  have hc : isDig c = true := by
   cases ww with
   | nil => exact absurd rfl hww.2
   | cons c' w' =>
    unfold litMk at e
    simp only [List.cons_append] at e
    injection e with e1 _
    rw [e1]
    exact List.all_eq_true.1 hww.1 c' (by simp)
  have hlen := (litGood_iff.1 h).2.1
  have hll : litLen (c :: (r ++ l)) = (c :: r).length := by
   rcases hl with rfl | ⟨d, q, rfl, h1, h2, h3⟩
   · rw [List.append_nil]; exact litGood_len h
   · rw [← List.cons_append]
     refine litLen_more h q ⟨h1, h2, ?_⟩
     rintro rfl; exact absurd h3 (by decide)
  have hnot : isBl c = false ∧ c ≠ 35 ∧ isLt c = false := by
   have h48 : 48 ≤ c ∧ c ≤ 57 := by unfold isDig at hc; simpa using hc
   refine ⟨?_, by omega, ?_⟩
   · unfold isBl; simp; omega
   · unfold isLt; simp; omega
  have hs : lexS c (r ++ l) = .tok 2 (c :: r) (c :: r).length := by
   unfold lexS
   rw [if_neg (by rw [hnot.1]; decide), if_neg hnot.2.1, if_neg (by rw [hnot.2.2]; decide), if_pos hc, hll, ← List.cons_append, List.take_left, List.drop_left, if_neg]
   rintro (h1 | h1)
   · omega
   · rcases hl with rfl | ⟨d, q, rfl, k1, k2, k3⟩
     · cases h1
     · have h9 : (isLt d || decide (d = 46)) = true := h1
       rw [k3, decide_eq_false k2] at h9; cases h9
  rw [List.cons_append, lexG_tok hs, ← List.cons_append, List.drop_left]
theorem lexG_un {u l : List Nat} (hu : u.all inUn = true) (h1 : 1 ≤ u.length) (h2 : u.length ≤ 200) (a : Nat) : lexG a (91 :: (u ++ 93 :: l)) = consL (4, u, a) (lexG (a + (u.length + 2)) l) := by
 have hw : (u ++ 93 :: l).takeWhile inUn = u := while_at (by decide) hu
 have hs : lexS 91 (u ++ 93 :: l) = .tok 4 u (u.length + 2) := by
  unfold lexS
  rw [if_neg (by decide), if_neg (by decide), if_neg (by decide), if_neg (by decide), if_pos rfl, hw, List.take_left, List.drop_left, if_neg]
  rintro (h | h | h)
  · omega
  · omega
  · cases h
 rw [lexG_tok hs]
 congr 2
 rw [List.drop_succ_cons, show u.length + 1 = (u ++ [93]).length by simp, show u ++ 93 :: l = (u ++ [93]) ++ l by simp, List.drop_left]
end Go.Proofs.YtheaepceghnkpabDoor

/- Mathematics of the grammar: what ParseMay, ParseCuts and ParseRows ask of a script's reading. No condition. -/
namespace Go.Proofs.YtheaepceghnkpabDoor
open Go.RowKit Limb
set_option linter.unusedVariables false
theorem cutL_fit (t d n p : Int) : (cutL t d n p).Fit := by unfold cutL Lim.Fit; dsimp only; omega
def bareD (d : Dc) : Dc := { d with tr := d.tr.map bareN, at' := 0 }
theorem bareT_q {P : Nat → Nat → Prop} {t u : List Nd} (h : TrQ P t u) : t.map bareN = u.map bareN := by
 unfold TrQ at h
 induction h with
 | nil => rfl
 | cons h1 _ ih => rw [List.map_cons, List.map_cons, h1.1, ih]
theorem bareD_q {P : Nat → Nat → Prop} {x y : Dc} (h : DcQ P x y) : bareD x = bareD y := by
 obtain ⟨k, nm, ot, nu, va, un, tr, pl, at'⟩ := x
 obtain ⟨k', nm', ot', nu', va', un', tr', pl', at''⟩ := y
 obtain ⟨e1, e2, e3, e4, e5, e6, e7, e8, _⟩ := h
 unfold bareD
 dsimp only at *
 rw [e1, e2, e3, e4, e5, e6, bareT_q e7, e8]
theorem bareL_q {P : Nat → Nat → Prop} {l m : List Dc} (h : All2 (DcQ P) l m) : l.map bareD = m.map bareD := by
 induction h with
 | nil => rfl
 | cons h1 _ ih => rw [List.map_cons, List.map_cons, bareD_q h1, ih]
end Go.Proofs.YtheaepceghnkpabDoor

/- Mathematics of formulas: a formula's plain text, and its tokens. No condition. -/
namespace Go.Proofs.YtheaepceghnkpabDoor
open Go.RowKit Limb
set_option linter.unusedVariables false
def brkX (p : Bool) (l : List Nat) : List Nat := if p = true then 40 :: (l ++ [41]) else l
def unX (u : ByteArray) : List Nat := if u.size = 0 then [] else 32 :: 91 :: (bytesOf u ++ [93])
def sgX (k : Int) : List Nat := if sumK k = true then [32, sgK k, 32] else [sgK k]
def Fm.txt : Fm → List Nat
 | .lit s u => bytesOf s ++ unX u
 | .ref s => bytesOf s
 | .two k a b => brkX (!sumK k && sumK a.kind) a.txt ++ (sgX k ++ brkX (if sumK k = true then sumK b.kind else twoK b.kind) b.txt)
 | .neg a => 45 :: brkX (twoK a.kind) a.txt
 | .pow j a => brkX (!leafF a) a.txt ++ 94 :: zT j
abbrev TkA : Tk → Tk → Prop := TkR fun _ _ => True
def Rd (l : List Nat) (ts : List Tk) (S : List Nat → Prop) : Prop := ∀ a r, S r → ∃ us, lexG a (l ++ r) = appL us (lexG (a + l.length) r) ∧ All2 TkA us ts
theorem appL_app (us vs : List Tk) (r : LR) : appL us (appL vs r) = appL (us ++ vs) r := by
 cases r with
 | ok l => show LR.ok _ = LR.ok _; rw [List.append_assoc]
 | bad p => rfl
theorem appL_nilY (r : LR) : appL [] r = r := by cases r <;> rfl
theorem consL_app (t : Tk) (r : LR) : consL t r = appL [t] r := by cases r <;> rfl
theorem Rd.app {l m : List Nat} {ts us : List Tk} {S T : List Nat → Prop} (h : Rd l ts S) (k : Rd m us T) (hs : ∀ r, T r → S (m ++ r)) : Rd (l ++ m) (ts ++ us) T := by
 intro a r hr
 obtain ⟨x, h1, h2⟩ := h a (m ++ r) (hs r hr)
 obtain ⟨y, k1, k2⟩ := k (a + l.length) r hr
 refine ⟨x ++ y, ?_, All2.app h2 k2⟩
 rw [List.append_assoc, h1, k1, appL_app, List.length_append, Nat.add_assoc]
theorem Rd.mono {l : List Nat} {ts : List Tk} {S T : List Nat → Prop} (h : Rd l ts S) (hs : ∀ r, T r → S r) : Rd l ts T := fun a r hr => h a r (hs r hr)
theorem Rd.nil (S : List Nat → Prop) : Rd [] [] S := fun a r _ => ⟨[], by rw [List.nil_append, appL_nilY]; rfl, .nil⟩
theorem tka (k : Nat) (s : List Nat) (p q : Nat) : TkA (k, s, p) (k, s, q) := ⟨rfl, rfl, trivial⟩
theorem Rd.sg {c : Nat} (h : isSg c = true) (S : List Nat → Prop) : Rd [c] [(3, [c], 0)] S := fun a r _ => ⟨[(3, [c], a)], by rw [List.cons_append, List.nil_append, lexG_sg h, consL_app]; rfl, .one (tka _ _ _ _)⟩
theorem Rd.bl (S : List Nat → Prop) : Rd [32] [] S := fun a r _ => ⟨[], by rw [List.cons_append, List.nil_append, lexG_bl (by decide), appL_nilY]; rfl, .nil⟩
theorem Rd.wd {w : List Nat} (h : isWdB w = true) : Rd w [(1, w, 0)] StopD := fun a r hr => ⟨[(1, w, a)], by
 rw [lexG_wd h ?_ a, consL_app]
 rcases hr with rfl | ⟨d, q, rfl, h1, h2, h3⟩
 · exact .inl rfl
 · exact .inr ⟨d, q, rfl, by unfold isLw; rw [h1, h3]; rfl⟩, .one (tka _ _ _ _)⟩
theorem Rd.num {w : List Nat} (h : litGood w = true) : Rd w [(2, w, 0)] StopD := fun a r hr => ⟨[(2, w, a)], by rw [lexG_num h hr a, consL_app], .one (tka _ _ _ _)⟩
theorem Rd.un {u : List Nat} (hu : u.all inUn = true) (h1 : 1 ≤ u.length) (h2 : u.length ≤ 200) (S : List Nat → Prop) : Rd (91 :: (u ++ [93])) [(4, u, 0)] S := fun a r _ => ⟨[(4, u, a)], by
 rw [show (91 :: (u ++ [93]) ++ r : List Nat) = 91 :: (u ++ 93 :: r) by simp, lexG_un hu h1 h2 a, consL_app, show (91 :: (u ++ [93]) : List Nat).length = u.length + 2 by simp], .one (tka _ _ _ _)⟩
theorem stop_sg {c : Nat} (h : isDig c = false ∧ c ≠ 46 ∧ isLt c = false) (r : List Nat) : StopD (c :: r) := .inr ⟨c, r, rfl, h⟩
theorem Rd.whole {l : List Nat} {ts : List Tk} (h : Rd l ts StopD) : ∃ us, lexT l = .ok us ∧ All2 TkA us ts := by
 obtain ⟨us, h1, h2⟩ := h 0 [] (.inl rfl)
 rw [List.append_nil, lexG_nil] at h1
 refine ⟨us, ?_, h2⟩
 rw [lexT_G, h1]
 show LR.ok (us ++ []) = _
 rw [List.append_nil]
theorem tka_symm {us ts : List Tk} (h : All2 TkA us ts) : All2 TkA ts us := by
 induction h with
 | nil => exact .nil
 | cons h1 _ ih => exact .cons ⟨h1.1.symm, h1.2.1.symm, trivial⟩ ih
theorem le_refl (L : Lim) : L.le L := ⟨Nat.le_refl _, Nat.le_refl _, Nat.le_refl _⟩
end Go.Proofs.YtheaepceghnkpabDoor

/- Mathematics of the grammar: what ParseSums, ParseLimits and ParseNums ask. No condition. -/
namespace Go.Proofs.YtheaepceghnkpabDoor
open Go.RowKit Limb
set_option linter.unusedVariables false
def Fm.bx (f : Fm) : List Nat := brkX true f.txt
theorem litGood_dec {n : Nat} (h : n < 4294967296) : litGood (decT n) = true := by
 have h1 := litGood_mk (w := decT n) (f := none) (x := none) ⟨⟨decT_dig n, decT_ne n⟩, fun p h => (by cases h), fun s d h => (by cases h)⟩ (by
  unfold litMk litF litX
  rw [List.append_nil, List.append_nil]
  by_cases h0 : n = 0
  · subst h0; decide
  · have h2 := decT_len_pow h0
    rcases Nat.lt_or_ge (decT n).length 12 with h3 | h3
    · omega
    · have := Nat.pow_le_pow_right (n := 10) (by decide) (show 11 ≤ (decT n).length - 1 by omega)
      omega)
 unfold litMk litF litX at h1
 rwa [List.append_nil, List.append_nil] at h1
theorem scrT_like {L : Lim} {en en' : Nat} {us ts : List Tk} (hu : All2 TkA us ts) {ds : List Dc} {m : Nat} (h : scrT L en ts.length 0 ts 0 = .ok ds [] m) : ∃ es, scrT L en' us.length 0 us 0 = .ok es [] m ∧ es.map bareD = ds.map bareD := by
 have hq := scrT_q (P := fun _ _ => True) (le_refl L) en en' 0 ts.length (Nat.le_refl 0) (tka_symm hu) 0
 rw [Nat.add_zero, h, ← hu.len] at hq
 rcases hq with ⟨p, hq⟩ | ⟨a, q, m1, a', q', e1, e2, e3, e4⟩ | ⟨e, p, p', e1, e2⟩
 · cases hq
 · injection e1 with e5 e6 e7
   subst e5 e6
   cases e4
   rw [e2]
   exact ⟨a', by rw [e7]; rfl, (bareL_q e3).symm⟩
 · cases e1
def numsE (s : List Nat) : List Nat := [120] ++ (32 :: ([120] ++ (32 :: 61 :: 32 :: (s ++ [59]))))
def numsM (s t : List Nat) : List Nat := t ++ (32 :: 59 :: 32 :: ([99, 111, 118] ++ (32 :: numsE s)))
def numsX (s t u : List Nat) : List Nat := [115, 111, 117, 114, 99, 101] ++ (32 :: ([120] ++ (32 :: 61 :: 32 :: 45 :: 32 :: (s ++ (32 :: 47 :: 32 :: (t ++ (32 :: ((91 :: (u ++ [93])) ++ (32 :: 58 :: 32 :: numsM s t))))))))) 
def numsKE (s : List Nat) : List Tk := [(1, [120], 0), (1, [120], 0), (3, [61], 0), (2, s, 0), (3, [59], 0)]
def numsKM (s t : List Nat) : List Tk := (2, t, 0) :: (3, [59], 0) :: (1, [99, 111, 118], 0) :: numsKE s
def numsK (s t u : List Nat) : List Tk := (1, [115, 111, 117, 114, 99, 101], 0) :: (1, [120], 0) :: (3, [61], 0) :: (3, [45], 0) :: (2, s, 0) :: (3, [47], 0) :: (2, t, 0) :: (4, u, 0) :: (3, [58], 0) :: numsKM s t
theorem rd_bl {l : List Nat} {ts : List Tk} {S : List Nat → Prop} (h : Rd l ts S) : Rd (32 :: l) ts S := (Rd.bl (fun _ => True)).app h (fun _ _ => trivial)
theorem rd_sg (c : Nat) (hc : isSg c = true) {l : List Nat} {ts : List Tk} {S : List Nat → Prop} (h : Rd l ts S) : Rd (c :: l) ((3, [c], 0) :: ts) S := (Rd.sg hc (fun _ => True)).app h (fun _ _ => trivial)
theorem s32 (l r : List Nat) : StopD ((32 :: l) ++ r) := stop_sg (c := 32) (by decide) _
theorem rd_wd (w : List Nat) (hw : isWdB w = true) {l : List Nat} {ts : List Tk} (h : Rd (32 :: l) ts StopD) : Rd (w ++ 32 :: l) ((1, w, 0) :: ts) StopD := (Rd.wd hw).app h (fun r _ => s32 _ r)
theorem rd_nm (w : List Nat) (hw : litGood w = true) {l : List Nat} {ts : List Tk} (h : Rd (32 :: l) ts StopD) : Rd (w ++ 32 :: l) ((2, w, 0) :: ts) StopD := (Rd.num hw).app h (fun r _ => s32 _ r)
theorem nums_rdE {s : List Nat} (hs : litGood s = true) : Rd (numsE s) (numsKE s) StopD :=
 rd_wd _ (by decide) (rd_bl (rd_wd _ (by decide) (rd_bl (rd_sg 61 (by decide) (rd_bl ((Rd.num hs).app (Rd.sg (c := 59) (by decide) StopD) (fun r _ => stop_sg (c := 59) (by decide) _)))))))
theorem nums_rdM {s t : List Nat} (hs : litGood s = true) (ht : litGood t = true) : Rd (numsM s t) (numsKM s t) StopD :=
 rd_nm t ht (rd_bl (rd_sg 59 (by decide) (rd_bl (rd_wd _ (by decide) (rd_bl (nums_rdE hs))))))
theorem nums_rd {s t u : List Nat} (hs : litGood s = true) (ht : litGood t = true) (hu : u.all inUn = true) (h1 : 1 ≤ u.length) (h2 : u.length ≤ 200) : Rd (numsX s t u) (numsK s t u) StopD := by
 have a1 : Rd ((91 :: (u ++ [93])) ++ (32 :: 58 :: 32 :: numsM s t)) ((4, u, 0) :: (3, [58], 0) :: numsKM s t) StopD := (Rd.un hu h1 h2 (fun _ => True)).app (rd_bl (rd_sg 58 (by decide) (rd_bl (nums_rdM hs ht)))) (fun _ _ => trivial)
 exact rd_wd _ (by decide) (rd_bl (rd_wd _ (by decide) (rd_bl (rd_sg 61 (by decide) (rd_bl (rd_sg 45 (by decide) (rd_bl (rd_nm s hs (rd_bl (rd_sg 47 (by decide) (rd_bl (rd_nm t ht (rd_bl a1)))))))))))))
theorem nums_scr (s t u : List Nat) (en : Nat) : scrT mostL en 17 0 (numsK s t u) 0 = .ok [⟨2, [120], [], [45] ++ s ++ [47] ++ t, [] ++ t, u, [], 0, (0 : Nat)⟩, ⟨3, [120], [120], [] ++ s, [], [], [], 0, (0 : Nat)⟩] [] 0 := by
 rfl
theorem nums_all {s t u : List Nat} (hs : litGood s = true) (ht : litGood t = true) (hu : u.all inUn = true) (h1 : 1 ≤ u.length) (h2 : u.length ≤ 200) (hl : (numsX s t u).length ≤ 4000) : ∃ d e, scrV mostL (numsX s t u) = ([d, e], 0, 0) ∧ d.k = 2 ∧ d.nu = 45 :: (s ++ 47 :: t) ∧ d.un = u ∧ d.va = t ∧ e.k = 3 ∧ e.nm = [120] ∧ e.ot = [120] ∧ e.nu = s := by
 obtain ⟨us, k1, k2⟩ := (nums_rd hs ht hu h1 h2).whole
 obtain ⟨es, k3, k4⟩ := scrT_like (en' := (numsX s t u).length) k2 (nums_scr s t u 0)
 have hV : scrV mostL (numsX s t u) = (es, 0, 0) := by
  unfold scrV
  rw [if_neg (by show ¬ 4000 < _; omega), k1]
  dsimp only
  rw [k3]
 cases es with
 | nil => simp at k4
 | cons d es =>
  cases es with
  | nil => simp at k4
  | cons e es =>
   cases es with
   | cons _ _ => simp at k4
   | nil =>
    simp only [List.map_cons, List.map_nil, List.cons.injEq, and_true] at k4
    obtain ⟨e1, e2⟩ := k4
    unfold bareD at e1 e2
    simp only [Dc.mk.injEq] at e1 e2
    refine ⟨d, e, hV, e1.1, ?_, e1.2.2.2.2.2.1, e1.2.2.2.2.1, e2.1, e2.2.1, e2.2.2.1, e2.2.2.2.1⟩
    rw [e1.2.2.2.1]; simp
end Go.Proofs.YtheaepceghnkpabDoor

/- What the reader of package parse does with its state, as functions: tokens left, fault, nodes, how many were made, how deep. No condition. -/
namespace Go.Proofs.YtheaepceghnkpabDoor
open Go.RowKit Limb
set_option linter.unusedVariables false
structure St where
 l : List Tk
 E : Int
 P : Int
 ts : List Nd
 mad : Nat
 op : Nat
def pkL (l : List Tk) : Tk := l.headD (0, [], 0)
abbrev pkS (st : St) : Tk := pkL st.l
def failS (e p : Int) (st : St) : St := if st.E = 0 then { st with l := [], E := e, P := p } else st
def refS (en : Nat) (st : St) : St := failS 12 (hereT en st.l) st
def rdS (st : St) : St := { st with l := st.l.tail }
def needS (en : Nat) (b : Bool) (st : St) : St := if b = true then st else refS en st
def sgnS (en : Nat) (tx : List Nat) (st : St) : St := rdS (needS en (nextT 3 tx st.l) st)
def takP (en kd : Nat) (st : St) : St := needS en (decide ((pkS st).1 = kd)) st
def takS (en kd : Nat) (st : St) : St := rdS (takP en kd st)
def takX (en kd : Nat) (st : St) : List Nat := (pkS (takP en kd st)).2.1
def namP (en : Nat) (st : St) : St := needS en (isNam (pkS st).2.1) st
def namS (en : Nat) (st : St) : St := takS en 1 (namP en st)
def namX (en : Nat) (st : St) : List Nat := takX en 1 (namP en st)
def untS (en : Nat) (st : St) : St := if (pkS st).1 = 4 then takS en 4 st else st
def untX (en : Nat) (st : St) : List Nat := if (pkS st).1 = 4 then takX en 4 st else []
def smlV (k : Nat) (st : St) : Option Nat := if (pkS st).1 = 2 then smallT (pkS st).2.1 k else none
def smlP (en k most : Nat) (st : St) : St := match smlV k st with
 | none => refS en st
 | some v => if most < v then failS 2 (pkS st).2.2 st else st
def smlS (en k most : Nat) (st : St) : St := rdS (smlP en k most st)
def lastS (st : St) : Int := (st.ts.length : Int) - 1
def nodP (L : Lim) (p : Int) (st : St) : St := if st.mad = L.nodes then failS 2 p st else st
def addS (x : Nd) (st : St) : St := { st with mad := st.mad + 1, ts := st.ts ++ [x] }
def nodS (L : Lim) (x : Nd) (st : St) : St := addS x (nodP L x.p st)
def opnP (L : Lim) (st : St) : St := if st.op = L.deep then failS 2 (pkS st).2.2 st else st
def incS (st : St) : St := { st with op := st.op + 1 }
def opnS (L : Lim) (st : St) : St := rdS (incS (opnP L st))
def opnX (L : Lim) (st : St) : Tk := pkS (opnP L st)
def shtS (st : St) : St := { st with op := st.op - 1 }
def joiN (tx : List Nat) : Int := if tx = [43] then 3 else if tx = [45] then 4 else if tx = [42] then 5 else 6
def powM (L : Lim) (en : Nat) (sg : Bool) (a : Int) (p : Int) (st : St) : St :=
 nodS L ⟨8, a, 0, (if sg = true then -((smlV 3 st).getD 0 : Int) else ((smlV 3 st).getD 0 : Int)), ⟨#[]⟩, ⟨#[]⟩, p⟩ (smlS en 3 L.power st)
def powS (L : Lim) (en : Nat) (st : St) : St :=
 if nextT 3 [45] (rdS st).l = true then powM L en true (lastS st) (pkS st).2.2 (rdS (rdS st)) else powM L en false (lastS st) (pkS st).2.2 (rdS st)
def atmS (L : Lim) (en : Nat) (f : St → St) (st : St) : St :=
 if (pkS st).1 = 2 then nodS L ⟨1, 0, 0, 0, strOf (pkS st).2.1, strOf (untX en (rdS st)), (pkS st).2.2⟩ (untS en (rdS st))
 else if nextT 3 [40] st.l = true then shtS (sgnS en [41] (f (opnS L st)))
 else nodS L ⟨2, 0, 0, 0, strOf (namX en st), ⟨#[]⟩, (pkS st).2.2⟩ (namS en st)
def joiK (L : Lim) (f : St → St) (st : St) : St :=
 nodS L ⟨joiN (pkS st).2.1, lastS st, lastS (f (rdS st)), 0, ⟨#[]⟩, ⟨#[]⟩, (pkS st).2.2⟩ (f (rdS st))
def addB (l : List Tk) : Bool := nextT 3 [43] l || nextT 3 [45] l
def mulB (l : List Tk) : Bool := nextT 3 [42] l || nextT 3 [47] l
def lopK (L : Lim) (f : St → St) (ob : List Tk → Bool) : Nat → St → St
 | 0, st => st
 | g + 1, st => if ob st.l = true then lopK L f ob g (joiK L f st) else st
def rowK (L : Lim) (f : St → St) (ob : List Tk → Bool) (st : St) : St := lopK L f ob (f st).l.length (f st)
def trmK (L : Lim) (f : St → St) : St → St := rowK L f mulB
def frmK (L : Lim) (f : St → St) : St → St := rowK L (trmK L f) addB
def facS' (L : Lim) (en : Nat) (f : St → St) (st : St) : St :=
 if nextT 3 [45] st.l = true then nodS L ⟨7, lastS (f (opnS L st)), 0, 0, ⟨#[]⟩, ⟨#[]⟩, (opnX L st).2.2⟩ (shtS (f (opnS L st)))
 else if nextT 3 [94] (atmS L en (frmK L f) st).l = true then powS L en (atmS L en (frmK L f) st) else atmS L en (frmK L f) st
def facK (L : Lim) (en : Nat) : Nat → St → St
 | 0, st => st
 | k + 1, st => facS' L en (facK L en k) st
/-! ### what is made, what is left -/
def mu (l : List Tk) : Nat := l.length + (if l = [] then 0 else 1)
theorem mu_nil : mu [] = 0 := rfl
theorem mu_cons (t : Tk) (l : List Tk) : mu (t :: l) = l.length + 2 := by simp [mu]
theorem mu_le {a b : List Tk} (h : a.length ≤ b.length) : mu a ≤ mu b := by
 cases a with
 | nil => rw [mu_nil]; omega
 | cons t r =>
  cases b with
  | nil => simp at h
  | cons u s => simp [mu_cons] at h ⊢; omega
theorem mu_tail {l : List Tk} (h : l ≠ []) : mu l.tail + 1 ≤ mu l := by
 cases l with
 | nil => exact absurd rfl h
 | cons t r =>
  rw [mu_cons, List.tail_cons]
  cases r with
  | nil => simp [mu]
  | cons u s => simp [mu_cons]
structure Cn (c : Nat) (st s : St) : Prop where
 len : s.l.length ≤ st.l.length
 cnt : s.ts.length + mu s.l ≤ st.ts.length + mu st.l + c
 mad : s.mad + st.ts.length = st.mad + s.ts.length
 op : s.op = st.op
theorem Cn.refl (st : St) : Cn 0 st st := ⟨Nat.le_refl _, by omega, by omega, rfl⟩
theorem Cn.trans {c d : Nat} {a b e : St} (h : Cn c a b) (k : Cn d b e) : Cn (c + d) a e := ⟨by have := h.len; have := k.len; omega, by have := h.cnt; have := k.cnt; omega, by have := h.mad; have := k.mad; omega, k.op.trans h.op⟩
theorem Cn.mono {c d : Nat} {a b : St} (h : Cn c a b) (k : c ≤ d) : Cn d a b := ⟨h.len, by have := h.cnt; omega, h.mad, h.op⟩
theorem fail_cn (e p : Int) (st : St) : Cn 0 st (failS e p st) := by
 unfold failS
 split
 · exact ⟨by simp, by simp [mu_nil], rfl, rfl⟩
 · exact Cn.refl _
theorem need_cn (en : Nat) (b : Bool) (st : St) : Cn 0 st (needS en b st) := by
 unfold needS
 split
 · exact Cn.refl _
 · exact fail_cn _ _ _
theorem rd_cn (st : St) : Cn 0 st (rdS st) := ⟨by simp [rdS], by have := mu_le (a := st.l.tail) (b := st.l) (by simp); show st.ts.length + mu st.l.tail ≤ _; omega, rfl, rfl⟩
theorem sgn_cn (en : Nat) (tx : List Nat) (st : St) : Cn 0 st (sgnS en tx st) := (need_cn _ _ _).trans (rd_cn _)
theorem tak_cn (en kd : Nat) (st : St) : Cn 0 st (takS en kd st) := (need_cn _ _ _).trans (rd_cn _)
theorem nam_cn (en : Nat) (st : St) : Cn 0 st (namS en st) := (need_cn _ _ _).trans (tak_cn _ _ _)
theorem unt_cn (en : Nat) (st : St) : Cn 0 st (untS en st) := by
 unfold untS
 split
 · exact tak_cn _ _ _
 · exact Cn.refl _
theorem smlP_cn (en k most : Nat) (st : St) : Cn 0 st (smlP en k most st) := by
 unfold smlP
 split
 · exact fail_cn _ _ _
 · split
   · exact fail_cn _ _ _
   · exact Cn.refl _
theorem sml_cn (en k most : Nat) (st : St) : Cn 0 st (smlS en k most st) := (smlP_cn _ _ _ _).trans (rd_cn _)
theorem nodP_cn (L : Lim) (p : Int) (st : St) : Cn 0 st (nodP L p st) := by
 unfold nodP
 split
 · exact fail_cn _ _ _
 · exact Cn.refl _
theorem nod_cn (L : Lim) (x : Nd) (st : St) : Cn 1 st (nodS L x st) := by
 have h := nodP_cn L x.p st
 have h1 := h.len
 have h2 := h.cnt
 have h3 := h.mad
 refine ⟨h1, ?_, ?_, h.op⟩
 · show ((nodP L x.p st).ts ++ [x]).length + mu (nodP L x.p st).l ≤ _
   rw [List.length_append, List.length_singleton]; omega
 · show (nodP L x.p st).mad + 1 + _ = _ + ((nodP L x.p st).ts ++ [x]).length
   rw [List.length_append, List.length_singleton]; omega
structure Cr (st s : St) : Prop where
 len : s.l.length + 1 ≤ st.l.length
 cnt : s.ts.length + mu s.l + 1 ≤ st.ts.length + mu st.l
 fin : s.l = [] → s.ts.length + 2 ≤ st.ts.length + mu st.l
 mad : s.mad + st.ts.length = st.mad + s.ts.length
 op : s.op = st.op
theorem next_ne {kd : Nat} {tx : List Nat} {l : List Tk} (h : nextT kd tx l = true) : l ≠ [] := by rintro rfl; cases h
theorem mu_two {l : List Tk} (h : l ≠ []) : 2 ≤ mu l := by have := List.length_pos_iff.2 h; unfold mu; rw [if_neg h]; omega
theorem rd_cr {st : St} (h : st.l ≠ []) : Cr st (rdS st) := by
 have := List.length_pos_iff.2 h
 exact ⟨by simp [rdS]; omega, by have := mu_tail h; show st.ts.length + mu st.l.tail + 1 ≤ _; omega, fun _ => by have := mu_two h; show st.ts.length + 2 ≤ _; omega, rfl, rfl⟩
theorem Cr.to {a b : St} (h : Cr a b) : Cn 0 a b := ⟨by have := h.len; omega, by have := h.cnt; omega, h.mad, h.op⟩
structure Co (st s : St) : Prop where
 len : s.l.length + 1 ≤ st.l.length
 cnt : s.ts.length + mu s.l + 1 ≤ st.ts.length + mu st.l
 fin : s.l = [] → s.ts.length + 2 ≤ st.ts.length + mu st.l
 mad : s.mad + st.ts.length = st.mad + s.ts.length
theorem Cr.co {a b : St} (h : Cr a b) : Co a b := ⟨h.len, h.cnt, h.fin, h.mad⟩
theorem opn_co (L : Lim) {st : St} (h : st.l ≠ []) : Co st (opnS L st) ∧ (opnS L st).op = st.op + 1 := by
 unfold opnS opnP failS
 have h2 := mu_two h
 have h3 := List.length_pos_iff.2 h
 have h4 := rd_cr h
 split
 · split
   · exact ⟨⟨by simp [rdS, incS]; omega, by simp [rdS, incS, mu_nil]; omega, fun _ => by simp [rdS, incS]; omega, rfl⟩, rfl⟩
   · exact ⟨⟨h4.len, h4.cnt, h4.fin, h4.mad⟩, rfl⟩
 · exact ⟨⟨h4.len, h4.cnt, h4.fin, h4.mad⟩, rfl⟩
def Good1 (f : St → St) : Prop := ∀ st, Cn (if st.l = [] then 1 else 0) st (f st)
theorem co_step {f : St → St} (hf : Good1 f) {st s : St} (h : Co st s) : (f s).l.length + 1 ≤ st.l.length ∧ (f s).ts.length + mu (f s).l + 1 ≤ st.ts.length + mu st.l ∧ (f s).mad + st.ts.length = st.mad + (f s).ts.length ∧ (f s).op = s.op := by
 have k := hf s
 have h1 := h.len
 have h2 := h.cnt
 have h3 := h.mad
 have h5 := h.fin
 have k1 := k.len
 have k2 := k.cnt
 have k3 := k.mad
 refine ⟨by omega, ?_, by omega, k.op⟩
 by_cases e : s.l = []
 · rw [if_pos e] at k2
   have := h5 e
   rw [e, mu_nil] at k2
   omega
 · rw [if_neg e] at k2; omega
theorem node_step {f : St → St} (hf : Good1 f) (L : Lim) (x : Nd) {st s s' : St} (h : Co st s) (h1 : s'.l = (f s).l) (h2 : s'.ts = (f s).ts) (h3 : s'.mad = (f s).mad) (h4 : s'.op = st.op) : Cn 0 st (nodS L x s') ∧ (nodS L x s').l.length < st.l.length := by
 have k := co_step hf h
 have n := nod_cn L x s'
 have n1 := n.len
 have n2 := n.cnt
 have n3 := n.mad
 rw [h1] at n1 n2
 rw [h2] at n2 n3
 rw [h3] at n3
 exact ⟨⟨by omega, by omega, by omega, n.op.trans h4⟩, by omega⟩
theorem joi_cn {f : St → St} (hf : Good1 f) (L : Lim) {st : St} (h : st.l ≠ []) : Cn 0 st (joiK L f st) ∧ (joiK L f st).l.length < st.l.length :=
 node_step hf L _ (rd_cr h).co rfl rfl rfl (hf (rdS st)).op
theorem ob_ne {ob : List Tk → Bool} (ho : ob = addB ∨ ob = mulB) {l : List Tk} (h : ob l = true) : l ≠ [] := by
 rintro rfl
 rcases ho with rfl | rfl <;> cases h
theorem lop_cn {f : St → St} (hf : Good1 f) (L : Lim) {ob : List Tk → Bool} (ho : ob = addB ∨ ob = mulB) : ∀ (g : Nat) (st : St), Cn 0 st (lopK L f ob g st)
 | 0, st => Cn.refl st
 | g + 1, st => by
  unfold lopK
  split
  · rename_i h
    exact (joi_cn hf L (ob_ne ho h)).1.trans (lop_cn hf L ho g _)
  · exact Cn.refl st
theorem row_good {f : St → St} (hf : Good1 f) (L : Lim) {ob : List Tk → Bool} (ho : ob = addB ∨ ob = mulB) : Good1 (rowK L f ob) := fun st => by
 have := (hf st).trans (lop_cn hf L ho (f st).l.length (f st))
 exact this.mono (by omega)
theorem trm_good {f : St → St} (hf : Good1 f) (L : Lim) : Good1 (trmK L f) := row_good hf L (.inr rfl)
theorem frm_good {f : St → St} (hf : Good1 f) (L : Lim) : Good1 (frmK L f) := row_good (trm_good hf L) L (.inl rfl)
theorem lop_len {f : St → St} (hf : Good1 f) (L : Lim) {ob : List Tk → Bool} (ho : ob = addB ∨ ob = mulB) : ∀ (g : Nat) (st : St), st.l.length ≤ g → lopK L f ob g st = lopK L f ob st.l.length st
 | 0, st, h => by rw [Nat.le_zero.1 h]
 | g + 1, st, h => by
  cases e : st.l.length with
  | zero =>
   have hn : st.l = [] := List.length_eq_zero_iff.1 e
   unfold lopK
   rw [if_neg (fun hh => ob_ne ho hh hn)]
  | succ m =>
   show (if ob st.l = true then lopK L f ob g (joiK L f st) else st) = (if ob st.l = true then lopK L f ob m (joiK L f st) else st)
   split
   · rename_i hh
     have := (joi_cn hf L (ob_ne ho hh)).2
     rw [lop_len hf L ho g _ (by omega), lop_len hf L ho m _ (by omega)]
   · rfl
theorem lop_step {f : St → St} (hf : Good1 f) (L : Lim) {ob : List Tk → Bool} (ho : ob = addB ∨ ob = mulB) {st : St} (h : ob st.l = true) : lopK L f ob st.l.length st = lopK L f ob (joiK L f st).l.length (joiK L f st) := by
 have h1 := List.length_pos_iff.2 (ob_ne ho h)
 have h2 := (joi_cn hf L (ob_ne ho h)).2
 cases e : st.l.length with
 | zero => omega
 | succ m =>
  show (if ob st.l = true then lopK L f ob m (joiK L f st) else st) = _
  rw [if_pos h, lop_len hf L ho m _ (by omega)]
theorem lop_stop (L : Lim) (f : St → St) {ob : List Tk → Bool} {st : St} (h : ob st.l = false) (g : Nat) : lopK L f ob g st = st := by
 cases g with
 | zero => rfl
 | succ g => unfold lopK; rw [h]; rfl
theorem pk_ne {st : St} {k : Nat} (hk : k ≠ 0) (h : (pkS st).1 = k) : st.l ≠ [] := by
 intro e
 rw [pkS, e] at h
 exact hk h.symm
theorem pow_cn (L : Lim) (en : Nat) {st : St} (h : st.l ≠ []) : Cn 0 st (powS L en st) := by
 have h0 := rd_cr h
 have key : ∀ (sg : Bool) (s : St), Cn 0 (rdS st) s → Cn 0 st (powM L en sg (lastS st) (pkS st).2.2 s) := fun sg s hs => by
  unfold powM
  have a := h0.len
  have b := h0.cnt
  have c := h0.mad
  generalize (⟨8, lastS st, 0, (if sg = true then -((smlV 3 s).getD 0 : Int) else ((smlV 3 s).getD 0 : Int)), ⟨#[]⟩, ⟨#[]⟩, (pkS st).2.2⟩ : Nd) = x
  have k := (hs.trans (sml_cn en 3 L.power s)).trans (nod_cn L x (smlS en 3 L.power s))
  have k1 := k.len
  have k2 := k.cnt
  have k3 := k.mad
  exact ⟨Nat.le_trans k1 (by omega), Nat.le_trans k2 (by omega), by omega, k.op.trans h0.op⟩
 unfold powS
 split
 · exact key true _ (rd_cn _)
 · exact key false _ (Cn.refl _)
theorem atm_good (L : Lim) (en : Nat) {f : St → St} (hf : Good1 f) : Good1 (atmS L en f) := fun st => by
 unfold atmS
 by_cases h : (pkS st).1 = 2
 · rw [if_pos h]
   have h0 := rd_cr (pk_ne (by decide) h)
   have a := h0.len
   have b := h0.cnt
   have c := h0.mad
   have k := (unt_cn en (rdS st)).trans (nod_cn L ⟨1, 0, 0, 0, strOf (pkS st).2.1, strOf (untX en (rdS st)), (pkS st).2.2⟩ (untS en (rdS st)))
   have k1 := k.len
   have k2 := k.cnt
   have k3 := k.mad
   exact ⟨Nat.le_trans k1 (by omega), Nat.le_trans k2 (by omega), by omega, k.op.trans h0.op⟩
 · rw [if_neg h]
   by_cases h : nextT 3 [40] st.l = true
   · rw [if_pos h]
     have ho := opn_co L (next_ne h)
     have k := co_step hf ho.1
     have s := sgn_cn en [41] (f (opnS L st))
     have s1 := s.len
     have s2 := s.cnt
     have s3 := s.mad
     have s4 := s.op
     refine ⟨?_, ?_, ?_, ?_⟩
     · show (sgnS en [41] (f (opnS L st))).l.length ≤ _; omega
     · show (sgnS en [41] (f (opnS L st))).ts.length + mu (sgnS en [41] (f (opnS L st))).l ≤ _; omega
     · show (sgnS en [41] (f (opnS L st))).mad + _ = st.mad + (sgnS en [41] (f (opnS L st))).ts.length; omega
     · show (sgnS en [41] (f (opnS L st))).op - 1 = st.op; have := k.2.2.2; have := ho.2; omega
   · rw [if_neg h]
     by_cases e : st.l = []
     · rw [if_pos e]
       exact (nam_cn en st).trans (nod_cn L _ _)
     · rw [if_neg e]
       have n : Cn 0 st (namS en st) := nam_cn en st
       have hx : (namS en st).ts = st.ts ∧ mu (namS en st).l + 1 ≤ mu st.l := by
        have hfail : ∀ s : St, s.ts = st.ts → s.l.length ≤ st.l.length → (rdS s).ts = st.ts ∧ mu (rdS s).l + 1 ≤ mu st.l := fun s h1 h2 => by
         refine ⟨h1, ?_⟩
         by_cases e2 : s.l = []
         · show mu s.l.tail + 1 ≤ _
           rw [e2]; have := mu_two e; show mu [] + 1 ≤ _; rw [mu_nil]; omega
         · have := mu_tail e2
           have := mu_le h2
           show mu s.l.tail + 1 ≤ _; omega
        have hneed : ∀ (b : Bool) (s : St), s.ts = st.ts → (needS en b s).ts = st.ts := fun b s hs => by
         unfold needS refS failS
         split
         · exact hs
         · split
           · exact hs
           · exact hs
        exact hfail _ (hneed _ _ (hneed _ _ rfl)) (Nat.le_trans (need_cn _ _ _).len (need_cn _ _ _).len)
       have k := nod_cn L ⟨2, 0, 0, 0, strOf (namX en st), ⟨#[]⟩, (pkS st).2.2⟩ (namS en st)
       have k1 := k.len
       have k2 := k.cnt
       have k3 := k.mad
       have n1 := n.len
       have n3 := n.mad
       refine ⟨Nat.le_trans k1 n1, Nat.le_trans k2 ?_, by omega, k.op.trans n.op⟩
       rw [hx.1]; omega
theorem fac_step (L : Lim) (en : Nat) {f : St → St} (hf : Good1 f) : Good1 (facS' L en f) := fun st => by
 unfold facS'
 by_cases h : nextT 3 [45] st.l = true
 · rw [if_pos h]
   have hn := next_ne h
   have ho := opn_co L hn
   rw [if_neg hn]
   refine (node_step hf L _ (s' := shtS (f (opnS L st))) ho.1 rfl rfl rfl ?_).1
   show (f (opnS L st)).op - 1 = st.op
   have := (hf (opnS L st)).op
   have := ho.2
   omega
 · have a := atm_good L en (frm_good hf L) st
   rw [if_neg h]
   by_cases h2 : nextT 3 [94] (atmS L en (frmK L f) st).l = true
   · rw [if_pos h2]
     exact a.trans (pow_cn L en (next_ne h2))
   · rw [if_neg h2]; exact a
theorem fac_good (L : Lim) (en : Nat) : ∀ k, Good1 (facK L en k)
 | 0 => fun st => (Cn.refl st).mono (by omega)
 | k + 1 => fac_step L en (fac_good L en k)
end Go.Proofs.YtheaepceghnkpabDoor

/- What the reader of package parse does, and the grammar: formulas are read as it says, with the same fault. No condition. -/
namespace Go.Proofs.YtheaepceghnkpabDoor
open Go.RowKit Limb
set_option linter.unusedVariables false
structure Dead (e p : Int) (op : Nat) (st : St) : Prop where
 E : st.E = e
 P : st.P = p
 l : st.l = []
 op : st.op = op
 ne : e ≠ 0
section
variable {L : Lim} {en : Nat} {e p : Int} {op : Nat} {st : St}
theorem Dead.fail (h : Dead e p op st) (e' p' : Int) : failS e' p' st = st := by unfold failS; rw [if_neg (by rw [h.E]; exact h.ne)]
theorem Dead.rd (h : Dead e p op st) : rdS st = st := by
 cases st
 have := h.l
 dsimp only at this
 subst this; rfl
theorem Dead.need (h : Dead e p op st) (b : Bool) : needS en b st = st := by
 unfold needS
 split
 · rfl
 · exact h.fail _ _
theorem Dead.sgn (h : Dead e p op st) (tx : List Nat) : sgnS en tx st = st := by unfold sgnS; rw [h.need, h.rd]
theorem Dead.tak (h : Dead e p op st) (kd : Nat) : takS en kd st = st := by unfold takS takP; rw [h.need, h.rd]
theorem Dead.nam (h : Dead e p op st) : namS en st = st := by unfold namS namP; rw [h.need, h.tak]
theorem Dead.unt (h : Dead e p op st) : untS en st = st := by
 unfold untS
 split
 · exact h.tak 4
 · rfl
theorem Dead.sml (h : Dead e p op st) (k most : Nat) : smlS en k most st = st := by
 unfold smlS smlP
 split
 · rw [refS, h.fail, h.rd]
 · split
   · rw [h.fail, h.rd]
   · exact h.rd
theorem Dead.next (h : Dead e p op st) (kd : Nat) (tx : List Nat) : nextT kd tx st.l = false := by rw [h.l]; rfl
theorem Dead.nod (h : Dead e p op st) (x : Nd) : Dead e p op (nodS L x st) := by
 unfold nodS nodP
 split
 · rw [h.fail]; exact ⟨h.E, h.P, h.l, h.op, h.ne⟩
 · exact ⟨h.E, h.P, h.l, h.op, h.ne⟩
theorem Dead.ob (h : Dead e p op st) {ob : List Tk → Bool} (ho : ob = addB ∨ ob = mulB) : ob st.l = false := by rw [h.l]; rcases ho with rfl | rfl <;> rfl
theorem Dead.row (h : Dead e p op st) {f : St → St} (hf : Dead e p op (f st)) {ob : List Tk → Bool} (ho : ob = addB ∨ ob = mulB) : Dead e p op (rowK L f ob st) := by
 unfold rowK
 rw [lop_stop L f (hf.ob ho)]; exact hf
theorem Dead.atm (h : Dead e p op st) (f : St → St) : Dead e p op (atmS L en f st) := by
 unfold atmS
 rw [if_neg (by rw [pkS, h.l]; decide), h.next, if_neg (by decide), h.nam]
 exact h.nod _
theorem Dead.fac (h : Dead e p op st) (f : St → St) : Dead e p op (facS' L en f st) := by
 unfold facS'
 rw [h.next, if_neg (by decide), (h.atm (L := L) (en := en) (frmK L f)).next, if_neg (by decide)]
 exact h.atm _
theorem Dead.frm (h : Dead e p op st) (k : Nat) : Dead e p op (frmK L (facK L en (k + 1)) st) := (h.row (h.row (h.fac _) (.inr rfl)) (.inl rfl))
end
/-! ### token by token -/
section
variable {L : Lim} {en : Nat} {st : St}
theorem fail_dead (hE : st.E = 0) {e p : Int} (he : e ≠ 0) : Dead e p st.op (failS e p st) := by unfold failS; rw [if_pos hE]; exact ⟨rfl, rfl, rfl, rfl, he⟩
theorem take_eq (kd n : Nat) (tx : List Nat) : takeT en kd tx st.l n = if nextT kd tx st.l = true then .ok (pkS st) st.l.tail n else .bad 12 (hereT en st.l) := by
 cases e : st.l with
 | nil => rfl
 | cons t r => rw [pkS, e]; rfl
theorem name_eq (n : Nat) : nameT en st.l n = if (decide ((pkS st).1 = 1) && isNam (pkS st).2.1) = true then .ok (pkS st) st.l.tail n else .bad 12 (hereT en st.l) := by
 cases e : st.l with
 | nil => rw [show pkS st = (0, [], 0) by rw [pkS, e]; rfl]; rfl
 | cons t r =>
  rw [pkS, e]
  show (if t.1 = 1 ∧ isNam t.2.1 = true then _ else _) = (if (decide (t.1 = 1) && isNam t.2.1) = true then _ else _)
  by_cases h : t.1 = 1 ∧ isNam t.2.1 = true
  · rw [if_pos h, if_pos (by simp [h.1, h.2])]; rfl
  · rw [if_neg h, if_neg (by simpa using h)]; rfl
theorem next_kind {kd : Nat} (hk : kd ≠ 0) (l : List Tk) : nextT kd [] l = decide ((pkL l).1 = kd) := by
 cases l with
 | nil => exact (decide_eq_false (by show ¬ 0 = kd; omega)).symm
 | cons t r => show (decide (t.1 = kd) && true) = _; rw [Bool.and_true]; rfl
def Kin (st : St) {α : Type} (r : PaR α) (x : α → Prop) (s : St) : Prop := match r with
 | .ok a l n => s = { st with l := l } ∧ n = st.mad ∧ x a
 | .bad e p => Dead e p st.op s
theorem tak_kin (hE : st.E = 0) {kd : Nat} (hk : kd ≠ 0) : Kin st (takeT en kd [] st.l st.mad) (fun t => takX en kd st = t.2.1 ∧ t ∈ st.l) (takS en kd st) := by
 rw [take_eq, next_kind hk]
 unfold takX takS takP needS
 by_cases h : (pkS st).1 = kd
 · rw [if_pos (decide_eq_true h), if_pos (decide_eq_true h)]
   refine ⟨rfl, rfl, rfl, ?_⟩
   cases e : st.l with
   | nil => rw [pkS, e] at h; exact absurd h.symm hk
   | cons t r => rw [pkS, e]; exact List.mem_cons_self
 · rw [if_neg (by simpa using h), if_neg (by simpa using h)]
   have := (fail_dead (p := hereT en st.l) hE (show (12 : Int) ≠ 0 by decide))
   show Dead _ _ _ (rdS (refS en st))
   rw [refS, this.rd]; exact this
theorem sgn_kin (hE : st.E = 0) (tx : List Nat) : Kin st (takeT en 3 tx st.l st.mad) (fun _ => True) (sgnS en tx st) := by
 rw [take_eq]
 unfold sgnS needS
 by_cases h : nextT 3 tx st.l = true
 · rw [if_pos h, if_pos h]; exact ⟨rfl, rfl, trivial⟩
 · rw [if_neg h, if_neg h]
   have := (fail_dead (p := hereT en st.l) hE (show (12 : Int) ≠ 0 by decide))
   show Dead _ _ _ (rdS (refS en st))
   rw [refS, this.rd]; exact this
theorem nam_kin (hE : st.E = 0) : Kin st (nameT en st.l st.mad) (fun t => namX en st = t.2.1 ∧ t = pkS st) (namS en st) := by
 rw [name_eq]
 have hd := (fail_dead (p := hereT en st.l) hE (show (12 : Int) ≠ 0 by decide))
 unfold namS namX namP needS
 by_cases h : isNam (pkS st).2.1 = true
 · rw [if_pos h, h, Bool.and_true]
   unfold takS takX takP needS
   by_cases h1 : (pkS st).1 = 1
   · rw [if_pos (decide_eq_true h1), if_pos (decide_eq_true h1)]; exact ⟨rfl, rfl, rfl, rfl⟩
   · rw [if_neg (by simpa using h1), if_neg (by simpa using h1)]
     show Dead _ _ _ (rdS (refS en st))
     rw [refS, hd.rd]; exact hd
 · rw [if_neg (by simp [h]), if_neg h]
   show Dead _ _ _ (takS en 1 (refS en st))
   rw [refS, hd.tak]; exact hd
theorem unt_kin (hE : st.E = 0) : untS en st = { st with l := (unitT st.l).2 } ∧ untX en st = (unitT st.l).1 := by
 unfold untS untX
 cases e : st.l with
 | nil => rw [pkS, e]; exact ⟨by cases st; dsimp only at e; subst e; rfl, rfl⟩
 | cons t r =>
  have hp : pkS st = t := by rw [pkS, e]; rfl
  rw [hp]
  by_cases h : t.1 = 4
  · have k := tak_kin (en := en) (st := st) hE (kd := 4) (by decide)
    rw [take_eq, next_kind (by decide), show pkL st.l = t from hp, if_pos (decide_eq_true h)] at k
    rw [if_pos h, if_pos h]
    show _ = { st with l := (if isT 4 [] t = true then (t.2.1, r) else ([], t :: r)).2 } ∧ _ = (if isT 4 [] t = true then (t.2.1, r) else ([], t :: r)).1
    rw [if_pos (show isT 4 [] t = true by simp [isT, h])]
    obtain ⟨k1, _, k2, _⟩ := k
    rw [e] at k1
    exact ⟨k1, k2.trans (by rw [hp])⟩
  · rw [if_neg h, if_neg h]
    show _ = { st with l := (if isT 4 [] t = true then (t.2.1, r) else ([], t :: r)).2 } ∧ _ = (if isT 4 [] t = true then (t.2.1, r) else ([], t :: r)).1
    rw [if_neg (show ¬ isT 4 [] t = true by simp [isT, h])]
    exact ⟨by cases st; dsimp only at e; subst e; rfl, rfl⟩
theorem sml_kin (hE : st.E = 0) (k most : Nat) : Kin st ((takeT en 2 [] st.l st.mad).next fun x r n => match smallT x.2.1 k with | none => .bad 12 x.2.2 | some v => if most < v then .bad 2 x.2.2 else .ok v r n) (fun v => smlV k st = some v) (smlS en k most st) := by
 rw [take_eq, next_kind (by decide)]
 unfold smlS smlP
 cases hv : smlV k st with
 | none =>
  have hd := (fail_dead (p := hereT en st.l) hE (show (12 : Int) ≠ 0 by decide))
  show Kin st _ _ (rdS (refS en st))
  rw [refS, hd.rd]
  unfold smlV at hv
  by_cases h : (pkS st).1 = 2
  · rw [if_pos h] at hv
    rw [if_pos (decide_eq_true h), PaR.next_ok]
    show Kin st (match smallT (pkS st).2.1 k with | none => _ | some v => _) _ _
    rw [hv]
    show Dead _ _ _ _
    cases e : st.l with
    | nil => rw [pkS, e] at h; cases h
    | cons t r => rw [e] at hd; rw [pkS, e]; exact hd
  · rw [if_neg (by simpa using h), PaR.next_bad]; exact hd
 | some v =>
  unfold smlV at hv
  by_cases h : (pkS st).1 = 2
  · rw [if_pos h] at hv
    rw [if_pos (decide_eq_true h), PaR.next_ok]
    show Kin st (match smallT (pkS st).2.1 k with | none => _ | some v => _) _ (rdS (if most < v then failS 2 (pkS st).2.2 st else st))
    rw [hv]
    show Kin st (if most < v then _ else _) _ _
    by_cases h2 : most < v
    · rw [if_pos h2, if_pos h2]
      have hd := (fail_dead (p := (pkS st).2.2) hE (show (2 : Int) ≠ 0 by decide))
      rw [hd.rd]; exact hd
    · rw [if_neg h2, if_neg h2]; exact ⟨rfl, rfl, rfl⟩
  · rw [if_neg h] at hv; cases hv
end
/-! ### formulas -/
def Is (L : Lim) (r : PaR (List Nd)) (st s : St) : Prop := match r with
 | .ok t l n => s = { st with l := l, mad := n, ts := st.ts ++ t.map (shiftN st.ts.length) } ∧ n ≤ L.nodes
 | .bad e p => Dead e p st.op s
theorem shift_len (t : List Nd) (d : Nat) : (t.map (shiftN d)).length = t.length := List.length_map _
theorem over_shift {k : Int} (hk : oneK k = true) (j : Int) (t : List Nd) (p d : Nat) : (overN k j t p).map (shiftN d) = t.map (shiftN d) ++ [⟨k, ((d + t.length : Nat) : Int) - 1, 0, j, ⟨#[]⟩, ⟨#[]⟩, p⟩] := by
 unfold overN
 rw [List.map_append, List.map_cons, List.map_nil, shiftN_one (by exact hk), show (t.length : Int) - 1 + (d : Int) = ((d + t.length : Nat) : Int) - 1 by omega]
theorem join_shift {k : Int} (hk : twoK k = true) (t u : List Nd) (p d : Nat) : (joinN k t u p).map (shiftN d) = t.map (shiftN d) ++ u.map (shiftN (d + t.length)) ++ [⟨k, ((d + t.length : Nat) : Int) - 1, ((d + t.length + u.length : Nat) : Int) - 1, 0, ⟨#[]⟩, ⟨#[]⟩, p⟩] := by
 have hu : (u.map (shiftN t.length)).map (shiftN d) = u.map (shiftN (d + t.length)) := by
  rw [List.map_map]
  refine List.map_congr_left fun x _ => ?_
  show shiftN d (shiftN t.length x) = _
  rw [shift_shift, Nat.add_comm]
 unfold joinN
 rw [List.map_append, List.map_append, List.map_cons, List.map_nil, shiftN_two (by exact hk), hu, show (t.length : Int) - 1 + (d : Int) = ((d + t.length : Nat) : Int) - 1 by omega, show (t.length : Int) + (u.length : Int) - 1 + (d : Int) = ((d + t.length + u.length : Nat) : Int) - 1 by omega]
section
variable {L : Lim} {en : Nat} {st : St}
theorem nod_is (hE : st.E = 0) {s : St} {T t2 : List Nd} {l : List Tk} {n : Nat} {x : Nd} {p : Nat} (hs : s = { st with l := l, mad := n, ts := st.ts ++ T }) (hn : n ≤ L.nodes) (hx : x.p = (p : Int)) (h2 : t2.map (shiftN st.ts.length) = T ++ [x]) : Is L (madeT L t2 p l n) st (nodS L x s) := by
 have hsE : s.E = 0 := by rw [hs]; exact hE
 have hso : s.op = st.op := by rw [hs]
 have hsm : s.mad = n := by rw [hs]
 unfold nodS nodP madeT
 rw [hsm]
 by_cases h : n = L.nodes
 · rw [if_pos h, if_pos (by omega), hx]
   have hd : Dead 2 p s.op (failS 2 (p : Int) s) := fail_dead hsE (by decide)
   rw [hso] at hd
   exact ⟨hd.E, hd.P, hd.l, hd.op, hd.ne⟩
 · rw [if_neg h, if_neg (by omega)]
   refine ⟨?_, by omega⟩
   rw [h2, hs]
   unfold addS
   rw [List.append_assoc]
theorem Is.bad {r : PaR (List Nd)} {st s : St} {e p : Nat} (h : Is L r st s) (hr : r = .bad e p) : Dead e p st.op s := by rw [hr] at h; exact h
theorem Is.ok {r : PaR (List Nd)} {st s : St} {t : List Nd} {l : List Tk} {n : Nat} (h : Is L r st s) (hr : r = .ok t l n) : s = { st with l := l, mad := n, ts := st.ts ++ t.map (shiftN st.ts.length) } ∧ n ≤ L.nodes := by rw [hr] at h; exact h
theorem lit_shift (s u : List Nat) (p d : Nat) : (litN s u p).map (shiftN d) = [⟨1, 0, 0, 0, strOf s, strOf u, p⟩] := rfl
theorem ref_shift (s : List Nat) (p d : Nat) : (refN s p).map (shiftN d) = [⟨2, 0, 0, 0, strOf s, ⟨#[]⟩, p⟩] := rfl
theorem here_pk {l : List Tk} (h : l ≠ []) : hereT en l = (pkL l).2.2 := by
 cases l with
 | nil => exact absurd rfl h
 | cons t r => rfl
theorem powM_is (hE : st.E = 0) {s0 : St} {t : List Nd} {l : List Tk} {n : Nat} (hs0 : s0 = { st with l := l, mad := n, ts := st.ts ++ t.map (shiftN st.ts.length) }) (hn : n ≤ L.nodes) (sg : Bool) (pa : Nat) : Is L (powB L en t pa sg l n) st (powM L en sg (((st.ts.length + t.length : Nat) : Int) - 1) pa s0) := by
 have k := sml_kin (st := s0) (en := en) (by rw [hs0]; exact hE) 3 L.power
 subst hs0
 unfold powB powM
 dsimp only at k
 cases e : takeT en 2 [] l n with
 | bad a b =>
  rw [e, PaR.next_bad] at k
  rw [PaR.next_bad]
  exact Dead.nod (L := L) k _
 | ok x r m =>
  rw [e, PaR.next_ok] at k
  rw [PaR.next_ok]
  cases e2 : smallT x.2.1 3 with
  | none => simp only [e2] at k ⊢; exact Dead.nod (L := L) k _
  | some v =>
   simp only [e2] at k ⊢
   by_cases h : L.power < v
   · rw [if_pos h] at k ⊢; exact Dead.nod (L := L) k _
   · rw [if_neg h] at k ⊢
     obtain ⟨k1, k2, k3⟩ := k
     dsimp only at k2
     rw [k1, k3]
     subst k2
     dsimp only
     refine nod_is (st := st) hE rfl hn rfl ?_
     rw [over_shift (by decide)]
     cases sg <;> rfl
theorem powT_is (hE : st.E = 0) {s0 : St} {t : List Nd} {l : List Tk} {n : Nat} (hs0 : s0 = { st with l := l, mad := n, ts := st.ts ++ t.map (shiftN st.ts.length) }) (hn : n ≤ L.nodes) : Is L (powT L en t l n) st (if nextT 3 [94] s0.l = true then powS L en s0 else s0) := by
 subst hs0
 unfold powT
 dsimp only
 by_cases h : nextT 3 [94] l = true
 · rw [if_pos h, if_pos h]
   unfold powS
   have hl : lastS { st with l := l, mad := n, ts := st.ts ++ t.map (shiftN st.ts.length) } = ((st.ts.length + t.length : Nat) : Int) - 1 := by simp [lastS]
   rw [hl]
   rw [here_pk (next_ne h)]
   show Is L (if nextT 3 [45] l.tail = true then _ else _) st (if nextT 3 [45] l.tail = true then _ else _)
   by_cases h2 : nextT 3 [45] l.tail = true
   · rw [if_pos h2, if_pos h2]
     exact powM_is hE rfl hn true _
   · rw [if_neg h2, if_neg h2]
     exact powM_is hE rfl hn false _
 · rw [if_neg h, if_neg h]
   exact ⟨rfl, hn⟩
structure Opr (ob : List Tk → Bool) (op : Tk → Option Int) : Prop where
 w : ob = addB ∨ ob = mulB
 yes : ∀ x r k, op x = some k → ob (x :: r) = true ∧ joiN x.2.1 = k ∧ twoK k = true
 no : ∀ x r, op x = none → ob (x :: r) = false
theorem isT_tx {kd c : Nat} {t : Tk} (h : isT kd [c] t = true) : t.2.1 = [c] := by
 rcases (isT_kind h).2 with e | e
 · cases e
 · exact e
theorem opr_add : Opr addB addO := by
 refine ⟨.inl rfl, fun x r k h => ?_, fun x r h => ?_⟩
 · unfold addO at h
   show (isT 3 [43] x || isT 3 [45] x) = true ∧ _
   split at h
   · rename_i h1
     cases h; rw [h1, isT_tx h1]; exact ⟨rfl, rfl, rfl⟩
   · split at h
     · rename_i h1
       cases h; rw [h1, isT_tx h1, Bool.or_true]; exact ⟨rfl, rfl, rfl⟩
     · cases h
 · unfold addO at h
   show (isT 3 [43] x || isT 3 [45] x) = false
   split at h
   · cases h
   · split at h
     · cases h
     · rename_i h1 h2
       rw [Bool.or_eq_false_iff]
       exact ⟨by simpa using h1, by simpa using h2⟩
theorem opr_mul : Opr mulB mulO := by
 refine ⟨.inr rfl, fun x r k h => ?_, fun x r h => ?_⟩
 · unfold mulO at h
   show (isT 3 [42] x || isT 3 [47] x) = true ∧ _
   split at h
   · rename_i h1
     cases h; rw [h1, isT_tx h1]; exact ⟨rfl, rfl, rfl⟩
   · split at h
     · rename_i h1
       cases h; rw [h1, isT_tx h1, Bool.or_true]; exact ⟨rfl, rfl, rfl⟩
     · cases h
 · unfold mulO at h
   show (isT 3 [42] x || isT 3 [47] x) = false
   split at h
   · cases h
   · split at h
     · cases h
     · rename_i h1 h2
       rw [Bool.or_eq_false_iff]
       exact ⟨by simpa using h1, by simpa using h2⟩
def IsR (L : Lim) (o : Nat) (g : Rdr) (f : St → St) : Prop := ∀ s : St, s.E = 0 → s.mad ≤ L.nodes → s.op = o → Is L (g s.l s.mad) s (f s)
theorem lop_is {g : Rdr} {f : St → St} (hg : Good1 f) {ob : List Tk → Bool} {op : Tk → Option Int} (ho : Opr ob op) (hf : IsR L st.op g f) (hE : st.E = 0) : ∀ (m : Nat) (t : List Nd) (l : List Tk) (n : Nat) (s : St), s = { st with l := l, mad := n, ts := st.ts ++ t.map (shiftN st.ts.length) } → n ≤ L.nodes → l.length ≤ m → Is L (loopT L g op m t l n) st (lopK L f ob m s)
 | 0, t, l, n, s, hs, hn, hl => by
  obtain rfl := List.length_eq_zero_iff.1 (Nat.le_zero.1 hl)
  exact ⟨hs, hn⟩
 | m + 1, t, [], n, s, hs, hn, hl => by
  rw [lop_stop L f (by rw [hs]; rcases ho.w with h | h <;> rw [h] <;> rfl)]
  exact ⟨hs, hn⟩
 | m + 1, t, x :: r, n, s, hs, hn, hl => by
  have hsl : s.l = x :: r := by rw [hs]
  cases e : op x with
  | none =>
   rw [lop_stop L f (by rw [hsl]; exact ho.no x r e)]
   show Is L (match op x with | none => _ | some k => _) st s
   rw [e]
   exact ⟨hs, hn⟩
  | some k =>
   obtain ⟨h1, h2, h3⟩ := ho.yes x r k e
   show Is L (match op x with | none => _ | some k => _) st (if ob s.l = true then lopK L f ob m (joiK L f s) else s)
   rw [e, hsl, if_pos h1]
   show Is L ((g r n).next _) st _
   have hlt := (joi_cn hg L (st := s) (by rw [hsl]; simp)).2
   have key : Is L ((g r n).next fun u r2 n2 => madeT L (joinN k t u x.2.2) x.2.2 r2 n2) st (joiK L f s) := by
    have hI := hf (rdS s) (by rw [hs]; exact hE) (by rw [hs]; exact hn) (by rw [hs]; rfl)
    rw [show (rdS s).l = r by rw [rdS, hsl]; rfl, show (rdS s).mad = n by rw [hs]; rfl] at hI
    unfold joiK
    rw [show pkS s = x by rw [pkS, hsl]; rfl]
    cases e2 : g r n with
    | bad a b =>
     have hd := hI.bad e2
     rw [PaR.next_bad]
     rw [show (rdS s).op = st.op by rw [hs]; rfl] at hd
     exact hd.nod _
    | ok u r2 n2 =>
     obtain ⟨hk, hn2⟩ := hI.ok e2
     rw [PaR.next_ok]
     have hts : (rdS s).ts = st.ts ++ t.map (shiftN st.ts.length) := by rw [hs]; rfl
     have hfs : f (rdS s) = { st with l := r2, mad := n2, ts := st.ts ++ (t.map (shiftN st.ts.length) ++ u.map (shiftN (st.ts.length + t.length))) } := by
      rw [hk, hts, List.length_append, shift_len, List.append_assoc, hs]; rfl
     refine nod_is hE hfs hn2 rfl ?_
     rw [join_shift h3, h2]
     congr 2
     refine Nd.ext' rfl ?_ ?_ rfl rfl rfl rfl
     · show _ = lastS s
       unfold lastS; rw [hs]; simp
     · show _ = lastS (f (rdS s))
       unfold lastS; rw [hfs]; simp; omega
   cases e2 : g r n with
   | bad a b =>
    rw [e2, PaR.next_bad] at key
    have hd : Dead _ _ _ _ := key
    rw [PaR.next_bad, lop_stop L f (hd.ob ho.w)]
    exact key
   | ok u r2 n2 =>
    rw [e2, PaR.next_ok] at key
    rw [PaR.next_ok]
    cases e3 : madeT L (joinN k t u x.2.2) x.2.2 r2 n2 with
    | bad a b =>
     rw [e3] at key
     have hd : Dead _ _ _ _ := key
     rw [PaR.next_bad, lop_stop L f (hd.ob ho.w)]
     exact key
    | ok t2 r3 n3 =>
     obtain ⟨k1, k2⟩ := key.ok e3
     rw [PaR.next_ok]
     refine lop_is hg ho hf hE m t2 r3 n3 _ k1 k2 ?_
     rw [k1] at hlt
     have h5 : r3.length < s.l.length := hlt
     rw [hsl] at h5
     simp at h5 hl
     omega
theorem row_is {g : Rdr} {f : St → St} (hg : Good1 f) {ob : List Tk → Bool} {op : Tk → Option Int} (ho : Opr ob op) {o : Nat} (hf : IsR L o g f) : IsR L o (rowT L g op) (rowK L f ob) := fun st hE hn hop => by
 subst hop
 have hI := hf st hE hn rfl
 unfold rowT rowK
 cases e : g st.l st.mad with
 | bad a b =>
  have hd := hI.bad e
  rw [PaR.next_bad, lop_stop L f (hd.ob ho.w)]
  exact hd
 | ok t l n =>
  obtain ⟨k1, k2⟩ := hI.ok e
  rw [PaR.next_ok, show (f st).l.length = l.length by rw [k1]]
  exact lop_is hg ho hf hE _ t l n _ k1 k2 (Nat.le_refl _)
theorem frm_is {g : Rdr} {f : St → St} (hg : Good1 f) {o : Nat} (hf : IsR L o g f) : IsR L o (formT L g) (frmK L f) := row_is (trm_good hg L) opr_add (row_is hg opr_mul hf)
def SubR (L : Lim) (o : Nat) (f : St → St) : Option Rdr → Prop
 | none => o = L.deep ∧ ∀ (e p : Int) (op : Nat) (s : St), Dead e p op s → Dead e p op (f s)
 | some g => o < L.deep ∧ IsR L (o + 1) g f
theorem opn_dead (hE : st.E = 0) (h : st.op = L.deep) (hn : st.l ≠ []) : Dead 2 (hereT en st.l) (st.op + 1) (opnS L st) := by
 have hd := fail_dead (p := (pkS st).2.2) hE (show (2 : Int) ≠ 0 by decide)
 unfold opnS opnP
 rw [if_pos h, here_pk hn]
 exact ⟨hd.E, hd.P, by show (failS 2 (pkS st).2.2 st).l.tail = []; rw [hd.l]; rfl, by show (failS 2 (pkS st).2.2 st).op + 1 = _; rw [hd.op], by decide⟩
theorem opn_live (h : st.op < L.deep) : opnS L st = { st with l := st.l.tail, op := st.op + 1 } := by
 unfold opnS opnP
 rw [if_neg (by omega)]; rfl
theorem opnX_live (h : st.op < L.deep) : opnX L st = pkS st := by
 unfold opnX opnP
 rw [if_neg (by omega)]
theorem Dead.sht {e p : Int} {op : Nat} {s : St} (h : Dead e p (op + 1) s) : Dead e p op (shtS s) := ⟨h.E, h.P, h.l, by show s.op - 1 = op; rw [h.op]; omega, h.ne⟩
theorem Dead.pow' {e p : Int} {op : Nat} {s : St} (h : Dead e p op s) : Dead e p op (if nextT 3 [94] s.l = true then powS L en s else s) := by rw [h.next, if_neg (by decide)]; exact h
theorem facS_is {f : St → St} {sub : Option Rdr} (hg : Good1 f) (hs : SubR L st.op f sub) (hE : st.E = 0) (hn : st.mad ≤ L.nodes) : Is L (facS L en sub st.l st.mad) st (facS' L en f st) := by
 unfold facS facS'
 by_cases h1 : nextT 3 [45] st.l = true
 · rw [if_pos h1, if_pos h1]
   have hne := next_ne h1
   cases sub with
   | none =>
    have hd := opn_dead (en := en) hE hs.1 hne
    exact ((hs.2 _ _ _ _ hd).sht).nod _
   | some g =>
    have hI := hs.2 (opnS L st) (by rw [opn_live hs.1]; exact hE) (by rw [opn_live hs.1]; exact hn) (by rw [opn_live hs.1])
    have hl : (opnS L st).l = st.l.tail := by rw [opn_live hs.1]
    have hm : (opnS L st).mad = st.mad := by rw [opn_live hs.1]
    rw [hl, hm] at hI
    show Is L ((g st.l.tail st.mad).next _) st _
    rw [opnX_live hs.1]
    cases e : g st.l.tail st.mad with
    | bad a b =>
     have hd := hI.bad e
     rw [show (opnS L st).op = st.op + 1 by rw [opn_live hs.1]] at hd
     rw [PaR.next_bad]
     exact hd.sht.nod _
    | ok t l n =>
     obtain ⟨k1, k2⟩ := hI.ok e
     rw [PaR.next_ok]
     have hts : (opnS L st).ts = st.ts := by rw [opn_live hs.1]
     rw [hts] at k1
     refine nod_is (T := t.map (shiftN st.ts.length)) (l := l) (n := n) hE ?_ k2 ?_ ?_
     · rw [k1, opn_live hs.1]; rfl
     · rw [here_pk hne]
     · rw [over_shift (by decide), here_pk hne]
       congr 2
       refine Nd.ext' rfl ?_ rfl rfl rfl rfl rfl
       show _ = lastS (f (opnS L st))
       rw [k1]; simp [lastS]
 · rw [if_neg h1, if_neg h1]
   by_cases h2 : nextT 3 [40] st.l = true
   · rw [if_pos h2]
     have hne := next_ne h2
     have hk : ¬ (pkS st).1 = 2 := by
      cases e : st.l with
      | nil => exact absurd e hne
      | cons x r =>
       rw [e] at h2
       have := (isT_kind h2).1
       rw [pkS, e]; show ¬ x.1 = 2; omega
     have ha : atmS L en (frmK L f) st = shtS (sgnS en [41] (frmK L f (opnS L st))) := by unfold atmS; rw [if_neg hk, if_pos h2]
     rw [ha]
     cases sub with
     | none =>
      have hd := opn_dead (en := en) hE hs.1 hne
      have hf : Dead 2 (hereT en st.l) (st.op + 1) (frmK L f (opnS L st)) := hd.row (hd.row (hs.2 _ _ _ _ hd) (.inr rfl)) (.inl rfl)
      rw [hf.sgn]
      exact hf.sht.pow'
     | some g =>
      have hI := frm_is hg hs.2 (opnS L st) (by rw [opn_live hs.1]; exact hE) (by rw [opn_live hs.1]; exact hn) (by rw [opn_live hs.1])
      have hl : (opnS L st).l = st.l.tail := by rw [opn_live hs.1]
      have hm : (opnS L st).mad = st.mad := by rw [opn_live hs.1]
      rw [hl, hm] at hI
      show Is L ((formT L g st.l.tail st.mad).next _) st _
      cases e : formT L g st.l.tail st.mad with
      | bad a b =>
       have hd := hI.bad e
       rw [show (opnS L st).op = st.op + 1 by rw [opn_live hs.1]] at hd
       rw [PaR.next_bad, hd.sgn]
       exact hd.sht.pow'
      | ok t l n =>
       obtain ⟨k1, k2⟩ := hI.ok e
       rw [PaR.next_ok]
       have hts : (opnS L st).ts = st.ts := by rw [opn_live hs.1]
       rw [hts] at k1
       have hs1 : frmK L f (opnS L st) = { st with l := l, mad := n, ts := st.ts ++ t.map (shiftN st.ts.length), op := st.op + 1 } := by rw [k1, opn_live hs.1]
       have kk := sgn_kin (en := en) (st := frmK L f (opnS L st)) (by rw [hs1]; exact hE) [41]
       rw [show (frmK L f (opnS L st)).l = l by rw [hs1], show (frmK L f (opnS L st)).mad = n by rw [hs1]] at kk
       cases e2 : takeT en 3 [41] l n with
       | bad a b =>
        rw [e2] at kk
        have hd : Dead _ _ _ _ := kk
        rw [show (frmK L f (opnS L st)).op = st.op + 1 by rw [hs1]] at hd
        rw [PaR.next_bad]
        exact hd.sht.pow'
       | ok c r m =>
        rw [e2] at kk
        obtain ⟨k3, k4, _⟩ := kk
        rw [PaR.next_ok]
        have hm2 : m = n := by rw [k4, hs1]
        subst hm2
        refine powT_is hE (t := t) (l := r) (n := m) ?_ k2
        rw [k3, hs1]; rfl
   · rw [if_neg h2]
     have hat : Is L (atomT L en st.l st.mad) st (atmS L en (frmK L f) st) := by
      unfold atmS
      rw [if_neg h2]
      cases e : st.l with
      | nil =>
       have k := nam_kin (en := en) hE
       rw [e] at k
       rw [show pkS st = (0, [], 0) by rw [pkS, e]; rfl, if_neg (by decide)]
       have hd : Dead _ _ _ _ := k
       exact hd.nod _
      | cons x r =>
       have hp : pkS st = x := by rw [pkS, e]; rfl
       rw [hp]
       by_cases h3 : x.1 = 2
       · rw [if_pos h3]
         obtain ⟨u1, u2⟩ := unt_kin (en := en) (st := rdS st) hE
         have hr : (rdS st).l = r := by rw [rdS, e]; rfl
         rw [hr] at u1 u2
         unfold atomT
         dsimp only
         rw [if_pos (show isT 2 [] x = true by simp [isT, h3]), u1, u2]
         cases r with
         | nil => exact nod_is (T := []) hE (by simp [rdS, unitT]) hn rfl rfl
         | cons y q =>
          dsimp only
          by_cases h4 : isT 4 [] y = true
          · rw [if_pos h4]
            refine nod_is (T := []) hE ?_ hn rfl ?_
            · simp [rdS, unitT, h4]
            · simp [unitT, h4, lit_shift]
          · rw [if_neg h4]
            refine nod_is (T := []) hE ?_ hn rfl ?_
            · simp [rdS, unitT, h4]
            · simp [unitT, h4, lit_shift]
       · rw [if_neg h3]
         have k := nam_kin (en := en) hE
         rw [e] at k
         unfold atomT
         dsimp only
         rw [if_neg (show ¬ isT 2 [] x = true by simp [isT, h3])]
         unfold nameT at k
         dsimp only at k
         by_cases h4 : x.1 = 1 ∧ isNam x.2.1 = true
         · rw [if_pos h4] at k ⊢
           obtain ⟨k1, _, k2, _⟩ := k
           rw [k1, k2]
           refine nod_is (T := []) hE ?_ hn rfl ?_
           · simp
           · rw [ref_shift]; rfl
         · rw [if_neg h4] at k ⊢
           have hd : Dead _ _ _ _ := k
           exact hd.nod _
     cases e : atomT L en st.l st.mad with
     | bad a b =>
      have hd := hat.bad e
      rw [PaR.next_bad]
      exact hd.pow'
     | ok t l n =>
      obtain ⟨k1, k2⟩ := hat.ok e
      rw [PaR.next_ok]
      exact powT_is hE k1 k2
theorem fac_is (L : Lim) (en : Nat) : ∀ (d k o : Nat), o + d = L.deep → d + 2 ≤ k → IsR L o (facT L en d) (facK L en k)
 | 0, k + 2, o, ho, _ => fun st hE hn hop => by
  refine facS_is (sub := none) (fac_good L en (k + 1)) ⟨by omega, fun e p op s hd => hd.fac _⟩ hE hn
 | d + 1, k + 1, o, ho, hk => fun st hE hn hop => by
  refine facS_is (sub := some (facT L en d)) (fac_good L en k) ⟨by omega, ?_⟩ hE hn
  rw [hop]
  exact fac_is L en d k (o + 1) (by omega) (by omega)
theorem form_is (L : Lim) (en k : Nat) (hk : L.deep + 2 ≤ k) : IsR L 0 (formL L en) (frmK L (facK L en k)) := frm_is (fac_good L en k) (fac_is L en L.deep k 0 (by omega) hk)
end
end Go.Proofs.YtheaepceghnkpabDoor

/- What the reader of package parse does, and the grammar: nums, declarations, scripts. No condition. -/
namespace Go.Proofs.YtheaepceghnkpabDoor
open Go.RowKit Limb
set_option linter.unusedVariables false
def numbS (en : Nat) (st : St) : St := if nextT 3 [47] (takS en 2 st).l = true then takS en 2 (rdS (takS en 2 st)) else takS en 2 st
def numbX (en : Nat) (st : St) : List Nat := if nextT 3 [47] (takS en 2 st).l = true then takX en 2 st ++ ((pkS (takS en 2 st)).2.1 ++ takX en 2 (rdS (takS en 2 st))) else takX en 2 st
def numS (en : Nat) (st : St) : St := if nextT 3 [45] st.l = true then numbS en (rdS st) else numbS en st
def numX (en : Nat) (st : St) : List Nat := if nextT 3 [45] st.l = true then (pkS st).2.1 ++ numbX en (rdS st) else numbX en st
def nilS (st : St) : St := { st with ts := [] }
def treS (L : Lim) (en K : Nat) (st : St) : St := frmK L (facK L en K) (nilS st)
def kindK (t : Tk) : Nat := (wordK t).getD 0
def out1 (en : Nat) (s : St) : St := if nextT 1 [105, 110] s.l = true then takS en 4 (rdS s) else s
def out1X (en : Nat) (s : St) : List Nat := if nextT 1 [105, 110] s.l = true then takX en 4 (rdS s) else []
def bodS (L : Lim) (en K k : Nat) (s : St) : St :=
 if k = 1 then takS en 4 (numS en s)
 else if k = 2 then numS en (sgnS en [58] (untS en (numS en s)))
 else if k = 3 then numS en s
 else if k = 4 then treS L en K s
 else if k = 5 then smlS en 2 60 (sgnS en [58] (out1 en (treS L en K s)))
 else s
def bodD (L : Lim) (en K k : Nat) (s : St) (d : Dc) : Dc :=
 if k = 1 then { d with nu := numX en s, un := takX en 4 (numS en s) }
 else if k = 2 then { d with nu := numX en s, un := untX en (numS en s), va := numX en (sgnS en [58] (untS en (numS en s))) }
 else if k = 3 then { d with nu := numX en s }
 else if k = 4 then { d with tr := (treS L en K s).ts }
 else if k = 5 then { d with tr := (treS L en K s).ts, un := out1X en (treS L en K s), pl := ((smlV 2 (sgnS en [58] (out1 en (treS L en K s)))).getD 0 : Nat) }
 else d
def decP (en i : Nat) (st : St) : St := if kindK (pkS st) = 0 then refS en st else if 60 ≤ i then failS 2 (pkS st).2.2 st else st
def dec1 (en i : Nat) (st : St) : St := rdS (decP en i st)
def dec2 (en i : Nat) (st : St) : St := namS en (dec1 en i st)
def dec3 (en i : Nat) (st : St) : St := if kindK (pkS st) = 3 then namS en (dec2 en i st) else dec2 en i st
def dec4 (en i : Nat) (st : St) : St := sgnS en [61] (dec3 en i st)
def dec5 (L : Lim) (en K i : Nat) (st : St) : St := bodS L en K (kindK (pkS st)) (dec4 en i st)
def dclS (L : Lim) (en K i : Nat) (st : St) : St := sgnS en [59] (dec5 L en K i st)
def decO (en i : Nat) (st : St) : List Nat := if kindK (pkS st) = 3 then namX en (dec2 en i st) else []
def dec0 (en i : Nat) (st : St) : Dc := ⟨(kindK (pkS st) : Nat), namX en (dec1 en i st), decO en i st, [], [], [], [], 0, (pkS (dec1 en i st)).2.2⟩
def decD (L : Lim) (en K i : Nat) (st : St) : Dc := bodD L en K (kindK (pkS st)) (dec4 en i st) (dec0 en i st)
def Ki (L : Lim) (op : Nat) {α : Type} (r : PaR α) (x : α → Prop) (s : St) : Prop := match r with
 | .ok a l n => s.E = 0 ∧ s.l = l ∧ s.mad = n ∧ s.op = op ∧ n ≤ L.nodes ∧ x a
 | .bad e p => Dead e p op s
section
variable {L : Lim} {en op : Nat} {st s s' : St} {α β : Type} {r : PaR α} {x : α → Prop} {f : α → List Tk → Nat → PaR β} {y : β → Prop}
theorem Ki.next (h : Ki L op r x s) (hd : ∀ e p, Dead e p op s → Dead e p op s') (hk : ∀ a, x a → s.E = 0 → s.mad ≤ L.nodes → s.op = op → Ki L op (f a s.l s.mad) y s') : Ki L op (r.next f) y s' := by
 cases r with
 | bad e p => exact hd _ _ h
 | ok a l n =>
  obtain ⟨h1, rfl, rfl, h4, h5, h6⟩ := h
  exact hk a h6 h1 h5 h4
theorem Kin.ki (h : Kin st r x s) (hE : st.E = 0) (hn : st.mad ≤ L.nodes) (ho : st.op = op) : Ki L op r x s := by
 subst ho
 cases r with
 | bad e p => exact h
 | ok a l n =>
  obtain ⟨rfl, rfl, h3⟩ := h
  exact ⟨hE, rfl, rfl, rfl, hn, h3⟩
theorem Ki.mono {y : α → Prop} (h : Ki L op r x s) (k : ∀ a, x a → y a) : Ki L op r y s := by
 cases r with
 | bad e p => exact h
 | ok a l n => exact ⟨h.1, h.2.1, h.2.2.1, h.2.2.2.1, h.2.2.2.2.1, k a h.2.2.2.2.2⟩
theorem ki_ok {a : α} (hE : s.E = 0) (hn : s.mad ≤ L.nodes) (ho : s.op = op) (h : x a) : Ki L op (.ok a s.l s.mad) x s := ⟨hE, rfl, rfl, ho, hn, h⟩
theorem tak_ki (hE : st.E = 0) (hn : st.mad ≤ L.nodes) (ho : st.op = op) {kd : Nat} (hk : kd ≠ 0) : Ki L op (takeT en kd [] st.l st.mad) (fun t => takX en kd st = t.2.1 ∧ t ∈ st.l) (takS en kd st) := (tak_kin hE hk).ki hE hn ho
theorem sgn_ki (hE : st.E = 0) (hn : st.mad ≤ L.nodes) (ho : st.op = op) (tx : List Nat) : Ki L op (takeT en 3 tx st.l st.mad) (fun _ => True) (sgnS en tx st) := (sgn_kin hE tx).ki hE hn ho
theorem nam_ki (hE : st.E = 0) (hn : st.mad ≤ L.nodes) (ho : st.op = op) : Ki L op (nameT en st.l st.mad) (fun t => namX en st = t.2.1 ∧ t = pkS st) (namS en st) := (nam_kin hE).ki hE hn ho
theorem next_tx {c : Nat} {l : List Tk} (h : nextT 3 [c] l = true) : (pkL l).2.1 = [c] := by
 cases l with
 | nil => cases h
 | cons t r => exact isT_tx h
theorem Dead.numb {e p : Int} (h : Dead e p op s) : numbS en s = s := by unfold numbS; rw [h.tak, h.next, if_neg (by decide)]
theorem Dead.num {e p : Int} (h : Dead e p op s) : numS en s = s := by unfold numS; rw [h.next, if_neg (by decide), h.numb]
theorem numb_ki (hE : st.E = 0) (hn : st.mad ≤ L.nodes) (ho : st.op = op) (pre : List Nat) : Ki L op (numB en pre st.l st.mad) (fun q => pre ++ numbX en st = q) (numbS en st) := by
 unfold numB
 refine (tak_ki (en := en) hE hn ho (kd := 2) (by decide)).next (fun e p hd => ?_) fun t ht h1 h2 h3 => ?_
 · unfold numbS; rw [hd.next, if_neg (by decide)]; exact hd
 · unfold numbS numbX
   by_cases h : nextT 3 [47] (takS en 2 st).l = true
   · rw [if_pos h, if_pos h, if_pos h]
     refine (tak_ki (st := rdS (takS en 2 st)) (en := en) h1 h2 h3 (kd := 2) (by decide)).next (fun e p hd => hd) fun u hu g1 g2 g3 => ?_
     refine ki_ok g1 g2 g3 ?_
     rw [ht.1, hu.1, pkS, next_tx h]; simp
   · rw [if_neg h, if_neg h, if_neg h]
     refine ki_ok h1 h2 h3 ?_
     rw [ht.1]
theorem num_ki (hE : st.E = 0) (hn : st.mad ≤ L.nodes) (ho : st.op = op) : Ki L op (numT en st.l st.mad) (fun q => numX en st = q) (numS en st) := by
 unfold numT numS numX
 by_cases h : nextT 3 [45] st.l = true
 · rw [if_pos h, if_pos h, if_pos h, pkS, next_tx h]
   exact numb_ki (st := rdS st) hE hn ho [45]
 · rw [if_neg h, if_neg h, if_neg h]
   exact (numb_ki hE hn ho []).mono fun q hq => hq
theorem Dead.nil {e p : Int} (h : Dead e p op s) : Dead e p op (nilS s) := ⟨h.E, h.P, h.l, h.op, h.ne⟩
theorem Dead.tre {e p : Int} (h : Dead e p op s) (K : Nat) : Dead e p op (treS L en (K + 1) s) := h.nil.frm K
theorem tre_ki (hE : st.E = 0) (hn : st.mad ≤ L.nodes) (ho : st.op = 0) {K : Nat} (hK : L.deep + 2 ≤ K) : Ki L 0 (formL L en st.l st.mad) (fun t => (treS L en K st).ts = t) (treS L en K st) := by
 have h := form_is L en K hK (nilS st) hE hn ho
 rw [show (nilS st).l = st.l from rfl, show (nilS st).mad = st.mad from rfl] at h
 unfold treS
 cases e : formL L en st.l st.mad with
 | bad a b =>
  have hd := h.bad e
  rw [show (nilS st).op = 0 from ho] at hd
  exact hd
 | ok t l n =>
  obtain ⟨k1, k2⟩ := h.ok e
  rw [k1]
  refine ⟨hE, rfl, rfl, ho, k2, ?_⟩
  show [] ++ t.map (shiftN 0) = t
  rw [List.nil_append]
  have : t.map (shiftN 0) = t.map id := List.map_congr_left fun z _ => shiftN_zero z
  rw [this, List.map_id]
theorem semi_ki (hE : st.E = 0) (hn : st.mad ≤ L.nodes) (ho : st.op = op) (d : Dc) : Ki L op (semiT en d st.l st.mad) (fun q => d = q) (sgnS en [59] st) := by
 unfold semiT
 exact (sgn_ki hE hn ho [59]).next (fun e p hd => hd) fun u _ g1 g2 g3 => ki_ok g1 g2 g3 rfl
theorem unt_st (hE : st.E = 0) : (untS en st).l = (unitT st.l).2 ∧ untX en st = (unitT st.l).1 ∧ (untS en st).E = st.E ∧ (untS en st).mad = st.mad ∧ (untS en st).op = st.op := by
 obtain ⟨h1, h2⟩ := unt_kin (en := en) hE
 rw [h1]
 exact ⟨rfl, h2, rfl, rfl, rfl⟩
theorem outB_ki (hE : st.E = 0) (hn : st.mad ≤ L.nodes) (ho : st.op = op) (d : Dc) : Ki L op (outB en d st.l st.mad) (fun q => { d with pl := ((smlV 2 (sgnS en [58] st)).getD 0 : Nat) } = q) (sgnS en [59] (smlS en 2 60 (sgnS en [58] st))) := by
 unfold outB
 refine (sgn_ki hE hn ho [58]).next (fun e p hd => ?_) fun u _ h1 h2 h3 => ?_
 · rw [hd.sml, hd.sgn]; exact hd
 · have k := sml_kin (en := en) (st := sgnS en [58] st) h1 2 60
   cases e : takeT en 2 [] (sgnS en [58] st).l (sgnS en [58] st).mad with
   | bad a b =>
    rw [e, PaR.next_bad] at k
    have hd : Dead _ _ _ _ := k
    rw [h3] at hd
    rw [PaR.next_bad, hd.sgn]; exact hd
   | ok t l n =>
    rw [e, PaR.next_ok] at k
    rw [PaR.next_ok]
    cases e2 : smallT t.2.1 2 with
    | none =>
     simp only [e2] at k ⊢
     have hd : Dead _ _ _ _ := k
     rw [h3] at hd
     rw [hd.sgn]; exact hd
    | some v =>
     simp only [e2] at k ⊢
     by_cases h : 60 < v
     · rw [if_pos h] at k ⊢
       have hd : Dead _ _ _ _ := k
       rw [h3] at hd
       rw [hd.sgn]; exact hd
     · rw [if_neg h] at k ⊢
       obtain ⟨k1, k2, k3⟩ := k
       have a1 : (smlS en 2 60 (sgnS en [58] st)).E = 0 := by rw [k1]; exact h1
       have a2 : (smlS en 2 60 (sgnS en [58] st)).mad = n := by rw [k1, k2]
       have a3 : (smlS en 2 60 (sgnS en [58] st)).op = op := by rw [k1]; exact h3
       have a4 : (smlS en 2 60 (sgnS en [58] st)).l = l := by rw [k1]
       have := semi_ki (L := L) (en := en) a1 (by rw [a2, k2]; exact h2) a3 { d with pl := (v : Int) }
       rw [a2, a4] at this
       refine this.mono fun q hq => ?_
       rw [← hq, k3]; rfl
theorem Dead.bod {e p : Int} (h : Dead e p op s) (K k : Nat) : Dead e p op (bodS L en (K + 1) k s) := by
 unfold bodS
 split
 · rw [h.num, h.tak]; exact h
 · split
   · rw [h.num, h.unt, h.sgn, h.num]; exact h
   · split
     · rw [h.num]; exact h
     · split
       · exact h.tre K
       · split
         · have ht := h.tre (L := L) (en := en) K
           have ho : Dead e p op (out1 en (treS L en (K + 1) s)) := by unfold out1; rw [ht.next, if_neg (by decide)]; exact ht
           rw [ho.sgn, ho.sml]; exact ho
         · exact h
theorem bod_ki (hE : st.E = 0) (hn : st.mad ≤ L.nodes) (ho : st.op = 0) {K k : Nat} (hK : L.deep + 2 ≤ K) (hk : 1 ≤ k ∧ k ≤ 5) (d : Dc) (hd0 : d.nu = [] ∧ d.va = [] ∧ d.un = [] ∧ d.tr = [] ∧ d.pl = 0) : Ki L 0 (bodyT L en k d st.l st.mad) (fun q => bodD L en K k st d = q) (sgnS en [59] (bodS L en K k st)) := by
 unfold bodyT bodS bodD
 by_cases h1 : k = 1
 · rw [if_pos h1, if_pos h1, if_pos h1]
   refine (num_ki hE hn ho).next (fun e p hd => by rw [hd.tak, hd.sgn]; exact hd) fun q hq a1 a2 a3 => ?_
   refine (tak_ki a1 a2 a3 (by decide)).next (fun e p hd => by rw [hd.sgn]; exact hd) fun u hu b1 b2 b3 => ?_
   refine (semi_ki b1 b2 b3 _).mono fun q hq2 => ?_
   rw [← hq2, hq, hu.1]
 rw [if_neg h1, if_neg h1, if_neg h1]
 by_cases h2 : k = 2
 · rw [if_pos h2, if_pos h2, if_pos h2]
   refine (num_ki hE hn ho).next (fun e p hd => by rw [hd.unt, hd.sgn, hd.num, hd.sgn]; exact hd) fun q hq a1 a2 a3 => ?_
   obtain ⟨u1, u2, u3, u4, u5⟩ := unt_st (en := en) a1
   rw [← u1, ← u4, ← u2]
   refine (sgn_ki (u3.trans a1) (by rw [u4]; exact a2) (u5.trans a3) [58]).next (fun e p hd => by rw [hd.num, hd.sgn]; exact hd) fun _ _ b1 b2 b3 => ?_
   refine (num_ki b1 b2 b3).next (fun e p hd => by rw [hd.sgn]; exact hd) fun v hv c1 c2 c3 => ?_
   refine (semi_ki c1 c2 c3 _).mono fun q hq2 => ?_
   rw [← hq2, hq, hv]
 rw [if_neg h2, if_neg h2, if_neg h2]
 by_cases h3 : k = 3
 · rw [if_pos h3, if_pos h3, if_pos h3]
   refine (num_ki hE hn ho).next (fun e p hd => by rw [hd.sgn]; exact hd) fun q hq a1 a2 a3 => ?_
   refine (semi_ki a1 a2 a3 _).mono fun q hq2 => ?_
   rw [← hq2, hq]
 rw [if_neg h3, if_neg h3, if_neg h3]
 by_cases h4 : k = 4
 · rw [if_pos h4, if_pos h4, if_pos h4]
   refine (tre_ki hE hn ho hK).next (fun e p hd => by rw [hd.sgn]; exact hd) fun t ht a1 a2 a3 => ?_
   refine (semi_ki a1 a2 a3 _).mono fun q hq2 => ?_
   rw [← hq2, ht]
 rw [if_neg h4, if_neg h4, if_neg h4, if_pos (show k = 5 by omega), if_pos (show k = 5 by omega)]
 refine (tre_ki hE hn ho hK).next (fun e p hd => ?_) fun t ht a1 a2 a3 => ?_
 · have h : Dead e p 0 (out1 en (treS L en K st)) := by unfold out1; rw [hd.next, if_neg (by decide)]; exact hd
   rw [h.sgn, h.sml, h.sgn]; exact h
 · unfold out1 out1X
   by_cases h : nextT 1 [105, 110] (treS L en K st).l = true
   · rw [if_pos h, if_pos h, if_pos h]
     refine (tak_ki (st := rdS (treS L en K st)) a1 a2 a3 (kd := 4) (by decide)).next (fun e p hd => by rw [hd.sgn, hd.sml, hd.sgn]; exact hd) fun u hu b1 b2 b3 => ?_
     refine (outB_ki b1 b2 b3 _).mono fun q hq => ?_
     rw [← hq, ht, hu.1]
   · rw [if_neg h, if_neg h, if_neg h]
     refine (outB_ki a1 a2 a3 _).mono fun q hq => ?_
     rw [← hq, ht, hd0.2.2.1]
theorem wordK_le {t : Tk} {k : Nat} (h : wordK t = some k) : 1 ≤ k ∧ k ≤ 5 := by
 unfold wordK at h
 repeat' split at h
 all_goals first | (cases h; decide) | cases h
theorem Dead.dec {e p : Int} {i K : Nat} {st : St} (h : Dead e p op (decP en i st)) : Dead e p op (dclS L en (K + 1) i st) := by
 have e1 : dec1 en i st = decP en i st := h.rd
 have e2 : dec2 en i st = decP en i st := by unfold dec2; rw [e1, h.nam]
 have e3 : dec3 en i st = decP en i st := by
  unfold dec3
  rw [e2]
  split
  · exact h.nam
  · rfl
 have e4 : dec4 en i st = decP en i st := by unfold dec4; rw [e3, h.sgn]
 have h5 : Dead e p op (dec5 L en (K + 1) i st) := by unfold dec5; rw [e4]; exact h.bod K _
 unfold dclS
 rw [h5.sgn]; exact h5
theorem dec_ki (hE : st.E = 0) (hn : st.mad ≤ L.nodes) (ho : st.op = 0) (hne : st.l ≠ []) {K i : Nat} (hK : L.deep + 2 ≤ K) : Ki L 0 (declT L en i st.l st.mad) (fun q => decD L en K i st = q) (dclS L en K i st) := by
 obtain ⟨K, rfl⟩ : ∃ m, K = m + 1 := ⟨K - 1, by omega⟩
 obtain ⟨w, r, e⟩ : ∃ w r, st.l = w :: r := by
  cases e : st.l with
  | nil => exact absurd e hne
  | cons w r => exact ⟨w, r, rfl⟩
 have hp : pkS st = w := by rw [pkS, e]; rfl
 have hh : hereT en st.l = w.2.2 := by rw [e]; rfl
 rw [e]
 show Ki L 0 (match wordK w with | none => _ | some k => _) _ _
 cases ek : wordK w with
 | none =>
  have hk0 : kindK (pkS st) = 0 := by rw [hp, kindK, ek]; rfl
  refine Dead.dec ?_
  unfold decP
  rw [if_pos hk0, refS, hh, ← ho]
  exact fail_dead hE (by decide)
 | some k =>
  have hk := wordK_le ek
  have hk0 : kindK (pkS st) = k := by rw [hp, kindK, ek]; rfl
  show Ki L 0 (if 60 ≤ i then _ else _) _ _
  by_cases hi : 60 ≤ i
  · rw [if_pos hi]
    refine Dead.dec ?_
    unfold decP
    rw [if_neg (by omega), if_pos hi, hp, ← ho]
    exact fail_dead hE (by decide)
  · rw [if_neg hi]
    have e1 : dec1 en i st = rdS st := by unfold dec1 decP; rw [if_neg (by omega), if_neg hi]
    have hr : (rdS st).l = r := by rw [rdS, e]; rfl
    have hnam := nam_ki (L := L) (op := 0) (en := en) (st := rdS st) hE hn ho
    rw [hr] at hnam
    unfold dclS dec5 decD
    rw [hk0]
    have hD : ∀ e p, Dead e p 0 (dec4 en i st) → Dead e p 0 (sgnS en [59] (bodS L en (K + 1) k (dec4 en i st))) := fun e p hd => by
     have := hd.bod (L := L) (en := en) K k
     rw [this.sgn]; exact this
    have hhead : Ki L 0 (headT en k r st.mad) (fun d => dec0 en i st = d) (dec4 en i st) := by
     unfold headT
     have e2 : namS en (rdS st) = dec2 en i st := by unfold dec2; rw [e1]
     rw [e2] at hnam
     refine hnam.next (fun e p hd => ?_) fun x hx a1 a2 a3 => ?_
     · have e3 : dec3 en i st = dec2 en i st := by
        unfold dec3
        split
        · exact hd.nam
        · rfl
       unfold dec4
       rw [e3, hd.sgn]; exact hd
     · by_cases h3 : k = 3
       · rw [if_pos h3]
         have e3 : dec3 en i st = namS en (dec2 en i st) := by unfold dec3; rw [hk0, if_pos h3]
         refine (nam_ki a1 a2 a3).next (fun e p hd => ?_) fun y hy b1 b2 b3 => ?_
         · unfold dec4; rw [e3, hd.sgn]; exact hd
         · rw [← e3] at b1 b2 b3 ⊢
           refine (sgn_ki b1 b2 b3 [61]).next (fun e p hd => hd) fun _ _ c1 c2 c3 => ?_
           refine ki_ok c1 c2 c3 ?_
           unfold dec0 decO
           rw [hk0, if_pos h3, e1, hx.1, hy.1, ← hx.2]
       · rw [if_neg h3]
         have e3 : dec3 en i st = dec2 en i st := by unfold dec3; rw [hk0, if_neg h3]
         rw [← e3] at a1 a2 a3 ⊢
         refine (sgn_ki a1 a2 a3 [61]).next (fun e p hd => hd) fun _ _ c1 c2 c3 => ?_
         refine ki_ok c1 c2 c3 ?_
         unfold dec0 decO
         rw [hk0, if_neg h3, e1, hx.1, ← hx.2]
    refine hhead.next hD fun d hd a1 a2 a3 => ?_
    rw [hd]
    refine bod_ki a1 a2 a3 hK hk d ?_
    rw [← hd]
    exact ⟨rfl, rfl, rfl, rfl, rfl⟩
end
end Go.Proofs.YtheaepceghnkpabDoor

/- Own rows of nodes; what keep.OwnTree, keep.Tree answer, as contracts over memory. Conditions: rows of nodes that can be read, at most 10^6 nodes. -/
namespace Go.Proofs.YtheaepceghnkpabDoor
open Go.RowKit Limb
set_option linter.unusedVariables false
def OwnT (w : World) (B : Nat) (A : Option Addr) (n c : Nat) (ts : List Nd) : Prop := n = ts.length ∧ OwnR w B 43 7 A n c (ndCells ts)
theorem OwnR.caps {w : World} {B sz n c : Nat} {e : TypeId} {A : Option Addr} {xs : List Value} (h : OwnR w B e sz A n c xs) : n ≤ c ∧ c ≤ maxLen := by
 rcases h.2 with ⟨hv, h0⟩ | ⟨g, cap, cur, hv, hB, hg, hnc, hcm, _⟩
 · injection hv with h1 h2 h3
   subst h2 h3
   exact ⟨Nat.le_refl _, Nat.zero_le _⟩
 · injection hv with h1 h2 h3
   subst h3
   exact ⟨hnc, hcm⟩
theorem OwnT.tree {w : World} {B n c : Nat} {A : Option Addr} {ts : List Nd} (h : OwnT w B A n c ts) : TreR w A n c ts := OwnR.tree h.2 h.1 h.2.caps.1 h.2.caps.2
theorem OwnT.below {w w' : World} {B n c : Nat} {A : Option Addr} {ts : List Nd} (h : OwnT w B A n c ts) (hb : Below w.heap.size w w') : OwnT w' B A n c ts := ⟨h.1, h.2.below hb⟩
theorem ndCells_set {ts : List Nd} {i r : Nat} {x y : Nd} {v : Value} (hx : ts[i]? = some x) (hr : r < 7) (hy : (ndV x).toList.set r v = (ndV y).toList) : (ndCells ts).set (i * 7 + r) v = ndCells (ts.set i y) := by
 induction ts generalizing i with
 | nil => simp at hx
 | cons z ts ih =>
  have e : ∀ z ts, ndCells (z :: ts) = (ndV z).toList ++ ndCells ts := fun _ _ => rfl
  cases i with
  | zero =>
   obtain rfl : z = x := by simpa using hx
   rw [List.set_cons_zero, e, e, Nat.zero_mul, Nat.zero_add, List.set_append_left _ _ (by show r < 7; exact hr), hy]
  | succ i =>
   rw [List.set_cons_succ, e, e, List.set_append_right _ _ (by show 7 ≤ _; omega), show (i + 1) * 7 + r - (ndV z).toList.length = i * 7 + r by show (i + 1) * 7 + r - 7 = _; omega, ih (by simpa using hx)]
theorem OwnR.set {w : World} {B sz n c g : Nat} {e : TypeId} {xs : List Value} (h : OwnR w B e sz (some ⟨g, 0, none⟩) n c xs) {j : Nat} (hj : j < xs.length) (v : Value) : OwnR (w.setCell ⟨g, j, none⟩ v) B e sz (some ⟨g, 0, none⟩) n c (xs.set j v) := by
 refine ⟨by rw [List.length_set]; exact h.1, ?_⟩
 rcases h.2 with ⟨hv, _⟩ | ⟨g2, cap, cur, hv, hB, hg, hnc, hcm, hcs, ht⟩
 · cases hv
 · injection hv with h1 h2 h3
   injection h1 with h1
   injection h1 with h1
   subst h1
   refine .inr ⟨g, cap, cur.setIfInBounds j v, by rw [h3], hB, ?_, hnc, hcm, by rw [Array.size_setIfInBounds]; exact hcs, ?_⟩
   · have : RowA (w.setCell ⟨g, j, none⟩ v) g e (cur.setIfInBounds j v) := RowA.set (show RowA w g e cur from hg) j v
     exact this
   · rw [Array.toList_setIfInBounds, ← ht]
     rw [← ht] at hj
     have h1 := h.1
     rw [List.take_set]
theorem OwnT.set {w : World} {B n c g : Nat} {ts : List Nd} (h : OwnT w B (some ⟨g, 0, none⟩) n c ts) {i r : Nat} {x y : Nd} {v : Value} (hx : ts[i]? = some x) (hr : r < 7) (hy : (ndV x).toList.set r v = (ndV y).toList) : OwnT (w.setCell ⟨g, i * 7 + r, none⟩ v) B (some ⟨g, 0, none⟩) n c (ts.set i y) := by
 refine ⟨by rw [List.length_set]; exact h.1, ?_⟩
 rw [← ndCells_set hx hr hy]
 have hi := (List.getElem?_eq_some_iff.1 hx).1
 exact h.2.set (by rw [len_ndCells]; omega) v
theorem OwnT.free {w : World} {B n c g : Nat} {ts : List Nd} (h : OwnT w B (some ⟨g, 0, none⟩) n c ts) (j : Nat) : w.frozen? ⟨g, j, none⟩ = false := by
 rcases h.2.2 with ⟨hv, _⟩ | ⟨g2, cap, cur, hv, hB, hg, _⟩
 · cases hv
 · injection hv with h1 h2 h3
   injection h1 with h1
   injection h1 with h1
   subst h1
   exact RowA.free (show RowA w g 43 cur from hg) j
theorem OwnT.inV {w : World} {B n c g : Nat} {ts : List Nd} (h : OwnT w B (some ⟨g, 0, none⟩) n c ts) {i : Nat} {x : Nd} (hx : ts[i]? = some x) : InV w g (i * 7) (ndV x) := by
 obtain ⟨g2, o, e, _, h3⟩ := h.tree.2.2.2 (by have := (List.getElem?_eq_some_iff.1 hx).1; have := h.1; omega)
 obtain ⟨g3, e3, _, _, _, _, h6⟩ := h.2.cells (by have := (List.getElem?_eq_some_iff.1 hx).1; have := h.1; omega)
 cases e3
 exact fun j v hj => h6 _ _ (ndCells_at hx j v hj)
end Go.Proofs.YtheaepceghnkpabDoor

/- Declarations in memory. No condition. -/
namespace Go.Proofs.YtheaepceghnkpabDoor
open Go.RowKit Limb
set_option linter.unusedVariables false
abbrev dcC (k : Int) (nm ot nu va un : ByteArray) (A : Option Addr) (n c : Nat) (pl at' : Int) : Array Value := #[.int .i64 k, .string nm, .string ot, .string nu, .string va, .string un, .slice A n c, .int .i64 pl, .int .i64 at']
structure DS where
 d : Dc
 A : Option Addr
 n : Nat
 c : Nat
def dcV (x : DS) : Array Value := dcC x.d.k (strOf x.d.nm) (strOf x.d.ot) (strOf x.d.nu) (strOf x.d.va) (strOf x.d.un) x.A x.n x.c x.d.pl x.d.at'
abbrev zDc : Array Value := dcC 0 ⟨#[]⟩ ⟨#[]⟩ ⟨#[]⟩ ⟨#[]⟩ ⟨#[]⟩ none 0 0 0 0
theorem size_dcV (x : DS) : (dcV x).size = 9 := rfl
def dcCells (xs : List DS) : List Value := xs.flatMap fun x => (dcV x).toList
theorem dcCells_snoc (xs : List DS) (x : DS) : dcCells (xs ++ [x]) = dcCells xs ++ (dcV x).toList := by simp [dcCells]
theorem len_dcCells (xs : List DS) : (dcCells xs).length = xs.length * 9 := by
 induction xs with
 | nil => rfl
 | cons x xs ih => show ((dcV x).toList ++ dcCells xs).length = _; rw [List.length_append, ih]; simp [dcV]; omega
theorem dcCells_at : ∀ {xs : List DS} {i : Nat} {x : DS}, xs[i]? = some x → ∀ j v, (dcV x)[j]? = some v → (dcCells xs)[i * 9 + j]? = some v
 | [], i, x, h, _, _, _ => by simp at h
 | y :: xs, 0, x, h, j, v, hj => by
  obtain rfl : y = x := by simpa using h
  have hl : j < 9 := by
   rcases Nat.lt_or_ge j 9 with h1 | h1
   · exact h1
   · rw [Array.getElem?_eq_none (by rw [size_dcV]; exact h1)] at hj; cases hj
  show ((dcV y).toList ++ dcCells xs)[0 * 9 + j]? = some v
  rw [Nat.zero_mul, Nat.zero_add, List.getElem?_append_left (by simpa [dcV] using hl)]
  simpa using hj
 | y :: xs, i + 1, x, h, j, v, hj => by
  have := dcCells_at (xs := xs) (i := i) (x := x) (by simpa using h) j v hj
  show ((dcV y).toList ++ dcCells xs)[(i + 1) * 9 + j]? = some v
  rw [List.getElem?_append_right (by simp [dcV]; omega), show (i + 1) * 9 + j - (dcV y).toList.length = i * 9 + j by simp [dcV]; omega]
  exact this
theorem dcs_elem : Elem Tryd.prog 26 38 9 := elem_of Tryd.underlying26 (v := .agg zDc) (b := 128) (by kernel_rfl) rfl (by decide) (by decide)
theorem sizeDc : (Tryd.prog.info? 38).map (·.size) = some 9 := by kernel_rfl
theorem manyDc (k : Int) (nm ot nu va un : ByteArray) (A : Option Addr) (n c : Nat) (pl at' : Int) : Many Tryd.prog 38 (dcC k nm ot nu va un A n c pl at').size := ⟨sizeDc, _, Tryd.underlying38, rfl⟩
def DsR (w : World) (xs : List DS) : Prop := ∀ x ∈ xs, TreR w x.A x.n x.c x.d.tr
theorem DsR.below {w w' : World} {xs : List DS} (h : DsR w xs) (hb : Below w.heap.size w w') : DsR w' xs := fun x hx => (h x hx).below hb
def DcR (w : World) (A : Option Addr) (n c : Nat) (ds : List Dc) : Prop := ∃ xs : List DS, xs.map DS.d = ds ∧ n = xs.length ∧ n ≤ c ∧ c ≤ maxLen ∧ DsR w xs ∧ (0 < n → ∃ g o, A = some ⟨g, o, none⟩ ∧ g < w.heap.size ∧ ∀ i x, xs[i]? = some x → InV w g (o + i * 9) (dcV x))
theorem DcR.below {w w' : World} {A : Option Addr} {n c : Nat} {ds : List Dc} (h : DcR w A n c ds) (hb : Below w.heap.size w w') : DcR w' A n c ds := by
 obtain ⟨xs, h1, h2, h3, h4, h5, h6⟩ := h
 refine ⟨xs, h1, h2, h3, h4, h5.below hb, fun h0 => ?_⟩
 obtain ⟨g, o, e, hg, hc⟩ := h6 h0
 exact ⟨g, o, e, Nat.lt_of_lt_of_le hg hb.size, fun i x hx => (hc i x hx).below hg hb⟩
theorem DcR.len {w : World} {A : Option Addr} {n c : Nat} {ds : List Dc} (h : DcR w A n c ds) : n = ds.length := by
 obtain ⟨xs, h1, h2, _⟩ := h
 rw [← h1, List.length_map]; exact h2
theorem DcR.at {w : World} {A : Option Addr} {n c : Nat} {ds : List Dc} (h : DcR w A n c ds) {i : Nat} {d : Dc} (hi : ds[i]? = some d) : ∃ g o B m k, A = some ⟨g, o, none⟩ ∧ g < w.heap.size ∧ InV w g (o + i * 9) (dcV ⟨d, B, m, k⟩) ∧ TreR w B m k d.tr := by
 obtain ⟨xs, h1, h2, h3, h4, h5, h6⟩ := h
 subst h1
 rw [List.getElem?_map] at hi
 obtain ⟨x, hx, rfl⟩ := Option.map_eq_some_iff.1 hi
 obtain ⟨g, o, e, hg, hc⟩ := h6 (by have := (List.getElem?_eq_some_iff.1 hx).1; omega)
 exact ⟨g, o, x.A, x.n, x.c, e, hg, hc i x hx, h5 x (List.mem_of_getElem? hx)⟩
theorem DcR.nil (w : World) {A : Option Addr} {c : Nat} (hc : c ≤ maxLen) : DcR w A 0 c [] := ⟨[], rfl, rfl, Nat.zero_le _, hc, fun x hx => (by cases hx), fun h => absurd h (by omega)⟩
theorem DcR.take {w : World} {A : Option Addr} {n c : Nat} {ds : List Dc} (h : DcR w A n c ds) {m : Nat} (hm : m ≤ n) : DcR w A m c (ds.take m) := by
 obtain ⟨xs, h1, h2, h3, h4, h5, h6⟩ := h
 refine ⟨xs.take m, by rw [List.map_take, h1], by rw [List.length_take]; omega, by omega, h4, fun x hx => h5 x (List.mem_of_mem_take hx), fun h0 => ?_⟩
 obtain ⟨g, o, e, hg, hc⟩ := h6 (by omega)
 refine ⟨g, o, e, hg, fun i x hx => hc i x ?_⟩
 rw [List.getElem?_take] at hx
 split at hx
 · exact hx
 · cases hx
def OwnD (w : World) (B : Nat) (A : Option Addr) (n c : Nat) (xs : List DS) : Prop := n = xs.length ∧ OwnR w B 38 9 A n c (dcCells xs)
theorem OwnD.below {w w' : World} {B n c : Nat} {A : Option Addr} {xs : List DS} (h : OwnD w B A n c xs) (hb : Below w.heap.size w w') : OwnD w' B A n c xs := ⟨h.1, h.2.below hb⟩
theorem OwnD.row {w : World} {B n c : Nat} {A : Option Addr} {xs : List DS} (h : OwnD w B A n c xs) (hd : DsR w xs) : DcR w A n c (xs.map DS.d) := by
 refine ⟨xs, rfl, h.1, h.2.caps.1, h.2.caps.2, hd, fun h0 => ?_⟩
 obtain ⟨g, e, _, h4, _, h5, h6⟩ := h.2.cells h0
 exact ⟨g, 0, e, h4, fun i x hx j v hj => by rw [Nat.zero_add]; exact h6 _ _ (dcCells_at hx j v hj)⟩
theorem OwnD.inV {w : World} {B n c g : Nat} {xs : List DS} (h : OwnD w B (some ⟨g, 0, none⟩) n c xs) {i : Nat} {x : DS} (hx : xs[i]? = some x) : InV w g (i * 9) (dcV x) := by
 obtain ⟨g3, e3, _, _, _, _, h6⟩ := h.2.cells (by have := (List.getElem?_eq_some_iff.1 hx).1; have := h.1; omega)
 cases e3
 exact fun j v hj => h6 _ _ (dcCells_at hx j v hj)
theorem OwnD.free {w : World} {B n c g : Nat} {xs : List DS} (h : OwnD w B (some ⟨g, 0, none⟩) n c xs) (j : Nat) : w.frozen? ⟨g, j, none⟩ = false := by
 rcases h.2.2 with ⟨hv, _⟩ | ⟨g2, cap, cur, hv, hB, hg, _⟩
 · cases hv
 · injection hv with h1 h2 h3
   injection h1 with h1
   injection h1 with h1
   subst h1
   exact RowA.free (show RowA w g 38 cur from hg) j
theorem dcCells_set {xs : List DS} {i r : Nat} {x y : DS} {v : Value} (hx : xs[i]? = some x) (hr : r < 9) (hy : (dcV x).toList.set r v = (dcV y).toList) : (dcCells xs).set (i * 9 + r) v = dcCells (xs.set i y) := by
 induction xs generalizing i with
 | nil => simp at hx
 | cons z xs ih =>
  have e : ∀ z xs, dcCells (z :: xs) = (dcV z).toList ++ dcCells xs := fun _ _ => rfl
  cases i with
  | zero =>
   obtain rfl : z = x := by simpa using hx
   rw [List.set_cons_zero, e, e, Nat.zero_mul, Nat.zero_add, List.set_append_left _ _ (by show r < 9; exact hr), hy]
  | succ i =>
   rw [List.set_cons_succ, e, e, List.set_append_right _ _ (by show 9 ≤ _; omega), show (i + 1) * 9 + r - (dcV z).toList.length = i * 9 + r by show (i + 1) * 9 + r - 9 = _; omega, ih (by simpa using hx)]
theorem OwnD.set {w : World} {B n c g : Nat} {xs : List DS} (h : OwnD w B (some ⟨g, 0, none⟩) n c xs) {i r : Nat} {x y : DS} {v : Value} (hx : xs[i]? = some x) (hr : r < 9) (hy : (dcV x).toList.set r v = (dcV y).toList) : OwnD (w.setCell ⟨g, i * 9 + r, none⟩ v) B (some ⟨g, 0, none⟩) n c (xs.set i y) := by
 refine ⟨by rw [List.length_set]; exact h.1, ?_⟩
 rw [← dcCells_set hx hr hy]
 have hi := (List.getElem?_eq_some_iff.1 hx).1
 exact h.2.set (by rw [len_dcCells]; omega) v
end Go.Proofs.YtheaepceghnkpabDoor

/- Rows of a call's own beside rows of another type. No condition. -/
namespace Go.Proofs.YtheaepceghnkpabDoor
open Go.RowKit Limb
set_option linter.unusedVariables false
theorem OwnR.differ {w : World} {B sz n c g : Nat} {e T : TypeId} {A : Option Addr} {xs : List Value} {V : Array Value} (h : OwnR w B e sz A n c xs) (hr : RowA w g T V) (ht : T ≠ e) : Value.ownBlock (.slice A n c) ≠ some g := by
 rcases h.2 with ⟨hv, h0⟩ | ⟨g2, cap, cur, hv, hB, hg, _⟩
 · rw [hv]; intro h; cases h
 · rw [hv]
   intro e2
   have e3 : g2 = g := by injection e2
   subst e3
   unfold RowA at hr
   have h1 := hg.symm.trans hr
   injection h1 with h1
   injection h1 with _ h2 _
   exact ht h2.symm
theorem OwnR.over {w w' : World} {B sz n c : Nat} {e : TypeId} {A : Option Addr} {xs : List Value} {r : Option Nat} (h : OwnR w B e sz A n c xs) (hg : w.grownBy w' r) (hr : ∀ q, r = some q → Value.ownBlock (.slice A n c) ≠ some q) : OwnR w' B e sz A n c xs := by
 refine ⟨h.1, ?_⟩
 rcases h.2 with h1 | ⟨g, cap, cur, hv, hB, hgc, hrest⟩
 · exact .inl h1
 · refine .inr ⟨g, cap, cur, hv, hB, ?_, hrest⟩
   have hlt : g < w.heap.size := by
    rcases Nat.lt_or_ge g w.heap.size with h | h
    · exact h
    · rw [Array.getElem?_eq_none h] at hgc; cases hgc
   rw [← hgc]
   refine hg.block g hlt fun e2 => hr g e2.symm ?_
   rw [hv]; rfl
def OwnX (w : World) (A : Option Addr) (n c : Nat) (ts : List Nd) : Prop := ∃ B, OwnT w B A n c ts
theorem OwnT.x {w : World} {B n c : Nat} {A : Option Addr} {ts : List Nd} (h : OwnT w B A n c ts) : OwnX w A n c ts := ⟨B, h⟩
theorem OwnX.tree {w : World} {n c : Nat} {A : Option Addr} {ts : List Nd} (h : OwnX w A n c ts) : TreR w A n c ts := by obtain ⟨B, h⟩ := h; exact h.tree
theorem OwnX.below {w w' : World} {n c : Nat} {A : Option Addr} {ts : List Nd} (h : OwnX w A n c ts) (hb : Below w.heap.size w w') : OwnX w' A n c ts := by obtain ⟨B, h⟩ := h; exact ⟨B, h.below hb⟩
theorem OwnX.over {w w' : World} {n c g : Nat} {A : Option Addr} {ts : List Nd} {T : TypeId} {V : Array Value} (h : OwnX w A n c ts) (hr : RowA w g T V) (ht : T ≠ 43) (hg : w.grownBy w' (some g)) : OwnX w' A n c ts := by
 obtain ⟨B, h1, h2⟩ := h
 exact ⟨B, h1, h2.over hg fun q hq => by injection hq with hq; subst hq; exact h2.differ hr ht⟩
theorem OwnX.nil (w : World) : OwnX w none 0 0 [] := ⟨0, rfl, OwnR.nil _ _ _ _⟩
def DsO (w : World) (xs : List DS) : Prop := ∀ x ∈ xs, OwnX w x.A x.n x.c x.d.tr
theorem DsO.below {w w' : World} {xs : List DS} (h : DsO w xs) (hb : Below w.heap.size w w') : DsO w' xs := fun x hx => (h x hx).below hb
theorem DsO.over {w w' : World} {xs : List DS} {g : Nat} {T : TypeId} {V : Array Value} (h : DsO w xs) (hr : RowA w g T V) (ht : T ≠ 43) (hg : w.grownBy w' (some g)) : DsO w' xs := fun x hx => (h x hx).over hr ht hg
theorem DsO.dsr {w : World} {xs : List DS} (h : DsO w xs) : DsR w xs := fun x hx => (h x hx).tree
theorem DsO.snoc {w : World} {xs : List DS} (h : DsO w xs) {x : DS} (hx : OwnX w x.A x.n x.c x.d.tr) : DsO w (xs ++ [x]) := fun y hy => by
 rcases List.mem_append.1 hy with hy | hy
 · exact h y hy
 · rw [List.mem_singleton.1 hy]; exact hx
theorem OwnD.rowA {w : World} {B n c : Nat} {A : Option Addr} {xs : List DS} (h : OwnD w B A n c xs) {g : Nat} (hg : Value.ownBlock (.slice A n c) = some g) : ∃ V, RowA w g 38 V := by
 rcases h.2.2 with ⟨hv, h0⟩ | ⟨g2, cap, cur, hv, hB, hgc, _⟩
 · rw [hv] at hg; cases hg
 · rw [hv] at hg
   have e3 : g2 = g := by injection hg
   subst e3
   exact ⟨cur, hgc⟩
theorem td_tn : 38 ≠ 43 := by decide
theorem DsO.grown {w w' : World} {B n c : Nat} {A : Option Addr} {xs ys : List DS} (h : DsO w ys) (ho : OwnD w B A n c xs) (hg : w.grownBy w' (Value.ownBlock (.slice A n c))) : DsO w' ys := by
 intro y hy
 obtain ⟨B2, h1, h2⟩ := h y hy
 refine ⟨B2, h1, h2.over hg fun q hq => ?_⟩
 obtain ⟨V, hr⟩ := ho.rowA hq
 exact h2.differ hr td_tn
theorem OwnX.grown {w w' : World} {B n c m d : Nat} {A C : Option Addr} {xs : List DS} {ts : List Nd} (h : OwnX w C m d ts) (ho : OwnD w B A n c xs) (hg : w.grownBy w' (Value.ownBlock (.slice A n c))) : OwnX w' C m d ts := by
 obtain ⟨B2, h1, h2⟩ := h
 refine ⟨B2, h1, h2.over hg fun q hq => ?_⟩
 obtain ⟨V, hr⟩ := ho.rowA hq
 exact h2.differ hr td_tn
theorem grown_set (w : World) (g k : Nat) (v : Value) : w.grownBy (w.setCell ⟨g, k, none⟩ v) (some g) :=
 ⟨rfl, rfl, rfl, by simp, fun i _ hr => Below.heap_setCell w _ v i (fun e => hr (by subst e; rfl))⟩
theorem DsO.set {w : World} {B n c g k : Nat} {xs ys : List DS} {v : Value} (h : DsO w ys) (ho : OwnD w B (some ⟨g, 0, none⟩) n c xs) : DsO (w.setCell ⟨g, k, none⟩ v) ys := by
 obtain ⟨V, hr⟩ := ho.rowA (g := g) rfl
 exact h.over hr td_tn (grown_set w g k v)
theorem OwnX.set {w : World} {B n c g k m d : Nat} {A : Option Addr} {xs : List DS} {ts : List Nd} {v : Value} (h : OwnX w A m d ts) (ho : OwnD w B (some ⟨g, 0, none⟩) n c xs) : OwnX (w.setCell ⟨g, k, none⟩ v) A m d ts := by
 obtain ⟨V, hr⟩ := ho.rowA (g := g) rfl
 exact h.over hr td_tn (grown_set w g k v)
end Go.Proofs.YtheaepceghnkpabDoor
