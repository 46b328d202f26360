/- Part 6 of the texts that the statements of this seat lean on: mathematics, and what functions answer, as contracts over memory; each part says its own conditions. -/
import Derived.Test.YtannifhcjcbkcaaGreatDoorMB5
set_option linter.unusedVariables false
set_option maxHeartbeats 8000000
namespace Go.Proofs.YtannifhcjcbkcaaGreatDoor
open Go.RowKit Limb
open Lib (hid)
def xj7 (p : Bool) (l : List Nat) : List Nat := if p = true then 40 :: (l ++ [41]) else l
def unX (u : ByteArray) : List Nat := if u.size = 0 then [] else 32 :: 91 :: (bytesOf u ++ [93])
def sgX (k : Int) : List Nat := if xje k = true then [32, sgK k, 32] else [sgK k]
def Fm.txt : Fm → List Nat
 | .lit s u => bytesOf s ++ unX u
 | .ref s => bytesOf s
 | .two k a b => xj7 (!xje k && xje a.kind) a.txt ++ (sgX k ++ xj7 (if xje k = true then xje b.kind else xq8 b.kind) b.txt)
 | .neg a => 45 :: xj7 (xq8 a.kind) a.txt
 | .pow j a => xj7 (!xwr a) a.txt ++ 94 :: zT j
abbrev TkA : Tk → Tk → Prop := TkR fun _ _ => True
def Rd (l : List Nat) (ts : List Tk) (S : List Nat → Prop) : Prop := ∀ a r, S r → ∃ us, lexG a (l ++ r) = appL us (lexG (a + l.length) r) ∧ All2 TkA us ts
theorem appL_app (us vs : List Tk) (r : LR) : appL us (appL vs r) = appL (us ++ vs) r := by
 cases r with
 | ok l => show LR.ok _ = LR.ok _; rw [List.append_assoc]
 | bad p => rfl
theorem zjk (r : LR) : appL [] r = r := by cases r <;> rfl
theorem yvn (t : Tk) (r : LR) : consL t r = appL [t] r := by cases r <;> rfl
theorem Rd.app {l m : List Nat} {ts us : List Tk} {S T : List Nat → Prop} (h : Rd l ts S) (k : Rd m us T) (hs : ∀ r, T r → S (m ++ r)) : Rd (l ++ m) (ts ++ us) T := by
 intro a r hr;obtain ⟨x, h1, h2⟩ := h a (m ++ r) (hs r hr);obtain ⟨y, k1, k2⟩ := k (a + l.length) r hr;refine ⟨x ++ y, ?_, All2.app h2 k2⟩;rw [List.append_assoc, h1, k1, appL_app, List.length_append, Nat.add_assoc]
theorem Rd.mono {l : List Nat} {ts : List Tk} {S T : List Nat → Prop} (h : Rd l ts S) (hs : ∀ r, T r → S r) : Rd l ts T := fun a r hr => h a r (hs r hr)
theorem Rd.nil (S : List Nat → Prop) : Rd [] [] S := fun a r _ => ⟨[], by rw [List.nil_append, zjk]; rfl, .nil⟩
theorem tka (k : Nat) (s : List Nat) (p q : Nat) : TkA (k, s, p) (k, s, q) := ⟨rfl, rfl, trivial⟩
theorem Rd.sg {c : Nat} (h : isSg c = true) (S : List Nat → Prop) : Rd [c] [(3, [c], 0)] S := fun a r _ => ⟨[(3, [c], a)], by rw [List.cons_append, List.nil_append, lexG_sg h, yvn]; rfl, .one (tka _ _ _ _)⟩
theorem Rd.bl (S : List Nat → Prop) : Rd [32] [] S := fun a r _ => ⟨[], by rw [List.cons_append, List.nil_append, lexG_bl (by decide), zjk]; rfl, .nil⟩
theorem Rd.wd {w : List Nat} (h : yqx w = true) : Rd w [(1, w, 0)] yqz := fun a r hr => ⟨[(1, w, a)], by
 rw [lexG_wd h ?_ a, yvn];rcases hr with rfl | ⟨d, q, rfl, h1, h2, h3⟩
 · exact .inl rfl
 · exact .inr ⟨d, q, rfl, by unfold yvc; rw [h1, h3]; rfl⟩, .one (tka _ _ _ _)⟩
theorem Rd.num {w : List Nat} (h : xq0 w = true) : Rd w [(2, w, 0)] yqz := fun a r hr => ⟨[(2, w, a)], by rw [lexG_num h hr a, yvn], .one (tka _ _ _ _)⟩
theorem Rd.un {u : List Nat} (hu : u.all yqg = true) (h1 : 1 ≤ u.length) (h2 : u.length ≤ 200) (S : List Nat → Prop) : Rd (91 :: (u ++ [93])) [(4, u, 0)] S := fun a r _ => ⟨[(4, u, a)], by
 rw [show (91 :: (u ++ [93]) ++ r : List Nat) = 91 :: (u ++ 93 :: r) by simp, lexG_un hu h1 h2 a, yvn, show (91 :: (u ++ [93]) : List Nat).length = u.length + 2 by simp], .one (tka _ _ _ _)⟩
theorem xw6 {c : Nat} (h : xq2 c = false ∧ c ≠ 46 ∧ yjv c = false) (r : List Nat) : yqz (c :: r) := .inr ⟨c, r, rfl, h⟩
theorem Rd.brk {l : List Nat} {ts : List Tk} (h : Rd l ts yqz) (p : Bool) : Rd (xj7 p l) (brkT p ts) yqz := by
 cases p with
 | false => exact h
 | true =>
  have h1 := (Rd.sg (c := 40) (by decide) (fun _ => True)).app (h.app (Rd.sg (c := 41) (by decide) yqz) (fun r _ => xw6 (by decide) r)) (fun _ _ => trivial);exact h1
theorem sg_Rd {k : Int} (hk : xq8 k = true) : Rd (sgX k) [(3, [sgK k], 0)] (fun _ => True) ∧ ∀ r, yqz (sgX k ++ r) := by
 have h36 := twoK_iff.1 hk;have h : k = 3 ∨ k = 4 ∨ k = 5 ∨ k = 6 := by omega
 have bl := Rd.bl (fun _ => True);rcases h with rfl | rfl | rfl | rfl
 · exact ⟨bl.app ((Rd.sg (c := 43) (by decide) (fun _ => True)).app bl (fun _ _ => trivial)) (fun _ _ => trivial), fun r => xw6 (c := 32) (by decide) _⟩
 · exact ⟨bl.app ((Rd.sg (c := 45) (by decide) (fun _ => True)).app bl (fun _ _ => trivial)) (fun _ _ => trivial), fun r => xw6 (c := 32) (by decide) _⟩
 · exact ⟨Rd.sg (c := 42) (by decide) (fun _ => True), fun r => xw6 (c := 42) (by decide) _⟩
 · exact ⟨Rd.sg (c := 47) (by decide) (fun _ => True), fun r => xw6 (c := 47) (by decide) _⟩
theorem unit_all {u : ByteArray} (h : xjt u = true) : (bytesOf u).all yqg = true ∧ u.size ≤ 200 := by
 unfold xjt at h;rw [Bool.and_eq_true, decide_eq_true_eq, List.all_eq_true] at h;refine ⟨?_, h.1⟩;rw [List.all_eq_true];intro c hc;have := h.2 c hc;unfold yqg
 simpa [not_or] using this
theorem zT_Rd {j : Int} (h1 : -64 ≤ j) (h2 : j ≤ 64) : Rd (zT j) (zTk j) yqz := by
 obtain ⟨_, hg⟩ := small_dec j.natAbs (by omega);unfold zT zTk;by_cases h0 : j < 0
 · rw [if_pos h0, if_pos h0];exact (Rd.sg (c := 45) (by decide) (fun _ => True)).app (Rd.num hg) (fun _ _ => trivial)
 · rw [if_neg h0, if_neg h0];exact Rd.num hg
theorem yj9 : ∀ f : Fm, f.Ok → Rd f.txt f.tks yqz
 | .lit s u, h => by
  unfold Fm.txt Fm.tks unX;by_cases hu : u.size = 0
  · rw [if_pos hu, if_pos hu, List.append_nil];exact Rd.num h.1
  · rw [if_neg hu, if_neg hu];obtain ⟨h1, h2⟩ := unit_all h.2;have hl := xqe u;exact (Rd.num h.1).app ((Rd.bl (fun _ => True)).app (Rd.un h1 (by omega) (by omega) yqz) (fun _ _ => trivial)) (fun r _ => xw6 (c := 32) (by decide) _)
 | .ref s, h => Rd.wd (isNam_word h)
 | .two k a b, h => by
  obtain ⟨s1, s2⟩ := sg_Rd h.1;have ha := (yj9 a h.2.1).brk (!xje k && xje a.kind);have hb := (yj9 b h.2.2).brk (if xje k = true then xje b.kind else xq8 b.kind);unfold Fm.txt Fm.tks;exact ha.app (s1.app hb (fun _ _ => trivial)) (fun r _ => by rw [List.append_assoc]; exact s2 _)
 | .neg a, h => (Rd.sg (c := 45) (by decide) (fun _ => True)).app ((yj9 a h).brk (xq8 a.kind)) (fun _ _ => trivial)
 | .pow j a, h => by
  have ha := (yj9 a h.2.2).brk (!xwr a);unfold Fm.txt Fm.tks;exact ha.app ((Rd.sg (c := 94) (by decide) (fun _ => True)).app (zT_Rd h.1 h.2.1) (fun _ _ => trivial)) (fun r _ => xw6 (c := 94) (by decide) _)
theorem Rd.whole {l : List Nat} {ts : List Tk} (h : Rd l ts yqz) : ∃ us, lexT l = .ok us ∧ All2 TkA us ts := by
 obtain ⟨us, h1, h2⟩ := h 0 [] (.inl rfl);rw [List.append_nil, lexG_nil] at h1;refine ⟨us, ?_, h2⟩;rw [lexT_G, h1];show LR.ok (us ++ []) = _;rw [List.append_nil]
theorem tka_symm {us ts : List Tk} (h : All2 TkA us ts) : All2 TkA ts us := by
 induction h with
 | nil => exact .nil
 | cons h1 _ ih => exact .cons ⟨h1.1.symm, h1.2.1.symm, trivial⟩ ih
theorem le_refl (L : Lim) : L.le L := ⟨Nat.le_refl _, Nat.le_refl _, Nat.le_refl _⟩
theorem yjt {l : List Nat} (h : Bytes l) (p : Bool) : Bytes (xj7 p l) := by
 cases p with
 | false => exact h
 | true =>
  intro c hc;unfold xj7 at hc;simp only [if_true, List.mem_cons, List.mem_append, List.not_mem_nil, or_false] at hc;rcases hc with rfl | hc | rfl
  · decide
  · exact h c hc
  · decide
theorem xjj {l m : List Nat} (h : Bytes l) (k : Bytes m) : Bytes (l ++ m) := fun c hc => (List.mem_append.1 hc).elim (h c) (k c)
theorem xqm {c : Nat} {l : List Nat} (h : c < 256) (k : Bytes l) : Bytes (c :: l) := fun d hd => (List.mem_cons.1 hd).elim (fun e => e ▸ h) (k d)
theorem yq4 : ∀ f : Fm, Bytes f.txt
 | .lit s u => by
  refine xjj (xjg s) ?_;unfold unX
  split
  · exact fun c hc => by cases hc
  · exact xqm (by decide) (xqm (by decide) (xjj (xjg u) (xqm (by decide) fun c hc => by cases hc)))
 | .ref s => xjg s
 | .two k a b => by
  refine xjj (yjt (yq4 a) _) (xjj ?_ (yjt (yq4 b) _));have hs : sgK k < 256 := by
   unfold sgK
   repeat' split
   all_goals decide
  unfold sgX
  split
  · exact xqm (by decide) (xqm hs (xqm (by decide) fun c hc => by cases hc))
  · exact xqm hs fun c hc => by cases hc
 | .neg a => xqm (by decide) (yjt (yq4 a) _)
 | .pow j a => xjj (yjt (yq4 a) _) (xqm (by decide) (zT_bytes j))
theorem scrT_like {L : Lim} {en en' : Nat} {us ts : List Tk} (hu : All2 TkA us ts) {ds : List Dc} {m : Nat} (h : ywh L en ts.length 0 ts 0 = .ok ds [] m) : ∃ es, ywh L en' us.length 0 us 0 = .ok es [] m ∧ es.map xj8 = ds.map xj8 := by
 have hq := scrT_q (P := fun _ _ => True) (le_refl L) en en' 0 ts.length (Nat.le_refl 0) (tka_symm hu) 0;rw [Nat.add_zero, h, ← hu.len] at hq;rcases hq with ⟨p, hq⟩ | ⟨a, q, m1, a', q', e1, e2, e3, e4⟩ | ⟨e, p, p', e1, e2⟩
 · cases hq
 · injection e1 with e5 e6 e7
   subst e5 e6;cases e4
   rw [e2];exact ⟨a', by rw [e7]; rfl, (bareL_q e3).symm⟩
 · cases e1
theorem xz8 {l : List Nat} {ts : List Tk} {S : List Nat → Prop} (h : Rd l ts S) : Rd (32 :: l) ts S := (Rd.bl (fun _ => True)).app h (fun _ _ => trivial)
theorem rd_sg (c : Nat) (hc : isSg c = true) {l : List Nat} {ts : List Tk} {S : List Nat → Prop} (h : Rd l ts S) : Rd (c :: l) ((3, [c], 0) :: ts) S := (Rd.sg hc (fun _ => True)).app h (fun _ _ => trivial)
theorem s32 (l r : List Nat) : yqz ((32 :: l) ++ r) := xw6 (c := 32) (by decide) _
abbrev PrT := List (List Nat × Int)
def prAt (P : PrT) (c : Int) : List Nat × Int := P.getD c.toNat ([], 0)
def prX (P : PrT) (x : Nd) : List Nat :=
 if x.k = 1 then bytesOf x.t ++ unX x.u
 else if x.k = 2 then bytesOf x.t
 else if xq8 x.k = true then xj7 (!xje x.k && xje (prAt P x.a).2) (prAt P x.a).1 ++ (sgX x.k ++ xj7 (if xje x.k = true then xje (prAt P x.b).2 else xq8 (prAt P x.b).2) (prAt P x.b).1)
 else if x.k = 7 then 45 :: xj7 (xq8 (prAt P x.a).2) (prAt P x.a).1
 else xj7 (!(decide ((prAt P x.a).2 = 1) || decide ((prAt P x.a).2 = 2))) (prAt P x.a).1 ++ 94 :: zT x.n
def prS (P : PrT) (x : Nd) : List Nat × Int := (prX P x, x.k)
def prF (P : PrT) : List Nd → PrT
 | [] => P
 | x :: r => prF (P ++ [prS P x]) r
theorem yvy (P : PrT) (a b : List Nd) : prF P (a ++ b) = prF (prF P a) b := by induction a generalizing P with
 | nil => rfl
 | cons x r ih => exact ih _
theorem prF_len (ts : List Nd) : ∀ P : PrT, (prF P ts).length = P.length + ts.length := by induction ts with
 | nil => intro P; rfl
 | cons x r ih => intro P; show (prF (P ++ [prS P x]) r).length = _; rw [ih, List.length_append, List.length_cons]; simp; omega
theorem prF_bare (ts : List Nd) : ∀ P : PrT, prF P (ts.map xjs) = prF P ts := by induction ts with
 | nil => intro P; rfl
 | cons x r ih => intro P; show prF (P ++ [prS P (xjs x)]) (r.map xjs) = prF (P ++ [prS P x]) r; rw [ih]; rfl
theorem prF_next {ts : List Nd} {i : Nat} {x : Nd} (hx : ts[i]? = some x) : prF [] (ts.take (i + 1)) = prF [] (ts.take i) ++ [prS (prF [] (ts.take i)) x] := by
 rw [List.take_add_one, hx, yvy]; rfl
theorem prAt_of {P Q : PrT} {c : Int} {j : Nat} {v : List Nat × Int} (hc : c = ((P.length + j : Nat) : Int)) (hj : Q[j]? = some v) (R : PrT) : prAt (P ++ Q ++ R) c = v := by
 unfold prAt;rw [hc, Int.toNat_natCast, List.getD_eq_getElem?_getD, List.append_assoc, List.getElem?_append_right (by omega), Nat.add_sub_cancel_left, List.getElem?_append_left (List.getElem?_eq_some_iff.1 hj).1, hj]; rfl
theorem prF_fm : ∀ (f : Fm), f.Ok → ∀ P : PrT, ∃ Q, prF P (f.nds.map (xqj P.length)) = P ++ Q ∧ Q.length = f.size ∧ Q[f.size - 1]? = some (f.txt, f.kind) ∧ ∀ v ∈ Q, v.1.length ≤ f.txt.length
 | .lit s u, _, P => by
  refine ⟨[((Fm.lit s u).txt, 1)], ?_, rfl, rfl, fun v hv => by rw [List.mem_singleton.1 hv]; exact Nat.le_refl _⟩;show prF P [xqj _ _] = _;rw [xju rfl rfl]; rfl
 | .ref s, _, P => by
  refine ⟨[((Fm.ref s).txt, 2)], ?_, rfl, rfl, fun v hv => by rw [List.mem_singleton.1 hv]; exact Nat.le_refl _⟩;show prF P [xqj _ _] = _;rw [xju rfl rfl]; rfl
 | .two k a b, h, P => by
  obtain ⟨Qa, a1, a2, a3, a4⟩ := prF_fm a h.2.1 P;obtain ⟨Qb, b1, b2, b3, b4⟩ := prF_fm b h.2.2 (P ++ Qa);have hk := h.1;have h36 := twoK_iff.1 hk;have pa := a.pos;have pb := b.pos;have hla : (P ++ Qa).length = P.length + a.nds.length := by rw [List.length_append, a2, a.len]
  refine ⟨Qa ++ Qb ++ [((Fm.two k a b).txt, k)], ?_, ?_, ?_, ?_⟩
  · show prF P ((xwf k a.nds b.nds 0).map _) = _;unfold xwf;rw [List.map_append, List.map_append, List.map_map, yvy, yvy, a1];have e : b.nds.map (xqj P.length ∘ xqj a.nds.length) = b.nds.map (xqj (P ++ Qa).length) := by
     refine List.map_congr_left fun y _ => ?_
     show xqj _ (xqj _ y) = _;rw [yze, hla, Nat.add_comm]
    rw [e, b1];show prF (P ++ Qa ++ Qb) [xqj _ _] = _;rw [xzu hk];show P ++ Qa ++ Qb ++ [prS _ _] = _;have e1 : prAt (P ++ Qa ++ Qb) ((a.nds.length : Int) - 1 + (P.length : Int)) = (a.txt, a.kind) := prAt_of (by rw [a.len]; omega) a3 Qb;have e2 : prAt (P ++ Qa ++ Qb) ((a.nds.length : Int) + (b.nds.length : Int) - 1 + (P.length : Int)) = (b.txt, b.kind) := by
     have := prAt_of (P := P ++ Qa) (Q := Qb) (c := (a.nds.length : Int) + (b.nds.length : Int) - 1 + (P.length : Int)) (j := b.size - 1) (by rw [hla, b.len]; omega) b3 []
     rwa [List.append_nil] at this
    have e3 : prS (P ++ Qa ++ Qb) ⟨k, (a.nds.length : Int) - 1 + (P.length : Int), (a.nds.length : Int) + (b.nds.length : Int) - 1 + (P.length : Int), 0, ⟨#[]⟩, ⟨#[]⟩, 0⟩ = ((Fm.two k a b).txt, k) := by
     unfold prS prX;dsimp only;rw [if_neg (by omega), if_neg (by omega), if_pos hk, e1, e2]; rfl
    exact (congrArg (fun v => P ++ Qa ++ Qb ++ [v]) e3).trans (by simp)
  · rw [List.length_append, List.length_append, a2, b2]; rfl
  · show (Qa ++ Qb ++ [_])[a.size + b.size + 1 - 1]? = _;rw [List.getElem?_append_right (by rw [List.length_append, a2, b2]; omega), List.length_append, a2, b2, show a.size + b.size + 1 - 1 - (a.size + b.size) = 0 by omega]; rfl
  · have ht : a.txt.length ≤ (Fm.two k a b).txt.length ∧ b.txt.length ≤ (Fm.two k a b).txt.length := by
     show _ ≤ (_ ++ (_ ++ _) : List Nat).length ∧ _ ≤ (_ ++ (_ ++ _) : List Nat).length;have hb : ∀ p l, l.length ≤ (xj7 p l).length := fun p l => by cases p with
      | false => exact Nat.le_refl _
      | true => show _ ≤ (40 :: (l ++ [41])).length; simp; omega
     have h1 := hb (!xje k && xje a.kind) a.txt;have h2 := hb (if xje k = true then xje b.kind else xq8 b.kind) b.txt;simp only [List.length_append];omega
    intro v hv;rcases List.mem_append.1 hv with hv | hv
    · rcases List.mem_append.1 hv with hv | hv
      · have := a4 v hv; omega
      · have := b4 v hv; omega
    · rw [List.mem_singleton.1 hv]; exact Nat.le_refl _
 | .neg a, h, P => by
  obtain ⟨Qa, a1, a2, a3, a4⟩ := prF_fm a h P;have pa := a.pos;refine ⟨Qa ++ [((Fm.neg a).txt, 7)], ?_, ?_, ?_, ?_⟩
  · show prF P ((xva 7 0 a.nds 0).map _) = _;unfold xva;rw [List.map_append, yvy, a1];show prF (P ++ Qa) [xqj _ _] = _;rw [xzi (show oneK 7 = true by decide)];show P ++ Qa ++ [prS _ _] = _;have e1 : prAt (P ++ Qa) ((a.nds.length : Int) - 1 + (P.length : Int)) = (a.txt, a.kind) := by
     have := prAt_of (P := P) (Q := Qa) (c := (a.nds.length : Int) - 1 + (P.length : Int)) (j := a.size - 1) (by rw [a.len]; omega) a3 []
     rwa [List.append_nil] at this
    have e3 : prS (P ++ Qa) ⟨7, (a.nds.length : Int) - 1 + (P.length : Int), 0, 0, ⟨#[]⟩, ⟨#[]⟩, 0⟩ = ((Fm.neg a).txt, 7) := by
     unfold prS prX;dsimp only;rw [if_neg (by decide), if_neg (by decide), if_neg (by decide), if_pos rfl, e1]; rfl
    exact (congrArg (fun v => P ++ Qa ++ [v]) e3).trans (by simp)
  · rw [List.length_append, a2]; rfl
  · show (Qa ++ [_])[a.size + 1 - 1]? = _;rw [List.getElem?_append_right (by rw [a2]; omega), a2, show a.size + 1 - 1 - a.size = 0 by omega]; rfl
  · have ht : a.txt.length ≤ (Fm.neg a).txt.length := by
     show _ ≤ (45 :: xj7 _ a.txt : List Nat).length;cases xq8 a.kind with
     | false => simp [xj7]
     | true => simp [xj7]; omega
    intro v hv;rcases List.mem_append.1 hv with hv | hv
    · have := a4 v hv; omega
    · rw [List.mem_singleton.1 hv]; exact Nat.le_refl _
 | .pow j a, h, P => by
  obtain ⟨Qa, a1, a2, a3, a4⟩ := prF_fm a h.2.2 P;have pa := a.pos;refine ⟨Qa ++ [((Fm.pow j a).txt, 8)], ?_, ?_, ?_, ?_⟩
  · show prF P ((xva 8 j a.nds 0).map _) = _;unfold xva;rw [List.map_append, yvy, a1];show prF (P ++ Qa) [xqj _ _] = _;rw [xzi (show oneK 8 = true by decide)];show P ++ Qa ++ [prS _ _] = _;have e1 : prAt (P ++ Qa) ((a.nds.length : Int) - 1 + (P.length : Int)) = (a.txt, a.kind) := by
     have := prAt_of (P := P) (Q := Qa) (c := (a.nds.length : Int) - 1 + (P.length : Int)) (j := a.size - 1) (by rw [a.len]; omega) a3 []
     rwa [List.append_nil] at this
    have e3 : prS (P ++ Qa) ⟨8, (a.nds.length : Int) - 1 + (P.length : Int), 0, j, ⟨#[]⟩, ⟨#[]⟩, 0⟩ = ((Fm.pow j a).txt, 8) := by
     unfold prS prX;dsimp only;rw [if_neg (by decide), if_neg (by decide), if_neg (by decide), if_neg (by decide), e1]; rfl
    exact (congrArg (fun v => P ++ Qa ++ [v]) e3).trans (by simp)
  · rw [List.length_append, a2]; rfl
  · show (Qa ++ [_])[a.size + 1 - 1]? = _;rw [List.getElem?_append_right (by rw [a2]; omega), a2, show a.size + 1 - 1 - a.size = 0 by omega]; rfl
  · have ht : a.txt.length ≤ (Fm.pow j a).txt.length := by
     show _ ≤ (xj7 _ a.txt ++ _ : List Nat).length;cases xwr a with
     | false => simp [xj7]; omega
     | true => simp [xj7]
    intro v hv;rcases List.mem_append.1 hv with hv | hv
    · have := a4 v hv; omega
    · rw [List.mem_singleton.1 hv]; exact Nat.le_refl _
theorem prF_tree {ts : List Nd} {f : Fm} (hf : f.Ok) (h : ts.map xjs = f.nds) (hl : f.size = ts.length) : (prF [] ts).length = ts.length ∧ (prF [] ts)[ts.length - 1]? = some (f.txt, f.kind) ∧ ∀ v ∈ prF [] ts, v.1.length ≤ f.txt.length := by
 obtain ⟨Q, q1, q2, q3, q4⟩ := prF_fm f hf [];have e : f.nds.map (xqj ([] : PrT).length) = f.nds := map_shift0 f.nds;rw [e, List.nil_append, ← h, prF_bare] at q1;rw [q1];exact ⟨by rw [q2, hl], by rw [← hl]; exact q3, q4⟩
def wtN (x : Nd) : Nat := x.t.size + x.u.size + 8
theorem zqi : ∀ f : Fm, f.Ok → f.txt.length ≤ (f.nds.map wtN).sum
 | .lit s u, _ => by
  show (bytesOf s ++ unX u).length ≤ s.size + u.size + 8 + 0;unfold unX
  split
  · rw [List.append_nil, xqe]; omega
  · rw [List.length_append, xqe];simp [xqe]; omega
 | .ref s, _ => by
  show (bytesOf s).length ≤ s.size + _ + 8 + 0;rw [xqe]; omega
 | .two k a b, h => by
  have h1 := zqi a h.2.1;have h2 := zqi b h.2.2;have hb : ∀ p l, (xj7 p l).length ≤ l.length + 2 := fun p l => by cases p with
   | false => show l.length ≤ _; omega
   | true => show (40 :: (l ++ [41])).length ≤ _; simp
  have h3 := hb (!xje k && xje a.kind) a.txt;have h4 := hb (if xje k = true then xje b.kind else xq8 b.kind) b.txt;have h5 : (sgX k).length ≤ 3 := by unfold sgX; split <;> simp
  show (_ ++ (_ ++ _) : List Nat).length ≤ ((xwf k a.nds b.nds 0).map wtN).sum;unfold xwf;rw [List.map_append, List.map_append, List.sum_append, List.sum_append, List.map_map];have e : b.nds.map (wtN ∘ xqj a.nds.length) = b.nds.map wtN := List.map_congr_left fun y _ => by
   show wtN (xqj _ y) = wtN y;unfold wtN xqj
   split
   · rfl
   · split <;> rfl
  rw [e];have e2 : ([⟨k, (a.nds.length : Int) - 1, (a.nds.length : Int) + (b.nds.length : Int) - 1, 0, ⟨#[]⟩, ⟨#[]⟩, ((0 : Nat) : Int)⟩].map wtN).sum = 8 := rfl;rw [e2, List.length_append, List.length_append];have h6 : (sgX k).length + 4 ≤ 8 ∨ (xj7 (!xje k && xje a.kind) a.txt).length ≤ a.txt.length := by omega
  omega
 | .neg a, h => by
  have h1 := zqi a h;have hb : ∀ p l, (xj7 p l).length ≤ l.length + 2 := fun p l => by cases p with
   | false => show l.length ≤ _; omega
   | true => show (40 :: (l ++ [41])).length ≤ _; simp
  have h3 := hb (xq8 a.kind) a.txt;show (45 :: _ : List Nat).length ≤ ((xva 7 0 a.nds 0).map wtN).sum;unfold xva;rw [List.map_append, List.sum_append, List.length_cons];have e2 : ([⟨7, (a.nds.length : Int) - 1, 0, 0, ⟨#[]⟩, ⟨#[]⟩, ((0 : Nat) : Int)⟩].map wtN).sum = 8 := rfl;rw [e2]; omega
 | .pow j a, h => by
  have h1 := zqi a h.2.2;have hb : ∀ p l, (xj7 p l).length ≤ l.length + 2 := fun p l => by cases p with
   | false => show l.length ≤ _; omega
   | true => show (40 :: (l ++ [41])).length ≤ _; simp
  have h3 := hb (!xwr a) a.txt;have hz : (zT j).length ≤ 3 := by
   have hd : ∀ k : Fin 65, (yvt k.val).length ≤ 2 := by decide +kernel
   have h64 : j.natAbs < 65 := by have := h.1; have := h.2.1; omega
   have h9 : (yvt j.natAbs).length ≤ 2 := hd ⟨j.natAbs, h64⟩;unfold zT
   split
   · rw [List.length_cons]; omega
   · omega
  show (_ ++ 94 :: zT j : List Nat).length ≤ ((xva 8 j a.nds 0).map wtN).sum;unfold xva;rw [List.map_append, List.sum_append, List.length_append, List.length_cons];have e2 : ([⟨8, (a.nds.length : Int) - 1, 0, j, ⟨#[]⟩, ⟨#[]⟩, ((0 : Nat) : Int)⟩].map wtN).sum = 8 := rfl;rw [e2]; omega
theorem good_lt {l : List Nat} (h : xq0 l = true) : Bytes l := by
 intro c hc;obtain ⟨i, hi, rfl⟩ := List.getElem_of_mem hc;have hd : lim l i = l[i] := by unfold lim; rw [List.getD_eq_getElem?_getD, List.getElem?_eq_getElem hi]; rfl
 have := good_bytes h hi hd;rcases this with h | h | h | h <;> omega
theorem yv3 {b : List Nat} (h : yzu b = true) : xq0 b = true ∨ ∃ k, k < b.length ∧ lim b k = 47 ∧ xq0 (b.take k) = true ∧ xq0 (b.drop (k + 1)) = true ∧ ∀ i, i < k → lim b i ≠ 47 := by
 unfold yzu at h
 split at h
 · rename_i hk
   rw [Bool.and_eq_true] at h;have ht : b.take (b.takeWhile (· ≠ 47)).length = b.takeWhile (· ≠ 47) := xz5 b;refine .inr ⟨(b.takeWhile (· ≠ 47)).length, hk, ?_, by rw [ht]; exact h.1, h.2, fun i hi e => ?_⟩
   · have h9 := xw2 hk;have := yjj h9
     simpa using this
   · have h1 : lim (b.takeWhile (· ≠ 47)) i = lim b i := by
      rw [← ht];unfold lim;rw [List.getD_eq_getElem?_getD, List.getD_eq_getElem?_getD, List.getElem?_take_of_lt hi]
     have hm : lim (b.takeWhile (· ≠ 47)) i ∈ b.takeWhile (· ≠ 47) := by
      unfold lim;rw [List.getD_eq_getElem?_getD, List.getElem?_eq_getElem hi];exact List.getElem_mem hi
     have := yzx _ hm;rw [h1, e] at this;exact absurd this (by decide)
 · exact .inl h
theorem numH_bytes {b : List Nat} (h : yzu b = true) : Bytes b := by
 rcases yv3 h with h | ⟨k, h1, h2, h3, h4, _⟩
 · exact good_lt h
 · have e : b = b.take k ++ 47 :: b.drop (k + 1) := by
    have h5 := xw2 h1;rw [h2] at h5;rw [← h5, List.take_append_drop]
   rw [e];intro c hc;rcases List.mem_append.1 hc with hc | hc
   · exact good_lt h3 c hc
   · rcases List.mem_cons.1 hc with rfl | hc
     · decide
     · exact good_lt h4 c hc
theorem yv4 {s : List Nat} (h : ywj s = true) : (∃ r, s = 45 :: r ∧ yzu r = true) ∨ (∃ c r, s = c :: r ∧ c ≠ 45 ∧ yzu s = true) := by
 cases s with
 | nil => exact absurd h (by decide)
 | cons c r =>
  unfold ywj at h;by_cases hc : c = 45
  · have h2 : (if c = 45 then yzu r else yzu (c :: r)) = true := h;rw [if_pos hc] at h2;exact .inl ⟨r, by rw [hc], h2⟩
  · have h2 : (if c = 45 then yzu r else yzu (c :: r)) = true := h;rw [if_neg hc] at h2;exact .inr ⟨c, r, rfl, hc, h2⟩
theorem yjo {s : List Nat} (h : ywj s = true) : Bytes s := by
 rcases yv4 h with ⟨r, rfl, h⟩ | ⟨c, r, rfl, _, h⟩
 · intro d hd;rcases List.mem_cons.1 hd with rfl | hd
   · decide
   · exact numH_bytes h d hd
 · exact numH_bytes h
theorem zq6 {s : List Nat} (h : xjn s = true) : Bytes s := by
 have hw : yqx s = true := by unfold xjn at h; rw [Bool.and_eq_true] at h; exact h.1
 cases s with
 | nil => cases hw
 | cons c r =>
  unfold yqx at hw;simp only [Bool.and_eq_true] at hw;have lw : ∀ c, yvc c = true → c < 256 := fun c h => by
   unfold yvc yjv xq2 at h;simp at h; omega
  intro d hd;rcases List.mem_cons.1 hd with rfl | hd
  · exact lw _ (by unfold yvc; rw [hw.1.1]; rfl)
  · exact lw d (List.all_eq_true.1 hw.1.2 d hd)
theorem yj8 {u : List Nat} (h : unitG u = true) : Bytes u ∧ u.length ≤ 200 ∧ u.all yqg = true := by
 unfold unitG at h;simp only [Bool.and_eq_true, decide_eq_true_eq] at h;exact ⟨fun c hc => by have := List.all_eq_true.1 h.2 c hc; simpa using this, h.1.1, h.1.2⟩
def xzz (ts : List Nd) : List Nat := ((prF [] ts).getD (ts.length - 1) ([], 0)).1
theorem txtT_fm {ts : List Nd} {f : Fm} (hf : f.Ok) (h : ts.map xjs = f.nds) (hl : f.size = ts.length) : xzz ts = f.txt := by
 unfold xzz;rw [List.getD_eq_getElem?_getD, (prF_tree hf h hl).2.1]; rfl
theorem txtT_bare (ts : List Nd) : xzz (ts.map xjs) = xzz ts := by unfold xzz; rw [prF_bare, List.length_map]
def unP (u : List Nat) : List Nat := if u = [] then [] else 32 :: (91 :: (u ++ [93]))
def inP (u : List Nat) : List Nat := if u = [] then [] else 32 :: ([105, 110] ++ 32 :: (91 :: (u ++ [93])))
def wrdK (k : Int) : List Nat :=
 if k = 1 then [117, 110, 105, 116] else if k = 2 then [115, 111, 117, 114, 99, 101] else if k = 3 then [99, 111, 118] else if k = 4 then [108, 101, 116] else [111, 117, 116, 112, 117, 116]
def yzg (d : Dc) : List Nat :=
 if d.k = 1 then 61 :: 32 :: (d.nu ++ unP d.un)
 else if d.k = 2 then 61 :: 32 :: (d.nu ++ (unP d.un ++ 32 :: 58 :: 32 :: d.va))
 else if d.k = 3 then d.ot ++ 32 :: 61 :: 32 :: d.nu
 else if d.k = 4 then 61 :: 32 :: xzz d.tr
 else 61 :: 32 :: (xzz d.tr ++ (inP d.un ++ 32 :: 58 :: 32 :: zT d.pl))
def xvc (d : Dc) : List Nat := wrdK d.k ++ 32 :: (d.nm ++ 32 :: (yzg d ++ [32, 59, 10]))
def xja (ds : List Dc) : List Nat := ds.flatMap xvc
theorem restL_bare (d : Dc) : yzg (xj8 d) = yzg d := by unfold yzg xj8; dsimp only; rw [txtT_bare]
theorem lineL_bare (d : Dc) : xvc (xj8 d) = xvc d := by unfold xvc; rw [restL_bare]; rfl
theorem linesL_bare {ds es : List Dc} (h : ds.map xj8 = es.map xj8) : xja ds = xja es := by
 have e : ∀ l : List Dc, xja l = xja (l.map xj8) := fun l => by
  unfold xja;rw [List.flatMap_def, List.flatMap_def, List.map_map];exact congrArg List.flatten (List.map_congr_left fun d _ => (lineL_bare d).symm)
 rw [e ds, e es, h]
theorem num_rd {s : List Nat} (h : ywj s = true) : ∃ ts, Rd s ts yqz ∧ ∀ en r n, xqp 3 [47] r = false → numT en (ts ++ r) n = .ok s r n := by
 have hH : ∀ {b : List Nat}, yzu b = true → ∃ ts, Rd b ts yqz ∧ (∀ r, xqp 3 [45] (ts ++ r) = false) ∧ ∀ en pre r n, xqp 3 [47] r = false → numB en pre (ts ++ r) n = .ok (pre ++ b) r n := by
  intro b hb;rcases yv3 hb with h1 | ⟨k, h1, h2, h3, h4, _⟩
  · refine ⟨[(2, b, 0)], Rd.num h1, fun r => rfl, fun en pre r n hr => ?_⟩;unfold numB;show ((xjr en 2 [] ((2, b, 0) :: r) n).next _) = _;rw [xjo rfl, PaR.next_ok];dsimp only;rw [if_neg (by rw [hr]; decide)]
  · have e : b = b.take k ++ 47 :: b.drop (k + 1) := by
     have h5 := xw2 h1;rw [h2] at h5;rw [← h5, List.take_append_drop]
    refine ⟨[(2, b.take k, 0), (3, [47], 0), (2, b.drop (k + 1), 0)], ?_, fun r => rfl, fun en pre r n hr => ?_⟩
    · have := (Rd.num h3).app ((Rd.sg (c := 47) (by decide) (fun _ => True)).app (Rd.num h4) (fun _ _ => trivial)) (fun r _ => xw6 (c := 47) (by decide) _);rw [show b.take k ++ ([47] ++ b.drop (k + 1)) = b from e.symm] at this;exact this
    · unfold numB;show ((xjr en 2 [] ((2, b.take k, 0) :: (3, [47], 0) :: (2, b.drop (k + 1), 0) :: r) n).next _) = _;rw [xjo rfl, PaR.next_ok];dsimp only;rw [if_pos (show xqp 3 [47] ((3, [47], 0) :: (2, b.drop (k + 1), 0) :: r) = true from rfl)];show ((xjr en 2 [] ((2, b.drop (k + 1), 0) :: r) n).next _) = _;rw [xjo rfl, PaR.next_ok]
      conv => rhs; rw [e]
      simp
 rcases yv4 h with ⟨r0, rfl, h1⟩ | ⟨c, r0, rfl, hc, h1⟩
 · obtain ⟨ts, k1, k2, k3⟩ := hH h1;refine ⟨(3, [45], 0) :: ts, (Rd.sg (c := 45) (by decide) (fun _ => True)).app k1 (fun _ _ => trivial), fun en r n hr => ?_⟩;unfold numT;rw [if_pos (show xqp 3 [45] ((3, [45], 0) :: ts ++ r) = true from rfl)];show numB en [45] (ts ++ r) n = _;rw [k3 en [45] r n hr]; rfl
 · obtain ⟨ts, k1, k2, k3⟩ := hH h1;refine ⟨ts, k1, fun en r n hr => ?_⟩;unfold numT;rw [if_neg (by rw [k2 r]; decide), k3 en [] r n hr]; rfl
theorem formL_r {L : Lim} (h64 : L.power ≤ 64) (en : Nat) {f : Fm} (hf : f.Ok) (hp : f.Pw L.power) (hd : f.dep ≤ L.deep) {r : List Tk} (hr : EndM r) (ha : ∀ x q, r = x :: q → addO x = none) {n : Nat} (hn : n + f.size ≤ L.nodes) : yjx L en (f.tks ++ r) n = .ok f.nds r (n + f.size) := by
 have h := (zqj L en h64 f hf hp).form L.deep r n hd hr hn;rw [xvw L _ ha] at h;exact h
theorem pw64 : ∀ {f : Fm}, f.Ok → f.Pw 64
 | .lit _ _, _ => trivial
 | .ref _, _ => trivial
 | .two k a b, h => ⟨pw64 h.2.1, pw64 h.2.2⟩
 | .neg a, h => pw64 (f := a) h
 | .pow j a, h => ⟨by have := h.1; have := h.2.1; omega, pw64 h.2.2⟩
def DepD (d : Dc) (m : Nat) : Prop := d.tr = [] ∨ ∃ f : Fm, f.Ok ∧ d.tr.map xjs = f.nds ∧ f.size = d.tr.length ∧ f.dep ≤ m
theorem dep_any {d : Dc} (h : xq5 d.tr = true ∨ d.tr = []) : DepD d d.tr.length := by
 rcases h with h | h
 · obtain ⟨f, h1, h2, h3⟩ := good_fm h;have := (yvl f h1).1;exact .inr ⟨f, h1, h2, h3, by omega⟩
 · exact .inl h
theorem DepD.mono {d : Dc} {a b : Nat} (h : DepD d a) (hb : a ≤ b) : DepD d b := by
 rcases h with h | ⟨f, h1, h2, h3, h4⟩
 · exact .inl h
 · exact .inr ⟨f, h1, h2, h3, by omega⟩
theorem good_trD {d : Dc} (h : goodD d = true) : xq5 d.tr = true ∨ d.tr = [] := by
 unfold goodD at h;rw [Bool.and_eq_true] at h;have h := h.2
 split at h
 · simp only [Bool.and_eq_true, decide_eq_true_eq] at h;exact .inr (List.eq_nil_of_length_eq_zero h.1.2)
 · split at h
   · simp only [Bool.and_eq_true, decide_eq_true_eq] at h;exact .inr (List.eq_nil_of_length_eq_zero h.1.2)
   · split at h
     · simp only [Bool.and_eq_true, decide_eq_true_eq] at h;exact .inr (List.eq_nil_of_length_eq_zero h.1.2)
     · split at h
       · simp only [Bool.and_eq_true, decide_eq_true_eq] at h;exact .inl h.1.1.1.1.1
       · split at h
         · simp only [Bool.and_eq_true, decide_eq_true_eq] at h;exact .inl h.1.1.1.1.1
         · cases h
theorem isNam_wd {s : List Nat} (h : xjn s = true) : yqx s = true := isNam_word h
theorem pl_dec {j : Int} (h0 : 0 ≤ j) (h1 : j ≤ 60) : xq0 (zT j) = true ∧ xvk (zT j) 2 = some j.toNat := by
 have h : ∀ k : Fin 61, xq0 (zT (k.val : Int)) = true ∧ xvk (zT (k.val : Int)) 2 = some k.val := by decide +kernel
 have := h ⟨j.toNat, by omega⟩
 rwa [show ((j.toNat : Nat) : Int) = j by omega] at this
theorem yv8 (en : Nat) {k : Nat} (hk : k ≠ 3) {s : List Nat} (hs : xjn s = true) (r : List Tk) (n : Nat) : yqy en k ((1, s, 0) :: (3, [61], 0) :: r) n = .ok ⟨k, s, [], [], [], [], [], 0, (0 : Nat)⟩ r n := by
 unfold yqy;rw [xvj, if_pos ⟨rfl, hs⟩, PaR.next_ok];dsimp only;rw [if_neg hk, xjo rfl, PaR.next_ok]
theorem headT_3 (en : Nat) {s t : List Nat} (hs : xjn s = true) (ht : xjn t = true) (r : List Tk) (n : Nat) : yqy en 3 ((1, s, 0) :: (1, t, 0) :: (3, [61], 0) :: r) n = .ok ⟨(3 : Nat), s, t, [], [], [], [], 0, (0 : Nat)⟩ r n := by
 unfold yqy;rw [xvj, if_pos ⟨rfl, hs⟩, PaR.next_ok];dsimp only;rw [if_pos rfl, xvj, if_pos ⟨rfl, ht⟩, PaR.next_ok];dsimp only;rw [xjo rfl, PaR.next_ok]
theorem yqb (en : Nat) (d : Dc) (p : Nat) (r : List Tk) (n : Nat) : yq8 en d ((3, [59], p) :: r) n = .ok d r n := by
 unfold yq8;rw [xjo rfl, PaR.next_ok]
theorem endM_sg {c : Nat} (h : c ≠ 94) (hm : mulO (3, [c], 0) = none) (r : List Tk) : EndM ((3, [c], 0) :: r) := ⟨zjb h 0 r, fun x q e => by injection e with e _; subst e; exact hm⟩
theorem sg_end (c : Nat) (h : addO (3, [c], 0) = none) (r : List Tk) : ∀ x q, (3, [c], 0) :: r = x :: q → addO x = none := fun x q e => by injection e with e _; subst e; exact h
theorem rd_end : Rd [32, 59, 10] [(3, [59], 0)] (fun _ => True) := by
 have bl : Rd [10] [] (fun _ => True) := fun a r _ => ⟨[], by rw [List.cons_append, List.nil_append, lexG_bl (by decide), zjk]; rfl, .nil⟩
 exact xz8 ((Rd.sg (c := 59) (by decide) (fun _ => True)).app bl (fun _ _ => trivial))
theorem r32 (l r : List Nat) : yqz (32 :: l ++ r) := xw6 (c := 32) (by decide) _
theorem rd_nx {l m : List Nat} {ts us : List Tk} {T : List Nat → Prop} (h : Rd l ts yqz) (k : Rd (32 :: m) us T) : Rd (l ++ 32 :: m) (ts ++ us) T := h.app k (fun r _ => r32 m r)
theorem rd_ub {u : List Nat} (hu : unitG u = true) (h0 : u ≠ []) {m : List Nat} {us : List Tk} {T : List Nat → Prop} (k : Rd m us T) : Rd (91 :: (u ++ [93]) ++ m) ((4, u, 0) :: us) T := by
 obtain ⟨_, h2, h3⟩ := yj8 hu;exact (Rd.un h3 (List.length_pos_iff.2 h0) h2 (fun _ => True)).app k (fun _ _ => trivial)
theorem xwd (w : List Nat) (hw : yqx w = true) {l : List Nat} {ts : List Tk} {T : List Nat → Prop} (h : Rd (32 :: l) ts T) : Rd (w ++ 32 :: l) ((1, w, 0) :: ts) T := (Rd.wd hw).app h (fun r _ => s32 _ r)
theorem yzs {L : Lim} {en i : Nat} {w : Tk} {k : Nat} (hw : xvz w = some k) (hi : i < 60) (r : List Tk) (n : Nat) : xw8 L en i (w :: r) n = (yqy en k r n).next fun d r n => yqk L en k d r n := by
 unfold xw8;dsimp only;rw [hw];dsimp only;rw [if_neg (by omega)]
theorem line_rd {d : Dc} (hg : goodD d = true) : ∃ ts, ts ≠ [] ∧ Rd (xvc d) ts (fun _ => True) ∧ ∀ (L : Lim) (en i : Nat) (r : List Tk) (n : Nat), L.power = 64 → i < 60 → DepD d L.deep → n + d.tr.length ≤ L.nodes → xw8 L en i (ts ++ r) n = .ok (xj8 d) r (n + d.tr.length) := by
 have htr := good_trD hg;obtain ⟨k, nm, ot, nu, va, un, tr, pl, at'⟩ := d;unfold goodD at hg;dsimp only at hg htr;rw [Bool.and_eq_true, Bool.and_eq_true] at hg;obtain ⟨⟨hnm, hun⟩, hg⟩ := hg;have hnw := isNam_wd hnm;by_cases k1 : k = 1
 · subst k1;rw [if_pos rfl] at hg;simp only [Bool.and_eq_true, decide_eq_true_eq] at hg;obtain ⟨⟨⟨⟨⟨g1, g2⟩, rfl⟩, rfl⟩, g3⟩, rfl⟩ := hg;obtain rfl := List.eq_nil_of_length_eq_zero g3;obtain ⟨us, u1, u2⟩ := num_rd g1;refine ⟨(1, [117, 110, 105, 116], 0) :: (1, nm, 0) :: (3, [61], 0) :: (us ++ (4, un, 0) :: [(3, [59], 0)]), by simp, ?_, fun L en i r n hL hi hd hn => ?_⟩
   · have h1 : Rd (61 :: 32 :: (nu ++ 32 :: (91 :: (un ++ [93]) ++ [32, 59, 10]))) ((3, [61], 0) :: (us ++ (4, un, 0) :: [(3, [59], 0)])) (fun _ => True) := rd_sg 61 (by decide) (xz8 (rd_nx u1 (xz8 (rd_ub hun g2 rd_end))));have h2 := xwd [117, 110, 105, 116] (by decide) (xz8 (xwd nm hnw (xz8 h1)));have e : xvc ⟨1, nm, [], nu, [], un, [], 0, at'⟩ = [117, 110, 105, 116] ++ 32 :: (nm ++ 32 :: (61 :: 32 :: (nu ++ 32 :: (91 :: (un ++ [93]) ++ [32, 59, 10])))) := by
      unfold xvc yzg wrdK unP;dsimp only;rw [if_pos rfl, if_pos rfl, if_neg g2]
      simp
     rw [e]; exact h2
   · have e1 : ((1, [117, 110, 105, 116], 0) :: (1, nm, 0) :: (3, [61], 0) :: (us ++ (4, un, 0) :: [(3, [59], 0)]) ++ r : List Tk) = (1, [117, 110, 105, 116], 0) :: (1, nm, 0) :: (3, [61], 0) :: (us ++ (4, un, 0) :: (3, [59], 0) :: r) := by simp
     rw [e1, yzs (show xvz (1, [117, 110, 105, 116], 0) = some 1 by decide) hi, yv8 en (by decide) hnm, PaR.next_ok];unfold yqk;rw [if_pos rfl, u2 en _ n rfl, PaR.next_ok, xjo rfl, PaR.next_ok, yqb]; rfl
 rw [if_neg k1] at hg;by_cases k2 : k = 2
 · subst k2;rw [if_pos rfl] at hg;simp only [Bool.and_eq_true, decide_eq_true_eq] at hg;obtain ⟨⟨⟨⟨g1, g2⟩, rfl⟩, g3⟩, rfl⟩ := hg;obtain rfl := List.eq_nil_of_length_eq_zero g3;obtain ⟨us, u1, u2⟩ := num_rd g1;obtain ⟨vs, v1, v2⟩ := num_rd g2;have hv : Rd (32 :: 58 :: 32 :: (va ++ [32, 59, 10])) ((3, [58], 0) :: (vs ++ [(3, [59], 0)])) (fun _ => True) := xz8 (rd_sg 58 (by decide) (xz8 (rd_nx v1 rd_end)));have hw : xvz (1, [115, 111, 117, 114, 99, 101], 0) = some 2 := by decide
   by_cases h0 : un = []
   · subst h0;refine ⟨(1, [115, 111, 117, 114, 99, 101], 0) :: (1, nm, 0) :: (3, [61], 0) :: (us ++ (3, [58], 0) :: (vs ++ [(3, [59], 0)])), by simp, ?_, fun L en i r n hL hi hd hn => ?_⟩
     · have h1 := rd_sg 61 (by decide) (xz8 (rd_nx u1 hv));have h2 := xwd [115, 111, 117, 114, 99, 101] (by decide) (xz8 (xwd nm hnw (xz8 h1)));have e : xvc ⟨2, nm, [], nu, va, [], [], 0, at'⟩ = [115, 111, 117, 114, 99, 101] ++ 32 :: (nm ++ 32 :: (61 :: 32 :: (nu ++ 32 :: 58 :: 32 :: (va ++ [32, 59, 10])))) := by
        unfold xvc yzg wrdK unP;dsimp only;rw [if_neg (by decide), if_pos rfl, if_neg (by decide), if_pos rfl, if_pos rfl]
        simp
       rw [e]; exact h2
     · have e1 : ((1, [115, 111, 117, 114, 99, 101], 0) :: (1, nm, 0) :: (3, [61], 0) :: (us ++ (3, [58], 0) :: (vs ++ [(3, [59], 0)])) ++ r : List Tk) = (1, [115, 111, 117, 114, 99, 101], 0) :: (1, nm, 0) :: (3, [61], 0) :: (us ++ (3, [58], 0) :: (vs ++ (3, [59], 0) :: r)) := by simp
       rw [e1, yzs (show xvz (1, [115, 111, 117, 114, 99, 101], 0) = some 2 by decide) hi, yv8 en (by decide) hnm, PaR.next_ok];unfold yqk;rw [if_neg (by decide), if_pos rfl, u2 en _ n rfl, PaR.next_ok];rw [show (xv6 ((3, [58], 0) :: (vs ++ (3, [59], 0) :: r))) = ([], (3, [58], 0) :: (vs ++ (3, [59], 0) :: r)) from rfl];dsimp only;rw [xjo rfl, PaR.next_ok, v2 en _ n rfl, PaR.next_ok, yqb]; rfl
   · refine ⟨(1, [115, 111, 117, 114, 99, 101], 0) :: (1, nm, 0) :: (3, [61], 0) :: (us ++ (4, un, 0) :: (3, [58], 0) :: (vs ++ [(3, [59], 0)])), by simp, ?_, fun L en i r n hL hi hd hn => ?_⟩
     · have h1 := rd_sg 61 (by decide) (xz8 (rd_nx u1 (xz8 (rd_ub hun h0 hv))));have h2 := xwd [115, 111, 117, 114, 99, 101] (by decide) (xz8 (xwd nm hnw (xz8 h1)));have e : xvc ⟨2, nm, [], nu, va, un, [], 0, at'⟩ = [115, 111, 117, 114, 99, 101] ++ 32 :: (nm ++ 32 :: (61 :: 32 :: (nu ++ 32 :: (91 :: (un ++ [93]) ++ 32 :: 58 :: 32 :: (va ++ [32, 59, 10]))))) := by
        unfold xvc yzg wrdK unP;dsimp only;rw [if_neg (by decide), if_pos rfl, if_neg (by decide), if_pos rfl, if_neg h0]
        simp
       rw [e]; exact h2
     · have e1 : ((1, [115, 111, 117, 114, 99, 101], 0) :: (1, nm, 0) :: (3, [61], 0) :: (us ++ (4, un, 0) :: (3, [58], 0) :: (vs ++ [(3, [59], 0)])) ++ r : List Tk) = (1, [115, 111, 117, 114, 99, 101], 0) :: (1, nm, 0) :: (3, [61], 0) :: (us ++ (4, un, 0) :: (3, [58], 0) :: (vs ++ (3, [59], 0) :: r)) := by simp
       rw [e1, yzs (show xvz (1, [115, 111, 117, 114, 99, 101], 0) = some 2 by decide) hi, yv8 en (by decide) hnm, PaR.next_ok];unfold yqk;rw [if_neg (by decide), if_pos rfl, u2 en _ n rfl, PaR.next_ok];rw [show (xv6 ((4, un, 0) :: (3, [58], 0) :: (vs ++ (3, [59], 0) :: r))) = (un, (3, [58], 0) :: (vs ++ (3, [59], 0) :: r)) from rfl];dsimp only;rw [xjo rfl, PaR.next_ok, v2 en _ n rfl, PaR.next_ok, yqb]; rfl
 rw [if_neg k2] at hg;by_cases k3 : k = 3
 · subst k3;rw [if_pos rfl] at hg;simp only [Bool.and_eq_true, decide_eq_true_eq] at hg;obtain ⟨⟨⟨⟨⟨g1, g2⟩, rfl⟩, rfl⟩, g3⟩, rfl⟩ := hg;obtain rfl := List.eq_nil_of_length_eq_zero g3;obtain ⟨us, u1, u2⟩ := num_rd g1;refine ⟨(1, [99, 111, 118], 0) :: (1, nm, 0) :: (1, ot, 0) :: (3, [61], 0) :: (us ++ [(3, [59], 0)]), by simp, ?_, fun L en i r n hL hi hd hn => ?_⟩
   · have h1 := xwd ot (isNam_wd g2) (xz8 (rd_sg 61 (by decide) (xz8 (rd_nx u1 rd_end))));have h2 := xwd [99, 111, 118] (by decide) (xz8 (xwd nm hnw (xz8 h1)));have e : xvc ⟨3, nm, ot, nu, [], [], [], 0, at'⟩ = [99, 111, 118] ++ 32 :: (nm ++ 32 :: (ot ++ 32 :: 61 :: 32 :: (nu ++ [32, 59, 10]))) := by
      unfold xvc yzg wrdK;dsimp only;rw [if_neg (by decide), if_neg (by decide), if_pos rfl, if_neg (by decide), if_neg (by decide), if_pos rfl]
      simp
     rw [e]; exact h2
   · have e1 : ((1, [99, 111, 118], 0) :: (1, nm, 0) :: (1, ot, 0) :: (3, [61], 0) :: (us ++ [(3, [59], 0)]) ++ r : List Tk) = (1, [99, 111, 118], 0) :: (1, nm, 0) :: (1, ot, 0) :: (3, [61], 0) :: (us ++ (3, [59], 0) :: r) := by simp
     rw [e1, yzs (show xvz (1, [99, 111, 118], 0) = some 3 by decide) hi, headT_3 en hnm g2, PaR.next_ok];unfold yqk;rw [if_neg (by decide), if_neg (by decide), if_pos rfl, u2 en _ n rfl, PaR.next_ok, yqb]; rfl
 rw [if_neg k3] at hg;have frm : ∀ (hgt : xq5 tr = true), ∃ f : Fm, f.Ok ∧ xzz tr = f.txt ∧ tr.map xjs = f.nds ∧ f.size = tr.length ∧ ∀ m, DepD ⟨k, nm, ot, nu, va, un, tr, pl, at'⟩ m → f.dep ≤ m := by
  intro hgt;obtain ⟨f, h1, h2, h3⟩ := good_fm hgt;have hp := f.pos;by_cases hm : ∃ m, DepD ⟨k, nm, ot, nu, va, un, tr, pl, at'⟩ m ∧ ¬ f.dep ≤ m
  · -- another formula of the same nodes would be less deep: take the least deep one
    have ex : ∃ D, ∃ g : Fm, g.Ok ∧ tr.map xjs = g.nds ∧ g.size = tr.length ∧ g.dep = D := ⟨_, f, h1, h2, h3, rfl⟩;have hmin : ∀ D, (∃ g : Fm, g.Ok ∧ tr.map xjs = g.nds ∧ g.size = tr.length ∧ g.dep = D) → ∃ g : Fm, g.Ok ∧ tr.map xjs = g.nds ∧ g.size = tr.length ∧ ∀ g' : Fm, g'.Ok → tr.map xjs = g'.nds → g'.size = tr.length → g.dep ≤ g'.dep := by
     intro D;induction D using Nat.strongRecOn with
     | _ D ih =>
      rintro ⟨g, a1, a2, a3, a4⟩;by_cases h : ∀ g' : Fm, g'.Ok → tr.map xjs = g'.nds → g'.size = tr.length → g.dep ≤ g'.dep
      · exact ⟨g, a1, a2, a3, h⟩
      · simp only [Classical.not_forall] at h;obtain ⟨g', b1, b2, b3, b4⟩ := h;exact ih g'.dep (by omega) ⟨g', b1, b2, b3, rfl⟩
    obtain ⟨g, a1, a2, a3, a4⟩ := hmin _ ex.choose_spec;refine ⟨g, a1, txtT_fm a1 a2 a3, a2, a3, fun m hd => ?_⟩;rcases hd with hd | ⟨g', b1, b2, b3, b4⟩
    · have : tr = [] := hd;rw [this] at h3; simp at h3; omega
    · have := a4 g' b1 b2 b3; omega
  · refine ⟨f, h1, txtT_fm h1 h2 h3, h2, h3, fun m hd => ?_⟩;by_cases h : f.dep ≤ m
    · exact h
    · exact absurd ⟨m, hd, h⟩ hm
 by_cases k4 : k = 4
 · subst k4;rw [if_pos rfl] at hg;simp only [Bool.and_eq_true, decide_eq_true_eq] at hg;obtain ⟨⟨⟨⟨⟨g1, rfl⟩, rfl⟩, rfl⟩, rfl⟩, rfl⟩ := hg;obtain ⟨f, f1, f2, f3, f4, f5⟩ := frm g1;refine ⟨(1, [108, 101, 116], 0) :: (1, nm, 0) :: (3, [61], 0) :: (f.tks ++ [(3, [59], 0)]), by simp, ?_, fun L en i r n hL hi hd hn => ?_⟩
   · have h1 := rd_sg 61 (by decide) (xz8 (rd_nx (yj9 f f1) rd_end));have h2 := xwd [108, 101, 116] (by decide) (xz8 (xwd nm hnw (xz8 h1)));have e : xvc ⟨4, nm, [], [], [], [], tr, 0, at'⟩ = [108, 101, 116] ++ 32 :: (nm ++ 32 :: (61 :: 32 :: (f.txt ++ [32, 59, 10]))) := by
      unfold xvc yzg wrdK;dsimp only;rw [if_neg (by decide), if_neg (by decide), if_neg (by decide), if_pos rfl, if_neg (by decide), if_neg (by decide), if_neg (by decide), if_pos rfl, f2]
      simp
     rw [e]; exact h2
   · have e1 : ((1, [108, 101, 116], 0) :: (1, nm, 0) :: (3, [61], 0) :: (f.tks ++ [(3, [59], 0)]) ++ r : List Tk) = (1, [108, 101, 116], 0) :: (1, nm, 0) :: (3, [61], 0) :: (f.tks ++ (3, [59], 0) :: r) := by simp
     rw [e1, yzs (show xvz (1, [108, 101, 116], 0) = some 4 by decide) hi, yv8 en (by decide) hnm, PaR.next_ok];have h7 : n + f.size ≤ L.nodes := by rw [f4]; exact hn
     unfold yqk;rw [if_neg (by decide), if_neg (by decide), if_neg (by decide), if_pos rfl, formL_r (by omega) en f1 (by rw [hL]; exact pw64 f1) (f5 _ hd) (endM_sg (by decide) rfl _) (sg_end 59 rfl _) h7, PaR.next_ok, yqb];unfold xj8;dsimp only;rw [f3, f4]; rfl
 rw [if_neg k4] at hg;by_cases k5 : k = 5
 · subst k5;rw [if_pos rfl] at hg;simp only [Bool.and_eq_true, decide_eq_true_eq] at hg;obtain ⟨⟨⟨⟨⟨g1, p0⟩, p1⟩, rfl⟩, rfl⟩, rfl⟩ := hg;obtain ⟨f, f1, f2, f3, f4, f5⟩ := frm g1;obtain ⟨z1, z2⟩ := pl_dec p0 p1;have hv : Rd (32 :: 58 :: 32 :: (zT pl ++ [32, 59, 10])) ((3, [58], 0) :: ([(2, zT pl, 0)] ++ [(3, [59], 0)])) (fun _ => True) := xz8 (rd_sg 58 (by decide) (xz8 (rd_nx (Rd.num z1) rd_end)));have hw : xvz (1, [111, 117, 116, 112, 117, 116], 0) = some 5 := by decide
   have hfin : ∀ (L : Lim) (en : Nat) (u : List Nat) (r : List Tk) (n : Nat), outB en ⟨(5 : Nat), nm, [], [], [], u, f.nds, 0, (0 : Nat)⟩ ((3, [58], 0) :: (2, zT pl, 0) :: (3, [59], 0) :: r) n = .ok ⟨5, nm, [], [], [], u, f.nds, pl, 0⟩ r n := by
    intro L en u r n;unfold outB;rw [xjo rfl, PaR.next_ok, xjo rfl, PaR.next_ok];dsimp only;rw [z2];dsimp only;rw [if_neg (by omega), yqb, show ((pl.toNat : Nat) : Int) = pl by omega]; rfl
   by_cases h0 : un = []
   · subst h0;refine ⟨(1, [111, 117, 116, 112, 117, 116], 0) :: (1, nm, 0) :: (3, [61], 0) :: (f.tks ++ (3, [58], 0) :: ([(2, zT pl, 0)] ++ [(3, [59], 0)])), by simp, ?_, fun L en i r n hL hi hd hn => ?_⟩
     · have h1 := rd_sg 61 (by decide) (xz8 (rd_nx (yj9 f f1) hv));have h2 := xwd [111, 117, 116, 112, 117, 116] (by decide) (xz8 (xwd nm hnw (xz8 h1)));have e : xvc ⟨5, nm, [], [], [], [], tr, pl, at'⟩ = [111, 117, 116, 112, 117, 116] ++ 32 :: (nm ++ 32 :: (61 :: 32 :: (f.txt ++ 32 :: 58 :: 32 :: (zT pl ++ [32, 59, 10])))) := by
        unfold xvc yzg wrdK inP;dsimp only;rw [if_neg (by decide), if_neg (by decide), if_neg (by decide), if_neg (by decide), if_neg (by decide), if_neg (by decide), if_neg (by decide), if_neg (by decide), if_pos rfl, f2]
        simp
       rw [e]; exact h2
     · have e1 : ((1, [111, 117, 116, 112, 117, 116], 0) :: (1, nm, 0) :: (3, [61], 0) :: (f.tks ++ (3, [58], 0) :: ([(2, zT pl, 0)] ++ [(3, [59], 0)])) ++ r : List Tk) = (1, [111, 117, 116, 112, 117, 116], 0) :: (1, nm, 0) :: (3, [61], 0) :: (f.tks ++ (3, [58], 0) :: (2, zT pl, 0) :: (3, [59], 0) :: r) := by simp
       rw [e1, yzs (show xvz (1, [111, 117, 116, 112, 117, 116], 0) = some 5 by decide) hi, yv8 en (by decide) hnm, PaR.next_ok];have h7 : n + f.size ≤ L.nodes := by rw [f4]; exact hn
       unfold yqk;rw [if_neg (by decide), if_neg (by decide), if_neg (by decide), if_neg (by decide), formL_r (by omega) en f1 (by rw [hL]; exact pw64 f1) (f5 _ hd) (endM_sg (by decide) rfl _) (sg_end 58 rfl _) h7, PaR.next_ok];dsimp only;rw [if_neg (show ¬ xqp 1 [105, 110] ((3, [58], 0) :: (2, zT pl, 0) :: (3, [59], 0) :: r) = true from fun e => by cases e), hfin L];unfold xj8;dsimp only;rw [f3, f4]
   · refine ⟨(1, [111, 117, 116, 112, 117, 116], 0) :: (1, nm, 0) :: (3, [61], 0) :: (f.tks ++ (1, [105, 110], 0) :: (4, un, 0) :: (3, [58], 0) :: ([(2, zT pl, 0)] ++ [(3, [59], 0)])), by simp, ?_, fun L en i r n hL hi hd hn => ?_⟩
     · have h3 := xwd [105, 110] (by decide) (xz8 (rd_ub hun h0 hv));have h1 := rd_sg 61 (by decide) (xz8 (rd_nx (yj9 f f1) (xz8 h3)));have h2 := xwd [111, 117, 116, 112, 117, 116] (by decide) (xz8 (xwd nm hnw (xz8 h1)));have e : xvc ⟨5, nm, [], [], [], un, tr, pl, at'⟩ = [111, 117, 116, 112, 117, 116] ++ 32 :: (nm ++ 32 :: (61 :: 32 :: (f.txt ++ 32 :: ([105, 110] ++ 32 :: (91 :: (un ++ [93]) ++ 32 :: 58 :: 32 :: (zT pl ++ [32, 59, 10])))))) := by
        unfold xvc yzg wrdK inP;dsimp only;rw [if_neg (by decide), if_neg (by decide), if_neg (by decide), if_neg (by decide), if_neg (by decide), if_neg (by decide), if_neg (by decide), if_neg (by decide), if_neg h0, f2]
        simp
       rw [e]; exact h2
     · have e1 : ((1, [111, 117, 116, 112, 117, 116], 0) :: (1, nm, 0) :: (3, [61], 0) :: (f.tks ++ (1, [105, 110], 0) :: (4, un, 0) :: (3, [58], 0) :: ([(2, zT pl, 0)] ++ [(3, [59], 0)])) ++ r : List Tk) = (1, [111, 117, 116, 112, 117, 116], 0) :: (1, nm, 0) :: (3, [61], 0) :: (f.tks ++ (1, [105, 110], 0) :: (4, un, 0) :: (3, [58], 0) :: (2, zT pl, 0) :: (3, [59], 0) :: r) := by simp
       rw [e1, yzs (show xvz (1, [111, 117, 116, 112, 117, 116], 0) = some 5 by decide) hi, yv8 en (by decide) hnm, PaR.next_ok];have h7 : n + f.size ≤ L.nodes := by rw [f4]; exact hn
       have hE : EndM ((1, [105, 110], 0) :: (4, un, 0) :: (3, [58], 0) :: (2, zT pl, 0) :: (3, [59], 0) :: r) := ⟨⟨rfl, rfl⟩, fun x q e => by injection e with e _; subst e; rfl⟩;unfold yqk;rw [if_neg (by decide), if_neg (by decide), if_neg (by decide), if_neg (by decide), formL_r (by omega) en f1 (by rw [hL]; exact pw64 f1) (f5 _ hd) hE (fun x q e => by injection e with e _; subst e; rfl) h7, PaR.next_ok];dsimp only;rw [if_pos (show xqp 1 [105, 110] ((1, [105, 110], 0) :: (4, un, 0) :: (3, [58], 0) :: (2, zT pl, 0) :: (3, [59], 0) :: r) = true from rfl)];show ((xjr en 4 [] ((4, un, 0) :: (3, [58], 0) :: (2, zT pl, 0) :: (3, [59], 0) :: r) _).next _) = _;rw [xjo rfl, PaR.next_ok];dsimp only;rw [hfin L];unfold xj8;dsimp only;rw [f3, f4]
 rw [if_neg k5] at hg;cases hg
theorem lines_rd : ∀ (ds : List Dc), (∀ d ∈ ds, goodD d = true) → ∃ ts, Rd (xja ds) ts (fun _ => True) ∧ ∀ (L : Lim) (en i g n : Nat), L.power = 64 → i + ds.length ≤ 60 → (∀ d ∈ ds, DepD d L.deep) → n + ndsD ds ≤ L.nodes → ts.length ≤ g → ywh L en g i ts n = .ok (ds.map xj8) [] (n + ndsD ds) := by
 intro ds;induction ds with
 | nil => exact fun _ => ⟨[], Rd.nil _, fun L en i g n _ _ _ _ _ => scrT_nil L en g i n⟩
 | cons d ds ih =>
  intro hg;obtain ⟨us, u0, u1, u2⟩ := line_rd (hg d (by simp));obtain ⟨ts, t1, t2⟩ := ih fun x hx => hg x (by simp [hx])
  refine ⟨us ++ ts, u1.app t1 (fun _ _ => trivial), fun L en i g n hL hi hd hn hg2 => ?_⟩;have hnd : ndsD (d :: ds) = d.tr.length + ndsD ds := rfl;rw [hnd] at hn ⊢;rw [List.length_append] at hg2;rw [List.length_cons] at hi;have h1 := u2 L en i ts n hL (by omega) (hd d (by simp)) (by omega);have hl : 1 ≤ us.length := List.length_pos_iff.2 u0;obtain ⟨g, rfl⟩ : ∃ h, g = h + 1 := ⟨g - 1, by omega⟩;have h2 := t2 L en (i + 1) g (n + d.tr.length) hL (by omega) (fun x hx => hd x (by simp [hx])) (by omega) (by omega);cases us with
  | nil => exact absurd rfl u0
  | cons x xs =>
   rw [List.cons_append] at h1 ⊢;rw [yz4, h1, PaR.next_ok, h2, PaR.next_ok, Nat.add_assoc]; rfl
theorem le_sum_of {ds : List Dc} {d : Dc} (h : d ∈ ds) : d.tr.length ≤ ndsD ds := by
 induction ds with
 | nil => cases h
 | cons x ds ih =>
  have e : ndsD (x :: ds) = x.tr.length + ndsD ds := rfl;rcases List.mem_cons.1 h with rfl | h
  · omega
  · have := ih h; omega
theorem scrV_lines {ds : List Dc} (hg : ∀ d ∈ ds, goodD d = true) (h60 : ds.length ≤ 60) (hl : (xja ds).length ≤ 4000) :
 ∃ es E P, scrV mostL (xja ds) = (es, E, P) ∧ (E = 2 ∨ (E = 0 ∧ es.map xj8 = ds.map xj8)) ∧ ((∀ d ∈ ds, DepD d 60) → ndsD ds ≤ 2000 → E = 0) := by
 obtain ⟨ts, h1, h2⟩ := lines_rd ds hg;obtain ⟨us, k1, k2⟩ := (h1.mono (T := yqz) fun _ _ => trivial).whole;have bb : ∀ l : List Dc, (l.map xj8).map xj8 = l.map xj8 := fun l => by
  rw [List.map_map];refine List.map_congr_left fun d _ => ?_
  show xj8 (xj8 d) = xj8 d;unfold xj8;simp only [List.map_map]
  congr 1
 have hV : ∀ r : PaR (List Dc), ywh mostL (xja ds).length us.length 0 us 0 = r → scrV mostL (xja ds) = match r with | .ok ds _ _ => (ds, 0, 0) | .bad e p => ([], (e : Int), (p : Int)) := by
  intro r hr;unfold scrV;rw [if_neg (by show ¬ 4000 < _; omega), k1];dsimp only;rw [hr];rfl
 have hbig := h2 ⟨4000, ndsD ds + 60, ndsD ds + 2000, 64⟩ 0 0 us.length 0 rfl (by omega) (fun d hd => (dep_any (good_trD (hg d hd))).mono (by have := le_sum_of hd; show _ ≤ ndsD ds + 60; omega)) (by show _ ≤ ndsD ds + 2000; omega) (by rw [k2.len]; exact Nat.le_refl _);have hq := scrT_q (P := fun _ _ => True) (L := mostL) (L' := ⟨4000, ndsD ds + 60, ndsD ds + 2000, 64⟩) ⟨by show 2000 ≤ ndsD ds + 2000; omega, Nat.le_refl _, by show 60 ≤ ndsD ds + 60; omega⟩ (xja ds).length 0 0 us.length (i := 0) (i' := 0) (Nat.le_refl 0) k2 0;rw [Nat.add_zero, hbig] at hq;have hok : (∀ d ∈ ds, DepD d 60) → ndsD ds ≤ 2000 → ∃ es m, ywh mostL (xja ds).length us.length 0 us 0 = .ok es [] m := by
  intro hd hn;have h3 := h2 mostL 0 0 ts.length 0 rfl (by omega) hd (by show _ ≤ 2000; omega) (Nat.le_refl _);obtain ⟨es, e1, _⟩ := scrT_like (en' := (xja ds).length) k2 h3;exact ⟨es, _, e1⟩
 rcases hq with ⟨p, hq⟩ | ⟨a, q, m1, a', q', e1, e2, e3, e4⟩ | ⟨e, p, p', e1, e2⟩
 · refine ⟨[], 2, (p : Int), hV _ hq, .inl rfl, fun hd hn => ?_⟩;obtain ⟨es, m, h⟩ := hok hd hn;rw [hq] at h; cases h
 · injection e2 with e5 e6 e7
   subst e5 e6;refine ⟨a, 0, 0, hV _ e1, .inr ⟨rfl, ?_⟩, fun _ _ => rfl⟩;rw [bareL_q e3, bb]
 · cases e2
def PaDp (C : Fm → Prop) (r : PaR (List Nd)) : Prop := ∀ t q m, r = .ok t q m → ∃ f : Fm, f.Ok ∧ t.map xjs = f.nds ∧ C f
def RdDp (C : Fm → Prop) (f : Rdr) : Prop := ∀ l n, ToksK l → PaDp C (f l n)
theorem PaDp.bad {C : Fm → Prop} {e p : Nat} : PaDp C (.bad e p) := fun _ _ _ h => by cases h
theorem PaDp.ok {C : Fm → Prop} {t : List Nd} {q : List Tk} {m : Nat} (h : ∃ f : Fm, f.Ok ∧ t.map xjs = f.nds ∧ C f) : PaDp C (.ok t q m) := fun _ _ _ e => by injection e with e _ _; subst e; exact h
theorem PaDp.made {C : Fm → Prop} {L : Lim} {t : List Nd} {p : Nat} {l : List Tk} {n : Nat} (h : ∃ f : Fm, f.Ok ∧ t.map xjs = f.nds ∧ C f) : PaDp C (xvb L t p l n) := by
 unfold xvb
 split
 · exact .bad
 · exact .ok h
theorem PaDp.next {C D : Fm → Prop} {L : Lim} {en n : Nat} {l : List Tk} {r : PaR (List Nd)} {g : List Nd → List Tk → Nat → PaR (List Nd)} (h : PaDp D r) (hp : PostF L en l n r) (hl : ToksK l) (k : ∀ t q m, (∃ f : Fm, f.Ok ∧ t.map xjs = f.nds ∧ D f) → ToksK q → PaDp C (g t q m)) : PaDp C (r.next g) := by
 cases r with
 | bad e p => exact .bad
 | ok t q m => exact k t q m (h t q m rfl) (hp.1.toks hl)
theorem over_bare (k j : Int) (t : List Nd) (p : Nat) : (xva k j t p).map xjs = xva k j (t.map xjs) 0 := by
 unfold xva;rw [List.map_append, List.length_map]; rfl
theorem join_bare (k : Int) (t u : List Nd) (p : Nat) : (xwf k t u p).map xjs = xwf k (t.map xjs) (u.map xjs) 0 := by
 unfold xwf;rw [List.map_append, List.map_append, List.length_map, List.length_map, List.map_map, List.map_map]
 congr 2
 exact List.map_congr_left fun y _ => bare_shift _ y
theorem bN_le (p : Bool) : bN p ≤ 1 := by cases p <;> decide
theorem pow_dp {L : Lim} {en d : Nat} (hL : L.power ≤ 64) {t : List Nd} (h : ∃ f : Fm, f.Ok ∧ t.map xjs = f.nds ∧ f.dep + bN (!xwr f) ≤ d) (l : List Tk) (n : Nat) : PaDp (fun f => f.dep + bN (xq8 f.kind) ≤ d) (yw1 L en t l n) := by
 obtain ⟨f, h1, h2, h3⟩ := h;have hB : ∀ pa sg q m, PaDp (fun f => f.dep + bN (xq8 f.kind) ≤ d) (powB L en t pa sg q m) := by
  intro pa sg q m;unfold powB;cases xjr en 2 [] q m with
  | bad e p => exact .bad
  | ok x r k =>
   rw [PaR.next_ok]
   split
   · exact .bad
   · rename_i j hj
     split
     · exact .bad
     · rename_i hle
       refine .made ⟨.pow (if sg = true then -(j : Int) else (j : Int)) f, ⟨?_, ?_, h1⟩, ?_, ?_⟩
       · split <;> omega
       · split <;> omega
       · rw [over_bare, h2]; rfl
       · show f.dep + bN (!xwr f) + bN (xq8 8) ≤ d;have : bN (xq8 8) = 0 := by decide
         omega
 unfold yw1
 split
 · split
   · exact hB _ _ _ _
   · exact hB _ _ _ _
 · refine .ok ⟨f, h1, h2, ?_⟩;have : bN (xq8 f.kind) ≤ bN (!xwr f) := by
    cases ht : xq8 f.kind with
    | false => exact Nat.zero_le _
    | true =>
     cases hf : xwr f with
     | false => exact Nat.le_refl _
     | true => rw [yv6 hf] at ht; cases ht
   omega
theorem atom_dp {L : Lim} {en d : Nat} {l : List Tk} (hl : ToksK l) (n : Nat) : PaDp (fun f => f.dep + bN (!xwr f) ≤ d) (yqm L en l n) := by
 unfold yqm;cases l with
 | nil => exact .bad
 | cons x r =>
  dsimp only;have hx := hl.head;have lit : isT 2 [] x = true → ∀ u : List Nat, xjt (strOf u) = true → ∀ p, ∃ f : Fm, f.Ok ∧ (litN x.2.1 u p).map xjs = f.nds ∧ f.dep + bN (!xwr f) ≤ d := fun hk u hu p => by
   refine ⟨.lit (strOf x.2.1) (strOf u), ⟨?_, hu⟩, rfl, Nat.zero_le _⟩;rw [xqk hx.2.1];exact hx.lit (xzk hk).1
  have u0 : xjt (strOf []) = true := by decide
  split
  · rename_i hk
    cases r with
    | nil => exact .made (lit hk [] u0 _)
    | cons y q =>
     dsimp only
     split
     · rename_i hy
       exact .made (lit hk _ (hl.tail.head.units (xzk hy).1) _)
     · exact .made (lit hk [] u0 _)
  · split
    · rename_i hk
      refine .made ⟨.ref (strOf x.2.1), ?_, rfl, Nat.zero_le _⟩;show xjn (bytesOf (strOf x.2.1)) = true;rw [xqk hx.2.1];exact hk.2
    · exact .bad
theorem loop_dp {L : Lim} {en : Nat} {f : Rdr} (hf : Fine L en f) {C D : Fm → Prop} (hd : RdDp D f) {op : Tk → Option Int} (ho : ∀ x k, op x = some k → xq8 k = true) (hc : ∀ x k a b, op x = some k → C a → D b → C (.two k a b)) : ∀ (g : Nat) (t : List Nd) (q : List Tk) (n : Nat), ToksK q → (∃ f : Fm, f.Ok ∧ t.map xjs = f.nds ∧ C f) → PaDp C (xv4 L f op g t q n) := by
 intro g;induction g with
 | zero => intro t q n _ h; exact .ok h
 | succ g ih =>
  intro t q n hq h;cases q with
  | nil => exact .ok h
  | cons x r =>
   unfold xv4
   split
   · exact .ok h
   · rename_i k hk
     refine (hd r n hq.tail).next (hf r n hq.tail) hq.tail fun u q2 m h2 hq2 => ?_
     obtain ⟨a, a1, a2, a3⟩ := h;obtain ⟨b, b1, b2, b3⟩ := h2;unfold xvb
     split
     · exact .bad
     · rw [PaR.next_ok];exact ih _ _ _ hq2 ⟨.two k a b, ⟨ho x k hk, a1, b1⟩, by rw [join_bare, a2, b2]; rfl, hc x k a b hk a3 b3⟩
theorem mul_not_sum {x : Tk} {k : Int} (h : mulO x = some k) : xje k = false := by
 unfold mulO at h
 split at h
 · injection h with h; subst h; rfl
 · split at h
   · injection h with h; subst h; rfl
   · cases h
theorem add_sum {x : Tk} {k : Int} (h : addO x = some k) : xje k = true := by
 unfold addO at h
 split at h
 · injection h with h; subst h; rfl
 · split at h
   · injection h with h; subst h; rfl
   · cases h
theorem sum_two {k : Int} (h : xje k = true) : xq8 k = true := by
 unfold xje at h;simp only [Bool.or_eq_true, decide_eq_true_eq] at h;rcases h with rfl | rfl <;> decide
theorem term_dp {L : Lim} (hL : L.Fit) {en d : Nat} {f : Rdr} (hf : Fine L en f) (hd : RdDp (fun f => f.dep + bN (xq8 f.kind) ≤ d) f) : RdDp (fun f => f.dep + bN (xje f.kind) ≤ d) (yq5 L f) := by
 intro l n hl;unfold yq5 rowT;refine (hd l n hl).next (hf l n hl) hl fun t q m h hq => ?_
 refine loop_dp hf hd (fun x k hk => (mulO_two x k hk).1) (fun x k a b hk ha hb => ?_) _ t q m hq ?_
 · have hs := mul_not_sum hk;show max (a.dep + bN (!xje k && xje a.kind)) (b.dep + bN (if xje k = true then xje b.kind else xq8 b.kind)) + bN (xje k) ≤ d;rw [hs];have e1 : bN (!false && xje a.kind) = bN (xje a.kind) := rfl;have e2 : bN (if false = true then xje b.kind else xq8 b.kind) = bN (xq8 b.kind) := rfl;have e3 : bN false = 0 := rfl;rw [e1, e2, e3];omega
 · obtain ⟨a, a1, a2, a3⟩ := h;refine ⟨a, a1, a2, ?_⟩;have : bN (xje a.kind) ≤ bN (xq8 a.kind) := by
    cases hs : xje a.kind with
    | false => exact Nat.zero_le _
    | true => rw [sum_two hs]; exact Nat.le_refl _
   omega
theorem form_dp {L : Lim} (hL : L.Fit) {en d : Nat} {f : Rdr} (hf : Fine L en f) (hd : RdDp (fun f => f.dep + bN (xq8 f.kind) ≤ d) f) : RdDp (fun f => f.dep ≤ d) (yjw L f) := by
 intro l n hl;have ht := term_dp hL hf hd;have hft : Fine L en (yq5 L f) := zqp hL hf mulO_two;show PaDp _ (rowT L (yq5 L f) addO l n);unfold rowT;refine (ht l n hl).next (hft l n hl) hl fun t q m h hq => ?_
 refine loop_dp hft ht (fun x k hk => (addO_two x k hk).1) (fun x k a b hk ha hb => ?_) _ t q m hq ?_
 · have hs := add_sum hk;show max (a.dep + bN (!xje k && xje a.kind)) (b.dep + bN (if xje k = true then xje b.kind else xq8 b.kind)) ≤ d;rw [hs];have e1 : bN (!true && xje a.kind) = 0 := rfl;have e2 : bN (if true = true then xje b.kind else xq8 b.kind) = bN (xje b.kind) := rfl;rw [e1, e2];omega
 · obtain ⟨a, a1, a2, a3⟩ := h;exact ⟨a, a1, a2, by omega⟩
theorem fac_dp {L : Lim} (hL : L.Fit) (en : Nat) : ∀ d, RdDp (fun f => f.dep + bN (xq8 f.kind) ≤ d) (yjs L en d) := by
 have step : ∀ (d : Nat) (sub : Option Rdr), (∀ f, sub = some f → ∃ e, d = e + 1 ∧ Fine L en f ∧ RdDp (fun f => f.dep + bN (xq8 f.kind) ≤ e) f) → RdDp (fun f => f.dep + bN (xq8 f.kind) ≤ d) (zq9 L en sub) := by
  intro d sub hs l n hl;unfold zq9
  split
  · split
    · exact .bad
    · rename_i f
      obtain ⟨e, rfl, hf, hd⟩ := hs f rfl;refine (hd l.tail n (ToksK.tl hl)).next (hf l.tail n (ToksK.tl hl)) (ToksK.tl hl) fun t q m h hq => ?_
      obtain ⟨a, a1, a2, a3⟩ := h;refine .made ⟨.neg a, a1, by rw [over_bare, a2]; rfl, ?_⟩;show 1 + (a.dep + bN (xq8 a.kind)) + bN (xq8 7) ≤ e + 1;have : bN (xq8 7) = 0 := by decide
      omega
  · split
    · split
      · exact .bad
      · rename_i f
        obtain ⟨e, rfl, hf, hd⟩ := hs f rfl;refine (form_dp hL hf hd l.tail n (ToksK.tl hl)).next (yv9 hL hf l.tail n (ToksK.tl hl)) (ToksK.tl hl) fun t q m h hq => ?_
        cases xjr en 3 [41] q m with
        | bad e p => exact .bad
        | ok x r k =>
         rw [PaR.next_ok];obtain ⟨a, a1, a2, a3⟩ := h;exact pow_dp hL.2.1 ⟨a, a1, a2, by have := bN_le (!xwr a); omega⟩ _ _
    · have ha := atom_dp (L := L) (en := en) (d := d) hl n;exact ha.next (atomT_post n hl) hl fun t q m h hq => pow_dp hL.2.1 h _ _
 intro d;induction d with
 | zero => exact step 0 none fun f h => by cases h
 | succ d ih => exact step (d + 1) _ fun f h => by injection h with h; subst h; exact ⟨d, rfl, yvj hL en d, ih⟩
theorem frm_dp {L : Lim} (hL : L.Fit) (en : Nat) : RdDp (fun f => f.dep ≤ L.deep) (yjx L en) := form_dp hL (yvj hL en L.deep) (fac_dp hL en L.deep)
def PaI {α : Type} (c : α → Prop) (r : PaR α) : Prop := ∀ a q m, r = .ok a q m → c a ∧ ToksK q
theorem PaI.bad {α : Type} {c : α → Prop} {e p : Nat} : PaI c (.bad e p : PaR α) := fun _ _ _ h => by cases h
theorem PaI.ok {α : Type} {c : α → Prop} {a : α} {q : List Tk} {m : Nat} (h : c a) (hq : ToksK q) : PaI c (.ok a q m) := fun _ _ _ e => by injection e with e1 e2 _; subst e1 e2; exact ⟨h, hq⟩
theorem PaI.next {α β : Type} {c : α → Prop} {d : β → Prop} {r : PaR α} {f : α → List Tk → Nat → PaR β} (h : PaI c r) (k : ∀ a q m, c a → ToksK q → PaI d (f a q m)) : PaI d (r.next f) := by
 cases r with
 | bad e p => exact .bad
 | ok a q m => obtain ⟨h1, h2⟩ := h a q m rfl; exact k a q m h1 h2
theorem yjz (en kd : Nat) (tx : List Nat) {l : List Tk} (hl : ToksK l) (n : Nat) : PaI (fun _ => True) (xjr en kd tx l n) := by
 cases l with
 | nil => exact .bad
 | cons t r =>
  rw [xwh]
  split
  · exact .ok trivial hl.tail
  · exact .bad
theorem name_i (en : Nat) {l : List Tk} (hl : ToksK l) (n : Nat) : PaI (fun _ => True) (yz9 en l n) := by
 cases l with
 | nil => exact .bad
 | cons t r =>
  rw [xvj]
  split
  · exact .ok trivial hl.tail
  · exact .bad
theorem numB_i (en : Nat) (s : List Nat) {l : List Tk} (hl : ToksK l) (n : Nat) : PaI (fun _ => True) (numB en s l n) := by
 unfold numB;refine (yjz en 2 [] hl n).next fun t q m _ hq => ?_
 split
 · exact (yjz en 2 [] (ToksK.tl hq) m).next fun u q m _ hq => .ok trivial hq
 · exact .ok trivial hq
theorem num_i (en : Nat) {l : List Tk} (hl : ToksK l) (n : Nat) : PaI (fun _ => True) (numT en l n) := by
 unfold numT
 split
 · exact numB_i en _ (ToksK.tl hl) n
 · exact numB_i en _ hl n
theorem frm_i {L : Lim} (hL : L.Fit) (en : Nat) {l : List Tk} (hl : ToksK l) (n : Nat) : PaI (fun t => ∃ f : Fm, f.Ok ∧ t.map xjs = f.nds ∧ f.dep ≤ L.deep) (yjx L en l n) := by
 intro t q m h;refine ⟨frm_dp hL en l n hl t q m h, ?_⟩;have := formL_fine hL en l n hl;rw [h] at this;exact this.1.toks hl
def DpD (m : Nat) (d : Dc) : Prop := d.tr = [] ∨ ∃ f : Fm, f.Ok ∧ d.tr.map xjs = f.nds ∧ f.dep ≤ m
theorem semi_i {m : Nat} (en : Nat) {d : Dc} (h : DpD m d) {l : List Tk} (hl : ToksK l) (n : Nat) : PaI (DpD m) (yq8 en d l n) := by
 unfold yq8;exact (yjz en 3 [59] hl n).next fun _ q m _ hq => .ok h hq
theorem outB_i {m : Nat} (en : Nat) {d : Dc} (h : DpD m d) {l : List Tk} (hl : ToksK l) (n : Nat) : PaI (DpD m) (outB en d l n) := by
 unfold outB;refine (yjz en 3 [58] hl n).next fun _ q k _ hq => (yjz en 2 [] hq k).next fun x q k _ hq => ?_
 split
 · exact .bad
 · split
   · exact .bad
   · exact semi_i en (by exact h) hq k
theorem body_i {L : Lim} (hL : L.Fit) (en k : Nat) {d : Dc} (h : d.tr = []) {l : List Tk} (hl : ToksK l) (n : Nat) : PaI (DpD L.deep) (yqk L en k d l n) := by
 have h0 : DpD L.deep d := .inl h;unfold yqk
 split
 · exact (num_i en hl n).next fun _ q m _ hq => (yjz en 4 [] hq m).next fun _ q m _ hq => semi_i en (by exact h0) hq m
 · split
   · exact (num_i en hl n).next fun _ q m _ hq => (yjz en 3 [58] (unitT_toks hq) m).next fun _ q m _ hq => (num_i en hq m).next fun _ q m _ hq => semi_i en (by exact h0) hq m
   · split
     · exact (num_i en hl n).next fun _ q m _ hq => semi_i en (by exact h0) hq m
     · split
       · exact (frm_i hL en hl n).next fun t q m ht hq => semi_i en (.inr ht) hq m
       · refine (frm_i hL en hl n).next fun t q m ht hq => ?_
         split
         · exact (yjz en 4 [] (ToksK.tl hq) m).next fun _ q m _ hq => outB_i en (.inr ht) hq m
         · exact outB_i en (.inr ht) hq m
theorem head_i (en k : Nat) {l : List Tk} (hl : ToksK l) (n : Nat) : PaI (fun d : Dc => d.tr = []) (yqy en k l n) := by
 unfold yqy;refine (name_i en hl n).next fun x q m _ hq => ?_
 split
 · exact (name_i en hq m).next fun _ q m _ hq => (yjz en 3 [61] hq m).next fun _ q m _ hq => .ok rfl hq
 · exact (yjz en 3 [61] hq m).next fun _ q m _ hq => .ok rfl hq
theorem decl_i {L : Lim} (hL : L.Fit) (en i : Nat) {l : List Tk} (hl : ToksK l) (n : Nat) : PaI (DpD L.deep) (xw8 L en i l n) := by
 cases l with
 | nil => exact .bad
 | cons w r =>
  unfold xw8;dsimp only
  split
  · exact .bad
  · split
    · exact .bad
    · exact (head_i en _ hl.tail n).next fun d q m hd hq => body_i hL en _ hd hq m
theorem scr_i {L : Lim} (hL : L.Fit) (en : Nat) : ∀ (g i : Nat) (l : List Tk) (n : Nat), ToksK l → PaI (fun ds => ∀ d ∈ ds, DpD L.deep d) (ywh L en g i l n) := by
 intro g;induction g with
 | zero =>
  intro i l n hl;cases l with
  | nil => exact .ok (fun d hd => by cases hd) hl
  | cons x r => exact .ok (fun d hd => by cases hd) hl
 | succ g ih =>
  intro i l n hl;cases l with
  | nil => exact .ok (fun d hd => by cases hd) hl
  | cons x r =>
   rw [yz4];refine (decl_i hL en i hl n).next fun d q m hd hq => (ih (i + 1) q m hq).next fun ds q m hds hq => .ok (fun y hy => ?_) hq
   rcases List.mem_cons.1 hy with rfl | hy
   · exact hd
   · exact hds y hy
theorem scrV_dep {s : List Nat} (hb : Bytes s) {ds : List Dc} {P : Int} (h : scrV mostL s = (ds, 0, P)) : ∀ d ∈ ds, DepD d 60 := by
 unfold scrV at h
 split at h
 · cases h
 · split at h
   · rename_i p _
     injection h with h1 h2
     injection h2 with h2 h3
     cases h2
   · rename_i ts hts
     have ht := (lexT_tok hb hts).1
     split at h
     · rename_i es q m hs
       injection h with h1 _
       subst h1;intro d hd;rcases (scr_i yjb s.length ts.length 0 ts 0 ht es q m hs).1 d hd with h | ⟨f, h1, h2, h3⟩
       · exact .inl h
       · refine .inr ⟨f, h1, h2, ?_, h3⟩;have := congrArg List.length h2;rw [List.length_map, f.len] at this;exact this.symm
     · rename_i e p hs
       have hp := scrT_post yjb (en := s.length) (l0 := ts) ts.length 0 ts 0 (Nat.le_refl _) (fun z hz => hz) ht (Nat.zero_le _);rw [hs] at hp;injection h with h1 h2
       injection h2 with h2 h3
       exfalso
       rcases hp.1 with h | h <;> omega
theorem begF_fits {ts : List Nd} : ∀ {o q : List Nat}, zjj (some o) ts = some q → ∀ x ∈ ts, xjw x = true := by
 induction ts with
 | nil => intro o q _ x hx; cases hx
 | cons y r ih =>
  intro o q h x hx;obtain ⟨s, h1, h2⟩ := xv5 h;rcases List.mem_cons.1 hx with rfl | hx
  · exact (xvs h1).1
  · exact ih h2 x hx
theorem fits_sizes {x : Nd} (h : xjw x = true) : x.t.size ≤ 400 ∧ x.u.size ≤ 200 := by
 unfold xjw at h;by_cases h1 : x.k = 1
 · rw [if_pos h1] at h;simp only [Bool.and_eq_true, decide_eq_true_eq] at h;have h2 := (litGood_iff.1 h.1.2).2.1;rw [xqe] at h2;have h3 := h.2;unfold xjt at h3;rw [Bool.and_eq_true, decide_eq_true_eq] at h3;exact ⟨h2, h3.1⟩
 · rw [if_neg h1] at h;by_cases h2 : x.k = 2
   · rw [if_pos h2] at h;simp only [Bool.and_eq_true, decide_eq_true_eq] at h;have h3 : yqx (bytesOf x.t) = true := by have := h.2; unfold xjn at this; rw [Bool.and_eq_true] at this; exact this.1
     have h4 : (bytesOf x.t).length ≤ 16 := by
      cases hb : bytesOf x.t with
      | nil => simp
      | cons c r => rw [hb] at h3; unfold yqx at h3; simp only [Bool.and_eq_true, decide_eq_true_eq] at h3; rw [List.length_cons]; omega
     rw [xqe] at h4;exact ⟨by omega, by omega⟩
   · rw [if_neg h2] at h;have hz : x.t.size = 0 ∧ x.u.size = 0 := by
      by_cases h3 : xq8 x.k = true
      · rw [if_pos h3] at h; simp only [Bool.and_eq_true, decide_eq_true_eq] at h; exact ⟨h.1.2, h.2⟩
      · rw [if_neg h3] at h;by_cases h4 : x.k = 7
        · rw [if_pos h4] at h; simp only [Bool.and_eq_true, decide_eq_true_eq] at h; exact ⟨h.1.2, h.2⟩
        · rw [if_neg h4] at h;by_cases h5 : x.k = 8
          · rw [if_pos h5] at h; simp only [Bool.and_eq_true, decide_eq_true_eq] at h; exact ⟨h.1.1.1.2, h.1.1.2⟩
          · rw [if_neg h5] at h; cases h
     omega
theorem good_mild {ts : List Nd} (h : xq5 ts = true) : ts.length ≤ 2000 ∧ ∀ x ∈ ts, x.t.size ≤ 400 ∧ x.u.size ≤ 200 := by
 obtain ⟨_, h2, o, hb, _⟩ := xz4 h;exact ⟨h2, fun x hx => fits_sizes (begF_fits hb x hx)⟩
theorem isNam_len {l : List Nat} (h : xjn l = true) : l.length ≤ 16 := by
 have h3 : yqx l = true := by unfold xjn at h; rw [Bool.and_eq_true] at h; exact h.1
 cases l with
 | nil => simp
 | cons c r => unfold yqx at h3; simp only [Bool.and_eq_true, decide_eq_true_eq] at h3; rw [List.length_cons]; omega
theorem numH_len {b : List Nat} (h : yzu b = true) : b.length ≤ 802 := by
 rcases yv3 h with h | ⟨k, h1, _, h3, h4, _⟩
 · have := (litGood_iff.1 h).2.1; omega
 · have h5 := (litGood_iff.1 h3).2.1;have h6 := (litGood_iff.1 h4).2.1;rw [List.length_take] at h5;rw [List.length_drop] at h6;omega
theorem yw4 {s : List Nat} (h : ywj s = true) : s.length ≤ 803 := by
 rcases yv4 h with ⟨r, rfl, h⟩ | ⟨c, r, rfl, _, h⟩
 · have := numH_len h; rw [List.length_cons]; omega
 · have := numH_len h; omega
theorem goodD_sizes {d : Dc} (h : goodD d = true) : d.nm.length ≤ 1000 ∧ d.ot.length ≤ 1000 ∧ d.nu.length ≤ 1000 ∧ d.va.length ≤ 1000 ∧ d.un.length ≤ 1000 ∧ (d.tr = [] ∨ xq5 d.tr = true) := by
 unfold goodD at h;rw [Bool.and_eq_true, Bool.and_eq_true] at h;obtain ⟨⟨g1, g2⟩, g3⟩ := h;have h1 := isNam_len g1;have h2 := (yj8 g2).2.1;refine ⟨by omega, ?_⟩;by_cases k1 : d.k = 1
 · rw [if_pos k1] at g3;simp only [Bool.and_eq_true, decide_eq_true_eq] at g3;obtain ⟨⟨⟨⟨⟨p1, p2⟩, p3⟩, p4⟩, p5⟩, _⟩ := g3;have := yw4 p1;rw [p3, p4];exact ⟨by simp, by omega, by simp, by omega, .inl (List.eq_nil_of_length_eq_zero p5)⟩
 · rw [if_neg k1] at g3;by_cases k2 : d.k = 2
   · rw [if_pos k2] at g3;simp only [Bool.and_eq_true, decide_eq_true_eq] at g3;obtain ⟨⟨⟨⟨p1, p2⟩, p3⟩, p5⟩, _⟩ := g3;have := yw4 p1;have := yw4 p2;rw [p3];exact ⟨by simp, by omega, by omega, by omega, .inl (List.eq_nil_of_length_eq_zero p5)⟩
   · rw [if_neg k2] at g3;by_cases k3 : d.k = 3
     · rw [if_pos k3] at g3;simp only [Bool.and_eq_true, decide_eq_true_eq] at g3;obtain ⟨⟨⟨⟨⟨p1, p2⟩, p3⟩, p4⟩, p5⟩, _⟩ := g3;have := yw4 p1;have := isNam_len p2;rw [p3, p4];exact ⟨by omega, by omega, by simp, by simp, .inl (List.eq_nil_of_length_eq_zero p5)⟩
     · rw [if_neg k3] at g3;by_cases k4 : d.k = 4
       · rw [if_pos k4] at g3;simp only [Bool.and_eq_true, decide_eq_true_eq] at g3;obtain ⟨⟨⟨⟨⟨p1, p2⟩, p3⟩, p4⟩, p5⟩, _⟩ := g3;rw [p2, p3, p4, p5];exact ⟨by simp, by simp, by simp, by simp, .inr p1⟩
       · rw [if_neg k4] at g3;by_cases k5 : d.k = 5
         · rw [if_pos k5] at g3;simp only [Bool.and_eq_true, decide_eq_true_eq] at g3;obtain ⟨⟨⟨⟨⟨p1, p2⟩, p2'⟩, p3⟩, p4⟩, p5⟩ := g3;rw [p3, p4, p5];exact ⟨by simp, by simp, by simp, by omega, .inr p1⟩
         · rw [if_neg k5] at g3; cases g3
structure St where
 l : List Tk
 E : Int
 P : Int
 ts : List Nd
 mad : Nat
 op : Nat
def pkL (l : List Tk) : Tk := l.headD (0, [], 0)
abbrev pkS (st : St) : Tk := pkL st.l
def xjp (e p : Int) (st : St) : St := if st.E = 0 then { st with l := [], E := e, P := p } else st
def yqc (en : Nat) (st : St) : St := xjp 12 (xws en st.l) st
def rdS (st : St) : St := { st with l := st.l.tail }
def xv3 (en : Nat) (b : Bool) (st : St) : St := if b = true then st else yqc en st
def xvi (en : Nat) (tx : List Nat) (st : St) : St := rdS (xv3 en (xqp 3 tx st.l) st)
def takP (en kd : Nat) (st : St) : St := xv3 en (decide ((pkS st).1 = kd)) st
def xwp (en kd : Nat) (st : St) : St := rdS (takP en kd st)
def yza (en kd : Nat) (st : St) : List Nat := (pkS (takP en kd st)).2.1
def namP (en : Nat) (st : St) : St := xv3 en (xjn (pkS st).2.1) st
def yj2 (en : Nat) (st : St) : St := xwp en 1 (namP en st)
def xqu (en : Nat) (st : St) : List Nat := yza en 1 (namP en st)
def yvw (en : Nat) (st : St) : St := if (pkS st).1 = 4 then xwp en 4 st else st
def untX (en : Nat) (st : St) : List Nat := if (pkS st).1 = 4 then yza en 4 st else []
def yzc (k : Nat) (st : St) : Option Nat := if (pkS st).1 = 2 then xvk (pkS st).2.1 k else none
def smlP (en k most : Nat) (st : St) : St := match yzc k st with
 | none => yqc en st
 | some v => if most < v then xjp 2 (pkS st).2.2 st else st
def yqp (en k most : Nat) (st : St) : St := rdS (smlP en k most st)
def xjc (st : St) : Int := (st.ts.length : Int) - 1
def xwb (L : Lim) (p : Int) (st : St) : St := if st.mad = L.nodes then xjp 2 p st else st
def addS (x : Nd) (st : St) : St := { st with mad := st.mad + 1, ts := st.ts ++ [x] }
def zqt (L : Lim) (x : Nd) (st : St) : St := addS x (xwb L x.p st)
def yqr (L : Lim) (st : St) : St := if st.op = L.deep then xjp 2 (pkS st).2.2 st else st
def ywn (st : St) : St := { st with op := st.op + 1 }
def xz1 (L : Lim) (st : St) : St := rdS (ywn (yqr L st))
def opnX (L : Lim) (st : St) : Tk := pkS (yqr L st)
def shtS (st : St) : St := { st with op := st.op - 1 }
def joiN (tx : List Nat) : Int := if tx = [43] then 3 else if tx = [45] then 4 else if tx = [42] then 5 else 6
def powM (L : Lim) (en : Nat) (sg : Bool) (a : Int) (p : Int) (st : St) : St :=
 zqt L ⟨8, a, 0, (if sg = true then -((yzc 3 st).getD 0 : Int) else ((yzc 3 st).getD 0 : Int)), ⟨#[]⟩, ⟨#[]⟩, p⟩ (yqp en 3 L.power st)
def powS (L : Lim) (en : Nat) (st : St) : St :=
 if xqp 3 [45] (rdS st).l = true then powM L en true (xjc st) (pkS st).2.2 (rdS (rdS st)) else powM L en false (xjc st) (pkS st).2.2 (rdS st)
def ywt (L : Lim) (en : Nat) (f : St → St) (st : St) : St :=
 if (pkS st).1 = 2 then zqt L ⟨1, 0, 0, 0, strOf (pkS st).2.1, strOf (untX en (rdS st)), (pkS st).2.2⟩ (yvw en (rdS st))
 else if xqp 3 [40] st.l = true then shtS (xvi en [41] (f (xz1 L st)))
 else zqt L ⟨2, 0, 0, 0, strOf (xqu en st), ⟨#[]⟩, (pkS st).2.2⟩ (yj2 en st)
def yzv (L : Lim) (f : St → St) (st : St) : St :=
 zqt L ⟨joiN (pkS st).2.1, xjc st, xjc (f (rdS st)), 0, ⟨#[]⟩, ⟨#[]⟩, (pkS st).2.2⟩ (f (rdS st))
def zjl (l : List Tk) : Bool := xqp 3 [43] l || xqp 3 [45] l
def zqz (l : List Tk) : Bool := xqp 3 [42] l || xqp 3 [47] l
def yw7 (L : Lim) (f : St → St) (ob : List Tk → Bool) : Nat → St → St
 | 0, st => st
 | g + 1, st => if ob st.l = true then yw7 L f ob g (yzv L f st) else st
def rowK (L : Lim) (f : St → St) (ob : List Tk → Bool) (st : St) : St := yw7 L f ob (f st).l.length (f st)
def trmK (L : Lim) (f : St → St) : St → St := rowK L f zqz
def yvs (L : Lim) (f : St → St) : St → St := rowK L (trmK L f) zjl
def yww (L : Lim) (en : Nat) (f : St → St) (st : St) : St :=
 if xqp 3 [45] st.l = true then zqt L ⟨7, xjc (f (xz1 L st)), 0, 0, ⟨#[]⟩, ⟨#[]⟩, (opnX L st).2.2⟩ (shtS (f (xz1 L st)))
 else if xqp 3 [94] (ywt L en (yvs L f) st).l = true then powS L en (ywt L en (yvs L f) st) else ywt L en (yvs L f) st
def facK (L : Lim) (en : Nat) : Nat → St → St
 | 0, st => st
 | k + 1, st => yww L en (facK L en k) st
/-! ### what is made, what is left -/
def mu (l : List Tk) : Nat := l.length + (if l = [] then 0 else 1)
theorem mu_nil : mu [] = 0 := rfl
theorem mu_cons (t : Tk) (l : List Tk) : mu (t :: l) = l.length + 2 := by simp [mu]
theorem mu_le {a b : List Tk} (h : a.length ≤ b.length) : mu a ≤ mu b := by
 cases a with
 | nil => rw [mu_nil]; omega
 | cons t r =>
  cases b with
  | nil => simp at h
  | cons u s => simp [mu_cons] at h ⊢; omega
theorem mu_tail {l : List Tk} (h : l ≠ []) : mu l.tail + 1 ≤ mu l := by
 cases l with
 | nil => exact absurd rfl h
 | cons t r =>
  rw [mu_cons, List.tail_cons];cases r with
  | nil => simp [mu]
  | cons u s => simp [mu_cons]
structure Cn (c : Nat) (st s : St) : Prop where
 len : s.l.length ≤ st.l.length
 cnt : s.ts.length + mu s.l ≤ st.ts.length + mu st.l + c
 mad : s.mad + st.ts.length = st.mad + s.ts.length
 op : s.op = st.op
theorem Cn.refl (st : St) : Cn 0 st st := ⟨Nat.le_refl _, by omega, by omega, rfl⟩
theorem Cn.trans {c d : Nat} {a b e : St} (h : Cn c a b) (k : Cn d b e) : Cn (c + d) a e := ⟨by have := h.len; have := k.len; omega, by have := h.cnt; have := k.cnt; omega, by have := h.mad; have := k.mad; omega, k.op.trans h.op⟩
theorem Cn.mono {c d : Nat} {a b : St} (h : Cn c a b) (k : c ≤ d) : Cn d a b := ⟨h.len, by have := h.cnt; omega, h.mad, h.op⟩
theorem ywa (e p : Int) (st : St) : Cn 0 st (xjp e p st) := by
 unfold xjp
 split
 · exact ⟨by simp, by simp [mu_nil], rfl, rfl⟩
 · exact Cn.refl _
theorem zqv (en : Nat) (b : Bool) (st : St) : Cn 0 st (xv3 en b st) := by
 unfold xv3
 split
 · exact Cn.refl _
 · exact ywa _ _ _
theorem rd_cn (st : St) : Cn 0 st (rdS st) := ⟨by simp [rdS], by have := mu_le (a := st.l.tail) (b := st.l) (by simp); show st.ts.length + mu st.l.tail ≤ _; omega, rfl, rfl⟩
theorem sgn_cn (en : Nat) (tx : List Nat) (st : St) : Cn 0 st (xvi en tx st) := (zqv _ _ _).trans (rd_cn _)
theorem tak_cn (en kd : Nat) (st : St) : Cn 0 st (xwp en kd st) := (zqv _ _ _).trans (rd_cn _)
theorem nam_cn (en : Nat) (st : St) : Cn 0 st (yj2 en st) := (zqv _ _ _).trans (tak_cn _ _ _)
theorem unt_cn (en : Nat) (st : St) : Cn 0 st (yvw en st) := by
 unfold yvw
 split
 · exact tak_cn _ _ _
 · exact Cn.refl _
theorem smlP_cn (en k most : Nat) (st : St) : Cn 0 st (smlP en k most st) := by
 unfold smlP
 split
 · exact ywa _ _ _
 · split
   · exact ywa _ _ _
   · exact Cn.refl _
theorem sml_cn (en k most : Nat) (st : St) : Cn 0 st (yqp en k most st) := (smlP_cn _ _ _ _).trans (rd_cn _)
theorem nodP_cn (L : Lim) (p : Int) (st : St) : Cn 0 st (xwb L p st) := by
 unfold xwb
 split
 · exact ywa _ _ _
 · exact Cn.refl _
theorem nod_cn (L : Lim) (x : Nd) (st : St) : Cn 1 st (zqt L x st) := by
 have h := nodP_cn L x.p st;have h1 := h.len;have h2 := h.cnt;have h3 := h.mad;refine ⟨h1, ?_, ?_, h.op⟩
 · show ((xwb L x.p st).ts ++ [x]).length + mu (xwb L x.p st).l ≤ _;rw [List.length_append, List.length_singleton]; omega
 · show (xwb L x.p st).mad + 1 + _ = _ + ((xwb L x.p st).ts ++ [x]).length;rw [List.length_append, List.length_singleton]; omega
structure Cr (st s : St) : Prop where
 len : s.l.length + 1 ≤ st.l.length
 cnt : s.ts.length + mu s.l + 1 ≤ st.ts.length + mu st.l
 fin : s.l = [] → s.ts.length + 2 ≤ st.ts.length + mu st.l
 mad : s.mad + st.ts.length = st.mad + s.ts.length
 op : s.op = st.op
theorem yqs {kd : Nat} {tx : List Nat} {l : List Tk} (h : xqp kd tx l = true) : l ≠ [] := by rintro rfl; cases h
theorem mu_two {l : List Tk} (h : l ≠ []) : 2 ≤ mu l := by have := List.length_pos_iff.2 h; unfold mu; rw [if_neg h]; omega
theorem rd_cr {st : St} (h : st.l ≠ []) : Cr st (rdS st) := by
 have := List.length_pos_iff.2 h;exact ⟨by simp [rdS]; omega, by have := mu_tail h; show st.ts.length + mu st.l.tail + 1 ≤ _; omega, fun _ => by have := mu_two h; show st.ts.length + 2 ≤ _; omega, rfl, rfl⟩
structure Co (st s : St) : Prop where
 len : s.l.length + 1 ≤ st.l.length
 cnt : s.ts.length + mu s.l + 1 ≤ st.ts.length + mu st.l
 fin : s.l = [] → s.ts.length + 2 ≤ st.ts.length + mu st.l
 mad : s.mad + st.ts.length = st.mad + s.ts.length
theorem Cr.co {a b : St} (h : Cr a b) : Co a b := ⟨h.len, h.cnt, h.fin, h.mad⟩
theorem opn_co (L : Lim) {st : St} (h : st.l ≠ []) : Co st (xz1 L st) ∧ (xz1 L st).op = st.op + 1 := by
 unfold xz1 yqr xjp;have h2 := mu_two h;have h3 := List.length_pos_iff.2 h;have h4 := rd_cr h
 split
 · split
   · exact ⟨⟨by simp [rdS, ywn]; omega, by simp [rdS, ywn, mu_nil]; omega, fun _ => by simp [rdS, ywn]; omega, rfl⟩, rfl⟩
   · exact ⟨⟨h4.len, h4.cnt, h4.fin, h4.mad⟩, rfl⟩
 · exact ⟨⟨h4.len, h4.cnt, h4.fin, h4.mad⟩, rfl⟩
def xwg (f : St → St) : Prop := ∀ st, Cn (if st.l = [] then 1 else 0) st (f st)
theorem co_step {f : St → St} (hf : xwg f) {st s : St} (h : Co st s) : (f s).l.length + 1 ≤ st.l.length ∧ (f s).ts.length + mu (f s).l + 1 ≤ st.ts.length + mu st.l ∧ (f s).mad + st.ts.length = st.mad + (f s).ts.length ∧ (f s).op = s.op := by
 have k := hf s;have h1 := h.len;have h2 := h.cnt;have h3 := h.mad;have h5 := h.fin;have k1 := k.len;have k2 := k.cnt;have k3 := k.mad;refine ⟨by omega, ?_, by omega, k.op⟩;by_cases e : s.l = []
 · rw [if_pos e] at k2;have := h5 e;rw [e, mu_nil] at k2;omega
 · rw [if_neg e] at k2; omega
theorem node_step {f : St → St} (hf : xwg f) (L : Lim) (x : Nd) {st s s' : St} (h : Co st s) (h1 : s'.l = (f s).l) (h2 : s'.ts = (f s).ts) (h3 : s'.mad = (f s).mad) (h4 : s'.op = st.op) : Cn 0 st (zqt L x s') ∧ (zqt L x s').l.length < st.l.length := by
 have k := co_step hf h;have n := nod_cn L x s';have n1 := n.len;have n2 := n.cnt;have n3 := n.mad;rw [h1] at n1 n2;rw [h2] at n2 n3;rw [h3] at n3;exact ⟨⟨by omega, by omega, by omega, n.op.trans h4⟩, by omega⟩
theorem ywm {f : St → St} (hf : xwg f) (L : Lim) {st : St} (h : st.l ≠ []) : Cn 0 st (yzv L f st) ∧ (yzv L f st).l.length < st.l.length :=
 node_step hf L _ (rd_cr h).co rfl rfl rfl (hf (rdS st)).op
theorem ob_ne {ob : List Tk → Bool} (ho : ob = zjl ∨ ob = zqz) {l : List Tk} (h : ob l = true) : l ≠ [] := by
 rintro rfl;rcases ho with rfl | rfl <;> cases h
theorem lop_cn {f : St → St} (hf : xwg f) (L : Lim) {ob : List Tk → Bool} (ho : ob = zjl ∨ ob = zqz) : ∀ (g : Nat) (st : St), Cn 0 st (yw7 L f ob g st)
 | 0, st => Cn.refl st
 | g + 1, st => by
  unfold yw7
  split
  · rename_i h
    exact (ywm hf L (ob_ne ho h)).1.trans (lop_cn hf L ho g _)
  · exact Cn.refl st
theorem row_good {f : St → St} (hf : xwg f) (L : Lim) {ob : List Tk → Bool} (ho : ob = zjl ∨ ob = zqz) : xwg (rowK L f ob) := fun st => by
 have := (hf st).trans (lop_cn hf L ho (f st).l.length (f st));exact this.mono (by omega)
theorem ywy {f : St → St} (hf : xwg f) (L : Lim) : xwg (trmK L f) := row_good hf L (.inr rfl)
theorem zqb {f : St → St} (hf : xwg f) (L : Lim) : xwg (yvs L f) := row_good (ywy hf L) L (.inl rfl)
theorem lop_len {f : St → St} (hf : xwg f) (L : Lim) {ob : List Tk → Bool} (ho : ob = zjl ∨ ob = zqz) : ∀ (g : Nat) (st : St), st.l.length ≤ g → yw7 L f ob g st = yw7 L f ob st.l.length st
 | 0, st, h => by rw [Nat.le_zero.1 h]
 | g + 1, st, h => by
  cases e : st.l.length with
  | zero =>
   have hn : st.l = [] := List.length_eq_zero_iff.1 e;unfold yw7;rw [if_neg (fun hh => ob_ne ho hh hn)]
  | succ m =>
   show (if ob st.l = true then yw7 L f ob g (yzv L f st) else st) = (if ob st.l = true then yw7 L f ob m (yzv L f st) else st)
   split
   · rename_i hh
     have := (ywm hf L (ob_ne ho hh)).2;rw [lop_len hf L ho g _ (by omega), lop_len hf L ho m _ (by omega)]
   · rfl
theorem yw6 {f : St → St} (hf : xwg f) (L : Lim) {ob : List Tk → Bool} (ho : ob = zjl ∨ ob = zqz) {st : St} (h : ob st.l = true) : yw7 L f ob st.l.length st = yw7 L f ob (yzv L f st).l.length (yzv L f st) := by
 have h1 := List.length_pos_iff.2 (ob_ne ho h);have h2 := (ywm hf L (ob_ne ho h)).2;cases e : st.l.length with
 | zero => omega
 | succ m =>
  show (if ob st.l = true then yw7 L f ob m (yzv L f st) else st) = _;rw [if_pos h, lop_len hf L ho m _ (by omega)]
theorem xwx (L : Lim) (f : St → St) {ob : List Tk → Bool} {st : St} (h : ob st.l = false) (g : Nat) : yw7 L f ob g st = st := by
 cases g with
 | zero => rfl
 | succ g => unfold yw7; rw [h]; rfl
theorem pk_ne {st : St} {k : Nat} (hk : k ≠ 0) (h : (pkS st).1 = k) : st.l ≠ [] := by
 intro e;rw [pkS, e] at h;exact hk h.symm
theorem pow_cn (L : Lim) (en : Nat) {st : St} (h : st.l ≠ []) : Cn 0 st (powS L en st) := by
 have h0 := rd_cr h;have key : ∀ (sg : Bool) (s : St), Cn 0 (rdS st) s → Cn 0 st (powM L en sg (xjc st) (pkS st).2.2 s) := fun sg s hs => by
  unfold powM;have a := h0.len;have b := h0.cnt;have c := h0.mad;generalize (⟨8, xjc st, 0, (if sg = true then -((yzc 3 s).getD 0 : Int) else ((yzc 3 s).getD 0 : Int)), ⟨#[]⟩, ⟨#[]⟩, (pkS st).2.2⟩ : Nd) = x;have k := (hs.trans (sml_cn en 3 L.power s)).trans (nod_cn L x (yqp en 3 L.power s));have k1 := k.len;have k2 := k.cnt;have k3 := k.mad;exact ⟨Nat.le_trans k1 (by omega), Nat.le_trans k2 (by omega), by omega, k.op.trans h0.op⟩
 unfold powS
 split
 · exact key true _ (rd_cn _)
 · exact key false _ (Cn.refl _)
theorem atm_good (L : Lim) (en : Nat) {f : St → St} (hf : xwg f) : xwg (ywt L en f) := fun st => by
 unfold ywt;by_cases h : (pkS st).1 = 2
 · rw [if_pos h];have h0 := rd_cr (pk_ne (by decide) h);have a := h0.len;have b := h0.cnt;have c := h0.mad;have k := (unt_cn en (rdS st)).trans (nod_cn L ⟨1, 0, 0, 0, strOf (pkS st).2.1, strOf (untX en (rdS st)), (pkS st).2.2⟩ (yvw en (rdS st)));have k1 := k.len;have k2 := k.cnt;have k3 := k.mad;exact ⟨Nat.le_trans k1 (by omega), Nat.le_trans k2 (by omega), by omega, k.op.trans h0.op⟩
 · rw [if_neg h];by_cases h : xqp 3 [40] st.l = true
   · rw [if_pos h];have ho := opn_co L (yqs h);have k := co_step hf ho.1;have s := sgn_cn en [41] (f (xz1 L st));have s1 := s.len;have s2 := s.cnt;have s3 := s.mad;have s4 := s.op;refine ⟨?_, ?_, ?_, ?_⟩
     · show (xvi en [41] (f (xz1 L st))).l.length ≤ _; omega
     · show (xvi en [41] (f (xz1 L st))).ts.length + mu (xvi en [41] (f (xz1 L st))).l ≤ _; omega
     · show (xvi en [41] (f (xz1 L st))).mad + _ = st.mad + (xvi en [41] (f (xz1 L st))).ts.length; omega
     · show (xvi en [41] (f (xz1 L st))).op - 1 = st.op; have := k.2.2.2; have := ho.2; omega
   · rw [if_neg h];by_cases e : st.l = []
     · rw [if_pos e];exact (nam_cn en st).trans (nod_cn L _ _)
     · rw [if_neg e];have n : Cn 0 st (yj2 en st) := nam_cn en st;have hx : (yj2 en st).ts = st.ts ∧ mu (yj2 en st).l + 1 ≤ mu st.l := by
        have hfail : ∀ s : St, s.ts = st.ts → s.l.length ≤ st.l.length → (rdS s).ts = st.ts ∧ mu (rdS s).l + 1 ≤ mu st.l := fun s h1 h2 => by
         refine ⟨h1, ?_⟩;by_cases e2 : s.l = []
         · show mu s.l.tail + 1 ≤ _;rw [e2]; have := mu_two e; show mu [] + 1 ≤ _; rw [mu_nil]; omega
         · have := mu_tail e2;have := mu_le h2;show mu s.l.tail + 1 ≤ _; omega
        have hneed : ∀ (b : Bool) (s : St), s.ts = st.ts → (xv3 en b s).ts = st.ts := fun b s hs => by
         unfold xv3 yqc xjp
         split
         · exact hs
         · split
           · exact hs
           · exact hs
        exact hfail _ (hneed _ _ (hneed _ _ rfl)) (Nat.le_trans (zqv _ _ _).len (zqv _ _ _).len)
       have k := nod_cn L ⟨2, 0, 0, 0, strOf (xqu en st), ⟨#[]⟩, (pkS st).2.2⟩ (yj2 en st);have k1 := k.len;have k2 := k.cnt;have k3 := k.mad;have n1 := n.len;have n3 := n.mad;refine ⟨Nat.le_trans k1 n1, Nat.le_trans k2 ?_, by omega, k.op.trans n.op⟩;rw [hx.1]; omega
theorem fac_step (L : Lim) (en : Nat) {f : St → St} (hf : xwg f) : xwg (yww L en f) := fun st => by
 unfold yww;by_cases h : xqp 3 [45] st.l = true
 · rw [if_pos h];have hn := yqs h;have ho := opn_co L hn;rw [if_neg hn];refine (node_step hf L _ (s' := shtS (f (xz1 L st))) ho.1 rfl rfl rfl ?_).1;show (f (xz1 L st)).op - 1 = st.op;have := (hf (xz1 L st)).op;have := ho.2;omega
 · have a := atm_good L en (zqb hf L) st;rw [if_neg h];by_cases h2 : xqp 3 [94] (ywt L en (yvs L f) st).l = true
   · rw [if_pos h2];exact a.trans (pow_cn L en (yqs h2))
   · rw [if_neg h2]; exact a
theorem xw1 (L : Lim) (en : Nat) : ∀ k, xwg (facK L en k)
 | 0 => fun st => (Cn.refl st).mono (by omega)
 | k + 1 => fac_step L en (xw1 L en k)
end Go.Proofs.YtannifhcjcbkcaaGreatDoor
