/- Part 7 of the texts that the statements of this seat lean on: mathematics, and what functions answer, as contracts over memory; each part says its own conditions. -/
import Derived.Test.YtannifhcjcbkcaaGreatDoorMB6
import Derived.LoopIn
set_option linter.unusedVariables false
set_option maxHeartbeats 8000000
namespace Go.Proofs.YtannifhcjcbkcaaGreatDoor
open Go.RowKit Limb
open Lib (hid)
structure Dead (e p : Int) (op : Nat) (st : St) : Prop where
 E : st.E = e
 P : st.P = p
 l : st.l = []
 op : st.op = op
 ne : e ≠ 0
section
variable {L : Lim} {en : Nat} {e p : Int} {op : Nat} {st : St}
theorem Dead.fail (h : Dead e p op st) (e' p' : Int) : xjp e' p' st = st := by unfold xjp; rw [if_neg (by rw [h.E]; exact h.ne)]
theorem Dead.rd (h : Dead e p op st) : rdS st = st := by
 cases st
 have := h.l;dsimp only at this;subst this; rfl
theorem Dead.need (h : Dead e p op st) (b : Bool) : xv3 en b st = st := by
 unfold xv3
 split
 · rfl
 · exact h.fail _ _
theorem Dead.sgn (h : Dead e p op st) (tx : List Nat) : xvi en tx st = st := by unfold xvi; rw [h.need, h.rd]
theorem Dead.tak (h : Dead e p op st) (kd : Nat) : xwp en kd st = st := by unfold xwp takP; rw [h.need, h.rd]
theorem Dead.nam (h : Dead e p op st) : yj2 en st = st := by unfold yj2 namP; rw [h.need, h.tak]
theorem Dead.unt (h : Dead e p op st) : yvw en st = st := by
 unfold yvw
 split
 · exact h.tak 4
 · rfl
theorem Dead.sml (h : Dead e p op st) (k most : Nat) : yqp en k most st = st := by
 unfold yqp smlP
 split
 · rw [yqc, h.fail, h.rd]
 · split
   · rw [h.fail, h.rd]
   · exact h.rd
theorem Dead.next (h : Dead e p op st) (kd : Nat) (tx : List Nat) : xqp kd tx st.l = false := by rw [h.l]; rfl
theorem Dead.nod (h : Dead e p op st) (x : Nd) : Dead e p op (zqt L x st) := by
 unfold zqt xwb
 split
 · rw [h.fail]; exact ⟨h.E, h.P, h.l, h.op, h.ne⟩
 · exact ⟨h.E, h.P, h.l, h.op, h.ne⟩
theorem Dead.ob (h : Dead e p op st) {ob : List Tk → Bool} (ho : ob = zjl ∨ ob = zqz) : ob st.l = false := by rw [h.l]; rcases ho with rfl | rfl <;> rfl
theorem Dead.row (h : Dead e p op st) {f : St → St} (hf : Dead e p op (f st)) {ob : List Tk → Bool} (ho : ob = zjl ∨ ob = zqz) : Dead e p op (rowK L f ob st) := by
 unfold rowK;rw [xwx L f (hf.ob ho)]; exact hf
theorem Dead.atm (h : Dead e p op st) (f : St → St) : Dead e p op (ywt L en f st) := by
 unfold ywt;rw [if_neg (by rw [pkS, h.l]; decide), h.next, if_neg (by decide), h.nam];exact h.nod _
theorem Dead.fac (h : Dead e p op st) (f : St → St) : Dead e p op (yww L en f st) := by
 unfold yww;rw [h.next, if_neg (by decide), (h.atm (L := L) (en := en) (yvs L f)).next, if_neg (by decide)];exact h.atm _
theorem Dead.frm (h : Dead e p op st) (k : Nat) : Dead e p op (yvs L (facK L en (k + 1)) st) := (h.row (h.row (h.fac _) (.inr rfl)) (.inl rfl))
end
/-! ### token by token -/
section
variable {L : Lim} {en : Nat} {st : St}
theorem xvq (hE : st.E = 0) {e p : Int} (he : e ≠ 0) : Dead e p st.op (xjp e p st) := by unfold xjp; rw [if_pos hE]; exact ⟨rfl, rfl, rfl, rfl, he⟩
theorem take_eq (kd n : Nat) (tx : List Nat) : xjr en kd tx st.l n = if xqp kd tx st.l = true then .ok (pkS st) st.l.tail n else .bad 12 (xws en st.l) := by
 cases e : st.l with
 | nil => rfl
 | cons t r => rw [pkS, e]; rfl
theorem name_eq (n : Nat) : yz9 en st.l n = if (decide ((pkS st).1 = 1) && xjn (pkS st).2.1) = true then .ok (pkS st) st.l.tail n else .bad 12 (xws en st.l) := by
 cases e : st.l with
 | nil => rw [show pkS st = (0, [], 0) by rw [pkS, e]; rfl]; rfl
 | cons t r =>
  rw [pkS, e];show (if t.1 = 1 ∧ xjn t.2.1 = true then _ else _) = (if (decide (t.1 = 1) && xjn t.2.1) = true then _ else _);by_cases h : t.1 = 1 ∧ xjn t.2.1 = true
  · rw [if_pos h, if_pos (by simp [h.1, h.2])]; rfl
  · rw [if_neg h, if_neg (by simpa using h)]; rfl
theorem zqu {kd : Nat} (hk : kd ≠ 0) (l : List Tk) : xqp kd [] l = decide ((pkL l).1 = kd) := by
 cases l with
 | nil => exact (decide_eq_false (by show ¬ 0 = kd; omega)).symm
 | cons t r => show (decide (t.1 = kd) && true) = _; rw [Bool.and_true]; rfl
def Kin (st : St) {α : Type} (r : PaR α) (x : α → Prop) (s : St) : Prop := match r with
 | .ok a l n => s = { st with l := l } ∧ n = st.mad ∧ x a
 | .bad e p => Dead e p st.op s
theorem tak_kin (hE : st.E = 0) {kd : Nat} (hk : kd ≠ 0) : Kin st (xjr en kd [] st.l st.mad) (fun t => yza en kd st = t.2.1 ∧ t ∈ st.l) (xwp en kd st) := by
 rw [take_eq, zqu hk];unfold yza xwp takP xv3;by_cases h : (pkS st).1 = kd
 · rw [if_pos (decide_eq_true h), if_pos (decide_eq_true h)];refine ⟨rfl, rfl, rfl, ?_⟩;cases e : st.l with
   | nil => rw [pkS, e] at h; exact absurd h.symm hk
   | cons t r => rw [pkS, e]; exact List.mem_cons_self
 · rw [if_neg (by simpa using h), if_neg (by simpa using h)];have := (xvq (p := xws en st.l) hE (show (12 : Int) ≠ 0 by decide));show Dead _ _ _ (rdS (yqc en st));rw [yqc, this.rd]; exact this
theorem sgn_kin (hE : st.E = 0) (tx : List Nat) : Kin st (xjr en 3 tx st.l st.mad) (fun _ => True) (xvi en tx st) := by
 rw [take_eq];unfold xvi xv3;by_cases h : xqp 3 tx st.l = true
 · rw [if_pos h, if_pos h]; exact ⟨rfl, rfl, trivial⟩
 · rw [if_neg h, if_neg h];have := (xvq (p := xws en st.l) hE (show (12 : Int) ≠ 0 by decide));show Dead _ _ _ (rdS (yqc en st));rw [yqc, this.rd]; exact this
theorem nam_kin (hE : st.E = 0) : Kin st (yz9 en st.l st.mad) (fun t => xqu en st = t.2.1 ∧ t = pkS st) (yj2 en st) := by
 rw [name_eq];have hd := (xvq (p := xws en st.l) hE (show (12 : Int) ≠ 0 by decide));unfold yj2 xqu namP xv3;by_cases h : xjn (pkS st).2.1 = true
 · rw [if_pos h, h, Bool.and_true];unfold xwp yza takP xv3;by_cases h1 : (pkS st).1 = 1
   · rw [if_pos (decide_eq_true h1), if_pos (decide_eq_true h1)]; exact ⟨rfl, rfl, rfl, rfl⟩
   · rw [if_neg (by simpa using h1), if_neg (by simpa using h1)];show Dead _ _ _ (rdS (yqc en st));rw [yqc, hd.rd]; exact hd
 · rw [if_neg (by simp [h]), if_neg h];show Dead _ _ _ (xwp en 1 (yqc en st));rw [yqc, hd.tak]; exact hd
theorem unt_kin (hE : st.E = 0) : yvw en st = { st with l := (xv6 st.l).2 } ∧ untX en st = (xv6 st.l).1 := by
 unfold yvw untX;cases e : st.l with
 | nil => rw [pkS, e]; exact ⟨by cases st; dsimp only at e; subst e; rfl, rfl⟩
 | cons t r =>
  have hp : pkS st = t := by rw [pkS, e]; rfl
  rw [hp];by_cases h : t.1 = 4
  · have k := tak_kin (en := en) (st := st) hE (kd := 4) (by decide);rw [take_eq, zqu (by decide), show pkL st.l = t from hp, if_pos (decide_eq_true h)] at k;rw [if_pos h, if_pos h];show _ = { st with l := (if isT 4 [] t = true then (t.2.1, r) else ([], t :: r)).2 } ∧ _ = (if isT 4 [] t = true then (t.2.1, r) else ([], t :: r)).1;rw [if_pos (show isT 4 [] t = true by simp [isT, h])];obtain ⟨k1, _, k2, _⟩ := k;rw [e] at k1;exact ⟨k1, k2.trans (by rw [hp])⟩
  · rw [if_neg h, if_neg h];show _ = { st with l := (if isT 4 [] t = true then (t.2.1, r) else ([], t :: r)).2 } ∧ _ = (if isT 4 [] t = true then (t.2.1, r) else ([], t :: r)).1;rw [if_neg (show ¬ isT 4 [] t = true by simp [isT, h])];exact ⟨by cases st; dsimp only at e; subst e; rfl, rfl⟩
theorem sml_kin (hE : st.E = 0) (k most : Nat) : Kin st ((xjr en 2 [] st.l st.mad).next fun x r n => match xvk x.2.1 k with | none => .bad 12 x.2.2 | some v => if most < v then .bad 2 x.2.2 else .ok v r n) (fun v => yzc k st = some v) (yqp en k most st) := by
 rw [take_eq, zqu (by decide)];unfold yqp smlP;cases hv : yzc k st with
 | none =>
  have hd := (xvq (p := xws en st.l) hE (show (12 : Int) ≠ 0 by decide));show Kin st _ _ (rdS (yqc en st));rw [yqc, hd.rd];unfold yzc at hv;by_cases h : (pkS st).1 = 2
  · rw [if_pos h] at hv;rw [if_pos (decide_eq_true h), PaR.next_ok];show Kin st (match xvk (pkS st).2.1 k with | none => _ | some v => _) _ _;rw [hv];show Dead _ _ _ _;cases e : st.l with
    | nil => rw [pkS, e] at h; cases h
    | cons t r => rw [e] at hd; rw [pkS, e]; exact hd
  · rw [if_neg (by simpa using h), PaR.next_bad]; exact hd
 | some v =>
  unfold yzc at hv;by_cases h : (pkS st).1 = 2
  · rw [if_pos h] at hv;rw [if_pos (decide_eq_true h), PaR.next_ok];show Kin st (match xvk (pkS st).2.1 k with | none => _ | some v => _) _ (rdS (if most < v then xjp 2 (pkS st).2.2 st else st));rw [hv];show Kin st (if most < v then _ else _) _ _;by_cases h2 : most < v
    · rw [if_pos h2, if_pos h2];have hd := (xvq (p := (pkS st).2.2) hE (show (2 : Int) ≠ 0 by decide));rw [hd.rd]; exact hd
    · rw [if_neg h2, if_neg h2]; exact ⟨rfl, rfl, rfl⟩
  · rw [if_neg h] at hv; cases hv
end
/-! ### formulas -/
def Is (L : Lim) (r : PaR (List Nd)) (st s : St) : Prop := match r with
 | .ok t l n => s = { st with l := l, mad := n, ts := st.ts ++ t.map (xqj st.ts.length) } ∧ n ≤ L.nodes
 | .bad e p => Dead e p st.op s
theorem shift_len (t : List Nd) (d : Nat) : (t.map (xqj d)).length = t.length := List.length_map _
theorem over_shift {k : Int} (hk : oneK k = true) (j : Int) (t : List Nd) (p d : Nat) : (xva k j t p).map (xqj d) = t.map (xqj d) ++ [⟨k, ((d + t.length : Nat) : Int) - 1, 0, j, ⟨#[]⟩, ⟨#[]⟩, p⟩] := by
 unfold xva;rw [List.map_append, List.map_cons, List.map_nil, xzi (by exact hk), show (t.length : Int) - 1 + (d : Int) = ((d + t.length : Nat) : Int) - 1 by omega]
theorem join_shift {k : Int} (hk : xq8 k = true) (t u : List Nd) (p d : Nat) : (xwf k t u p).map (xqj d) = t.map (xqj d) ++ u.map (xqj (d + t.length)) ++ [⟨k, ((d + t.length : Nat) : Int) - 1, ((d + t.length + u.length : Nat) : Int) - 1, 0, ⟨#[]⟩, ⟨#[]⟩, p⟩] := by
 have hu : (u.map (xqj t.length)).map (xqj d) = u.map (xqj (d + t.length)) := by
  rw [List.map_map];refine List.map_congr_left fun x _ => ?_
  show xqj d (xqj t.length x) = _;rw [yze, Nat.add_comm]
 unfold xwf;rw [List.map_append, List.map_append, List.map_cons, List.map_nil, xzu (by exact hk), hu, show (t.length : Int) - 1 + (d : Int) = ((d + t.length : Nat) : Int) - 1 by omega, show (t.length : Int) + (u.length : Int) - 1 + (d : Int) = ((d + t.length + u.length : Nat) : Int) - 1 by omega]
section
variable {L : Lim} {en : Nat} {st : St}
theorem zqs (hE : st.E = 0) {s : St} {T t2 : List Nd} {l : List Tk} {n : Nat} {x : Nd} {p : Nat} (hs : s = { st with l := l, mad := n, ts := st.ts ++ T }) (hn : n ≤ L.nodes) (hx : x.p = (p : Int)) (h2 : t2.map (xqj st.ts.length) = T ++ [x]) : Is L (xvb L t2 p l n) st (zqt L x s) := by
 have hsE : s.E = 0 := by rw [hs]; exact hE
 have hso : s.op = st.op := by rw [hs]
 have hsm : s.mad = n := by rw [hs]
 unfold zqt xwb xvb;rw [hsm];by_cases h : n = L.nodes
 · rw [if_pos h, if_pos (by omega), hx];have hd : Dead 2 p s.op (xjp 2 (p : Int) s) := xvq hsE (by decide);rw [hso] at hd;exact ⟨hd.E, hd.P, hd.l, hd.op, hd.ne⟩
 · rw [if_neg h, if_neg (by omega)];refine ⟨?_, by omega⟩;rw [h2, hs];unfold addS;rw [List.append_assoc]
theorem Is.bad {r : PaR (List Nd)} {st s : St} {e p : Nat} (h : Is L r st s) (hr : r = .bad e p) : Dead e p st.op s := by rw [hr] at h; exact h
theorem Is.ok {r : PaR (List Nd)} {st s : St} {t : List Nd} {l : List Tk} {n : Nat} (h : Is L r st s) (hr : r = .ok t l n) : s = { st with l := l, mad := n, ts := st.ts ++ t.map (xqj st.ts.length) } ∧ n ≤ L.nodes := by rw [hr] at h; exact h
theorem lit_shift (s u : List Nat) (p d : Nat) : (litN s u p).map (xqj d) = [⟨1, 0, 0, 0, strOf s, strOf u, p⟩] := rfl
theorem ref_shift (s : List Nat) (p d : Nat) : (refN s p).map (xqj d) = [⟨2, 0, 0, 0, strOf s, ⟨#[]⟩, p⟩] := rfl
theorem here_pk {l : List Tk} (h : l ≠ []) : xws en l = (pkL l).2.2 := by
 cases l with
 | nil => exact absurd rfl h
 | cons t r => rfl
theorem powM_is (hE : st.E = 0) {s0 : St} {t : List Nd} {l : List Tk} {n : Nat} (hs0 : s0 = { st with l := l, mad := n, ts := st.ts ++ t.map (xqj st.ts.length) }) (hn : n ≤ L.nodes) (sg : Bool) (pa : Nat) : Is L (powB L en t pa sg l n) st (powM L en sg (((st.ts.length + t.length : Nat) : Int) - 1) pa s0) := by
 have k := sml_kin (st := s0) (en := en) (by rw [hs0]; exact hE) 3 L.power;subst hs0;unfold powB powM;dsimp only at k;cases e : xjr en 2 [] l n with
 | bad a b =>
  rw [e, PaR.next_bad] at k;rw [PaR.next_bad];exact Dead.nod (L := L) k _
 | ok x r m =>
  rw [e, PaR.next_ok] at k;rw [PaR.next_ok];cases e2 : xvk x.2.1 3 with
  | none => simp only [e2] at k ⊢; exact Dead.nod (L := L) k _
  | some v =>
   simp only [e2] at k ⊢;by_cases h : L.power < v
   · rw [if_pos h] at k ⊢; exact Dead.nod (L := L) k _
   · rw [if_neg h] at k ⊢;obtain ⟨k1, k2, k3⟩ := k;dsimp only at k2;rw [k1, k3];subst k2;dsimp only;refine zqs (st := st) hE rfl hn rfl ?_;rw [over_shift (by decide)];cases sg <;> rfl
theorem powT_is (hE : st.E = 0) {s0 : St} {t : List Nd} {l : List Tk} {n : Nat} (hs0 : s0 = { st with l := l, mad := n, ts := st.ts ++ t.map (xqj st.ts.length) }) (hn : n ≤ L.nodes) : Is L (yw1 L en t l n) st (if xqp 3 [94] s0.l = true then powS L en s0 else s0) := by
 subst hs0;unfold yw1;dsimp only;by_cases h : xqp 3 [94] l = true
 · rw [if_pos h, if_pos h];unfold powS;have hl : xjc { st with l := l, mad := n, ts := st.ts ++ t.map (xqj st.ts.length) } = ((st.ts.length + t.length : Nat) : Int) - 1 := by simp [xjc]
   rw [hl];rw [here_pk (yqs h)];show Is L (if xqp 3 [45] l.tail = true then _ else _) st (if xqp 3 [45] l.tail = true then _ else _);by_cases h2 : xqp 3 [45] l.tail = true
   · rw [if_pos h2, if_pos h2];exact powM_is hE rfl hn true _
   · rw [if_neg h2, if_neg h2];exact powM_is hE rfl hn false _
 · rw [if_neg h, if_neg h];exact ⟨rfl, hn⟩
structure Opr (ob : List Tk → Bool) (op : Tk → Option Int) : Prop where
 w : ob = zjl ∨ ob = zqz
 yes : ∀ x r k, op x = some k → ob (x :: r) = true ∧ joiN x.2.1 = k ∧ xq8 k = true
 no : ∀ x r, op x = none → ob (x :: r) = false
theorem isT_tx {kd c : Nat} {t : Tk} (h : isT kd [c] t = true) : t.2.1 = [c] := by
 rcases (xzk h).2 with e | e
 · cases e
 · exact e
theorem opr_add : Opr zjl addO := by
 refine ⟨.inl rfl, fun x r k h => ?_, fun x r h => ?_⟩
 · unfold addO at h;show (isT 3 [43] x || isT 3 [45] x) = true ∧ _
   split at h
   · rename_i h1
     cases h; rw [h1, isT_tx h1]; exact ⟨rfl, rfl, rfl⟩
   · split at h
     · rename_i h1
       cases h; rw [h1, isT_tx h1, Bool.or_true]; exact ⟨rfl, rfl, rfl⟩
     · cases h
 · unfold addO at h;show (isT 3 [43] x || isT 3 [45] x) = false
   split at h
   · cases h
   · split at h
     · cases h
     · rename_i h1 h2
       rw [Bool.or_eq_false_iff];exact ⟨by simpa using h1, by simpa using h2⟩
theorem opr_mul : Opr zqz mulO := by
 refine ⟨.inr rfl, fun x r k h => ?_, fun x r h => ?_⟩
 · unfold mulO at h;show (isT 3 [42] x || isT 3 [47] x) = true ∧ _
   split at h
   · rename_i h1
     cases h; rw [h1, isT_tx h1]; exact ⟨rfl, rfl, rfl⟩
   · split at h
     · rename_i h1
       cases h; rw [h1, isT_tx h1, Bool.or_true]; exact ⟨rfl, rfl, rfl⟩
     · cases h
 · unfold mulO at h;show (isT 3 [42] x || isT 3 [47] x) = false
   split at h
   · cases h
   · split at h
     · cases h
     · rename_i h1 h2
       rw [Bool.or_eq_false_iff];exact ⟨by simpa using h1, by simpa using h2⟩
def IsR (L : Lim) (o : Nat) (g : Rdr) (f : St → St) : Prop := ∀ s : St, s.E = 0 → s.mad ≤ L.nodes → s.op = o → Is L (g s.l s.mad) s (f s)
theorem lop_is {g : Rdr} {f : St → St} (hg : xwg f) {ob : List Tk → Bool} {op : Tk → Option Int} (ho : Opr ob op) (hf : IsR L st.op g f) (hE : st.E = 0) : ∀ (m : Nat) (t : List Nd) (l : List Tk) (n : Nat) (s : St), s = { st with l := l, mad := n, ts := st.ts ++ t.map (xqj st.ts.length) } → n ≤ L.nodes → l.length ≤ m → Is L (xv4 L g op m t l n) st (yw7 L f ob m s)
 | 0, t, l, n, s, hs, hn, hl => by
  obtain rfl := List.length_eq_zero_iff.1 (Nat.le_zero.1 hl);exact ⟨hs, hn⟩
 | m + 1, t, [], n, s, hs, hn, hl => by
  rw [xwx L f (by rw [hs]; rcases ho.w with h | h <;> rw [h] <;> rfl)];exact ⟨hs, hn⟩
 | m + 1, t, x :: r, n, s, hs, hn, hl => by
  have hsl : s.l = x :: r := by rw [hs]
  cases e : op x with
  | none =>
   rw [xwx L f (by rw [hsl]; exact ho.no x r e)];show Is L (match op x with | none => _ | some k => _) st s;rw [e];exact ⟨hs, hn⟩
  | some k =>
   obtain ⟨h1, h2, h3⟩ := ho.yes x r k e;show Is L (match op x with | none => _ | some k => _) st (if ob s.l = true then yw7 L f ob m (yzv L f s) else s);rw [e, hsl, if_pos h1];show Is L ((g r n).next _) st _;have hlt := (ywm hg L (st := s) (by rw [hsl]; simp)).2;have key : Is L ((g r n).next fun u r2 n2 => xvb L (xwf k t u x.2.2) x.2.2 r2 n2) st (yzv L f s) := by
    have hI := hf (rdS s) (by rw [hs]; exact hE) (by rw [hs]; exact hn) (by rw [hs]; rfl);rw [show (rdS s).l = r by rw [rdS, hsl]; rfl, show (rdS s).mad = n by rw [hs]; rfl] at hI;unfold yzv;rw [show pkS s = x by rw [pkS, hsl]; rfl];cases e2 : g r n with
    | bad a b =>
     have hd := hI.bad e2;rw [PaR.next_bad];rw [show (rdS s).op = st.op by rw [hs]; rfl] at hd;exact hd.nod _
    | ok u r2 n2 =>
     obtain ⟨hk, hn2⟩ := hI.ok e2;rw [PaR.next_ok];have hts : (rdS s).ts = st.ts ++ t.map (xqj st.ts.length) := by rw [hs]; rfl
     have hfs : f (rdS s) = { st with l := r2, mad := n2, ts := st.ts ++ (t.map (xqj st.ts.length) ++ u.map (xqj (st.ts.length + t.length))) } := by
      rw [hk, hts, List.length_append, shift_len, List.append_assoc, hs]; rfl
     refine zqs hE hfs hn2 rfl ?_;rw [join_shift h3, h2]
     congr 2
     refine Nd.ext' rfl ?_ ?_ rfl rfl rfl rfl
     · show _ = xjc s;unfold xjc; rw [hs]; simp
     · show _ = xjc (f (rdS s));unfold xjc; rw [hfs]; simp; omega
   cases e2 : g r n with
   | bad a b =>
    rw [e2, PaR.next_bad] at key;have hd : Dead _ _ _ _ := key;rw [PaR.next_bad, xwx L f (hd.ob ho.w)];exact key
   | ok u r2 n2 =>
    rw [e2, PaR.next_ok] at key;rw [PaR.next_ok];cases e3 : xvb L (xwf k t u x.2.2) x.2.2 r2 n2 with
    | bad a b =>
     rw [e3] at key;have hd : Dead _ _ _ _ := key;rw [PaR.next_bad, xwx L f (hd.ob ho.w)];exact key
    | ok t2 r3 n3 =>
     obtain ⟨k1, k2⟩ := key.ok e3;rw [PaR.next_ok];refine lop_is hg ho hf hE m t2 r3 n3 _ k1 k2 ?_;rw [k1] at hlt;have h5 : r3.length < s.l.length := hlt;rw [hsl] at h5;simp at h5 hl;omega
theorem row_is {g : Rdr} {f : St → St} (hg : xwg f) {ob : List Tk → Bool} {op : Tk → Option Int} (ho : Opr ob op) {o : Nat} (hf : IsR L o g f) : IsR L o (rowT L g op) (rowK L f ob) := fun st hE hn hop => by
 subst hop;have hI := hf st hE hn rfl;unfold rowT rowK;cases e : g st.l st.mad with
 | bad a b =>
  have hd := hI.bad e;rw [PaR.next_bad, xwx L f (hd.ob ho.w)];exact hd
 | ok t l n =>
  obtain ⟨k1, k2⟩ := hI.ok e;rw [PaR.next_ok, show (f st).l.length = l.length by rw [k1]];exact lop_is hg ho hf hE _ t l n _ k1 k2 (Nat.le_refl _)
theorem frm_is {g : Rdr} {f : St → St} (hg : xwg f) {o : Nat} (hf : IsR L o g f) : IsR L o (yjw L g) (yvs L f) := row_is (ywy hg L) opr_add (row_is hg opr_mul hf)
def SubR (L : Lim) (o : Nat) (f : St → St) : Option Rdr → Prop
 | none => o = L.deep ∧ ∀ (e p : Int) (op : Nat) (s : St), Dead e p op s → Dead e p op (f s)
 | some g => o < L.deep ∧ IsR L (o + 1) g f
theorem opn_dead (hE : st.E = 0) (h : st.op = L.deep) (hn : st.l ≠ []) : Dead 2 (xws en st.l) (st.op + 1) (xz1 L st) := by
 have hd := xvq (p := (pkS st).2.2) hE (show (2 : Int) ≠ 0 by decide);unfold xz1 yqr;rw [if_pos h, here_pk hn];exact ⟨hd.E, hd.P, by show (xjp 2 (pkS st).2.2 st).l.tail = []; rw [hd.l]; rfl, by show (xjp 2 (pkS st).2.2 st).op + 1 = _; rw [hd.op], by decide⟩
theorem xj9 (h : st.op < L.deep) : xz1 L st = { st with l := st.l.tail, op := st.op + 1 } := by
 unfold xz1 yqr;rw [if_neg (by omega)]; rfl
theorem opnX_live (h : st.op < L.deep) : opnX L st = pkS st := by
 unfold opnX yqr;rw [if_neg (by omega)]
theorem Dead.sht {e p : Int} {op : Nat} {s : St} (h : Dead e p (op + 1) s) : Dead e p op (shtS s) := ⟨h.E, h.P, h.l, by show s.op - 1 = op; rw [h.op]; omega, h.ne⟩
theorem Dead.pow' {e p : Int} {op : Nat} {s : St} (h : Dead e p op s) : Dead e p op (if xqp 3 [94] s.l = true then powS L en s else s) := by rw [h.next, if_neg (by decide)]; exact h
theorem facS_is {f : St → St} {sub : Option Rdr} (hg : xwg f) (hs : SubR L st.op f sub) (hE : st.E = 0) (hn : st.mad ≤ L.nodes) : Is L (zq9 L en sub st.l st.mad) st (yww L en f st) := by
 unfold zq9 yww;by_cases h1 : xqp 3 [45] st.l = true
 · rw [if_pos h1, if_pos h1];have hne := yqs h1;cases sub with
   | none =>
    have hd := opn_dead (en := en) hE hs.1 hne;exact ((hs.2 _ _ _ _ hd).sht).nod _
   | some g =>
    have hI := hs.2 (xz1 L st) (by rw [xj9 hs.1]; exact hE) (by rw [xj9 hs.1]; exact hn) (by rw [xj9 hs.1]);have hl : (xz1 L st).l = st.l.tail := by rw [xj9 hs.1]
    have hm : (xz1 L st).mad = st.mad := by rw [xj9 hs.1]
    rw [hl, hm] at hI;show Is L ((g st.l.tail st.mad).next _) st _;rw [opnX_live hs.1];cases e : g st.l.tail st.mad with
    | bad a b =>
     have hd := hI.bad e;rw [show (xz1 L st).op = st.op + 1 by rw [xj9 hs.1]] at hd;rw [PaR.next_bad];exact hd.sht.nod _
    | ok t l n =>
     obtain ⟨k1, k2⟩ := hI.ok e;rw [PaR.next_ok];have hts : (xz1 L st).ts = st.ts := by rw [xj9 hs.1]
     rw [hts] at k1;refine zqs (T := t.map (xqj st.ts.length)) (l := l) (n := n) hE ?_ k2 ?_ ?_
     · rw [k1, xj9 hs.1]; rfl
     · rw [here_pk hne]
     · rw [over_shift (by decide), here_pk hne]
       congr 2
       refine Nd.ext' rfl ?_ rfl rfl rfl rfl rfl;show _ = xjc (f (xz1 L st));rw [k1]; simp [xjc]
 · rw [if_neg h1, if_neg h1];by_cases h2 : xqp 3 [40] st.l = true
   · rw [if_pos h2];have hne := yqs h2;have hk : ¬ (pkS st).1 = 2 := by
      cases e : st.l with
      | nil => exact absurd e hne
      | cons x r =>
       rw [e] at h2;have := (xzk h2).1;rw [pkS, e]; show ¬ x.1 = 2; omega
     have ha : ywt L en (yvs L f) st = shtS (xvi en [41] (yvs L f (xz1 L st))) := by unfold ywt; rw [if_neg hk, if_pos h2]
     rw [ha];cases sub with
     | none =>
      have hd := opn_dead (en := en) hE hs.1 hne;have hf : Dead 2 (xws en st.l) (st.op + 1) (yvs L f (xz1 L st)) := hd.row (hd.row (hs.2 _ _ _ _ hd) (.inr rfl)) (.inl rfl);rw [hf.sgn];exact hf.sht.pow'
     | some g =>
      have hI := frm_is hg hs.2 (xz1 L st) (by rw [xj9 hs.1]; exact hE) (by rw [xj9 hs.1]; exact hn) (by rw [xj9 hs.1]);have hl : (xz1 L st).l = st.l.tail := by rw [xj9 hs.1]
      have hm : (xz1 L st).mad = st.mad := by rw [xj9 hs.1]
      rw [hl, hm] at hI;show Is L ((yjw L g st.l.tail st.mad).next _) st _;cases e : yjw L g st.l.tail st.mad with
      | bad a b =>
       have hd := hI.bad e;rw [show (xz1 L st).op = st.op + 1 by rw [xj9 hs.1]] at hd;rw [PaR.next_bad, hd.sgn];exact hd.sht.pow'
      | ok t l n =>
       obtain ⟨k1, k2⟩ := hI.ok e;rw [PaR.next_ok];have hts : (xz1 L st).ts = st.ts := by rw [xj9 hs.1]
       rw [hts] at k1;have hs1 : yvs L f (xz1 L st) = { st with l := l, mad := n, ts := st.ts ++ t.map (xqj st.ts.length), op := st.op + 1 } := by rw [k1, xj9 hs.1]
       have kk := sgn_kin (en := en) (st := yvs L f (xz1 L st)) (by rw [hs1]; exact hE) [41];rw [show (yvs L f (xz1 L st)).l = l by rw [hs1], show (yvs L f (xz1 L st)).mad = n by rw [hs1]] at kk;cases e2 : xjr en 3 [41] l n with
       | bad a b =>
        rw [e2] at kk;have hd : Dead _ _ _ _ := kk;rw [show (yvs L f (xz1 L st)).op = st.op + 1 by rw [hs1]] at hd;rw [PaR.next_bad];exact hd.sht.pow'
       | ok c r m =>
        rw [e2] at kk;obtain ⟨k3, k4, _⟩ := kk;rw [PaR.next_ok];have hm2 : m = n := by rw [k4, hs1]
        subst hm2;refine powT_is hE (t := t) (l := r) (n := m) ?_ k2;rw [k3, hs1]; rfl
   · rw [if_neg h2];have hat : Is L (yqm L en st.l st.mad) st (ywt L en (yvs L f) st) := by
      unfold ywt;rw [if_neg h2];cases e : st.l with
      | nil =>
       have k := nam_kin (en := en) hE;rw [e] at k;rw [show pkS st = (0, [], 0) by rw [pkS, e]; rfl, if_neg (by decide)];have hd : Dead _ _ _ _ := k;exact hd.nod _
      | cons x r =>
       have hp : pkS st = x := by rw [pkS, e]; rfl
       rw [hp];by_cases h3 : x.1 = 2
       · rw [if_pos h3];obtain ⟨u1, u2⟩ := unt_kin (en := en) (st := rdS st) hE;have hr : (rdS st).l = r := by rw [rdS, e]; rfl
         rw [hr] at u1 u2;unfold yqm;dsimp only;rw [if_pos (show isT 2 [] x = true by simp [isT, h3]), u1, u2];cases r with
         | nil => exact zqs (T := []) hE (by simp [rdS, xv6]) hn rfl rfl
         | cons y q =>
          dsimp only;by_cases h4 : isT 4 [] y = true
          · rw [if_pos h4];refine zqs (T := []) hE ?_ hn rfl ?_
            · simp [rdS, xv6, h4]
            · simp [xv6, h4, lit_shift]
          · rw [if_neg h4];refine zqs (T := []) hE ?_ hn rfl ?_
            · simp [rdS, xv6, h4]
            · simp [xv6, h4, lit_shift]
       · rw [if_neg h3];have k := nam_kin (en := en) hE;rw [e] at k;unfold yqm;dsimp only;rw [if_neg (show ¬ isT 2 [] x = true by simp [isT, h3])];unfold yz9 at k;dsimp only at k;by_cases h4 : x.1 = 1 ∧ xjn x.2.1 = true
         · rw [if_pos h4] at k ⊢;obtain ⟨k1, _, k2, _⟩ := k;rw [k1, k2];refine zqs (T := []) hE ?_ hn rfl ?_
           · simp
           · rw [ref_shift]; rfl
         · rw [if_neg h4] at k ⊢;have hd : Dead _ _ _ _ := k;exact hd.nod _
     cases e : yqm L en st.l st.mad with
     | bad a b =>
      have hd := hat.bad e;rw [PaR.next_bad];exact hd.pow'
     | ok t l n =>
      obtain ⟨k1, k2⟩ := hat.ok e;rw [PaR.next_ok];exact powT_is hE k1 k2
theorem fac_is (L : Lim) (en : Nat) : ∀ (d k o : Nat), o + d = L.deep → d + 2 ≤ k → IsR L o (yjs L en d) (facK L en k)
 | 0, k + 2, o, ho, _ => fun st hE hn hop => by
  refine facS_is (sub := none) (xw1 L en (k + 1)) ⟨by omega, fun e p op s hd => hd.fac _⟩ hE hn
 | d + 1, k + 1, o, ho, hk => fun st hE hn hop => by
  refine facS_is (sub := some (yjs L en d)) (xw1 L en k) ⟨by omega, ?_⟩ hE hn;rw [hop];exact fac_is L en d k (o + 1) (by omega) (by omega)
theorem form_is (L : Lim) (en k : Nat) (hk : L.deep + 2 ≤ k) : IsR L 0 (yjx L en) (yvs L (facK L en k)) := frm_is (xw1 L en k) (fac_is L en L.deep k 0 (by omega) hk)
end
def yv2 (en : Nat) (st : St) : St := if xqp 3 [47] (xwp en 2 st).l = true then xwp en 2 (rdS (xwp en 2 st)) else xwp en 2 st
def numbX (en : Nat) (st : St) : List Nat := if xqp 3 [47] (xwp en 2 st).l = true then yza en 2 st ++ ((pkS (xwp en 2 st)).2.1 ++ yza en 2 (rdS (xwp en 2 st))) else yza en 2 st
def yz8 (en : Nat) (st : St) : St := if xqp 3 [45] st.l = true then yv2 en (rdS st) else yv2 en st
def yw3 (en : Nat) (st : St) : List Nat := if xqp 3 [45] st.l = true then (pkS st).2.1 ++ numbX en (rdS st) else numbX en st
def nilS (st : St) : St := { st with ts := [] }
def xwu (L : Lim) (en K : Nat) (st : St) : St := yvs L (facK L en K) (nilS st)
def xve (t : Tk) : Nat := (xvz t).getD 0
def out1 (en : Nat) (s : St) : St := if xqp 1 [105, 110] s.l = true then xwp en 4 (rdS s) else s
def out1X (en : Nat) (s : St) : List Nat := if xqp 1 [105, 110] s.l = true then yza en 4 (rdS s) else []
def bodS (L : Lim) (en K k : Nat) (s : St) : St :=
 if k = 1 then xwp en 4 (yz8 en s)
 else if k = 2 then yz8 en (xvi en [58] (yvw en (yz8 en s)))
 else if k = 3 then yz8 en s
 else if k = 4 then xwu L en K s
 else if k = 5 then yqp en 2 60 (xvi en [58] (out1 en (xwu L en K s)))
 else s
def xqz (L : Lim) (en K k : Nat) (s : St) (d : Dc) : Dc :=
 if k = 1 then { d with nu := yw3 en s, un := yza en 4 (yz8 en s) }
 else if k = 2 then { d with nu := yw3 en s, un := untX en (yz8 en s), va := yw3 en (xvi en [58] (yvw en (yz8 en s))) }
 else if k = 3 then { d with nu := yw3 en s }
 else if k = 4 then { d with tr := (xwu L en K s).ts }
 else if k = 5 then { d with tr := (xwu L en K s).ts, un := out1X en (xwu L en K s), pl := ((yzc 2 (xvi en [58] (out1 en (xwu L en K s)))).getD 0 : Nat) }
 else d
def yzw (en i : Nat) (st : St) : St := if xve (pkS st) = 0 then yqc en st else if 60 ≤ i then xjp 2 (pkS st).2.2 st else st
def xqq (en i : Nat) (st : St) : St := rdS (yzw en i st)
def ywb (en i : Nat) (st : St) : St := yj2 en (xqq en i st)
def yj5 (en i : Nat) (st : St) : St := if xve (pkS st) = 3 then yj2 en (ywb en i st) else ywb en i st
def xqo (en i : Nat) (st : St) : St := xvi en [61] (yj5 en i st)
def dec5 (L : Lim) (en K i : Nat) (st : St) : St := bodS L en K (xve (pkS st)) (xqo en i st)
def yqj (L : Lim) (en K i : Nat) (st : St) : St := xvi en [59] (dec5 L en K i st)
def xqy (en i : Nat) (st : St) : List Nat := if xve (pkS st) = 3 then xqu en (ywb en i st) else []
def dec0 (en i : Nat) (st : St) : Dc := ⟨(xve (pkS st) : Nat), xqu en (xqq en i st), xqy en i st, [], [], [], [], 0, (pkS (xqq en i st)).2.2⟩
def zjg (L : Lim) (en K i : Nat) (st : St) : Dc := xqz L en K (xve (pkS st)) (xqo en i st) (dec0 en i st)
def Ki (L : Lim) (op : Nat) {α : Type} (r : PaR α) (x : α → Prop) (s : St) : Prop := match r with
 | .ok a l n => s.E = 0 ∧ s.l = l ∧ s.mad = n ∧ s.op = op ∧ n ≤ L.nodes ∧ x a
 | .bad e p => Dead e p op s
section
variable {L : Lim} {en op : Nat} {st s s' : St} {α β : Type} {r : PaR α} {x : α → Prop} {f : α → List Tk → Nat → PaR β} {y : β → Prop}
theorem Ki.next (h : Ki L op r x s) (hd : ∀ e p, Dead e p op s → Dead e p op s') (hk : ∀ a, x a → s.E = 0 → s.mad ≤ L.nodes → s.op = op → Ki L op (f a s.l s.mad) y s') : Ki L op (r.next f) y s' := by
 cases r with
 | bad e p => exact hd _ _ h
 | ok a l n =>
  obtain ⟨h1, rfl, rfl, h4, h5, h6⟩ := h;exact hk a h6 h1 h5 h4
theorem Kin.ki (h : Kin st r x s) (hE : st.E = 0) (hn : st.mad ≤ L.nodes) (ho : st.op = op) : Ki L op r x s := by
 subst ho;cases r with
 | bad e p => exact h
 | ok a l n =>
  obtain ⟨rfl, rfl, h3⟩ := h;exact ⟨hE, rfl, rfl, rfl, hn, h3⟩
theorem Ki.mono {y : α → Prop} (h : Ki L op r x s) (k : ∀ a, x a → y a) : Ki L op r y s := by
 cases r with
 | bad e p => exact h
 | ok a l n => exact ⟨h.1, h.2.1, h.2.2.1, h.2.2.2.1, h.2.2.2.2.1, k a h.2.2.2.2.2⟩
theorem ki_ok {a : α} (hE : s.E = 0) (hn : s.mad ≤ L.nodes) (ho : s.op = op) (h : x a) : Ki L op (.ok a s.l s.mad) x s := ⟨hE, rfl, rfl, ho, hn, h⟩
theorem tak_ki (hE : st.E = 0) (hn : st.mad ≤ L.nodes) (ho : st.op = op) {kd : Nat} (hk : kd ≠ 0) : Ki L op (xjr en kd [] st.l st.mad) (fun t => yza en kd st = t.2.1 ∧ t ∈ st.l) (xwp en kd st) := (tak_kin hE hk).ki hE hn ho
theorem sgn_ki (hE : st.E = 0) (hn : st.mad ≤ L.nodes) (ho : st.op = op) (tx : List Nat) : Ki L op (xjr en 3 tx st.l st.mad) (fun _ => True) (xvi en tx st) := (sgn_kin hE tx).ki hE hn ho
theorem nam_ki (hE : st.E = 0) (hn : st.mad ≤ L.nodes) (ho : st.op = op) : Ki L op (yz9 en st.l st.mad) (fun t => xqu en st = t.2.1 ∧ t = pkS st) (yj2 en st) := (nam_kin hE).ki hE hn ho
theorem next_tx {c : Nat} {l : List Tk} (h : xqp 3 [c] l = true) : (pkL l).2.1 = [c] := by
 cases l with
 | nil => cases h
 | cons t r => exact isT_tx h
theorem Dead.numb {e p : Int} (h : Dead e p op s) : yv2 en s = s := by unfold yv2; rw [h.tak, h.next, if_neg (by decide)]
theorem Dead.num {e p : Int} (h : Dead e p op s) : yz8 en s = s := by unfold yz8; rw [h.next, if_neg (by decide), h.numb]
theorem numb_ki (hE : st.E = 0) (hn : st.mad ≤ L.nodes) (ho : st.op = op) (pre : List Nat) : Ki L op (numB en pre st.l st.mad) (fun q => pre ++ numbX en st = q) (yv2 en st) := by
 unfold numB;refine (tak_ki (en := en) hE hn ho (kd := 2) (by decide)).next (fun e p hd => ?_) fun t ht h1 h2 h3 => ?_
 · unfold yv2; rw [hd.next, if_neg (by decide)]; exact hd
 · unfold yv2 numbX;by_cases h : xqp 3 [47] (xwp en 2 st).l = true
   · rw [if_pos h, if_pos h, if_pos h];refine (tak_ki (st := rdS (xwp en 2 st)) (en := en) h1 h2 h3 (kd := 2) (by decide)).next (fun e p hd => hd) fun u hu g1 g2 g3 => ?_
     refine ki_ok g1 g2 g3 ?_;rw [ht.1, hu.1, pkS, next_tx h]; simp
   · rw [if_neg h, if_neg h, if_neg h];refine ki_ok h1 h2 h3 ?_;rw [ht.1]
theorem num_ki (hE : st.E = 0) (hn : st.mad ≤ L.nodes) (ho : st.op = op) : Ki L op (numT en st.l st.mad) (fun q => yw3 en st = q) (yz8 en st) := by
 unfold numT yz8 yw3;by_cases h : xqp 3 [45] st.l = true
 · rw [if_pos h, if_pos h, if_pos h, pkS, next_tx h];exact numb_ki (st := rdS st) hE hn ho [45]
 · rw [if_neg h, if_neg h, if_neg h];exact (numb_ki hE hn ho []).mono fun q hq => hq
theorem Dead.nil {e p : Int} (h : Dead e p op s) : Dead e p op (nilS s) := ⟨h.E, h.P, h.l, h.op, h.ne⟩
theorem Dead.tre {e p : Int} (h : Dead e p op s) (K : Nat) : Dead e p op (xwu L en (K + 1) s) := h.nil.frm K
theorem tre_ki (hE : st.E = 0) (hn : st.mad ≤ L.nodes) (ho : st.op = 0) {K : Nat} (hK : L.deep + 2 ≤ K) : Ki L 0 (yjx L en st.l st.mad) (fun t => (xwu L en K st).ts = t) (xwu L en K st) := by
 have h := form_is L en K hK (nilS st) hE hn ho;rw [show (nilS st).l = st.l from rfl, show (nilS st).mad = st.mad from rfl] at h;unfold xwu;cases e : yjx L en st.l st.mad with
 | bad a b =>
  have hd := h.bad e;rw [show (nilS st).op = 0 from ho] at hd;exact hd
 | ok t l n =>
  obtain ⟨k1, k2⟩ := h.ok e;rw [k1];refine ⟨hE, rfl, rfl, ho, k2, ?_⟩;show [] ++ t.map (xqj 0) = t;rw [List.nil_append];have : t.map (xqj 0) = t.map id := List.map_congr_left fun z _ => yzf z
  rw [this, List.map_id]
theorem zql (hE : st.E = 0) (hn : st.mad ≤ L.nodes) (ho : st.op = op) (d : Dc) : Ki L op (yq8 en d st.l st.mad) (fun q => d = q) (xvi en [59] st) := by
 unfold yq8;exact (sgn_ki hE hn ho [59]).next (fun e p hd => hd) fun u _ g1 g2 g3 => ki_ok g1 g2 g3 rfl
theorem unt_st (hE : st.E = 0) : (yvw en st).l = (xv6 st.l).2 ∧ untX en st = (xv6 st.l).1 ∧ (yvw en st).E = st.E ∧ (yvw en st).mad = st.mad ∧ (yvw en st).op = st.op := by
 obtain ⟨h1, h2⟩ := unt_kin (en := en) hE;rw [h1];exact ⟨rfl, h2, rfl, rfl, rfl⟩
theorem outB_ki (hE : st.E = 0) (hn : st.mad ≤ L.nodes) (ho : st.op = op) (d : Dc) : Ki L op (outB en d st.l st.mad) (fun q => { d with pl := ((yzc 2 (xvi en [58] st)).getD 0 : Nat) } = q) (xvi en [59] (yqp en 2 60 (xvi en [58] st))) := by
 unfold outB;refine (sgn_ki hE hn ho [58]).next (fun e p hd => ?_) fun u _ h1 h2 h3 => ?_
 · rw [hd.sml, hd.sgn]; exact hd
 · have k := sml_kin (en := en) (st := xvi en [58] st) h1 2 60;cases e : xjr en 2 [] (xvi en [58] st).l (xvi en [58] st).mad with
   | bad a b =>
    rw [e, PaR.next_bad] at k;have hd : Dead _ _ _ _ := k;rw [h3] at hd;rw [PaR.next_bad, hd.sgn]; exact hd
   | ok t l n =>
    rw [e, PaR.next_ok] at k;rw [PaR.next_ok];cases e2 : xvk t.2.1 2 with
    | none =>
     simp only [e2] at k ⊢;have hd : Dead _ _ _ _ := k;rw [h3] at hd;rw [hd.sgn]; exact hd
    | some v =>
     simp only [e2] at k ⊢;by_cases h : 60 < v
     · rw [if_pos h] at k ⊢;have hd : Dead _ _ _ _ := k;rw [h3] at hd;rw [hd.sgn]; exact hd
     · rw [if_neg h] at k ⊢;obtain ⟨k1, k2, k3⟩ := k;have a1 : (yqp en 2 60 (xvi en [58] st)).E = 0 := by rw [k1]; exact h1
       have a2 : (yqp en 2 60 (xvi en [58] st)).mad = n := by rw [k1, k2]
       have a3 : (yqp en 2 60 (xvi en [58] st)).op = op := by rw [k1]; exact h3
       have a4 : (yqp en 2 60 (xvi en [58] st)).l = l := by rw [k1]
       have := zql (L := L) (en := en) a1 (by rw [a2, k2]; exact h2) a3 { d with pl := (v : Int) };rw [a2, a4] at this;refine this.mono fun q hq => ?_
       rw [← hq, k3]; rfl
theorem Dead.bod {e p : Int} (h : Dead e p op s) (K k : Nat) : Dead e p op (bodS L en (K + 1) k s) := by
 unfold bodS
 split
 · rw [h.num, h.tak]; exact h
 · split
   · rw [h.num, h.unt, h.sgn, h.num]; exact h
   · split
     · rw [h.num]; exact h
     · split
       · exact h.tre K
       · split
         · have ht := h.tre (L := L) (en := en) K;have ho : Dead e p op (out1 en (xwu L en (K + 1) s)) := by unfold out1; rw [ht.next, if_neg (by decide)]; exact ht
           rw [ho.sgn, ho.sml]; exact ho
         · exact h
theorem bod_ki (hE : st.E = 0) (hn : st.mad ≤ L.nodes) (ho : st.op = 0) {K k : Nat} (hK : L.deep + 2 ≤ K) (hk : 1 ≤ k ∧ k ≤ 5) (d : Dc) (hd0 : d.nu = [] ∧ d.va = [] ∧ d.un = [] ∧ d.tr = [] ∧ d.pl = 0) : Ki L 0 (yqk L en k d st.l st.mad) (fun q => xqz L en K k st d = q) (xvi en [59] (bodS L en K k st)) := by
 unfold yqk bodS xqz;by_cases h1 : k = 1
 · rw [if_pos h1, if_pos h1, if_pos h1];refine (num_ki hE hn ho).next (fun e p hd => by rw [hd.tak, hd.sgn]; exact hd) fun q hq a1 a2 a3 => ?_
   refine (tak_ki a1 a2 a3 (by decide)).next (fun e p hd => by rw [hd.sgn]; exact hd) fun u hu b1 b2 b3 => ?_
   refine (zql b1 b2 b3 _).mono fun q hq2 => ?_
   rw [← hq2, hq, hu.1]
 rw [if_neg h1, if_neg h1, if_neg h1];by_cases h2 : k = 2
 · rw [if_pos h2, if_pos h2, if_pos h2];refine (num_ki hE hn ho).next (fun e p hd => by rw [hd.unt, hd.sgn, hd.num, hd.sgn]; exact hd) fun q hq a1 a2 a3 => ?_
   obtain ⟨u1, u2, u3, u4, u5⟩ := unt_st (en := en) a1;rw [← u1, ← u4, ← u2];refine (sgn_ki (u3.trans a1) (by rw [u4]; exact a2) (u5.trans a3) [58]).next (fun e p hd => by rw [hd.num, hd.sgn]; exact hd) fun _ _ b1 b2 b3 => ?_
   refine (num_ki b1 b2 b3).next (fun e p hd => by rw [hd.sgn]; exact hd) fun v hv c1 c2 c3 => ?_
   refine (zql c1 c2 c3 _).mono fun q hq2 => ?_
   rw [← hq2, hq, hv]
 rw [if_neg h2, if_neg h2, if_neg h2];by_cases h3 : k = 3
 · rw [if_pos h3, if_pos h3, if_pos h3];refine (num_ki hE hn ho).next (fun e p hd => by rw [hd.sgn]; exact hd) fun q hq a1 a2 a3 => ?_
   refine (zql a1 a2 a3 _).mono fun q hq2 => ?_
   rw [← hq2, hq]
 rw [if_neg h3, if_neg h3, if_neg h3];by_cases h4 : k = 4
 · rw [if_pos h4, if_pos h4, if_pos h4];refine (tre_ki hE hn ho hK).next (fun e p hd => by rw [hd.sgn]; exact hd) fun t ht a1 a2 a3 => ?_
   refine (zql a1 a2 a3 _).mono fun q hq2 => ?_
   rw [← hq2, ht]
 rw [if_neg h4, if_neg h4, if_neg h4, if_pos (show k = 5 by omega), if_pos (show k = 5 by omega)];refine (tre_ki hE hn ho hK).next (fun e p hd => ?_) fun t ht a1 a2 a3 => ?_
 · have h : Dead e p 0 (out1 en (xwu L en K st)) := by unfold out1; rw [hd.next, if_neg (by decide)]; exact hd
   rw [h.sgn, h.sml, h.sgn]; exact h
 · unfold out1 out1X;by_cases h : xqp 1 [105, 110] (xwu L en K st).l = true
   · rw [if_pos h, if_pos h, if_pos h];refine (tak_ki (st := rdS (xwu L en K st)) a1 a2 a3 (kd := 4) (by decide)).next (fun e p hd => by rw [hd.sgn, hd.sml, hd.sgn]; exact hd) fun u hu b1 b2 b3 => ?_
     refine (outB_ki b1 b2 b3 _).mono fun q hq => ?_
     rw [← hq, ht, hu.1]
   · rw [if_neg h, if_neg h, if_neg h];refine (outB_ki a1 a2 a3 _).mono fun q hq => ?_
     rw [← hq, ht, hd0.2.2.1]
theorem wordK_le {t : Tk} {k : Nat} (h : xvz t = some k) : 1 ≤ k ∧ k ≤ 5 := by
 unfold xvz at h
 repeat' split at h
 all_goals first | (cases h; decide) | cases h
theorem Dead.dec {e p : Int} {i K : Nat} {st : St} (h : Dead e p op (yzw en i st)) : Dead e p op (yqj L en (K + 1) i st) := by
 have e1 : xqq en i st = yzw en i st := h.rd;have e2 : ywb en i st = yzw en i st := by unfold ywb; rw [e1, h.nam]
 have e3 : yj5 en i st = yzw en i st := by
  unfold yj5;rw [e2]
  split
  · exact h.nam
  · rfl
 have e4 : xqo en i st = yzw en i st := by unfold xqo; rw [e3, h.sgn]
 have h5 : Dead e p op (dec5 L en (K + 1) i st) := by unfold dec5; rw [e4]; exact h.bod K _
 unfold yqj;rw [h5.sgn]; exact h5
theorem dec_ki (hE : st.E = 0) (hn : st.mad ≤ L.nodes) (ho : st.op = 0) (hne : st.l ≠ []) {K i : Nat} (hK : L.deep + 2 ≤ K) : Ki L 0 (xw8 L en i st.l st.mad) (fun q => zjg L en K i st = q) (yqj L en K i st) := by
 obtain ⟨K, rfl⟩ : ∃ m, K = m + 1 := ⟨K - 1, by omega⟩;obtain ⟨w, r, e⟩ : ∃ w r, st.l = w :: r := by
  cases e : st.l with
  | nil => exact absurd e hne
  | cons w r => exact ⟨w, r, rfl⟩
 have hp : pkS st = w := by rw [pkS, e]; rfl
 have hh : xws en st.l = w.2.2 := by rw [e]; rfl
 rw [e];show Ki L 0 (match xvz w with | none => _ | some k => _) _ _;cases ek : xvz w with
 | none =>
  have hk0 : xve (pkS st) = 0 := by rw [hp, xve, ek]; rfl
  refine Dead.dec ?_;unfold yzw;rw [if_pos hk0, yqc, hh, ← ho];exact xvq hE (by decide)
 | some k =>
  have hk := wordK_le ek;have hk0 : xve (pkS st) = k := by rw [hp, xve, ek]; rfl
  show Ki L 0 (if 60 ≤ i then _ else _) _ _;by_cases hi : 60 ≤ i
  · rw [if_pos hi];refine Dead.dec ?_;unfold yzw;rw [if_neg (by omega), if_pos hi, hp, ← ho];exact xvq hE (by decide)
  · rw [if_neg hi];have e1 : xqq en i st = rdS st := by unfold xqq yzw; rw [if_neg (by omega), if_neg hi]
    have hr : (rdS st).l = r := by rw [rdS, e]; rfl
    have hnam := nam_ki (L := L) (op := 0) (en := en) (st := rdS st) hE hn ho;rw [hr] at hnam;unfold yqj dec5 zjg;rw [hk0];have hD : ∀ e p, Dead e p 0 (xqo en i st) → Dead e p 0 (xvi en [59] (bodS L en (K + 1) k (xqo en i st))) := fun e p hd => by
     have := hd.bod (L := L) (en := en) K k;rw [this.sgn]; exact this
    have hhead : Ki L 0 (yqy en k r st.mad) (fun d => dec0 en i st = d) (xqo en i st) := by
     unfold yqy;have e2 : yj2 en (rdS st) = ywb en i st := by unfold ywb; rw [e1]
     rw [e2] at hnam;refine hnam.next (fun e p hd => ?_) fun x hx a1 a2 a3 => ?_
     · have e3 : yj5 en i st = ywb en i st := by
        unfold yj5
        split
        · exact hd.nam
        · rfl
       unfold xqo;rw [e3, hd.sgn]; exact hd
     · by_cases h3 : k = 3
       · rw [if_pos h3];have e3 : yj5 en i st = yj2 en (ywb en i st) := by unfold yj5; rw [hk0, if_pos h3]
         refine (nam_ki a1 a2 a3).next (fun e p hd => ?_) fun y hy b1 b2 b3 => ?_
         · unfold xqo; rw [e3, hd.sgn]; exact hd
         · rw [← e3] at b1 b2 b3 ⊢;refine (sgn_ki b1 b2 b3 [61]).next (fun e p hd => hd) fun _ _ c1 c2 c3 => ?_
           refine ki_ok c1 c2 c3 ?_;unfold dec0 xqy;rw [hk0, if_pos h3, e1, hx.1, hy.1, ← hx.2]
       · rw [if_neg h3];have e3 : yj5 en i st = ywb en i st := by unfold yj5; rw [hk0, if_neg h3]
         rw [← e3] at a1 a2 a3 ⊢;refine (sgn_ki a1 a2 a3 [61]).next (fun e p hd => hd) fun _ _ c1 c2 c3 => ?_
         refine ki_ok c1 c2 c3 ?_;unfold dec0 xqy;rw [hk0, if_neg h3, e1, hx.1, ← hx.2]
    refine hhead.next hD fun d hd a1 a2 a3 => ?_
    rw [hd];refine bod_ki a1 a2 a3 hK hk d ?_;rw [← hd];exact ⟨rfl, rfl, rfl, rfl, rfl⟩
end
abbrev limK (L : Lim) : Array Value := #[.int .i64 (L.text : Int), .int .i64 (L.deep : Int), .int .i64 (L.nodes : Int), .int .i64 (L.power : Int)]
abbrev rdC (A : Option Addr) (n c : Nat) (en : Nat) (L : Lim) (E P : Int) (C : Option Addr) (m d : Nat) (mad op : Int) : Array Value :=
 #[.slice A n c, .int .i64 (en : Int), .int .i64 (L.text : Int), .int .i64 (L.deep : Int), .int .i64 (L.nodes : Int), .int .i64 (L.power : Int), .int .i64 E, .int .i64 P, .slice C m d, .int .i64 mad, .int .i64 op]
def TokX (w : World) (B : Nat) (A : Option Addr) (n c : Nat) (l : List Tk) : Prop := n = l.length ∧ n ≤ c ∧ c ≤ maxLen ∧ (0 < n → ∃ g o V, A = some ⟨g, o, none⟩ ∧ g < B ∧ RowA w g 109 V ∧ ∀ i t, l[i]? = some t → InV w g (o + i * 3) (tkV t))
theorem TokR.tokX {w : World} {B0 : Nat} {A : Option Addr} {n c : Nat} {ts : List Tk} (h : TokR w A n c ts) (hB0 : w.heap.size ≤ B0) : TokX w B0 A n c ts := by
 obtain ⟨h1, h2, B, h3⟩ := h;refine ⟨h1, h2, h3.caps.2, fun h0 => ?_⟩;rcases h3.2 with ⟨hv, h4⟩ | ⟨g, cap, cur, hv, hB, hg, _⟩
 · omega
 · injection hv with h5 h6 h7
   subst h5;refine ⟨g, 0, cur, rfl, Nat.lt_of_lt_of_le (Array.getElem?_eq_some_iff.1 hg).1 hB0, hg, fun i t hi => ?_⟩;obtain ⟨g2, e, _, _, h8⟩ := (show TokR w _ n c ts from ⟨h1, h2, B, h3⟩).at hi;cases e
   rw [Nat.zero_add]; exact h8
theorem TokX.tail {w : World} {B g o n c : Nat} {t : Tk} {l : List Tk} (h : TokX w B (some ⟨g, o, none⟩) (n + 1) c (t :: l)) : TokX w B (some ⟨g, o + 3, none⟩) n (c - 1) l := by
 obtain ⟨h1, h2, h3, h4⟩ := h;refine ⟨by simp at h1; exact h1, by omega, by omega, fun h0 => ?_⟩;obtain ⟨g2, o2, V, e, hgB, hr, hc⟩ := h4 (by omega);cases e
 refine ⟨g, o + 3, V, rfl, hgB, hr, fun i u hi => ?_⟩;have := hc (i + 1) u (by simpa using hi)
 rwa [show o + (i + 1) * 3 = o + 3 + i * 3 by omega] at this
theorem TokX.none (w : World) (B : Nat) {A : Option Addr} {c : Nat} (h : c ≤ maxLen) : TokX w B A 0 c [] := ⟨rfl, Nat.zero_le _, h, fun h0 => absurd h0 (by omega)⟩
theorem zq7 {w w' : World} {g o : Nat} {T : TypeId} {V U : Array Value} (h : InV w g o U) (hr : RowA w g T V) (hr' : RowA w' g T V) : InV w' g o U := fun j v hv => by
 rw [← h j v hv];unfold RowA at hr hr';simp [World.cell?, hr, hr']
theorem xjb {w w' : World} (h : Below w.heap.size w w') (r : Option Nat) : w.grownBy w' r := ⟨h.os, h.tape, h.output, h.size, fun i hi _ => h.block i hi⟩
theorem gr_trans {a b c : World} {r : Option Nat} (h : a.grownBy b r) (k : b.grownBy c r) : a.grownBy c r :=
 ⟨k.os.trans h.os, k.tape.trans h.tape, k.output.trans h.output, Nat.le_trans h.size k.size, fun i hi hr => (k.block i (Nat.lt_of_lt_of_le hi h.size) hr).trans (h.block i hi hr)⟩
structure Kn (B q : Nat) (w w' : World) : Prop where
 os : w'.os = w.os
 tape : w'.tape = w.tape
 output : w'.output = w.output
 size : w.heap.size ≤ w'.heap.size
 block : ∀ i, i < w.heap.size → i ≠ q → (B ≤ i → ∀ V f, w.heap[i]? ≠ some (.cells V 51 f)) → w'.heap[i]? = w.heap[i]?
theorem Kn.of {B q : Nat} {w w' : World} (h : w.grownBy w' (some q)) : Kn B q w w' := ⟨h.os, h.tape, h.output, h.size, fun i hi hq _ => h.block i hi (fun e => hq (by injection e))⟩
theorem Kn.below {B q : Nat} {w w' : World} (h : Below w.heap.size w w') : Kn B q w w' := Kn.of (xjb h _)
theorem Kn.trans {B q : Nat} {a b c : World} (h : Kn B q a b) (k : Kn B q b c) : Kn B q a c :=
 ⟨k.os.trans h.os, k.tape.trans h.tape, k.output.trans h.output, Nat.le_trans h.size k.size, fun i hi hq hn => by
   have e := h.block i hi hq hn;rw [← e];refine k.block i (Nat.lt_of_lt_of_le hi h.size) hq fun hB V f => ?_
   rw [e]; exact hn hB V f⟩
theorem Kn.row {B q g : Nat} {w w' : World} {T : TypeId} {V : Array Value} (h : Kn B q w w') (hr : RowA w g T V) (hq : g ≠ q) (ht : T ≠ 51) : RowA w' g T V :=
 (h.block g hr.lt hq (fun _ U f e => by unfold RowA at hr; rw [hr] at e; injection e with e; injection e with _ e2; exact ht e2)).trans hr
theorem Kn.cell {B q g k : Nat} {w w' : World} {v : Value} (h : Kn B q w w') (hc : w.cell? ⟨g, k, none⟩ = some v) (hB : g < B) (hq : g ≠ q) : w'.cell? ⟨g, k, none⟩ = some v := by
 have hlt := xzb hc;have e := h.block g hlt hq (fun hb => absurd hB (by omega));rw [← hc];simp [World.cell?, e]
theorem TokX.kn {B q n c : Nat} {w w' : World} {A : Option Addr} {l : List Tk} (h : TokX w B A n c l) (k : Kn B q w w') {V : Array Value} (hq : RowA w q 71 V) : TokX w' B A n c l := by
 obtain ⟨h1, h2, h3, h4⟩ := h;refine ⟨h1, h2, h3, fun h0 => ?_⟩;obtain ⟨g, o, U, e, hgB, hr, hc⟩ := h4 h0;have hne : g ≠ q := by
  rintro rfl;unfold RowA at hr hq;rw [hr] at hq;injection hq with hq
  injection hq with _ e2
  exact absurd e2 (by decide)
 have hr' := k.row hr hne (by decide);exact ⟨g, o, U, e, hgB, hr', fun i t hi => zq7 (hc i t hi) hr hr'⟩
def xjk (i : Nat) : List Nat := if i = 1 then [117, 110, 105, 116] else if i = 2 then [115, 111, 117, 114, 99, 101] else if i = 3 then [99, 111, 118] else if i = 4 then [108, 101, 116] else if i = 5 then [111, 117, 116, 112, 117, 116] else []
def WTab (w : World) : Prop := ∀ i, i < 6 → w.cell? ⟨0, i, none⟩ = some (.string (strOf (xjk i)))
def ETab (w : World) : Prop := (∃ te pe, w.cell? ⟨5, 0, none⟩ = some (.iface te pe)) ∧ ∃ te pe, w.cell? ⟨6, 0, none⟩ = some (.iface te pe)
def PTab (w : World) : Prop := XTab w ∧ WTab w ∧ ETab w
def q0 : Nat := max 7 (max 2 (max 0 (max 5 6)))
theorem q0_k : 7 ≤ q0 := by unfold q0; omega
theorem q0_x : 2 ≤ q0 := by unfold q0; omega
theorem q0_w : 0 ≤ q0 := by unfold q0; omega
theorem q0_s : 5 ≤ q0 := by unfold q0; omega
theorem q0_r : 6 ≤ q0 := by unfold q0; omega
theorem PTab.same {w w' : World} (h : PTab w) (k : ∀ (g i : Nat) (v : Value), g ≤ q0 → w.cell? ⟨g, i, none⟩ = some v → w'.cell? ⟨g, i, none⟩ = some v) : PTab w' := by
 obtain ⟨⟨h1, h2⟩, h3, ⟨te, pe, h4⟩, te2, pe2, h5⟩ := h;exact ⟨⟨fun i hi => k _ i _ q0_k (h1 i hi), fun i hi => k _ i _ q0_x (h2 i hi)⟩, fun i hi => k _ i _ q0_w (h3 i hi), ⟨te, pe, k _ 0 _ q0_s h4⟩, te2, pe2, k _ 0 _ q0_r h5⟩
theorem PTab.lt {w : World} (h : PTab w) : q0 < w.heap.size := by
 obtain ⟨⟨h1, h2⟩, h3, ⟨te, pe, h4⟩, te2, pe2, h5⟩ := h;have k1 := xzb (h1 0 (by decide));have k2 := xzb (h2 0 (by decide));have k3 := xzb (h3 0 (by decide));have k4 := xzb h4;have k5 := xzb h5;dsimp only at k1 k2 k3 k4 k5;unfold q0;omega
theorem PTab.below {w w' : World} (h : PTab w) (hb : Below w.heap.size w w') : PTab w' := h.same fun g i v hg hc => (hb.cell (p := ⟨g, i, none⟩) (xzb hc)).trans hc
def Tbl (w : World) (q : Nat) : Prop := PTab w ∧ q0 < q
theorem Tbl.kn {B q : Nat} {w w' : World} (h : Tbl w q) (k : Kn B q w w') (hB : q < B) : Tbl w' q :=
 ⟨h.1.same fun g i v hg hc => k.cell hc (by have := h.2; omega) (by have := h.2; omega), h.2⟩
theorem Tbl.below {q : Nat} {w w' : World} (h : Tbl w q) (hb : Below w.heap.size w w') : Tbl w' q := ⟨h.1.below hb, h.2⟩
def TkF (t : Tk) : Prop := Bytes t.2.1 ∧ t.2.1.length ≤ 5000 ∧ (t.1 = 2 → ∃ c r, t.2.1 = c :: r ∧ xq2 c = true)
def RdW (w : World) (B q en : Nat) (L : Lim) (st : St) : Prop := ∃ A n c C m d ts, RowA w q 71 (rdC A n c en L st.E st.P C m d st.mad st.op) ∧ TokX w B A n c st.l ∧ OwnT w B C m d ts ∧ ts.length = st.ts.length ∧ (st.E = 0 → ts = st.ts) ∧ q < B ∧ Tbl w q ∧ (∀ t ∈ st.l, TkF t) ∧ (st.E ≠ 0 → st.l = [])
section
variable {w w' : World} {B q en : Nat} {L : Lim} {st : St}
theorem RdW.lt (h : RdW w B q en L st) : q < w.heap.size := by obtain ⟨A, n, c, C, m, d, ts, h1, _⟩ := h; exact h1.lt
theorem RdW.below (h : RdW w B q en L st) (hb : Below w.heap.size w w') : RdW w' B q en L st := by
 obtain ⟨A, n, c, C, m, d, ts, h1, h2, h3, h4, h5, h6, h7, h8⟩ := h;exact ⟨A, n, c, C, m, d, ts, h1.below hb, h2.kn (Kn.below (B := B) hb) h1, ⟨h3.1, h3.2.below hb⟩, h4, h5, h6, h7.below hb, h8⟩
end
theorem yvg (k : Int) (s : ByteArray) (a : Int) : xq7 Tryz.prog 109 (tkC k s a).size ∧ (tkC 0 ⟨#[]⟩ 0).size = (tkC k s a).size ∧ ∀ v ∈ tkC k s a, v.oneCell' = true := ⟨manyTk k s a, rfl, by simp [Value.oneCell']⟩
theorem yzy : 71 ≠ 51 := by decide
theorem OwnT.q {w w' : World} {B q m d : Nat} {C : Option Addr} {ts : List Nd} {V : Array Value} (h : OwnT w B C m d ts) (hr : RowA w q 71 V) (hg : w.grownBy w' (some q)) : OwnT w' B C m d ts :=
 ⟨h.1, h.2.over hg fun g e => by cases e; exact h.2.differ hr yzy⟩
theorem RdW.put {w w' : World} {B q en : Nat} {L : Lim} {st st' : St} (h : RdW w B q en L st) (hg : w.grownBy w' (some q)) (hts : st'.ts = st.ts) (hE : st'.E = 0 → st.E = 0) (hl : ∀ t ∈ st'.l, t ∈ st.l) (hi : st'.E ≠ 0 → st'.l = [])
 (hk : ∀ (A : Option Addr) (n c : Nat) (C : Option Addr) (m d : Nat), RowA w q 71 (rdC A n c en L st.E st.P C m d st.mad st.op) → TokX w B A n c st.l → ∃ A2 n2 c2, RowA w' q 71 (rdC A2 n2 c2 en L st'.E st'.P C m d st'.mad st'.op) ∧ TokX w B A2 n2 c2 st'.l) : RdW w' B q en L st' := by
 obtain ⟨A, n, c, C, m, d, ts, h1, h2, h3, h4, h5, h6, h7, h8⟩ := h;obtain ⟨A2, n2, c2, k1, k2⟩ := hk A n c C m d h1 h2;exact ⟨A2, n2, c2, C, m, d, ts, k1, k2.kn (Kn.of (B := B) hg) h1, h3.q h1 hg, by rw [hts]; exact h4, fun e => by rw [hts]; exact h5 (hE e), h6, h7.kn (Kn.of hg) h6, ⟨fun t ht => h8.1 t (hl t ht), hi⟩⟩
section
variable {w : World} {B q en : Nat} {L : Lim} {st : St}
set_option maxRecDepth 100000 in
theorem xwl (h : RdW w B q en L st) : Calls Tryz.prog 37 #[.pointer (some ⟨q, 0, none⟩)] w fun e w' => e = .returned (.bool (decide (0 < st.l.length))) ∧ w' = w := by
 obtain ⟨A, n, c, C, m, d, ts, h1, h2, _⟩ := h;have c0 := h1.cell (k := 0) (v := .slice A n c) rfl;have hn := h2.1;clear h1 h2;rw [← hn];clear hn;go_enter Tryz.func37, Tryz.ntmps37;go_wp2
 go_ret
 exact ⟨rfl, rfl⟩
set_option maxRecDepth 100000 in
theorem xv2 (h : RdW w B q en L st) : Calls Tryz.prog 39 #[.pointer (some ⟨q, 0, none⟩)] w fun e w' => e = .returned (.bool (!decide (st.E = 0))) ∧ w' = w := by
 obtain ⟨A, n, c, C, m, d, ts, h1, _⟩ := h;generalize st.E = E at *;have c0 := h1.cell (k := 6) (v := .int .i64 E) rfl;clear h1;by_cases h0 : E = 0
 · subst h0;go_enter Tryz.func39, Tryz.ntmps39;go_wp2
   go_ret
   exact ⟨rfl, rfl⟩
 · have he : (E != 0) = true := by simp [h0]
   rw [decide_eq_false h0];clear h0;go_enter Tryz.func39, Tryz.ntmps39;go_wp2
   go_ret
   exact ⟨rfl, rfl⟩
set_option maxRecDepth 100000 in
theorem pFail_x (h : RdW w B q en L st) (e p : Int) (he : e ≠ 0) : Calls Tryz.prog 71 #[.pointer (some ⟨q, 0, none⟩), .int .i64 e, .int .i64 p] w fun x w' => x = .returned (.tuple #[]) ∧ RdW w' B q en L (xjp e p st) ∧ w.grownBy w' (some q) ∧ (∀ (A C : Option Addr) (n c m d : Nat) (mk op E P : Int), RowA w q 71 (rdC A n c en L E P C m d mk op) → ∃ A2 n2 c2 E2 P2, RowA w' q 71 (rdC A2 n2 c2 en L E2 P2 C m d mk op)) := by
 have H := hid h;by_cases h0 : st.E = 0
 · obtain ⟨A, n, c, C, m, d, ts, h1, _⟩ := h;have hf := hid h0;have f0 := h1.free 0;have f6 := h1.free 6;have f7 := h1.free 7;have k6 := h1.cell (k := 6) (v := .int .i64 st.E) rfl;have k7 := h1.cell (k := 7) (v := .int .i64 st.P) rfl;have k0 := h1.cell (k := 0) (v := .slice A n c) rfl;clear h1;rw [h0] at k6;go_enter Tryz.func71, Tryz.ntmps71;go_wp2_with (go_at_call 39; refine (xv2 H.out).mono ?_; rintro e w1 ⟨rfl, rfl⟩; rw [decide_eq_true h0])
   go_end0
   have hg := gr_trans (gr_trans (xqs w1 q 6 (.int .i64 e)) (xqs _ q 7 (.int .i64 p))) (xqs _ q 0 (.slice none 0 0));refine ⟨rfl, H.out.put hg ?_ ?_ ?_ ?_ ?_, hg, fun A C n c m d mk op E P h1 => ⟨none, 0, 0, e, p, ((h1.set 6 _).set 7 _).set 0 _⟩⟩
   · unfold xjp; rw [if_pos h0]
   · intro _; exact h0
   · unfold xjp; rw [if_pos h0]; simp
   · unfold xjp; rw [if_pos h0]; exact fun _ => rfl
   · intro A n c C m d h1 h2;unfold xjp;rw [if_pos h0];exact ⟨none, 0, 0, ((h1.set 6 _).set 7 _).set 0 _, TokX.none _ _ (Nat.zero_le _)⟩
 · clear h;go_enter Tryz.func71, Tryz.ntmps71;go_wp2_with (go_at_call 39; refine (xv2 H.out).mono ?_; rintro e w1 ⟨rfl, rfl⟩; rw [decide_eq_false h0])
   go_end0
   unfold xjp;rw [if_neg h0];exact ⟨rfl, H.out, xjb (Below.refl _ _) _, fun A C n c m d mk op E P h1 => ⟨A, n, c, E, P, h1⟩⟩
theorem pFail_c (h : RdW w B q en L st) (e p : Int) (he : e ≠ 0) : Calls Tryz.prog 71 #[.pointer (some ⟨q, 0, none⟩), .int .i64 e, .int .i64 p] w fun x w' => x = .returned (.tuple #[]) ∧ RdW w' B q en L (xjp e p st) ∧ w.grownBy w' (some q) := (pFail_x h e p he).mono fun x w' h => ⟨h.1, h.2.1, h.2.2.1⟩
set_option maxRecDepth 100000 in
theorem pPeek_c (h : RdW w B q en L st) : Calls Tryz.prog 74 #[.pointer (some ⟨q, 0, none⟩)] w fun x w' => x = .returned (.agg (tkV (pkS st))) ∧ Below w.heap.size w w' := by
 have bn := xqc w (.cells (tkC 0 ⟨#[]⟩ 0) 109);have H := hid (h.below bn);cases e : st.l with
 | nil =>
  have hl : Hid (decide (0 < st.l.length) = false) := by show _ = _; rw [e]; rfl
  have HR := hid (xqd w 109 (tkC 0 ⟨#[]⟩ 0));have HU := hid (yvg 0 ⟨#[]⟩ 0);have HB := hid bn;have HE : Hid (tkV (pkS st) = tkC 0 ⟨#[]⟩ 0) := by show _ = _; rw [pkS, e]; rfl
  clear bn h e;go_enter Tryz.func74, Tryz.ntmps74;go_wp2_with (first | (go_at_call 37; refine (xwl H.out).mono ?_; rintro e w1 ⟨rfl, rfl⟩; rw [hl.out]) | (refine xqg (by rfl) _ _ _ (by rfl) _ _ _ (by rfl) (by rfl) (by assumption) ?_));refine bodyPost_ret (results_cell_row rfl _ _ _ 109 (tkC 0 ⟨#[]⟩ 0) (0, 0) _ rfl HR.out Tryz.underlying109 rfl ywg) rfl ?_;rw [HE.out];exact ⟨rfl, HB.out⟩
 | cons t r =>
  have hl : Hid (decide (0 < st.l.length) = true) := by show _ = _; rw [e]; simp
  obtain ⟨A, n, c, C, m, d, ts, h1, h2, _⟩ := h.below bn;obtain ⟨hn, hc, hm, h4⟩ := h2;rw [e] at hn;have hn1 : 1 ≤ n := by rw [hn]; simp
  obtain ⟨g, o, V, rfl, _, hr, hin⟩ := h4 (by omega);have HI := hid (hin 0 t (by rw [e]; rfl));have HE : Hid (tkV (pkS st) = tkV t) := by show _ = _; rw [pkS, e]; rfl
  have c0 := h1.cell (k := 0) (v := .slice (some ⟨g, o, none⟩) n c) rfl;have HM : Hid (xq7 Tryz.prog 109 (tkV t).size) := manyTk _ _ _;have HR := hid (xqd w 109 (tkV t));have HB := hid (xqc w (.cells (tkV t) 109));have HU : Hid (xq7 Tryz.prog 109 (tkV t).size ∧ (tkC 0 ⟨#[]⟩ 0).size = (tkV t).size ∧ ∀ v ∈ tkV t, v.oneCell' = true) := yvg _ _ _;have hp : (0 : Int) < (n : Int) := by omega
  rw [Nat.zero_mul] at HI;clear bn h e h1 hr hin hn h4;go_enter Tryz.func74, Tryz.ntmps74;go_wp2_with (first | (go_at_call 37; refine (xwl H.out).mono ?_; rintro e w1 ⟨rfl, rfl⟩; rw [hl.out]) | (refine xqf (by rfl) _ _ (by rfl) _ _ (by rfl) _ (by assumption) (by assumption) ?_) | (refine xqg (by rfl) _ _ _ (by rfl) _ _ _ (by rfl) (by rfl) (by assumption) ?_));refine bodyPost_ret (results_cell_row rfl _ _ _ 109 (tkV t) (0, 0) _ rfl HR.out Tryz.underlying109 rfl ywg) rfl ?_;rw [HE.out];exact ⟨rfl, HB.out⟩
end
theorem yqu {w w' : World} {q g : Nat} (h : w.grownBy w' (some q)) (hg : w.heap.size ≤ g) (V : Array Value) : w.grownBy (w'.setRow g V) (some q) :=
 ⟨h.os, h.tape, h.output, by rw [setRow_size]; exact h.size, fun k hk hr => (setRow_other w' g k V (by omega)).trans (h.block k hk hr)⟩
def C8 (q : Nat) (w w' : World) : Prop := w'.cell? ⟨q, 8, none⟩ = w.cell? ⟨q, 8, none⟩
theorem C8.below {q : Nat} {w w' : World} (h : Below w.heap.size w w') (hq : q < w.heap.size) : C8 q w w' := h.cell (p := ⟨q, 8, none⟩) hq
theorem C8.trans {q : Nat} {a b c : World} (h : C8 q a b) (k : C8 q b c) : C8 q a c := Eq.trans k h
theorem C8.rows {w w' : World} {q en en2 : Nat} {L L2 : Lim} {A A2 C : Option Addr} {n n2 c c2 m d : Nat} {E E2 P P2 mk mk2 op op2 : Int} (h : RowA w q 71 (rdC A n c en L E P C m d mk op)) (k : RowA w' q 71 (rdC A2 n2 c2 en2 L2 E2 P2 C m d mk2 op2)) : C8 q w w' :=
 (k.cell (k := 8) (v := .slice C m d) rfl).trans (h.cell (k := 8) (v := .slice C m d) rfl).symm
section
variable {w : World} {B q en : Nat} {L : Lim} {st : St}
set_option maxRecDepth 100000 in
theorem yja (h : RdW w B q en L st) : Calls Tryz.prog 75 #[.pointer (some ⟨q, 0, none⟩)] w fun x w' => x = .returned (.agg (tkV (pkS st))) ∧ RdW w' B q en L (rdS st) ∧ w.grownBy w' (some q) ∧ C8 q w w' := by
 have hlt := h.lt;have bn := xqc w (.cells (tkC 0 ⟨#[]⟩ 0) 109);have H1 := hid (h.below bn);have HR1 := xqd w 109 (tkC 0 ⟨#[]⟩ 0);have H := hid h;have HB1 := hid bn;obtain ⟨g1, hg1⟩ : ∃ g, g = w.heap.size := ⟨_, rfl⟩;rw [← hg1] at HR1;have Hg1 := hid hg1;have Hq := hid hlt;clear bn h hlt;go_enter Tryz.func75, Tryz.ntmps75;go_wp2_with fail
 rw [← hg1];clear hg1;generalize w.alloc (.cells (tkC 0 ⟨#[]⟩ 0) 109) = w1 at *;refine (pPeek_c H1.out).mono ?_;rintro e w2 ⟨rfl, bn⟩;have HB2 := hid (xqa HB1.out bn);have hq3 : Hid (q < w2.heap.size) := Nat.lt_of_lt_of_le Hq.out HB2.out.size;have HR2 := HR1.below bn;have b3 := xqc w2 (.cells (tkV (pkS st)) 109);have HB3 := hid (xqa HB2.out b3);have HRa := hid (HR2.below b3);have HRb := xqd w2 109 (tkV (pkS st));have HU : Hid (xq7 Tryz.prog 109 (tkV (pkS st)).size ∧ (tkC 0 ⟨#[]⟩ 0).size = (tkV (pkS st)).size ∧ ∀ v ∈ tkV (pkS st), v.oneCell' = true) := yvg _ _ _;have HM : Hid (xq7 Tryz.prog 109 (tkV (pkS st)).size) := manyTk _ _ _;have H3 := hid (H.out.below HB3.out);have hlw := hid (Nat.lt_of_lt_of_le HRb.lt (Nat.le_refl _));obtain ⟨g3, hg3⟩ : ∃ g, g = w2.heap.size := ⟨_, rfl⟩;rw [← hg3] at HRb;have Hg3 := hid hg3;have Hg31 : Hid (g1 ≠ g3) := by
  show _ ≠ _;have := HR2.lt;omega
 have HI := hid HRb.inV;have HRb := hid HRb;clear bn HR1 HR2 H1 HB1 HB2;go_wp2_with (refine xqg (by rfl) _ _ _ (by rfl) _ _ _ (by rfl) (by rfl) (by assumption) ?_);rw [← hg3];clear hg3;generalize w2.alloc (.cells (tkV (pkS st)) 109) = w3 at *;cases e : st.l with
 | nil =>
  have hl : Hid (decide (0 < st.l.length) = false) := by show _ = _; rw [e]; rfl
  have he := hid e;have HRf := hid (RowA.fill HRa.out (V' := tkV (pkS st)));clear e;go_wp2_with (first | (go_at_call 37; refine (xwl H3.out).mono ?_; rintro e w1 ⟨rfl, rfl⟩; rw [hl.out]) | (refine xqf (by rfl) _ _ (by rfl) _ _ (by rfl) _ (by assumption) (by assumption) ?_) | (refine xqi (by rfl) _ _ _ (by rfl) _ (by rfl) _ (by rfl) _ _ (by assumption) (by assumption) ?_));refine bodyPost_ret (results_cell_row rfl _ _ _ 109 (tkV (pkS st)) (0, 0) _ rfl HRf.out Tryz.underlying109 rfl ywg) rfl ?_;have hb := xqv HB3.out (Nat.le_of_eq Hg1.out.symm) (tkV (pkS st));refine ⟨rfl, ?_, xjb hb _, C8.below hb Hq.out⟩;have hst : rdS st = st := by
   cases st
   have := he.out;dsimp only at this;subst this; rfl
  rw [hst];exact H.out.below hb
 | cons t r =>
  have hl : Hid (decide (0 < st.l.length) = true) := by show _ = _; rw [e]; simp
  have he := hid e;obtain ⟨A, n, c, C, m, d, ts, h1, h2, h3, h4, h5, h6, h7, h8⟩ := id H.out;have k1 := (h1.below HB3.out);have c0 := k1.cell (k := 0) (v := .slice A n c) rfl;have f0 := k1.free 0;have hn := h2.1;have hc := h2.2.1;have hm := h2.2.2.1;rw [e] at hn;obtain ⟨k, rfl⟩ : ∃ k, n = k + 1 := ⟨n - 1, by simp at hn; omega⟩;obtain ⟨g, o, V, rfl, _, hr, hin⟩ := h2.2.2.2 (by omega);rw [e] at h2;by_cases hc1 : c = 1
  · subst hc1;obtain rfl : k = 0 := by omega
    have hT : TokX w B (some ⟨g, o, none⟩) 0 0 r := by
     have : r = [] := List.length_eq_zero_iff.1 (by rw [List.length_cons] at hn; omega);rw [this]; exact TokX.none _ _ (Nat.zero_le _)
    have HRc := hid (HRb.out.far (show q ≠ g3 by have := hq3.out; have := Hg3.out; omega) 0 (.slice (some ⟨g, o, none⟩) 0 0));have HI2 := hid HRc.out.inV;have hqg1 : q ≠ g1 := by have := Hq.out; have := Hg1.out; omega
    have HRd := hid (HRa.out.far hqg1 0 (.slice (some ⟨g, o, none⟩) 0 0));have HRf := hid (RowA.fill HRd.out (V' := tkV (pkS st)));have hg := yqu (gr_trans (xjb HB3.out (some q)) (xqs w3 q 0 (.slice (some ⟨g, o, none⟩) 0 0))) (Nat.le_of_eq Hg1.out.symm) (tkV (pkS st));have hrow : RowA ((w3.setCell ⟨q, 0, none⟩ (.slice (some ⟨g, o, none⟩) 0 0)).setRow g1 (tkV (pkS st))) q 71 (rdC (some ⟨g, o, none⟩) 0 0 en L st.E st.P C m d st.mad st.op) := RowA.farRow (k1.set 0 _) (Ne.symm hqg1);have hfin : RdW ((w3.setCell ⟨q, 0, none⟩ (.slice (some ⟨g, o, none⟩) 0 0)).setRow g1 (tkV (pkS st))) B q en L (rdS st) := by
     refine ⟨_, _, _, C, m, d, ts, hrow, ?_, h3.q h1 hg, h4, h5, h6, h7.kn (Kn.of hg) h6, fun u hu => h8.1 u (List.mem_of_mem_tail hu), fun hne => by show st.l.tail = []; rw [h8.2 hne]; rfl⟩;show TokX _ _ _ _ _ st.l.tail;rw [e, List.tail_cons];exact hT.kn (Kn.of (B := B) hg) h1
    have HG := hid hg;have HF := hid hfin;have H8 := hid (C8.rows h1 hrow);clear e hr hin h2 h3 h4 h5 h7 h8 h1 hg hfin hrow hqg1 hT hn;go_wp2_with (first | (go_at_call 37; refine (xwl H3.out).mono ?_; rintro e w1 ⟨rfl, rfl⟩; rw [hl.out]) | (refine xqf (by rfl) _ _ (by rfl) _ _ (by rfl) _ (by assumption) (by assumption) ?_) | (refine xqi (by rfl) _ _ _ (by rfl) _ (by rfl) _ (by rfl) _ _ (by assumption) (by assumption) ?_));refine bodyPost_ret (results_cell_row rfl _ _ _ 109 (tkV (pkS st)) (0, 0) _ rfl HRf.out Tryz.underlying109 rfl ywg) rfl ?_;exact ⟨rfl, HF.out, HG.out, H8.out⟩
  · have hc2 : (c - 1 == 0) = false := by rw [beq_eq_false_iff_ne]; omega
    have hT := h2.tail;have HRc := hid (HRb.out.far (show q ≠ g3 by have := hq3.out; have := Hg3.out; omega) 0 (.slice (some ⟨g, o + 3, none⟩) k (c - 1)));have HI2 := hid HRc.out.inV;have hqg1 : q ≠ g1 := by have := Hq.out; have := Hg1.out; omega
    have HRd := hid (HRa.out.far hqg1 0 (.slice (some ⟨g, o + 3, none⟩) k (c - 1)));have HRf := hid (RowA.fill HRd.out (V' := tkV (pkS st)));have hg := yqu (gr_trans (xjb HB3.out (some q)) (xqs w3 q 0 (.slice (some ⟨g, o + 3, none⟩) k (c - 1)))) (Nat.le_of_eq Hg1.out.symm) (tkV (pkS st));have hrow : RowA ((w3.setCell ⟨q, 0, none⟩ (.slice (some ⟨g, o + 3, none⟩) k (c - 1))).setRow g1 (tkV (pkS st))) q 71 (rdC (some ⟨g, o + 3, none⟩) k (c - 1) en L st.E st.P C m d st.mad st.op) := RowA.farRow (k1.set 0 _) (Ne.symm hqg1);have hfin : RdW ((w3.setCell ⟨q, 0, none⟩ (.slice (some ⟨g, o + 3, none⟩) k (c - 1))).setRow g1 (tkV (pkS st))) B q en L (rdS st) := by
     refine ⟨_, _, _, C, m, d, ts, hrow, ?_, h3.q h1 hg, h4, h5, h6, h7.kn (Kn.of hg) h6, fun u hu => h8.1 u (List.mem_of_mem_tail hu), fun hne => by show st.l.tail = []; rw [h8.2 hne]; rfl⟩;show TokX _ _ _ _ _ st.l.tail;rw [e, List.tail_cons];exact hT.kn (Kn.of (B := B) hg) h1
    have HG := hid hg;have HF := hid hfin;have H8 := hid (C8.rows h1 hrow);clear e hr hin h2 h3 h4 h5 h7 h8 h1 hg hfin hrow hqg1 hT hn;go_wp2_with (first | (go_at_call 37; refine (xwl H3.out).mono ?_; rintro e w1 ⟨rfl, rfl⟩; rw [hl.out]) | (refine xqf (by rfl) _ _ (by rfl) _ _ (by rfl) _ (by assumption) (by assumption) ?_) | (refine xqi (by rfl) _ _ _ (by rfl) _ (by rfl) _ (by rfl) _ _ (by assumption) (by assumption) ?_));refine bodyPost_ret (results_cell_row rfl _ _ _ 109 (tkV (pkS st)) (0, 0) _ rfl HRf.out Tryz.underlying109 rfl ywg) rfl ?_;exact ⟨rfl, HF.out, HG.out, H8.out⟩
theorem xwa (h : RdW w B q en L st) : Calls Tryz.prog 75 #[.pointer (some ⟨q, 0, none⟩)] w fun x w' => x = .returned (.agg (tkV (pkS st))) ∧ RdW w' B q en L (rdS st) ∧ w.grownBy w' (some q) := (yja h).mono fun x w' h => ⟨h.1, h.2.1, h.2.2.1⟩
theorem pFail_8 (h : RdW w B q en L st) (e p : Int) (he : e ≠ 0) : Calls Tryz.prog 71 #[.pointer (some ⟨q, 0, none⟩), .int .i64 e, .int .i64 p] w fun x w' => x = .returned (.tuple #[]) ∧ RdW w' B q en L (xjp e p st) ∧ w.grownBy w' (some q) ∧ C8 q w w' := (pFail_x h e p he).mono fun x w' k => by
 obtain ⟨A, n, c, C, m, d, ts, h1, _⟩ := h;obtain ⟨k1, k2, k3, k4⟩ := k;obtain ⟨_, _, _, _, _, h2⟩ := k4 _ _ _ _ _ _ _ _ _ _ h1;exact ⟨k1, k2, k3, C8.rows h1 h2⟩
end
section
variable {w : World} {B q en : Nat} {L : Lim} {st : St}
theorem RdW.tabs (h : RdW w B q en L st) : PTab w := by obtain ⟨_, _, _, _, _, _, _, _, _, _, _, _, _, h7, _⟩ := h; exact h7.1
theorem RdW.pk (h : RdW w B q en L st) : TkF (pkS st) := by
 obtain ⟨_, _, _, _, _, _, _, _, _, _, _, _, _, _, h8⟩ := h;cases e : st.l with
 | nil => rw [pkS, e]; exact ⟨fun x hx => (by cases hx), by decide, fun h => (by cases h)⟩
 | cons t r => rw [pkS, e]; exact h8.1 t (by rw [e]; exact List.mem_cons_self)
theorem RdW.inv (h : RdW w B q en L st) : st.E ≠ 0 → st.l = [] := by
 obtain ⟨_, _, _, _, _, _, _, _, _, _, _, _, _, _, h8⟩ := h;exact h8.2
theorem RdW.size (h : RdW w B q en L st) : ∃ A n c C m d, RowA w q 71 (rdC A n c en L st.E st.P C m d st.mad st.op) := by
 obtain ⟨A, n, c, C, m, d, ts, h1, _⟩ := h;exact ⟨A, n, c, C, m, d, h1⟩
theorem xwt (k : Int) (s : ByteArray) (a : Int) (W : World) : (Instr.field 109 (.agg #[.int .i64 k, .string s, .int .i64 a]) 0).run Tryz.prog W = .ok (.int .i64 k) W ∧ (Instr.field 109 (.agg #[.int .i64 k, .string s, .int .i64 a]) 1).run Tryz.prog W = .ok (.string s) W ∧ (Instr.field 109 (.agg #[.int .i64 k, .string s, .int .i64 a]) 2).run Tryz.prog W = .ok (.int .i64 a) W := ⟨by kernel_rfl, by kernel_rfl, by kernel_rfl⟩
theorem xjy (h : RdW w B q en L st) {kd ap : Nat} {tx : List Nat} (hp : pkS st = (kd, tx, ap)) : Calls Tryz.prog 74 #[.pointer (some ⟨q, 0, none⟩)] w fun x w' => x = .returned (.agg #[.int .i64 (kd : Int), .string (strOf tx), .int .i64 (ap : Int)]) ∧ Below w.heap.size w w' := by
 have := pPeek_c h;rw [hp] at this;exact this
theorem pRead_tx (h : RdW w B q en L st) {kd ap : Nat} {tx : List Nat} (hp : pkS st = (kd, tx, ap)) : Calls Tryz.prog 75 #[.pointer (some ⟨q, 0, none⟩)] w fun x w' => x = .returned (.agg #[.int .i64 (kd : Int), .string (strOf tx), .int .i64 (ap : Int)]) ∧ RdW w' B q en L (rdS st) ∧ w.grownBy w' (some q) ∧ C8 q w w' := by
 have := yja h;rw [hp] at this;exact this
theorem pRead_t (h : RdW w B q en L st) {kd ap : Nat} {tx : List Nat} (hp : pkS st = (kd, tx, ap)) : Calls Tryz.prog 75 #[.pointer (some ⟨q, 0, none⟩)] w fun x w' => x = .returned (.agg #[.int .i64 (kd : Int), .string (strOf tx), .int .i64 (ap : Int)]) ∧ RdW w' B q en L (rdS st) ∧ w.grownBy w' (some q) := by
 have := xwa h;rw [hp] at this;exact this
set_option maxRecDepth 100000 in
theorem yz6 (h : RdW w B q en L st) : Calls Tryz.prog 41 #[.pointer (some ⟨q, 0, none⟩)] w fun x w' => x = .returned (.tuple #[]) ∧ RdW w' B q en L (yqc en st) ∧ w.grownBy w' (some q) ∧ C8 q w w' := by
 obtain ⟨A, n, c, C, m, d, h1⟩ := h.size;have c1 := h1.cell (k := 1) (v := .int .i64 (en : Int)) rfl;have H := hid h;clear h1 h;cases e : st.l with
 | nil =>
  have hl : Hid (decide (0 < st.l.length) = false) := by show _ = _; rw [e]; rfl
  have HF := hid (pFail_8 H.out 12 (en : Int) (by decide));have hst : Hid (yqc en st = xjp 12 (en : Int) st) := by show _ = _; rw [yqc, e]; rfl
  clear e;go_enter Tryz.func41, Tryz.ntmps41;go_wp2_with (first | (go_at_call 37; refine (xwl H.out).mono ?_; rintro e w1 ⟨rfl, rfl⟩; rw [hl.out]) | (go_at_call 71; refine HF.out.mono ?_; rintro e w2 ⟨rfl, h2, hg, h8⟩; have H2 := hid h2; have HG := hid hg; have HC := hid h8; clear h2 hg h8))
  go_end0
  rw [hst.out];exact ⟨rfl, H2.out, HG.out, HC.out⟩
 | cons t r =>
  have hl : Hid (decide (0 < st.l.length) = true) := by show _ = _; rw [e]; simp
  obtain ⟨kd, tx, ap⟩ := t;have hp : Hid (pkS st = (kd, tx, ap)) := by show _ = _; rw [pkS, e]; rfl
  have hst : Hid (yqc en st = xjp 12 (ap : Int) st) := by show _ = _; rw [yqc, e]; rfl
  have hfld := fun W => (xwt (kd : Int) (strOf tx) (ap : Int) W).2.2
  clear e;go_enter Tryz.func41, Tryz.ntmps41;go_wp2_with (first | (go_at_call 37; refine (xwl H.out).mono ?_; rintro e w1 ⟨rfl, rfl⟩; rw [hl.out]) | (go_at_call 74; refine (xjy H.out hp.out).mono ?_; rintro e w2 ⟨rfl, bn⟩; have H2 := hid (H.out.below bn); have HC2 := hid (C8.below bn H.out.lt); have HG2 := hid (xjb bn (some q)); clear bn) | (go_at_call 71; refine (pFail_8 H2.out 12 (ap : Int) (by decide)).mono ?_; rintro e w3 ⟨rfl, h3, hg, h8⟩; have H3 := hid h3; have HG3 := hid (gr_trans HG2.out hg); have HC3 := hid (HC2.out.trans h8); clear h3 hg h8))
  go_end0
  rw [hst.out];exact ⟨rfl, H3.out, HG3.out, HC3.out⟩
theorem yq9 (h : RdW w B q en L st) : Calls Tryz.prog 41 #[.pointer (some ⟨q, 0, none⟩)] w fun x w' => x = .returned (.tuple #[]) ∧ RdW w' B q en L (yqc en st) ∧ w.grownBy w' (some q) := (yz6 h).mono fun x w' h => ⟨h.1, h.2.1, h.2.2.1⟩
theorem next_pk (c : Nat) (l : List Tk) : xqp 3 [c] l = (decide ((pkL l).1 = 3) && decide ((pkL l).2.1 = [c])) := by
 cases l with
 | nil => rfl
 | cons t r => rfl
set_option maxRecDepth 100000 in
theorem xji (h : RdW w B q en L st) (c : Nat) (hc : c < 256) (v : Bool) (hv : xqp 3 [c] st.l = v) : Calls Tryz.prog 112 #[.pointer (some ⟨q, 0, none⟩), .string (strOf [c])] w fun x w' => x = .returned (.bool v) ∧ Below w.heap.size w w' := by
 obtain ⟨⟨kd, tx, ap⟩, hp⟩ : ∃ t, t = pkS st := ⟨_, rfl⟩;have hb := h.pk.1;rw [← hp] at hb;rw [next_pk, show pkL st.l = (kd, tx, ap) from hp.symm] at hv;dsimp only at hv hb;have H := hid h;replace hp := hid hp.symm;have et := yzb hb (b := [c]) (fun x hx => by rw [List.mem_singleton.1 hx]; exact hc);generalize hS : strOf [c] = S at et ⊢;generalize hT : strOf tx = T at et ⊢;have HT := hid hT;have key : ∀ w2, Below w.heap.size w w2 → Below w.heap.size w (w2.alloc (.cells #[.int .i64 (kd : Int), .string T, .int .i64 (ap : Int)] 109)) ∧ RowA (w2.alloc (.cells #[.int .i64 (kd : Int), .string T, .int .i64 (ap : Int)] 109)) w2.heap.size 109 #[.int .i64 (kd : Int), .string T, .int .i64 (ap : Int)] := fun w2 bn => ⟨xqa bn (xqc _ _), xqd _ _ _⟩
 have HK := hid key;have HU := hid (yvg (kd : Int) T (ap : Int));clear h hS hT hb key;by_cases h3 : kd = 3
 · have e3 : ((kd : Int) == 3) = true := by rw [h3]; rfl
   rw [decide_eq_true h3, Bool.true_and, ← et] at hv;clear et;cases v with
   | true =>
    clear h3;go_enter Tryz.func112, Tryz.ntmps112;go_wp2_with (first | (go_at_call 74; refine (xjy H.out hp.out).mono ?_; rintro e w2 ⟨rfl, bn⟩; rw [HT.out]; have HB := hid (HK.out w2 bn).1; have HR := (HK.out w2 bn).2; have k0 := HR.cell (k := 0) (v := .int .i64 (kd : Int)) rfl; have k1 := HR.cell (k := 1) (v := .string T) rfl; clear HR bn) | (refine xqg (by rfl) _ _ _ (by rfl) _ _ _ (by rfl) (by rfl) (by assumption) ?_; generalize w2.alloc (.cells #[.int .i64 (kd : Int), .string T, .int .i64 (ap : Int)] 109) = w3 at *));go_ret
    exact ⟨rfl, HB.out⟩
   | false =>
    clear h3;go_enter Tryz.func112, Tryz.ntmps112;go_wp2_with (first | (go_at_call 74; refine (xjy H.out hp.out).mono ?_; rintro e w2 ⟨rfl, bn⟩; rw [HT.out]; have HB := hid (HK.out w2 bn).1; have HR := (HK.out w2 bn).2; have k0 := HR.cell (k := 0) (v := .int .i64 (kd : Int)) rfl; have k1 := HR.cell (k := 1) (v := .string T) rfl; clear HR bn) | (refine xqg (by rfl) _ _ _ (by rfl) _ _ _ (by rfl) (by rfl) (by assumption) ?_; generalize w2.alloc (.cells #[.int .i64 (kd : Int), .string T, .int .i64 (ap : Int)] 109) = w3 at *));go_ret
    exact ⟨rfl, HB.out⟩
 · have e3 : ((kd : Int) == 3) = false := by rw [beq_eq_false_iff_ne]; omega
   rw [decide_eq_false h3, Bool.false_and] at hv;subst hv;clear h3 et;go_enter Tryz.func112, Tryz.ntmps112;go_wp2_with (first | (go_at_call 74; refine (xjy H.out hp.out).mono ?_; rintro e w2 ⟨rfl, bn⟩; rw [HT.out]; have HB := hid (HK.out w2 bn).1; have HR := (HK.out w2 bn).2; have k0 := HR.cell (k := 0) (v := .int .i64 (kd : Int)) rfl; have k1 := HR.cell (k := 1) (v := .string T) rfl; clear HR bn) | (refine xqg (by rfl) _ _ _ (by rfl) _ _ _ (by rfl) (by rfl) (by assumption) ?_; generalize w2.alloc (.cells #[.int .i64 (kd : Int), .string T, .int .i64 (ap : Int)] 109) = w3 at *));go_ret
   exact ⟨rfl, HB.out⟩
end
section
variable {w : World} {B q en : Nat} {L : Lim} {st : St}
set_option maxRecDepth 100000 in
theorem xvl (h : RdW w B q en L st) (c : Nat) (hc : c < 256) :
 Calls Tryz.prog 77 #[.pointer (some ⟨q, 0, none⟩), .string (strOf [c])] w fun x w' => x = .returned (.tuple #[]) ∧ RdW w' B q en L (xvi en [c] st) ∧ w.grownBy w' (some q) := by
 have Hc := hid hc;cases hv : xqp 3 [c] st.l with
 | true =>
  have H0 := hid h;have G0 := hid (xjb (Below.refl w.heap.size w) (some q));have Hv := hid hv;clear hv hc;clear h;go_enter Tryz.func77, Tryz.ntmps77;go_wp2_with fail
  refine (xji H0.out c Hc.out _ Hv.out).mono ?_;rintro e w1 ⟨rfl, bn⟩;have H1 := hid (H0.out.below bn);have G1 := hid (gr_trans G0.out (xjb bn (some q)));clear bn H0 G0;go_wp2_with fail
  refine (xwa H1.out).mono ?_;rintro e w2 ⟨rfl, h2, hg⟩;have H2 := hid h2;have G2 := hid (gr_trans G1.out hg);clear h2 hg H1 G1;have hst : xvi en [c] st = rdS (st) := by unfold xvi xv3; rw [Hv.out]; rfl
  go_wp2
  go_end0
  rw [hst]; exact ⟨rfl, H2.out, G2.out⟩
 | false =>
  have H0 := hid h;have G0 := hid (xjb (Below.refl w.heap.size w) (some q));have Hv := hid hv;clear hv hc;clear h;go_enter Tryz.func77, Tryz.ntmps77;go_wp2_with fail
  refine (xji H0.out c Hc.out _ Hv.out).mono ?_;rintro e w1 ⟨rfl, bn⟩;have H1 := hid (H0.out.below bn);have G1 := hid (gr_trans G0.out (xjb bn (some q)));clear bn H0 G0;go_wp2_with fail
  refine (yq9 H1.out).mono ?_;rintro e w2 ⟨rfl, h2, hg⟩;have H2 := hid h2;have G2 := hid (gr_trans G1.out hg);clear h2 hg H1 G1;go_wp2_with fail
  refine (xwa H2.out).mono ?_;rintro e w3 ⟨rfl, h2, hg⟩;have H3 := hid h2;have G3 := hid (gr_trans G2.out hg);clear h2 hg H2 G2;have hst : xvi en [c] st = rdS (yqc en st) := by unfold xvi xv3; rw [Hv.out]; rfl
  go_wp2
  go_end0
  rw [hst]; exact ⟨rfl, H3.out, G3.out⟩
set_option maxRecDepth 100000 in
theorem pTake_c (h : RdW w B q en L st) (kd : Nat) :
 Calls Tryz.prog 111 #[.pointer (some ⟨q, 0, none⟩), .int .i64 (kd : Int)] w fun x w' => x = .returned (.string (strOf (yza en kd st))) ∧ RdW w' B q en L (xwp en kd st) ∧ w.grownBy w' (some q) := by
 obtain ⟨⟨k, t, a⟩, hp⟩ : ∃ t, t = pkS (st) := ⟨_, rfl⟩;replace hp := hid hp.symm;by_cases hk : k = kd
 · skip
   have H0 := hid h;have G0 := hid (xjb (Below.refl w.heap.size w) (some q));have e1 : ((k : Int) != (kd : Int)) = false := by rw [hk]; simp
   have hP : Hid (takP en kd st = st) := by show _ = _; unfold takP xv3; rw [hp.out, if_pos (decide_eq_true hk)]
   have hfa := fun W => (xwt (k : Int) (strOf t) (a : Int) W).1
   have hfb := fun W => (xwt (k : Int) (strOf t) (a : Int) W).2.1
   clear hk;clear h;go_enter Tryz.func111, Tryz.ntmps111;go_wp2_with fail
   refine (xjy H0.out hp.out).mono ?_;rintro e w1 ⟨rfl, bn⟩;have H1 := hid (H0.out.below bn);have G1 := hid (gr_trans G0.out (xjb bn (some q)));clear bn H0 G0;go_wp2_with fail
   refine (pRead_t H1.out hp.out).mono ?_;rintro e w2 ⟨rfl, h2, hg⟩;have H2 := hid h2;have G2 := hid (gr_trans G1.out hg);clear h2 hg H1 G1;go_wp2
   go_ret
   refine ⟨?_, ?_, G2.out⟩
   · unfold yza; rw [hP.out, hp.out]; rfl
   · unfold xwp; rw [hP.out]; exact H2.out
 · skip
   have H0 := hid h;have G0 := hid (xjb (Below.refl w.heap.size w) (some q));have e1 : ((k : Int) != (kd : Int)) = true := by simp; omega
   have hP : Hid (takP en kd st = yqc en st) := by show _ = _; unfold takP xv3; rw [hp.out, if_neg (by simpa using hk)]
   have hfa := fun W => (xwt (k : Int) (strOf t) (a : Int) W).1
   obtain ⟨⟨k2, t2, a2⟩, hp2⟩ : ∃ t, t = pkS (yqc en st) := ⟨_, rfl⟩;replace hp2 := hid hp2.symm;have hf2 := fun W => (xwt (k2 : Int) (strOf t2) (a2 : Int) W).2.1
   clear hk;clear h;go_enter Tryz.func111, Tryz.ntmps111;go_wp2_with fail
   refine (xjy H0.out hp.out).mono ?_;rintro e w1 ⟨rfl, bn⟩;have H1 := hid (H0.out.below bn);have G1 := hid (gr_trans G0.out (xjb bn (some q)));clear bn H0 G0;go_wp2_with fail
   refine (yq9 H1.out).mono ?_;rintro e w2 ⟨rfl, h2, hg⟩;have H2 := hid h2;have G2 := hid (gr_trans G1.out hg);clear h2 hg H1 G1;go_wp2_with fail
   refine (pRead_t H2.out hp2.out).mono ?_;rintro e w3 ⟨rfl, h2, hg⟩;have H3 := hid h2;have G3 := hid (gr_trans G2.out hg);clear h2 hg H2 G2;go_wp2
   go_ret
   refine ⟨?_, ?_, G3.out⟩
   · unfold yza; rw [hP.out, hp2.out]; rfl
   · unfold xwp; rw [hP.out]; exact H3.out
set_option maxRecDepth 100000 in
theorem pName_c (h : RdW w B q en L st) :
 Calls Tryz.prog 76 #[.pointer (some ⟨q, 0, none⟩)] w fun x w' => x = .returned (.string (strOf (xqu en st))) ∧ RdW w' B q en L (yj2 en st) ∧ w.grownBy w' (some q) := by
 obtain ⟨⟨k, t, a⟩, hp⟩ : ∃ t, t = pkS (st) := ⟨_, rfl⟩;replace hp := hid hp.symm;have hF := h.pk;rw [hp.out] at hF;have hT2 := h.tabs.1.2;have hsz : (strOf t).size ≤ 9223372036854775807 := by rw [xqh]; have := hF.2.1; dsimp only at this; omega
 have hbt : bytesOf (strOf t) = t := xqk hF.1;cases hv : xjn t with
 | true =>
  have H0 := hid h;have G0 := hid (xjb (Below.refl w.heap.size w) (some q));have hN : Hid (∀ W, NTab W → Calls Tryz.prog 62 #[.string (strOf t)] W fun e w' => e = .returned (.bool true) ∧ W = w') := fun W T => xj0 (strOf t) hsz W T _ (by rw [hbt]; exact hv)
  have hP : Hid (namP en st = st) := by show _ = _; unfold namP xv3; rw [hp.out]; dsimp only; rw [hv]; rfl
  have hfa := fun W => (xwt (k : Int) (strOf t) (a : Int) W).2.1
  clear hv hsz hbt hF hT2;clear h;go_enter Tryz.func76, Tryz.ntmps76;go_wp2_with fail
  refine (xjy H0.out hp.out).mono ?_;rintro e w1 ⟨rfl, bn⟩;have H1 := hid (H0.out.below bn);have G1 := hid (gr_trans G0.out (xjb bn (some q)));clear bn H0 G0;go_wp2_with fail
  refine (hN.out _ H1.out.tabs.1.2).mono ?_;rintro e w2 ⟨rfl, rfl⟩;go_wp2_with fail
  refine (pTake_c H1.out 1).mono ?_;rintro e w2 ⟨rfl, h2, hg⟩;have H2 := hid h2;have G2 := hid (gr_trans G1.out hg);clear h2 hg H1 G1;go_wp2
  go_ret
  refine ⟨?_, ?_, G2.out⟩
  · unfold xqu; rw [hP.out]; rfl
  · unfold yj2; rw [hP.out]; exact H2.out
 | false =>
  have H0 := hid h;have G0 := hid (xjb (Below.refl w.heap.size w) (some q));have hN : Hid (∀ W, NTab W → Calls Tryz.prog 62 #[.string (strOf t)] W fun e w' => e = .returned (.bool false) ∧ W = w') := fun W T => xj0 (strOf t) hsz W T _ (by rw [hbt]; exact hv)
  have hP : Hid (namP en st = yqc en st) := by show _ = _; unfold namP xv3; rw [hp.out]; dsimp only; rw [hv]; rfl
  have hfa := fun W => (xwt (k : Int) (strOf t) (a : Int) W).2.1
  clear hv hsz hbt hF hT2;clear h;go_enter Tryz.func76, Tryz.ntmps76;go_wp2_with fail
  refine (xjy H0.out hp.out).mono ?_;rintro e w1 ⟨rfl, bn⟩;have H1 := hid (H0.out.below bn);have G1 := hid (gr_trans G0.out (xjb bn (some q)));clear bn H0 G0;go_wp2_with fail
  refine (hN.out _ H1.out.tabs.1.2).mono ?_;rintro e w2 ⟨rfl, rfl⟩;go_wp2_with fail
  refine (yq9 H1.out).mono ?_;rintro e w2 ⟨rfl, h2, hg⟩;have H2 := hid h2;have G2 := hid (gr_trans G1.out hg);clear h2 hg H1 G1;go_wp2_with fail
  refine (pTake_c H2.out 1).mono ?_;rintro e w3 ⟨rfl, h2, hg⟩;have H3 := hid h2;have G3 := hid (gr_trans G2.out hg);clear h2 hg H2 G2;go_wp2
  go_ret
  refine ⟨?_, ?_, G3.out⟩
  · unfold xqu; rw [hP.out]; rfl
  · unfold yj2; rw [hP.out]; exact H3.out
set_option maxRecDepth 100000 in
theorem pUnits_c (h : RdW w B q en L st) :
 Calls Tryz.prog 114 #[.pointer (some ⟨q, 0, none⟩)] w fun x w' => x = .returned (.string (strOf (untX en st))) ∧ RdW w' B q en L (yvw en st) ∧ w.grownBy w' (some q) := by
 obtain ⟨⟨k, t, a⟩, hp⟩ : ∃ t, t = pkS (st) := ⟨_, rfl⟩;replace hp := hid hp.symm;by_cases hk : k = 4
 · skip
   have H0 := hid h;have G0 := hid (xjb (Below.refl w.heap.size w) (some q));have e1 : ((k : Int) != 4) = false := by rw [hk]; rfl
   have hP : Hid ((pkS st).1 = 4) := by show _ = _; rw [hp.out]; exact hk
   have hfa := fun W => (xwt (k : Int) (strOf t) (a : Int) W).1
   clear hk;clear h;go_enter Tryz.func114, Tryz.ntmps114;go_wp2_with fail
   refine (xjy H0.out hp.out).mono ?_;rintro e w1 ⟨rfl, bn⟩;have H1 := hid (H0.out.below bn);have G1 := hid (gr_trans G0.out (xjb bn (some q)));clear bn H0 G0;go_wp2_with fail
   refine (pTake_c H1.out 4).mono ?_;rintro e w2 ⟨rfl, h2, hg⟩;have H2 := hid h2;have G2 := hid (gr_trans G1.out hg);clear h2 hg H1 G1;go_wp2
   go_ret
   refine ⟨?_, ?_, G2.out⟩
   · unfold untX; rw [if_pos hP.out]; rfl
   · unfold yvw; rw [if_pos hP.out]; exact H2.out
 · skip
   have H0 := hid h;have G0 := hid (xjb (Below.refl w.heap.size w) (some q));have e1 : ((k : Int) != 4) = true := by simp; omega
   have hP : Hid (¬ (pkS st).1 = 4) := by show ¬ _; rw [hp.out]; exact hk
   have hfa := fun W => (xwt (k : Int) (strOf t) (a : Int) W).1
   clear hk;clear h;go_enter Tryz.func114, Tryz.ntmps114;go_wp2_with fail
   refine (xjy H0.out hp.out).mono ?_;rintro e w1 ⟨rfl, bn⟩;have H1 := hid (H0.out.below bn);have G1 := hid (gr_trans G0.out (xjb bn (some q)));clear bn H0 G0;go_wp2
   go_ret
   refine ⟨?_, ?_, G1.out⟩
   · unfold untX; rw [if_neg hP.out]; rfl
   · unfold yvw; rw [if_neg hP.out]; exact H1.out
set_option maxRecDepth 100000 in
theorem xj3 (k a : Nat) (t wd : List Nat) (ht : Bytes t) (hw : Bytes wd) (v : Bool) (hv : (decide (k = 1) && decide (t = wd)) = v) :
 Calls Tryz.prog 110 #[.agg #[.int .i64 (k : Int), .string (strOf t), .int .i64 (a : Int)], .string (strOf wd)] w fun x w' => x = .returned (.bool v) ∧ Below w.heap.size w w' := by
 have et := yzb ht hw;generalize strOf wd = S at et ⊢;generalize strOf t = T at et ⊢;have HB := hid (xqc w (.cells #[.int .i64 (k : Int), .string T, .int .i64 (a : Int)] 109));have HR := xqd w 109 #[.int .i64 (k : Int), .string T, .int .i64 (a : Int)];have k0 := HR.cell (k := 0) (v := .int .i64 (k : Int)) rfl;have k1 := HR.cell (k := 1) (v := .string T) rfl;clear HR ht hw;by_cases h1 : k = 1
 · have e1 : ((k : Int) == 1) = true := by rw [h1]; rfl
   rw [decide_eq_true h1, Bool.true_and, ← et] at hv;clear et h1;cases v with
   | true =>
    go_enter Tryz.func110, Tryz.ntmps110;go_wp2_with fail
    generalize w.alloc (.cells #[.int .i64 (k : Int), .string T, .int .i64 (a : Int)] 109) = w3 at *;go_wp2
    go_ret
    exact ⟨rfl, HB.out⟩
   | false =>
    go_enter Tryz.func110, Tryz.ntmps110;go_wp2_with fail
    generalize w.alloc (.cells #[.int .i64 (k : Int), .string T, .int .i64 (a : Int)] 109) = w3 at *;go_wp2
    go_ret
    exact ⟨rfl, HB.out⟩
 · have e1 : ((k : Int) == 1) = false := by rw [beq_eq_false_iff_ne]; omega
   rw [decide_eq_false h1, Bool.false_and] at hv;subst hv;clear et h1;go_enter Tryz.func110, Tryz.ntmps110;go_wp2_with fail
   generalize w.alloc (.cells #[.int .i64 (k : Int), .string T, .int .i64 (a : Int)] 109) = w3 at *;go_wp2
   go_ret
   exact ⟨rfl, HB.out⟩
end
end Go.Proofs.YtannifhcjcbkcaaGreatDoor
