/- Part 5 of the texts that the statements of this seat lean on: mathematics, and what functions answer, as contracts over memory; each part says its own conditions. -/
import Derived.Test.YtannifhcjcbkcaaGreatDoorMA4
namespace Go.Proofs.YtannifhcjcbkcaaGreatDoor
open Go.RowKit Limb
set_option linter.unusedVariables false
theorem lexS_unit {c : Nat} {r : List Nat} {s : List Nat} {n : Nat} (h : lexS c r = .tok 4 s n) : s.all inUn = true := by
 unfold lexS at h
 split at h
 · cases h
 · split at h
   · cases h
   · split at h
     · split at h <;> cases h
     · split at h
       · split at h <;> cases h
       · split at h
         · split at h
           · cases h
           · cases h; rw [take_whileL]; exact all_while r
         · split at h <;> cases h
theorem lexS_tok {c : Nat} {r s : List Nat} {k n a : Nat} (hb : Bytes (c :: r)) (h : lexS c r = .tok k s n) : TokK (k, s, a) := by
 refine ⟨lexS_kind h, ?_, fun e => ?_⟩
 · have h1 := (raw_at (a := a) h).2
   intro x hx
   have h2 : x ∈ (c :: r).take n := by
    rw [h1]; unfold rawT
    split
    · exact List.mem_cons_of_mem _ (List.mem_append_left _ hx)
    · exact hx
   exact hb x (List.mem_of_mem_take h2)
 · have e' : k = 4 := e
   subst e'; exact lexS_unit h
theorem bytes_drop {l : List Nat} (h : Bytes l) (n : Nat) : Bytes (l.drop n) := fun x hx => h x (List.mem_of_mem_drop hx)
theorem lexR_tok : ∀ (f a : Nat) (l : List Nat) (ts : List Tk), Bytes l → lexR f a l = .ok ts → ∀ t ∈ ts, TokK t ∧ a ≤ t.2.2 ∧ t.2.2 < a + l.length
 | 0, _, _, _, _, h => by cases h
 | f + 1, a, [], ts, _, h => by cases h; simp
 | f + 1, a, c :: r, ts, hb, h => by
  unfold lexR at h
  cases e : lexS c r with
  | bad => rw [e] at h; cases h
  | skip n =>
   rw [e] at h
   have hl := lexS_len.1 n e
   intro t ht
   obtain ⟨h1, h2, h3⟩ := lexR_tok f _ _ ts (bytes_drop hb n) h t ht
   rw [List.length_drop, List.length_cons] at h3
   exact ⟨h1, by omega, by rw [List.length_cons]; omega⟩
  | tok k s n =>
   rw [e] at h
   have hl := lexS_len.2 k s n e
   dsimp only at h
   cases e2 : lexR f (a + n) ((c :: r).drop n) with
   | bad p => rw [e2] at h; cases h
   | ok us =>
    rw [e2] at h
    cases h
    intro t ht
    rcases List.mem_cons.1 ht with rfl | ht
    · exact ⟨lexS_tok hb e, Nat.le_refl _, by rw [List.length_cons]; show a < _; omega⟩
    · obtain ⟨h1, h2, h3⟩ := lexR_tok f _ _ us (bytes_drop hb n) e2 t ht
      rw [List.length_drop, List.length_cons] at h3
      exact ⟨h1, by omega, by rw [List.length_cons]; omega⟩
theorem lexT_tok {l : List Nat} {ts : List Tk} (hb : Bytes l) (h : lexT l = .ok ts) : ToksK ts ∧ ∀ t ∈ ts, t.2.2 < l.length :=
 ⟨fun t ht => (lexR_tok _ _ _ _ hb h t ht).1, fun t ht => by have := (lexR_tok _ _ _ _ hb h t ht).2.2; omega⟩
def numH (b : List Nat) : Bool := if (b.takeWhile (· ≠ 47)).length < b.length then litGood (b.takeWhile (· ≠ 47)) && litGood (b.drop ((b.takeWhile (· ≠ 47)).length + 1)) else litGood b
def numG (s : List Nat) : Bool :=
 match s with
 | [] => numH []
 | c :: r => if c = 45 then numH r else numH (c :: r)
def unitG (u : List Nat) : Bool := decide (u.length ≤ 200) && u.all inUn && u.all (fun c => decide (c < 256))
def goodD (d : Dc) : Bool :=
 isNam d.nm && unitG d.un &&
 (if d.k = 1 then numG d.nu && decide (d.un ≠ []) && decide (d.ot = []) && decide (d.va = []) && decide (d.tr.length = 0) && decide (d.pl = 0)
  else if d.k = 2 then numG d.nu && numG d.va && decide (d.ot = []) && decide (d.tr.length = 0) && decide (d.pl = 0)
  else if d.k = 3 then numG d.nu && isNam d.ot && decide (d.va = []) && decide (d.un = []) && decide (d.tr.length = 0) && decide (d.pl = 0)
  else if d.k = 4 then goodT d.tr && decide (d.ot = []) && decide (d.nu = []) && decide (d.va = []) && decide (d.un = []) && decide (d.pl = 0)
  else if d.k = 5 then goodT d.tr && decide (0 ≤ d.pl) && decide (d.pl ≤ 60) && decide (d.ot = []) && decide (d.nu = []) && decide (d.va = [])
  else false)
def PostN (L : Lim) (en : Nat) (l : List Tk) (n : Nat) : PaR (List Nat) → Prop
 | .ok s q m => (∃ x, l = x ++ q) ∧ m = n ∧ numG s = true
 | .bad e p => FaultK en l e p
theorem PostN.cons {L : Lim} {en n : Nat} {t : Tk} {l : List Tk} {r : PaR (List Nat)} (h : PostN L en l n r) : PostN L en (t :: l) n r := by
 cases r with
 | bad e p => exact FaultK.up h fun z hz => List.mem_cons_of_mem _ hz
 | ok s q m => obtain ⟨⟨x, rfl⟩, h2, h3⟩ := h; exact ⟨⟨t :: x, rfl⟩, h2, h3⟩
end Go.Proofs.YtannifhcjcbkcaaGreatDoor

namespace Go.Proofs.YtannifhcjcbkcaaGreatDoor
open Go.RowKit Limb
set_option linter.unusedVariables false
theorem declT_r {L : Lim} {en i : Nat} {w : Tk} {r : List Tk} {n : Nat} {d : Dc} {q : List Tk} {m : Nat} (h : declT L en i (w :: r) n = .ok d q m) : ∃ x, r = x ++ q := by
 unfold declT at h
 dsimp only at h
 cases hw : wordK w with
 | none => rw [hw] at h; cases h
 | some k =>
  rw [hw] at h
  dsimp only at h
  by_cases h60 : 60 ≤ i
  · rw [if_pos h60] at h; cases h
  · rw [if_neg h60] at h
    exact (((headT_s en k r n).next fun d q m => bodyT_s L en k d q m) d q m h).1
theorem scrT_nil (L : Lim) (en g i n : Nat) : scrT L en g i [] n = .ok [] [] n := by cases g <;> rfl
theorem scrT_step (L : Lim) (en g i : Nat) (x : Tk) (r : List Tk) (n : Nat) : scrT L en (g + 1) i (x :: r) n = (declT L en i (x :: r) n).next fun d r n => (scrT L en g (i + 1) r n).next fun ds r n => .ok (d :: ds) r n := rfl
theorem scrT_len (L : Lim) (en : Nat) : ∀ (g i : Nat) (l : List Tk) (n : Nat), l.length ≤ g → scrT L en g i l n = scrT L en l.length i l n := by
 intro g
 induction g using Nat.strongRecOn with
 | ind g ih =>
  intro i l n hg
  cases l with
  | nil => rw [scrT_nil, scrT_nil]
  | cons x r =>
   cases g with
   | zero => simp at hg
   | succ g =>
    rw [List.length_cons] at hg ⊢
    rw [scrT_step, scrT_step]
    cases hd : declT L en i (x :: r) n with
    | bad e p => rfl
    | ok d q m =>
     rw [PaR.next_ok, PaR.next_ok]
     obtain ⟨z, rfl⟩ := declT_r hd
     rw [List.length_append] at hg ⊢
     rw [ih g (by omega) _ q _ (by omega), ih (z.length + q.length) (by omega) _ q _ (by omega)]
end Go.Proofs.YtannifhcjcbkcaaGreatDoor

namespace Go.Proofs.YtannifhcjcbkcaaGreatDoor
open Go.RowKit Limb
set_option linter.unusedVariables false
theorem cutL_fit (t d n p : Int) : (cutL t d n p).Fit := by unfold cutL Lim.Fit; dsimp only; omega
end Go.Proofs.YtannifhcjcbkcaaGreatDoor

namespace Go.Proofs.YtannifhcjcbkcaaGreatDoor
open Go.RowKit Limb
set_option linter.unusedVariables false
def OwnT (w : World) (B : Nat) (A : Option Addr) (n c : Nat) (ts : List Nd) : Prop := n = ts.length ∧ OwnR w B 51 7 A n c (ndCells ts)
theorem OwnR.caps {w : World} {B sz n c : Nat} {e : TypeId} {A : Option Addr} {xs : List Value} (h : OwnR w B e sz A n c xs) : n ≤ c ∧ c ≤ maxLen := by
 rcases h.2 with ⟨hv, h0⟩ | ⟨g, cap, cur, hv, hB, hg, hnc, hcm, _⟩
 · injection hv with h1 h2 h3
   subst h2 h3
   exact ⟨Nat.le_refl _, Nat.zero_le _⟩
 · injection hv with h1 h2 h3
   subst h3
   exact ⟨hnc, hcm⟩
theorem OwnT.tree {w : World} {B n c : Nat} {A : Option Addr} {ts : List Nd} (h : OwnT w B A n c ts) : TreR w A n c ts := OwnR.tree h.2 h.1 h.2.caps.1 h.2.caps.2
theorem OwnT.below {w w' : World} {B n c : Nat} {A : Option Addr} {ts : List Nd} (h : OwnT w B A n c ts) (hb : Below w.heap.size w w') : OwnT w' B A n c ts := ⟨h.1, h.2.below hb⟩
theorem OwnT.free {w : World} {B n c g : Nat} {ts : List Nd} (h : OwnT w B (some ⟨g, 0, none⟩) n c ts) (j : Nat) : w.frozen? ⟨g, j, none⟩ = false := by
 rcases h.2.2 with ⟨hv, _⟩ | ⟨g2, cap, cur, hv, hB, hg, _⟩
 · cases hv
 · injection hv with h1 h2 h3
   injection h1 with h1
   injection h1 with h1
   subst h1
   exact RowA.free (show RowA w g 51 cur from hg) j
end Go.Proofs.YtannifhcjcbkcaaGreatDoor

namespace Go.Proofs.YtannifhcjcbkcaaGreatDoor
open Go.RowKit Limb
set_option linter.unusedVariables false
abbrev dcC (k : Int) (nm ot nu va un : ByteArray) (A : Option Addr) (n c : Nat) (pl at' : Int) : Array Value := #[.int .i64 k, .string nm, .string ot, .string nu, .string va, .string un, .slice A n c, .int .i64 pl, .int .i64 at']
structure DS where
 d : Dc
 A : Option Addr
 n : Nat
 c : Nat
def dcV (x : DS) : Array Value := dcC x.d.k (strOf x.d.nm) (strOf x.d.ot) (strOf x.d.nu) (strOf x.d.va) (strOf x.d.un) x.A x.n x.c x.d.pl x.d.at'
abbrev zDc : Array Value := dcC 0 ⟨#[]⟩ ⟨#[]⟩ ⟨#[]⟩ ⟨#[]⟩ ⟨#[]⟩ none 0 0 0 0
theorem size_dcV (x : DS) : (dcV x).size = 9 := rfl
theorem dcV_one (x : DS) : ∀ v ∈ dcV x, v.oneCell' = true := by simp [dcV, Value.oneCell']
def dcCells (xs : List DS) : List Value := xs.flatMap fun x => (dcV x).toList
theorem dcCells_snoc (xs : List DS) (x : DS) : dcCells (xs ++ [x]) = dcCells xs ++ (dcV x).toList := by simp [dcCells]
theorem dcCells_at : ∀ {xs : List DS} {i : Nat} {x : DS}, xs[i]? = some x → ∀ j v, (dcV x)[j]? = some v → (dcCells xs)[i * 9 + j]? = some v
 | [], i, x, h, _, _, _ => by simp at h
 | y :: xs, 0, x, h, j, v, hj => by
  obtain rfl : y = x := by simpa using h
  have hl : j < 9 := by
   rcases Nat.lt_or_ge j 9 with h1 | h1
   · exact h1
   · rw [Array.getElem?_eq_none (by rw [size_dcV]; exact h1)] at hj; cases hj
  show ((dcV y).toList ++ dcCells xs)[0 * 9 + j]? = some v
  rw [Nat.zero_mul, Nat.zero_add, List.getElem?_append_left (by simpa [dcV] using hl)]
  simpa using hj
 | y :: xs, i + 1, x, h, j, v, hj => by
  have := dcCells_at (xs := xs) (i := i) (x := x) (by simpa using h) j v hj
  show ((dcV y).toList ++ dcCells xs)[(i + 1) * 9 + j]? = some v
  rw [List.getElem?_append_right (by simp [dcV]; omega), show (i + 1) * 9 + j - (dcV y).toList.length = i * 9 + j by simp [dcV]; omega]
  exact this
theorem dcs_elem : Elem Tryz.prog 26 62 9 := elem_of Tryz.underlying26 (v := .agg zDc) (b := 128) (by kernel_rfl) rfl (by decide) (by decide)
theorem sizeDc : (Tryz.prog.info? 62).map (·.size) = some 9 := by kernel_rfl
theorem manyDc (k : Int) (nm ot nu va un : ByteArray) (A : Option Addr) (n c : Nat) (pl at' : Int) : Many Tryz.prog 62 (dcC k nm ot nu va un A n c pl at').size := ⟨sizeDc, _, Tryz.underlying62, rfl⟩
theorem manyDS (x : DS) : Many Tryz.prog 62 (dcV x).size := manyDc _ _ _ _ _ _ _ _ _ _ _
theorem fitsDz (x : DS) : Many Tryz.prog 62 (dcV x).size ∧ zDc.size = (dcV x).size ∧ ∀ v ∈ dcV x, v.oneCell' = true := ⟨manyDS x, rfl, dcV_one x⟩
def DsR (w : World) (xs : List DS) : Prop := ∀ x ∈ xs, TreR w x.A x.n x.c x.d.tr
theorem DsR.below {w w' : World} {xs : List DS} (h : DsR w xs) (hb : Below w.heap.size w w') : DsR w' xs := fun x hx => (h x hx).below hb
def DcR (w : World) (A : Option Addr) (n c : Nat) (ds : List Dc) : Prop := ∃ xs : List DS, xs.map DS.d = ds ∧ n = xs.length ∧ n ≤ c ∧ c ≤ maxLen ∧ DsR w xs ∧ (0 < n → ∃ g o, A = some ⟨g, o, none⟩ ∧ g < w.heap.size ∧ ∀ i x, xs[i]? = some x → InV w g (o + i * 9) (dcV x))
theorem DcR.below {w w' : World} {A : Option Addr} {n c : Nat} {ds : List Dc} (h : DcR w A n c ds) (hb : Below w.heap.size w w') : DcR w' A n c ds := by
 obtain ⟨xs, h1, h2, h3, h4, h5, h6⟩ := h
 refine ⟨xs, h1, h2, h3, h4, h5.below hb, fun h0 => ?_⟩
 obtain ⟨g, o, e, hg, hc⟩ := h6 h0
 exact ⟨g, o, e, Nat.lt_of_lt_of_le hg hb.size, fun i x hx => (hc i x hx).below hg hb⟩
theorem DcR.len {w : World} {A : Option Addr} {n c : Nat} {ds : List Dc} (h : DcR w A n c ds) : n = ds.length := by
 obtain ⟨xs, h1, h2, _⟩ := h
 rw [← h1, List.length_map]; exact h2
theorem DcR.at {w : World} {A : Option Addr} {n c : Nat} {ds : List Dc} (h : DcR w A n c ds) {i : Nat} {d : Dc} (hi : ds[i]? = some d) : ∃ g o B m k, A = some ⟨g, o, none⟩ ∧ g < w.heap.size ∧ InV w g (o + i * 9) (dcV ⟨d, B, m, k⟩) ∧ TreR w B m k d.tr := by
 obtain ⟨xs, h1, h2, h3, h4, h5, h6⟩ := h
 subst h1
 rw [List.getElem?_map] at hi
 obtain ⟨x, hx, rfl⟩ := Option.map_eq_some_iff.1 hi
 obtain ⟨g, o, e, hg, hc⟩ := h6 (by have := (List.getElem?_eq_some_iff.1 hx).1; omega)
 exact ⟨g, o, x.A, x.n, x.c, e, hg, hc i x hx, h5 x (List.mem_of_getElem? hx)⟩
theorem DcR.nil (w : World) {A : Option Addr} {c : Nat} (hc : c ≤ maxLen) : DcR w A 0 c [] := ⟨[], rfl, rfl, Nat.zero_le _, hc, fun x hx => (by cases hx), fun h => absurd h (by omega)⟩
theorem DcR.take {w : World} {A : Option Addr} {n c : Nat} {ds : List Dc} (h : DcR w A n c ds) {m : Nat} (hm : m ≤ n) : DcR w A m c (ds.take m) := by
 obtain ⟨xs, h1, h2, h3, h4, h5, h6⟩ := h
 refine ⟨xs.take m, by rw [List.map_take, h1], by rw [List.length_take]; omega, by omega, h4, fun x hx => h5 x (List.mem_of_mem_take hx), fun h0 => ?_⟩
 obtain ⟨g, o, e, hg, hc⟩ := h6 (by omega)
 refine ⟨g, o, e, hg, fun i x hx => hc i x ?_⟩
 rw [List.getElem?_take] at hx
 split at hx
 · exact hx
 · cases hx
def OwnD (w : World) (B : Nat) (A : Option Addr) (n c : Nat) (xs : List DS) : Prop := n = xs.length ∧ OwnR w B 62 9 A n c (dcCells xs)
theorem OwnD.below {w w' : World} {B n c : Nat} {A : Option Addr} {xs : List DS} (h : OwnD w B A n c xs) (hb : Below w.heap.size w w') : OwnD w' B A n c xs := ⟨h.1, h.2.below hb⟩
theorem OwnD.row {w : World} {B n c : Nat} {A : Option Addr} {xs : List DS} (h : OwnD w B A n c xs) (hd : DsR w xs) : DcR w A n c (xs.map DS.d) := by
 refine ⟨xs, rfl, h.1, h.2.caps.1, h.2.caps.2, hd, fun h0 => ?_⟩
 obtain ⟨g, e, _, h4, _, h5, h6⟩ := h.2.cells h0
 exact ⟨g, 0, e, h4, fun i x hx j v hj => by rw [Nat.zero_add]; exact h6 _ _ (dcCells_at hx j v hj)⟩
theorem OwnD.free {w : World} {B n c g : Nat} {xs : List DS} (h : OwnD w B (some ⟨g, 0, none⟩) n c xs) (j : Nat) : w.frozen? ⟨g, j, none⟩ = false := by
 rcases h.2.2 with ⟨hv, _⟩ | ⟨g2, cap, cur, hv, hB, hg, _⟩
 · cases hv
 · injection hv with h1 h2 h3
   injection h1 with h1
   injection h1 with h1
   subst h1
   exact RowA.free (show RowA w g 62 cur from hg) j
theorem str_ne {s t : ByteArray} (h : s ≠ t) : (s.toList == t.toList) = false := by
 rw [beq_eq_false_iff_ne]
 intro e
 exact h (by rw [ByteArray.toList_eq, ByteArray.toList_eq] at e; exact ByteArray.ext (Array.toList_inj.1 e))
theorem DcR.at2 {w : World} {A : Option Addr} {n c : Nat} {ds : List Dc} (h : DcR w A n c ds) {i : Nat} {d : Dc} (hi : ds[i]? = some d) : ∃ g o B m k nm ot nu va un, A = some ⟨g, o, none⟩ ∧ g < w.heap.size ∧ InV w g (o + i * 9) (dcC d.k nm ot nu va un B m k d.pl d.at') ∧ TreR w B m k d.tr ∧ strOf d.nm = nm ∧ strOf d.ot = ot ∧ strOf d.nu = nu ∧ strOf d.va = va ∧ strOf d.un = un := by
 obtain ⟨g, o, B, m, k, h1, h2, h3, h4⟩ := h.at hi
 exact ⟨g, o, B, m, k, _, _, _, _, _, h1, h2, h3, h4, rfl, rfl, rfl, rfl, rfl⟩
end Go.Proofs.YtannifhcjcbkcaaGreatDoor

namespace Go.Proofs.YtannifhcjcbkcaaGreatDoor
open Go.ChangeShapes Go.WideShapes Go.ChangeAt Go.RowKit Limb
set_option linter.unusedVariables false
theorem cellsDc : Tryz.prog.cellsOf 62 = 9 := by kernel_rfl
theorem cellsT1 : Tryz.prog.cellsOf 33 = 1 := by kernel_rfl
theorem open_treeC {H : Type} {enc : TypeId × Value → H} {W : World} {sp : Nat → Bool} {held : Bool} {m : Nat} {x : DataW H × List MemPlace} {cs : List Value}
 (h : DataW.trod enc Tryz.prog W 0 sp held m 33 cs = some x) : ∃ a n c ts, cs = [.slice a n c] ∧ TreR W a n c ts := by
 obtain ⟨d, p⟩ := x
 rcases Go.Deep.open_slice Tryz.underlying33 h with ⟨hcs, _⟩ | ⟨x, l, k, m, q, D, Pl, hcs, _⟩
 · subst hcs
   exact ⟨none, 0, 0, [], rfl, TreR.nil _ (Nat.zero_le _)⟩
 · subst hcs
   obtain ⟨ts, ht⟩ := open_tree (a := some x) (n := l) (c := k) (d := d) (p := p) ⟨_, h⟩
   exact ⟨some x, l, k, ts, rfl, ht⟩
def BytD (d : Dc) : Prop := Bytes d.nm ∧ Bytes d.ot ∧ Bytes d.nu ∧ Bytes d.va ∧ Bytes d.un
section
variable {H : Type} {enc : TypeId × Value → H} {W : World} {sp : Nat → Bool} {held : Bool} {m : Nat} {x : DataW H × List MemPlace}
set_option maxRecDepth 10000 in
/-- The nine cells of a declaration. -/
theorem decl_cells {cs : List Value} (hl : cs.length = 9) (h : DataW.trod enc Tryz.prog W 0 sp held m 62 cs = some x) : ∃ y : DS, cs = (dcV y).toList ∧ TreR W y.A y.n y.c y.d.tr ∧ BytD y.d := by
 obtain ⟨xs, m, rfl, hx, hlen, hxl, hel⟩ := DataW.trod_struct Tryz.underlying62 h
 match cs, hl with
 | [c0, c1, c2, c3, c4, c5, c6, c7, c8], _ =>
  have h0 : DataW.trod enc Tryz.prog W 0 sp held m 3 ((([c0, c1, c2, c3, c4, c5, c6, c7, c8] : List Value).drop 0).take (Tryz.prog.cellsOf 3)) = xs[0]? := hel 0 _ rfl
  have h1 : DataW.trod enc Tryz.prog W 0 sp held m 9 ((([c0, c1, c2, c3, c4, c5, c6, c7, c8] : List Value).drop 1).take (Tryz.prog.cellsOf 9)) = xs[1]? := hel 1 _ rfl
  have h2 : DataW.trod enc Tryz.prog W 0 sp held m 9 ((([c0, c1, c2, c3, c4, c5, c6, c7, c8] : List Value).drop 2).take (Tryz.prog.cellsOf 9)) = xs[2]? := hel 2 _ rfl
  have h3 : DataW.trod enc Tryz.prog W 0 sp held m 9 ((([c0, c1, c2, c3, c4, c5, c6, c7, c8] : List Value).drop 3).take (Tryz.prog.cellsOf 9)) = xs[3]? := hel 3 _ rfl
  have h4 : DataW.trod enc Tryz.prog W 0 sp held m 9 ((([c0, c1, c2, c3, c4, c5, c6, c7, c8] : List Value).drop 4).take (Tryz.prog.cellsOf 9)) = xs[4]? := hel 4 _ rfl
  have h5 : DataW.trod enc Tryz.prog W 0 sp held m 9 ((([c0, c1, c2, c3, c4, c5, c6, c7, c8] : List Value).drop 5).take (Tryz.prog.cellsOf 9)) = xs[5]? := hel 5 _ rfl
  have h6 : DataW.trod enc Tryz.prog W 0 sp held m 33 ((([c0, c1, c2, c3, c4, c5, c6, c7, c8] : List Value).drop 6).take (Tryz.prog.cellsOf 33)) = xs[6]? := hel 6 _ rfl
  have h7 : DataW.trod enc Tryz.prog W 0 sp held m 3 ((([c0, c1, c2, c3, c4, c5, c6, c7, c8] : List Value).drop 7).take (Tryz.prog.cellsOf 3)) = xs[7]? := hel 7 _ rfl
  have h8 : DataW.trod enc Tryz.prog W 0 sp held m 3 ((([c0, c1, c2, c3, c4, c5, c6, c7, c8] : List Value).drop 8).take (Tryz.prog.cellsOf 3)) = xs[8]? := hel 8 _ rfl
  have hxl9 : xs.length = 9 := by simpa using hxl
  rw [cellsI1] at h0 h7 h8
  rw [cellsS1] at h1 h2 h3 h4 h5
  rw [cellsT1] at h6
  rw [List.getElem?_eq_getElem (by omega)] at h0 h1 h2 h3 h4 h5 h6 h7 h8
  obtain ⟨v0, e0, _⟩ := DataW.trod_int Tryz.underlying3 h0
  obtain ⟨v1, e1, _⟩ := DataW.trod_string Tryz.underlying9 h1
  obtain ⟨v2, e2, _⟩ := DataW.trod_string Tryz.underlying9 h2
  obtain ⟨v3, e3, _⟩ := DataW.trod_string Tryz.underlying9 h3
  obtain ⟨v4, e4, _⟩ := DataW.trod_string Tryz.underlying9 h4
  obtain ⟨v5, e5, _⟩ := DataW.trod_string Tryz.underlying9 h5
  obtain ⟨a6, n6, c6', ts, e6, ht⟩ := open_treeC h6
  obtain ⟨v7, e7, _⟩ := DataW.trod_int Tryz.underlying3 h7
  obtain ⟨v8, e8, _⟩ := DataW.trod_int Tryz.underlying3 h8
  simp at e0 e1 e2 e3 e4 e5 e6 e7 e8
  subst e0 e1 e2 e3 e4 e5 e6 e7 e8
  refine ⟨⟨⟨v0, bytesOf v1, bytesOf v2, bytesOf v3, bytesOf v4, bytesOf v5, ts, v7, v8⟩, a6, n6, c6'⟩, ?_, ht, bytes_bytesOf _, bytes_bytesOf _, bytes_bytesOf _, bytes_bytesOf _, bytes_bytesOf _⟩
  show _ = (dcC v0 (strOf (bytesOf v1)) (strOf (bytesOf v2)) (strOf (bytesOf v3)) (strOf (bytesOf v4)) (strOf (bytesOf v5)) a6 n6 c6' v7 v8).toList
  rw [strOf_bytesOf, strOf_bytesOf, strOf_bytesOf, strOf_bytesOf, strOf_bytesOf]
end
theorem open_script {H : Type} {enc : TypeId × Value → H} {W : World} {sp : Nat → Bool} {held : Bool} {a : Option Addr} {n c : Nat} {d : DataW H} {p : List MemPlace}
 (h : DataW.Trod enc Tryz.prog W 0 sp held 26 (.slice a n c) d p) : ∃ ds, DcR W a n c ds ∧ ∀ d ∈ ds, BytD d := by
 obtain ⟨fuel, hf⟩ := h
 rcases Go.Deep.open_slice Tryz.underlying26 hf with ⟨hcs, _⟩ | ⟨x, l, k, m, q, D, Pl, hcs, _, hl, hm, hmm, _, hx⟩
 · simp [Value.cells] at hcs
   obtain ⟨rfl, rfl, rfl⟩ := hcs
   exact ⟨[], DcR.nil _ (Nat.zero_le _), fun d hd => by cases hd⟩
 · simp [Value.cells] at hcs
   obtain ⟨rfl, rfl, rfl⟩ := hcs
   have hnm : n ≤ m := by rw [hmm]; split <;> omega
   have each : ∀ i, i < n → ∃ y : DS, (TreR W y.A y.n y.c y.d.tr ∧ BytD y.d) ∧ ∀ j v, (dcV y)[j]? = some v → W.cell? ((x.add (i * 9)).add j) = some v := by
    intro i hi
    obtain ⟨cs, h1, h2⟩ := hx i (by omega)
    rw [cellsDc] at h1
    obtain ⟨_, hlen, hcell⟩ := World.cells?_some h1
    obtain ⟨y, hy, ht, hby⟩ := decl_cells hlen h2
    refine ⟨y, ⟨ht, hby⟩, fun j v hj => ?_⟩
    subst hy
    have hj9 : j < 9 := by
     rcases Nat.lt_or_ge j 9 with h9 | h9
     · exact h9
     · rw [Array.getElem?_eq_none (by rw [size_dcV]; exact h9)] at hj; cases hj
    have h3 := hcell j hj9
    rw [h3]
    simpa using hj
   have key : ∀ k, k ≤ n → ∃ ts : List DS, ts.length = k ∧ ∀ i y, ts[i]? = some y → (TreR W y.A y.n y.c y.d.tr ∧ BytD y.d) ∧ ∀ j v, (dcV y)[j]? = some v → W.cell? ((x.add (i * 9)).add j) = some v := by
    intro k
    induction k with
    | zero => intro _; exact ⟨[], rfl, fun i y hy => by simp at hy⟩
    | succ k ih =>
     intro hk
     obtain ⟨ts, h1, h2⟩ := ih (by omega)
     obtain ⟨y, hy⟩ := each k (by omega)
     refine ⟨ts ++ [y], by rw [List.length_append, h1]; rfl, fun i z hz => ?_⟩
     rcases Nat.lt_or_ge i k with h3 | h3
     · rw [List.getElem?_append_left (by omega)] at hz
       exact h2 i z hz
     · have hi : i = k := by
        have := (List.getElem?_eq_some_iff.1 hz).1
        rw [List.length_append, h1] at this
        simp at this
        omega
       subst hi
       rw [List.getElem?_append_right (by omega), h1, Nat.sub_self] at hz
       cases hz
       exact hy
   obtain ⟨ts, h1, h2⟩ := key n (Nat.le_refl _)
   refine ⟨ts.map DS.d, ⟨ts, rfl, h1.symm, hl, hm, fun y hy => ?_, fun h0 => ?_⟩, fun d hd => ?_⟩
   · obtain ⟨i, hi, rfl⟩ := List.getElem_of_mem hy
     exact (h2 i _ (List.getElem?_eq_getElem hi)).1.1
   · obtain ⟨b, o, spot⟩ := x
     obtain ⟨y, hy⟩ : ∃ y, ts[0]? = some y := ⟨_, List.getElem?_eq_getElem (by omega)⟩
     have h00 := (h2 0 y hy).2 0 (.int .i64 y.d.k) rfl
     have hs : spot = none := by
      have e : ((⟨b, o, spot⟩ : Addr).add (0 * 9)).add 0 = ⟨b, o, spot⟩ := by simp [Addr.add]
      rw [e] at h00
      exact World.cell?_spot h00
     subst hs
     refine ⟨b, o, rfl, ?_, fun i z hz j v hj => ?_⟩
     · have e : ((⟨b, o, none⟩ : Addr).add (0 * 9)).add 0 = ⟨b, o, none⟩ := by simp [Addr.add]
       rw [e] at h00
       exact World.block_lt_of_cell? W _ h00
     · have h9 := (h2 i z hz).2 j v hj
       rw [Addr.add_mid, Addr.add_mid] at h9
       exact h9
   · obtain ⟨y, hy, rfl⟩ := List.mem_map.1 hd
     obtain ⟨i, hi, rfl⟩ := List.getElem_of_mem hy
     exact (h2 i _ (List.getElem?_eq_getElem hi)).1.2
end Go.Proofs.YtannifhcjcbkcaaGreatDoor

namespace Go.Proofs.YtannifhcjcbkcaaGreatDoor
open Go.RowKit Limb
set_option linter.unusedVariables false
def sizeT (ts : List Nd) : Nat := (ts.map fun x => 1 + min x.t.size 6000 + min x.u.size 6000).sum
def largeT (ts : List Nd) : Bool := decide (6000 < sizeT ts)
theorem sizeT_next {ts : List Nd} {k : Nat} {x : Nd} (h : ts[k]? = some x) : sizeT (ts.take (k + 1)) = sizeT (ts.take k) + (1 + min x.t.size 6000 + min x.u.size 6000) := by
 rw [List.take_add_one, h, Option.toList_some]
 simp [sizeT]
theorem sizeT_le (ts : List Nd) (k : Nat) : sizeT (ts.take k) ≤ sizeT ts := by
 have : sizeT ts = sizeT (ts.take k) + sizeT (ts.drop k) := by
  unfold sizeT
  rw [List.map_take, List.map_drop, ← List.sum_append, List.take_append_drop]
 omega
theorem mild_of {ts : List Nd} (h : largeT ts = false) : ts.length ≤ 6000 ∧ ∀ x ∈ ts, x.t.size ≤ 6000 ∧ x.u.size ≤ 6000 := by
 have h6 : sizeT ts ≤ 6000 := by unfold largeT at h; rw [decide_eq_false_iff_not] at h; omega
 clear h
 induction ts with
 | nil => exact ⟨Nat.zero_le _, fun x hx => by cases hx⟩
 | cons y ts ih =>
  have e : sizeT (y :: ts) = (1 + min y.t.size 6000 + min y.u.size 6000) + sizeT ts := by simp [sizeT]
  have hl : ts.length ≤ sizeT ts := by
   clear ih e h6
   induction ts with
   | nil => exact Nat.zero_le _
   | cons z ts ih => have e : sizeT (z :: ts) = (1 + min z.t.size 6000 + min z.u.size 6000) + sizeT ts := by simp [sizeT]
                     rw [List.length_cons, e]; omega
  obtain ⟨h1, h2⟩ := ih (by omega)
  refine ⟨by rw [List.length_cons]; omega, fun x hx => ?_⟩
  rcases List.mem_cons.1 hx with rfl | hx
  · omega
  · exact h2 x hx
theorem mild_small {ts : List Nd} (h : largeT ts = false) : Mild ts := ⟨by have := (mild_of h).1; omega, fun x hx => by have := (mild_of h).2 x hx; omega⟩
end Go.Proofs.YtannifhcjcbkcaaGreatDoor

namespace Go.Proofs.YtannifhcjcbkcaaGreatDoor
open Go.RowKit Limb
set_option linter.unusedVariables false
theorem OwnR.differ {w : World} {B sz n c g : Nat} {e T : TypeId} {A : Option Addr} {xs : List Value} {V : Array Value} (h : OwnR w B e sz A n c xs) (hr : RowA w g T V) (ht : T ≠ e) : Value.ownBlock (.slice A n c) ≠ some g := by
 rcases h.2 with ⟨hv, h0⟩ | ⟨g2, cap, cur, hv, hB, hg, _⟩
 · rw [hv]; intro h; cases h
 · rw [hv]
   intro e2
   have e3 : g2 = g := by injection e2
   subst e3
   unfold RowA at hr
   have h1 := hg.symm.trans hr
   injection h1 with h1
   injection h1 with _ h2 _
   exact ht h2.symm
theorem OwnR.over {w w' : World} {B sz n c : Nat} {e : TypeId} {A : Option Addr} {xs : List Value} {r : Option Nat} (h : OwnR w B e sz A n c xs) (hg : w.grownBy w' r) (hr : ∀ q, r = some q → Value.ownBlock (.slice A n c) ≠ some q) : OwnR w' B e sz A n c xs := by
 refine ⟨h.1, ?_⟩
 rcases h.2 with h1 | ⟨g, cap, cur, hv, hB, hgc, hrest⟩
 · exact .inl h1
 · refine .inr ⟨g, cap, cur, hv, hB, ?_, hrest⟩
   have hlt : g < w.heap.size := by
    rcases Nat.lt_or_ge g w.heap.size with h | h
    · exact h
    · rw [Array.getElem?_eq_none h] at hgc; cases hgc
   rw [← hgc]
   refine hg.block g hlt fun e2 => hr g e2.symm ?_
   rw [hv]; rfl
def OwnX (w : World) (A : Option Addr) (n c : Nat) (ts : List Nd) : Prop := ∃ B, OwnT w B A n c ts
theorem OwnT.x {w : World} {B n c : Nat} {A : Option Addr} {ts : List Nd} (h : OwnT w B A n c ts) : OwnX w A n c ts := ⟨B, h⟩
theorem OwnX.tree {w : World} {n c : Nat} {A : Option Addr} {ts : List Nd} (h : OwnX w A n c ts) : TreR w A n c ts := by obtain ⟨B, h⟩ := h; exact h.tree
theorem OwnX.below {w w' : World} {n c : Nat} {A : Option Addr} {ts : List Nd} (h : OwnX w A n c ts) (hb : Below w.heap.size w w') : OwnX w' A n c ts := by obtain ⟨B, h⟩ := h; exact ⟨B, h.below hb⟩
theorem OwnX.over {w w' : World} {n c g : Nat} {A : Option Addr} {ts : List Nd} {T : TypeId} {V : Array Value} (h : OwnX w A n c ts) (hr : RowA w g T V) (ht : T ≠ 51) (hg : w.grownBy w' (some g)) : OwnX w' A n c ts := by
 obtain ⟨B, h1, h2⟩ := h
 exact ⟨B, h1, h2.over hg fun q hq => by injection hq with hq; subst hq; exact h2.differ hr ht⟩
theorem OwnX.nil (w : World) : OwnX w none 0 0 [] := ⟨0, rfl, OwnR.nil _ _ _ _⟩
def DsO (w : World) (xs : List DS) : Prop := ∀ x ∈ xs, OwnX w x.A x.n x.c x.d.tr
theorem DsO.below {w w' : World} {xs : List DS} (h : DsO w xs) (hb : Below w.heap.size w w') : DsO w' xs := fun x hx => (h x hx).below hb
theorem DsO.over {w w' : World} {xs : List DS} {g : Nat} {T : TypeId} {V : Array Value} (h : DsO w xs) (hr : RowA w g T V) (ht : T ≠ 51) (hg : w.grownBy w' (some g)) : DsO w' xs := fun x hx => (h x hx).over hr ht hg
theorem DsO.dsr {w : World} {xs : List DS} (h : DsO w xs) : DsR w xs := fun x hx => (h x hx).tree
theorem DsO.snoc {w : World} {xs : List DS} (h : DsO w xs) {x : DS} (hx : OwnX w x.A x.n x.c x.d.tr) : DsO w (xs ++ [x]) := fun y hy => by
 rcases List.mem_append.1 hy with hy | hy
 · exact h y hy
 · rw [List.mem_singleton.1 hy]; exact hx
theorem OwnD.rowA {w : World} {B n c : Nat} {A : Option Addr} {xs : List DS} (h : OwnD w B A n c xs) {g : Nat} (hg : Value.ownBlock (.slice A n c) = some g) : ∃ V, RowA w g 62 V := by
 rcases h.2.2 with ⟨hv, h0⟩ | ⟨g2, cap, cur, hv, hB, hgc, _⟩
 · rw [hv] at hg; cases hg
 · rw [hv] at hg
   have e3 : g2 = g := by injection hg
   subst e3
   exact ⟨cur, hgc⟩
theorem td_tn : 62 ≠ 51 := by decide
theorem DsO.grown {w w' : World} {B n c : Nat} {A : Option Addr} {xs ys : List DS} (h : DsO w ys) (ho : OwnD w B A n c xs) (hg : w.grownBy w' (Value.ownBlock (.slice A n c))) : DsO w' ys := by
 intro y hy
 obtain ⟨B2, h1, h2⟩ := h y hy
 refine ⟨B2, h1, h2.over hg fun q hq => ?_⟩
 obtain ⟨V, hr⟩ := ho.rowA hq
 exact h2.differ hr td_tn
theorem OwnX.grown {w w' : World} {B n c m d : Nat} {A C : Option Addr} {xs : List DS} {ts : List Nd} (h : OwnX w C m d ts) (ho : OwnD w B A n c xs) (hg : w.grownBy w' (Value.ownBlock (.slice A n c))) : OwnX w' C m d ts := by
 obtain ⟨B2, h1, h2⟩ := h
 refine ⟨B2, h1, h2.over hg fun q hq => ?_⟩
 obtain ⟨V, hr⟩ := ho.rowA hq
 exact h2.differ hr td_tn
theorem grown_set (w : World) (g k : Nat) (v : Value) : w.grownBy (w.setCell ⟨g, k, none⟩ v) (some g) :=
 ⟨rfl, rfl, rfl, by simp, fun i _ hr => Below.heap_setCell w _ v i (fun e => hr (by subst e; rfl))⟩
end Go.Proofs.YtannifhcjcbkcaaGreatDoor

namespace Go.Proofs.YtannifhcjcbkcaaGreatDoor
open Go.RowKit Limb
set_option linter.unusedVariables false
def sizeD (d : Dc) : Nat := 1 + min d.nm.length 6000 + min d.ot.length 6000 + min d.nu.length 6000 + min d.va.length 6000 + min d.un.length 6000
def sizeS (ds : List Dc) : Nat := (ds.map fun d => sizeD d + sizeT d.tr).sum
def largeS (ds : List Dc) : Bool := decide (6000 < sizeS ds)
theorem sizeS_next {ds : List Dc} {k : Nat} {d : Dc} (h : ds[k]? = some d) : sizeS (ds.take (k + 1)) = sizeS (ds.take k) + (sizeD d + sizeT d.tr) := by
 rw [List.take_add_one, h, Option.toList_some]
 simp [sizeS]
theorem sizeS_le (ds : List Dc) (k : Nat) : sizeS (ds.take k) ≤ sizeS ds := by
 have : sizeS ds = sizeS (ds.take k) + sizeS (ds.drop k) := by
  unfold sizeS
  rw [List.map_take, List.map_drop, ← List.sum_append, List.take_append_drop]
 omega
theorem sizeS_mem {ds : List Dc} {d : Dc} (h : d ∈ ds) : sizeD d + sizeT d.tr ≤ sizeS ds := by
 induction ds with
 | nil => cases h
 | cons y ds ih =>
  have e : sizeS (y :: ds) = (sizeD y + sizeT y.tr) + sizeS ds := by simp [sizeS]
  rcases List.mem_cons.1 h with rfl | h
  · omega
  · have := ih h; omega
theorem sizeS_len (ds : List Dc) : ds.length ≤ sizeS ds := by
 induction ds with
 | nil => exact Nat.zero_le _
 | cons y ds ih =>
  have e : sizeS (y :: ds) = (sizeD y + sizeT y.tr) + sizeS ds := by simp [sizeS]
  have : 1 ≤ sizeD y := by unfold sizeD; omega
  rw [List.length_cons, e]; omega
theorem small_S {ds : List Dc} (h : largeS ds = false) : ds.length ≤ 6000 ∧ ∀ d ∈ ds, largeT d.tr = false ∧ d.nm.length ≤ 6000 ∧ d.ot.length ≤ 6000 ∧ d.nu.length ≤ 6000 ∧ d.va.length ≤ 6000 ∧ d.un.length ≤ 6000 := by
 have h6 : sizeS ds ≤ 6000 := by unfold largeS at h; rw [decide_eq_false_iff_not] at h; omega
 refine ⟨Nat.le_trans (sizeS_len ds) h6, fun d hd => ?_⟩
 have h1 := sizeS_mem hd
 unfold sizeD at h1
 refine ⟨decide_eq_false (by omega), ?_, ?_, ?_, ?_, ?_⟩ <;> omega
set_option maxHeartbeats 8000000 in
set_option maxRecDepth 100000 in
theorem kLargeS_c {w : World} {A : Option Addr} {n c : Nat} {ds : List Dc} (h : DcR w A n c ds) (v : Bool) (hv : largeS ds = v) :
 Calls Tryz.prog 25 #[.slice A n c] w fun e w' => e = .returned (.bool v) ∧ Below w.heap.size w w' := by
 have hn := h.len
 obtain ⟨hc, hcm⟩ : n ≤ c ∧ c ≤ maxLen := by obtain ⟨_, _, _, a, b, _⟩ := h; exact ⟨a, b⟩
 have H := Lib.hid h
 have HN := Lib.hid hn
 have HV := Lib.hid hv
 have eq1 : maxLen = 9223372036854775807 := rfl
 clear h hn hv
 go_enter Tryz.func25, Tryz.ntmps25
 go_wp2
 go_loopw [3, 4] (fun s i wr => ∃ k0 m : Nat, s = .int .i64 (m : Int) ∧ i = .int .i64 (k0 : Int) ∧ k0 ≤ n ∧ m ≤ 100000 ∧ Hid ((m ≤ 6000 → sizeS (ds.take k0) = m) ∧ (6000 < m → v = true)) ∧ Hid (Below w.heap.size w wr)) (fun _ i _ => n - (intOf i).toNat)
 case atStart => exact ⟨0, 0, rfl, rfl, Nat.zero_le _, by omega, ⟨fun _ => rfl, fun h => absurd h (by omega)⟩, Below.refl _ _⟩
 case round =>
  obtain ⟨k0, m, rfl, rfl, hk, hm, HS, HB⟩ := hrel
  by_cases hlt : k0 < n
  · by_cases hb : 6000 < m
    · have HVt := Lib.hid (HS.out.2 hb)
      have eb : decide ((6000 : Int) < (m : Int)) = true := decide_eq_true (by omega)
      have eb2 : decide ((m : Int) ≤ 6000) = false := decide_eq_false (by omega)
      go_wp2
      go_ret
      exact ⟨by rw [HVt.out]; rfl, HB.out⟩
    · skip
      have hb7 : decide ((m : Int) ≤ 6000) = true := decide_eq_true (by omega)
      have hb8 : decide (m ≤ 6000) = true := decide_eq_true (by omega)
      obtain ⟨x, hx⟩ : ∃ x, ds[k0]? = some x := ⟨_, List.getElem?_eq_getElem (by rw [← HN.out]; exact hlt)⟩
      have hsn := sizeS_next hx
      rw [HS.out.1 (by omega)] at hsn
      obtain ⟨g, og, A1, n1, c1, nm, ot, nu, va, un, rfl, hg, hin, ht, u1, u2, u3, u4, u5⟩ := (H.out.below HB.out).at2 hx
      have hle := sizeS_le ds (k0 + 1)
      have l1 : x.nm.length = nm.size := by rw [← u1, size_strOf]
      obtain ⟨a1, ha1⟩ : ∃ q, min nm.size 6000 = q := ⟨_, rfl⟩
      have l2 : x.ot.length = ot.size := by rw [← u2, size_strOf]
      obtain ⟨a2, ha2⟩ : ∃ q, min ot.size 6000 = q := ⟨_, rfl⟩
      have l3 : x.nu.length = nu.size := by rw [← u3, size_strOf]
      obtain ⟨a3, ha3⟩ : ∃ q, min nu.size 6000 = q := ⟨_, rfl⟩
      have l4 : x.va.length = va.size := by rw [← u4, size_strOf]
      obtain ⟨a4, ha4⟩ : ∃ q, min va.size 6000 = q := ⟨_, rfl⟩
      have l5 : x.un.length = un.size := by rw [← u5, size_strOf]
      obtain ⟨a5, ha5⟩ : ∃ q, min un.size 6000 = q := ⟨_, rfl⟩
      unfold sizeD at hsn
      rw [l1, l2, l3, l4, l5, ha1, ha2, ha3, ha4, ha5] at hsn
      have ea1 : min (nm.size : Int) 6000 = (a1 : Int) := by omega
      have ba1 : a1 ≤ 6000 := by omega
      have ea2 : min (ot.size : Int) 6000 = (a2 : Int) := by omega
      have ba2 : a2 ≤ 6000 := by omega
      have ea3 : min (nu.size : Int) 6000 = (a3 : Int) := by omega
      have ba3 : a3 ≤ 6000 := by omega
      have ea4 : min (va.size : Int) 6000 = (a4 : Int) := by omega
      have ba4 : a4 ≤ 6000 := by omega
      have ea5 : min (un.size : Int) 6000 = (a5 : Int) := by omega
      have ba5 : a5 ≤ 6000 := by omega
      have bn := below_new wr (.cells (dcC x.k nm ot nu va un A1 n1 c1 x.pl x.at') 62)
      have HI_1 : Hid (InV wr g (og + k0 * 9) (dcC x.k nm ot nu va un A1 n1 c1 x.pl x.at')) := hin
      have HM_1 : Hid (Many Tryz.prog 62 (dcC x.k nm ot nu va un A1 n1 c1 x.pl x.at').size) := manyDc _ _ _ _ _ _ _ _ _ _ _
      have HU_1 : Hid (Many Tryz.prog 62 (dcC x.k nm ot nu va un A1 n1 c1 x.pl x.at').size ∧ zDc.size = (dcC x.k nm ot nu va un A1 n1 c1 x.pl x.at').size ∧ ∀ v ∈ dcC x.k nm ot nu va un A1 n1 c1 x.pl x.at', v.oneCell' = true) := ⟨manyDc _ _ _ _ _ _ _ _ _ _ _, rfl, by simp [Value.oneCell']⟩
      have hX := rowA_new wr 62 (dcC x.k nm ot nu va un A1 n1 c1 x.pl x.at')
      have x1 := hX.cell (k := 1) (v := .string nm) rfl
      have x2 := hX.cell (k := 2) (v := .string ot) rfl
      have x3 := hX.cell (k := 3) (v := .string nu) rfl
      have x4 := hX.cell (k := 4) (v := .string va) rfl
      have x5 := hX.cell (k := 5) (v := .string un) rfl
      have HX := Lib.hid hX
      have HTr := Lib.hid (ht.below bn)
      have HB2 := Lib.hid (below_two HB.out bn)
      have HSN := Lib.hid hsn
      have HLE := Lib.hid hle
      clear hx hg hin ht bn HB hX hsn hle u1 u2 u3 u4 u5 l1 l2 l3 l4 l5 ha1 ha2 ha3 ha4 ha5 HS
      go_upto_region 8 with (first | (refine wpList_loadV (by rfl) _ _ (by rfl) _ _ (by rfl) _ (by assumption) (by assumption) ?_) | (refine wpList_storeNew (by rfl) _ _ _ (by rfl) _ _ _ (by rfl) (by rfl) (by assumption) ?_))
      obtain ⟨m2, hm2⟩ : ∃ m2 : Nat, m2 = m + (1 + a1 + a2 + a3 + a4 + a5) := ⟨_, rfl⟩
      have e2 : (m : Int) + (1 + (a1 : Int) + (a2 : Int) + (a3 : Int) + (a4 : Int) + (a5 : Int)) = (m2 : Int) := by omega
      rw [e2]
      have HSN2 : Hid (sizeS (ds.take (k0 + 1)) = m2 + sizeT x.tr) := by have h1 := HSN.out; show _ = _; omega
      have hm3 : m2 ≤ 40000 := by omega
      clear e2 hm2 HSN ea1 ea2 ea3 ea4 ea5 ba1 ba2 ba3 ba4 ba5 hb7 hb8 x1 x2 x3 x4 x5 HI_1 HM_1 HU_1
      generalize wr.alloc (.cells (dcC x.k nm ot nu va un A1 n1 c1 x.pl x.at') 62) = w8 at *
      obtain ⟨q_x, hqx⟩ : ∃ g, g = wr.heap.size := ⟨_, rfl⟩
      rw [← hqx] at HX ⊢
      clear hqx
      obtain ⟨hn1, hc1, hcm1, _⟩ := id HTr.out
      have HN1 := Lib.hid hn1
      clear hn1
      go_loopw [3, 6] (fun s i wr => ∃ j0 m1 : Nat, s = .int .i64 (m1 : Int) ∧ i = .int .i64 (j0 : Int) ∧ j0 ≤ n1 ∧ m1 ≤ 60000 ∧ Hid (m2 + sizeT (x.tr.take j0) = m1) ∧ Hid (Below w8.heap.size w8 wr)) (fun _ i _ => n1 - (intOf i).toNat)
      case atStart => exact ⟨0, m2, rfl, rfl, Nat.zero_le _, by omega, rfl, Below.refl _ _⟩
      case round =>
       obtain ⟨j0, m1, rfl, rfl, hj, hm1, HS, HB⟩ := hrel
       have x6 := (RowA.below HX.out HB.out).cell (k := 6) (v := .slice A1 n1 c1) rfl
       by_cases hjl : j0 < n1
       · by_cases hb1 : 6000 < m1
         · have eb : decide ((6000 : Int) < (m1 : Int)) = true := decide_eq_true (by omega)
           have eb2 : decide ((m1 : Int) ≤ 6000) = false := decide_eq_false (by omega)
           have HBf := Lib.hid (below_two HB2.out HB.out)
           have HRf : Hid ((m1 ≤ 6000 → sizeS (ds.take (k0 + 1)) = m1) ∧ (6000 < m1 → v = true)) := by
            refine ⟨fun h => absurd h (by omega), fun h => ?_⟩
            rw [← HV.out]
            exact decide_eq_true (by have h1 := HSN2.out; have h2 := HLE.out; have h3 := HS.out; have h4 := sizeT_le x.tr j0; omega)
           clear HS HB
           go_wp2
           go_roundw
           case rel => exact ⟨k0 + 1, m1, rfl, by go_num, hlt, by omega, HRf, HBf⟩
           case measure => simp [intOf]; omega
         · skip
           have hb7 : decide ((m1 : Int) ≤ 6000) = true := decide_eq_true (by omega)
           obtain ⟨y, hy⟩ : ∃ y, x.tr[j0]? = some y := ⟨_, List.getElem?_eq_getElem (by rw [← HN1.out]; exact hjl)⟩
           have hsn := sizeT_next hy
           obtain ⟨gt, ot, rfl, hgt, hin⟩ := (HTr.out.below HB.out).at hy
           have c4 := hin 4 (.string y.t) rfl
           have c5 := hin 5 (.string y.u) rfl
           obtain ⟨kk, a, b, jj, t, u, p⟩ := y
           dsimp only at c4 c5 hsn
           obtain ⟨mt, hmt⟩ : ∃ q, min t.size 6000 = q := ⟨_, rfl⟩
           obtain ⟨mu, hmu⟩ : ∃ q, min u.size 6000 = q := ⟨_, rfl⟩
           rw [hmt, hmu] at hsn
           have HSn : Hid (m2 + sizeT (x.tr.take (j0 + 1)) = m1 + (1 + mt + mu)) := by have := HS.out; show _ = _; omega
           have et : min (t.size : Int) 6000 = (mt : Int) := by omega
           have eu : min (u.size : Int) 6000 = (mu : Int) := by omega
           have hmt6 : mt ≤ 6000 := by omega
           have hmu6 : mu ≤ 6000 := by omega
           have HG := Lib.hid hgt
           have C4 := Lib.hid c4
           have C5 := Lib.hid c5
           have HMT := Lib.hid et
           have HMU := Lib.hid eu
           have HXw := Lib.hid (RowA.below HX.out HB.out)
           clear hy hin hsn hgt HS c4 c5 hmt hmu et eu
           go_wp2
           clear x6
           generalize wr = wS at *
           have g1 : (j0 : Int) < (n1 : Int) := by omega
           refine region_freed 20 1 14 [59, 60, 61, 62, 63, 64, 65, 66, 67, 68, 69, 70, 71, 72, 73, 74, 75, 76, 77, 78] ?aF1 (fun wx => Below wS.heap.size wS wx) (fun k vv wx => match k with
            | 0 => vv = .int .i64 (m1 : Int)
            | 1 => vv = .pointer (some ⟨q_x, 6, none⟩)
            | 2 => vv = .slice (some ⟨gt, ot, none⟩) n1 c1
            | 3 => vv = .int .i64 (j0 : Int)
            | 4 => vv = .pointer (some ⟨gt, ot + j0 * 7, none⟩)
            | 5 => vv = .pointer (some ⟨gt, ot + j0 * 7 + 4, none⟩)
            | 6 => vv = .string t
            | 7 => vv = .int .i64 (t.size : Int)
            | 8 => vv = .int .i64 (mt : Int)
            | 9 => vv = .int .i64 (1 + (mt : Int))
            | 10 => vv = .pointer (some ⟨q_x, 6, none⟩)
            | 11 => vv = .slice (some ⟨gt, ot, none⟩) n1 c1
            | 12 => vv = .int .i64 (j0 : Int)
            | 13 => vv = .pointer (some ⟨gt, ot + j0 * 7, none⟩)
            | 14 => vv = .pointer (some ⟨gt, ot + j0 * 7 + 5, none⟩)
            | 15 => vv = .string u
            | 16 => vv = .int .i64 (u.size : Int)
            | 17 => vv = .int .i64 (mu : Int)
            | 18 => vv = .int .i64 (1 + (mt : Int) + (mu : Int))
            | _ => vv = .int .i64 ((m1 : Int) + (1 + (mt : Int) + (mu : Int))))
            (fun k => false) (by kernel_rfl) ?haF1 rfl (by kernel_rfl) (by kernel_rfl) (fun _ _ _ _ _ h => h) ?hSb1 ?hPb1 ?hS1 ?hop1 ?hfin1
           case haF1 =>
            intro vals
            simp only [fillAll, List.getElem?_cons_zero, List.getElem?_cons_succ, Act.put, List.setIfInBounds_toArray, List.set_cons_zero, List.set_cons_succ]
            exact rfl
           case hSb1 => exact fun wx w2 hb hS => below_two hS hb
           case hPb1 =>
            intro k v wa wb hb h
            match k, h with
            | 0, h => exact h
            | 1, h => exact h
            | 2, h => exact h
            | 3, h => exact h
            | 4, h => exact h
            | 5, h => exact h
            | 6, h => exact h
            | 7, h => exact h
            | 8, h => exact h
            | 9, h => exact h
            | 10, h => exact h
            | 11, h => exact h
            | 12, h => exact h
            | 13, h => exact h
            | 14, h => exact h
            | 15, h => exact h
            | 16, h => exact h
            | 17, h => exact h
            | 18, h => exact h
            | _ + 19, h => exact h
           case hS1 => exact (Below.refl _ _).drew
           case hop1 =>
            refine .cons (k := 0) (.plain rfl ?_) (.cons (k := 1) (.plain rfl ?_) (.cons (k := 2) (.plain rfl ?_) (.cons (k := 3) (.plain rfl ?_) (.cons (k := 4) (.plain rfl ?_) (.cons (k := 5) (.plain rfl ?_) (.cons (k := 6) (.plain rfl ?_) (.cons (k := 7) (.plain rfl ?_) (.cons (k := 8) (.plain rfl ?_) (.cons (k := 9) (.plain rfl ?_) (.cons (k := 10) (.plain rfl ?_) (.cons (k := 11) (.plain rfl ?_) (.cons (k := 12) (.plain rfl ?_) (.cons (k := 13) (.plain rfl ?_) (.cons (k := 14) (.plain rfl ?_) (.cons (k := 15) (.plain rfl ?_) (.cons (k := 16) (.plain rfl ?_) (.cons (k := 17) (.plain rfl ?_) (.cons (k := 18) (.plain rfl ?_) (.cons (k := 19) (.plain rfl ?_) (.nil))))))))))))))))))))
            all_goals intro vals wr hS hd KC hK
            all_goals (show Oper.wp _ _ _ _ _ _; dsimp only)
            · go_simp
              refine hK _ _ rfl (Below.refl _ _) (by first | rfl | simp) (fun h => by cases h)
            · go_simp
              refine hK _ _ rfl (Below.refl _ _) (by first | rfl | simp) (fun h => by cases h)
            · have d1 : vals 1 = _ := hd 1 (by decide +kernel)
              rw [d1]
              have z0 := (HXw.out.below hS).cell (k := 6) (v := .slice (some ⟨gt, ot, none⟩) n1 c1) rfl
              go_simp
              refine hK _ _ rfl (Below.refl _ _) (by first | rfl | simp) (fun h => by cases h)
            · go_simp
              refine hK _ _ rfl (Below.refl _ _) (by first | rfl | simp) (fun h => by cases h)
            · have d2 : vals 2 = _ := hd 2 (by decide +kernel)
              have d3 : vals 3 = _ := hd 3 (by decide +kernel)
              rw [d2, d3]
              go_simp
              refine hK _ _ rfl (Below.refl _ _) (by first | rfl | simp) (fun h => by cases h)
            · have d4 : vals 4 = _ := hd 4 (by decide +kernel)
              rw [d4]
              go_simp
              refine hK _ _ rfl (Below.refl _ _) (by first | rfl | simp) (fun h => by cases h)
            · have d5 : vals 5 = _ := hd 5 (by decide +kernel)
              rw [d5]
              have z0 := (hS.cell (p := ⟨gt, ot + j0 * 7 + 4, none⟩) HG.out).trans C4.out
              go_simp
              refine hK _ _ rfl (Below.refl _ _) (by first | rfl | simp) (fun h => by cases h)
            · have d6 : vals 6 = _ := hd 6 (by decide +kernel)
              rw [d6]
              go_simp
              refine hK _ _ rfl (Below.refl _ _) (by first | rfl | simp) (fun h => by cases h)
            · have d7 : vals 7 = _ := hd 7 (by decide +kernel)
              rw [d7]
              have hm1 := HMT.out
              go_simp
              refine hK _ _ rfl (Below.refl _ _) (by first | rfl | simp) (fun h => by cases h)
            · have d8 : vals 8 = _ := hd 8 (by decide +kernel)
              rw [d8]
              have hwr : IntKind.i64.wrap (1 + (mt : Int)) = 1 + (mt : Int) := by rw [IntKind.wrap_i64]; omega
              go_simp
              refine hK _ _ rfl (Below.refl _ _) (by first | rfl | simp) (fun h => by cases h)
            · go_simp
              refine hK _ _ rfl (Below.refl _ _) (by first | rfl | simp) (fun h => by cases h)
            · have d10 : vals 10 = _ := hd 10 (by decide +kernel)
              rw [d10]
              have z0 := (HXw.out.below hS).cell (k := 6) (v := .slice (some ⟨gt, ot, none⟩) n1 c1) rfl
              go_simp
              refine hK _ _ rfl (Below.refl _ _) (by first | rfl | simp) (fun h => by cases h)
            · go_simp
              refine hK _ _ rfl (Below.refl _ _) (by first | rfl | simp) (fun h => by cases h)
            · have d11 : vals 11 = _ := hd 11 (by decide +kernel)
              have d12 : vals 12 = _ := hd 12 (by decide +kernel)
              rw [d11, d12]
              go_simp
              refine hK _ _ rfl (Below.refl _ _) (by first | rfl | simp) (fun h => by cases h)
            · have d13 : vals 13 = _ := hd 13 (by decide +kernel)
              rw [d13]
              go_simp
              refine hK _ _ rfl (Below.refl _ _) (by first | rfl | simp) (fun h => by cases h)
            · have d14 : vals 14 = _ := hd 14 (by decide +kernel)
              rw [d14]
              have z0 := (hS.cell (p := ⟨gt, ot + j0 * 7 + 5, none⟩) HG.out).trans C5.out
              go_simp
              refine hK _ _ rfl (Below.refl _ _) (by first | rfl | simp) (fun h => by cases h)
            · have d15 : vals 15 = _ := hd 15 (by decide +kernel)
              rw [d15]
              go_simp
              refine hK _ _ rfl (Below.refl _ _) (by first | rfl | simp) (fun h => by cases h)
            · have d16 : vals 16 = _ := hd 16 (by decide +kernel)
              rw [d16]
              have hm1 := HMU.out
              go_simp
              refine hK _ _ rfl (Below.refl _ _) (by first | rfl | simp) (fun h => by cases h)
            · have d9 : vals 9 = _ := hd 9 (by decide +kernel)
              have d17 : vals 17 = _ := hd 17 (by decide +kernel)
              rw [d9, d17]
              have hwr : IntKind.i64.wrap (1 + (mt : Int) + (mu : Int)) = 1 + (mt : Int) + (mu : Int) := by rw [IntKind.wrap_i64]; omega
              go_simp
              refine hK _ _ rfl (Below.refl _ _) (by first | rfl | simp) (fun h => by cases h)
            · have d0 : vals 0 = _ := hd 0 (by decide +kernel)
              have d18 : vals 18 = _ := hd 18 (by decide +kernel)
              rw [d0, d18]
              have hwr : IntKind.i64.wrap ((m1 : Int) + (1 + (mt : Int) + (mu : Int))) = (m1 : Int) + (1 + (mt : Int) + (mu : Int)) := by rw [IntKind.wrap_i64]; omega
              go_simp
              refine hK _ _ rfl (Below.refl _ _) (by first | rfl | simp) (fun h => by cases h)
           case hfin1 =>
            intro vals wr hS hP hne
            have ez_19 : vals 19 = _ := hP 19 (by decide)
            try dsimp only
            rw [ez_19]
            refine wpAny_ready (rs := [20]) (by kernel_rfl) (by simp) (AllReady.cons rfl (fun KC hK => ?_) AllReady.nil)
            go_simp
            refine hK _ _ ?_
            clear hK KC
            refine wpAny_done (by kernel_rfl) ?_ _
            go_wp2
            have HBg := Lib.hid (below_two HB.out hS)
            clear hS hP hne
            go_roundw
            case rel => exact ⟨j0 + 1, m1 + (1 + mt + mu), by first | rfl | (go_num), by go_num, hjl, by omega, HSn, HBg⟩
            case measure => simp [intOf]; omega
       · obtain rfl : n1 = j0 := by omega
         have HBf := Lib.hid (below_two HB2.out HB.out)
         have HRf : Hid ((m1 ≤ 6000 → sizeS (ds.take (k0 + 1)) = m1) ∧ (6000 < m1 → v = true)) := by
          have h1 := HS.out
          rw [HN1.out, List.take_length] at h1
          refine ⟨fun _ => by rw [HSN2.out, h1], fun h => ?_⟩
          rw [← HV.out]
          exact decide_eq_true (by have h2 := HSN2.out; have h3 := HLE.out; omega)
         clear HS HB
         go_wp2
         go_roundw
         case rel => exact ⟨k0 + 1, m1, rfl, by go_num, hlt, by omega, HRf, HBf⟩
         case measure => simp [intOf]; omega
  · obtain rfl : n = k0 := by omega
    have HVf : Hid (v = decide (6000 < m)) := by
     show _ = _
     rcases Nat.lt_or_ge 6000 m with h6 | h6
     · rw [HS.out.2 h6, decide_eq_true h6]
     · have h1 := HS.out.1 h6
       rw [HN.out, List.take_length] at h1
       rw [← HV.out]
       unfold largeS
       rw [h1]
    have eb : decide ((6000 : Int) < (m : Int)) = v := by rw [HVf.out, decide_eq_decide]; omega
    have eb2 : decide (6000 < m) = v := HVf.out.symm
    clear HVf
    go_wp2
    go_ret
    exact ⟨rfl, HB.out⟩
end Go.Proofs.YtannifhcjcbkcaaGreatDoor

namespace Go.Proofs.YtannifhcjcbkcaaGreatDoor
open Go.RowKit Limb
set_option linter.unusedVariables false
inductive Fm where
 | lit : ByteArray → ByteArray → Fm
 | ref : ByteArray → Fm
 | two : Int → Fm → Fm → Fm
 | neg : Fm → Fm
 | pow : Int → Fm → Fm
def Fm.nds : Fm → List Nd
 | .lit s u => [⟨1, 0, 0, 0, s, u, 0⟩]
 | .ref s => [⟨2, 0, 0, 0, s, ⟨#[]⟩, 0⟩]
 | .two k a b => joinN k a.nds b.nds 0
 | .neg a => overN 7 0 a.nds 0
 | .pow j a => overN 8 j a.nds 0
def Fm.kind : Fm → Int
 | .lit _ _ => 1
 | .ref _ => 2
 | .two k _ _ => k
 | .neg _ => 7
 | .pow _ _ => 8
def Fm.Ok : Fm → Prop
 | .lit s u => litGood (bytesOf s) = true ∧ unitOk u = true
 | .ref s => isNam (bytesOf s) = true
 | .two k a b => twoK k = true ∧ a.Ok ∧ b.Ok
 | .neg a => a.Ok
 | .pow j a => -64 ≤ j ∧ j ≤ 64 ∧ a.Ok
def Fm.size : Fm → Nat
 | .lit _ _ => 1
 | .ref _ => 1
 | .two _ a b => a.size + b.size + 1
 | .neg a => a.size + 1
 | .pow _ a => a.size + 1
theorem Fm.len : ∀ f : Fm, f.nds.length = f.size
 | .lit _ _ => rfl
 | .ref _ => rfl
 | .two k a b => by unfold Fm.nds joinN Fm.size; rw [List.length_append, List.length_append, List.length_map, a.len, b.len]; rfl
 | .neg a => by unfold Fm.nds overN Fm.size; rw [List.length_append, a.len]; rfl
 | .pow j a => by unfold Fm.nds overN Fm.size; rw [List.length_append, a.len]; rfl
theorem Fm.pos (f : Fm) : 1 ≤ f.size := by cases f <;> simp [Fm.size]
theorem shift_shift (c d : Nat) (x : Nd) : shiftN d (shiftN c x) = shiftN (c + d) x := by
 by_cases h2 : twoK x.k = true
 · rw [shiftN_two h2, shiftN_two (by exact h2), shiftN_two h2]
   simp only [Nd.mk.injEq, true_and, and_true]
   constructor <;> omega
 · by_cases h1 : oneK x.k = true
   · rw [shiftN_one h1, shiftN_one (by exact h1), shiftN_one h1]
     simp only [Nd.mk.injEq, true_and, and_true]
     omega
   · have h2' : twoK x.k = false := by simpa using h2
     have h1' : oneK x.k = false := by simpa using h1
     rw [shiftN_leaf h2' h1', shiftN_leaf h2' h1', shiftN_leaf h2' h1']
def flatR : List Fm → List Nd
 | [] => []
 | f :: r => flatR r ++ f.nds.map (shiftN (flatR r).length)
def ChOk (o : List Nat) : List Fm → Prop
 | [] => True
 | f :: r => o.getD ((flatR (f :: r)).length - 1) 0 = (flatR r).length ∧ ChOk o r
theorem flat_len (f : Fm) (r : List Fm) : (flatR (f :: r)).length = (flatR r).length + f.size := by
 show (flatR r ++ f.nds.map _).length = _
 rw [List.length_append, List.length_map, f.len]
theorem ChOk.snoc {o : List Nat} (s : Nat) : ∀ {fs : List Fm}, ChOk o fs → (flatR fs).length ≤ o.length → ChOk (o ++ [s]) fs
 | [], _, _ => trivial
 | f :: r, h, hl => by
  obtain ⟨h1, h2⟩ := h
  rw [flat_len] at hl
  have hp := f.pos
  refine ⟨?_, h2.snoc s (by omega)⟩
  rw [getD_snoc_lt (by rw [flat_len]; omega)]; exact h1
def Stk (P : List Nd) (o : List Nat) (fs : List Fm) : Prop := P.map bareN = flatR fs ∧ o.length = P.length ∧ ChOk o fs ∧ ∀ f ∈ fs, f.Ok
theorem Stk.step {P : List Nd} {o : List Nat} {fs : List Fm} {x : Nd} {s : Nat} (h : Stk P o fs) (hs : stepB o x = some s) : ∃ gs, Stk (P ++ [x]) (o ++ [s]) gs := by
 obtain ⟨h1, h2, h3, h4⟩ := h
 have hlen : (flatR fs).length = P.length := by rw [← h1, List.length_map]
 obtain ⟨hf, _⟩ := stepB_cases hs
 have hst : startN o x = some s := by unfold stepB at hs; rw [if_pos hf] at hs; exact hs
 have hmap : (P ++ [x]).map bareN = flatR fs ++ [bareN x] := by rw [List.map_append, h1]; rfl
 have hol : (o ++ [s]).length = (P ++ [x]).length := by rw [List.length_append, List.length_append, h2]; rfl
 rcases fitsN_kinds hf with hk | hk | hk | hk
 · -- a literal
   have hs2 := stepB_leaf (o := o) hf (.inl hk)
   rw [hs2] at hs; injection hs with hs; subst hs
   obtain ⟨k, a, b, n, t, u, p⟩ := x
   have hk' : k = 1 := hk
   subst hk'
   unfold fitsN at hf
   rw [if_pos rfl] at hf
   simp only [Bool.and_eq_true, decide_eq_true_eq] at hf
   obtain ⟨⟨⟨⟨rfl, rfl⟩, rfl⟩, g1⟩, g2⟩ := hf
   have hsh : (Fm.lit t u).nds.map (shiftN (flatR fs).length) = [bareN ⟨1, 0, 0, 0, t, u, p⟩] := by
    show [shiftN _ _] = _
    rw [shiftN_leaf rfl rfl]; rfl
   refine ⟨.lit t u :: fs, ?_, hol, ⟨?_, h3.snoc _ (by omega)⟩, fun f hf => ?_⟩
   · rw [hmap]; show _ = flatR fs ++ _; rw [hsh]
   · rw [flat_len]
     show (o ++ [o.length]).getD ((flatR fs).length + 1 - 1) 0 = _
     rw [Nat.add_sub_cancel, hlen, ← h2, getD_snoc_eq]
   · rcases List.mem_cons.1 hf with rfl | hf
     · exact ⟨g1, g2⟩
     · exact h4 f hf
 · -- a name
   have hs2 := stepB_leaf (o := o) hf (.inr hk)
   rw [hs2] at hs; injection hs with hs; subst hs
   obtain ⟨k, a, b, n, t, u, p⟩ := x
   have hk' : k = 2 := hk
   subst hk'
   unfold fitsN at hf
   rw [if_neg (by show ¬ (2 : Int) = 1; decide), if_pos rfl] at hf
   simp only [Bool.and_eq_true, decide_eq_true_eq] at hf
   obtain ⟨⟨⟨⟨rfl, rfl⟩, rfl⟩, g1⟩, g2⟩ := hf
   have hu : u = ⟨#[]⟩ := by
    have h0 : u.data.size = 0 := g1
    have h9 : u.data = #[] := Array.eq_empty_of_size_eq_zero h0
    cases u; exact congrArg ByteArray.mk h9
   subst hu
   have hsh : (Fm.ref t).nds.map (shiftN (flatR fs).length) = [bareN ⟨2, 0, 0, 0, t, ⟨#[]⟩, p⟩] := by
    show [shiftN _ _] = _
    rw [shiftN_leaf rfl rfl]; rfl
   refine ⟨.ref t :: fs, ?_, hol, ⟨?_, h3.snoc _ (by omega)⟩, fun f hf => ?_⟩
   · rw [hmap]; show _ = flatR fs ++ _; rw [hsh]
   · rw [flat_len]
     show (o ++ [o.length]).getD ((flatR fs).length + 1 - 1) 0 = _
     rw [Nat.add_sub_cancel, hlen, ← h2, getD_snoc_eq]
   · rcases List.mem_cons.1 hf with rfl | hf
     · exact g2
     · exact h4 f hf
 · -- two children
   have h36 := twoK_iff.1 hk
   unfold startN at hst
   rw [if_neg (by omega), if_neg (by omega)] at hst
   cases hb : endN o x.b o.length with
   | none => rw [hb] at hst; cases hst
   | some sb =>
    rw [hb] at hst
    dsimp only at hst
    obtain ⟨j, e1, e2, e3⟩ := endN_some hb
    obtain ⟨i, e4, e5, e6⟩ := endN_some hst
    obtain ⟨k, a, b, n, t, u, p⟩ := x
    dsimp only at e1 e4
    have hk2 : twoK k = true := hk
    unfold fitsN at hf
    rw [if_neg (by show ¬ k = 1; have : 3 ≤ k := h36.1; omega), if_neg (by show ¬ k = 2; have : 3 ≤ k := h36.1; omega), if_pos hk] at hf
    simp only [Bool.and_eq_true, decide_eq_true_eq] at hf
    obtain ⟨⟨rfl, g1⟩, g2⟩ := hf
    have ht : t = ⟨#[]⟩ := by cases t; exact congrArg ByteArray.mk (Array.eq_empty_of_size_eq_zero g1)
    have hu : u = ⟨#[]⟩ := by cases u; exact congrArg ByteArray.mk (Array.eq_empty_of_size_eq_zero g2)
    subst ht hu
    cases fs with
    | nil => have h9 : P.length = 0 := by rw [← hlen]; rfl
             omega
    | cons f r =>
     obtain ⟨c1, c2⟩ := h3
     have hfl := flat_len f r
     have hj : (flatR (f :: r)).length - 1 = j := by omega
     rw [hj, ← e3] at c1
     cases r with
     | nil => have h9 : (flatR []).length = 0 := rfl
              omega
     | cons g r =>
      obtain ⟨c3, c4⟩ := c2
      have hgl := flat_len g r
      have hi : (flatR (g :: r)).length - 1 = i := by omega
      rw [hi, ← e6] at c3
      have hfp := f.pos
      have hgp := g.pos
      have hnode : bareN ⟨k, a, b, 0, ⟨#[]⟩, ⟨#[]⟩, p⟩ = shiftN (flatR r).length ⟨k, (g.nds.length : Int) - 1, (g.nds.length : Int) + (f.nds.length : Int) - 1, 0, ⟨#[]⟩, ⟨#[]⟩, 0⟩ := by
       rw [shiftN_two hk2]
       unfold bareN
       simp only [Nd.mk.injEq, true_and, and_true]
       rw [g.len, f.len]
       constructor <;> omega
      refine ⟨.two k g f :: r, ?_, hol, ⟨?_, ?_⟩, fun y hy => ?_⟩
      · rw [hmap, hnode]
        show (flatR r ++ g.nds.map _) ++ f.nds.map _ ++ _ = flatR r ++ (joinN k g.nds f.nds 0).map _
        unfold joinN
        rw [List.map_append, List.map_append, List.map_map, List.append_assoc, List.append_assoc, List.append_assoc]
        congr 2
        congr 1
        · refine List.map_congr_left fun y _ => ?_
          show _ = shiftN _ (shiftN _ y)
          rw [shift_shift, hgl, g.len, Nat.add_comm]
      · have e9 : (flatR (.two k g f :: r)).length - 1 = o.length := by rw [flat_len]; show (flatR r).length + (g.size + f.size + 1) - 1 = _; omega
        rw [e9, getD_snoc_eq]; omega
      · exact c4.snoc s (by omega)
      · rcases List.mem_cons.1 hy with rfl | hy
        · exact ⟨hk2, h4 g (by simp), h4 f (by simp)⟩
        · exact h4 y (by simp [hy])
 · -- one child
   have hk1 : oneK x.k = true := oneK_iff.2 hk
   unfold startN at hst
   rw [if_neg (by omega), if_pos hk] at hst
   obtain ⟨j, e1, e2, e3⟩ := endN_some hst
   cases fs with
   | nil => have h9 : P.length = 0 := by rw [← hlen]; rfl
            omega
   | cons f r =>
    obtain ⟨c1, c2⟩ := h3
    have hfl := flat_len f r
    have hfp := f.pos
    have hj : (flatR (f :: r)).length - 1 = j := by omega
    rw [hj, ← e3] at c1
    obtain ⟨k, a, b, n, t, u, p⟩ := x
    dsimp only at e1 hk hk1
    have fin : ∀ (g : Fm), g.nds = overN k n f.nds 0 → g.size = f.size + 1 → g.Ok → bareN ⟨k, a, b, n, t, u, p⟩ = ⟨k, a, 0, n, ⟨#[]⟩, ⟨#[]⟩, 0⟩ → ∃ gs, Stk (P ++ [⟨k, a, b, n, t, u, p⟩]) (o ++ [s]) gs := by
     intro g hg hsz hok hx
     have hnode : (⟨k, a, 0, n, ⟨#[]⟩, ⟨#[]⟩, 0⟩ : Nd) = shiftN (flatR r).length ⟨k, (f.nds.length : Int) - 1, 0, n, ⟨#[]⟩, ⟨#[]⟩, 0⟩ := by
      rw [shiftN_one hk1]
      simp only [Nd.mk.injEq, true_and, and_true]
      rw [f.len]; omega
     refine ⟨g :: r, ?_, hol, ⟨?_, c2.snoc s (by omega)⟩, fun y hy => ?_⟩
     · rw [hmap, hx, hnode]
       show (flatR r ++ f.nds.map _) ++ _ = flatR r ++ g.nds.map _
       rw [hg]
       unfold overN
       rw [List.map_append, List.append_assoc]; rfl
     · have e9 : (flatR (g :: r)).length - 1 = o.length := by rw [flat_len, hsz]; omega
       rw [e9, getD_snoc_eq]; omega
     · rcases List.mem_cons.1 hy with rfl | hy
       · exact hok
       · exact h4 y (by simp [hy])
    unfold fitsN at hf
    rcases hk with rfl | rfl
    · rw [if_neg (by show ¬ (7 : Int) = 1; decide), if_neg (by show ¬ (7 : Int) = 2; decide), if_neg (by show ¬ twoK 7 = true; decide), if_pos rfl] at hf
      simp only [Bool.and_eq_true, decide_eq_true_eq] at hf
      obtain ⟨⟨⟨rfl, rfl⟩, g1⟩, g2⟩ := hf
      have ht : t = ⟨#[]⟩ := by cases t; exact congrArg ByteArray.mk (Array.eq_empty_of_size_eq_zero g1)
      have hu : u = ⟨#[]⟩ := by cases u; exact congrArg ByteArray.mk (Array.eq_empty_of_size_eq_zero g2)
      subst ht hu
      exact fin (.neg f) rfl rfl (h4 f (by simp)) rfl
    · rw [if_neg (by show ¬ (8 : Int) = 1; decide), if_neg (by show ¬ (8 : Int) = 2; decide), if_neg (by show ¬ twoK 8 = true; decide), if_neg (by show ¬ (8 : Int) = 7; decide), if_pos rfl] at hf
      simp only [Bool.and_eq_true, decide_eq_true_eq] at hf
      obtain ⟨⟨⟨⟨rfl, g1⟩, g2⟩, g3⟩, g4⟩ := hf
      have ht : t = ⟨#[]⟩ := by cases t; exact congrArg ByteArray.mk (Array.eq_empty_of_size_eq_zero g1)
      have hu : u = ⟨#[]⟩ := by cases u; exact congrArg ByteArray.mk (Array.eq_empty_of_size_eq_zero g2)
      subst ht hu
      exact fin (.pow n f) rfl rfl ⟨g3, g4, h4 f (by simp)⟩ rfl
theorem Stk.all {us : List Nd} : ∀ {P : List Nd} {o : List Nat} {fs : List Fm} {q : List Nat}, Stk P o fs → begF (some o) us = some q → ∃ gs, Stk (P ++ us) q gs := by
 induction us with
 | nil => intro P o fs q h hb; injection hb with hb; subst hb; exact ⟨fs, by rw [List.append_nil]; exact h⟩
 | cons x r ih =>
  intro P o fs q h hb
  obtain ⟨s, h1, h2⟩ := begF_cons hb
  obtain ⟨gs, h3⟩ := h.step h1
  obtain ⟨hs, h4⟩ := ih h3 h2
  exact ⟨hs, by rw [List.append_assoc] at h4; exact h4⟩
theorem good_fm {ts : List Nd} (h : goodT ts = true) : ∃ f : Fm, f.Ok ∧ ts.map bareN = f.nds ∧ f.size = ts.length := by
 obtain ⟨h1, h2, o, hb, hol, hlow, h0⟩ := good_all h
 obtain ⟨fs, k1, k2, k3, k4⟩ := Stk.all (P := []) (o := []) (fs := []) ⟨rfl, rfl, trivial, fun f hf => by cases hf⟩ hb
 rw [List.nil_append] at k1 k2
 cases fs with
 | nil => have h9 := congrArg List.length k1; rw [List.length_map] at h9; have h10 : (flatR []).length = 0 := rfl; omega
 | cons f r =>
  have h9 := congrArg List.length k1
  rw [List.length_map] at h9
  rw [flat_len] at h9
  have hc := k3.1
  rw [show (flatR (f :: r)).length - 1 = ts.length - 1 by rw [flat_len]; omega, getD_one (by omega) 0 1, h0] at hc
  have hr : flatR r = [] := List.eq_nil_of_length_eq_zero hc.symm
  refine ⟨f, k4 f (by simp), ?_, by omega⟩
  rw [k1]
  show flatR r ++ f.nds.map _ = _
  rw [hr, List.nil_append]
  exact map_shift0 f.nds
end Go.Proofs.YtannifhcjcbkcaaGreatDoor

namespace Go.Proofs.YtannifhcjcbkcaaGreatDoor
open Go.RowKit Limb
set_option linter.unusedVariables false
def sumK (k : Int) : Bool := decide (k = 3) || decide (k = 4)
def sgK (k : Int) : Nat := if k = 3 then 43 else if k = 4 then 45 else if k = 5 then 42 else 47
def leafF (f : Fm) : Bool := decide (f.kind = 1) || decide (f.kind = 2)
theorem isNam_word {l : List Nat} (h : isNam l = true) : isWdB l = true := by unfold isNam at h; rw [Bool.and_eq_true] at h; exact h.1
theorem size_zero_nil {u : ByteArray} (h : u.size = 0) : u = ⟨#[]⟩ := by cases u; exact congrArg ByteArray.mk (Array.eq_empty_of_size_eq_zero h)
end Go.Proofs.YtannifhcjcbkcaaGreatDoor

namespace Go.Proofs.YtannifhcjcbkcaaGreatDoor
open Go.RowKit Limb
set_option linter.unusedVariables false
def lexG (a : Nat) (l : List Nat) : LR := lexR (l.length + 1) a l
theorem lexT_G (l : List Nat) : lexT l = lexG 0 l := rfl
theorem lexG_nil (a : Nat) : lexG a [] = .ok [] := rfl
theorem lexG_tok {c : Nat} {r s : List Nat} {k n : Nat} (h : lexS c r = .tok k s n) (a : Nat) : lexG a (c :: r) = consL (k, s, a) (lexG (a + n) ((c :: r).drop n)) := by
 have hl := lexS_len.2 k s n h
 unfold lexG
 conv => lhs; unfold lexR
 rw [h]
 show consL (k, s, a) (lexR (c :: r).length (a + n) ((c :: r).drop n)) = _
 rw [lexR_fuel (c :: r).length (((c :: r).drop n).length + 1) _ _ (by rw [List.length_drop, List.length_cons]; omega) (by omega)]
theorem isSg_not {c : Nat} (h : isSg c = true) : isBl c = false ∧ c ≠ 35 ∧ isLt c = false ∧ isDig c = false ∧ c ≠ 91 := by
 unfold isSg at h
 simp only [List.contains_cons, List.contains_nil, Bool.or_false, Bool.or_eq_true, beq_iff_eq] at h
 rcases h with rfl | rfl | rfl | rfl | rfl | rfl | rfl | rfl | rfl | rfl <;> decide
theorem lexG_sg {c : Nat} (h : isSg c = true) (a : Nat) (l : List Nat) : lexG a (c :: l) = consL (3, [c], a) (lexG (a + 1) l) := by
 obtain ⟨h1, h2, h3, h4, h5⟩ := isSg_not h
 have hs : lexS c l = .tok 3 [c] 1 := by
  unfold lexS
  rw [if_neg (by rw [h1]; decide), if_neg h2, if_neg (by rw [h3]; decide), if_neg (by rw [h4]; decide), if_neg h5, if_pos h]
 exact lexG_tok hs a
def StopD (l : List Nat) : Prop := l = [] ∨ ∃ d q, l = d :: q ∧ isDig d = false ∧ d ≠ 46 ∧ isLt d = false
theorem litGood_len {w : List Nat} (h : litGood w = true) : litLen w = w.length := (litGood_iff.1 h).2.2
theorem lexG_num {w l : List Nat} (h : litGood w = true) (hl : StopD l) (a : Nat) : lexG a (w ++ l) = consL (2, w, a) (lexG (a + w.length) l) := by
 obtain ⟨ww, f, x, ho, e⟩ := good_mk h
 have hww := ho.whole
 cases w with
 | nil => have := (litGood_iff.1 h).1; simp at this
 | cons c r =>
  have hc : isDig c = true := by
   cases ww with
   | nil => exact absurd rfl hww.2
   | cons c' w' =>
    unfold litMk at e
    simp only [List.cons_append] at e
    injection e with e1 _
    rw [e1]
    exact List.all_eq_true.1 hww.1 c' (by simp)
  have hlen := (litGood_iff.1 h).2.1
  have hll : litLen (c :: (r ++ l)) = (c :: r).length := by
   rcases hl with rfl | ⟨d, q, rfl, h1, h2, h3⟩
   · rw [List.append_nil]; exact litGood_len h
   · rw [← List.cons_append]
     refine litLen_more h q ⟨h1, h2, ?_⟩
     rintro rfl; exact absurd h3 (by decide)
  have hnot : isBl c = false ∧ c ≠ 35 ∧ isLt c = false := by
   have h48 : 48 ≤ c ∧ c ≤ 57 := by unfold isDig at hc; simpa using hc
   refine ⟨?_, by omega, ?_⟩
   · unfold isBl; simp; omega
   · unfold isLt; simp; omega
  have hs : lexS c (r ++ l) = .tok 2 (c :: r) (c :: r).length := by
   unfold lexS
   rw [if_neg (by rw [hnot.1]; decide), if_neg hnot.2.1, if_neg (by rw [hnot.2.2]; decide), if_pos hc, hll, ← List.cons_append, List.take_left, List.drop_left, if_neg]
   rintro (h1 | h1)
   · omega
   · rcases hl with rfl | ⟨d, q, rfl, k1, k2, k3⟩
     · cases h1
     · have h9 : (isLt d || decide (d = 46)) = true := h1
       rw [k3, decide_eq_false k2] at h9; cases h9
  rw [List.cons_append, lexG_tok hs, ← List.cons_append, List.drop_left]
end Go.Proofs.YtannifhcjcbkcaaGreatDoor

namespace Go.Proofs.YtannifhcjcbkcaaGreatDoor
open Go.RowKit Limb
set_option linter.unusedVariables false
def brkX (p : Bool) (l : List Nat) : List Nat := if p = true then 40 :: (l ++ [41]) else l
def unX (u : ByteArray) : List Nat := if u.size = 0 then [] else 32 :: 91 :: (bytesOf u ++ [93])
def sgX (k : Int) : List Nat := if sumK k = true then [32, sgK k, 32] else [sgK k]
def Fm.txt : Fm → List Nat
 | .lit s u => bytesOf s ++ unX u
 | .ref s => bytesOf s
 | .two k a b => brkX (!sumK k && sumK a.kind) a.txt ++ (sgX k ++ brkX (if sumK k = true then sumK b.kind else twoK b.kind) b.txt)
 | .neg a => 45 :: brkX (twoK a.kind) a.txt
 | .pow j a => brkX (!leafF a) a.txt ++ 94 :: zT j
abbrev TkA : Tk → Tk → Prop := TkR fun _ _ => True
def Rd (l : List Nat) (ts : List Tk) (S : List Nat → Prop) : Prop := ∀ a r, S r → ∃ us, lexG a (l ++ r) = appL us (lexG (a + l.length) r) ∧ All2 TkA us ts
theorem consL_app (t : Tk) (r : LR) : consL t r = appL [t] r := by cases r <;> rfl
theorem tka (k : Nat) (s : List Nat) (p q : Nat) : TkA (k, s, p) (k, s, q) := ⟨rfl, rfl, trivial⟩
theorem Rd.sg {c : Nat} (h : isSg c = true) (S : List Nat → Prop) : Rd [c] [(3, [c], 0)] S := fun a r _ => ⟨[(3, [c], a)], by rw [List.cons_append, List.nil_append, lexG_sg h, consL_app]; rfl, .one (tka _ _ _ _)⟩
theorem Rd.num {w : List Nat} (h : litGood w = true) : Rd w [(2, w, 0)] StopD := fun a r hr => ⟨[(2, w, a)], by rw [lexG_num h hr a, consL_app], .one (tka _ _ _ _)⟩
theorem unit_all {u : ByteArray} (h : unitOk u = true) : (bytesOf u).all inUn = true ∧ u.size ≤ 200 := by
 unfold unitOk at h
 rw [Bool.and_eq_true, decide_eq_true_eq, List.all_eq_true] at h
 refine ⟨?_, h.1⟩
 rw [List.all_eq_true]
 intro c hc
 have := h.2 c hc
 unfold inUn
 simpa [not_or] using this
theorem Rd.whole {l : List Nat} {ts : List Tk} (h : Rd l ts StopD) : ∃ us, lexT l = .ok us ∧ All2 TkA us ts := by
 obtain ⟨us, h1, h2⟩ := h 0 [] (.inl rfl)
 rw [List.append_nil, lexG_nil] at h1
 refine ⟨us, ?_, h2⟩
 rw [lexT_G, h1]
 show LR.ok (us ++ []) = _
 rw [List.append_nil]
theorem le_refl (L : Lim) : L.le L := ⟨Nat.le_refl _, Nat.le_refl _, Nat.le_refl _⟩
theorem brkX_bytes {l : List Nat} (h : Bytes l) (p : Bool) : Bytes (brkX p l) := by
 cases p with
 | false => exact h
 | true =>
  intro c hc
  unfold brkX at hc
  simp only [if_true, List.mem_cons, List.mem_append, List.not_mem_nil, or_false] at hc
  rcases hc with rfl | hc | rfl
  · decide
  · exact h c hc
  · decide
theorem bytes_app {l m : List Nat} (h : Bytes l) (k : Bytes m) : Bytes (l ++ m) := fun c hc => (List.mem_append.1 hc).elim (h c) (k c)
theorem bytes_con {c : Nat} {l : List Nat} (h : c < 256) (k : Bytes l) : Bytes (c :: l) := fun d hd => (List.mem_cons.1 hd).elim (fun e => e ▸ h) (k d)
theorem txt_bytes : ∀ f : Fm, Bytes f.txt
 | .lit s u => by
  refine bytes_app (bytes_bytesOf s) ?_
  unfold unX
  split
  · exact fun c hc => by cases hc
  · exact bytes_con (by decide) (bytes_con (by decide) (bytes_app (bytes_bytesOf u) (bytes_con (by decide) fun c hc => by cases hc)))
 | .ref s => bytes_bytesOf s
 | .two k a b => by
  refine bytes_app (brkX_bytes (txt_bytes a) _) (bytes_app ?_ (brkX_bytes (txt_bytes b) _))
  have hs : sgK k < 256 := by
   unfold sgK
   repeat' split
   all_goals decide
  unfold sgX
  split
  · exact bytes_con (by decide) (bytes_con hs (bytes_con (by decide) fun c hc => by cases hc))
  · exact bytes_con hs fun c hc => by cases hc
 | .neg a => bytes_con (by decide) (brkX_bytes (txt_bytes a) _)
 | .pow j a => bytes_app (brkX_bytes (txt_bytes a) _) (bytes_con (by decide) (zT_bytes j))
end Go.Proofs.YtannifhcjcbkcaaGreatDoor

namespace Go.Proofs.YtannifhcjcbkcaaGreatDoor
open Go.RowKit Limb
set_option linter.unusedVariables false
end Go.Proofs.YtannifhcjcbkcaaGreatDoor

namespace Go.Proofs.YtannifhcjcbkcaaGreatDoor
open Go.RowKit Limb
set_option linter.unusedVariables false
abbrev PrT := List (List Nat × Int)
def prAt (P : PrT) (c : Int) : List Nat × Int := P.getD c.toNat ([], 0)
def prX (P : PrT) (x : Nd) : List Nat :=
 if x.k = 1 then bytesOf x.t ++ unX x.u
 else if x.k = 2 then bytesOf x.t
 else if twoK x.k = true then brkX (!sumK x.k && sumK (prAt P x.a).2) (prAt P x.a).1 ++ (sgX x.k ++ brkX (if sumK x.k = true then sumK (prAt P x.b).2 else twoK (prAt P x.b).2) (prAt P x.b).1)
 else if x.k = 7 then 45 :: brkX (twoK (prAt P x.a).2) (prAt P x.a).1
 else brkX (!(decide ((prAt P x.a).2 = 1) || decide ((prAt P x.a).2 = 2))) (prAt P x.a).1 ++ 94 :: zT x.n
def prS (P : PrT) (x : Nd) : List Nat × Int := (prX P x, x.k)
def prF (P : PrT) : List Nd → PrT
 | [] => P
 | x :: r => prF (P ++ [prS P x]) r
theorem prF_app (P : PrT) (a b : List Nd) : prF P (a ++ b) = prF (prF P a) b := by induction a generalizing P with
 | nil => rfl
 | cons x r ih => exact ih _
theorem prF_len (ts : List Nd) : ∀ P : PrT, (prF P ts).length = P.length + ts.length := by induction ts with
 | nil => intro P; rfl
 | cons x r ih => intro P; show (prF (P ++ [prS P x]) r).length = _; rw [ih, List.length_append, List.length_cons]; simp; omega
theorem prF_bare (ts : List Nd) : ∀ P : PrT, prF P (ts.map bareN) = prF P ts := by induction ts with
 | nil => intro P; rfl
 | cons x r ih => intro P; show prF (P ++ [prS P (bareN x)]) (r.map bareN) = prF (P ++ [prS P x]) r; rw [ih]; rfl
theorem prF_next {ts : List Nd} {i : Nat} {x : Nd} (hx : ts[i]? = some x) : prF [] (ts.take (i + 1)) = prF [] (ts.take i) ++ [prS (prF [] (ts.take i)) x] := by
 rw [List.take_add_one, hx, prF_app]; rfl
theorem prAt_of {P Q : PrT} {c : Int} {j : Nat} {v : List Nat × Int} (hc : c = ((P.length + j : Nat) : Int)) (hj : Q[j]? = some v) (R : PrT) : prAt (P ++ Q ++ R) c = v := by
 unfold prAt
 rw [hc, Int.toNat_natCast, List.getD_eq_getElem?_getD, List.append_assoc, List.getElem?_append_right (by omega), Nat.add_sub_cancel_left, List.getElem?_append_left (List.getElem?_eq_some_iff.1 hj).1, hj]; rfl
theorem prF_fm : ∀ (f : Fm), f.Ok → ∀ P : PrT, ∃ Q, prF P (f.nds.map (shiftN P.length)) = P ++ Q ∧ Q.length = f.size ∧ Q[f.size - 1]? = some (f.txt, f.kind) ∧ ∀ v ∈ Q, v.1.length ≤ f.txt.length
 | .lit s u, _, P => by
  refine ⟨[((Fm.lit s u).txt, 1)], ?_, rfl, rfl, fun v hv => by rw [List.mem_singleton.1 hv]; exact Nat.le_refl _⟩
  show prF P [shiftN _ _] = _
  rw [shiftN_leaf rfl rfl]; rfl
 | .ref s, _, P => by
  refine ⟨[((Fm.ref s).txt, 2)], ?_, rfl, rfl, fun v hv => by rw [List.mem_singleton.1 hv]; exact Nat.le_refl _⟩
  show prF P [shiftN _ _] = _
  rw [shiftN_leaf rfl rfl]; rfl
 | .two k a b, h, P => by
  obtain ⟨Qa, a1, a2, a3, a4⟩ := prF_fm a h.2.1 P
  obtain ⟨Qb, b1, b2, b3, b4⟩ := prF_fm b h.2.2 (P ++ Qa)
  have hk := h.1
  have h36 := twoK_iff.1 hk
  have pa := a.pos
  have pb := b.pos
  have hla : (P ++ Qa).length = P.length + a.nds.length := by rw [List.length_append, a2, a.len]
  refine ⟨Qa ++ Qb ++ [((Fm.two k a b).txt, k)], ?_, ?_, ?_, ?_⟩
  · show prF P ((joinN k a.nds b.nds 0).map _) = _
    unfold joinN
    rw [List.map_append, List.map_append, List.map_map, prF_app, prF_app, a1]
    have e : b.nds.map (shiftN P.length ∘ shiftN a.nds.length) = b.nds.map (shiftN (P ++ Qa).length) := by
     refine List.map_congr_left fun y _ => ?_
     show shiftN _ (shiftN _ y) = _
     rw [shift_shift, hla, Nat.add_comm]
    rw [e, b1]
    show prF (P ++ Qa ++ Qb) [shiftN _ _] = _
    rw [shiftN_two hk]
    show P ++ Qa ++ Qb ++ [prS _ _] = _
    have e1 : prAt (P ++ Qa ++ Qb) ((a.nds.length : Int) - 1 + (P.length : Int)) = (a.txt, a.kind) := prAt_of (by rw [a.len]; omega) a3 Qb
    have e2 : prAt (P ++ Qa ++ Qb) ((a.nds.length : Int) + (b.nds.length : Int) - 1 + (P.length : Int)) = (b.txt, b.kind) := by
     have := prAt_of (P := P ++ Qa) (Q := Qb) (c := (a.nds.length : Int) + (b.nds.length : Int) - 1 + (P.length : Int)) (j := b.size - 1) (by rw [hla, b.len]; omega) b3 []
     rwa [List.append_nil] at this
    have e3 : prS (P ++ Qa ++ Qb) ⟨k, (a.nds.length : Int) - 1 + (P.length : Int), (a.nds.length : Int) + (b.nds.length : Int) - 1 + (P.length : Int), 0, ⟨#[]⟩, ⟨#[]⟩, 0⟩ = ((Fm.two k a b).txt, k) := by
     unfold prS prX
     dsimp only
     rw [if_neg (by omega), if_neg (by omega), if_pos hk, e1, e2]; rfl
    exact (congrArg (fun v => P ++ Qa ++ Qb ++ [v]) e3).trans (by simp)
  · rw [List.length_append, List.length_append, a2, b2]; rfl
  · show (Qa ++ Qb ++ [_])[a.size + b.size + 1 - 1]? = _
    rw [List.getElem?_append_right (by rw [List.length_append, a2, b2]; omega), List.length_append, a2, b2, show a.size + b.size + 1 - 1 - (a.size + b.size) = 0 by omega]; rfl
  · have ht : a.txt.length ≤ (Fm.two k a b).txt.length ∧ b.txt.length ≤ (Fm.two k a b).txt.length := by
     show _ ≤ (_ ++ (_ ++ _) : List Nat).length ∧ _ ≤ (_ ++ (_ ++ _) : List Nat).length
     have hb : ∀ p l, l.length ≤ (brkX p l).length := fun p l => by cases p with
      | false => exact Nat.le_refl _
      | true => show _ ≤ (40 :: (l ++ [41])).length; simp; omega
     have h1 := hb (!sumK k && sumK a.kind) a.txt
     have h2 := hb (if sumK k = true then sumK b.kind else twoK b.kind) b.txt
     simp only [List.length_append]
     omega
    intro v hv
    rcases List.mem_append.1 hv with hv | hv
    · rcases List.mem_append.1 hv with hv | hv
      · have := a4 v hv; omega
      · have := b4 v hv; omega
    · rw [List.mem_singleton.1 hv]; exact Nat.le_refl _
 | .neg a, h, P => by
  obtain ⟨Qa, a1, a2, a3, a4⟩ := prF_fm a h P
  have pa := a.pos
  refine ⟨Qa ++ [((Fm.neg a).txt, 7)], ?_, ?_, ?_, ?_⟩
  · show prF P ((overN 7 0 a.nds 0).map _) = _
    unfold overN
    rw [List.map_append, prF_app, a1]
    show prF (P ++ Qa) [shiftN _ _] = _
    rw [shiftN_one (show oneK 7 = true by decide)]
    show P ++ Qa ++ [prS _ _] = _
    have e1 : prAt (P ++ Qa) ((a.nds.length : Int) - 1 + (P.length : Int)) = (a.txt, a.kind) := by
     have := prAt_of (P := P) (Q := Qa) (c := (a.nds.length : Int) - 1 + (P.length : Int)) (j := a.size - 1) (by rw [a.len]; omega) a3 []
     rwa [List.append_nil] at this
    have e3 : prS (P ++ Qa) ⟨7, (a.nds.length : Int) - 1 + (P.length : Int), 0, 0, ⟨#[]⟩, ⟨#[]⟩, 0⟩ = ((Fm.neg a).txt, 7) := by
     unfold prS prX
     dsimp only
     rw [if_neg (by decide), if_neg (by decide), if_neg (by decide), if_pos rfl, e1]; rfl
    exact (congrArg (fun v => P ++ Qa ++ [v]) e3).trans (by simp)
  · rw [List.length_append, a2]; rfl
  · show (Qa ++ [_])[a.size + 1 - 1]? = _
    rw [List.getElem?_append_right (by rw [a2]; omega), a2, show a.size + 1 - 1 - a.size = 0 by omega]; rfl
  · have ht : a.txt.length ≤ (Fm.neg a).txt.length := by
     show _ ≤ (45 :: brkX _ a.txt : List Nat).length
     cases twoK a.kind with
     | false => simp [brkX]
     | true => simp [brkX]; omega
    intro v hv
    rcases List.mem_append.1 hv with hv | hv
    · have := a4 v hv; omega
    · rw [List.mem_singleton.1 hv]; exact Nat.le_refl _
 | .pow j a, h, P => by
  obtain ⟨Qa, a1, a2, a3, a4⟩ := prF_fm a h.2.2 P
  have pa := a.pos
  refine ⟨Qa ++ [((Fm.pow j a).txt, 8)], ?_, ?_, ?_, ?_⟩
  · show prF P ((overN 8 j a.nds 0).map _) = _
    unfold overN
    rw [List.map_append, prF_app, a1]
    show prF (P ++ Qa) [shiftN _ _] = _
    rw [shiftN_one (show oneK 8 = true by decide)]
    show P ++ Qa ++ [prS _ _] = _
    have e1 : prAt (P ++ Qa) ((a.nds.length : Int) - 1 + (P.length : Int)) = (a.txt, a.kind) := by
     have := prAt_of (P := P) (Q := Qa) (c := (a.nds.length : Int) - 1 + (P.length : Int)) (j := a.size - 1) (by rw [a.len]; omega) a3 []
     rwa [List.append_nil] at this
    have e3 : prS (P ++ Qa) ⟨8, (a.nds.length : Int) - 1 + (P.length : Int), 0, j, ⟨#[]⟩, ⟨#[]⟩, 0⟩ = ((Fm.pow j a).txt, 8) := by
     unfold prS prX
     dsimp only
     rw [if_neg (by decide), if_neg (by decide), if_neg (by decide), if_neg (by decide), e1]; rfl
    exact (congrArg (fun v => P ++ Qa ++ [v]) e3).trans (by simp)
  · rw [List.length_append, a2]; rfl
  · show (Qa ++ [_])[a.size + 1 - 1]? = _
    rw [List.getElem?_append_right (by rw [a2]; omega), a2, show a.size + 1 - 1 - a.size = 0 by omega]; rfl
  · have ht : a.txt.length ≤ (Fm.pow j a).txt.length := by
     show _ ≤ (brkX _ a.txt ++ _ : List Nat).length
     cases leafF a with
     | false => simp [brkX]; omega
     | true => simp [brkX]
    intro v hv
    rcases List.mem_append.1 hv with hv | hv
    · have := a4 v hv; omega
    · rw [List.mem_singleton.1 hv]; exact Nat.le_refl _
theorem prF_tree {ts : List Nd} {f : Fm} (hf : f.Ok) (h : ts.map bareN = f.nds) (hl : f.size = ts.length) : (prF [] ts).length = ts.length ∧ (prF [] ts)[ts.length - 1]? = some (f.txt, f.kind) ∧ ∀ v ∈ prF [] ts, v.1.length ≤ f.txt.length := by
 obtain ⟨Q, q1, q2, q3, q4⟩ := prF_fm f hf []
 have e : f.nds.map (shiftN ([] : PrT).length) = f.nds := map_shift0 f.nds
 rw [e, List.nil_append, ← h, prF_bare] at q1
 rw [q1]
 exact ⟨by rw [q2, hl], by rw [← hl]; exact q3, q4⟩
def wtN (x : Nd) : Nat := x.t.size + x.u.size + 8
theorem txt_len : ∀ f : Fm, f.Ok → f.txt.length ≤ (f.nds.map wtN).sum
 | .lit s u, _ => by
  show (bytesOf s ++ unX u).length ≤ s.size + u.size + 8 + 0
  unfold unX
  split
  · rw [List.append_nil, length_bytesOf]; omega
  · rw [List.length_append, length_bytesOf]
    simp [length_bytesOf]; omega
 | .ref s, _ => by
  show (bytesOf s).length ≤ s.size + _ + 8 + 0
  rw [length_bytesOf]; omega
 | .two k a b, h => by
  have h1 := txt_len a h.2.1
  have h2 := txt_len b h.2.2
  have hb : ∀ p l, (brkX p l).length ≤ l.length + 2 := fun p l => by cases p with
   | false => show l.length ≤ _; omega
   | true => show (40 :: (l ++ [41])).length ≤ _; simp
  have h3 := hb (!sumK k && sumK a.kind) a.txt
  have h4 := hb (if sumK k = true then sumK b.kind else twoK b.kind) b.txt
  have h5 : (sgX k).length ≤ 3 := by unfold sgX; split <;> simp
  show (_ ++ (_ ++ _) : List Nat).length ≤ ((joinN k a.nds b.nds 0).map wtN).sum
  unfold joinN
  rw [List.map_append, List.map_append, List.sum_append, List.sum_append, List.map_map]
  have e : b.nds.map (wtN ∘ shiftN a.nds.length) = b.nds.map wtN := List.map_congr_left fun y _ => by
   show wtN (shiftN _ y) = wtN y
   unfold wtN shiftN
   split
   · rfl
   · split <;> rfl
  rw [e]
  have e2 : ([⟨k, (a.nds.length : Int) - 1, (a.nds.length : Int) + (b.nds.length : Int) - 1, 0, ⟨#[]⟩, ⟨#[]⟩, ((0 : Nat) : Int)⟩].map wtN).sum = 8 := rfl
  rw [e2, List.length_append, List.length_append]
  have h6 : (sgX k).length + 4 ≤ 8 ∨ (brkX (!sumK k && sumK a.kind) a.txt).length ≤ a.txt.length := by omega
  omega
 | .neg a, h => by
  have h1 := txt_len a h
  have hb : ∀ p l, (brkX p l).length ≤ l.length + 2 := fun p l => by cases p with
   | false => show l.length ≤ _; omega
   | true => show (40 :: (l ++ [41])).length ≤ _; simp
  have h3 := hb (twoK a.kind) a.txt
  show (45 :: _ : List Nat).length ≤ ((overN 7 0 a.nds 0).map wtN).sum
  unfold overN
  rw [List.map_append, List.sum_append, List.length_cons]
  have e2 : ([⟨7, (a.nds.length : Int) - 1, 0, 0, ⟨#[]⟩, ⟨#[]⟩, ((0 : Nat) : Int)⟩].map wtN).sum = 8 := rfl
  rw [e2]; omega
 | .pow j a, h => by
  have h1 := txt_len a h.2.2
  have hb : ∀ p l, (brkX p l).length ≤ l.length + 2 := fun p l => by cases p with
   | false => show l.length ≤ _; omega
   | true => show (40 :: (l ++ [41])).length ≤ _; simp
  have h3 := hb (!leafF a) a.txt
  have hz : (zT j).length ≤ 3 := by
   have hd : ∀ k : Fin 65, (decT k.val).length ≤ 2 := by decide +kernel
   have h64 : j.natAbs < 65 := by have := h.1; have := h.2.1; omega
   have h9 : (decT j.natAbs).length ≤ 2 := hd ⟨j.natAbs, h64⟩
   unfold zT
   split
   · rw [List.length_cons]; omega
   · omega
  show (_ ++ 94 :: zT j : List Nat).length ≤ ((overN 8 j a.nds 0).map wtN).sum
  unfold overN
  rw [List.map_append, List.sum_append, List.length_append, List.length_cons]
  have e2 : ([⟨8, (a.nds.length : Int) - 1, 0, j, ⟨#[]⟩, ⟨#[]⟩, ((0 : Nat) : Int)⟩].map wtN).sum = 8 := rfl
  rw [e2]; omega
end Go.Proofs.YtannifhcjcbkcaaGreatDoor

namespace Go.Proofs.YtannifhcjcbkcaaGreatDoor
open Go.RowKit Limb
set_option linter.unusedVariables false
theorem numH_cases {b : List Nat} (h : numH b = true) : litGood b = true ∨ ∃ k, k < b.length ∧ lim b k = 47 ∧ litGood (b.take k) = true ∧ litGood (b.drop (k + 1)) = true ∧ ∀ i, i < k → lim b i ≠ 47 := by
 unfold numH at h
 split at h
 · rename_i hk
   rw [Bool.and_eq_true] at h
   have ht : b.take (b.takeWhile (· ≠ 47)).length = b.takeWhile (· ≠ 47) := take_whileL b
   refine .inr ⟨(b.takeWhile (· ≠ 47)).length, hk, ?_, by rw [ht]; exact h.1, h.2, fun i hi e => ?_⟩
   · have h9 := drop_lim hk
     have := while_next h9
     simpa using this
   · have h1 : lim (b.takeWhile (· ≠ 47)) i = lim b i := by
      rw [← ht]
      unfold lim
      rw [List.getD_eq_getElem?_getD, List.getD_eq_getElem?_getD, List.getElem?_take_of_lt hi]
     have hm : lim (b.takeWhile (· ≠ 47)) i ∈ b.takeWhile (· ≠ 47) := by
      unfold lim
      rw [List.getD_eq_getElem?_getD, List.getElem?_eq_getElem hi]
      exact List.getElem_mem hi
     have := while_mem _ hm
     rw [h1, e] at this
     exact absurd this (by decide)
 · exact .inl h
theorem numG_cases {s : List Nat} (h : numG s = true) : (∃ r, s = 45 :: r ∧ numH r = true) ∨ (∃ c r, s = c :: r ∧ c ≠ 45 ∧ numH s = true) := by
 cases s with
 | nil => exact absurd h (by decide)
 | cons c r =>
  unfold numG at h
  by_cases hc : c = 45
  · have h2 : (if c = 45 then numH r else numH (c :: r)) = true := h
    rw [if_pos hc] at h2
    exact .inl ⟨r, by rw [hc], h2⟩
  · have h2 : (if c = 45 then numH r else numH (c :: r)) = true := h
    rw [if_neg hc] at h2
    exact .inr ⟨c, r, rfl, hc, h2⟩
theorem unitG_facts {u : List Nat} (h : unitG u = true) : Bytes u ∧ u.length ≤ 200 ∧ u.all inUn = true := by
 unfold unitG at h
 simp only [Bool.and_eq_true, decide_eq_true_eq] at h
 exact ⟨fun c hc => by have := List.all_eq_true.1 h.2 c hc; simpa using this, h.1.1, h.1.2⟩
end Go.Proofs.YtannifhcjcbkcaaGreatDoor

namespace Go.Proofs.YtannifhcjcbkcaaGreatDoor
open Go.RowKit Limb
set_option linter.unusedVariables false
def txtT (ts : List Nd) : List Nat := ((prF [] ts).getD (ts.length - 1) ([], 0)).1
theorem txtT_fm {ts : List Nd} {f : Fm} (hf : f.Ok) (h : ts.map bareN = f.nds) (hl : f.size = ts.length) : txtT ts = f.txt := by
 unfold txtT
 rw [List.getD_eq_getElem?_getD, (prF_tree hf h hl).2.1]; rfl
def unP (u : List Nat) : List Nat := if u = [] then [] else 32 :: (91 :: (u ++ [93]))
def inP (u : List Nat) : List Nat := if u = [] then [] else 32 :: ([105, 110] ++ 32 :: (91 :: (u ++ [93])))
def wrdK (k : Int) : List Nat :=
 if k = 1 then [117, 110, 105, 116] else if k = 2 then [115, 111, 117, 114, 99, 101] else if k = 3 then [99, 111, 118] else if k = 4 then [108, 101, 116] else [111, 117, 116, 112, 117, 116]
def restL (d : Dc) : List Nat :=
 if d.k = 1 then 61 :: 32 :: (d.nu ++ unP d.un)
 else if d.k = 2 then 61 :: 32 :: (d.nu ++ (unP d.un ++ 32 :: 58 :: 32 :: d.va))
 else if d.k = 3 then d.ot ++ 32 :: 61 :: 32 :: d.nu
 else if d.k = 4 then 61 :: 32 :: txtT d.tr
 else 61 :: 32 :: (txtT d.tr ++ (inP d.un ++ 32 :: 58 :: 32 :: zT d.pl))
def lineL (d : Dc) : List Nat := wrdK d.k ++ 32 :: (d.nm ++ 32 :: (restL d ++ [32, 59, 10]))
def linesL (ds : List Dc) : List Nat := ds.flatMap lineL
theorem good_trD {d : Dc} (h : goodD d = true) : goodT d.tr = true ∨ d.tr = [] := by
 unfold goodD at h
 rw [Bool.and_eq_true] at h
 have h := h.2
 split at h
 · simp only [Bool.and_eq_true, decide_eq_true_eq] at h
   exact .inr (List.eq_nil_of_length_eq_zero h.1.2)
 · split at h
   · simp only [Bool.and_eq_true, decide_eq_true_eq] at h
     exact .inr (List.eq_nil_of_length_eq_zero h.1.2)
   · split at h
     · simp only [Bool.and_eq_true, decide_eq_true_eq] at h
       exact .inr (List.eq_nil_of_length_eq_zero h.1.2)
     · split at h
       · simp only [Bool.and_eq_true, decide_eq_true_eq] at h
         exact .inl h.1.1.1.1.1
       · split at h
         · simp only [Bool.and_eq_true, decide_eq_true_eq] at h
           exact .inl h.1.1.1.1.1
         · cases h
end Go.Proofs.YtannifhcjcbkcaaGreatDoor

namespace Go.Proofs.YtannifhcjcbkcaaGreatDoor
open Go.RowKit Limb
set_option linter.unusedVariables false
def NoL (l : List Nat) : Prop := ∀ c ∈ l, c ≠ 10
theorem NoL.nil : NoL [] := fun c h => by cases h
theorem NoL.con {c : Nat} {l : List Nat} (h : c ≠ 10) (k : NoL l) : NoL (c :: l) := fun d hd => (List.mem_cons.1 hd).elim (fun e => e ▸ h) (k d)
theorem NoL.app {l m : List Nat} (h : NoL l) (k : NoL m) : NoL (l ++ m) := fun c hc => (List.mem_append.1 hc).elim (h c) (k c)
theorem NoL.lit {l : List Nat} (h : litGood l = true) : NoL l := by
 intro c hc
 obtain ⟨i, hi, rfl⟩ := List.getElem_of_mem hc
 have hd : lim l i = l[i] := by unfold lim; rw [List.getD_eq_getElem?_getD, List.getElem?_eq_getElem hi]; rfl
 have := good_bytes h hi hd
 rcases this with h | h | h | h <;> omega
theorem NoL.numH {b : List Nat} (h : numH b = true) : NoL b := by
 rcases numH_cases h with h | ⟨k, h1, h2, h3, h4, _⟩
 · exact .lit h
 · have e : b = b.take k ++ 47 :: b.drop (k + 1) := by
    have h5 := drop_lim h1
    rw [h2] at h5
    rw [← h5, List.take_append_drop]
   rw [e]
   exact (NoL.lit h3).app (.con (by decide) (.lit h4))
theorem NoL.num {s : List Nat} (h : numG s = true) : NoL s := by
 rcases numG_cases h with ⟨r, rfl, h⟩ | ⟨c, r, rfl, _, h⟩
 · exact .con (by decide) (.numH h)
 · exact .numH h
theorem NoL.nam {s : List Nat} (h : isNam s = true) : NoL s := by
 have hw := isNam_word h
 cases s with
 | nil => exact .nil
 | cons c r =>
  unfold isWdB at hw
  simp only [Bool.and_eq_true] at hw
  have lw : ∀ c, isLw c = true → c ≠ 10 := fun c h e => by
   subst e; exact absurd h (by decide)
  intro d hd
  rcases List.mem_cons.1 hd with rfl | hd
  · exact lw _ (by unfold isLw; rw [hw.1.1]; rfl)
  · exact lw d (List.all_eq_true.1 hw.1.2 d hd)
theorem NoL.un {u : List Nat} (h : u.all inUn = true) : NoL u := fun c hc e => by
 subst e
 exact absurd (List.all_eq_true.1 h 10 hc) (by decide)
theorem NoL.brk {l : List Nat} (h : NoL l) (p : Bool) : NoL (brkX p l) := by
 cases p with
 | false => exact h
 | true => exact .con (by decide) (h.app (.con (by decide) .nil))
theorem NoL.zT (j : Int) : NoL (zT j) := by
 have hd : NoL (decT j.natAbs) := fun c hc e => by
  subst e
  have := List.all_eq_true.1 (decT_dig j.natAbs) 10 hc
  exact absurd this (by decide)
 unfold Proofs.YtannifhcjcbkcaaGreatDoor.zT
 split
 · exact .con (by decide) hd
 · exact hd
theorem NoL.txt : ∀ f : Fm, f.Ok → NoL f.txt
 | .lit s u, h => by
  refine (NoL.lit h.1).app ?_
  unfold unX
  split
  · exact .nil
  · exact .con (by decide) (.con (by decide) ((NoL.un (unit_all h.2).1).app (.con (by decide) .nil)))
 | .ref s, h => NoL.nam h
 | .two k a b, h => by
  refine ((NoL.txt a h.2.1).brk _).app (NoL.app ?_ ((NoL.txt b h.2.2).brk _))
  have hs : sgK k ≠ 10 := by
   unfold sgK
   repeat' split
   all_goals decide
  unfold sgX
  split
  · exact .con (by decide) (.con hs (.con (by decide) .nil))
  · exact .con hs .nil
 | .neg a, h => .con (by decide) ((NoL.txt a h).brk _)
 | .pow j a, h => ((NoL.txt a h.2.2).brk _).app (.con (by decide) (.zT j))
theorem NoL.tree {ts : List Nd} (h : goodT ts = true) : NoL (txtT ts) := by
 obtain ⟨f, h1, h2, h3⟩ := good_fm h
 rw [txtT_fm h1 h2 h3]
 exact .txt f h1
theorem NoL.unP {u : List Nat} (h : u.all inUn = true) : NoL (unP u) := by
 unfold Proofs.YtannifhcjcbkcaaGreatDoor.unP
 split
 · exact .nil
 · exact .con (by decide) (.con (by decide) ((NoL.un h).app (.con (by decide) .nil)))
theorem NoL.inP {u : List Nat} (h : u.all inUn = true) : NoL (inP u) := by
 unfold Proofs.YtannifhcjcbkcaaGreatDoor.inP
 split
 · exact .nil
 · exact .con (by decide) (.con (by decide) (.con (by decide) (.con (by decide) (.con (by decide) ((NoL.un h).app (.con (by decide) .nil))))))
theorem NoL.rest {d : Dc} (hg : goodD d = true) : NoL (restL d) ∧ NoL d.nm := by
 unfold goodD at hg
 rw [Bool.and_eq_true, Bool.and_eq_true] at hg
 obtain ⟨⟨hnm, hun⟩, hg⟩ := hg
 refine ⟨?_, .nam hnm⟩
 have hu := (unitG_facts hun).2.2
 unfold restL
 split at hg
 · rename_i h1
   simp only [Bool.and_eq_true] at hg
   rw [if_pos h1]
   exact .con (by decide) (.con (by decide) ((NoL.num hg.1.1.1.1.1).app (.unP hu)))
 · rename_i h1
   rw [if_neg h1]
   split at hg
   · rename_i h2
     simp only [Bool.and_eq_true] at hg
     rw [if_pos h2]
     exact .con (by decide) (.con (by decide) ((NoL.num hg.1.1.1.1).app ((NoL.unP hu).app (.con (by decide) (.con (by decide) (.con (by decide) (.num hg.1.1.1.2)))))))
   · rename_i h2
     rw [if_neg h2]
     split at hg
     · rename_i h3
       simp only [Bool.and_eq_true] at hg
       rw [if_pos h3]
       exact (NoL.nam hg.1.1.1.1.2).app (.con (by decide) (.con (by decide) (.con (by decide) (.num hg.1.1.1.1.1))))
     · rename_i h3
       rw [if_neg h3]
       split at hg
       · rename_i h4
         simp only [Bool.and_eq_true] at hg
         rw [if_pos h4]
         exact .con (by decide) (.con (by decide) (.tree hg.1.1.1.1.1))
       · rename_i h4
         rw [if_neg h4]
         split at hg
         · simp only [Bool.and_eq_true] at hg
           exact .con (by decide) (.con (by decide) ((NoL.tree hg.1.1.1.1.1).app ((NoL.inP hu).app (.con (by decide) (.con (by decide) (.con (by decide) (.zT _)))))))
         · cases hg
theorem NoL.word (k : Int) : NoL (wrdK k) := by
 unfold wrdK
 repeat' split
 all_goals (intro c hc e; subst e; revert hc; decide)
def bodyL (d : Dc) : List Nat := wrdK d.k ++ 32 :: (d.nm ++ 32 :: (restL d ++ [32, 59]))
theorem lineL_body (d : Dc) : lineL d = bodyL d ++ [10] := by unfold lineL bodyL; simp
theorem NoL.body {d : Dc} (hg : goodD d = true) : NoL (bodyL d) := by
 obtain ⟨h1, h2⟩ := NoL.rest hg
 exact (NoL.word d.k).app (.con (by decide) (h2.app (.con (by decide) (h1.app (.con (by decide) (.con (by decide) .nil))))))
def offL (ds : List Dc) (k : Nat) : Nat := (linesL (ds.take k)).length
theorem linesL_app (a b : List Dc) : linesL (a ++ b) = linesL a ++ linesL b := by unfold linesL; rw [List.flatMap_append]
theorem linesL_at {ds : List Dc} {k : Nat} {d : Dc} (h : ds[k]? = some d) : linesL ds = linesL (ds.take k) ++ (lineL d ++ linesL (ds.drop (k + 1))) := by
 have h1 : ds = ds.take k ++ (d :: ds.drop (k + 1)) := by
  obtain ⟨hk, rfl⟩ := List.getElem?_eq_some_iff.1 h
  rw [← List.drop_eq_getElem_cons hk, List.take_append_drop]
 conv => lhs; rw [h1]
 rw [linesL_app]; rfl
theorem offL_next {ds : List Dc} {k : Nat} {d : Dc} (h : ds[k]? = some d) : offL ds (k + 1) = offL ds k + (bodyL d).length + 1 := by
 unfold offL
 rw [List.take_add_one, h, linesL_app, List.length_append]
 show _ + (lineL d ++ []).length = _
 rw [List.append_nil, lineL_body, List.length_append]; rfl
theorem offL_all (ds : List Dc) : offL ds ds.length = (linesL ds).length := by unfold offL; rw [List.take_length]
theorem lines_byte {ds : List Dc} {k : Nat} {d : Dc} (h : ds[k]? = some d) {j : Nat} (hj : j ≤ (bodyL d).length) : (linesL ds)[offL ds k + j]? = (bodyL d ++ [10])[j]? := by
 rw [linesL_at h, List.getElem?_append_right (by unfold offL; omega)]
 have e : offL ds k + j - (linesL (ds.take k)).length = j := by unfold offL; omega
 rw [e, lineL_body, List.getElem?_append_left (by rw [List.length_append]; show j < _ + 1; omega)]
theorem lines_nl {ds : List Dc} {k : Nat} {d : Dc} (h : ds[k]? = some d) (hg : goodD d = true) {j c : Nat} (hj : j ≤ (bodyL d).length) (hc : (linesL ds)[offL ds k + j]? = some c) : (c = 10 ∧ j = (bodyL d).length) ∨ (c ≠ 10 ∧ j < (bodyL d).length) := by
 rw [lines_byte h hj] at hc
 rcases Nat.lt_or_ge j (bodyL d).length with h1 | h1
 · rw [List.getElem?_append_left h1] at hc
   exact .inr ⟨NoL.body hg c (List.mem_of_getElem? hc), h1⟩
 · obtain rfl : j = (bodyL d).length := by omega
   rw [List.getElem?_append_right (Nat.le_refl _), Nat.sub_self] at hc
   injection hc with hc
   exact .inl ⟨hc.symm, rfl⟩
theorem line_cut {ds : List Dc} {k : Nat} {d : Dc} (h : ds[k]? = some d) : ((linesL ds).drop (offL ds k)).take (bodyL d).length = bodyL d := by
 rw [linesL_at h, lineL_body]
 have e : offL ds k = (linesL (ds.take k)).length := rfl
 rw [e, List.drop_left, List.append_assoc, List.take_left]
end Go.Proofs.YtannifhcjcbkcaaGreatDoor
