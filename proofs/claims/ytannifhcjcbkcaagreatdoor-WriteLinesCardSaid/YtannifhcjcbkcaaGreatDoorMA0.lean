/- Part 0 of the texts that the statements of this seat lean on: mathematics, and what functions answer, as contracts over memory; each part says its own conditions. -/
import Derived.Orders
import Derived.Below
import Derived.Laws.Strings
import Derived.Laws.Concat
import Derived.Lib.LaidTab
import Derived.Stop.LaidErr
import Derived.RowKit
import Derived.Test.YtannifhcjcbkcaaGreatDoorRows
import Derived.WalkKit
import Derived.WalkSpells
import Derived.WalkLawsBesides
import Derived.Lib.Hide
import Derived.Laws.BitsAllLaws
import Derived.Laws.CopyOwn
import Derived.BigQuiet
import Derived.Deep.QuietTactic
import Derived.Deep.Draws
import Derived.Lib.BitFns
import Derived.Maps.AppendAt
import Derived.Laws.IdiomStrings
import Derived.RegionTactic
import Derived.BigRegion
import Derived.ChangeAlike
import Derived.Laws.Rows
import Derived.Deep.RegionWith
import Derived.Deep.RegionHeld3
import Derived.Deep.CutRange
namespace Go.Proofs.YtannifhcjcbkcaaGreatDoor.Limb
def val : List Nat → Nat
 | [] => 0
 | x :: xs => x + 4294967296 * val xs
def Small (xs : List Nat) : Prop := ∀ x ∈ xs, x < 4294967296
def limbsTo : Nat → Nat → List Nat
 | 0, _ => []
 | f + 1, n => if n = 0 then [] else (n % 4294967296) :: limbsTo f (n / 4294967296)
def limbs (n : Nat) : List Nat := limbsTo n n
theorem limbsTo_zero (f : Nat) : limbsTo f 0 = [] := by cases f <;> simp [limbsTo]
theorem limbsTo_more (f : Nat) : ∀ g n, n ≤ f → n ≤ g → limbsTo f n = limbsTo g n := by
 induction f with
 | zero => intro g n h _; obtain rfl : n = 0 := by omega
           rw [limbsTo_zero, limbsTo_zero]
 | succ f ih =>
  intro g n hf hg
  cases g with
  | zero => obtain rfl : n = 0 := by omega
            rw [limbsTo_zero, limbsTo_zero]
  | succ g =>
   rw [limbsTo, limbsTo]
   by_cases h : n = 0
   · rw [if_pos h, if_pos h]
   · rw [if_neg h, if_neg h, ih g (n / 4294967296) (by omega) (by omega)]
theorem limbs_zero : limbs 0 = [] := rfl
theorem limbs_pos {n : Nat} (h : n ≠ 0) : limbs n = (n % 4294967296) :: limbs (n / 4294967296) := by
 cases n with
 | zero => exact absurd rfl h
 | succ m =>
  rw [limbs, limbsTo, if_neg h, limbs, limbsTo_more m ((m + 1) / 4294967296) ((m + 1) / 4294967296) (by omega) (Nat.le_refl _)]
theorem small_nil : Small [] := by intro x hx; cases hx
theorem small_cons {x : Nat} {xs : List Nat} : Small (x :: xs) ↔ x < 4294967296 ∧ Small xs := by simp [Small]
theorem small_take {xs : List Nat} (h : Small xs) (k : Nat) : Small (xs.take k) := fun x hx => h x (List.mem_of_mem_take hx)
def lim (xs : List Nat) (k : Nat) : Nat := xs.getD k 0
theorem small_limbs (n : Nat) : Small (limbs n) := by
 induction n using Nat.strongRecOn with
 | ind n ih =>
  by_cases h : n = 0
  · subst h; rw [limbs_zero]; exact small_nil
  · rw [limbs_pos h, small_cons]; exact ⟨by omega, ih _ (by omega)⟩
theorem val_limbs (n : Nat) : val (limbs n) = n := by
 induction n using Nat.strongRecOn with
 | ind n ih =>
  by_cases h : n = 0
  · subst h; rw [limbs_zero]; rfl
  · rw [limbs_pos h, val, ih _ (by omega)]; omega
theorem val_lt {xs : List Nat} (h : Small xs) : val xs < 4294967296 ^ xs.length := by
 induction xs with
 | nil => simp [val]
 | cons x xs ih =>
  rw [small_cons] at h
  have := ih h.2
  rw [val, List.length_cons, Nat.pow_succ]
  have : val xs + 1 ≤ 4294967296 ^ xs.length := this
  omega
theorem length_limbs_le {n k : Nat} (h : n < 4294967296 ^ k) : (limbs n).length ≤ k := by
 induction k generalizing n with
 | zero => have : n = 0 := by simpa using h
           subst this; simp [limbs_zero]
 | succ k ih =>
  by_cases h0 : n = 0
  · subst h0; simp [limbs_zero]
  · rw [limbs_pos h0, List.length_cons]
    have : n / 4294967296 < 4294967296 ^ k := by rw [Nat.div_lt_iff_lt_mul (by decide)]; rwa [Nat.pow_succ] at h
    have := ih this
    omega
end Go.Proofs.YtannifhcjcbkcaaGreatDoor.Limb

namespace Go.Proofs.YtannifhcjcbkcaaGreatDoor.Limb
end Go.Proofs.YtannifhcjcbkcaaGreatDoor.Limb

namespace Go.Proofs.YtannifhcjcbkcaaGreatDoor.Limb
end Go.Proofs.YtannifhcjcbkcaaGreatDoor.Limb

namespace Go.Proofs.YtannifhcjcbkcaaGreatDoor.Limb
end Go.Proofs.YtannifhcjcbkcaaGreatDoor.Limb

namespace Go.Proofs.YtannifhcjcbkcaaGreatDoor
open Go.RowKit
set_option linter.unusedVariables false
section
variable {P : Program} {ops : Array Oper} {Q : Exit → Act → World → Prop} {md : Region.Mode}
def left (listed : Array Bool) : Nat → Nat
 | 0 => 0
 | k + 1 => left listed k + (if listed.getD k false = true then 0 else 1)
theorem left_zero {listed : Array Bool} : ∀ {m}, left listed m = 0 → ∀ k, k < m → listed.getD k false = true
 | 0, _, k, hk => by omega
 | m + 1, h, k, hk => by
  unfold left at h
  split at h
  · rename_i h1
    rcases Nat.lt_or_ge k m with h2 | h2
    · exact left_zero (by omega) k h2
    · obtain rfl : k = m := by omega
      exact h1
  · omega
theorem getD_same {listed : Array Bool} {i : Nat} (h : i < listed.size) (d : Bool) : (listed.setIfInBounds i true).getD i d = true := by
 simp [Array.getD_eq_getD_getElem?, h]
theorem getD_other {listed : Array Bool} {i k : Nat} (h : i ≠ k) (d : Bool) : (listed.setIfInBounds i true).getD k d = listed.getD k d := by
 simp [Array.getD_eq_getD_getElem?, h]
theorem left_same {listed : Array Bool} {i : Nat} : ∀ {m}, m ≤ i → left (listed.setIfInBounds i true) m = left listed m
 | 0, _ => rfl
 | m + 1, h => by
  unfold left
  rw [left_same (by omega), getD_other (by omega)]
theorem left_set {listed : Array Bool} {i : Nat} (hs : i < listed.size) (hi : listed.getD i false = false) : ∀ {m}, i < m → left (listed.setIfInBounds i true) m + 1 = left listed m
 | 0, h => by omega
 | m + 1, h => by
  unfold left
  rcases Nat.lt_or_ge i m with h1 | h1
  · have := left_set hs hi h1
    rw [getD_other (by omega)]
    omega
  · obtain rfl : i = m := by omega
    rw [left_same (Nat.le_refl _), getD_same hs, hi]
    simp
theorem wpAny_inv (m : Nat) (J : Array Bool → Act → World → Prop)
 (hsize : ∀ l a w, J l a w → l.size = ops.size ∧ ∀ k, m ≤ k → l.getD k false = false)
 (hm : m ≤ ops.size)
 (hback : ∀ (i : Nat) (o : Oper), i < m → ops[i]? = some o → ∀ e ∈ o.after, Region.binds md e = true → e.on < i)
 (hstep : ∀ l a w i, J l a w → i ∈ Region.ready md ops l → i < m → wpOp P ops Q i (fun a' w' => J (l.setIfInBounds i true) a' w') a w)
 (hwait : ∀ l a w i, J l a w → i ∈ Region.ready md ops l → m ≤ i → ∀ k, k < m → l.getD k false = true)
 (hfin : ∀ l a w, J l a w → (∀ k, k < m → l.getD k false = true) → wpAny P md ops Q (ops.size - m) l a w) :
 ∀ (c : Nat) (l : Array Bool) (a : Act) (w : World), left l m = c → J l a w → wpAny P md ops Q (ops.size - m + c) l a w := by
 intro c
 induction c with
 | zero => exact fun l a w hc hj => hfin l a w hj (left_zero hc)
 | succ c ih =>
  intro l a w hc hj
  obtain ⟨hs, hlater⟩ := hsize l a w hj
  have hex : ∃ k, k < m ∧ l.getD k false = false := by
   rcases Classical.em (∃ k, k < m ∧ l.getD k false = false) with h | h
   · exact h
   · exfalso
     have hall : ∀ k, k < m → l.getD k false = true := fun k hk => by
      cases hb : l.getD k false with
      | true => rfl
      | false => exact absurd ⟨k, hk, hb⟩ h
     have hz : ∀ j, j ≤ m → left l j = 0 := fun j => by
      induction j with
      | zero => exact fun _ => rfl
      | succ j ihj => exact fun hj2 => by unfold left; rw [ihj (by omega), hall j (by omega)]; rfl
     have := hz m (Nat.le_refl _)
     omega
  refine ⟨fun hr => ?_, fun i hi => ?_⟩
  · exfalso
    -- the least one that has not come up may come up
    obtain ⟨k0, hk0, hb0⟩ := hex
    have hleast : ∀ n, (∃ k, k ≤ n ∧ k < m ∧ l.getD k false = false) → ∃ k, k < m ∧ l.getD k false = false ∧ ∀ j, j < k → l.getD j false = true := by
     intro n
     induction n with
     | zero =>
      rintro ⟨k, h1, h2, h3⟩
      obtain rfl : k = 0 := by omega
      exact ⟨0, h2, h3, fun j hj2 => by omega⟩
     | succ n ihn =>
      rintro ⟨k, h1, h2, h3⟩
      rcases Classical.em (∃ k, k ≤ n ∧ k < m ∧ l.getD k false = false) with h | h
      · exact ihn h
      · refine ⟨k, h2, h3, fun j hj2 => ?_⟩
        cases hb : l.getD j false with
        | true => rfl
        | false => exact absurd ⟨j, by omega, by omega, hb⟩ h
    obtain ⟨k, hk, hb, hmin⟩ := hleast k0 ⟨k0, Nat.le_refl _, hk0, hb0⟩
    have hko : k < ops.size := by omega
    have : k ∈ Region.ready md ops l := mem_ready.2 ⟨by
     simp only [Array.getD_eq_getD_getElem?] at hb ⊢
     rw [Array.getElem?_eq_getElem (by omega)] at hb ⊢
     simpa using hb, ops[k], Array.getElem?_eq_getElem hko, fun e he hbi => hmin _ (hback k _ hk (Array.getElem?_eq_getElem hko) e he hbi)⟩
    rw [hr] at this
    cases this
  · rcases Nat.lt_or_ge i m with h1 | h1
    · have hu : l.getD i false = false := by
       have h2 := (mem_ready.1 hi).1
       simp only [Array.getD_eq_getD_getElem?] at h2 ⊢
       rw [Array.getElem?_eq_getElem (by omega)] at h2 ⊢
       simpa using h2
      have hl := left_set (m := m) (by omega : i < l.size) hu h1
      exact wpOp_mono (fun a' w' hj2 => ih _ a' w' (by omega) hj2) (hstep l a w i hj hi h1)
    · exfalso
      obtain ⟨k, hk, hb⟩ := hex
      rw [hwait l a w i hj hi h1 k hk] at hb
      cases hb
def afters (ops : Array Oper) (i : Nat) : List Nat :=
 match ops[i]? with
 | some o => (o.after.toList.filter (Region.binds .any)).map fun e => e.on
 | none => []
theorem ready_after {l : Array Bool} {i e : Nat} (hi : i ∈ Region.ready .any ops l) (he : e ∈ afters ops i) : l.getD e false = true := by
 obtain ⟨_, o, ho, h⟩ := mem_ready.1 hi
 unfold afters at he
 rw [ho] at he
 obtain ⟨x, hx, rfl⟩ := List.mem_map.1 he
 obtain ⟨h1, h2⟩ := List.mem_filter.1 hx
 exact h x (by simpa using h1) h2
def anc (ops : Array Oper) : Nat → Nat → List Nat
 | 0, _ => []
 | f + 1, i => afters ops i ++ (afters ops i).flatMap (anc ops f)
theorem anc_up {l : Array Bool} (hd : ∀ k, l.getD k false = true → ∀ e ∈ afters ops k, l.getD e false = true) : ∀ (f i : Nat), (∀ e ∈ afters ops i, l.getD e false = true) → ∀ e ∈ anc ops f i, l.getD e false = true
 | 0, _, _, e, he => by cases he
 | f + 1, i, h, e, he => by
  unfold anc at he
  rcases List.mem_append.1 he with h1 | h1
  · exact h e h1
  · obtain ⟨x, hx, hy⟩ := List.mem_flatMap.1 h1
    exact anc_up hd f x (hd x (h x hx)) e hy
def isPlain : Op → Bool
 | .select _ _ => false
 | _ => true
def fill (D : Nat → Option Tmp) (vals : Nat → Value) (l : Array Bool) (a : Act) : Nat → Act
 | 0 => a
 | k + 1 => if l.getD k false = true then (fill D vals l a k).put (D k) (vals k) else fill D vals l a k
def fillAll (D : Nat → Option Tmp) (vals : Nat → Value) (a : Act) : Nat → Act
 | 0 => a
 | k + 1 => (fillAll D vals a k).put (D k) (vals k)
def upd (vals : Nat → Value) (i : Nat) (v : Value) : Nat → Value := fun k => if k = i then v else vals k
theorem put_size (a : Act) (d : Option Tmp) (v : Value) : (a.put d v).tmps.size = a.tmps.size := by
 cases d <;> simp [Act.put]
theorem put_defers2 (a : Act) (d : Option Tmp) (v : Value) : (a.put d v).defers = a.defers := by
 cases d <;> rfl
theorem put_same (a : Act) (d : Tmp) (v : Value) (h : d < a.tmps.size) : (a.put (some d) v).eval (.tmp d) = v := by
 simp [Act.put, Act.eval, Array.getD_eq_getD_getElem?, h]
theorem fill_size (D : Nat → Option Tmp) (vals : Nat → Value) (l : Array Bool) (a : Act) : ∀ m, (fill D vals l a m).tmps.size = a.tmps.size
 | 0 => rfl
 | m + 1 => by unfold fill; split <;> simp [put_size, fill_size]
theorem fillAll_size (D : Nat → Option Tmp) (vals : Nat → Value) (a : Act) : ∀ m, (fillAll D vals a m).tmps.size = a.tmps.size
 | 0 => rfl
 | m + 1 => by simp [fillAll, put_size, fillAll_size]
theorem fill_defers (D : Nat → Option Tmp) (vals : Nat → Value) (l : Array Bool) (a : Act) : ∀ m, (fill D vals l a m).defers = a.defers
 | 0 => rfl
 | m + 1 => by unfold fill; split <;> simp [put_defers2, fill_defers]
theorem fillAll_defers (D : Nat → Option Tmp) (vals : Nat → Value) (a : Act) : ∀ m, (fillAll D vals a m).defers = a.defers
 | 0 => rfl
 | m + 1 => by simp [fillAll, put_defers2, fillAll_defers]
theorem fill_all {D : Nat → Option Tmp} {vals : Nat → Value} {l : Array Bool} {a : Act} : ∀ {m}, (∀ k, k < m → l.getD k false = true) → fill D vals l a m = fillAll D vals a m
 | 0, _ => rfl
 | m + 1, h => by
  unfold fill fillAll
  rw [if_pos (h m (by omega)), fill_all fun k hk => h k (by omega)]
theorem fill_none {D : Nat → Option Tmp} {vals : Nat → Value} {l : Array Bool} {a : Act} : ∀ {m}, (∀ k, k < m → l.getD k false = false) → fill D vals l a m = a
 | 0, _ => rfl
 | m + 1, h => by
  unfold fill
  rw [if_neg (by simp [h m (by omega)]), fill_none fun k hk => h k (by omega)]
theorem fill_congr {D : Nat → Option Tmp} {vals vals' : Nat → Value} {l l' : Array Bool} {a : Act} : ∀ {m}, (∀ k, k < m → l.getD k false = l'.getD k false ∧ vals k = vals' k) → fill D vals l a m = fill D vals' l' a m
 | 0, _ => rfl
 | m + 1, h => by
  obtain ⟨h1, h2⟩ := h m (by omega)
  unfold fill
  rw [h1, h2, fill_congr fun k hk => h k (by omega)]
theorem fill_set {D : Nat → Option Tmp} {vals : Nat → Value} {l : Array Bool} {a : Act} {i : Nat} {v : Value} (hs : i < l.size) (hu : l.getD i false = false) :
 ∀ {m}, i < m → (∀ j, j < m → j ≠ i → ∀ d, D j = some d → D i ≠ some d) → (fill D vals l a m).put (D i) v = fill D (upd vals i v) (l.setIfInBounds i true) a m
 | 0, h, _ => by omega
 | m + 1, h, hd => by
  rcases Nat.lt_or_ge i m with h1 | h1
  · have ih := fill_set (D := D) (vals := vals) (a := a) (v := v) hs hu h1 fun j hj => hd j (by omega)
    unfold fill
    rw [getD_other (by omega : i ≠ m), ← ih, show upd vals i v m = vals m from if_neg (by omega)]
    split
    · exact Act.put_comm _ _ _ (hd m (by omega) (by omega))
    · rfl
  · obtain rfl : i = m := by omega
    unfold fill
    rw [if_neg (by simp [hu]), if_pos (getD_same hs _), show upd vals i v i = v from if_pos rfl]
    rw [fill_congr (vals := vals) (vals' := upd vals i v) (l := l) (l' := l.setIfInBounds i true) fun k hk => ⟨(getD_other (by omega) _).symm, (if_neg (by omega)).symm⟩]
theorem fill_eval {D : Nat → Option Tmp} {vals : Nat → Value} {l : Array Bool} {a : Act} {x : Operand} :
 ∀ {m}, (∀ k, k < m → l.getD k false = false → ∀ d, D k = some d → x ≠ .tmp d) → (fill D vals l a m).eval x = (fillAll D vals a m).eval x
 | 0, _ => rfl
 | m + 1, h => by
  have ih := fill_eval (D := D) (vals := vals) (l := l) (a := a) (x := x) (m := m) fun k hk => h k (by omega)
  unfold fill fillAll
  cases hb : l.getD m false with
  | true =>
   rw [if_pos rfl]
   by_cases hx : ∃ d, D m = some d ∧ x = .tmp d
   · obtain ⟨d, h1, rfl⟩ := hx
     rw [h1]
     simp only [Act.put, Act.eval, Array.getD_eq_getD_getElem?, Array.getElem?_setIfInBounds, fill_size, fillAll_size, if_true]
   · rw [Act.eval_put fun d h1 h2 => hx ⟨d, h1, h2⟩, Act.eval_put fun d h1 h2 => hx ⟨d, h1, h2⟩, ih]
  | false =>
   rw [if_neg (by simp), Act.eval_put (h m (by omega) hb), ih]
def okAt (ops : Array Oper) (m : Nat) (ds : List Tmp) (N : Nat) (i : Nat) : Bool :=
 match ops[i]? with
 | none => false
 | some o => o.dst == ds[i]? && decide (i < ds.length) && decide (ds.getD i 0 < N) && o.guard.isNone && isPlain o.op && (afters ops i).all (fun e => decide (e < i)) &&
  (List.range m).all (fun k => k == i || ds[k]? != ds[i]?) &&
  o.op.operands.toList.all (fun x => match x with
   | .tmp t => (List.range m).all fun k => ds[k]? != some t || (afters ops i).contains k
   | _ => true)
theorem okAt_spec {m : Nat} {ds : List Tmp} {N i : Nat} (h : okAt ops m ds N i = true) :
 ∃ o, ops[i]? = some o ∧ o.dst = some (ds.getD i 0) ∧ ds[i]? = some (ds.getD i 0) ∧ ds.getD i 0 < N ∧ o.guard = none ∧ (∀ cs b, o.op ≠ .select cs b) ∧ (∀ e ∈ afters ops i, e < i) ∧
  (∀ k, k < m → k ≠ i → ds[k]? ≠ ds[i]?) ∧ (∀ x ∈ o.op.operands, ∀ t, x = .tmp t → ∀ k, k < m → ds[k]? = some t → k ∈ afters ops i) := by
 unfold okAt at h
 cases ho : ops[i]? with
 | none => rw [ho] at h; cases h
 | some o =>
  rw [ho] at h
  simp only [Bool.and_eq_true, beq_iff_eq, decide_eq_true_eq, List.all_eq_true, Bool.or_eq_true, bne_iff_ne, List.mem_range, Option.isNone_iff_eq_none] at h
  obtain ⟨⟨⟨⟨⟨⟨⟨h1, h2⟩, h3⟩, h4⟩, h5⟩, h6⟩, h7⟩, h8⟩ := h
  have hi : ds[i]? = some (ds.getD i 0) := by simp [List.getD_eq_getElem?_getD, h2]
  refine ⟨o, rfl, h1.trans hi, hi, h3, h4, ?_, h6, fun k hk hne => (h7 k hk).resolve_left hne, ?_⟩
  · intro cs b he
    rw [he] at h5
    cases h5
  · rintro x hx t rfl k hk hd
    have := h8 _ (by simpa using hx)
    simp only [List.all_eq_true, List.mem_range, Bool.or_eq_true, bne_iff_ne, List.contains_iff_mem] at this
    exact (this k hk).resolve_left fun h => h hd
def FreeStep (P : Program) (Q : Exit → Act → World → Prop) (ops : Array Oper) (ds : List Tmp) (aF : (Nat → Value) → Act) (S : World → Prop) (Φ : Nat → Value → World → Prop) (fresh : Nat → Bool) (i : Nat) (o : Oper) : Prop :=
 ∀ (vals : Nat → Value) (w : World), S w → (∀ e ∈ afters ops i, Φ e (vals e) w) → ∀ K : Act → World → Prop,
  (∀ a' w', a'.defers = (aF vals).defers → Below w.heap.size w w' → Φ i (a'.eval (.tmp (ds.getD i 0))) w' → (fresh i = true → ∃ q, a'.eval (.tmp (ds.getD i 0)) = .pointer (some ⟨q, 0, none⟩) ∧ w.heap.size ≤ q ∧ q < w'.heap.size) → K a' w') →
  o.wp P (aF vals) w K Q
def AllAt (F : Nat → Oper → Prop) : Nat → List Oper → Nat → Prop
 | _, _, 0 => True
 | _, [], _ + 1 => True
 | k, o :: os, n + 1 => F k o ∧ AllAt F (k + 1) os n
theorem AllAt.nil {F : Nat → Oper → Prop} {k : Nat} {os : List Oper} : AllAt F k os 0 := by unfold AllAt; trivial
theorem AllAt.cons {F : Nat → Oper → Prop} {k n : Nat} {o : Oper} {os : List Oper} (h : F k o) (t : AllAt F (k + 1) os n) : AllAt F k (o :: os) (n + 1) := ⟨h, t⟩
theorem AllAt.at {F : Nat → Oper → Prop} : ∀ {k : Nat} {os : List Oper} {n : Nat}, AllAt F k os n → ∀ i, i < n → ∀ o, os[i]? = some o → F (k + i) o
 | _, _, 0, _, i, h, _, _ => by omega
 | _, [], _ + 1, _, i, _, o, ho => by cases i <;> cases ho
 | k, x :: xs, n + 1, h, 0, _, o, ho => by
  obtain rfl : x = o := by simpa using ho
  exact h.1
 | k, x :: xs, n + 1, h, i + 1, hi, o, ho => by
  have := AllAt.at h.2 i (by omega) o (by simpa using ho)
  rwa [show k + 1 + i = k + (i + 1) by omega] at this
def firsts (n m : Nat) : Array Bool := ((List.range n).map fun k => decide (k < m)).toArray
theorem firsts_eq {l : Array Bool} {n m : Nat} (hs : l.size = n) (hm : m ≤ n) (h : ∀ k, l.getD k false = decide (k < m)) : l = firsts n m := by
 apply Array.ext_getElem?
 intro k
 have := h k
 rw [show (firsts n m)[k]? = ((List.range n).map fun k => decide (k < m))[k]? from List.getElem?_toArray .., List.getElem?_map]
 rcases Nat.lt_or_ge k n with hk | hk
 · rw [List.getElem?_range hk, Array.getElem?_eq_getElem (by omega)]
   simp only [Array.getD_eq_getD_getElem?, Array.getElem?_eq_getElem (show k < l.size by omega), Option.getD_some] at this
   simp [this]
 · rw [Array.getElem?_eq_none (by omega), List.getElem?_eq_none (by simpa using hk)]
   rfl
theorem region_free {id : Nat} {a : Act} {w : World} {os : List Oper} (m r : Nat) (ds : List Tmp) (aF : (Nat → Value) → Act) (S : World → Prop) (Φ : Nat → Value → World → Prop) (fresh : Nat → Bool)
 (hm : P.follows .mixedOrders = true)
 (haF : ∀ vals, fillAll (fun k => ds[k]?) vals a m = aF vals)
 (hr : os.length = m + r)
 (hok : (List.range m).all (okAt os.toArray m ds a.tmps.size) = true)
 (hend : (List.range os.length).all (fun i => decide (i < m) || (List.range m).all fun k => (anc os.toArray 3 i).contains k) = true)
 (hQ : ∀ c (t t' : Array Value) (d : List Deferred) w, Q (.panic c) ⟨t, d⟩ w → Q (.panic c) ⟨t', d⟩ w)
 (hSb : ∀ w w', Below w.heap.size w w' → S w → S w')
 (hΦb : ∀ k v w w', Below w.heap.size w w' → Φ k v w → Φ k v w')
 (hS : S w.drew)
 (hop : AllAt (FreeStep P Q os.toArray ds aF S Φ fresh) 0 os m)
 (hfin : ∀ (vals : Nat → Value) (w : World), S w → (∀ k, k < m → Φ k (vals k) w) →
   (∀ j k, j < m → k < m → j ≠ k → fresh j = true → fresh k = true → ∀ p q, vals j = .pointer (some ⟨p, 0, none⟩) → vals k = .pointer (some ⟨q, 0, none⟩) → p ≠ q) →
   wpAny P .any os.toArray Q r (firsts (m + r) m) (aF vals) w) :
 (Code.region id os.toArray true).wp P Q a w := by
 generalize hops : os.toArray = ops at *
 have hsz0 : ops.size = m + r := by rw [← hops]; simpa using hr
 have hle : m ≤ ops.size := by omega
 replace hend : (List.range ops.size).all (fun i => decide (i < m) || (List.range m).all fun k => (anc ops 3 i).contains k) = true := by rw [hsz0, ← hr]; exact hend
 replace hop : ∀ i, i < m → ∀ o, ops[i]? = some o → FreeStep P Q ops ds aF S Φ fresh i o := fun i hi o ho => by
  have := hop.at i hi o (by rw [← hops] at ho; simpa using ho)
  rwa [Nat.zero_add] at this
 replace hfin : ∀ (vals : Nat → Value) (w : World), S w → (∀ k, k < m → Φ k (vals k) w) →
  (∀ j k, j < m → k < m → j ≠ k → fresh j = true → fresh k = true → ∀ p q, vals j = .pointer (some ⟨p, 0, none⟩) → vals k = .pointer (some ⟨q, 0, none⟩) → p ≠ q) →
  ∀ l : Array Bool, l.size = ops.size → (∀ k, l.getD k false = decide (k < m)) → wpAny P .any ops Q (ops.size - m) l (aF vals) w := fun vals w h1 h2 h3 l h4 h5 => by
  rw [firsts_eq (h4.trans hsz0) (by omega) h5, show ops.size - m = r by omega]
  exact hfin vals w h1 h2 h3
 replace hQ : ∀ c (a a' : Act) w, a.defers = a'.defers → Q (.panic c) a w → Q (.panic c) a' w := by
  rintro c ⟨t, d⟩ ⟨t', d'⟩ w he h
  obtain rfl : d = d' := he
  exact hQ c t t' d w h
 refine wp_region_any hm ?_
 have hat : ∀ i, i < m → okAt ops m ds a.tmps.size i = true := fun i hi => List.all_eq_true.1 hok i (List.mem_range.2 hi)
 have hlate : ∀ i, m ≤ i → i < ops.size → ∀ k, k < m → k ∈ anc ops 3 i := fun i h1 h2 k hk => by
  have := List.all_eq_true.1 hend i (List.mem_range.2 h2)
  simp only [Bool.or_eq_true, decide_eq_true_eq, List.all_eq_true, List.mem_range, List.contains_iff_mem] at this
  exact (this.resolve_left (by omega)) k hk
 have hfr : ∀ (l : Array Bool), l = Array.replicate ops.size false → ∀ k, l.getD k false = false := by
  rintro l rfl k
  simp only [Array.getD_eq_getD_getElem?, Array.getElem?_replicate]
  split <;> rfl
 let J : Array Bool → Act → World → Prop := fun l a' w' => (l.size = ops.size ∧ ∀ k, m ≤ k → l.getD k false = false) ∧ S w' ∧ (∀ k, k < m → l.getD k false = true → ∀ e ∈ afters ops k, l.getD e false = true) ∧
  ∃ vals, a' = fill (fun k => ds[k]?) vals l a m ∧ (∀ k, k < m → l.getD k false = true → Φ k (vals k) w' ∧ (fresh k = true → ∃ q, vals k = .pointer (some ⟨q, 0, none⟩) ∧ q < w'.heap.size)) ∧
   (∀ j k, j < m → k < m → l.getD j false = true → l.getD k false = true → j ≠ k → fresh j = true → fresh k = true → ∀ p q, vals j = .pointer (some ⟨p, 0, none⟩) → vals k = .pointer (some ⟨q, 0, none⟩) → p ≠ q)
 have hdown : ∀ l a' w', J l a' w' → ∀ k, l.getD k false = true → ∀ e ∈ afters ops k, l.getD e false = true := fun l a' w' hj k hk => by
  rcases Nat.lt_or_ge k m with h1 | h1
  · exact hj.2.2.1 k h1 hk
  · rw [hj.1.2 k h1] at hk
    cases hk
 have hz : ∀ j, j ≤ m → left (Array.replicate ops.size false) j = j := fun j => by
  induction j with
  | zero => exact fun _ => rfl
  | succ j ihj => exact fun h => by unfold left; rw [ihj (by omega), hfr _ rfl j]; rfl
 have key := wpAny_inv (P := P) (ops := ops) (Q := Q) (md := .any) m J (fun l a' w' hj => hj.1) hle (fun i o h1 ho e he hb => ?hback) (fun l a' w' i hj hi h1 => ?hstep) (fun l a' w' i hj hi h1 k hk => ?hwait) (fun l a' w' hj hall => ?hfin)
  m (Array.replicate ops.size false) a w.drew (hz m (Nat.le_refl _)) ⟨⟨by simp, fun k _ => hfr _ rfl k⟩, hS, fun k _ h => (by rw [hfr _ rfl k] at h; cases h),
   fun _ => undef, (fill_none fun k _ => hfr _ rfl k).symm, fun k _ h => (by rw [hfr _ rfl k] at h; cases h), fun j k _ _ h => (by rw [hfr _ rfl j] at h; cases h)⟩
 · have e : ops.size - m + m = ops.size := by omega
   rw [e] at key
   exact key
 case hback =>
  obtain ⟨_, _, _, _, _, _, _, hlow, _, _⟩ := okAt_spec (hat i h1)
  refine hlow e.on ?_
  unfold afters
  rw [ho]
  exact List.mem_map.2 ⟨e, List.mem_filter.2 ⟨by simpa using he, hb⟩, rfl⟩
 case hwait =>
  have hlt : i < ops.size := by
   obtain ⟨_, o, ho, _⟩ := mem_ready.1 hi
   exact (Array.getElem?_eq_some_iff.1 ho).1
  exact anc_up (hdown l a' w' hj) 3 i (fun e he => ready_after hi he) k (hlate i h1 hlt k hk)
 case hfin =>
  obtain ⟨⟨hs, hl⟩, hSw, _, vals, rfl, hv, hp⟩ := hj
  rw [fill_all hall, haF]
  refine hfin vals w' hSw (fun k hk => (hv k hk (hall k hk)).1) (fun j k h1 h2 => hp j k h1 h2 (hall j h1) (hall k h2)) l hs fun k => ?_
  rcases Nat.lt_or_ge k m with h | h
  · rw [hall k h, decide_eq_true h]
  · rw [hl k h, decide_eq_false (by omega)]
 case hstep =>
  obtain ⟨⟨hs, hl⟩, hSw, hdn, vals, rfl, hv, hp⟩ := hj
  obtain ⟨o, ho, hdst, hdi, hlt, hg, hsel, hlow, hdist, hops⟩ := okAt_spec (hat i h1)
  have hu : l.getD i false = false := by
   have h2 := (mem_ready.1 hi).1
   have h3 : i < l.size := by omega
   simp only [Array.getD_eq_getD_getElem?] at h2 ⊢
   rw [Array.getElem?_eq_getElem h3] at h2 ⊢
   simpa using h2
  have hdep : ∀ e ∈ afters ops i, l.getD e false = true := fun e he => ready_after hi he
  have heval : ∀ x ∈ o.op.operands, (fill (fun k => ds[k]?) vals l a m).eval x = (aF vals).eval x := fun x hx => by
   rw [← haF vals]
   exact fill_eval fun k hk hk2 d hd hxd => by
    rw [hdep k (hops x hx d hxd k hk hd)] at hk2
    cases hk2
  have hrun := hop i h1 o ho vals w' hSw (fun e he => (hv e (by have := hlow e he; omega) (hdep e he)).1)
   (fun a2 w2 => a2.defers = (aF vals).defers ∧ Below w'.heap.size w' w2 ∧ Φ i (a2.eval (.tmp (ds.getD i 0))) w2 ∧ (fresh i = true → ∃ q, a2.eval (.tmp (ds.getD i 0)) = .pointer (some ⟨q, 0, none⟩) ∧ w'.heap.size ≤ q ∧ q < w2.heap.size))
   (fun a2 w2 h1 h2 h3 h4 => ⟨h1, h2, h3, h4⟩)
  have hsz : ds.getD i 0 < (aF vals).tmps.size := by rw [← haF vals, fillAll_size]; exact hlt
  have next : ∀ v w2, Below w'.heap.size w' w2 → Φ i v w2 → (fresh i = true → ∃ q, v = .pointer (some ⟨q, 0, none⟩) ∧ w'.heap.size ≤ q ∧ q < w2.heap.size) →
   J (l.setIfInBounds i true) ((fill (fun k => ds[k]?) vals l a m).put o.dst v) w2 := fun v w2 hb hphi hfresh => by
   have hne : ∀ k, k ≠ i → (l.setIfInBounds i true).getD k false = l.getD k false := fun k hk => getD_other (Ne.symm hk) _
   refine ⟨⟨by simpa using hs, fun k hk => by rw [hne k (by omega)]; exact hl k hk⟩, hSb _ _ hb hSw, fun k hk hk2 e he => ?_, upd vals i v, ?_, fun k hk hk2 => ?_, fun j k hj hk hj2 hk2 hjk fj fk p q ep eq => ?_⟩
   · by_cases hki : k = i
     · subst hki
       rw [hne e (by have := hlow e he; omega)]
       exact hdep e he
     · rw [hne k hki] at hk2
       by_cases hei : e = i
       · subst hei
         exact getD_same (by omega) _
       · rw [hne e hei]
         exact hdn k hk hk2 e he
   · rw [hdst, ← hdi]
     exact fill_set (by omega) hu h1 fun j hj hji d hd hdi2 => hdist j hj hji (hd.trans hdi2.symm)
   · by_cases hki : k = i
     · subst hki
       rw [show upd vals k v k = v from if_pos rfl]
       exact ⟨hphi, fun hf => by obtain ⟨q, h1, _, h3⟩ := hfresh hf; exact ⟨q, h1, h3⟩⟩
     · rw [hne k hki] at hk2
       rw [show upd vals i v k = vals k from if_neg hki]
       obtain ⟨h3, h4⟩ := hv k hk hk2
       exact ⟨hΦb _ _ _ _ hb h3, fun hf => by obtain ⟨q, h5, h6⟩ := h4 hf; exact ⟨q, h5, Nat.lt_of_lt_of_le h6 hb.size⟩⟩
   · by_cases hji : j = i
     · subst hji
       have hki : k ≠ j := fun h => hjk h.symm
       rw [show upd vals j v j = v from if_pos rfl] at ep
       rw [show upd vals j v k = vals k from if_neg hki] at eq
       rw [hne k hki] at hk2
       obtain ⟨q1, e1, l1, _⟩ := hfresh fj
       obtain ⟨q2, e2, l2⟩ := (hv k hk hk2).2 fk
       rw [e1] at ep
       rw [e2] at eq
       cases ep
       cases eq
       omega
     · by_cases hki : k = i
       · subst hki
         rw [show upd vals k v k = v from if_pos rfl] at eq
         rw [show upd vals k v j = vals j from if_neg hji] at ep
         rw [hne j hji] at hj2
         obtain ⟨q1, e1, l1, _⟩ := hfresh fk
         obtain ⟨q2, e2, l2⟩ := (hv j hj hj2).2 fj
         rw [e1] at eq
         rw [e2] at ep
         cases ep
         cases eq
         omega
       · rw [show upd vals i v j = vals j from if_neg hji] at ep
         rw [show upd vals i v k = vals k from if_neg hki] at eq
         rw [hne j hji] at hj2
         rw [hne k hki] at hk2
         exact hp j k hj hk hj2 hk2 hjk fj fk p q ep eq
  unfold wpOp
  rw [ho]
  simp only []
  rw [if_pos (by unfold Region.wanted; rw [hg])]
  refine .inl ?_
  unfold Oper.wp at hrun ⊢
  rw [execOp_congr o hsel heval]
  generalize (execOp (aF vals).eval o).run P w' = r at hrun ⊢
  have hdef : (aF vals).defers = (fill (fun k => ds[k]?) vals l a m).defers := by rw [← haF vals, fillAll_defers, fill_defers]
  have hput : ∀ v, ((aF vals).put o.dst v).eval (.tmp (ds.getD i 0)) = v := fun v => by rw [hdst]; exact put_same _ _ _ hsz
  cases r with
  | ok n w2 =>
   cases n <;> simp only [Oper.upon] at hrun ⊢
   case value v => rw [hput] at hrun; exact next _ _ hrun.2.1 hrun.2.2.1 hrun.2.2.2
   case skip => rw [hput] at hrun; exact next _ _ hrun.2.1 hrun.2.2.1 hrun.2.2.2
   case defer d =>
    exfalso
    have := hrun.1
    rw [put_defers2] at this
    have := congrArg List.length this
    simp at this
   case enter f args =>
    refine Calls.mono hrun fun e w3 he => ?_
    cases e with
    | returned v => simp only at he ⊢; rw [hput] at he; exact next _ _ he.2.1 he.2.2.1 he.2.2.2
    | panicked c => exact hQ _ _ _ _ hdef he
    | outgrown => exact he
   case row r args =>
    refine Rows.mono hrun fun v w3 he => ?_
    rw [hput] at he
    exact next _ _ he.2.1 he.2.2.1 he.2.2.2
  | halt x w2 =>
   cases x <;> simp only [Oper.upon] at hrun ⊢ <;> exact hQ _ _ _ _ hdef hrun
end
end Go.Proofs.YtannifhcjcbkcaaGreatDoor

namespace Go.Proofs.YtannifhcjcbkcaaGreatDoor
open Go.RowKit
set_option linter.unusedVariables false
section
variable {P : Program} {ops : Array Oper} {Q : Exit → Act → World → Prop}
def okAtG (ops : Array Oper) (m : Nat) (ds : List Tmp) (N : Nat) (i : Nat) : Bool :=
 match ops[i]? with
 | none => false
 | some o => o.dst == ds[i]? && decide (i < ds.length) && decide (ds.getD i 0 < N) && (match o.guard with | none => true | some (g, _) => (afters ops i).contains g) && isPlain o.op && (afters ops i).all (fun e => decide (e < i)) &&
  (List.range m).all (fun k => k == i || ds[k]? != ds[i]?) &&
  o.op.operands.toList.all (fun x => match x with
   | .tmp t => (List.range m).all fun k => ds[k]? != some t || (afters ops i).contains k
   | _ => true)
theorem okAtG_spec {m : Nat} {ds : List Tmp} {N i : Nat} (h : okAtG ops m ds N i = true) :
 ∃ o, ops[i]? = some o ∧ o.dst = some (ds.getD i 0) ∧ ds[i]? = some (ds.getD i 0) ∧ ds.getD i 0 < N ∧ (∀ g b, o.guard = some (g, b) → g ∈ afters ops i) ∧ (∀ cs b, o.op ≠ .select cs b) ∧ (∀ e ∈ afters ops i, e < i) ∧
  (∀ k, k < m → k ≠ i → ds[k]? ≠ ds[i]?) ∧ (∀ x ∈ o.op.operands, ∀ t, x = .tmp t → ∀ k, k < m → ds[k]? = some t → k ∈ afters ops i) := by
 unfold okAtG at h
 cases ho : ops[i]? with
 | none => rw [ho] at h; cases h
 | some o =>
  rw [ho] at h
  simp only [Bool.and_eq_true, beq_iff_eq, decide_eq_true_eq, List.all_eq_true, Bool.or_eq_true, bne_iff_ne, List.mem_range] at h
  obtain ⟨⟨⟨⟨⟨⟨⟨h1, h2⟩, h3⟩, h4⟩, h5⟩, h6⟩, h7⟩, h8⟩ := h
  have hi : ds[i]? = some (ds.getD i 0) := by simp [List.getD_eq_getElem?_getD, h2]
  refine ⟨o, rfl, h1.trans hi, hi, h3, ?_, ?_, h6, fun k hk hne => (h7 k hk).resolve_left hne, ?_⟩
  · intro g b he
    rw [he] at h4
    simpa using h4
  · intro cs b he
    rw [he] at h5
    cases h5
  · rintro x hx t rfl k hk hd
    have := h8 _ (by simpa using hx)
    simp only [List.all_eq_true, List.mem_range, Bool.or_eq_true, bne_iff_ne, List.contains_iff_mem] at this
    exact (this k hk).resolve_left fun h => h hd
def FreeStepG (P : Program) (Q : Exit → Act → World → Prop) (ops : Array Oper) (ds : List Tmp) (aF : (Nat → Value) → Act) (S : World → Prop) (Φ : Nat → Value → World → Prop) (fresh : Nat → Bool) (i : Nat) (o : Oper) : Prop :=
 ((∀ (vals : Nat → Value) (w : World), S w → (∀ e ∈ afters ops i, Φ e (vals e) w) → ∀ g b, o.guard = some (g, b) → vals g = .bool b) ∧ FreeStep P Q ops ds aF S Φ fresh i o) ∨
 (∃ g b, o.guard = some (g, b) ∧ (∀ (vals : Nat → Value) (w : World), S w → (∀ e ∈ afters ops i, Φ e (vals e) w) → vals g = .bool (!b)) ∧ (∀ w, S w → Φ i undef w) ∧ fresh i = false)
theorem FreeStepG.plain {ds : List Tmp} {aF : (Nat → Value) → Act} {S : World → Prop} {Φ : Nat → Value → World → Prop} {fresh : Nat → Bool} {i : Nat} {o : Oper} (hg : o.guard = none) (h : FreeStep P Q ops ds aF S Φ fresh i o) : FreeStepG P Q ops ds aF S Φ fresh i o :=
 .inl ⟨fun _ _ _ _ g b e => (by rw [hg] at e; cases e), h⟩
theorem FreeStepG.yes {ds : List Tmp} {aF : (Nat → Value) → Act} {S : World → Prop} {Φ : Nat → Value → World → Prop} {fresh : Nat → Bool} {i : Nat} {o : Oper} (hg : ∀ (vals : Nat → Value) (w : World), S w → (∀ e ∈ afters ops i, Φ e (vals e) w) → ∀ g b, o.guard = some (g, b) → vals g = .bool b) (h : FreeStep P Q ops ds aF S Φ fresh i o) : FreeStepG P Q ops ds aF S Φ fresh i o :=
 .inl ⟨hg, h⟩
theorem fill_at {D : Nat → Option Tmp} {vals : Nat → Value} {l : Array Bool} {a : Act} {g : Nat} {d : Tmp} (hg : l.getD g false = true) (hd : D g = some d) (hs : d < a.tmps.size) :
 ∀ {m}, g < m → (∀ k, k < m → k ≠ g → D k ≠ some d) → (fill D vals l a m).eval (.tmp d) = vals g
 | 0, h, _ => by omega
 | m + 1, h, hne => by
  unfold fill
  rcases Nat.lt_or_ge g m with h1 | h1
  · have ih := fill_at (vals := vals) hg hd hs (m := m) h1 fun k hk => hne k (by omega)
    split
    · rw [Act.eval_put fun e he1 he2 => hne m (by omega) (by omega) (by injection he2 with he2; rw [he2]; exact he1), ih]
    · exact ih
  · obtain rfl : g = m := by omega
    rw [if_pos hg, hd]
    exact put_same _ _ _ (by rw [fill_size]; exact hs)
theorem yielded_at {a : Act} {g : Nat} {d : Tmp} {b : Bool} (hd : (ops[g]?).bind (·.dst) = some d) (hs : d < a.tmps.size) (h : a.eval (.tmp d) = .bool b) : yielded ops a.tmps g = some b := by
 unfold yielded
 rw [hd]
 simp only [Option.bind_some]
 have h2 : a.tmps[d]? = some (.bool b) := by
  rw [Array.getElem?_eq_getElem hs]
  simp only [Act.eval, Array.getD_eq_getD_getElem?, Array.getElem?_eq_getElem hs, Option.getD_some] at h
  rw [h]
 rw [h2]
theorem region_freed {id : Nat} {a : Act} {w : World} {os : List Oper} (m r D : Nat) (ds : List Tmp) (aF : (Nat → Value) → Act) (S : World → Prop) (Φ : Nat → Value → World → Prop) (fresh : Nat → Bool)
 (hm : P.follows .mixedOrders = true)
 (haF : ∀ vals, fillAll (fun k => ds[k]?) vals a m = aF vals)
 (hr : os.length = m + r)
 (hok : (List.range m).all (okAtG os.toArray m ds a.tmps.size) = true)
 (hend : (List.range os.length).all (fun i => decide (i < m) || (List.range m).all fun k => (anc os.toArray D i).contains k) = true)
 (hQ : ∀ c (t t' : Array Value) (d : List Deferred) w, Q (.panic c) ⟨t, d⟩ w → Q (.panic c) ⟨t', d⟩ w)
 (hSb : ∀ w w', Below w.heap.size w w' → S w → S w')
 (hΦb : ∀ k v w w', Below w.heap.size w w' → Φ k v w → Φ k v w')
 (hS : S w.drew)
 (hop : AllAt (FreeStepG P Q os.toArray ds aF S Φ fresh) 0 os m)
 (hfin : ∀ (vals : Nat → Value) (w : World), S w → (∀ k, k < m → Φ k (vals k) w) →
   (∀ j k, j < m → k < m → j ≠ k → fresh j = true → fresh k = true → ∀ p q, vals j = .pointer (some ⟨p, 0, none⟩) → vals k = .pointer (some ⟨q, 0, none⟩) → p ≠ q) →
   wpAny P .any os.toArray Q r (firsts (m + r) m) (aF vals) w) :
 (Code.region id os.toArray true).wp P Q a w := by
 generalize hops : os.toArray = ops at *
 have hsz0 : ops.size = m + r := by rw [← hops]; simpa using hr
 have hle : m ≤ ops.size := by omega
 replace hend : (List.range ops.size).all (fun i => decide (i < m) || (List.range m).all fun k => (anc ops D i).contains k) = true := by rw [hsz0, ← hr]; exact hend
 replace hop : ∀ i, i < m → ∀ o, ops[i]? = some o → FreeStepG P Q ops ds aF S Φ fresh i o := fun i hi o ho => by
  have := hop.at i hi o (by rw [← hops] at ho; simpa using ho)
  rwa [Nat.zero_add] at this
 replace hfin : ∀ (vals : Nat → Value) (w : World), S w → (∀ k, k < m → Φ k (vals k) w) →
  (∀ j k, j < m → k < m → j ≠ k → fresh j = true → fresh k = true → ∀ p q, vals j = .pointer (some ⟨p, 0, none⟩) → vals k = .pointer (some ⟨q, 0, none⟩) → p ≠ q) →
  ∀ l : Array Bool, l.size = ops.size → (∀ k, l.getD k false = decide (k < m)) → wpAny P .any ops Q (ops.size - m) l (aF vals) w := fun vals w h1 h2 h3 l h4 h5 => by
  rw [firsts_eq (h4.trans hsz0) (by omega) h5, show ops.size - m = r by omega]
  exact hfin vals w h1 h2 h3
 replace hQ : ∀ c (a a' : Act) w, a.defers = a'.defers → Q (.panic c) a w → Q (.panic c) a' w := by
  rintro c ⟨t, d⟩ ⟨t', d'⟩ w he h
  obtain rfl : d = d' := he
  exact hQ c t t' d w h
 refine wp_region_any hm ?_
 have hat : ∀ i, i < m → okAtG ops m ds a.tmps.size i = true := fun i hi => List.all_eq_true.1 hok i (List.mem_range.2 hi)
 have hlate : ∀ i, m ≤ i → i < ops.size → ∀ k, k < m → k ∈ anc ops D i := fun i h1 h2 k hk => by
  have := List.all_eq_true.1 hend i (List.mem_range.2 h2)
  simp only [Bool.or_eq_true, decide_eq_true_eq, List.all_eq_true, List.mem_range, List.contains_iff_mem] at this
  exact (this.resolve_left (by omega)) k hk
 have hfr : ∀ (l : Array Bool), l = Array.replicate ops.size false → ∀ k, l.getD k false = false := by
  rintro l rfl k
  simp only [Array.getD_eq_getD_getElem?, Array.getElem?_replicate]
  split <;> rfl
 let J : Array Bool → Act → World → Prop := fun l a' w' => (l.size = ops.size ∧ ∀ k, m ≤ k → l.getD k false = false) ∧ S w' ∧ (∀ k, k < m → l.getD k false = true → ∀ e ∈ afters ops k, l.getD e false = true) ∧
  ∃ vals, a' = fill (fun k => ds[k]?) vals l a m ∧ (∀ k, k < m → l.getD k false = true → Φ k (vals k) w' ∧ (fresh k = true → ∃ q, vals k = .pointer (some ⟨q, 0, none⟩) ∧ q < w'.heap.size)) ∧
   (∀ j k, j < m → k < m → l.getD j false = true → l.getD k false = true → j ≠ k → fresh j = true → fresh k = true → ∀ p q, vals j = .pointer (some ⟨p, 0, none⟩) → vals k = .pointer (some ⟨q, 0, none⟩) → p ≠ q)
 have hdown : ∀ l a' w', J l a' w' → ∀ k, l.getD k false = true → ∀ e ∈ afters ops k, l.getD e false = true := fun l a' w' hj k hk => by
  rcases Nat.lt_or_ge k m with h1 | h1
  · exact hj.2.2.1 k h1 hk
  · rw [hj.1.2 k h1] at hk
    cases hk
 have hz : ∀ j, j ≤ m → left (Array.replicate ops.size false) j = j := fun j => by
  induction j with
  | zero => exact fun _ => rfl
  | succ j ihj => exact fun h => by unfold left; rw [ihj (by omega), hfr _ rfl j]; rfl
 have key := wpAny_inv (P := P) (ops := ops) (Q := Q) (md := .any) m J (fun l a' w' hj => hj.1) hle (fun i o h1 ho e he hb => ?hback) (fun l a' w' i hj hi h1 => ?hstep) (fun l a' w' i hj hi h1 k hk => ?hwait) (fun l a' w' hj hall => ?hfin)
  m (Array.replicate ops.size false) a w.drew (hz m (Nat.le_refl _)) ⟨⟨by simp, fun k _ => hfr _ rfl k⟩, hS, fun k _ h => (by rw [hfr _ rfl k] at h; cases h),
   fun _ => undef, (fill_none fun k _ => hfr _ rfl k).symm, fun k _ h => (by rw [hfr _ rfl k] at h; cases h), fun j k _ _ h => (by rw [hfr _ rfl j] at h; cases h)⟩
 · have e : ops.size - m + m = ops.size := by omega
   rw [e] at key
   exact key
 case hback =>
  obtain ⟨_, _, _, _, _, _, _, hlow, _, _⟩ := okAtG_spec (hat i h1)
  refine hlow e.on ?_
  unfold afters
  rw [ho]
  exact List.mem_map.2 ⟨e, List.mem_filter.2 ⟨by simpa using he, hb⟩, rfl⟩
 case hwait =>
  have hlt : i < ops.size := by
   obtain ⟨_, o, ho, _⟩ := mem_ready.1 hi
   exact (Array.getElem?_eq_some_iff.1 ho).1
  exact anc_up (hdown l a' w' hj) D i (fun e he => ready_after hi he) k (hlate i h1 hlt k hk)
 case hfin =>
  obtain ⟨⟨hs, hl⟩, hSw, _, vals, rfl, hv, hp⟩ := hj
  rw [fill_all hall, haF]
  refine hfin vals w' hSw (fun k hk => (hv k hk (hall k hk)).1) (fun j k h1 h2 => hp j k h1 h2 (hall j h1) (hall k h2)) l hs fun k => ?_
  rcases Nat.lt_or_ge k m with h | h
  · rw [hall k h, decide_eq_true h]
  · rw [hl k h, decide_eq_false (by omega)]
 case hstep =>
  obtain ⟨⟨hs, hl⟩, hSw, hdn, vals, rfl, hv, hp⟩ := hj
  obtain ⟨o, ho, hdst, hdi, hlt, hg, hsel, hlow, hdist, hops⟩ := okAtG_spec (hat i h1)
  have hu : l.getD i false = false := by
   have h2 := (mem_ready.1 hi).1
   have h3 : i < l.size := by omega
   simp only [Array.getD_eq_getD_getElem?] at h2 ⊢
   rw [Array.getElem?_eq_getElem h3] at h2 ⊢
   simpa using h2
  have hdep : ∀ e ∈ afters ops i, l.getD e false = true := fun e he => ready_after hi he
  have heval : ∀ x ∈ o.op.operands, (fill (fun k => ds[k]?) vals l a m).eval x = (aF vals).eval x := fun x hx => by
   rw [← haF vals]
   exact fill_eval fun k hk hk2 d hd hxd => by
    rw [hdep k (hops x hx d hxd k hk hd)] at hk2
    cases hk2
  have hphi : ∀ e ∈ afters ops i, Φ e (vals e) w' := fun e he => (hv e (by have := hlow e he; omega) (hdep e he)).1
  have hyld : ∀ g b, g ∈ afters ops i → vals g = .bool b → yielded ops (fill (fun k => ds[k]?) vals l a m).tmps g = some b := fun g b hga hb => by
   have hgm : g < m := by have := hlow g hga; omega
   obtain ⟨og, hog, hgd, hgi, hglt, _, _, _, hgdist, _⟩ := okAtG_spec (hat g hgm)
   have h4 : (fill (fun k => ds[k]?) vals l a m).eval (.tmp (ds.getD g 0)) = vals g := fill_at (hdep g hga) hgi hglt hgm fun k hk hne e => hgdist k hk hne (e.trans hgi.symm)
   refine yielded_at (by rw [hog]; exact hgd) (by rw [fill_size]; exact hglt) (h4.trans hb)
  have hsz : ds.getD i 0 < (aF vals).tmps.size := by rw [← haF vals, fillAll_size]; exact hlt
  have next : ∀ v w2, Below w'.heap.size w' w2 → Φ i v w2 → (fresh i = true → ∃ q, v = .pointer (some ⟨q, 0, none⟩) ∧ w'.heap.size ≤ q ∧ q < w2.heap.size) →
   J (l.setIfInBounds i true) ((fill (fun k => ds[k]?) vals l a m).put o.dst v) w2 := fun v w2 hb hphi hfresh => by
   have hne : ∀ k, k ≠ i → (l.setIfInBounds i true).getD k false = l.getD k false := fun k hk => getD_other (Ne.symm hk) _
   refine ⟨⟨by simpa using hs, fun k hk => by rw [hne k (by omega)]; exact hl k hk⟩, hSb _ _ hb hSw, fun k hk hk2 e he => ?_, upd vals i v, ?_, fun k hk hk2 => ?_, fun j k hj hk hj2 hk2 hjk fj fk p q ep eq => ?_⟩
   · by_cases hki : k = i
     · subst hki
       rw [hne e (by have := hlow e he; omega)]
       exact hdep e he
     · rw [hne k hki] at hk2
       by_cases hei : e = i
       · subst hei
         exact getD_same (by omega) _
       · rw [hne e hei]
         exact hdn k hk hk2 e he
   · rw [hdst, ← hdi]
     exact fill_set (by omega) hu h1 fun j hj hji d hd hdi2 => hdist j hj hji (hd.trans hdi2.symm)
   · by_cases hki : k = i
     · subst hki
       rw [show upd vals k v k = v from if_pos rfl]
       exact ⟨hphi, fun hf => by obtain ⟨q, h1, _, h3⟩ := hfresh hf; exact ⟨q, h1, h3⟩⟩
     · rw [hne k hki] at hk2
       rw [show upd vals i v k = vals k from if_neg hki]
       obtain ⟨h3, h4⟩ := hv k hk hk2
       exact ⟨hΦb _ _ _ _ hb h3, fun hf => by obtain ⟨q, h5, h6⟩ := h4 hf; exact ⟨q, h5, Nat.lt_of_lt_of_le h6 hb.size⟩⟩
   · by_cases hji : j = i
     · subst hji
       have hki : k ≠ j := fun h => hjk h.symm
       rw [show upd vals j v j = v from if_pos rfl] at ep
       rw [show upd vals j v k = vals k from if_neg hki] at eq
       rw [hne k hki] at hk2
       obtain ⟨q1, e1, l1, _⟩ := hfresh fj
       obtain ⟨q2, e2, l2⟩ := (hv k hk hk2).2 fk
       rw [e1] at ep
       rw [e2] at eq
       cases ep
       cases eq
       omega
     · by_cases hki : k = i
       · subst hki
         rw [show upd vals k v k = v from if_pos rfl] at eq
         rw [show upd vals k v j = vals j from if_neg hji] at ep
         rw [hne j hji] at hj2
         obtain ⟨q1, e1, l1, _⟩ := hfresh fk
         obtain ⟨q2, e2, l2⟩ := (hv j hj hj2).2 fj
         rw [e1] at eq
         rw [e2] at ep
         cases ep
         cases eq
         omega
       · rw [show upd vals i v j = vals j from if_neg hji] at ep
         rw [show upd vals i v k = vals k from if_neg hki] at eq
         rw [hne j hji] at hj2
         rw [hne k hki] at hk2
         exact hp j k hj hk hj2 hk2 hjk fj fk p q ep eq
  rcases hop i h1 o ho with ⟨hgv, hop2⟩ | ⟨g, b, hgb, hgv, hun, hfr0⟩
  case inr =>
   unfold wpOp
   rw [ho]
   simp only []
   have hnot : Region.wanted o (yielded ops (fill (fun k => ds[k]?) vals l a m).tmps) = false := by
    unfold Region.wanted
    rw [hgb]
    simp only []
    rw [hyld g (!b) (hg g b hgb) (hgv vals w' hSw hphi)]
    cases b <;> rfl
   rw [if_neg (by rw [hnot]; decide)]
   exact next _ _ (Below.refl _ _) (hun w' hSw) (fun hf => by rw [hfr0] at hf; cases hf)
  have hwant : Region.wanted o (yielded ops (fill (fun k => ds[k]?) vals l a m).tmps) = true := by
   unfold Region.wanted
   cases hgo : o.guard with
   | none => rfl
   | some gb =>
    obtain ⟨g, b⟩ := gb
    simp only []
    rw [hyld g b (hg g b hgo) (hgv vals w' hSw hphi g b hgo)]
    simp
  have hrun := hop2 vals w' hSw hphi
   (fun a2 w2 => a2.defers = (aF vals).defers ∧ Below w'.heap.size w' w2 ∧ Φ i (a2.eval (.tmp (ds.getD i 0))) w2 ∧ (fresh i = true → ∃ q, a2.eval (.tmp (ds.getD i 0)) = .pointer (some ⟨q, 0, none⟩) ∧ w'.heap.size ≤ q ∧ q < w2.heap.size))
   (fun a2 w2 h1 h2 h3 h4 => ⟨h1, h2, h3, h4⟩)
  unfold wpOp
  rw [ho]
  simp only []
  rw [if_pos hwant]
  refine .inl ?_
  unfold Oper.wp at hrun ⊢
  rw [execOp_congr o hsel heval]
  generalize (execOp (aF vals).eval o).run P w' = r at hrun ⊢
  have hdef : (aF vals).defers = (fill (fun k => ds[k]?) vals l a m).defers := by rw [← haF vals, fillAll_defers, fill_defers]
  have hput : ∀ v, ((aF vals).put o.dst v).eval (.tmp (ds.getD i 0)) = v := fun v => by rw [hdst]; exact put_same _ _ _ hsz
  cases r with
  | ok n w2 =>
   cases n <;> simp only [Oper.upon] at hrun ⊢
   case value v => rw [hput] at hrun; exact next _ _ hrun.2.1 hrun.2.2.1 hrun.2.2.2
   case skip => rw [hput] at hrun; exact next _ _ hrun.2.1 hrun.2.2.1 hrun.2.2.2
   case defer d =>
    exfalso
    have := hrun.1
    rw [put_defers2] at this
    have := congrArg List.length this
    simp at this
   case enter f args =>
    refine Calls.mono hrun fun e w3 he => ?_
    cases e with
    | returned v => simp only at he ⊢; rw [hput] at he; exact next _ _ he.2.1 he.2.2.1 he.2.2.2
    | panicked c => exact hQ _ _ _ _ hdef he
    | outgrown => exact he
   case row r args =>
    refine Rows.mono hrun fun v w3 he => ?_
    rw [hput] at he
    exact next _ _ he.2.1 he.2.2.1 he.2.2.2
  | halt x w2 =>
   cases x <;> simp only [Oper.upon] at hrun ⊢ <;> exact hQ _ _ _ _ hdef hrun
theorem region_freeg {id : Nat} {a : Act} {w : World} {os : List Oper} (m r : Nat) (ds : List Tmp) (aF : (Nat → Value) → Act) (S : World → Prop) (Φ : Nat → Value → World → Prop) (fresh : Nat → Bool)
 (hm : P.follows .mixedOrders = true)
 (haF : ∀ vals, fillAll (fun k => ds[k]?) vals a m = aF vals)
 (hr : os.length = m + r)
 (hok : (List.range m).all (okAtG os.toArray m ds a.tmps.size) = true)
 (hend : (List.range os.length).all (fun i => decide (i < m) || (List.range m).all fun k => (anc os.toArray 3 i).contains k) = true)
 (hQ : ∀ c (t t' : Array Value) (d : List Deferred) w, Q (.panic c) ⟨t, d⟩ w → Q (.panic c) ⟨t', d⟩ w)
 (hSb : ∀ w w', Below w.heap.size w w' → S w → S w')
 (hΦb : ∀ k v w w', Below w.heap.size w w' → Φ k v w → Φ k v w')
 (hS : S w.drew)
 (hop : AllAt (FreeStepG P Q os.toArray ds aF S Φ fresh) 0 os m)
 (hfin : ∀ (vals : Nat → Value) (w : World), S w → (∀ k, k < m → Φ k (vals k) w) →
   (∀ j k, j < m → k < m → j ≠ k → fresh j = true → fresh k = true → ∀ p q, vals j = .pointer (some ⟨p, 0, none⟩) → vals k = .pointer (some ⟨q, 0, none⟩) → p ≠ q) →
   wpAny P .any os.toArray Q r (firsts (m + r) m) (aF vals) w) :
 (Code.region id os.toArray true).wp P Q a w :=
 region_freed m r 3 ds aF S Φ fresh hm haF hr hok hend hQ hSb hΦb hS hop hfin
end
end Go.Proofs.YtannifhcjcbkcaaGreatDoor

namespace Go.Proofs.YtannifhcjcbkcaaGreatDoor
open Go.RowKit
set_option linter.unusedVariables false
section
variable {P : Program} {ops : Array Oper} {Q : Exit → Act → World → Prop} {md : Region.Mode}
end
end Go.Proofs.YtannifhcjcbkcaaGreatDoor

namespace Go.Proofs.YtannifhcjcbkcaaGreatDoor.Limb
def strOf (l : List Nat) : ByteArray := ⟨(l.map UInt8.ofNat).toArray⟩
def bytesOf (s : ByteArray) : List Nat := s.data.toList.map UInt8.toNat
def Bytes (l : List Nat) : Prop := ∀ x ∈ l, x < 256
theorem bytes_nil : Bytes [] := by intro x hx; cases hx
theorem bytes_cons {x : Nat} {l : List Nat} : Bytes (x :: l) ↔ x < 256 ∧ Bytes l := by simp [Bytes]
theorem bytes_lim {l : List Nat} (h : Bytes l) (k : Nat) : lim l k < 256 := by
 unfold lim
 rw [List.getD_eq_getElem?_getD]
 rcases Nat.lt_or_ge k l.length with hk | hk
 · rw [List.getElem?_eq_getElem hk]; exact h _ (List.getElem_mem hk)
 · rw [List.getElem?_eq_none hk]; decide
theorem bytes_take {l : List Nat} (h : Bytes l) (k : Nat) : Bytes (l.take k) := fun x hx => h x (List.mem_of_mem_take hx)
theorem bytes_drop {l : List Nat} (h : Bytes l) (k : Nat) : Bytes (l.drop k) := fun x hx => h x (List.mem_of_mem_drop hx)
theorem bytes_bytesOf (s : ByteArray) : Bytes (bytesOf s) := by
 intro x hx
 obtain ⟨b, _, rfl⟩ := List.mem_map.1 hx
 exact b.toNat_lt
theorem bytesOf_strOf {l : List Nat} (h : Bytes l) : bytesOf (strOf l) = l := by
 show (l.map UInt8.ofNat).map UInt8.toNat = l
 rw [List.map_map]
 refine (List.map_congr_left fun x hx => ?_).trans (List.map_id l)
 show (UInt8.ofNat x).toNat = x
 rw [UInt8.toNat_ofNat']
 exact Nat.mod_eq_of_lt (h x hx)
theorem strOf_bytesOf (s : ByteArray) : strOf (bytesOf s) = s := by
 obtain ⟨⟨l⟩⟩ := s
 have e : UInt8.ofNat ∘ UInt8.toNat = id := by funext x; exact UInt8.ofNat_toNat
 show ByteArray.mk ((l.map UInt8.toNat).map UInt8.ofNat).toArray = _
 rw [List.map_map, e, List.map_id]
theorem length_bytesOf (s : ByteArray) : (bytesOf s).length = s.size := by
 show (s.data.toList.map UInt8.toNat).length = s.data.size
 rw [List.length_map, Array.length_toList]
theorem size_strOf (l : List Nat) : (strOf l).size = l.length := by
 show (l.map UInt8.ofNat).toArray.size = _
 rw [List.size_toArray, List.length_map]
theorem strOf_append (a b : List Nat) : strOf a ++ strOf b = strOf (a ++ b) := by
 rw [strOf, strOf, ByteArray.mk_append_mk, strOf, List.map_append]
theorem bytesOf_append (s t : ByteArray) : bytesOf (s ++ t) = bytesOf s ++ bytesOf t := by
 simp [bytesOf, ByteArray.data_append]
theorem strOf_inj {a b : List Nat} (ha : Bytes a) (hb : Bytes b) (h : strOf a = strOf b) : a = b := by
 rw [← bytesOf_strOf ha, ← bytesOf_strOf hb, h]
theorem toList_strOf (l : List Nat) : (strOf l).toList = l.map UInt8.ofNat := by rw [strOf, ByteArray.toList_mk]
theorem str_beq {a b : List Nat} (ha : Bytes a) (hb : Bytes b) : ((strOf a).toList == (strOf b).toList) = decide (a = b) := by
 rw [Bool.eq_iff_iff]
 simp only [beq_iff_eq, decide_eq_true_eq, ByteArray.toList_eq]
 constructor
 · intro h
   refine strOf_inj ha hb ?_
   have h2 : (strOf a).data = (strOf b).data := Array.toList_inj.1 h
   exact ByteArray.ext h2
 · rintro rfl; rfl
theorem byte_at (s : ByteArray) (k : Nat) (h : k < s.size) : (s[k]'h).toNat = lim (bytesOf s) k := by
 have hk : k < (bytesOf s).length := by rw [length_bytesOf]; exact h
 unfold lim
 rw [List.getD_eq_getElem?_getD, List.getElem?_eq_getElem hk, Option.getD_some]
 simp [bytesOf]
 rfl
def isDig (x : Nat) : Bool := decide (48 ≤ x) && decide (x ≤ 57)
def allDig (l : List Nat) : Bool := l.all isDig
def decV (l : List Nat) : Nat := l.foldl (fun v d => v * 10 + (d - 48)) 0
theorem allDig_iff {l : List Nat} : allDig l = true ↔ ∀ x ∈ l, 48 ≤ x ∧ x ≤ 57 := by simp [allDig, isDig]
theorem allDig_append {a b : List Nat} : allDig (a ++ b) = (allDig a && allDig b) := by simp [allDig]
theorem allDig_bytes {l : List Nat} (h : allDig l = true) : Bytes l := fun x hx => by have := allDig_iff.1 h x hx; omega
theorem foldl_dec (l : List Nat) (v : Nat) : l.foldl (fun v d => v * 10 + (d - 48)) v = v * 10 ^ l.length + l.foldl (fun v d => v * 10 + (d - 48)) 0 := by
 induction l generalizing v with
 | nil => simp
 | cons x l ih =>
  rw [List.foldl_cons, List.foldl_cons, ih, ih (0 * 10 + (x - 48)), List.length_cons, Nat.pow_succ]
  grind
theorem decV_append (a b : List Nat) : decV (a ++ b) = decV a * 10 ^ b.length + decV b := by
 unfold decV
 rw [List.foldl_append, foldl_dec]
theorem decV_snoc (l : List Nat) (x : Nat) : decV (l ++ [x]) = decV l * 10 + (x - 48) := by
 rw [decV_append]; simp [decV]
def decF : Nat → Nat → List Nat
 | 0, _ => []
 | f + 1, n => if n < 10 then [48 + n] else decF f (n / 10) ++ [48 + n % 10]
def decT (n : Nat) : List Nat := decF (n + 1) n
theorem decF_more : ∀ f g n, n < f → n < g → decF f n = decF g n
 | 0, _, _, h, _ => by omega
 | _, 0, _, _, h => by omega
 | f + 1, g + 1, n, hf, hg => by
  rw [decF, decF]
  split
  · rfl
  · rw [decF_more f g (n / 10) (by omega) (by omega)]
theorem decT_small {n : Nat} (h : n < 10) : decT n = [48 + n] := by rw [decT, decF, if_pos h]
theorem decT_big {n : Nat} (h : 10 ≤ n) : decT n = decT (n / 10) ++ [48 + n % 10] := by
 rw [decT, decF, if_neg (by omega), decT, decF_more n (n / 10 + 1) (n / 10) (by omega) (by omega)]
theorem decT_spec (n : Nat) : allDig (decT n) = true ∧ decV (decT n) = n ∧ decT n ≠ [] ∧ (n ≠ 0 → lim (decT n) 0 ≠ 48) := by
 induction n using Nat.strongRecOn with
 | _ n ih =>
  by_cases h : n < 10
  · rw [decT_small h]
    refine ⟨allDig_iff.2 fun x hx => by simp at hx; omega, by simp [decV], by simp, fun h0 => by simp [lim]; omega⟩
  · obtain ⟨h1, h2, h3, h4⟩ := ih (n / 10) (by omega)
    rw [decT_big (by omega)]
    refine ⟨by rw [allDig_append, h1]; exact allDig_iff.2 fun x hx => by simp at hx; omega, by rw [decV_snoc, h2]; omega, by simp, fun _ => ?_⟩
    have h5 := h4 (by omega)
    cases hd : decT (n / 10) with
    | nil => exact absurd hd h3
    | cons x l => rw [hd] at h5; simpa [lim] using h5
theorem decT_dig (n : Nat) : allDig (decT n) = true := (decT_spec n).1
theorem decT_bytes (n : Nat) : Bytes (decT n) := allDig_bytes (decT_dig n)
theorem bytesOf_extract (s : ByteArray) (i j : Nat) : bytesOf (s.extract i j) = ((bytesOf s).drop i).take (j - i) := by
 unfold bytesOf
 rw [ByteArray.data_extract, Array.toList_extract, List.extract_eq_take_drop, List.map_take, List.map_drop]
end Go.Proofs.YtannifhcjcbkcaaGreatDoor.Limb

namespace Go.Proofs.YtannifhcjcbkcaaGreatDoor
open Go.RowKit Go.ChangeShapes
set_option linter.unusedVariables false
theorem laidMet_drop {P : Program} {w : World} : ∀ (k : Nat) {l : List (String × DataW Unit)}, laidMet P l w → laidMet P (l.drop k) w
 | 0, _, h => h
 | _ + 1, [], h => h
 | k + 1, _ :: _, h => laidMet_drop k h.tail
end Go.Proofs.YtannifhcjcbkcaaGreatDoor

namespace Go.Proofs.YtannifhcjcbkcaaGreatDoor
open Go.RowKit Limb
set_option linter.unusedVariables false
def IsN (w : World) (A : Option Addr) (n : Nat) (xs : List Nat) : Prop :=
 xs.length = n ∧ Small xs ∧ (0 < n → ∃ b o, A = some ⟨b, o, none⟩ ∧ b < w.heap.size ∧ ∀ j, j < n → w.cell? ⟨b, o + j, none⟩ = some (.int .u32 ((lim xs j : Nat) : Int)))
theorem IsN.len {w : World} {A : Option Addr} {n : Nat} {xs : List Nat} (h : IsN w A n xs) : xs.length = n := h.1
theorem IsN.take {w : World} {A : Option Addr} {n m : Nat} {xs : List Nat} (h : IsN w A n xs) (hm : m ≤ n) : IsN w A m (xs.take m) := by
 refine ⟨by rw [List.length_take, h.1]; omega, small_take h.2.1 _, fun hn => ?_⟩
 obtain ⟨b, o, e, hlt, hc⟩ := h.2.2 (by omega)
 refine ⟨b, o, e, hlt, fun j hj => ?_⟩
 rw [hc j (by omega)]
 simp [lim, List.getD_eq_getElem?_getD, hj]
def IsV (w : World) (A : Option Addr) (n : Nat) (a : Nat) : Prop := IsN w A n (limbs a)
theorem IsV.isN {w : World} {A : Option Addr} {n a : Nat} (h : IsV w A n a) : IsN w A n (limbs a) := h
theorem bel_refl (w : World) : Below w.heap.size w w := Below.refl _ _
theorem ret_bool {a b : Bool} (h : a = b) : Ending.returned (.bool a) = .returned (.bool b) := by rw [h]
end Go.Proofs.YtannifhcjcbkcaaGreatDoor

namespace Go.Proofs.YtannifhcjcbkcaaGreatDoor
open Go.RowKit Limb
set_option linter.unusedVariables false
end Go.Proofs.YtannifhcjcbkcaaGreatDoor

namespace Go.Proofs.YtannifhcjcbkcaaGreatDoor
open Go.RowKit Limb
set_option linter.unusedVariables false
def limV (x : Nat) : Value := .int .u32 (x : Int)
def OwnN (w : World) (B : Nat) (A : Option Addr) (n c : Nat) (zs : List Nat) : Prop :=
 w.ownsRow B 147 1 (.slice A n c) n (zs.map limV) ∧ Small zs
theorem OwnN.len {w : World} {B : Nat} {A : Option Addr} {n c : Nat} {zs : List Nat} (h : OwnN w B A n c zs) : zs.length = n := by
 have := h.1.1; simpa using this
theorem OwnN.isN {w : World} {B : Nat} {A : Option Addr} {n c : Nat} {zs : List Nat} (h : OwnN w B A n c zs) : IsN w A n zs := by
 refine ⟨h.len, h.2, fun hn => ?_⟩
 rcases h.1.2 with ⟨_, h0⟩ | ⟨g, cap, cur, hv, hg, hh, _⟩
 · omega
 · injection hv with hA _ hc
   subst hA
   subst hc
   refine ⟨g, 0, rfl, ?_, fun j hj => ?_⟩
   · rcases Nat.lt_or_ge g w.heap.size with hlt | hge
     · exact hlt
     · rw [Array.getElem?_eq_none hge] at hh; cases hh
   · rw [Nat.zero_add, h.1.cellAt j (by omega), List.getElem?_map, List.getElem?_eq_getElem (by rw [h.len]; exact hj)]
     simp [limV, lim, List.getD_eq_getElem?_getD, List.getElem?_eq_getElem (show j < zs.length by rw [h.len]; exact hj)]
theorem OwnN.caps {w : World} {B : Nat} {A : Option Addr} {n c : Nat} {zs : List Nat} (h : OwnN w B A n c zs) : n ≤ c ∧ c ≤ maxLen := by
 rcases h.1.2 with ⟨hv, h0⟩ | ⟨g, cap, cur, hv, hg, hh, h1, h2, _⟩
 · injection hv with _ _ hc; subst hc; subst h0; exact ⟨Nat.le_refl _, Nat.zero_le _⟩
 · injection hv with _ _ hc; subst hc; exact ⟨h1, h2⟩
theorem OwnN.nil (w : World) (B : Nat) : OwnN w B none 0 0 [] := ⟨World.ownsRow_nil _ _ _ _, small_nil⟩
end Go.Proofs.YtannifhcjcbkcaaGreatDoor

namespace Go.Proofs.YtannifhcjcbkcaaGreatDoor
open Go.RowKit Limb
set_option linter.unusedVariables false
theorem below_drewN {B : Nat} {a w : World} (h : Below B a w) (n : Nat) : Below B a (w.drewN n) := ⟨h.os, h.tape, h.output, h.size, h.block⟩
def same (xs ys : List Nat) : Bool := decide (xs = ys)
end Go.Proofs.YtannifhcjcbkcaaGreatDoor

namespace Go.Proofs.YtannifhcjcbkcaaGreatDoor
open Go.RowKit Limb
set_option linter.unusedVariables false
end Go.Proofs.YtannifhcjcbkcaaGreatDoor

namespace Go.Proofs.YtannifhcjcbkcaaGreatDoor
open Go.RowKit Limb
set_option linter.unusedVariables false
theorem OwnN.addr {w : World} {B : Nat} {A : Option Addr} {n c : Nat} {zs : List Nat} (h : OwnN w B A n c zs) (hn : 0 < n) : ∃ g, A = some ⟨g, 0, none⟩ ∧ B ≤ g ∧ g < w.heap.size := by
 rcases h.1.2 with ⟨_, h0⟩ | ⟨g, cap, cur, hv, hg, hh, _⟩
 · omega
 · injection hv with hA
   refine ⟨g, hA, hg, ?_⟩
   rcases Nat.lt_or_ge g w.heap.size with hlt | hge
   · exact hlt
   · rw [Array.getElem?_eq_none hge] at hh; cases hh
theorem OwnN.cell {w : World} {B g n c : Nat} {zs : List Nat} (h : OwnN w B (some ⟨g, 0, none⟩) n c zs) {k : Nat} (hk : k < n) : w.cell? ⟨g, k, none⟩ = some (.int .u32 ((lim zs k : Nat) : Int)) := by
 have hl := h.len
 rw [h.1.cellAt k (by omega), List.getElem?_map, List.getElem?_eq_getElem (by omega)]
 simp [limV, lim, List.getD_eq_getElem?_getD, List.getElem?_eq_getElem (show k < zs.length by omega)]
end Go.Proofs.YtannifhcjcbkcaaGreatDoor

namespace Go.Proofs.YtannifhcjcbkcaaGreatDoor
open Go.RowKit Limb
set_option linter.unusedVariables false
theorem OwnN.take {w : World} {B : Nat} {A : Option Addr} {n c m : Nat} {zs : List Nat} (h : OwnN w B A n c zs) (hm : m ≤ n) : OwnN w B A m c (zs.take m) := by
 have hl := h.len
 refine ⟨⟨by simp; omega, ?_⟩, small_take h.2 _⟩
 rcases h.1.2 with ⟨hv, h0⟩ | ⟨g, cap, cur, hv, hg, hh, h1, h2, h3, h4⟩
 · injection hv with hA hn hc
   subst hA hc
   left
   exact ⟨by congr 1; omega, by omega⟩
 · injection hv with hA hn hc
   subst hA hc
   refine .inr ⟨g, c, cur, rfl, hg, hh, by omega, h2, h3, ?_⟩
   rw [List.map_take, ← h4, List.take_take]
   congr 1
   omega
end Go.Proofs.YtannifhcjcbkcaaGreatDoor

namespace Go.Proofs.YtannifhcjcbkcaaGreatDoor
open Go.RowKit Limb
set_option linter.unusedVariables false
end Go.Proofs.YtannifhcjcbkcaaGreatDoor

namespace Go.Proofs.YtannifhcjcbkcaaGreatDoor
open Go.RowKit Limb
set_option linter.unusedVariables false
structure NN (w : World) (A : Option Addr) (n c : Nat) (xs : List Nat) (a L : Nat) : Prop where
 isN : IsN w A n xs
 val : Limb.val xs = a
 cap : n ≤ c
 le : n ≤ L
theorem NN.own {w : World} {B : Nat} {A : Option Addr} {n c a L : Nat} (h : OwnN w B A n c (limbs a)) (hl : a < 4294967296 ^ L) : NN w A n c (limbs a) a L :=
 ⟨h.isN, val_limbs a, h.caps.1, by have := length_limbs_le hl; rw [h.len] at this; exact this⟩
theorem NN.relax {w : World} {A : Option Addr} {n c a L L' : Nat} (h : NN w A n c (limbs a) a L) (hl : a < 4294967296 ^ L') : NN w A n c (limbs a) a L' :=
 ⟨h.isN, h.val, h.cap, by have := length_limbs_le hl; rw [h.isN.len] at this; exact this⟩
section
variable {w : World} {A A' : Option Addr} {n c n' c' : Nat} {xs ys : List Nat} {a b L L' : Nat}
end
theorem below_new (w : World) (o : Obj) : Below w.heap.size w (w.alloc o) := (Below.refl _ _).alloc (Nat.le_refl _) o
theorem below_two {w w1 w2 : World} (h : Below w.heap.size w w1) (k : Below w1.heap.size w1 w2) : Below w.heap.size w w2 := h.trans (k.mono h.size)
section
variable {P : Program}
end
end Go.Proofs.YtannifhcjcbkcaaGreatDoor

namespace Go.Proofs.YtannifhcjcbkcaaGreatDoor
open Go.RowKit Limb
set_option linter.unusedVariables false
theorem OwnN.row {w : World} {B : Nat} {A : Option Addr} {n c : Nat} {zs : List Nat} (h : OwnN w B A n c zs) : w.ownsRow B 147 1 (.slice A n c) n (zs.map limV) := h.1
end Go.Proofs.YtannifhcjcbkcaaGreatDoor

namespace Go.Proofs.YtannifhcjcbkcaaGreatDoor
open Go.RowKit Limb
set_option linter.unusedVariables false
def Others (g : Nat) (w w' : World) : Prop := ∀ k, k ≠ g → w'.heap[k]? = w.heap[k]?
theorem Others.refl (g : Nat) (w : World) : Others g w w := fun _ _ => rfl
theorem Others.setCell {g : Nat} {a w : World} (h : Others g a w) (k : Nat) (u : Value) : Others g a (w.setCell ⟨g, k, none⟩ u) := fun j hj => (Below.heap_setCell w _ u j hj).trans (h j hj)
theorem cell_setCell_ne {a b : Addr} (w : World) (v : Value) (h : a ≠ b) : (w.setCell a v).cell? b = w.cell? b := World.cell?_setCell_other (w := w) (a := a) (b := b) (v := v) h
end Go.Proofs.YtannifhcjcbkcaaGreatDoor

namespace Go.Proofs.YtannifhcjcbkcaaGreatDoor
open Go.RowKit Limb
set_option linter.unusedVariables false
end Go.Proofs.YtannifhcjcbkcaaGreatDoor

namespace Go.Proofs.YtannifhcjcbkcaaGreatDoor
open Go.RowKit Limb
set_option linter.unusedVariables false
end Go.Proofs.YtannifhcjcbkcaaGreatDoor

namespace Go.Proofs.YtannifhcjcbkcaaGreatDoor
open Go.RowKit Limb
set_option linter.unusedVariables false
end Go.Proofs.YtannifhcjcbkcaaGreatDoor

namespace Go.Proofs.YtannifhcjcbkcaaGreatDoor
open Go.RowKit Limb
set_option linter.unusedVariables false
end Go.Proofs.YtannifhcjcbkcaaGreatDoor

namespace Go.Proofs.YtannifhcjcbkcaaGreatDoor
open Go.RowKit Limb
set_option linter.unusedVariables false
def byV (x : Nat) : Value := .int .u8 (x : Int)
def OwnB (w : World) (B : Nat) (A : Option Addr) (n c : Nat) (zs : List Nat) : Prop :=
 w.ownsRow B 5 1 (.slice A n c) n (zs.map byV) ∧ Bytes zs
section
variable {w w' : World} {B B' C : Nat} {A : Option Addr} {n c : Nat} {zs : List Nat}
theorem OwnB.len (h : OwnB w B A n c zs) : zs.length = n := by
 have := h.1.1; simpa using this
theorem OwnB.bytes (h : OwnB w B A n c zs) : Bytes zs := h.2
theorem OwnB.caps (h : OwnB w B A n c zs) : n ≤ c ∧ c ≤ maxLen := by
 rcases h.1.2 with ⟨hv, h0⟩ | ⟨g, cap, cur, hv, hg, hh, h1, h2, _⟩
 · injection hv with _ _ hc; subst hc; subst h0; exact ⟨Nat.le_refl _, Nat.zero_le _⟩
 · injection hv with _ _ hc; subst hc; exact ⟨h1, h2⟩
theorem OwnB.addr (h : OwnB w B A n c zs) (hn : 0 < n) : ∃ g, A = some ⟨g, 0, none⟩ ∧ B ≤ g ∧ g < w.heap.size := by
 rcases h.1.2 with ⟨_, h0⟩ | ⟨g, cap, cur, hv, hg, hh, _⟩
 · omega
 · injection hv with hA
   refine ⟨g, hA, hg, ?_⟩
   rcases Nat.lt_or_ge g w.heap.size with hlt | hge
   · exact hlt
   · rw [Array.getElem?_eq_none hge] at hh; cases hh
theorem OwnB.cell {g : Nat} (h : OwnB w B (some ⟨g, 0, none⟩) n c zs) {k : Nat} (hk : k < n) : w.cell? ⟨g, k, none⟩ = some (.int .u8 ((lim zs k : Nat) : Int)) := by
 have hl := h.len
 rw [h.1.cellAt k (by omega), List.getElem?_map, List.getElem?_eq_getElem (by omega)]
 simp [byV, lim, List.getD_eq_getElem?_getD, List.getElem?_eq_getElem (show k < zs.length by omega)]
theorem OwnB.row (h : OwnB w B A n c zs) : w.ownsRow B 5 1 (.slice A n c) n (zs.map byV) := h.1
end
end Go.Proofs.YtannifhcjcbkcaaGreatDoor

namespace Go.Proofs.YtannifhcjcbkcaaGreatDoor.Limb
end Go.Proofs.YtannifhcjcbkcaaGreatDoor.Limb
namespace Go.Proofs.YtannifhcjcbkcaaGreatDoor
open Go.RowKit Limb
set_option linter.unusedVariables false
end Go.Proofs.YtannifhcjcbkcaaGreatDoor

namespace Go.Proofs.YtannifhcjcbkcaaGreatDoor
open Go.RowKit Limb
set_option linter.unusedVariables false
end Go.Proofs.YtannifhcjcbkcaaGreatDoor

namespace Go.Proofs.YtannifhcjcbkcaaGreatDoor.Limb
end Go.Proofs.YtannifhcjcbkcaaGreatDoor.Limb
namespace Go.Proofs.YtannifhcjcbkcaaGreatDoor
open Go.RowKit Limb
set_option linter.unusedVariables false
section
variable {w : World} {A A' : Option Addr} {n c n' c' : Nat} {xs ys : List Nat} {a b L L' : Nat}
end
theorem NN.len {w : World} {A : Option Addr} {n c : Nat} {xs : List Nat} {a L : Nat} (h : NN w A n c xs a L) : n = xs.length := h.isN.len.symm
end Go.Proofs.YtannifhcjcbkcaaGreatDoor

namespace Go.Proofs.YtannifhcjcbkcaaGreatDoor.Limb
def RUp (xs zs : List Nat) (q r k c : Nat) : Prop := zs.length = q + k ∧ Small zs ∧ val zs + c * 4294967296 ^ (q + k) = 4294967296 ^ q * val (xs.take k) * 2 ^ r ∧ c < 2 ^ r
theorem RUp.or {c x r : Nat} (h : c < 2 ^ r) : c ||| x * 2 ^ r = c + x * 2 ^ r := by
 rw [Nat.or_comm, Nat.mul_comm, ← Nat.two_pow_add_eq_or_of_lt h]
 omega
end Go.Proofs.YtannifhcjcbkcaaGreatDoor.Limb
namespace Go.Proofs.YtannifhcjcbkcaaGreatDoor
open Go.RowKit Limb
set_option linter.unusedVariables false
end Go.Proofs.YtannifhcjcbkcaaGreatDoor

namespace Go.Proofs.YtannifhcjcbkcaaGreatDoor
open Go.RowKit Limb
set_option linter.unusedVariables false
end Go.Proofs.YtannifhcjcbkcaaGreatDoor

namespace Go.Proofs.YtannifhcjcbkcaaGreatDoor
open Go.RowKit Limb
set_option linter.unusedVariables false
end Go.Proofs.YtannifhcjcbkcaaGreatDoor

namespace Go.Proofs.YtannifhcjcbkcaaGreatDoor.Limb
def QInv (a b : Nat) (zs : List Nat) (left j : Nat) : Prop := a = left + b * val zs ∧ left < b * 2 ^ j ∧ val zs % 2 ^ j = 0
theorem mod_low {V j : Nat} (h : V % 2 ^ (j + 1) = 0) : V % 2 ^ j = 0 :=
 Nat.mod_eq_zero_of_dvd (Nat.dvd_trans ⟨2, by rw [Nat.pow_succ]⟩ (Nat.dvd_of_mod_eq_zero h))
theorem QInv.no {a b left j : Nat} {zs : List Nat} (h : QInv a b zs left (j + 1)) (hlt : left < b * 2 ^ j) : QInv a b zs left j := ⟨h.1, hlt, mod_low h.2.2⟩
end Go.Proofs.YtannifhcjcbkcaaGreatDoor.Limb
namespace Go.Proofs.YtannifhcjcbkcaaGreatDoor
open Go.RowKit Limb
set_option linter.unusedVariables false
def Apart (g : Nat) (A : Option Addr) (n : Nat) : Prop := 0 < n → ∀ b o s, A = some ⟨b, o, s⟩ → b ≠ g
theorem Apart.own {w : World} {B : Nat} {A : Option Addr} {n c : Nat} {zs : List Nat} {g : Nat} (h : OwnN w B A n c zs) (hg : g < B) : Apart g A n := by
 intro hn b o s e
 obtain ⟨g', e', hB, _⟩ := h.addr hn
 rw [e] at e'; injection e' with e'; injection e' with e' _
 omega
theorem NN.elsewhere {w : World} {A : Option Addr} {n c : Nat} {xs : List Nat} {a L g : Nat} (h : NN w A n c xs a L) (hg : Apart g A n) (k : Nat) (v : Value) : NN (w.setCell ⟨g, k, none⟩ v) A n c xs a L := by
 refine ⟨⟨h.isN.1, h.isN.2.1, fun hn => ?_⟩, h.val, h.cap, h.le⟩
 obtain ⟨b, o, e, hlt, hc⟩ := h.isN.2.2 hn
 refine ⟨b, o, e, by simpa [World.setCell] using hlt, fun j hj => ?_⟩
 rw [cell_setCell_ne _ _ (by intro e2; injection e2 with e2; exact hg hn b o none e e2.symm)]
 exact hc j hj
end Go.Proofs.YtannifhcjcbkcaaGreatDoor

namespace Go.Proofs.YtannifhcjcbkcaaGreatDoor
open Go.RowKit Limb
set_option linter.unusedVariables false
end Go.Proofs.YtannifhcjcbkcaaGreatDoor

namespace Go.Proofs.YtannifhcjcbkcaaGreatDoor
open Go.RowKit Limb
set_option linter.unusedVariables false
end Go.Proofs.YtannifhcjcbkcaaGreatDoor
namespace Go.Proofs.YtannifhcjcbkcaaGreatDoor.Limb
end Go.Proofs.YtannifhcjcbkcaaGreatDoor.Limb
namespace Go.Proofs.YtannifhcjcbkcaaGreatDoor
open Go.RowKit Limb
set_option linter.unusedVariables false
end Go.Proofs.YtannifhcjcbkcaaGreatDoor

namespace Go.Proofs.YtannifhcjcbkcaaGreatDoor
open Go.RowKit Limb
set_option linter.unusedVariables false
end Go.Proofs.YtannifhcjcbkcaaGreatDoor

namespace Go.Proofs.YtannifhcjcbkcaaGreatDoor
open Go.RowKit Limb
set_option linter.unusedVariables false
def Row2 (w : World) (g : Nat) (T : TypeId) (u v : Value) : Prop := w.heap[g]? = some (.cells #[u, v] T (0, 0))
section
variable {w w' : World} {g : Nat} {T : TypeId} {u v : Value}
theorem Row2.c0 (h : Row2 w g T u v) : w.cell? ⟨g, 0, none⟩ = some u := by unfold Row2 at h; simp [World.cell?, h]
theorem Row2.c1 (h : Row2 w g T u v) : w.cell? ⟨g, 1, none⟩ = some v := by unfold Row2 at h; simp [World.cell?, h]
theorem Row2.free (h : Row2 w g T u v) (k : Nat) : w.frozen? ⟨g, k, none⟩ = false := by unfold Row2 at h; simp [World.frozen?, h]
theorem Row2.fill (h : Row2 w g T u v) (x y : Value) : ((w.setCell ⟨g, 0, none⟩ x).setCell ⟨g, 1, none⟩ y).heap[g]? = some (.cells #[x, y] T (0, 0)) := by
 unfold Row2 at h
 simp [World.setCell, Array.getElem?_modify, h]
end
end Go.Proofs.YtannifhcjcbkcaaGreatDoor

namespace Go.Proofs.YtannifhcjcbkcaaGreatDoor
open Go.RowKit Limb
set_option linter.unusedVariables false
def sg (z : Int) : Bool := decide (z < 0)
theorem sg_neg {z : Int} (h : z < 0) : sg z = true := by simp [sg, h]
theorem sg_pos {z : Int} (h : 0 ≤ z) : sg z = false := by simp [sg]; omega
structure ZZ (w : World) (s : Bool) (A : Option Addr) (n c : Nat) (xs : List Nat) (z : Int) (L : Nat) : Prop where
 nn : NN w A n c xs z.natAbs L
 sgn : z = if s = true then -(z.natAbs : Int) else (z.natAbs : Int)
def zOf (s : Bool) (a : Nat) : Int := if s = true then -(a : Int) else (a : Int)
theorem zOf_abs (s : Bool) (a : Nat) : (zOf s a).natAbs = a := by unfold zOf; split <;> omega
theorem ZZ.of {w : World} {s : Bool} {A : Option Addr} {n c : Nat} {xs : List Nat} {a L : Nat} (h : NN w A n c xs a L) : ZZ w s A n c xs (zOf s a) L := by
 refine ⟨by rw [zOf_abs]; exact h, ?_⟩
 rw [zOf_abs]; rfl
def zT (z : Int) : List Nat := if z < 0 then 45 :: decT z.natAbs else decT z.natAbs
theorem zT_bytes (z : Int) : Bytes (zT z) := by
 unfold zT; split
 · exact bytes_cons.2 ⟨by decide, decT_bytes _⟩
 · exact decT_bytes _
end Go.Proofs.YtannifhcjcbkcaaGreatDoor

namespace Go.Proofs.YtannifhcjcbkcaaGreatDoor
open Go.RowKit Limb
end Go.Proofs.YtannifhcjcbkcaaGreatDoor

namespace Go.Proofs.YtannifhcjcbkcaaGreatDoor
open Go.RowKit Limb
set_option linter.unusedVariables false
def fitsQ (q : Rat) : Bool := decide (q.num.natAbs < 4294967296 ^ 64) && decide (q.den < 4294967296 ^ 64)
theorem mk_num {x : Int} {b : Nat} (hb : b ≠ 0) : (mkRat x b).num.natAbs = x.natAbs / Nat.gcd x.natAbs b ∧ sg (mkRat x b).num = sg x := by
 rw [Rat.num_mkRat, if_neg hb, Nat.gcd_comm]
 have hd : ((Nat.gcd x.natAbs b : Nat) : Int) ∣ x := by
  rw [Int.ofNat_dvd_left]; exact Nat.gcd_dvd_left _ _
 have hg : 0 < Nat.gcd x.natAbs b := Nat.gcd_pos_of_pos_right _ (Nat.pos_of_ne_zero hb)
 refine ⟨by rw [Int.natAbs_ediv_of_dvd hd]; rfl, ?_⟩
 obtain ⟨k, hk⟩ := hd
 generalize Nat.gcd x.natAbs b = g at hk hg ⊢
 subst hk
 rw [Int.mul_ediv_cancel_left _ (by omega)]
 unfold sg
 rw [decide_eq_decide]
 have h2 : (0 : Int) < (g : Int) := by omega
 constructor
 · intro h; exact Int.mul_neg_of_pos_of_neg h2 h
 · intro h
   rcases Int.lt_trichotomy k 0 with h3 | h3 | h3
   · exact h3
   · subst h3; simp at h
   · have := Int.mul_pos h2 h3; omega
theorem mk_den {x : Int} {b : Nat} (hb : b ≠ 0) : (mkRat x b).den = b / Nat.gcd x.natAbs b := by
 rw [Rat.den_mkRat, if_neg hb, Nat.gcd_comm]
theorem zOf_sg {z : Int} : zOf (sg z) z.natAbs = z := by
 unfold zOf sg
 by_cases h : z < 0
 · simp [h]; omega
 · simp [h]; omega
def goodV (s : Bool) (xs ys : List Nat) : Bool :=
 decide (xs = limbs (Limb.val xs)) && decide (ys = limbs (Limb.val ys)) && decide (Limb.val ys ≠ 0) && !(s && decide (Limb.val xs = 0)) && decide (xs.length ≤ 64) && decide (ys.length ≤ 64) && decide (Nat.gcd (Limb.val xs) (Limb.val ys) = 1)
theorem goodV_iff {s : Bool} {xs ys : List Nat} : goodV s xs ys = true ↔ xs = limbs (Limb.val xs) ∧ ys = limbs (Limb.val ys) ∧ Limb.val ys ≠ 0 ∧ ¬ (s = true ∧ Limb.val xs = 0) ∧ xs.length ≤ 64 ∧ ys.length ≤ 64 ∧ Nat.gcd (Limb.val xs) (Limb.val ys) = 1 := by
 unfold goodV
 simp only [Bool.and_eq_true, decide_eq_true_eq, Bool.not_eq_true', Bool.and_eq_false_iff, decide_eq_false_iff_not]
 constructor
 · rintro ⟨⟨⟨⟨⟨⟨h1, h2⟩, h3⟩, h4⟩, h5⟩, h6⟩, h7⟩
   exact ⟨h1, h2, h3, fun ⟨a, b⟩ => by rcases h4 with h4 | h4; · rw [a] at h4; cases h4
                                       · exact h4 b, h5, h6, h7⟩
 · rintro ⟨h1, h2, h3, h4, h5, h6, h7⟩
   refine ⟨⟨⟨⟨⟨⟨h1, h2⟩, h3⟩, ?_⟩, h5⟩, h6⟩, h7⟩
   cases s with
   | false => exact .inl rfl
   | true => exact .inr fun h => h4 ⟨rfl, h⟩
def readQ (s : Bool) (xs ys : List Nat) : Option Rat := if goodV s xs ys = true then some (mkRat (zOf s (Limb.val xs)) (Limb.val ys)) else none
theorem readQ_no {s : Bool} {xs ys : List Nat} (h : goodV s xs ys = false) : readQ s xs ys = none := if_neg (by rw [h]; decide)
theorem readQ_yes {s : Bool} {xs ys : List Nat} (h : goodV s xs ys = true) : ∃ q : Rat, readQ s xs ys = some q ∧ s = sg q.num ∧ xs = limbs q.num.natAbs ∧ ys = limbs q.den ∧ fitsQ q = true ∧ q.num = zOf s (Limb.val xs) ∧ q.den = Limb.val ys := by
 obtain ⟨h1, h2, h3, h4, h5, h6, h7⟩ := goodV_iff.1 h
 have ha : (zOf s (Limb.val xs)).natAbs = Limb.val xs := zOf_abs _ _
 obtain ⟨n1, n2⟩ := mk_num (x := zOf s (Limb.val xs)) h3
 have d1 := mk_den (x := zOf s (Limb.val xs)) h3
 rw [ha, h7, Nat.div_one] at n1 d1
 have hs : sg (zOf s (Limb.val xs)) = s := by
  cases s with
  | false => apply sg_pos; unfold zOf; simp
  | true =>
   have : Limb.val xs ≠ 0 := fun e => h4 ⟨rfl, e⟩
   apply sg_neg; unfold zOf; rw [if_pos rfl]; omega
 have hn : (mkRat (zOf s (Limb.val xs)) (Limb.val ys)).num = zOf s (Limb.val xs) := by
  have e1 := zOf_sg (z := (mkRat (zOf s (Limb.val xs)) (Limb.val ys)).num)
  rw [n1, n2, hs] at e1
  exact e1.symm
 refine ⟨_, if_pos h, ?_, ?_, ?_, ?_, hn, d1⟩
 · rw [n2, hs]
 · rw [n1]; exact h1
 · rw [d1]; exact h2
 · simp only [fitsQ, Bool.and_eq_true, decide_eq_true_eq]
   rw [n1, d1]
   have l1 := val_lt (xs := xs) (by rw [h1]; exact small_limbs _)
   have l2 := val_lt (xs := ys) (by rw [h2]; exact small_limbs _)
   exact ⟨Nat.lt_of_lt_of_le l1 (Nat.pow_le_pow_right (by decide) h5), Nat.lt_of_lt_of_le l2 (Nat.pow_le_pow_right (by decide) h6)⟩
end Go.Proofs.YtannifhcjcbkcaaGreatDoor

namespace Go.Proofs.YtannifhcjcbkcaaGreatDoor
open Go.RowKit Limb
set_option linter.unusedVariables false
theorem NN.put2 {w : World} {A : Option Addr} {n c : Nat} {xs : List Nat} {a L g : Nat} {T : TypeId} {b0 : Bool} {A0 : Option Addr} {n0 c0 : Nat} (h : NN w A n c xs a L) (hb : Row2 w g T (.bool b0) (.slice A0 n0 c0)) (u v : Value) : NN ((w.setCell ⟨g, 0, none⟩ u).setCell ⟨g, 1, none⟩ v) A n c xs a L := by
 refine ⟨⟨h.isN.1, h.isN.2.1, fun hn => ?_⟩, h.val, h.cap, h.le⟩
 obtain ⟨b, o, e, hlt, hc⟩ := h.isN.2.2 hn
 have hbg : b ≠ g := by
  rintro rfl
  have h1 := hc 0 hn
  unfold Row2 at hb
  match o, h1 with
  | 0, h1 => simp [World.cell?, hb] at h1
  | 1, h1 => simp [World.cell?, hb] at h1
  | o + 2, h1 => simp [World.cell?, hb] at h1
 refine ⟨b, o, e, by simpa [World.setCell] using hlt, fun j hj => ?_⟩
 rw [cell_setCell_ne _ _ (by intro e; injection e with e; exact hbg e.symm), cell_setCell_ne _ _ (by intro e; injection e with e; exact hbg e.symm)]
 exact hc j hj
section
variable {w : World} {s s' : Bool} {A A' : Option Addr} {n c n' c' : Nat} {xs ys : List Nat} {x y : Int} {L L' : Nat}
end
end Go.Proofs.YtannifhcjcbkcaaGreatDoor

namespace Go.Proofs.YtannifhcjcbkcaaGreatDoor
open Go.RowKit Limb
set_option linter.unusedVariables false
end Go.Proofs.YtannifhcjcbkcaaGreatDoor

namespace Go.Proofs.YtannifhcjcbkcaaGreatDoor
open Go.RowKit Limb
set_option linter.unusedVariables false
def Row3 (w : World) (g : Nat) (T : TypeId) (a b c : Value) : Prop := w.heap[g]? = some (.cells #[a, b, c] T (0, 0))
section
variable {w w' : World} {g : Nat} {T : TypeId} {a b c : Value}
theorem Row3.c0 (h : Row3 w g T a b c) : w.cell? ⟨g, 0, none⟩ = some a := by unfold Row3 at h; simp [World.cell?, h]
theorem Row3.c1 (h : Row3 w g T a b c) : w.cell? ⟨g, 1, none⟩ = some b := by unfold Row3 at h; simp [World.cell?, h]
theorem Row3.free (h : Row3 w g T a b c) (k : Nat) : w.frozen? ⟨g, k, none⟩ = false := by unfold Row3 at h; simp [World.frozen?, h]
theorem Row3.fill (h : Row3 w g T a b c) (x y z : Value) : Row3 (((w.setCell ⟨g, 0, none⟩ x).setCell ⟨g, 1, none⟩ y).setCell ⟨g, 2, none⟩ z) g T x y z := by
 unfold Row3 at h ⊢
 simp [World.setCell, Array.getElem?_modify, h]
end
def Row4 (w : World) (g : Nat) (T : TypeId) (a b c d : Value) : Prop := w.heap[g]? = some (.cells #[a, b, c, d] T (0, 0))
section
variable {w w' : World} {g : Nat} {T : TypeId} {a b c d : Value}
theorem Row4.c0 (h : Row4 w g T a b c d) : w.cell? ⟨g, 0, none⟩ = some a := by unfold Row4 at h; simp [World.cell?, h]
theorem Row4.c1 (h : Row4 w g T a b c d) : w.cell? ⟨g, 1, none⟩ = some b := by unfold Row4 at h; simp [World.cell?, h]
theorem Row4.free (h : Row4 w g T a b c d) (k : Nat) : w.frozen? ⟨g, k, none⟩ = false := by unfold Row4 at h; simp [World.frozen?, h]
theorem Row4.fill (h : Row4 w g T a b c d) (x y z v : Value) : Row4 ((((w.setCell ⟨g, 0, none⟩ x).setCell ⟨g, 1, none⟩ y).setCell ⟨g, 2, none⟩ z).setCell ⟨g, 3, none⟩ v) g T x y z v := by
 unfold Row4 at h ⊢
 simp [World.setCell, Array.getElem?_modify, h]
end
end Go.Proofs.YtannifhcjcbkcaaGreatDoor

namespace Go.Proofs.YtannifhcjcbkcaaGreatDoor
open Go.RowKit Limb
set_option linter.unusedVariables false
def RowV (w : World) (g : Nat) (T : TypeId) (vs : List Value) : Prop := w.heap[g]? = some (.cells vs.toArray T (0, 0))
section
variable {w w' : World} {g : Nat} {T : TypeId} {vs : List Value}
theorem RowV.cell (h : RowV w g T vs) {k : Nat} {v : Value} (hk : vs[k]? = some v) : w.cell? ⟨g, k, none⟩ = some v := by
 unfold RowV at h
 have e : (vs.toArray)[k]? = some v := by rw [List.getElem?_toArray]; exact hk
 simp only [World.cell?, h]
 exact e
theorem RowV.free (h : RowV w g T vs) (k : Nat) : w.frozen? ⟨g, k, none⟩ = false := by unfold RowV at h; simp [World.frozen?, h]
theorem RowV.far (h : RowV w g T vs) {g' : Nat} (hne : g' ≠ g) (k : Nat) (v : Value) : RowV (w.setCell ⟨g', k, none⟩ v) g T vs := by
 unfold RowV at h ⊢
 simp only [World.setCell, Array.getElem?_modify]
 rw [if_neg hne]
 exact h
end
theorem below_set {w w' : World} {B g : Nat} (h : Below B w w') (hg : B ≤ g) (k : Nat) (v : Value) : Below B w (w'.setCell ⟨g, k, none⟩ v) := h.setCell (by exact hg) v
end Go.Proofs.YtannifhcjcbkcaaGreatDoor

namespace Go.Proofs.YtannifhcjcbkcaaGreatDoor
open Go.RowKit Limb
set_option linter.unusedVariables false
def ZB (w : World) (g : Nat) : Prop := Row2 w g 89 (.bool false) (.slice none 0 0)
theorem ZB.cells {w : World} {g : Nat} (h : ZB w g) : w.cell? ⟨g, 0, none⟩ = some (.bool false) ∧ w.cell? ⟨g, 1, none⟩ = some (.slice none 0 0) ∧ w.frozen? ⟨g, 0, none⟩ = false ∧ w.frozen? ⟨g, 1, none⟩ = false := ⟨h.c0, h.c1, h.free 0, h.free 1⟩
theorem ZZ.put {w : World} {s : Bool} {A : Option Addr} {n c : Nat} {xs : List Nat} {z : Int} {L g : Nat} (h : ZZ w s A n c xs z L) (hb : ZB w g) (u v : Value) : ZZ ((w.setCell ⟨g, 0, none⟩ u).setCell ⟨g, 1, none⟩ v) s A n c xs z L := ⟨h.nn.put2 hb u v, h.sgn⟩
theorem Row2.far {w : World} {g g' : Nat} {T : TypeId} {u v : Value} (h : Row2 w g' T u v) (hne : g ≠ g') (x y : Value) : Row2 ((w.setCell ⟨g, 0, none⟩ x).setCell ⟨g, 1, none⟩ y) g' T u v := by
 unfold Row2 at h ⊢
 simp only [World.setCell, Array.getElem?_modify]
 rw [if_neg hne, if_neg hne]
 exact h
theorem Row2.filled {w : World} {g : Nat} {T : TypeId} {u v : Value} (h : Row2 w g T u v) (x y : Value) : Row2 ((w.setCell ⟨g, 0, none⟩ x).setCell ⟨g, 1, none⟩ y) g T x y := h.fill x y
section
variable {wP w : World} {q r : Nat} {s : Bool} {A : Option Addr} {n c : Nat} {xs : List Nat} {z : Int} {L : Nat} {s' : Bool} {A' : Option Addr} {n' c' : Nat} {xs' : List Nat} {z' : Int} {L' : Nat}
structure Two (wP wx : World) (q r : Nat) (s : Bool) (A : Option Addr) (n c : Nat) (xs : List Nat) (z : Int) (L : Nat) (s' : Bool) (A' : Option Addr) (n' c' : Nat) (xs' : List Nat) (z' : Int) (L' : Nat) : Prop where
 q : Row2 wx q 89 (.bool s) (.slice A n c)
 r : Row2 wx r 89 (.bool s') (.slice A' n' c')
 z : ZZ wx s A n c xs z L
 z' : ZZ wx s' A' n' c' xs' z' L'
 b : Below wP.heap.size wP wx
end
end Go.Proofs.YtannifhcjcbkcaaGreatDoor

namespace Go.Proofs.YtannifhcjcbkcaaGreatDoor
open Go.RowKit Limb
set_option linter.unusedVariables false
structure QQ (w : World) (s : Bool) (A : Option Addr) (n c : Nat) (xs : List Nat) (B : Option Addr) (m d : Nat) (ys : List Nat) (o : Option Rat) (L : Nat) : Prop where
 top : ZZ w s A n c xs (zOf s (Limb.val xs)) L
 bot : NN w B m d ys (Limb.val ys) L
 rd : readQ s xs ys = o
theorem QQ.some {w : World} {s : Bool} {A : Option Addr} {n c : Nat} {xs : List Nat} {B : Option Addr} {m d : Nat} {ys : List Nat} {q : Rat} {L : Nat} (h : QQ w s A n c xs B m d ys (some q) L) :
 s = sg q.num ∧ xs = limbs q.num.natAbs ∧ ys = limbs q.den ∧ fitsQ q = true ∧ ZZ w s A n c xs q.num 64 ∧ NN w B m d ys q.den 64 ∧ goodV s xs ys = true := by
 have hg : goodV s xs ys = true := by
  cases h2 : goodV s xs ys with
  | true => rfl
  | false => have := h.rd; rw [readQ_no h2] at this; cases this
 obtain ⟨q', e, h1, h2, h3, h4, h5, h6⟩ := readQ_yes hg
 have := h.rd
 rw [e] at this
 injection this with this
 subst this
 have hf := h4
 simp only [fitsQ, Bool.and_eq_true, decide_eq_true_eq] at hf
 refine ⟨h1, h2, h3, h4, ?_, ?_, hg⟩
 · have ht := h.top
   rw [← h5] at ht
   refine ⟨?_, ht.sgn⟩
   have hn := ht.nn
   rw [h2] at hn ⊢
   exact hn.relax hf.1
 · have hb := h.bot
   rw [← h6] at hb
   rw [h3] at hb ⊢
   exact hb.relax hf.2
theorem QQ.none {w : World} {s : Bool} {A : Option Addr} {n c : Nat} {xs : List Nat} {B : Option Addr} {m d : Nat} {ys : List Nat} {L : Nat} (h : QQ w s A n c xs B m d ys none L) : goodV s xs ys = false := by
 cases h2 : goodV s xs ys with
 | false => rfl
 | true =>
  obtain ⟨q', e, _⟩ := readQ_yes h2
  have := h.rd
  rw [e] at this
  cases this
theorem QQ.good {w : World} {s : Bool} {A : Option Addr} {n c : Nat} {xs : List Nat} {B : Option Addr} {m d : Nat} {ys : List Nat} {o : Option Rat} {L : Nat} (h : QQ w s A n c xs B m d ys o L) : goodV s xs ys = o.isSome := by
 cases o with
 | none => exact h.none
 | some q => exact h.some.2.2.2.2.2.2
end Go.Proofs.YtannifhcjcbkcaaGreatDoor

namespace Go.Proofs.YtannifhcjcbkcaaGreatDoor
open Go.RowKit Limb
set_option linter.unusedVariables false
end Go.Proofs.YtannifhcjcbkcaaGreatDoor

namespace Go.Proofs.YtannifhcjcbkcaaGreatDoor
open Go.RowKit Limb
set_option linter.unusedVariables false
end Go.Proofs.YtannifhcjcbkcaaGreatDoor

namespace Go.Proofs.YtannifhcjcbkcaaGreatDoor
open Go.RowKit Limb
set_option linter.unusedVariables false
end Go.Proofs.YtannifhcjcbkcaaGreatDoor

namespace Go.Proofs.YtannifhcjcbkcaaGreatDoor
open Go.RowKit Limb
set_option linter.unusedVariables false
end Go.Proofs.YtannifhcjcbkcaaGreatDoor

namespace Go.Proofs.YtannifhcjcbkcaaGreatDoor.Limb
set_option linter.unusedVariables false
def litRun (l : List Nat) : Nat := (l.takeWhile isDig).length
def litPoint (l : List Nat) : Nat := if lim l 0 = 46 ∧ litRun (l.drop 1) ≠ 0 then 1 + litRun (l.drop 1) else 0
def litAt (l : List Nat) : Nat := if lim l 1 = 45 then 2 else 1
def litExp (l : List Nat) : Nat := if lim l 0 = 101 ∧ litRun (l.drop (litAt l)) ≠ 0 then litAt l + min (litRun (l.drop (litAt l))) 3 else 0
def litLen (l : List Nat) : Nat :=
 if litRun l = 0 then 0 else litRun l + litPoint (l.drop (litRun l)) + litExp (l.drop (litRun l + litPoint (l.drop (litRun l))))
def litGood (l : List Nat) : Bool := decide (1 ≤ l.length) && decide (l.length ≤ 400) && decide (litLen l = l.length)
def litF : Option (List Nat) → List Nat
 | none => []
 | some p => 46 :: p
def litSg (s : Bool) : List Nat := if s = true then [45] else []
def litX : Option (Bool × List Nat) → List Nat
 | none => []
 | some (s, d) => 101 :: (litSg s ++ d)
def litMk (w : List Nat) (f : Option (List Nat)) (x : Option (Bool × List Nat)) : List Nat := w ++ litF f ++ litX x
def Dig1 (l : List Nat) : Prop := allDig l = true ∧ l ≠ []
structure LitOk (w : List Nat) (f : Option (List Nat)) (x : Option (Bool × List Nat)) : Prop where
 whole : Dig1 w
 part : ∀ p, f = some p → Dig1 p
 exp : ∀ s d, x = some (s, d) → Dig1 d ∧ d.length ≤ 3
def Ender (r : List Nat) : Prop := r = [] ∨ ∃ c t, r = c :: t ∧ isDig c = false ∧ c ≠ 46 ∧ c ≠ 101
def Ends (r : List Nat) : Prop := r = [] ∨ ∃ c t, r = c :: t ∧ isDig c = false
theorem lim_nil (k : Nat) : lim [] k = 0 := by simp [lim]
theorem lim_drop0 (l : List Nat) (k : Nat) : lim (l.drop k) 0 = lim l k := by
 simp [lim, List.getD_eq_getElem?_getD]
theorem run_ends {a r : List Nat} (ha : allDig a = true) (hr : Ends r) : (a ++ r).takeWhile isDig = a := by
 rw [List.takeWhile_append_of_pos (fun x hx => List.all_eq_true.1 ha x hx)]
 rcases hr with rfl | ⟨c, t, rfl, hc⟩
 · simp
 · rw [List.takeWhile_cons_of_neg (by simp [hc])]; simp
theorem litRun_ends {a r : List Nat} (ha : allDig a = true) (hr : Ends r) : litRun (a ++ r) = a.length := by rw [litRun, run_ends ha hr]
theorem Ender.ends {r : List Nat} (h : Ender r) : Ends r := h.imp id fun ⟨c, t, e, hc, _⟩ => ⟨c, t, e, hc⟩
theorem Dig1.pos {l : List Nat} (h : Dig1 l) : l.length ≠ 0 := fun e => h.2 (List.eq_nil_of_length_eq_zero e)
theorem Dig1.lim0 {l r : List Nat} (h : Dig1 l) : isDig (lim (l ++ r) 0) = true := by
 cases l with
 | nil => exact absurd rfl h.2
 | cons x l => exact List.all_eq_true.1 h.1 x (by simp)
theorem isDig_46 : isDig 46 = false := by decide
theorem isDig_101 : isDig 101 = false := by decide
theorem litPoint_none {r : List Nat} (h : lim r 0 ≠ 46) : litPoint r = 0 := if_neg fun h2 => h h2.1
theorem litExp_none {r : List Nat} (h : lim r 0 ≠ 101) : litExp r = 0 := if_neg fun h2 => h h2.1
theorem Ender.lim {r : List Nat} (h : Ender r) : lim r 0 ≠ 46 ∧ lim r 0 ≠ 101 := by
 rcases h with rfl | ⟨c, t, rfl, _, h1, h2⟩
 · rw [lim_nil]; exact ⟨by decide, by decide⟩
 · exact ⟨h1, h2⟩
theorem litPoint_some {p r : List Nat} (hp : Dig1 p) (hr : Ends r) : litPoint (46 :: p ++ r) = 1 + p.length := by
 have e : litRun ((46 :: p ++ r).drop 1) = p.length := by
  show litRun (p ++ r) = _
  exact litRun_ends hp.1 hr
 unfold litPoint
 rw [e, if_pos ⟨rfl, hp.pos⟩]
theorem litExp_some {s : Bool} {d r : List Nat} (hd : Dig1 d) (hl : d.length ≤ 3) (hr : Ends r) : litExp (litX (some (s, d)) ++ r) = (litX (some (s, d))).length := by
 cases s with
 | true =>
  have ea : litAt (101 :: ([45] ++ d) ++ r) = 2 := if_pos rfl
  have e : litRun ((101 :: ([45] ++ d) ++ r).drop 2) = d.length := by
   show litRun (d ++ r) = _
   exact litRun_ends hd.1 hr
  show litExp (101 :: ([45] ++ d) ++ r) = d.length + 1 + 1
  unfold litExp
  rw [ea, e, if_pos ⟨rfl, hd.pos⟩, Nat.min_eq_left hl]
  omega
 | false =>
  have h0 : lim (101 :: ([] ++ d) ++ r) 1 ≠ 45 := by
   intro h
   have h2 := hd.lim0 (r := r)
   have h3 : lim (d ++ r) 0 = 45 := h
   rw [h3] at h2
   exact absurd h2 (by decide)
  have ea : litAt (101 :: ([] ++ d) ++ r) = 1 := if_neg h0
  have e : litRun ((101 :: ([] ++ d) ++ r).drop 1) = d.length := by
   show litRun (d ++ r) = _
   exact litRun_ends hd.1 hr
  show litExp (101 :: ([] ++ d) ++ r) = d.length + 1
  unfold litExp
  rw [ea, e, if_pos ⟨rfl, hd.pos⟩, Nat.min_eq_left hl]
  omega
theorem litLen_mk {w : List Nat} {f : Option (List Nat)} {x : Option (Bool × List Nat)} {r : List Nat} (h : LitOk w f x) (hr : Ender r) : litLen (litMk w f x ++ r) = (litMk w f x).length := by
 have hXr : Ends (litX x ++ r) := by
  cases x with
  | none => exact hr.ends
  | some y => exact .inr ⟨101, _, rfl, isDig_101⟩
 have hX46 : lim (litX x ++ r) 0 ≠ 46 := by
  cases x with
  | none => exact hr.lim.1
  | some y => show (101 : Nat) ≠ 46; decide
 have hXl : litExp (litX x ++ r) = (litX x).length := by
  cases x with
  | none => exact litExp_none hr.lim.2
  | some y =>
   obtain ⟨s, d⟩ := y
   obtain ⟨h1, h2⟩ := h.exp s d rfl
   exact litExp_some h1 h2 hr.ends
 have hFr : Ends (litF f ++ (litX x ++ r)) := by
  cases f with
  | none => exact hXr
  | some p => exact .inr ⟨46, _, rfl, isDig_46⟩
 have hFl : litPoint (litF f ++ (litX x ++ r)) = (litF f).length := by
  cases f with
  | none => exact litPoint_none hX46
  | some p =>
   show litPoint (46 :: p ++ (litX x ++ r)) = p.length + 1
   rw [litPoint_some (h.part p rfl) hXr]; omega
 have e : litMk w f x ++ r = w ++ (litF f ++ (litX x ++ r)) := by unfold litMk; simp
 have e1 : litRun (w ++ (litF f ++ (litX x ++ r))) = w.length := litRun_ends h.whole.1 hFr
 rw [e]
 unfold litLen litMk
 rw [e1, if_neg h.whole.pos, List.drop_left, hFl]
 have e3 : (w ++ (litF f ++ (litX x ++ r))).drop (w.length + (litF f).length) = litX x ++ r := by
  rw [← List.drop_drop, List.drop_left, List.drop_left]
 rw [e3, hXl, List.length_append, List.length_append]
theorem litRun_le (l : List Nat) : litRun l ≤ l.length := (List.takeWhile_sublist _).length_le
theorem take_run (l : List Nat) : l.take (litRun l) = l.takeWhile isDig := (List.prefix_iff_eq_take.1 (List.takeWhile_prefix isDig)).symm
theorem allDig_run (l : List Nat) : allDig (l.takeWhile isDig) = true := by
 rw [allDig, List.all_eq_true]
 intro x hx
 have h := List.all_takeWhile (p := isDig) (l := l)
 exact List.all_eq_true.1 h x hx
theorem dig1_take {l : List Nat} {k : Nat} (h0 : litRun l ≠ 0) (hk : 0 < k) (hl : k ≤ litRun l) : Dig1 (l.take k) := by
 have e : l.take k = (l.takeWhile isDig).take k := by rw [← take_run, List.take_take, Nat.min_eq_left hl]
 rw [e]
 refine ⟨?_, ?_⟩
 · exact allDig_iff.2 fun x hx => allDig_iff.1 (allDig_run l) x (List.mem_of_mem_take hx)
 · intro h
   have h2 : min k (l.takeWhile isDig).length = 0 := by rw [← List.length_take, h]; rfl
   have h3 : litRun l = (l.takeWhile isDig).length := rfl
   omega
theorem lim_ne_cons {l : List Nat} {v : Nat} (h : lim l 0 = v) (hv : v ≠ 0) : l = v :: l.drop 1 := by
 cases l with
 | nil => rw [lim_nil] at h; exact absurd h.symm hv
 | cons x l => rw [show x = v from h]; rfl
theorem point_parts (r : List Nat) : ∃ f, (∀ p, f = some p → Dig1 p) ∧ r.take (litPoint r) = litF f ∧ litPoint r ≤ r.length := by
 unfold litPoint
 by_cases h : lim r 0 = 46 ∧ litRun (r.drop 1) ≠ 0
 · rw [if_pos h]
   refine ⟨some ((r.drop 1).take (litRun (r.drop 1))), fun p hp => ?_, ?_, ?_⟩
   · injection hp with hp
     subst hp
     exact dig1_take h.2 (Nat.pos_of_ne_zero h.2) (Nat.le_refl _)
   · conv => lhs; rw [lim_ne_cons h.1 (by decide)]
     rw [Nat.add_comm 1]; rfl
   · have h1 := litRun_le (r.drop 1)
     rw [List.length_drop] at h1
     omega
 · rw [if_neg h]
   exact ⟨none, (fun p hp => by cases hp), rfl, Nat.zero_le _⟩
theorem exp_parts (r : List Nat) : ∃ x, (∀ s d, x = some (s, d) → Dig1 d ∧ d.length ≤ 3) ∧ r.take (litExp r) = litX x ∧ litExp r ≤ r.length := by
 unfold litExp
 by_cases h : lim r 0 = 101 ∧ litRun (r.drop (litAt r)) ≠ 0
 · rw [if_pos h]
   have h1 := litRun_le (r.drop (litAt r))
   rw [List.length_drop] at h1
   have hd : Dig1 ((r.drop (litAt r)).take (min (litRun (r.drop (litAt r))) 3)) := dig1_take h.2 (by have := h.2; omega) (Nat.min_le_left _ _)
   have hl : ((r.drop (litAt r)).take (min (litRun (r.drop (litAt r))) 3)).length ≤ 3 := by rw [List.length_take]; omega
   have hc := lim_ne_cons h.1 (by decide)
   by_cases h45 : lim r 1 = 45
   · have ea : litAt r = 2 := if_pos h45
     have h5 := h.2
     rw [ea] at h1 hd hl h5 ⊢
     refine ⟨some (true, (r.drop 2).take (min (litRun (r.drop 2)) 3)), fun s d e => ?_, ?_, by omega⟩
     · injection e with e; injection e with e1 e2; subst e2; exact ⟨hd, hl⟩
     · have hc2 : r.drop 1 = 45 :: r.drop 2 := by
        have h2 : lim (r.drop 1) 0 = 45 := by rw [lim_drop0]; exact h45
        have h3 := lim_ne_cons h2 (by decide)
        rwa [List.drop_drop] at h3
       generalize min (litRun (r.drop 2)) 3 = k
       have e : r.take (2 + k) = 101 :: 45 :: (r.drop 2).take k := by
        conv => lhs; rw [hc, hc2]
        rw [show 2 + k = k + 1 + 1 by omega]; rfl
       exact e
   · have ea : litAt r = 1 := if_neg h45
     have h5 := h.2
     rw [ea] at h1 hd hl h5 ⊢
     refine ⟨some (false, (r.drop 1).take (min (litRun (r.drop 1)) 3)), fun s d e => ?_, ?_, by omega⟩
     · injection e with e; injection e with e1 e2; subst e2; exact ⟨hd, hl⟩
     · generalize min (litRun (r.drop 1)) 3 = k
       have e : r.take (1 + k) = 101 :: (r.drop 1).take k := by
        conv => lhs; rw [hc]
        rw [show 1 + k = k + 1 by omega]; rfl
       exact e
 · rw [if_neg h]
   exact ⟨none, (fun s d hp => by cases hp), rfl, Nat.zero_le _⟩
theorem litLen_parts {l : List Nat} (h : litLen l ≠ 0) : ∃ w f x, LitOk w f x ∧ l.take (litLen l) = litMk w f x := by
 have h0 : litRun l ≠ 0 := fun e => h (if_pos e)
 obtain ⟨f, f1, f2, f3⟩ := point_parts (l.drop (litRun l))
 obtain ⟨x, x1, x2, x3⟩ := exp_parts (l.drop (litRun l + litPoint (l.drop (litRun l))))
 refine ⟨l.takeWhile isDig, f, x, ⟨⟨allDig_run l, fun e => h0 (by rw [litRun, e]; rfl)⟩, f1, x1⟩, ?_⟩
 unfold litLen litMk
 rw [if_neg h0, List.take_add, List.take_add, take_run, f2, x2]
theorem litLen_le (l : List Nat) : litLen l ≤ l.length := by
 unfold litLen
 split
 · exact Nat.zero_le _
 · obtain ⟨_, _, _, f3⟩ := point_parts (l.drop (litRun l))
   obtain ⟨_, _, _, x3⟩ := exp_parts (l.drop (litRun l + litPoint (l.drop (litRun l))))
   have h1 := litRun_le l
   rw [List.length_drop] at f3 x3
   omega
theorem Ender.nil : Ender [] := .inl rfl
theorem Ender.of {c : Nat} (t : List Nat) (h : isDig c = false ∧ c ≠ 46 ∧ c ≠ 101) : Ender (c :: t) := .inr ⟨c, t, rfl, h⟩
theorem litGood_iff {l : List Nat} : litGood l = true ↔ 1 ≤ l.length ∧ l.length ≤ 400 ∧ litLen l = l.length := by
 simp [litGood, and_assoc]
theorem litLen_more {l : List Nat} (h : litGood l = true) {c : Nat} (t : List Nat) (hc : isDig c = false ∧ c ≠ 46 ∧ c ≠ 101) : litLen (l ++ c :: t) = l.length := by
 obtain ⟨h1, h2, h3⟩ := litGood_iff.1 h
 obtain ⟨w, f, x, hok, e⟩ := litLen_parts (l := l) (by omega)
 rw [h3, List.take_length] at e
 rw [e]
 exact litLen_mk hok (Ender.of t hc)
theorem litGood_mk {w : List Nat} {f : Option (List Nat)} {x : Option (Bool × List Nat)} (h : LitOk w f x) (hl : (litMk w f x).length ≤ 400) : litGood (litMk w f x) = true := by
 have h2 := litLen_mk h Ender.nil
 rw [List.append_nil] at h2
 refine litGood_iff.2 ⟨?_, hl, h2⟩
 have := h.whole.pos
 unfold litMk
 rw [List.length_append, List.length_append]
 omega
end Go.Proofs.YtannifhcjcbkcaaGreatDoor.Limb

namespace Go.Proofs.YtannifhcjcbkcaaGreatDoor
open Go.RowKit Go.ChangeShapes Limb
set_option linter.unusedVariables false
def kindsL : List Int := [0, 0, 0, 0, 0, 0, 0, 0, 0, 0, 0, 0, 0, 0, 0, 0, 0, 0, 0, 0, 0, 0, 0, 0, 0, 0, 0, 0, 0, 0, 0, 0, 0, 0, 0, 0, 0, 0, 0, 0, 0, 0, 0, 0, 0, 4, 2, 0, 1, 1, 1, 1, 1, 1, 1, 1, 1, 1, 0, 0, 0, 0, 0, 0, 0, 0, 0, 0, 0, 0, 0, 0, 0, 0, 0, 0, 0, 0, 0, 0, 0, 0, 0, 0, 0, 0, 0, 0, 0, 0, 0, 0, 0, 0, 0, 0, 0, 0, 0, 0, 0, 3]
def kindN (c : Nat) : Nat := if c = 45 then 4 else if c = 46 then 2 else if c = 101 then 3 else if isDig c = true then 1 else 0
theorem kinds_at : ∀ i, i < 102 → kindsL.getD i 0 = ((kindN i : Nat) : Int) := by decide
theorem kcell_lt {w : World} {a : Addr} {v : Value} (h : w.cell? a = some v) : a.block < w.heap.size := by
 rcases Nat.lt_or_ge a.block w.heap.size with h1 | h1
 · exact h1
 · simp [World.cell?, Array.getElem?_eq_none h1] at h
def KTab (w : World) : Prop := ∀ i, i < 102 → w.cell? ⟨7, i, none⟩ = some (.int .u8 ((kindN i : Nat) : Int))
theorem KTab.below {w w' : World} (h : KTab w) (hb : Below w.heap.size w w') : KTab w' := fun i hi => (hb.cell (p := ⟨7, i, none⟩) (kcell_lt (h i hi))).trans (h i hi)
set_option maxRecDepth 4000 in
theorem kinds_tab {W : World} {name : String} {r : List (String × DataW Unit)} (h : laidMet Tryz.prog ((name, Lib.tabData .u8 kindsL) :: r) W) (hg : Tryz.prog.globalNamed name = some 7) :
 ∀ i, i < 102 → W.cell? ⟨7, i, none⟩ = some (.int .u8 ((kindN i : Nat) : Int)) := fun i hi => by
 have hT := Lib.tabIs_of_head hg (t := 204) (by kernel_rfl) Tryz.underlying204 Tryz.underlying5 (by kernel_rfl) (by kernel_rfl) h
 rw [hT.cell hg i hi, kinds_at i hi]
end Go.Proofs.YtannifhcjcbkcaaGreatDoor

namespace Go.Proofs.YtannifhcjcbkcaaGreatDoor
open Go.RowKit Limb
set_option linter.unusedVariables false
abbrev Tk := Nat × List Nat × Nat
def isLt (c : Nat) : Bool := (decide (97 ≤ c) && decide (c ≤ 122)) || (decide (65 ≤ c) && decide (c ≤ 90)) || decide (c = 95)
def isLw (c : Nat) : Bool := isLt c || isDig c
def isSg (c : Nat) : Bool := [40, 41, 43, 45, 42, 47, 94, 61, 59, 58].contains c
def isBl (c : Nat) : Bool := decide (c = 32) || decide (c = 9) || decide (c = 10)
def notNl (c : Nat) : Bool := decide (c ≠ 10)
def inUn (c : Nat) : Bool := decide (c ≠ 93) && decide (c ≠ 10)
def stopN : List Nat → Bool
 | [] => false
 | d :: _ => isLt d || decide (d = 46)
def closeU : List Nat → Bool
 | [] => false
 | d :: _ => decide (d = 93)
inductive LS where
 | skip : Nat → LS
 | tok : Nat → List Nat → Nat → LS
 | bad : LS
def lexS (c : Nat) (r : List Nat) : LS :=
 if isBl c = true then .skip 1
 else if c = 35 then .skip (1 + (r.takeWhile notNl).length)
 else if isLt c = true then
  if 16 < 1 + (r.takeWhile isLw).length then .bad else .tok 1 ((c :: r).take (1 + (r.takeWhile isLw).length)) (1 + (r.takeWhile isLw).length)
 else if isDig c = true then
  if 400 < litLen (c :: r) ∨ stopN ((c :: r).drop (litLen (c :: r))) = true then .bad else .tok 2 ((c :: r).take (litLen (c :: r))) (litLen (c :: r))
 else if c = 91 then
  if (r.takeWhile inUn).length = 0 ∨ 200 < (r.takeWhile inUn).length ∨ closeU (r.drop (r.takeWhile inUn).length) = false then .bad else .tok 4 (r.take (r.takeWhile inUn).length) ((r.takeWhile inUn).length + 2)
 else if isSg c = true then .tok 3 [c] 1
 else .bad
inductive LR where
 | ok : List Tk → LR
 | bad : Nat → LR
def consL (t : Tk) : LR → LR
 | .ok l => .ok (t :: l)
 | .bad p => .bad p
def lexR : Nat → Nat → List Nat → LR
 | 0, a, _ => .bad a
 | f + 1, _, [] => .ok []
 | f + 1, a, c :: r =>
  match lexS c r with
  | .skip n => lexR f (a + n) ((c :: r).drop n)
  | .tok k t n => consL (k, t, a) (lexR f (a + n) ((c :: r).drop n))
  | .bad => .bad a
def lexT (l : List Nat) : LR := lexR (l.length + 1) 0 l
def lexV (l : List Nat) : List Tk × Int × Int := if 4000 < l.length then ([], 2, 0) else match lexT l with | .ok ts => (ts, 0, 0) | .bad p => ([], 11, p)
theorem litLen_pos {c : Nat} {r : List Nat} (h : isDig c = true) : 1 ≤ litLen (c :: r) := by
 have h1 : litRun (c :: r) = (litRun r) + 1 := by
  unfold litRun
  rw [List.takeWhile_cons_of_pos h]; rfl
 unfold litLen
 rw [if_neg (by omega)]
 omega
theorem lexS_len {c : Nat} {r : List Nat} : (∀ n, lexS c r = .skip n → 1 ≤ n ∧ n ≤ r.length + 1) ∧ ∀ k t n, lexS c r = .tok k t n → 1 ≤ n ∧ n ≤ r.length + 1 := by
 have w : ∀ p : Nat → Bool, (r.takeWhile p).length ≤ r.length := fun p => (List.takeWhile_sublist _).length_le
 have hl := litLen_le (c :: r)
 simp only [List.length_cons] at hl
 refine ⟨fun n h => ?_, fun k t n h => ?_⟩
 · unfold lexS at h
   split at h
   · cases h; omega
   · split at h
     · cases h; have := w notNl; omega
     · split at h
       · split at h <;> cases h
       · split at h
         · split at h <;> cases h
         · split at h
           · split at h <;> cases h
           · split at h <;> cases h
 · unfold lexS at h
   split at h
   · cases h
   · split at h
     · cases h
     · split at h
       · split at h
         · cases h
         · cases h; have := w isLw; omega
       · split at h
         · rename_i hd
           split at h
           · cases h
           · cases h; exact ⟨litLen_pos hd, hl⟩
         · split at h
           · split at h
             · cases h
             · rename_i hn
               cases h
               have h1 := w inUn
               have h2 : closeU (r.drop (r.takeWhile inUn).length) = true := by
                rcases Bool.eq_false_or_eq_true (closeU (r.drop (r.takeWhile inUn).length)) with e | e
                · exact e
                · exact absurd (.inr (.inr e)) hn
               have h3 : (r.takeWhile inUn).length < r.length := by
                rcases Nat.lt_or_ge (r.takeWhile inUn).length r.length with e | e
                · exact e
                · rw [List.drop_eq_nil_of_le e] at h2; cases h2
               omega
           · split at h
             · cases h; omega
             · cases h
theorem lexR_fuel : ∀ (f f' a : Nat) (l : List Nat), l.length < f → l.length < f' → lexR f a l = lexR f' a l
 | 0, _, _, l, h, _ => absurd h (by omega)
 | f + 1, 0, _, l, _, h => absurd h (by omega)
 | f + 1, f' + 1, a, [], _, _ => rfl
 | f + 1, f' + 1, a, c :: r, h1, h2 => by
  simp only [List.length_cons] at h1 h2
  unfold lexR
  have hl := lexS_len (c := c) (r := r)
  cases e : lexS c r with
  | bad => rfl
  | skip n =>
   have := hl.1 n e
   exact lexR_fuel f f' _ _ (by rw [List.length_drop, List.length_cons]; omega) (by rw [List.length_drop, List.length_cons]; omega)
  | tok k t n =>
   have := hl.2 k t n e
   dsimp only
   rw [lexR_fuel f f' _ _ (by rw [List.length_drop, List.length_cons]; omega) (by rw [List.length_drop, List.length_cons]; omega)]
/-! ### a sign behind that ends every token -/
def appL (ts : List Tk) : LR → LR
 | .ok l => .ok (ts ++ l)
 | .bad p => .bad p
end Go.Proofs.YtannifhcjcbkcaaGreatDoor

namespace Go.Proofs.YtannifhcjcbkcaaGreatDoor
open Go.RowKit Limb
set_option linter.unusedVariables false
def isWdB : List Nat → Bool
 | [] => false
 | c :: r => isLt c && r.all isLw && decide (r.length < 16)
def okTk (t : Tk) : Bool :=
 if t.1 = 1 then isWdB t.2.1 else if t.1 = 2 then litGood t.2.1 else if t.1 = 3 then decide (t.2.1.length = 1) else if t.1 = 4 then decide (1 ≤ t.2.1.length) && decide (t.2.1.length ≤ 200) else false
theorem lt_not {c : Nat} (h : isLt c = true) : isBl c = false ∧ c ≠ 35 := by
 refine ⟨?_, ?_⟩
 · rcases Bool.eq_false_or_eq_true (isBl c) with e | e
   · exfalso
     unfold isBl at e
     simp only [Bool.or_eq_true, decide_eq_true_eq] at e
     rcases e with (rfl | rfl) | rfl <;> exact absurd h (by decide)
   · exact e
 · rintro rfl; exact absurd h (by decide)
theorem take_whileL {p : Nat → Bool} : ∀ l : List Nat, l.take (l.takeWhile p).length = l.takeWhile p
 | [] => rfl
 | a :: l => by
  by_cases h : p a = true
  · rw [List.takeWhile_cons_of_pos h, List.length_cons, List.take_succ_cons, take_whileL l]
  · rw [List.takeWhile_cons_of_neg h]; rfl
theorem take_all {p : Nat → Bool} : ∀ {l : List Nat}, l.all p = true → l.takeWhile p = l
 | [], _ => rfl
 | a :: l, h => by
  simp only [List.all_cons, Bool.and_eq_true] at h
  rw [List.takeWhile_cons_of_pos h.1, take_all h.2]
theorem lexS_kind {c : Nat} {r : List Nat} {k n a : Nat} {s : List Nat} (h : lexS c r = .tok k s n) : okTk (k, s, a) = true := by
 have hl := litLen_le (c :: r)
 unfold lexS at h
 split at h
 · cases h
 · split at h
   · cases h
   · split at h
     · rename_i hc
       split at h
       · cases h
       · rename_i hn
         cases h
         show isWdB ((c :: r).take (1 + (r.takeWhile isLw).length)) = true
         rw [Nat.add_comm 1, List.take_succ_cons, take_whileL]
         show (isLt c && (r.takeWhile isLw).all isLw && decide ((r.takeWhile isLw).length < 16)) = true
         rw [hc, List.all_takeWhile, decide_eq_true (by omega)]
         rfl
     · split at h
       · rename_i hd
         split at h
         · cases h
         · rename_i hn
           cases h
           show litGood ((c :: r).take (litLen (c :: r))) = true
           have h1 := litLen_pos (r := r) hd
           have h4 : litLen (c :: r) ≤ 400 := by
            rcases Nat.lt_or_ge 400 (litLen (c :: r)) with e | e
            · exact absurd (.inl e) hn
            · exact e
           obtain ⟨w, f, x, hok, e⟩ := litLen_parts (l := c :: r) (by omega)
           have e2 := congrArg List.length e
           rw [List.length_take] at e2
           rw [e]
           exact litGood_mk hok (by omega)
       · split at h
         · split at h
           · cases h
           · rename_i hn
             cases h
             have w : (r.takeWhile inUn).length ≤ r.length := (List.takeWhile_sublist _).length_le
             have e1 : (r.take (r.takeWhile inUn).length).length = (r.takeWhile inUn).length := by rw [List.length_take]; omega
             show (decide _ && decide _) = true
             simp only [e1]
             rw [decide_eq_true, decide_eq_true]
             · rfl
             · rcases Nat.lt_or_ge 200 (r.takeWhile inUn).length with e | e
               · exact absurd (.inr (.inl e)) hn
               · exact e
             · rcases Nat.eq_zero_or_pos (r.takeWhile inUn).length with e | e
               · exact absurd (.inl e) hn
               · exact e
         · split at h
           · cases h; rfl
           · cases h
end Go.Proofs.YtannifhcjcbkcaaGreatDoor

namespace Go.Proofs.YtannifhcjcbkcaaGreatDoor
open Go.RowKit Limb
set_option linter.unusedVariables false
def rawT (t : Tk) : List Nat := if t.1 = 4 then 91 :: (t.2.1 ++ [93]) else t.2.1
theorem notNl_of {x : List Nat} (h : ∀ c ∈ x, notNl c = true) : ∀ c ∈ x, c ≠ 10 := fun c hc => by
 have := h c hc
 unfold notNl at this
 simpa using this
theorem while_mem {p : Nat → Bool} : ∀ {l : List Nat}, ∀ c ∈ l.takeWhile p, p c = true
 | [], c, h => by simp at h
 | a :: l, c, h => by
  by_cases ha : p a = true
  · rw [List.takeWhile_cons_of_pos ha] at h
    rcases List.mem_cons.1 h with rfl | h
    · exact ha
    · exact while_mem c h
  · rw [List.takeWhile_cons_of_neg ha] at h; simp at h
theorem while_next {p : Nat → Bool} : ∀ {l : List Nat} {c : Nat} {r : List Nat}, l.drop (l.takeWhile p).length = c :: r → p c = false
 | [], c, r, h => by simp at h
 | a :: l, c, r, h => by
  by_cases ha : p a = true
  · rw [List.takeWhile_cons_of_pos ha, List.length_cons, List.drop_succ_cons] at h
    exact while_next h
  · rw [List.takeWhile_cons_of_neg ha] at h
    simp at h
    obtain ⟨rfl, _⟩ := h
    simpa using ha
theorem close_at {r : List Nat} {n : Nat} (h : closeU (r.drop n) = true) : ∃ q, r.drop n = 93 :: q := by
 cases e : r.drop n with
 | nil => rw [e] at h; cases h
 | cons d q => rw [e] at h; unfold closeU at h; simp at h; exact ⟨q, by rw [h]⟩
theorem raw_at {c : Nat} {r s : List Nat} {k n a : Nat} (h : lexS c r = .tok k s n) : (rawT (k, s, a)).length = n ∧ (c :: r).take n = rawT (k, s, a) := by
 have hl := lexS_len.2 k s n h
 have e1 : (c :: r).take n = rawT (k, s, a) → (rawT (k, s, a)).length = n := fun e => by rw [← e, List.length_take, List.length_cons]; omega
 have key : (c :: r).take n = rawT (k, s, a) := by
  unfold lexS at h
  split at h
  · cases h
  · split at h
    · cases h
    · split at h
      · split at h <;> cases h; rfl
      · split at h
        · split at h <;> cases h; rfl
        · split at h
          · rename_i h91
            subst h91
            split at h
            · cases h
            · rename_i hn
              have hc : closeU (r.drop (r.takeWhile inUn).length) = true := by
               rcases Bool.eq_false_or_eq_true (closeU (r.drop (r.takeWhile inUn).length)) with e | e
               · exact e
               · exact absurd (.inr (.inr e)) hn
              cases h
              obtain ⟨q, hq⟩ := close_at hc
              show (91 :: r).take ((r.takeWhile inUn).length + 2) = 91 :: (r.take (r.takeWhile inUn).length ++ [93])
              rw [List.take_succ_cons, List.take_add, hq]
              rfl
          · split at h
            · cases h; rfl
            · cases h
 exact ⟨e1 key, key⟩
end Go.Proofs.YtannifhcjcbkcaaGreatDoor

namespace Go.Proofs.YtannifhcjcbkcaaGreatDoor
open Go.RowKit Limb
set_option linter.unusedVariables false
theorem drop_lim {l : List Nat} {i : Nat} (h : i < l.length) : l.drop i = lim l i :: l.drop (i + 1) := by
 rw [List.drop_eq_getElem_cons h]
 simp [lim, List.getD_eq_getElem?_getD, h]
end Go.Proofs.YtannifhcjcbkcaaGreatDoor
