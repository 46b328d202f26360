/- Part 0 of the texts that the statements of this seat lean on: mathematics, and what functions answer, as contracts over memory; each part says its own conditions. -/
import Derived.Orders
import Derived.Below
import Derived.Laws.Strings
import Derived.Laws.Concat
import Derived.Lib.LaidTab
import Derived.Stop.LaidErr
import Derived.RowKit
import Derived.Test.YtannifhcjcbkcaaGreatDoorRows
import Derived.WalkKit
import Derived.WalkSpells
import Derived.WalkLawsBesides
import Derived.Lib.Hide
import Derived.Laws.BitsAllLaws
import Derived.Laws.CopyOwn
import Derived.BigQuiet
import Derived.Deep.QuietTactic
import Derived.Deep.Draws
import Derived.Lib.BitFns
import Derived.Maps.AppendAt
import Derived.Laws.IdiomStrings
import Derived.RegionTactic
import Derived.BigRegion
import Derived.ChangeAlike
import Derived.Laws.Rows
import Derived.Deep.RegionWith
import Derived.Deep.RegionHeld3
import Derived.Deep.CutRange
set_option linter.unusedVariables false
set_option maxHeartbeats 8000000
namespace Go.Proofs.YtannifhcjcbkcaaGreatDoor.Limb
open Lib (hid)
def val : List Nat → Nat
 | [] => 0
 | x :: xs => x + 4294967296 * val xs
def Small (xs : List Nat) : Prop := ∀ x ∈ xs, x < 4294967296
def limbsTo : Nat → Nat → List Nat
 | 0, _ => []
 | f + 1, n => if n = 0 then [] else (n % 4294967296) :: limbsTo f (n / 4294967296)
def limbs (n : Nat) : List Nat := limbsTo n n
def lim (xs : List Nat) (k : Nat) : Nat := xs.getD k 0
end Go.Proofs.YtannifhcjcbkcaaGreatDoor.Limb
namespace Go.Proofs.YtannifhcjcbkcaaGreatDoor
open Go.RowKit
open Lib (hid)
section
variable {P : Program} {ops : Array Oper} {Q : Exit → Act → World → Prop} {md : Region.Mode}
def left (listed : Array Bool) : Nat → Nat
 | 0 => 0
 | k + 1 => left listed k + (if listed.getD k false = true then 0 else 1)
theorem left_zero {listed : Array Bool} : ∀ {m}, left listed m = 0 → ∀ k, k < m → listed.getD k false = true
 | 0, _, k, hk => by omega
 | m + 1, h, k, hk => by
  unfold left at h
  split at h
  · rename_i h1
    rcases Nat.lt_or_ge k m with h2 | h2
    · exact left_zero (by omega) k h2
    · obtain rfl : k = m := by omega
      exact h1
  · omega
theorem xvo {listed : Array Bool} {i : Nat} (h : i < listed.size) (d : Bool) : (listed.setIfInBounds i true).getD i d = true := by
 simp [Array.getD_eq_getD_getElem?, h]
theorem xzv {listed : Array Bool} {i k : Nat} (h : i ≠ k) (d : Bool) : (listed.setIfInBounds i true).getD k d = listed.getD k d := by
 simp [Array.getD_eq_getD_getElem?, h]
theorem left_same {listed : Array Bool} {i : Nat} : ∀ {m}, m ≤ i → left (listed.setIfInBounds i true) m = left listed m
 | 0, _ => rfl
 | m + 1, h => by
  unfold left;rw [left_same (by omega), xzv (by omega)]
theorem left_set {listed : Array Bool} {i : Nat} (hs : i < listed.size) (hi : listed.getD i false = false) : ∀ {m}, i < m → left (listed.setIfInBounds i true) m + 1 = left listed m
 | 0, h => by omega
 | m + 1, h => by
  unfold left;rcases Nat.lt_or_ge i m with h1 | h1
  · have := left_set hs hi h1;rw [xzv (by omega)];omega
  · obtain rfl : i = m := by omega
    rw [left_same (Nat.le_refl _), xvo hs, hi]
    simp
theorem yq0 (m : Nat) (J : Array Bool → Act → World → Prop)
 (hsize : ∀ l a w, J l a w → l.size = ops.size ∧ ∀ k, m ≤ k → l.getD k false = false)
 (hm : m ≤ ops.size)
 (hback : ∀ (i : Nat) (o : Oper), i < m → ops[i]? = some o → ∀ e ∈ o.after, Region.binds md e = true → e.on < i)
 (hstep : ∀ l a w i, J l a w → i ∈ Region.ready md ops l → i < m → wpOp P ops Q i (fun a' w' => J (l.setIfInBounds i true) a' w') a w)
 (hwait : ∀ l a w i, J l a w → i ∈ Region.ready md ops l → m ≤ i → ∀ k, k < m → l.getD k false = true)
 (hfin : ∀ l a w, J l a w → (∀ k, k < m → l.getD k false = true) → wpAny P md ops Q (ops.size - m) l a w) :
 ∀ (c : Nat) (l : Array Bool) (a : Act) (w : World), left l m = c → J l a w → wpAny P md ops Q (ops.size - m + c) l a w := by
 intro c;induction c with
 | zero => exact fun l a w hc hj => hfin l a w hj (left_zero hc)
 | succ c ih =>
  intro l a w hc hj;obtain ⟨hs, hlater⟩ := hsize l a w hj;have hex : ∃ k, k < m ∧ l.getD k false = false := by
   rcases Classical.em (∃ k, k < m ∧ l.getD k false = false) with h | h
   · exact h
   · exfalso
     have hall : ∀ k, k < m → l.getD k false = true := fun k hk => by
      cases hb : l.getD k false with
      | true => rfl
      | false => exact absurd ⟨k, hk, hb⟩ h
     have hz : ∀ j, j ≤ m → left l j = 0 := fun j => by
      induction j with
      | zero => exact fun _ => rfl
      | succ j ihj => exact fun hj2 => by unfold left; rw [ihj (by omega), hall j (by omega)]; rfl
     have := hz m (Nat.le_refl _);omega
  refine ⟨fun hr => ?_, fun i hi => ?_⟩
  · exfalso
    -- the least one that has not come up may come up
    obtain ⟨k0, hk0, hb0⟩ := hex;have hleast : ∀ n, (∃ k, k ≤ n ∧ k < m ∧ l.getD k false = false) → ∃ k, k < m ∧ l.getD k false = false ∧ ∀ j, j < k → l.getD j false = true := by
     intro n;induction n with
     | zero =>
      rintro ⟨k, h1, h2, h3⟩;obtain rfl : k = 0 := by omega
      exact ⟨0, h2, h3, fun j hj2 => by omega⟩
     | succ n ihn =>
      rintro ⟨k, h1, h2, h3⟩;rcases Classical.em (∃ k, k ≤ n ∧ k < m ∧ l.getD k false = false) with h | h
      · exact ihn h
      · refine ⟨k, h2, h3, fun j hj2 => ?_⟩;cases hb : l.getD j false with
        | true => rfl
        | false => exact absurd ⟨j, by omega, by omega, hb⟩ h
    obtain ⟨k, hk, hb, hmin⟩ := hleast k0 ⟨k0, Nat.le_refl _, hk0, hb0⟩;have hko : k < ops.size := by omega
    have : k ∈ Region.ready md ops l := mem_ready.2 ⟨by
     simp only [Array.getD_eq_getD_getElem?] at hb ⊢;rw [Array.getElem?_eq_getElem (by omega)] at hb ⊢
     simpa using hb, ops[k], Array.getElem?_eq_getElem hko, fun e he hbi => hmin _ (hback k _ hk (Array.getElem?_eq_getElem hko) e he hbi)⟩
    rw [hr] at this;cases this
  · rcases Nat.lt_or_ge i m with h1 | h1
    · have hu : l.getD i false = false := by
       have h2 := (mem_ready.1 hi).1;simp only [Array.getD_eq_getD_getElem?] at h2 ⊢;rw [Array.getElem?_eq_getElem (by omega)] at h2 ⊢
       simpa using h2
      have hl := left_set (m := m) (by omega : i < l.size) hu h1;exact wpOp_mono (fun a' w' hj2 => ih _ a' w' (by omega) hj2) (hstep l a w i hj hi h1)
    · exfalso
      obtain ⟨k, hk, hb⟩ := hex;rw [hwait l a w i hj hi h1 k hk] at hb;cases hb
def xq4 (ops : Array Oper) (i : Nat) : List Nat :=
 match ops[i]? with
 | some o => (o.after.toList.filter (Region.binds .any)).map fun e => e.on
 | none => []
theorem xzf {l : Array Bool} {i e : Nat} (hi : i ∈ Region.ready .any ops l) (he : e ∈ xq4 ops i) : l.getD e false = true := by
 obtain ⟨_, o, ho, h⟩ := mem_ready.1 hi;unfold xq4 at he;rw [ho] at he;obtain ⟨x, hx, rfl⟩ := List.mem_map.1 he;obtain ⟨h1, h2⟩ := List.mem_filter.1 hx;exact h x (by simpa using h1) h2
def anc (ops : Array Oper) : Nat → Nat → List Nat
 | 0, _ => []
 | f + 1, i => xq4 ops i ++ (xq4 ops i).flatMap (anc ops f)
theorem anc_up {l : Array Bool} (hd : ∀ k, l.getD k false = true → ∀ e ∈ xq4 ops k, l.getD e false = true) : ∀ (f i : Nat), (∀ e ∈ xq4 ops i, l.getD e false = true) → ∀ e ∈ anc ops f i, l.getD e false = true
 | 0, _, _, e, he => by cases he
 | f + 1, i, h, e, he => by
  unfold anc at he;rcases List.mem_append.1 he with h1 | h1
  · exact h e h1
  · obtain ⟨x, hx, hy⟩ := List.mem_flatMap.1 h1;exact anc_up hd f x (hd x (h x hx)) e hy
def isPlain : Op → Bool
 | .select _ _ => false
 | _ => true
def fill (D : Nat → Option Tmp) (vals : Nat → Value) (l : Array Bool) (a : Act) : Nat → Act
 | 0 => a
 | k + 1 => if l.getD k false = true then (fill D vals l a k).put (D k) (vals k) else fill D vals l a k
def xqx (D : Nat → Option Tmp) (vals : Nat → Value) (a : Act) : Nat → Act
 | 0 => a
 | k + 1 => (xqx D vals a k).put (D k) (vals k)
def upd (vals : Nat → Value) (i : Nat) (v : Value) : Nat → Value := fun k => if k = i then v else vals k
theorem put_size (a : Act) (d : Option Tmp) (v : Value) : (a.put d v).tmps.size = a.tmps.size := by
 cases d <;> simp [Act.put]
theorem xz9 (a : Act) (d : Option Tmp) (v : Value) : (a.put d v).defers = a.defers := by
 cases d <;> rfl
theorem yjn (a : Act) (d : Tmp) (v : Value) (h : d < a.tmps.size) : (a.put (some d) v).eval (.tmp d) = v := by
 simp [Act.put, Act.eval, Array.getD_eq_getD_getElem?, h]
theorem yvi (D : Nat → Option Tmp) (vals : Nat → Value) (l : Array Bool) (a : Act) : ∀ m, (fill D vals l a m).tmps.size = a.tmps.size
 | 0 => rfl
 | m + 1 => by unfold fill; split <;> simp [put_size, yvi]
theorem xzp (D : Nat → Option Tmp) (vals : Nat → Value) (a : Act) : ∀ m, (xqx D vals a m).tmps.size = a.tmps.size
 | 0 => rfl
 | m + 1 => by simp [xqx, put_size, xzp]
theorem xvx (D : Nat → Option Tmp) (vals : Nat → Value) (l : Array Bool) (a : Act) : ∀ m, (fill D vals l a m).defers = a.defers
 | 0 => rfl
 | m + 1 => by unfold fill; split <;> simp [xz9, xvx]
theorem xzj (D : Nat → Option Tmp) (vals : Nat → Value) (a : Act) : ∀ m, (xqx D vals a m).defers = a.defers
 | 0 => rfl
 | m + 1 => by simp [xqx, xz9, xzj]
theorem yjr {D : Nat → Option Tmp} {vals : Nat → Value} {l : Array Bool} {a : Act} : ∀ {m}, (∀ k, k < m → l.getD k false = true) → fill D vals l a m = xqx D vals a m
 | 0, _ => rfl
 | m + 1, h => by
  unfold fill xqx;rw [if_pos (h m (by omega)), yjr fun k hk => h k (by omega)]
theorem yqh {D : Nat → Option Tmp} {vals : Nat → Value} {l : Array Bool} {a : Act} : ∀ {m}, (∀ k, k < m → l.getD k false = false) → fill D vals l a m = a
 | 0, _ => rfl
 | m + 1, h => by
  unfold fill;rw [if_neg (by simp [h m (by omega)]), yqh fun k hk => h k (by omega)]
theorem fill_congr {D : Nat → Option Tmp} {vals vals' : Nat → Value} {l l' : Array Bool} {a : Act} : ∀ {m}, (∀ k, k < m → l.getD k false = l'.getD k false ∧ vals k = vals' k) → fill D vals l a m = fill D vals' l' a m
 | 0, _ => rfl
 | m + 1, h => by
  obtain ⟨h1, h2⟩ := h m (by omega);unfold fill;rw [h1, h2, fill_congr fun k hk => h k (by omega)]
theorem yjq {D : Nat → Option Tmp} {vals : Nat → Value} {l : Array Bool} {a : Act} {i : Nat} {v : Value} (hs : i < l.size) (hu : l.getD i false = false) :
 ∀ {m}, i < m → (∀ j, j < m → j ≠ i → ∀ d, D j = some d → D i ≠ some d) → (fill D vals l a m).put (D i) v = fill D (upd vals i v) (l.setIfInBounds i true) a m
 | 0, h, _ => by omega
 | m + 1, h, hd => by
  rcases Nat.lt_or_ge i m with h1 | h1
  · have ih := yjq (D := D) (vals := vals) (a := a) (v := v) hs hu h1 fun j hj => hd j (by omega)
    unfold fill;rw [xzv (by omega : i ≠ m), ← ih, show upd vals i v m = vals m from if_neg (by omega)]
    split
    · exact Act.put_comm _ _ _ (hd m (by omega) (by omega))
    · rfl
  · obtain rfl : i = m := by omega
    unfold fill;rw [if_neg (by simp [hu]), if_pos (xvo hs _), show upd vals i v i = v from if_pos rfl];rw [fill_congr (vals := vals) (vals' := upd vals i v) (l := l) (l' := l.setIfInBounds i true) fun k hk => ⟨(xzv (by omega) _).symm, (if_neg (by omega)).symm⟩]
theorem yqi {D : Nat → Option Tmp} {vals : Nat → Value} {l : Array Bool} {a : Act} {x : Operand} :
 ∀ {m}, (∀ k, k < m → l.getD k false = false → ∀ d, D k = some d → x ≠ .tmp d) → (fill D vals l a m).eval x = (xqx D vals a m).eval x
 | 0, _ => rfl
 | m + 1, h => by
  have ih := yqi (D := D) (vals := vals) (l := l) (a := a) (x := x) (m := m) fun k hk => h k (by omega)
  unfold fill xqx;cases hb : l.getD m false with
  | true =>
   rw [if_pos rfl];by_cases hx : ∃ d, D m = some d ∧ x = .tmp d
   · obtain ⟨d, h1, rfl⟩ := hx;rw [h1];simp only [Act.put, Act.eval, Array.getD_eq_getD_getElem?, Array.getElem?_setIfInBounds, yvi, xzp, if_true]
   · rw [Act.eval_put fun d h1 h2 => hx ⟨d, h1, h2⟩, Act.eval_put fun d h1 h2 => hx ⟨d, h1, h2⟩, ih]
  | false =>
   rw [if_neg (by simp), Act.eval_put (h m (by omega) hb), ih]
def okAt (ops : Array Oper) (m : Nat) (ds : List Tmp) (N : Nat) (i : Nat) : Bool :=
 match ops[i]? with
 | none => false
 | some o => o.dst == ds[i]? && decide (i < ds.length) && decide (ds.getD i 0 < N) && o.guard.isNone && isPlain o.op && (xq4 ops i).all (fun e => decide (e < i)) &&
  (List.range m).all (fun k => k == i || ds[k]? != ds[i]?) &&
  o.op.operands.toList.all (fun x => match x with
   | .tmp t => (List.range m).all fun k => ds[k]? != some t || (xq4 ops i).contains k
   | _ => true)
theorem okAt_spec {m : Nat} {ds : List Tmp} {N i : Nat} (h : okAt ops m ds N i = true) :
 ∃ o, ops[i]? = some o ∧ o.dst = some (ds.getD i 0) ∧ ds[i]? = some (ds.getD i 0) ∧ ds.getD i 0 < N ∧ o.guard = none ∧ (∀ cs b, o.op ≠ .select cs b) ∧ (∀ e ∈ xq4 ops i, e < i) ∧
  (∀ k, k < m → k ≠ i → ds[k]? ≠ ds[i]?) ∧ (∀ x ∈ o.op.operands, ∀ t, x = .tmp t → ∀ k, k < m → ds[k]? = some t → k ∈ xq4 ops i) := by
 unfold okAt at h;cases ho : ops[i]? with
 | none => rw [ho] at h; cases h
 | some o =>
  rw [ho] at h;simp only [Bool.and_eq_true, beq_iff_eq, decide_eq_true_eq, List.all_eq_true, Bool.or_eq_true, bne_iff_ne, List.mem_range, Option.isNone_iff_eq_none] at h;obtain ⟨⟨⟨⟨⟨⟨⟨h1, h2⟩, h3⟩, h4⟩, h5⟩, h6⟩, h7⟩, h8⟩ := h;have hi : ds[i]? = some (ds.getD i 0) := by simp [List.getD_eq_getElem?_getD, h2]
  refine ⟨o, rfl, h1.trans hi, hi, h3, h4, ?_, h6, fun k hk hne => (h7 k hk).resolve_left hne, ?_⟩
  · intro cs b he;rw [he] at h5;cases h5
  · rintro x hx t rfl k hk hd;have := h8 _ (by simpa using hx);simp only [List.all_eq_true, List.mem_range, Bool.or_eq_true, bne_iff_ne, List.contains_iff_mem] at this;exact (this k hk).resolve_left fun h => h hd
def yvr (P : Program) (Q : Exit → Act → World → Prop) (ops : Array Oper) (ds : List Tmp) (aF : (Nat → Value) → Act) (S : World → Prop) (Φ : Nat → Value → World → Prop) (fresh : Nat → Bool) (i : Nat) (o : Oper) : Prop :=
 ∀ (vals : Nat → Value) (w : World), S w → (∀ e ∈ xq4 ops i, Φ e (vals e) w) → ∀ K : Act → World → Prop,
  (∀ a' w', a'.defers = (aF vals).defers → Below w.heap.size w w' → Φ i (a'.eval (.tmp (ds.getD i 0))) w' → (fresh i = true → ∃ q, a'.eval (.tmp (ds.getD i 0)) = .pointer (some ⟨q, 0, none⟩) ∧ w.heap.size ≤ q ∧ q < w'.heap.size) → K a' w') →
  o.wp P (aF vals) w K Q
def AllAt (F : Nat → Oper → Prop) : Nat → List Oper → Nat → Prop
 | _, _, 0 => True
 | _, [], _ + 1 => True
 | k, o :: os, n + 1 => F k o ∧ AllAt F (k + 1) os n
theorem AllAt.nil {F : Nat → Oper → Prop} {k : Nat} {os : List Oper} : AllAt F k os 0 := by unfold AllAt; trivial
theorem AllAt.cons {F : Nat → Oper → Prop} {k n : Nat} {o : Oper} {os : List Oper} (h : F k o) (t : AllAt F (k + 1) os n) : AllAt F k (o :: os) (n + 1) := ⟨h, t⟩
theorem AllAt.at {F : Nat → Oper → Prop} : ∀ {k : Nat} {os : List Oper} {n : Nat}, AllAt F k os n → ∀ i, i < n → ∀ o, os[i]? = some o → F (k + i) o
 | _, _, 0, _, i, h, _, _ => by omega
 | _, [], _ + 1, _, i, _, o, ho => by cases i <;> cases ho
 | k, x :: xs, n + 1, h, 0, _, o, ho => by
  obtain rfl : x = o := by simpa using ho
  exact h.1
 | k, x :: xs, n + 1, h, i + 1, hi, o, ho => by
  have := AllAt.at h.2 i (by omega) o (by simpa using ho)
  rwa [show k + 1 + i = k + (i + 1) by omega] at this
def ywq (n m : Nat) : Array Bool := ((List.range n).map fun k => decide (k < m)).toArray
theorem yjh {l : Array Bool} {n m : Nat} (hs : l.size = n) (hm : m ≤ n) (h : ∀ k, l.getD k false = decide (k < m)) : l = ywq n m := by
 apply Array.ext_getElem?
 intro k;have := h k;rw [show (ywq n m)[k]? = ((List.range n).map fun k => decide (k < m))[k]? from List.getElem?_toArray .., List.getElem?_map];rcases Nat.lt_or_ge k n with hk | hk
 · rw [List.getElem?_range hk, Array.getElem?_eq_getElem (by omega)];simp only [Array.getD_eq_getD_getElem?, Array.getElem?_eq_getElem (show k < l.size by omega), Option.getD_some] at this;simp [this]
 · rw [Array.getElem?_eq_none (by omega), List.getElem?_eq_none (by simpa using hk)];rfl
theorem xz7 {id : Nat} {a : Act} {w : World} {os : List Oper} (m r : Nat) (ds : List Tmp) (aF : (Nat → Value) → Act) (S : World → Prop) (Φ : Nat → Value → World → Prop) (fresh : Nat → Bool)
 (hm : P.follows .mixedOrders = true)
 (haF : ∀ vals, xqx (fun k => ds[k]?) vals a m = aF vals)
 (hr : os.length = m + r)
 (hok : (List.range m).all (okAt os.toArray m ds a.tmps.size) = true)
 (hend : (List.range os.length).all (fun i => decide (i < m) || (List.range m).all fun k => (anc os.toArray 3 i).contains k) = true)
 (hQ : ∀ c (t t' : Array Value) (d : List Deferred) w, Q (.panic c) ⟨t, d⟩ w → Q (.panic c) ⟨t', d⟩ w)
 (hSb : ∀ w w', Below w.heap.size w w' → S w → S w')
 (hΦb : ∀ k v w w', Below w.heap.size w w' → Φ k v w → Φ k v w')
 (hS : S w.drew)
 (hop : AllAt (yvr P Q os.toArray ds aF S Φ fresh) 0 os m)
 (hfin : ∀ (vals : Nat → Value) (w : World), S w → (∀ k, k < m → Φ k (vals k) w) →
   (∀ j k, j < m → k < m → j ≠ k → fresh j = true → fresh k = true → ∀ p q, vals j = .pointer (some ⟨p, 0, none⟩) → vals k = .pointer (some ⟨q, 0, none⟩) → p ≠ q) →
   wpAny P .any os.toArray Q r (ywq (m + r) m) (aF vals) w) :
 (Code.region id os.toArray true).wp P Q a w := by
 generalize hops : os.toArray = ops at *;have hsz0 : ops.size = m + r := by rw [← hops]; simpa using hr
 have hle : m ≤ ops.size := by omega
 replace hend : (List.range ops.size).all (fun i => decide (i < m) || (List.range m).all fun k => (anc ops 3 i).contains k) = true := by rw [hsz0, ← hr]; exact hend
 replace hop : ∀ i, i < m → ∀ o, ops[i]? = some o → yvr P Q ops ds aF S Φ fresh i o := fun i hi o ho => by
  have := hop.at i hi o (by rw [← hops] at ho; simpa using ho)
  rwa [Nat.zero_add] at this
 replace hfin : ∀ (vals : Nat → Value) (w : World), S w → (∀ k, k < m → Φ k (vals k) w) →
  (∀ j k, j < m → k < m → j ≠ k → fresh j = true → fresh k = true → ∀ p q, vals j = .pointer (some ⟨p, 0, none⟩) → vals k = .pointer (some ⟨q, 0, none⟩) → p ≠ q) →
  ∀ l : Array Bool, l.size = ops.size → (∀ k, l.getD k false = decide (k < m)) → wpAny P .any ops Q (ops.size - m) l (aF vals) w := fun vals w h1 h2 h3 l h4 h5 => by
  rw [yjh (h4.trans hsz0) (by omega) h5, show ops.size - m = r by omega];exact hfin vals w h1 h2 h3
 replace hQ : ∀ c (a a' : Act) w, a.defers = a'.defers → Q (.panic c) a w → Q (.panic c) a' w := by
  rintro c ⟨t, d⟩ ⟨t', d'⟩ w he h;obtain rfl : d = d' := he;exact hQ c t t' d w h
 refine wp_region_any hm ?_;have hat : ∀ i, i < m → okAt ops m ds a.tmps.size i = true := fun i hi => List.all_eq_true.1 hok i (List.mem_range.2 hi)
 have hlate : ∀ i, m ≤ i → i < ops.size → ∀ k, k < m → k ∈ anc ops 3 i := fun i h1 h2 k hk => by
  have := List.all_eq_true.1 hend i (List.mem_range.2 h2);simp only [Bool.or_eq_true, decide_eq_true_eq, List.all_eq_true, List.mem_range, List.contains_iff_mem] at this;exact (this.resolve_left (by omega)) k hk
 have hfr : ∀ (l : Array Bool), l = Array.replicate ops.size false → ∀ k, l.getD k false = false := by
  rintro l rfl k;simp only [Array.getD_eq_getD_getElem?, Array.getElem?_replicate]
  split <;> rfl
 let J : Array Bool → Act → World → Prop := fun l a' w' => (l.size = ops.size ∧ ∀ k, m ≤ k → l.getD k false = false) ∧ S w' ∧ (∀ k, k < m → l.getD k false = true → ∀ e ∈ xq4 ops k, l.getD e false = true) ∧
  ∃ vals, a' = fill (fun k => ds[k]?) vals l a m ∧ (∀ k, k < m → l.getD k false = true → Φ k (vals k) w' ∧ (fresh k = true → ∃ q, vals k = .pointer (some ⟨q, 0, none⟩) ∧ q < w'.heap.size)) ∧
   (∀ j k, j < m → k < m → l.getD j false = true → l.getD k false = true → j ≠ k → fresh j = true → fresh k = true → ∀ p q, vals j = .pointer (some ⟨p, 0, none⟩) → vals k = .pointer (some ⟨q, 0, none⟩) → p ≠ q)
 have hdown : ∀ l a' w', J l a' w' → ∀ k, l.getD k false = true → ∀ e ∈ xq4 ops k, l.getD e false = true := fun l a' w' hj k hk => by
  rcases Nat.lt_or_ge k m with h1 | h1
  · exact hj.2.2.1 k h1 hk
  · rw [hj.1.2 k h1] at hk;cases hk
 have hz : ∀ j, j ≤ m → left (Array.replicate ops.size false) j = j := fun j => by
  induction j with
  | zero => exact fun _ => rfl
  | succ j ihj => exact fun h => by unfold left; rw [ihj (by omega), hfr _ rfl j]; rfl
 have key := yq0 (P := P) (ops := ops) (Q := Q) (md := .any) m J (fun l a' w' hj => hj.1) hle (fun i o h1 ho e he hb => ?hback) (fun l a' w' i hj hi h1 => ?hstep) (fun l a' w' i hj hi h1 k hk => ?hwait) (fun l a' w' hj hall => ?hfin)
  m (Array.replicate ops.size false) a w.drew (hz m (Nat.le_refl _)) ⟨⟨by simp, fun k _ => hfr _ rfl k⟩, hS, fun k _ h => (by rw [hfr _ rfl k] at h; cases h),
   fun _ => undef, (yqh fun k _ => hfr _ rfl k).symm, fun k _ h => (by rw [hfr _ rfl k] at h; cases h), fun j k _ _ h => (by rw [hfr _ rfl j] at h; cases h)⟩
 · have e : ops.size - m + m = ops.size := by omega
   rw [e] at key;exact key
 case hback =>
  obtain ⟨_, _, _, _, _, _, _, hlow, _, _⟩ := okAt_spec (hat i h1);refine hlow e.on ?_;unfold xq4;rw [ho];exact List.mem_map.2 ⟨e, List.mem_filter.2 ⟨by simpa using he, hb⟩, rfl⟩
 case hwait =>
  have hlt : i < ops.size := by
   obtain ⟨_, o, ho, _⟩ := mem_ready.1 hi;exact (Array.getElem?_eq_some_iff.1 ho).1
  exact anc_up (hdown l a' w' hj) 3 i (fun e he => xzf hi he) k (hlate i h1 hlt k hk)
 case hfin =>
  obtain ⟨⟨hs, hl⟩, hSw, _, vals, rfl, hv, hp⟩ := hj;rw [yjr hall, haF];refine hfin vals w' hSw (fun k hk => (hv k hk (hall k hk)).1) (fun j k h1 h2 => hp j k h1 h2 (hall j h1) (hall k h2)) l hs fun k => ?_
  rcases Nat.lt_or_ge k m with h | h
  · rw [hall k h, decide_eq_true h]
  · rw [hl k h, decide_eq_false (by omega)]
 case hstep =>
  obtain ⟨⟨hs, hl⟩, hSw, hdn, vals, rfl, hv, hp⟩ := hj;obtain ⟨o, ho, hdst, hdi, hlt, hg, hsel, hlow, hdist, hops⟩ := okAt_spec (hat i h1);have hu : l.getD i false = false := by
   have h2 := (mem_ready.1 hi).1;have h3 : i < l.size := by omega
   simp only [Array.getD_eq_getD_getElem?] at h2 ⊢;rw [Array.getElem?_eq_getElem h3] at h2 ⊢
   simpa using h2
  have hdep : ∀ e ∈ xq4 ops i, l.getD e false = true := fun e he => xzf hi he
  have heval : ∀ x ∈ o.op.operands, (fill (fun k => ds[k]?) vals l a m).eval x = (aF vals).eval x := fun x hx => by
   rw [← haF vals];exact yqi fun k hk hk2 d hd hxd => by
    rw [hdep k (hops x hx d hxd k hk hd)] at hk2;cases hk2
  have hrun := hop i h1 o ho vals w' hSw (fun e he => (hv e (by have := hlow e he; omega) (hdep e he)).1)
   (fun a2 w2 => a2.defers = (aF vals).defers ∧ Below w'.heap.size w' w2 ∧ Φ i (a2.eval (.tmp (ds.getD i 0))) w2 ∧ (fresh i = true → ∃ q, a2.eval (.tmp (ds.getD i 0)) = .pointer (some ⟨q, 0, none⟩) ∧ w'.heap.size ≤ q ∧ q < w2.heap.size))
   (fun a2 w2 h1 h2 h3 h4 => ⟨h1, h2, h3, h4⟩)
  have hsz : ds.getD i 0 < (aF vals).tmps.size := by rw [← haF vals, xzp]; exact hlt
  have next : ∀ v w2, Below w'.heap.size w' w2 → Φ i v w2 → (fresh i = true → ∃ q, v = .pointer (some ⟨q, 0, none⟩) ∧ w'.heap.size ≤ q ∧ q < w2.heap.size) →
   J (l.setIfInBounds i true) ((fill (fun k => ds[k]?) vals l a m).put o.dst v) w2 := fun v w2 hb hphi hfresh => by
   have hne : ∀ k, k ≠ i → (l.setIfInBounds i true).getD k false = l.getD k false := fun k hk => xzv (Ne.symm hk) _
   refine ⟨⟨by simpa using hs, fun k hk => by rw [hne k (by omega)]; exact hl k hk⟩, hSb _ _ hb hSw, fun k hk hk2 e he => ?_, upd vals i v, ?_, fun k hk hk2 => ?_, fun j k hj hk hj2 hk2 hjk fj fk p q ep eq => ?_⟩
   · by_cases hki : k = i
     · subst hki;rw [hne e (by have := hlow e he; omega)];exact hdep e he
     · rw [hne k hki] at hk2;by_cases hei : e = i
       · subst hei;exact xvo (by omega) _
       · rw [hne e hei];exact hdn k hk hk2 e he
   · rw [hdst, ← hdi];exact yjq (by omega) hu h1 fun j hj hji d hd hdi2 => hdist j hj hji (hd.trans hdi2.symm)
   · by_cases hki : k = i
     · subst hki;rw [show upd vals k v k = v from if_pos rfl];exact ⟨hphi, fun hf => by obtain ⟨q, h1, _, h3⟩ := hfresh hf; exact ⟨q, h1, h3⟩⟩
     · rw [hne k hki] at hk2;rw [show upd vals i v k = vals k from if_neg hki];obtain ⟨h3, h4⟩ := hv k hk hk2;exact ⟨hΦb _ _ _ _ hb h3, fun hf => by obtain ⟨q, h5, h6⟩ := h4 hf; exact ⟨q, h5, Nat.lt_of_lt_of_le h6 hb.size⟩⟩
   · by_cases hji : j = i
     · subst hji;have hki : k ≠ j := fun h => hjk h.symm
       rw [show upd vals j v j = v from if_pos rfl] at ep;rw [show upd vals j v k = vals k from if_neg hki] at eq;rw [hne k hki] at hk2;obtain ⟨q1, e1, l1, _⟩ := hfresh fj;obtain ⟨q2, e2, l2⟩ := (hv k hk hk2).2 fk;rw [e1] at ep;rw [e2] at eq;cases ep
       cases eq
       omega
     · by_cases hki : k = i
       · subst hki;rw [show upd vals k v k = v from if_pos rfl] at eq;rw [show upd vals k v j = vals j from if_neg hji] at ep;rw [hne j hji] at hj2;obtain ⟨q1, e1, l1, _⟩ := hfresh fk;obtain ⟨q2, e2, l2⟩ := (hv j hj hj2).2 fj;rw [e1] at eq;rw [e2] at ep;cases ep
         cases eq
         omega
       · rw [show upd vals i v j = vals j from if_neg hji] at ep;rw [show upd vals i v k = vals k from if_neg hki] at eq;rw [hne j hji] at hj2;rw [hne k hki] at hk2;exact hp j k hj hk hj2 hk2 hjk fj fk p q ep eq
  unfold wpOp;rw [ho];simp only [];rw [if_pos (by unfold Region.wanted; rw [hg])];refine .inl ?_;unfold Oper.wp at hrun ⊢;rw [execOp_congr o hsel heval];generalize (execOp (aF vals).eval o).run P w' = r at hrun ⊢;have hdef : (aF vals).defers = (fill (fun k => ds[k]?) vals l a m).defers := by rw [← haF vals, xzj, xvx]
  have hput : ∀ v, ((aF vals).put o.dst v).eval (.tmp (ds.getD i 0)) = v := fun v => by rw [hdst]; exact yjn _ _ _ hsz
  cases r with
  | ok n w2 =>
   cases n <;> simp only [Oper.upon] at hrun ⊢
   case value v => rw [hput] at hrun; exact next _ _ hrun.2.1 hrun.2.2.1 hrun.2.2.2
   case skip => rw [hput] at hrun; exact next _ _ hrun.2.1 hrun.2.2.1 hrun.2.2.2
   case defer d =>
    exfalso
    have := hrun.1;rw [xz9] at this;have := congrArg List.length this;simp at this
   case enter f args =>
    refine Calls.mono hrun fun e w3 he => ?_
    cases e with
    | returned v => simp only at he ⊢; rw [hput] at he; exact next _ _ he.2.1 he.2.2.1 he.2.2.2
    | panicked c => exact hQ _ _ _ _ hdef he
    | outgrown => exact he
   case row r args =>
    refine Rows.mono hrun fun v w3 he => ?_
    rw [hput] at he;exact next _ _ he.2.1 he.2.2.1 he.2.2.2
  | halt x w2 =>
   cases x <;> simp only [Oper.upon] at hrun ⊢ <;> exact hQ _ _ _ _ hdef hrun
end
section
variable {P : Program} {ops : Array Oper} {Q : Exit → Act → World → Prop}
def okAtG (ops : Array Oper) (m : Nat) (ds : List Tmp) (N : Nat) (i : Nat) : Bool :=
 match ops[i]? with
 | none => false
 | some o => o.dst == ds[i]? && decide (i < ds.length) && decide (ds.getD i 0 < N) && (match o.guard with | none => true | some (g, _) => (xq4 ops i).contains g) && isPlain o.op && (xq4 ops i).all (fun e => decide (e < i)) &&
  (List.range m).all (fun k => k == i || ds[k]? != ds[i]?) &&
  o.op.operands.toList.all (fun x => match x with
   | .tmp t => (List.range m).all fun k => ds[k]? != some t || (xq4 ops i).contains k
   | _ => true)
theorem yv1 {m : Nat} {ds : List Tmp} {N i : Nat} (h : okAtG ops m ds N i = true) :
 ∃ o, ops[i]? = some o ∧ o.dst = some (ds.getD i 0) ∧ ds[i]? = some (ds.getD i 0) ∧ ds.getD i 0 < N ∧ (∀ g b, o.guard = some (g, b) → g ∈ xq4 ops i) ∧ (∀ cs b, o.op ≠ .select cs b) ∧ (∀ e ∈ xq4 ops i, e < i) ∧
  (∀ k, k < m → k ≠ i → ds[k]? ≠ ds[i]?) ∧ (∀ x ∈ o.op.operands, ∀ t, x = .tmp t → ∀ k, k < m → ds[k]? = some t → k ∈ xq4 ops i) := by
 unfold okAtG at h;cases ho : ops[i]? with
 | none => rw [ho] at h; cases h
 | some o =>
  rw [ho] at h;simp only [Bool.and_eq_true, beq_iff_eq, decide_eq_true_eq, List.all_eq_true, Bool.or_eq_true, bne_iff_ne, List.mem_range] at h;obtain ⟨⟨⟨⟨⟨⟨⟨h1, h2⟩, h3⟩, h4⟩, h5⟩, h6⟩, h7⟩, h8⟩ := h;have hi : ds[i]? = some (ds.getD i 0) := by simp [List.getD_eq_getElem?_getD, h2]
  refine ⟨o, rfl, h1.trans hi, hi, h3, ?_, ?_, h6, fun k hk hne => (h7 k hk).resolve_left hne, ?_⟩
  · intro g b he;rw [he] at h4
    simpa using h4
  · intro cs b he;rw [he] at h5;cases h5
  · rintro x hx t rfl k hk hd;have := h8 _ (by simpa using hx);simp only [List.all_eq_true, List.mem_range, Bool.or_eq_true, bne_iff_ne, List.contains_iff_mem] at this;exact (this k hk).resolve_left fun h => h hd
def FreeStepG (P : Program) (Q : Exit → Act → World → Prop) (ops : Array Oper) (ds : List Tmp) (aF : (Nat → Value) → Act) (S : World → Prop) (Φ : Nat → Value → World → Prop) (fresh : Nat → Bool) (i : Nat) (o : Oper) : Prop :=
 ((∀ (vals : Nat → Value) (w : World), S w → (∀ e ∈ xq4 ops i, Φ e (vals e) w) → ∀ g b, o.guard = some (g, b) → vals g = .bool b) ∧ yvr P Q ops ds aF S Φ fresh i o) ∨
 (∃ g b, o.guard = some (g, b) ∧ (∀ (vals : Nat → Value) (w : World), S w → (∀ e ∈ xq4 ops i, Φ e (vals e) w) → vals g = .bool (!b)) ∧ (∀ w, S w → Φ i undef w) ∧ fresh i = false)
theorem FreeStepG.plain {ds : List Tmp} {aF : (Nat → Value) → Act} {S : World → Prop} {Φ : Nat → Value → World → Prop} {fresh : Nat → Bool} {i : Nat} {o : Oper} (hg : o.guard = none) (h : yvr P Q ops ds aF S Φ fresh i o) : FreeStepG P Q ops ds aF S Φ fresh i o :=
 .inl ⟨fun _ _ _ _ g b e => (by rw [hg] at e; cases e), h⟩
theorem FreeStepG.yes {ds : List Tmp} {aF : (Nat → Value) → Act} {S : World → Prop} {Φ : Nat → Value → World → Prop} {fresh : Nat → Bool} {i : Nat} {o : Oper} (hg : ∀ (vals : Nat → Value) (w : World), S w → (∀ e ∈ xq4 ops i, Φ e (vals e) w) → ∀ g b, o.guard = some (g, b) → vals g = .bool b) (h : yvr P Q ops ds aF S Φ fresh i o) : FreeStepG P Q ops ds aF S Φ fresh i o :=
 .inl ⟨hg, h⟩
theorem fill_at {D : Nat → Option Tmp} {vals : Nat → Value} {l : Array Bool} {a : Act} {g : Nat} {d : Tmp} (hg : l.getD g false = true) (hd : D g = some d) (hs : d < a.tmps.size) :
 ∀ {m}, g < m → (∀ k, k < m → k ≠ g → D k ≠ some d) → (fill D vals l a m).eval (.tmp d) = vals g
 | 0, h, _ => by omega
 | m + 1, h, hne => by
  unfold fill;rcases Nat.lt_or_ge g m with h1 | h1
  · have ih := fill_at (vals := vals) hg hd hs (m := m) h1 fun k hk => hne k (by omega)
    split
    · rw [Act.eval_put fun e he1 he2 => hne m (by omega) (by omega) (by injection he2 with he2; rw [he2]; exact he1), ih]
    · exact ih
  · obtain rfl : g = m := by omega
    rw [if_pos hg, hd];exact yjn _ _ _ (by rw [yvi]; exact hs)
theorem yielded_at {a : Act} {g : Nat} {d : Tmp} {b : Bool} (hd : (ops[g]?).bind (·.dst) = some d) (hs : d < a.tmps.size) (h : a.eval (.tmp d) = .bool b) : yielded ops a.tmps g = some b := by
 unfold yielded;rw [hd];simp only [Option.bind_some];have h2 : a.tmps[d]? = some (.bool b) := by
  rw [Array.getElem?_eq_getElem hs];simp only [Act.eval, Array.getD_eq_getD_getElem?, Array.getElem?_eq_getElem hs, Option.getD_some] at h;rw [h]
 rw [h2]
theorem xj2 {id : Nat} {a : Act} {w : World} {os : List Oper} (m r D : Nat) (ds : List Tmp) (aF : (Nat → Value) → Act) (S : World → Prop) (Φ : Nat → Value → World → Prop) (fresh : Nat → Bool)
 (hm : P.follows .mixedOrders = true)
 (haF : ∀ vals, xqx (fun k => ds[k]?) vals a m = aF vals)
 (hr : os.length = m + r)
 (hok : (List.range m).all (okAtG os.toArray m ds a.tmps.size) = true)
 (hend : (List.range os.length).all (fun i => decide (i < m) || (List.range m).all fun k => (anc os.toArray D i).contains k) = true)
 (hQ : ∀ c (t t' : Array Value) (d : List Deferred) w, Q (.panic c) ⟨t, d⟩ w → Q (.panic c) ⟨t', d⟩ w)
 (hSb : ∀ w w', Below w.heap.size w w' → S w → S w')
 (hΦb : ∀ k v w w', Below w.heap.size w w' → Φ k v w → Φ k v w')
 (hS : S w.drew)
 (hop : AllAt (FreeStepG P Q os.toArray ds aF S Φ fresh) 0 os m)
 (hfin : ∀ (vals : Nat → Value) (w : World), S w → (∀ k, k < m → Φ k (vals k) w) →
   (∀ j k, j < m → k < m → j ≠ k → fresh j = true → fresh k = true → ∀ p q, vals j = .pointer (some ⟨p, 0, none⟩) → vals k = .pointer (some ⟨q, 0, none⟩) → p ≠ q) →
   wpAny P .any os.toArray Q r (ywq (m + r) m) (aF vals) w) :
 (Code.region id os.toArray true).wp P Q a w := by
 generalize hops : os.toArray = ops at *;have hsz0 : ops.size = m + r := by rw [← hops]; simpa using hr
 have hle : m ≤ ops.size := by omega
 replace hend : (List.range ops.size).all (fun i => decide (i < m) || (List.range m).all fun k => (anc ops D i).contains k) = true := by rw [hsz0, ← hr]; exact hend
 replace hop : ∀ i, i < m → ∀ o, ops[i]? = some o → FreeStepG P Q ops ds aF S Φ fresh i o := fun i hi o ho => by
  have := hop.at i hi o (by rw [← hops] at ho; simpa using ho)
  rwa [Nat.zero_add] at this
 replace hfin : ∀ (vals : Nat → Value) (w : World), S w → (∀ k, k < m → Φ k (vals k) w) →
  (∀ j k, j < m → k < m → j ≠ k → fresh j = true → fresh k = true → ∀ p q, vals j = .pointer (some ⟨p, 0, none⟩) → vals k = .pointer (some ⟨q, 0, none⟩) → p ≠ q) →
  ∀ l : Array Bool, l.size = ops.size → (∀ k, l.getD k false = decide (k < m)) → wpAny P .any ops Q (ops.size - m) l (aF vals) w := fun vals w h1 h2 h3 l h4 h5 => by
  rw [yjh (h4.trans hsz0) (by omega) h5, show ops.size - m = r by omega];exact hfin vals w h1 h2 h3
 replace hQ : ∀ c (a a' : Act) w, a.defers = a'.defers → Q (.panic c) a w → Q (.panic c) a' w := by
  rintro c ⟨t, d⟩ ⟨t', d'⟩ w he h;obtain rfl : d = d' := he;exact hQ c t t' d w h
 refine wp_region_any hm ?_;have hat : ∀ i, i < m → okAtG ops m ds a.tmps.size i = true := fun i hi => List.all_eq_true.1 hok i (List.mem_range.2 hi)
 have hlate : ∀ i, m ≤ i → i < ops.size → ∀ k, k < m → k ∈ anc ops D i := fun i h1 h2 k hk => by
  have := List.all_eq_true.1 hend i (List.mem_range.2 h2);simp only [Bool.or_eq_true, decide_eq_true_eq, List.all_eq_true, List.mem_range, List.contains_iff_mem] at this;exact (this.resolve_left (by omega)) k hk
 have hfr : ∀ (l : Array Bool), l = Array.replicate ops.size false → ∀ k, l.getD k false = false := by
  rintro l rfl k;simp only [Array.getD_eq_getD_getElem?, Array.getElem?_replicate]
  split <;> rfl
 let J : Array Bool → Act → World → Prop := fun l a' w' => (l.size = ops.size ∧ ∀ k, m ≤ k → l.getD k false = false) ∧ S w' ∧ (∀ k, k < m → l.getD k false = true → ∀ e ∈ xq4 ops k, l.getD e false = true) ∧
  ∃ vals, a' = fill (fun k => ds[k]?) vals l a m ∧ (∀ k, k < m → l.getD k false = true → Φ k (vals k) w' ∧ (fresh k = true → ∃ q, vals k = .pointer (some ⟨q, 0, none⟩) ∧ q < w'.heap.size)) ∧
   (∀ j k, j < m → k < m → l.getD j false = true → l.getD k false = true → j ≠ k → fresh j = true → fresh k = true → ∀ p q, vals j = .pointer (some ⟨p, 0, none⟩) → vals k = .pointer (some ⟨q, 0, none⟩) → p ≠ q)
 have hdown : ∀ l a' w', J l a' w' → ∀ k, l.getD k false = true → ∀ e ∈ xq4 ops k, l.getD e false = true := fun l a' w' hj k hk => by
  rcases Nat.lt_or_ge k m with h1 | h1
  · exact hj.2.2.1 k h1 hk
  · rw [hj.1.2 k h1] at hk;cases hk
 have hz : ∀ j, j ≤ m → left (Array.replicate ops.size false) j = j := fun j => by
  induction j with
  | zero => exact fun _ => rfl
  | succ j ihj => exact fun h => by unfold left; rw [ihj (by omega), hfr _ rfl j]; rfl
 have key := yq0 (P := P) (ops := ops) (Q := Q) (md := .any) m J (fun l a' w' hj => hj.1) hle (fun i o h1 ho e he hb => ?hback) (fun l a' w' i hj hi h1 => ?hstep) (fun l a' w' i hj hi h1 k hk => ?hwait) (fun l a' w' hj hall => ?hfin)
  m (Array.replicate ops.size false) a w.drew (hz m (Nat.le_refl _)) ⟨⟨by simp, fun k _ => hfr _ rfl k⟩, hS, fun k _ h => (by rw [hfr _ rfl k] at h; cases h),
   fun _ => undef, (yqh fun k _ => hfr _ rfl k).symm, fun k _ h => (by rw [hfr _ rfl k] at h; cases h), fun j k _ _ h => (by rw [hfr _ rfl j] at h; cases h)⟩
 · have e : ops.size - m + m = ops.size := by omega
   rw [e] at key;exact key
 case hback =>
  obtain ⟨_, _, _, _, _, _, _, hlow, _, _⟩ := yv1 (hat i h1);refine hlow e.on ?_;unfold xq4;rw [ho];exact List.mem_map.2 ⟨e, List.mem_filter.2 ⟨by simpa using he, hb⟩, rfl⟩
 case hwait =>
  have hlt : i < ops.size := by
   obtain ⟨_, o, ho, _⟩ := mem_ready.1 hi;exact (Array.getElem?_eq_some_iff.1 ho).1
  exact anc_up (hdown l a' w' hj) D i (fun e he => xzf hi he) k (hlate i h1 hlt k hk)
 case hfin =>
  obtain ⟨⟨hs, hl⟩, hSw, _, vals, rfl, hv, hp⟩ := hj;rw [yjr hall, haF];refine hfin vals w' hSw (fun k hk => (hv k hk (hall k hk)).1) (fun j k h1 h2 => hp j k h1 h2 (hall j h1) (hall k h2)) l hs fun k => ?_
  rcases Nat.lt_or_ge k m with h | h
  · rw [hall k h, decide_eq_true h]
  · rw [hl k h, decide_eq_false (by omega)]
 case hstep =>
  obtain ⟨⟨hs, hl⟩, hSw, hdn, vals, rfl, hv, hp⟩ := hj;obtain ⟨o, ho, hdst, hdi, hlt, hg, hsel, hlow, hdist, hops⟩ := yv1 (hat i h1);have hu : l.getD i false = false := by
   have h2 := (mem_ready.1 hi).1;have h3 : i < l.size := by omega
   simp only [Array.getD_eq_getD_getElem?] at h2 ⊢;rw [Array.getElem?_eq_getElem h3] at h2 ⊢
   simpa using h2
  have hdep : ∀ e ∈ xq4 ops i, l.getD e false = true := fun e he => xzf hi he
  have heval : ∀ x ∈ o.op.operands, (fill (fun k => ds[k]?) vals l a m).eval x = (aF vals).eval x := fun x hx => by
   rw [← haF vals];exact yqi fun k hk hk2 d hd hxd => by
    rw [hdep k (hops x hx d hxd k hk hd)] at hk2;cases hk2
  have hphi : ∀ e ∈ xq4 ops i, Φ e (vals e) w' := fun e he => (hv e (by have := hlow e he; omega) (hdep e he)).1
  have hyld : ∀ g b, g ∈ xq4 ops i → vals g = .bool b → yielded ops (fill (fun k => ds[k]?) vals l a m).tmps g = some b := fun g b hga hb => by
   have hgm : g < m := by have := hlow g hga; omega
   obtain ⟨og, hog, hgd, hgi, hglt, _, _, _, hgdist, _⟩ := yv1 (hat g hgm);have h4 : (fill (fun k => ds[k]?) vals l a m).eval (.tmp (ds.getD g 0)) = vals g := fill_at (hdep g hga) hgi hglt hgm fun k hk hne e => hgdist k hk hne (e.trans hgi.symm)
   refine yielded_at (by rw [hog]; exact hgd) (by rw [yvi]; exact hglt) (h4.trans hb)
  have hsz : ds.getD i 0 < (aF vals).tmps.size := by rw [← haF vals, xzp]; exact hlt
  have next : ∀ v w2, Below w'.heap.size w' w2 → Φ i v w2 → (fresh i = true → ∃ q, v = .pointer (some ⟨q, 0, none⟩) ∧ w'.heap.size ≤ q ∧ q < w2.heap.size) →
   J (l.setIfInBounds i true) ((fill (fun k => ds[k]?) vals l a m).put o.dst v) w2 := fun v w2 hb hphi hfresh => by
   have hne : ∀ k, k ≠ i → (l.setIfInBounds i true).getD k false = l.getD k false := fun k hk => xzv (Ne.symm hk) _
   refine ⟨⟨by simpa using hs, fun k hk => by rw [hne k (by omega)]; exact hl k hk⟩, hSb _ _ hb hSw, fun k hk hk2 e he => ?_, upd vals i v, ?_, fun k hk hk2 => ?_, fun j k hj hk hj2 hk2 hjk fj fk p q ep eq => ?_⟩
   · by_cases hki : k = i
     · subst hki;rw [hne e (by have := hlow e he; omega)];exact hdep e he
     · rw [hne k hki] at hk2;by_cases hei : e = i
       · subst hei;exact xvo (by omega) _
       · rw [hne e hei];exact hdn k hk hk2 e he
   · rw [hdst, ← hdi];exact yjq (by omega) hu h1 fun j hj hji d hd hdi2 => hdist j hj hji (hd.trans hdi2.symm)
   · by_cases hki : k = i
     · subst hki;rw [show upd vals k v k = v from if_pos rfl];exact ⟨hphi, fun hf => by obtain ⟨q, h1, _, h3⟩ := hfresh hf; exact ⟨q, h1, h3⟩⟩
     · rw [hne k hki] at hk2;rw [show upd vals i v k = vals k from if_neg hki];obtain ⟨h3, h4⟩ := hv k hk hk2;exact ⟨hΦb _ _ _ _ hb h3, fun hf => by obtain ⟨q, h5, h6⟩ := h4 hf; exact ⟨q, h5, Nat.lt_of_lt_of_le h6 hb.size⟩⟩
   · by_cases hji : j = i
     · subst hji;have hki : k ≠ j := fun h => hjk h.symm
       rw [show upd vals j v j = v from if_pos rfl] at ep;rw [show upd vals j v k = vals k from if_neg hki] at eq;rw [hne k hki] at hk2;obtain ⟨q1, e1, l1, _⟩ := hfresh fj;obtain ⟨q2, e2, l2⟩ := (hv k hk hk2).2 fk;rw [e1] at ep;rw [e2] at eq;cases ep
       cases eq
       omega
     · by_cases hki : k = i
       · subst hki;rw [show upd vals k v k = v from if_pos rfl] at eq;rw [show upd vals k v j = vals j from if_neg hji] at ep;rw [hne j hji] at hj2;obtain ⟨q1, e1, l1, _⟩ := hfresh fk;obtain ⟨q2, e2, l2⟩ := (hv j hj hj2).2 fj;rw [e1] at eq;rw [e2] at ep;cases ep
         cases eq
         omega
       · rw [show upd vals i v j = vals j from if_neg hji] at ep;rw [show upd vals i v k = vals k from if_neg hki] at eq;rw [hne j hji] at hj2;rw [hne k hki] at hk2;exact hp j k hj hk hj2 hk2 hjk fj fk p q ep eq
  rcases hop i h1 o ho with ⟨hgv, hop2⟩ | ⟨g, b, hgb, hgv, hun, hfr0⟩
  case inr =>
   unfold wpOp;rw [ho];simp only [];have hnot : Region.wanted o (yielded ops (fill (fun k => ds[k]?) vals l a m).tmps) = false := by
    unfold Region.wanted;rw [hgb];simp only [];rw [hyld g (!b) (hg g b hgb) (hgv vals w' hSw hphi)];cases b <;> rfl
   rw [if_neg (by rw [hnot]; decide)];exact next _ _ (Below.refl _ _) (hun w' hSw) (fun hf => by rw [hfr0] at hf; cases hf)
  have hwant : Region.wanted o (yielded ops (fill (fun k => ds[k]?) vals l a m).tmps) = true := by
   unfold Region.wanted;cases hgo : o.guard with
   | none => rfl
   | some gb =>
    obtain ⟨g, b⟩ := gb;simp only [];rw [hyld g b (hg g b hgo) (hgv vals w' hSw hphi g b hgo)]
    simp
  have hrun := hop2 vals w' hSw hphi
   (fun a2 w2 => a2.defers = (aF vals).defers ∧ Below w'.heap.size w' w2 ∧ Φ i (a2.eval (.tmp (ds.getD i 0))) w2 ∧ (fresh i = true → ∃ q, a2.eval (.tmp (ds.getD i 0)) = .pointer (some ⟨q, 0, none⟩) ∧ w'.heap.size ≤ q ∧ q < w2.heap.size))
   (fun a2 w2 h1 h2 h3 h4 => ⟨h1, h2, h3, h4⟩)
  unfold wpOp;rw [ho];simp only [];rw [if_pos hwant];refine .inl ?_;unfold Oper.wp at hrun ⊢;rw [execOp_congr o hsel heval];generalize (execOp (aF vals).eval o).run P w' = r at hrun ⊢;have hdef : (aF vals).defers = (fill (fun k => ds[k]?) vals l a m).defers := by rw [← haF vals, xzj, xvx]
  have hput : ∀ v, ((aF vals).put o.dst v).eval (.tmp (ds.getD i 0)) = v := fun v => by rw [hdst]; exact yjn _ _ _ hsz
  cases r with
  | ok n w2 =>
   cases n <;> simp only [Oper.upon] at hrun ⊢
   case value v => rw [hput] at hrun; exact next _ _ hrun.2.1 hrun.2.2.1 hrun.2.2.2
   case skip => rw [hput] at hrun; exact next _ _ hrun.2.1 hrun.2.2.1 hrun.2.2.2
   case defer d =>
    exfalso
    have := hrun.1;rw [xz9] at this;have := congrArg List.length this;simp at this
   case enter f args =>
    refine Calls.mono hrun fun e w3 he => ?_
    cases e with
    | returned v => simp only at he ⊢; rw [hput] at he; exact next _ _ he.2.1 he.2.2.1 he.2.2.2
    | panicked c => exact hQ _ _ _ _ hdef he
    | outgrown => exact he
   case row r args =>
    refine Rows.mono hrun fun v w3 he => ?_
    rw [hput] at he;exact next _ _ he.2.1 he.2.2.1 he.2.2.2
  | halt x w2 =>
   cases x <;> simp only [Oper.upon] at hrun ⊢ <;> exact hQ _ _ _ _ hdef hrun
theorem xzo {id : Nat} {a : Act} {w : World} {os : List Oper} (m r : Nat) (ds : List Tmp) (aF : (Nat → Value) → Act) (S : World → Prop) (Φ : Nat → Value → World → Prop) (fresh : Nat → Bool)
 (hm : P.follows .mixedOrders = true)
 (haF : ∀ vals, xqx (fun k => ds[k]?) vals a m = aF vals)
 (hr : os.length = m + r)
 (hok : (List.range m).all (okAtG os.toArray m ds a.tmps.size) = true)
 (hend : (List.range os.length).all (fun i => decide (i < m) || (List.range m).all fun k => (anc os.toArray 3 i).contains k) = true)
 (hQ : ∀ c (t t' : Array Value) (d : List Deferred) w, Q (.panic c) ⟨t, d⟩ w → Q (.panic c) ⟨t', d⟩ w)
 (hSb : ∀ w w', Below w.heap.size w w' → S w → S w')
 (hΦb : ∀ k v w w', Below w.heap.size w w' → Φ k v w → Φ k v w')
 (hS : S w.drew)
 (hop : AllAt (FreeStepG P Q os.toArray ds aF S Φ fresh) 0 os m)
 (hfin : ∀ (vals : Nat → Value) (w : World), S w → (∀ k, k < m → Φ k (vals k) w) →
   (∀ j k, j < m → k < m → j ≠ k → fresh j = true → fresh k = true → ∀ p q, vals j = .pointer (some ⟨p, 0, none⟩) → vals k = .pointer (some ⟨q, 0, none⟩) → p ≠ q) →
   wpAny P .any os.toArray Q r (ywq (m + r) m) (aF vals) w) :
 (Code.region id os.toArray true).wp P Q a w :=
 xj2 m r 3 ds aF S Φ fresh hm haF hr hok hend hQ hSb hΦb hS hop hfin
end
section
variable {P : Program} {ops : Array Oper} {Q : Exit → Act → World → Prop} {md : Region.Mode}
end
end Go.Proofs.YtannifhcjcbkcaaGreatDoor
namespace Go.Proofs.YtannifhcjcbkcaaGreatDoor.Limb
open Lib (hid)
def strOf (l : List Nat) : ByteArray := ⟨(l.map UInt8.ofNat).toArray⟩
def bytesOf (s : ByteArray) : List Nat := s.data.toList.map UInt8.toNat
def Bytes (l : List Nat) : Prop := ∀ x ∈ l, x < 256
theorem xjq : Bytes [] := by intro x hx; cases hx
theorem bytes_cons {x : Nat} {l : List Nat} : Bytes (x :: l) ↔ x < 256 ∧ Bytes l := by simp [Bytes]
theorem bytes_lim {l : List Nat} (h : Bytes l) (k : Nat) : lim l k < 256 := by
 unfold lim;rw [List.getD_eq_getElem?_getD];rcases Nat.lt_or_ge k l.length with hk | hk
 · rw [List.getElem?_eq_getElem hk]; exact h _ (List.getElem_mem hk)
 · rw [List.getElem?_eq_none hk]; decide
theorem bytes_take {l : List Nat} (h : Bytes l) (k : Nat) : Bytes (l.take k) := fun x hx => h x (List.mem_of_mem_take hx)
theorem ywd {l : List Nat} (h : Bytes l) (k : Nat) : Bytes (l.drop k) := fun x hx => h x (List.mem_of_mem_drop hx)
theorem xjg (s : ByteArray) : Bytes (bytesOf s) := by
 intro x hx;obtain ⟨b, _, rfl⟩ := List.mem_map.1 hx;exact b.toNat_lt
theorem xqk {l : List Nat} (h : Bytes l) : bytesOf (strOf l) = l := by
 show (l.map UInt8.ofNat).map UInt8.toNat = l;rw [List.map_map];refine (List.map_congr_left fun x hx => ?_).trans (List.map_id l);show (UInt8.ofNat x).toNat = x;rw [UInt8.toNat_ofNat'];exact Nat.mod_eq_of_lt (h x hx)
theorem xzt (s : ByteArray) : strOf (bytesOf s) = s := by
 obtain ⟨⟨l⟩⟩ := s;have e : UInt8.ofNat ∘ UInt8.toNat = id := by funext x; exact UInt8.ofNat_toNat
 show ByteArray.mk ((l.map UInt8.toNat).map UInt8.ofNat).toArray = _;rw [List.map_map, e, List.map_id]
theorem xqe (s : ByteArray) : (bytesOf s).length = s.size := by
 show (s.data.toList.map UInt8.toNat).length = s.data.size;rw [List.length_map, Array.length_toList]
theorem xqh (l : List Nat) : (strOf l).size = l.length := by
 show (l.map UInt8.ofNat).toArray.size = _;rw [List.size_toArray, List.length_map]
theorem xjh (a b : List Nat) : strOf a ++ strOf b = strOf (a ++ b) := by
 rw [strOf, strOf, ByteArray.mk_append_mk, strOf, List.map_append]
theorem strOf_inj {a b : List Nat} (ha : Bytes a) (hb : Bytes b) (h : strOf a = strOf b) : a = b := by
 rw [← xqk ha, ← xqk hb, h]
theorem xv0 (l : List Nat) : (strOf l).toList = l.map UInt8.ofNat := by rw [strOf, ByteArray.toList_mk]
theorem yzb {a b : List Nat} (ha : Bytes a) (hb : Bytes b) : ((strOf a).toList == (strOf b).toList) = decide (a = b) := by
 rw [Bool.eq_iff_iff];simp only [beq_iff_eq, decide_eq_true_eq, ByteArray.toList_eq];constructor
 · intro h;refine strOf_inj ha hb ?_;have h2 : (strOf a).data = (strOf b).data := Array.toList_inj.1 h;exact ByteArray.ext h2
 · rintro rfl; rfl
theorem byte_at (s : ByteArray) (k : Nat) (h : k < s.size) : (s[k]'h).toNat = lim (bytesOf s) k := by
 have hk : k < (bytesOf s).length := by rw [xqe]; exact h
 unfold lim;rw [List.getD_eq_getElem?_getD, List.getElem?_eq_getElem hk, Option.getD_some];simp [bytesOf];rfl
def xq2 (x : Nat) : Bool := decide (48 ≤ x) && decide (x ≤ 57)
def xw3 (l : List Nat) : Bool := l.all xq2
def decV (l : List Nat) : Nat := l.foldl (fun v d => v * 10 + (d - 48)) 0
theorem allDig_iff {l : List Nat} : xw3 l = true ↔ ∀ x ∈ l, 48 ≤ x ∧ x ≤ 57 := by simp [xw3, xq2]
theorem allDig_append {a b : List Nat} : xw3 (a ++ b) = (xw3 a && xw3 b) := by simp [xw3]
theorem allDig_bytes {l : List Nat} (h : xw3 l = true) : Bytes l := fun x hx => by have := allDig_iff.1 h x hx; omega
theorem foldl_dec (l : List Nat) (v : Nat) : l.foldl (fun v d => v * 10 + (d - 48)) v = v * 10 ^ l.length + l.foldl (fun v d => v * 10 + (d - 48)) 0 := by
 induction l generalizing v with
 | nil => simp
 | cons x l ih =>
  rw [List.foldl_cons, List.foldl_cons, ih, ih (0 * 10 + (x - 48)), List.length_cons, Nat.pow_succ]
  grind
theorem decV_append (a b : List Nat) : decV (a ++ b) = decV a * 10 ^ b.length + decV b := by
 unfold decV;rw [List.foldl_append, foldl_dec]
theorem decV_snoc (l : List Nat) (x : Nat) : decV (l ++ [x]) = decV l * 10 + (x - 48) := by
 rw [decV_append]; simp [decV]
def decF : Nat → Nat → List Nat
 | 0, _ => []
 | f + 1, n => if n < 10 then [48 + n] else decF f (n / 10) ++ [48 + n % 10]
def yvt (n : Nat) : List Nat := decF (n + 1) n
theorem decF_more : ∀ f g n, n < f → n < g → decF f n = decF g n
 | 0, _, _, h, _ => by omega
 | _, 0, _, _, h => by omega
 | f + 1, g + 1, n, hf, hg => by
  rw [decF, decF]
  split
  · rfl
  · rw [decF_more f g (n / 10) (by omega) (by omega)]
theorem decT_small {n : Nat} (h : n < 10) : yvt n = [48 + n] := by rw [yvt, decF, if_pos h]
theorem decT_big {n : Nat} (h : 10 ≤ n) : yvt n = yvt (n / 10) ++ [48 + n % 10] := by
 rw [yvt, decF, if_neg (by omega), yvt, decF_more n (n / 10 + 1) (n / 10) (by omega) (by omega)]
theorem decT_spec (n : Nat) : xw3 (yvt n) = true ∧ decV (yvt n) = n ∧ yvt n ≠ [] ∧ (n ≠ 0 → lim (yvt n) 0 ≠ 48) := by
 induction n using Nat.strongRecOn with
 | _ n ih =>
  by_cases h : n < 10
  · rw [decT_small h];refine ⟨allDig_iff.2 fun x hx => by simp at hx; omega, by simp [decV], by simp, fun h0 => by simp [lim]; omega⟩
  · obtain ⟨h1, h2, h3, h4⟩ := ih (n / 10) (by omega);rw [decT_big (by omega)];refine ⟨by rw [allDig_append, h1]; exact allDig_iff.2 fun x hx => by simp at hx; omega, by rw [decV_snoc, h2]; omega, by simp, fun _ => ?_⟩;have h5 := h4 (by omega);cases hd : yvt (n / 10) with
    | nil => exact absurd hd h3
    | cons x l => rw [hd] at h5; simpa [lim] using h5
theorem decT_dig (n : Nat) : xw3 (yvt n) = true := (decT_spec n).1
theorem decT_bytes (n : Nat) : Bytes (yvt n) := allDig_bytes (decT_dig n)
theorem xze (s : ByteArray) (i j : Nat) : bytesOf (s.extract i j) = ((bytesOf s).drop i).take (j - i) := by
 unfold bytesOf;rw [ByteArray.data_extract, Array.toList_extract, List.extract_eq_take_drop, List.map_take, List.map_drop]
end Go.Proofs.YtannifhcjcbkcaaGreatDoor.Limb
namespace Go.Proofs.YtannifhcjcbkcaaGreatDoor
open Go.RowKit Go.ChangeShapes
open Lib (hid)
theorem xqb {P : Program} {w : World} : ∀ (k : Nat) {l : List (String × DataW Unit)}, laidMet P l w → laidMet P (l.drop k) w
 | 0, _, h => h
 | _ + 1, [], h => h
 | k + 1, _ :: _, h => xqb k h.tail
end Go.Proofs.YtannifhcjcbkcaaGreatDoor
namespace Go.Proofs.YtannifhcjcbkcaaGreatDoor
open Go.RowKit Limb
open Lib (hid)
def IsN (w : World) (A : Option Addr) (n : Nat) (xs : List Nat) : Prop :=
 xs.length = n ∧ Small xs ∧ (0 < n → ∃ b o, A = some ⟨b, o, none⟩ ∧ b < w.heap.size ∧ ∀ j, j < n → w.cell? ⟨b, o + j, none⟩ = some (.int .u32 ((lim xs j : Nat) : Int)))
theorem zqc (w : World) : Below w.heap.size w w := Below.refl _ _
theorem ret_bool {a b : Bool} (h : a = b) : Ending.returned (.bool a) = .returned (.bool b) := by rw [h]
theorem below_drewN {B : Nat} {a w : World} (h : Below B a w) (n : Nat) : Below B a (w.drewN n) := ⟨h.os, h.tape, h.output, h.size, h.block⟩
def same (xs ys : List Nat) : Bool := decide (xs = ys)
structure NN (w : World) (A : Option Addr) (n c : Nat) (xs : List Nat) (a L : Nat) : Prop where
 isN : IsN w A n xs
 val : Limb.val xs = a
 cap : n ≤ c
 le : n ≤ L
section
variable {w : World} {A A' : Option Addr} {n c n' c' : Nat} {xs ys : List Nat} {a b L L' : Nat}
end
theorem xqc (w : World) (o : Obj) : Below w.heap.size w (w.alloc o) := (Below.refl _ _).alloc (Nat.le_refl _) o
theorem xqa {w w1 w2 : World} (h : Below w.heap.size w w1) (k : Below w1.heap.size w1 w2) : Below w.heap.size w w2 := h.trans (k.mono h.size)
section
variable {P : Program}
theorem run_append_nothing (w : World) (base : Nat) (t ty e : TypeId) (i : TypeInfo) (size : Nat) (ht : P.underlying t = some (.slice e)) (hi : P.info? e = some i)
 (v : Value) (n : Nat) (xs : List Value) (hown : w.ownsRow base e size v n xs) (c : Nat) : (Builtin.append_ #[t, t] ty #[v, .slice none 0 c]).run P w = .ok v w := by
 rcases hown.2 with ⟨rfl, rfl⟩ | ⟨g, cap, cur, rfl, _, _, hnc, _⟩
 · simp [Builtin.append_, run_underlying ht, sizeOf, typeInfo, hi, Builtin.lenOf, Builtin.firstCells]
 · simp [Builtin.append_, run_underlying ht, sizeOf, typeInfo, hi, Builtin.lenOf, Builtin.firstCells, hnc, storeCells]
end
theorem below_lit {w w' : World} {o : Obj} {g : Nat} {n c : Nat} (hg : (w.alloc o).grownBy w' (Value.ownBlock (.slice (some ⟨g, 0, none⟩) n c))) (hb : w.heap.size ≤ g) : Below w.heap.size w w' :=
 (xqc w o).grown hg (by simp) (fun k hk => by
   simp [Value.ownBlock] at hk
   omega)
section
variable {w w' : World} {B B' C : Nat} {A : Option Addr} {n c : Nat} {zs : List Nat}
end
end Go.Proofs.YtannifhcjcbkcaaGreatDoor
namespace Go.Proofs.YtannifhcjcbkcaaGreatDoor.Limb
theorem set_set {zs : List Nat} {k u v : Nat} : (zs.set k u).set k v = zs.set k v := by simp
end Go.Proofs.YtannifhcjcbkcaaGreatDoor.Limb
namespace Go.Proofs.YtannifhcjcbkcaaGreatDoor
open Go.RowKit Limb
end Go.Proofs.YtannifhcjcbkcaaGreatDoor
namespace Go.Proofs.YtannifhcjcbkcaaGreatDoor
open Go.RowKit Limb
open Lib (hid)
end Go.Proofs.YtannifhcjcbkcaaGreatDoor
namespace Go.Proofs.YtannifhcjcbkcaaGreatDoor.Limb
end Go.Proofs.YtannifhcjcbkcaaGreatDoor.Limb
namespace Go.Proofs.YtannifhcjcbkcaaGreatDoor
open Go.RowKit Limb
section
variable {w : World} {A A' : Option Addr} {n c n' c' : Nat} {xs ys : List Nat} {a b L L' : Nat}
end
end Go.Proofs.YtannifhcjcbkcaaGreatDoor
namespace Go.Proofs.YtannifhcjcbkcaaGreatDoor.Limb
end Go.Proofs.YtannifhcjcbkcaaGreatDoor.Limb
namespace Go.Proofs.YtannifhcjcbkcaaGreatDoor
open Go.RowKit Limb
end Go.Proofs.YtannifhcjcbkcaaGreatDoor
namespace Go.Proofs.YtannifhcjcbkcaaGreatDoor
open Go.RowKit Limb
open Lib (hid)
end Go.Proofs.YtannifhcjcbkcaaGreatDoor
namespace Go.Proofs.YtannifhcjcbkcaaGreatDoor.Limb
end Go.Proofs.YtannifhcjcbkcaaGreatDoor.Limb
namespace Go.Proofs.YtannifhcjcbkcaaGreatDoor
open Go.RowKit Limb
end Go.Proofs.YtannifhcjcbkcaaGreatDoor
namespace Go.Proofs.YtannifhcjcbkcaaGreatDoor
open Go.RowKit Limb
open Lib (hid)
end Go.Proofs.YtannifhcjcbkcaaGreatDoor
namespace Go.Proofs.YtannifhcjcbkcaaGreatDoor
open Go.RowKit Limb
end Go.Proofs.YtannifhcjcbkcaaGreatDoor
namespace Go.Proofs.YtannifhcjcbkcaaGreatDoor.Limb
end Go.Proofs.YtannifhcjcbkcaaGreatDoor.Limb
namespace Go.Proofs.YtannifhcjcbkcaaGreatDoor
open Go.RowKit Limb
end Go.Proofs.YtannifhcjcbkcaaGreatDoor
namespace Go.Proofs.YtannifhcjcbkcaaGreatDoor
open Go.RowKit Limb
open Lib (hid)
def Row2 (w : World) (g : Nat) (T : TypeId) (u v : Value) : Prop := w.heap[g]? = some (.cells #[u, v] T (0, 0))
section
variable {w w' : World} {g : Nat} {T : TypeId} {u v : Value}
end
def sg (z : Int) : Bool := decide (z < 0)
structure ZZ (w : World) (s : Bool) (A : Option Addr) (n c : Nat) (xs : List Nat) (z : Int) (L : Nat) : Prop where
 nn : NN w A n c xs z.natAbs L
 sgn : z = if s = true then -(z.natAbs : Int) else (z.natAbs : Int)
def zOf (s : Bool) (a : Nat) : Int := if s = true then -(a : Int) else (a : Int)
theorem zOf_abs (s : Bool) (a : Nat) : (zOf s a).natAbs = a := by unfold zOf; split <;> omega
theorem ZZ.of {w : World} {s : Bool} {A : Option Addr} {n c : Nat} {xs : List Nat} {a L : Nat} (h : NN w A n c xs a L) : ZZ w s A n c xs (zOf s a) L := by
 refine ⟨by rw [zOf_abs]; exact h, ?_⟩;rw [zOf_abs]; rfl
def zT (z : Int) : List Nat := if z < 0 then 45 :: yvt z.natAbs else yvt z.natAbs
theorem zT_bytes (z : Int) : Bytes (zT z) := by
 unfold zT; split
 · exact bytes_cons.2 ⟨by decide, decT_bytes _⟩
 · exact decT_bytes _
section
variable {w : World} {s s' : Bool} {A A' : Option Addr} {n c n' c' : Nat} {xs ys : List Nat} {x y : Int} {L L' : Nat}
end
section
variable {w w' : World} {g : Nat} {T : TypeId} {a b c : Value}
end
section
variable {w w' : World} {g : Nat} {T : TypeId} {a b c d : Value}
end
def RowV (w : World) (g : Nat) (T : TypeId) (vs : List Value) : Prop := w.heap[g]? = some (.cells vs.toArray T (0, 0))
section
variable {w w' : World} {g : Nat} {T : TypeId} {vs : List Value}
theorem RowV.free (h : RowV w g T vs) (k : Nat) : w.frozen? ⟨g, k, none⟩ = false := by unfold RowV at h; simp [World.frozen?, h]
end
theorem xqt {w w' : World} {B g : Nat} (h : Below B w w') (hg : B ≤ g) (k : Nat) (v : Value) : Below B w (w'.setCell ⟨g, k, none⟩ v) := h.setCell (by exact hg) v
section
variable {wP w : World} {q r : Nat} {s : Bool} {A : Option Addr} {n c : Nat} {xs : List Nat} {z : Int} {L : Nat} {s' : Bool} {A' : Option Addr} {n' c' : Nat} {xs' : List Nat} {z' : Int} {L' : Nat}
structure Two (wP wx : World) (q r : Nat) (s : Bool) (A : Option Addr) (n c : Nat) (xs : List Nat) (z : Int) (L : Nat) (s' : Bool) (A' : Option Addr) (n' c' : Nat) (xs' : List Nat) (z' : Int) (L' : Nat) : Prop where
 q : Row2 wx q 89 (.bool s) (.slice A n c)
 r : Row2 wx r 89 (.bool s') (.slice A' n' c')
 z : ZZ wx s A n c xs z L
 z' : ZZ wx s' A' n' c' xs' z' L'
 b : Below wP.heap.size wP wx
end
end Go.Proofs.YtannifhcjcbkcaaGreatDoor
namespace Go.Proofs.YtannifhcjcbkcaaGreatDoor.Limb
open Lib (hid)
def xqw (l : List Nat) : Nat := (l.takeWhile xq2).length
def xza (l : List Nat) : Nat := if lim l 0 = 46 ∧ xqw (l.drop 1) ≠ 0 then 1 + xqw (l.drop 1) else 0
def yvb (l : List Nat) : Nat := if lim l 1 = 45 then 2 else 1
def xwy (l : List Nat) : Nat := if lim l 0 = 101 ∧ xqw (l.drop (yvb l)) ≠ 0 then yvb l + min (xqw (l.drop (yvb l))) 3 else 0
def xjv (l : List Nat) : Nat :=
 if xqw l = 0 then 0 else xqw l + xza (l.drop (xqw l)) + xwy (l.drop (xqw l + xza (l.drop (xqw l))))
def xq0 (l : List Nat) : Bool := decide (1 ≤ l.length) && decide (l.length ≤ 400) && decide (xjv l = l.length)
def litF : Option (List Nat) → List Nat
 | none => []
 | some p => 46 :: p
def litSg (s : Bool) : List Nat := if s = true then [45] else []
def litX : Option (Bool × List Nat) → List Nat
 | none => []
 | some (s, d) => 101 :: (litSg s ++ d)
def yjd (w : List Nat) (f : Option (List Nat)) (x : Option (Bool × List Nat)) : List Nat := w ++ litF f ++ litX x
def Dig1 (l : List Nat) : Prop := xw3 l = true ∧ l ≠ []
structure LitOk (w : List Nat) (f : Option (List Nat)) (x : Option (Bool × List Nat)) : Prop where
 whole : Dig1 w
 part : ∀ p, f = some p → Dig1 p
 exp : ∀ s d, x = some (s, d) → Dig1 d ∧ d.length ≤ 3
def Ender (r : List Nat) : Prop := r = [] ∨ ∃ c t, r = c :: t ∧ xq2 c = false ∧ c ≠ 46 ∧ c ≠ 101
def Ends (r : List Nat) : Prop := r = [] ∨ ∃ c t, r = c :: t ∧ xq2 c = false
theorem lim_nil (k : Nat) : lim [] k = 0 := by simp [lim]
theorem lim_drop0 (l : List Nat) (k : Nat) : lim (l.drop k) 0 = lim l k := by
 simp [lim, List.getD_eq_getElem?_getD]
theorem run_ends {a r : List Nat} (ha : xw3 a = true) (hr : Ends r) : (a ++ r).takeWhile xq2 = a := by
 rw [List.takeWhile_append_of_pos (fun x hx => List.all_eq_true.1 ha x hx)];rcases hr with rfl | ⟨c, t, rfl, hc⟩
 · simp
 · rw [List.takeWhile_cons_of_neg (by simp [hc])]; simp
theorem yqt {a r : List Nat} (ha : xw3 a = true) (hr : Ends r) : xqw (a ++ r) = a.length := by rw [xqw, run_ends ha hr]
theorem Ender.ends {r : List Nat} (h : Ender r) : Ends r := h.imp id fun ⟨c, t, e, hc, _⟩ => ⟨c, t, e, hc⟩
theorem Dig1.pos {l : List Nat} (h : Dig1 l) : l.length ≠ 0 := fun e => h.2 (List.eq_nil_of_length_eq_zero e)
theorem Dig1.lim0 {l r : List Nat} (h : Dig1 l) : xq2 (lim (l ++ r) 0) = true := by
 cases l with
 | nil => exact absurd rfl h.2
 | cons x l => exact List.all_eq_true.1 h.1 x (by simp)
theorem isDig_46 : xq2 46 = false := by decide
theorem isDig_101 : xq2 101 = false := by decide
theorem yva {r : List Nat} (h : lim r 0 ≠ 46) : xza r = 0 := if_neg fun h2 => h h2.1
theorem zq2 {r : List Nat} (h : lim r 0 ≠ 101) : xwy r = 0 := if_neg fun h2 => h h2.1
theorem Ender.lim {r : List Nat} (h : Ender r) : lim r 0 ≠ 46 ∧ lim r 0 ≠ 101 := by
 rcases h with rfl | ⟨c, t, rfl, _, h1, h2⟩
 · rw [lim_nil]; exact ⟨by decide, by decide⟩
 · exact ⟨h1, h2⟩
theorem litPoint_some {p r : List Nat} (hp : Dig1 p) (hr : Ends r) : xza (46 :: p ++ r) = 1 + p.length := by
 have e : xqw ((46 :: p ++ r).drop 1) = p.length := by
  show xqw (p ++ r) = _;exact yqt hp.1 hr
 unfold xza;rw [e, if_pos ⟨rfl, hp.pos⟩]
theorem litExp_some {s : Bool} {d r : List Nat} (hd : Dig1 d) (hl : d.length ≤ 3) (hr : Ends r) : xwy (litX (some (s, d)) ++ r) = (litX (some (s, d))).length := by
 cases s with
 | true =>
  have ea : yvb (101 :: ([45] ++ d) ++ r) = 2 := if_pos rfl;have e : xqw ((101 :: ([45] ++ d) ++ r).drop 2) = d.length := by
   show xqw (d ++ r) = _;exact yqt hd.1 hr
  show xwy (101 :: ([45] ++ d) ++ r) = d.length + 1 + 1;unfold xwy;rw [ea, e, if_pos ⟨rfl, hd.pos⟩, Nat.min_eq_left hl];omega
 | false =>
  have h0 : lim (101 :: ([] ++ d) ++ r) 1 ≠ 45 := by
   intro h;have h2 := hd.lim0 (r := r);have h3 : lim (d ++ r) 0 = 45 := h;rw [h3] at h2;exact absurd h2 (by decide)
  have ea : yvb (101 :: ([] ++ d) ++ r) = 1 := if_neg h0;have e : xqw ((101 :: ([] ++ d) ++ r).drop 1) = d.length := by
   show xqw (d ++ r) = _;exact yqt hd.1 hr
  show xwy (101 :: ([] ++ d) ++ r) = d.length + 1;unfold xwy;rw [ea, e, if_pos ⟨rfl, hd.pos⟩, Nat.min_eq_left hl];omega
theorem litLen_mk {w : List Nat} {f : Option (List Nat)} {x : Option (Bool × List Nat)} {r : List Nat} (h : LitOk w f x) (hr : Ender r) : xjv (yjd w f x ++ r) = (yjd w f x).length := by
 have hXr : Ends (litX x ++ r) := by
  cases x with
  | none => exact hr.ends
  | some y => exact .inr ⟨101, _, rfl, isDig_101⟩
 have hX46 : lim (litX x ++ r) 0 ≠ 46 := by
  cases x with
  | none => exact hr.lim.1
  | some y => show (101 : Nat) ≠ 46; decide
 have hXl : xwy (litX x ++ r) = (litX x).length := by
  cases x with
  | none => exact zq2 hr.lim.2
  | some y =>
   obtain ⟨s, d⟩ := y;obtain ⟨h1, h2⟩ := h.exp s d rfl;exact litExp_some h1 h2 hr.ends
 have hFr : Ends (litF f ++ (litX x ++ r)) := by
  cases f with
  | none => exact hXr
  | some p => exact .inr ⟨46, _, rfl, isDig_46⟩
 have hFl : xza (litF f ++ (litX x ++ r)) = (litF f).length := by
  cases f with
  | none => exact yva hX46
  | some p =>
   show xza (46 :: p ++ (litX x ++ r)) = p.length + 1;rw [litPoint_some (h.part p rfl) hXr]; omega
 have e : yjd w f x ++ r = w ++ (litF f ++ (litX x ++ r)) := by unfold yjd; simp
 have e1 : xqw (w ++ (litF f ++ (litX x ++ r))) = w.length := yqt h.whole.1 hFr;rw [e];unfold xjv yjd;rw [e1, if_neg h.whole.pos, List.drop_left, hFl];have e3 : (w ++ (litF f ++ (litX x ++ r))).drop (w.length + (litF f).length) = litX x ++ r := by
  rw [← List.drop_drop, List.drop_left, List.drop_left]
 rw [e3, hXl, List.length_append, List.length_append]
theorem yjc (l : List Nat) : xqw l ≤ l.length := (List.takeWhile_sublist _).length_le
theorem take_run (l : List Nat) : l.take (xqw l) = l.takeWhile xq2 := (List.prefix_iff_eq_take.1 (List.takeWhile_prefix xq2)).symm
theorem ywe (l : List Nat) : xw3 (l.takeWhile xq2) = true := by
 rw [xw3, List.all_eq_true];intro x hx;have h := List.all_takeWhile (p := xq2) (l := l);exact List.all_eq_true.1 h x hx
theorem dig1_take {l : List Nat} {k : Nat} (h0 : xqw l ≠ 0) (hk : 0 < k) (hl : k ≤ xqw l) : Dig1 (l.take k) := by
 have e : l.take k = (l.takeWhile xq2).take k := by rw [← take_run, List.take_take, Nat.min_eq_left hl]
 rw [e];refine ⟨?_, ?_⟩
 · exact allDig_iff.2 fun x hx => allDig_iff.1 (ywe l) x (List.mem_of_mem_take hx)
 · intro h;have h2 : min k (l.takeWhile xq2).length = 0 := by rw [← List.length_take, h]; rfl
   have h3 : xqw l = (l.takeWhile xq2).length := rfl;omega
theorem yzo {l : List Nat} {v : Nat} (h : lim l 0 = v) (hv : v ≠ 0) : l = v :: l.drop 1 := by
 cases l with
 | nil => rw [lim_nil] at h; exact absurd h.symm hv
 | cons x l => rw [show x = v from h]; rfl
theorem yzh (r : List Nat) : ∃ f, (∀ p, f = some p → Dig1 p) ∧ r.take (xza r) = litF f ∧ xza r ≤ r.length := by
 unfold xza;by_cases h : lim r 0 = 46 ∧ xqw (r.drop 1) ≠ 0
 · rw [if_pos h];refine ⟨some ((r.drop 1).take (xqw (r.drop 1))), fun p hp => ?_, ?_, ?_⟩
   · injection hp with hp
     subst hp;exact dig1_take h.2 (Nat.pos_of_ne_zero h.2) (Nat.le_refl _)
   · conv => lhs; rw [yzo h.1 (by decide)]
     rw [Nat.add_comm 1]; rfl
   · have h1 := yjc (r.drop 1);rw [List.length_drop] at h1;omega
 · rw [if_neg h];exact ⟨none, (fun p hp => by cases hp), rfl, Nat.zero_le _⟩
theorem zja (r : List Nat) : ∃ x, (∀ s d, x = some (s, d) → Dig1 d ∧ d.length ≤ 3) ∧ r.take (xwy r) = litX x ∧ xwy r ≤ r.length := by
 unfold xwy;by_cases h : lim r 0 = 101 ∧ xqw (r.drop (yvb r)) ≠ 0
 · rw [if_pos h];have h1 := yjc (r.drop (yvb r));rw [List.length_drop] at h1;have hd : Dig1 ((r.drop (yvb r)).take (min (xqw (r.drop (yvb r))) 3)) := dig1_take h.2 (by have := h.2; omega) (Nat.min_le_left _ _);have hl : ((r.drop (yvb r)).take (min (xqw (r.drop (yvb r))) 3)).length ≤ 3 := by rw [List.length_take]; omega
   have hc := yzo h.1 (by decide);by_cases h45 : lim r 1 = 45
   · have ea : yvb r = 2 := if_pos h45;have h5 := h.2;rw [ea] at h1 hd hl h5 ⊢;refine ⟨some (true, (r.drop 2).take (min (xqw (r.drop 2)) 3)), fun s d e => ?_, ?_, by omega⟩
     · injection e with e; injection e with e1 e2; subst e2; exact ⟨hd, hl⟩
     · have hc2 : r.drop 1 = 45 :: r.drop 2 := by
        have h2 : lim (r.drop 1) 0 = 45 := by rw [lim_drop0]; exact h45
        have h3 := yzo h2 (by decide)
        rwa [List.drop_drop] at h3
       generalize min (xqw (r.drop 2)) 3 = k;have e : r.take (2 + k) = 101 :: 45 :: (r.drop 2).take k := by
        conv => lhs; rw [hc, hc2]
        rw [show 2 + k = k + 1 + 1 by omega]; rfl
       exact e
   · have ea : yvb r = 1 := if_neg h45;have h5 := h.2;rw [ea] at h1 hd hl h5 ⊢;refine ⟨some (false, (r.drop 1).take (min (xqw (r.drop 1)) 3)), fun s d e => ?_, ?_, by omega⟩
     · injection e with e; injection e with e1 e2; subst e2; exact ⟨hd, hl⟩
     · generalize min (xqw (r.drop 1)) 3 = k;have e : r.take (1 + k) = 101 :: (r.drop 1).take k := by
        conv => lhs; rw [hc]
        rw [show 1 + k = k + 1 by omega]; rfl
       exact e
 · rw [if_neg h];exact ⟨none, (fun s d hp => by cases hp), rfl, Nat.zero_le _⟩
theorem yje {l : List Nat} (h : xjv l ≠ 0) : ∃ w f x, LitOk w f x ∧ l.take (xjv l) = yjd w f x := by
 have h0 : xqw l ≠ 0 := fun e => h (if_pos e)
 obtain ⟨f, f1, f2, f3⟩ := yzh (l.drop (xqw l));obtain ⟨x, x1, x2, x3⟩ := zja (l.drop (xqw l + xza (l.drop (xqw l))));refine ⟨l.takeWhile xq2, f, x, ⟨⟨ywe l, fun e => h0 (by rw [xqw, e]; rfl)⟩, f1, x1⟩, ?_⟩;unfold xjv yjd;rw [if_neg h0, List.take_add, List.take_add, take_run, f2, x2]
theorem zq1 (l : List Nat) : xjv l ≤ l.length := by
 unfold xjv
 split
 · exact Nat.zero_le _
 · obtain ⟨_, _, _, f3⟩ := yzh (l.drop (xqw l));obtain ⟨_, _, _, x3⟩ := zja (l.drop (xqw l + xza (l.drop (xqw l))));have h1 := yjc l;rw [List.length_drop] at f3 x3;omega
theorem Ender.nil : Ender [] := .inl rfl
theorem Ender.of {c : Nat} (t : List Nat) (h : xq2 c = false ∧ c ≠ 46 ∧ c ≠ 101) : Ender (c :: t) := .inr ⟨c, t, rfl, h⟩
theorem litGood_iff {l : List Nat} : xq0 l = true ↔ 1 ≤ l.length ∧ l.length ≤ 400 ∧ xjv l = l.length := by
 simp [xq0, and_assoc]
theorem litLen_more {l : List Nat} (h : xq0 l = true) {c : Nat} (t : List Nat) (hc : xq2 c = false ∧ c ≠ 46 ∧ c ≠ 101) : xjv (l ++ c :: t) = l.length := by
 obtain ⟨h1, h2, h3⟩ := litGood_iff.1 h;obtain ⟨w, f, x, hok, e⟩ := yje (l := l) (by omega);rw [h3, List.take_length] at e;rw [e];exact litLen_mk hok (Ender.of t hc)
theorem litGood_mk {w : List Nat} {f : Option (List Nat)} {x : Option (Bool × List Nat)} (h : LitOk w f x) (hl : (yjd w f x).length ≤ 400) : xq0 (yjd w f x) = true := by
 have h2 := litLen_mk h Ender.nil;rw [List.append_nil] at h2;refine litGood_iff.2 ⟨?_, hl, h2⟩;have := h.whole.pos;unfold yjd;rw [List.length_append, List.length_append];omega
end Go.Proofs.YtannifhcjcbkcaaGreatDoor.Limb
namespace Go.Proofs.YtannifhcjcbkcaaGreatDoor
open Go.RowKit Limb
open Lib (hid)
abbrev Tk := Nat × List Nat × Nat
def yjv (c : Nat) : Bool := (decide (97 ≤ c) && decide (c ≤ 122)) || (decide (65 ≤ c) && decide (c ≤ 90)) || decide (c = 95)
def yvc (c : Nat) : Bool := yjv c || xq2 c
def isSg (c : Nat) : Bool := [40, 41, 43, 45, 42, 47, 94, 61, 59, 58].contains c
def isBl (c : Nat) : Bool := decide (c = 32) || decide (c = 9) || decide (c = 10)
def xvt (c : Nat) : Bool := decide (c ≠ 10)
def yqg (c : Nat) : Bool := decide (c ≠ 93) && decide (c ≠ 10)
def stopN : List Nat → Bool
 | [] => false
 | d :: _ => yjv d || decide (d = 46)
def yji : List Nat → Bool
 | [] => false
 | d :: _ => decide (d = 93)
inductive LS where
 | skip : Nat → LS
 | tok : Nat → List Nat → Nat → LS
 | bad : LS
def xwq (c : Nat) (r : List Nat) : LS :=
 if isBl c = true then .skip 1
 else if c = 35 then .skip (1 + (r.takeWhile xvt).length)
 else if yjv c = true then
  if 16 < 1 + (r.takeWhile yvc).length then .bad else .tok 1 ((c :: r).take (1 + (r.takeWhile yvc).length)) (1 + (r.takeWhile yvc).length)
 else if xq2 c = true then
  if 400 < xjv (c :: r) ∨ stopN ((c :: r).drop (xjv (c :: r))) = true then .bad else .tok 2 ((c :: r).take (xjv (c :: r))) (xjv (c :: r))
 else if c = 91 then
  if (r.takeWhile yqg).length = 0 ∨ 200 < (r.takeWhile yqg).length ∨ yji (r.drop (r.takeWhile yqg).length) = false then .bad else .tok 4 (r.take (r.takeWhile yqg).length) ((r.takeWhile yqg).length + 2)
 else if isSg c = true then .tok 3 [c] 1
 else .bad
inductive LR where
 | ok : List Tk → LR
 | bad : Nat → LR
def consL (t : Tk) : LR → LR
 | .ok l => .ok (t :: l)
 | .bad p => .bad p
def yv5 : Nat → Nat → List Nat → LR
 | 0, a, _ => .bad a
 | f + 1, _, [] => .ok []
 | f + 1, a, c :: r =>
  match xwq c r with
  | .skip n => yv5 f (a + n) ((c :: r).drop n)
  | .tok k t n => consL (k, t, a) (yv5 f (a + n) ((c :: r).drop n))
  | .bad => .bad a
def lexT (l : List Nat) : LR := yv5 (l.length + 1) 0 l
def lexV (l : List Nat) : List Tk × Int × Int := if 4000 < l.length then ([], 2, 0) else match lexT l with | .ok ts => (ts, 0, 0) | .bad p => ([], 11, p)
theorem litLen_pos {c : Nat} {r : List Nat} (h : xq2 c = true) : 1 ≤ xjv (c :: r) := by
 have h1 : xqw (c :: r) = (xqw r) + 1 := by
  unfold xqw;rw [List.takeWhile_cons_of_pos h]; rfl
 unfold xjv;rw [if_neg (by omega)];omega
theorem lexS_len {c : Nat} {r : List Nat} : (∀ n, xwq c r = .skip n → 1 ≤ n ∧ n ≤ r.length + 1) ∧ ∀ k t n, xwq c r = .tok k t n → 1 ≤ n ∧ n ≤ r.length + 1 := by
 have w : ∀ p : Nat → Bool, (r.takeWhile p).length ≤ r.length := fun p => (List.takeWhile_sublist _).length_le
 have hl := zq1 (c :: r);simp only [List.length_cons] at hl;refine ⟨fun n h => ?_, fun k t n h => ?_⟩
 · unfold xwq at h
   split at h
   · cases h; omega
   · split at h
     · cases h; have := w xvt; omega
     · split at h
       · split at h <;> cases h
       · split at h
         · split at h <;> cases h
         · split at h
           · split at h <;> cases h
           · split at h <;> cases h
 · unfold xwq at h
   split at h
   · cases h
   · split at h
     · cases h
     · split at h
       · split at h
         · cases h
         · cases h; have := w yvc; omega
       · split at h
         · rename_i hd
           split at h
           · cases h
           · cases h; exact ⟨litLen_pos hd, hl⟩
         · split at h
           · split at h
             · cases h
             · rename_i hn
               cases h
               have h1 := w yqg;have h2 : yji (r.drop (r.takeWhile yqg).length) = true := by
                rcases Bool.eq_false_or_eq_true (yji (r.drop (r.takeWhile yqg).length)) with e | e
                · exact e
                · exact absurd (.inr (.inr e)) hn
               have h3 : (r.takeWhile yqg).length < r.length := by
                rcases Nat.lt_or_ge (r.takeWhile yqg).length r.length with e | e
                · exact e
                · rw [List.drop_eq_nil_of_le e] at h2; cases h2
               omega
           · split at h
             · cases h; omega
             · cases h
theorem yqf : ∀ (f f' a : Nat) (l : List Nat), l.length < f → l.length < f' → yv5 f a l = yv5 f' a l
 | 0, _, _, l, h, _ => absurd h (by omega)
 | f + 1, 0, _, l, _, h => absurd h (by omega)
 | f + 1, f' + 1, a, [], _, _ => rfl
 | f + 1, f' + 1, a, c :: r, h1, h2 => by
  simp only [List.length_cons] at h1 h2;unfold yv5;have hl := lexS_len (c := c) (r := r);cases e : xwq c r with
  | bad => rfl
  | skip n =>
   have := hl.1 n e;exact yqf f f' _ _ (by rw [List.length_drop, List.length_cons]; omega) (by rw [List.length_drop, List.length_cons]; omega)
  | tok k t n =>
   have := hl.2 k t n e;dsimp only;rw [yqf f f' _ _ (by rw [List.length_drop, List.length_cons]; omega) (by rw [List.length_drop, List.length_cons]; omega)]
/-! ### a sign behind that ends every token -/
def appL (ts : List Tk) : LR → LR
 | .ok l => .ok (ts ++ l)
 | .bad p => .bad p
def yqx : List Nat → Bool
 | [] => false
 | c :: r => yjv c && r.all yvc && decide (r.length < 16)
def okTk (t : Tk) : Bool :=
 if t.1 = 1 then yqx t.2.1 else if t.1 = 2 then xq0 t.2.1 else if t.1 = 3 then decide (t.2.1.length = 1) else if t.1 = 4 then decide (1 ≤ t.2.1.length) && decide (t.2.1.length ≤ 200) else false
theorem lt_not {c : Nat} (h : yjv c = true) : isBl c = false ∧ c ≠ 35 := by
 refine ⟨?_, ?_⟩
 · rcases Bool.eq_false_or_eq_true (isBl c) with e | e
   · exfalso
     unfold isBl at e;simp only [Bool.or_eq_true, decide_eq_true_eq] at e;rcases e with (rfl | rfl) | rfl <;> exact absurd h (by decide)
   · exact e
 · rintro rfl; exact absurd h (by decide)
theorem xz5 {p : Nat → Bool} : ∀ l : List Nat, l.take (l.takeWhile p).length = l.takeWhile p
 | [] => rfl
 | a :: l => by
  by_cases h : p a = true
  · rw [List.takeWhile_cons_of_pos h, List.length_cons, List.take_succ_cons, xz5 l]
  · rw [List.takeWhile_cons_of_neg h]; rfl
theorem take_all {p : Nat → Bool} : ∀ {l : List Nat}, l.all p = true → l.takeWhile p = l
 | [], _ => rfl
 | a :: l, h => by
  simp only [List.all_cons, Bool.and_eq_true] at h;rw [List.takeWhile_cons_of_pos h.1, take_all h.2]
theorem lexS_kind {c : Nat} {r : List Nat} {k n a : Nat} {s : List Nat} (h : xwq c r = .tok k s n) : okTk (k, s, a) = true := by
 have hl := zq1 (c :: r);unfold xwq at h
 split at h
 · cases h
 · split at h
   · cases h
   · split at h
     · rename_i hc
       split at h
       · cases h
       · rename_i hn
         cases h
         show yqx ((c :: r).take (1 + (r.takeWhile yvc).length)) = true;rw [Nat.add_comm 1, List.take_succ_cons, xz5];show (yjv c && (r.takeWhile yvc).all yvc && decide ((r.takeWhile yvc).length < 16)) = true;rw [hc, List.all_takeWhile, decide_eq_true (by omega)];rfl
     · split at h
       · rename_i hd
         split at h
         · cases h
         · rename_i hn
           cases h
           show xq0 ((c :: r).take (xjv (c :: r))) = true;have h1 := litLen_pos (r := r) hd;have h4 : xjv (c :: r) ≤ 400 := by
            rcases Nat.lt_or_ge 400 (xjv (c :: r)) with e | e
            · exact absurd (.inl e) hn
            · exact e
           obtain ⟨w, f, x, hok, e⟩ := yje (l := c :: r) (by omega);have e2 := congrArg List.length e;rw [List.length_take] at e2;rw [e];exact litGood_mk hok (by omega)
       · split at h
         · split at h
           · cases h
           · rename_i hn
             cases h
             have w : (r.takeWhile yqg).length ≤ r.length := (List.takeWhile_sublist _).length_le;have e1 : (r.take (r.takeWhile yqg).length).length = (r.takeWhile yqg).length := by rw [List.length_take]; omega
             show (decide _ && decide _) = true;simp only [e1];rw [decide_eq_true, decide_eq_true]
             · rfl
             · rcases Nat.lt_or_ge 200 (r.takeWhile yqg).length with e | e
               · exact absurd (.inr (.inl e)) hn
               · exact e
             · rcases Nat.eq_zero_or_pos (r.takeWhile yqg).length with e | e
               · exact absurd (.inl e) hn
               · exact e
         · split at h
           · cases h; rfl
           · cases h
def rawT (t : Tk) : List Nat := if t.1 = 4 then 91 :: (t.2.1 ++ [93]) else t.2.1
theorem notNl_of {x : List Nat} (h : ∀ c ∈ x, xvt c = true) : ∀ c ∈ x, c ≠ 10 := fun c hc => by
 have := h c hc;unfold xvt at this
 simpa using this
theorem yzx {p : Nat → Bool} : ∀ {l : List Nat}, ∀ c ∈ l.takeWhile p, p c = true
 | [], c, h => by simp at h
 | a :: l, c, h => by
  by_cases ha : p a = true
  · rw [List.takeWhile_cons_of_pos ha] at h;rcases List.mem_cons.1 h with rfl | h
    · exact ha
    · exact yzx c h
  · rw [List.takeWhile_cons_of_neg ha] at h; simp at h
theorem yjj {p : Nat → Bool} : ∀ {l : List Nat} {c : Nat} {r : List Nat}, l.drop (l.takeWhile p).length = c :: r → p c = false
 | [], c, r, h => by simp at h
 | a :: l, c, r, h => by
  by_cases ha : p a = true
  · rw [List.takeWhile_cons_of_pos ha, List.length_cons, List.drop_succ_cons] at h;exact yjj h
  · rw [List.takeWhile_cons_of_neg ha] at h;simp at h;obtain ⟨rfl, _⟩ := h
    simpa using ha
theorem close_at {r : List Nat} {n : Nat} (h : yji (r.drop n) = true) : ∃ q, r.drop n = 93 :: q := by
 cases e : r.drop n with
 | nil => rw [e] at h; cases h
 | cons d q => rw [e] at h; unfold yji at h; simp at h; exact ⟨q, by rw [h]⟩
theorem raw_at {c : Nat} {r s : List Nat} {k n a : Nat} (h : xwq c r = .tok k s n) : (rawT (k, s, a)).length = n ∧ (c :: r).take n = rawT (k, s, a) := by
 have hl := lexS_len.2 k s n h;have e1 : (c :: r).take n = rawT (k, s, a) → (rawT (k, s, a)).length = n := fun e => by rw [← e, List.length_take, List.length_cons]; omega
 have key : (c :: r).take n = rawT (k, s, a) := by
  unfold xwq at h
  split at h
  · cases h
  · split at h
    · cases h
    · split at h
      · split at h <;> cases h; rfl
      · split at h
        · split at h <;> cases h; rfl
        · split at h
          · rename_i h91
            subst h91
            split at h
            · cases h
            · rename_i hn
              have hc : yji (r.drop (r.takeWhile yqg).length) = true := by
               rcases Bool.eq_false_or_eq_true (yji (r.drop (r.takeWhile yqg).length)) with e | e
               · exact e
               · exact absurd (.inr (.inr e)) hn
              cases h
              obtain ⟨q, hq⟩ := close_at hc;show (91 :: r).take ((r.takeWhile yqg).length + 2) = 91 :: (r.take (r.takeWhile yqg).length ++ [93]);rw [List.take_succ_cons, List.take_add, hq];rfl
          · split at h
            · cases h; rfl
            · cases h
 exact ⟨e1 key, key⟩
end Go.Proofs.YtannifhcjcbkcaaGreatDoor
namespace Go.Proofs.YtannifhcjcbkcaaGreatDoor
open Go.RowKit Go.ChangeShapes Limb
open Lib (hid)
def kindsL : List Int := [0, 0, 0, 0, 0, 0, 0, 0, 0, 0, 0, 0, 0, 0, 0, 0, 0, 0, 0, 0, 0, 0, 0, 0, 0, 0, 0, 0, 0, 0, 0, 0, 0, 0, 0, 0, 0, 0, 0, 0, 0, 0, 0, 0, 0, 4, 2, 0, 1, 1, 1, 1, 1, 1, 1, 1, 1, 1, 0, 0, 0, 0, 0, 0, 0, 0, 0, 0, 0, 0, 0, 0, 0, 0, 0, 0, 0, 0, 0, 0, 0, 0, 0, 0, 0, 0, 0, 0, 0, 0, 0, 0, 0, 0, 0, 0, 0, 0, 0, 0, 0, 3]
def yqw (c : Nat) : Nat := if c = 45 then 4 else if c = 46 then 2 else if c = 101 then 3 else if xq2 c = true then 1 else 0
theorem kinds_at : ∀ i, i < 102 → kindsL.getD i 0 = ((yqw i : Nat) : Int) := by decide
theorem xzb {w : World} {a : Addr} {v : Value} (h : w.cell? a = some v) : a.block < w.heap.size := by
 rcases Nat.lt_or_ge a.block w.heap.size with h1 | h1
 · exact h1
 · simp [World.cell?, Array.getElem?_eq_none h1] at h
def KTab (w : World) : Prop := ∀ i, i < 102 → w.cell? ⟨7, i, none⟩ = some (.int .u8 ((yqw i : Nat) : Int))
theorem KTab.below {w w' : World} (h : KTab w) (hb : Below w.heap.size w w') : KTab w' := fun i hi => (hb.cell (p := ⟨7, i, none⟩) (xzb (h i hi))).trans (h i hi)
set_option maxRecDepth 4000 in
theorem xj4 {W : World} {name : String} {r : List (String × DataW Unit)} (h : laidMet Tryz.prog ((name, Lib.tabData .u8 kindsL) :: r) W) (hg : Tryz.prog.globalNamed name = some 7) :
 ∀ i, i < 102 → W.cell? ⟨7, i, none⟩ = some (.int .u8 ((yqw i : Nat) : Int)) := fun i hi => by
 have hT := Lib.tabIs_of_head hg (t := 204) (by kernel_rfl) Tryz.underlying204 Tryz.underlying5 (by kernel_rfl) (by kernel_rfl) h;rw [hT.cell hg i hi, kinds_at i hi]
end Go.Proofs.YtannifhcjcbkcaaGreatDoor
namespace Go.Proofs.YtannifhcjcbkcaaGreatDoor
open Go.RowKit Limb
open Lib (hid)
theorem xw2 {l : List Nat} {i : Nat} (h : i < l.length) : l.drop i = lim l i :: l.drop (i + 1) := by
 rw [List.drop_eq_getElem_cons h];simp [lim, List.getD_eq_getElem?_getD, h]
theorem zqf {p : Nat → Bool} {r : List Nat} {n : Nat} (h : (r.takeWhile p).length = n) : ∃ v, r = r.takeWhile p ++ v ∧ r.drop n = v ∧ (v = [] ∨ ∃ d q, v = d :: q ∧ p d = false) := by
 subst h;refine ⟨r.drop (r.takeWhile p).length, ?_, rfl, ?_⟩
 · conv => lhs; rw [← List.take_append_drop (r.takeWhile p).length r, xz5]
 · cases e : r.drop (r.takeWhile p).length with
   | nil => exact .inl rfl
   | cons d q => exact .inr ⟨d, q, rfl, yjj e⟩
theorem while_at {p : Nat → Bool} {d : Nat} {q : List Nat} (hd : p d = false) : ∀ {u : List Nat}, u.all p = true → (u ++ d :: q).takeWhile p = u
 | [], _ => by rw [List.nil_append, List.takeWhile_cons_of_neg (by rw [hd]; decide)]
 | a :: u, h => by
  simp only [List.all_cons, Bool.and_eq_true] at h;rw [List.cons_append, List.takeWhile_cons_of_pos h.1, while_at hd h.2]
theorem all_while {p : Nat → Bool} (r : List Nat) : (r.takeWhile p).all p = true := List.all_takeWhile
end Go.Proofs.YtannifhcjcbkcaaGreatDoor
namespace Go.Proofs.YtannifhcjcbkcaaGreatDoor
open Go.RowKit Go.ChangeShapes Limb
open Lib (hid)
def lkindsL : List Int := [0, 0, 0, 0, 0, 0, 0, 0, 0, 1, 1, 0, 0, 0, 0, 0, 0, 0, 0, 0, 0, 0, 0, 0, 0, 0, 0, 0, 0, 0, 0, 0, 1, 0, 0, 2, 0, 0, 0, 0, 6, 6, 6, 6, 0, 6, 5, 6, 4, 4, 4, 4, 4, 4, 4, 4, 4, 4, 6, 6, 0, 6, 0, 0, 0, 3, 3, 3, 3, 3, 3, 3, 3, 3, 3, 3, 3, 3, 3, 3, 3, 3, 3, 3, 3, 3, 3, 3, 3, 3, 3, 7, 0, 0, 6, 3, 0, 3, 3, 3, 3, 3, 3, 3, 3, 3, 3, 3, 3, 3, 3, 3, 3, 3, 3, 3, 3, 3, 3, 3, 3, 3, 3]
def lkN (c : Nat) : Nat := if isBl c = true then 1 else if c = 35 then 2 else if yjv c = true then 3 else if xq2 c = true then 4 else if c = 46 then 5 else if isSg c = true then 6 else if c = 91 then 7 else 0
set_option maxRecDepth 4000 in
theorem lkinds_at : ∀ i, i < 123 → lkindsL.getD i 0 = ((lkN i : Nat) : Int) := by decide
def NTab (w : World) : Prop := ∀ i, i < 123 → w.cell? ⟨2, i, none⟩ = some (.int .u8 ((lkN i : Nat) : Int))
def XTab (w : World) : Prop := KTab w ∧ NTab w
theorem XTab.below {w w' : World} (h : XTab w) (hb : Below w.heap.size w w') : XTab w' :=
 ⟨h.1.below hb, fun i hi => (hb.cell (p := ⟨2, i, none⟩) (xzb (h.2 i hi))).trans (h.2 i hi)⟩
set_option maxRecDepth 4000 in
theorem xjl {W : World} {name : String} {r : List (String × DataW Unit)} (h : laidMet Tryz.prog ((name, Lib.tabData .u8 lkindsL) :: r) W) (hg : Tryz.prog.globalNamed name = some 2) :
 ∀ i, i < 123 → W.cell? ⟨2, i, none⟩ = some (.int .u8 ((lkN i : Nat) : Int)) := fun i hi => by
 have hT := Lib.tabIs_of_head hg (t := 169) (by kernel_rfl) Tryz.underlying169 Tryz.underlying5 (by kernel_rfl) (by kernel_rfl) h;rw [hT.cell hg i hi, lkinds_at i hi]
end Go.Proofs.YtannifhcjcbkcaaGreatDoor
namespace Go.Proofs.YtannifhcjcbkcaaGreatDoor
open Go.RowKit Limb
open Lib (hid)
theorem lkN_big {c : Nat} (h : 123 ≤ c) : lkN c = 0 := by
 unfold lkN;rw [if_neg (by simp [isBl]; omega), if_neg (by omega), if_neg (by simp [yjv]; omega), if_neg (by simp [xq2]; omega), if_neg (by omega), if_neg (by simp [isSg]; omega), if_neg (by omega)]
theorem lkN_all : ∀ c, c < 256 → ((lkN c = 1 ↔ isBl c = true) ∧ (lkN c = 2 ↔ c = 35) ∧ (lkN c = 3 ↔ yjv c = true) ∧ (lkN c = 4 ↔ xq2 c = true) ∧ (lkN c = 5 ↔ c = 46) ∧ (lkN c = 6 ↔ isSg c = true) ∧ (lkN c = 7 ↔ c = 91)) := by
 decide +kernel
theorem byte_lt (s : ByteArray) (i : Nat) : lim (bytesOf s) i < 256 := bytes_lim (xjg s) i
theorem lw_step {p : Nat → Bool} : ∀ {l : List Nat} {k : Nat}, k ≤ (l.takeWhile p).length → k < l.length → p (lim l k) = true → k + 1 ≤ (l.takeWhile p).length
 | [], k, h, hk, _ => absurd hk (by simp)
 | c :: l, 0, h, hk, hp => by rw [List.takeWhile_cons_of_pos (by simpa [lim] using hp)]; simp
 | c :: l, k + 1, h, hk, hp => by
  by_cases hc : p c = true
  · rw [List.takeWhile_cons_of_pos hc] at h ⊢;have := lw_step (l := l) (k := k) (by simpa using h) (by simpa using hk) (by simpa [lim] using hp)
    simpa using this
  · rw [List.takeWhile_cons_of_neg hc] at h; simp at h
theorem lw_stop {p : Nat → Bool} : ∀ {l : List Nat} {k : Nat}, k ≤ (l.takeWhile p).length → (k < l.length → p (lim l k) = false) → (l.takeWhile p).length = k
 | [], k, h, _ => by simp at h ⊢; omega
 | c :: l, 0, h, hp => by
  have := hp (by simp);rw [List.takeWhile_cons_of_neg (by simpa [lim] using this)]; rfl
 | c :: l, k + 1, h, hp => by
  by_cases hc : p c = true
  · rw [List.takeWhile_cons_of_pos hc] at h ⊢;have := lw_stop (p := p) (l := l) (k := k) (by simpa using h) (fun h2 => by simpa [lim] using hp (by simpa using h2))
    simpa using this
  · rw [List.takeWhile_cons_of_neg hc] at h; simp at h
def yvu : List Nat → Nat
 | [] => 0
 | c :: r => if yjv c = true then 1 + (r.takeWhile yvc).length else 0
def wdAt (k c : Nat) : Bool := yjv c || (decide (0 < k) && xq2 c)
theorem xvh (c : Nat) (r : List Nat) : yvu (c :: r) = if yjv c = true then 1 + (r.takeWhile yvc).length else 0 := rfl
theorem word_step {l : List Nat} {k : Nat} (h : k ≤ yvu l) (hk : k < l.length) (hp : wdAt k (lim l k) = true) : k + 1 ≤ yvu l := by
 cases l with
 | nil => simp at hk
 | cons c l =>
  cases k with
  | zero =>
   have : yjv c = true := by simpa [wdAt, lim] using hp
   rw [xvh, if_pos this]; omega
  | succ k =>
   by_cases hc : yjv c = true
   · rw [xvh, if_pos hc] at h ⊢;have := lw_step (p := yvc) (l := l) (k := k) (by omega) (by simpa using hk) (by simpa [wdAt, yvc, lim] using hp);omega
   · rw [xvh, if_neg hc] at h; omega
theorem word_stop {l : List Nat} {k : Nat} (h : k ≤ yvu l) (hp : k < l.length → wdAt k (lim l k) = false) : yvu l = k := by
 cases l with
 | nil => simp [yvu] at h ⊢; omega
 | cons c l =>
  cases k with
  | zero =>
   have : yjv c = false := by simpa [wdAt, lim] using hp (by simp)
   rw [xvh, if_neg (by rw [this]; decide)]
  | succ k =>
   by_cases hc : yjv c = true
   · rw [xvh, if_pos hc] at h ⊢;have := lw_stop (p := yvc) (l := l) (k := k) (by omega) (fun h2 => by simpa [wdAt, yvc, lim] using hp (by simpa using h2));omega
   · rw [xvh, if_neg hc] at h; omega
def wordL (l : List Nat) : Nat := if 16 < yvu l then 0 else yvu l
def numL (l : List Nat) : Nat := if 400 < xjv l ∨ stopN (l.drop (xjv l)) = true then 0 else xjv l
def unitL (l : List Nat) : Nat :=
 match l with
 | [] => 0
 | _ :: r => if (r.takeWhile yqg).length = 0 ∨ 200 < (r.takeWhile yqg).length ∨ yji (r.drop (r.takeWhile yqg).length) = false then 0 else (r.takeWhile yqg).length + 2
def ownW (l : List Nat) : Bool := [[117, 110, 105, 116], [115, 111, 117, 114, 99, 101], [99, 111, 118], [108, 101, 116], [111, 117, 116, 112, 117, 116], [105, 110]].contains l
def xjn (l : List Nat) : Bool := yqx l && !ownW l
theorem wordL_is (l : List Nat) (h : l ≠ []) : decide (wordL l = l.length) = yqx l := by
 cases l with
 | nil => exact absurd rfl h
 | cons c r =>
  unfold wordL yqx;rw [xvh];show decide _ = (yjv c && r.all yvc && decide (r.length < 16));have hle : (r.takeWhile yvc).length ≤ r.length := (List.takeWhile_sublist _).length_le;by_cases hc : yjv c = true
  · rw [if_pos hc, hc, Bool.true_and];by_cases ha : r.all yvc = true
    · rw [take_all ha, ha, Bool.true_and, List.length_cons];by_cases h16 : 16 < 1 + r.length
      · rw [if_pos h16, decide_eq_false (by omega), decide_eq_false (by omega)]
      · rw [if_neg h16, decide_eq_true (by omega), decide_eq_true (by omega)]
    · have hlt : (r.takeWhile yvc).length < r.length := by
       rcases Nat.lt_or_ge (r.takeWhile yvc).length r.length with e | e
       · exact e
       · exfalso
         have e2 : r.takeWhile yvc = r := (List.takeWhile_prefix yvc).eq_of_length (by omega);exact ha (by rw [← e2]; exact all_while r)
      have ha2 : r.all yvc = false := by simpa using ha
      rw [ha2, Bool.false_and, List.length_cons]
      split
      · exact decide_eq_false (by omega)
      · exact decide_eq_false (by omega)
  · have hc2 : yjv c = false := by simpa using hc
    rw [if_neg hc, hc2]
    simp
inductive FirstP (c : Nat) (r : List Nat) (k n : Nat) : Prop
 | bad : n = 0 → xwq c r = .bad → FirstP c r k n
 | tok (t : List Nat) : xwq c r = .tok k t n → FirstP c r k n
theorem first_word {c : Nat} {r : List Nat} (h : yjv c = true) : FirstP c r 1 (wordL (c :: r)) := by
 obtain ⟨n1, n2⟩ := lt_not h;unfold wordL;rw [xvh, if_pos h];by_cases h16 : 16 < 1 + (r.takeWhile yvc).length
 · rw [if_pos h16];exact .bad rfl (by unfold xwq; rw [if_neg (by rw [n1]; decide), if_neg n2, if_pos h, if_pos h16])
 · rw [if_neg h16];exact .tok _ (by unfold xwq; rw [if_neg (by rw [n1]; decide), if_neg n2, if_pos h, if_neg h16])
theorem first_num {c : Nat} {r : List Nat} (h : xq2 c = true) : FirstP c r 2 (numL (c :: r)) := by
 have n1 : isBl c = false := by
  simp only [xq2, Bool.and_eq_true, decide_eq_true_eq] at h;simp [isBl]; omega
 have n2 : c ≠ 35 := by rintro rfl; exact absurd h (by decide)
 have n3 : yjv c = false := by
  simp only [xq2, Bool.and_eq_true, decide_eq_true_eq] at h;simp [yjv]; omega
 unfold numL;by_cases h4 : 400 < xjv (c :: r) ∨ stopN ((c :: r).drop (xjv (c :: r))) = true
 · rw [if_pos h4];exact .bad rfl (by unfold xwq; rw [if_neg (by rw [n1]; decide), if_neg n2, if_neg (by rw [n3]; decide), if_pos h, if_pos h4])
 · rw [if_neg h4];exact .tok _ (by unfold xwq; rw [if_neg (by rw [n1]; decide), if_neg n2, if_neg (by rw [n3]; decide), if_pos h, if_neg h4])
theorem first_unit {r : List Nat} : FirstP 91 r 4 (unitL (91 :: r)) := by
 unfold unitL;dsimp only;by_cases h4 : (r.takeWhile yqg).length = 0 ∨ 200 < (r.takeWhile yqg).length ∨ yji (r.drop (r.takeWhile yqg).length) = false
 · rw [if_pos h4];exact .bad rfl (by unfold xwq; rw [if_neg (by decide), if_neg (by decide), if_neg (by decide), if_neg (by decide), if_pos rfl, if_pos h4])
 · rw [if_neg h4];exact .tok _ (by unfold xwq; rw [if_neg (by decide), if_neg (by decide), if_neg (by decide), if_neg (by decide), if_pos rfl, if_neg h4])
theorem first_sign {c : Nat} {r : List Nat} (h : isSg c = true) : FirstP c r 3 1 := by
 have hc : c = 40 ∨ c = 41 ∨ c = 43 ∨ c = 45 ∨ c = 42 ∨ c = 47 ∨ c = 94 ∨ c = 61 ∨ c = 59 ∨ c = 58 := by simpa [isSg] using h
 rcases hc with rfl | rfl | rfl | rfl | rfl | rfl | rfl | rfl | rfl | rfl <;> exact .tok _ rfl
theorem first_none {c : Nat} {r : List Nat} (k : Nat) (h1 : isBl c = false) (h2 : c ≠ 35) (h3 : yjv c = false) (h4 : xq2 c = false) (h5 : c ≠ 91) (h6 : isSg c = false) : FirstP c r k 0 :=
 .bad rfl (by unfold xwq; rw [if_neg (by rw [h1]; decide), if_neg h2, if_neg (by rw [h3]; decide), if_neg (by rw [h4]; decide), if_neg h5, if_neg (by rw [h6]; decide)])
def Gap (l : List Nat) (n : Nat) : Prop := n ≤ l.length ∧ ∀ f F a, l.length < f → l.length - n < F → yv5 f a l = yv5 F (a + n) (l.drop n)
theorem Gap.zero (l : List Nat) : Gap l 0 := ⟨Nat.zero_le _, fun f F a h1 h2 => yqf f F a l h1 h2⟩
theorem Gap.skip {l : List Nat} {n m c : Nat} {r : List Nat} (h : Gap l n) (hd : l.drop n = c :: r) (hs : xwq c r = .skip m) : Gap l (n + m) := by
 obtain ⟨h1, h2⟩ := h;have hl := lexS_len.1 m hs;have hlen : l.length - n = r.length + 1 := by rw [← List.length_drop, hd, List.length_cons]
 refine ⟨by omega, fun f F a hf hF => ?_⟩;obtain ⟨R, hR⟩ : ∃ R, yv5 F (a + (n + m)) (l.drop (n + m)) = R := ⟨_, rfl⟩;rw [hR, h2 f (l.length + 1) a hf (by omega), hd];show yv5 (l.length + 1) (a + n) (c :: r) = _;unfold yv5;rw [hs];dsimp only;rw [← hR, ← hd, List.drop_drop, ← Nat.add_assoc];exact yqf _ _ _ _ (by rw [List.length_drop]; omega) (by rw [List.length_drop]; omega)
def Stop (l : List Nat) (n : Nat) : Prop := ∀ c r, l.drop n = c :: r → isBl c = false ∧ c ≠ 35
theorem skip_blank {c : Nat} {r : List Nat} (h : isBl c = true) : xwq c r = .skip 1 := by unfold xwq; rw [if_pos h]
theorem skip_note {r : List Nat} : xwq 35 r = .skip (1 + (r.takeWhile xvt).length) := by unfold xwq; rw [if_neg (by decide), if_pos rfl]
theorem note_line {r : List Nat} : ((35 :: r).takeWhile xvt).length = 1 + (r.takeWhile xvt).length := by
 rw [List.takeWhile_cons_of_pos (by decide), List.length_cons, Nat.add_comm]
end Go.Proofs.YtannifhcjcbkcaaGreatDoor
