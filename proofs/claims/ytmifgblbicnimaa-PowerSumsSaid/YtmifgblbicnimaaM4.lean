/- Part 4 of the texts that the statements of this seat lean on: mathematics, and what functions answer, as contracts over memory; each part says its own conditions. -/
import Derived.Test.YtmifgblbicnimaaM3
import Derived.Orders
import Derived.Below
import Derived.Deep.RegionWith
import Derived.Deep.RegionHeld3
import Derived.Deep.CutRange
/- Regions that leave their order open: one law by an invariant over what has come up, whatever the order (no branch for each order). Of any program; no condition. -/
namespace Go.Proofs.Ytmifgblbicnimaa
open Go.RowKit
set_option linter.unusedVariables false

section
variable {P : Program} {ops : Array Oper} {Q : Exit → Act → World → Prop} {md : Region.Mode}

/-- How many of the first m have not come up yet. -/
def left (listed : Array Bool) : Nat → Nat
  | 0 => 0
  | k + 1 => left listed k + (if listed.getD k false = true then 0 else 1)
theorem left_le (listed : Array Bool) : ∀ m, left listed m ≤ m
  | 0 => Nat.le_refl _
  | k + 1 => by have := left_le listed k; unfold left; split <;> omega
theorem left_zero {listed : Array Bool} : ∀ {m}, left listed m = 0 → ∀ k, k < m → listed.getD k false = true
  | 0, _, k, hk => by omega
  | m + 1, h, k, hk => by
    unfold left at h
    split at h
    · rename_i h1
      rcases Nat.lt_or_ge k m with h2 | h2
      · exact left_zero (by omega) k h2
      · obtain rfl : k = m := by omega
        exact h1
    · omega
theorem getD_same {listed : Array Bool} {i : Nat} (h : i < listed.size) (d : Bool) : (listed.setIfInBounds i true).getD i d = true := by
  simp [Array.getD_eq_getD_getElem?, h]
theorem getD_other {listed : Array Bool} {i k : Nat} (h : i ≠ k) (d : Bool) : (listed.setIfInBounds i true).getD k d = listed.getD k d := by
  simp [Array.getD_eq_getD_getElem?, h]
theorem left_same {listed : Array Bool} {i : Nat} : ∀ {m}, m ≤ i → left (listed.setIfInBounds i true) m = left listed m
  | 0, _ => rfl
  | m + 1, h => by
    unfold left
    rw [left_same (by omega), getD_other (by omega)]
theorem left_set {listed : Array Bool} {i : Nat} (hs : i < listed.size) (hi : listed.getD i false = false) : ∀ {m}, i < m → left (listed.setIfInBounds i true) m + 1 = left listed m
  | 0, h => by omega
  | m + 1, h => by
    unfold left
    rcases Nat.lt_or_ge i m with h1 | h1
    · have := left_set hs hi h1
      rw [getD_other (by omega)]
      omega
    · obtain rfl : i = m := by omega
      rw [left_same (Nat.le_refl _), getD_same hs, hi]
      simp

/-- **Whatever order is picked**: an invariant J that each operation that may come up hands on; the last operations (from m on) wait for all others. -/
theorem wpAny_inv (m : Nat) (J : Array Bool → Act → World → Prop)
    (hsize : ∀ l a w, J l a w → l.size = ops.size ∧ ∀ k, m ≤ k → l.getD k false = false)
    (hm : m ≤ ops.size)
    (hback : ∀ (i : Nat) (o : Oper), i < m → ops[i]? = some o → ∀ e ∈ o.after, Region.binds md e = true → e.on < i)
    (hstep : ∀ l a w i, J l a w → i ∈ Region.ready md ops l → i < m → wpOp P ops Q i (fun a' w' => J (l.setIfInBounds i true) a' w') a w)
    (hwait : ∀ l a w i, J l a w → i ∈ Region.ready md ops l → m ≤ i → ∀ k, k < m → l.getD k false = true)
    (hfin : ∀ l a w, J l a w → (∀ k, k < m → l.getD k false = true) → wpAny P md ops Q (ops.size - m) l a w) :
    ∀ (c : Nat) (l : Array Bool) (a : Act) (w : World), left l m = c → J l a w → wpAny P md ops Q (ops.size - m + c) l a w := by
  intro c
  induction c with
  | zero => exact fun l a w hc hj => hfin l a w hj (left_zero hc)
  | succ c ih =>
    intro l a w hc hj
    obtain ⟨hs, hlater⟩ := hsize l a w hj
    have hex : ∃ k, k < m ∧ l.getD k false = false := by
      rcases Classical.em (∃ k, k < m ∧ l.getD k false = false) with h | h
      · exact h
      · exfalso
        have hall : ∀ k, k < m → l.getD k false = true := fun k hk => by
          cases hb : l.getD k false with
          | true => rfl
          | false => exact absurd ⟨k, hk, hb⟩ h
        have hz : ∀ j, j ≤ m → left l j = 0 := fun j => by
          induction j with
          | zero => exact fun _ => rfl
          | succ j ihj => exact fun hj2 => by unfold left; rw [ihj (by omega), hall j (by omega)]; rfl
        have := hz m (Nat.le_refl _)
        omega
    refine ⟨fun hr => ?_, fun i hi => ?_⟩
    · exfalso
      -- the least one that has not come up may come up
      obtain ⟨k0, hk0, hb0⟩ := hex
      have hleast : ∀ n, (∃ k, k ≤ n ∧ k < m ∧ l.getD k false = false) → ∃ k, k < m ∧ l.getD k false = false ∧ ∀ j, j < k → l.getD j false = true := by
        intro n
        induction n with
        | zero =>
          rintro ⟨k, h1, h2, h3⟩
          obtain rfl : k = 0 := by omega
          exact ⟨0, h2, h3, fun j hj2 => by omega⟩
        | succ n ihn =>
          rintro ⟨k, h1, h2, h3⟩
          rcases Classical.em (∃ k, k ≤ n ∧ k < m ∧ l.getD k false = false) with h | h
          · exact ihn h
          · refine ⟨k, h2, h3, fun j hj2 => ?_⟩
            cases hb : l.getD j false with
            | true => rfl
            | false => exact absurd ⟨j, by omega, by omega, hb⟩ h
      obtain ⟨k, hk, hb, hmin⟩ := hleast k0 ⟨k0, Nat.le_refl _, hk0, hb0⟩
      have hko : k < ops.size := by omega
      have : k ∈ Region.ready md ops l := mem_ready.2 ⟨by
        simp only [Array.getD_eq_getD_getElem?] at hb ⊢
        rw [Array.getElem?_eq_getElem (by omega)] at hb ⊢
        simpa using hb, ops[k], Array.getElem?_eq_getElem hko, fun e he hbi => hmin _ (hback k _ hk (Array.getElem?_eq_getElem hko) e he hbi)⟩
      rw [hr] at this
      cases this
    · rcases Nat.lt_or_ge i m with h1 | h1
      · have hu : l.getD i false = false := by
          have h2 := (mem_ready.1 hi).1
          simp only [Array.getD_eq_getD_getElem?] at h2 ⊢
          rw [Array.getElem?_eq_getElem (by omega)] at h2 ⊢
          simpa using h2
        have hl := left_set (m := m) (by omega : i < l.size) hu h1
        exact wpOp_mono (fun a' w' hj2 => ih _ a' w' (by omega) hj2) (hstep l a w i hj hi h1)
      · exfalso
        obtain ⟨k, hk, hb⟩ := hex
        rw [hwait l a w i hj hi h1 k hk] at hb
        cases hb

/-- What an operation waits for. -/
def afters (ops : Array Oper) (i : Nat) : List Nat :=
  match ops[i]? with
  | some o => (o.after.toList.filter (Region.binds .any)).map fun e => e.on
  | none => []
theorem ready_after {l : Array Bool} {i e : Nat} (hi : i ∈ Region.ready .any ops l) (he : e ∈ afters ops i) : l.getD e false = true := by
  obtain ⟨_, o, ho, h⟩ := mem_ready.1 hi
  unfold afters at he
  rw [ho] at he
  obtain ⟨x, hx, rfl⟩ := List.mem_map.1 he
  obtain ⟨h1, h2⟩ := List.mem_filter.1 hx
  exact h x (by simpa using h1) h2
/-- What it waits for, and what that waits for. -/
def anc (ops : Array Oper) : Nat → Nat → List Nat
  | 0, _ => []
  | f + 1, i => afters ops i ++ (afters ops i).flatMap (anc ops f)
theorem anc_up {l : Array Bool} (hd : ∀ k, l.getD k false = true → ∀ e ∈ afters ops k, l.getD e false = true) : ∀ (f i : Nat), (∀ e ∈ afters ops i, l.getD e false = true) → ∀ e ∈ anc ops f i, l.getD e false = true
  | 0, _, _, e, he => by cases he
  | f + 1, i, h, e, he => by
    unfold anc at he
    rcases List.mem_append.1 he with h1 | h1
    · exact h e h1
    · obtain ⟨x, hx, hy⟩ := List.mem_flatMap.1 h1
      exact anc_up hd f x (hd x (h x hx)) e hy

def isPlain : Op → Bool
  | .select _ _ => false
  | _ => true

/-- The frame where what has come up so far has been put. -/
def fill (D : Nat → Option Tmp) (vals : Nat → Value) (l : Array Bool) (a : Act) : Nat → Act
  | 0 => a
  | k + 1 => if l.getD k false = true then (fill D vals l a k).put (D k) (vals k) else fill D vals l a k
/-- The frame where all has been put. -/
def fillAll (D : Nat → Option Tmp) (vals : Nat → Value) (a : Act) : Nat → Act
  | 0 => a
  | k + 1 => (fillAll D vals a k).put (D k) (vals k)
def upd (vals : Nat → Value) (i : Nat) (v : Value) : Nat → Value := fun k => if k = i then v else vals k

theorem put_size (a : Act) (d : Option Tmp) (v : Value) : (a.put d v).tmps.size = a.tmps.size := by
  cases d <;> simp [Act.put]
theorem put_defers2 (a : Act) (d : Option Tmp) (v : Value) : (a.put d v).defers = a.defers := by
  cases d <;> rfl
theorem put_same (a : Act) (d : Tmp) (v : Value) (h : d < a.tmps.size) : (a.put (some d) v).eval (.tmp d) = v := by
  simp [Act.put, Act.eval, Array.getD_eq_getD_getElem?, h]
theorem fill_size (D : Nat → Option Tmp) (vals : Nat → Value) (l : Array Bool) (a : Act) : ∀ m, (fill D vals l a m).tmps.size = a.tmps.size
  | 0 => rfl
  | m + 1 => by unfold fill; split <;> simp [put_size, fill_size]
theorem fillAll_size (D : Nat → Option Tmp) (vals : Nat → Value) (a : Act) : ∀ m, (fillAll D vals a m).tmps.size = a.tmps.size
  | 0 => rfl
  | m + 1 => by simp [fillAll, put_size, fillAll_size]
theorem fill_defers (D : Nat → Option Tmp) (vals : Nat → Value) (l : Array Bool) (a : Act) : ∀ m, (fill D vals l a m).defers = a.defers
  | 0 => rfl
  | m + 1 => by unfold fill; split <;> simp [put_defers2, fill_defers]
theorem fillAll_defers (D : Nat → Option Tmp) (vals : Nat → Value) (a : Act) : ∀ m, (fillAll D vals a m).defers = a.defers
  | 0 => rfl
  | m + 1 => by simp [fillAll, put_defers2, fillAll_defers]
theorem fill_all {D : Nat → Option Tmp} {vals : Nat → Value} {l : Array Bool} {a : Act} : ∀ {m}, (∀ k, k < m → l.getD k false = true) → fill D vals l a m = fillAll D vals a m
  | 0, _ => rfl
  | m + 1, h => by
    unfold fill fillAll
    rw [if_pos (h m (by omega)), fill_all fun k hk => h k (by omega)]
theorem fill_none {D : Nat → Option Tmp} {vals : Nat → Value} {l : Array Bool} {a : Act} : ∀ {m}, (∀ k, k < m → l.getD k false = false) → fill D vals l a m = a
  | 0, _ => rfl
  | m + 1, h => by
    unfold fill
    rw [if_neg (by simp [h m (by omega)]), fill_none fun k hk => h k (by omega)]
theorem fill_congr {D : Nat → Option Tmp} {vals vals' : Nat → Value} {l l' : Array Bool} {a : Act} : ∀ {m}, (∀ k, k < m → l.getD k false = l'.getD k false ∧ vals k = vals' k) → fill D vals l a m = fill D vals' l' a m
  | 0, _ => rfl
  | m + 1, h => by
    obtain ⟨h1, h2⟩ := h m (by omega)
    unfold fill
    rw [h1, h2, fill_congr fun k hk => h k (by omega)]
theorem fill_set {D : Nat → Option Tmp} {vals : Nat → Value} {l : Array Bool} {a : Act} {i : Nat} {v : Value} (hs : i < l.size) (hu : l.getD i false = false) :
    ∀ {m}, i < m → (∀ j, j < m → j ≠ i → ∀ d, D j = some d → D i ≠ some d) → (fill D vals l a m).put (D i) v = fill D (upd vals i v) (l.setIfInBounds i true) a m
  | 0, h, _ => by omega
  | m + 1, h, hd => by
    rcases Nat.lt_or_ge i m with h1 | h1
    · have ih := fill_set (D := D) (vals := vals) (a := a) (v := v) hs hu h1 fun j hj => hd j (by omega)
      unfold fill
      rw [getD_other (by omega : i ≠ m), ← ih, show upd vals i v m = vals m from if_neg (by omega)]
      split
      · exact Act.put_comm _ _ _ (hd m (by omega) (by omega))
      · rfl
    · obtain rfl : i = m := by omega
      unfold fill
      rw [if_neg (by simp [hu]), if_pos (getD_same hs _), show upd vals i v i = v from if_pos rfl]
      rw [fill_congr (vals := vals) (vals' := upd vals i v) (l := l) (l' := l.setIfInBounds i true) fun k hk => ⟨(getD_other (by omega) _).symm, (if_neg (by omega)).symm⟩]
theorem fill_eval {D : Nat → Option Tmp} {vals : Nat → Value} {l : Array Bool} {a : Act} {x : Operand} :
    ∀ {m}, (∀ k, k < m → l.getD k false = false → ∀ d, D k = some d → x ≠ .tmp d) → (fill D vals l a m).eval x = (fillAll D vals a m).eval x
  | 0, _ => rfl
  | m + 1, h => by
    have ih := fill_eval (D := D) (vals := vals) (l := l) (a := a) (x := x) (m := m) fun k hk => h k (by omega)
    unfold fill fillAll
    cases hb : l.getD m false with
    | true =>
      rw [if_pos rfl]
      by_cases hx : ∃ d, D m = some d ∧ x = .tmp d
      · obtain ⟨d, h1, rfl⟩ := hx
        rw [h1]
        simp only [Act.put, Act.eval, Array.getD_eq_getD_getElem?, Array.getElem?_setIfInBounds, fill_size, fillAll_size, if_true]
      · rw [Act.eval_put fun d h1 h2 => hx ⟨d, h1, h2⟩, Act.eval_put fun d h1 h2 => hx ⟨d, h1, h2⟩, ih]
    | false =>
      rw [if_neg (by simp), Act.eval_put (h m (by omega) hb), ih]

/-- What the order-free law asks of operation i (m of them, writing ds, in frames of N). -/
def okAt (ops : Array Oper) (m : Nat) (ds : List Tmp) (N : Nat) (i : Nat) : Bool :=
  match ops[i]? with
  | none => false
  | some o => o.dst == ds[i]? && decide (i < ds.length) && decide (ds.getD i 0 < N) && o.guard.isNone && isPlain o.op && (afters ops i).all (fun e => decide (e < i)) &&
      (List.range m).all (fun k => k == i || ds[k]? != ds[i]?) &&
      o.op.operands.toList.all (fun x => match x with
        | .tmp t => (List.range m).all fun k => ds[k]? != some t || (afters ops i).contains k
        | _ => true)
theorem okAt_spec {m : Nat} {ds : List Tmp} {N i : Nat} (h : okAt ops m ds N i = true) :
    ∃ o, ops[i]? = some o ∧ o.dst = some (ds.getD i 0) ∧ ds[i]? = some (ds.getD i 0) ∧ ds.getD i 0 < N ∧ o.guard = none ∧ (∀ cs b, o.op ≠ .select cs b) ∧ (∀ e ∈ afters ops i, e < i) ∧
      (∀ k, k < m → k ≠ i → ds[k]? ≠ ds[i]?) ∧ (∀ x ∈ o.op.operands, ∀ t, x = .tmp t → ∀ k, k < m → ds[k]? = some t → k ∈ afters ops i) := by
  unfold okAt at h
  cases ho : ops[i]? with
  | none => rw [ho] at h; cases h
  | some o =>
    rw [ho] at h
    simp only [Bool.and_eq_true, beq_iff_eq, decide_eq_true_eq, List.all_eq_true, Bool.or_eq_true, bne_iff_ne, List.mem_range, Option.isNone_iff_eq_none] at h
    obtain ⟨⟨⟨⟨⟨⟨⟨h1, h2⟩, h3⟩, h4⟩, h5⟩, h6⟩, h7⟩, h8⟩ := h
    have hi : ds[i]? = some (ds.getD i 0) := by simp [List.getD_eq_getElem?_getD, h2]
    refine ⟨o, rfl, h1.trans hi, hi, h3, h4, ?_, h6, fun k hk hne => (h7 k hk).resolve_left hne, ?_⟩
    · intro cs b he
      rw [he] at h5
      cases h5
    · rintro x hx t rfl k hk hd
      have := h8 _ (by simpa using hx)
      simp only [List.all_eq_true, List.mem_range, Bool.or_eq_true, bne_iff_ne, List.contains_iff_mem] at this
      exact (this k hk).resolve_left fun h => h hd

/-- Step i of the order-free law: run in the frame where all has been put (what has not come up yet is not looked at). -/
def FreeStep (P : Program) (Q : Exit → Act → World → Prop) (ops : Array Oper) (ds : List Tmp) (aF : (Nat → Value) → Act) (S : World → Prop) (Φ : Nat → Value → World → Prop) (fresh : Nat → Bool) (i : Nat) (o : Oper) : Prop :=
  ∀ (vals : Nat → Value) (w : World), S w → (∀ e ∈ afters ops i, Φ e (vals e) w) → ∀ K : Act → World → Prop,
    (∀ a' w', a'.defers = (aF vals).defers → Below w.heap.size w w' → Φ i (a'.eval (.tmp (ds.getD i 0))) w' → (fresh i = true → ∃ q, a'.eval (.tmp (ds.getD i 0)) = .pointer (some ⟨q, 0, none⟩) ∧ w.heap.size ≤ q ∧ q < w'.heap.size) → K a' w') →
    o.wp P (aF vals) w K Q

/-- One step each. -/
def AllAt (F : Nat → Oper → Prop) : Nat → List Oper → Nat → Prop
  | _, _, 0 => True
  | _, [], _ + 1 => True
  | k, o :: os, n + 1 => F k o ∧ AllAt F (k + 1) os n
theorem AllAt.nil {F : Nat → Oper → Prop} {k : Nat} {os : List Oper} : AllAt F k os 0 := by unfold AllAt; trivial
theorem AllAt.cons {F : Nat → Oper → Prop} {k n : Nat} {o : Oper} {os : List Oper} (h : F k o) (t : AllAt F (k + 1) os n) : AllAt F k (o :: os) (n + 1) := ⟨h, t⟩
theorem AllAt.at {F : Nat → Oper → Prop} : ∀ {k : Nat} {os : List Oper} {n : Nat}, AllAt F k os n → ∀ i, i < n → ∀ o, os[i]? = some o → F (k + i) o
  | _, _, 0, _, i, h, _, _ => by omega
  | _, [], _ + 1, _, i, _, o, ho => by cases i <;> cases ho
  | k, x :: xs, n + 1, h, 0, _, o, ho => by
    obtain rfl : x = o := by simpa using ho
    exact h.1
  | k, x :: xs, n + 1, h, i + 1, hi, o, ho => by
    have := AllAt.at h.2 i (by omega) o (by simpa using ho)
    rwa [show k + 1 + i = k + (i + 1) by omega] at this
/-- What has come up: the first m of n. -/
def firsts (n m : Nat) : Array Bool := ((List.range n).map fun k => decide (k < m)).toArray
theorem firsts_eq {l : Array Bool} {n m : Nat} (hs : l.size = n) (hm : m ≤ n) (h : ∀ k, l.getD k false = decide (k < m)) : l = firsts n m := by
  apply Array.ext_getElem?
  intro k
  have := h k
  rw [show (firsts n m)[k]? = ((List.range n).map fun k => decide (k < m))[k]? from List.getElem?_toArray .., List.getElem?_map]
  rcases Nat.lt_or_ge k n with hk | hk
  · rw [List.getElem?_range hk, Array.getElem?_eq_getElem (by omega)]
    simp only [Array.getD_eq_getD_getElem?, Array.getElem?_eq_getElem (show k < l.size by omega), Option.getD_some] at this
    simp [this]
  · rw [Array.getElem?_eq_none (by omega), List.getElem?_eq_none (by simpa using hk)]
    rfl

/-- **The order-free law**: of a region that draws its order, the first m operations (no guards) in whatever order: each meets its own condition in its own world; what it has shown stays (Below). -/
theorem region_free {id : Nat} {a : Act} {w : World} {os : List Oper} (m r : Nat) (ds : List Tmp) (aF : (Nat → Value) → Act) (S : World → Prop) (Φ : Nat → Value → World → Prop) (fresh : Nat → Bool)
    (hm : P.follows .mixedOrders = true)
    (haF : ∀ vals, fillAll (fun k => ds[k]?) vals a m = aF vals)
    (hr : os.length = m + r)
    (hok : (List.range m).all (okAt os.toArray m ds a.tmps.size) = true)
    (hend : (List.range os.length).all (fun i => decide (i < m) || (List.range m).all fun k => (anc os.toArray 3 i).contains k) = true)
    (hQ : ∀ c (t t' : Array Value) (d : List Deferred) w, Q (.panic c) ⟨t, d⟩ w → Q (.panic c) ⟨t', d⟩ w)
    (hSb : ∀ w w', Below w.heap.size w w' → S w → S w')
    (hΦb : ∀ k v w w', Below w.heap.size w w' → Φ k v w → Φ k v w')
    (hS : S w.drew)
    (hop : AllAt (FreeStep P Q os.toArray ds aF S Φ fresh) 0 os m)
    (hfin : ∀ (vals : Nat → Value) (w : World), S w → (∀ k, k < m → Φ k (vals k) w) →
      (∀ j k, j < m → k < m → j ≠ k → fresh j = true → fresh k = true → ∀ p q, vals j = .pointer (some ⟨p, 0, none⟩) → vals k = .pointer (some ⟨q, 0, none⟩) → p ≠ q) →
      wpAny P .any os.toArray Q r (firsts (m + r) m) (aF vals) w) :
    (Code.region id os.toArray true).wp P Q a w := by
  generalize hops : os.toArray = ops at *
  have hsz0 : ops.size = m + r := by rw [← hops]; simpa using hr
  have hle : m ≤ ops.size := by omega
  replace hend : (List.range ops.size).all (fun i => decide (i < m) || (List.range m).all fun k => (anc ops 3 i).contains k) = true := by rw [hsz0, ← hr]; exact hend
  replace hop : ∀ i, i < m → ∀ o, ops[i]? = some o → FreeStep P Q ops ds aF S Φ fresh i o := fun i hi o ho => by
    have := hop.at i hi o (by rw [← hops] at ho; simpa using ho)
    rwa [Nat.zero_add] at this
  replace hfin : ∀ (vals : Nat → Value) (w : World), S w → (∀ k, k < m → Φ k (vals k) w) →
      (∀ j k, j < m → k < m → j ≠ k → fresh j = true → fresh k = true → ∀ p q, vals j = .pointer (some ⟨p, 0, none⟩) → vals k = .pointer (some ⟨q, 0, none⟩) → p ≠ q) →
      ∀ l : Array Bool, l.size = ops.size → (∀ k, l.getD k false = decide (k < m)) → wpAny P .any ops Q (ops.size - m) l (aF vals) w := fun vals w h1 h2 h3 l h4 h5 => by
    rw [firsts_eq (h4.trans hsz0) (by omega) h5, show ops.size - m = r by omega]
    exact hfin vals w h1 h2 h3
  replace hQ : ∀ c (a a' : Act) w, a.defers = a'.defers → Q (.panic c) a w → Q (.panic c) a' w := by
    rintro c ⟨t, d⟩ ⟨t', d'⟩ w he h
    obtain rfl : d = d' := he
    exact hQ c t t' d w h
  refine wp_region_any hm ?_
  have hat : ∀ i, i < m → okAt ops m ds a.tmps.size i = true := fun i hi => List.all_eq_true.1 hok i (List.mem_range.2 hi)
  have hlate : ∀ i, m ≤ i → i < ops.size → ∀ k, k < m → k ∈ anc ops 3 i := fun i h1 h2 k hk => by
    have := List.all_eq_true.1 hend i (List.mem_range.2 h2)
    simp only [Bool.or_eq_true, decide_eq_true_eq, List.all_eq_true, List.mem_range, List.contains_iff_mem] at this
    exact (this.resolve_left (by omega)) k hk
  have hfr : ∀ (l : Array Bool), l = Array.replicate ops.size false → ∀ k, l.getD k false = false := by
    rintro l rfl k
    simp only [Array.getD_eq_getD_getElem?, Array.getElem?_replicate]
    split <;> rfl
  let J : Array Bool → Act → World → Prop := fun l a' w' => (l.size = ops.size ∧ ∀ k, m ≤ k → l.getD k false = false) ∧ S w' ∧ (∀ k, k < m → l.getD k false = true → ∀ e ∈ afters ops k, l.getD e false = true) ∧
    ∃ vals, a' = fill (fun k => ds[k]?) vals l a m ∧ (∀ k, k < m → l.getD k false = true → Φ k (vals k) w' ∧ (fresh k = true → ∃ q, vals k = .pointer (some ⟨q, 0, none⟩) ∧ q < w'.heap.size)) ∧
      (∀ j k, j < m → k < m → l.getD j false = true → l.getD k false = true → j ≠ k → fresh j = true → fresh k = true → ∀ p q, vals j = .pointer (some ⟨p, 0, none⟩) → vals k = .pointer (some ⟨q, 0, none⟩) → p ≠ q)
  have hdown : ∀ l a' w', J l a' w' → ∀ k, l.getD k false = true → ∀ e ∈ afters ops k, l.getD e false = true := fun l a' w' hj k hk => by
    rcases Nat.lt_or_ge k m with h1 | h1
    · exact hj.2.2.1 k h1 hk
    · rw [hj.1.2 k h1] at hk
      cases hk
  have hz : ∀ j, j ≤ m → left (Array.replicate ops.size false) j = j := fun j => by
    induction j with
    | zero => exact fun _ => rfl
    | succ j ihj => exact fun h => by unfold left; rw [ihj (by omega), hfr _ rfl j]; rfl
  have key := wpAny_inv (P := P) (ops := ops) (Q := Q) (md := .any) m J (fun l a' w' hj => hj.1) hle (fun i o h1 ho e he hb => ?hback) (fun l a' w' i hj hi h1 => ?hstep) (fun l a' w' i hj hi h1 k hk => ?hwait) (fun l a' w' hj hall => ?hfin)
    m (Array.replicate ops.size false) a w.drew (hz m (Nat.le_refl _)) ⟨⟨by simp, fun k _ => hfr _ rfl k⟩, hS, fun k _ h => (by rw [hfr _ rfl k] at h; cases h),
      fun _ => undef, (fill_none fun k _ => hfr _ rfl k).symm, fun k _ h => (by rw [hfr _ rfl k] at h; cases h), fun j k _ _ h => (by rw [hfr _ rfl j] at h; cases h)⟩
  · have e : ops.size - m + m = ops.size := by omega
    rw [e] at key
    exact key
  case hback =>
    obtain ⟨_, _, _, _, _, _, _, hlow, _, _⟩ := okAt_spec (hat i h1)
    refine hlow e.on ?_
    unfold afters
    rw [ho]
    exact List.mem_map.2 ⟨e, List.mem_filter.2 ⟨by simpa using he, hb⟩, rfl⟩
  case hwait =>
    have hlt : i < ops.size := by
      obtain ⟨_, o, ho, _⟩ := mem_ready.1 hi
      exact (Array.getElem?_eq_some_iff.1 ho).1
    exact anc_up (hdown l a' w' hj) 3 i (fun e he => ready_after hi he) k (hlate i h1 hlt k hk)
  case hfin =>
    obtain ⟨⟨hs, hl⟩, hSw, _, vals, rfl, hv, hp⟩ := hj
    rw [fill_all hall, haF]
    refine hfin vals w' hSw (fun k hk => (hv k hk (hall k hk)).1) (fun j k h1 h2 => hp j k h1 h2 (hall j h1) (hall k h2)) l hs fun k => ?_
    rcases Nat.lt_or_ge k m with h | h
    · rw [hall k h, decide_eq_true h]
    · rw [hl k h, decide_eq_false (by omega)]
  case hstep =>
    obtain ⟨⟨hs, hl⟩, hSw, hdn, vals, rfl, hv, hp⟩ := hj
    obtain ⟨o, ho, hdst, hdi, hlt, hg, hsel, hlow, hdist, hops⟩ := okAt_spec (hat i h1)
    have hu : l.getD i false = false := by
      have h2 := (mem_ready.1 hi).1
      have h3 : i < l.size := by omega
      simp only [Array.getD_eq_getD_getElem?] at h2 ⊢
      rw [Array.getElem?_eq_getElem h3] at h2 ⊢
      simpa using h2
    have hdep : ∀ e ∈ afters ops i, l.getD e false = true := fun e he => ready_after hi he
    have heval : ∀ x ∈ o.op.operands, (fill (fun k => ds[k]?) vals l a m).eval x = (aF vals).eval x := fun x hx => by
      rw [← haF vals]
      exact fill_eval fun k hk hk2 d hd hxd => by
        rw [hdep k (hops x hx d hxd k hk hd)] at hk2
        cases hk2
    have hrun := hop i h1 o ho vals w' hSw (fun e he => (hv e (by have := hlow e he; omega) (hdep e he)).1)
      (fun a2 w2 => a2.defers = (aF vals).defers ∧ Below w'.heap.size w' w2 ∧ Φ i (a2.eval (.tmp (ds.getD i 0))) w2 ∧ (fresh i = true → ∃ q, a2.eval (.tmp (ds.getD i 0)) = .pointer (some ⟨q, 0, none⟩) ∧ w'.heap.size ≤ q ∧ q < w2.heap.size))
      (fun a2 w2 h1 h2 h3 h4 => ⟨h1, h2, h3, h4⟩)
    have hsz : ds.getD i 0 < (aF vals).tmps.size := by rw [← haF vals, fillAll_size]; exact hlt
    have next : ∀ v w2, Below w'.heap.size w' w2 → Φ i v w2 → (fresh i = true → ∃ q, v = .pointer (some ⟨q, 0, none⟩) ∧ w'.heap.size ≤ q ∧ q < w2.heap.size) →
        J (l.setIfInBounds i true) ((fill (fun k => ds[k]?) vals l a m).put o.dst v) w2 := fun v w2 hb hphi hfresh => by
      have hne : ∀ k, k ≠ i → (l.setIfInBounds i true).getD k false = l.getD k false := fun k hk => getD_other (Ne.symm hk) _
      refine ⟨⟨by simpa using hs, fun k hk => by rw [hne k (by omega)]; exact hl k hk⟩, hSb _ _ hb hSw, fun k hk hk2 e he => ?_, upd vals i v, ?_, fun k hk hk2 => ?_, fun j k hj hk hj2 hk2 hjk fj fk p q ep eq => ?_⟩
      · by_cases hki : k = i
        · subst hki
          rw [hne e (by have := hlow e he; omega)]
          exact hdep e he
        · rw [hne k hki] at hk2
          by_cases hei : e = i
          · subst hei
            exact getD_same (by omega) _
          · rw [hne e hei]
            exact hdn k hk hk2 e he
      · rw [hdst, ← hdi]
        exact fill_set (by omega) hu h1 fun j hj hji d hd hdi2 => hdist j hj hji (hd.trans hdi2.symm)
      · by_cases hki : k = i
        · subst hki
          rw [show upd vals k v k = v from if_pos rfl]
          exact ⟨hphi, fun hf => by obtain ⟨q, h1, _, h3⟩ := hfresh hf; exact ⟨q, h1, h3⟩⟩
        · rw [hne k hki] at hk2
          rw [show upd vals i v k = vals k from if_neg hki]
          obtain ⟨h3, h4⟩ := hv k hk hk2
          exact ⟨hΦb _ _ _ _ hb h3, fun hf => by obtain ⟨q, h5, h6⟩ := h4 hf; exact ⟨q, h5, Nat.lt_of_lt_of_le h6 hb.size⟩⟩
      · by_cases hji : j = i
        · subst hji
          have hki : k ≠ j := fun h => hjk h.symm
          rw [show upd vals j v j = v from if_pos rfl] at ep
          rw [show upd vals j v k = vals k from if_neg hki] at eq
          rw [hne k hki] at hk2
          obtain ⟨q1, e1, l1, _⟩ := hfresh fj
          obtain ⟨q2, e2, l2⟩ := (hv k hk hk2).2 fk
          rw [e1] at ep
          rw [e2] at eq
          cases ep
          cases eq
          omega
        · by_cases hki : k = i
          · subst hki
            rw [show upd vals k v k = v from if_pos rfl] at eq
            rw [show upd vals k v j = vals j from if_neg hji] at ep
            rw [hne j hji] at hj2
            obtain ⟨q1, e1, l1, _⟩ := hfresh fk
            obtain ⟨q2, e2, l2⟩ := (hv j hj hj2).2 fj
            rw [e1] at eq
            rw [e2] at ep
            cases ep
            cases eq
            omega
          · rw [show upd vals i v j = vals j from if_neg hji] at ep
            rw [show upd vals i v k = vals k from if_neg hki] at eq
            rw [hne j hji] at hj2
            rw [hne k hki] at hk2
            exact hp j k hj hk hj2 hk2 hjk fj fk p q ep eq
    unfold wpOp
    rw [ho]
    simp only []
    rw [if_pos (by unfold Region.wanted; rw [hg])]
    refine .inl ?_
    unfold Oper.wp at hrun ⊢
    rw [execOp_congr o hsel heval]
    generalize (execOp (aF vals).eval o).run P w' = r at hrun ⊢
    have hdef : (aF vals).defers = (fill (fun k => ds[k]?) vals l a m).defers := by rw [← haF vals, fillAll_defers, fill_defers]
    have hput : ∀ v, ((aF vals).put o.dst v).eval (.tmp (ds.getD i 0)) = v := fun v => by rw [hdst]; exact put_same _ _ _ hsz
    cases r with
    | ok n w2 =>
      cases n <;> simp only [Oper.upon] at hrun ⊢
      case value v => rw [hput] at hrun; exact next _ _ hrun.2.1 hrun.2.2.1 hrun.2.2.2
      case skip => rw [hput] at hrun; exact next _ _ hrun.2.1 hrun.2.2.1 hrun.2.2.2
      case defer d =>
        exfalso
        have := hrun.1
        rw [put_defers2] at this
        have := congrArg List.length this
        simp at this
      case enter f args =>
        refine Calls.mono hrun fun e w3 he => ?_
        cases e with
        | returned v => simp only at he ⊢; rw [hput] at he; exact next _ _ he.2.1 he.2.2.1 he.2.2.2
        | panicked c => exact hQ _ _ _ _ hdef he
        | outgrown => exact he
      case row r args =>
        refine Rows.mono hrun fun v w3 he => ?_
        rw [hput] at he
        exact next _ _ he.2.1 he.2.2.1 he.2.2.2
    | halt x w2 =>
      cases x <;> simp only [Oper.upon] at hrun ⊢ <;> exact hQ _ _ _ _ hdef hrun
end

end Go.Proofs.Ytmifgblbicnimaa

/- What package whole answers, as contracts over memory: whole numbers in the shortest limbs, 0 not below 0. Conditions: sizes of at most so many limbs; the table of powers of ten where texts are made or read. -/
namespace Go.Proofs.Ytmifgblbicnimaa
open Go.RowKit Limb
set_option linter.unusedVariables false

theorem ZZ.zof {w : World} {s : Bool} {A : Option Addr} {n c : Nat} {xs : List Nat} {x : Int} {L : Nat} (h : ZZ w s A n c xs x L) : zOf s x.natAbs = x := h.sgn.symm
theorem zOf_not {s : Bool} {a : Nat} {x : Int} (h : zOf s a = x) : zOf (!s) a = -x := by
  subst h; cases s <;> simp [zOf]
theorem zOf_add {s : Bool} {a b : Nat} {x y : Int} (h : zOf s a = x) (k : zOf s b = y) : zOf s (a + b) = x + y := by
  subst h; subst k; cases s <;> simp [zOf] <;> omega
theorem zOf_sub {s s' : Bool} {a b : Nat} {x y : Int} (h : zOf s a = x) (k : zOf s' b = y) (hs : s ≠ s') (hab : b ≤ a) : zOf s (a - b) = x + y := by
  subst h; subst k; cases s <;> cases s' <;> simp [zOf] at hs ⊢ <;> omega
theorem zOf_mul {s s' : Bool} {a b : Nat} {x y : Int} (h : zOf s a = x) (k : zOf s' b = y) : zOf (s != s') (a * b) = x * y := by
  subst h; subst k; cases s <;> cases s' <;> simp [zOf, Int.neg_mul, Int.mul_neg]


theorem cmp_abs_neg {x y : Int} (hx : x < 0) (hy : y < 0) : cmpI y.natAbs x.natAbs = cmpZ x y := by
  rcases Int.lt_trichotomy x y with h | h | h
  · rw [cmpZ_lt h, cmpI_lt (by omega)]
  · rw [cmpZ_eq h, cmpI_same (by omega)]
  · rw [cmpZ_gt h, cmpI_gt (by omega)]
theorem cmp_abs_pos {x y : Int} (hx : 0 ≤ x) (hy : 0 ≤ y) : cmpI x.natAbs y.natAbs = cmpZ x y := by
  rcases Int.lt_trichotomy x y with h | h | h
  · rw [cmpZ_lt h, cmpI_lt (by omega)]
  · rw [cmpZ_eq h, cmpI_same (by omega)]
  · rw [cmpZ_gt h, cmpI_gt (by omega)]

theorem conv_u64 {v : Int} (h : -9223372036854775808 ≤ v) (h1 : v ≤ 9223372036854775807) : IntKind.u64.wrap v = if v < 0 then v + 18446744073709551616 else v := by
  rw [IntKind.wrap_u64]; split <;> omega
theorem zz_zof {v : Int} : zOf (decide (v < 0)) v.natAbs = v := by
  unfold zOf
  by_cases h : v < 0
  · simp [h]; omega
  · simp [h]; omega


end Go.Proofs.Ytmifgblbicnimaa

/- What the reference of layer 6 answers (Make, Trim, Neg, Text, Of), as contracts over memory. Conditions: sizes of at most so many limbs. -/
namespace Go.Proofs.Ytmifgblbicnimaa
open Go.RowKit Limb
set_option linter.unusedVariables false
section
variable {w : World} {s s' : Bool} {A A' : Option Addr} {n c n' c' : Nat} {xs ys : List Nat} {x y : Int} {L L' : Nat}
set_option maxHeartbeats 4000000 in
set_option maxRecDepth 100000 in
theorem refMake_c {a : Nat} (hx : NN w A n c xs a L) (h1 : L ≤ 1000000000) (z : Int) (hz : zOf s a = z) :
    Calls Try.prog 32 #[.bool s, .slice A n c] w fun e w' => ∃ A2 n2 c2, e = .returned (.agg #[.bool (sg z), .slice A2 n2 c2]) ∧ ZZ w' (sg z) A2 n2 c2 (limbs z.natAbs) z L ∧ Below w.heap.size w w' := by
  have HW := Lib.hid (below_new w zbox)
  have HZ : RowKit.Hid (ZB (w.alloc zbox) w.heap.size) := row2_new w _ _ _
  have HN := Lib.hid (hx.below HW.out)
  clear hx
  go_enter Try.func32, Try.ntmps32
  go_wp2_with fail
  refine (refTrim_c HN.out h1).mono ?_
  rintro e w2 ⟨A2, n2, c2, rfl, h2, bn⟩
  have BN := Lib.hid bn
  have hn : n2 = 0 ↔ a = 0 := by rw [← h2.isN.len]; exact len_limbs_zero
  have HZ2 : RowKit.Hid (ZZ w2 (sg z) A2 n2 c2 (limbs z.natAbs) z L) := ZZ.mk' (by rw [← hz, zOf_abs]; exact h2)
  obtain ⟨e0, e1, f0, f1⟩ := (HZ.out.below BN.out).cells
  clear h2 bn
  by_cases hb : s = true
  · by_cases h0 : a = 0
    · have es : sg z = false := by rw [← hz, h0]; cases s <;> rfl
      subst hb
      have e2 : n2 = 0 := hn.2 h0
      subst e2
      have Hes := Lib.hid es
      rw [es] at HZ2
      clear es hn hz h0
      have HF := Lib.hid ((HZ.out.below BN.out).fill (.bool false) (.slice A2 0 c2))
      have HP := Lib.hid (HZ2.out.put (HZ.out.below BN.out) (.bool false) (.slice A2 0 c2))
      have HB := Lib.hid (below_fill (g := w.heap.size) (below_two HW.out BN.out) (Nat.le_refl _) (.bool false) (.slice A2 0 c2))
      go_wp2
      refine bodyPost_ret (results_cell_row rfl _ _ w.heap.size 25 #[.bool false, .slice A2 0 c2] (0, 0) _ rfl HF.out Try.underlying25 rfl int_size) rfl ?_
      exact ⟨A2, 0, c2, by rw [Hes.out], by rw [Hes.out]; exact HP.out, HB.out⟩
    · have es : sg z = true := by
        rw [← hz, hb]; apply sg_neg
        unfold zOf; rw [if_pos rfl]; omega
      have Hp : RowKit.Hid (decide (0 < n2) = true) := by
        have : n2 ≠ 0 := fun h => h0 (hn.1 h)
        show _ = _
        rw [decide_eq_true_eq]; omega
      subst hb
      have Hes := Lib.hid es
      rw [es] at HZ2
      clear es hn hz h0
      have HF := Lib.hid ((HZ.out.below BN.out).fill (.bool (decide (0 < n2))) (.slice A2 n2 c2))
      have HP := Lib.hid (HZ2.out.put (HZ.out.below BN.out) (.bool (decide (0 < n2))) (.slice A2 n2 c2))
      have HB := Lib.hid (below_fill (g := w.heap.size) (below_two HW.out BN.out) (Nat.le_refl _) (.bool (decide (0 < n2))) (.slice A2 n2 c2))
      go_wp2
      refine bodyPost_ret (results_cell_row rfl _ _ w.heap.size 25 #[.bool (decide (0 < n2)), .slice A2 n2 c2] (0, 0) _ rfl HF.out Try.underlying25 rfl int_size) rfl ?_
      exact ⟨A2, n2, c2, by rw [Hes.out, Hp.out], by rw [Hes.out]; exact HP.out, HB.out⟩
  · have hb2 : s = false := by simpa using hb
    have es : sg z = false := by rw [← hz, hb2]; apply sg_pos; unfold zOf; simp
    subst hb2
    have Hes := Lib.hid es
    rw [es] at HZ2
    clear es hn hz hb
    have HF := Lib.hid ((HZ.out.below BN.out).fill (.bool false) (.slice A2 n2 c2))
    have HP := Lib.hid (HZ2.out.put (HZ.out.below BN.out) (.bool false) (.slice A2 n2 c2))
    have HB := Lib.hid (below_fill (g := w.heap.size) (below_two HW.out BN.out) (Nat.le_refl _) (.bool false) (.slice A2 n2 c2))
    go_wp2
    refine bodyPost_ret (results_cell_row rfl _ _ w.heap.size 25 #[.bool false, .slice A2 n2 c2] (0, 0) _ rfl HF.out Try.underlying25 rfl int_size) rfl ?_
    exact ⟨A2, n2, c2, by rw [Hes.out], by rw [Hes.out]; exact HP.out, HB.out⟩

set_option maxHeartbeats 4000000 in
set_option maxRecDepth 100000 in
theorem refITrim_c (hx : ZZ w s A n c xs x L) (h1 : L ≤ 100000) :
    Calls Try.prog 55 #[.agg #[.bool s, .slice A n c]] w fun e w' => ∃ A2 n2 c2, e = .returned (.agg #[.bool (sg x), .slice A2 n2 c2]) ∧ ZZ w' (sg x) A2 n2 c2 (limbs x.natAbs) x L ∧ Below w.heap.size w w' := by
  have HS := Lib.hid hx.zof
  have b0 := below_new w (.cells #[Value.bool s, Value.slice A n c] 25)
  have bz := below_new (w.alloc (.cells #[Value.bool s, Value.slice A n c] 25)) zbox
  have HW := Lib.hid (below_two b0 bz)
  have HN := Lib.hid (hx.nn.below HW.out)
  have r0 := (row2_new w 25 (.bool s) (.slice A n c)).below bz
  have rz : ZB ((w.alloc (.cells #[Value.bool s, Value.slice A n c] 25)).alloc zbox) (w.alloc (.cells #[Value.bool s, Value.slice A n c] 25)).heap.size := row2_new (w.alloc (.cells #[Value.bool s, Value.slice A n c] 25)) _ _ _
  simp only [World.size_alloc] at rz
  clear b0 bz hx
  go_enter Try.func55, Try.ntmps55
  go_wp2_with fail
  generalize (w.alloc (.cells #[Value.bool s, Value.slice A n c] 25)).alloc zbox = w1 at *
  have HR0 := Lib.hid r0
  have c00 := r0.c0
  have c01 := r0.c1
  have HZ := Lib.hid rz
  clear r0 rz
  refine (refMake_c HN.out (by omega) x (by first | exact HS.out | simpa using HS.out)).mono ?_
  rintro e w2 ⟨A2, n2, c2, rfl, h4, bm⟩
  have BN4 := Lib.hid bm
  obtain ⟨e0, e1, f0, f1⟩ := (HZ.out.below BN4.out).cells
  have HF := Lib.hid ((HZ.out.below BN4.out).fill (.bool (sg x)) (.slice A2 n2 c2))
  have HP := Lib.hid (h4.put (HZ.out.below BN4.out) (.bool (sg x)) (.slice A2 n2 c2))
  have HB := Lib.hid (below_fill (g := w.heap.size + 1) (below_two HW.out BN4.out) (by omega) (.bool (sg x)) (.slice A2 n2 c2))
  clear bm h4 c00 c01
  go_wp2
  refine bodyPost_ret (results_cell_row rfl _ _ (w.heap.size + 1) 25 #[.bool (sg x), .slice A2 n2 c2] (0, 0) _ rfl HF.out Try.underlying25 rfl int_size) rfl ?_
  exact ⟨A2, n2, c2, rfl, HP.out, HB.out⟩

end
set_option maxHeartbeats 4000000 in
set_option maxRecDepth 100000 in
theorem refIOf_c (v : Int) (h0 : -9223372036854775808 ≤ v) (h1 : v ≤ 9223372036854775807) (w : World) :
    Calls Try.prog 52 #[.int .i64 v] w fun e w' => ∃ A2 n2 c2, e = .returned (.agg #[.bool (sg v), .slice A2 n2 c2]) ∧ ZZ w' (sg v) A2 n2 c2 (limbs v.natAbs) v 2 ∧ Below w.heap.size w w' := by
  have HW := Lib.hid (below_new w zbox)
  have HZ : RowKit.Hid (ZB (w.alloc zbox) w.heap.size) := row2_new w _ _ _
  by_cases hv0 : v < 0
  · obtain ⟨u, hu⟩ : ∃ u, u = v.natAbs := ⟨_, rfl⟩
    have hlt : u < 18446744073709551616 := by omega
    obtain ⟨q, hq⟩ : ∃ q : Nat, -(v + 1) = (q : Int) := ⟨(-(v + 1)).toNat, by omega⟩
    have hq2 : q < 9223372036854775808 := by omega
    have e0 : IntKind.i64.wrap (v + 1) = v + 1 := by rw [IntKind.wrap_i64]; omega
    have e0b : wrap64 (v + 1) = v + 1 := by unfold wrap64; omega
    have e1 : IntKind.i64.wrap (-(v + 1)) = (q : Int) := by rw [hq, IntKind.wrap_i64]; omega
    have e1b : wrap64 (-(v + 1)) = (q : Int) := by rw [hq]; unfold wrap64; omega
    have e2 : IntKind.u64.wrap (q : Int) = (q : Int) := by rw [IntKind.wrap_u64]; omega
    have e3 : IntKind.u64.wrap ((q : Int) + 1) = (u : Int) := by rw [IntKind.wrap_u64]; omega
    have eu : q + 1 = u := by omega
    have HS : RowKit.Hid (zOf true u = v) := by
      show _ = _
      rw [hu]; unfold zOf; simp; omega
    have HC := Lib.hid (refOf_c u _ rfl hlt (w.alloc zbox))
    clear hu h0 h1 hq hq2 eu
    go_enter Try.func52, Try.ntmps52
    go_wp2_with fail
    refine HC.out.mono ?_
    rintro e w2 ⟨A2, n2, c2, rfl, h2, bn⟩
    have BN2 := Lib.hid bn
    clear bn
    go_wp2_with fail
    refine (refMake_c h2 (by decide) v (by first | exact HS.out | simpa using HS.out)).mono ?_
    rintro e w4 ⟨A3, n3, c3, rfl, h4, bm⟩
    have BN4 := Lib.hid (below_two BN2.out bm)
    obtain ⟨e0, e1, f0, f1⟩ := (HZ.out.below BN4.out).cells
    have HF := Lib.hid ((HZ.out.below BN4.out).fill (.bool (sg v)) (.slice A3 n3 c3))
    have HP := Lib.hid (h4.put (HZ.out.below BN4.out) (.bool (sg v)) (.slice A3 n3 c3))
    have HB := Lib.hid (below_fill (g := w.heap.size) (below_two HW.out BN4.out) (Nat.le_refl _) (.bool (sg v)) (.slice A3 n3 c3))
    clear bm h2 h4
    go_wp2
    refine bodyPost_ret (results_cell_row rfl _ _ w.heap.size 25 #[.bool (sg v), .slice A3 n3 c3] (0, 0) _ rfl HF.out Try.underlying25 rfl int_size) rfl ?_
    exact ⟨A3, n3, c3, rfl, HP.out, HB.out⟩
  · obtain ⟨u, hu⟩ : ∃ u, u = v.natAbs := ⟨_, rfl⟩
    have hlt : u < 18446744073709551616 := by omega
    have ec : IntKind.u64.wrap v = (u : Int) := by rw [conv_u64 h0 h1, if_neg hv0]; omega
    have hv1 : 0 ≤ v := by omega
    have HS : RowKit.Hid (zOf false u = v) := by
      show _ = _
      rw [hu]; unfold zOf; simp; omega
    have HC := Lib.hid (refOf_c u _ rfl hlt (w.alloc zbox))
    clear hu h0 h1 hv0
    go_enter Try.func52, Try.ntmps52
    go_wp2_with fail
    refine HC.out.mono ?_
    rintro e w2 ⟨A2, n2, c2, rfl, h2, bn⟩
    have BN2 := Lib.hid bn
    clear bn
    go_wp2_with fail
    refine (refMake_c h2 (by decide) v (by first | exact HS.out | simpa using HS.out)).mono ?_
    rintro e w4 ⟨A3, n3, c3, rfl, h4, bm⟩
    have BN4 := Lib.hid (below_two BN2.out bm)
    obtain ⟨e0, e1, f0, f1⟩ := (HZ.out.below BN4.out).cells
    have HF := Lib.hid ((HZ.out.below BN4.out).fill (.bool (sg v)) (.slice A3 n3 c3))
    have HP := Lib.hid (h4.put (HZ.out.below BN4.out) (.bool (sg v)) (.slice A3 n3 c3))
    have HB := Lib.hid (below_fill (g := w.heap.size) (below_two HW.out BN4.out) (Nat.le_refl _) (.bool (sg v)) (.slice A3 n3 c3))
    clear bm h2 h4
    go_wp2
    refine bodyPost_ret (results_cell_row rfl _ _ w.heap.size 25 #[.bool (sg v), .slice A3 n3 c3] (0, 0) _ rfl HF.out Try.underlying25 rfl int_size) rfl ?_
    exact ⟨A3, n3, c3, rfl, HP.out, HB.out⟩

end Go.Proofs.Ytmifgblbicnimaa

/- What the reference of layer 7 answers (trimmed, pos, Wide), as contracts over memory. Conditions: sizes of at most so many limbs. -/
namespace Go.Proofs.Ytmifgblbicnimaa
open Go.RowKit Limb
set_option linter.unusedVariables false
theorem rat_size : (Try.prog.info? 27).map (·.size) = some 3 := by kernel_rfl
/-- Is a list trimmed? -/
theorem trimmed_iff {xs : List Nat} (h : Small xs) : xs = limbs (Limb.val xs) ↔ xs = [] ∨ lim xs (xs.length - 1) ≠ 0 := by
  constructor
  · intro e
    rcases Nat.eq_zero_or_pos (Limb.val xs) with h0 | h0
    · left; rw [e, h0, limbs_zero]
    · right
      intro hl
      have hp : 0 < xs.length := by
        rcases xs with _ | ⟨y, l⟩
        · simp [Limb.val] at h0
        · simp
      have h1 := trim_take_last (xs := xs) (k := xs.length - 1) (by omega) (by simpa [lim] using hl)
      rw [show xs.length - 1 + 1 = xs.length by omega, List.take_length, trim_eq_limbs h, ← e] at h1
      have h2 := trim_len_le (xs.take (xs.length - 1))
      rw [← h1, List.length_take] at h2
      omega
  · rintro (e | e)
    · subst e; rfl
    · have hp : 0 < xs.length := by
        rcases xs with _ | ⟨y, l⟩
        · simp [lim] at e
        · simp
      have h1 := trim_take_full (xs := xs) (k := xs.length - 1) (by omega) (by simpa [lim] using e)
      rw [show xs.length - 1 + 1 = xs.length by omega, List.take_length, trim_eq_limbs h] at h1
      exact h1.symm
section
variable {w : World} {s s' : Bool} {A B A' B' : Option Addr} {n c m d n' c' m' d' : Nat} {xs ys xs' ys' : List Nat} {x : Int} {a b L L' : Nat}
set_option maxHeartbeats 4000000 in
set_option maxRecDepth 100000 in
theorem refTrimmed_c (hx : NN w A n c xs a L) (h1 : L ≤ 9223372036854775807) (v : Bool) (hv : decide (xs = limbs a) = v) :
    Calls Try.prog 37 #[.slice A n c] w fun e w' => e = .returned (.bool v) ∧ w = w' := by
  have Hv := Lib.hid hv
  have Hx := Lib.hid hx
  have hsm := hx.isN.small
  have hlen := hx.isN.len
  have hle := hx.le
  have htr := trimmed_iff hsm
  rw [hx.val] at htr
  clear hx hv
  by_cases h0 : n = 0
  · have hB : RowKit.Hid (v = true) := by
      show _ = _
      rw [← Hv.out, decide_eq_true_eq, htr]
      exact .inl (List.eq_nil_of_length_eq_zero (by omega))
    subst h0
    clear hlen htr
    go_enter Try.func37, Try.ntmps37
    go_wp2
    go_ret
    exact ⟨by rw [hB.out]; rfl, rfl⟩
  · obtain ⟨g, o, eA, hlt, hc⟩ := Hx.out.isN.2.2 (by omega)
    obtain ⟨k, hk⟩ : ∃ k, n = k + 1 := ⟨n - 1, by omega⟩
    have hcell := hc k (by omega)
    obtain ⟨u, hu⟩ : ∃ u, lim xs k = u := ⟨_, rfl⟩
    rw [hu] at hcell
    have h00 : ((n : Int) == 0) = false := by rw [beq_eq_false_iff_ne]; omega
    have h0k : (n : Int) - 1 = (k : Int) := by omega
    have hB : RowKit.Hid (decide (u ≠ 0) = v) := by
      show _ = _
      rw [← Hv.out, decide_eq_decide, htr, ← hu, show xs.length - 1 = k by omega]
      constructor
      · exact fun h => .inr h
      · rintro (h | h)
        · rw [h] at hlen; simp at hlen; omega
        · exact h
    subst eA
    clear htr hc hu hsm
    subst hk
    go_enter Try.func37, Try.ntmps37
    go_wp2
    go_ret
    refine ⟨?_, rfl⟩
    rw [← hB.out]
    show Ending.returned (Value.bool (((k : Int) + 1 == 0) || ((u : Int) != 0))) = _
    rw [show ((k : Int) + 1 == 0) = false by rw [beq_eq_false_iff_ne]; omega, Bool.false_or]
    congr 2
    rw [Bool.eq_iff_iff]
    simp

set_option maxHeartbeats 4000000 in
set_option maxRecDepth 100000 in
theorem refWide_c (hx : ZZ w s A n c xs x L) (hy : NN w B m d ys b L') (h1 : L ≤ 10000) (h2 : L' ≤ 10000) (hb : b ≠ 0) (q : Rat) (hq : mkRat x b = q) :
    Calls Try.prog 54 #[.agg #[.bool s, .slice A n c], .slice B m d] w fun e w' => ∃ A2 n2 c2 B2 m2 d2, e = .returned (.agg #[.bool (sg q.num), .slice A2 n2 c2, .slice B2 m2 d2]) ∧ ZZ w' (sg q.num) A2 n2 c2 (limbs q.num.natAbs) q.num L ∧ NN w' B2 m2 d2 (limbs q.den) q.den L' ∧ Below w.heap.size w w' := by
  obtain ⟨g, hg⟩ : ∃ g, gcdN x.natAbs b = g := ⟨_, rfl⟩
  have hg2 : Nat.gcd x.natAbs b = g := hg
  have hg0 : g ≠ 0 := by rw [← hg2]; exact Nat.pos_iff_ne_zero.1 (Nat.gcd_pos_of_pos_right _ (Nat.pos_of_ne_zero hb))
  obtain ⟨m1, m2⟩ := mk_num (x := x) hb
  have m3 := mk_den (x := x) hb
  rw [hq, hg2] at m1 m3
  rw [hq] at m2
  have HS : RowKit.Hid (zOf (sg x) (x.natAbs / g) = q.num) := by
    show _ = _
    rw [← m1, ← m2]; exact zOf_sg
  have HD : RowKit.Hid (b / g = q.den) := m3.symm
  have Hg := Lib.hid hg
  have Hgl : RowKit.Hid (g < 4294967296 ^ (L + L')) := by
    show _ < _
    rw [← hg2]
    exact Nat.lt_of_le_of_lt (Nat.gcd_le_right _ (Nat.pos_of_ne_zero hb)) (Nat.lt_of_lt_of_le (lt_pow hy) (Nat.pow_le_pow_right (by decide) (Nat.le_add_left _ _)))
  clear hq m1 m2 m3 hg hg2 hb
  have b0 := below_new w (.cells #[Value.bool s, Value.slice A n c] 25)
  have b1 := below_new (w.alloc (.cells #[Value.bool s, Value.slice A n c] 25)) (.cells #[Value.bool false, Value.slice none 0 0, Value.slice none 0 0] 27)
  have HW := Lib.hid (below_two b0 b1)
  have HX := Lib.hid (hx.below HW.out)
  have HY := Lib.hid (hy.below HW.out)
  have r0 := (row2_new w 25 (.bool s) (.slice A n c)).below b1
  have rz := row3_new (w.alloc (.cells #[Value.bool s, Value.slice A n c] 25)) 27 (.bool false) (.slice none 0 0) (.slice none 0 0)
  simp only [World.size_alloc] at rz
  clear b0 b1 hx hy
  go_enter Try.func54, Try.ntmps54
  go_wp2_with fail
  generalize (w.alloc (.cells #[Value.bool s, Value.slice A n c] 25)).alloc (.cells #[Value.bool false, Value.slice none 0 0, Value.slice none 0 0] 27) = w1 at *
  have HZ := Lib.hid rz
  clear r0 rz
  refine (refITrim_c HX.out (by omega)).mono ?_
  rintro e w2 ⟨A5, n5, c5, rfl, h5, bn⟩
  have bx := below_new w2 (.cells #[Value.bool (sg x), Value.slice A5 n5 c5] 25)
  have H5 := Lib.hid (h5.below bx)
  have HR5 := Lib.hid (row2_new w2 25 (.bool (sg x)) (.slice A5 n5 c5))
  replace HY := Lib.hid ((HY.out.below bn).below bx)
  replace HZ := Lib.hid ((HZ.out.below bn).below bx)
  replace HW := Lib.hid (below_two (below_two HW.out bn) bx)
  have y0 := HR5.out.c0
  have y1 := HR5.out.c1
  clear h5 bn bx
  go_wp2_with fail
  clear y0 y1
  generalize w2.alloc (.cells #[Value.bool (sg x), Value.slice A5 n5 c5] 25) = w3 at *
  obtain ⟨q5, eg⟩ : ∃ g, g = w2.heap.size := ⟨_, rfl⟩
  rw [← eg] at HR5 ⊢
  clear eg
  refine (refGcd_c H5.out.nn HY.out (by omega) (by omega)).mono ?_
  rw [Hg.out]
  rintro e wS ⟨A6, n6, c6, rfl, h6, bn⟩
  have HG := Lib.hid h6
  replace H5 := Lib.hid (H5.out.below bn)
  replace HR5 := Lib.hid (HR5.out.below bn)
  replace HY := Lib.hid (HY.out.below bn)
  replace HZ := Lib.hid (HZ.out.below bn)
  replace HW := Lib.hid (below_two HW.out bn)
  have Hq : RowKit.Hid (w.heap.size ≤ w.heap.size + 1) := Nat.le_succ _
  have c0 := HR5.out.c0
  have c1 := HR5.out.c1
  clear h6 bn
  go_wp2_with fail
  clear c0 c1
  refine region_free 13 1 [13, 14, 15, 16, 17, 18, 19, 20, 21, 22, 23, 24, 25] ?aF1 (fun wx => Below wS.heap.size wS wx) (fun k vv wx => match k with
      | 0 => vv = .pointer (some ⟨q5, 0, none⟩)
      | 1 => vv = .bool (sg x)
      | 2 => vv = .pointer (some ⟨q5, 1, none⟩)
      | 3 => vv = .slice A5 n5 c5
      | 4 => vv = .slice A6 n6 c6
      | 5 => ∃ (e0 : Option Addr) (e1 : Nat) (e2 : Nat) (e3 : Option Addr) (e4 : Nat) (e5 : Nat), vv = .agg #[.slice e0 e1 e2, .slice e3 e4 e5, .bool true] ∧ NN wx e0 e1 e2 (limbs (x.natAbs / g)) (x.natAbs / g) L ∧ NN wx e3 e4 e5 (limbs (x.natAbs % g)) (x.natAbs % g) L
      | 6 => ∃ (e0 : Option Addr) (e1 : Nat) (e2 : Nat), vv = .slice e0 e1 e2 ∧ NN wx e0 e1 e2 (limbs (x.natAbs / g)) (x.natAbs / g) L
      | 7 => ∃ (e0 : Option Addr) (e1 : Nat) (e2 : Nat), vv = .agg #[.bool (sg q.num), .slice e0 e1 e2] ∧ ZZ wx (sg q.num) e0 e1 e2 (limbs q.num.natAbs) q.num L
      | 8 => vv = .slice B m d
      | 9 => vv = .slice A6 n6 c6
      | 10 => ∃ (e0 : Option Addr) (e1 : Nat) (e2 : Nat) (e3 : Option Addr) (e4 : Nat) (e5 : Nat), vv = .agg #[.slice e0 e1 e2, .slice e3 e4 e5, .bool true] ∧ NN wx e0 e1 e2 (limbs (b / g)) (b / g) L' ∧ NN wx e3 e4 e5 (limbs (b % g)) (b % g) L'
      | 11 => ∃ (e0 : Option Addr) (e1 : Nat) (e2 : Nat), vv = .slice e0 e1 e2 ∧ NN wx e0 e1 e2 (limbs (b / g)) (b / g) L'
      | _ => ∃ (e0 : Option Addr) (e1 : Nat) (e2 : Nat) (e3 : Option Addr) (e4 : Nat) (e5 : Nat), vv = .agg #[.bool (sg q.num), .slice e0 e1 e2, .slice e3 e4 e5] ∧ ZZ wx (sg q.num) e0 e1 e2 (limbs q.num.natAbs) q.num L ∧ NN wx e3 e4 e5 (limbs (b / g)) (b / g) L')
    (fun k => false) (by kernel_rfl) ?haF1 rfl (by kernel_rfl) (by kernel_rfl) (fun _ _ _ _ _ h => h) ?hSb1 ?hPb1 ?hS1 ?hop1 ?hfin1
  case haF1 =>
    intro vals
    simp only [fillAll, List.getElem?_cons_zero, List.getElem?_cons_succ, Act.put, List.setIfInBounds_toArray, List.set_cons_zero, List.set_cons_succ]
    exact rfl
  case hSb1 => exact fun wx w2 hb hS => below_two hS hb
  case hPb1 =>
    intro k v wa wb hb h
    match k, h with
    | 0, h => exact h
    | 1, h => exact h
    | 2, h => exact h
    | 3, h => exact h
    | 4, h => exact h
    | 5, ⟨e0, e1, e2, e3, e4, e5, h1, g0, g1⟩ => exact ⟨e0, e1, e2, e3, e4, e5, h1, g0.below hb, g1.below hb⟩
    | 6, ⟨e0, e1, e2, h1, g0⟩ => exact ⟨e0, e1, e2, h1, g0.below hb⟩
    | 7, ⟨e0, e1, e2, h1, g0⟩ => exact ⟨e0, e1, e2, h1, g0.below hb⟩
    | 8, h => exact h
    | 9, h => exact h
    | 10, ⟨e0, e1, e2, e3, e4, e5, h1, g0, g1⟩ => exact ⟨e0, e1, e2, e3, e4, e5, h1, g0.below hb, g1.below hb⟩
    | 11, ⟨e0, e1, e2, h1, g0⟩ => exact ⟨e0, e1, e2, h1, g0.below hb⟩
    | _ + 12, ⟨e0, e1, e2, e3, e4, e5, h1, g0, g1⟩ => exact ⟨e0, e1, e2, e3, e4, e5, h1, g0.below hb, g1.below hb⟩
  case hS1 => exact (Below.refl _ _).drew
  case hop1 =>
    refine .cons (k := 0) ?_ (.cons (k := 1) ?_ (.cons (k := 2) ?_ (.cons (k := 3) ?_ (.cons (k := 4) ?_ (.cons (k := 5) ?_ (.cons (k := 6) ?_ (.cons (k := 7) ?_ (.cons (k := 8) ?_ (.cons (k := 9) ?_ (.cons (k := 10) ?_ (.cons (k := 11) ?_ (.cons (k := 12) ?_ (.nil)))))))))))))
    all_goals intro vals wr hS hd KC hK
    all_goals (show Oper.wp _ _ _ _ _ _; dsimp only)
    · go_simp
      refine hK _ _ rfl (Below.refl _ _) (by first | rfl | simp) (fun h => by cases h)
    · have d0 : vals 0 = _ := hd 0 (by decide +kernel)
      rw [d0]
      have z0 := (HR5.out.below hS).c0
      go_simp
      refine hK _ _ rfl (Below.refl _ _) (by first | rfl | simp) (fun h => by cases h)
    · go_simp
      refine hK _ _ rfl (Below.refl _ _) (by first | rfl | simp) (fun h => by cases h)
    · have d2 : vals 2 = _ := hd 2 (by decide +kernel)
      rw [d2]
      have z0 := (HR5.out.below hS).c1
      go_simp
      refine hK _ _ rfl (Below.refl _ _) (by first | rfl | simp) (fun h => by cases h)
    · go_simp
      refine hK _ _ rfl (Below.refl _ _) (by first | rfl | simp) (fun h => by cases h)
    · have d3 : vals 3 = _ := hd 3 (by decide +kernel)
      have d4 : vals 4 = _ := hd 4 (by decide +kernel)
      rw [d3, d4]
      go_simp
      go_at_call 60
      with_reducible refine (refRem_yes (H5.out.nn.below hS) (HG.out.below hS) (by omega) (by omega) hg0).mono ?_
      rintro e w2 ⟨r0, r1, r2, r3, r4, r5, rfl, f0, f1, bn_r⟩
      refine hK _ _ rfl bn_r ⟨_, _, _, _, _, _, rfl, f0, f1⟩ (fun h => by cases h)
    · obtain ⟨A_5_0, n_5_1, n_5_2, A_5_3, n_5_4, n_5_5, d5, h_5_0, h_5_1⟩ := hd 5 (by decide +kernel)
      rw [d5]
      have hfld : ∀ W, (Instr.field 78 (.agg #[.slice A_5_0 n_5_1 n_5_2, .slice A_5_3 n_5_4 n_5_5, .bool true]) 0).run Try.prog W = .ok (.slice A_5_0 n_5_1 n_5_2) W := fun _ => by kernel_rfl
      go_simp
      refine hK _ _ rfl (Below.refl _ _) ⟨_, _, _, rfl, h_5_0⟩ (fun h => by cases h)
    · have d1 : vals 1 = _ := hd 1 (by decide +kernel)
      obtain ⟨A_6_0, n_6_1, n_6_2, d6, h_6_0⟩ := hd 6 (by decide +kernel)
      rw [d1, d6]
      go_simp
      go_at_call 32
      with_reducible refine (refMake_c h_6_0 (by omega) q.num HS.out).mono ?_
      rintro e w2 ⟨r0, r1, r2, rfl, f0, bn_r⟩
      refine hK _ _ rfl bn_r ⟨_, _, _, rfl, f0⟩ (fun h => by cases h)
    · go_simp
      refine hK _ _ rfl (Below.refl _ _) (by first | rfl | simp) (fun h => by cases h)
    · go_simp
      refine hK _ _ rfl (Below.refl _ _) (by first | rfl | simp) (fun h => by cases h)
    · have d8 : vals 8 = _ := hd 8 (by decide +kernel)
      have d9 : vals 9 = _ := hd 9 (by decide +kernel)
      rw [d8, d9]
      go_simp
      go_at_call 60
      with_reducible refine (refRem_yes (HY.out.below hS) (HG.out.below hS) (by omega) (by omega) hg0).mono ?_
      rintro e w2 ⟨r0, r1, r2, r3, r4, r5, rfl, f0, f1, bn_r⟩
      refine hK _ _ rfl bn_r ⟨_, _, _, _, _, _, rfl, f0, f1⟩ (fun h => by cases h)
    · obtain ⟨A_10_0, n_10_1, n_10_2, A_10_3, n_10_4, n_10_5, d10, h_10_0, h_10_1⟩ := hd 10 (by decide +kernel)
      rw [d10]
      have hfld : ∀ W, (Instr.field 78 (.agg #[.slice A_10_0 n_10_1 n_10_2, .slice A_10_3 n_10_4 n_10_5, .bool true]) 0).run Try.prog W = .ok (.slice A_10_0 n_10_1 n_10_2) W := fun _ => by kernel_rfl
      go_simp
      refine hK _ _ rfl (Below.refl _ _) ⟨_, _, _, rfl, h_10_0⟩ (fun h => by cases h)
    · obtain ⟨A_7_0, n_7_1, n_7_2, d7, h_7_0⟩ := hd 7 (by decide +kernel)
      obtain ⟨A_11_0, n_11_1, n_11_2, d11, h_11_0⟩ := hd 11 (by decide +kernel)
      rw [d7, d11]
      go_simp
      refine hK _ _ rfl (Below.refl _ _) ⟨_, _, _, _, _, _, rfl, h_7_0, h_11_0⟩ (fun h => by cases h)
  case hfin1 =>
    intro vals wr hS hP hne
    obtain ⟨y0, y1, y2, y3, y4, y5, ez, h3_0, h3_1⟩ := hP 12 (by decide)
    have hZ3 := HZ.out.below hS
    have hNo := hZ3.noLimb (by intro v e; cases e) (by intro v e; cases e) (by intro v e; cases e)
    have e0 := hZ3.c0
    have e1 := hZ3.c1
    have e2 := hZ3.c2
    have f0 := hZ3.free 0
    have f1 := hZ3.free 1
    have f2 := hZ3.free 2
    have HF := Lib.hid (hZ3.fill (.bool (sg q.num)) (.slice y0 y1 y2) (.slice y3 y4 y5))
    have HP1 := Lib.hid (h3_0.fillR3 hNo (.bool (sg q.num)) (.slice y0 y1 y2) (.slice y3 y4 y5))
    have HP2 := Lib.hid ((show NN wr y3 y4 y5 (limbs q.den) q.den L' from by rw [← HD.out]; exact h3_1).fillR3 hNo (.bool (sg q.num)) (.slice y0 y1 y2) (.slice y3 y4 y5))
    have HB := Lib.hid (below_fill3' (below_two HW.out hS) Hq.out (.bool (sg q.num)) (.slice y0 y1 y2) (.slice y3 y4 y5))
    try dsimp only
    rw [ez]
    refine wpAny_ready (rs := [13]) (by kernel_rfl) (by simp) (AllReady.cons rfl (fun KC hK => ?_) AllReady.nil)
    go_simp
    refine hK _ _ ?_
    clear hK KC
    refine wpAny_done (by kernel_rfl) ?_ _
    go_wp2
    refine bodyPost_ret (results_cell_row rfl _ _ _ 27 #[.bool (sg q.num), .slice y0 y1 y2, .slice y3 y4 y5] (0, 0) _ rfl HF.out Try.underlying27 rfl rat_size) rfl ?_
    exact ⟨y0, y1, y2, y3, y4, y5, rfl, HP1.out, HP2.out, HB.out⟩

end
end Go.Proofs.Ytmifgblbicnimaa

/- What the reference's product of layer 6 answers, as a contract over memory. Conditions: sizes of at most so many limbs. -/
namespace Go.Proofs.Ytmifgblbicnimaa
open Go.RowKit Limb
set_option linter.unusedVariables false
theorem sg_zof {x : Int} : zOf (sg x) x.natAbs = x := by
  unfold zOf sg
  by_cases h : x < 0
  · simp [h]; omega
  · simp [h]; omega

section
variable {w : World} {s s' : Bool} {A A' : Option Addr} {n c n' c' : Nat} {xs ys : List Nat} {x y : Int} {L L' : Nat}
set_option maxHeartbeats 4000000 in
set_option maxRecDepth 100000 in
theorem refIMul_c (hx : ZZ w s A n c xs x L) (hy : ZZ w s' A' n' c' ys y L') (h1 : L ≤ 100000) (h2 : L' ≤ 100000) (z : Int) (hz : x * y = z) :
    Calls Try.prog 31 #[.agg #[.bool s, .slice A n c], .agg #[.bool s', .slice A' n' c']] w fun e w' => ∃ A2 n2 c2, e = .returned (.agg #[.bool (sg z), .slice A2 n2 c2]) ∧ ZZ w' (sg z) A2 n2 c2 (limbs z.natAbs) z (L + L') ∧ Below w.heap.size w w' := by
  have HS : RowKit.Hid (zOf (sg x != sg y) (x.natAbs * y.natAbs) = z) := (zOf_mul sg_zof sg_zof).trans hz
  have HX0 := Lib.hid hx
  have HY0 := Lib.hid hy
  clear hz
  have b0 := below_new w (.cells #[Value.bool s, Value.slice A n c] 25)
  have b1 := below_new (w.alloc (.cells #[Value.bool s, Value.slice A n c] 25)) (.cells #[Value.bool s', Value.slice A' n' c'] 25)
  have bz := below_new ((w.alloc (.cells #[Value.bool s, Value.slice A n c] 25)).alloc (.cells #[Value.bool s', Value.slice A' n' c'] 25)) zbox
  have HW := Lib.hid (below_two (below_two b0 b1) bz)
  have HN := Lib.hid (hx.nn.below HW.out)
  have HM := Lib.hid (hy.nn.below HW.out)
  have r0 := ((row2_new w 25 (.bool s) (.slice A n c)).below b1).below bz
  have r1 := (row2_new (w.alloc (.cells #[Value.bool s, Value.slice A n c] 25)) 25 (.bool s') (.slice A' n' c')).below bz
  have rz : ZB (((w.alloc (.cells #[Value.bool s, Value.slice A n c] 25)).alloc (.cells #[Value.bool s', Value.slice A' n' c'] 25)).alloc zbox) ((w.alloc (.cells #[Value.bool s, Value.slice A n c] 25)).alloc (.cells #[Value.bool s', Value.slice A' n' c'] 25)).heap.size := row2_new ((w.alloc (.cells #[Value.bool s, Value.slice A n c] 25)).alloc (.cells #[Value.bool s', Value.slice A' n' c'] 25)) _ _ _
  simp only [World.size_alloc] at r1 rz
  clear b0 b1 bz hx hy
  go_enter Try.func31, Try.ntmps31
  go_wp2
  have HX := Lib.hid (HX0.out.below HW.out)
  have HY := Lib.hid (HY0.out.below HW.out)
  generalize ((w.alloc (.cells #[Value.bool s, Value.slice A n c] 25)).alloc (.cells #[Value.bool s', Value.slice A' n' c'] 25)).alloc zbox = wS at *
  have HR0 := Lib.hid r0
  have c00 := r0.c0
  have c01 := r0.c1
  have HR1 := Lib.hid r1
  have c10 := r1.c0
  have c11 := r1.c1
  have HZ := Lib.hid rz
  clear r0 r1 rz
  have Hq : RowKit.Hid (w.heap.size ≤ w.heap.size + 1 + 1) := by show _ ≤ _; omega
  clear c00 c01 c10 c11
  refine region_free 13 1 [5, 6, 7, 8, 9, 10, 11, 12, 13, 14, 15, 16, 17] ?aF1 (fun wx => Below wS.heap.size wS wx) (fun k v wx => match k with
      | 0 => v = .agg #[.bool s, .slice A n c]
      | 1 => ∃ A2 n2 c2, v = .agg #[.bool (sg x), .slice A2 n2 c2] ∧ ZZ wx (sg x) A2 n2 c2 (limbs x.natAbs) x L
      | 2 => v = .bool (sg x)
      | 3 => v = .agg #[.bool s', .slice A' n' c']
      | 4 => ∃ A2 n2 c2, v = .agg #[.bool (sg y), .slice A2 n2 c2] ∧ ZZ wx (sg y) A2 n2 c2 (limbs y.natAbs) y L'
      | 5 => v = .bool (sg y)
      | 6 => v = .bool (sg x != sg y)
      | 7 => v = .pointer (some ⟨w.heap.size, 1, none⟩)
      | 8 => v = .slice A n c
      | 9 => v = .pointer (some ⟨w.heap.size + 1, 1, none⟩)
      | 10 => v = .slice A' n' c'
      | 11 => ∃ A2 n2 c2, v = .slice A2 n2 c2 ∧ NN wx A2 n2 c2 (limbs (x.natAbs * y.natAbs)) (x.natAbs * y.natAbs) (L + L')
      | _ => ∃ A2 n2 c2, v = .agg #[.bool (sg z), .slice A2 n2 c2] ∧ ZZ wx (sg z) A2 n2 c2 (limbs z.natAbs) z (L + L'))
    (fun _ => false) (by kernel_rfl) ?haF1 rfl (by kernel_rfl) (by kernel_rfl) (fun _ _ _ _ _ h => h) ?hSb1 ?hPb1 ?hS1 ?hop1 ?hfin1
  case haF1 =>
    intro vals
    simp only [fillAll, List.getElem?_cons_zero, List.getElem?_cons_succ, Act.put, List.setIfInBounds_toArray, List.set_cons_zero, List.set_cons_succ]
    exact rfl
  case hSb1 => exact fun wx w2 hb hS => below_two hS hb
  case hPb1 =>
    intro k v wa wb hb h
    match k, h with
    | 0, h => exact h
    | 1, ⟨A2, n2, c2, h1, h2⟩ => exact ⟨A2, n2, c2, h1, h2.below hb⟩
    | 2, h => exact h
    | 3, h => exact h
    | 4, ⟨A2, n2, c2, h1, h2⟩ => exact ⟨A2, n2, c2, h1, h2.below hb⟩
    | 5, h => exact h
    | 6, h => exact h
    | 7, h => exact h
    | 8, h => exact h
    | 9, h => exact h
    | 10, h => exact h
    | 11, ⟨A2, n2, c2, h1, h2⟩ => exact ⟨A2, n2, c2, h1, h2.below hb⟩
    | _ + 12, ⟨A2, n2, c2, h1, h2⟩ => exact ⟨A2, n2, c2, h1, h2.below hb⟩
  case hS1 => exact (Below.refl _ _).drew
  case hop1 =>
    refine .cons (k := 0) ?_ (.cons (k := 1) ?_ (.cons (k := 2) ?_ (.cons (k := 3) ?_ (.cons (k := 4) ?_ (.cons (k := 5) ?_ (.cons (k := 6) ?_ (.cons (k := 7) ?_ (.cons (k := 8) ?_ (.cons (k := 9) ?_ (.cons (k := 10) ?_ (.cons (k := 11) ?_ (.cons (k := 12) ?_ (.nil)))))))))))))
    all_goals intro vals wr hS hd KC hK
    all_goals (show Oper.wp _ _ _ _ _ _; dsimp only)
    · have c0 := (HR0.out.below hS).c0
      have c1 := (HR0.out.below hS).c1
      go_simp
      refine hK _ _ rfl (Below.refl _ _) (by first | rfl | simp) (fun h => by cases h)
    · have d0 : vals 0 = _ := hd 0 (by decide +kernel)
      rw [d0]
      go_simp
      go_at_call 55
      with_reducible refine (refITrim_c (HX.out.below hS) (by omega)).mono ?_
      rintro e w2 ⟨A_r, n_r, c_r, rfl, h_r, bn_r⟩
      refine hK _ _ rfl bn_r ⟨_, _, _, rfl, h_r⟩ (fun h => by cases h)
    · obtain ⟨A_1, n_1, c_1, d1, h_1⟩ := hd 1 (by decide +kernel)
      rw [d1]
      have hfld : ∀ W, (Instr.field 25 (.agg #[.bool (sg x), .slice A_1 n_1 c_1]) 0).run Try.prog W = .ok (.bool (sg x)) W := fun _ => by kernel_rfl
      go_simp
      refine hK _ _ rfl (Below.refl _ _) (by first | rfl | simp) (fun h => by cases h)
    · have c0 := (HR1.out.below hS).c0
      have c1 := (HR1.out.below hS).c1
      go_simp
      refine hK _ _ rfl (Below.refl _ _) (by first | rfl | simp) (fun h => by cases h)
    · have d3 : vals 3 = _ := hd 3 (by decide +kernel)
      rw [d3]
      go_simp
      go_at_call 55
      with_reducible refine (refITrim_c (HY.out.below hS) (by omega)).mono ?_
      rintro e w2 ⟨A_r, n_r, c_r, rfl, h_r, bn_r⟩
      refine hK _ _ rfl bn_r ⟨_, _, _, rfl, h_r⟩ (fun h => by cases h)
    · obtain ⟨A_4, n_4, c_4, d4, h_4⟩ := hd 4 (by decide +kernel)
      rw [d4]
      have hfld : ∀ W, (Instr.field 25 (.agg #[.bool (sg y), .slice A_4 n_4 c_4]) 0).run Try.prog W = .ok (.bool (sg y)) W := fun _ => by kernel_rfl
      go_simp
      refine hK _ _ rfl (Below.refl _ _) (by first | rfl | simp) (fun h => by cases h)
    · have d2 : vals 2 = _ := hd 2 (by decide +kernel)
      have d5 : vals 5 = _ := hd 5 (by decide +kernel)
      rw [d2, d5]
      go_simp
      refine hK _ _ rfl (Below.refl _ _) (by first | rfl | simp) (fun h => by cases h)
    · go_simp
      refine hK _ _ rfl (Below.refl _ _) (by first | rfl | simp) (fun h => by cases h)
    · have d7 : vals 7 = _ := hd 7 (by decide +kernel)
      rw [d7]
      have c0 := (HR0.out.below hS).c1
      go_simp
      refine hK _ _ rfl (Below.refl _ _) (by first | rfl | simp) (fun h => by cases h)
    · go_simp
      refine hK _ _ rfl (Below.refl _ _) (by first | rfl | simp) (fun h => by cases h)
    · have d9 : vals 9 = _ := hd 9 (by decide +kernel)
      rw [d9]
      have c0 := (HR1.out.below hS).c1
      go_simp
      refine hK _ _ rfl (Below.refl _ _) (by first | rfl | simp) (fun h => by cases h)
    · have d8 : vals 8 = _ := hd 8 (by decide +kernel)
      have d10 : vals 10 = _ := hd 10 (by decide +kernel)
      rw [d8, d10]
      go_simp
      go_at_call 34
      with_reducible refine (refMul_c (HX.out.nn.below hS) (HY.out.nn.below hS) (by omega) (by omega)).mono ?_
      rintro e w2 ⟨A_r, n_r, c_r, rfl, h_r, bn_r⟩
      refine hK _ _ rfl bn_r ⟨_, _, _, rfl, h_r⟩ (fun h => by cases h)
    · have d6 : vals 6 = _ := hd 6 (by decide +kernel)
      obtain ⟨A_11, n_11, c_11, d11, h_11⟩ := hd 11 (by decide +kernel)
      rw [d6, d11]
      go_simp
      go_at_call 32
      with_reducible refine (refMake_c h_11 (by omega) z (by first | exact HS.out | simpa using HS.out)).mono ?_
      rintro e w2 ⟨A_r, n_r, c_r, rfl, h_r, bn_r⟩
      refine hK _ _ rfl bn_r ⟨_, _, _, rfl, h_r⟩ (fun h => by cases h)
  case hfin1 =>
    intro vals wr hS hP hne
    obtain ⟨A2, n2, c2, ez, h3⟩ := hP 12 (by decide)
    have hZ3 := HZ.out.below hS
    obtain ⟨e0, e1, f0, f1⟩ := hZ3.cells
    try dsimp only
    rw [ez]
    have HF := Lib.hid (hZ3.fill (.bool (sg z)) (.slice A2 n2 c2))
    have HP := Lib.hid (h3.put hZ3 (.bool (sg z)) (.slice A2 n2 c2))
    have HB := Lib.hid (below_fill (below_two HW.out hS) Hq.out (.bool (sg z)) (.slice A2 n2 c2))
    refine wpAny_ready (rs := [13]) (by kernel_rfl) (by simp) (AllReady.cons rfl (fun KC hK => ?_) AllReady.nil)
    go_simp
    refine hK _ _ ?_
    clear hK KC
    refine wpAny_done (by kernel_rfl) ?_ _
    go_wp2
    refine bodyPost_ret (results_cell_row rfl _ _ (w.heap.size + 1 + 1) 25 #[.bool (sg z), .slice A2 n2 c2] (0, 0) _ rfl HF.out Try.underlying25 rfl int_size) rfl ?_
    exact ⟨A2, n2, c2, rfl, HP.out, HB.out⟩

end
end Go.Proofs.Ytmifgblbicnimaa

/- What the reference's sum of layer 6 answers, as a contract over memory. Conditions: sizes of at most so many limbs. -/
namespace Go.Proofs.Ytmifgblbicnimaa
open Go.RowKit Limb
set_option linter.unusedVariables false
theorem lt_of_sum {w : World} {A : Option Addr} {n c a L K : Nat} {xs : List Nat} (h : NN w A n c xs a L) (hK : L ≤ K) : a < 4294967296 ^ K :=
  Nat.lt_of_lt_of_le (lt_pow h) (Nat.pow_le_pow_right (by decide) hK)

end Go.Proofs.Ytmifgblbicnimaa

/- What the reference of layer 7 answers (Times, Plus), as contracts over memory. Conditions: sizes of at most so many limbs. -/
namespace Go.Proofs.Ytmifgblbicnimaa
open Go.RowKit Limb
set_option linter.unusedVariables false
section
variable {w : World} {s s' : Bool} {A B A' B' : Option Addr} {n c m d n' c' m' d' : Nat} {xs ys xs' ys' : List Nat} {x y : Int} {a b L L' : Nat}
set_option maxHeartbeats 4000000 in
set_option maxRecDepth 100000 in
theorem refTimes_c (hx : ZZ w s A n c xs x L) (hy : NN w B m d ys a L) (hx' : ZZ w s' A' n' c' xs' y L') (hy' : NN w B' m' d' ys' b L') (h1 : L ≤ 1000) (h2 : L' ≤ 1000) (ha : a ≠ 0) (hb : b ≠ 0) (q : Rat) (hq : mkRat (x * y) (a * b) = q) :
    Calls Try.prog 69 #[.agg #[.bool s, .slice A n c, .slice B m d], .agg #[.bool s', .slice A' n' c', .slice B' m' d']] w fun e w' => ∃ A2 n2 c2 B2 m2 d2, e = .returned (.agg #[.bool (sg q.num), .slice A2 n2 c2, .slice B2 m2 d2]) ∧ ZZ w' (sg q.num) A2 n2 c2 (limbs q.num.natAbs) q.num (L + L') ∧ NN w' B2 m2 d2 (limbs q.den) q.den (L + L') ∧ Below w.heap.size w w' := by
  have hab : a * b ≠ 0 := Nat.mul_ne_zero ha hb
  have b0 := below_new w (.cells #[Value.bool s, Value.slice A n c, Value.slice B m d] 27)
  have b1 := below_new (w.alloc (.cells #[Value.bool s, Value.slice A n c, Value.slice B m d] 27)) (.cells #[Value.bool s', Value.slice A' n' c', Value.slice B' m' d'] 27)
  have b2 := below_new ((w.alloc (.cells #[Value.bool s, Value.slice A n c, Value.slice B m d] 27)).alloc (.cells #[Value.bool s', Value.slice A' n' c', Value.slice B' m' d'] 27)) (.cells #[Value.bool false, Value.slice none 0 0, Value.slice none 0 0] 27)
  have HW := Lib.hid (below_two (below_two b0 b1) b2)
  have HX := Lib.hid (hx.below HW.out)
  have HY := Lib.hid (hy.below HW.out)
  have HX1 := Lib.hid (hx'.below HW.out)
  have HY1 := Lib.hid (hy'.below HW.out)
  have r0 := ((row3_new w 27 (.bool s) (.slice A n c) (.slice B m d)).below b1).below b2
  have r1 := (row3_new (w.alloc (.cells #[Value.bool s, Value.slice A n c, Value.slice B m d] 27)) 27 (.bool s') (.slice A' n' c') (.slice B' m' d')).below b2
  have rz := row3_new ((w.alloc (.cells #[Value.bool s, Value.slice A n c, Value.slice B m d] 27)).alloc (.cells #[Value.bool s', Value.slice A' n' c', Value.slice B' m' d'] 27)) 27 (.bool false) (.slice none 0 0) (.slice none 0 0)
  simp only [World.size_alloc] at r1 rz
  clear b0 b1 b2 hx hy hx' hy'
  go_enter Try.func69, Try.ntmps69
  go_wp2
  generalize ((w.alloc (.cells #[Value.bool s, Value.slice A n c, Value.slice B m d] 27)).alloc (.cells #[Value.bool s', Value.slice A' n' c', Value.slice B' m' d'] 27)).alloc (.cells #[Value.bool false, Value.slice none 0 0, Value.slice none 0 0] 27) = wS at *
  have HR0 := Lib.hid r0
  have HR1 := Lib.hid r1
  have HZ := Lib.hid rz
  have Hq : RowKit.Hid (w.heap.size ≤ w.heap.size + 1 + 1) := by show _ ≤ _; omega
  clear r0 r1 rz
  refine region_free 11 1 [5, 6, 7, 8, 9, 10, 11, 12, 13, 14, 15] ?aF2 (fun wx => Below wS.heap.size wS wx) (fun k vv wx => match k with
      | 0 => vv = .pointer (some ⟨w.heap.size, 0, none⟩)
      | 1 => vv = .agg #[.bool s, .slice A n c]
      | 2 => vv = .pointer (some ⟨w.heap.size + 1, 0, none⟩)
      | 3 => vv = .agg #[.bool s', .slice A' n' c']
      | 4 => ∃ (e0 : Option Addr) (e1 : Nat) (e2 : Nat), vv = .agg #[.bool (sg (x * y)), .slice e0 e1 e2] ∧ ZZ wx (sg (x * y)) e0 e1 e2 (limbs (x * y).natAbs) (x * y) (L + L')
      | 5 => vv = .pointer (some ⟨w.heap.size, 2, none⟩)
      | 6 => vv = .slice B m d
      | 7 => vv = .pointer (some ⟨w.heap.size + 1, 2, none⟩)
      | 8 => vv = .slice B' m' d'
      | 9 => ∃ (e0 : Option Addr) (e1 : Nat) (e2 : Nat), vv = .slice e0 e1 e2 ∧ NN wx e0 e1 e2 (limbs (a * b)) (a * b) (L + L')
      | _ => ∃ (e0 : Option Addr) (e1 : Nat) (e2 : Nat) (e3 : Option Addr) (e4 : Nat) (e5 : Nat), vv = .agg #[.bool (sg q.num), .slice e0 e1 e2, .slice e3 e4 e5] ∧ ZZ wx (sg q.num) e0 e1 e2 (limbs q.num.natAbs) q.num (L + L') ∧ NN wx e3 e4 e5 (limbs q.den) q.den (L + L'))
    (fun k => false) (by kernel_rfl) ?haF2 rfl (by kernel_rfl) (by kernel_rfl) (fun _ _ _ _ _ h => h) ?hSb2 ?hPb2 ?hS2 ?hop2 ?hfin2
  case haF2 =>
    intro vals
    simp only [fillAll, List.getElem?_cons_zero, List.getElem?_cons_succ, Act.put, List.setIfInBounds_toArray, List.set_cons_zero, List.set_cons_succ]
    exact rfl
  case hSb2 => exact fun wx w2 hb hS => below_two hS hb
  case hPb2 =>
    intro k v wa wb hb h
    match k, h with
    | 0, h => exact h
    | 1, h => exact h
    | 2, h => exact h
    | 3, h => exact h
    | 4, ⟨e0, e1, e2, h1, g0⟩ => exact ⟨e0, e1, e2, h1, g0.below hb⟩
    | 5, h => exact h
    | 6, h => exact h
    | 7, h => exact h
    | 8, h => exact h
    | 9, ⟨e0, e1, e2, h1, g0⟩ => exact ⟨e0, e1, e2, h1, g0.below hb⟩
    | _ + 10, ⟨e0, e1, e2, e3, e4, e5, h1, g0, g1⟩ => exact ⟨e0, e1, e2, e3, e4, e5, h1, g0.below hb, g1.below hb⟩
  case hS2 => exact (Below.refl _ _).drew
  case hop2 =>
    refine .cons (k := 0) ?_ (.cons (k := 1) ?_ (.cons (k := 2) ?_ (.cons (k := 3) ?_ (.cons (k := 4) ?_ (.cons (k := 5) ?_ (.cons (k := 6) ?_ (.cons (k := 7) ?_ (.cons (k := 8) ?_ (.cons (k := 9) ?_ (.cons (k := 10) ?_ (.nil)))))))))))
    all_goals intro vals wr hS hd KC hK
    all_goals (show Oper.wp _ _ _ _ _ _; dsimp only)
    · go_simp
      refine hK _ _ rfl (Below.refl _ _) (by first | rfl | simp) (fun h => by cases h)
    · have d0 : vals 0 = _ := hd 0 (by decide +kernel)
      rw [d0]
      have z0 := (HR0.out.below hS).c0
      have z1 := (HR0.out.below hS).c1
      go_simp
      refine hK _ _ rfl (Below.refl _ _) (by first | rfl | simp) (fun h => by cases h)
    · go_simp
      refine hK _ _ rfl (Below.refl _ _) (by first | rfl | simp) (fun h => by cases h)
    · have d2 : vals 2 = _ := hd 2 (by decide +kernel)
      rw [d2]
      have z0 := (HR1.out.below hS).c0
      have z1 := (HR1.out.below hS).c1
      go_simp
      refine hK _ _ rfl (Below.refl _ _) (by first | rfl | simp) (fun h => by cases h)
    · have d1 : vals 1 = _ := hd 1 (by decide +kernel)
      have d3 : vals 3 = _ := hd 3 (by decide +kernel)
      rw [d1, d3]
      go_simp
      go_at_call 31
      with_reducible refine (refIMul_c (HX.out.below hS) (HX1.out.below hS) (by omega) (by omega) (x * y) rfl).mono ?_
      rintro e w2 ⟨r0, r1, r2, rfl, f0, bn_r⟩
      refine hK _ _ rfl bn_r ⟨_, _, _, rfl, f0⟩ (fun h => by cases h)
    · go_simp
      refine hK _ _ rfl (Below.refl _ _) (by first | rfl | simp) (fun h => by cases h)
    · have d5 : vals 5 = _ := hd 5 (by decide +kernel)
      rw [d5]
      have z0 := (HR0.out.below hS).c2
      go_simp
      refine hK _ _ rfl (Below.refl _ _) (by first | rfl | simp) (fun h => by cases h)
    · go_simp
      refine hK _ _ rfl (Below.refl _ _) (by first | rfl | simp) (fun h => by cases h)
    · have d7 : vals 7 = _ := hd 7 (by decide +kernel)
      rw [d7]
      have z0 := (HR1.out.below hS).c2
      go_simp
      refine hK _ _ rfl (Below.refl _ _) (by first | rfl | simp) (fun h => by cases h)
    · have d6 : vals 6 = _ := hd 6 (by decide +kernel)
      have d8 : vals 8 = _ := hd 8 (by decide +kernel)
      rw [d6, d8]
      go_simp
      go_at_call 34
      with_reducible refine (refMul_c (HY.out.below hS) (HY1.out.below hS) (by omega) (by omega)).mono ?_
      rintro e w2 ⟨r0, r1, r2, rfl, f0, bn_r⟩
      refine hK _ _ rfl bn_r ⟨_, _, _, rfl, f0⟩ (fun h => by cases h)
    · obtain ⟨A_4_0, n_4_1, n_4_2, d4, h_4_0⟩ := hd 4 (by decide +kernel)
      obtain ⟨A_9_0, n_9_1, n_9_2, d9, h_9_0⟩ := hd 9 (by decide +kernel)
      rw [d4, d9]
      go_simp
      go_at_call 54
      with_reducible refine (refWide_c h_4_0 h_9_0 (by omega) (by omega) hab q hq).mono ?_
      rintro e w2 ⟨r0, r1, r2, r3, r4, r5, rfl, f0, f1, bn_r⟩
      refine hK _ _ rfl bn_r ⟨_, _, _, _, _, _, rfl, f0, f1⟩ (fun h => by cases h)
  case hfin2 =>
    intro vals wr hS hP hne
    obtain ⟨y0, y1, y2, y3, y4, y5, ez, h3_0, h3_1⟩ := hP 10 (by decide)
    have hZ3 := HZ.out.below hS
    have hNo := hZ3.noLimb (by intro v e; cases e) (by intro v e; cases e) (by intro v e; cases e)
    have e0 := hZ3.c0
    have e1 := hZ3.c1
    have e2 := hZ3.c2
    have f0 := hZ3.free 0
    have f1 := hZ3.free 1
    have f2 := hZ3.free 2
    have HF := Lib.hid (hZ3.fill (.bool (sg q.num)) (.slice y0 y1 y2) (.slice y3 y4 y5))
    have HP1 := Lib.hid (h3_0.fillR3 hNo (.bool (sg q.num)) (.slice y0 y1 y2) (.slice y3 y4 y5))
    have HP2 := Lib.hid (h3_1.fillR3 hNo (.bool (sg q.num)) (.slice y0 y1 y2) (.slice y3 y4 y5))
    have HB := Lib.hid (below_fill3' (below_two HW.out hS) Hq.out (.bool (sg q.num)) (.slice y0 y1 y2) (.slice y3 y4 y5))
    try dsimp only
    rw [ez]
    refine wpAny_ready (rs := [11]) (by kernel_rfl) (by simp) (AllReady.cons rfl (fun KC hK => ?_) AllReady.nil)
    go_simp
    refine hK _ _ ?_
    clear hK KC
    refine wpAny_done (by kernel_rfl) ?_ _
    go_wp2
    refine bodyPost_ret (results_cell_row rfl _ _ _ 27 #[.bool (sg q.num), .slice y0 y1 y2, .slice y3 y4 y5] (0, 0) _ rfl HF.out Try.underlying27 rfl rat_size) rfl ?_
    exact ⟨y0, y1, y2, y3, y4, y5, rfl, HP1.out, HP2.out, HB.out⟩

end
end Go.Proofs.Ytmifgblbicnimaa

/- What the reference of layer 7 answers (Limit, Whole), as contracts over memory. Conditions: sizes of at most so many limbs. -/
namespace Go.Proofs.Ytmifgblbicnimaa
open Go.RowKit Limb
set_option linter.unusedVariables false
theorem got7_size : (Try.prog.info? 35).map (·.size) = some 4 := by kernel_rfl

section
variable {w : World} {s s' : Bool} {A B A' B' : Option Addr} {n c m d n' c' m' d' : Nat} {xs ys xs' ys' : List Nat} {x y : Int} {a b L L' : Nat}
set_option maxHeartbeats 4000000 in
set_option maxRecDepth 100000 in
theorem refLimit_c {q : Rat} (hz : ZZ w (sg q.num) A n c (limbs q.num.natAbs) q.num L) (hn : NN w B m d (limbs q.den) q.den L') :
    Calls Try.prog 27 #[.agg #[.bool (sg q.num), .slice A n c, .slice B m d]] w fun e w' => ∃ A2 n2 c2 B2 m2 d2, e = .returned (.agg #[.bool (sg (oTop (limQ q))), .slice A2 n2 c2, .slice B2 m2 d2, .int .i64 (limE q)]) ∧ QT w' A2 n2 c2 B2 m2 d2 (limQ q) ∧ Below w.heap.size w w' := by
  have hf1 := hz.nn.isN.len
  have hf2 := hn.isN.len
  have HX := Lib.hid hz
  have HY := Lib.hid hn
  clear hz hn
  by_cases h5 : 64 < n
  · have hf : RowKit.Hid (fitsQ q = false) := by
      show _ = _
      rw [Bool.eq_false_iff]
      intro h
      simp only [fitsQ, Bool.and_eq_true, decide_eq_true_eq] at h
      have := length_limbs_le h.1
      omega
    have n5 : decide ((64 : Int) < (n : Int)) = true := by rw [decide_eq_true_eq]; omega
    clear h5
    clear hf1 hf2
    go_enter Try.func27, Try.ntmps27
    go_wp2
    refine bodyPost_ret (results_cell_row rfl _ _ (w.heap.size + 1) 35 #[.bool false, .slice none 0 0, .slice none 0 0, .int .i64 2] (0, 0) _ rfl (heap_alloc2_new _ _ _) Try.underlying35 rfl got7_size) rfl ?_
    exact ⟨none, 0, 0, none, 0, 0, by rw [limQ_no hf.out, limE_no hf.out]; rfl, by rw [limQ_no hf.out]; exact qt_none _ 0 0, below_two (below_new _ _) (below_new _ _)⟩
  · by_cases h6 : 64 < m
    · have hf : RowKit.Hid (fitsQ q = false) := by
        show _ = _
        rw [Bool.eq_false_iff]
        intro h
        simp only [fitsQ, Bool.and_eq_true, decide_eq_true_eq] at h
        have := length_limbs_le h.2
        omega
      have n5 : decide ((64 : Int) < (n : Int)) = false := by rw [decide_eq_false_iff_not]; omega
      have n6 : decide ((64 : Int) < (m : Int)) = true := by rw [decide_eq_true_eq]; omega
      clear h5 h6
      clear hf1 hf2
      go_enter Try.func27, Try.ntmps27
      go_wp2
      refine bodyPost_ret (results_cell_row rfl _ _ (w.heap.size + 1) 35 #[.bool false, .slice none 0 0, .slice none 0 0, .int .i64 2] (0, 0) _ rfl (heap_alloc2_new _ _ _) Try.underlying35 rfl got7_size) rfl ?_
      exact ⟨none, 0, 0, none, 0, 0, by rw [limQ_no hf.out, limE_no hf.out]; rfl, by rw [limQ_no hf.out]; exact qt_none _ 0 0, below_two (below_new _ _) (below_new _ _)⟩
    · have hf : RowKit.Hid (fitsQ q = true) := by
        show _ = _
        simp only [fitsQ, Bool.and_eq_true, decide_eq_true_eq]
        refine ⟨?_, ?_⟩
        · rcases Nat.lt_or_ge q.num.natAbs (4294967296 ^ 64) with h | h
          · exact h
          · have := lt_length_limbs h; omega
        · rcases Nat.lt_or_ge q.den (4294967296 ^ 64) with h | h
          · exact h
          · have := lt_length_limbs h; omega
      have n5 : decide ((64 : Int) < (n : Int)) = false := by rw [decide_eq_false_iff_not]; omega
      have n6 : decide ((64 : Int) < (m : Int)) = false := by rw [decide_eq_false_iff_not]; omega
      clear h5 h6 hf1 hf2
      go_enter Try.func27, Try.ntmps27
      go_wp2
      refine bodyPost_ret (results_cell_row rfl _ _ (w.heap.size + 1) 35 #[.bool (sg q.num), .slice A n c, .slice B m d, .int .i64 0] (0, 0) _ rfl (heap_alloc2_new _ _ _) Try.underlying35 rfl got7_size) rfl ?_
      exact ⟨A, n, c, B, m, d, by rw [limQ_yes hf.out, limE_yes hf.out]; rfl, by rw [limQ_yes hf.out]; exact qt_some (HX.out.below (below_two (below_new _ _) (below_new _ _))) (HY.out.below (below_two (below_new _ _) (below_new _ _))) hf.out, below_two (below_new _ _) (below_new _ _)⟩

end
set_option maxHeartbeats 4000000 in
set_option maxRecDepth 100000 in
theorem refQWhole_c (v : Int) (h0 : -9223372036854775808 ≤ v) (h1 : v ≤ 9223372036854775807) (w : World) :
    Calls Try.prog 26 #[.int .i64 v] w fun e w' => ∃ A2 n2 c2 B2 m2 d2, e = .returned (.agg #[.bool (sg (oTop (some (v : Rat)))), .slice A2 n2 c2, .slice B2 m2 d2]) ∧ QT w' A2 n2 c2 B2 m2 d2 (some (v : Rat)) ∧ Below w.heap.size w w' := by
  have HW := Lib.hid (below_new w (.cells #[Value.bool false, Value.slice none 0 0, Value.slice none 0 0] 27))
  have HZ := Lib.hid (row3_new w 27 (.bool false) (.slice none 0 0) (.slice none 0 0))
  go_enter Try.func26, Try.ntmps26
  go_wp2_with fail
  refine (refIOf_c v h0 h1 _).mono ?_
  rintro e w2 ⟨A2, n2, c2, rfl, h2, bn⟩
  have bl := below_new w2 (.cells #[Value.int IntKind.u32 1] 62)
  have HL : RowKit.Hid (NN (w2.alloc (.cells #[Value.int IntKind.u32 1] 62)) (some ⟨w2.heap.size, 0, none⟩) 1 1 (limbs 1) 1 1) := by
    show NN _ _ _ _ _ _ _
    have h := lit_c w2 [1] (by intro x hx; simp at hx; omega) 1 rfl
    have e1 : limbs 1 = [1] := by simp [limbs, limbsTo]
    rw [e1]; exact h
  have hZ3 := (HZ.out.below bn).below bl
  have hNo := hZ3.noLimb (by intro v e; cases e) (by intro v e; cases e) (by intro v e; cases e)
  have H2 := Lib.hid (h2.below bl)
  have e0 := hZ3.c0
  have e1 := hZ3.c1
  have e2 := hZ3.c2
  have f0 := hZ3.free 0
  have f1 := hZ3.free 1
  have f2 := hZ3.free 2
  have HF := Lib.hid (hZ3.fill (.bool (sg v)) (.slice A2 n2 c2) (.slice (some ⟨w2.heap.size, 0, none⟩) 1 1))
  have HP1 := Lib.hid (H2.out.fillR3 hNo (.bool (sg v)) (.slice A2 n2 c2) (.slice (some ⟨w2.heap.size, 0, none⟩) 1 1))
  have HP2 := Lib.hid (HL.out.fillR3 hNo (.bool (sg v)) (.slice A2 n2 c2) (.slice (some ⟨w2.heap.size, 0, none⟩) 1 1))
  have HB := Lib.hid (below_fill3' (below_two (below_two HW.out bn) bl) (Nat.le_refl _) (.bool (sg v)) (.slice A2 n2 c2) (.slice (some ⟨w2.heap.size, 0, none⟩) 1 1))
  clear h2 bn bl hZ3 hNo H2 HL
  go_wp2
  refine bodyPost_ret (results_cell_row rfl _ _ w.heap.size 27 #[.bool (sg v), .slice A2 n2 c2, .slice (some ⟨w2.heap.size, 0, none⟩) 1 1] (0, 0) _ rfl HF.out Try.underlying27 rfl rat_size) rfl ?_
  exact ⟨A2, n2, c2, _, 1, 1, rfl, qt_some (q := (v : Rat)) HP1.out HP2.out (whole_fits h0 h1), HB.out⟩

end Go.Proofs.Ytmifgblbicnimaa

/- What the reference of layer 7 answers (Good), as a contract over memory. Conditions: sizes of at most so many limbs. -/
namespace Go.Proofs.Ytmifgblbicnimaa
open Go.RowKit Limb
set_option linter.unusedVariables false
section
variable {w : World} {s s' : Bool} {A B A' B' : Option Addr} {n c m d n' c' m' d' : Nat} {xs ys xs' ys' : List Nat} {x y : Int} {a b L L' : Nat}
set_option maxHeartbeats 40000000 in
set_option maxRecDepth 100000 in
theorem refGood_c {o : Option Rat} (hx : QQ w s A n c xs B m d ys o L) (h1 : L ≤ 9223372036854775807) (v : Bool) (hv : o.isSome = v) :
    Calls Try.prog 16 #[.agg #[.bool s, .slice A n c, .slice B m d]] w fun e w' => e = .returned (.bool v) ∧ Below w.heap.size w w' := by
  have hg := hx.good
  rw [hv] at hg
  have hlx := hx.bot.isN.len
  have hlt := hx.top.nn.isN.len
  have hsx := hx.top.nn.isN.small
  have hsy := hx.bot.isN.small
  have b0 := below_new w (.cells #[Value.bool s, Value.slice A n c, Value.slice B m d] 27)
  have HW := Lib.hid b0
  have HX : RowKit.Hid (NN (w.alloc (.cells #[Value.bool s, Value.slice A n c, Value.slice B m d] 27)) A n c xs (Limb.val xs) L) := by
    have h := hx.top.nn.below b0
    rw [zOf_abs] at h
    exact h
  have HY := Lib.hid (hx.bot.below b0)
  have r0 := row3_new w 27 (.bool s) (.slice A n c) (.slice B m d)
  have c0 := r0.c0
  have c1 := r0.c1
  have c2 := r0.c2
  clear b0 r0 hx hv
  by_cases k1 : xs = limbs (Limb.val xs)
  · by_cases k2 : ys = limbs (Limb.val ys)
    · by_cases k3 : m = 0
      · have hgf : goodV s xs ys = false := by
          rw [Bool.eq_false_iff]
          intro h
          obtain ⟨g1, g2, g3, g4, g5, g6, g7⟩ := goodV_iff.1 h
          exact g3 (by rw [List.eq_nil_of_length_eq_zero (hlx.trans k3)]; rfl)
        obtain rfl : v = false := hg.symm.trans hgf
        clear hg hgf hlx hlt hsx hsy
        have m0 : ((m : Int) == 0) = true := by rw [beq_iff_eq]; omega
        have K1 : RowKit.Hid (decide (xs = limbs (Limb.val xs)) = true) := by show _ = _; simpa using k1
        have K2 : RowKit.Hid (decide (ys = limbs (Limb.val ys)) = true) := by show _ = _; simpa using k2
        clear k1 k2 k3
        go_enter Try.func16, Try.ntmps16
        go_wp2_with fail
        refine (refTrimmed_c HX.out (by omega) true K1.out).mono ?_
        rintro e w2 ⟨rfl, rfl⟩
        go_wp2_with fail
        refine (refTrimmed_c HY.out (by omega) true K2.out).mono ?_
        rintro e w2 ⟨rfl, rfl⟩
        go_wp2
        go_ret
        exact ⟨rfl, HW.out⟩
      · by_cases k4 : s = true ∧ n = 0
        · obtain ⟨k4s, k4n⟩ := k4
          have hgf : goodV s xs ys = false := by
            rw [Bool.eq_false_iff]
            intro h
            obtain ⟨g1, g2, g3, g4, g5, g6, g7⟩ := goodV_iff.1 h
            exact g4 ⟨k4s, by rw [List.eq_nil_of_length_eq_zero (hlt.trans k4n)]; rfl⟩
          obtain rfl : v = false := hg.symm.trans hgf
          clear hg hgf hlx hlt hsx hsy
          have m0 : ((m : Int) == 0) = false := by rw [beq_eq_false_iff_ne]; omega
          have n0 : ((n : Int) == 0) = true := by rw [beq_iff_eq]; omega
          subst k4s
          have K1 : RowKit.Hid (decide (xs = limbs (Limb.val xs)) = true) := by show _ = _; simpa using k1
          have K2 : RowKit.Hid (decide (ys = limbs (Limb.val ys)) = true) := by show _ = _; simpa using k2
          clear k1 k2 k3 k4n
          go_enter Try.func16, Try.ntmps16
          go_wp2_with fail
          refine (refTrimmed_c HX.out (by omega) true K1.out).mono ?_
          rintro e w2 ⟨rfl, rfl⟩
          go_wp2_with fail
          refine (refTrimmed_c HY.out (by omega) true K2.out).mono ?_
          rintro e w2 ⟨rfl, rfl⟩
          go_wp2
          go_ret
          exact ⟨rfl, HW.out⟩
        · by_cases k5 : 64 < n
          · have hgf : goodV s xs ys = false := by
              rw [Bool.eq_false_iff]
              intro h
              obtain ⟨g1, g2, g3, g4, g5, g6, g7⟩ := goodV_iff.1 h
              omega
            obtain rfl : v = false := hg.symm.trans hgf
            clear hg hgf hlx hlt hsx hsy
            have m0 : ((m : Int) == 0) = false := by rw [beq_eq_false_iff_ne]; omega
            by_cases ks : s = true
            · have n0 : ((n : Int) == 0) = false := by
                rw [beq_eq_false_iff_ne]
                have hn0 : n ≠ 0 := fun h => k4 ⟨ks, h⟩
                omega
              subst ks
              have n5 : decide ((64 : Int) < (n : Int)) = true := by rw [decide_eq_true_eq]; omega
              have K1 : RowKit.Hid (decide (xs = limbs (Limb.val xs)) = true) := by show _ = _; simpa using k1
              have K2 : RowKit.Hid (decide (ys = limbs (Limb.val ys)) = true) := by show _ = _; simpa using k2
              clear k1 k2 k3 k4 k5
              go_enter Try.func16, Try.ntmps16
              go_wp2_with fail
              refine (refTrimmed_c HX.out (by omega) true K1.out).mono ?_
              rintro e w2 ⟨rfl, rfl⟩
              go_wp2_with fail
              refine (refTrimmed_c HY.out (by omega) true K2.out).mono ?_
              rintro e w2 ⟨rfl, rfl⟩
              go_wp2
              go_ret
              exact ⟨rfl, HW.out⟩
            · have ks2 : s = false := by simpa using ks
              subst ks2
              have n5 : decide ((64 : Int) < (n : Int)) = true := by rw [decide_eq_true_eq]; omega
              have K1 : RowKit.Hid (decide (xs = limbs (Limb.val xs)) = true) := by show _ = _; simpa using k1
              have K2 : RowKit.Hid (decide (ys = limbs (Limb.val ys)) = true) := by show _ = _; simpa using k2
              clear k1 k2 k3 k4 k5
              go_enter Try.func16, Try.ntmps16
              go_wp2_with fail
              refine (refTrimmed_c HX.out (by omega) true K1.out).mono ?_
              rintro e w2 ⟨rfl, rfl⟩
              go_wp2_with fail
              refine (refTrimmed_c HY.out (by omega) true K2.out).mono ?_
              rintro e w2 ⟨rfl, rfl⟩
              go_wp2
              go_ret
              exact ⟨rfl, HW.out⟩
          · by_cases k6 : 64 < m
            · have hgf : goodV s xs ys = false := by
                rw [Bool.eq_false_iff]
                intro h
                obtain ⟨g1, g2, g3, g4, g5, g6, g7⟩ := goodV_iff.1 h
                omega
              obtain rfl : v = false := hg.symm.trans hgf
              clear hg hgf hlx hlt hsx hsy
              have m0 : ((m : Int) == 0) = false := by rw [beq_eq_false_iff_ne]; omega
              by_cases ks : s = true
              · have n0 : ((n : Int) == 0) = false := by
                  rw [beq_eq_false_iff_ne]
                  have hn0 : n ≠ 0 := fun h => k4 ⟨ks, h⟩
                  omega
                subst ks
                have n5 : decide ((64 : Int) < (n : Int)) = false := by rw [decide_eq_false_iff_not]; omega
                have n6 : decide ((64 : Int) < (m : Int)) = true := by rw [decide_eq_true_eq]; omega
                have K1 : RowKit.Hid (decide (xs = limbs (Limb.val xs)) = true) := by show _ = _; simpa using k1
                have K2 : RowKit.Hid (decide (ys = limbs (Limb.val ys)) = true) := by show _ = _; simpa using k2
                clear k1 k2 k3 k4 k5 k6
                go_enter Try.func16, Try.ntmps16
                go_wp2_with fail
                refine (refTrimmed_c HX.out (by omega) true K1.out).mono ?_
                rintro e w2 ⟨rfl, rfl⟩
                go_wp2_with fail
                refine (refTrimmed_c HY.out (by omega) true K2.out).mono ?_
                rintro e w2 ⟨rfl, rfl⟩
                go_wp2
                go_ret
                exact ⟨rfl, HW.out⟩
              · have ks2 : s = false := by simpa using ks
                subst ks2
                have n5 : decide ((64 : Int) < (n : Int)) = false := by rw [decide_eq_false_iff_not]; omega
                have n6 : decide ((64 : Int) < (m : Int)) = true := by rw [decide_eq_true_eq]; omega
                have K1 : RowKit.Hid (decide (xs = limbs (Limb.val xs)) = true) := by show _ = _; simpa using k1
                have K2 : RowKit.Hid (decide (ys = limbs (Limb.val ys)) = true) := by show _ = _; simpa using k2
                clear k1 k2 k3 k4 k5 k6
                go_enter Try.func16, Try.ntmps16
                go_wp2_with fail
                refine (refTrimmed_c HX.out (by omega) true K1.out).mono ?_
                rintro e w2 ⟨rfl, rfl⟩
                go_wp2_with fail
                refine (refTrimmed_c HY.out (by omega) true K2.out).mono ?_
                rintro e w2 ⟨rfl, rfl⟩
                go_wp2
                go_ret
                exact ⟨rfl, HW.out⟩
            · by_cases hgcd : Nat.gcd (Limb.val xs) (Limb.val ys) = 1
              · have hgt : goodV s xs ys = true := by
                  rw [goodV_iff]
                  refine ⟨k1, k2, ?_, ?_, by omega, by omega, hgcd⟩
                  · intro h; rw [h, limbs_zero] at k2; rw [k2] at hlx; simp at hlx; omega
                  · rintro ⟨h1, h2⟩
                    rw [h2, limbs_zero] at k1; rw [k1] at hlt; simp at hlt
                    exact k4 ⟨h1, by omega⟩
                obtain rfl : v = true := hg.symm.trans hgt
                clear hg hgt
                have m0 : ((m : Int) == 0) = false := by rw [beq_eq_false_iff_ne]; omega
                by_cases ks : s = true
                · have n0 : ((n : Int) == 0) = false := by
                    rw [beq_eq_false_iff_ne]
                    have hn0 : n ≠ 0 := fun h => k4 ⟨ks, h⟩
                    omega
                  subst ks
                  have n5 : decide ((64 : Int) < (n : Int)) = false := by rw [decide_eq_false_iff_not]; omega
                  have n6 : decide ((64 : Int) < (m : Int)) = false := by rw [decide_eq_false_iff_not]; omega
                  have HGC := Lib.hid hgcd
                  have HN : RowKit.Hid (n ≤ 64 ∧ m ≤ 64) := ⟨by omega, by omega⟩
                  have K1 : RowKit.Hid (decide (xs = limbs (Limb.val xs)) = true) := by show _ = _; simpa using k1
                  have K2 : RowKit.Hid (decide (ys = limbs (Limb.val ys)) = true) := by show _ = _; simpa using k2
                  clear k1 k2 k3 k4 k5 k6 hgcd
                  go_enter Try.func16, Try.ntmps16
                  go_wp2_with fail
                  refine (refTrimmed_c HX.out (by omega) true K1.out).mono ?_
                  rintro e w2 ⟨rfl, rfl⟩
                  go_wp2_with fail
                  refine (refTrimmed_c HY.out (by omega) true K2.out).mono ?_
                  rintro e w2 ⟨rfl, rfl⟩
                  go_wp2_with fail
                  refine (refGcd_c (HX.out.short HN.out.1) (HY.out.short HN.out.2) (by decide) (by decide)).mono ?_
                  rintro e w3 ⟨A3, n3, c3, rfl, h3, bn⟩
                  replace HW := Lib.hid (below_two HW.out bn)
                  clear bn c0 c1 c2
                  have hgcd := HGC.out
                  have e1 : gcdN (Limb.val xs) (Limb.val ys) = 1 := hgcd
                  rw [e1] at h3
                  have el : limbs 1 = [1] := by simp [limbs, limbsTo]
                  rw [el] at h3
                  have hn3 := h3.isN.len
                  obtain ⟨g, o, eA, _, hc⟩ := h3.isN.2.2 (by rw [← hn3]; decide)
                  have hc0 := hc 0 (by rw [← hn3]; decide)
                  have n1 : n3 = 1 := by rw [← hn3]; rfl
                  subst n1
                  subst eA
                  have hcc : w3.cell? ⟨g, o, none⟩ = some (.int .u32 1) := hc0
                  clear h3 hn3 hc hc0 e1 el hgcd
                  go_wp2
                  go_ret
                  exact ⟨rfl, HW.out⟩
                · have ks2 : s = false := by simpa using ks
                  subst ks2
                  have n5 : decide ((64 : Int) < (n : Int)) = false := by rw [decide_eq_false_iff_not]; omega
                  have n6 : decide ((64 : Int) < (m : Int)) = false := by rw [decide_eq_false_iff_not]; omega
                  have HGC := Lib.hid hgcd
                  have HN : RowKit.Hid (n ≤ 64 ∧ m ≤ 64) := ⟨by omega, by omega⟩
                  have K1 : RowKit.Hid (decide (xs = limbs (Limb.val xs)) = true) := by show _ = _; simpa using k1
                  have K2 : RowKit.Hid (decide (ys = limbs (Limb.val ys)) = true) := by show _ = _; simpa using k2
                  clear k1 k2 k3 k4 k5 k6 hgcd
                  go_enter Try.func16, Try.ntmps16
                  go_wp2_with fail
                  refine (refTrimmed_c HX.out (by omega) true K1.out).mono ?_
                  rintro e w2 ⟨rfl, rfl⟩
                  go_wp2_with fail
                  refine (refTrimmed_c HY.out (by omega) true K2.out).mono ?_
                  rintro e w2 ⟨rfl, rfl⟩
                  go_wp2_with fail
                  refine (refGcd_c (HX.out.short HN.out.1) (HY.out.short HN.out.2) (by decide) (by decide)).mono ?_
                  rintro e w3 ⟨A3, n3, c3, rfl, h3, bn⟩
                  replace HW := Lib.hid (below_two HW.out bn)
                  clear bn c0 c1 c2
                  have hgcd := HGC.out
                  have e1 : gcdN (Limb.val xs) (Limb.val ys) = 1 := hgcd
                  rw [e1] at h3
                  have el : limbs 1 = [1] := by simp [limbs, limbsTo]
                  rw [el] at h3
                  have hn3 := h3.isN.len
                  obtain ⟨g, o, eA, _, hc⟩ := h3.isN.2.2 (by rw [← hn3]; decide)
                  have hc0 := hc 0 (by rw [← hn3]; decide)
                  have n1 : n3 = 1 := by rw [← hn3]; rfl
                  subst n1
                  subst eA
                  have hcc : w3.cell? ⟨g, o, none⟩ = some (.int .u32 1) := hc0
                  clear h3 hn3 hc hc0 e1 el hgcd
                  go_wp2
                  go_ret
                  exact ⟨rfl, HW.out⟩
              · have hgf : goodV s xs ys = false := by
                  rw [Bool.eq_false_iff]
                  intro h
                  obtain ⟨g1, g2, g3, g4, g5, g6, g7⟩ := goodV_iff.1 h
                  exact hgcd g7
                obtain rfl : v = false := hg.symm.trans hgf
                clear hg hgf hlx hlt hsx hsy
                have m0 : ((m : Int) == 0) = false := by rw [beq_eq_false_iff_ne]; omega
                by_cases ks : s = true
                · have n0 : ((n : Int) == 0) = false := by
                    rw [beq_eq_false_iff_ne]
                    have hn0 : n ≠ 0 := fun h => k4 ⟨ks, h⟩
                    omega
                  subst ks
                  have n5 : decide ((64 : Int) < (n : Int)) = false := by rw [decide_eq_false_iff_not]; omega
                  have n6 : decide ((64 : Int) < (m : Int)) = false := by rw [decide_eq_false_iff_not]; omega
                  have HGC := Lib.hid hgcd
                  have HN : RowKit.Hid (n ≤ 64 ∧ m ≤ 64) := ⟨by omega, by omega⟩
                  have K1 : RowKit.Hid (decide (xs = limbs (Limb.val xs)) = true) := by show _ = _; simpa using k1
                  have K2 : RowKit.Hid (decide (ys = limbs (Limb.val ys)) = true) := by show _ = _; simpa using k2
                  clear k1 k2 k3 k4 k5 k6 hgcd
                  go_enter Try.func16, Try.ntmps16
                  go_wp2_with fail
                  refine (refTrimmed_c HX.out (by omega) true K1.out).mono ?_
                  rintro e w2 ⟨rfl, rfl⟩
                  go_wp2_with fail
                  refine (refTrimmed_c HY.out (by omega) true K2.out).mono ?_
                  rintro e w2 ⟨rfl, rfl⟩
                  go_wp2_with fail
                  refine (refGcd_c (HX.out.short HN.out.1) (HY.out.short HN.out.2) (by decide) (by decide)).mono ?_
                  rintro e w3 ⟨A3, n3, c3, rfl, h3, bn⟩
                  replace HW := Lib.hid (below_two HW.out bn)
                  clear bn c0 c1 c2
                  have hgcd := HGC.out
                  have hn3 := h3.isN.len
                  have hG : gcdN (Limb.val xs) (Limb.val ys) ≠ 1 := hgcd
                  by_cases h31 : n3 = 1
                  · subst h31
                    obtain ⟨g, o, eA, _, hc⟩ := h3.isN.2.2 (by decide)
                    have hc0 := hc 0 (by decide)
                    obtain ⟨u, hu⟩ : ∃ u, lim (limbs (gcdN (Limb.val xs) (Limb.val ys))) 0 = u := ⟨_, rfl⟩
                    have hu1 : u ≠ 1 := by
                      intro e
                      apply hG
                      have hv := h3.val
                      obtain ⟨y, hy⟩ : ∃ y, limbs (gcdN (Limb.val xs) (Limb.val ys)) = [y] := List.length_eq_one_iff.1 hn3
                      rw [hy] at hu hv
                      have hu2 : y = u := hu
                      rw [← hv, hu2, e]; rfl
                    rw [hu] at hc0
                    subst eA
                    have hcc : w3.cell? ⟨g, o, none⟩ = some (.int .u32 (u : Int)) := hc0
                    have hu0 : ((u : Int) == 1) = false := by rw [beq_eq_false_iff_ne]; omega
                    clear h3 hn3 hc hc0 hG hgcd hu hu1
                    go_wp2
                    go_ret
                    exact ⟨rfl, HW.out⟩
                  · have n31 : ((n3 : Int) == 1) = false := by rw [beq_eq_false_iff_ne]; omega
                    clear h3 hn3 hG hgcd h31
                    go_wp2
                    go_ret
                    exact ⟨rfl, HW.out⟩
                · have ks2 : s = false := by simpa using ks
                  subst ks2
                  have n5 : decide ((64 : Int) < (n : Int)) = false := by rw [decide_eq_false_iff_not]; omega
                  have n6 : decide ((64 : Int) < (m : Int)) = false := by rw [decide_eq_false_iff_not]; omega
                  have HGC := Lib.hid hgcd
                  have HN : RowKit.Hid (n ≤ 64 ∧ m ≤ 64) := ⟨by omega, by omega⟩
                  have K1 : RowKit.Hid (decide (xs = limbs (Limb.val xs)) = true) := by show _ = _; simpa using k1
                  have K2 : RowKit.Hid (decide (ys = limbs (Limb.val ys)) = true) := by show _ = _; simpa using k2
                  clear k1 k2 k3 k4 k5 k6 hgcd
                  go_enter Try.func16, Try.ntmps16
                  go_wp2_with fail
                  refine (refTrimmed_c HX.out (by omega) true K1.out).mono ?_
                  rintro e w2 ⟨rfl, rfl⟩
                  go_wp2_with fail
                  refine (refTrimmed_c HY.out (by omega) true K2.out).mono ?_
                  rintro e w2 ⟨rfl, rfl⟩
                  go_wp2_with fail
                  refine (refGcd_c (HX.out.short HN.out.1) (HY.out.short HN.out.2) (by decide) (by decide)).mono ?_
                  rintro e w3 ⟨A3, n3, c3, rfl, h3, bn⟩
                  replace HW := Lib.hid (below_two HW.out bn)
                  clear bn c0 c1 c2
                  have hgcd := HGC.out
                  have hn3 := h3.isN.len
                  have hG : gcdN (Limb.val xs) (Limb.val ys) ≠ 1 := hgcd
                  by_cases h31 : n3 = 1
                  · subst h31
                    obtain ⟨g, o, eA, _, hc⟩ := h3.isN.2.2 (by decide)
                    have hc0 := hc 0 (by decide)
                    obtain ⟨u, hu⟩ : ∃ u, lim (limbs (gcdN (Limb.val xs) (Limb.val ys))) 0 = u := ⟨_, rfl⟩
                    have hu1 : u ≠ 1 := by
                      intro e
                      apply hG
                      have hv := h3.val
                      obtain ⟨y, hy⟩ : ∃ y, limbs (gcdN (Limb.val xs) (Limb.val ys)) = [y] := List.length_eq_one_iff.1 hn3
                      rw [hy] at hu hv
                      have hu2 : y = u := hu
                      rw [← hv, hu2, e]; rfl
                    rw [hu] at hc0
                    subst eA
                    have hcc : w3.cell? ⟨g, o, none⟩ = some (.int .u32 (u : Int)) := hc0
                    have hu0 : ((u : Int) == 1) = false := by rw [beq_eq_false_iff_ne]; omega
                    clear h3 hn3 hc hc0 hG hgcd hu hu1
                    go_wp2
                    go_ret
                    exact ⟨rfl, HW.out⟩
                  · have n31 : ((n3 : Int) == 1) = false := by rw [beq_eq_false_iff_ne]; omega
                    clear h3 hn3 hG hgcd h31
                    go_wp2
                    go_ret
                    exact ⟨rfl, HW.out⟩
    · have hgf : goodV s xs ys = false := by
        rw [Bool.eq_false_iff]
        intro h
        obtain ⟨g1, g2, g3, g4, g5, g6, g7⟩ := goodV_iff.1 h
        exact k2 g2
      obtain rfl : v = false := hg.symm.trans hgf
      clear hg hgf hlx hlt hsx hsy
      have K1 : RowKit.Hid (decide (xs = limbs (Limb.val xs)) = true) := by show _ = _; simpa using k1
      have K2 : RowKit.Hid (decide (ys = limbs (Limb.val ys)) = false) := by show _ = _; simpa using k2
      clear k1 k2
      go_enter Try.func16, Try.ntmps16
      go_wp2_with fail
      refine (refTrimmed_c HX.out (by omega) true K1.out).mono ?_
      rintro e w2 ⟨rfl, rfl⟩
      go_wp2_with fail
      refine (refTrimmed_c HY.out (by omega) false K2.out).mono ?_
      rintro e w2 ⟨rfl, rfl⟩
      go_wp2
      go_ret
      exact ⟨rfl, HW.out⟩
  · have hgf : goodV s xs ys = false := by
      rw [Bool.eq_false_iff]
      intro h
      obtain ⟨g1, g2, g3, g4, g5, g6, g7⟩ := goodV_iff.1 h
      exact k1 g1
    obtain rfl : v = false := hg.symm.trans hgf
    clear hg hgf hlx hlt hsx hsy
    have K1 : RowKit.Hid (decide (xs = limbs (Limb.val xs)) = false) := by show _ = _; simpa using k1
    clear k1
    go_enter Try.func16, Try.ntmps16
    go_wp2_with fail
    refine (refTrimmed_c HX.out (by omega) false K1.out).mono ?_
    rintro e w2 ⟨rfl, rfl⟩
    go_wp2
    go_ret
    exact ⟨rfl, HW.out⟩

end
end Go.Proofs.Ytmifgblbicnimaa
