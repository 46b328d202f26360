/- Part 2 of the texts that the statements of this seat lean on: mathematics, and what functions answer, as contracts over memory; each part says its own conditions. -/
import Derived.Test.YtannifhcjcbkcaaGreatDoorMA1
import Derived.ProofKit
import Derived.OpenShut
import Derived.ShutString
import Derived.ChangeOld
import Derived.Deep.Slices
namespace Go.Proofs.YtannifhcjcbkcaaGreatDoor
open Go.RowKit Limb
set_option linter.unusedVariables false
section
variable {P : Program} {Q : Exit → Act → World → Prop}
def FreeStepS (P : Program) (Q : Exit → Act → World → Prop) (ops : Array Oper) (ds : List (Option Tmp)) (aF : (Nat → Value) → Act) (R : Nat → World → World → Prop) (S : (Nat → Bool) → World → Prop) (Φ : Nat → Value → World → Prop) (i : Nat) (o : Oper) : Prop :=
 ∀ (vals : Nat → Value) (w : World) (l : Nat → Bool), l i = false → S l w → (∀ e ∈ afters ops i, Φ e (vals e) w) → ∀ K : Act → World → Prop,
  (∀ a' w', a'.defers = (aF vals).defers → R i w w' → Φ i (slotV (dAt ds i) a') w' → K a' w') → o.wp P (aF vals) w K Q
theorem region_freeS {id : Nat} {a : Act} {w : World} {os : List Oper} (m r : Nat) (ds : List (Option Tmp)) (aF : (Nat → Value) → Act) (R : Nat → World → World → Prop) (S : (Nat → Bool) → World → Prop) (Φ : Nat → Value → World → Prop)
 (hm : P.follows .mixedOrders = true)
 (haF : ∀ vals, fillAll (dAt ds) vals a m = aF vals)
 (hr : os.length = m + r)
 (hok : (List.range m).all (okAtR os.toArray m ds a.tmps.size) = true)
 (hend : (List.range os.length).all (fun i => decide (i < m) || (List.range m).all fun k => (anc os.toArray 3 i).contains k) = true)
 (hQ : ∀ c (t t' : Array Value) (d : List Deferred) w, Q (.panic c) ⟨t, d⟩ w → Q (.panic c) ⟨t', d⟩ w)
 (hSb : ∀ i (l : Nat → Bool) w w', i < m → l i = false → R i w w' → S l w → S (fun k => if k = i then true else l k) w')
 (hΦb : ∀ i k v w w', i < m → i ≠ k → R i w w' → Φ k v w → Φ k v w')
 (hS : S (fun _ => false) w.drew)
 (hop : AllAt (FreeStepS P Q os.toArray ds aF R S Φ) 0 os m)
 (hfin : ∀ (vals : Nat → Value) (w : World) (l : Nat → Bool), (∀ k, k < m → l k = true) → S l w → (∀ k, k < m → Φ k (vals k) w) → wpAny P .any os.toArray Q r (firsts (m + r) m) (aF vals) w) :
 (Code.region id os.toArray true).wp P Q a w := by
 generalize hops : os.toArray = ops at *
 have hsz0 : ops.size = m + r := by rw [← hops]; simpa using hr
 replace hend : (List.range ops.size).all (fun i => decide (i < m) || (List.range m).all fun k => (anc ops 3 i).contains k) = true := by rw [hsz0, ← hr]; exact hend
 have hle : m ≤ ops.size := by omega
 replace hop : ∀ i, i < m → ∀ o, ops[i]? = some o → FreeStepS P Q ops ds aF R S Φ i o := fun i hi o ho => by
  have := hop.at i hi o (by rw [← hops] at ho; simpa using ho)
  rwa [Nat.zero_add] at this
 replace hfin : ∀ (vals : Nat → Value) (w : World) (z : Nat → Bool), (∀ k, k < m → z k = true) → S z w → (∀ k, k < m → Φ k (vals k) w) →
  ∀ l : Array Bool, l.size = ops.size → (∀ k, l.getD k false = decide (k < m)) → wpAny P .any ops Q (ops.size - m) l (aF vals) w := fun vals w z h0 h1 h2 l h4 h5 => by
  rw [firsts_eq (h4.trans hsz0) (by omega) h5, show ops.size - m = r by omega]
  exact hfin vals w z h0 h1 h2
 replace hQ : ∀ c (a a' : Act) w, a.defers = a'.defers → Q (.panic c) a w → Q (.panic c) a' w := by
  rintro c ⟨t, d⟩ ⟨t', d'⟩ w he h
  obtain rfl : d = d' := he
  exact hQ c t t' d w h
 refine wp_region_any hm ?_
 have hat : ∀ i, i < m → okAtR ops m ds a.tmps.size i = true := fun i hi => List.all_eq_true.1 hok i (List.mem_range.2 hi)
 have hlate : ∀ i, m ≤ i → i < ops.size → ∀ k, k < m → k ∈ anc ops 3 i := fun i h1 h2 k hk => by
  have := List.all_eq_true.1 hend i (List.mem_range.2 h2)
  simp only [Bool.or_eq_true, decide_eq_true_eq, List.all_eq_true, List.mem_range, List.contains_iff_mem] at this
  exact (this.resolve_left (by omega)) k hk
 have hfr : ∀ (l : Array Bool), l = Array.replicate ops.size false → ∀ k, l.getD k false = false := by
  rintro l rfl k
  simp only [Array.getD_eq_getD_getElem?, Array.getElem?_replicate]
  split <;> rfl
 let J : Array Bool → Act → World → Prop := fun l a' w' => (l.size = ops.size ∧ ∀ k, m ≤ k → l.getD k false = false) ∧ S (fun k => l.getD k false) w' ∧ (∀ k, k < m → l.getD k false = true → ∀ e ∈ afters ops k, l.getD e false = true) ∧
  ∃ vals, a' = fill (dAt ds) vals l a m ∧ (∀ k, k < m → l.getD k false = true → Φ k (vals k) w')
 have hdown : ∀ l a' w', J l a' w' → ∀ k, l.getD k false = true → ∀ e ∈ afters ops k, l.getD e false = true := fun l a' w' hj k hk => by
  rcases Nat.lt_or_ge k m with h1 | h1
  · exact hj.2.2.1 k h1 hk
  · rw [hj.1.2 k h1] at hk
    cases hk
 have hz : ∀ j, j ≤ m → left (Array.replicate ops.size false) j = j := fun j => by
  induction j with
  | zero => exact fun _ => rfl
  | succ j ihj => exact fun h => by unfold left; rw [ihj (by omega), hfr _ rfl j]; rfl
 have key := wpAny_inv (P := P) (ops := ops) (Q := Q) (md := .any) m J (fun l a' w' hj => hj.1) hle (fun i o h1 ho e he hb => ?hback) (fun l a' w' i hj hi h1 => ?hstep) (fun l a' w' i hj hi h1 k hk => ?hwait) (fun l a' w' hj hall => ?hfin)
  m (Array.replicate ops.size false) a w.drew (hz m (Nat.le_refl _)) ⟨⟨by simp, fun k _ => hfr _ rfl k⟩, (by rw [show (fun k => (Array.replicate ops.size false).getD k false) = fun _ => false from funext fun k => hfr _ rfl k]; exact hS), fun k _ h => (by rw [hfr _ rfl k] at h; cases h),
   fun _ => undef, (fill_none fun k _ => hfr _ rfl k).symm, fun k _ h => (by rw [hfr _ rfl k] at h; cases h)⟩
 · have e : ops.size - m + m = ops.size := by omega
   rw [e] at key
   exact key
 case hback =>
  obtain ⟨_, _, _, _, _, _, hlow, _, _⟩ := okAtR_spec (hat i h1)
  refine hlow e.on ?_
  unfold afters
  rw [ho]
  exact List.mem_map.2 ⟨e, List.mem_filter.2 ⟨by simpa using he, hb⟩, rfl⟩
 case hwait =>
  have hlt : i < ops.size := by
   obtain ⟨_, o, ho, _⟩ := mem_ready.1 hi
   exact (Array.getElem?_eq_some_iff.1 ho).1
  exact anc_up (hdown l a' w' hj) 3 i (fun e he => ready_after hi he) k (hlate i h1 hlt k hk)
 case hfin =>
  obtain ⟨⟨hs, hl⟩, hSw, _, vals, rfl, hv⟩ := hj
  rw [fill_all hall, haF]
  refine hfin vals w' _ hall hSw (fun k hk => hv k hk (hall k hk)) l hs fun k => ?_
  rcases Nat.lt_or_ge k m with h | h
  · rw [hall k h, decide_eq_true h]
  · rw [hl k h, decide_eq_false (by omega)]
 case hstep =>
  obtain ⟨⟨hs, hl⟩, hSw, hdn, vals, rfl, hv⟩ := hj
  obtain ⟨o, ho, hdst, hlt, hg, hsel, hlow, hdist, hops⟩ := okAtR_spec (hat i h1)
  have hu : l.getD i false = false := by
   have h2 := (mem_ready.1 hi).1
   have h3 : i < l.size := by omega
   simp only [Array.getD_eq_getD_getElem?] at h2 ⊢
   rw [Array.getElem?_eq_getElem h3] at h2 ⊢
   simpa using h2
  have hdep : ∀ e ∈ afters ops i, l.getD e false = true := fun e he => ready_after hi he
  have heval : ∀ x ∈ o.op.operands, (fill (dAt ds) vals l a m).eval x = (aF vals).eval x := fun x hx => by
   rw [← haF vals]
   exact fill_eval fun k hk hk2 d hd hxd => by
    rw [hdep k (hops x hx d hxd k hk hd)] at hk2
    cases hk2
  have hrun := hop i h1 o ho vals w' _ hu hSw (fun e he => hv e (by have := hlow e he; omega) (hdep e he))
   (fun a2 w2 => a2.defers = (aF vals).defers ∧ R i w' w2 ∧ Φ i (slotV (dAt ds i) a2) w2)
   (fun a2 w2 h1 h2 h3 => ⟨h1, h2, h3⟩)
  have next : ∀ v v' w2, R i w' w2 → Φ i v w2 → (dAt ds i ≠ none → v = v') →
   J (l.setIfInBounds i true) ((fill (dAt ds) vals l a m).put o.dst v') w2 := fun v v' w2 hb hphi hvv => by
   have hne : ∀ k, k ≠ i → (l.setIfInBounds i true).getD k false = l.getD k false := fun k hk => getD_other (Ne.symm hk) _
   refine ⟨⟨by simpa using hs, fun k hk => by rw [hne k (by omega)]; exact hl k hk⟩, (by
    have h9 := hSb i _ _ _ h1 hu hb hSw
    have e9 : (fun k => if k = i then true else l.getD k false) = fun k => (l.setIfInBounds i true).getD k false := funext fun k => by
     by_cases hk : k = i
     · subst hk; rw [if_pos rfl, getD_same (by omega)]
     · rw [if_neg hk, hne k hk]
    rw [← e9]; exact h9), fun k hk hk2 e he => ?_, upd vals i v, ?_, fun k hk hk2 => ?_⟩
   · by_cases hki : k = i
     · subst hki
       rw [hne e (by have := hlow e he; omega)]
       exact hdep e he
     · rw [hne k hki] at hk2
       by_cases hei : e = i
       · subst hei
         exact getD_same (by omega) _
       · rw [hne e hei]
         exact hdn k hk hk2 e he
   · rw [hdst]
     have h4 := fill_set (D := dAt ds) (vals := vals) (l := l) (a := a) (i := i) (v := v) (by omega) hu h1 fun j hj hji d hd hdi2 => hdist j hj hji d hdi2 hd
     rw [← h4]
     cases hd : dAt ds i with
     | none => rfl
     | some d => rw [hvv (by rw [hd]; simp)]
   · by_cases hki : k = i
     · subst hki
       rw [show upd vals k v k = v from if_pos rfl]
       exact hphi
     · rw [hne k hki] at hk2
       rw [show upd vals i v k = vals k from if_neg hki]
       exact hΦb i _ _ _ _ h1 (Ne.symm hki) hb (hv k hk hk2)
  unfold wpOp
  rw [ho]
  simp only []
  rw [if_pos (by unfold Region.wanted; rw [hg])]
  refine .inl ?_
  unfold Oper.wp at hrun ⊢
  rw [execOp_congr o hsel heval]
  generalize (execOp (aF vals).eval o).run P w' = r at hrun ⊢
  have hdef : (aF vals).defers = (fill (dAt ds) vals l a m).defers := by rw [← haF vals, fillAll_defers, fill_defers]
  have hput : ∀ v, dAt ds i ≠ none → slotV (dAt ds i) ((aF vals).put o.dst v) = v := fun v hd => by
   rw [hdst]
   cases hq : dAt ds i with
   | none => exact absurd hq hd
   | some d => exact put_same _ _ _ (by rw [← haF vals, fillAll_size]; exact hlt d hq)
  cases r with
  | ok n w2 =>
   cases n <;> simp only [Oper.upon] at hrun ⊢
   case value v => exact next _ _ _ hrun.2.1 hrun.2.2 (hput v)
   case skip => exact next _ _ _ hrun.2.1 hrun.2.2 (hput _)
   case defer d =>
    exfalso
    have := hrun.1
    rw [put_defers2] at this
    have := congrArg List.length this
    simp at this
   case enter f args =>
    refine Calls.mono hrun fun e w3 he => ?_
    cases e with
    | returned v => simp only at he ⊢; exact next _ _ _ he.2.1 he.2.2 (hput v)
    | panicked c => exact hQ _ _ _ _ hdef he
    | outgrown => exact he
   case row r args =>
    refine Rows.mono hrun fun v w3 he => ?_
    exact next _ _ _ he.2.1 he.2.2 (hput v)
  | halt x w2 =>
   cases x <;> simp only [Oper.upon] at hrun ⊢ <;> exact hQ _ _ _ _ hdef hrun
end
end Go.Proofs.YtannifhcjcbkcaaGreatDoor

namespace Go.Proofs.YtannifhcjcbkcaaGreatDoor
open Go.RowKit Limb
set_option linter.unusedVariables false
section
variable {P : Program} {Q : Exit → Act → World → Prop}
theorem region_freeT {id : Nat} {a : Act} {w : World} {os : List Oper} (m r D : Nat) (ds : List (Option Tmp)) (aF : (Nat → Value) → Act) (R : Nat → World → World → Prop) (S : (Nat → Bool) → World → Prop) (Φ : Nat → Value → World → Prop)
 (hm : P.follows .mixedOrders = true)
 (haF : ∀ vals, fillAll (dAt ds) vals a m = aF vals)
 (hr : os.length = m + r)
 (hok : (List.range m).all (okAtR os.toArray m ds a.tmps.size) = true)
 (hend : (List.range os.length).all (fun i => decide (i < m) || (List.range m).all fun k => (anc os.toArray D i).contains k) = true)
 (hQ : ∀ c (t t' : Array Value) (d : List Deferred) w, Q (.panic c) ⟨t, d⟩ w → Q (.panic c) ⟨t', d⟩ w)
 (hSb : ∀ i (l : Nat → Bool) w w', i < m → l i = false → R i w w' → S l w → S (fun k => if k = i then true else l k) w')
 (hΦb : ∀ i k v w w', i < m → i ≠ k → R i w w' → Φ k v w → Φ k v w')
 (hS : S (fun _ => false) w.drew)
 (hop : AllAt (FreeStepS P Q os.toArray ds aF R S Φ) 0 os m)
 (hfin : ∀ (vals : Nat → Value) (w : World) (l : Nat → Bool), (∀ k, k < m → l k = true) → S l w → (∀ k, k < m → Φ k (vals k) w) → wpAny P .any os.toArray Q r (firsts (m + r) m) (aF vals) w) :
 (Code.region id os.toArray true).wp P Q a w := by
 generalize hops : os.toArray = ops at *
 have hsz0 : ops.size = m + r := by rw [← hops]; simpa using hr
 replace hend : (List.range ops.size).all (fun i => decide (i < m) || (List.range m).all fun k => (anc ops D i).contains k) = true := by rw [hsz0, ← hr]; exact hend
 have hle : m ≤ ops.size := by omega
 replace hop : ∀ i, i < m → ∀ o, ops[i]? = some o → FreeStepS P Q ops ds aF R S Φ i o := fun i hi o ho => by
  have := hop.at i hi o (by rw [← hops] at ho; simpa using ho)
  rwa [Nat.zero_add] at this
 replace hfin : ∀ (vals : Nat → Value) (w : World) (z : Nat → Bool), (∀ k, k < m → z k = true) → S z w → (∀ k, k < m → Φ k (vals k) w) →
  ∀ l : Array Bool, l.size = ops.size → (∀ k, l.getD k false = decide (k < m)) → wpAny P .any ops Q (ops.size - m) l (aF vals) w := fun vals w z h0 h1 h2 l h4 h5 => by
  rw [firsts_eq (h4.trans hsz0) (by omega) h5, show ops.size - m = r by omega]
  exact hfin vals w z h0 h1 h2
 replace hQ : ∀ c (a a' : Act) w, a.defers = a'.defers → Q (.panic c) a w → Q (.panic c) a' w := by
  rintro c ⟨t, d⟩ ⟨t', d'⟩ w he h
  obtain rfl : d = d' := he
  exact hQ c t t' d w h
 refine wp_region_any hm ?_
 have hat : ∀ i, i < m → okAtR ops m ds a.tmps.size i = true := fun i hi => List.all_eq_true.1 hok i (List.mem_range.2 hi)
 have hlate : ∀ i, m ≤ i → i < ops.size → ∀ k, k < m → k ∈ anc ops D i := fun i h1 h2 k hk => by
  have := List.all_eq_true.1 hend i (List.mem_range.2 h2)
  simp only [Bool.or_eq_true, decide_eq_true_eq, List.all_eq_true, List.mem_range, List.contains_iff_mem] at this
  exact (this.resolve_left (by omega)) k hk
 have hfr : ∀ (l : Array Bool), l = Array.replicate ops.size false → ∀ k, l.getD k false = false := by
  rintro l rfl k
  simp only [Array.getD_eq_getD_getElem?, Array.getElem?_replicate]
  split <;> rfl
 let J : Array Bool → Act → World → Prop := fun l a' w' => (l.size = ops.size ∧ ∀ k, m ≤ k → l.getD k false = false) ∧ S (fun k => l.getD k false) w' ∧ (∀ k, k < m → l.getD k false = true → ∀ e ∈ afters ops k, l.getD e false = true) ∧
  ∃ vals, a' = fill (dAt ds) vals l a m ∧ (∀ k, k < m → l.getD k false = true → Φ k (vals k) w')
 have hdown : ∀ l a' w', J l a' w' → ∀ k, l.getD k false = true → ∀ e ∈ afters ops k, l.getD e false = true := fun l a' w' hj k hk => by
  rcases Nat.lt_or_ge k m with h1 | h1
  · exact hj.2.2.1 k h1 hk
  · rw [hj.1.2 k h1] at hk
    cases hk
 have hz : ∀ j, j ≤ m → left (Array.replicate ops.size false) j = j := fun j => by
  induction j with
  | zero => exact fun _ => rfl
  | succ j ihj => exact fun h => by unfold left; rw [ihj (by omega), hfr _ rfl j]; rfl
 have key := wpAny_inv (P := P) (ops := ops) (Q := Q) (md := .any) m J (fun l a' w' hj => hj.1) hle (fun i o h1 ho e he hb => ?hback) (fun l a' w' i hj hi h1 => ?hstep) (fun l a' w' i hj hi h1 k hk => ?hwait) (fun l a' w' hj hall => ?hfin)
  m (Array.replicate ops.size false) a w.drew (hz m (Nat.le_refl _)) ⟨⟨by simp, fun k _ => hfr _ rfl k⟩, (by rw [show (fun k => (Array.replicate ops.size false).getD k false) = fun _ => false from funext fun k => hfr _ rfl k]; exact hS), fun k _ h => (by rw [hfr _ rfl k] at h; cases h),
   fun _ => undef, (fill_none fun k _ => hfr _ rfl k).symm, fun k _ h => (by rw [hfr _ rfl k] at h; cases h)⟩
 · have e : ops.size - m + m = ops.size := by omega
   rw [e] at key
   exact key
 case hback =>
  obtain ⟨_, _, _, _, _, _, hlow, _, _⟩ := okAtR_spec (hat i h1)
  refine hlow e.on ?_
  unfold afters
  rw [ho]
  exact List.mem_map.2 ⟨e, List.mem_filter.2 ⟨by simpa using he, hb⟩, rfl⟩
 case hwait =>
  have hlt : i < ops.size := by
   obtain ⟨_, o, ho, _⟩ := mem_ready.1 hi
   exact (Array.getElem?_eq_some_iff.1 ho).1
  exact anc_up (hdown l a' w' hj) D i (fun e he => ready_after hi he) k (hlate i h1 hlt k hk)
 case hfin =>
  obtain ⟨⟨hs, hl⟩, hSw, _, vals, rfl, hv⟩ := hj
  rw [fill_all hall, haF]
  refine hfin vals w' _ hall hSw (fun k hk => hv k hk (hall k hk)) l hs fun k => ?_
  rcases Nat.lt_or_ge k m with h | h
  · rw [hall k h, decide_eq_true h]
  · rw [hl k h, decide_eq_false (by omega)]
 case hstep =>
  obtain ⟨⟨hs, hl⟩, hSw, hdn, vals, rfl, hv⟩ := hj
  obtain ⟨o, ho, hdst, hlt, hg, hsel, hlow, hdist, hops⟩ := okAtR_spec (hat i h1)
  have hu : l.getD i false = false := by
   have h2 := (mem_ready.1 hi).1
   have h3 : i < l.size := by omega
   simp only [Array.getD_eq_getD_getElem?] at h2 ⊢
   rw [Array.getElem?_eq_getElem h3] at h2 ⊢
   simpa using h2
  have hdep : ∀ e ∈ afters ops i, l.getD e false = true := fun e he => ready_after hi he
  have heval : ∀ x ∈ o.op.operands, (fill (dAt ds) vals l a m).eval x = (aF vals).eval x := fun x hx => by
   rw [← haF vals]
   exact fill_eval fun k hk hk2 d hd hxd => by
    rw [hdep k (hops x hx d hxd k hk hd)] at hk2
    cases hk2
  have hrun := hop i h1 o ho vals w' _ hu hSw (fun e he => hv e (by have := hlow e he; omega) (hdep e he))
   (fun a2 w2 => a2.defers = (aF vals).defers ∧ R i w' w2 ∧ Φ i (slotV (dAt ds i) a2) w2)
   (fun a2 w2 h1 h2 h3 => ⟨h1, h2, h3⟩)
  have next : ∀ v v' w2, R i w' w2 → Φ i v w2 → (dAt ds i ≠ none → v = v') →
   J (l.setIfInBounds i true) ((fill (dAt ds) vals l a m).put o.dst v') w2 := fun v v' w2 hb hphi hvv => by
   have hne : ∀ k, k ≠ i → (l.setIfInBounds i true).getD k false = l.getD k false := fun k hk => getD_other (Ne.symm hk) _
   refine ⟨⟨by simpa using hs, fun k hk => by rw [hne k (by omega)]; exact hl k hk⟩, (by
    have h9 := hSb i _ _ _ h1 hu hb hSw
    have e9 : (fun k => if k = i then true else l.getD k false) = fun k => (l.setIfInBounds i true).getD k false := funext fun k => by
     by_cases hk : k = i
     · subst hk; rw [if_pos rfl, getD_same (by omega)]
     · rw [if_neg hk, hne k hk]
    rw [← e9]; exact h9), fun k hk hk2 e he => ?_, upd vals i v, ?_, fun k hk hk2 => ?_⟩
   · by_cases hki : k = i
     · subst hki
       rw [hne e (by have := hlow e he; omega)]
       exact hdep e he
     · rw [hne k hki] at hk2
       by_cases hei : e = i
       · subst hei
         exact getD_same (by omega) _
       · rw [hne e hei]
         exact hdn k hk hk2 e he
   · rw [hdst]
     have h4 := fill_set (D := dAt ds) (vals := vals) (l := l) (a := a) (i := i) (v := v) (by omega) hu h1 fun j hj hji d hd hdi2 => hdist j hj hji d hdi2 hd
     rw [← h4]
     cases hd : dAt ds i with
     | none => rfl
     | some d => rw [hvv (by rw [hd]; simp)]
   · by_cases hki : k = i
     · subst hki
       rw [show upd vals k v k = v from if_pos rfl]
       exact hphi
     · rw [hne k hki] at hk2
       rw [show upd vals i v k = vals k from if_neg hki]
       exact hΦb i _ _ _ _ h1 (Ne.symm hki) hb (hv k hk hk2)
  unfold wpOp
  rw [ho]
  simp only []
  rw [if_pos (by unfold Region.wanted; rw [hg])]
  refine .inl ?_
  unfold Oper.wp at hrun ⊢
  rw [execOp_congr o hsel heval]
  generalize (execOp (aF vals).eval o).run P w' = r at hrun ⊢
  have hdef : (aF vals).defers = (fill (dAt ds) vals l a m).defers := by rw [← haF vals, fillAll_defers, fill_defers]
  have hput : ∀ v, dAt ds i ≠ none → slotV (dAt ds i) ((aF vals).put o.dst v) = v := fun v hd => by
   rw [hdst]
   cases hq : dAt ds i with
   | none => exact absurd hq hd
   | some d => exact put_same _ _ _ (by rw [← haF vals, fillAll_size]; exact hlt d hq)
  cases r with
  | ok n w2 =>
   cases n <;> simp only [Oper.upon] at hrun ⊢
   case value v => exact next _ _ _ hrun.2.1 hrun.2.2 (hput v)
   case skip => exact next _ _ _ hrun.2.1 hrun.2.2 (hput _)
   case defer d =>
    exfalso
    have := hrun.1
    rw [put_defers2] at this
    have := congrArg List.length this
    simp at this
   case enter f args =>
    refine Calls.mono hrun fun e w3 he => ?_
    cases e with
    | returned v => simp only at he ⊢; exact next _ _ _ he.2.1 he.2.2 (hput v)
    | panicked c => exact hQ _ _ _ _ hdef he
    | outgrown => exact he
   case row r args =>
    refine Rows.mono hrun fun v w3 he => ?_
    exact next _ _ _ he.2.1 he.2.2 (hput v)
  | halt x w2 =>
   cases x <;> simp only [Oper.upon] at hrun ⊢ <;> exact hQ _ _ _ _ hdef hrun
end
end Go.Proofs.YtannifhcjcbkcaaGreatDoor

namespace Go.Proofs.YtannifhcjcbkcaaGreatDoor
open Go.ChangeShapes Go.WideShapes Go.ChangeAt Go.RowKit Limb
set_option linter.unusedVariables false
theorem own : ownKnob Tryz.prog.godebug = none := by kernel_rfl
theorem laidOut : laidOutB Tryz.prog = true := by kernel_rfl
theorem places_lt {H : Type} {enc : TypeId × Value → H} {W : World} {base : Nat} {sp : Nat → Bool} {held : Bool} {t : TypeId} {v : Value} {d : DataW H} {p : List MemPlace} (h : DataW.Trod enc Tryz.prog W base sp held t v d p) : ∀ x ∈ p, x.block < W.heap.size := by
 obtain ⟨m, hm⟩ := h; exact DataW.trod_lt m _ _ _ hm
end Go.Proofs.YtannifhcjcbkcaaGreatDoor

namespace Go.Proofs.YtannifhcjcbkcaaGreatDoor
open Go.ChangeShapes Go.WideShapes Go.ChangeAt Go.RowKit Limb
set_option linter.unusedVariables false
theorem cellsNd : Tryz.prog.cellsOf 51 = 7 := by kernel_rfl
theorem cellsI1 : Tryz.prog.cellsOf 3 = 1 := by kernel_rfl
theorem cellsS1 : Tryz.prog.cellsOf 9 = 1 := by kernel_rfl
section
variable {H : Type} {enc : TypeId × Value → H} {W : World} {sp : Nat → Bool} {held : Bool} {m : Nat} {x : DataW H × List MemPlace}
set_option maxRecDepth 10000 in
/-- The seven cells of a node. -/
theorem node_cells {cs : List Value} (hl : cs.length = 7) (h : DataW.trod enc Tryz.prog W 0 sp held m 51 cs = some x) : ∃ y : Nd, cs = (ndV y).toList := by
 obtain ⟨xs, m, rfl, hx, hlen, hxl, hel⟩ := DataW.trod_struct Tryz.underlying51 h
 match cs, hl with
 | [c0, c1, c2, c3, c4, c5, c6], _ =>
  have h0 : DataW.trod enc Tryz.prog W 0 sp held m 3 ((([c0, c1, c2, c3, c4, c5, c6] : List Value).drop 0).take (Tryz.prog.cellsOf 3)) = xs[0]? := hel 0 _ rfl
  have h1 : DataW.trod enc Tryz.prog W 0 sp held m 3 ((([c0, c1, c2, c3, c4, c5, c6] : List Value).drop 1).take (Tryz.prog.cellsOf 3)) = xs[1]? := hel 1 _ rfl
  have h2 : DataW.trod enc Tryz.prog W 0 sp held m 3 ((([c0, c1, c2, c3, c4, c5, c6] : List Value).drop 2).take (Tryz.prog.cellsOf 3)) = xs[2]? := hel 2 _ rfl
  have h3 : DataW.trod enc Tryz.prog W 0 sp held m 3 ((([c0, c1, c2, c3, c4, c5, c6] : List Value).drop 3).take (Tryz.prog.cellsOf 3)) = xs[3]? := hel 3 _ rfl
  have h4 : DataW.trod enc Tryz.prog W 0 sp held m 9 ((([c0, c1, c2, c3, c4, c5, c6] : List Value).drop 4).take (Tryz.prog.cellsOf 9)) = xs[4]? := hel 4 _ rfl
  have h5 : DataW.trod enc Tryz.prog W 0 sp held m 9 ((([c0, c1, c2, c3, c4, c5, c6] : List Value).drop 5).take (Tryz.prog.cellsOf 9)) = xs[5]? := hel 5 _ rfl
  have h6 : DataW.trod enc Tryz.prog W 0 sp held m 3 ((([c0, c1, c2, c3, c4, c5, c6] : List Value).drop 6).take (Tryz.prog.cellsOf 3)) = xs[6]? := hel 6 _ rfl
  have hxl7 : xs.length = 7 := by simpa using hxl
  rw [cellsI1] at h0 h1 h2 h3 h6
  rw [cellsS1] at h4 h5
  rw [List.getElem?_eq_getElem (by omega)] at h0 h1 h2 h3 h4 h5 h6
  obtain ⟨v0, e0, _⟩ := DataW.trod_int Tryz.underlying3 h0
  obtain ⟨v1, e1, _⟩ := DataW.trod_int Tryz.underlying3 h1
  obtain ⟨v2, e2, _⟩ := DataW.trod_int Tryz.underlying3 h2
  obtain ⟨v3, e3, _⟩ := DataW.trod_int Tryz.underlying3 h3
  obtain ⟨v4, e4, _⟩ := DataW.trod_string Tryz.underlying9 h4
  obtain ⟨v5, e5, _⟩ := DataW.trod_string Tryz.underlying9 h5
  obtain ⟨v6, e6, _⟩ := DataW.trod_int Tryz.underlying3 h6
  simp at e0 e1 e2 e3 e4 e5 e6
  subst e0 e1 e2 e3 e4 e5 e6
  exact ⟨⟨v0, v1, v2, v3, v4, v5, v6⟩, rfl⟩
end
theorem open_tree {H : Type} {enc : TypeId × Value → H} {W : World} {sp : Nat → Bool} {held : Bool} {a : Option Addr} {n c : Nat} {d : DataW H} {p : List MemPlace}
 (h : DataW.Trod enc Tryz.prog W 0 sp held 33 (.slice a n c) d p) : ∃ ts, TreR W a n c ts := by
 obtain ⟨fuel, hf⟩ := h
 rcases Go.Deep.open_slice Tryz.underlying33 hf with ⟨hcs, _⟩ | ⟨x, l, k, m, q, D, Pl, hcs, _, hl, hm, hmm, _, hx⟩
 · simp [Value.cells] at hcs
   obtain ⟨rfl, rfl, rfl⟩ := hcs
   exact ⟨[], TreR.nil _ (Nat.zero_le _)⟩
 · simp [Value.cells] at hcs
   obtain ⟨rfl, rfl, rfl⟩ := hcs
   have hnm : n ≤ m := by rw [hmm]; split <;> omega
   have each : ∀ i, i < n → ∃ y : Nd, ∀ j v, (ndV y)[j]? = some v → W.cell? ((x.add (i * 7)).add j) = some v := by
    intro i hi
    obtain ⟨cs, h1, h2⟩ := hx i (by omega)
    rw [cellsNd] at h1
    obtain ⟨_, hlen, hcell⟩ := World.cells?_some h1
    obtain ⟨y, hy⟩ := node_cells hlen h2
    refine ⟨y, fun j v hj => ?_⟩
    subst hy
    have hj7 : j < 7 := by
     rcases Nat.lt_or_ge j 7 with h9 | h9
     · exact h9
     · rw [Array.getElem?_eq_none (by rw [size_ndV]; exact h9)] at hj; cases hj
    have h3 := hcell j hj7
    rw [h3]
    simpa using hj
   have key : ∀ k, k ≤ n → ∃ ts : List Nd, ts.length = k ∧ ∀ i y, ts[i]? = some y → ∀ j v, (ndV y)[j]? = some v → W.cell? ((x.add (i * 7)).add j) = some v := by
    intro k
    induction k with
    | zero => intro _; exact ⟨[], rfl, fun i y hy => by simp at hy⟩
    | succ k ih =>
     intro hk
     obtain ⟨ts, h1, h2⟩ := ih (by omega)
     obtain ⟨y, hy⟩ := each k (by omega)
     refine ⟨ts ++ [y], by rw [List.length_append, h1]; rfl, fun i z hz => ?_⟩
     rcases Nat.lt_or_ge i k with h3 | h3
     · rw [List.getElem?_append_left (by omega)] at hz
       exact h2 i z hz
     · have hi : i = k := by
        have := (List.getElem?_eq_some_iff.1 hz).1
        rw [List.length_append, h1] at this
        simp at this
        omega
       subst hi
       rw [List.getElem?_append_right (by omega), h1, Nat.sub_self] at hz
       cases hz
       exact hy
   obtain ⟨ts, h1, h2⟩ := key n (Nat.le_refl _)
   refine ⟨ts, h1.symm, hl, hm, fun h0 => ?_⟩
   obtain ⟨b, o, spot⟩ := x
   obtain ⟨y, hy⟩ : ∃ y, ts[0]? = some y := ⟨_, List.getElem?_eq_getElem (by omega)⟩
   have h00 := h2 0 y hy 0 (.int .i64 y.k) rfl
   have hs : spot = none := by
    have e : ((⟨b, o, spot⟩ : Addr).add (0 * 7)).add 0 = ⟨b, o, spot⟩ := by simp [Addr.add]
    rw [e] at h00
    exact World.cell?_spot h00
   subst hs
   refine ⟨b, o, rfl, ?_, fun i z hz j v hj => ?_⟩
   · have e : ((⟨b, o, none⟩ : Addr).add (0 * 7)).add 0 = ⟨b, o, none⟩ := by simp [Addr.add]
     rw [e] at h00
     exact World.block_lt_of_cell? W _ h00
   · have h9 := h2 i z hz j v hj
     rw [Addr.add_mid, Addr.add_mid] at h9
     exact h9
end Go.Proofs.YtannifhcjcbkcaaGreatDoor
