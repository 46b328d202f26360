/- Part 1 of the texts that the statements of this seat lean on: mathematics, and what functions answer, as contracts over memory; each part says its own conditions. -/
import Derived.Test.YtohokfbohdoijaaGreatDoorM0
import Derived.Laws.Strings
import Derived.Laws.Concat
import Derived.Lib.LaidTab
import Derived.Stop.LaidErr
import Derived.RowKit
import Derived.Test.YtohokfbohdoijaaGreatDoorRows
import Derived.WalkKit
import Derived.WalkSpells
import Derived.WalkLawsBesides
import Derived.Lib.Hide
import Derived.Laws.BitsAllLaws
import Derived.Laws.CopyOwn
import Derived.BigQuiet
import Derived.Deep.QuietTactic
import Derived.Deep.Draws
import Derived.Lib.BitFns
import Derived.Maps.AppendAt
/- Regions that leave their order open, in which one operation that only reads its frame (a result's second part) may come behind the stores too. Of any program; no condition. -/
namespace Go.Proofs.YtohokfbohdoijaaGreatDoor
open Go.RowKit
set_option linter.unusedVariables false
section
variable {P : Program} {ops : Array Oper} {Q : Exit → Act → World → Prop} {md : Region.Mode}
theorem wpAny_invx (m x : Nat) (J : Array Bool → Act → World → Prop)
 (hsize : ∀ l a w, J l a w → l.size = ops.size ∧ ∀ k, m ≤ k → l.getD k false = false)
 (hm : m ≤ ops.size)
 (hback : ∀ (i : Nat) (o : Oper), i < m → ops[i]? = some o → ∀ e ∈ o.after, Region.binds md e = true → e.on < i)
 (hstep : ∀ l a w i, J l a w → i ∈ Region.ready md ops l → i < m → wpOp P ops Q i (fun a' w' => J (l.setIfInBounds i true) a' w') a w)
 (hwait : ∀ l a w i, J l a w → i ∈ Region.ready md ops l → m ≤ i → ∀ k, k < m → k ≠ x → l.getD k false = true)
 (hfin : ∀ l a w, J l a w → (∀ k, k < m → k ≠ x → l.getD k false = true) → wpAny P md ops Q (ops.size - m + left l m) l a w) :
 ∀ (c : Nat) (l : Array Bool) (a : Act) (w : World), left l m = c → J l a w → wpAny P md ops Q (ops.size - m + c) l a w := by
 intro c
 induction c with
 | zero => exact fun l a w hc hj => by have h := hfin l a w hj (fun k hk _ => left_zero hc k hk); rwa [hc] at h
 | succ c ih =>
  intro l a w hc hj
  rcases Classical.em (∀ k, k < m → k ≠ x → l.getD k false = true) with hall | hnall
  · have h := hfin l a w hj hall; rwa [hc] at h
  obtain ⟨hs, hlater⟩ := hsize l a w hj
  have hex : ∃ k, k < m ∧ k ≠ x ∧ l.getD k false = false := by
   rcases Classical.em (∃ k, k < m ∧ k ≠ x ∧ l.getD k false = false) with h | h
   · exact h
   · refine absurd (fun k hk hkx => ?_) hnall
     cases hb : l.getD k false with
     | true => rfl
     | false => exact absurd ⟨k, hk, hkx, hb⟩ h
  refine ⟨fun hr => ?_, fun i hi => ?_⟩
  · exfalso
    -- the least one that has not come up may come up
    obtain ⟨k0, hk0, _, hb0⟩ := hex
    have hleast : ∀ n, (∃ k, k ≤ n ∧ k < m ∧ l.getD k false = false) → ∃ k, k < m ∧ l.getD k false = false ∧ ∀ j, j < k → l.getD j false = true := by
     intro n
     induction n with
     | zero =>
      rintro ⟨k, h1, h2, h3⟩
      obtain rfl : k = 0 := by omega
      exact ⟨0, h2, h3, fun j hj2 => by omega⟩
     | succ n ihn =>
      rintro ⟨k, h1, h2, h3⟩
      rcases Classical.em (∃ k, k ≤ n ∧ k < m ∧ l.getD k false = false) with h | h
      · exact ihn h
      · refine ⟨k, h2, h3, fun j hj2 => ?_⟩
        cases hb : l.getD j false with
        | true => rfl
        | false => exact absurd ⟨j, by omega, by omega, hb⟩ h
    obtain ⟨k, hk, hb, hmin⟩ := hleast k0 ⟨k0, Nat.le_refl _, hk0, hb0⟩
    have hko : k < ops.size := by omega
    have : k ∈ Region.ready md ops l := mem_ready.2 ⟨by
     simp only [Array.getD_eq_getD_getElem?] at hb ⊢
     rw [Array.getElem?_eq_getElem (by omega)] at hb ⊢
     simpa using hb, ops[k], Array.getElem?_eq_getElem hko, fun e he hbi => hmin _ (hback k _ hk (Array.getElem?_eq_getElem hko) e he hbi)⟩
    rw [hr] at this
    cases this
  · rcases Nat.lt_or_ge i m with h1 | h1
    · have hu : l.getD i false = false := by
       have h2 := (mem_ready.1 hi).1
       simp only [Array.getD_eq_getD_getElem?] at h2 ⊢
       rw [Array.getElem?_eq_getElem (by omega)] at h2 ⊢
       simpa using h2
      have hl := left_set (m := m) (by omega : i < l.size) hu h1
      exact wpOp_mono (fun a' w' hj2 => ih _ a' w' (by omega) hj2) (hstep l a w i hj hi h1)
    · exfalso
      obtain ⟨k, hk, hkx, hb⟩ := hex
      rw [hwait l a w i hj hi h1 k hk hkx] at hb
      cases hb
theorem region_freex {id : Nat} {a : Act} {w : World} {os : List Oper} (m r x : Nat) (ds : List Tmp) (aF : (Nat → Value) → Act) (S : World → Prop) (Φ : Nat → Value → World → Prop) (fresh : Nat → Bool)
 (hm : P.follows .mixedOrders = true)
 (haF : ∀ vals, fillAll (fun k => ds[k]?) vals a m = aF vals)
 (hr : os.length = m + r)
 (hok : (List.range m).all (okAtG os.toArray m ds a.tmps.size) = true)
 (hend : (List.range os.length).all (fun i => decide (i < m) || (List.range m).all fun k => k == x || (anc os.toArray 3 i).contains k) = true)
 (hxm : x < m) (hxf : fresh x = false) (hxs : Region.noSelect os.toArray = true)
 (hxr : (Region.free .any os.toArray ((firsts (m + r) m).setIfInBounds x false) x && (Region.ready .any os.toArray ((firsts (m + r) m).setIfInBounds x false)).contains x) = true)
 (hyx : ∀ (vals : Nat → Value) (w : World), S w → (∀ k, k < m → k ≠ x → Φ k (vals k) w) → ∀ o, os.toArray[x]? = some o → o.guard = none ∧ ∃ v, (∀ w', (execOp (aF vals).eval o).run P w' = .ok (.value v) w') ∧ Φ x v w)
 (hQ : ∀ c (t t' : Array Value) (d : List Deferred) w, Q (.panic c) ⟨t, d⟩ w → Q (.panic c) ⟨t', d⟩ w)
 (hSb : ∀ w w', Below w.heap.size w w' → S w → S w')
 (hΦb : ∀ k v w w', Below w.heap.size w w' → Φ k v w → Φ k v w')
 (hS : S w.drew)
 (hop : AllAt (FreeStepG P Q os.toArray ds aF S Φ fresh) 0 os m)
 (hfin : ∀ (vals : Nat → Value) (w : World), S w → (∀ k, k < m → Φ k (vals k) w) →
   (∀ j k, j < m → k < m → j ≠ k → fresh j = true → fresh k = true → ∀ p q, vals j = .pointer (some ⟨p, 0, none⟩) → vals k = .pointer (some ⟨q, 0, none⟩) → p ≠ q) →
   wpAny P .any os.toArray Q r (firsts (m + r) m) (aF vals) w) :
 (Code.region id os.toArray true).wp P Q a w := by
 generalize hops : os.toArray = ops at *
 have hsz0 : ops.size = m + r := by rw [← hops]; simpa using hr
 have hle : m ≤ ops.size := by omega
 replace hend : (List.range ops.size).all (fun i => decide (i < m) || (List.range m).all fun k => k == x || (anc ops 3 i).contains k) = true := by rw [hsz0, ← hr]; exact hend
 replace hop : ∀ i, i < m → ∀ o, ops[i]? = some o → FreeStepG P Q ops ds aF S Φ fresh i o := fun i hi o ho => by
  have := hop.at i hi o (by rw [← hops] at ho; simpa using ho)
  rwa [Nat.zero_add] at this
 replace hfin : ∀ (vals : Nat → Value) (w : World), S w → (∀ k, k < m → Φ k (vals k) w) →
  (∀ j k, j < m → k < m → j ≠ k → fresh j = true → fresh k = true → ∀ p q, vals j = .pointer (some ⟨p, 0, none⟩) → vals k = .pointer (some ⟨q, 0, none⟩) → p ≠ q) →
  ∀ l : Array Bool, l.size = ops.size → (∀ k, l.getD k false = decide (k < m)) → wpAny P .any ops Q (ops.size - m) l (aF vals) w := fun vals w h1 h2 h3 l h4 h5 => by
  rw [firsts_eq (h4.trans hsz0) (by omega) h5, show ops.size - m = r by omega]
  exact hfin vals w h1 h2 h3
 replace hQ : ∀ c (a a' : Act) w, a.defers = a'.defers → Q (.panic c) a w → Q (.panic c) a' w := by
  rintro c ⟨t, d⟩ ⟨t', d'⟩ w he h
  obtain rfl : d = d' := he
  exact hQ c t t' d w h
 refine wp_region_any hm ?_
 have hat : ∀ i, i < m → okAtG ops m ds a.tmps.size i = true := fun i hi => List.all_eq_true.1 hok i (List.mem_range.2 hi)
 have hlate : ∀ i, m ≤ i → i < ops.size → ∀ k, k < m → k ≠ x → k ∈ anc ops 3 i := fun i h1 h2 k hk hkx => by
  have := List.all_eq_true.1 hend i (List.mem_range.2 h2)
  simp only [Bool.or_eq_true, decide_eq_true_eq, List.all_eq_true, List.mem_range, List.contains_iff_mem, beq_iff_eq] at this
  exact ((this.resolve_left (by omega)) k hk).resolve_left hkx
 have hfr : ∀ (l : Array Bool), l = Array.replicate ops.size false → ∀ k, l.getD k false = false := by
  rintro l rfl k
  simp only [Array.getD_eq_getD_getElem?, Array.getElem?_replicate]
  split <;> rfl
 let J : Array Bool → Act → World → Prop := fun l a' w' => (l.size = ops.size ∧ ∀ k, m ≤ k → l.getD k false = false) ∧ S w' ∧ (∀ k, k < m → l.getD k false = true → ∀ e ∈ afters ops k, l.getD e false = true) ∧
  ∃ vals, a' = fill (fun k => ds[k]?) vals l a m ∧ (∀ k, k < m → l.getD k false = true → Φ k (vals k) w' ∧ (fresh k = true → ∃ q, vals k = .pointer (some ⟨q, 0, none⟩) ∧ q < w'.heap.size)) ∧
   (∀ j k, j < m → k < m → l.getD j false = true → l.getD k false = true → j ≠ k → fresh j = true → fresh k = true → ∀ p q, vals j = .pointer (some ⟨p, 0, none⟩) → vals k = .pointer (some ⟨q, 0, none⟩) → p ≠ q)
 have hdown : ∀ l a' w', J l a' w' → ∀ k, l.getD k false = true → ∀ e ∈ afters ops k, l.getD e false = true := fun l a' w' hj k hk => by
  rcases Nat.lt_or_ge k m with h1 | h1
  · exact hj.2.2.1 k h1 hk
  · rw [hj.1.2 k h1] at hk
    cases hk
 have hz : ∀ j, j ≤ m → left (Array.replicate ops.size false) j = j := fun j => by
  induction j with
  | zero => exact fun _ => rfl
  | succ j ihj => exact fun h => by unfold left; rw [ihj (by omega), hfr _ rfl j]; rfl
 have key := wpAny_invx (P := P) (ops := ops) (Q := Q) (md := .any) m x J (fun l a' w' hj => hj.1) hle (fun i o h1 ho e he hb => ?hback) (fun l a' w' i hj hi h1 => ?hstep) (fun l a' w' i hj hi h1 k hk hkx => ?hwait) (fun l a' w' hj hall => ?hfin)
  m (Array.replicate ops.size false) a w.drew (hz m (Nat.le_refl _)) ⟨⟨by simp, fun k _ => hfr _ rfl k⟩, hS, fun k _ h => (by rw [hfr _ rfl k] at h; cases h),
   fun _ => undef, (fill_none fun k _ => hfr _ rfl k).symm, fun k _ h => (by rw [hfr _ rfl k] at h; cases h), fun j k _ _ h => (by rw [hfr _ rfl j] at h; cases h)⟩
 · have e : ops.size - m + m = ops.size := by omega
   rw [e] at key
   exact key
 case hback =>
  obtain ⟨_, _, _, _, _, _, _, hlow, _, _⟩ := okAtG_spec (hat i h1)
  refine hlow e.on ?_
  unfold afters
  rw [ho]
  exact List.mem_map.2 ⟨e, List.mem_filter.2 ⟨by simpa using he, hb⟩, rfl⟩
 case hwait =>
  have hlt : i < ops.size := by
   obtain ⟨_, o, ho, _⟩ := mem_ready.1 hi
   exact (Array.getElem?_eq_some_iff.1 ho).1
  exact anc_up (hdown l a' w' hj) 3 i (fun e he => ready_after hi he) k (hlate i h1 hlt k hk hkx)
 case hfin =>
  obtain ⟨⟨hs, hl⟩, hSw, hdn, vals, rfl, hv, hp⟩ := hj
  cases hx : l.getD x false with
  | true =>
   have hall2 : ∀ k, k < m → l.getD k false = true := fun k hk => by
    by_cases hkx : k = x
    · subst hkx; exact hx
    · exact hall k hk hkx
   have hl0 : left l m = 0 := by
    have h0 : ∀ j, j ≤ m → left l j = 0 := fun j => by
     induction j with
     | zero => exact fun _ => rfl
     | succ j ihj => exact fun hj2 => by unfold left; rw [ihj (by omega), hall2 j (by omega)]; rfl
    exact h0 m (Nat.le_refl _)
   rw [hl0, Nat.add_zero, fill_all hall2, haF]
   refine hfin vals w' hSw (fun k hk => (hv k hk (hall2 k hk)).1) (fun j k h1 h2 => hp j k h1 h2 (hall2 j h1) (hall2 k h2)) l hs fun k => ?_
   rcases Nat.lt_or_ge k m with h | h
   · rw [hall2 k h, decide_eq_true h]
   · rw [hl k h, decide_eq_false (by omega)]
  | false =>
   have hset : ∀ k, k < m → (l.setIfInBounds x true).getD k false = true := fun k hk => by
    by_cases hkx : k = x
    · subst hkx; exact getD_same (by omega) _
    · rw [getD_other (Ne.symm hkx)]; exact hall k hk hkx
   have hl1 : left l m = 1 := by
    have h0 : ∀ j, j ≤ m → left (l.setIfInBounds x true) j = 0 := fun j => by
     induction j with
     | zero => exact fun _ => rfl
     | succ j ihj => exact fun hj2 => by unfold left; rw [ihj (by omega), hset j (by omega)]; rfl
    have := left_set (m := m) (by omega : x < l.size) hx hxm
    rw [h0 m (Nat.le_refl _)] at this
    exact this.symm
   have hlx : l = (firsts (m + r) m).setIfInBounds x false := by
    apply Array.ext_getElem?
    intro k
    have hfs : (firsts (m + r) m).size = m + r := by simp [firsts]
    rcases Nat.lt_or_ge k (m + r) with hk | hk
    · have e1 : l[k]? = some (l.getD k false) := by
       rw [Array.getElem?_eq_getElem (by omega)]; simp [Array.getD_eq_getD_getElem?, Array.getElem?_eq_getElem (show k < l.size by omega)]
      rw [e1, Array.getElem?_setIfInBounds]
      by_cases hkx : x = k
      · subst hkx; rw [if_pos rfl, if_pos (by omega), hx]
      · rw [if_neg hkx, show (firsts (m + r) m)[k]? = ((List.range (m + r)).map fun k => decide (k < m))[k]? from List.getElem?_toArray .., List.getElem?_map, List.getElem?_range hk]
        rcases Nat.lt_or_ge k m with h | h
        · rw [hall k h (Ne.symm hkx)]; simp [h]
        · rw [hl k h]; simp; omega
    · rw [Array.getElem?_eq_none (by omega), Array.getElem?_eq_none (by simp only [Array.size_setIfInBounds]; omega)]
   obtain ⟨o, ho, hdst, hdi, hlt, hg, hsel, hlow, hdist, hops⟩ := okAtG_spec (hat x hxm)
   obtain ⟨hgn, v, hrun, hphi⟩ := hyx vals w' hSw (fun k hk hkx => (hv k hk (hall k hk hkx)).1) o ho
   have hxx : x ∉ afters ops x := fun h => by have := hlow x h; omega
   have heval : ∀ y ∈ o.op.operands, (fill (fun k => ds[k]?) vals l a m).eval y = (aF vals).eval y := fun y hy => by
    rw [← haF vals]
    exact fill_eval fun k hk hk2 d hd hyd => by
     by_cases hkx : k = x
     · subst hkx; exact hxx (hops y hy d hyd k hk hd)
     · rw [hall k hk hkx] at hk2; cases hk2
   have hy : Yields P ops o v (fill (fun k => ds[k]?) vals l a m) := .inl ⟨by unfold Region.wanted; rw [hgn], fun w2 => by rw [execOp_congr o hsel heval]; exact hrun w2⟩
   simp only [Bool.and_eq_true] at hxr
   rw [hl1]
   refine wpAny_take ho hxs (by rw [hlx]; exact hxr.1) (by rw [hlx]; exact hxr.2) (fun c a2 w2 h => hQ c _ _ w2 (by cases o.dst <;> rfl) h) hy ?_
   rw [hdst, ← hdi, fill_set (by omega) hx hxm (fun j hj hji d hd hdi2 => hdist j hj hji (hd.trans hdi2.symm)), fill_all hset, haF]
   have hup : ∀ k, k ≠ x → upd vals x v k = vals k := fun k hk => if_neg hk
   refine hfin (upd vals x v) w' hSw (fun k hk => ?_) (fun j k h1 h2 hjk fj fk p q ep eq => ?_) _ (by simpa using hs) fun k => ?_
   · by_cases hkx : k = x
     · subst hkx; rw [show upd vals k v k = v from if_pos rfl]; exact hphi
     · rw [hup k hkx]; exact (hv k hk (hall k hk hkx)).1
   · have hjx : j ≠ x := fun e => by subst e; rw [hxf] at fj; cases fj
     have hkx : k ≠ x := fun e => by subst e; rw [hxf] at fk; cases fk
     rw [hup j hjx] at ep
     rw [hup k hkx] at eq
     exact hp j k h1 h2 (hall j h1 hjx) (hall k h2 hkx) hjk fj fk p q ep eq
   · rcases Nat.lt_or_ge k m with h | h
     · rw [hset k h, decide_eq_true h]
     · rw [getD_other (by omega), hl k h, decide_eq_false (by omega)]
 case hstep =>
  obtain ⟨⟨hs, hl⟩, hSw, hdn, vals, rfl, hv, hp⟩ := hj
  obtain ⟨o, ho, hdst, hdi, hlt, hg, hsel, hlow, hdist, hops⟩ := okAtG_spec (hat i h1)
  have hu : l.getD i false = false := by
   have h2 := (mem_ready.1 hi).1
   have h3 : i < l.size := by omega
   simp only [Array.getD_eq_getD_getElem?] at h2 ⊢
   rw [Array.getElem?_eq_getElem h3] at h2 ⊢
   simpa using h2
  have hdep : ∀ e ∈ afters ops i, l.getD e false = true := fun e he => ready_after hi he
  have heval : ∀ x ∈ o.op.operands, (fill (fun k => ds[k]?) vals l a m).eval x = (aF vals).eval x := fun x hx => by
   rw [← haF vals]
   exact fill_eval fun k hk hk2 d hd hxd => by
    rw [hdep k (hops x hx d hxd k hk hd)] at hk2
    cases hk2
  have hphi : ∀ e ∈ afters ops i, Φ e (vals e) w' := fun e he => (hv e (by have := hlow e he; omega) (hdep e he)).1
  have hyld : ∀ g b, g ∈ afters ops i → vals g = .bool b → yielded ops (fill (fun k => ds[k]?) vals l a m).tmps g = some b := fun g b hga hb => by
   have hgm : g < m := by have := hlow g hga; omega
   obtain ⟨og, hog, hgd, hgi, hglt, _, _, _, hgdist, _⟩ := okAtG_spec (hat g hgm)
   have h4 : (fill (fun k => ds[k]?) vals l a m).eval (.tmp (ds.getD g 0)) = vals g := fill_at (hdep g hga) hgi hglt hgm fun k hk hne e => hgdist k hk hne (e.trans hgi.symm)
   refine yielded_at (by rw [hog]; exact hgd) (by rw [fill_size]; exact hglt) (h4.trans hb)
  have hsz : ds.getD i 0 < (aF vals).tmps.size := by rw [← haF vals, fillAll_size]; exact hlt
  have next : ∀ v w2, Below w'.heap.size w' w2 → Φ i v w2 → (fresh i = true → ∃ q, v = .pointer (some ⟨q, 0, none⟩) ∧ w'.heap.size ≤ q ∧ q < w2.heap.size) →
   J (l.setIfInBounds i true) ((fill (fun k => ds[k]?) vals l a m).put o.dst v) w2 := fun v w2 hb hphi hfresh => by
   have hne : ∀ k, k ≠ i → (l.setIfInBounds i true).getD k false = l.getD k false := fun k hk => getD_other (Ne.symm hk) _
   refine ⟨⟨by simpa using hs, fun k hk => by rw [hne k (by omega)]; exact hl k hk⟩, hSb _ _ hb hSw, fun k hk hk2 e he => ?_, upd vals i v, ?_, fun k hk hk2 => ?_, fun j k hj hk hj2 hk2 hjk fj fk p q ep eq => ?_⟩
   · by_cases hki : k = i
     · subst hki
       rw [hne e (by have := hlow e he; omega)]
       exact hdep e he
     · rw [hne k hki] at hk2
       by_cases hei : e = i
       · subst hei
         exact getD_same (by omega) _
       · rw [hne e hei]
         exact hdn k hk hk2 e he
   · rw [hdst, ← hdi]
     exact fill_set (by omega) hu h1 fun j hj hji d hd hdi2 => hdist j hj hji (hd.trans hdi2.symm)
   · by_cases hki : k = i
     · subst hki
       rw [show upd vals k v k = v from if_pos rfl]
       exact ⟨hphi, fun hf => by obtain ⟨q, h1, _, h3⟩ := hfresh hf; exact ⟨q, h1, h3⟩⟩
     · rw [hne k hki] at hk2
       rw [show upd vals i v k = vals k from if_neg hki]
       obtain ⟨h3, h4⟩ := hv k hk hk2
       exact ⟨hΦb _ _ _ _ hb h3, fun hf => by obtain ⟨q, h5, h6⟩ := h4 hf; exact ⟨q, h5, Nat.lt_of_lt_of_le h6 hb.size⟩⟩
   · by_cases hji : j = i
     · subst hji
       have hki : k ≠ j := fun h => hjk h.symm
       rw [show upd vals j v j = v from if_pos rfl] at ep
       rw [show upd vals j v k = vals k from if_neg hki] at eq
       rw [hne k hki] at hk2
       obtain ⟨q1, e1, l1, _⟩ := hfresh fj
       obtain ⟨q2, e2, l2⟩ := (hv k hk hk2).2 fk
       rw [e1] at ep
       rw [e2] at eq
       cases ep
       cases eq
       omega
     · by_cases hki : k = i
       · subst hki
         rw [show upd vals k v k = v from if_pos rfl] at eq
         rw [show upd vals k v j = vals j from if_neg hji] at ep
         rw [hne j hji] at hj2
         obtain ⟨q1, e1, l1, _⟩ := hfresh fk
         obtain ⟨q2, e2, l2⟩ := (hv j hj hj2).2 fj
         rw [e1] at eq
         rw [e2] at ep
         cases ep
         cases eq
         omega
       · rw [show upd vals i v j = vals j from if_neg hji] at ep
         rw [show upd vals i v k = vals k from if_neg hki] at eq
         rw [hne j hji] at hj2
         rw [hne k hki] at hk2
         exact hp j k hj hk hj2 hk2 hjk fj fk p q ep eq
  rcases hop i h1 o ho with ⟨hgv, hop2⟩ | ⟨g, b, hgb, hgv, hun, hfr0⟩
  case inr =>
   unfold wpOp
   rw [ho]
   simp only []
   have hnot : Region.wanted o (yielded ops (fill (fun k => ds[k]?) vals l a m).tmps) = false := by
    unfold Region.wanted
    rw [hgb]
    simp only []
    rw [hyld g (!b) (hg g b hgb) (hgv vals w' hSw hphi)]
    cases b <;> rfl
   rw [if_neg (by rw [hnot]; decide)]
   exact next _ _ (Below.refl _ _) (hun w' hSw) (fun hf => by rw [hfr0] at hf; cases hf)
  have hwant : Region.wanted o (yielded ops (fill (fun k => ds[k]?) vals l a m).tmps) = true := by
   unfold Region.wanted
   cases hgo : o.guard with
   | none => rfl
   | some gb =>
    obtain ⟨g, b⟩ := gb
    simp only []
    rw [hyld g b (hg g b hgo) (hgv vals w' hSw hphi g b hgo)]
    simp
  have hrun := hop2 vals w' hSw hphi
   (fun a2 w2 => a2.defers = (aF vals).defers ∧ Below w'.heap.size w' w2 ∧ Φ i (a2.eval (.tmp (ds.getD i 0))) w2 ∧ (fresh i = true → ∃ q, a2.eval (.tmp (ds.getD i 0)) = .pointer (some ⟨q, 0, none⟩) ∧ w'.heap.size ≤ q ∧ q < w2.heap.size))
   (fun a2 w2 h1 h2 h3 h4 => ⟨h1, h2, h3, h4⟩)
  unfold wpOp
  rw [ho]
  simp only []
  rw [if_pos hwant]
  refine .inl ?_
  unfold Oper.wp at hrun ⊢
  rw [execOp_congr o hsel heval]
  generalize (execOp (aF vals).eval o).run P w' = r at hrun ⊢
  have hdef : (aF vals).defers = (fill (fun k => ds[k]?) vals l a m).defers := by rw [← haF vals, fillAll_defers, fill_defers]
  have hput : ∀ v, ((aF vals).put o.dst v).eval (.tmp (ds.getD i 0)) = v := fun v => by rw [hdst]; exact put_same _ _ _ hsz
  cases r with
  | ok n w2 =>
   cases n <;> simp only [Oper.upon] at hrun ⊢
   case value v => rw [hput] at hrun; exact next _ _ hrun.2.1 hrun.2.2.1 hrun.2.2.2
   case skip => rw [hput] at hrun; exact next _ _ hrun.2.1 hrun.2.2.1 hrun.2.2.2
   case defer d =>
    exfalso
    have := hrun.1
    rw [put_defers2] at this
    have := congrArg List.length this
    simp at this
   case enter f args =>
    refine Calls.mono hrun fun e w3 he => ?_
    cases e with
    | returned v => simp only at he ⊢; rw [hput] at he; exact next _ _ he.2.1 he.2.2.1 he.2.2.2
    | panicked c => exact hQ _ _ _ _ hdef he
    | outgrown => exact he
   case row r args =>
    refine Rows.mono hrun fun v w3 he => ?_
    rw [hput] at he
    exact next _ _ he.2.1 he.2.2.1 he.2.2.2
  | halt x w2 =>
   cases x <;> simp only [Oper.upon] at hrun ⊢ <;> exact hQ _ _ _ _ hdef hrun
end
end Go.Proofs.YtohokfbohdoijaaGreatDoor

/- Plain mathematics of texts: bytes as numbers below 256, decimal digits and the numbers that they tell, the order of texts. No condition. -/
namespace Go.Proofs.YtohokfbohdoijaaGreatDoor.Limb
def strOf (l : List Nat) : ByteArray := ⟨(l.map UInt8.ofNat).toArray⟩
def bytesOf (s : ByteArray) : List Nat := s.data.toList.map UInt8.toNat
def Bytes (l : List Nat) : Prop := ∀ x ∈ l, x < 256
theorem bytes_nil : Bytes [] := by intro x hx; cases hx
theorem bytes_cons {x : Nat} {l : List Nat} : Bytes (x :: l) ↔ x < 256 ∧ Bytes l := by simp [Bytes]
theorem bytes_append {a b : List Nat} : Bytes (a ++ b) ↔ Bytes a ∧ Bytes b := by
 simp only [Bytes, List.mem_append]
 exact ⟨fun h => ⟨fun x hx => h x (.inl hx), fun x hx => h x (.inr hx)⟩, fun h x hx => hx.elim (h.1 x) (h.2 x)⟩
theorem bytes_set {l : List Nat} (h : Bytes l) (k v : Nat) (hv : v < 256) : Bytes (l.set k v) := fun x hx => (List.mem_or_eq_of_mem_set hx).elim (h x) (fun e => by omega)
theorem bytes_bytesOf (s : ByteArray) : Bytes (bytesOf s) := by
 intro x hx
 obtain ⟨b, _, rfl⟩ := List.mem_map.1 hx
 exact b.toNat_lt
theorem bytesOf_strOf {l : List Nat} (h : Bytes l) : bytesOf (strOf l) = l := by
 show (l.map UInt8.ofNat).map UInt8.toNat = l
 rw [List.map_map]
 refine (List.map_congr_left fun x hx => ?_).trans (List.map_id l)
 show (UInt8.ofNat x).toNat = x
 rw [UInt8.toNat_ofNat']
 exact Nat.mod_eq_of_lt (h x hx)
theorem strOf_bytesOf (s : ByteArray) : strOf (bytesOf s) = s := by
 obtain ⟨⟨l⟩⟩ := s
 have e : UInt8.ofNat ∘ UInt8.toNat = id := by funext x; exact UInt8.ofNat_toNat
 show ByteArray.mk ((l.map UInt8.toNat).map UInt8.ofNat).toArray = _
 rw [List.map_map, e, List.map_id]
theorem length_bytesOf (s : ByteArray) : (bytesOf s).length = s.size := by
 show (s.data.toList.map UInt8.toNat).length = s.data.size
 rw [List.length_map, Array.length_toList]
theorem size_strOf (l : List Nat) : (strOf l).size = l.length := by
 show (l.map UInt8.ofNat).toArray.size = _
 rw [List.size_toArray, List.length_map]
theorem strOf_append (a b : List Nat) : strOf a ++ strOf b = strOf (a ++ b) := by
 rw [strOf, strOf, ByteArray.mk_append_mk, strOf, List.map_append]
theorem bytesOf_append (s t : ByteArray) : bytesOf (s ++ t) = bytesOf s ++ bytesOf t := by
 simp [bytesOf, ByteArray.data_append]
theorem strOf_inj {a b : List Nat} (ha : Bytes a) (hb : Bytes b) (h : strOf a = strOf b) : a = b := by
 rw [← bytesOf_strOf ha, ← bytesOf_strOf hb, h]
theorem byte_at (s : ByteArray) (k : Nat) (h : k < s.size) : (s[k]'h).toNat = lim (bytesOf s) k := by
 have hk : k < (bytesOf s).length := by rw [length_bytesOf]; exact h
 unfold lim
 rw [List.getD_eq_getElem?_getD, List.getElem?_eq_getElem hk, Option.getD_some]
 simp [bytesOf]
 rfl
def isDig (x : Nat) : Bool := decide (48 ≤ x) && decide (x ≤ 57)
def allDig (l : List Nat) : Bool := l.all isDig
def decV (l : List Nat) : Nat := l.foldl (fun v d => v * 10 + (d - 48)) 0
theorem allDig_iff {l : List Nat} : allDig l = true ↔ ∀ x ∈ l, 48 ≤ x ∧ x ≤ 57 := by simp [allDig, isDig]
theorem allDig_append {a b : List Nat} : allDig (a ++ b) = (allDig a && allDig b) := by simp [allDig]
theorem foldl_dec (l : List Nat) (v : Nat) : l.foldl (fun v d => v * 10 + (d - 48)) v = v * 10 ^ l.length + l.foldl (fun v d => v * 10 + (d - 48)) 0 := by
 induction l generalizing v with
 | nil => simp
 | cons x l ih =>
  rw [List.foldl_cons, List.foldl_cons, ih, ih (0 * 10 + (x - 48)), List.length_cons, Nat.pow_succ]
  grind
theorem decV_append (a b : List Nat) : decV (a ++ b) = decV a * 10 ^ b.length + decV b := by
 unfold decV
 rw [List.foldl_append, foldl_dec]
theorem decV_snoc (l : List Nat) (x : Nat) : decV (l ++ [x]) = decV l * 10 + (x - 48) := by
 rw [decV_append]; simp [decV]
theorem decV_cons (x : Nat) (l : List Nat) : decV (x :: l) = (x - 48) * 10 ^ l.length + decV l := by
 have := decV_append [x] l
 rwa [show [x] ++ l = x :: l from rfl, show decV [x] = x - 48 by simp [decV]] at this
theorem decV_lt : ∀ {l : List Nat}, allDig l = true → decV l < 10 ^ l.length
 | [], _ => by decide
 | x :: l, h => by
  have h1 := allDig_iff.1 h x (by simp)
  have h2 : allDig l = true := allDig_iff.2 fun y hy => allDig_iff.1 h y (by simp [hy])
  have h3 := decV_lt h2
  rw [decV_cons, List.length_cons, Nat.pow_succ]
  have h4 : (x - 48) * 10 ^ l.length ≤ 9 * 10 ^ l.length := Nat.mul_le_mul_right _ (by omega)
  omega
def decF : Nat → Nat → List Nat
 | 0, _ => []
 | f + 1, n => if n < 10 then [48 + n] else decF f (n / 10) ++ [48 + n % 10]
def decT (n : Nat) : List Nat := decF (n + 1) n
theorem decF_more : ∀ f g n, n < f → n < g → decF f n = decF g n
 | 0, _, _, h, _ => by omega
 | _, 0, _, _, h => by omega
 | f + 1, g + 1, n, hf, hg => by
  rw [decF, decF]
  split
  · rfl
  · rw [decF_more f g (n / 10) (by omega) (by omega)]
theorem decT_small {n : Nat} (h : n < 10) : decT n = [48 + n] := by rw [decT, decF, if_pos h]
theorem decT_big {n : Nat} (h : 10 ≤ n) : decT n = decT (n / 10) ++ [48 + n % 10] := by
 rw [decT, decF, if_neg (by omega), decT, decF_more n (n / 10 + 1) (n / 10) (by omega) (by omega)]
theorem decT_spec (n : Nat) : allDig (decT n) = true ∧ decV (decT n) = n ∧ decT n ≠ [] ∧ (n ≠ 0 → lim (decT n) 0 ≠ 48) := by
 induction n using Nat.strongRecOn with
 | _ n ih =>
  by_cases h : n < 10
  · rw [decT_small h]
    refine ⟨allDig_iff.2 fun x hx => by simp at hx; omega, by simp [decV], by simp, fun h0 => by simp [lim]; omega⟩
  · obtain ⟨h1, h2, h3, h4⟩ := ih (n / 10) (by omega)
    rw [decT_big (by omega)]
    refine ⟨by rw [allDig_append, h1]; exact allDig_iff.2 fun x hx => by simp at hx; omega, by rw [decV_snoc, h2]; omega, by simp, fun _ => ?_⟩
    have h5 := h4 (by omega)
    cases hd : decT (n / 10) with
    | nil => exact absurd hd h3
    | cons x l => rw [hd] at h5; simpa [lim] using h5
theorem decT_dig (n : Nat) : allDig (decT n) = true := (decT_spec n).1
theorem decV_decT (n : Nat) : decV (decT n) = n := (decT_spec n).2.1
theorem decT_ne (n : Nat) : decT n ≠ [] := (decT_spec n).2.2.1
theorem pow_le_of_head {l : List Nat} (h : allDig l = true) (h0 : l ≠ []) (h1 : lim l 0 ≠ 48) : 10 ^ (l.length - 1) ≤ decV l := by
 cases l with
 | nil => exact absurd rfl h0
 | cons x l =>
  have hx := allDig_iff.1 h x (by simp)
  have h2 : x ≠ 48 := h1
  rw [decV_cons, List.length_cons, Nat.add_sub_cancel]
  have := Nat.mul_le_mul_right (10 ^ l.length) (show 1 ≤ x - 48 by omega)
  omega
theorem decT_len_pow {n : Nat} (h : n ≠ 0) : 10 ^ ((decT n).length - 1) ≤ n := by
 have := pow_le_of_head (decT_dig n) (decT_ne n) ((decT_spec n).2.2.2 h)
 rwa [decV_decT] at this
theorem decT_len_le {n k : Nat} (h : n < 10 ^ k) (hk : 0 < k) : (decT n).length ≤ k := by
 rcases Nat.eq_zero_or_pos n with h0 | h0
 · subst h0; exact hk
 · have h1 := decT_len_pow (n := n) (by omega)
   have h2 := (Nat.pow_lt_pow_iff_right (a := 10) (by decide)).1 (Nat.lt_of_le_of_lt h1 h)
   omega
theorem pow_digits {L : Nat} : 4294967296 ^ L ≤ 10 ^ (10 * L) := by
 rw [Nat.pow_mul]
 exact Nat.pow_le_pow_left (by decide) _
theorem decT_len_limbs {n L : Nat} (h : n < 4294967296 ^ L) : (decT n).length ≤ 10 * L + 1 := by
 refine decT_len_le (Nat.lt_of_lt_of_le h (Nat.le_trans pow_digits ?_)) (by omega)
 exact Nat.pow_le_pow_right (by decide) (by omega)
theorem dec_room {k L : Nat} (h : k ≤ 9 * L) : 10 ^ k ≤ 4294967296 ^ L := by
 refine Nat.le_trans (Nat.pow_le_pow_right (by decide) h) ?_
 rw [Nat.pow_mul]
 exact Nat.pow_le_pow_left (by decide) _
end Go.Proofs.YtohokfbohdoijaaGreatDoor.Limb

/- What a row's listed variables give, from a place of the list on. Of any program; no condition. -/
namespace Go.Proofs.YtohokfbohdoijaaGreatDoor
open Go.RowKit Go.ChangeShapes
set_option linter.unusedVariables false
theorem laidMet_drop {P : Program} {w : World} : ∀ (k : Nat) {l : List (String × DataW Unit)}, laidMet P l w → laidMet P (l.drop k) w
 | 0, _, h => h
 | _ + 1, [], h => h
 | k + 1, _ :: _, h => laidMet_drop k h.tail
end Go.Proofs.YtohokfbohdoijaaGreatDoor

/- What it means that a slice of 32-bit words in memory reads as a list of limbs, and that this stays so where nothing below a block has changed. No condition. -/
namespace Go.Proofs.YtohokfbohdoijaaGreatDoor
open Go.RowKit Limb
set_option linter.unusedVariables false
def IsN (w : World) (A : Option Addr) (n : Nat) (xs : List Nat) : Prop :=
 xs.length = n ∧ Small xs ∧ (0 < n → ∃ b o, A = some ⟨b, o, none⟩ ∧ b < w.heap.size ∧ ∀ j, j < n → w.cell? ⟨b, o + j, none⟩ = some (.int .u32 ((lim xs j : Nat) : Int)))
theorem IsN.len {w : World} {A : Option Addr} {n : Nat} {xs : List Nat} (h : IsN w A n xs) : xs.length = n := h.1
theorem IsN.small {w : World} {A : Option Addr} {n : Nat} {xs : List Nat} (h : IsN w A n xs) : Small xs := h.2.1
theorem IsN.below {w w' : World} {A : Option Addr} {n : Nat} {xs : List Nat} (h : IsN w A n xs) (hb : Below w.heap.size w w') : IsN w' A n xs := by
 refine ⟨h.1, h.2.1, fun hn => ?_⟩
 obtain ⟨b, o, e, hlt, hc⟩ := h.2.2 hn
 exact ⟨b, o, e, Nat.lt_of_lt_of_le hlt hb.size, fun j hj => (hb.cell (p := ⟨b, o + j, none⟩) hlt).trans (hc j hj)⟩
theorem IsN.take {w : World} {A : Option Addr} {n m : Nat} {xs : List Nat} (h : IsN w A n xs) (hm : m ≤ n) : IsN w A m (xs.take m) := by
 refine ⟨by rw [List.length_take, h.1]; omega, small_take h.2.1 _, fun hn => ?_⟩
 obtain ⟨b, o, e, hlt, hc⟩ := h.2.2 (by omega)
 refine ⟨b, o, e, hlt, fun j hj => ?_⟩
 rw [hc j (by omega)]
 simp [lim, List.getD_eq_getElem?_getD, hj]
theorem IsN.nil (w : World) (A : Option Addr) : IsN w A 0 [] := ⟨rfl, small_nil, fun h => absurd h (by omega)⟩
def IsV (w : World) (A : Option Addr) (n : Nat) (a : Nat) : Prop := IsN w A n (limbs a)
theorem IsV.isN {w : World} {A : Option Addr} {n a : Nat} (h : IsV w A n a) : IsN w A n (limbs a) := h
theorem IsV.below {w w' : World} {A : Option Addr} {n a : Nat} (h : IsV w A n a) (hb : Below w.heap.size w w') : IsV w' A n a := IsN.below h hb
theorem bel_refl (w : World) : Below w.heap.size w w := Below.refl _ _
theorem ret_bool {a b : Bool} (h : a = b) : Ending.returned (.bool a) = .returned (.bool b) := by rw [h]
theorem ret_int {k : IntKind} {a b : Int} (h : a = b) : Ending.returned (.int k a) = .returned (.int k b) := by rw [h]
end Go.Proofs.YtohokfbohdoijaaGreatDoor

/- What math/bits' Add32, Sub32 answer at package nat's carries, and small helpers. Conditions: the arguments are 32-bit words, the carry is 0 or 1. -/
namespace Go.Proofs.YtohokfbohdoijaaGreatDoor
open Go.RowKit Limb
set_option linter.unusedVariables false
set_option maxHeartbeats 400000 in
theorem add32_any (x y c : Int) (w : World) (hx : 0 ≤ x ∧ x < 4294967296) (hy : 0 ≤ y ∧ y < 4294967296) (hc : 0 ≤ c ∧ c < 4294967296) :
 Calls Tryz.prog 196 #[.int .u32 x, .int .u32 y, .int .u32 c] w fun e w' => e = .returned (.tuple #[.int .u32 ((x + y + c) % 4294967296), .int .u32 ((x + y + c) / 4294967296)]) ∧ w = w' := by
 obtain ⟨hx0, hx1⟩ := hx
 obtain ⟨hy0, hy1⟩ := hy
 obtain ⟨hc0, hc1⟩ := hc
 go_enter Tryz.func196, Tryz.ntmps196
 go_wp2
 go_ret2
 exact ⟨rfl, rfl⟩
def bor (x y c : Int) : Int := if x < y + c then 1 else 0
theorem borrow_eq (x y c : Int) (hx0 : 0 ≤ x) (hx1 : x < 4294967296) (hy0 : 0 ≤ y) (hy1 : y < 4294967296) (hc0 : 0 ≤ c) (hc1 : c ≤ 1) :
 bits BinOp.or IntKind.u32 (bits BinOp.and IntKind.u32 (bits BinOp.xor IntKind.u32 IntKind.u32.max x) y) (bits BinOp.and IntKind.u32 (bits BinOp.xor IntKind.u32 IntKind.u32.max (bits BinOp.xor IntKind.u32 x y)) ((x - y - c) % 4294967296)) / 2147483648 = bor x y c := by
 have hd0 : 0 ≤ (x - y - c) % 4294967296 := Int.emod_nonneg _ (by decide)
 have hd1 : (x - y - c) % 4294967296 < 4294967296 := Int.emod_lt_of_pos _ (by decide)
 have hd2 : (x - y - c) % 4294967296 = x - y - c ∨ (x - y - c) % 4294967296 = x - y - c + 4294967296 := by omega
 obtain ⟨d, hd⟩ : ∃ d, d = (x - y - c) % 4294967296 := ⟨_, rfl⟩
 rw [← hd] at hd0 hd1 hd2 ⊢
 clear hd
 obtain ⟨x, rfl⟩ := Int.eq_ofNat_of_zero_le hx0
 obtain ⟨y, rfl⟩ := Int.eq_ofNat_of_zero_le hy0
 obtain ⟨d, rfl⟩ := Int.eq_ofNat_of_zero_le hd0
 have mx : IntKind.u32.max = ((4294967295 : Nat) : Int) := rfl
 have h1 : (4294967295 : Nat) < 4294967296 := by decide
 have hx : x < 4294967296 := by omega
 have hy : y < 4294967296 := by omega
 have hd : d < 4294967296 := by omega
 rw [mx, u32_xor_nat _ _ h1 hx, u32_and_nat _ _ (lt_xor h1 hx) hy, u32_xor_nat _ _ hx hy, u32_xor_nat _ _ h1 (lt_xor hx hy), u32_and_nat _ _ (lt_xor h1 (lt_xor hx hy)) hd,
  u32_or_nat _ _ (lt_and hy) (lt_and hd)]
 have e := borrow_bits x y d hx hy hd
 have e2 : ((((4294967295 ^^^ x) &&& y) ||| ((4294967295 ^^^ (x ^^^ y)) &&& d) : Nat) : Int) / 2147483648 = (((((4294967295 ^^^ x) &&& y) ||| ((4294967295 ^^^ (x ^^^ y)) &&& d)) / 2147483648 : Nat) : Int) := rfl
 rw [e2, e]
 clear e e2
 unfold bor
 by_cases a1 : 2147483648 ≤ x <;> by_cases a2 : 2147483648 ≤ y <;> by_cases a3 : 2147483648 ≤ d <;> simp [a1, a2, a3] <;> omega
theorem congr_ret {a b c d : Int} (h : a = b) (k : c = d) : Ending.returned (.tuple #[.int .u32 a, .int .u32 c]) = Ending.returned (.tuple #[.int .u32 b, .int .u32 d]) := by rw [h, k]
set_option maxHeartbeats 400000 in
theorem sub32_any (x y c : Int) (w : World) (hx : 0 ≤ x ∧ x < 4294967296) (hy : 0 ≤ y ∧ y < 4294967296) (hc : 0 ≤ c ∧ c ≤ 1) :
 Calls Tryz.prog 195 #[.int .u32 x, .int .u32 y, .int .u32 c] w fun e w' => e = .returned (.tuple #[.int .u32 ((x - y - c) % 4294967296), .int .u32 (bor x y c)]) ∧ w = w' := by
 obtain ⟨hx0, hx1⟩ := hx
 obtain ⟨hy0, hy1⟩ := hy
 obtain ⟨hc0, hc1⟩ := hc
 have hs : IntKind.u32.signed = false := rfl
 go_enter Tryz.func195, Tryz.ntmps195
 go_wp2
 go_ret2
 refine ⟨?_, rfl⟩
 have hd0 : 0 ≤ (x - y - c) % 4294967296 := Int.emod_nonneg _ (by decide)
 have hd1 : (x - y - c) % 4294967296 < 4294967296 := Int.emod_lt_of_pos _ (by decide)
 have e0 : ((x - y) % 4294967296 - c) % 4294967296 = (x - y - c) % 4294967296 := by omega
 have e1 : bits BinOp.or IntKind.u32 (bits BinOp.and IntKind.u32 (bits BinOp.xor IntKind.u32 IntKind.u32.max x) y) (bits BinOp.and IntKind.u32 (bits BinOp.xor IntKind.u32 IntKind.u32.max (bits BinOp.xor IntKind.u32 x y)) ((x - y - c) % 4294967296)) / 2147483648 = bor x y c :=
  borrow_eq x y c hx0 hx1 hy0 hy1 hc0 hc1
 exact congr_ret e0 e1
theorem order_any (b : Bool) (w : World) : Calls Tryz.prog 125 #[.bool b] w fun e w' => e = .returned (.int .i64 (if b then -1 else 1)) ∧ w = w' := by
 cases b
 all_goals
  go_enter Tryz.func125, Tryz.ntmps125
  go_wp2
  go_ret
  exact ⟨rfl, rfl⟩
end Go.Proofs.YtohokfbohdoijaaGreatDoor

/- What package nat's helpers cut and copied answer, as contracts over memory: the limbs that count, in the same memory; a copy in new memory. Conditions: the argument reads as limbs, of at most 2^46 of them. -/
namespace Go.Proofs.YtohokfbohdoijaaGreatDoor
open Go.RowKit Limb
set_option linter.unusedVariables false
set_option maxHeartbeats 400000 in
theorem cut_any (A : Option Addr) (n c : Nat) (xs : List Nat) (w : World) (hx : IsN w A n xs) (hc : n ≤ c) (hm : n ≤ maxLen) :
 Calls Tryz.prog 124 #[.slice A n c] w fun e w' => e = .returned (.slice A (trim xs).length c) ∧ w = w' := by
 unfold maxLen at hm
 have hl := hx.len
 go_enter Tryz.func124, Tryz.ntmps124
 go_wp2
 go_loop [3] (fun i => ∃ k : Nat, k ≤ n ∧ i = .int .i64 k ∧ trim (xs.take k) = trim xs) (fun i => (intOf i).toNat)
 case atStart => exact ⟨n, Nat.le_refl _, rfl, by rw [List.take_of_length_le (by omega)]⟩
 case round =>
  obtain ⟨k, hk, rfl, ht⟩ := hrel
  by_cases hk0 : k = 0
  · subst hk0
    go_wp2
    go_ret
    refine ⟨?_, rfl⟩
    rw [← ht]; rfl
  · obtain ⟨b, o, rfl, hb, hcell⟩ := hx.2.2 (by omega)
    have h1 := hcell (k - 1) (by omega)
    have hlt := lim_lt hx.small (k - 1)
    by_cases hz : lim xs (k - 1) = 0
    · have h2 : trim (xs.take k) = trim (xs.take (k - 1)) := by
       have := trim_take_last (xs := xs) (k := k - 1) (by omega) hz
       rwa [Nat.sub_add_cancel (by omega)] at this
      have H2 := Lib.hid (h2.symm.trans ht)
      clear h2 ht
      rw [hz] at h1
      clear hz
      go_wp2
      go_round
      case rel => exact ⟨k - 1, by omega, by go_num, H2.out⟩
      case measure => simp [intOf]; omega
    · have h2 : trim (xs.take k) = xs.take k := by
       have := trim_take_full (xs := xs) (k := k - 1) (by omega) hz
       rwa [Nat.sub_add_cancel (by omega)] at this
      have H2 : RowKit.Hid ((trim xs).length = k) := Lib.hid (by rw [← ht, h2, List.length_take]; omega)
      clear h2 ht
      have hz' : (((lim xs (k - 1) : Nat) : Int) == 0) = false := by simp; exact hz
      go_wp2
      go_ret
      exact ⟨by rw [H2.out]; rfl, rfl⟩
theorem u32_info : (Tryz.prog.info? 84).map (fun i => (i.zero, i.size, i.bytes)) = some (some (.int .u32 0), 1, 4) := by kernel_rfl
theorem u32_size : (Tryz.prog.info? 84).map (·.size) = some 1 := by kernel_rfl
def limV (x : Nat) : Value := .int .u32 (x : Int)
theorem oneCell_u32 (xs : List Nat) : ∀ v ∈ xs.map limV, v.oneCell' = true := by
 intro v hv
 obtain ⟨x, _, rfl⟩ := List.mem_map.1 hv
 rfl
theorem map_u32_get {xs : List Nat} {j : Nat} {v : Value} (h : (xs.map limV)[j]? = some v) : j < xs.length ∧ v = limV (lim xs j) := by
 rw [List.getElem?_map] at h
 by_cases hj : j < xs.length
 · rw [List.getElem?_eq_getElem hj] at h
   simp at h
   exact ⟨hj, by rw [← h]; simp [lim, List.getD_eq_getElem?_getD, List.getElem?_eq_getElem hj]⟩
 · rw [List.getElem?_eq_none (by omega)] at h; simp at h
def OwnN (w : World) (B : Nat) (A : Option Addr) (n c : Nat) (zs : List Nat) : Prop :=
 w.ownsRow B 84 1 (.slice A n c) n (zs.map limV) ∧ Small zs
theorem OwnN.len {w : World} {B : Nat} {A : Option Addr} {n c : Nat} {zs : List Nat} (h : OwnN w B A n c zs) : zs.length = n := by
 have := h.1.1; simpa using this
theorem OwnN.small {w : World} {B : Nat} {A : Option Addr} {n c : Nat} {zs : List Nat} (h : OwnN w B A n c zs) : Small zs := h.2
theorem OwnN.isN {w : World} {B : Nat} {A : Option Addr} {n c : Nat} {zs : List Nat} (h : OwnN w B A n c zs) : IsN w A n zs := by
 refine ⟨h.len, h.2, fun hn => ?_⟩
 rcases h.1.2 with ⟨_, h0⟩ | ⟨g, cap, cur, hv, hg, hh, _⟩
 · omega
 · injection hv with hA _ hc
   subst hA
   subst hc
   refine ⟨g, 0, rfl, ?_, fun j hj => ?_⟩
   · rcases Nat.lt_or_ge g w.heap.size with hlt | hge
     · exact hlt
     · rw [Array.getElem?_eq_none hge] at hh; cases hh
   · rw [Nat.zero_add, h.1.cellAt j (by omega), List.getElem?_map, List.getElem?_eq_getElem (by rw [h.len]; exact hj)]
     simp [limV, lim, List.getD_eq_getElem?_getD, List.getElem?_eq_getElem (show j < zs.length by rw [h.len]; exact hj)]
theorem OwnN.caps {w : World} {B : Nat} {A : Option Addr} {n c : Nat} {zs : List Nat} (h : OwnN w B A n c zs) : n ≤ c ∧ c ≤ maxLen := by
 rcases h.1.2 with ⟨hv, h0⟩ | ⟨g, cap, cur, hv, hg, hh, h1, h2, _⟩
 · injection hv with _ _ hc; subst hc; subst h0; exact ⟨Nat.le_refl _, Nat.zero_le _⟩
 · injection hv with _ _ hc; subst hc; exact ⟨h1, h2⟩
theorem OwnN.nil (w : World) (B : Nat) : OwnN w B none 0 0 [] := ⟨World.ownsRow_nil _ _ _ _, small_nil⟩
set_option maxHeartbeats 400000 in
theorem copied_any (A : Option Addr) (n c : Nat) (R : Int) (r : Nat) (xs : List Nat) (w : World) (hR : R = r) (hr : r ≤ 1) (hx : IsN w A n xs) (hm : n ≤ 1000000000) :
 Calls Tryz.prog 134 #[.slice A n c, .int .i64 R] w fun e w' => ∃ A' c', e = .returned (.slice A' n c') ∧ OwnN w' w.heap.size A' n c' xs ∧ Below w.heap.size w w' ∧ (0 < n → c' = n + r) := by
 have hl := hx.len
 by_cases hn : n = 0
 · subst hn
   obtain rfl : xs = [] := List.eq_nil_of_length_eq_zero hl
   go_enter Tryz.func134, Tryz.ntmps134
   go_wp2
   go_ret
   exact ⟨none, 0, rfl, OwnN.nil _ _, Below.refl _ _, fun h => absurd h (by omega)⟩
 · obtain ⟨i0, hi, hz0, hz1, hz2⟩ := info_parts u32_info
   have hmk : ∀ W : World, (Instr.makeSlice 29 (.int .i64 (n : Int)) (.int .i64 ((n : Int) + (r : Int)))).run Tryz.prog W = .ok (.slice (some ⟨W.heap.size, 0, none⟩) n (n + r)) (W.alloc (.cells (madeCells #[.int .u32 0] (n + r)) 84)) := by
    intro W
    have h := run_make (P := Tryz.prog) W 29 84 i0 (.int .u32 0) Tryz.underlying29 hi hz0 .i64 .i64 (n : Int) ((n : Int) + (r : Int)) (by omega) (by omega) (by rw [hz2]; omega) (by omega)
    rw [hz1] at h
    have e1 : ((n : Int) + (r : Int)).toNat = n + r := by omega
    have e2 : ((n : Int)).toNat = n := by omega
    rw [e1, e2, Nat.mul_one] at h
    exact h
   subst hR
   have Hpos : RowKit.Hid (0 < (xs.map limV).length → (some (⟨w.heap.size, 0, none⟩ : Addr)) = some ⟨w.heap.size, 0, none⟩ ∧ ∃ ad, A = some ad ∧ ∀ j v, (xs.map limV)[j]? = some v →
    (w.alloc (.cells (madeCells #[.int .u32 0] (n + r)) 84)).cell? (ad.add j) = some v) := by
    intro _
    obtain ⟨b, o, rfl, hb, hcell⟩ := hx.2.2 (by omega)
    refine ⟨rfl, _, rfl, fun j v hv => ?_⟩
    obtain ⟨hj, rfl⟩ := map_u32_get hv
    have e : (⟨b, o, none⟩ : Addr).add j = ⟨b, o + j, none⟩ := by unfold Addr.add; split <;> simp_all
    rw [e, World.cell?_alloc_lt _ _ _ hb]
    exact hcell j (by omega)
   have Hg : RowKit.Hid ((w.alloc (.cells (madeCells #[.int .u32 0] (n + r)) 84)).heap[w.heap.size]? = some (.cells (List.replicate (n + r) (Value.int .u32 0)).toArray 84 (0, 0))) := by
    show _ = _
    rw [heap_alloc_new, ← toList_madeCells_one]
   have Hn : RowKit.Hid ((xs.map limV).length = Nat.min n n) := by show _ = _; simp [hl]
   have Hfit : RowKit.Hid (0 + (xs.map limV).length ≤ (List.replicate (n + r) (Value.int .u32 0)).length) := by show _ ≤ _; simp; omega
   have Hb : RowKit.Hid (Below w.heap.size w (w.alloc (.cells (madeCells #[.int .u32 0] (n + r)) 84))) := (Below.refl _ _).alloc (Nat.le_refl _) _
   have hne : ((n : Int) == 0) = false := by simp; omega
   go_enter Tryz.func134, Tryz.ntmps134
   go_wp2_with (with_reducible refine wpList_copy_splice rfl (.tmp 16) (.tmp 17) 29 29 rfl 84 Tryz.underlying29 u32_size (some ⟨w.heap.size, 0, none⟩) A n (n + r) n c rfl rfl w.heap.size 0 (List.replicate (n + r) (Value.int .u32 0)) 84 Hg.out (xs.map limV) Hn.out Hpos.out Hfit.out (oneCell_u32 xs) w.heap.size w Hb.out (Nat.le_refl _) ?_)
   intro w1 hg1 hb1
   go_wp2
   go_ret
   refine ⟨_, _, rfl, ⟨⟨by simp [hl], .inr ⟨w.heap.size, n + r, _, rfl, Nat.le_refl _, hg1.out, by omega, by unfold maxLen; omega, ?_, ?_⟩⟩, hx.small⟩, hb1, fun _ => rfl⟩
   · simp [splice, hl]
   · simp [splice, hl]
end Go.Proofs.YtohokfbohdoijaaGreatDoor

/- What the statements' keep.Nat, keep.OwnNat, Long and package nat's Trim, Of and Cmp answer, as contracts over memory. Conditions: arguments read as limbs, of at most 10^9 of them. -/
namespace Go.Proofs.YtohokfbohdoijaaGreatDoor
open Go.RowKit Limb
set_option linter.unusedVariables false
theorem below_drewN {B : Nat} {a w : World} (h : Below B a w) (n : Nat) : Below B a (w.drewN n) := ⟨h.os, h.tape, h.output, h.size, h.block⟩
theorem lim_ext {xs ys : List Nat} (hl : xs.length = ys.length) (h : ∀ j, j < xs.length → lim xs j = lim ys j) : xs = ys := by
 refine List.ext_getElem hl fun j h1 h2 => ?_
 have := h j h1
 simpa [lim, List.getD_eq_getElem?_getD, List.getElem?_eq_getElem h1, List.getElem?_eq_getElem h2] using this
def same (xs ys : List Nat) : Bool := decide (xs = ys)
theorem same_false_of_len {xs ys : List Nat} (h : xs.length ≠ ys.length) : same xs ys = false := by
 unfold same; rw [decide_eq_false_iff_not]; rintro rfl; exact h rfl
theorem same_false_of_lim {xs ys : List Nat} {j : Nat} (h : lim xs j ≠ lim ys j) : same xs ys = false := by
 unfold same; rw [decide_eq_false_iff_not]; rintro rfl; exact h rfl
theorem same_true {xs ys : List Nat} (hl : xs.length = ys.length) (h : ∀ j, j < xs.length → lim xs j = lim ys j) : same xs ys = true := by
 unfold same; rw [decide_eq_true_eq]; exact lim_ext hl h
set_option maxHeartbeats 400000 in
theorem keepNat_any (A : Option Addr) (n c : Nat) (xs : List Nat) (A' : Option Addr) (n' c' : Nat) (ys : List Nat) (w : World) (hx : IsN w A n xs) (hy : IsN w A' n' ys) (hm : n ≤ 1000000000) (hm' : n' ≤ 1000000000) :
 Calls Tryz.prog 63 #[.slice A n c, .slice A' n' c'] w fun e w' => e = .returned (.bool (same xs ys)) ∧ Below w.heap.size w w' := by
 have hl := hx.len
 have hl' := hy.len
 by_cases hn : n = n'
 · subst hn
   have hne : ((n : Int) != (n : Int)) = false := by simp
   go_enter Tryz.func63, Tryz.ntmps63
   go_wp2
   go_loopw [5] (fun i wr => ∃ k : Nat, k ≤ n ∧ i = .int .i64 k ∧ (∀ j, j < k → lim xs j = lim ys j) ∧ Below w.heap.size w wr) (fun i _ => n - (intOf i).toNat)
   case atStart => exact ⟨0, Nat.zero_le _, rfl, fun j hj => absurd hj (by omega), Below.refl _ _⟩
   case round =>
    obtain ⟨k, hk, rfl, heq, hbel⟩ := hrel
    have Heq := Lib.hid heq
    clear heq
    by_cases hkn : k < n
    · obtain ⟨b, o, hA, hb, hcell⟩ := hx.2.2 (by omega)
      obtain ⟨b', o', hA', hb', hcell'⟩ := hy.2.2 (by omega)
      have h1 : wr.cell? ⟨b, o + k, none⟩ = some (.int .u32 ((lim xs k : Nat) : Int)) := (hbel.cell (p := ⟨b, o + k, none⟩) hb).trans (hcell k hkn)
      have h2 : wr.cell? ⟨b', o' + k, none⟩ = some (.int .u32 ((lim ys k : Nat) : Int)) := (hbel.cell (p := ⟨b', o' + k, none⟩) hb').trans (hcell' k hkn)
      subst hA
      subst hA'
      by_cases hq : lim xs k = lim ys k
      · have hq' : (((lim xs k : Nat) : Int) != ((lim ys k : Nat) : Int)) = false := by simp [hq]
        have Hq := Lib.hid hq
        clear hq
        go_wp2
        go_quiet (fail)
        go_wp2
        go_roundw
        case rel => exact ⟨k + 1, by omega, by go_num, fun j hj => by
         rcases Nat.lt_or_ge j k with h | h
         · exact Heq.out j h
         · have : j = k := by omega
           subst this; exact Hq.out, below_drewN hbel _⟩
        case measure => simp [intOf]; omega
      · have hq' : (((lim xs k : Nat) : Int) != ((lim ys k : Nat) : Int)) = true := by simp; omega
        have Hq := Lib.hid (same_false_of_lim hq)
        clear hq
        go_wp2
        go_quiet (fail)
        go_wp2
        go_ret
        exact ⟨by rw [Hq.out]; rfl, below_drewN hbel _⟩
    · have hkn : k = n := by omega
      subst hkn
      have Hs := Lib.hid (same_true (by omega) (fun j hj => Heq.out j (by omega)))
      go_wp2
      go_ret
      exact ⟨by rw [Hs.out]; rfl, hbel⟩
 · have hne : ((n : Int) != (n' : Int)) = true := by simp; omega
   have Hs := Lib.hid (same_false_of_len (xs := xs) (ys := ys) (by omega))
   go_enter Tryz.func63, Tryz.ntmps63
   go_wp2
   go_ret
   exact ⟨by rw [Hs.out]; rfl, Below.refl _ _⟩
theorem trim_any (A : Option Addr) (n c : Nat) (xs : List Nat) (w : World) (hx : IsN w A n xs) (hc : n ≤ c) (hm : n ≤ 1000000000) :
 Calls Tryz.prog 102 #[.slice A n c] w fun e w' => ∃ A' n' c', e = .returned (.slice A' n' c') ∧ OwnN w' w.heap.size A' n' c' (trim xs) ∧ Below w.heap.size w w' := by
 have hlt := trim_len_le xs
 have hl := hx.len
 have hx' := IsN.take hx (m := (trim xs).length) (by omega)
 rw [← trim_take xs] at hx'
 have Hl := Lib.hid hl
 clear hl
 go_enter Tryz.func102, Tryz.ntmps102
 go_wp2_with fail
 refine (cut_any A n c xs w hx hc (by unfold maxLen; omega)).mono ?_
 rintro e w1 ⟨rfl, rfl⟩
 go_wp2_with fail
 refine (copied_any A (trim xs).length c 0 0 (trim xs) w rfl (by omega) hx' (by have := Hl.out; omega)).mono ?_
 rintro e w1 ⟨A', c', rfl, hown, hbel, _⟩
 go_wp2
 go_ret
 exact ⟨_, _, _, rfl, hown, hbel⟩
theorem isN_lit (w : World) (zs : List Nat) (h : Small zs) : IsN (w.alloc (.cells (zs.map limV).toArray 84)) (some ⟨w.heap.size, 0, none⟩) zs.length zs := by
 refine ⟨rfl, h, fun hn => ⟨w.heap.size, 0, rfl, by simp, fun j hj => ?_⟩⟩
 rw [Nat.zero_add, World.cell?_alloc_at _ _ _ _ rfl]
 simp [lim, limV, List.getElem?_eq_getElem hj]
theorem OwnN.mono {w : World} {B B' : Nat} {A : Option Addr} {n c : Nat} {zs : List Nat} (h : OwnN w B A n c zs) (hB : B' ≤ B) : OwnN w B' A n c zs := by
 refine ⟨⟨h.1.1, ?_⟩, h.2⟩
 rcases h.1.2 with h2 | ⟨g, cap, cur, hv, hg, r⟩
 · exact .inl h2
 · exact .inr ⟨g, cap, cur, hv, Nat.le_trans hB hg, r⟩
theorem of_any (v : Int) (w : World) (h0 : 0 ≤ v) (h1 : v < 18446744073709551616) :
 Calls Tryz.prog 66 #[.int .u64 v] w fun e w' => ∃ A' n' c', e = .returned (.slice A' n' c') ∧ OwnN w' w.heap.size A' n' c' (limbs v.toNat) ∧ Below w.heap.size w w' := by
 go_enter Tryz.func66, Tryz.ntmps66
 go_wp2_with fail
 obtain ⟨v, rfl⟩ := Int.eq_ofNat_of_zero_le h0
 have e : (#[Value.int IntKind.u32 ((v : Int) % 4294967296), Value.int IntKind.u32 ((v : Int) / 4294967296)] : Array Value) = ([v % 4294967296, v / 4294967296].map limV).toArray := rfl
 have hs : Small [v % 4294967296, v / 4294967296] := by
  intro x hx
  simp at hx
  omega
 have hv : trim [v % 4294967296, v / 4294967296] = limbs ((v : Int)).toNat := by
  rw [trim_eq_limbs hs]
  congr 1
  simp [val]
  omega
 rw [e]
 refine (trim_any _ 2 2 [v % 4294967296, v / 4294967296] _ (isN_lit w [v % 4294967296, v / 4294967296] hs) (by omega) (by omega)).mono ?_
 rintro e w1 ⟨A', n', c', rfl, hown, hbel⟩
 rw [hv] at hown
 have hb : Below w.heap.size w w1 := ((Below.refl _ _).alloc (Nat.le_refl _) _).trans (hbel.mono (by simp))
 have hown' : OwnN w1 w.heap.size A' n' c' (limbs ((v : Int)).toNat) := hown.mono (by simp)
 clear hown hbel hv
 go_wp2
 go_ret
 exact ⟨_, _, _, rfl, hown', hb⟩
end Go.Proofs.YtohokfbohdoijaaGreatDoor

/- What package nat's Cmp answers, as a contract over memory: the order of the numbers that both lists tell. Conditions: both read as limbs, of at most 10^9 of them. -/
namespace Go.Proofs.YtohokfbohdoijaaGreatDoor
open Go.RowKit Limb
set_option linter.unusedVariables false
def cmpI (a b : Nat) : Int := if a < b then -1 else if a = b then 0 else 1
theorem cmpI_lt {a b : Nat} (h : a < b) : cmpI a b = -1 := by simp [cmpI, h]
theorem cmpI_gt {a b : Nat} (h : b < a) : cmpI a b = 1 := by unfold cmpI; rw [if_neg (by omega), if_neg (by omega)]
theorem cmpI_eq (a : Nat) : cmpI a a = 0 := by simp [cmpI]
theorem order_quiet (b : Bool) (w : World) : Calls Tryz.prog 125 #[.bool b] w fun e w' => e = .returned (.int .i64 (if b then -1 else 1)) ∧ w' = w :=
 (order_any b w).mono fun _ _ h => ⟨h.1, h.2.symm⟩
theorem order_true (w : World) : Calls Tryz.prog 125 #[.bool true] w fun e w' => e = .returned (.int .i64 (-1)) ∧ w' = w := order_quiet true w
theorem order_false (w : World) : Calls Tryz.prog 125 #[.bool false] w fun e w' => e = .returned (.int .i64 1) ∧ w' = w := order_quiet false w
set_option maxHeartbeats 800000 in
theorem cmp_any (A : Option Addr) (n c : Nat) (xs : List Nat) (A' : Option Addr) (n' c' : Nat) (ys : List Nat) (w : World) (hx : IsN w A n xs) (hy : IsN w A' n' ys) (hm : n ≤ 1000000000) (hm' : n' ≤ 1000000000) (hc : n ≤ c) (hc' : n' ≤ c') :
 Calls Tryz.prog 94 #[.slice A n c, .slice A' n' c'] w fun e w' => e = .returned (.int .i64 (cmpI (val xs) (val ys))) ∧ Below w.heap.size w w' := by
 have hlt := trim_len_le xs
 have hlt' := trim_len_le ys
 have hl := hx.len
 have hl' := hy.len
 have hx' := IsN.take hx (m := (trim xs).length) (by omega)
 rw [← trim_take xs] at hx'
 have hy' := IsN.take hy (m := (trim ys).length) (by omega)
 rw [← trim_take ys] at hy'
 have ex := trim_eq_limbs hx.small
 have ey := trim_eq_limbs hy.small
 have hb : (trim xs).length ≤ 1000000000 := by omega
 have hb' : (trim ys).length ≤ 1000000000 := by omega
 have Hl := Lib.hid ex
 have Hl' := Lib.hid ey
 clear hl hl' ex ey hlt hlt'
 go_enter Tryz.func94, Tryz.ntmps94
 go_wp2_with fail
 refine (cut_any A n c xs w hx hc (by unfold maxLen; omega)).mono ?_
 rintro e w1 ⟨rfl, rfl⟩
 go_wp2_with fail
 refine (cut_any A' n' c' ys w hy hc' (by unfold maxLen; omega)).mono ?_
 rintro e w1 ⟨rfl, rfl⟩
 generalize trim xs = xs' at *
 generalize trim ys = ys' at *
 clear hx hy
 by_cases hlen : xs'.length = ys'.length
 · have hne : (((xs'.length : Nat) : Int) != ((ys'.length : Nat) : Int)) = false := by simp [hlen]
   have Hlen := Lib.hid hlen
   clear hlen
   go_wp2
   go_loopw [5] (fun i wr => ∃ k : Nat, k ≤ xs'.length ∧ i = .int .i64 ((k : Int) - 1) ∧ (∀ j, k ≤ j → j < xs'.length → lim xs' j = lim ys' j) ∧ Below w.heap.size w wr) (fun i _ => (intOf i + 1).toNat)
   case atStart => exact ⟨xs'.length, Nat.le_refl _, rfl, fun j h1 h2 => absurd h1 (by omega), Below.refl _ _⟩
   case round =>
    obtain ⟨k, hk, rfl, heq, hbel⟩ := hrel
    have Heq := Lib.hid heq
    clear heq
    by_cases hk0 : k = 0
    · subst hk0
      have e : RowKit.Hid (cmpI (val xs) (val ys) = 0) := by
       have h1 : xs' = ys' := lim_ext Hlen.out (fun j hj => Heq.out j (by omega) hj)
       have h2 : val xs = val ys := limbs_inj (by rw [← Hl.out, ← Hl'.out, h1])
       rw [h2]; exact cmpI_eq _
      go_wp2
      go_ret
      exact ⟨by rw [e.out]; rfl, hbel⟩
    · obtain ⟨b1, o, hA, hb1, hcell⟩ := hx'.2.2 (by omega)
      obtain ⟨b2, o', hA', hb2, hcell'⟩ := hy'.2.2 (by have := Hlen.out; omega)
      have h1 : wr.cell? ⟨b1, o + (k - 1), none⟩ = some (.int .u32 ((lim xs' (k - 1) : Nat) : Int)) := (hbel.cell (p := ⟨b1, o + (k - 1), none⟩) hb1).trans (hcell (k - 1) (by omega))
      have h2 : wr.cell? ⟨b2, o' + (k - 1), none⟩ = some (.int .u32 ((lim ys' (k - 1) : Nat) : Int)) := (hbel.cell (p := ⟨b2, o' + (k - 1), none⟩) hb2).trans (hcell' (k - 1) (by have := Hlen.out; omega))
      have hk2 : k ≤ ys'.length := by have := Hlen.out; omega
      subst hA
      subst hA'
      by_cases hq : lim xs' (k - 1) = lim ys' (k - 1)
      · have hq' : (((lim xs' (k - 1) : Nat) : Int) != ((lim ys' (k - 1) : Nat) : Int)) = false := by simp [hq]
        have Hq := Lib.hid hq
        clear hq
        go_wp2
        go_quiet (fail)
        go_wp2
        go_roundw
        case rel => exact ⟨k - 1, by omega, by go_num, fun j h1 h2 => by
         rcases Nat.lt_or_ge j k with h | h
         · have : j = k - 1 := by omega
           subst this; exact Hq.out
         · exact Heq.out j h h2, below_drewN hbel _⟩
        case measure => simp [intOf]; omega
      · have hq' : (((lim xs' (k - 1) : Nat) : Int) != ((lim ys' (k - 1) : Nat) : Int)) = true := by simp; omega
        by_cases ho : lim xs' (k - 1) < lim ys' (k - 1)
        · have e : RowKit.Hid (cmpI (val xs) (val ys) = -1) := by
           have h1 := val_lt_of_lim (xs := xs') (ys := ys') hx'.small Hlen.out (k := k - 1) (by omega) ho (fun j h1 h2 => Heq.out j (by omega) h2)
           rw [Hl.out, Hl'.out, val_limbs, val_limbs] at h1
           exact cmpI_lt h1
          go_wp2
          go_quiet (fail)
          have h1' : (wr.drewN nq).cell? ⟨b1, o + (k - 1), none⟩ = some (.int .u32 ((lim xs' (k - 1) : Nat) : Int)) := h1
          have h2' : (wr.drewN nq).cell? ⟨b2, o' + (k - 1), none⟩ = some (.int .u32 ((lim ys' (k - 1) : Nat) : Int)) := h2
          have hbel' := below_drewN hbel nq
          clear h1 h2 hbel
          generalize wr.drewN nq = wq at *
          go_wp2
          go_quiet ((go_at_call 125; exact Calls.quiet_of_same (order_true _)))
          go_wp2
          go_ret
          exact ⟨by rw [e.out]; rfl, below_drewN hbel' _⟩
        · have ho' : decide (((lim xs' (k - 1) : Nat) : Int) < ((lim ys' (k - 1) : Nat) : Int)) = false := by simp; omega
          have e : RowKit.Hid (cmpI (val xs) (val ys) = 1) := by
           have h1 := val_lt_of_lim (xs := ys') (ys := xs') hy'.small Hlen.out.symm (k := k - 1) (by omega) (show lim ys' (k - 1) < lim xs' (k - 1) by omega) (fun j h1 h2 => (Heq.out j (by omega) (by have := Hlen.out; omega)).symm)
           rw [Hl.out, Hl'.out, val_limbs, val_limbs] at h1
           exact cmpI_gt h1
          go_wp2
          go_quiet (fail)
          have h1' : (wr.drewN nq).cell? ⟨b1, o + (k - 1), none⟩ = some (.int .u32 ((lim xs' (k - 1) : Nat) : Int)) := h1
          have h2' : (wr.drewN nq).cell? ⟨b2, o' + (k - 1), none⟩ = some (.int .u32 ((lim ys' (k - 1) : Nat) : Int)) := h2
          have hbel' := below_drewN hbel nq
          clear h1 h2 hbel
          generalize wr.drewN nq = wq at *
          go_wp2
          go_quiet ((go_at_call 125; exact Calls.quiet_of_same (order_false _)))
          go_wp2
          go_ret
          exact ⟨by rw [e.out]; rfl, below_drewN hbel' _⟩
 · have hne : (((xs'.length : Nat) : Int) != ((ys'.length : Nat) : Int)) = true := by simp; omega
   by_cases ho : xs'.length < ys'.length
   · have e : RowKit.Hid (cmpI (val xs) (val ys) = -1) := by
      refine cmpI_lt (Nat.lt_of_not_le fun h => ?_)
      have := length_limbs_mono h
      rw [← Hl.out, ← Hl'.out] at this
      omega
     go_wp2_with (go_at_call 125; refine (order_true _).mono ?_; rintro e w1 ⟨rfl, rfl⟩)
     go_ret
     exact ⟨by rw [e.out]; rfl, Below.refl _ _⟩
   · have e : RowKit.Hid (cmpI (val xs) (val ys) = 1) := by
      refine cmpI_gt (Nat.lt_of_not_le fun h => ?_)
      have := length_limbs_mono h
      rw [← Hl.out, ← Hl'.out] at this
      omega
     have ho' : decide (((xs'.length : Nat) : Int) < ((ys'.length : Nat) : Int)) = false := by simp; omega
     go_wp2_with (go_at_call 125; refine (order_false _).mono ?_; rintro e w1 ⟨rfl, rfl⟩)
     go_ret
     exact ⟨by rw [e.out]; rfl, Below.refl _ _⟩
end Go.Proofs.YtohokfbohdoijaaGreatDoor

/- What package nat's Add answers, as a contract over memory: the sum of the numbers that both lists tell, in its shortest limbs, in new memory. Conditions: both read as limbs, of at most 10^9 of them. -/
namespace Go.Proofs.YtohokfbohdoijaaGreatDoor
open Go.RowKit Limb
set_option linter.unusedVariables false
theorem add32_nat (x y c : Nat) (w : World) (hx : x < 4294967296) (hy : y < 4294967296) (hc : c ≤ 1) :
 Calls Tryz.prog 196 #[.int .u32 (x : Int), .int .u32 (y : Int), .int .u32 (c : Int)] w fun e w' => e = .returned (.tuple #[.int .u32 ((sumLo x y c : Nat) : Int), .int .u32 ((sumHi x y c : Nat) : Int)]) ∧ w = w' := by
 refine (add32_any (x : Int) (y : Int) (c : Int) w (by omega) (by omega) (by omega)).mono ?_
 rintro e w' ⟨rfl, rfl⟩
 refine ⟨?_, rfl⟩
 have e1 : ((x : Int) + (y : Int) + (c : Int)) % 4294967296 = ((sumLo x y c : Nat) : Int) := by unfold sumLo; omega
 have e2 : ((x : Int) + (y : Int) + (c : Int)) / 4294967296 = ((sumHi x y c : Nat) : Int) := by unfold sumHi; omega
 rw [e1, e2]
theorem OwnN.addr {w : World} {B : Nat} {A : Option Addr} {n c : Nat} {zs : List Nat} (h : OwnN w B A n c zs) (hn : 0 < n) : ∃ g, A = some ⟨g, 0, none⟩ ∧ B ≤ g ∧ g < w.heap.size := by
 rcases h.1.2 with ⟨_, h0⟩ | ⟨g, cap, cur, hv, hg, hh, _⟩
 · omega
 · injection hv with hA
   refine ⟨g, hA, hg, ?_⟩
   rcases Nat.lt_or_ge g w.heap.size with hlt | hge
   · exact hlt
   · rw [Array.getElem?_eq_none hge] at hh; cases hh
theorem OwnN.cell {w : World} {B g n c : Nat} {zs : List Nat} (h : OwnN w B (some ⟨g, 0, none⟩) n c zs) {k : Nat} (hk : k < n) : w.cell? ⟨g, k, none⟩ = some (.int .u32 ((lim zs k : Nat) : Int)) := by
 have hl := h.len
 rw [h.1.cellAt k (by omega), List.getElem?_map, List.getElem?_eq_getElem (by omega)]
 simp [limV, lim, List.getD_eq_getElem?_getD, List.getElem?_eq_getElem (show k < zs.length by omega)]
theorem OwnN.set {w : World} {B g n c : Nat} {zs : List Nat} (h : OwnN w B (some ⟨g, 0, none⟩) n c zs) (k : Nat) {v : Nat} (hv : v < 4294967296) :
 OwnN (w.setCell ⟨g, k, none⟩ (.int .u32 ((v : Nat) : Int))) B (some ⟨g, 0, none⟩) n c (zs.set k v) := by
 have := (h.1.stored k (limV v)).1
 rw [← List.map_set] at this
 exact ⟨this, small_set h.2 k v hv⟩
theorem OwnN.below {w w' : World} {B C : Nat} {A : Option Addr} {n c : Nat} {zs : List Nat} (h : OwnN w B A n c zs) (hb : Below C w w') (hC : w.heap.size ≤ C) : OwnN w' B A n c zs := by
 refine ⟨⟨h.1.1, ?_⟩, h.2⟩
 rcases h.1.2 with h2 | ⟨g, cap, cur, hv, hg, hh, r⟩
 · exact .inl h2
 · refine .inr ⟨g, cap, cur, hv, hg, ?_, r⟩
   have hlt : g < w.heap.size := by
    rcases Nat.lt_or_ge g w.heap.size with hlt | hge
    · exact hlt
    · rw [Array.getElem?_eq_none hge] at hh; cases hh
   rw [hb.block g (by omega)]
   exact hh
theorem shape_own {w : World} {B : Nat} {v : Value} {n : Nat} {zs : List Nat} (h : w.ownsRow B 84 1 v n (zs.map limV)) (hs : Small zs) : ∃ A c, v = .slice A n c ∧ OwnN w B A n c zs := by
 rcases h.2 with ⟨rfl, rfl⟩ | ⟨g, cap, cur, rfl, hg, r⟩
 · exact ⟨none, 0, rfl, h, hs⟩
 · exact ⟨_, cap, rfl, h, hs⟩
end Go.Proofs.YtohokfbohdoijaaGreatDoor

/- What package nat's Sub answers, as a contract over memory: the difference, where the first number is not below the second, in its shortest limbs, in new memory; else none. Conditions: both read as limbs, of at most 10^9 of them. -/
namespace Go.Proofs.YtohokfbohdoijaaGreatDoor
open Go.RowKit Limb
set_option linter.unusedVariables false
theorem sub32_nat (x y c : Nat) (w : World) (hx : x < 4294967296) (hy : y < 4294967296) (hc : c ≤ 1) :
 Calls Tryz.prog 195 #[.int .u32 (x : Int), .int .u32 (y : Int), .int .u32 (c : Int)] w fun e w' => e = .returned (.tuple #[.int .u32 ((diffLo x y c : Nat) : Int), .int .u32 ((diffHi x y c : Nat) : Int)]) ∧ w = w' := by
 refine (sub32_any (x : Int) (y : Int) (c : Int) w (by omega) (by omega) (by omega)).mono ?_
 rintro e w' ⟨rfl, rfl⟩
 refine ⟨?_, rfl⟩
 have e1 : ((x : Int) - (y : Int) - (c : Int)) % 4294967296 = ((diffLo x y c : Nat) : Int) := by unfold diffLo; omega
 have e2 : bor (x : Int) (y : Int) (c : Int) = ((diffHi x y c : Nat) : Int) := by
  unfold bor diffHi
  by_cases h : x < y + c
  · rw [if_pos h, if_pos (by omega)]; rfl
  · rw [if_neg h, if_neg (by omega)]; rfl
 rw [e1, e2]
theorem cmp_is (A : Option Addr) (n c : Nat) (xs : List Nat) (A' : Option Addr) (n' c' : Nat) (ys : List Nat) (w : World) (v : Int) (hv : cmpI (val xs) (val ys) = v) (hx : IsN w A n xs) (hy : IsN w A' n' ys) (hm : n ≤ 1000000000) (hm' : n' ≤ 1000000000) (hc : n ≤ c) (hc' : n' ≤ c') :
 Calls Tryz.prog 94 #[.slice A n c, .slice A' n' c'] w fun e w' => e = .returned (.int .i64 v) ∧ Below w.heap.size w w' := by
 subst hv
 exact cmp_any A n c xs A' n' c' ys w hx hy hm hm' hc hc'
theorem OwnN.take {w : World} {B : Nat} {A : Option Addr} {n c m : Nat} {zs : List Nat} (h : OwnN w B A n c zs) (hm : m ≤ n) : OwnN w B A m c (zs.take m) := by
 have hl := h.len
 refine ⟨⟨by simp; omega, ?_⟩, small_take h.2 _⟩
 rcases h.1.2 with ⟨hv, h0⟩ | ⟨g, cap, cur, hv, hg, hh, h1, h2, h3, h4⟩
 · injection hv with hA hn hc
   subst hA hc
   left
   exact ⟨by congr 1; omega, by omega⟩
 · injection hv with hA hn hc
   subst hA hc
   refine .inr ⟨g, c, cur, rfl, hg, hh, by omega, h2, h3, ?_⟩
   rw [List.map_take, ← h4, List.take_take]
   congr 1
   omega
theorem val_trim {xs : List Nat} (h : Small xs) : val (trim xs) = val xs := by rw [trim_eq_limbs h, val_limbs]
end Go.Proofs.YtohokfbohdoijaaGreatDoor

/- What package nat's Bits and Bit answer, as contracts over memory: how many bits the number has that a list tells, and each bit. Conditions: the list reads as limbs, of at most 10^9 of them. -/
namespace Go.Proofs.YtohokfbohdoijaaGreatDoor
open Go.RowKit Limb
set_option linter.unusedVariables false
theorem bitLen_blen (x : Nat) (h : x < 2 ^ 64) : Lib.bitLen x = blen x := by
 induction x using Nat.strongRecOn with
 | ind x ih =>
  by_cases h0 : x = 0
  · subst h0; rw [blen_zero]; rfl
  · rw [Lib.bitLen_half x h0 h, blen_pos h0, ih (x / 2) (by omega) (by omega)]
theorem len8tab_size : ((Lib.len8tab.size : Nat) : Int) = 256 := by
 have : Lib.len8tab.size = 256 := by decide +kernel
 omega
theorem len8_byte (y : Int) (h : y.toNat < Lib.len8tab.size) (h0 : 0 ≤ y) (h1 : y ≤ 255) : (Lib.len8tab[y.toNat]'h).toNat = Lib.bitLen y.toNat := by
 have e := Lib.len8_of y h0 h1
 unfold Lib.len8 at e
 rw [getElem?_pos Lib.len8tab y.toNat h] at e
 have : ((((Lib.len8tab[y.toNat]'h)).toNat : Nat) : Int) = ((Lib.bitLen y.toNat : Nat) : Int) := e
 omega
theorem wrap_len (k a b : Nat) (hk : k ≤ 56) (ha : a ≤ 8) (hb : b = k + a) : wrap64 ((k : Int) + wrap64 (a : Int)) = (b : Int) := by
 unfold wrap64
 omega
theorem wrap_len0 (a b : Nat) (ha : a ≤ 8) (hb : b = a) : wrap64 (wrap64 (a : Int)) = (b : Int) := by
 unfold wrap64
 omega
theorem size_bound (y : Int) (h1 : y ≤ 255) : y.toNat < Lib.len8tab.size := by
 have := len8tab_size
 omega
set_option maxHeartbeats 4000000 in
set_option maxRecDepth 100000 in
theorem len32_any (x : Int) (w : World) (h0 : 0 ≤ x) (h1 : x ≤ 4294967295) :
 Calls Tryz.prog 129 #[.int .u32 x] w fun e w' => e = .returned (.int .i64 ((blen x.toNat : Nat) : Int)) ∧ w = w' := by
 rw [← bitLen_blen x.toNat (by omega)]
 have hsz := len8tab_size
 by_cases c1 : x < 65536
 · by_cases c2 : x < 256
   · have e := len8_byte x (size_bound _ (by omega)) (by omega) (by omega)
     have l := Lib.bitLen_le8' x (by omega) (by omega)
     have H := Lib.hid (wrap_len0 _ (Lib.bitLen x.toNat) (e ▸ l) e.symm)
     clear e
     go_enter Tryz.func129, Tryz.ntmps129
     go_wp2
     go_ret
     exact ⟨ret_int H.out, rfl⟩
   · have e := len8_byte (x / 256) (size_bound _ (by omega)) (by omega) (by omega)
     have l := Lib.bitLen_le8' (x / 256) (by omega) (by omega)
     have s := Lib.bitLen_shift8 x.toNat (by omega) (by omega)
     rw [show x.toNat / 256 = (x / 256).toNat by omega] at s
     have H := Lib.hid (wrap_len 8 _ (Lib.bitLen x.toNat) (by omega) (e ▸ l) (by rw [e]; exact s))
     clear e s
     go_enter Tryz.func129, Tryz.ntmps129
     go_wp2
     go_ret
     exact ⟨ret_int H.out, rfl⟩
 · by_cases c2 : x < 16777216
   · have e := len8_byte (x / 65536) (size_bound _ (by omega)) (by omega) (by omega)
     have l := Lib.bitLen_le8' (x / 65536) (by omega) (by omega)
     have s := Lib.bitLen_shift16 x.toNat (by omega) (by omega)
     rw [show x.toNat / 65536 = (x / 65536).toNat by omega] at s
     have H := Lib.hid (wrap_len 16 _ (Lib.bitLen x.toNat) (by omega) (e ▸ l) (by rw [e]; exact s))
     clear e s
     go_enter Tryz.func129, Tryz.ntmps129
     go_wp2
     go_ret
     exact ⟨ret_int H.out, rfl⟩
   · have e := len8_byte (x / 65536 / 256) (size_bound _ (by omega)) (by omega) (by omega)
     have l := Lib.bitLen_le8' (x / 65536 / 256) (by omega) (by omega)
     have s := Lib.bitLen_shift24 x.toNat (by omega) (by omega)
     rw [show x.toNat / 16777216 = (x / 65536 / 256).toNat by omega] at s
     have H := Lib.hid (wrap_len 24 _ (Lib.bitLen x.toNat) (by omega) (e ▸ l) (by rw [e]; exact s))
     clear e s
     go_enter Tryz.func129, Tryz.ntmps129
     go_wp2
     go_ret
     exact ⟨ret_int H.out, rfl⟩
set_option maxHeartbeats 400000 in
theorem bits_any (A : Option Addr) (n c : Nat) (xs : List Nat) (w : World) (hx : IsN w A n xs) (hc : n ≤ c) (hm : n ≤ 1000000000) :
 Calls Tryz.prog 96 #[.slice A n c] w fun e w' => e = .returned (.int .i64 ((blen (val xs) : Nat) : Int)) ∧ w = w' := by
 have hlt := trim_len_le xs
 have hl := hx.len
 have hx' := IsN.take hx (m := (trim xs).length) (by omega)
 rw [← trim_take xs] at hx'
 have Vx := Lib.hid (val_trim hx.small)
 have Ex := Lib.hid (trim_eq_limbs hx.small)
 have hb : (trim xs).length ≤ 1000000000 := by omega
 by_cases h0 : (trim xs).length = 0
 · have H : RowKit.Hid (blen (val xs) = 0) := by
    have e := List.eq_nil_of_length_eq_zero h0
    rw [Ex.out, limbs_eq_nil] at e
    show _ = _
    rw [e, blen_zero]
   rw [h0] at hlt
   have H0 := Lib.hid h0
   clear hl h0
   go_enter Tryz.func96, Tryz.ntmps96
   go_wp2_with fail
   refine (cut_any A n c xs w hx hc (by unfold maxLen; omega)).mono ?_
   rintro e w1 ⟨rfl, rfl⟩
   rw [H0.out]
   go_wp2
   go_ret
   exact ⟨by rw [H.out]; rfl, rfl⟩
 · obtain ⟨b, o, hA, hb1, hcell⟩ := hx'.2.2 (by omega)
   subst hA
   have h1 := hcell ((trim xs).length - 1) (by omega)
   have hlt32 := lim_lt hx'.small ((trim xs).length - 1)
   have hbl := (blen_spec (n := lim (trim xs) ((trim xs).length - 1)))
   have hne : lim (trim xs) ((trim xs).length - 1) ≠ 0 := by
    intro hz
    have h2 := trim_take_last (xs := trim xs) (k := (trim xs).length - 1) (by omega) hz
    rw [Nat.sub_add_cancel (by omega), List.take_of_length_le (Nat.le_refl _)] at h2
    have h3 := trim_len_le ((trim xs).take ((trim xs).length - 1))
    rw [← h2, trim_eq_limbs hx'.small, Vx.out, ← Ex.out, List.length_take] at h3
    omega
   have H : RowKit.Hid (((trim xs).length - 1) * 32 + blen (lim (trim xs) ((trim xs).length - 1)) = blen (val xs)) := by
    show _ = _
    rw [← Vx.out, blen_limbs (k := (trim xs).length - 1) (by omega) hne hx'.small]
    omega
   have hbl32 : blen (lim (trim xs) ((trim xs).length - 1)) ≤ 32 := by
    rw [← bitLen_blen _ (by omega)]
    exact Lib.bitLen_le _ 32 (by omega) (by omega)
   have hbz : ((((trim xs).length : Nat) : Int) == 0) = false := by simp; exact fun h => h0 (by rw [h]; rfl)
   clear hl hne
   go_enter Tryz.func96, Tryz.ntmps96
   go_wp2_with fail
   refine (cut_any (some ⟨b, o, none⟩) n c xs w hx hc (by unfold maxLen; omega)).mono ?_
   rintro e w1 ⟨rfl, rfl⟩
   generalize (trim xs).length = m at *
   generalize lim (trim xs) (m - 1) = t at *
   go_wp2_with fail
   refine (len32_any (t : Int) w (by omega) (by omega)).mono ?_
   rintro e w1 ⟨rfl, rfl⟩
   rw [Int.toNat_natCast]
   go_wp2
   go_ret
   refine ⟨ret_int ?_, rfl⟩
   rw [← H.out]
   omega
end Go.Proofs.YtohokfbohdoijaaGreatDoor

/- The contracts of package nat and of the statements' helpers in one form: a slice reads as limbs that tell a number, within its capacity and a known length; answers are in the shortest limbs. Conditions: at most 10^9 limbs. -/
namespace Go.Proofs.YtohokfbohdoijaaGreatDoor
open Go.RowKit Limb
set_option linter.unusedVariables false
structure NN (w : World) (A : Option Addr) (n c : Nat) (xs : List Nat) (a L : Nat) : Prop where
 isN : IsN w A n xs
 val : Limb.val xs = a
 cap : n ≤ c
 le : n ≤ L
theorem NN.below {w w' : World} {A : Option Addr} {n c : Nat} {xs : List Nat} {a L : Nat} (h : NN w A n c xs a L) (hb : Below w.heap.size w w') : NN w' A n c xs a L := ⟨h.isN.below hb, h.val, h.cap, h.le⟩
theorem lt_pow {w : World} {A : Option Addr} {n c : Nat} {xs : List Nat} {a L : Nat} (h : NN w A n c xs a L) : a < 4294967296 ^ L := by
 have := val_lt h.isN.small
 rw [h.val, h.isN.len] at this
 exact Nat.lt_of_lt_of_le this (Nat.pow_le_pow_right (by decide) h.le)
theorem blen_NN {w : World} {A : Option Addr} {n c : Nat} {xs : List Nat} {a L : Nat} (h : NN w A n c xs a L) : blen a ≤ 32 * L := by
 have := lt_pow h
 rw [pow32] at this
 exact blen_le this
theorem NN.own {w : World} {B : Nat} {A : Option Addr} {n c a L : Nat} (h : OwnN w B A n c (limbs a)) (hl : a < 4294967296 ^ L) : NN w A n c (limbs a) a L :=
 ⟨h.isN, val_limbs a, h.caps.1, by have := length_limbs_le hl; rw [h.len] at this; exact this⟩
theorem NN.relax {w : World} {A : Option Addr} {n c a L L' : Nat} (h : NN w A n c (limbs a) a L) (hl : a < 4294967296 ^ L') : NN w A n c (limbs a) a L' :=
 ⟨h.isN, h.val, h.cap, by have := length_limbs_le hl; rw [h.isN.len] at this; exact this⟩
theorem limbs_of_NN {w : World} {A : Option Addr} {n c : Nat} {xs : List Nat} {a L : Nat} (h : NN w A n c xs a L) : trim xs = limbs a := by rw [trim_eq_limbs h.isN.small, h.val]
section
variable {w : World} {A A' : Option Addr} {n c n' c' : Nat} {xs ys : List Nat} {a b L L' : Nat}
theorem cmp_c (hx : NN w A n c xs a L) (hy : NN w A' n' c' ys b L') (h1 : L ≤ 1000000000) (h2 : L' ≤ 1000000000) (v : Int) (hv : cmpI a b = v) :
 Calls Tryz.prog 94 #[.slice A n c, .slice A' n' c'] w fun e w' => e = .returned (.int .i64 v) ∧ Below w.heap.size w w' :=
 cmp_is A n c xs A' n' c' ys w v (by rw [hx.val, hy.val, hv]) hx.isN hy.isN (by have := hx.le; omega) (by have := hy.le; omega) hx.cap hy.cap
theorem bits_c (hx : NN w A n c xs a L) (h1 : L ≤ 1000000000) (v : Int) (hv : ((blen a : Nat) : Int) = v) :
 Calls Tryz.prog 96 #[.slice A n c] w fun e w' => e = .returned (.int .i64 v) ∧ w = w' := by
 have := bits_any A n c xs w hx.isN hx.cap (by have := hx.le; omega)
 rwa [hx.val, hv] at this
theorem trim_c (hx : NN w A n c xs a L) (h1 : L ≤ 1000000000) :
 Calls Tryz.prog 102 #[.slice A n c] w fun e w' => ∃ A2 n2 c2, e = .returned (.slice A2 n2 c2) ∧ NN w' A2 n2 c2 (limbs a) a L ∧ Below w.heap.size w w' := by
 refine (trim_any A n c xs w hx.isN hx.cap (by have := hx.le; omega)).mono ?_
 rintro e w' ⟨A2, n2, c2, rfl, how, hb⟩
 rw [limbs_of_NN hx] at how
 exact ⟨A2, n2, c2, rfl, NN.own how (lt_pow hx), hb⟩
theorem keep_c (hx : NN w A n c xs a L) (hy : NN w A' n' c' ys b L') (h1 : L ≤ 1000000000) (h2 : L' ≤ 1000000000) (v : Bool) (hv : same xs ys = v) :
 Calls Tryz.prog 63 #[.slice A n c, .slice A' n' c'] w fun e w' => e = .returned (.bool v) ∧ Below w.heap.size w w' := by
 have := keepNat_any A n c xs A' n' c' ys w hx.isN hy.isN (by have := hx.le; omega) (by have := hy.le; omega)
 rwa [hv] at this
theorem same_self (xs : List Nat) : same xs xs = true := by simp [same]
theorem cmpI_same (h : a = b) : cmpI a b = 0 := by subst h; exact cmpI_eq _
end
theorem of_c (v : Nat) (V : Int) (hV : V = v) (h : v < 18446744073709551616) (w : World) :
 Calls Tryz.prog 66 #[.int .u64 V] w fun e w' => ∃ A2 n2 c2, e = .returned (.slice A2 n2 c2) ∧ NN w' A2 n2 c2 (limbs v) v 2 ∧ Below w.heap.size w w' := by
 subst hV
 refine (of_any (v : Int) w (by omega) (by omega)).mono ?_
 rintro e w' ⟨A2, n2, c2, rfl, how, hb⟩
 rw [Int.toNat_natCast] at how
 exact ⟨A2, n2, c2, rfl, NN.own how (by omega), hb⟩
theorem lit_c (w : World) (zs : List Nat) (h : Small zs) (n : Nat) (hn : zs.length = n) : NN (w.alloc (.cells (zs.map limV).toArray 84)) (some ⟨w.heap.size, 0, none⟩) n n zs (Limb.val zs) n := by
 subst hn
 exact ⟨isN_lit w zs h, rfl, Nat.le_refl _, Nat.le_refl _⟩
theorem below_new (w : World) (o : Obj) : Below w.heap.size w (w.alloc o) := (Below.refl _ _).alloc (Nat.le_refl _) o
theorem below_two {w w1 w2 : World} (h : Below w.heap.size w w1) (k : Below w1.heap.size w1 w2) : Below w.heap.size w w2 := h.trans (k.mono h.size)
section
variable {P : Program}
theorem run_append_nothing (w : World) (base : Nat) (t ty e : TypeId) (i : TypeInfo) (size : Nat) (ht : P.underlying t = some (.slice e)) (hi : P.info? e = some i)
 (v : Value) (n : Nat) (xs : List Value) (hown : w.ownsRow base e size v n xs) (c : Nat) : (Builtin.append_ #[t, t] ty #[v, .slice none 0 c]).run P w = .ok v w := by
 rcases hown.2 with ⟨rfl, rfl⟩ | ⟨g, cap, cur, rfl, _, _, hnc, _⟩
 · simp [Builtin.append_, run_underlying ht, sizeOf, typeInfo, hi, Builtin.lenOf, Builtin.firstCells]
 · simp [Builtin.append_, run_underlying ht, sizeOf, typeInfo, hi, Builtin.lenOf, Builtin.firstCells, hnc, storeCells]
theorem wpList_append_read {w : World} {ops : Array Oper} {rest : List Oper} {o : Oper} {a : Act} {Q : Exit → Act → World → Prop} (hgd : o.guard = none) (s x : Operand) (t : TypeId)
 (ho : o.op = .call { callee := .builtin .append, args := #[s, x], argTypes := #[t, t] })
 (base : Nat) (e : TypeId) (i : TypeInfo) (z : Value) (bytes : Nat) (ht : P.underlying t = some (.slice e)) (hi : P.info? e = some i) (hz : i.zero = some z)
 (hsize : i.size = 1) (hby : i.bytes = bytes) (hzs : z.cells.size = 1)
 (v : Value) (n : Nat) (xs : List Value) (hs : a.eval s = v) (hown : w.ownsRow base e 1 v n xs)
 (A : Option Addr) (m c : Nat) (news : List Value) (hx : a.eval x = .slice A m c) (hl : news.length = m)
 (hnews : 0 < m → ∃ ad, A = some ad ∧ ∀ j u, news[j]? = some u → w.cell? (ad.add j) = some u) (h1 : ∀ u ∈ news, u.oneCell' = true)
 (h63 : n + m ≤ maxLen) (hbytes : (n + m) * bytes ≤ 140737488355328) (hbase : base ≤ w.heap.size)
 (h : ∀ v' w', w'.ownsRow base e 1 v' (n + m) (xs ++ news) → w.grownBy w' v.ownBlock → wpList P ops Q rest (a.put o.dst v') w') : wpList P ops Q (o :: rest) a w := by
 rcases A with _ | ad
 · have hm : m = 0 := by
    rcases Nat.eq_zero_or_pos m with h0 | h0
    · exact h0
    · obtain ⟨ad, hA, _⟩ := hnews h0; cases hA
   subst hm
   have hnw : news = [] := List.eq_nil_of_length_eq_zero hl
   subst hnw
   refine wpList_plain hgd fun K hK => ?_
   have hrun := run_append_nothing (P := P) w base t o.type e i 1 ht hi v n xs hown c
   unfold Oper.wp execOp
   simp only [ho, resolve, invoke, builtin, Sem.run_bind, Sem.run_pure, Result.andThen_ok, List.map_toArray, List.map_cons, List.map_nil, hs, hx, hrun]
   exact hK _ _ (h v w (by simpa using hown) (World.grownBy.refl w _))
 · refine wpList_append_own w hgd s x t ho base e i z 1 bytes ht hi hz hsize hby hzs (by decide) v n xs hs hown ad m c news hx (by omega) ?_ h1 h63 hbytes hbase (fun v' w' a b _ => h v' w' a b)
   intro j u hu
   have hj : j < news.length := by
    rcases Nat.lt_or_ge j news.length with h0 | h0
    · exact h0
    · rw [List.getElem?_eq_none h0] at hu; cases hu
   obtain ⟨ad', hA, hc⟩ := hnews (by omega)
   injection hA with hA
   subst hA
   exact hc j u hu
end
theorem NN.news {w : World} {A : Option Addr} {n c : Nat} {xs : List Nat} {a L : Nat} (h : NN w A n c xs a L) : 0 < n → ∃ ad, A = some ad ∧ ∀ j u, (xs.map limV)[j]? = some u → w.cell? (ad.add j) = some u := by
 intro hn
 obtain ⟨b, o, rfl, hb, hcell⟩ := h.isN.2.2 hn
 refine ⟨_, rfl, fun j u hu => ?_⟩
 obtain ⟨hj, rfl⟩ := map_u32_get hu
 have e : (⟨b, o, none⟩ : Addr).add j = ⟨b, o + j, none⟩ := by unfold Addr.add; split <;> simp_all
 rw [e]
 exact hcell j (by rw [← h.isN.len]; exact hj)
theorem wpList_append_nat {w : World} {ops : Array Oper} {rest : List Oper} {o : Oper} {a : Act} {Q : Exit → Act → World → Prop} (hgd : o.guard = none) (s x : Operand)
 (ho : o.op = .call { callee := .builtin .append, args := #[s, x], argTypes := #[29, 29] })
 (base : Nat) (v : Value) (n : Nat) (xs : List Nat) (hs : a.eval s = v) (hown : Hid (w.ownsRow base 84 1 v n (xs.map limV)))
 (A : Option Addr) (m c : Nat) (ys : List Nat) (b L : Nat) (hx : a.eval x = .slice A m c) (hy : Hid (NN w A m c ys b L)) (hb : Hid (n ≤ 1000000000 ∧ L ≤ 1000000000 ∧ base ≤ w.heap.size ∧ Small xs))
 (h : ∀ A2 c2 w', Hid (OwnN w' base A2 (n + m) c2 (xs ++ ys)) → Hid (w.grownBy w' v.ownBlock) → wpList Tryz.prog ops Q rest (a.put o.dst (.slice A2 (n + m) c2)) w') : wpList Tryz.prog ops Q (o :: rest) a w := by
 obtain ⟨i0, hi, hz0, hz1, hz2⟩ := info_parts u32_info
 obtain ⟨h1, h2, h3, h4⟩ := hb.out
 have hm := hy.out.le
 refine wpList_append_read hgd s x 29 ho base 84 i0 (.int .u32 0) 4 Tryz.underlying29 hi hz0 hz1 hz2 rfl v n (xs.map limV) hs hown.out A m c (ys.map limV) hx (by simp [hy.out.isN.len]) hy.out.news (oneCell_u32 ys) (by unfold maxLen; omega) (by omega) h3 ?_
 intro v' w' hown' hg
 rw [← List.map_append] at hown'
 obtain ⟨A2, c2, rfl, how⟩ := shape_own hown' (small_append.2 ⟨h4, hy.out.isN.small⟩)
 exact h A2 c2 w' how hg
theorem own_lit (w : World) (zs : List Nat) (n : Nat) (hn : zs.length = n) (h : n ≤ 1000000000) : (w.alloc (.cells (zs.map limV).toArray 84)).ownsRow w.heap.size 84 1 (.slice (some ⟨w.heap.size, 0, none⟩) n n) n (zs.map limV) := by
 have := World.ownsRow_lit (e := 84) (size := 1) w (zs.map limV).toArray n (Nat.le_refl _) (by unfold maxLen; omega) (by simp [hn])
 simpa using this
theorem below_lit {w w' : World} {o : Obj} {g : Nat} {n c : Nat} (hg : (w.alloc o).grownBy w' (Value.ownBlock (.slice (some ⟨g, 0, none⟩) n c))) (hb : w.heap.size ≤ g) : Below w.heap.size w w' :=
 (below_new w o).grown hg (by simp) (fun k hk => by
   simp [Value.ownBlock] at hk
   omega)
end Go.Proofs.YtohokfbohdoijaaGreatDoor

/- What the reference's at, Trim and Add of layer 1 come to, as contracts over memory. Conditions: arguments read as limbs, of at most 10^8 of them. -/
namespace Go.Proofs.YtohokfbohdoijaaGreatDoor
open Go.RowKit Limb
set_option linter.unusedVariables false
theorem refAt_any (A : Option Addr) (n c : Nat) (xs : List Nat) (i : Int) (w : World) (hx : IsN w A n xs) (hm : n ≤ 1000000000) (h0 : 0 ≤ i) (h1 : i ≤ 9223372036854775807) :
 Calls Tryz.prog 170 #[.slice A n c, .int .i64 i] w fun e w' => e = .returned (.int .u64 ((lim xs i.toNat : Nat) : Int)) ∧ w = w' := by
 obtain ⟨i, rfl⟩ := Int.eq_ofNat_of_zero_le h0
 rw [Int.toNat_natCast]
 have hl := hx.len
 by_cases hi : i < n
 · obtain ⟨b, o, hA, hb1, hcell⟩ := hx.2.2 (by omega)
   subst hA
   have h2 := hcell i hi
   have hlt32 := lim_lt hx.small i
   go_enter Tryz.func170, Tryz.ntmps170
   go_wp2
   go_ret
   exact ⟨rfl, rfl⟩
 · have H := Lib.hid (lim_of_ge (xs := xs) (k := i) (by omega))
   have hi' : (n : Int) ≤ (i : Int) := by omega
   go_enter Tryz.func170, Tryz.ntmps170
   go_wp2
   go_ret
   exact ⟨by rw [H.out]; rfl, rfl⟩
set_option maxHeartbeats 400000 in
theorem refTrim_any (A : Option Addr) (n c : Nat) (xs : List Nat) (w : World) (hx : IsN w A n xs) (hc : n ≤ c) (hm : n ≤ 1000000000) :
 Calls Tryz.prog 118 #[.slice A n c] w fun e w' => ∃ A2 n2 c2, e = .returned (.slice A2 n2 c2) ∧ OwnN w' w.heap.size A2 n2 c2 (trim xs) ∧ Below w.heap.size w w' := by
 have hl := hx.len
 go_enter Tryz.func118, Tryz.ntmps118
 go_wp2
 go_loop [3] (fun i => ∃ k : Nat, k ≤ n ∧ i = .int .i64 k ∧ trim (xs.take k) = trim xs) (fun i => (intOf i).toNat)
 case atStart => exact ⟨n, Nat.le_refl _, rfl, by rw [List.take_of_length_le (by omega)]⟩
 case round =>
  obtain ⟨k, hk, rfl, ht⟩ := hrel
  by_cases hgo : 0 < k ∧ lim xs (k - 1) = 0
  · obtain ⟨hk0, hz⟩ := hgo
    obtain ⟨b, o, rfl, hb, hcell⟩ := hx.2.2 (by omega)
    have h1 := hcell (k - 1) (by omega)
    have h2 : trim (xs.take k) = trim (xs.take (k - 1)) := by
     have := trim_take_last (xs := xs) (k := k - 1) (by omega) hz
     rwa [Nat.sub_add_cancel (by omega)] at this
    have H2 := Lib.hid (h2.symm.trans ht)
    clear h2 ht
    rw [hz] at h1
    clear hz
    go_wp2
    go_round
    case rel => exact ⟨k - 1, by omega, by go_num, H2.out⟩
    case measure => simp [intOf]; omega
  · have h2 : trim xs = xs.take k := by
     rw [← ht]
     by_cases hk0 : k = 0
     · subst hk0; rfl
     · have := trim_take_full (xs := xs) (k := k - 1) (by omega) (fun h => hgo ⟨by omega, h⟩)
       rwa [Nat.sub_add_cancel (by omega)] at this
    have H2 := Lib.hid h2
    have hx2 := IsN.take hx hk
    have b0 := below_new w (.cells #[] 84)
    have Hx : RowKit.Hid (NN (w.alloc (.cells #[] 84)) A k c (xs.take k) (val (xs.take k)) 1000000000) := NN.below ⟨hx2, rfl, by omega, by omega⟩ b0
    have Hown : RowKit.Hid ((w.alloc (.cells #[] 84)).ownsRow w.heap.size 84 1 (.slice (some ⟨w.heap.size, 0, none⟩) 0 0) 0 (([] : List Nat).map limV)) := own_lit w [] 0 rfl (by omega)
    have Hb : RowKit.Hid (0 ≤ 1000000000 ∧ 1000000000 ≤ 1000000000 ∧ w.heap.size ≤ (w.alloc (.cells #[] 84)).heap.size ∧ Small []) := ⟨by omega, by omega, by simp, small_nil⟩
    clear hx2 b0
    by_cases hk0 : k = 0
    · subst hk0
      clear h2 ht
      go_wp2_with (at_builtin; refine wpList_append_nat rfl _ _ rfl w.heap.size _ 0 [] rfl Hown A 0 c (xs.take 0) (val (xs.take 0)) 1000000000 rfl Hx Hb ?_)
      intro A2 c2 w' how hgrow
      have hb2 := below_lit hgrow.out (Nat.le_refl _)
      have hn : OwnN w' w.heap.size A2 0 c2 (trim xs) := by
       rw [H2.out]
       exact how.out
      clear how hgrow Hown Hb Hx
      go_wp2
      go_ret
      exact ⟨_, _, _, rfl, hn, hb2⟩
    · obtain ⟨b, o, rfl, hb, hcell⟩ := hx.2.2 (by omega)
      have h1 := hcell (k - 1) (by omega)
      have hlt := lim_lt hx.small (k - 1)
      have hz' : (((lim xs (k - 1) : Nat) : Int) == 0) = false := by simp; exact fun h => hgo ⟨by omega, h⟩
      clear hgo h2 ht
      go_wp2_with (at_builtin; refine wpList_append_nat rfl _ _ rfl w.heap.size _ 0 [] rfl Hown (some ⟨b, o, none⟩) k c (xs.take k) (val (xs.take k)) 1000000000 rfl Hx Hb ?_)
      intro A2 c2 w' how hgrow
      have hb2 := below_lit hgrow.out (Nat.le_refl _)
      have hn : OwnN w' w.heap.size A2 k c2 (trim xs) := by
       rw [H2.out]
       exact how.out
      clear how hgrow Hown Hb Hx
      go_wp2
      go_ret
      exact ⟨_, _, _, rfl, hn, hb2⟩
def RAdd (xs ys zs : List Nat) (k cr : Nat) : Prop := zs.length = k ∧ Small zs ∧ val zs + cr * 4294967296 ^ k = val (xs.take k) + val (ys.take k) ∧ cr ≤ 1
theorem RAdd.start (xs ys : List Nat) : RAdd xs ys [] 0 0 := ⟨rfl, small_nil, by simp [val], by omega⟩
theorem RAdd.step {xs ys zs : List Nat} {k cr : Nat} (h : RAdd xs ys zs k cr) (hx : Small xs) (hy : Small ys) : RAdd xs ys (zs ++ [(lim xs k + lim ys k + cr) % 4294967296]) (k + 1) ((lim xs k + lim ys k + cr) / 4294967296) := by
 obtain ⟨h1, h2, h3, h4⟩ := h
 refine ⟨by simp [h1], small_append.2 ⟨h2, by intro v hv; simp at hv; omega⟩, ?_, ?_⟩
 · rw [val_append, h1, val_take_lim, val_take_lim, Nat.pow_succ]
   have := add_step (z := lim xs k) (y := lim ys k) (c := cr) (P := 4294967296 ^ k) h3
   simp only [val, Nat.mul_zero, Nat.add_zero]
   omega
 · have := lim_lt hx k
   have := lim_lt hy k
   omega
theorem RAdd.done {xs ys zs : List Nat} {k : Nat} (h : RAdd xs ys zs k 0) (hx : xs.length ≤ k) (hy : ys.length ≤ k) : val zs = val xs + val ys := by
 obtain ⟨h1, h2, h3, h4⟩ := h
 rw [List.take_of_length_le hx, List.take_of_length_le hy] at h3
 omega
theorem refTrim_o {A : Option Addr} {n c : Nat} {xs : List Nat} {a L : Nat} {w : World} (hx : NN w A n c xs a L) (h1 : L ≤ 1000000000) :
 Calls Tryz.prog 118 #[.slice A n c] w fun e w' => ∃ A2 n2 c2, e = .returned (.slice A2 n2 c2) ∧ OwnN w' w.heap.size A2 n2 c2 (limbs a) ∧ Below w.heap.size w w' := by
 refine (refTrim_any A n c xs w hx.isN hx.cap (by have := hx.le; omega)).mono ?_
 rintro e w' ⟨A2, n2, c2, rfl, how, hb⟩
 rw [limbs_of_NN hx] at how
 exact ⟨A2, n2, c2, rfl, how, hb⟩
theorem refTrim_c {A : Option Addr} {n c : Nat} {xs : List Nat} {a L : Nat} {w : World} (hx : NN w A n c xs a L) (h1 : L ≤ 1000000000) :
 Calls Tryz.prog 118 #[.slice A n c] w fun e w' => ∃ A2 n2 c2, e = .returned (.slice A2 n2 c2) ∧ NN w' A2 n2 c2 (limbs a) a L ∧ Below w.heap.size w w' := by
 refine (refTrim_any A n c xs w hx.isN hx.cap (by have := hx.le; omega)).mono ?_
 rintro e w' ⟨A2, n2, c2, rfl, how, hb⟩
 rw [limbs_of_NN hx] at how
 exact ⟨A2, n2, c2, rfl, NN.own how (lt_pow hx), hb⟩
theorem refAt_c {A : Option Addr} {n c : Nat} {xs : List Nat} {a L : Nat} {w : World} (hx : NN w A n c xs a L) (h1 : L ≤ 1000000000) (k : Nat) (hk : k ≤ 9000000000000000000) :
 Calls Tryz.prog 170 #[.slice A n c, .int .i64 (k : Int)] w fun e w' => e = .returned (.int .u64 ((lim xs k : Nat) : Int)) ∧ w = w' := by
 have := refAt_any A n c xs (k : Int) w hx.isN (by have := hx.le; omega) (by omega) (by omega)
 rwa [Int.toNat_natCast] at this
theorem OwnN.row {w : World} {B : Nat} {A : Option Addr} {n c : Nat} {zs : List Nat} (h : OwnN w B A n c zs) : w.ownsRow B 84 1 (.slice A n c) n (zs.map limV) := h.1
theorem OwnN.alloc {w : World} {B : Nat} {A : Option Addr} {n c : Nat} {zs : List Nat} (h : OwnN w B A n c zs) (o : Obj) : OwnN (w.alloc o) B A n c zs := ⟨h.1.alloc o, h.2⟩
theorem below_grown {w0 w w' : World} {A : Option Addr} {n c : Nat} {zs : List Nat} {o : Obj} (hb : Below w0.heap.size w0 w) (how : OwnN w w0.heap.size A n c zs) (hg : (w.alloc o).grownBy w' (Value.ownBlock (.slice A n c))) : Below w0.heap.size w0 w' :=
 (hb.alloc hb.size o).grown hg (by have := hb.size; simp; omega) (fun k hk => (how.1.lt k hk).1)
set_option maxHeartbeats 800000 in
theorem refAdd_c {A A' : Option Addr} {n c n' c' : Nat} {xs ys : List Nat} {a b L L' : Nat} {w : World} (hx : NN w A n c xs a L) (hy : NN w A' n' c' ys b L') (h1 : L ≤ 100000000) (h2 : L' ≤ 100000000) :
 Calls Tryz.prog 136 #[.slice A n c, .slice A' n' c'] w fun e w' => ∃ A2 n2 c2, e = .returned (.slice A2 n2 c2) ∧ NN w' A2 n2 c2 (limbs (a + b)) (a + b) (L + L' + 1) ∧ Below w.heap.size w w' := by
 have hle := hx.le
 have hle' := hy.le
 have hlx := hx.isN.len
 have hly := hy.isN.len
 have Hlx := Lib.hid hlx
 have Hly := Lib.hid hly
 clear hlx hly
 go_enter Tryz.func136, Tryz.ntmps136
 go_wp2
 go_loopw [7, 6, 5] (fun i cy v wr => ∃ (k cr : Nat) (zs : List Nat) (A2 : Option Addr) (c2 : Nat), k ≤ n + n' + 1 ∧ (n < k → n' < k → cr = 0) ∧ i = .int .i64 (k : Int) ∧ cy = .int .u64 (cr : Int) ∧ v = .slice A2 k c2 ∧ RAdd xs ys zs k cr ∧ OwnN wr w.heap.size A2 k c2 zs ∧ Below w.heap.size w wr) (fun i _ _ _ => n + n' + 2 - (intOf i).toNat)
 case atStart => exact ⟨0, 0, [], none, 0, by omega, fun h => by omega, rfl, rfl, rfl, RAdd.start _ _, OwnN.nil _ _, Below.refl _ _⟩
 case round =>
  obtain ⟨k, cr, zs, A2, c2, hk, hkc, rfl, rfl, rfl, hinv, how, bw⟩ := hrel
  have Hinv := Lib.hid hinv
  have hcr := hinv.2.2.2
  have Hkc := Lib.hid hkc
  clear hinv hkc
  have h_x := hx.below bw
  have h_y := hy.below bw
  by_cases hgo : k < n ∨ k < n' ∨ 0 < cr
  · have hk1 : k ≤ n + n' := by
     rcases hgo with h | h | h
     · omega
     · omega
     · have := Hkc.out; omega
    have b1 := lim_lt hx.isN.small k
    have b2 := lim_lt hy.isN.small k
    obtain ⟨sl, hsl⟩ : ∃ sl, sl = (lim xs k + lim ys k + cr) % 4294967296 := ⟨_, rfl⟩
    obtain ⟨sh, hsh⟩ : ∃ sh, sh = (lim xs k + lim ys k + cr) / 4294967296 := ⟨_, rfl⟩
    have es : ((cr : Int) + (((lim xs k : Nat) : Int) + ((lim ys k : Nat) : Int))) % 4294967296 = ((sl : Nat) : Int) := by omega
    have eh : ((cr : Int) + (((lim xs k : Nat) : Int) + ((lim ys k : Nat) : Int))) / 4294967296 = ((sh : Nat) : Int) := by omega
    have hsl2 : sl < 4294967296 := by omega
    have hkc2 : n < k + 1 → n' < k + 1 → sh = 0 := by
     intro p q
     rw [hsh, lim_of_ge (xs := xs) (by rw [Hlx.out]; omega), lim_of_ge (xs := ys) (by rw [Hly.out]; omega)]
     omega
    have Hkc2 := Lib.hid hkc2
    have Hst : RowKit.Hid (RAdd xs ys (zs ++ [sl]) (k + 1) sh) := by
     show RAdd _ _ _ _ _
     rw [hsl, hsh]; exact Hinv.out.step hx.isN.small hy.isN.small
    have Hown : RowKit.Hid ((wr.alloc (.cells #[Value.int IntKind.u32 (sl : Int)] 84)).ownsRow w.heap.size 84 1 (.slice A2 k c2) k (zs.map limV)) := (how.alloc _).row
    have Hlit : RowKit.Hid (NN (wr.alloc (.cells #[Value.int IntKind.u32 (sl : Int)] 84)) (some ⟨wr.heap.size, 0, none⟩) 1 1 [sl] (val [sl]) 1) := lit_c wr [sl] (by intro x hx; simp at hx; omega) 1 rfl
    have Hb : RowKit.Hid (k ≤ 1000000000 ∧ 1 ≤ 1000000000 ∧ w.heap.size ≤ (wr.alloc (.cells #[Value.int IntKind.u32 (sl : Int)] 84)).heap.size ∧ Small zs) := ⟨by omega, by omega, by have := bw.size; simp; omega, how.small⟩
    have How := Lib.hid how
    have Hbw := Lib.hid bw
    clear hkc2 hsl hsh hsl2 how bw
    rcases (show k < n ∨ (¬ k < n ∧ k < n') ∨ (¬ k < n ∧ ¬ k < n' ∧ 0 < cr) by omega) with h | ⟨h, h'⟩ | ⟨h, h', h''⟩
    all_goals
     clear hgo
     go_wp2_with fail
     refine (refAt_c h_x (by omega) k (by omega)).mono ?_
     rintro e w1 ⟨rfl, rfl⟩
     go_wp2_with fail
     refine (refAt_c h_y (by omega) k (by omega)).mono ?_
     rintro e w1 ⟨rfl, rfl⟩
     go_wp2_with (at_builtin; refine wpList_append_nat rfl _ _ rfl w.heap.size _ k zs rfl Hown (some ⟨wr.heap.size, 0, none⟩) 1 1 [sl] (val [sl]) 1 rfl Hlit Hb ?_)
     intro A3 c3 w3 how3 hg3
     have bw3 := below_grown Hbw.out How.out hg3.out
     have How3 := how3.out
     clear how3 hg3 Hown Hlit Hb How Hbw
     go_wp2
     go_roundw
     case rel => exact ⟨k + 1, sh, zs ++ [sl], A3, c3, by omega, Hkc2.out, by go_num, rfl, rfl, Hst.out, How3, bw3⟩
     case measure => simp [intOf]; omega
  · obtain rfl : cr = 0 := by omega
    have hv : val zs = a + b := by
     rw [Hinv.out.done (by rw [Hlx.out]; omega) (by rw [Hly.out]; omega), hx.val, hy.val]
    have hz : NN wr A2 k c2 zs (a + b) (L + L' + 1) := ⟨how.isN, hv, how.caps.1, by omega⟩
    have e1 : ¬ k < n := by omega
    have e2 : ¬ k < n' := by omega
    clear hgo hv how
    go_wp2_with fail
    refine (refTrim_c hz (by omega)).mono ?_
    rintro e w4 ⟨A4, n4, c4, rfl, h4, bn⟩
    go_wp2
    go_ret
    exact ⟨_, _, _, rfl, h4, below_two bw bn⟩
end Go.Proofs.YtohokfbohdoijaaGreatDoor

/- What package mul's helpers cut and addRow answer, as contracts over memory: the limbs that count; a row of products with carries laid over a part. Conditions: arguments read as limbs, of at most 10^9 of them; a part that is the row itself begins where the row does. -/
namespace Go.Proofs.YtohokfbohdoijaaGreatDoor
open Go.RowKit Limb
set_option linter.unusedVariables false
set_option maxHeartbeats 400000 in
theorem mulCut_any (A : Option Addr) (n c : Nat) (xs : List Nat) (w : World) (hx : IsN w A n xs) (hc : n ≤ c) (hm : n ≤ 1000000000) :
 Calls Tryz.prog 100 #[.slice A n c] w fun e w' => e = .returned (.slice A (trim xs).length c) ∧ w = w' := by
 have hlt := trim_len_le xs
 have hl := hx.len
 have hcount : (blen (val xs) + 31) / 32 = (trim xs).length := by rw [blen_count, trim_eq_limbs hx.small]
 have hb : blen (val xs) ≤ 32 * n := by
  have := val_lt hx.small
  rw [pow32, hl] at this
  exact blen_le this
 obtain ⟨m, hm2⟩ : ∃ m, m = (trim xs).length := ⟨_, rfl⟩
 rw [← hm2] at hcount hlt ⊢
 obtain ⟨b, hb2⟩ : ∃ b, b = blen (val xs) := ⟨_, rfl⟩
 have Hb2 := Lib.hid hb2
 rw [← hb2] at hcount hb
 have e1 : ((b : Int) + 32 - 1) / 32 = (m : Int) := by omega
 clear hm2 hb2 hcount
 go_enter Tryz.func100, Tryz.ntmps100
 go_wp2_with fail
 refine (bits_any A n c xs w hx hc hm).mono ?_
 rintro e w1 ⟨rfl, rfl⟩
 rw [← Hb2.out]
 go_wp2
 go_ret
 refine ⟨?_, rfl⟩
 first | rfl | (congr 2; omega)
def Others (g : Nat) (w w' : World) : Prop := ∀ k, k ≠ g → w'.heap[k]? = w.heap[k]?
theorem Others.refl (g : Nat) (w : World) : Others g w w := fun _ _ => rfl
theorem Others.setCell {g : Nat} {a w : World} (h : Others g a w) (k : Nat) (u : Value) : Others g a (w.setCell ⟨g, k, none⟩ u) := fun j hj => (Below.heap_setCell w _ u j hj).trans (h j hj)
theorem cell_setCell_ne {a b : Addr} (w : World) (v : Value) (h : a ≠ b) : (w.setCell a v).cell? b = w.cell? b := World.cell?_setCell_other (w := w) (a := a) (b := b) (v := v) h
theorem OwnN.others {w w' : World} {B g : Nat} {A : Option Addr} {n c : Nat} {zs : List Nat} (h : OwnN w B A n c zs) (ho : Others g w w') (hA : ∀ b o s, A = some ⟨b, o, s⟩ → b ≠ g) : OwnN w' B A n c zs := by
 refine ⟨⟨h.1.1, ?_⟩, h.2⟩
 rcases h.1.2 with h2 | ⟨k, cap, cur, hv, hg, hh, r⟩
 · exact .inl h2
 · refine .inr ⟨k, cap, cur, hv, hg, ?_, r⟩
   rw [ho k ?_]
   · exact hh
   · injection hv with hA2
     exact hA _ _ _ hA2
set_option maxHeartbeats 1000000 in
theorem addRow_any (w0 w : World) (hb : Below w0.heap.size w0 w) (g m cs : Nat) (zs : List Nat) (how : OwnN w w0.heap.size (some ⟨g, 0, none⟩) (m + 1) cs zs)
 (Ap : Option Addr) (np cp : Nat) (ps : List Nat) (hp : IsN w Ap np ps) (hpm : m ≤ np) (hdis : ∀ b o, Ap = some ⟨b, o, none⟩ → b = g → o = 0)
 (A : Option Addr) (c : Nat) (xs : List Nat) (hx : IsN w0 A m xs) (v : Nat) (hv : v < 4294967296) (hm : m ≤ 1000000000) :
 Calls Tryz.prog 101 #[.slice (some ⟨g, 0, none⟩) (m + 1) cs, .slice Ap np cp, .slice A m c, .int .u32 (v : Int)] w fun e w' => e = .returned (.tuple #[]) ∧
  (∃ zs', OwnN w' w0.heap.size (some ⟨g, 0, none⟩) (m + 1) cs zs' ∧ val zs' = val (ps.take m) + v * val xs) ∧ Below w0.heap.size w0 w' ∧ Others g w w' := by
 have hBg : w0.heap.size ≤ g := by
  obtain ⟨g', e, h1, _⟩ := how.addr (by omega)
  injection e with e; injection e with e; subst e; exact h1
 have hps : ∀ j, 0 ≤ j → j < m → ∃ b o, Ap = some ⟨b, o, none⟩ ∧ w.cell? ⟨b, o + j, none⟩ = some (.int .u32 ((lim ps j : Nat) : Int)) := by
  intro j _ hj
  obtain ⟨b, o, e, _, hc⟩ := hp.2.2 (by omega)
  exact ⟨b, o, e, hc j (by omega)⟩
 have hsp := hp.small
 have hsx := hx.small
 have Hpl := Lib.hid hp.len
 have Hxl := Lib.hid hx.len
 have Hps := Lib.hid hps
 have Hdis := Lib.hid hdis
 have Hzl := Lib.hid how.len
 clear hps hdis hp
 go_enter Tryz.func101, Tryz.ntmps101
 go_wp2
 go_loopw [13, 8] (fun i cy wr => ∃ (k cr : Nat) (zs : List Nat), k ≤ m ∧ i = .int .i64 (k : Int) ∧ cy = .int .u64 (cr : Int) ∧ RowInv xs ps zs v k cr ∧ OwnN wr w0.heap.size (some ⟨g, 0, none⟩) (m + 1) cs zs ∧ Below w0.heap.size w0 wr ∧ Others g w wr ∧
  RowKit.Hid (∀ j, k ≤ j → j < m → ∃ b o, Ap = some ⟨b, o, none⟩ ∧ wr.cell? ⟨b, o + j, none⟩ = some (.int .u32 ((lim ps j : Nat) : Int)))) (fun i _ _ => m - (intOf i).toNat)
 case atStart => exact ⟨0, 0, zs, Nat.zero_le _, rfl, rfl, RowInv.start _ _ _ _, how, hb, Others.refl _ _, Hps⟩
 case round =>
  clear how hb Hps Hzl
  obtain ⟨k, cr, zs, hk, rfl, rfl, hinv, how, hbe, hoth, Hps⟩ := hrel
  have hcr := hinv.2
  have Hinv := Lib.hid hinv
  have Hzl := Lib.hid how.len
  have Hoth := Lib.hid hoth
  clear hinv hoth
  by_cases hkm : k < m
  · obtain ⟨b1, o1, rfl, hb1, hc1⟩ := hx.2.2 (by omega)
    have h1 : wr.cell? ⟨b1, o1 + k, none⟩ = some (.int .u32 ((lim xs k : Nat) : Int)) := (hbe.cell (p := ⟨b1, o1 + k, none⟩) hb1).trans (hc1 k hkm)
    obtain ⟨b2, o2, rfl, h2⟩ := Hps.out k (Nat.le_refl _) hkm
    have h3 := how.cell (k := k) (by omega)
    have h4 := how.1.frozenAt k
    have l1 := lim_lt hsx k
    have l2 := lim_lt hsp k
    have hq := limb_prod l1 hv
    have hq1 : ((lim xs k : Nat) : Int) * (v : Int) ≤ 18446744065119617025 := by
     have : ((lim xs k * v : Nat) : Int) ≤ 18446744065119617025 := by omega
     rwa [Int.natCast_mul] at this
    have hq0 : 0 ≤ ((lim xs k : Nat) : Int) * (v : Int) := by
     have : 0 ≤ ((lim xs k * v : Nat) : Int) := by omega
     rwa [Int.natCast_mul] at this
    obtain ⟨lo, hlo⟩ : ∃ lo, lo = (cr + lim xs k * v + lim ps k) % 4294967296 := ⟨_, rfl⟩
    obtain ⟨hi, hhi⟩ : ∃ hi, hi = (cr + lim xs k * v + lim ps k) / 4294967296 := ⟨_, rfl⟩
    have eI : ((lim xs k * v : Nat) : Int) = ((lim xs k : Nat) : Int) * (v : Int) := Int.natCast_mul _ _
    have hlo2 : lo < 4294967296 := by omega
    have hsum : lo + hi * 4294967296 = cr + lim xs k * v + lim ps k := by omega
    have elo : ((cr : Int) + (((lim xs k : Nat) : Int) * (v : Int) + ((lim ps k : Nat) : Int))) % 4294967296 = (lo : Int) := by omega
    have ehi : ((cr : Int) + (((lim xs k : Nat) : Int) * (v : Int) + ((lim ps k : Nat) : Int))) / 4294967296 = (hi : Int) := by omega
    have Hst : RowKit.Hid (RowInv xs ps (zs.set k lo) v (k + 1) hi) := Hinv.out.step (by have := Hzl.out; omega) hsx hsp hv hlo2 hsum
    have Hset : RowKit.Hid (OwnN (wr.setCell ⟨g, k, none⟩ (.int .u32 (lo : Int))) w0.heap.size (some ⟨g, 0, none⟩) (m + 1) cs (zs.set k lo)) := how.set k hlo2
    have Hbe : RowKit.Hid (Below w0.heap.size w0 (wr.setCell ⟨g, k, none⟩ (.int .u32 (lo : Int)))) := hbe.setCell (by exact hBg) _
    have Ho2 : RowKit.Hid (Others g w (wr.setCell ⟨g, k, none⟩ (.int .u32 (lo : Int)))) := Hoth.out.setCell k _
    have Hps2 : RowKit.Hid (∀ j, k + 1 ≤ j → j < m → ∃ b o, (some (⟨b2, o2, none⟩ : Addr)) = some ⟨b, o, none⟩ ∧ (wr.setCell ⟨g, k, none⟩ (.int .u32 (lo : Int))).cell? ⟨b, o + j, none⟩ = some (.int .u32 ((lim ps j : Nat) : Int))) := by
     intro j h5 h6
     obtain ⟨b, o, e, hc⟩ := Hps.out j (by omega) h6
     refine ⟨b, o, e, (cell_setCell_ne _ _ ?_).trans hc⟩
     intro e2
     injection e2 with e3 e4
     have := Hdis.out b o e e3.symm
     omega
    clear hq hlo hhi hsum
    clear eI
    go_wp2
    go_roundw
    case rel => exact ⟨k + 1, hi, zs.set k lo, by omega, by go_num, rfl, Hst.out, Hset.out, Hbe.out, Ho2.out, Hps2⟩
    case measure => simp [intOf]; omega
  · obtain rfl : k = m := by omega
    have h3 := how.cell (k := k) (by omega)
    have h4 := how.1.frozenAt k
    have Hset : RowKit.Hid (OwnN (wr.setCell ⟨g, k, none⟩ (.int .u32 (cr : Int))) w0.heap.size (some ⟨g, 0, none⟩) (k + 1) cs (zs.set k cr)) := how.set k hcr
    have Hbe : RowKit.Hid (Below w0.heap.size w0 (wr.setCell ⟨g, k, none⟩ (.int .u32 (cr : Int)))) := hbe.setCell (by exact hBg) _
    have Ho2 : RowKit.Hid (Others g w (wr.setCell ⟨g, k, none⟩ (.int .u32 (cr : Int)))) := Hoth.out.setCell k _
    have Hd : RowKit.Hid (val (zs.set k cr) = val (ps.take k) + v * val xs) := Hinv.out.done Hzl.out Hxl.out
    go_wp2
    first | go_end0 | refine bodyPost_ret (results_none rfl _ _ _) rfl ?_
    exact ⟨rfl, ⟨_, Hset.out, Hd.out⟩, Hbe.out, Ho2.out⟩
end Go.Proofs.YtohokfbohdoijaaGreatDoor
