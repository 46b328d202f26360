/- LexStands is true at every input: each token stands where it says; between tokens are blanks and notes alone; a blank more between two changes nothing but places. Conditions: the given statement's own (the tables of kinds read as the card ties them). -/
import Derived.Test.YthjnepfpohmpkaaDoorM3
import Derived.Test.YthjnepfpohmpkaaDoorCards
import Derived.Test.YthjnepfpohmpkaaDoorTie
import Derived.ChangeMaps5
import Derived.Lay
import Derived.SevenTiedAt
/- Regions that leave their order open, in which one operation that only reads its frame (a result's second part) may come behind the stores too. Of any program; no condition. -/
namespace Go.Proofs.YthjnepfpohmpkaaDoor
open Go.RowKit
set_option linter.unusedVariables false
section
variable {P : Program} {ops : Array Oper} {Q : Exit → Act → World → Prop} {md : Region.Mode}
theorem wpAny_invx (m x : Nat) (J : Array Bool → Act → World → Prop)
 (hsize : ∀ l a w, J l a w → l.size = ops.size ∧ ∀ k, m ≤ k → l.getD k false = false)
 (hm : m ≤ ops.size)
 (hback : ∀ (i : Nat) (o : Oper), i < m → ops[i]? = some o → ∀ e ∈ o.after, Region.binds md e = true → e.on < i)
 (hstep : ∀ l a w i, J l a w → i ∈ Region.ready md ops l → i < m → wpOp P ops Q i (fun a' w' => J (l.setIfInBounds i true) a' w') a w)
 (hwait : ∀ l a w i, J l a w → i ∈ Region.ready md ops l → m ≤ i → ∀ k, k < m → k ≠ x → l.getD k false = true)
 (hfin : ∀ l a w, J l a w → (∀ k, k < m → k ≠ x → l.getD k false = true) → wpAny P md ops Q (ops.size - m + left l m) l a w) :
 ∀ (c : Nat) (l : Array Bool) (a : Act) (w : World), left l m = c → J l a w → wpAny P md ops Q (ops.size - m + c) l a w := by
 intro c
 induction c with
 | zero => exact fun l a w hc hj => by have h := hfin l a w hj (fun k hk _ => left_zero hc k hk); rwa [hc] at h
 | succ c ih =>
  intro l a w hc hj
  rcases Classical.em (∀ k, k < m → k ≠ x → l.getD k false = true) with hall | hnall
  · have h := hfin l a w hj hall; rwa [hc] at h
  obtain ⟨hs, hlater⟩ := hsize l a w hj
  have hex : ∃ k, k < m ∧ k ≠ x ∧ l.getD k false = false := by
   rcases Classical.em (∃ k, k < m ∧ k ≠ x ∧ l.getD k false = false) with h | h
   · exact h
   · refine absurd (fun k hk hkx => ?_) hnall
     cases hb : l.getD k false with
     | true => rfl
     | false => exact absurd ⟨k, hk, hkx, hb⟩ h
  refine ⟨fun hr => ?_, fun i hi => ?_⟩
  · exfalso
    -- the least one that has not come up may come up
    obtain ⟨k0, hk0, _, hb0⟩ := hex
    have hleast : ∀ n, (∃ k, k ≤ n ∧ k < m ∧ l.getD k false = false) → ∃ k, k < m ∧ l.getD k false = false ∧ ∀ j, j < k → l.getD j false = true := by
     intro n
     induction n with
     | zero =>
      rintro ⟨k, h1, h2, h3⟩
      obtain rfl : k = 0 := by omega
      exact ⟨0, h2, h3, fun j hj2 => by omega⟩
     | succ n ihn =>
      rintro ⟨k, h1, h2, h3⟩
      rcases Classical.em (∃ k, k ≤ n ∧ k < m ∧ l.getD k false = false) with h | h
      · exact ihn h
      · refine ⟨k, h2, h3, fun j hj2 => ?_⟩
        cases hb : l.getD j false with
        | true => rfl
        | false => exact absurd ⟨j, by omega, by omega, hb⟩ h
    obtain ⟨k, hk, hb, hmin⟩ := hleast k0 ⟨k0, Nat.le_refl _, hk0, hb0⟩
    have hko : k < ops.size := by omega
    have : k ∈ Region.ready md ops l := mem_ready.2 ⟨by
     simp only [Array.getD_eq_getD_getElem?] at hb ⊢
     rw [Array.getElem?_eq_getElem (by omega)] at hb ⊢
     simpa using hb, ops[k], Array.getElem?_eq_getElem hko, fun e he hbi => hmin _ (hback k _ hk (Array.getElem?_eq_getElem hko) e he hbi)⟩
    rw [hr] at this
    cases this
  · rcases Nat.lt_or_ge i m with h1 | h1
    · have hu : l.getD i false = false := by
       have h2 := (mem_ready.1 hi).1
       simp only [Array.getD_eq_getD_getElem?] at h2 ⊢
       rw [Array.getElem?_eq_getElem (by omega)] at h2 ⊢
       simpa using h2
      have hl := left_set (m := m) (by omega : i < l.size) hu h1
      exact wpOp_mono (fun a' w' hj2 => ih _ a' w' (by omega) hj2) (hstep l a w i hj hi h1)
    · exfalso
      obtain ⟨k, hk, hkx, hb⟩ := hex
      rw [hwait l a w i hj hi h1 k hk hkx] at hb
      cases hb
theorem region_freex {id : Nat} {a : Act} {w : World} {os : List Oper} (m r x : Nat) (ds : List Tmp) (aF : (Nat → Value) → Act) (S : World → Prop) (Φ : Nat → Value → World → Prop) (fresh : Nat → Bool)
 (hm : P.follows .mixedOrders = true)
 (haF : ∀ vals, fillAll (fun k => ds[k]?) vals a m = aF vals)
 (hr : os.length = m + r)
 (hok : (List.range m).all (okAtG os.toArray m ds a.tmps.size) = true)
 (hend : (List.range os.length).all (fun i => decide (i < m) || (List.range m).all fun k => k == x || (anc os.toArray 3 i).contains k) = true)
 (hxm : x < m) (hxf : fresh x = false) (hxs : Region.noSelect os.toArray = true)
 (hxr : (Region.free .any os.toArray ((firsts (m + r) m).setIfInBounds x false) x && (Region.ready .any os.toArray ((firsts (m + r) m).setIfInBounds x false)).contains x) = true)
 (hyx : ∀ (vals : Nat → Value) (w : World), S w → (∀ k, k < m → k ≠ x → Φ k (vals k) w) → ∀ o, os.toArray[x]? = some o → o.guard = none ∧ ∃ v, (∀ w', (execOp (aF vals).eval o).run P w' = .ok (.value v) w') ∧ Φ x v w)
 (hQ : ∀ c (t t' : Array Value) (d : List Deferred) w, Q (.panic c) ⟨t, d⟩ w → Q (.panic c) ⟨t', d⟩ w)
 (hSb : ∀ w w', Below w.heap.size w w' → S w → S w')
 (hΦb : ∀ k v w w', Below w.heap.size w w' → Φ k v w → Φ k v w')
 (hS : S w.drew)
 (hop : AllAt (FreeStepG P Q os.toArray ds aF S Φ fresh) 0 os m)
 (hfin : ∀ (vals : Nat → Value) (w : World), S w → (∀ k, k < m → Φ k (vals k) w) →
   (∀ j k, j < m → k < m → j ≠ k → fresh j = true → fresh k = true → ∀ p q, vals j = .pointer (some ⟨p, 0, none⟩) → vals k = .pointer (some ⟨q, 0, none⟩) → p ≠ q) →
   wpAny P .any os.toArray Q r (firsts (m + r) m) (aF vals) w) :
 (Code.region id os.toArray true).wp P Q a w := by
 generalize hops : os.toArray = ops at *
 have hsz0 : ops.size = m + r := by rw [← hops]; simpa using hr
 have hle : m ≤ ops.size := by omega
 replace hend : (List.range ops.size).all (fun i => decide (i < m) || (List.range m).all fun k => k == x || (anc ops 3 i).contains k) = true := by rw [hsz0, ← hr]; exact hend
 replace hop : ∀ i, i < m → ∀ o, ops[i]? = some o → FreeStepG P Q ops ds aF S Φ fresh i o := fun i hi o ho => by
  have := hop.at i hi o (by rw [← hops] at ho; simpa using ho)
  rwa [Nat.zero_add] at this
 replace hfin : ∀ (vals : Nat → Value) (w : World), S w → (∀ k, k < m → Φ k (vals k) w) →
  (∀ j k, j < m → k < m → j ≠ k → fresh j = true → fresh k = true → ∀ p q, vals j = .pointer (some ⟨p, 0, none⟩) → vals k = .pointer (some ⟨q, 0, none⟩) → p ≠ q) →
  ∀ l : Array Bool, l.size = ops.size → (∀ k, l.getD k false = decide (k < m)) → wpAny P .any ops Q (ops.size - m) l (aF vals) w := fun vals w h1 h2 h3 l h4 h5 => by
  rw [firsts_eq (h4.trans hsz0) (by omega) h5, show ops.size - m = r by omega]
  exact hfin vals w h1 h2 h3
 replace hQ : ∀ c (a a' : Act) w, a.defers = a'.defers → Q (.panic c) a w → Q (.panic c) a' w := by
  rintro c ⟨t, d⟩ ⟨t', d'⟩ w he h
  obtain rfl : d = d' := he
  exact hQ c t t' d w h
 refine wp_region_any hm ?_
 have hat : ∀ i, i < m → okAtG ops m ds a.tmps.size i = true := fun i hi => List.all_eq_true.1 hok i (List.mem_range.2 hi)
 have hlate : ∀ i, m ≤ i → i < ops.size → ∀ k, k < m → k ≠ x → k ∈ anc ops 3 i := fun i h1 h2 k hk hkx => by
  have := List.all_eq_true.1 hend i (List.mem_range.2 h2)
  simp only [Bool.or_eq_true, decide_eq_true_eq, List.all_eq_true, List.mem_range, List.contains_iff_mem, beq_iff_eq] at this
  exact ((this.resolve_left (by omega)) k hk).resolve_left hkx
 have hfr : ∀ (l : Array Bool), l = Array.replicate ops.size false → ∀ k, l.getD k false = false := by
  rintro l rfl k
  simp only [Array.getD_eq_getD_getElem?, Array.getElem?_replicate]
  split <;> rfl
 let J : Array Bool → Act → World → Prop := fun l a' w' => (l.size = ops.size ∧ ∀ k, m ≤ k → l.getD k false = false) ∧ S w' ∧ (∀ k, k < m → l.getD k false = true → ∀ e ∈ afters ops k, l.getD e false = true) ∧
  ∃ vals, a' = fill (fun k => ds[k]?) vals l a m ∧ (∀ k, k < m → l.getD k false = true → Φ k (vals k) w' ∧ (fresh k = true → ∃ q, vals k = .pointer (some ⟨q, 0, none⟩) ∧ q < w'.heap.size)) ∧
   (∀ j k, j < m → k < m → l.getD j false = true → l.getD k false = true → j ≠ k → fresh j = true → fresh k = true → ∀ p q, vals j = .pointer (some ⟨p, 0, none⟩) → vals k = .pointer (some ⟨q, 0, none⟩) → p ≠ q)
 have hdown : ∀ l a' w', J l a' w' → ∀ k, l.getD k false = true → ∀ e ∈ afters ops k, l.getD e false = true := fun l a' w' hj k hk => by
  rcases Nat.lt_or_ge k m with h1 | h1
  · exact hj.2.2.1 k h1 hk
  · rw [hj.1.2 k h1] at hk
    cases hk
 have hz : ∀ j, j ≤ m → left (Array.replicate ops.size false) j = j := fun j => by
  induction j with
  | zero => exact fun _ => rfl
  | succ j ihj => exact fun h => by unfold left; rw [ihj (by omega), hfr _ rfl j]; rfl
 have key := wpAny_invx (P := P) (ops := ops) (Q := Q) (md := .any) m x J (fun l a' w' hj => hj.1) hle (fun i o h1 ho e he hb => ?hback) (fun l a' w' i hj hi h1 => ?hstep) (fun l a' w' i hj hi h1 k hk hkx => ?hwait) (fun l a' w' hj hall => ?hfin)
  m (Array.replicate ops.size false) a w.drew (hz m (Nat.le_refl _)) ⟨⟨by simp, fun k _ => hfr _ rfl k⟩, hS, fun k _ h => (by rw [hfr _ rfl k] at h; cases h),
   fun _ => undef, (fill_none fun k _ => hfr _ rfl k).symm, fun k _ h => (by rw [hfr _ rfl k] at h; cases h), fun j k _ _ h => (by rw [hfr _ rfl j] at h; cases h)⟩
 · have e : ops.size - m + m = ops.size := by omega
   rw [e] at key
   exact key
 case hback =>
  obtain ⟨_, _, _, _, _, _, _, hlow, _, _⟩ := okAtG_spec (hat i h1)
  refine hlow e.on ?_
  unfold afters
  rw [ho]
  exact List.mem_map.2 ⟨e, List.mem_filter.2 ⟨by simpa using he, hb⟩, rfl⟩
 case hwait =>
  have hlt : i < ops.size := by
   obtain ⟨_, o, ho, _⟩ := mem_ready.1 hi
   exact (Array.getElem?_eq_some_iff.1 ho).1
  exact anc_up (hdown l a' w' hj) 3 i (fun e he => ready_after hi he) k (hlate i h1 hlt k hk hkx)
 case hfin =>
  obtain ⟨⟨hs, hl⟩, hSw, hdn, vals, rfl, hv, hp⟩ := hj
  cases hx : l.getD x false with
  | true =>
   have hall2 : ∀ k, k < m → l.getD k false = true := fun k hk => by
    by_cases hkx : k = x
    · subst hkx; exact hx
    · exact hall k hk hkx
   have hl0 : left l m = 0 := by
    have h0 : ∀ j, j ≤ m → left l j = 0 := fun j => by
     induction j with
     | zero => exact fun _ => rfl
     | succ j ihj => exact fun hj2 => by unfold left; rw [ihj (by omega), hall2 j (by omega)]; rfl
    exact h0 m (Nat.le_refl _)
   rw [hl0, Nat.add_zero, fill_all hall2, haF]
   refine hfin vals w' hSw (fun k hk => (hv k hk (hall2 k hk)).1) (fun j k h1 h2 => hp j k h1 h2 (hall2 j h1) (hall2 k h2)) l hs fun k => ?_
   rcases Nat.lt_or_ge k m with h | h
   · rw [hall2 k h, decide_eq_true h]
   · rw [hl k h, decide_eq_false (by omega)]
  | false =>
   have hset : ∀ k, k < m → (l.setIfInBounds x true).getD k false = true := fun k hk => by
    by_cases hkx : k = x
    · subst hkx; exact getD_same (by omega) _
    · rw [getD_other (Ne.symm hkx)]; exact hall k hk hkx
   have hl1 : left l m = 1 := by
    have h0 : ∀ j, j ≤ m → left (l.setIfInBounds x true) j = 0 := fun j => by
     induction j with
     | zero => exact fun _ => rfl
     | succ j ihj => exact fun hj2 => by unfold left; rw [ihj (by omega), hset j (by omega)]; rfl
    have := left_set (m := m) (by omega : x < l.size) hx hxm
    rw [h0 m (Nat.le_refl _)] at this
    exact this.symm
   have hlx : l = (firsts (m + r) m).setIfInBounds x false := by
    apply Array.ext_getElem?
    intro k
    have hfs : (firsts (m + r) m).size = m + r := by simp [firsts]
    rcases Nat.lt_or_ge k (m + r) with hk | hk
    · have e1 : l[k]? = some (l.getD k false) := by
       rw [Array.getElem?_eq_getElem (by omega)]; simp [Array.getD_eq_getD_getElem?, Array.getElem?_eq_getElem (show k < l.size by omega)]
      rw [e1, Array.getElem?_setIfInBounds]
      by_cases hkx : x = k
      · subst hkx; rw [if_pos rfl, if_pos (by omega), hx]
      · rw [if_neg hkx, show (firsts (m + r) m)[k]? = ((List.range (m + r)).map fun k => decide (k < m))[k]? from List.getElem?_toArray .., List.getElem?_map, List.getElem?_range hk]
        rcases Nat.lt_or_ge k m with h | h
        · rw [hall k h (Ne.symm hkx)]; simp [h]
        · rw [hl k h]; simp; omega
    · rw [Array.getElem?_eq_none (by omega), Array.getElem?_eq_none (by simp only [Array.size_setIfInBounds]; omega)]
   obtain ⟨o, ho, hdst, hdi, hlt, hg, hsel, hlow, hdist, hops⟩ := okAtG_spec (hat x hxm)
   obtain ⟨hgn, v, hrun, hphi⟩ := hyx vals w' hSw (fun k hk hkx => (hv k hk (hall k hk hkx)).1) o ho
   have hxx : x ∉ afters ops x := fun h => by have := hlow x h; omega
   have heval : ∀ y ∈ o.op.operands, (fill (fun k => ds[k]?) vals l a m).eval y = (aF vals).eval y := fun y hy => by
    rw [← haF vals]
    exact fill_eval fun k hk hk2 d hd hyd => by
     by_cases hkx : k = x
     · subst hkx; exact hxx (hops y hy d hyd k hk hd)
     · rw [hall k hk hkx] at hk2; cases hk2
   have hy : Yields P ops o v (fill (fun k => ds[k]?) vals l a m) := .inl ⟨by unfold Region.wanted; rw [hgn], fun w2 => by rw [execOp_congr o hsel heval]; exact hrun w2⟩
   simp only [Bool.and_eq_true] at hxr
   rw [hl1]
   refine wpAny_take ho hxs (by rw [hlx]; exact hxr.1) (by rw [hlx]; exact hxr.2) (fun c a2 w2 h => hQ c _ _ w2 (by cases o.dst <;> rfl) h) hy ?_
   rw [hdst, ← hdi, fill_set (by omega) hx hxm (fun j hj hji d hd hdi2 => hdist j hj hji (hd.trans hdi2.symm)), fill_all hset, haF]
   have hup : ∀ k, k ≠ x → upd vals x v k = vals k := fun k hk => if_neg hk
   refine hfin (upd vals x v) w' hSw (fun k hk => ?_) (fun j k h1 h2 hjk fj fk p q ep eq => ?_) _ (by simpa using hs) fun k => ?_
   · by_cases hkx : k = x
     · subst hkx; rw [show upd vals k v k = v from if_pos rfl]; exact hphi
     · rw [hup k hkx]; exact (hv k hk (hall k hk hkx)).1
   · have hjx : j ≠ x := fun e => by subst e; rw [hxf] at fj; cases fj
     have hkx : k ≠ x := fun e => by subst e; rw [hxf] at fk; cases fk
     rw [hup j hjx] at ep
     rw [hup k hkx] at eq
     exact hp j k h1 h2 (hall j h1 hjx) (hall k h2 hkx) hjk fj fk p q ep eq
   · rcases Nat.lt_or_ge k m with h | h
     · rw [hset k h, decide_eq_true h]
     · rw [getD_other (by omega), hl k h, decide_eq_false (by omega)]
 case hstep =>
  obtain ⟨⟨hs, hl⟩, hSw, hdn, vals, rfl, hv, hp⟩ := hj
  obtain ⟨o, ho, hdst, hdi, hlt, hg, hsel, hlow, hdist, hops⟩ := okAtG_spec (hat i h1)
  have hu : l.getD i false = false := by
   have h2 := (mem_ready.1 hi).1
   have h3 : i < l.size := by omega
   simp only [Array.getD_eq_getD_getElem?] at h2 ⊢
   rw [Array.getElem?_eq_getElem h3] at h2 ⊢
   simpa using h2
  have hdep : ∀ e ∈ afters ops i, l.getD e false = true := fun e he => ready_after hi he
  have heval : ∀ x ∈ o.op.operands, (fill (fun k => ds[k]?) vals l a m).eval x = (aF vals).eval x := fun x hx => by
   rw [← haF vals]
   exact fill_eval fun k hk hk2 d hd hxd => by
    rw [hdep k (hops x hx d hxd k hk hd)] at hk2
    cases hk2
  have hphi : ∀ e ∈ afters ops i, Φ e (vals e) w' := fun e he => (hv e (by have := hlow e he; omega) (hdep e he)).1
  have hyld : ∀ g b, g ∈ afters ops i → vals g = .bool b → yielded ops (fill (fun k => ds[k]?) vals l a m).tmps g = some b := fun g b hga hb => by
   have hgm : g < m := by have := hlow g hga; omega
   obtain ⟨og, hog, hgd, hgi, hglt, _, _, _, hgdist, _⟩ := okAtG_spec (hat g hgm)
   have h4 : (fill (fun k => ds[k]?) vals l a m).eval (.tmp (ds.getD g 0)) = vals g := fill_at (hdep g hga) hgi hglt hgm fun k hk hne e => hgdist k hk hne (e.trans hgi.symm)
   refine yielded_at (by rw [hog]; exact hgd) (by rw [fill_size]; exact hglt) (h4.trans hb)
  have hsz : ds.getD i 0 < (aF vals).tmps.size := by rw [← haF vals, fillAll_size]; exact hlt
  have next : ∀ v w2, Below w'.heap.size w' w2 → Φ i v w2 → (fresh i = true → ∃ q, v = .pointer (some ⟨q, 0, none⟩) ∧ w'.heap.size ≤ q ∧ q < w2.heap.size) →
   J (l.setIfInBounds i true) ((fill (fun k => ds[k]?) vals l a m).put o.dst v) w2 := fun v w2 hb hphi hfresh => by
   have hne : ∀ k, k ≠ i → (l.setIfInBounds i true).getD k false = l.getD k false := fun k hk => getD_other (Ne.symm hk) _
   refine ⟨⟨by simpa using hs, fun k hk => by rw [hne k (by omega)]; exact hl k hk⟩, hSb _ _ hb hSw, fun k hk hk2 e he => ?_, upd vals i v, ?_, fun k hk hk2 => ?_, fun j k hj hk hj2 hk2 hjk fj fk p q ep eq => ?_⟩
   · by_cases hki : k = i
     · subst hki
       rw [hne e (by have := hlow e he; omega)]
       exact hdep e he
     · rw [hne k hki] at hk2
       by_cases hei : e = i
       · subst hei
         exact getD_same (by omega) _
       · rw [hne e hei]
         exact hdn k hk hk2 e he
   · rw [hdst, ← hdi]
     exact fill_set (by omega) hu h1 fun j hj hji d hd hdi2 => hdist j hj hji (hd.trans hdi2.symm)
   · by_cases hki : k = i
     · subst hki
       rw [show upd vals k v k = v from if_pos rfl]
       exact ⟨hphi, fun hf => by obtain ⟨q, h1, _, h3⟩ := hfresh hf; exact ⟨q, h1, h3⟩⟩
     · rw [hne k hki] at hk2
       rw [show upd vals i v k = vals k from if_neg hki]
       obtain ⟨h3, h4⟩ := hv k hk hk2
       exact ⟨hΦb _ _ _ _ hb h3, fun hf => by obtain ⟨q, h5, h6⟩ := h4 hf; exact ⟨q, h5, Nat.lt_of_lt_of_le h6 hb.size⟩⟩
   · by_cases hji : j = i
     · subst hji
       have hki : k ≠ j := fun h => hjk h.symm
       rw [show upd vals j v j = v from if_pos rfl] at ep
       rw [show upd vals j v k = vals k from if_neg hki] at eq
       rw [hne k hki] at hk2
       obtain ⟨q1, e1, l1, _⟩ := hfresh fj
       obtain ⟨q2, e2, l2⟩ := (hv k hk hk2).2 fk
       rw [e1] at ep
       rw [e2] at eq
       cases ep
       cases eq
       omega
     · by_cases hki : k = i
       · subst hki
         rw [show upd vals k v k = v from if_pos rfl] at eq
         rw [show upd vals k v j = vals j from if_neg hji] at ep
         rw [hne j hji] at hj2
         obtain ⟨q1, e1, l1, _⟩ := hfresh fk
         obtain ⟨q2, e2, l2⟩ := (hv j hj hj2).2 fj
         rw [e1] at eq
         rw [e2] at ep
         cases ep
         cases eq
         omega
       · rw [show upd vals i v j = vals j from if_neg hji] at ep
         rw [show upd vals i v k = vals k from if_neg hki] at eq
         rw [hne j hji] at hj2
         rw [hne k hki] at hk2
         exact hp j k hj hk hj2 hk2 hjk fj fk p q ep eq
  rcases hop i h1 o ho with ⟨hgv, hop2⟩ | ⟨g, b, hgb, hgv, hun, hfr0⟩
  case inr =>
   unfold wpOp
   rw [ho]
   simp only []
   have hnot : Region.wanted o (yielded ops (fill (fun k => ds[k]?) vals l a m).tmps) = false := by
    unfold Region.wanted
    rw [hgb]
    simp only []
    rw [hyld g (!b) (hg g b hgb) (hgv vals w' hSw hphi)]
    cases b <;> rfl
   rw [if_neg (by rw [hnot]; decide)]
   exact next _ _ (Below.refl _ _) (hun w' hSw) (fun hf => by rw [hfr0] at hf; cases hf)
  have hwant : Region.wanted o (yielded ops (fill (fun k => ds[k]?) vals l a m).tmps) = true := by
   unfold Region.wanted
   cases hgo : o.guard with
   | none => rfl
   | some gb =>
    obtain ⟨g, b⟩ := gb
    simp only []
    rw [hyld g b (hg g b hgo) (hgv vals w' hSw hphi g b hgo)]
    simp
  have hrun := hop2 vals w' hSw hphi
   (fun a2 w2 => a2.defers = (aF vals).defers ∧ Below w'.heap.size w' w2 ∧ Φ i (a2.eval (.tmp (ds.getD i 0))) w2 ∧ (fresh i = true → ∃ q, a2.eval (.tmp (ds.getD i 0)) = .pointer (some ⟨q, 0, none⟩) ∧ w'.heap.size ≤ q ∧ q < w2.heap.size))
   (fun a2 w2 h1 h2 h3 h4 => ⟨h1, h2, h3, h4⟩)
  unfold wpOp
  rw [ho]
  simp only []
  rw [if_pos hwant]
  refine .inl ?_
  unfold Oper.wp at hrun ⊢
  rw [execOp_congr o hsel heval]
  generalize (execOp (aF vals).eval o).run P w' = r at hrun ⊢
  have hdef : (aF vals).defers = (fill (fun k => ds[k]?) vals l a m).defers := by rw [← haF vals, fillAll_defers, fill_defers]
  have hput : ∀ v, ((aF vals).put o.dst v).eval (.tmp (ds.getD i 0)) = v := fun v => by rw [hdst]; exact put_same _ _ _ hsz
  cases r with
  | ok n w2 =>
   cases n <;> simp only [Oper.upon] at hrun ⊢
   case value v => rw [hput] at hrun; exact next _ _ hrun.2.1 hrun.2.2.1 hrun.2.2.2
   case skip => rw [hput] at hrun; exact next _ _ hrun.2.1 hrun.2.2.1 hrun.2.2.2
   case defer d =>
    exfalso
    have := hrun.1
    rw [put_defers2] at this
    have := congrArg List.length this
    simp at this
   case enter f args =>
    refine Calls.mono hrun fun e w3 he => ?_
    cases e with
    | returned v => simp only at he ⊢; rw [hput] at he; exact next _ _ he.2.1 he.2.2.1 he.2.2.2
    | panicked c => exact hQ _ _ _ _ hdef he
    | outgrown => exact he
   case row r args =>
    refine Rows.mono hrun fun v w3 he => ?_
    rw [hput] at he
    exact next _ _ he.2.1 he.2.2.1 he.2.2.2
  | halt x w2 =>
   cases x <;> simp only [Oper.upon] at hrun ⊢ <;> exact hQ _ _ _ _ hdef hrun
end
end Go.Proofs.YthjnepfpohmpkaaDoor

/- LexStands is true at every input: each token stands where it says; between tokens are blanks and notes alone; a blank more between two changes nothing but places. Conditions: the given statement's own (the tables of kinds read as the card ties them). -/
namespace Go.Proofs.YthjnepfpohmpkaaDoor.lawLexStands
open Go.ChangeShapes Go.WideShapes Go.ChangeAt Go.RowKit Limb
set_option linter.unusedVariables false
theorem mem_take2 {l : List Nat} {n x : Nat} (h : x ∈ l.take n) : x ∈ l := List.mem_of_mem_take h
theorem lexS_mem {c k n : Nat} {r s : List Nat} (h : lexS c r = .tok k s n) : ∀ x ∈ s, x ∈ c :: r := by
 intro x hx
 unfold lexS at h
 split at h
 · cases h
 · split at h
   · cases h
   · split at h
     · split at h
       · cases h
       · cases h; exact mem_take2 hx
     · split at h
       · split at h
         · cases h
         · cases h; exact mem_take2 hx
       · split at h
         · split at h
           · cases h
           · cases h; exact List.mem_cons_of_mem _ (mem_take2 hx)
         · split at h
           · cases h
             obtain rfl : x = c := by simpa using hx
             exact List.mem_cons_self
           · cases h
theorem lexR_mem : ∀ (f a : Nat) (l : List Nat) (ts : List Tk), lexR f a l = .ok ts → ∀ t ∈ ts, ∀ x ∈ t.2.1, x ∈ l
 | 0, _, _, _, h => by cases h
 | f + 1, a, [], ts, h => by cases h; simp
 | f + 1, a, c :: r, ts, h => by
  unfold lexR at h
  cases e : lexS c r with
  | bad => rw [e] at h; cases h
  | skip n =>
   rw [e] at h
   intro t ht x hx
   exact List.mem_of_mem_drop (lexR_mem f _ _ ts h t ht x hx)
  | tok k s n =>
   rw [e] at h
   dsimp only at h
   cases e2 : lexR f (a + n) ((c :: r).drop n) with
   | bad p => rw [e2] at h; cases h
   | ok us =>
    rw [e2] at h
    cases h
    intro t ht x hx
    rcases List.mem_cons.1 ht with rfl | ht
    · exact lexS_mem e x hx
    · exact List.mem_of_mem_drop (lexR_mem f _ _ us e2 t ht x hx)
theorem tok_bytes {s : ByteArray} {ts : List Tk} (h : lexT (bytesOf s) = .ok ts) {t : Tk} (ht : t ∈ ts) : Bytes t.2.1 := fun x hx => bytes_bytesOf s x (lexR_mem _ _ _ _ h t ht x hx)
theorem lexV_len {l : List Nat} {ts : List Tk} {E P : Int} (h4 : ¬ 4000 < l.length) (h : lexV l = (ts, E, P)) : (∃ p, lexT l = .bad p ∧ ts = [] ∧ E = 11 ∧ P = (p : Int)) ∨ (lexT l = .ok ts ∧ E = 0 ∧ P = 0) := by
 unfold lexV at h
 rw [if_neg h4] at h
 cases e : lexT l with
 | bad p => rw [e] at h; cases h; exact .inl ⟨p, rfl, rfl, rfl, rfl⟩
 | ok us => rw [e] at h; cases h; exact .inr ⟨rfl, rfl, rfl⟩
theorem ts_kind {l : List Nat} {ts : List Tk} {E P : Int} (h4 : ¬ 4000 < l.length) (h : lexV l = (ts, E, P)) {t : Tk} (ht : t ∈ ts) : okTk t = true ∧ lexT l = .ok ts := by
 rcases lexV_len h4 h with ⟨p, _, rfl, _⟩ | ⟨h1, _⟩
 · cases ht
 · exact ⟨lexR_kind _ _ _ _ h1 t ht, h1⟩
theorem fitsTk (k : Int) (s : ByteArray) (a : Int) : Many Tryd.prog 36 (tkC k s a).size ∧ (#[.int .i64 0, .string ⟨#[]⟩, .int .i64 0] : Array Value).size = (tkC k s a).size ∧ ∀ v ∈ tkC k s a, v.oneCell' = true := ⟨many3 k s a, rfl, by simp [Value.oneCell']⟩
theorem lexR_bad : ∀ (f a : Nat) (l : List Nat) (p : Nat), l.length < f → lexR f a l = .bad p → p ≤ a + l.length
 | 0, _, _, _, h, _ => absurd h (by omega)
 | f + 1, a, [], p, _, h => by cases h
 | f + 1, a, c :: r, p, hf, h => by
  rw [List.length_cons] at hf ⊢
  unfold lexR at h
  cases e : lexS c r with
  | bad => rw [e] at h; cases h; omega
  | skip n =>
   rw [e] at h
   have hl := lexS_len.1 n e
   have := lexR_bad f _ _ p (by rw [List.length_drop, List.length_cons]; omega) h
   rw [List.length_drop, List.length_cons] at this
   omega
  | tok k s n =>
   rw [e] at h
   dsimp only at h
   have hl := lexS_len.2 k s n e
   cases e2 : lexR f (a + n) ((c :: r).drop n) with
   | ok us => rw [e2] at h; cases h
   | bad q =>
    rw [e2] at h
    cases h
    have := lexR_bad f _ _ p (by rw [List.length_drop, List.length_cons]; omega) e2
    rw [List.length_drop, List.length_cons] at this
    omega
theorem bad_at {l : List Nat} {p : Nat} (h : lexT l = .bad p) : p ≤ l.length := by
 have := lexR_bad _ _ _ _ (Nat.lt_succ_self _) h
 omega
theorem lexR_cnt : ∀ (f a : Nat) (l : List Nat) (ts : List Tk), lexR f a l = .ok ts → ts.length ≤ l.length ∧ ∀ t ∈ ts, t.2.2 ≤ a + l.length
 | 0, _, _, _, h => by cases h
 | f + 1, a, [], ts, h => by cases h; simp
 | f + 1, a, c :: r, ts, h => by
  rw [List.length_cons]
  unfold lexR at h
  cases e : lexS c r with
  | bad => rw [e] at h; cases h
  | skip n =>
   rw [e] at h
   have hl := lexS_len.1 n e
   have ih := lexR_cnt f _ _ ts h
   rw [List.length_drop, List.length_cons] at ih
   exact ⟨by omega, fun t ht => by have := ih.2 t ht; omega⟩
  | tok k s n =>
   rw [e] at h
   dsimp only at h
   have hl := lexS_len.2 k s n e
   cases e2 : lexR f (a + n) ((c :: r).drop n) with
   | bad p => rw [e2] at h; cases h
   | ok us =>
    rw [e2] at h
    cases h
    have ih := lexR_cnt f _ _ us e2
    rw [List.length_drop, List.length_cons] at ih
    refine ⟨by rw [List.length_cons]; omega, fun t ht => ?_⟩
    rcases List.mem_cons.1 ht with rfl | ht
    · show a ≤ _; omega
    · have := ih.2 t ht; omega
theorem toks_len {l : List Nat} {ts : List Tk} (h : lexT l = .ok ts) : ts.length ≤ l.length := (lexR_cnt _ _ _ _ h).1
theorem tok_at {l : List Nat} {ts : List Tk} (h : lexT l = .ok ts) {t : Tk} (ht : t ∈ ts) : t.2.2 ≤ l.length := by have := (lexR_cnt _ _ _ _ h).2 t ht; omega
theorem lexR_badS : ∀ (f a : Nat) (l : List Nat) (p : Nat), l.length < f → lexR f a l = .bad p → p < a + l.length
 | 0, _, _, _, h, _ => absurd h (by omega)
 | f + 1, a, [], p, _, h => by cases h
 | f + 1, a, c :: r, p, hf, h => by
  rw [List.length_cons] at hf ⊢
  unfold lexR at h
  cases e : lexS c r with
  | bad => rw [e] at h; cases h; omega
  | skip n =>
   rw [e] at h
   have hl := lexS_len.1 n e
   have := lexR_badS f _ _ p (by rw [List.length_drop, List.length_cons]; omega) h
   rw [List.length_drop, List.length_cons] at this
   omega
  | tok k s n =>
   rw [e] at h
   dsimp only at h
   have hl := lexS_len.2 k s n e
   cases e2 : lexR f (a + n) ((c :: r).drop n) with
   | ok us => rw [e2] at h; cases h
   | bad q =>
    rw [e2] at h
    cases h
    have := lexR_badS f _ _ p (by rw [List.length_drop, List.length_cons]; omega) e2
    rw [List.length_drop, List.length_cons] at this
    omega
theorem bad_in {l : List Nat} {p : Nat} (h : lexT l = .bad p) : p < l.length := by
 have := lexR_badS _ _ _ _ (Nat.lt_succ_self _) h
 omega
def GapAt (l : List Nat) (n : Bool) (j m : Nat) : Prop := gapB n ((l.drop j).take (m - j)) = true
theorem gap_at_step {l : List Nat} {n : Bool} {j m c : Nat} (h : GapAt l n j m) (hj : j < m) (hl : j < l.length) (hc : lim l j = c) :
 (c = 10 → GapAt l false (j + 1) m) ∧ (c ≠ 10 → c = 35 → GapAt l true (j + 1) m) ∧ (c ≠ 10 → c ≠ 35 → n = true → GapAt l true (j + 1) m) ∧ (c ≠ 10 → c ≠ 35 → n = false → (c = 32 ∨ c = 9) ∧ GapAt l false (j + 1) m) := by
 unfold GapAt at *
 rw [drop_lim hl, hc] at h
 obtain ⟨q, hq⟩ : ∃ q, m - j = q + 1 := ⟨m - j - 1, by omega⟩
 have hq2 : m - (j + 1) = q := by omega
 rw [hq, List.take_succ_cons] at h
 rw [hq2]
 unfold gapB at h
 refine ⟨fun e => ?_, fun e1 e2 => ?_, fun e1 e2 e3 => ?_, fun e1 e2 e3 => ?_⟩
 · rw [if_pos e] at h; exact h
 · rw [if_neg e1, if_pos e2] at h; exact h
 · rw [if_neg e1, if_neg e2, if_pos e3] at h; exact h
 · rw [if_neg e1, if_neg e2, if_neg (by rw [e3]; decide)] at h
   simpa using h
def StAt (l : List Nat) (a : Nat) (us : List Tk) : Prop := Stands a (l.drop a) us
theorem st_nil {l : List Nat} {a : Nat} (h : StAt l a []) : GapAt l false a l.length := by
 have h2 : gapB false (l.drop a) = true := h
 unfold GapAt
 rw [List.take_of_length_le (by rw [List.length_drop]; exact Nat.le_refl _)]
 exact h2
theorem st_cons {l : List Nat} {a : Nat} {t : Tk} {us : List Tk} (ha : a ≤ l.length) (h : StAt l a (t :: us)) : a ≤ t.2.2 ∧ GapAt l false a t.2.2 ∧ t.2.2 + (rawT t).length ≤ l.length ∧ rawT t ≠ [] ∧ (l.drop t.2.2).take (rawT t).length = rawT t ∧ StAt l (t.2.2 + (rawT t).length) us := by
 obtain ⟨h1, h2, h3, h4, h5, h6⟩ := h
 rw [List.length_drop] at h3
 rw [List.drop_drop] at h5 h6
 refine ⟨h1, h2, by omega, h4, ?_, ?_⟩
 · rw [show a + (t.2.2 - a) = t.2.2 by omega] at h5; exact h5
 · unfold StAt
   rw [show a + (t.2.2 - a + (rawT t).length) = t.2.2 + (rawT t).length by omega] at h6
   exact h6
theorem slice_at2 {s U : ByteArray} {i j : Nat} {I J : Int} (h : s.extract i j = U) (hI : I = i) (hJ : J = j) (h1 : i ≤ j) (h2 : j ≤ s.size) (W : World) :
 (Instr.slice 9 (.string s) (some (.int .i64 I)) (some (.int .i64 J)) none).run Tryd.prog W = .ok (.string U) W := by
 subst hI hJ h
 go_simp
theorem take_map_at {us : List Tk} {k i d : Nat} {t : Tk} (h : us[i]? = some t) : (us.take k ++ shL d (us.drop k))[i]? = some (if i < k then t else (t.1, t.2.1, t.2.2 + d)) := by
 have hi : i < us.length := (List.getElem?_eq_some_iff.1 h).1
 by_cases hk : i < k
 · rw [if_pos hk, List.getElem?_append_left (by rw [List.length_take]; omega), List.getElem?_take_of_lt hk, h]
 · rw [if_neg hk, List.getElem?_append_right (by rw [List.length_take]; omega)]
   unfold shL
   rw [List.getElem?_map, List.getElem?_drop, List.length_take, show k + (i - min k us.length) = i by omega, h]
   rfl
theorem slice_to {s U : ByteArray} {j : Nat} (h : s.extract 0 j = U) (h2 : j ≤ s.size) (W : World) :
 (Instr.slice 9 (.string s) none (some (.int .i64 (j : Int))) none).run Tryd.prog W = .ok (.string U) W := by
 subst h
 go_simp
theorem slice_from {s U : ByteArray} {j : Nat} (h : s.extract j s.size = U) (h2 : j ≤ s.size) (W : World) :
 (Instr.slice 9 (.string s) (some (.int .i64 (j : Int))) none none).run Tryd.prog W = .ok (.string U) W := by
 subst h
 go_simp
theorem setRow_same {w : World} {g : Nat} {T : TypeId} {V : Array Value} (h : RowA w g T V) : w.setRow g V = w := by
 unfold RowA at h
 simp only [World.setRow]
 have e : w.heap.modify g (fun o => match o with | .cells _ t f => .cells V t f | o => o) = w.heap := by
  apply Array.ext_getElem?
  intro i
  rw [Array.getElem?_modify]
  by_cases hi : g = i
  · subst hi; rw [if_pos rfl, h]; rfl
  · rw [if_neg hi]
 first
  | (rw [e])
  | (congr 1)
set_option maxHeartbeats 8000000 in
set_option maxRecDepth 100000 in
theorem walk (s_s : ByteArray) (v_n : Int) (w : World) (z_s : s_s.size ≤ maxLen) (f_n : (Lit.int .u8 v_n).wf = true) (HT : XTab w) :
 Calls Tryd.prog 4 #[.string s_s, .int .u8 v_n] w fun e w' => e = .returned (.bool true) ∧ Below w.heap.size w w' := by
 have HT0 := Lib.hid HT
 clear HT
 have bw := bel_refl w
 have HL := Lib.hid (length_bytesOf s_s)
 obtain ⟨N, rfl, hN⟩ : ∃ N : Nat, v_n = N ∧ N < 256 := by
  have h := f_n
  have e1 : IntKind.u8.min = 0 := rfl
  have e2 : IntKind.u8.max = 255 := rfl
  simp only [Lit.wf, Bool.and_eq_true, decide_eq_true_eq] at h
  exact ⟨v_n.toNat, by omega, by omega⟩
 clear f_n
 by_cases h20 : 2000 < s_s.size
 · have hgt : (2000 : Int) < (s_s.size : Int) := by omega
   go_enter Tryd.func4, Tryd.ntmps4
   go_wp2_with fail
   refine (wakes_any w (Lib.hid (HT0.out.below bw))).mono ?_
   rintro e w1 ⟨rfl, bn⟩
   replace bw := below_two bw bn
   clear bn
   go_wp2
   go_ret
   exact ⟨rfl, bw⟩
 · have hgt : ¬ ((2000 : Int) < (s_s.size : Int)) := by omega
   have h4 : Hid (¬ 4000 < (bytesOf s_s).length) := by show ¬ _; rw [HL.out]; omega
   cases hT : lexT (bytesOf s_s) with
   | bad p =>
    have HV := Lib.hid (lexV_bad h4.out hT)
    have hp : p < s_s.size := by have h := bad_in hT; rw [HL.out] at h; exact h
    clear hT
    go_enter Tryd.func4, Tryd.ntmps4
    go_wp2_with fail
    refine (lkTokens_c s_s (by omega) w (HT0.out.below bw) [] (11) ((p : Int)) HV.out).mono ?_
    rintro e w1 ⟨A_l, n_l, c_l, rfl, h_tl, bn⟩
    replace bw := below_two bw bn
    clear bn
    obtain rfl : n_l = 0 := h_tl.1
    have HU_f := Lib.hid (fitsF (11) ((p : Int)))
    have h_rf := rowA_new w1 26 (fltC (11) ((p : Int)))
    have bn := below_new w1 (.cells (fltC (11) ((p : Int))) 26)
    replace h_tl := h_tl.below bn
    replace bw := below_two bw bn
    clear bn
    have k0_f := h_rf.cell (k := 0) (v := .int .i64 (11)) rfl
    have k1_f := h_rf.cell (k := 1) (v := .int .i64 ((p : Int))) rfl
    go_wp2_with (refine wpList_storeNew (by rfl) _ _ _ (by rfl) _ _ _ (by rfl) (by rfl) (by assumption) ?_)
    clear k0_f k1_f
    generalize w1.alloc (.cells (fltC (11) ((p : Int))) 26) = w2 at *
    obtain ⟨q_f, eg⟩ : ∃ g, g = w1.heap.size := ⟨_, rfl⟩
    rw [← eg] at h_rf ⊢
    clear eg
    refine (wakes_any w2 (Lib.hid (HT0.out.below bw))).mono ?_
    rintro e w3 ⟨rfl, bn⟩
    replace h_tl := h_tl.below bn
    replace h_rf := h_rf.below bn
    replace bw := below_two bw bn
    clear bn
    go_wp2
    go_ret
    exact ⟨by first | rfl | simp, bw⟩
   | ok ts =>
    have HV := Lib.hid (lexV_ok h4.out hT)
    have HTx := Lib.hid hT
    have HSt : Hid (StAt (bytesOf s_s) 0 ts) := by show StAt _ _ _; unfold StAt; rw [List.drop_zero]; exact (lexR_stands _ _ _ _ hT).1
    clear hT
    go_enter Tryd.func4, Tryd.ntmps4
    go_wp2_with fail
    refine (lkTokens_c s_s (by omega) w (HT0.out.below bw) ts (0) (0) HV.out).mono ?_
    rintro e w1 ⟨A_l, n_l, c_l, rfl, h_tl, bn⟩
    replace bw := below_two bw bn
    clear bn
    have HU_f := Lib.hid (fitsF (0) (0))
    have h_rf := rowA_new w1 26 (fltC (0) (0))
    have bn := below_new w1 (.cells (fltC (0) (0)) 26)
    replace h_tl := h_tl.below bn
    replace bw := below_two bw bn
    clear bn
    have k0_f := h_rf.cell (k := 0) (v := .int .i64 (0)) rfl
    go_wp2_with (refine wpList_storeNew (by rfl) _ _ _ (by rfl) _ _ _ (by rfl) (by rfl) (by assumption) ?_)
    clear k0_f
    generalize w1.alloc (.cells (fltC (0) (0)) 26) = w2 at *
    obtain ⟨q_f, eg⟩ : ∃ g, g = w1.heap.size := ⟨_, rfl⟩
    rw [← eg] at h_rf ⊢
    clear eg
    have Htl := Lib.hid h_tl
    have hnl : n_l ≤ 2000 := by have h1 := h_tl.1; have h2 := toks_len HTx.out; rw [HL.out] at h2; omega
    go_loopw [7, 8] (fun av iv wr => ∃ a i : Nat, i ≤ n_l ∧ a ≤ s_s.size ∧ av = .int .i64 (a : Int) ∧ iv = .int .i64 (i : Int) ∧ Hid (StAt (bytesOf s_s) a (ts.drop i)) ∧ w2 = wr) (fun _ iv _ => n_l - (intOf iv).toNat)
    case atStart => exact ⟨0, 0, Nat.zero_le _, Nat.zero_le _, rfl, rfl, HSt, rfl⟩
    case round =>
     clear HSt
     obtain ⟨a, i, hi, ha, rfl, rfl, HS, rfl⟩ := hrel
     have hle : (i : Int) ≤ (n_l : Int) := by omega
     by_cases hlt : i < n_l
     · obtain ⟨t, ht⟩ : ∃ t, ts[i]? = some t := ⟨ts[i]'(by have := Htl.out.1; omega), List.getElem?_eq_getElem _⟩
       have hds : ts.drop i = t :: ts.drop (i + 1) := by
        obtain ⟨hl, e⟩ := List.getElem?_eq_some_iff.1 ht
        rw [List.drop_eq_getElem_cons hl, e]
       rw [hds] at HS
       obtain ⟨s1, s2, s3, s4, s5, s6⟩ := st_cons (by rw [HL.out]; exact ha) HS.out
       have hby := tok_bytes HTx.out (List.mem_of_getElem? ht)
       obtain ⟨g, ea, hg, hc, hI⟩ := Htl.out.at ht
       subst ea
       obtain ⟨kk, tx, pl⟩ := t
       dsimp only at hby s1 s2 s3 s5 s6
       obtain ⟨X, hX⟩ : ∃ X, strOf tx = X := ⟨_, rfl⟩
       have HX : Hid (bytesOf X = tx) := by show _ = _; rw [← hX]; exact bytesOf_strOf hby
       obtain ⟨q, hq⟩ : ∃ q, (rawT (kk, tx, pl)).length = q := ⟨_, rfl⟩
       rw [hq] at s3 s5 s6
       rw [HL.out] at s3
       have hq0 : 0 < q := by rw [← hq]; exact List.length_pos_iff.2 s4
       have kc2 : w2.cell? ⟨g, i * 3 + 2, none⟩ = some (.int .i64 (pl : Int)) := hI 2 _ rfl
       have kc1 : w2.cell? ⟨g, i * 3 + 1, none⟩ = some (.string X) := by have h : w2.cell? ⟨g, i * 3 + 1, none⟩ = some (.string (strOf tx)) := hI 1 _ rfl; rw [hX] at h; exact h
       have kc0 : w2.cell? ⟨g, i * 3, none⟩ = some (.int .i64 (kk : Int)) := hI 0 _ rfl
       have HG0 := Lib.hid s2
       have HS6 := Lib.hid s6
       have S5 := Lib.hid s5
       have Hq := Lib.hid hq
       have hpl : pl ≤ s_s.size := by omega
       clear hds HS s2 s5 s6 s4 hby hI ht hq hX
       go_wp2
       go_loopw [7, 10] (fun jv bv wy => ∃ (j : Nat) (nt : Bool), jv = .int .i64 (j : Int) ∧ bv = .bool nt ∧ a ≤ j ∧ j ≤ pl ∧ Hid (GapAt (bytesOf s_s) nt j pl) ∧ w2 = wy) (fun jv _ _ => pl - (intOf jv).toNat)
       case atStart => exact ⟨a, false, rfl, rfl, Nat.le_refl _, by omega, HG0, rfl⟩
       case round =>
        obtain ⟨j, nt, rfl, rfl, hj1, hj2, HGj, rfl⟩ := hrel
        by_cases hjt : j < pl
        · have hjs : j < s_s.size := by omega
          obtain ⟨d, hd⟩ : ∃ d, (s_s[j]'hjs).toNat = d := ⟨_, rfl⟩
          have HGs := Lib.hid (gap_at_step HGj.out hjt (by rw [HL.out]; exact hjs) ((Limb.byte_at s_s j hjs).symm.trans hd))
          clear HGj
          by_cases d10 : d = 10
          · subst d10
            have HG2 := Lib.hid (HGs.out.1 rfl)
            clear HGs
            as_aux_lemma =>
             go_wp2
             exact ⟨⟨j + 1, false, by go_num, rfl, by omega, by omega, HG2, by first | rfl | trivial⟩, by simp [intOf]; omega⟩
          · have e10 : ((d : Int) == 10) = false := by rw [beq_eq_false_iff_ne]; omega
            by_cases d35 : d = 35
            · subst d35
              have HG2 := Lib.hid (HGs.out.2.1 (by decide) rfl)
              clear HGs
              as_aux_lemma =>
               go_wp2
               exact ⟨⟨j + 1, true, by go_num, rfl, by omega, by omega, HG2, by first | rfl | trivial⟩, by simp [intOf]; omega⟩
            · have e35 : ((d : Int) == 35) = false := by rw [beq_eq_false_iff_ne]; omega
              cases nt with
              | true =>
               have HG2 := Lib.hid (HGs.out.2.2.1 d10 d35 rfl)
               clear HGs d10 d35
               as_aux_lemma =>
                go_wp2
                exact ⟨⟨j + 1, true, by go_num, rfl, by omega, by omega, HG2, by first | rfl | trivial⟩, by simp [intOf]; omega⟩
              | false =>
               obtain ⟨hd3, hg3⟩ := HGs.out.2.2.2 d10 d35 rfl
               have HG2 := Lib.hid hg3
               clear HGs d10 d35 hg3
               rcases hd3 with rfl | rfl
               all_goals as_aux_lemma =>
                go_wp2
                exact ⟨⟨j + 1, false, by go_num, rfl, by omega, by omega, HG2, by first | rfl | trivial⟩, by simp [intOf]; omega⟩
        · have ejt : pl = j := by omega
          subst ejt
          clear HGj hjt hj2
          by_cases hk : kk = 4
          · subst hk
            obtain ⟨Y, hY⟩ : ∃ Y, (⟨#[91]⟩ : ByteArray) ++ X ++ (⟨#[93]⟩ : ByteArray) = Y := ⟨_, rfl⟩
            have HY : Hid (bytesOf Y = rawT (4, tx, pl)) := by show _ = _; rw [← hY, bytesOf_append, bytesOf_append, HX.out]; rfl
            have hxs : X.size + 2 = q := by rw [← Hq.out, ← HX.out, ← length_bytesOf]; show _ = (91 :: (bytesOf X ++ [93])).length; simp
            have hc1 : ((⟨#[91]⟩ : ByteArray) ++ X).size = X.size + 1 := by rw [ByteArray.size_append, Nat.add_comm]; rfl
            have hys : Y.size = q := by rw [← length_bytesOf, HY.out]; exact Hq.out
            have hsl : s_s.extract pl (pl + q) = Y := by
             have h : bytesOf (s_s.extract pl (pl + q)) = bytesOf Y := by rw [bytesOf_extract, Nat.add_sub_cancel_left, HY.out]; exact S5.out
             rw [← strOf_bytesOf (s_s.extract pl (pl + q)), h, strOf_bytesOf]
            have eq0 : ((q : Int) == 0) = false := by rw [beq_eq_false_iff_ne]; omega
            have eq1 : ¬ ((q : Int) = 0) := by omega
            clear HY HX S5 Hq
            go_wp2
            exact ⟨⟨pl + q, i + 1, by omega, by omega, by go_num, by go_num, HS6, by first | rfl | trivial⟩, by simp [intOf]; omega⟩
          · have ek4 : ((kk : Int) == 4) = false := by rw [beq_eq_false_iff_ne]; omega
            obtain ⟨Y, hY⟩ : ∃ Y, X = Y := ⟨_, rfl⟩
            subst hY
            have HY : Hid (bytesOf X = rawT (kk, tx, pl)) := by show _ = _; unfold rawT; dsimp only; rw [if_neg hk, HX.out]
            have hys : X.size = q := by rw [← length_bytesOf, HY.out]; exact Hq.out
            have hsl : s_s.extract pl (pl + q) = X := by
             have h : bytesOf (s_s.extract pl (pl + q)) = bytesOf X := by rw [bytesOf_extract, Nat.add_sub_cancel_left, HY.out]; exact S5.out
             rw [← strOf_bytesOf (s_s.extract pl (pl + q)), h, strOf_bytesOf]
            have eq0 : ((q : Int) == 0) = false := by rw [beq_eq_false_iff_ne]; omega
            have eq1 : ¬ ((q : Int) = 0) := by omega
            clear HY HX S5 Hq
            go_wp2
            exact ⟨⟨pl + q, i + 1, by omega, by omega, by go_num, by go_num, HS6, by first | rfl | trivial⟩, by simp [intOf]; omega⟩
     · obtain rfl : n_l = i := by omega
       rw [List.drop_eq_nil_of_le (by have := Htl.out.1; omega)] at HS
       have HG0 : Hid (GapAt (bytesOf s_s) false a s_s.size) := by have h := st_nil HS.out; rw [HL.out] at h; exact h
       clear HS hlt
       go_wp2
       go_loopw [7, 10] (fun jv bv wy => ∃ (j : Nat) (nt : Bool), jv = .int .i64 (j : Int) ∧ bv = .bool nt ∧ a ≤ j ∧ j ≤ s_s.size ∧ Hid (GapAt (bytesOf s_s) nt j s_s.size) ∧ w2 = wy) (fun jv _ _ => s_s.size - (intOf jv).toNat)
       case atStart => exact ⟨a, false, rfl, rfl, Nat.le_refl _, by omega, HG0, rfl⟩
       case round =>
        obtain ⟨j, nt, rfl, rfl, hj1, hj2, HGj, rfl⟩ := hrel
        by_cases hjt : j < s_s.size
        · have hjs : j < s_s.size := by omega
          obtain ⟨d, hd⟩ : ∃ d, (s_s[j]'hjs).toNat = d := ⟨_, rfl⟩
          have HGs := Lib.hid (gap_at_step HGj.out hjt (by rw [HL.out]; exact hjs) ((Limb.byte_at s_s j hjs).symm.trans hd))
          clear HGj
          by_cases d10 : d = 10
          · subst d10
            have HG2 := Lib.hid (HGs.out.1 rfl)
            clear HGs
            as_aux_lemma =>
             go_wp2
             exact ⟨⟨j + 1, false, by go_num, rfl, by omega, by omega, HG2, by first | rfl | trivial⟩, by simp [intOf]; omega⟩
          · have e10 : ((d : Int) == 10) = false := by rw [beq_eq_false_iff_ne]; omega
            by_cases d35 : d = 35
            · subst d35
              have HG2 := Lib.hid (HGs.out.2.1 (by decide) rfl)
              clear HGs
              as_aux_lemma =>
               go_wp2
               exact ⟨⟨j + 1, true, by go_num, rfl, by omega, by omega, HG2, by first | rfl | trivial⟩, by simp [intOf]; omega⟩
            · have e35 : ((d : Int) == 35) = false := by rw [beq_eq_false_iff_ne]; omega
              cases nt with
              | true =>
               have HG2 := Lib.hid (HGs.out.2.2.1 d10 d35 rfl)
               clear HGs d10 d35
               as_aux_lemma =>
                go_wp2
                exact ⟨⟨j + 1, true, by go_num, rfl, by omega, by omega, HG2, by first | rfl | trivial⟩, by simp [intOf]; omega⟩
              | false =>
               obtain ⟨hd3, hg3⟩ := HGs.out.2.2.2 d10 d35 rfl
               have HG2 := Lib.hid hg3
               clear HGs d10 d35 hg3
               rcases hd3 with rfl | rfl
               all_goals as_aux_lemma =>
                go_wp2
                exact ⟨⟨j + 1, false, by go_num, rfl, by omega, by omega, HG2, by first | rfl | trivial⟩, by simp [intOf]; omega⟩
        · have ejt : s_s.size = j := by omega
          subst ejt
          clear HGj hjt hj2
          by_cases h0 : n_l = 0
          · subst h0
            go_wp2_with fail
            refine (wakes_any w2 (Lib.hid (HT0.out.below bw))).mono ?_
            rintro e w3 ⟨rfl, bn⟩
            replace h_tl := h_tl.below bn
            replace h_rf := h_rf.below bn
            replace bw := below_two bw bn
            clear bn
            go_wp2
            go_ret
            exact ⟨by first | rfl | simp, bw⟩
          · have hn0 : ((n_l : Int) == 0) = false := by rw [beq_eq_false_iff_ne]; omega
            obtain ⟨kx, hkx⟩ : ∃ k, N % n_l = k := ⟨_, rfl⟩
            have hkl : kx < n_l := by rw [← hkx]; exact Nat.mod_lt _ (by omega)
            have ekx : (N : Int) % (n_l : Int) = (kx : Int) := by rw [← hkx]; exact (Int.natCast_emod N n_l).symm
            have hN0 : (0 : Int) ≤ (N : Int) := by omega
            have hnp : (0 : Int) < (n_l : Int) := by omega
            obtain ⟨tk, htk⟩ : ∃ t, ts[kx]? = some t := ⟨ts[kx]'(by have := Htl.out.1; omega), List.getElem?_eq_getElem _⟩
            obtain ⟨g, ea, hg, hc, hI⟩ := Htl.out.at htk
            subst ea
            obtain ⟨ct, hct⟩ : ∃ c, tk.2.2 = c := ⟨_, rfl⟩
            have kc2 : w2.cell? ⟨g, kx * 3 + 2, none⟩ = some (.int .i64 (ct : Int)) := by rw [← hct]; exact hI 2 _ rfl
            have hcs : ct ≤ s_s.size := by rw [← hct, ← HL.out]; exact tok_at HTx.out (List.mem_of_getElem? htk)
            clear hkx hI
            go_wp2
            try rw [ekx]
            obtain ⟨U1, hU1⟩ : ∃ U, s_s.extract 0 ct = U := ⟨_, rfl⟩
            obtain ⟨U2, hU2⟩ : ∃ U, s_s.extract ct s_s.size = U := ⟨_, rfl⟩
            obtain ⟨C1, hC1⟩ : ∃ C, U1 ++ (⟨#[32, 10, 35, 32, 120, 10]⟩ : ByteArray) = C := ⟨_, rfl⟩
            obtain ⟨S2, hS2⟩ : ∃ S, C1 ++ U2 = S := ⟨_, rfl⟩
            have b1 : bytesOf U1 = (bytesOf s_s).take ct := by rw [← hU1, bytesOf_extract, List.drop_zero, Nat.sub_zero]
            have b2 : bytesOf U2 = (bytesOf s_s).drop ct := by rw [← hU2]; exact tail_of s_s ct
            have bS : bytesOf S2 = (bytesOf s_s).take ct ++ insL ++ (bytesOf s_s).drop ct := by rw [← hS2, ← hC1, bytesOf_append, bytesOf_append, b1, b2]; rfl
            have z1 : U1.size ≤ 2000 := by rw [← length_bytesOf, b1, List.length_take, HL.out]; omega
            have z2 : U2.size ≤ 2000 := by rw [← length_bytesOf, b2, List.length_drop, HL.out]; omega
            have zi : (⟨#[32, 10, 35, 32, 120, 10]⟩ : ByteArray).size = 6 := rfl
            have z3 : C1.size ≤ 2006 := by rw [← hC1, ByteArray.size_append]; omega
            have z4 : S2.size ≤ 4006 := by rw [← hS2, ByteArray.size_append]; omega
            have z5 : S2.size = s_s.size + 6 := by rw [← length_bytesOf, bS]; simp [insL]; rw [HL.out]; omega
            have HV2 : Hid (lexV (bytesOf S2) = ((ts.take kx ++ shL 6 (ts.drop kx)), 0, 0)) := by
             refine lexV_ok (by rw [length_bytesOf]; omega) ?_
             rw [bS]
             have h := lexR_cut ((bytesOf s_s).length + 1) ((bytesOf S2).length + 1) 0 (bytesOf s_s) ts kx tk HTx.out (by omega) (by have e1 := length_bytesOf S2; have e2 := HL.out; omega) htk
             rw [Nat.sub_zero, hct] at h
             unfold lexT
             rw [← bS]
             rw [← bS] at h
             exact h
            have HU1 := Lib.hid hU1
            have HU2 := Lib.hid hU2
            have HC1 := Lib.hid hC1
            have HS2 := Lib.hid hS2
            have Hcs := Lib.hid hcs
            clear hU1 hU2 hC1 hS2 b1 b2 bS z5 hct htk
            refine region_freex 13 2 11 [164, 165, 166, 167, 168, 169, 170, 171, 172, 163, 173, 174, 15] ?aF3 (fun wx => Below w2.heap.size w2 wx) (fun k vv wx => match k with
             | 0 => vv = .string s_s
             | 1 => vv = .int .i64 (ct : Int)
             | 2 => vv = .string U1
             | 3 => vv = .string C1
             | 4 => vv = .string s_s
             | 5 => vv = .int .i64 (ct : Int)
             | 6 => vv = .string U2
             | 7 => vv = .string S2
             | 8 => ∃ (e0 : Option Addr) (e1 : Nat) (e2 : Nat), vv = .tuple #[.slice e0 e1 e2, .agg (fltC 0 0)] ∧ TokR wx e0 e1 e2 (ts.take kx ++ shL 6 (ts.drop kx))
             | 9 => ∃ (e0 : Option Addr) (e1 : Nat) (e2 : Nat), vv = .tuple #[.slice e0 e1 e2, .agg (fltC 0 0)] ∧ TokR wx e0 e1 e2 (ts.take kx ++ shL 6 (ts.drop kx))
             | 10 => ∃ (e0 : Option Addr) (e1 : Nat) (e2 : Nat), vv = .slice e0 e1 e2 ∧ TokR wx e0 e1 e2 (ts.take kx ++ shL 6 (ts.drop kx))
             | 11 => vv = .agg (fltC 0 0)
             | _ => ∃ (e0 : Nat), vv = .pointer (some ⟨e0, 0, none⟩) ∧ RowA wx e0 26 (fltC 0 0))
             (fun k => k == 12) (by kernel_rfl) ?haF3 rfl (by kernel_rfl) (by kernel_rfl) (by decide) rfl (by kernel_rfl) (by kernel_rfl) ?hyx3 (fun _ _ _ _ _ h => h) ?hSb3 ?hPb3 ?hS3 ?hop3 ?hfin3
            case haF3 =>
             intro vals
             simp only [fillAll, List.getElem?_cons_zero, List.getElem?_cons_succ, Act.put, List.setIfInBounds_toArray, List.set_cons_zero, List.set_cons_succ]
             exact rfl
            case hyx3 =>
             intro vals wr hS hd o ho
             obtain ⟨A_9_0, n_9_1, n_9_2, d9, h_9_0⟩ := hd 9 (by decide) (by decide)
             cases ho
             try dsimp only
             rw [d9]
             exact ⟨rfl, _, fun _ => rfl, rfl⟩
            case hSb3 => exact fun wx w2 hb hS => below_two hS hb
            case hPb3 =>
             intro k v wa wb hb h
             match k, h with
             | 0, h => exact h
             | 1, h => exact h
             | 2, h => exact h
             | 3, h => exact h
             | 4, h => exact h
             | 5, h => exact h
             | 6, h => exact h
             | 7, h => exact h
             | 8, ⟨e0, e1, e2, h1, g0⟩ => exact ⟨e0, e1, e2, h1, g0.below hb⟩
             | 9, ⟨e0, e1, e2, h1, g0⟩ => exact ⟨e0, e1, e2, h1, g0.below hb⟩
             | 10, ⟨e0, e1, e2, h1, g0⟩ => exact ⟨e0, e1, e2, h1, g0.below hb⟩
             | 11, h => exact h
             | _ + 12, ⟨e0, h1, g0⟩ => exact ⟨e0, h1, g0.below hb⟩
            case hS3 => exact (Below.refl _ _).drew
            case hop3 =>
             refine .cons (k := 0) (.plain rfl ?_) (.cons (k := 1) (.plain rfl ?_) (.cons (k := 2) (.plain rfl ?_) (.cons (k := 3) (.plain rfl ?_) (.cons (k := 4) (.plain rfl ?_) (.cons (k := 5) (.plain rfl ?_) (.cons (k := 6) (.plain rfl ?_) (.cons (k := 7) (.plain rfl ?_) (.cons (k := 8) (.plain rfl ?_) (.cons (k := 9) (.plain rfl ?_) (.cons (k := 10) (.plain rfl ?_) (.cons (k := 11) (.plain rfl ?_) (.cons (k := 12) (.plain rfl ?_) (.nil)))))))))))))
             all_goals intro vals wr hS hd KC hK
             all_goals (show Oper.wp _ _ _ _ _ _; dsimp only)
             · go_simp
               refine hK _ _ rfl (Below.refl _ _) (by first | rfl | simp) (fun h => by cases h)
             · go_simp
               refine hK _ _ rfl (Below.refl _ _) (by first | rfl | simp) (fun h => by cases h)
             · have d0 : vals 0 = _ := hd 0 (by decide +kernel)
               have d1 : vals 1 = _ := hd 1 (by decide +kernel)
               rw [d0, d1]
               have hsl := fun W => slice_to HU1.out Hcs.out W
               go_simp
               refine hK _ _ rfl (Below.refl _ _) (by first | rfl | simp) (fun h => by cases h)
             · have d2 : vals 2 = _ := hd 2 (by decide +kernel)
               rw [d2]
               go_simp
               rw [if_neg (by simp; omega)]
               go_simp
               refine hK _ _ rfl (Below.refl _ _) (congrArg Value.string HC1.out) (fun h => by cases h)
             · go_simp
               refine hK _ _ rfl (Below.refl _ _) (by first | rfl | simp) (fun h => by cases h)
             · go_simp
               refine hK _ _ rfl (Below.refl _ _) (by first | rfl | simp) (fun h => by cases h)
             · have d4 : vals 4 = _ := hd 4 (by decide +kernel)
               have d5 : vals 5 = _ := hd 5 (by decide +kernel)
               rw [d4, d5]
               have hsl := fun W => slice_from HU2.out Hcs.out W
               go_simp
               refine hK _ _ rfl (Below.refl _ _) (by first | rfl | simp) (fun h => by cases h)
             · have d3 : vals 3 = _ := hd 3 (by decide +kernel)
               have d6 : vals 6 = _ := hd 6 (by decide +kernel)
               rw [d3, d6]
               go_simp
               rw [if_neg (by omega)]
               go_simp
               refine hK _ _ rfl (Below.refl _ _) (congrArg Value.string HS2.out) (fun h => by cases h)
             · have d7 : vals 7 = _ := hd 7 (by decide +kernel)
               rw [d7]
               go_simp
               go_at_call 8
               with_reducible refine (lkTokens_c S2 (by omega) wr (HT0.out.below (below_two bw hS)) (ts.take kx ++ shL 6 (ts.drop kx)) 0 0 HV2.out).mono ?_
               rintro e w2 ⟨r0, r1, r2, rfl, f0, bn_r⟩
               refine hK _ _ rfl bn_r ⟨_, _, _, rfl, f0⟩ (fun h => by cases h)
             · obtain ⟨A_8_0, n_8_1, n_8_2, d8, h_8_0⟩ := hd 8 (by decide +kernel)
               rw [d8]
               go_simp
               refine hK _ _ rfl (Below.refl _ _) ⟨_, _, _, rfl, h_8_0⟩ (fun h => by cases h)
             · obtain ⟨A_9_0, n_9_1, n_9_2, d9, h_9_0⟩ := hd 9 (by decide +kernel)
               rw [d9]
               go_simp
               refine hK _ _ rfl (Below.refl _ _) ⟨_, _, _, rfl, h_9_0⟩ (fun h => by cases h)
             · obtain ⟨A_9_0, n_9_1, n_9_2, d9, h_9_0⟩ := hd 9 (by decide +kernel)
               rw [d9]
               go_simp
               refine hK _ _ rfl (Below.refl _ _) rfl (fun h => by cases h)
             · go_simp
               refine hK _ _ rfl (below_new _ _) ⟨_, rfl, rowA_new wr _ _⟩ (fun _ => ⟨_, rfl, Nat.le_refl _, by rw [World.size_alloc]; omega⟩)
            case hfin3 =>
             intro vals wr hS hP hne
             obtain ⟨A_10_0, n_10_1, n_10_2, ez_10, h_10_0⟩ := hP 10 (by decide)
             have ez_11 : vals 11 = _ := hP 11 (by decide)
             obtain ⟨n_12_0, ez_12, h_12_0⟩ := hP 12 (by decide)
             try dsimp only
             rw [ez_10, ez_11, ez_12]
             refine wpAny_ready (rs := [13]) (by kernel_rfl) (by simp) (AllReady.cons rfl (fun KC hK => ?_) AllReady.nil)
             go_simp
             refine hK _ _ ?_
             clear hK KC
             refine wpAny_ready (rs := [14]) (by kernel_rfl) (by simp) (AllReady.cons rfl (fun KC hK => ?_) AllReady.nil)
             refine wp_storeV 26 _ _ rfl n_12_0 rfl (fltC 0 0) rfl 26 (fltC 0 0) (Lib.hid h_12_0) (Lib.hid (fitsF 0 0)) ?_
             rw [setRow_same h_12_0]
             refine hK _ _ ?_
             clear hK KC
             try dsimp only [Act.put]
             refine wpAny_done (by kernel_rfl) ?_ _
             obtain ⟨A_m, n_m, c_m, eg⟩ : ∃ A n c, (A, n, c) = (A_10_0, n_10_1, n_10_2) := ⟨_, _, _, rfl⟩
             injection eg with e1 eg
             injection eg with e2 e3
             subst e1 e2 e3
             obtain ⟨q_g, eg⟩ : ∃ q, q = n_12_0 := ⟨_, rfl⟩
             subst eg
             have Htm := Lib.hid h_10_0
             have h_rg := h_12_0
             have HB1 := Lib.hid hS
             have Htl2 := Lib.hid (Htl.out.below hS)
             have Hbw := Lib.hid (below_two bw hS)
             clear hS hP hne h_10_0 h_12_0 hg hc kc2
             obtain rfl : n_m = n_l := by have h1 := Htm.out.1; have h2 := Htl.out.1; rw [List.length_append] at h1; unfold shL at h1; rw [List.length_map, List.length_take, List.length_drop] at h1; omega
             have k0_g := h_rg.cell (k := 0) (v := .int .i64 (0)) rfl
             clear Htl
             obtain ⟨w8, e8⟩ : ∃ x, x = wr := ⟨_, rfl⟩
             subst e8
             go_wp2
             clear k0_g h_rg
             go_loopw [16] (fun iv wr2 => ∃ i : Nat, i ≤ n_m ∧ iv = .int .i64 (i : Int) ∧ Hid (Below w8.heap.size w8 wr2)) (fun iv _ => n_m - (intOf iv).toNat)
             case atStart => exact ⟨0, Nat.zero_le _, rfl, Below.refl _ _⟩
             case round =>
              obtain ⟨i, hi, rfl, HB⟩ := hrel
              by_cases hlt : i < n_m
              · obtain ⟨t, ht⟩ : ∃ t, ts[i]? = some t := ⟨ts[i]'(by have := Htl2.out.1; omega), List.getElem?_eq_getElem _⟩
                have htc := take_map_at (k := kx) (d := 6) ht
                obtain ⟨gl, eo, hgl, hml, hIl⟩ := (Htl2.out.below HB.out).at ht
                cases eo
                obtain ⟨gc, ec, hgc, hmc, hIc⟩ := (Htm.out.below HB.out).at htc
                subst ec
                have hpl : t.2.2 ≤ 2000 := by have h := tok_at HTx.out (List.mem_of_getElem? ht); rw [HL.out] at h; omega
                have bz := below_new wr (.cells (tkC (t.1 : Int) (strOf t.2.1) (t.2.2 : Int)) 36)
                have HI_o : Hid (InV wr g (i * 3) (tkC (t.1 : Int) (strOf t.2.1) (t.2.2 : Int))) := hIl
                have HMo := Lib.hid (many3 (t.1 : Int) (strOf t.2.1) (t.2.2 : Int))
                have HUt := Lib.hid (fitsTk (t.1 : Int) (strOf t.2.1) (t.2.2 : Int))
                clear htc ht bz hIl
                by_cases hik : i < kx
                · rw [if_pos hik] at hIc
                  have hika : ¬ ((kx : Int) ≤ (i : Int)) := by omega
                  have HBw := Lib.hid (below_new wr (.cells (tkC (t.1 : Int) (strOf t.2.1) (t.2.2 : Int)) 36))
                  have h_rw := rowA_new wr 36 (tkC (t.1 : Int) (strOf t.2.1) (t.2.2 : Int))
                  have HIc : Hid (InV (wr.alloc (.cells (tkC (t.1 : Int) (strOf t.2.1) (t.2.2 : Int)) 36)) gc (i * 3) (tkC (t.1 : Int) (strOf t.2.1) (t.2.2 : Int))) := hIc.below hgc HBw.out
                  have hgcS : Hid (gc < (wr.alloc (.cells (tkC (t.1 : Int) (strOf t.2.1) (t.2.2 : Int)) 36)).heap.size) := Nat.lt_of_lt_of_le hgc HBw.out.size
                  clear hIc
                  go_wp2_with (first | (refine wpList_loadV (by rfl) _ _ (by rfl) _ _ (by rfl) _ (by assumption) (by assumption) ?_) | (refine wpList_storeNew (by rfl) _ _ _ (by rfl) _ _ _ (by rfl) (by rfl) (by assumption) ?_))
                  clear HI_o HUt HMo
                  generalize wr.alloc (.cells (tkC (t.1 : Int) (strOf t.2.1) (t.2.2 : Int)) 36) = wS at *
                  obtain ⟨q_w, eg⟩ : ∃ g, g = wr.heap.size := ⟨_, rfl⟩
                  rw [← eg] at h_rw ⊢
                  clear eg
                  refine region_free 6 0 [202, 203, 204, 205, 206, 207] ?aF1 (fun wx => Below wS.heap.size wS wx) (fun k vv wx => match k with
                   | 0 => vv = .slice (some ⟨gc, 0, none⟩) n_m c_m
                   | 1 => vv = .int .i64 (i : Int)
                   | 2 => vv = .pointer (some ⟨gc, i * 3, none⟩)
                   | 3 => vv = .agg (tkC (t.1 : Int) (strOf t.2.1) (t.2.2 : Int))
                   | 4 => vv = .agg (tkC (t.1 : Int) (strOf t.2.1) (t.2.2 : Int))
                   | _ => vv = .bool false)
                   (fun k => false) (by kernel_rfl) ?haF1 rfl (by kernel_rfl) (by kernel_rfl) (fun _ _ _ _ _ h => h) ?hSb1 ?hPb1 ?hS1 ?hop1 ?hfin1
                  case haF1 =>
                   intro vals
                   simp only [fillAll, List.getElem?_cons_zero, List.getElem?_cons_succ, Act.put, List.setIfInBounds_toArray, List.set_cons_zero, List.set_cons_succ]
                   exact rfl
                  case hSb1 => exact fun wx w2 hb hS => below_two hS hb
                  case hPb1 =>
                   intro k v wa wb hb h
                   match k, h with
                   | 0, h => exact h
                   | 1, h => exact h
                   | 2, h => exact h
                   | 3, h => exact h
                   | 4, h => exact h
                   | _ + 5, h => exact h
                  case hS1 => exact (Below.refl _ _).drew
                  case hop1 =>
                   refine .cons (k := 0) ?_ (.cons (k := 1) ?_ (.cons (k := 2) ?_ (.cons (k := 3) ?_ (.cons (k := 4) ?_ (.cons (k := 5) ?_ (.nil))))))
                   all_goals intro vals wr hS hd KC hK
                   all_goals (show Oper.wp _ _ _ _ _ _; dsimp only)
                   · go_simp
                     refine hK _ _ rfl (Below.refl _ _) (by first | rfl | simp) (fun h => by cases h)
                   · go_simp
                     refine hK _ _ rfl (Below.refl _ _) (by first | rfl | simp) (fun h => by cases h)
                   · have d0 : vals 0 = _ := hd 0 (by decide +kernel)
                     have d1 : vals 1 = _ := hd 1 (by decide +kernel)
                     rw [d0, d1]
                     go_simp
                     refine hK _ _ rfl (Below.refl _ _) (by first | rfl | simp) (fun h => by cases h)
                   · have d2 : vals 2 = _ := hd 2 (by decide +kernel)
                     rw [d2]
                     refine wp_loadV 36 _ rfl gc (i * 3) rfl (tkC (t.1 : Int) (strOf t.2.1) (t.2.2 : Int)) (Lib.hid (HIc.out.below hgcS.out hS)) (Lib.hid (many3 _ _ _)) ?_
                     refine hK _ _ rfl (Below.refl _ _) (by first | rfl | simp) (fun h => by cases h)
                   · refine wp_loadV 36 _ rfl q_w 0 rfl (tkC (t.1 : Int) (strOf t.2.1) (t.2.2 : Int)) (Lib.hid (h_rw.below hS).inV) (Lib.hid (many3 _ _ _)) ?_
                     refine hK _ _ rfl (Below.refl _ _) (by first | rfl | simp) (fun h => by cases h)
                   · have d3 : vals 3 = _ := hd 3 (by decide +kernel)
                     have d4 : vals 4 = _ := hd 4 (by decide +kernel)
                     rw [d3, d4]
                     have heq := fun W => equal_tk (k := (t.1 : Int)) (k' := (t.1 : Int)) (s := strOf t.2.1) (s' := strOf t.2.1) (a := (t.2.2 : Int)) (a' := (t.2.2 : Int)) (b := true) (by simp) W
                     go_simp
                     refine hK _ _ rfl (Below.refl _ _) (by first | rfl | simp) (fun h => by cases h)
                  case hfin1 =>
                   intro vals wr hS hP hne
                   have ez_5 : vals 5 = _ := hP 5 (by decide)
                   try dsimp only
                   rw [ez_5]
                   refine wpAny_done (by kernel_rfl) ?_ _
                   have HB2 := Lib.hid (below_two (below_two HB.out HBw.out) hS)
                   clear hS hP hne
                   go_wp2
                   exact ⟨⟨i + 1, by omega, by go_num, HB2⟩, by simp [intOf]; omega⟩
                · rw [if_neg hik] at hIc
                  have hika : (kx : Int) ≤ (i : Int) := by omega
                  have hIc2 : InV wr gc (i * 3) (tkC (t.1 : Int) (strOf t.2.1) ((t.2.2 : Int) + 6)) := by have h := hIc; unfold tkV at h; dsimp only at h; rw [show ((t.2.2 + 6 : Nat) : Int) = (t.2.2 : Int) + 6 by omega] at h; exact h
                  have HBw := Lib.hid (below_new wr (.cells (tkC (t.1 : Int) (strOf t.2.1) ((t.2.2 : Int) + 6)) 36))
                  have h_rw := rowA_new wr 36 (tkC (t.1 : Int) (strOf t.2.1) ((t.2.2 : Int) + 6))
                  have HIc : Hid (InV (wr.alloc (.cells (tkC (t.1 : Int) (strOf t.2.1) ((t.2.2 : Int) + 6)) 36)) gc (i * 3) (tkC (t.1 : Int) (strOf t.2.1) ((t.2.2 : Int) + 6))) := hIc2.below hgc HBw.out
                  have hgcS : Hid (gc < (wr.alloc (.cells (tkC (t.1 : Int) (strOf t.2.1) ((t.2.2 : Int) + 6)) 36)).heap.size) := Nat.lt_of_lt_of_le hgc HBw.out.size
                  clear hIc hIc2
                  go_wp2_with (first | (refine wpList_loadV (by rfl) _ _ (by rfl) _ _ (by rfl) _ (by assumption) (by assumption) ?_) | (refine wpList_storeNew (by rfl) _ _ _ (by rfl) _ _ _ (by rfl) (by rfl) (by assumption) ?_))
                  clear HI_o HUt HMo
                  generalize wr.alloc (.cells (tkC (t.1 : Int) (strOf t.2.1) ((t.2.2 : Int) + 6)) 36) = wS at *
                  obtain ⟨q_w, eg⟩ : ∃ g, g = wr.heap.size := ⟨_, rfl⟩
                  rw [← eg] at h_rw ⊢
                  clear eg
                  refine region_free 6 0 [202, 203, 204, 205, 206, 207] ?aF2 (fun wx => Below wS.heap.size wS wx) (fun k vv wx => match k with
                   | 0 => vv = .slice (some ⟨gc, 0, none⟩) n_m c_m
                   | 1 => vv = .int .i64 (i : Int)
                   | 2 => vv = .pointer (some ⟨gc, i * 3, none⟩)
                   | 3 => vv = .agg (tkC (t.1 : Int) (strOf t.2.1) ((t.2.2 : Int) + 6))
                   | 4 => vv = .agg (tkC (t.1 : Int) (strOf t.2.1) ((t.2.2 : Int) + 6))
                   | _ => vv = .bool false)
                   (fun k => false) (by kernel_rfl) ?haF2 rfl (by kernel_rfl) (by kernel_rfl) (fun _ _ _ _ _ h => h) ?hSb2 ?hPb2 ?hS2 ?hop2 ?hfin2
                  case haF2 =>
                   intro vals
                   simp only [fillAll, List.getElem?_cons_zero, List.getElem?_cons_succ, Act.put, List.setIfInBounds_toArray, List.set_cons_zero, List.set_cons_succ]
                   exact rfl
                  case hSb2 => exact fun wx w2 hb hS => below_two hS hb
                  case hPb2 =>
                   intro k v wa wb hb h
                   match k, h with
                   | 0, h => exact h
                   | 1, h => exact h
                   | 2, h => exact h
                   | 3, h => exact h
                   | 4, h => exact h
                   | _ + 5, h => exact h
                  case hS2 => exact (Below.refl _ _).drew
                  case hop2 =>
                   refine .cons (k := 0) ?_ (.cons (k := 1) ?_ (.cons (k := 2) ?_ (.cons (k := 3) ?_ (.cons (k := 4) ?_ (.cons (k := 5) ?_ (.nil))))))
                   all_goals intro vals wr hS hd KC hK
                   all_goals (show Oper.wp _ _ _ _ _ _; dsimp only)
                   · go_simp
                     refine hK _ _ rfl (Below.refl _ _) (by first | rfl | simp) (fun h => by cases h)
                   · go_simp
                     refine hK _ _ rfl (Below.refl _ _) (by first | rfl | simp) (fun h => by cases h)
                   · have d0 : vals 0 = _ := hd 0 (by decide +kernel)
                     have d1 : vals 1 = _ := hd 1 (by decide +kernel)
                     rw [d0, d1]
                     go_simp
                     refine hK _ _ rfl (Below.refl _ _) (by first | rfl | simp) (fun h => by cases h)
                   · have d2 : vals 2 = _ := hd 2 (by decide +kernel)
                     rw [d2]
                     refine wp_loadV 36 _ rfl gc (i * 3) rfl (tkC (t.1 : Int) (strOf t.2.1) ((t.2.2 : Int) + 6)) (Lib.hid (HIc.out.below hgcS.out hS)) (Lib.hid (many3 _ _ _)) ?_
                     refine hK _ _ rfl (Below.refl _ _) (by first | rfl | simp) (fun h => by cases h)
                   · refine wp_loadV 36 _ rfl q_w 0 rfl (tkC (t.1 : Int) (strOf t.2.1) ((t.2.2 : Int) + 6)) (Lib.hid (h_rw.below hS).inV) (Lib.hid (many3 _ _ _)) ?_
                     refine hK _ _ rfl (Below.refl _ _) (by first | rfl | simp) (fun h => by cases h)
                   · have d3 : vals 3 = _ := hd 3 (by decide +kernel)
                     have d4 : vals 4 = _ := hd 4 (by decide +kernel)
                     rw [d3, d4]
                     have heq := fun W => equal_tk (k := (t.1 : Int)) (k' := (t.1 : Int)) (s := strOf t.2.1) (s' := strOf t.2.1) (a := ((t.2.2 : Int) + 6)) (a' := ((t.2.2 : Int) + 6)) (b := true) (by simp) W
                     go_simp
                     refine hK _ _ rfl (Below.refl _ _) (by first | rfl | simp) (fun h => by cases h)
                  case hfin2 =>
                   intro vals wr hS hP hne
                   have ez_5 : vals 5 = _ := hP 5 (by decide)
                   try dsimp only
                   rw [ez_5]
                   refine wpAny_done (by kernel_rfl) ?_ _
                   have HB2 := Lib.hid (below_two (below_two HB.out HBw.out) hS)
                   clear hS hP hne
                   go_wp2
                   exact ⟨⟨i + 1, by omega, by go_num, HB2⟩, by simp [intOf]; omega⟩
              · obtain rfl : n_m = i := by omega
                have bn := HB.out
                have bw := below_two Hbw.out bn
                clear bn
                go_wp2_with fail
                refine (wakes_any wr (Lib.hid (HT0.out.below bw))).mono ?_
                rintro e w10 ⟨rfl, bn⟩
                replace bw := below_two bw bn
                go_wp2
                go_ret
                exact ⟨rfl, bw⟩
theorem tab_of {W : World} (h : laidMet Tryd.prog Rows.lexStandsRow.laid W) : XTab W := by
 refine ⟨?_, ?_⟩
 · first | exact kinds_tab (laidMet_drop 0 h) (by decide +kernel) | exact kinds_tab (laidMet_drop 1 h) (by decide +kernel) | exact kinds_tab (laidMet_drop 2 h) (by decide +kernel) | exact kinds_tab (laidMet_drop 3 h) (by decide +kernel) | exact kinds_tab (laidMet_drop 4 h) (by decide +kernel) | exact kinds_tab (laidMet_drop 5 h) (by decide +kernel) | exact kinds_tab (laidMet_drop 6 h) (by decide +kernel) | exact kinds_tab (laidMet_drop 7 h) (by decide +kernel) | exact kinds_tab (laidMet_drop 8 h) (by decide +kernel) | exact kinds_tab (laidMet_drop 9 h) (by decide +kernel) | exact kinds_tab (laidMet_drop 10 h) (by decide +kernel) | exact kinds_tab (laidMet_drop 11 h) (by decide +kernel) | exact kinds_tab (laidMet_drop 12 h) (by decide +kernel) | exact kinds_tab (laidMet_drop 13 h) (by decide +kernel)
 · first | exact lkinds_tab (laidMet_drop 0 h) (by decide +kernel) | exact lkinds_tab (laidMet_drop 1 h) (by decide +kernel) | exact lkinds_tab (laidMet_drop 2 h) (by decide +kernel) | exact lkinds_tab (laidMet_drop 3 h) (by decide +kernel) | exact lkinds_tab (laidMet_drop 4 h) (by decide +kernel) | exact lkinds_tab (laidMet_drop 5 h) (by decide +kernel) | exact lkinds_tab (laidMet_drop 6 h) (by decide +kernel) | exact lkinds_tab (laidMet_drop 7 h) (by decide +kernel) | exact lkinds_tab (laidMet_drop 8 h) (by decide +kernel) | exact lkinds_tab (laidMet_drop 9 h) (by decide +kernel) | exact lkinds_tab (laidMet_drop 10 h) (by decide +kernel) | exact lkinds_tab (laidMet_drop 11 h) (by decide +kernel) | exact lkinds_tab (laidMet_drop 12 h) (by decide +kernel) | exact lkinds_tab (laidMet_drop 13 h) (by decide +kernel)
set_option maxRecDepth 100000 in
theorem lifted (os : Os) (started : os.Started) (H : Type) (enc : TypeId × Value → H) :
 ReturnsInHanded {} Tryd.checked os 4 .any (fun w args => (Rows.lexStandsSpec.pre enc Tryd.prog Tryd.f4 [] false w args ∧ laidMetH Tryd.prog Rows.lexStandsRow.laid w) ∧ sizedMet enc Tryd.prog Tryd.f4 (OpenSpec.ofChange Rows.lexStandsSpec) false w args)
  (Rows.lexStandsSpec.post enc Tryd.prog Tryd.f4 false true false false) := by
 refine returnsInHanded_of_change_and (C := Tryd.checked) (X := fun w _ => laidMetH Tryd.prog Rows.lexStandsRow.laid w) (fun _ _ _ hh h => h.of_heap hh) own started (by kernel_rfl) Tryd.func4
  (ChangeSpec.witness_shaped (enc := enc) (C := Tryd.checked) (os := os) (X := fun w _ => laidMetH Tryd.prog Rows.lexStandsRow.laid w) false (World.laidAll Tryd.prog os Rows.lexStandsRow.laid) #[.string ⟨#[]⟩, .int .u8 0] 8 (World.laidAll_os _ _ _)
    (World.shaped_of_ZipB (by kernel_rfl) (by kernel_rfl)) (by kernel_rfl) (by kernel_rfl) (by kernel_rfl)
    (by rw [MakeChecks.laidMetH_plain _ _ _ (by kernel_rfl)]; exact laidMet_laidAll _ (by kernel_rfl) (by kernel_rfl))) ?_
 intro W base args ds gs before hval0 hW _ _ hL _
 have hval : ∀ (j : Nat) t v, Tryd.f4.params[j]? = some t → args[j]? = some v → Value.okWide Tryd.prog W .any base t v := hval0
 have hW' := hW
 obtain ⟨p, q, hA0, hV, rfl, hfz, hnd⟩ := hW
 have hA : DataW.TrodAll enc Tryd.prog W 0 (fun _ => true) true Tryd.f4.params.toList args.toList ds p := hA0
 rw [Tryd.params4] at hA hval
 obtain ⟨v0, vs0, d0, ds0, p0, q0, hargs, rfl, rfl, h0, r0⟩ := trodAll_cons hA
 obtain ⟨v1, vs1, d1, ds1, p1, q1, rfl, rfl, rfl, h1, r1⟩ := trodAll_cons r0
 obtain ⟨rfl, rfl, rfl⟩ := trodAll_nil r1
 obtain rfl : args = #[v0, v1] := by cases args; simp_all
 obtain ⟨rfl, rfl⟩ := trodVars_none hV
 obtain ⟨a0, rfl, rfl, rfl, w0⟩ := Go.ChangeMaps.open_string Tryd.underlying9 (hval 0 9 v0 rfl rfl) h0
 obtain ⟨a1, rfl, rfl, rfl, w1⟩ := open_int Tryd.underlying5 (hval 1 5 v1 rfl rfl) h1
 clear hA0 hval0
 simp only [List.append_nil] at hW'
 rw [MakeChecks.laidMetH_plain _ _ _ (by kernel_rfl)] at hL
 refine (walk a0 a1 W w0 w1 (tab_of hL)).mono fun e W' ⟨he, bel⟩ => ?_
 subst he
 exact ⟨_, rfl, _, _, _, [], _, [], hW', trodAll_mk1 (shut_bool Tryd.underlying4 _), (trodAll_cons_mk (Go.ChangeMaps.shut_string Tryd.underlying9 w0) (trodAll_cons_mk (shut_int Tryd.underlying5 w1) trodAll_mk0)), rfl, bel.frame _, fun h => by cases h⟩
theorem over : Rows.lexStandsRow.holds Tryd.pinned (OpenSpec.ofChange Rows.lexStandsSpec) :=
 OpenClaim.holds_of_wide 4 Tryd.f4 rfl rfl rfl rfl rfl rfl rfl ⟨rfl, rfl, rfl, rfl, rfl⟩ rfl rfl rfl rfl rfl (by kernel_rfl) Tryd.func4 (by kernel_rfl)
  (of_decide_eq_true (by kernel_rfl)) (by unfold Func.isWrapper; first | (rw [if_pos (by decide +kernel)]; kernel_rfl) | (rw [if_neg (by decide +kernel)]; exact ⟨rfl, rfl⟩))
  (fun os started H enc _ => lifted os started H enc)
theorem proved : Rows.LexStandsCardSaid :=
 Claim7.holds_tied_plain_at .later [] Rows.lexStandsCard.laidKinds true Rows.lexStandsCard.stood.harness Rows.lexStandsCard.stood.looks
  over (fun _ h => by cases h) (by kernel_rfl) (fun _ h => by cases h) lexStands_row_tie rfl ⟨rfl, rfl⟩ (by kernel_rfl) rfl
  (fun f fn hf hfn => by
    obtain rfl : f = 4 := Option.some.inj ((show Tryd.prog.funcNamed Rows.lexStandsRow.func = some 4 by kernel_rfl).symm.trans hf) |>.symm
    obtain rfl : fn = Tryd.f4 := (Option.some.inj (Tryd.func4.symm.trans hfn)).symm
    exact ⟨by kernel_rfl, fun j t ht => by
     have hm : t ∈ Tryd.f4.params.toList := by simpa using Array.mem_of_getElem? ht
     have hall : (Tryd.f4.params.toList.all fun u => !Tryd.prog.wantsStandIn u) = true := by kernel_rfl
     exact (show Tryd.prog.wantsStandIn t = false by simpa using List.all_eq_true.1 hall t hm)⟩)
  (by kernel_rfl)
end Go.Proofs.YthjnepfpohmpkaaDoor.lawLexStands
