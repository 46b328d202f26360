/- Part 10 of the texts that the statements of this seat lean on: mathematics, and what functions answer, as contracts over memory; each part says its own conditions. -/
import Derived.Test.YtohciicocaoagaaGreatM9
/- Regions that leave their order open and hold guarded operations ('&&', '||'): the law of XFree, where each guard's value is known. Of any program; no condition. -/
namespace Go.Proofs.YtohciicocaoagaaGreat
open Go.RowKit
set_option linter.unusedVariables false

section
variable {P : Program} {ops : Array Oper} {Q : Exit → Act → World → Prop}

/-- What the order-free law asks of operation i, a guard of an operation that it waits for allowed. -/
def okAtG (ops : Array Oper) (m : Nat) (ds : List Tmp) (N : Nat) (i : Nat) : Bool :=
  match ops[i]? with
  | none => false
  | some o => o.dst == ds[i]? && decide (i < ds.length) && decide (ds.getD i 0 < N) && (match o.guard with | none => true | some (g, _) => (afters ops i).contains g) && isPlain o.op && (afters ops i).all (fun e => decide (e < i)) &&
      (List.range m).all (fun k => k == i || ds[k]? != ds[i]?) &&
      o.op.operands.toList.all (fun x => match x with
        | .tmp t => (List.range m).all fun k => ds[k]? != some t || (afters ops i).contains k
        | _ => true)
theorem okAtG_spec {m : Nat} {ds : List Tmp} {N i : Nat} (h : okAtG ops m ds N i = true) :
    ∃ o, ops[i]? = some o ∧ o.dst = some (ds.getD i 0) ∧ ds[i]? = some (ds.getD i 0) ∧ ds.getD i 0 < N ∧ (∀ g b, o.guard = some (g, b) → g ∈ afters ops i) ∧ (∀ cs b, o.op ≠ .select cs b) ∧ (∀ e ∈ afters ops i, e < i) ∧
      (∀ k, k < m → k ≠ i → ds[k]? ≠ ds[i]?) ∧ (∀ x ∈ o.op.operands, ∀ t, x = .tmp t → ∀ k, k < m → ds[k]? = some t → k ∈ afters ops i) := by
  unfold okAtG at h
  cases ho : ops[i]? with
  | none => rw [ho] at h; cases h
  | some o =>
    rw [ho] at h
    simp only [Bool.and_eq_true, beq_iff_eq, decide_eq_true_eq, List.all_eq_true, Bool.or_eq_true, bne_iff_ne, List.mem_range] at h
    obtain ⟨⟨⟨⟨⟨⟨⟨h1, h2⟩, h3⟩, h4⟩, h5⟩, h6⟩, h7⟩, h8⟩ := h
    have hi : ds[i]? = some (ds.getD i 0) := by simp [List.getD_eq_getElem?_getD, h2]
    refine ⟨o, rfl, h1.trans hi, hi, h3, ?_, ?_, h6, fun k hk hne => (h7 k hk).resolve_left hne, ?_⟩
    · intro g b he
      rw [he] at h4
      simpa using h4
    · intro cs b he
      rw [he] at h5
      cases h5
    · rintro x hx t rfl k hk hd
      have := h8 _ (by simpa using hx)
      simp only [List.all_eq_true, List.mem_range, Bool.or_eq_true, bne_iff_ne, List.contains_iff_mem] at this
      exact (this k hk).resolve_left fun h => h hd

/-- Step i where operations are guarded: its guard's value is known; it is run, or it is not. -/
def FreeStepG (P : Program) (Q : Exit → Act → World → Prop) (ops : Array Oper) (ds : List Tmp) (aF : (Nat → Value) → Act) (S : World → Prop) (Φ : Nat → Value → World → Prop) (fresh : Nat → Bool) (i : Nat) (o : Oper) : Prop :=
  ((∀ (vals : Nat → Value) (w : World), S w → (∀ e ∈ afters ops i, Φ e (vals e) w) → ∀ g b, o.guard = some (g, b) → vals g = .bool b) ∧ FreeStep P Q ops ds aF S Φ fresh i o) ∨
  (∃ g b, o.guard = some (g, b) ∧ (∀ (vals : Nat → Value) (w : World), S w → (∀ e ∈ afters ops i, Φ e (vals e) w) → vals g = .bool (!b)) ∧ (∀ w, S w → Φ i undef w) ∧ fresh i = false)
theorem FreeStepG.plain {ds : List Tmp} {aF : (Nat → Value) → Act} {S : World → Prop} {Φ : Nat → Value → World → Prop} {fresh : Nat → Bool} {i : Nat} {o : Oper} (hg : o.guard = none) (h : FreeStep P Q ops ds aF S Φ fresh i o) : FreeStepG P Q ops ds aF S Φ fresh i o :=
  .inl ⟨fun _ _ _ _ g b e => (by rw [hg] at e; cases e), h⟩
theorem FreeStepG.yes {ds : List Tmp} {aF : (Nat → Value) → Act} {S : World → Prop} {Φ : Nat → Value → World → Prop} {fresh : Nat → Bool} {i : Nat} {o : Oper} (hg : ∀ (vals : Nat → Value) (w : World), S w → (∀ e ∈ afters ops i, Φ e (vals e) w) → ∀ g b, o.guard = some (g, b) → vals g = .bool b) (h : FreeStep P Q ops ds aF S Φ fresh i o) : FreeStepG P Q ops ds aF S Φ fresh i o :=
  .inl ⟨hg, h⟩

theorem fill_at {D : Nat → Option Tmp} {vals : Nat → Value} {l : Array Bool} {a : Act} {g : Nat} {d : Tmp} (hg : l.getD g false = true) (hd : D g = some d) (hs : d < a.tmps.size) :
    ∀ {m}, g < m → (∀ k, k < m → k ≠ g → D k ≠ some d) → (fill D vals l a m).eval (.tmp d) = vals g
  | 0, h, _ => by omega
  | m + 1, h, hne => by
    unfold fill
    rcases Nat.lt_or_ge g m with h1 | h1
    · have ih := fill_at (vals := vals) hg hd hs (m := m) h1 fun k hk => hne k (by omega)
      split
      · rw [Act.eval_put fun e he1 he2 => hne m (by omega) (by omega) (by injection he2 with he2; rw [he2]; exact he1), ih]
      · exact ih
    · obtain rfl : g = m := by omega
      rw [if_pos hg, hd]
      exact put_same _ _ _ (by rw [fill_size]; exact hs)
theorem yielded_at {a : Act} {g : Nat} {d : Tmp} {b : Bool} (hd : (ops[g]?).bind (·.dst) = some d) (hs : d < a.tmps.size) (h : a.eval (.tmp d) = .bool b) : yielded ops a.tmps g = some b := by
  unfold yielded
  rw [hd]
  simp only [Option.bind_some]
  have h2 : a.tmps[d]? = some (.bool b) := by
    rw [Array.getElem?_eq_getElem hs]
    simp only [Act.eval, Array.getD_eq_getD_getElem?, Array.getElem?_eq_getElem hs, Option.getD_some] at h
    rw [h]
  rw [h2]

/-- **The order-free law** (D: how deep the last operations' waiting is followed): of a region that draws its order, the first m operations (guards whose values are known) in whatever order: each meets its own condition in its own world; what it has shown stays (Below). -/
theorem region_freed {id : Nat} {a : Act} {w : World} {os : List Oper} (m r D : Nat) (ds : List Tmp) (aF : (Nat → Value) → Act) (S : World → Prop) (Φ : Nat → Value → World → Prop) (fresh : Nat → Bool)
    (hm : P.follows .mixedOrders = true)
    (haF : ∀ vals, fillAll (fun k => ds[k]?) vals a m = aF vals)
    (hr : os.length = m + r)
    (hok : (List.range m).all (okAtG os.toArray m ds a.tmps.size) = true)
    (hend : (List.range os.length).all (fun i => decide (i < m) || (List.range m).all fun k => (anc os.toArray D i).contains k) = true)
    (hQ : ∀ c (t t' : Array Value) (d : List Deferred) w, Q (.panic c) ⟨t, d⟩ w → Q (.panic c) ⟨t', d⟩ w)
    (hSb : ∀ w w', Below w.heap.size w w' → S w → S w')
    (hΦb : ∀ k v w w', Below w.heap.size w w' → Φ k v w → Φ k v w')
    (hS : S w.drew)
    (hop : AllAt (FreeStepG P Q os.toArray ds aF S Φ fresh) 0 os m)
    (hfin : ∀ (vals : Nat → Value) (w : World), S w → (∀ k, k < m → Φ k (vals k) w) →
      (∀ j k, j < m → k < m → j ≠ k → fresh j = true → fresh k = true → ∀ p q, vals j = .pointer (some ⟨p, 0, none⟩) → vals k = .pointer (some ⟨q, 0, none⟩) → p ≠ q) →
      wpAny P .any os.toArray Q r (firsts (m + r) m) (aF vals) w) :
    (Code.region id os.toArray true).wp P Q a w := by
  generalize hops : os.toArray = ops at *
  have hsz0 : ops.size = m + r := by rw [← hops]; simpa using hr
  have hle : m ≤ ops.size := by omega
  replace hend : (List.range ops.size).all (fun i => decide (i < m) || (List.range m).all fun k => (anc ops D i).contains k) = true := by rw [hsz0, ← hr]; exact hend
  replace hop : ∀ i, i < m → ∀ o, ops[i]? = some o → FreeStepG P Q ops ds aF S Φ fresh i o := fun i hi o ho => by
    have := hop.at i hi o (by rw [← hops] at ho; simpa using ho)
    rwa [Nat.zero_add] at this
  replace hfin : ∀ (vals : Nat → Value) (w : World), S w → (∀ k, k < m → Φ k (vals k) w) →
      (∀ j k, j < m → k < m → j ≠ k → fresh j = true → fresh k = true → ∀ p q, vals j = .pointer (some ⟨p, 0, none⟩) → vals k = .pointer (some ⟨q, 0, none⟩) → p ≠ q) →
      ∀ l : Array Bool, l.size = ops.size → (∀ k, l.getD k false = decide (k < m)) → wpAny P .any ops Q (ops.size - m) l (aF vals) w := fun vals w h1 h2 h3 l h4 h5 => by
    rw [firsts_eq (h4.trans hsz0) (by omega) h5, show ops.size - m = r by omega]
    exact hfin vals w h1 h2 h3
  replace hQ : ∀ c (a a' : Act) w, a.defers = a'.defers → Q (.panic c) a w → Q (.panic c) a' w := by
    rintro c ⟨t, d⟩ ⟨t', d'⟩ w he h
    obtain rfl : d = d' := he
    exact hQ c t t' d w h
  refine wp_region_any hm ?_
  have hat : ∀ i, i < m → okAtG ops m ds a.tmps.size i = true := fun i hi => List.all_eq_true.1 hok i (List.mem_range.2 hi)
  have hlate : ∀ i, m ≤ i → i < ops.size → ∀ k, k < m → k ∈ anc ops D i := fun i h1 h2 k hk => by
    have := List.all_eq_true.1 hend i (List.mem_range.2 h2)
    simp only [Bool.or_eq_true, decide_eq_true_eq, List.all_eq_true, List.mem_range, List.contains_iff_mem] at this
    exact (this.resolve_left (by omega)) k hk
  have hfr : ∀ (l : Array Bool), l = Array.replicate ops.size false → ∀ k, l.getD k false = false := by
    rintro l rfl k
    simp only [Array.getD_eq_getD_getElem?, Array.getElem?_replicate]
    split <;> rfl
  let J : Array Bool → Act → World → Prop := fun l a' w' => (l.size = ops.size ∧ ∀ k, m ≤ k → l.getD k false = false) ∧ S w' ∧ (∀ k, k < m → l.getD k false = true → ∀ e ∈ afters ops k, l.getD e false = true) ∧
    ∃ vals, a' = fill (fun k => ds[k]?) vals l a m ∧ (∀ k, k < m → l.getD k false = true → Φ k (vals k) w' ∧ (fresh k = true → ∃ q, vals k = .pointer (some ⟨q, 0, none⟩) ∧ q < w'.heap.size)) ∧
      (∀ j k, j < m → k < m → l.getD j false = true → l.getD k false = true → j ≠ k → fresh j = true → fresh k = true → ∀ p q, vals j = .pointer (some ⟨p, 0, none⟩) → vals k = .pointer (some ⟨q, 0, none⟩) → p ≠ q)
  have hdown : ∀ l a' w', J l a' w' → ∀ k, l.getD k false = true → ∀ e ∈ afters ops k, l.getD e false = true := fun l a' w' hj k hk => by
    rcases Nat.lt_or_ge k m with h1 | h1
    · exact hj.2.2.1 k h1 hk
    · rw [hj.1.2 k h1] at hk
      cases hk
  have hz : ∀ j, j ≤ m → left (Array.replicate ops.size false) j = j := fun j => by
    induction j with
    | zero => exact fun _ => rfl
    | succ j ihj => exact fun h => by unfold left; rw [ihj (by omega), hfr _ rfl j]; rfl
  have key := wpAny_inv (P := P) (ops := ops) (Q := Q) (md := .any) m J (fun l a' w' hj => hj.1) hle (fun i o h1 ho e he hb => ?hback) (fun l a' w' i hj hi h1 => ?hstep) (fun l a' w' i hj hi h1 k hk => ?hwait) (fun l a' w' hj hall => ?hfin)
    m (Array.replicate ops.size false) a w.drew (hz m (Nat.le_refl _)) ⟨⟨by simp, fun k _ => hfr _ rfl k⟩, hS, fun k _ h => (by rw [hfr _ rfl k] at h; cases h),
      fun _ => undef, (fill_none fun k _ => hfr _ rfl k).symm, fun k _ h => (by rw [hfr _ rfl k] at h; cases h), fun j k _ _ h => (by rw [hfr _ rfl j] at h; cases h)⟩
  · have e : ops.size - m + m = ops.size := by omega
    rw [e] at key
    exact key
  case hback =>
    obtain ⟨_, _, _, _, _, _, _, hlow, _, _⟩ := okAtG_spec (hat i h1)
    refine hlow e.on ?_
    unfold afters
    rw [ho]
    exact List.mem_map.2 ⟨e, List.mem_filter.2 ⟨by simpa using he, hb⟩, rfl⟩
  case hwait =>
    have hlt : i < ops.size := by
      obtain ⟨_, o, ho, _⟩ := mem_ready.1 hi
      exact (Array.getElem?_eq_some_iff.1 ho).1
    exact anc_up (hdown l a' w' hj) D i (fun e he => ready_after hi he) k (hlate i h1 hlt k hk)
  case hfin =>
    obtain ⟨⟨hs, hl⟩, hSw, _, vals, rfl, hv, hp⟩ := hj
    rw [fill_all hall, haF]
    refine hfin vals w' hSw (fun k hk => (hv k hk (hall k hk)).1) (fun j k h1 h2 => hp j k h1 h2 (hall j h1) (hall k h2)) l hs fun k => ?_
    rcases Nat.lt_or_ge k m with h | h
    · rw [hall k h, decide_eq_true h]
    · rw [hl k h, decide_eq_false (by omega)]
  case hstep =>
    obtain ⟨⟨hs, hl⟩, hSw, hdn, vals, rfl, hv, hp⟩ := hj
    obtain ⟨o, ho, hdst, hdi, hlt, hg, hsel, hlow, hdist, hops⟩ := okAtG_spec (hat i h1)
    have hu : l.getD i false = false := by
      have h2 := (mem_ready.1 hi).1
      have h3 : i < l.size := by omega
      simp only [Array.getD_eq_getD_getElem?] at h2 ⊢
      rw [Array.getElem?_eq_getElem h3] at h2 ⊢
      simpa using h2
    have hdep : ∀ e ∈ afters ops i, l.getD e false = true := fun e he => ready_after hi he
    have heval : ∀ x ∈ o.op.operands, (fill (fun k => ds[k]?) vals l a m).eval x = (aF vals).eval x := fun x hx => by
      rw [← haF vals]
      exact fill_eval fun k hk hk2 d hd hxd => by
        rw [hdep k (hops x hx d hxd k hk hd)] at hk2
        cases hk2
    have hphi : ∀ e ∈ afters ops i, Φ e (vals e) w' := fun e he => (hv e (by have := hlow e he; omega) (hdep e he)).1
    have hyld : ∀ g b, g ∈ afters ops i → vals g = .bool b → yielded ops (fill (fun k => ds[k]?) vals l a m).tmps g = some b := fun g b hga hb => by
      have hgm : g < m := by have := hlow g hga; omega
      obtain ⟨og, hog, hgd, hgi, hglt, _, _, _, hgdist, _⟩ := okAtG_spec (hat g hgm)
      have h4 : (fill (fun k => ds[k]?) vals l a m).eval (.tmp (ds.getD g 0)) = vals g := fill_at (hdep g hga) hgi hglt hgm fun k hk hne e => hgdist k hk hne (e.trans hgi.symm)
      refine yielded_at (by rw [hog]; exact hgd) (by rw [fill_size]; exact hglt) (h4.trans hb)
    have hsz : ds.getD i 0 < (aF vals).tmps.size := by rw [← haF vals, fillAll_size]; exact hlt
    have next : ∀ v w2, Below w'.heap.size w' w2 → Φ i v w2 → (fresh i = true → ∃ q, v = .pointer (some ⟨q, 0, none⟩) ∧ w'.heap.size ≤ q ∧ q < w2.heap.size) →
        J (l.setIfInBounds i true) ((fill (fun k => ds[k]?) vals l a m).put o.dst v) w2 := fun v w2 hb hphi hfresh => by
      have hne : ∀ k, k ≠ i → (l.setIfInBounds i true).getD k false = l.getD k false := fun k hk => getD_other (Ne.symm hk) _
      refine ⟨⟨by simpa using hs, fun k hk => by rw [hne k (by omega)]; exact hl k hk⟩, hSb _ _ hb hSw, fun k hk hk2 e he => ?_, upd vals i v, ?_, fun k hk hk2 => ?_, fun j k hj hk hj2 hk2 hjk fj fk p q ep eq => ?_⟩
      · by_cases hki : k = i
        · subst hki
          rw [hne e (by have := hlow e he; omega)]
          exact hdep e he
        · rw [hne k hki] at hk2
          by_cases hei : e = i
          · subst hei
            exact getD_same (by omega) _
          · rw [hne e hei]
            exact hdn k hk hk2 e he
      · rw [hdst, ← hdi]
        exact fill_set (by omega) hu h1 fun j hj hji d hd hdi2 => hdist j hj hji (hd.trans hdi2.symm)
      · by_cases hki : k = i
        · subst hki
          rw [show upd vals k v k = v from if_pos rfl]
          exact ⟨hphi, fun hf => by obtain ⟨q, h1, _, h3⟩ := hfresh hf; exact ⟨q, h1, h3⟩⟩
        · rw [hne k hki] at hk2
          rw [show upd vals i v k = vals k from if_neg hki]
          obtain ⟨h3, h4⟩ := hv k hk hk2
          exact ⟨hΦb _ _ _ _ hb h3, fun hf => by obtain ⟨q, h5, h6⟩ := h4 hf; exact ⟨q, h5, Nat.lt_of_lt_of_le h6 hb.size⟩⟩
      · by_cases hji : j = i
        · subst hji
          have hki : k ≠ j := fun h => hjk h.symm
          rw [show upd vals j v j = v from if_pos rfl] at ep
          rw [show upd vals j v k = vals k from if_neg hki] at eq
          rw [hne k hki] at hk2
          obtain ⟨q1, e1, l1, _⟩ := hfresh fj
          obtain ⟨q2, e2, l2⟩ := (hv k hk hk2).2 fk
          rw [e1] at ep
          rw [e2] at eq
          cases ep
          cases eq
          omega
        · by_cases hki : k = i
          · subst hki
            rw [show upd vals k v k = v from if_pos rfl] at eq
            rw [show upd vals k v j = vals j from if_neg hji] at ep
            rw [hne j hji] at hj2
            obtain ⟨q1, e1, l1, _⟩ := hfresh fk
            obtain ⟨q2, e2, l2⟩ := (hv j hj hj2).2 fj
            rw [e1] at eq
            rw [e2] at ep
            cases ep
            cases eq
            omega
          · rw [show upd vals i v j = vals j from if_neg hji] at ep
            rw [show upd vals i v k = vals k from if_neg hki] at eq
            rw [hne j hji] at hj2
            rw [hne k hki] at hk2
            exact hp j k hj hk hj2 hk2 hjk fj fk p q ep eq
    rcases hop i h1 o ho with ⟨hgv, hop2⟩ | ⟨g, b, hgb, hgv, hun, hfr0⟩
    case inr =>
      unfold wpOp
      rw [ho]
      simp only []
      have hnot : Region.wanted o (yielded ops (fill (fun k => ds[k]?) vals l a m).tmps) = false := by
        unfold Region.wanted
        rw [hgb]
        simp only []
        rw [hyld g (!b) (hg g b hgb) (hgv vals w' hSw hphi)]
        cases b <;> rfl
      rw [if_neg (by rw [hnot]; decide)]
      exact next _ _ (Below.refl _ _) (hun w' hSw) (fun hf => by rw [hfr0] at hf; cases hf)
    have hwant : Region.wanted o (yielded ops (fill (fun k => ds[k]?) vals l a m).tmps) = true := by
      unfold Region.wanted
      cases hgo : o.guard with
      | none => rfl
      | some gb =>
        obtain ⟨g, b⟩ := gb
        simp only []
        rw [hyld g b (hg g b hgo) (hgv vals w' hSw hphi g b hgo)]
        simp
    have hrun := hop2 vals w' hSw hphi
      (fun a2 w2 => a2.defers = (aF vals).defers ∧ Below w'.heap.size w' w2 ∧ Φ i (a2.eval (.tmp (ds.getD i 0))) w2 ∧ (fresh i = true → ∃ q, a2.eval (.tmp (ds.getD i 0)) = .pointer (some ⟨q, 0, none⟩) ∧ w'.heap.size ≤ q ∧ q < w2.heap.size))
      (fun a2 w2 h1 h2 h3 h4 => ⟨h1, h2, h3, h4⟩)
    unfold wpOp
    rw [ho]
    simp only []
    rw [if_pos hwant]
    refine .inl ?_
    unfold Oper.wp at hrun ⊢
    rw [execOp_congr o hsel heval]
    generalize (execOp (aF vals).eval o).run P w' = r at hrun ⊢
    have hdef : (aF vals).defers = (fill (fun k => ds[k]?) vals l a m).defers := by rw [← haF vals, fillAll_defers, fill_defers]
    have hput : ∀ v, ((aF vals).put o.dst v).eval (.tmp (ds.getD i 0)) = v := fun v => by rw [hdst]; exact put_same _ _ _ hsz
    cases r with
    | ok n w2 =>
      cases n <;> simp only [Oper.upon] at hrun ⊢
      case value v => rw [hput] at hrun; exact next _ _ hrun.2.1 hrun.2.2.1 hrun.2.2.2
      case skip => rw [hput] at hrun; exact next _ _ hrun.2.1 hrun.2.2.1 hrun.2.2.2
      case defer d =>
        exfalso
        have := hrun.1
        rw [put_defers2] at this
        have := congrArg List.length this
        simp at this
      case enter f args =>
        refine Calls.mono hrun fun e w3 he => ?_
        cases e with
        | returned v => simp only at he ⊢; rw [hput] at he; exact next _ _ he.2.1 he.2.2.1 he.2.2.2
        | panicked c => exact hQ _ _ _ _ hdef he
        | outgrown => exact he
      case row r args =>
        refine Rows.mono hrun fun v w3 he => ?_
        rw [hput] at he
        exact next _ _ he.2.1 he.2.2.1 he.2.2.2
    | halt x w2 =>
      cases x <;> simp only [Oper.upon] at hrun ⊢ <;> exact hQ _ _ _ _ hdef hrun

/-- **The order-free law**: of a region that draws its order, the first m operations (guards whose values are known) in whatever order: each meets its own condition in its own world; what it has shown stays (Below). -/
theorem region_freeg {id : Nat} {a : Act} {w : World} {os : List Oper} (m r : Nat) (ds : List Tmp) (aF : (Nat → Value) → Act) (S : World → Prop) (Φ : Nat → Value → World → Prop) (fresh : Nat → Bool)
    (hm : P.follows .mixedOrders = true)
    (haF : ∀ vals, fillAll (fun k => ds[k]?) vals a m = aF vals)
    (hr : os.length = m + r)
    (hok : (List.range m).all (okAtG os.toArray m ds a.tmps.size) = true)
    (hend : (List.range os.length).all (fun i => decide (i < m) || (List.range m).all fun k => (anc os.toArray 3 i).contains k) = true)
    (hQ : ∀ c (t t' : Array Value) (d : List Deferred) w, Q (.panic c) ⟨t, d⟩ w → Q (.panic c) ⟨t', d⟩ w)
    (hSb : ∀ w w', Below w.heap.size w w' → S w → S w')
    (hΦb : ∀ k v w w', Below w.heap.size w w' → Φ k v w → Φ k v w')
    (hS : S w.drew)
    (hop : AllAt (FreeStepG P Q os.toArray ds aF S Φ fresh) 0 os m)
    (hfin : ∀ (vals : Nat → Value) (w : World), S w → (∀ k, k < m → Φ k (vals k) w) →
      (∀ j k, j < m → k < m → j ≠ k → fresh j = true → fresh k = true → ∀ p q, vals j = .pointer (some ⟨p, 0, none⟩) → vals k = .pointer (some ⟨q, 0, none⟩) → p ≠ q) →
      wpAny P .any os.toArray Q r (firsts (m + r) m) (aF vals) w) :
    (Code.region id os.toArray true).wp P Q a w :=
  region_freed m r 3 ds aF S Φ fresh hm haF hr hok hend hQ hSb hΦb hS hop hfin

end

end Go.Proofs.YtohciicocaoagaaGreat

/- Regions that leave their order open, in which one operation that only reads its frame (a result's second part) may come behind the stores too. Of any program; no condition. -/
namespace Go.Proofs.YtohciicocaoagaaGreat
open Go.RowKit
set_option linter.unusedVariables false

section
variable {P : Program} {ops : Array Oper} {Q : Exit → Act → World → Prop} {md : Region.Mode}

/-- **Whatever order is picked**: an invariant J that each operation that may come up hands on; the last operations (from m on) wait for all others. -/
theorem wpAny_invx (m x : Nat) (J : Array Bool → Act → World → Prop)
    (hsize : ∀ l a w, J l a w → l.size = ops.size ∧ ∀ k, m ≤ k → l.getD k false = false)
    (hm : m ≤ ops.size)
    (hback : ∀ (i : Nat) (o : Oper), i < m → ops[i]? = some o → ∀ e ∈ o.after, Region.binds md e = true → e.on < i)
    (hstep : ∀ l a w i, J l a w → i ∈ Region.ready md ops l → i < m → wpOp P ops Q i (fun a' w' => J (l.setIfInBounds i true) a' w') a w)
    (hwait : ∀ l a w i, J l a w → i ∈ Region.ready md ops l → m ≤ i → ∀ k, k < m → k ≠ x → l.getD k false = true)
    (hfin : ∀ l a w, J l a w → (∀ k, k < m → k ≠ x → l.getD k false = true) → wpAny P md ops Q (ops.size - m + left l m) l a w) :
    ∀ (c : Nat) (l : Array Bool) (a : Act) (w : World), left l m = c → J l a w → wpAny P md ops Q (ops.size - m + c) l a w := by
  intro c
  induction c with
  | zero => exact fun l a w hc hj => by have h := hfin l a w hj (fun k hk _ => left_zero hc k hk); rwa [hc] at h
  | succ c ih =>
    intro l a w hc hj
    rcases Classical.em (∀ k, k < m → k ≠ x → l.getD k false = true) with hall | hnall
    · have h := hfin l a w hj hall; rwa [hc] at h
    obtain ⟨hs, hlater⟩ := hsize l a w hj
    have hex : ∃ k, k < m ∧ k ≠ x ∧ l.getD k false = false := by
      rcases Classical.em (∃ k, k < m ∧ k ≠ x ∧ l.getD k false = false) with h | h
      · exact h
      · refine absurd (fun k hk hkx => ?_) hnall
        cases hb : l.getD k false with
        | true => rfl
        | false => exact absurd ⟨k, hk, hkx, hb⟩ h
    refine ⟨fun hr => ?_, fun i hi => ?_⟩
    · exfalso
      -- the least one that has not come up may come up
      obtain ⟨k0, hk0, _, hb0⟩ := hex
      have hleast : ∀ n, (∃ k, k ≤ n ∧ k < m ∧ l.getD k false = false) → ∃ k, k < m ∧ l.getD k false = false ∧ ∀ j, j < k → l.getD j false = true := by
        intro n
        induction n with
        | zero =>
          rintro ⟨k, h1, h2, h3⟩
          obtain rfl : k = 0 := by omega
          exact ⟨0, h2, h3, fun j hj2 => by omega⟩
        | succ n ihn =>
          rintro ⟨k, h1, h2, h3⟩
          rcases Classical.em (∃ k, k ≤ n ∧ k < m ∧ l.getD k false = false) with h | h
          · exact ihn h
          · refine ⟨k, h2, h3, fun j hj2 => ?_⟩
            cases hb : l.getD j false with
            | true => rfl
            | false => exact absurd ⟨j, by omega, by omega, hb⟩ h
      obtain ⟨k, hk, hb, hmin⟩ := hleast k0 ⟨k0, Nat.le_refl _, hk0, hb0⟩
      have hko : k < ops.size := by omega
      have : k ∈ Region.ready md ops l := mem_ready.2 ⟨by
        simp only [Array.getD_eq_getD_getElem?] at hb ⊢
        rw [Array.getElem?_eq_getElem (by omega)] at hb ⊢
        simpa using hb, ops[k], Array.getElem?_eq_getElem hko, fun e he hbi => hmin _ (hback k _ hk (Array.getElem?_eq_getElem hko) e he hbi)⟩
      rw [hr] at this
      cases this
    · rcases Nat.lt_or_ge i m with h1 | h1
      · have hu : l.getD i false = false := by
          have h2 := (mem_ready.1 hi).1
          simp only [Array.getD_eq_getD_getElem?] at h2 ⊢
          rw [Array.getElem?_eq_getElem (by omega)] at h2 ⊢
          simpa using h2
        have hl := left_set (m := m) (by omega : i < l.size) hu h1
        exact wpOp_mono (fun a' w' hj2 => ih _ a' w' (by omega) hj2) (hstep l a w i hj hi h1)
      · exfalso
        obtain ⟨k, hk, hkx, hb⟩ := hex
        rw [hwait l a w i hj hi h1 k hk hkx] at hb
        cases hb

/-- **The order-free law**: of a region that draws its order, the first m operations (guards whose values are known; the operation x, that only reads its frame, may come behind the stores too) in whatever order: each meets its own condition in its own world; what it has shown stays (Below). -/
theorem region_freex {id : Nat} {a : Act} {w : World} {os : List Oper} (m r x : Nat) (ds : List Tmp) (aF : (Nat → Value) → Act) (S : World → Prop) (Φ : Nat → Value → World → Prop) (fresh : Nat → Bool)
    (hm : P.follows .mixedOrders = true)
    (haF : ∀ vals, fillAll (fun k => ds[k]?) vals a m = aF vals)
    (hr : os.length = m + r)
    (hok : (List.range m).all (okAtG os.toArray m ds a.tmps.size) = true)
    (hend : (List.range os.length).all (fun i => decide (i < m) || (List.range m).all fun k => k == x || (anc os.toArray 3 i).contains k) = true)
    (hxm : x < m) (hxf : fresh x = false) (hxs : Region.noSelect os.toArray = true)
    (hxr : (Region.free .any os.toArray ((firsts (m + r) m).setIfInBounds x false) x && (Region.ready .any os.toArray ((firsts (m + r) m).setIfInBounds x false)).contains x) = true)
    (hyx : ∀ (vals : Nat → Value) (w : World), S w → (∀ k, k < m → k ≠ x → Φ k (vals k) w) → ∀ o, os.toArray[x]? = some o → o.guard = none ∧ ∃ v, (∀ w', (execOp (aF vals).eval o).run P w' = .ok (.value v) w') ∧ Φ x v w)
    (hQ : ∀ c (t t' : Array Value) (d : List Deferred) w, Q (.panic c) ⟨t, d⟩ w → Q (.panic c) ⟨t', d⟩ w)
    (hSb : ∀ w w', Below w.heap.size w w' → S w → S w')
    (hΦb : ∀ k v w w', Below w.heap.size w w' → Φ k v w → Φ k v w')
    (hS : S w.drew)
    (hop : AllAt (FreeStepG P Q os.toArray ds aF S Φ fresh) 0 os m)
    (hfin : ∀ (vals : Nat → Value) (w : World), S w → (∀ k, k < m → Φ k (vals k) w) →
      (∀ j k, j < m → k < m → j ≠ k → fresh j = true → fresh k = true → ∀ p q, vals j = .pointer (some ⟨p, 0, none⟩) → vals k = .pointer (some ⟨q, 0, none⟩) → p ≠ q) →
      wpAny P .any os.toArray Q r (firsts (m + r) m) (aF vals) w) :
    (Code.region id os.toArray true).wp P Q a w := by
  generalize hops : os.toArray = ops at *
  have hsz0 : ops.size = m + r := by rw [← hops]; simpa using hr
  have hle : m ≤ ops.size := by omega
  replace hend : (List.range ops.size).all (fun i => decide (i < m) || (List.range m).all fun k => k == x || (anc ops 3 i).contains k) = true := by rw [hsz0, ← hr]; exact hend
  replace hop : ∀ i, i < m → ∀ o, ops[i]? = some o → FreeStepG P Q ops ds aF S Φ fresh i o := fun i hi o ho => by
    have := hop.at i hi o (by rw [← hops] at ho; simpa using ho)
    rwa [Nat.zero_add] at this
  replace hfin : ∀ (vals : Nat → Value) (w : World), S w → (∀ k, k < m → Φ k (vals k) w) →
      (∀ j k, j < m → k < m → j ≠ k → fresh j = true → fresh k = true → ∀ p q, vals j = .pointer (some ⟨p, 0, none⟩) → vals k = .pointer (some ⟨q, 0, none⟩) → p ≠ q) →
      ∀ l : Array Bool, l.size = ops.size → (∀ k, l.getD k false = decide (k < m)) → wpAny P .any ops Q (ops.size - m) l (aF vals) w := fun vals w h1 h2 h3 l h4 h5 => by
    rw [firsts_eq (h4.trans hsz0) (by omega) h5, show ops.size - m = r by omega]
    exact hfin vals w h1 h2 h3
  replace hQ : ∀ c (a a' : Act) w, a.defers = a'.defers → Q (.panic c) a w → Q (.panic c) a' w := by
    rintro c ⟨t, d⟩ ⟨t', d'⟩ w he h
    obtain rfl : d = d' := he
    exact hQ c t t' d w h
  refine wp_region_any hm ?_
  have hat : ∀ i, i < m → okAtG ops m ds a.tmps.size i = true := fun i hi => List.all_eq_true.1 hok i (List.mem_range.2 hi)
  have hlate : ∀ i, m ≤ i → i < ops.size → ∀ k, k < m → k ≠ x → k ∈ anc ops 3 i := fun i h1 h2 k hk hkx => by
    have := List.all_eq_true.1 hend i (List.mem_range.2 h2)
    simp only [Bool.or_eq_true, decide_eq_true_eq, List.all_eq_true, List.mem_range, List.contains_iff_mem, beq_iff_eq] at this
    exact ((this.resolve_left (by omega)) k hk).resolve_left hkx
  have hfr : ∀ (l : Array Bool), l = Array.replicate ops.size false → ∀ k, l.getD k false = false := by
    rintro l rfl k
    simp only [Array.getD_eq_getD_getElem?, Array.getElem?_replicate]
    split <;> rfl
  let J : Array Bool → Act → World → Prop := fun l a' w' => (l.size = ops.size ∧ ∀ k, m ≤ k → l.getD k false = false) ∧ S w' ∧ (∀ k, k < m → l.getD k false = true → ∀ e ∈ afters ops k, l.getD e false = true) ∧
    ∃ vals, a' = fill (fun k => ds[k]?) vals l a m ∧ (∀ k, k < m → l.getD k false = true → Φ k (vals k) w' ∧ (fresh k = true → ∃ q, vals k = .pointer (some ⟨q, 0, none⟩) ∧ q < w'.heap.size)) ∧
      (∀ j k, j < m → k < m → l.getD j false = true → l.getD k false = true → j ≠ k → fresh j = true → fresh k = true → ∀ p q, vals j = .pointer (some ⟨p, 0, none⟩) → vals k = .pointer (some ⟨q, 0, none⟩) → p ≠ q)
  have hdown : ∀ l a' w', J l a' w' → ∀ k, l.getD k false = true → ∀ e ∈ afters ops k, l.getD e false = true := fun l a' w' hj k hk => by
    rcases Nat.lt_or_ge k m with h1 | h1
    · exact hj.2.2.1 k h1 hk
    · rw [hj.1.2 k h1] at hk
      cases hk
  have hz : ∀ j, j ≤ m → left (Array.replicate ops.size false) j = j := fun j => by
    induction j with
    | zero => exact fun _ => rfl
    | succ j ihj => exact fun h => by unfold left; rw [ihj (by omega), hfr _ rfl j]; rfl
  have key := wpAny_invx (P := P) (ops := ops) (Q := Q) (md := .any) m x J (fun l a' w' hj => hj.1) hle (fun i o h1 ho e he hb => ?hback) (fun l a' w' i hj hi h1 => ?hstep) (fun l a' w' i hj hi h1 k hk hkx => ?hwait) (fun l a' w' hj hall => ?hfin)
    m (Array.replicate ops.size false) a w.drew (hz m (Nat.le_refl _)) ⟨⟨by simp, fun k _ => hfr _ rfl k⟩, hS, fun k _ h => (by rw [hfr _ rfl k] at h; cases h),
      fun _ => undef, (fill_none fun k _ => hfr _ rfl k).symm, fun k _ h => (by rw [hfr _ rfl k] at h; cases h), fun j k _ _ h => (by rw [hfr _ rfl j] at h; cases h)⟩
  · have e : ops.size - m + m = ops.size := by omega
    rw [e] at key
    exact key
  case hback =>
    obtain ⟨_, _, _, _, _, _, _, hlow, _, _⟩ := okAtG_spec (hat i h1)
    refine hlow e.on ?_
    unfold afters
    rw [ho]
    exact List.mem_map.2 ⟨e, List.mem_filter.2 ⟨by simpa using he, hb⟩, rfl⟩
  case hwait =>
    have hlt : i < ops.size := by
      obtain ⟨_, o, ho, _⟩ := mem_ready.1 hi
      exact (Array.getElem?_eq_some_iff.1 ho).1
    exact anc_up (hdown l a' w' hj) 3 i (fun e he => ready_after hi he) k (hlate i h1 hlt k hk hkx)
  case hfin =>
    obtain ⟨⟨hs, hl⟩, hSw, hdn, vals, rfl, hv, hp⟩ := hj
    cases hx : l.getD x false with
    | true =>
      have hall2 : ∀ k, k < m → l.getD k false = true := fun k hk => by
        by_cases hkx : k = x
        · subst hkx; exact hx
        · exact hall k hk hkx
      have hl0 : left l m = 0 := by
        have h0 : ∀ j, j ≤ m → left l j = 0 := fun j => by
          induction j with
          | zero => exact fun _ => rfl
          | succ j ihj => exact fun hj2 => by unfold left; rw [ihj (by omega), hall2 j (by omega)]; rfl
        exact h0 m (Nat.le_refl _)
      rw [hl0, Nat.add_zero, fill_all hall2, haF]
      refine hfin vals w' hSw (fun k hk => (hv k hk (hall2 k hk)).1) (fun j k h1 h2 => hp j k h1 h2 (hall2 j h1) (hall2 k h2)) l hs fun k => ?_
      rcases Nat.lt_or_ge k m with h | h
      · rw [hall2 k h, decide_eq_true h]
      · rw [hl k h, decide_eq_false (by omega)]
    | false =>
      have hset : ∀ k, k < m → (l.setIfInBounds x true).getD k false = true := fun k hk => by
        by_cases hkx : k = x
        · subst hkx; exact getD_same (by omega) _
        · rw [getD_other (Ne.symm hkx)]; exact hall k hk hkx
      have hl1 : left l m = 1 := by
        have h0 : ∀ j, j ≤ m → left (l.setIfInBounds x true) j = 0 := fun j => by
          induction j with
          | zero => exact fun _ => rfl
          | succ j ihj => exact fun hj2 => by unfold left; rw [ihj (by omega), hset j (by omega)]; rfl
        have := left_set (m := m) (by omega : x < l.size) hx hxm
        rw [h0 m (Nat.le_refl _)] at this
        exact this.symm
      have hlx : l = (firsts (m + r) m).setIfInBounds x false := by
        apply Array.ext_getElem?
        intro k
        have hfs : (firsts (m + r) m).size = m + r := by simp [firsts]
        rcases Nat.lt_or_ge k (m + r) with hk | hk
        · have e1 : l[k]? = some (l.getD k false) := by
            rw [Array.getElem?_eq_getElem (by omega)]; simp [Array.getD_eq_getD_getElem?, Array.getElem?_eq_getElem (show k < l.size by omega)]
          rw [e1, Array.getElem?_setIfInBounds]
          by_cases hkx : x = k
          · subst hkx; rw [if_pos rfl, if_pos (by omega), hx]
          · rw [if_neg hkx, show (firsts (m + r) m)[k]? = ((List.range (m + r)).map fun k => decide (k < m))[k]? from List.getElem?_toArray .., List.getElem?_map, List.getElem?_range hk]
            rcases Nat.lt_or_ge k m with h | h
            · rw [hall k h (Ne.symm hkx)]; simp [h]
            · rw [hl k h]; simp; omega
        · rw [Array.getElem?_eq_none (by omega), Array.getElem?_eq_none (by simp only [Array.size_setIfInBounds]; omega)]
      obtain ⟨o, ho, hdst, hdi, hlt, hg, hsel, hlow, hdist, hops⟩ := okAtG_spec (hat x hxm)
      obtain ⟨hgn, v, hrun, hphi⟩ := hyx vals w' hSw (fun k hk hkx => (hv k hk (hall k hk hkx)).1) o ho
      have hxx : x ∉ afters ops x := fun h => by have := hlow x h; omega
      have heval : ∀ y ∈ o.op.operands, (fill (fun k => ds[k]?) vals l a m).eval y = (aF vals).eval y := fun y hy => by
        rw [← haF vals]
        exact fill_eval fun k hk hk2 d hd hyd => by
          by_cases hkx : k = x
          · subst hkx; exact hxx (hops y hy d hyd k hk hd)
          · rw [hall k hk hkx] at hk2; cases hk2
      have hy : Yields P ops o v (fill (fun k => ds[k]?) vals l a m) := .inl ⟨by unfold Region.wanted; rw [hgn], fun w2 => by rw [execOp_congr o hsel heval]; exact hrun w2⟩
      simp only [Bool.and_eq_true] at hxr
      rw [hl1]
      refine wpAny_take ho hxs (by rw [hlx]; exact hxr.1) (by rw [hlx]; exact hxr.2) (fun c a2 w2 h => hQ c _ _ w2 (by cases o.dst <;> rfl) h) hy ?_
      rw [hdst, ← hdi, fill_set (by omega) hx hxm (fun j hj hji d hd hdi2 => hdist j hj hji (hd.trans hdi2.symm)), fill_all hset, haF]
      have hup : ∀ k, k ≠ x → upd vals x v k = vals k := fun k hk => if_neg hk
      refine hfin (upd vals x v) w' hSw (fun k hk => ?_) (fun j k h1 h2 hjk fj fk p q ep eq => ?_) _ (by simpa using hs) fun k => ?_
      · by_cases hkx : k = x
        · subst hkx; rw [show upd vals k v k = v from if_pos rfl]; exact hphi
        · rw [hup k hkx]; exact (hv k hk (hall k hk hkx)).1
      · have hjx : j ≠ x := fun e => by subst e; rw [hxf] at fj; cases fj
        have hkx : k ≠ x := fun e => by subst e; rw [hxf] at fk; cases fk
        rw [hup j hjx] at ep
        rw [hup k hkx] at eq
        exact hp j k h1 h2 (hall j h1 hjx) (hall k h2 hkx) hjk fj fk p q ep eq
      · rcases Nat.lt_or_ge k m with h | h
        · rw [hset k h, decide_eq_true h]
        · rw [getD_other (by omega), hl k h, decide_eq_false (by omega)]
  case hstep =>
    obtain ⟨⟨hs, hl⟩, hSw, hdn, vals, rfl, hv, hp⟩ := hj
    obtain ⟨o, ho, hdst, hdi, hlt, hg, hsel, hlow, hdist, hops⟩ := okAtG_spec (hat i h1)
    have hu : l.getD i false = false := by
      have h2 := (mem_ready.1 hi).1
      have h3 : i < l.size := by omega
      simp only [Array.getD_eq_getD_getElem?] at h2 ⊢
      rw [Array.getElem?_eq_getElem h3] at h2 ⊢
      simpa using h2
    have hdep : ∀ e ∈ afters ops i, l.getD e false = true := fun e he => ready_after hi he
    have heval : ∀ x ∈ o.op.operands, (fill (fun k => ds[k]?) vals l a m).eval x = (aF vals).eval x := fun x hx => by
      rw [← haF vals]
      exact fill_eval fun k hk hk2 d hd hxd => by
        rw [hdep k (hops x hx d hxd k hk hd)] at hk2
        cases hk2
    have hphi : ∀ e ∈ afters ops i, Φ e (vals e) w' := fun e he => (hv e (by have := hlow e he; omega) (hdep e he)).1
    have hyld : ∀ g b, g ∈ afters ops i → vals g = .bool b → yielded ops (fill (fun k => ds[k]?) vals l a m).tmps g = some b := fun g b hga hb => by
      have hgm : g < m := by have := hlow g hga; omega
      obtain ⟨og, hog, hgd, hgi, hglt, _, _, _, hgdist, _⟩ := okAtG_spec (hat g hgm)
      have h4 : (fill (fun k => ds[k]?) vals l a m).eval (.tmp (ds.getD g 0)) = vals g := fill_at (hdep g hga) hgi hglt hgm fun k hk hne e => hgdist k hk hne (e.trans hgi.symm)
      refine yielded_at (by rw [hog]; exact hgd) (by rw [fill_size]; exact hglt) (h4.trans hb)
    have hsz : ds.getD i 0 < (aF vals).tmps.size := by rw [← haF vals, fillAll_size]; exact hlt
    have next : ∀ v w2, Below w'.heap.size w' w2 → Φ i v w2 → (fresh i = true → ∃ q, v = .pointer (some ⟨q, 0, none⟩) ∧ w'.heap.size ≤ q ∧ q < w2.heap.size) →
        J (l.setIfInBounds i true) ((fill (fun k => ds[k]?) vals l a m).put o.dst v) w2 := fun v w2 hb hphi hfresh => by
      have hne : ∀ k, k ≠ i → (l.setIfInBounds i true).getD k false = l.getD k false := fun k hk => getD_other (Ne.symm hk) _
      refine ⟨⟨by simpa using hs, fun k hk => by rw [hne k (by omega)]; exact hl k hk⟩, hSb _ _ hb hSw, fun k hk hk2 e he => ?_, upd vals i v, ?_, fun k hk hk2 => ?_, fun j k hj hk hj2 hk2 hjk fj fk p q ep eq => ?_⟩
      · by_cases hki : k = i
        · subst hki
          rw [hne e (by have := hlow e he; omega)]
          exact hdep e he
        · rw [hne k hki] at hk2
          by_cases hei : e = i
          · subst hei
            exact getD_same (by omega) _
          · rw [hne e hei]
            exact hdn k hk hk2 e he
      · rw [hdst, ← hdi]
        exact fill_set (by omega) hu h1 fun j hj hji d hd hdi2 => hdist j hj hji (hd.trans hdi2.symm)
      · by_cases hki : k = i
        · subst hki
          rw [show upd vals k v k = v from if_pos rfl]
          exact ⟨hphi, fun hf => by obtain ⟨q, h1, _, h3⟩ := hfresh hf; exact ⟨q, h1, h3⟩⟩
        · rw [hne k hki] at hk2
          rw [show upd vals i v k = vals k from if_neg hki]
          obtain ⟨h3, h4⟩ := hv k hk hk2
          exact ⟨hΦb _ _ _ _ hb h3, fun hf => by obtain ⟨q, h5, h6⟩ := h4 hf; exact ⟨q, h5, Nat.lt_of_lt_of_le h6 hb.size⟩⟩
      · by_cases hji : j = i
        · subst hji
          have hki : k ≠ j := fun h => hjk h.symm
          rw [show upd vals j v j = v from if_pos rfl] at ep
          rw [show upd vals j v k = vals k from if_neg hki] at eq
          rw [hne k hki] at hk2
          obtain ⟨q1, e1, l1, _⟩ := hfresh fj
          obtain ⟨q2, e2, l2⟩ := (hv k hk hk2).2 fk
          rw [e1] at ep
          rw [e2] at eq
          cases ep
          cases eq
          omega
        · by_cases hki : k = i
          · subst hki
            rw [show upd vals k v k = v from if_pos rfl] at eq
            rw [show upd vals k v j = vals j from if_neg hji] at ep
            rw [hne j hji] at hj2
            obtain ⟨q1, e1, l1, _⟩ := hfresh fk
            obtain ⟨q2, e2, l2⟩ := (hv j hj hj2).2 fj
            rw [e1] at eq
            rw [e2] at ep
            cases ep
            cases eq
            omega
          · rw [show upd vals i v j = vals j from if_neg hji] at ep
            rw [show upd vals i v k = vals k from if_neg hki] at eq
            rw [hne j hji] at hj2
            rw [hne k hki] at hk2
            exact hp j k hj hk hj2 hk2 hjk fj fk p q ep eq
    rcases hop i h1 o ho with ⟨hgv, hop2⟩ | ⟨g, b, hgb, hgv, hun, hfr0⟩
    case inr =>
      unfold wpOp
      rw [ho]
      simp only []
      have hnot : Region.wanted o (yielded ops (fill (fun k => ds[k]?) vals l a m).tmps) = false := by
        unfold Region.wanted
        rw [hgb]
        simp only []
        rw [hyld g (!b) (hg g b hgb) (hgv vals w' hSw hphi)]
        cases b <;> rfl
      rw [if_neg (by rw [hnot]; decide)]
      exact next _ _ (Below.refl _ _) (hun w' hSw) (fun hf => by rw [hfr0] at hf; cases hf)
    have hwant : Region.wanted o (yielded ops (fill (fun k => ds[k]?) vals l a m).tmps) = true := by
      unfold Region.wanted
      cases hgo : o.guard with
      | none => rfl
      | some gb =>
        obtain ⟨g, b⟩ := gb
        simp only []
        rw [hyld g b (hg g b hgo) (hgv vals w' hSw hphi g b hgo)]
        simp
    have hrun := hop2 vals w' hSw hphi
      (fun a2 w2 => a2.defers = (aF vals).defers ∧ Below w'.heap.size w' w2 ∧ Φ i (a2.eval (.tmp (ds.getD i 0))) w2 ∧ (fresh i = true → ∃ q, a2.eval (.tmp (ds.getD i 0)) = .pointer (some ⟨q, 0, none⟩) ∧ w'.heap.size ≤ q ∧ q < w2.heap.size))
      (fun a2 w2 h1 h2 h3 h4 => ⟨h1, h2, h3, h4⟩)
    unfold wpOp
    rw [ho]
    simp only []
    rw [if_pos hwant]
    refine .inl ?_
    unfold Oper.wp at hrun ⊢
    rw [execOp_congr o hsel heval]
    generalize (execOp (aF vals).eval o).run P w' = r at hrun ⊢
    have hdef : (aF vals).defers = (fill (fun k => ds[k]?) vals l a m).defers := by rw [← haF vals, fillAll_defers, fill_defers]
    have hput : ∀ v, ((aF vals).put o.dst v).eval (.tmp (ds.getD i 0)) = v := fun v => by rw [hdst]; exact put_same _ _ _ hsz
    cases r with
    | ok n w2 =>
      cases n <;> simp only [Oper.upon] at hrun ⊢
      case value v => rw [hput] at hrun; exact next _ _ hrun.2.1 hrun.2.2.1 hrun.2.2.2
      case skip => rw [hput] at hrun; exact next _ _ hrun.2.1 hrun.2.2.1 hrun.2.2.2
      case defer d =>
        exfalso
        have := hrun.1
        rw [put_defers2] at this
        have := congrArg List.length this
        simp at this
      case enter f args =>
        refine Calls.mono hrun fun e w3 he => ?_
        cases e with
        | returned v => simp only at he ⊢; rw [hput] at he; exact next _ _ he.2.1 he.2.2.1 he.2.2.2
        | panicked c => exact hQ _ _ _ _ hdef he
        | outgrown => exact he
      case row r args =>
        refine Rows.mono hrun fun v w3 he => ?_
        rw [hput] at he
        exact next _ _ he.2.1 he.2.2.1 he.2.2.2
    | halt x w2 =>
      cases x <;> simp only [Oper.upon] at hrun ⊢ <;> exact hQ _ _ _ _ hdef hrun
end

end Go.Proofs.YtohciicocaoagaaGreat

/- The statements' check that package rat is there (wakes) answers true, whatever the memory is. No condition. -/
namespace Go.Proofs.YtohciicocaoagaaGreat
open Go.RowKit Limb
set_option linter.unusedVariables false
/-- The numbers that wakes speaks of. -/
def wA : Rat := mkRat (-3) 2
def wT : Rat := mkRat 1 3
def wB : Rat := mkRat (-7) 6
def wC : Rat := mkRat 9 4
theorem fW1 : ofR (zOf true (Limb.val [6])) (Limb.val [4]) = (some wA, 0) := by decide +kernel
theorem fW2 : ofR (zOf false (Limb.val [6])) 0 = (none, 3) := by decide +kernel
theorem fW3 : divR (some ((1 : Int) : Rat)) (some ((3 : Int) : Rat)) = (some wT, 0) := by decide +kernel
theorem fW4 : addR (some wA) (some wT) = (some wB, 0) := by decide +kernel
theorem fW5 : divR (some wA) (some 0) = (none, 3) := by decide +kernel
theorem fW6 : mulR (some wA) (some wA) = (some wC, 0) := by decide +kernel
theorem fW7 : divR (some ((-7 : Int) : Rat)) (some ((6 : Int) : Rat)) = (some wB, 0) := by decide +kernel
theorem fW8 : divR (some ((9 : Int) : Rat)) (some ((4 : Int) : Rat)) = (some wC, 0) := by decide +kernel
theorem fW9 : cmpR (some wA) (some wB) = -1 := by decide +kernel
theorem fW10 : cmpR (some wA) (some 0) = -1 := by decide +kernel
theorem fW11 : (decide (sg (oTop (some wA)) = true) && same (limbs (oTop (some wA)).natAbs) [3] && same (limbs (oBot (some wA))) [2]) = true := by decide +kernel
theorem fW12 : readQ false [2] [2] = none := by decide +kernel
theorem fW13 : sameR (some wA) (some wA) = true := by decide +kernel
theorem fW14 : addR (some wA) none = (none, 1) := rfl
theorem nn_nil (w : World) (L : Nat) : NN w none 0 0 [] 0 L := ⟨IsN.nil _ _, rfl, Nat.le_refl _, Nat.zero_le _⟩
/-- A literal struct of literals. -/
theorem qq_lit {w : World} {s : Bool} {A B : Option Addr} {n c m d : Nat} {xs ys : List Nat} {a b : Nat} (hx : NN w A n c xs (Limb.val xs) n) (hy : NN w B m d ys (Limb.val ys) m) (hn : n ≤ 64) (hm : m ≤ 64) : QQ w s A n c xs B m d ys (readQ s xs ys) 64 :=
  ⟨ZZ.of (hx.short hn), hy.short hm, rfl⟩
theorem cast_zero : ((0 : Int) : Rat) = 0 := rfl
theorem qq_bad2 {w : World} {s : Bool} {A B : Option Addr} {n c m d : Nat} {xs ys : List Nat} (hx : NN w A n c xs (Limb.val xs) n) (hy : NN w B m d ys (Limb.val ys) m) : QQ w s A n c xs B m d ys (readQ s xs ys) (n + m) :=
  ⟨ZZ.of (hx.short (Nat.le_add_right _ _)), hy.short (Nat.le_add_left _ _), rfl⟩
theorem qq_bad {w : World} {A B : Option Addr} {n c m d : Nat} {xs ys : List Nat} {o : Option Rat} (hx : NN w A n c xs (Limb.val xs) n) (hy : NN w B m d ys (Limb.val ys) m) (hn : n ≤ 64) (hm : m ≤ 64) (h : readQ false xs ys = o) : QQ w false A n c xs B m d ys o 64 :=
  ⟨ZZ.of (hx.short hn), hy.short hm, h⟩

set_option maxHeartbeats 40000000 in
set_option maxRecDepth 100000 in
theorem wakes_any (w : World) : Calls Tryz.prog 5 #[] w fun e w' => e = .returned (.bool true) ∧ Below w.heap.size w w' := by
  go_enter Tryz.func5, Tryz.ntmps5
  have bw := bel_refl w
  have l0 := lit_c w [6] (by intro x hx; simp at hx; omega) 1 rfl
  have bn := below_new w (.cells #[Value.int IntKind.u32 6] 43)
  replace bw := below_two bw bn
  clear bn
  have h_l0 : NN (w.alloc (.cells #[Value.int IntKind.u32 6] 43)) (some ⟨w.heap.size, 0, none⟩) 1 1 [6] (Limb.val [6]) 1 := l0
  clear l0
  try simp only [World.size_alloc] at h_l0
  have l1 := lit_c (w.alloc (.cells #[Value.int IntKind.u32 6] 43)) [4] (by intro x hx; simp at hx; omega) 1 rfl
  have bn := below_new (w.alloc (.cells #[Value.int IntKind.u32 6] 43)) (.cells #[Value.int IntKind.u32 4] 43)
  replace h_l0 := h_l0.below bn
  replace bw := below_two bw bn
  clear bn
  have h_l1 : NN ((w.alloc (.cells #[Value.int IntKind.u32 6] 43)).alloc (.cells #[Value.int IntKind.u32 4] 43)) (some ⟨(w.alloc (.cells #[Value.int IntKind.u32 6] 43)).heap.size, 0, none⟩) 1 1 [4] (Limb.val [4]) 1 := l1
  clear l1
  try simp only [World.size_alloc] at h_l1
  go_wp2_with fail
  refine (rOf_c (ZZ.of h_l0) h_l1 (by decide) (by decide) _ _ fW1).mono ?_
  rintro e w1 ⟨A_a, n_a, c_a, B_a, m_a, d_a, rfl, h_a, bn⟩
  replace h_l0 := h_l0.below bn
  replace h_l1 := h_l1.below bn
  replace bw := below_two bw bn
  clear bn
  clear h_l0 h_l1
  have h_ra := row3_new w1 27 (.bool (sg (oTop (some wA)))) (.slice A_a n_a c_a) (.slice B_a m_a d_a)
  have bn := below_new w1 (.cells #[Value.bool (sg (oTop (some wA))), Value.slice A_a n_a c_a, Value.slice B_a m_a d_a] 27)
  replace h_a := h_a.below bn
  replace bw := below_two bw bn
  clear bn
  have l0 := lit_c (w1.alloc (.cells #[Value.bool (sg (oTop (some wA))), Value.slice A_a n_a c_a, Value.slice B_a m_a d_a] 27)) [6] (by intro x hx; simp at hx; omega) 1 rfl
  have bn := below_new (w1.alloc (.cells #[Value.bool (sg (oTop (some wA))), Value.slice A_a n_a c_a, Value.slice B_a m_a d_a] 27)) (.cells #[Value.int IntKind.u32 6] 43)
  replace h_a := h_a.below bn
  replace h_ra := h_ra.below bn
  replace bw := below_two bw bn
  clear bn
  have h_l0 : NN ((w1.alloc (.cells #[Value.bool (sg (oTop (some wA))), Value.slice A_a n_a c_a, Value.slice B_a m_a d_a] 27)).alloc (.cells #[Value.int IntKind.u32 6] 43)) (some ⟨(w1.alloc (.cells #[Value.bool (sg (oTop (some wA))), Value.slice A_a n_a c_a, Value.slice B_a m_a d_a] 27)).heap.size, 0, none⟩) 1 1 [6] (Limb.val [6]) 1 := l0
  clear l0
  try simp only [World.size_alloc] at h_l0
  go_wp2_with fail
  generalize w1.alloc (.cells #[Value.bool (sg (oTop (some wA))), Value.slice A_a n_a c_a, Value.slice B_a m_a d_a] 27) = w2 at *
  obtain ⟨q_a, eg⟩ : ∃ g, g = w1.heap.size := ⟨_, rfl⟩
  rw [← eg] at h_ra h_l0 ⊢
  clear eg
  refine (rOf_c (ZZ.of h_l0) (nn_nil _ 0) (by decide) (by decide) _ _ fW2).mono ?_
  rintro e w3 ⟨A_b0, n_b0, c_b0, B_b0, m_b0, d_b0, rfl, h_b0, bn⟩
  replace h_a := h_a.below bn
  replace h_ra := h_ra.below bn
  replace h_l0 := h_l0.below bn
  replace bw := below_two bw bn
  clear bn
  clear h_l0
  have h_rb0 := row3_new w3 27 (.bool (sg (oTop none))) (.slice A_b0 n_b0 c_b0) (.slice B_b0 m_b0 d_b0)
  have bn := below_new w3 (.cells #[Value.bool (sg (oTop none)), Value.slice A_b0 n_b0 c_b0, Value.slice B_b0 m_b0 d_b0] 27)
  replace h_a := h_a.below bn
  replace h_ra := h_ra.below bn
  replace h_b0 := h_b0.below bn
  replace bw := below_two bw bn
  clear bn
  go_wp2
  generalize w3.alloc (.cells #[Value.bool (sg (oTop none)), Value.slice A_b0 n_b0 c_b0, Value.slice B_b0 m_b0 d_b0] 27) = w4 at *
  obtain ⟨q_b0, eg⟩ : ∃ g, g = w3.heap.size := ⟨_, rfl⟩
  rw [← eg] at h_rb0 ⊢
  clear eg
  generalize w4 = wS at *
  refine region_freex 7 2 5 [27, 28, 29, 26, 30, 31, 5] ?aF16 (fun wx => Below wS.heap.size wS wx) (fun k vv wx => match k with
      | 0 => vv = .agg #[.bool (sg (oTop (some wA))), .slice A_a n_a c_a, .slice B_a m_a d_a]
      | 1 => ∃ (e0 : Option Addr) (e1 : Nat) (e2 : Nat) (e3 : Option Addr) (e4 : Nat) (e5 : Nat), vv = .agg #[.bool (sg (oTop (some wT))), .slice e0 e1 e2, .slice e3 e4 e5] ∧ QT wx e0 e1 e2 e3 e4 e5 (some wT)
      | 2 => ∃ (e0 : Option Addr) (e1 : Nat) (e2 : Nat) (e3 : Option Addr) (e4 : Nat) (e5 : Nat), vv = .tuple #[.agg #[.bool (sg (oTop (some wB))), .slice e0 e1 e2, .slice e3 e4 e5], .int .i64 0] ∧ QT wx e0 e1 e2 e3 e4 e5 (some wB)
      | 3 => ∃ (e0 : Option Addr) (e1 : Nat) (e2 : Nat) (e3 : Option Addr) (e4 : Nat) (e5 : Nat), vv = .tuple #[.agg #[.bool (sg (oTop (some wB))), .slice e0 e1 e2, .slice e3 e4 e5], .int .i64 0] ∧ QT wx e0 e1 e2 e3 e4 e5 (some wB)
      | 4 => ∃ (e0 : Option Addr) (e1 : Nat) (e2 : Nat) (e3 : Option Addr) (e4 : Nat) (e5 : Nat), vv = .agg #[.bool (sg (oTop (some wB))), .slice e0 e1 e2, .slice e3 e4 e5] ∧ QT wx e0 e1 e2 e3 e4 e5 (some wB)
      | 5 => vv = .int .i64 0
      | _ => ∃ (e0 : Nat), vv = .pointer (some ⟨e0, 0, none⟩) ∧ Row3 wx e0 27 (.bool false) (.slice none 0 0) (.slice none 0 0) ∧ Over wS e0 wx)
    (fun k => k == 6) (by kernel_rfl) ?haF16 rfl (by kernel_rfl) (by kernel_rfl) (by decide) rfl (by kernel_rfl) (by kernel_rfl) ?hyx16 (fun _ _ _ _ _ h => h) ?hSb16 ?hPb16 ?hS16 ?hop16 ?hfin16
  case haF16 =>
    intro vals
    simp only [fillAll, List.getElem?_cons_zero, List.getElem?_cons_succ, Act.put, List.setIfInBounds_toArray, List.set_cons_zero, List.set_cons_succ]
    exact rfl
  case hyx16 =>
    intro vals wr hS hd o ho
    obtain ⟨A_3_0, n_3_1, n_3_2, A_3_3, n_3_4, n_3_5, d3, h_3_0⟩ := hd 3 (by decide) (by decide)
    cases ho
    try dsimp only
    rw [d3]
    exact ⟨rfl, _, fun _ => rfl, rfl⟩
  case hSb16 => exact fun wx w2 hb hS => below_two hS hb
  case hPb16 =>
    intro k v wa wb hb h
    match k, h with
    | 0, h => exact h
    | 1, ⟨e0, e1, e2, e3, e4, e5, h1, g0⟩ => exact ⟨e0, e1, e2, e3, e4, e5, h1, g0.below hb⟩
    | 2, ⟨e0, e1, e2, e3, e4, e5, h1, g0⟩ => exact ⟨e0, e1, e2, e3, e4, e5, h1, g0.below hb⟩
    | 3, ⟨e0, e1, e2, e3, e4, e5, h1, g0⟩ => exact ⟨e0, e1, e2, e3, e4, e5, h1, g0.below hb⟩
    | 4, ⟨e0, e1, e2, e3, e4, e5, h1, g0⟩ => exact ⟨e0, e1, e2, e3, e4, e5, h1, g0.below hb⟩
    | 5, h => exact h
    | _ + 6, ⟨e0, h1, g0, g1⟩ => exact ⟨e0, h1, g0.below hb, g1.below hb⟩
  case hS16 => exact (Below.refl _ _).drew
  case hop16 =>
    refine .cons (k := 0) (.plain rfl ?_) (.cons (k := 1) (.plain rfl ?_) (.cons (k := 2) (.plain rfl ?_) (.cons (k := 3) (.plain rfl ?_) (.cons (k := 4) (.plain rfl ?_) (.cons (k := 5) (.plain rfl ?_) (.cons (k := 6) (.plain rfl ?_) (.nil)))))))
    all_goals intro vals wr hS hd KC hK
    all_goals (show Oper.wp _ _ _ _ _ _; dsimp only)
    · have z0 := (h_ra.below hS).c0
      have z1 := (h_ra.below hS).c1
      have z2 := (h_ra.below hS).c2
      go_simp
      refine hK _ _ rfl (Below.refl _ _) (by first | rfl | simp) (fun h => by cases h)
    · go_simp
      go_at_call 29
      with_reducible refine (by_c 1 3 (by decide) (by decide) (by decide) (by decide) _ fW3 _).mono ?_
      rintro e w2 ⟨r0, r1, r2, r3, r4, r5, rfl, f0, bn_r⟩
      refine hK _ _ rfl bn_r ⟨_, _, _, _, _, _, rfl, f0⟩ (fun h => by cases h)
    · have d0 : vals 0 = _ := hd 0 (by decide +kernel)
      obtain ⟨A_1_0, n_1_1, n_1_2, A_1_3, n_1_4, n_1_5, d1, h_1_0⟩ := hd 1 (by decide +kernel)
      rw [d0, d1]
      go_simp
      go_at_call 7
      with_reducible refine (rAdd_c (h_a.below hS) h_1_0 (by decide) (by decide) _ _ fW4).mono ?_
      rintro e w2 ⟨r0, r1, r2, r3, r4, r5, rfl, f0, bn_r⟩
      refine hK _ _ rfl bn_r ⟨_, _, _, _, _, _, rfl, f0⟩ (fun h => by cases h)
    · obtain ⟨A_2_0, n_2_1, n_2_2, A_2_3, n_2_4, n_2_5, d2, h_2_0⟩ := hd 2 (by decide +kernel)
      rw [d2]
      go_simp
      refine hK _ _ rfl (Below.refl _ _) ⟨_, _, _, _, _, _, rfl, h_2_0⟩ (fun h => by cases h)
    · obtain ⟨A_3_0, n_3_1, n_3_2, A_3_3, n_3_4, n_3_5, d3, h_3_0⟩ := hd 3 (by decide +kernel)
      rw [d3]
      go_simp
      refine hK _ _ rfl (Below.refl _ _) ⟨_, _, _, _, _, _, rfl, h_3_0⟩ (fun h => by cases h)
    · obtain ⟨A_3_0, n_3_1, n_3_2, A_3_3, n_3_4, n_3_5, d3, h_3_0⟩ := hd 3 (by decide +kernel)
      rw [d3]
      go_simp
      refine hK _ _ rfl (Below.refl _ _) rfl (fun h => by cases h)
    · go_simp
      refine hK _ _ rfl (below_new _ _) ⟨_, rfl, row3_new wr _ _ _ _ , hS.size⟩ (fun _ => ⟨_, rfl, Nat.le_refl _, by rw [World.size_alloc]; omega⟩)
  case hfin16 =>
    intro vals wr hS hP hne
    obtain ⟨A_4_0, n_4_1, n_4_2, A_4_3, n_4_4, n_4_5, ez_4, h_4_0⟩ := hP 4 (by decide)
    have ez_5 : vals 5 = _ := hP 5 (by decide)
    obtain ⟨n_6_0, ez_6, h_6_0, h_6_1⟩ := hP 6 (by decide)
    have hNo := Row3.noLimb h_6_0 (by intro v e; cases e) (by intro v e; cases e) (by intro v e; cases e)
    have v0 := Row3.c0 h_6_0
    have v1 := Row3.c1 h_6_0
    have v2 := Row3.c2 h_6_0
    have y0 := Row3.free h_6_0 0
    have y1 := Row3.free h_6_0 1
    have y2 := Row3.free h_6_0 2
    have h_rb := Row3.fill h_6_0 (.bool (sg (oTop (some wB)))) (.slice A_4_0 n_4_1 n_4_2) (.slice A_4_3 n_4_4 n_4_5)
    have h_b := QQ.fillR3 h_4_0 hNo (.bool (sg (oTop (some wB)))) (.slice A_4_0 n_4_1 n_4_2) (.slice A_4_3 n_4_4 n_4_5)
    have bn := below_fill3' hS h_6_1 (.bool (sg (oTop (some wB)))) (.slice A_4_0 n_4_1 n_4_2) (.slice A_4_3 n_4_4 n_4_5)
    clear hNo
    try dsimp only
    rw [ez_4, ez_5, ez_6]
    refine wpAny_ready (rs := [7]) (by kernel_rfl) (by simp) (AllReady.cons rfl (fun KC hK => ?_) AllReady.nil)
    go_simp
    refine hK _ _ ?_
    clear hK KC
    refine wpAny_ready (rs := [8]) (by kernel_rfl) (by simp) (AllReady.cons rfl (fun KC hK => ?_) AllReady.nil)
    go_simp
    refine hK _ _ ?_
    clear hK KC
    refine wpAny_done (by kernel_rfl) ?_ _
    generalize ((wr.setCell ⟨n_6_0, 0, none⟩ (.bool (sg (oTop (some wB))))).setCell ⟨n_6_0, 1, none⟩ (.slice A_4_0 n_4_1 n_4_2)).setCell ⟨n_6_0, 2, none⟩ (.slice A_4_3 n_4_4 n_4_5) = w5 at *
    clear v0 v1 v2 y0 y1 y2 hS ez_4 ez_5 ez_6 h_6_0 h_6_1 h_4_0
    obtain ⟨q_b, A_b, n_b, c_b, B_b, m_b, d_b, eg⟩ : ∃ q A n c B m d, (q, A, n, c, B, m, d) = (n_6_0, A_4_0, n_4_1, n_4_2, A_4_3, n_4_4, n_4_5) := ⟨_, _, _, _, _, _, _, rfl⟩
    injection eg with e1 eg; injection eg with e2 eg; injection eg with e3 eg; injection eg with e4 eg; injection eg with e5 eg; injection eg with e6 e7
    subst e1 e2 e3 e4 e5 e6 e7
    replace h_a := h_a.below bn
    replace h_ra := h_ra.below bn
    replace h_b0 := h_b0.below bn
    replace h_rb0 := h_rb0.below bn
    replace bw := below_two bw bn
    clear bn
    go_wp2
    generalize w5 = wS at *
    refine region_freex 7 2 5 [33, 34, 35, 32, 36, 37, 7] ?aF17 (fun wx => Below wS.heap.size wS wx) (fun k vv wx => match k with
        | 0 => vv = .agg #[.bool (sg (oTop (some wA))), .slice A_a n_a c_a, .slice B_a m_a d_a]
        | 1 => ∃ (e0 : Option Addr) (e1 : Nat) (e2 : Nat) (e3 : Option Addr) (e4 : Nat) (e5 : Nat), vv = .agg #[.bool (sg (oTop (some 0))), .slice e0 e1 e2, .slice e3 e4 e5] ∧ QT wx e0 e1 e2 e3 e4 e5 (some 0)
        | 2 => ∃ (e0 : Option Addr) (e1 : Nat) (e2 : Nat) (e3 : Option Addr) (e4 : Nat) (e5 : Nat), vv = .tuple #[.agg #[.bool (sg (oTop none)), .slice e0 e1 e2, .slice e3 e4 e5], .int .i64 3] ∧ QT wx e0 e1 e2 e3 e4 e5 none
        | 3 => ∃ (e0 : Option Addr) (e1 : Nat) (e2 : Nat) (e3 : Option Addr) (e4 : Nat) (e5 : Nat), vv = .tuple #[.agg #[.bool (sg (oTop none)), .slice e0 e1 e2, .slice e3 e4 e5], .int .i64 3] ∧ QT wx e0 e1 e2 e3 e4 e5 none
        | 4 => ∃ (e0 : Option Addr) (e1 : Nat) (e2 : Nat) (e3 : Option Addr) (e4 : Nat) (e5 : Nat), vv = .agg #[.bool (sg (oTop none)), .slice e0 e1 e2, .slice e3 e4 e5] ∧ QT wx e0 e1 e2 e3 e4 e5 none
        | 5 => vv = .int .i64 3
        | _ => ∃ (e0 : Nat), vv = .pointer (some ⟨e0, 0, none⟩) ∧ Row3 wx e0 27 (.bool false) (.slice none 0 0) (.slice none 0 0) ∧ Over wS e0 wx)
      (fun k => k == 6) (by kernel_rfl) ?haF17 rfl (by kernel_rfl) (by kernel_rfl) (by decide) rfl (by kernel_rfl) (by kernel_rfl) ?hyx17 (fun _ _ _ _ _ h => h) ?hSb17 ?hPb17 ?hS17 ?hop17 ?hfin17
    case haF17 =>
      intro vals
      simp only [fillAll, List.getElem?_cons_zero, List.getElem?_cons_succ, Act.put, List.setIfInBounds_toArray, List.set_cons_zero, List.set_cons_succ]
      exact rfl
    case hyx17 =>
      intro vals wr hS hd o ho
      obtain ⟨A_3_0, n_3_1, n_3_2, A_3_3, n_3_4, n_3_5, d3, h_3_0⟩ := hd 3 (by decide) (by decide)
      cases ho
      try dsimp only
      rw [d3]
      exact ⟨rfl, _, fun _ => rfl, rfl⟩
    case hSb17 => exact fun wx w2 hb hS => below_two hS hb
    case hPb17 =>
      intro k v wa wb hb h
      match k, h with
      | 0, h => exact h
      | 1, ⟨e0, e1, e2, e3, e4, e5, h1, g0⟩ => exact ⟨e0, e1, e2, e3, e4, e5, h1, g0.below hb⟩
      | 2, ⟨e0, e1, e2, e3, e4, e5, h1, g0⟩ => exact ⟨e0, e1, e2, e3, e4, e5, h1, g0.below hb⟩
      | 3, ⟨e0, e1, e2, e3, e4, e5, h1, g0⟩ => exact ⟨e0, e1, e2, e3, e4, e5, h1, g0.below hb⟩
      | 4, ⟨e0, e1, e2, e3, e4, e5, h1, g0⟩ => exact ⟨e0, e1, e2, e3, e4, e5, h1, g0.below hb⟩
      | 5, h => exact h
      | _ + 6, ⟨e0, h1, g0, g1⟩ => exact ⟨e0, h1, g0.below hb, g1.below hb⟩
    case hS17 => exact (Below.refl _ _).drew
    case hop17 =>
      refine .cons (k := 0) (.plain rfl ?_) (.cons (k := 1) (.plain rfl ?_) (.cons (k := 2) (.plain rfl ?_) (.cons (k := 3) (.plain rfl ?_) (.cons (k := 4) (.plain rfl ?_) (.cons (k := 5) (.plain rfl ?_) (.cons (k := 6) (.plain rfl ?_) (.nil)))))))
      all_goals intro vals wr hS hd KC hK
      all_goals (show Oper.wp _ _ _ _ _ _; dsimp only)
      · have z0 := (h_ra.below hS).c0
        have z1 := (h_ra.below hS).c1
        have z2 := (h_ra.below hS).c2
        go_simp
        refine hK _ _ rfl (Below.refl _ _) (by first | rfl | simp) (fun h => by cases h)
      · go_simp
        go_at_call 26
        with_reducible refine (rWhole_is 0 (by decide) (by decide) _ cast_zero _).mono ?_
        rintro e w2 ⟨r0, r1, r2, r3, r4, r5, rfl, f0, bn_r⟩
        refine hK _ _ rfl bn_r ⟨_, _, _, _, _, _, rfl, f0⟩ (fun h => by cases h)
      · have d0 : vals 0 = _ := hd 0 (by decide +kernel)
        obtain ⟨A_1_0, n_1_1, n_1_2, A_1_3, n_1_4, n_1_5, d1, h_1_0⟩ := hd 1 (by decide +kernel)
        rw [d0, d1]
        go_simp
        go_at_call 10
        with_reducible refine (rDiv_c (h_a.below hS) h_1_0 (by decide) (by decide) _ _ fW5).mono ?_
        rintro e w2 ⟨r0, r1, r2, r3, r4, r5, rfl, f0, bn_r⟩
        refine hK _ _ rfl bn_r ⟨_, _, _, _, _, _, rfl, f0⟩ (fun h => by cases h)
      · obtain ⟨A_2_0, n_2_1, n_2_2, A_2_3, n_2_4, n_2_5, d2, h_2_0⟩ := hd 2 (by decide +kernel)
        rw [d2]
        go_simp
        refine hK _ _ rfl (Below.refl _ _) ⟨_, _, _, _, _, _, rfl, h_2_0⟩ (fun h => by cases h)
      · obtain ⟨A_3_0, n_3_1, n_3_2, A_3_3, n_3_4, n_3_5, d3, h_3_0⟩ := hd 3 (by decide +kernel)
        rw [d3]
        go_simp
        refine hK _ _ rfl (Below.refl _ _) ⟨_, _, _, _, _, _, rfl, h_3_0⟩ (fun h => by cases h)
      · obtain ⟨A_3_0, n_3_1, n_3_2, A_3_3, n_3_4, n_3_5, d3, h_3_0⟩ := hd 3 (by decide +kernel)
        rw [d3]
        go_simp
        refine hK _ _ rfl (Below.refl _ _) rfl (fun h => by cases h)
      · go_simp
        refine hK _ _ rfl (below_new _ _) ⟨_, rfl, row3_new wr _ _ _ _ , hS.size⟩ (fun _ => ⟨_, rfl, Nat.le_refl _, by rw [World.size_alloc]; omega⟩)
    case hfin17 =>
      intro vals wr hS hP hne
      obtain ⟨A_4_0, n_4_1, n_4_2, A_4_3, n_4_4, n_4_5, ez_4, h_4_0⟩ := hP 4 (by decide)
      have ez_5 : vals 5 = _ := hP 5 (by decide)
      obtain ⟨n_6_0, ez_6, h_6_0, h_6_1⟩ := hP 6 (by decide)
      have hNo := Row3.noLimb h_6_0 (by intro v e; cases e) (by intro v e; cases e) (by intro v e; cases e)
      have v0 := Row3.c0 h_6_0
      have v1 := Row3.c1 h_6_0
      have v2 := Row3.c2 h_6_0
      have y0 := Row3.free h_6_0 0
      have y1 := Row3.free h_6_0 1
      have y2 := Row3.free h_6_0 2
      have h_rf0 := Row3.fill h_6_0 (.bool (sg (oTop none))) (.slice A_4_0 n_4_1 n_4_2) (.slice A_4_3 n_4_4 n_4_5)
      have h_f0 := QQ.fillR3 h_4_0 hNo (.bool (sg (oTop none))) (.slice A_4_0 n_4_1 n_4_2) (.slice A_4_3 n_4_4 n_4_5)
      have bn := below_fill3' hS h_6_1 (.bool (sg (oTop none))) (.slice A_4_0 n_4_1 n_4_2) (.slice A_4_3 n_4_4 n_4_5)
      clear hNo
      try dsimp only
      rw [ez_4, ez_5, ez_6]
      refine wpAny_ready (rs := [7]) (by kernel_rfl) (by simp) (AllReady.cons rfl (fun KC hK => ?_) AllReady.nil)
      go_simp
      refine hK _ _ ?_
      clear hK KC
      refine wpAny_ready (rs := [8]) (by kernel_rfl) (by simp) (AllReady.cons rfl (fun KC hK => ?_) AllReady.nil)
      go_simp
      refine hK _ _ ?_
      clear hK KC
      refine wpAny_done (by kernel_rfl) ?_ _
      generalize ((wr.setCell ⟨n_6_0, 0, none⟩ (.bool (sg (oTop none)))).setCell ⟨n_6_0, 1, none⟩ (.slice A_4_0 n_4_1 n_4_2)).setCell ⟨n_6_0, 2, none⟩ (.slice A_4_3 n_4_4 n_4_5) = w6 at *
      clear v0 v1 v2 y0 y1 y2 hS ez_4 ez_5 ez_6 h_6_0 h_6_1 h_4_0
      obtain ⟨q_f0, A_f0, n_f0, c_f0, B_f0, m_f0, d_f0, eg⟩ : ∃ q A n c B m d, (q, A, n, c, B, m, d) = (n_6_0, A_4_0, n_4_1, n_4_2, A_4_3, n_4_4, n_4_5) := ⟨_, _, _, _, _, _, _, rfl⟩
      injection eg with e1 eg; injection eg with e2 eg; injection eg with e3 eg; injection eg with e4 eg; injection eg with e5 eg; injection eg with e6 e7
      subst e1 e2 e3 e4 e5 e6 e7
      replace h_a := h_a.below bn
      replace h_ra := h_ra.below bn
      replace h_b0 := h_b0.below bn
      replace h_rb0 := h_rb0.below bn
      replace h_b := h_b.below bn
      replace h_rb := h_rb.below bn
      replace bw := below_two bw bn
      clear bn
      have c_a0 := h_ra.c0
      have c_a1 := h_ra.c1
      have c_a2 := h_ra.c2
      go_wp2_with fail
      clear c_a0 c_a1 c_a2
      refine (rMul_c h_a h_a (by decide) (by decide) _ _ fW6).mono ?_
      rintro e w7 ⟨A_c, n_c, c_c, B_c, m_c, d_c, rfl, h_c, bn⟩
      replace h_a := h_a.below bn
      replace h_ra := h_ra.below bn
      replace h_b0 := h_b0.below bn
      replace h_rb0 := h_rb0.below bn
      replace h_b := h_b.below bn
      replace h_rb := h_rb.below bn
      replace h_f0 := h_f0.below bn
      replace h_rf0 := h_rf0.below bn
      replace bw := below_two bw bn
      clear bn
      have h_rc := row3_new w7 27 (.bool (sg (oTop (some wC)))) (.slice A_c n_c c_c) (.slice B_c m_c d_c)
      have bn := below_new w7 (.cells #[Value.bool (sg (oTop (some wC))), Value.slice A_c n_c c_c, Value.slice B_c m_c d_c] 27)
      replace h_a := h_a.below bn
      replace h_ra := h_ra.below bn
      replace h_b0 := h_b0.below bn
      replace h_rb0 := h_rb0.below bn
      replace h_b := h_b.below bn
      replace h_rb := h_rb.below bn
      replace h_f0 := h_f0.below bn
      replace h_rf0 := h_rf0.below bn
      replace h_c := h_c.below bn
      replace bw := below_two bw bn
      clear bn
      have c_a0 := h_ra.c0
      have c_a1 := h_ra.c1
      have c_a2 := h_ra.c2
      go_wp2_with fail
      clear c_a0 c_a1 c_a2
      generalize w7.alloc (.cells #[Value.bool (sg (oTop (some wC))), Value.slice A_c n_c c_c, Value.slice B_c m_c d_c] 27) = w8 at *
      obtain ⟨q_c, eg⟩ : ∃ g, g = w7.heap.size := ⟨_, rfl⟩
      rw [← eg] at h_rc ⊢
      clear eg
      refine (rAdd_c h_a (qt_none _ 0 0) (by decide) (by decide) _ _ fW14).mono ?_
      rintro e w9 ⟨A_j0, n_j0, c_j0, B_j0, m_j0, d_j0, rfl, h_j0, bn⟩
      replace h_a := h_a.below bn
      replace h_ra := h_ra.below bn
      replace h_b0 := h_b0.below bn
      replace h_rb0 := h_rb0.below bn
      replace h_b := h_b.below bn
      replace h_rb := h_rb.below bn
      replace h_f0 := h_f0.below bn
      replace h_rf0 := h_rf0.below bn
      replace h_c := h_c.below bn
      replace h_rc := h_rc.below bn
      replace bw := below_two bw bn
      clear bn
      have h_rj0 := row3_new w9 27 (.bool (sg (oTop none))) (.slice A_j0 n_j0 c_j0) (.slice B_j0 m_j0 d_j0)
      have bn := below_new w9 (.cells #[Value.bool (sg (oTop none)), Value.slice A_j0 n_j0 c_j0, Value.slice B_j0 m_j0 d_j0] 27)
      replace h_a := h_a.below bn
      replace h_ra := h_ra.below bn
      replace h_b0 := h_b0.below bn
      replace h_rb0 := h_rb0.below bn
      replace h_b := h_b.below bn
      replace h_rb := h_rb.below bn
      replace h_f0 := h_f0.below bn
      replace h_rf0 := h_rf0.below bn
      replace h_c := h_c.below bn
      replace h_rc := h_rc.below bn
      replace h_j0 := h_j0.below bn
      replace bw := below_two bw bn
      clear bn
      go_wp2
      generalize w9.alloc (.cells #[Value.bool (sg (oTop none)), Value.slice A_j0 n_j0 c_j0, Value.slice B_j0 m_j0 d_j0] 27) = w10 at *
      obtain ⟨q_j0, eg⟩ : ∃ g, g = w9.heap.size := ⟨_, rfl⟩
      rw [← eg] at h_rj0 ⊢
      clear eg
      generalize w10 = wS at *
      refine region_freeg 68 1 [50, 51, 52, 53, 54, 55, 56, 57, 58, 59, 60, 61, 62, 63, 64, 65, 66, 67, 68, 69, 70, 71, 72, 73, 74, 75, 76, 77, 78, 79, 80, 81, 82, 83, 84, 85, 86, 87, 88, 89, 90, 91, 92, 93, 94, 95, 96, 97, 98, 99, 100, 101, 102, 103, 104, 105, 106, 107, 108, 109, 110, 111, 112, 113, 114, 115, 116, 117] ?aF18 (fun wx => Below wS.heap.size wS wx) (fun k vv wx => match k with
          | 0 => vv = .int .i64 0
          | 1 => vv = .bool true
          | 2 => vv = .bool true
          | 3 => vv = .agg #[.bool (sg (oTop (some wA))), .slice A_a n_a c_a, .slice B_a m_a d_a]
          | 4 => ∃ (e0 : Nat), vv = .slice (some ⟨e0, 0, none⟩) 1 1 ∧ NN wx (some ⟨e0, 0, none⟩) 1 1 [3] (Limb.val [3]) 1
          | 5 => ∃ (e0 : Nat), vv = .agg #[.bool true, .slice (some ⟨e0, 0, none⟩) 1 1] ∧ NN wx (some ⟨e0, 0, none⟩) 1 1 [3] (Limb.val [3]) 1
          | 6 => ∃ (e0 : Nat), vv = .slice (some ⟨e0, 0, none⟩) 1 1 ∧ NN wx (some ⟨e0, 0, none⟩) 1 1 [2] (Limb.val [2]) 1
          | 7 => ∃ (e0 : Nat) (e1 : Nat), vv = .agg #[.bool true, .slice (some ⟨e0, 0, none⟩) 1 1, .slice (some ⟨e1, 0, none⟩) 1 1] ∧ NN wx (some ⟨e0, 0, none⟩) 1 1 [3] (Limb.val [3]) 1 ∧ NN wx (some ⟨e1, 0, none⟩) 1 1 [2] (Limb.val [2]) 1
          | 8 => vv = .bool true
          | 9 => vv = .bool true
          | 10 => vv = .bool true
          | 11 => vv = .int .i64 3
          | 12 => vv = .bool true
          | 13 => vv = .bool true
          | 14 => vv = .bool true
          | 15 => vv = .int .i64 0
          | 16 => vv = .bool true
          | 17 => vv = .bool true
          | 18 => vv = .bool true
          | 19 => vv = .agg #[.bool (sg (oTop (some wB))), .slice A_b n_b c_b, .slice B_b m_b d_b]
          | 20 => ∃ (e0 : Option Addr) (e1 : Nat) (e2 : Nat) (e3 : Option Addr) (e4 : Nat) (e5 : Nat), vv = .agg #[.bool (sg (oTop (some wB))), .slice e0 e1 e2, .slice e3 e4 e5] ∧ QT wx e0 e1 e2 e3 e4 e5 (some wB)
          | 21 => vv = .bool true
          | 22 => vv = .bool true
          | 23 => vv = .bool true
          | 24 => vv = .int .i64 3
          | 25 => vv = .bool true
          | 26 => vv = .bool true
          | 27 => vv = .bool true
          | 28 => vv = .int .i64 0
          | 29 => vv = .bool true
          | 30 => vv = .bool true
          | 31 => vv = .bool true
          | 32 => vv = .agg #[.bool (sg (oTop (some wC))), .slice A_c n_c c_c, .slice B_c m_c d_c]
          | 33 => ∃ (e0 : Option Addr) (e1 : Nat) (e2 : Nat) (e3 : Option Addr) (e4 : Nat) (e5 : Nat), vv = .agg #[.bool (sg (oTop (some wC))), .slice e0 e1 e2, .slice e3 e4 e5] ∧ QT wx e0 e1 e2 e3 e4 e5 (some wC)
          | 34 => vv = .bool true
          | 35 => vv = .bool true
          | 36 => vv = .bool true
          | 37 => vv = .int .i64 1
          | 38 => vv = .bool true
          | 39 => vv = .bool true
          | 40 => vv = .bool true
          | 41 => vv = .agg #[.bool (sg (oTop (some wA))), .slice A_a n_a c_a, .slice B_a m_a d_a]
          | 42 => vv = .agg #[.bool (sg (oTop (some wB))), .slice A_b n_b c_b, .slice B_b m_b d_b]
          | 43 => vv = .int .i64 (-1)
          | 44 => vv = .bool true
          | 45 => vv = .bool true
          | 46 => vv = .bool true
          | 47 => vv = .agg #[.bool (sg (oTop (some wA))), .slice A_a n_a c_a, .slice B_a m_a d_a]
          | 48 => vv = .int .i64 (-1)
          | 49 => vv = .bool true
          | 50 => vv = .bool true
          | 51 => vv = .bool true
          | 52 => vv = .agg #[.bool (sg (oTop (some wA))), .slice A_a n_a c_a, .slice B_a m_a d_a]
          | 53 => vv = .bool true
          | 54 => vv = .bool true
          | 55 => vv = .bool true
          | 56 => ∃ (e0 : Nat), vv = .slice (some ⟨e0, 0, none⟩) 1 1 ∧ NN wx (some ⟨e0, 0, none⟩) 1 1 [2] (Limb.val [2]) 1
          | 57 => ∃ (e0 : Nat), vv = .agg #[.bool false, .slice (some ⟨e0, 0, none⟩) 1 1] ∧ NN wx (some ⟨e0, 0, none⟩) 1 1 [2] (Limb.val [2]) 1
          | 58 => ∃ (e0 : Nat), vv = .slice (some ⟨e0, 0, none⟩) 1 1 ∧ NN wx (some ⟨e0, 0, none⟩) 1 1 [2] (Limb.val [2]) 1
          | 59 => ∃ (e0 : Nat) (e1 : Nat), vv = .agg #[.bool false, .slice (some ⟨e0, 0, none⟩) 1 1, .slice (some ⟨e1, 0, none⟩) 1 1] ∧ NN wx (some ⟨e0, 0, none⟩) 1 1 [2] (Limb.val [2]) 1 ∧ NN wx (some ⟨e1, 0, none⟩) 1 1 [2] (Limb.val [2]) 1
          | 60 => vv = .bool false
          | 61 => vv = .bool true
          | 62 => vv = .bool true
          | 63 => vv = .bool true
          | 64 => vv = .agg #[.bool (sg (oTop (some wA))), .slice A_a n_a c_a, .slice B_a m_a d_a]
          | 65 => vv = .agg #[.bool (sg (oTop (some wA))), .slice A_a n_a c_a, .slice B_a m_a d_a]
          | 66 => vv = .bool true
          | _ => vv = .bool true)
        (fun k => false) (by kernel_rfl) ?haF18 rfl (by kernel_rfl) (by kernel_rfl) (fun _ _ _ _ _ h => h) ?hSb18 ?hPb18 ?hS18 ?hop18 ?hfin18
      case haF18 =>
        intro vals
        simp only [fillAll, List.getElem?_cons_zero, List.getElem?_cons_succ, Act.put, List.setIfInBounds_toArray, List.set_cons_zero, List.set_cons_succ]
        exact rfl
      case hSb18 => exact fun wx w2 hb hS => below_two hS hb
      case hPb18 =>
        intro k v wa wb hb h
        match k, h with
        | 0, h => exact h
        | 1, h => exact h
        | 2, h => exact h
        | 3, h => exact h
        | 4, ⟨e0, h1, g0⟩ => exact ⟨e0, h1, g0.below hb⟩
        | 5, ⟨e0, h1, g0⟩ => exact ⟨e0, h1, g0.below hb⟩
        | 6, ⟨e0, h1, g0⟩ => exact ⟨e0, h1, g0.below hb⟩
        | 7, ⟨e0, e1, h1, g0, g1⟩ => exact ⟨e0, e1, h1, g0.below hb, g1.below hb⟩
        | 8, h => exact h
        | 9, h => exact h
        | 10, h => exact h
        | 11, h => exact h
        | 12, h => exact h
        | 13, h => exact h
        | 14, h => exact h
        | 15, h => exact h
        | 16, h => exact h
        | 17, h => exact h
        | 18, h => exact h
        | 19, h => exact h
        | 20, ⟨e0, e1, e2, e3, e4, e5, h1, g0⟩ => exact ⟨e0, e1, e2, e3, e4, e5, h1, g0.below hb⟩
        | 21, h => exact h
        | 22, h => exact h
        | 23, h => exact h
        | 24, h => exact h
        | 25, h => exact h
        | 26, h => exact h
        | 27, h => exact h
        | 28, h => exact h
        | 29, h => exact h
        | 30, h => exact h
        | 31, h => exact h
        | 32, h => exact h
        | 33, ⟨e0, e1, e2, e3, e4, e5, h1, g0⟩ => exact ⟨e0, e1, e2, e3, e4, e5, h1, g0.below hb⟩
        | 34, h => exact h
        | 35, h => exact h
        | 36, h => exact h
        | 37, h => exact h
        | 38, h => exact h
        | 39, h => exact h
        | 40, h => exact h
        | 41, h => exact h
        | 42, h => exact h
        | 43, h => exact h
        | 44, h => exact h
        | 45, h => exact h
        | 46, h => exact h
        | 47, h => exact h
        | 48, h => exact h
        | 49, h => exact h
        | 50, h => exact h
        | 51, h => exact h
        | 52, h => exact h
        | 53, h => exact h
        | 54, h => exact h
        | 55, h => exact h
        | 56, ⟨e0, h1, g0⟩ => exact ⟨e0, h1, g0.below hb⟩
        | 57, ⟨e0, h1, g0⟩ => exact ⟨e0, h1, g0.below hb⟩
        | 58, ⟨e0, h1, g0⟩ => exact ⟨e0, h1, g0.below hb⟩
        | 59, ⟨e0, e1, h1, g0, g1⟩ => exact ⟨e0, e1, h1, g0.below hb, g1.below hb⟩
        | 60, h => exact h
        | 61, h => exact h
        | 62, h => exact h
        | 63, h => exact h
        | 64, h => exact h
        | 65, h => exact h
        | 66, h => exact h
        | _ + 67, h => exact h
      case hS18 => exact (Below.refl _ _).drew
      case hop18 =>
        refine .cons (k := 0) (.plain rfl ?_) (.cons (k := 1) (.plain rfl ?_) (.cons (k := 2) (.plain rfl ?_) (.cons (k := 3) (.yes (fun vals wr hS hd g b e => by cases e; exact hd 2 (by decide +kernel)) ?_) (.cons (k := 4) (.yes (fun vals wr hS hd g b e => by cases e; exact hd 2 (by decide +kernel)) ?_) (.cons (k := 5) (.yes (fun vals wr hS hd g b e => by cases e; exact hd 2 (by decide +kernel)) ?_) (.cons (k := 6) (.yes (fun vals wr hS hd g b e => by cases e; exact hd 2 (by decide +kernel)) ?_) (.cons (k := 7) (.yes (fun vals wr hS hd g b e => by cases e; exact hd 2 (by decide +kernel)) ?_) (.cons (k := 8) (.yes (fun vals wr hS hd g b e => by cases e; exact hd 2 (by decide +kernel)) ?_) (.cons (k := 9) (.plain rfl ?_) (.cons (k := 10) (.plain rfl ?_) (.cons (k := 11) (.yes (fun vals wr hS hd g b e => by cases e; exact hd 10 (by decide +kernel)) ?_) (.cons (k := 12) (.yes (fun vals wr hS hd g b e => by cases e; exact hd 10 (by decide +kernel)) ?_) (.cons (k := 13) (.plain rfl ?_) (.cons (k := 14) (.plain rfl ?_) (.cons (k := 15) (.yes (fun vals wr hS hd g b e => by cases e; exact hd 14 (by decide +kernel)) ?_) (.cons (k := 16) (.yes (fun vals wr hS hd g b e => by cases e; exact hd 14 (by decide +kernel)) ?_) (.cons (k := 17) (.plain rfl ?_) (.cons (k := 18) (.plain rfl ?_) (.cons (k := 19) (.yes (fun vals wr hS hd g b e => by cases e; exact hd 18 (by decide +kernel)) ?_) (.cons (k := 20) (.yes (fun vals wr hS hd g b e => by cases e; exact hd 18 (by decide +kernel)) ?_) (.cons (k := 21) (.yes (fun vals wr hS hd g b e => by cases e; exact hd 18 (by decide +kernel)) ?_) (.cons (k := 22) (.plain rfl ?_) (.cons (k := 23) (.plain rfl ?_) (.cons (k := 24) (.yes (fun vals wr hS hd g b e => by cases e; exact hd 23 (by decide +kernel)) ?_) (.cons (k := 25) (.yes (fun vals wr hS hd g b e => by cases e; exact hd 23 (by decide +kernel)) ?_) (.cons (k := 26) (.plain rfl ?_) (.cons (k := 27) (.plain rfl ?_) (.cons (k := 28) (.yes (fun vals wr hS hd g b e => by cases e; exact hd 27 (by decide +kernel)) ?_) (.cons (k := 29) (.yes (fun vals wr hS hd g b e => by cases e; exact hd 27 (by decide +kernel)) ?_) (.cons (k := 30) (.plain rfl ?_) (.cons (k := 31) (.plain rfl ?_) (.cons (k := 32) (.yes (fun vals wr hS hd g b e => by cases e; exact hd 31 (by decide +kernel)) ?_) (.cons (k := 33) (.yes (fun vals wr hS hd g b e => by cases e; exact hd 31 (by decide +kernel)) ?_) (.cons (k := 34) (.yes (fun vals wr hS hd g b e => by cases e; exact hd 31 (by decide +kernel)) ?_) (.cons (k := 35) (.plain rfl ?_) (.cons (k := 36) (.plain rfl ?_) (.cons (k := 37) (.yes (fun vals wr hS hd g b e => by cases e; exact hd 36 (by decide +kernel)) ?_) (.cons (k := 38) (.yes (fun vals wr hS hd g b e => by cases e; exact hd 36 (by decide +kernel)) ?_) (.cons (k := 39) (.plain rfl ?_) (.cons (k := 40) (.plain rfl ?_) (.cons (k := 41) (.yes (fun vals wr hS hd g b e => by cases e; exact hd 40 (by decide +kernel)) ?_) (.cons (k := 42) (.yes (fun vals wr hS hd g b e => by cases e; exact hd 40 (by decide +kernel)) ?_) (.cons (k := 43) (.yes (fun vals wr hS hd g b e => by cases e; exact hd 40 (by decide +kernel)) ?_) (.cons (k := 44) (.yes (fun vals wr hS hd g b e => by cases e; exact hd 40 (by decide +kernel)) ?_) (.cons (k := 45) (.plain rfl ?_) (.cons (k := 46) (.plain rfl ?_) (.cons (k := 47) (.yes (fun vals wr hS hd g b e => by cases e; exact hd 46 (by decide +kernel)) ?_) (.cons (k := 48) (.yes (fun vals wr hS hd g b e => by cases e; exact hd 46 (by decide +kernel)) ?_) (.cons (k := 49) (.yes (fun vals wr hS hd g b e => by cases e; exact hd 46 (by decide +kernel)) ?_) (.cons (k := 50) (.plain rfl ?_) (.cons (k := 51) (.plain rfl ?_) (.cons (k := 52) (.yes (fun vals wr hS hd g b e => by cases e; exact hd 51 (by decide +kernel)) ?_) (.cons (k := 53) (.yes (fun vals wr hS hd g b e => by cases e; exact hd 51 (by decide +kernel)) ?_) (.cons (k := 54) (.plain rfl ?_) (.cons (k := 55) (.plain rfl ?_) (.cons (k := 56) (.yes (fun vals wr hS hd g b e => by cases e; exact hd 55 (by decide +kernel)) ?_) (.cons (k := 57) (.yes (fun vals wr hS hd g b e => by cases e; exact hd 55 (by decide +kernel)) ?_) (.cons (k := 58) (.yes (fun vals wr hS hd g b e => by cases e; exact hd 55 (by decide +kernel)) ?_) (.cons (k := 59) (.yes (fun vals wr hS hd g b e => by cases e; exact hd 55 (by decide +kernel)) ?_) (.cons (k := 60) (.yes (fun vals wr hS hd g b e => by cases e; exact hd 55 (by decide +kernel)) ?_) (.cons (k := 61) (.yes (fun vals wr hS hd g b e => by cases e; exact hd 55 (by decide +kernel)) ?_) (.cons (k := 62) (.plain rfl ?_) (.cons (k := 63) (.plain rfl ?_) (.cons (k := 64) (.yes (fun vals wr hS hd g b e => by cases e; exact hd 63 (by decide +kernel)) ?_) (.cons (k := 65) (.yes (fun vals wr hS hd g b e => by cases e; exact hd 63 (by decide +kernel)) ?_) (.cons (k := 66) (.yes (fun vals wr hS hd g b e => by cases e; exact hd 63 (by decide +kernel)) ?_) (.cons (k := 67) (.plain rfl ?_) (.nil))))))))))))))))))))))))))))))))))))))))))))))))))))))))))))))))))))
        all_goals intro vals wr hS hd KC hK
        all_goals (show Oper.wp _ _ _ _ _ _; dsimp only)
        · go_simp
          refine hK _ _ rfl (Below.refl _ _) (by first | rfl | simp) (fun h => by cases h)
        · have d0 : vals 0 = _ := hd 0 (by decide +kernel)
          rw [d0]
          go_simp
          refine hK _ _ rfl (Below.refl _ _) (by first | rfl | simp) (fun h => by cases h)
        · have d1 : vals 1 = _ := hd 1 (by decide +kernel)
          rw [d1]
          go_simp
          refine hK _ _ rfl (Below.refl _ _) (by first | rfl | simp) (fun h => by cases h)
        · have z0 := (h_ra.below hS).c0
          have z1 := (h_ra.below hS).c1
          have z2 := (h_ra.below hS).c2
          go_simp
          refine hK _ _ rfl (Below.refl _ _) (by first | rfl | simp) (fun h => by cases h)
        · go_simp
          refine hK _ _ rfl (below_new _ _) ⟨_, rfl, lit_c wr [3] (by intro x hx; simp at hx; omega) 1 rfl⟩ (fun h => by cases h)
        · obtain ⟨n_4_0, d4, h_4_0⟩ := hd 4 (by decide +kernel)
          rw [d4]
          go_simp
          refine hK _ _ rfl (Below.refl _ _) ⟨_, rfl, h_4_0⟩ (fun h => by cases h)
        · go_simp
          refine hK _ _ rfl (below_new _ _) ⟨_, rfl, lit_c wr [2] (by intro x hx; simp at hx; omega) 1 rfl⟩ (fun h => by cases h)
        · obtain ⟨n_5_0, d5, h_5_0⟩ := hd 5 (by decide +kernel)
          obtain ⟨n_6_0, d6, h_6_0⟩ := hd 6 (by decide +kernel)
          rw [d5, d6]
          go_simp
          refine hK _ _ rfl (Below.refl _ _) ⟨_, _, rfl, h_5_0, h_6_0⟩ (fun h => by cases h)
        · have d3 : vals 3 = _ := hd 3 (by decide +kernel)
          obtain ⟨n_7_0, n_7_1, d7, h_7_0, h_7_1⟩ := hd 7 (by decide +kernel)
          rw [d3, d7]
          go_simp
          go_at_call 15
          with_reducible refine (keepRat_c (h_a.below hS) (qq_bad2 h_7_0 h_7_1) (by decide) (by decide) true fW11).mono ?_
          rintro e w2 ⟨rfl, bn_r⟩
          refine hK _ _ rfl bn_r rfl (fun h => by cases h)
        · have d2 : vals 2 = _ := hd 2 (by decide +kernel)
          have d8 : vals 8 = _ := hd 8 (by decide +kernel)
          rw [d2, d8]
          go_simp
          refine hK _ _ rfl (Below.refl _ _) (by first | rfl | simp) (fun h => by cases h)
        · have d9 : vals 9 = _ := hd 9 (by decide +kernel)
          rw [d9]
          go_simp
          refine hK _ _ rfl (Below.refl _ _) (by first | rfl | simp) (fun h => by cases h)
        · go_simp
          refine hK _ _ rfl (Below.refl _ _) (by first | rfl | simp) (fun h => by cases h)
        · have d11 : vals 11 = _ := hd 11 (by decide +kernel)
          rw [d11]
          go_simp
          refine hK _ _ rfl (Below.refl _ _) (by first | rfl | simp) (fun h => by cases h)
        · have d10 : vals 10 = _ := hd 10 (by decide +kernel)
          have d12 : vals 12 = _ := hd 12 (by decide +kernel)
          rw [d10, d12]
          go_simp
          refine hK _ _ rfl (Below.refl _ _) (by first | rfl | simp) (fun h => by cases h)
        · have d13 : vals 13 = _ := hd 13 (by decide +kernel)
          rw [d13]
          go_simp
          refine hK _ _ rfl (Below.refl _ _) (by first | rfl | simp) (fun h => by cases h)
        · go_simp
          refine hK _ _ rfl (Below.refl _ _) (by first | rfl | simp) (fun h => by cases h)
        · have d15 : vals 15 = _ := hd 15 (by decide +kernel)
          rw [d15]
          go_simp
          refine hK _ _ rfl (Below.refl _ _) (by first | rfl | simp) (fun h => by cases h)
        · have d14 : vals 14 = _ := hd 14 (by decide +kernel)
          have d16 : vals 16 = _ := hd 16 (by decide +kernel)
          rw [d14, d16]
          go_simp
          refine hK _ _ rfl (Below.refl _ _) (by first | rfl | simp) (fun h => by cases h)
        · have d17 : vals 17 = _ := hd 17 (by decide +kernel)
          rw [d17]
          go_simp
          refine hK _ _ rfl (Below.refl _ _) (by first | rfl | simp) (fun h => by cases h)
        · have z0 := (h_rb.below hS).c0
          have z1 := (h_rb.below hS).c1
          have z2 := (h_rb.below hS).c2
          go_simp
          refine hK _ _ rfl (Below.refl _ _) (by first | rfl | simp) (fun h => by cases h)
        · go_simp
          go_at_call 29
          with_reducible refine (by_c (-7) 6 (by decide) (by decide) (by decide) (by decide) _ fW7 _).mono ?_
          rintro e w2 ⟨r0, r1, r2, r3, r4, r5, rfl, f0, bn_r⟩
          refine hK _ _ rfl bn_r ⟨_, _, _, _, _, _, rfl, f0⟩ (fun h => by cases h)
        · have d19 : vals 19 = _ := hd 19 (by decide +kernel)
          obtain ⟨A_20_0, n_20_1, n_20_2, A_20_3, n_20_4, n_20_5, d20, h_20_0⟩ := hd 20 (by decide +kernel)
          rw [d19, d20]
          go_simp
          go_at_call 15
          with_reducible refine (keepRat_c (h_b.below hS) h_20_0 (by decide) (by decide) true (keepQ rfl)).mono ?_
          rintro e w2 ⟨rfl, bn_r⟩
          refine hK _ _ rfl bn_r rfl (fun h => by cases h)
        · have d18 : vals 18 = _ := hd 18 (by decide +kernel)
          have d21 : vals 21 = _ := hd 21 (by decide +kernel)
          rw [d18, d21]
          go_simp
          refine hK _ _ rfl (Below.refl _ _) (by first | rfl | simp) (fun h => by cases h)
        · have d22 : vals 22 = _ := hd 22 (by decide +kernel)
          rw [d22]
          go_simp
          refine hK _ _ rfl (Below.refl _ _) (by first | rfl | simp) (fun h => by cases h)
        · go_simp
          refine hK _ _ rfl (Below.refl _ _) (by first | rfl | simp) (fun h => by cases h)
        · have d24 : vals 24 = _ := hd 24 (by decide +kernel)
          rw [d24]
          go_simp
          refine hK _ _ rfl (Below.refl _ _) (by first | rfl | simp) (fun h => by cases h)
        · have d23 : vals 23 = _ := hd 23 (by decide +kernel)
          have d25 : vals 25 = _ := hd 25 (by decide +kernel)
          rw [d23, d25]
          go_simp
          refine hK _ _ rfl (Below.refl _ _) (by first | rfl | simp) (fun h => by cases h)
        · have d26 : vals 26 = _ := hd 26 (by decide +kernel)
          rw [d26]
          go_simp
          refine hK _ _ rfl (Below.refl _ _) (by first | rfl | simp) (fun h => by cases h)
        · go_simp
          refine hK _ _ rfl (Below.refl _ _) (by first | rfl | simp) (fun h => by cases h)
        · have d28 : vals 28 = _ := hd 28 (by decide +kernel)
          rw [d28]
          go_simp
          refine hK _ _ rfl (Below.refl _ _) (by first | rfl | simp) (fun h => by cases h)
        · have d27 : vals 27 = _ := hd 27 (by decide +kernel)
          have d29 : vals 29 = _ := hd 29 (by decide +kernel)
          rw [d27, d29]
          go_simp
          refine hK _ _ rfl (Below.refl _ _) (by first | rfl | simp) (fun h => by cases h)
        · have d30 : vals 30 = _ := hd 30 (by decide +kernel)
          rw [d30]
          go_simp
          refine hK _ _ rfl (Below.refl _ _) (by first | rfl | simp) (fun h => by cases h)
        · have z0 := (h_rc.below hS).c0
          have z1 := (h_rc.below hS).c1
          have z2 := (h_rc.below hS).c2
          go_simp
          refine hK _ _ rfl (Below.refl _ _) (by first | rfl | simp) (fun h => by cases h)
        · go_simp
          go_at_call 29
          with_reducible refine (by_c 9 4 (by decide) (by decide) (by decide) (by decide) _ fW8 _).mono ?_
          rintro e w2 ⟨r0, r1, r2, r3, r4, r5, rfl, f0, bn_r⟩
          refine hK _ _ rfl bn_r ⟨_, _, _, _, _, _, rfl, f0⟩ (fun h => by cases h)
        · have d32 : vals 32 = _ := hd 32 (by decide +kernel)
          obtain ⟨A_33_0, n_33_1, n_33_2, A_33_3, n_33_4, n_33_5, d33, h_33_0⟩ := hd 33 (by decide +kernel)
          rw [d32, d33]
          go_simp
          go_at_call 15
          with_reducible refine (keepRat_c (h_c.below hS) h_33_0 (by decide) (by decide) true (keepQ rfl)).mono ?_
          rintro e w2 ⟨rfl, bn_r⟩
          refine hK _ _ rfl bn_r rfl (fun h => by cases h)
        · have d31 : vals 31 = _ := hd 31 (by decide +kernel)
          have d34 : vals 34 = _ := hd 34 (by decide +kernel)
          rw [d31, d34]
          go_simp
          refine hK _ _ rfl (Below.refl _ _) (by first | rfl | simp) (fun h => by cases h)
        · have d35 : vals 35 = _ := hd 35 (by decide +kernel)
          rw [d35]
          go_simp
          refine hK _ _ rfl (Below.refl _ _) (by first | rfl | simp) (fun h => by cases h)
        · go_simp
          refine hK _ _ rfl (Below.refl _ _) (by first | rfl | simp) (fun h => by cases h)
        · have d37 : vals 37 = _ := hd 37 (by decide +kernel)
          rw [d37]
          go_simp
          refine hK _ _ rfl (Below.refl _ _) (by first | rfl | simp) (fun h => by cases h)
        · have d36 : vals 36 = _ := hd 36 (by decide +kernel)
          have d38 : vals 38 = _ := hd 38 (by decide +kernel)
          rw [d36, d38]
          go_simp
          refine hK _ _ rfl (Below.refl _ _) (by first | rfl | simp) (fun h => by cases h)
        · have d39 : vals 39 = _ := hd 39 (by decide +kernel)
          rw [d39]
          go_simp
          refine hK _ _ rfl (Below.refl _ _) (by first | rfl | simp) (fun h => by cases h)
        · have z0 := (h_ra.below hS).c0
          have z1 := (h_ra.below hS).c1
          have z2 := (h_ra.below hS).c2
          go_simp
          refine hK _ _ rfl (Below.refl _ _) (by first | rfl | simp) (fun h => by cases h)
        · have z0 := (h_rb.below hS).c0
          have z1 := (h_rb.below hS).c1
          have z2 := (h_rb.below hS).c2
          go_simp
          refine hK _ _ rfl (Below.refl _ _) (by first | rfl | simp) (fun h => by cases h)
        · have d41 : vals 41 = _ := hd 41 (by decide +kernel)
          have d42 : vals 42 = _ := hd 42 (by decide +kernel)
          rw [d41, d42]
          go_simp
          go_at_call 18
          with_reducible refine (rCmp_c (h_a.below hS) (h_b.below hS) (by decide) (by decide) (-1) fW9).mono ?_
          rintro e w2 ⟨rfl, bn_r⟩
          refine hK _ _ rfl bn_r rfl (fun h => by cases h)
        · have d43 : vals 43 = _ := hd 43 (by decide +kernel)
          rw [d43]
          go_simp
          refine hK _ _ rfl (Below.refl _ _) (by first | rfl | simp) (fun h => by cases h)
        · have d40 : vals 40 = _ := hd 40 (by decide +kernel)
          have d44 : vals 44 = _ := hd 44 (by decide +kernel)
          rw [d40, d44]
          go_simp
          refine hK _ _ rfl (Below.refl _ _) (by first | rfl | simp) (fun h => by cases h)
        · have d45 : vals 45 = _ := hd 45 (by decide +kernel)
          rw [d45]
          go_simp
          refine hK _ _ rfl (Below.refl _ _) (by first | rfl | simp) (fun h => by cases h)
        · have z0 := (h_ra.below hS).c0
          have z1 := (h_ra.below hS).c1
          have z2 := (h_ra.below hS).c2
          go_simp
          refine hK _ _ rfl (Below.refl _ _) (by first | rfl | simp) (fun h => by cases h)
        · have d47 : vals 47 = _ := hd 47 (by decide +kernel)
          rw [d47]
          go_simp
          go_at_call 20
          with_reducible refine (rSign_c (h_a.below hS) (by decide) (-1) fW10).mono ?_
          rintro e w2 ⟨rfl, bn_r⟩
          refine hK _ _ rfl bn_r rfl (fun h => by cases h)
        · have d48 : vals 48 = _ := hd 48 (by decide +kernel)
          rw [d48]
          go_simp
          refine hK _ _ rfl (Below.refl _ _) (by first | rfl | simp) (fun h => by cases h)
        · have d46 : vals 46 = _ := hd 46 (by decide +kernel)
          have d49 : vals 49 = _ := hd 49 (by decide +kernel)
          rw [d46, d49]
          go_simp
          refine hK _ _ rfl (Below.refl _ _) (by first | rfl | simp) (fun h => by cases h)
        · have d50 : vals 50 = _ := hd 50 (by decide +kernel)
          rw [d50]
          go_simp
          refine hK _ _ rfl (Below.refl _ _) (by first | rfl | simp) (fun h => by cases h)
        · have z0 := (h_ra.below hS).c0
          have z1 := (h_ra.below hS).c1
          have z2 := (h_ra.below hS).c2
          go_simp
          refine hK _ _ rfl (Below.refl _ _) (by first | rfl | simp) (fun h => by cases h)
        · have d52 : vals 52 = _ := hd 52 (by decide +kernel)
          rw [d52]
          go_simp
          go_at_call 16
          with_reducible refine (rGood_c (h_a.below hS) (by decide) true rfl).mono ?_
          rintro e w2 ⟨rfl, bn_r⟩
          refine hK _ _ rfl bn_r rfl (fun h => by cases h)
        · have d51 : vals 51 = _ := hd 51 (by decide +kernel)
          have d53 : vals 53 = _ := hd 53 (by decide +kernel)
          rw [d51, d53]
          go_simp
          refine hK _ _ rfl (Below.refl _ _) (by first | rfl | simp) (fun h => by cases h)
        · have d54 : vals 54 = _ := hd 54 (by decide +kernel)
          rw [d54]
          go_simp
          refine hK _ _ rfl (Below.refl _ _) (by first | rfl | simp) (fun h => by cases h)
        · go_simp
          refine hK _ _ rfl (below_new _ _) ⟨_, rfl, lit_c wr [2] (by intro x hx; simp at hx; omega) 1 rfl⟩ (fun h => by cases h)
        · obtain ⟨n_56_0, d56, h_56_0⟩ := hd 56 (by decide +kernel)
          rw [d56]
          go_simp
          refine hK _ _ rfl (Below.refl _ _) ⟨_, rfl, h_56_0⟩ (fun h => by cases h)
        · go_simp
          refine hK _ _ rfl (below_new _ _) ⟨_, rfl, lit_c wr [2] (by intro x hx; simp at hx; omega) 1 rfl⟩ (fun h => by cases h)
        · obtain ⟨n_57_0, d57, h_57_0⟩ := hd 57 (by decide +kernel)
          obtain ⟨n_58_0, d58, h_58_0⟩ := hd 58 (by decide +kernel)
          rw [d57, d58]
          go_simp
          refine hK _ _ rfl (Below.refl _ _) ⟨_, _, rfl, h_57_0, h_58_0⟩ (fun h => by cases h)
        · obtain ⟨n_59_0, n_59_1, d59, h_59_0, h_59_1⟩ := hd 59 (by decide +kernel)
          rw [d59]
          go_simp
          go_at_call 16
          with_reducible refine (rGood_c (qq_bad h_59_0 h_59_1 (by decide) (by decide) fW12) (by decide) false rfl).mono ?_
          rintro e w2 ⟨rfl, bn_r⟩
          refine hK _ _ rfl bn_r rfl (fun h => by cases h)
        · have d60 : vals 60 = _ := hd 60 (by decide +kernel)
          rw [d60]
          go_simp
          refine hK _ _ rfl (Below.refl _ _) (by first | rfl | simp) (fun h => by cases h)
        · have d55 : vals 55 = _ := hd 55 (by decide +kernel)
          have d61 : vals 61 = _ := hd 61 (by decide +kernel)
          rw [d55, d61]
          go_simp
          refine hK _ _ rfl (Below.refl _ _) (by first | rfl | simp) (fun h => by cases h)
        · have d62 : vals 62 = _ := hd 62 (by decide +kernel)
          rw [d62]
          go_simp
          refine hK _ _ rfl (Below.refl _ _) (by first | rfl | simp) (fun h => by cases h)
        · have z0 := (h_ra.below hS).c0
          have z1 := (h_ra.below hS).c1
          have z2 := (h_ra.below hS).c2
          go_simp
          refine hK _ _ rfl (Below.refl _ _) (by first | rfl | simp) (fun h => by cases h)
        · have z0 := (h_ra.below hS).c0
          have z1 := (h_ra.below hS).c1
          have z2 := (h_ra.below hS).c2
          go_simp
          refine hK _ _ rfl (Below.refl _ _) (by first | rfl | simp) (fun h => by cases h)
        · have d64 : vals 64 = _ := hd 64 (by decide +kernel)
          have d65 : vals 65 = _ := hd 65 (by decide +kernel)
          rw [d64, d65]
          go_simp
          go_at_call 24
          with_reducible refine (rSame_c (h_a.below hS) (h_a.below hS) (by decide) (by decide) true fW13).mono ?_
          rintro e w2 ⟨rfl, bn_r⟩
          refine hK _ _ rfl bn_r rfl (fun h => by cases h)
        · have d63 : vals 63 = _ := hd 63 (by decide +kernel)
          have d66 : vals 66 = _ := hd 66 (by decide +kernel)
          rw [d63, d66]
          go_simp
          refine hK _ _ rfl (Below.refl _ _) (by first | rfl | simp) (fun h => by cases h)
      case hfin18 =>
        intro vals wr hS hP hne
        have ez_67 : vals 67 = _ := hP 67 (by decide)
        have HB := Lib.hid (below_two bw hS)
        try dsimp only
        rw [ez_67]
        refine wpAny_ready (rs := [68]) (by kernel_rfl) (by simp) (AllReady.cons rfl (fun KC hK => ?_) AllReady.nil)
        go_simp
        refine hK _ _ ?_
        clear hK KC
        refine wpAny_done (by kernel_rfl) ?_ _
        go_wp2
        go_ret
        exact ⟨rfl, HB.out⟩

end Go.Proofs.YtohciicocaoagaaGreat
