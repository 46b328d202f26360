/- Of any three dimensions of small exponents: products are the same both ways, in whatever brackets, a quotient brings back, powers go with sums of exponents. Condition: the variables that the row lists read as listed. -/
import Derived.Test.YtbljphnfijiciaaDoorM3
import Derived.Test.YtbljphnfijiciaaDoorCards
import Derived.Test.YtbljphnfijiciaaDoorTie
import Derived.ChangeMaps5
import Derived.Lay
import Derived.SevenTiedAt
/- Regions that leave their order open, stores among their operations: one law by an invariant over what has come up, whatever the order; what may happen to the world is a relation of one's own. Of any program; no condition. -/
namespace Go.Proofs.YtbljphnfijiciaaDoor
open Go.RowKit Limb
set_option linter.unusedVariables false
def dAt : List (Option Tmp) → Nat → Option Tmp
 | [], _ => none
 | d :: _, 0 => d
 | _ :: r, k + 1 => dAt r k
def slotV (d : Option Tmp) (a : Act) : Value := match d with
 | some t => a.eval (.tmp t)
 | none => undef
section
variable {P : Program} {Q : Exit → Act → World → Prop}
def okAtR (ops : Array Oper) (m : Nat) (ds : List (Option Tmp)) (N : Nat) (i : Nat) : Bool :=
 match ops[i]? with
 | none => false
 | some o => o.dst == dAt ds i && (match dAt ds i with | some d => decide (d < N) | none => true) && o.guard.isNone && isPlain o.op && (afters ops i).all (fun e => decide (e < i)) &&
  (List.range m).all (fun k => k == i || (dAt ds i).isNone || dAt ds k != dAt ds i) &&
  o.op.operands.toList.all (fun x => match x with
   | .tmp t => (List.range m).all fun k => dAt ds k != some t || (afters ops i).contains k
   | _ => true)
theorem okAtR_spec {ops : Array Oper} {m : Nat} {ds : List (Option Tmp)} {N i : Nat} (h : okAtR ops m ds N i = true) :
 ∃ o, ops[i]? = some o ∧ o.dst = dAt ds i ∧ (∀ d, dAt ds i = some d → d < N) ∧ o.guard = none ∧ (∀ cs b, o.op ≠ .select cs b) ∧ (∀ e ∈ afters ops i, e < i) ∧
  (∀ k, k < m → k ≠ i → ∀ d, dAt ds i = some d → dAt ds k ≠ some d) ∧ (∀ x ∈ o.op.operands, ∀ t, x = .tmp t → ∀ k, k < m → dAt ds k = some t → k ∈ afters ops i) := by
 unfold okAtR at h
 cases ho : ops[i]? with
 | none => rw [ho] at h; cases h
 | some o =>
  rw [ho] at h
  simp only [Bool.and_eq_true, beq_iff_eq, decide_eq_true_eq, List.all_eq_true, Bool.or_eq_true, bne_iff_ne, List.mem_range, Option.isNone_iff_eq_none] at h
  obtain ⟨⟨⟨⟨⟨⟨h1, h3⟩, h4⟩, h5⟩, h6⟩, h7⟩, h8⟩ := h
  refine ⟨o, rfl, h1, fun d hd => ?_, h4, ?_, h6, fun k hk hne d hd hkd => ?_, ?_⟩
  · rw [hd] at h3; simpa using h3
  · intro cs b he
    rw [he] at h5
    cases h5
  · rcases h7 k hk with (h9 | h9) | h9
    · exact hne h9
    · rw [hd] at h9; cases h9
    · exact h9 (hkd.trans hd.symm)
  · rintro x hx t rfl k hk hd
    have := h8 _ (by simpa using hx)
    simp only [List.all_eq_true, List.mem_range, Bool.or_eq_true, bne_iff_ne, List.contains_iff_mem] at this
    exact (this k hk).resolve_left fun h => h hd
def FreeStepR (P : Program) (Q : Exit → Act → World → Prop) (ops : Array Oper) (ds : List (Option Tmp)) (aF : (Nat → Value) → Act) (R : World → World → Prop) (S : World → Prop) (Φ : Nat → Value → World → Prop) (i : Nat) (o : Oper) : Prop :=
 ∀ (vals : Nat → Value) (w : World), S w → (∀ e ∈ afters ops i, Φ e (vals e) w) → ∀ K : Act → World → Prop,
  (∀ a' w', a'.defers = (aF vals).defers → R w w' → Φ i (slotV (dAt ds i) a') w' → K a' w') → o.wp P (aF vals) w K Q
theorem region_freeR {id : Nat} {a : Act} {w : World} {os : List Oper} (m : Nat) (ds : List (Option Tmp)) (aF : (Nat → Value) → Act) (R : World → World → Prop) (S : World → Prop) (Φ : Nat → Value → World → Prop)
 (hm : P.follows .mixedOrders = true)
 (haF : ∀ vals, fillAll (dAt ds) vals a m = aF vals)
 (hr : os.length = m)
 (hok : (List.range m).all (okAtR os.toArray m ds a.tmps.size) = true)
 (hQ : ∀ c (t t' : Array Value) (d : List Deferred) w, Q (.panic c) ⟨t, d⟩ w → Q (.panic c) ⟨t', d⟩ w)
 (hSb : ∀ w w', R w w' → S w → S w')
 (hΦb : ∀ k v w w', R w w' → S w → Φ k v w → Φ k v w')
 (hS : S w.drew)
 (hop : AllAt (FreeStepR P Q os.toArray ds aF R S Φ) 0 os m)
 (hfin : ∀ (vals : Nat → Value) (w : World), S w → (∀ k, k < m → Φ k (vals k) w) → wpAny P .any os.toArray Q 0 (firsts m m) (aF vals) w) :
 (Code.region id os.toArray true).wp P Q a w := by
 generalize hops : os.toArray = ops at *
 have hsz0 : ops.size = m := by rw [← hops]; simpa using hr
 have hle : m ≤ ops.size := by omega
 replace hop : ∀ i, i < m → ∀ o, ops[i]? = some o → FreeStepR P Q ops ds aF R S Φ i o := fun i hi o ho => by
  have := hop.at i hi o (by rw [← hops] at ho; simpa using ho)
  rwa [Nat.zero_add] at this
 replace hfin : ∀ (vals : Nat → Value) (w : World), S w → (∀ k, k < m → Φ k (vals k) w) →
  ∀ l : Array Bool, l.size = ops.size → (∀ k, l.getD k false = decide (k < m)) → wpAny P .any ops Q (ops.size - m) l (aF vals) w := fun vals w h1 h2 l h4 h5 => by
  rw [firsts_eq (h4.trans hsz0) (by omega) h5, show ops.size - m = 0 by omega]
  exact hfin vals w h1 h2
 replace hQ : ∀ c (a a' : Act) w, a.defers = a'.defers → Q (.panic c) a w → Q (.panic c) a' w := by
  rintro c ⟨t, d⟩ ⟨t', d'⟩ w he h
  obtain rfl : d = d' := he
  exact hQ c t t' d w h
 refine wp_region_any hm ?_
 have hat : ∀ i, i < m → okAtR ops m ds a.tmps.size i = true := fun i hi => List.all_eq_true.1 hok i (List.mem_range.2 hi)
 have hfr : ∀ (l : Array Bool), l = Array.replicate ops.size false → ∀ k, l.getD k false = false := by
  rintro l rfl k
  simp only [Array.getD_eq_getD_getElem?, Array.getElem?_replicate]
  split <;> rfl
 let J : Array Bool → Act → World → Prop := fun l a' w' => (l.size = ops.size ∧ ∀ k, m ≤ k → l.getD k false = false) ∧ S w' ∧ (∀ k, k < m → l.getD k false = true → ∀ e ∈ afters ops k, l.getD e false = true) ∧
  ∃ vals, a' = fill (dAt ds) vals l a m ∧ (∀ k, k < m → l.getD k false = true → Φ k (vals k) w')
 have hz : ∀ j, j ≤ m → left (Array.replicate ops.size false) j = j := fun j => by
  induction j with
  | zero => exact fun _ => rfl
  | succ j ihj => exact fun h => by unfold left; rw [ihj (by omega), hfr _ rfl j]; rfl
 have key := wpAny_inv (P := P) (ops := ops) (Q := Q) (md := .any) m J (fun l a' w' hj => hj.1) hle (fun i o h1 ho e he hb => ?hback) (fun l a' w' i hj hi h1 => ?hstep) (fun l a' w' i hj hi h1 k hk => ?hwait) (fun l a' w' hj hall => ?hfin)
  m (Array.replicate ops.size false) a w.drew (hz m (Nat.le_refl _)) ⟨⟨by simp, fun k _ => hfr _ rfl k⟩, hS, fun k _ h => (by rw [hfr _ rfl k] at h; cases h),
   fun _ => undef, (fill_none fun k _ => hfr _ rfl k).symm, fun k _ h => (by rw [hfr _ rfl k] at h; cases h)⟩
 · have e : ops.size - m + m = ops.size := by omega
   rw [e] at key
   exact key
 case hback =>
  obtain ⟨_, _, _, _, _, _, hlow, _, _⟩ := okAtR_spec (hat i h1)
  refine hlow e.on ?_
  unfold afters
  rw [ho]
  exact List.mem_map.2 ⟨e, List.mem_filter.2 ⟨by simpa using he, hb⟩, rfl⟩
 case hwait =>
  have hlt : i < ops.size := by
   obtain ⟨_, o, ho, _⟩ := mem_ready.1 hi
   exact (Array.getElem?_eq_some_iff.1 ho).1
  omega
 case hfin =>
  obtain ⟨⟨hs, hl⟩, hSw, _, vals, rfl, hv⟩ := hj
  rw [fill_all hall, haF]
  refine hfin vals w' hSw (fun k hk => hv k hk (hall k hk)) l hs fun k => ?_
  rcases Nat.lt_or_ge k m with h | h
  · rw [hall k h, decide_eq_true h]
  · rw [hl k h, decide_eq_false (by omega)]
 case hstep =>
  obtain ⟨⟨hs, hl⟩, hSw, hdn, vals, rfl, hv⟩ := hj
  obtain ⟨o, ho, hdst, hlt, hg, hsel, hlow, hdist, hops⟩ := okAtR_spec (hat i h1)
  have hu : l.getD i false = false := by
   have h2 := (mem_ready.1 hi).1
   have h3 : i < l.size := by omega
   simp only [Array.getD_eq_getD_getElem?] at h2 ⊢
   rw [Array.getElem?_eq_getElem h3] at h2 ⊢
   simpa using h2
  have hdep : ∀ e ∈ afters ops i, l.getD e false = true := fun e he => ready_after hi he
  have heval : ∀ x ∈ o.op.operands, (fill (dAt ds) vals l a m).eval x = (aF vals).eval x := fun x hx => by
   rw [← haF vals]
   exact fill_eval fun k hk hk2 d hd hxd => by
    rw [hdep k (hops x hx d hxd k hk hd)] at hk2
    cases hk2
  have hrun := hop i h1 o ho vals w' hSw (fun e he => hv e (by have := hlow e he; omega) (hdep e he))
   (fun a2 w2 => a2.defers = (aF vals).defers ∧ R w' w2 ∧ Φ i (slotV (dAt ds i) a2) w2)
   (fun a2 w2 h1 h2 h3 => ⟨h1, h2, h3⟩)
  have next : ∀ v v' w2, R w' w2 → Φ i v w2 → (dAt ds i ≠ none → v = v') →
   J (l.setIfInBounds i true) ((fill (dAt ds) vals l a m).put o.dst v') w2 := fun v v' w2 hb hphi hvv => by
   have hne : ∀ k, k ≠ i → (l.setIfInBounds i true).getD k false = l.getD k false := fun k hk => getD_other (Ne.symm hk) _
   refine ⟨⟨by simpa using hs, fun k hk => by rw [hne k (by omega)]; exact hl k hk⟩, hSb _ _ hb hSw, fun k hk hk2 e he => ?_, upd vals i v, ?_, fun k hk hk2 => ?_⟩
   · by_cases hki : k = i
     · subst hki
       rw [hne e (by have := hlow e he; omega)]
       exact hdep e he
     · rw [hne k hki] at hk2
       by_cases hei : e = i
       · subst hei
         exact getD_same (by omega) _
       · rw [hne e hei]
         exact hdn k hk hk2 e he
   · rw [hdst]
     have h4 := fill_set (D := dAt ds) (vals := vals) (l := l) (a := a) (i := i) (v := v) (by omega) hu h1 fun j hj hji d hd hdi2 => hdist j hj hji d hdi2 hd
     rw [← h4]
     cases hd : dAt ds i with
     | none => rfl
     | some d => rw [hvv (by rw [hd]; simp)]
   · by_cases hki : k = i
     · subst hki
       rw [show upd vals k v k = v from if_pos rfl]
       exact hphi
     · rw [hne k hki] at hk2
       rw [show upd vals i v k = vals k from if_neg hki]
       exact hΦb _ _ _ _ hb hSw (hv k hk hk2)
  unfold wpOp
  rw [ho]
  simp only []
  rw [if_pos (by unfold Region.wanted; rw [hg])]
  refine .inl ?_
  unfold Oper.wp at hrun ⊢
  rw [execOp_congr o hsel heval]
  generalize (execOp (aF vals).eval o).run P w' = r at hrun ⊢
  have hdef : (aF vals).defers = (fill (dAt ds) vals l a m).defers := by rw [← haF vals, fillAll_defers, fill_defers]
  have hput : ∀ v, dAt ds i ≠ none → slotV (dAt ds i) ((aF vals).put o.dst v) = v := fun v hd => by
   rw [hdst]
   cases hq : dAt ds i with
   | none => exact absurd hq hd
   | some d => exact put_same _ _ _ (by rw [← haF vals, fillAll_size]; exact hlt d hq)
  cases r with
  | ok n w2 =>
   cases n <;> simp only [Oper.upon] at hrun ⊢
   case value v => exact next _ _ _ hrun.2.1 hrun.2.2 (hput v)
   case skip => exact next _ _ _ hrun.2.1 hrun.2.2 (hput _)
   case defer d =>
    exfalso
    have := hrun.1
    rw [put_defers2] at this
    have := congrArg List.length this
    simp at this
   case enter f args =>
    refine Calls.mono hrun fun e w3 he => ?_
    cases e with
    | returned v => simp only at he ⊢; exact next _ _ _ he.2.1 he.2.2 (hput v)
    | panicked c => exact hQ _ _ _ _ hdef he
    | outgrown => exact he
   case row r args =>
    refine Rows.mono hrun fun v w3 he => ?_
    exact next _ _ _ he.2.1 he.2.2 (hput v)
  | halt x w2 =>
   cases x <;> simp only [Oper.upon] at hrun ⊢ <;> exact hQ _ _ _ _ hdef hrun
end
/-! Stores of single cells into blocks of the call's own: rows: the block, what it held, what it will hold. -/
def StR (T : TypeId) (rows : List (Nat × Array Value × Array Value)) (wx wy : World) : Prop :=
 wy.os = wx.os ∧ wy.tape = wx.tape ∧ wy.output = wx.output ∧ wx.heap.size ≤ wy.heap.size ∧ (∀ g, (∀ r ∈ rows, r.1 ≠ g) → wy.heap[g]? = wx.heap[g]?) ∧
  ∀ r ∈ rows, ∀ V, RowA wx r.1 T V → RowA wy r.1 T V ∨ RowA wy r.1 T r.2.2
def StS (T : TypeId) (rows : List (Nat × Array Value × Array Value)) (w0 wS wx : World) : Prop :=
 Below w0.heap.size w0 wx ∧ (∀ r ∈ rows, w0.heap.size ≤ r.1) ∧ (∀ g, (∀ r ∈ rows, r.1 ≠ g) → wx.heap[g]? = wS.heap[g]?) ∧ ∀ r ∈ rows, RowA wx r.1 T r.2.1 ∨ RowA wx r.1 T r.2.2
section
variable {T : TypeId} {rows : List (Nat × Array Value × Array Value)} {w0 wS wx wy : World}
theorem StR.refl (wx : World) : StR T rows wx wx := ⟨rfl, rfl, rfl, Nat.le_refl _, fun _ _ => rfl, fun _ _ _ h => .inl h⟩
theorem StS.step (h : StR T rows wx wy) (k : StS T rows w0 wS wx) : StS T rows w0 wS wy := by
 obtain ⟨h1, h2, h3, h4, h5, h6⟩ := h
 obtain ⟨k1, k2, k3, k4⟩ := k
 refine ⟨k1.trans ⟨h1, h2, h3, h4, fun g hg => h5 g fun r hr e => ?_⟩, k2, fun g hg => (h5 g hg).trans (k3 g hg), fun r hr => ?_⟩
 · have := k2 r hr; omega
 · rcases k4 r hr with h | h
   · exact h6 r hr _ h
   · rcases h6 r hr _ h with h | h <;> exact .inr h
theorem StS.start (hb : Below w0.heap.size w0 wS) (hg : ∀ r ∈ rows, w0.heap.size ≤ r.1) (hr : ∀ r ∈ rows, RowA wS r.1 T r.2.1) : StS T rows w0 wS wS.drew := ⟨hb.drew, hg, fun _ _ => rfl, fun r h => .inl (hr r h)⟩
theorem StR.kept (h : StR T rows wx wy) {r : Nat × Array Value × Array Value} (hr : r ∈ rows) (k : RowA wx r.1 T r.2.2) : RowA wy r.1 T r.2.2 := by
 rcases h.2.2.2.2.2 r hr _ k with h | h <;> exact h
theorem StS.row {g : Nat} {U : TypeId} {V : Array Value} (h : StS T rows w0 wS wx) (hg : ∀ r ∈ rows, r.1 ≠ g) (k : RowA wS g U V) : RowA wx g U V := (h.2.2.1 g hg).trans k
theorem StS.here (h : StS T rows w0 wS wx) {r : Nat × Array Value × Array Value} (hr : r ∈ rows) (k : Nat) : (∃ v, r.2.1[k]? = some v) → (∃ v, r.2.2[k]? = some v) → ∃ v, wx.cell? ⟨r.1, k, none⟩ = some v := by
 rintro ⟨v, h1⟩ ⟨u, h2⟩
 rcases h.2.2.2 r hr with h3 | h3
 · exact ⟨v, h3.cell h1⟩
 · exact ⟨u, h3.cell h2⟩
theorem StS.free (h : StS T rows w0 wS wx) {r : Nat × Array Value × Array Value} (hr : r ∈ rows) (k : Nat) : wx.frozen? ⟨r.1, k, none⟩ = false := by
 rcases h.2.2.2 r hr with h3 | h3 <;> exact h3.free k
theorem StS.store (h : StS T rows w0 wS wx) {r : Nat × Array Value × Array Value} (hr : r ∈ rows) (hd : ∀ s ∈ rows, s ≠ r → s.1 ≠ r.1) {k : Nat} {v : Value} (h1 : r.2.1.setIfInBounds k v = r.2.2) (h2 : r.2.2.setIfInBounds k v = r.2.2) :
 StR T rows wx (wx.setCell ⟨r.1, k, none⟩ v) ∧ RowA (wx.setCell ⟨r.1, k, none⟩ v) r.1 T r.2.2 := by
 have hN : RowA (wx.setCell ⟨r.1, k, none⟩ v) r.1 T r.2.2 := by
  rcases h.2.2.2 r hr with h3 | h3
  · have h4 := h3.set k v; rwa [h1] at h4
  · have h4 := h3.set k v; rwa [h2] at h4
 refine ⟨⟨rfl, rfl, rfl, by simp [World.setCell], fun g hg => heap_setCell_other _ _ _ _ (fun e => hg r hr e.symm), fun s hs V hV => ?_⟩, hN⟩
 by_cases e : s = r
 · subst e; exact .inr hN
 · exact .inl (hV.far (hd s hs e).symm k v)
end
end Go.Proofs.YtbljphnfijiciaaDoor

/- Of any three dimensions of small exponents: products are the same both ways, in whatever brackets, a quotient brings back, powers go with sums of exponents. Condition: the variables that the row lists read as listed. -/
namespace Go.Proofs.YtbljphnfijiciaaDoor.lawDimGroup
open Go.ChangeShapes Go.WideShapes Go.ChangeAt Go.RowKit Limb
set_option linter.unusedVariables false
theorem i64_wf {xs : List Int} (h : ∀ x ∈ xs, (Lit.int .i64 x).wf = true) : I64 xs := fun x hx => by
 have := h x hx
 have e1 : IntKind.i64.min = -9223372036854775808 := rfl
 have e2 : IntKind.i64.max = 9223372036854775807 := rfl
 simp only [Lit.wf, Bool.and_eq_true, decide_eq_true_eq] at this
 omega
def modE (xs : List Int) : List Int := xs.map fun v => v.tmod 30
def modTo (xs : List Int) (i : Nat) : List Int := (modE xs).take i ++ dim0.drop i
theorem len_modE {xs : List Int} (h : xs.length = 7) : (modE xs).length = 7 := by unfold modE; rw [List.length_map, h]
theorem len_modTo {xs : List Int} {i : Nat} (h : xs.length = 7) (hi : i ≤ 7) : (modTo xs i).length = 7 := by
 unfold modTo
 rw [List.length_append, List.length_take, len_modE h, List.length_drop, show dim0.length = 7 from rfl]; omega
theorem modTo_zero {xs : List Int} : modTo xs 0 = dim0 := by simp [modTo]
theorem modTo_all {xs : List Int} (h : xs.length = 7) : modTo xs 7 = modE xs := by
 unfold modTo
 rw [List.take_of_length_le (by rw [len_modE h]; decide), List.drop_of_length_le (by decide), List.append_nil]
theorem modTo_step {xs : List Int} {i : Nat} (h : xs.length = 7) (hi : i < 7) : (modTo xs i).set i ((xs.getD i 0).tmod 30) = modTo xs (i + 1) := by
 have hl : i < (modE xs).length := by rw [len_modE h]; exact hi
 have e : (modE xs)[i] = (xs.getD i 0).tmod 30 := by
  have e2 : (modE xs)[i]? = some ((xs.getD i 0).tmod 30) := by
   unfold modE
   rw [List.getElem?_map, List.getD_eq_getElem?_getD, List.getElem?_eq_getElem (show i < xs.length by omega)]
   rfl
  rw [List.getElem?_eq_getElem hl] at e2
  exact Option.some.inj e2
 have hd : i < dim0.length := by show i < 7; exact hi
 unfold modTo
 rw [List.take_succ_eq_append_getElem hl, List.set_append_right _ _ (by rw [List.length_take]; omega), List.append_assoc, e]
 congr 1
 rw [List.length_take, Nat.min_eq_left (by omega), Nat.sub_self, List.drop_eq_getElem_cons hd]
 rfl
theorem i8_at {xs : List Int} (h : ∀ x ∈ xs, (Lit.int .i8 x).wf = true) {i : Nat} (hi : i < xs.length) : -128 ≤ xs.getD i 0 ∧ xs.getD i 0 ≤ 127 := by
 have e : xs.getD i 0 = xs[i] := by simp [List.getD_eq_getElem?_getD, hi]
 have := h _ (List.getElem_mem (n := i) hi)
 have e1 : IntKind.i8.min = -128 := rfl
 have e2 : IntKind.i8.max = 127 := rfl
 simp only [Lit.wf, Bool.and_eq_true, decide_eq_true_eq] at this
 rw [e]; omega
theorem modE_within {xs : List Int} : Within 29 (modE xs) := fun x hx => by
 unfold modE at hx
 obtain ⟨v, _, rfl⟩ := List.mem_map.1 hx
 have h1 := Int.tmod_lt_of_pos v (show (0 : Int) < 30 by decide)
 have h2 := Int.lt_tmod_of_pos v (show (0 : Int) < 30 by decide)
 omega
theorem mayD_good {zs R : List Int} (h : mayD zs = (R, 0)) : goodD R = true := by
 unfold mayD at h
 split at h
 · next hg => obtain ⟨rfl, _⟩ := Prod.mk.inj h; exact hg
 · exact absurd (Prod.mk.inj h).2 (by decide)
theorem mulD_good {a b R : List Int} (h : mulD a b = (R, 0)) : goodD R = true := by
 unfold mulD at h
 split at h
 · exact mayD_good h
 · exact absurd (Prod.mk.inj h).2 (by decide)
theorem powD_good {a R : List Int} {n : Int} (h : powD a n = (R, 0)) : goodD R = true := by
 unfold powD at h
 split at h
 · exact mayD_good h
 · exact absurd (Prod.mk.inj h).2 (by decide)
theorem tab_stay {w wx : World} (h : DTab w) {rows : List (Nat × Array Value × Array Value)} (hs : ∀ g, (∀ r ∈ rows, r.1 ≠ g) → wx.heap[g]? = w.heap[g]?) (h1 : ∀ r ∈ rows, r.1 ≠ 0) (h2 : ∀ r ∈ rows, r.1 ≠ 1) : DTab wx := by
 obtain ⟨k1, T, fr, k2⟩ := h
 exact ⟨fun i hi => (World.cell?_of_block (a := ⟨0, i, none⟩) (hs _ h1)).trans (k1 i hi), T, fr, (hs _ h2).trans k2⟩
theorem set_one {xs : List Int} {i : Nat} (h : xs.length = 7) (hi : i < 7) : (dimV (modTo xs i)).setIfInBounds i (.int .i64 ((xs.getD i 0).tmod 30)) = dimV (modTo xs (i + 1)) := by
 unfold dimV
 rw [ints_set, modTo_step h hi]
theorem set_two {xs : List Int} {i : Nat} (h : xs.length = 7) (hi : i < 7) : (dimV (modTo xs (i + 1))).setIfInBounds i (.int .i64 ((xs.getD i 0).tmod 30)) = dimV (modTo xs (i + 1)) := by
 unfold dimV
 rw [ints_set, ← modTo_step h hi, List.set_set]
set_option maxHeartbeats 4000000 in
set_option maxRecDepth 100000 in
theorem walk (xs_a : List Int) (xs_b : List Int) (xs_c : List Int) (w : World) (l_a : xs_a.length = 7) (f_a : ∀ x ∈ xs_a, (Lit.int .i8 x).wf = true) (l_b : xs_b.length = 7) (f_b : ∀ x ∈ xs_b, (Lit.int .i8 x).wf = true) (l_c : xs_c.length = 7) (f_c : ∀ x ∈ xs_c, (Lit.int .i8 x).wf = true) (HT : DTab w) :
 Calls Tryd.prog 4 #[.agg (ints .i8 xs_a), .agg (ints .i8 xs_b), .agg (ints .i8 xs_c)] w fun e w' => e = .returned (.bool true) ∧ Below w.heap.size w w' := by
 have HG := Lib.hid HT.lt
 have HL_a := Lib.hid l_a
 have HF_a := Lib.hid f_a
 clear l_a f_a
 have HL_b := Lib.hid l_b
 have HF_b := Lib.hid f_b
 clear l_b f_b
 have HL_c := Lib.hid l_c
 have HF_c := Lib.hid f_c
 clear l_c f_c
 have bw := bel_refl w
 have h_ra : RowA (w.alloc (.cells (ints .i8 xs_a) 37)) w.heap.size 37 (ints .i8 xs_a) := rowA_new _ _ _
 have bn := below_new w (.cells (ints .i8 xs_a) 37)
 replace HT := HT.below bn
 replace bw := below_two bw bn
 clear bn
 have h_rb : RowA ((w.alloc (.cells (ints .i8 xs_a) 37)).alloc (.cells (ints .i8 xs_b) 37)) (w.alloc (.cells (ints .i8 xs_a) 37)).heap.size 37 (ints .i8 xs_b) := rowA_new _ _ _
 have bn := below_new (w.alloc (.cells (ints .i8 xs_a) 37)) (.cells (ints .i8 xs_b) 37)
 replace HT := HT.below bn
 replace h_ra := h_ra.below bn
 replace bw := below_two bw bn
 clear bn
 have h_rc : RowA (((w.alloc (.cells (ints .i8 xs_a) 37)).alloc (.cells (ints .i8 xs_b) 37)).alloc (.cells (ints .i8 xs_c) 37)) ((w.alloc (.cells (ints .i8 xs_a) 37)).alloc (.cells (ints .i8 xs_b) 37)).heap.size 37 (ints .i8 xs_c) := rowA_new _ _ _
 have bn := below_new ((w.alloc (.cells (ints .i8 xs_a) 37)).alloc (.cells (ints .i8 xs_b) 37)) (.cells (ints .i8 xs_c) 37)
 replace HT := HT.below bn
 replace h_ra := h_ra.below bn
 replace h_rb := h_rb.below bn
 replace bw := below_two bw bn
 clear bn
 have h_rx : RowA ((((w.alloc (.cells (ints .i8 xs_a) 37)).alloc (.cells (ints .i8 xs_b) 37)).alloc (.cells (ints .i8 xs_c) 37)).alloc (.cells #[.int .i64 0, .int .i64 0, .int .i64 0, .int .i64 0, .int .i64 0, .int .i64 0, .int .i64 0] 23)) (((w.alloc (.cells (ints .i8 xs_a) 37)).alloc (.cells (ints .i8 xs_b) 37)).alloc (.cells (ints .i8 xs_c) 37)).heap.size 23 (dimV dim0) := rowA_new _ _ _
 have bn := below_new (((w.alloc (.cells (ints .i8 xs_a) 37)).alloc (.cells (ints .i8 xs_b) 37)).alloc (.cells (ints .i8 xs_c) 37)) (.cells #[.int .i64 0, .int .i64 0, .int .i64 0, .int .i64 0, .int .i64 0, .int .i64 0, .int .i64 0] 23)
 replace HT := HT.below bn
 replace h_ra := h_ra.below bn
 replace h_rb := h_rb.below bn
 replace h_rc := h_rc.below bn
 replace bw := below_two bw bn
 clear bn
 have h_ry : RowA (((((w.alloc (.cells (ints .i8 xs_a) 37)).alloc (.cells (ints .i8 xs_b) 37)).alloc (.cells (ints .i8 xs_c) 37)).alloc (.cells #[.int .i64 0, .int .i64 0, .int .i64 0, .int .i64 0, .int .i64 0, .int .i64 0, .int .i64 0] 23)).alloc (.cells #[.int .i64 0, .int .i64 0, .int .i64 0, .int .i64 0, .int .i64 0, .int .i64 0, .int .i64 0] 23)) ((((w.alloc (.cells (ints .i8 xs_a) 37)).alloc (.cells (ints .i8 xs_b) 37)).alloc (.cells (ints .i8 xs_c) 37)).alloc (.cells #[.int .i64 0, .int .i64 0, .int .i64 0, .int .i64 0, .int .i64 0, .int .i64 0, .int .i64 0] 23)).heap.size 23 (dimV dim0) := rowA_new _ _ _
 have bn := below_new ((((w.alloc (.cells (ints .i8 xs_a) 37)).alloc (.cells (ints .i8 xs_b) 37)).alloc (.cells (ints .i8 xs_c) 37)).alloc (.cells #[.int .i64 0, .int .i64 0, .int .i64 0, .int .i64 0, .int .i64 0, .int .i64 0, .int .i64 0] 23)) (.cells #[.int .i64 0, .int .i64 0, .int .i64 0, .int .i64 0, .int .i64 0, .int .i64 0, .int .i64 0] 23)
 replace HT := HT.below bn
 replace h_ra := h_ra.below bn
 replace h_rb := h_rb.below bn
 replace h_rc := h_rc.below bn
 replace h_rx := h_rx.below bn
 replace bw := below_two bw bn
 clear bn
 have h_rz : RowA ((((((w.alloc (.cells (ints .i8 xs_a) 37)).alloc (.cells (ints .i8 xs_b) 37)).alloc (.cells (ints .i8 xs_c) 37)).alloc (.cells #[.int .i64 0, .int .i64 0, .int .i64 0, .int .i64 0, .int .i64 0, .int .i64 0, .int .i64 0] 23)).alloc (.cells #[.int .i64 0, .int .i64 0, .int .i64 0, .int .i64 0, .int .i64 0, .int .i64 0, .int .i64 0] 23)).alloc (.cells #[.int .i64 0, .int .i64 0, .int .i64 0, .int .i64 0, .int .i64 0, .int .i64 0, .int .i64 0] 23)) (((((w.alloc (.cells (ints .i8 xs_a) 37)).alloc (.cells (ints .i8 xs_b) 37)).alloc (.cells (ints .i8 xs_c) 37)).alloc (.cells #[.int .i64 0, .int .i64 0, .int .i64 0, .int .i64 0, .int .i64 0, .int .i64 0, .int .i64 0] 23)).alloc (.cells #[.int .i64 0, .int .i64 0, .int .i64 0, .int .i64 0, .int .i64 0, .int .i64 0, .int .i64 0] 23)).heap.size 23 (dimV dim0) := rowA_new _ _ _
 have bn := below_new (((((w.alloc (.cells (ints .i8 xs_a) 37)).alloc (.cells (ints .i8 xs_b) 37)).alloc (.cells (ints .i8 xs_c) 37)).alloc (.cells #[.int .i64 0, .int .i64 0, .int .i64 0, .int .i64 0, .int .i64 0, .int .i64 0, .int .i64 0] 23)).alloc (.cells #[.int .i64 0, .int .i64 0, .int .i64 0, .int .i64 0, .int .i64 0, .int .i64 0, .int .i64 0] 23)) (.cells #[.int .i64 0, .int .i64 0, .int .i64 0, .int .i64 0, .int .i64 0, .int .i64 0, .int .i64 0] 23)
 replace HT := HT.below bn
 replace h_ra := h_ra.below bn
 replace h_rb := h_rb.below bn
 replace h_rc := h_rc.below bn
 replace h_rx := h_rx.below bn
 replace h_ry := h_ry.below bn
 replace bw := below_two bw bn
 clear bn
 simp only [World.size_alloc] at h_rb h_rc h_rx h_ry h_rz
 go_enter Tryd.func4, Tryd.ntmps4
 go_wp2_with fail
 generalize (((((w.alloc (.cells (ints .i8 xs_a) 37)).alloc (.cells (ints .i8 xs_b) 37)).alloc (.cells (ints .i8 xs_c) 37)).alloc (.cells #[.int .i64 0, .int .i64 0, .int .i64 0, .int .i64 0, .int .i64 0, .int .i64 0, .int .i64 0] 23)).alloc (.cells #[.int .i64 0, .int .i64 0, .int .i64 0, .int .i64 0, .int .i64 0, .int .i64 0, .int .i64 0] 23)).alloc (.cells #[.int .i64 0, .int .i64 0, .int .i64 0, .int .i64 0, .int .i64 0, .int .i64 0, .int .i64 0] 23) = w1 at *
 obtain ⟨q_z, eg⟩ : ∃ g, g = w.heap.size + 1 + 1 + 1 + 1 + 1 := ⟨_, rfl⟩
 rw [← eg] at h_rz ⊢
 have e_z := eg
 clear eg
 obtain ⟨q_y, eg⟩ : ∃ g, g = w.heap.size + 1 + 1 + 1 + 1 := ⟨_, rfl⟩
 rw [← eg] at h_ry ⊢
 have e_y := eg
 clear eg
 obtain ⟨q_x, eg⟩ : ∃ g, g = w.heap.size + 1 + 1 + 1 := ⟨_, rfl⟩
 rw [← eg] at h_rx ⊢
 have e_x := eg
 clear eg
 obtain ⟨q_c, eg⟩ : ∃ g, g = w.heap.size + 1 + 1 := ⟨_, rfl⟩
 rw [← eg] at h_rc ⊢
 have e_c := eg
 clear eg
 obtain ⟨q_b, eg⟩ : ∃ g, g = w.heap.size + 1 := ⟨_, rfl⟩
 rw [← eg] at h_rb ⊢
 have e_b := eg
 clear eg
 obtain ⟨q_a, eg⟩ : ∃ g, g = w.heap.size := ⟨_, rfl⟩
 rw [← eg] at h_ra ⊢
 have e_a := eg
 clear eg
 have hqb : Hid (w.heap.size ≤ q_a ∧ w.heap.size ≤ q_b ∧ w.heap.size ≤ q_c ∧ w.heap.size ≤ q_x ∧ w.heap.size ≤ q_y ∧ w.heap.size ≤ q_z) := by refine ⟨?_, ?_, ?_, ?_, ?_, ?_⟩ <;> omega
 have ne_a_b : Hid (q_a ≠ q_b) := by show _ ≠ _; omega
 have ne_a_c : Hid (q_a ≠ q_c) := by show _ ≠ _; omega
 have ne_a_x : Hid (q_a ≠ q_x) := by show _ ≠ _; omega
 have ne_a_y : Hid (q_a ≠ q_y) := by show _ ≠ _; omega
 have ne_a_z : Hid (q_a ≠ q_z) := by show _ ≠ _; omega
 have ne_b_a : Hid (q_b ≠ q_a) := by show _ ≠ _; omega
 have ne_b_c : Hid (q_b ≠ q_c) := by show _ ≠ _; omega
 have ne_b_x : Hid (q_b ≠ q_x) := by show _ ≠ _; omega
 have ne_b_y : Hid (q_b ≠ q_y) := by show _ ≠ _; omega
 have ne_b_z : Hid (q_b ≠ q_z) := by show _ ≠ _; omega
 have ne_c_a : Hid (q_c ≠ q_a) := by show _ ≠ _; omega
 have ne_c_b : Hid (q_c ≠ q_b) := by show _ ≠ _; omega
 have ne_c_x : Hid (q_c ≠ q_x) := by show _ ≠ _; omega
 have ne_c_y : Hid (q_c ≠ q_y) := by show _ ≠ _; omega
 have ne_c_z : Hid (q_c ≠ q_z) := by show _ ≠ _; omega
 have ne_x_a : Hid (q_x ≠ q_a) := by show _ ≠ _; omega
 have ne_x_b : Hid (q_x ≠ q_b) := by show _ ≠ _; omega
 have ne_x_c : Hid (q_x ≠ q_c) := by show _ ≠ _; omega
 have ne_x_y : Hid (q_x ≠ q_y) := by show _ ≠ _; omega
 have ne_x_z : Hid (q_x ≠ q_z) := by show _ ≠ _; omega
 have ne_y_a : Hid (q_y ≠ q_a) := by show _ ≠ _; omega
 have ne_y_b : Hid (q_y ≠ q_b) := by show _ ≠ _; omega
 have ne_y_c : Hid (q_y ≠ q_c) := by show _ ≠ _; omega
 have ne_y_x : Hid (q_y ≠ q_x) := by show _ ≠ _; omega
 have ne_y_z : Hid (q_y ≠ q_z) := by show _ ≠ _; omega
 have ne_z_a : Hid (q_z ≠ q_a) := by show _ ≠ _; omega
 have ne_z_b : Hid (q_z ≠ q_b) := by show _ ≠ _; omega
 have ne_z_c : Hid (q_z ≠ q_c) := by show _ ≠ _; omega
 have ne_z_x : Hid (q_z ≠ q_x) := by show _ ≠ _; omega
 have ne_z_y : Hid (q_z ≠ q_y) := by show _ ≠ _; omega
 clear e_a e_b e_c e_x e_y e_z
 go_loopw [10] (fun iv wr => ∃ i : Nat, i ≤ 7 ∧ iv = .int .i64 (i : Int) ∧ Hid (RowA wr q_a 37 (ints .i8 xs_a)) ∧ Hid (RowA wr q_b 37 (ints .i8 xs_b)) ∧ Hid (RowA wr q_c 37 (ints .i8 xs_c)) ∧ Hid (RowA wr q_x 23 (dimV (modTo xs_a i))) ∧ Hid (RowA wr q_y 23 (dimV (modTo xs_b i))) ∧ Hid (RowA wr q_z 23 (dimV (modTo xs_c i))) ∧ Hid (DTab wr) ∧ Hid (Below w.heap.size w wr)) (fun iv _ => 7 - (intOf iv).toNat)
 · refine ⟨0, by decide, rfl, h_ra, h_rb, h_rc, ?_, ?_, ?_, HT, bw⟩
   · rw [modTo_zero]; exact h_rx
   · rw [modTo_zero]; exact h_ry
   · rw [modTo_zero]; exact h_rz
 · obtain ⟨i, hi, rfl, h_a, h_b, h_c, h_x, h_y, h_z, hT, hb⟩ := hrel
   clear h_ra h_rb h_rc h_rx h_ry h_rz HT bw
   by_cases h7 : i < 7
   · obtain ⟨r1_a, r2_a⟩ := i8_at HF_a.out (i := i) (by rw [HL_a.out]; exact h7)
     obtain ⟨r1_b, r2_b⟩ := i8_at HF_b.out (i := i) (by rw [HL_b.out]; exact h7)
     obtain ⟨r1_c, r2_c⟩ := i8_at HF_c.out (i := i) (by rw [HL_c.out]; exact h7)
     generalize wr = wS at *
     go_wp2_with fail
     refine region_freeR 24 [some 37, some 38, some 39, some 40, some 41, some 42, some 43, some 44, some 45, some 46, some 47, some 48, some 49, some 50, some 51, some 52, some 53, some 54, some 55, none, some 56, none, some 57, none] ?aF (StR 23 [(q_x, dimV (modTo xs_a i), dimV (modTo xs_a (i + 1))), (q_y, dimV (modTo xs_b i), dimV (modTo xs_b (i + 1))), (q_z, dimV (modTo xs_c i), dimV (modTo xs_c (i + 1)))]) (StS 23 [(q_x, dimV (modTo xs_a i), dimV (modTo xs_a (i + 1))), (q_y, dimV (modTo xs_b i), dimV (modTo xs_b (i + 1))), (q_z, dimV (modTo xs_c i), dimV (modTo xs_c (i + 1)))] w wS) (fun k vv wx => match k with
      | 0 => vv = .int .i64 (i : Int)
      | 1 => vv = .int .i64 (i : Int)
      | 2 => vv = .int .i64 (i : Int)
      | 3 => vv = .int .i64 (i : Int)
      | 4 => vv = .pointer (some ⟨q_a, i, none⟩)
      | 5 => vv = .int .i8 (xs_a.getD i 0)
      | 6 => vv = .int .i64 (xs_a.getD i 0)
      | 7 => vv = .int .i64 ((xs_a.getD i 0).tmod 30)
      | 8 => vv = .int .i64 (i : Int)
      | 9 => vv = .pointer (some ⟨q_b, i, none⟩)
      | 10 => vv = .int .i8 (xs_b.getD i 0)
      | 11 => vv = .int .i64 (xs_b.getD i 0)
      | 12 => vv = .int .i64 ((xs_b.getD i 0).tmod 30)
      | 13 => vv = .int .i64 (i : Int)
      | 14 => vv = .pointer (some ⟨q_c, i, none⟩)
      | 15 => vv = .int .i8 (xs_c.getD i 0)
      | 16 => vv = .int .i64 (xs_c.getD i 0)
      | 17 => vv = .int .i64 ((xs_c.getD i 0).tmod 30)
      | 18 => vv = .pointer (some ⟨q_x, i, none⟩)
      | 19 => RowA wx q_x 23 (dimV (modTo xs_a (i + 1)))
      | 20 => vv = .pointer (some ⟨q_y, i, none⟩)
      | 21 => RowA wx q_y 23 (dimV (modTo xs_b (i + 1)))
      | 22 => vv = .pointer (some ⟨q_z, i, none⟩)
      | _ => RowA wx q_z 23 (dimV (modTo xs_c (i + 1))))
      (by kernel_rfl) ?haF rfl (by kernel_rfl) (fun _ _ _ _ _ h => h) ?hSb ?hPb ?hS ?hop ?hfin
     case haF =>
      intro vals
      simp only [fillAll, dAt, Act.put, List.setIfInBounds_toArray, List.set_cons_zero, List.set_cons_succ]
      exact rfl
     case hSb => exact fun wx wy h k => k.step h
     case hPb =>
      intro k v wa wb hb hS h
      match k, h with
      | 0, h => exact h
      | 1, h => exact h
      | 2, h => exact h
      | 3, h => exact h
      | 4, h => exact h
      | 5, h => exact h
      | 6, h => exact h
      | 7, h => exact h
      | 8, h => exact h
      | 9, h => exact h
      | 10, h => exact h
      | 11, h => exact h
      | 12, h => exact h
      | 13, h => exact h
      | 14, h => exact h
      | 15, h => exact h
      | 16, h => exact h
      | 17, h => exact h
      | 18, h => exact h
      | 19, h => exact hb.kept (r := (q_x, dimV (modTo xs_a i), dimV (modTo xs_a (i + 1)))) (by simp) h
      | 20, h => exact h
      | 21, h => exact hb.kept (r := (q_y, dimV (modTo xs_b i), dimV (modTo xs_b (i + 1)))) (by simp) h
      | 22, h => exact h
      | _ + 23, h => exact hb.kept (r := (q_z, dimV (modTo xs_c i), dimV (modTo xs_c (i + 1)))) (by simp) h
     case hS => exact StS.start hb.out (by simp; have := hqb.out; omega) (by simp; exact ⟨h_x.out, h_y.out, h_z.out⟩)
     case hop =>
      refine .cons (k := 0) ?_ (.cons (k := 1) ?_ (.cons (k := 2) ?_ (.cons (k := 3) ?_ (.cons (k := 4) ?_ (.cons (k := 5) ?_ (.cons (k := 6) ?_ (.cons (k := 7) ?_ (.cons (k := 8) ?_ (.cons (k := 9) ?_ (.cons (k := 10) ?_ (.cons (k := 11) ?_ (.cons (k := 12) ?_ (.cons (k := 13) ?_ (.cons (k := 14) ?_ (.cons (k := 15) ?_ (.cons (k := 16) ?_ (.cons (k := 17) ?_ (.cons (k := 18) ?_ (.cons (k := 19) ?_ (.cons (k := 20) ?_ (.cons (k := 21) ?_ (.cons (k := 22) ?_ (.cons (k := 23) ?_ (.nil))))))))))))))))))))))))
      all_goals intro vals wr hS hd KC hK
      all_goals (show Oper.wp _ _ _ _ _ _; dsimp only)
      · go_simp
        refine hK _ _ rfl (StR.refl _) (by first | rfl | simp)
      · go_simp
        refine hK _ _ rfl (StR.refl _) (by first | rfl | simp)
      · go_simp
        refine hK _ _ rfl (StR.refl _) (by first | rfl | simp)
      · go_simp
        refine hK _ _ rfl (StR.refl _) (by first | rfl | simp)
      · have d3 : vals 3 = _ := hd 3 (by decide +kernel)
        rw [d3]
        go_simp
        refine hK _ _ rfl (StR.refl _) (by first | rfl | simp)
      · have d4 : vals 4 = _ := hd 4 (by decide +kernel)
        rw [d4]
        have z0 := (hS.row (by simp [ne_x_a.out, ne_y_a.out, ne_z_a.out]) h_a.out).int (i := i) (by rw [HL_a.out]; exact h7)
        go_simp
        refine hK _ _ rfl (StR.refl _) (by first | rfl | simp)
      · have d5 : vals 5 = _ := hd 5 (by decide +kernel)
        rw [d5]
        generalize xs_a.getD i 0 = v at *
        have hwr : IntKind.i64.wrap v = v := by rw [IntKind.wrap_i64]; omega
        go_simp
        refine hK _ _ rfl (StR.refl _) (by first | rfl | exact congrArg (Value.int IntKind.i64) hwr)
      · have d6 : vals 6 = _ := hd 6 (by decide +kernel)
        rw [d6]
        generalize xs_a.getD i 0 = v at *
        go_simp
        refine hK _ _ rfl (StR.refl _) (by first | rfl | simp)
      · go_simp
        refine hK _ _ rfl (StR.refl _) (by first | rfl | simp)
      · have d8 : vals 8 = _ := hd 8 (by decide +kernel)
        rw [d8]
        go_simp
        refine hK _ _ rfl (StR.refl _) (by first | rfl | simp)
      · have d9 : vals 9 = _ := hd 9 (by decide +kernel)
        rw [d9]
        have z0 := (hS.row (by simp [ne_x_b.out, ne_y_b.out, ne_z_b.out]) h_b.out).int (i := i) (by rw [HL_b.out]; exact h7)
        go_simp
        refine hK _ _ rfl (StR.refl _) (by first | rfl | simp)
      · have d10 : vals 10 = _ := hd 10 (by decide +kernel)
        rw [d10]
        generalize xs_b.getD i 0 = v at *
        have hwr : IntKind.i64.wrap v = v := by rw [IntKind.wrap_i64]; omega
        go_simp
        refine hK _ _ rfl (StR.refl _) (by first | rfl | exact congrArg (Value.int IntKind.i64) hwr)
      · have d11 : vals 11 = _ := hd 11 (by decide +kernel)
        rw [d11]
        generalize xs_b.getD i 0 = v at *
        go_simp
        refine hK _ _ rfl (StR.refl _) (by first | rfl | simp)
      · go_simp
        refine hK _ _ rfl (StR.refl _) (by first | rfl | simp)
      · have d13 : vals 13 = _ := hd 13 (by decide +kernel)
        rw [d13]
        go_simp
        refine hK _ _ rfl (StR.refl _) (by first | rfl | simp)
      · have d14 : vals 14 = _ := hd 14 (by decide +kernel)
        rw [d14]
        have z0 := (hS.row (by simp [ne_x_c.out, ne_y_c.out, ne_z_c.out]) h_c.out).int (i := i) (by rw [HL_c.out]; exact h7)
        go_simp
        refine hK _ _ rfl (StR.refl _) (by first | rfl | simp)
      · have d15 : vals 15 = _ := hd 15 (by decide +kernel)
        rw [d15]
        generalize xs_c.getD i 0 = v at *
        have hwr : IntKind.i64.wrap v = v := by rw [IntKind.wrap_i64]; omega
        go_simp
        refine hK _ _ rfl (StR.refl _) (by first | rfl | exact congrArg (Value.int IntKind.i64) hwr)
      · have d16 : vals 16 = _ := hd 16 (by decide +kernel)
        rw [d16]
        generalize xs_c.getD i 0 = v at *
        go_simp
        refine hK _ _ rfl (StR.refl _) (by first | rfl | simp)
      · have d0 : vals 0 = _ := hd 0 (by decide +kernel)
        rw [d0]
        go_simp
        refine hK _ _ rfl (StR.refl _) (by first | rfl | simp)
      · have d18 : vals 18 = _ := hd 18 (by decide +kernel)
        have d7 : vals 7 = _ := hd 7 (by decide +kernel)
        rw [d18, d7]
        obtain ⟨u, z0⟩ := hS.here (r := (q_x, dimV (modTo xs_a i), dimV (modTo xs_a (i + 1)))) (by simp) i ⟨_, ints_get (by rw [len_modTo HL_a.out hi]; exact h7)⟩ ⟨_, ints_get (by rw [len_modTo HL_a.out (by omega)]; exact h7)⟩
        have f0 := hS.free (r := (q_x, dimV (modTo xs_a i), dimV (modTo xs_a (i + 1)))) (by simp) i
        have hst := Lib.hid (hS.store (r := (q_x, dimV (modTo xs_a i), dimV (modTo xs_a (i + 1)))) (by simp) (by simp [ne_y_x.out, ne_z_x.out]) (k := i) (v := .int .i64 ((xs_a.getD i 0).tmod 30)) (set_one HL_a.out h7) (set_two HL_a.out h7))
        dsimp only at z0 f0 hst
        generalize xs_a.getD i 0 = v at *
        go_simp
        exact hK _ _ rfl hst.out.1 hst.out.2
      · have d1 : vals 1 = _ := hd 1 (by decide +kernel)
        rw [d1]
        go_simp
        refine hK _ _ rfl (StR.refl _) (by first | rfl | simp)
      · have d20 : vals 20 = _ := hd 20 (by decide +kernel)
        have d12 : vals 12 = _ := hd 12 (by decide +kernel)
        rw [d20, d12]
        obtain ⟨u, z0⟩ := hS.here (r := (q_y, dimV (modTo xs_b i), dimV (modTo xs_b (i + 1)))) (by simp) i ⟨_, ints_get (by rw [len_modTo HL_b.out hi]; exact h7)⟩ ⟨_, ints_get (by rw [len_modTo HL_b.out (by omega)]; exact h7)⟩
        have f0 := hS.free (r := (q_y, dimV (modTo xs_b i), dimV (modTo xs_b (i + 1)))) (by simp) i
        have hst := Lib.hid (hS.store (r := (q_y, dimV (modTo xs_b i), dimV (modTo xs_b (i + 1)))) (by simp) (by simp [ne_x_y.out, ne_z_y.out]) (k := i) (v := .int .i64 ((xs_b.getD i 0).tmod 30)) (set_one HL_b.out h7) (set_two HL_b.out h7))
        dsimp only at z0 f0 hst
        generalize xs_b.getD i 0 = v at *
        go_simp
        exact hK _ _ rfl hst.out.1 hst.out.2
      · have d2 : vals 2 = _ := hd 2 (by decide +kernel)
        rw [d2]
        go_simp
        refine hK _ _ rfl (StR.refl _) (by first | rfl | simp)
      · have d22 : vals 22 = _ := hd 22 (by decide +kernel)
        have d17 : vals 17 = _ := hd 17 (by decide +kernel)
        rw [d22, d17]
        obtain ⟨u, z0⟩ := hS.here (r := (q_z, dimV (modTo xs_c i), dimV (modTo xs_c (i + 1)))) (by simp) i ⟨_, ints_get (by rw [len_modTo HL_c.out hi]; exact h7)⟩ ⟨_, ints_get (by rw [len_modTo HL_c.out (by omega)]; exact h7)⟩
        have f0 := hS.free (r := (q_z, dimV (modTo xs_c i), dimV (modTo xs_c (i + 1)))) (by simp) i
        have hst := Lib.hid (hS.store (r := (q_z, dimV (modTo xs_c i), dimV (modTo xs_c (i + 1)))) (by simp) (by simp [ne_x_z.out, ne_y_z.out]) (k := i) (v := .int .i64 ((xs_c.getD i 0).tmod 30)) (set_one HL_c.out h7) (set_two HL_c.out h7))
        dsimp only at z0 f0 hst
        generalize xs_c.getD i 0 = v at *
        go_simp
        exact hK _ _ rfl hst.out.1 hst.out.2
     case hfin =>
      intro vals wr hS hP
      have k_x := Lib.hid (hP 19 (by decide))
      have k_y := Lib.hid (hP 21 (by decide))
      have k_z := Lib.hid (hP 23 (by decide))
      have k_a := Lib.hid (hS.row (by simp [ne_x_a.out, ne_y_a.out, ne_z_a.out]) h_a.out)
      have k_b := Lib.hid (hS.row (by simp [ne_x_b.out, ne_y_b.out, ne_z_b.out]) h_b.out)
      have k_c := Lib.hid (hS.row (by simp [ne_x_c.out, ne_y_c.out, ne_z_c.out]) h_c.out)
      have kb := Lib.hid hS.1
      have kT := Lib.hid (tab_stay hT.out (fun g hg => hS.2.2.1 g hg) (by simp; have := HG.out; have := hqb.out; omega) (by simp; have := HG.out; have := hqb.out; omega))
      refine wpAny_done (by kernel_rfl) ?_ _
      clear hP hS h_a h_b h_c h_x h_y h_z hT hb
      go_wp2
      exact ⟨⟨i + 1, by omega, by simp, k_a, k_b, k_c, k_x, k_y, k_z, kT, kb⟩, by simp [intOf]; omega⟩
   · obtain rfl : i = 7 := by omega
     rw [modTo_all HL_a.out] at h_x
     rw [modTo_all HL_b.out] at h_y
     rw [modTo_all HL_c.out] at h_z
     have L_x := len_modE HL_a.out
     have W_x := modE_within (xs := xs_a)
     have h_rx := h_x.out
     have L_y := len_modE HL_b.out
     have W_y := modE_within (xs := xs_b)
     have h_ry := h_y.out
     have L_z := len_modE HL_c.out
     have W_z := modE_within (xs := xs_c)
     have h_rz := h_z.out
     have HT := hT.out
     have bw := hb.out
     clear h_a h_b h_c h_x h_y h_z hT hb h7
     generalize modE xs_a = X at *
     generalize modE xs_b = Y at *
     generalize modE xs_c = Z at *
     obtain ⟨Lm, Lp, Lq, Ls, Lt, Lu, n1, n2, n3, n4, n5, n6, F1, F2, F3, F4, F5, F6, F7, F8, F9, F10, F11⟩ := group_facts L_x L_y L_z W_x W_y W_z
     have G_X := W_x.good (by decide)
     have G_Y := W_y.good (by decide)
     have G_Z := W_z.good (by decide)
     have G_m := mulD_good F1
     have G_q := mulD_good F4
     have G_s := powD_good F7
     have G_t := powD_good F8
     have HLX := Lib.hid L_x
     have HM_X := Lib.hid (many7 L_x)
     have HU_X := Lib.hid (fits7 L_x)
     have HLY := Lib.hid L_y
     have HM_Y := Lib.hid (many7 L_y)
     have HU_Y := Lib.hid (fits7 L_y)
     have HLZ := Lib.hid L_z
     have HM_Z := Lib.hid (many7 L_z)
     have HU_Z := Lib.hid (fits7 L_z)
     have HLLm := Lib.hid n1
     have HM_Lm := Lib.hid (many7 n1)
     have HU_Lm := Lib.hid (fits7 n1)
     have HLLp := Lib.hid n2
     have HM_Lp := Lib.hid (many7 n2)
     have HU_Lp := Lib.hid (fits7 n2)
     have HLLq := Lib.hid n3
     have HM_Lq := Lib.hid (many7 n3)
     have HU_Lq := Lib.hid (fits7 n3)
     have HLLs := Lib.hid n4
     have HM_Ls := Lib.hid (many7 n4)
     have HU_Ls := Lib.hid (fits7 n4)
     have HLLt := Lib.hid n5
     have HM_Lt := Lib.hid (many7 n5)
     have HU_Lt := Lib.hid (fits7 n5)
     have HLLu := Lib.hid n6
     have HM_Lu := Lib.hid (many7 n6)
     have HU_Lu := Lib.hid (fits7 n6)
     have HM_o := Lib.hid (many7 dim0_len)
     have HU_o := Lib.hid (fits7 dim0_len)
     have HIX := Lib.hid (i64_good G_X)
     have HIY := Lib.hid (i64_good G_Y)
     have HIZ := Lib.hid (i64_good G_Z)
     have HILm := Lib.hid (i64_good G_m)
     have HILq := Lib.hid (i64_good G_q)
     have HILs := Lib.hid (i64_good G_s)
     have HILt := Lib.hid (i64_good G_t)
     have HF1 := Lib.hid F1
     have HF2 := Lib.hid F2
     have HF3 := Lib.hid F3
     have HF4 := Lib.hid F4
     have HF5 := Lib.hid F5
     have HF6 := Lib.hid F6
     have HF7 := Lib.hid F7
     have HF8 := Lib.hid F8
     have HF9 := Lib.hid F9
     have HF10 := Lib.hid F10
     have HF11 := Lib.hid F11
     clear n1 n2 n3 n4 n5 n6 F1 F2 F3 F4 F5 F6 F7 F8 F9 F10 F11 L_x L_y L_z W_x W_y W_z G_X G_Y G_Z G_m G_q G_s G_t
     have HI_x := Lib.hid h_rx.inV
     have HI_y := Lib.hid h_ry.inV
     go_wp2_with (refine wpList_loadV (by rfl) 23 _ (by rfl) _ _ (by rfl) _ (by assumption) (by assumption) ?_)
     clear HI_x HI_y
     refine (dMul_c HLX.out HIX.out HLY.out HIY.out _ _ HF1.out).mono ?_
     rintro e w41 ⟨rfl, bn⟩
     replace HT := HT.below bn
     replace h_rx := h_rx.below bn
     replace h_ry := h_ry.below bn
     replace h_rz := h_rz.below bn
     replace bw := below_two bw bn
     clear bn
     have h_rm := rowA_new w41 23 (dimV Lm)
     have bn := below_new w41 (.cells (dimV Lm) 23)
     replace HT := HT.below bn
     replace h_rx := h_rx.below bn
     replace h_ry := h_ry.below bn
     replace h_rz := h_rz.below bn
     replace bw := below_two bw bn
     clear bn
     have HI_y := Lib.hid h_ry.inV
     have HI_x := Lib.hid h_rx.inV
     go_wp2_with (first | (refine wpList_loadV (by rfl) 23 _ (by rfl) _ _ (by rfl) _ (by assumption) (by assumption) ?_) | (refine wpList_storeNew (by rfl) 23 _ _ (by rfl) _ _ _ (by rfl) (by rfl) (by assumption) ?_))
     clear HI_y HI_x
     generalize w41.alloc (.cells (dimV Lm) 23) = w42 at *
     obtain ⟨q_m, eg⟩ : ∃ g, g = w41.heap.size := ⟨_, rfl⟩
     rw [← eg] at h_rm ⊢
     clear eg
     refine (dMul_c HLY.out HIY.out HLX.out HIX.out _ _ HF2.out).mono ?_
     rintro e w43 ⟨rfl, bn⟩
     replace HT := HT.below bn
     replace h_rx := h_rx.below bn
     replace h_ry := h_ry.below bn
     replace h_rz := h_rz.below bn
     replace h_rm := h_rm.below bn
     replace bw := below_two bw bn
     clear bn
     have h_rn := rowA_new w43 23 (dimV Lm)
     have bn := below_new w43 (.cells (dimV Lm) 23)
     replace HT := HT.below bn
     replace h_rx := h_rx.below bn
     replace h_ry := h_ry.below bn
     replace h_rz := h_rz.below bn
     replace h_rm := h_rm.below bn
     replace bw := below_two bw bn
     clear bn
     have HI_m := Lib.hid h_rm.inV
     have HI_z := Lib.hid h_rz.inV
     go_wp2_with (first | (refine wpList_loadV (by rfl) 23 _ (by rfl) _ _ (by rfl) _ (by assumption) (by assumption) ?_) | (refine wpList_storeNew (by rfl) 23 _ _ (by rfl) _ _ _ (by rfl) (by rfl) (by assumption) ?_))
     clear HI_m HI_z
     generalize w43.alloc (.cells (dimV Lm) 23) = w44 at *
     obtain ⟨q_n, eg⟩ : ∃ g, g = w43.heap.size := ⟨_, rfl⟩
     rw [← eg] at h_rn ⊢
     clear eg
     refine (dMul_c HLLm.out HILm.out HLZ.out HIZ.out _ _ HF3.out).mono ?_
     rintro e w45 ⟨rfl, bn⟩
     replace HT := HT.below bn
     replace h_rx := h_rx.below bn
     replace h_ry := h_ry.below bn
     replace h_rz := h_rz.below bn
     replace h_rm := h_rm.below bn
     replace h_rn := h_rn.below bn
     replace bw := below_two bw bn
     clear bn
     have h_rp := rowA_new w45 23 (dimV Lp)
     have bn := below_new w45 (.cells (dimV Lp) 23)
     replace HT := HT.below bn
     replace h_rx := h_rx.below bn
     replace h_ry := h_ry.below bn
     replace h_rz := h_rz.below bn
     replace h_rm := h_rm.below bn
     replace h_rn := h_rn.below bn
     replace bw := below_two bw bn
     clear bn
     have HI_y := Lib.hid h_ry.inV
     have HI_z := Lib.hid h_rz.inV
     go_wp2_with (first | (refine wpList_loadV (by rfl) 23 _ (by rfl) _ _ (by rfl) _ (by assumption) (by assumption) ?_) | (refine wpList_storeNew (by rfl) 23 _ _ (by rfl) _ _ _ (by rfl) (by rfl) (by assumption) ?_))
     clear HI_y HI_z
     generalize w45.alloc (.cells (dimV Lp) 23) = w46 at *
     obtain ⟨q_p, eg⟩ : ∃ g, g = w45.heap.size := ⟨_, rfl⟩
     rw [← eg] at h_rp ⊢
     clear eg
     refine (dMul_c HLY.out HIY.out HLZ.out HIZ.out _ _ HF4.out).mono ?_
     rintro e w47 ⟨rfl, bn⟩
     replace HT := HT.below bn
     replace h_rx := h_rx.below bn
     replace h_ry := h_ry.below bn
     replace h_rz := h_rz.below bn
     replace h_rm := h_rm.below bn
     replace h_rn := h_rn.below bn
     replace h_rp := h_rp.below bn
     replace bw := below_two bw bn
     clear bn
     have h_rq := rowA_new w47 23 (dimV Lq)
     have bn := below_new w47 (.cells (dimV Lq) 23)
     replace HT := HT.below bn
     replace h_rx := h_rx.below bn
     replace h_ry := h_ry.below bn
     replace h_rz := h_rz.below bn
     replace h_rm := h_rm.below bn
     replace h_rn := h_rn.below bn
     replace h_rp := h_rp.below bn
     replace bw := below_two bw bn
     clear bn
     have HI_x := Lib.hid h_rx.inV
     have HI_q := Lib.hid h_rq.inV
     go_wp2_with (first | (refine wpList_loadV (by rfl) 23 _ (by rfl) _ _ (by rfl) _ (by assumption) (by assumption) ?_) | (refine wpList_storeNew (by rfl) 23 _ _ (by rfl) _ _ _ (by rfl) (by rfl) (by assumption) ?_))
     clear HI_x HI_q
     generalize w47.alloc (.cells (dimV Lq) 23) = w48 at *
     obtain ⟨q_q, eg⟩ : ∃ g, g = w47.heap.size := ⟨_, rfl⟩
     rw [← eg] at h_rq ⊢
     clear eg
     refine (dMul_c HLX.out HIX.out HLLq.out HILq.out _ _ HF5.out).mono ?_
     rintro e w49 ⟨rfl, bn⟩
     replace HT := HT.below bn
     replace h_rx := h_rx.below bn
     replace h_ry := h_ry.below bn
     replace h_rz := h_rz.below bn
     replace h_rm := h_rm.below bn
     replace h_rn := h_rn.below bn
     replace h_rp := h_rp.below bn
     replace h_rq := h_rq.below bn
     replace bw := below_two bw bn
     clear bn
     have h_rr := rowA_new w49 23 (dimV Lp)
     have bn := below_new w49 (.cells (dimV Lp) 23)
     replace HT := HT.below bn
     replace h_rx := h_rx.below bn
     replace h_ry := h_ry.below bn
     replace h_rz := h_rz.below bn
     replace h_rm := h_rm.below bn
     replace h_rn := h_rn.below bn
     replace h_rp := h_rp.below bn
     replace h_rq := h_rq.below bn
     replace bw := below_two bw bn
     clear bn
     have HI_m := Lib.hid h_rm.inV
     have HI_y := Lib.hid h_ry.inV
     go_wp2_with (first | (refine wpList_loadV (by rfl) 23 _ (by rfl) _ _ (by rfl) _ (by assumption) (by assumption) ?_) | (refine wpList_storeNew (by rfl) 23 _ _ (by rfl) _ _ _ (by rfl) (by rfl) (by assumption) ?_))
     clear HI_m HI_y
     generalize w49.alloc (.cells (dimV Lp) 23) = w50 at *
     obtain ⟨q_r, eg⟩ : ∃ g, g = w49.heap.size := ⟨_, rfl⟩
     rw [← eg] at h_rr ⊢
     clear eg
     refine (dDiv_c HLLm.out HILm.out HLY.out HIY.out _ _ HF6.out).mono ?_
     rintro e w51 ⟨rfl, bn⟩
     replace HT := HT.below bn
     replace h_rx := h_rx.below bn
     replace h_ry := h_ry.below bn
     replace h_rz := h_rz.below bn
     replace h_rm := h_rm.below bn
     replace h_rn := h_rn.below bn
     replace h_rp := h_rp.below bn
     replace h_rq := h_rq.below bn
     replace h_rr := h_rr.below bn
     replace bw := below_two bw bn
     clear bn
     have h_rd := rowA_new w51 23 (dimV X)
     have bn := below_new w51 (.cells (dimV X) 23)
     replace HT := HT.below bn
     replace h_rx := h_rx.below bn
     replace h_ry := h_ry.below bn
     replace h_rz := h_rz.below bn
     replace h_rm := h_rm.below bn
     replace h_rn := h_rn.below bn
     replace h_rp := h_rp.below bn
     replace h_rq := h_rq.below bn
     replace h_rr := h_rr.below bn
     replace bw := below_two bw bn
     clear bn
     have HI_x := Lib.hid h_rx.inV
     go_wp2_with (first | (refine wpList_loadV (by rfl) 23 _ (by rfl) _ _ (by rfl) _ (by assumption) (by assumption) ?_) | (refine wpList_storeNew (by rfl) 23 _ _ (by rfl) _ _ _ (by rfl) (by rfl) (by assumption) ?_))
     clear HI_x
     generalize w51.alloc (.cells (dimV X) 23) = w52 at *
     obtain ⟨q_d, eg⟩ : ∃ g, g = w51.heap.size := ⟨_, rfl⟩
     rw [← eg] at h_rd ⊢
     clear eg
     refine (dPow_c HLX.out HIX.out 2 (by decide) (by decide) _ _ HF7.out).mono ?_
     rintro e w53 ⟨rfl, bn⟩
     replace HT := HT.below bn
     replace h_rx := h_rx.below bn
     replace h_ry := h_ry.below bn
     replace h_rz := h_rz.below bn
     replace h_rm := h_rm.below bn
     replace h_rn := h_rn.below bn
     replace h_rp := h_rp.below bn
     replace h_rq := h_rq.below bn
     replace h_rr := h_rr.below bn
     replace h_rd := h_rd.below bn
     replace bw := below_two bw bn
     clear bn
     have h_rs := rowA_new w53 23 (dimV Ls)
     have bn := below_new w53 (.cells (dimV Ls) 23)
     replace HT := HT.below bn
     replace h_rx := h_rx.below bn
     replace h_ry := h_ry.below bn
     replace h_rz := h_rz.below bn
     replace h_rm := h_rm.below bn
     replace h_rn := h_rn.below bn
     replace h_rp := h_rp.below bn
     replace h_rq := h_rq.below bn
     replace h_rr := h_rr.below bn
     replace h_rd := h_rd.below bn
     replace bw := below_two bw bn
     clear bn
     have HI_x := Lib.hid h_rx.inV
     go_wp2_with (first | (refine wpList_loadV (by rfl) 23 _ (by rfl) _ _ (by rfl) _ (by assumption) (by assumption) ?_) | (refine wpList_storeNew (by rfl) 23 _ _ (by rfl) _ _ _ (by rfl) (by rfl) (by assumption) ?_))
     clear HI_x
     generalize w53.alloc (.cells (dimV Ls) 23) = w54 at *
     obtain ⟨q_s, eg⟩ : ∃ g, g = w53.heap.size := ⟨_, rfl⟩
     rw [← eg] at h_rs ⊢
     clear eg
     refine (dPow_c HLX.out HIX.out 3 (by decide) (by decide) _ _ HF8.out).mono ?_
     rintro e w55 ⟨rfl, bn⟩
     replace HT := HT.below bn
     replace h_rx := h_rx.below bn
     replace h_ry := h_ry.below bn
     replace h_rz := h_rz.below bn
     replace h_rm := h_rm.below bn
     replace h_rn := h_rn.below bn
     replace h_rp := h_rp.below bn
     replace h_rq := h_rq.below bn
     replace h_rr := h_rr.below bn
     replace h_rd := h_rd.below bn
     replace h_rs := h_rs.below bn
     replace bw := below_two bw bn
     clear bn
     have h_rt := rowA_new w55 23 (dimV Lt)
     have bn := below_new w55 (.cells (dimV Lt) 23)
     replace HT := HT.below bn
     replace h_rx := h_rx.below bn
     replace h_ry := h_ry.below bn
     replace h_rz := h_rz.below bn
     replace h_rm := h_rm.below bn
     replace h_rn := h_rn.below bn
     replace h_rp := h_rp.below bn
     replace h_rq := h_rq.below bn
     replace h_rr := h_rr.below bn
     replace h_rd := h_rd.below bn
     replace h_rs := h_rs.below bn
     replace bw := below_two bw bn
     clear bn
     have HI_x := Lib.hid h_rx.inV
     go_wp2_with (first | (refine wpList_loadV (by rfl) 23 _ (by rfl) _ _ (by rfl) _ (by assumption) (by assumption) ?_) | (refine wpList_storeNew (by rfl) 23 _ _ (by rfl) _ _ _ (by rfl) (by rfl) (by assumption) ?_))
     clear HI_x
     generalize w55.alloc (.cells (dimV Lt) 23) = w56 at *
     obtain ⟨q_t, eg⟩ : ∃ g, g = w55.heap.size := ⟨_, rfl⟩
     rw [← eg] at h_rt ⊢
     clear eg
     refine (dPow_c HLX.out HIX.out 5 (by decide) (by decide) _ _ HF9.out).mono ?_
     rintro e w57 ⟨rfl, bn⟩
     replace HT := HT.below bn
     replace h_rx := h_rx.below bn
     replace h_ry := h_ry.below bn
     replace h_rz := h_rz.below bn
     replace h_rm := h_rm.below bn
     replace h_rn := h_rn.below bn
     replace h_rp := h_rp.below bn
     replace h_rq := h_rq.below bn
     replace h_rr := h_rr.below bn
     replace h_rd := h_rd.below bn
     replace h_rs := h_rs.below bn
     replace h_rt := h_rt.below bn
     replace bw := below_two bw bn
     clear bn
     have h_ru := rowA_new w57 23 (dimV Lu)
     have bn := below_new w57 (.cells (dimV Lu) 23)
     replace HT := HT.below bn
     replace h_rx := h_rx.below bn
     replace h_ry := h_ry.below bn
     replace h_rz := h_rz.below bn
     replace h_rm := h_rm.below bn
     replace h_rn := h_rn.below bn
     replace h_rp := h_rp.below bn
     replace h_rq := h_rq.below bn
     replace h_rr := h_rr.below bn
     replace h_rd := h_rd.below bn
     replace h_rs := h_rs.below bn
     replace h_rt := h_rt.below bn
     replace bw := below_two bw bn
     clear bn
     have HI_s := Lib.hid h_rs.inV
     have HI_t := Lib.hid h_rt.inV
     go_wp2_with (first | (refine wpList_loadV (by rfl) 23 _ (by rfl) _ _ (by rfl) _ (by assumption) (by assumption) ?_) | (refine wpList_storeNew (by rfl) 23 _ _ (by rfl) _ _ _ (by rfl) (by rfl) (by assumption) ?_))
     clear HI_s HI_t
     generalize w57.alloc (.cells (dimV Lu) 23) = w58 at *
     obtain ⟨q_u, eg⟩ : ∃ g, g = w57.heap.size := ⟨_, rfl⟩
     rw [← eg] at h_ru ⊢
     clear eg
     refine (dMul_c HLLs.out HILs.out HLLt.out HILt.out _ _ HF10.out).mono ?_
     rintro e w59 ⟨rfl, bn⟩
     replace HT := HT.below bn
     replace h_rx := h_rx.below bn
     replace h_ry := h_ry.below bn
     replace h_rz := h_rz.below bn
     replace h_rm := h_rm.below bn
     replace h_rn := h_rn.below bn
     replace h_rp := h_rp.below bn
     replace h_rq := h_rq.below bn
     replace h_rr := h_rr.below bn
     replace h_rd := h_rd.below bn
     replace h_rs := h_rs.below bn
     replace h_rt := h_rt.below bn
     replace h_ru := h_ru.below bn
     replace bw := below_two bw bn
     clear bn
     have h_rv := rowA_new w59 23 (dimV Lu)
     have bn := below_new w59 (.cells (dimV Lu) 23)
     replace HT := HT.below bn
     replace h_rx := h_rx.below bn
     replace h_ry := h_ry.below bn
     replace h_rz := h_rz.below bn
     replace h_rm := h_rm.below bn
     replace h_rn := h_rn.below bn
     replace h_rp := h_rp.below bn
     replace h_rq := h_rq.below bn
     replace h_rr := h_rr.below bn
     replace h_rd := h_rd.below bn
     replace h_rs := h_rs.below bn
     replace h_rt := h_rt.below bn
     replace h_ru := h_ru.below bn
     replace bw := below_two bw bn
     clear bn
     have HI_x := Lib.hid h_rx.inV
     go_wp2_with (first | (refine wpList_loadV (by rfl) 23 _ (by rfl) _ _ (by rfl) _ (by assumption) (by assumption) ?_) | (refine wpList_storeNew (by rfl) 23 _ _ (by rfl) _ _ _ (by rfl) (by rfl) (by assumption) ?_))
     clear HI_x
     generalize w59.alloc (.cells (dimV Lu) 23) = w60 at *
     obtain ⟨q_v, eg⟩ : ∃ g, g = w59.heap.size := ⟨_, rfl⟩
     rw [← eg] at h_rv ⊢
     clear eg
     refine (dPow_c HLX.out HIX.out 0 (by decide) (by decide) _ _ HF11.out).mono ?_
     rintro e w61 ⟨rfl, bn⟩
     replace HT := HT.below bn
     replace h_rx := h_rx.below bn
     replace h_ry := h_ry.below bn
     replace h_rz := h_rz.below bn
     replace h_rm := h_rm.below bn
     replace h_rn := h_rn.below bn
     replace h_rp := h_rp.below bn
     replace h_rq := h_rq.below bn
     replace h_rr := h_rr.below bn
     replace h_rd := h_rd.below bn
     replace h_rs := h_rs.below bn
     replace h_rt := h_rt.below bn
     replace h_ru := h_ru.below bn
     replace h_rv := h_rv.below bn
     replace bw := below_two bw bn
     clear bn
     have h_ro := rowA_new w61 23 (dimV dim0)
     have bn := below_new w61 (.cells (dimV dim0) 23)
     replace HT := HT.below bn
     replace h_rx := h_rx.below bn
     replace h_ry := h_ry.below bn
     replace h_rz := h_rz.below bn
     replace h_rm := h_rm.below bn
     replace h_rn := h_rn.below bn
     replace h_rp := h_rp.below bn
     replace h_rq := h_rq.below bn
     replace h_rr := h_rr.below bn
     replace h_rd := h_rd.below bn
     replace h_rs := h_rs.below bn
     replace h_rt := h_rt.below bn
     replace h_ru := h_ru.below bn
     replace h_rv := h_rv.below bn
     replace bw := below_two bw bn
     clear bn
     have heq0 := fun W => equal_dim (xs := Lm) (ys := Lm) HLLm.out HLLm.out (b := true) (by simp) W
     have heq1 := fun W => equal_dim (xs := Lp) (ys := Lp) HLLp.out HLLp.out (b := true) (by simp) W
     have heq2 := fun W => equal_dim (xs := X) (ys := X) HLX.out HLX.out (b := true) (by simp) W
     have heq3 := fun W => equal_dim (xs := Lu) (ys := Lu) HLLu.out HLLu.out (b := true) (by simp) W
     have heq5 := fun W => equal_dim (xs := dim0) (ys := dim0) rfl rfl (b := true) (by decide) W
     change ∀ W, (Op.equalIn 10000 23 (.agg (dimV dim0)) (.agg #[.int .i64 0, .int .i64 0, .int .i64 0, .int .i64 0, .int .i64 0, .int .i64 0, .int .i64 0])).run Tryd.prog W = .ok true W at heq5
     have HI_m := Lib.hid h_rm.inV
     have HI_n := Lib.hid h_rn.inV
     have HI_p := Lib.hid h_rp.inV
     have HI_r := Lib.hid h_rr.inV
     have HI_d := Lib.hid h_rd.inV
     have HI_x := Lib.hid h_rx.inV
     have HI_u := Lib.hid h_ru.inV
     have HI_v := Lib.hid h_rv.inV
     have HI_o := Lib.hid h_ro.inV
     go_wp2_with (first | (refine wpList_loadV (by rfl) 23 _ (by rfl) _ _ (by rfl) _ (by assumption) (by assumption) ?_) | (refine wpList_storeNew (by rfl) 23 _ _ (by rfl) _ _ _ (by rfl) (by rfl) (by assumption) ?_))
     clear HI_m HI_n HI_p HI_r HI_d HI_x HI_u HI_v HI_o heq0 heq1 heq2 heq3 heq5
     generalize w61.alloc (.cells (dimV dim0) 23) = w62 at *
     obtain ⟨q_o, eg⟩ : ∃ g, g = w61.heap.size := ⟨_, rfl⟩
     rw [← eg] at h_ro ⊢
     clear eg
     refine (wakes_any _ HT).mono ?_
     rintro e w63 ⟨rfl, bn⟩
     replace HT := HT.below bn
     replace h_rx := h_rx.below bn
     replace h_ry := h_ry.below bn
     replace h_rz := h_rz.below bn
     replace h_rm := h_rm.below bn
     replace h_rn := h_rn.below bn
     replace h_rp := h_rp.below bn
     replace h_rq := h_rq.below bn
     replace h_rr := h_rr.below bn
     replace h_rd := h_rd.below bn
     replace h_rs := h_rs.below bn
     replace h_rt := h_rt.below bn
     replace h_ru := h_ru.below bn
     replace h_rv := h_rv.below bn
     replace h_ro := h_ro.below bn
     replace bw := below_two bw bn
     clear bn
     clear HT
     go_wp2
     go_ret
     exact ⟨rfl, bw⟩
theorem tab_of {W : World} (h : laidMet Tryd.prog Rows.dimGroupRow.laid W) : DTab W := by
 refine ⟨?_, ?_⟩
 · first | exact units_tab (laidMet_drop 0 h) (by decide +kernel) | exact units_tab (laidMet_drop 1 h) (by decide +kernel) | exact units_tab (laidMet_drop 2 h) (by decide +kernel) | exact units_tab (laidMet_drop 3 h) (by decide +kernel) | exact units_tab (laidMet_drop 4 h) (by decide +kernel) | exact units_tab (laidMet_drop 5 h) (by decide +kernel) | exact units_tab (laidMet_drop 6 h) (by decide +kernel) | exact units_tab (laidMet_drop 7 h) (by decide +kernel) | exact units_tab (laidMet_drop 8 h) (by decide +kernel) | exact units_tab (laidMet_drop 9 h) (by decide +kernel) | exact units_tab (laidMet_drop 10 h) (by decide +kernel) | exact units_tab (laidMet_drop 11 h) (by decide +kernel) | exact units_tab (laidMet_drop 12 h) (by decide +kernel) | exact units_tab (laidMet_drop 13 h) (by decide +kernel)
 · first | exact pow10_tab (laidMet_drop 0 h) (by decide +kernel) | exact pow10_tab (laidMet_drop 1 h) (by decide +kernel) | exact pow10_tab (laidMet_drop 2 h) (by decide +kernel) | exact pow10_tab (laidMet_drop 3 h) (by decide +kernel) | exact pow10_tab (laidMet_drop 4 h) (by decide +kernel) | exact pow10_tab (laidMet_drop 5 h) (by decide +kernel) | exact pow10_tab (laidMet_drop 6 h) (by decide +kernel) | exact pow10_tab (laidMet_drop 7 h) (by decide +kernel) | exact pow10_tab (laidMet_drop 8 h) (by decide +kernel) | exact pow10_tab (laidMet_drop 9 h) (by decide +kernel) | exact pow10_tab (laidMet_drop 10 h) (by decide +kernel) | exact pow10_tab (laidMet_drop 11 h) (by decide +kernel) | exact pow10_tab (laidMet_drop 12 h) (by decide +kernel) | exact pow10_tab (laidMet_drop 13 h) (by decide +kernel)
set_option maxRecDepth 100000 in
theorem lifted (os : Os) (started : os.Started) (H : Type) (enc : TypeId × Value → H) :
 ReturnsInHanded {} Tryd.checked os 4 .any (fun w args => (Rows.dimGroupSpec.pre enc Tryd.prog Tryd.f4 [] false w args ∧ laidMetH Tryd.prog Rows.dimGroupRow.laid w) ∧ sizedMet enc Tryd.prog Tryd.f4 (OpenSpec.ofChange Rows.dimGroupSpec) false w args)
  (Rows.dimGroupSpec.post enc Tryd.prog Tryd.f4 false true false false) := by
 refine returnsInHanded_of_change_and (C := Tryd.checked) (X := fun w _ => laidMetH Tryd.prog Rows.dimGroupRow.laid w) (fun _ _ _ hh h => h.of_heap hh) own started (by kernel_rfl) Tryd.func4
  (ChangeSpec.witness_shaped (enc := enc) (C := Tryd.checked) (os := os) (X := fun w _ => laidMetH Tryd.prog Rows.dimGroupRow.laid w) false (World.laidAll Tryd.prog os Rows.dimGroupRow.laid) #[.agg #[.int .i8 0, .int .i8 0, .int .i8 0, .int .i8 0, .int .i8 0, .int .i8 0, .int .i8 0], .agg #[.int .i8 0, .int .i8 0, .int .i8 0, .int .i8 0, .int .i8 0, .int .i8 0, .int .i8 0], .agg #[.int .i8 0, .int .i8 0, .int .i8 0, .int .i8 0, .int .i8 0, .int .i8 0, .int .i8 0]] 8 (World.laidAll_os _ _ _)
    (World.shaped_of_ZipB (by kernel_rfl) (by kernel_rfl)) (by kernel_rfl) (by kernel_rfl) (by kernel_rfl)
    (by rw [MakeChecks.laidMetH_plain _ _ _ (by kernel_rfl)]; exact laidMet_laidAll _ (by kernel_rfl) (by kernel_rfl))) ?_
 intro W base args ds gs before hval0 hW _ _ hL _
 have hval : ∀ (j : Nat) t v, Tryd.f4.params[j]? = some t → args[j]? = some v → Value.okWide Tryd.prog W .any base t v := hval0
 have hW' := hW
 obtain ⟨p, q, hA0, hV, rfl, hfz, hnd⟩ := hW
 have hA : DataW.TrodAll enc Tryd.prog W 0 (fun _ => true) true Tryd.f4.params.toList args.toList ds p := hA0
 rw [Tryd.params4] at hA hval
 obtain ⟨v0, vs0, d0, ds0, p0, q0, hargs, rfl, rfl, h0, r0⟩ := trodAll_cons hA
 obtain ⟨v1, vs1, d1, ds1, p1, q1, rfl, rfl, rfl, h1, r1⟩ := trodAll_cons r0
 obtain ⟨v2, vs2, d2, ds2, p2, q2, rfl, rfl, rfl, h2, r2⟩ := trodAll_cons r1
 obtain ⟨rfl, rfl, rfl⟩ := trodAll_nil r2
 obtain rfl : args = #[v0, v1, v2] := by cases args; simp_all
 obtain ⟨rfl, rfl⟩ := trodVars_none hV
 obtain ⟨z0, rfl, w0, u0⟩ := open_arr (n := 7) (K := .i8) Tryd.underlying37 Tryd.underlying36 (by kernel_rfl) (by kernel_rfl) (hval 0 37 v0 rfl rfl) h0
 obtain ⟨z1, rfl, w1, u1⟩ := open_arr (n := 7) (K := .i8) Tryd.underlying37 Tryd.underlying36 (by kernel_rfl) (by kernel_rfl) (hval 1 37 v1 rfl rfl) h1
 obtain ⟨z2, rfl, w2, u2⟩ := open_arr (n := 7) (K := .i8) Tryd.underlying37 Tryd.underlying36 (by kernel_rfl) (by kernel_rfl) (hval 2 37 v2 rfl rfl) h2
 clear hA0 hval0
 simp only [List.append_nil] at hW'
 rw [MakeChecks.laidMetH_plain _ _ _ (by kernel_rfl)] at hL
 refine (walk z0 z1 z2 W w0 u0 w1 u1 w2 u2 (tab_of hL)).mono fun e W' ⟨he, bel⟩ => ?_
 subst he
 exact ⟨_, rfl, _, _, _, [], _, [], hW', trodAll_mk1 (shut_bool Tryd.underlying4 _), (trodAll_cons_mk (Below.trod laidOut (by kernel_rfl) (of_decide_eq_true (by kernel_rfl)) h0 bel (places_lt h0)) (trodAll_cons_mk (Below.trod laidOut (by kernel_rfl) (of_decide_eq_true (by kernel_rfl)) h1 bel (places_lt h1)) (trodAll_cons_mk (Below.trod laidOut (by kernel_rfl) (of_decide_eq_true (by kernel_rfl)) h2 bel (places_lt h2)) trodAll_mk0))), rfl, bel.frame _, fun h => by cases h⟩
theorem over : Rows.dimGroupRow.holds Tryd.pinned (OpenSpec.ofChange Rows.dimGroupSpec) :=
 OpenClaim.holds_of_wide 4 Tryd.f4 rfl rfl rfl rfl rfl rfl rfl ⟨rfl, rfl, rfl, rfl, rfl⟩ rfl rfl rfl rfl rfl (by kernel_rfl) Tryd.func4 (by kernel_rfl)
  (of_decide_eq_true (by kernel_rfl)) (by unfold Func.isWrapper; first | (rw [if_pos (by decide +kernel)]; kernel_rfl) | (rw [if_neg (by decide +kernel)]; exact ⟨rfl, rfl⟩))
  (fun os started H enc _ => lifted os started H enc)
theorem proved : Rows.DimGroupCardSaid :=
 Claim7.holds_tied_plain_at .later [] Rows.dimGroupCard.laidKinds true Rows.dimGroupCard.stood.harness Rows.dimGroupCard.stood.looks
  over (fun _ h => by cases h) (by kernel_rfl) (fun _ h => by cases h) dimGroup_row_tie rfl ⟨rfl, rfl⟩ (by kernel_rfl) rfl
  (fun f fn hf hfn => by
    obtain rfl : f = 4 := Option.some.inj ((show Tryd.prog.funcNamed Rows.dimGroupRow.func = some 4 by kernel_rfl).symm.trans hf) |>.symm
    obtain rfl : fn = Tryd.f4 := (Option.some.inj (Tryd.func4.symm.trans hfn)).symm
    exact ⟨by kernel_rfl, fun j t ht => by
     have hm : t ∈ Tryd.f4.params.toList := by simpa using Array.mem_of_getElem? ht
     have hall : (Tryd.f4.params.toList.all fun u => !Tryd.prog.wantsStandIn u) = true := by kernel_rfl
     exact (show Tryd.prog.wantsStandIn t = false by simpa using List.all_eq_true.1 hall t hm)⟩)
  (by kernel_rfl)
end Go.Proofs.YtbljphnfijiciaaDoor.lawDimGroup
