/- Part 3 of the texts that the statements of this seat lean on: mathematics, and what functions answer, as contracts over memory; each part says its own conditions. -/
import Derived.Test.YtgdchljbjnhchaaGreatDoorM2
import Derived.Lib.ParseIntB
import Derived.BigQuiet
import Derived.Deep.QuietTactic
import Derived.RangeFuncOwn
import Derived.Lib.AtoiErrMem
import Derived.RangeFuncNested
import Derived.RangeFuncBox
import Derived.RangeFuncBound
import Derived.RangeFuncCalls
import Derived.RangeFuncLeaves
import Derived.Shelf.Abstract
import Derived.Shelf.RegionOpen
import Derived.OwnWalkIn
import Derived.TacticsInMore
import Derived.LoopNIn
import Derived.LoopIn
import Derived.Test.YtgdchljbjnhchaaGreatDoorShelf
import Derived.Orders
import Derived.Below
import Derived.Deep.RegionWith
/- What package whole's own helpers answer (signed, isBelow), and strings.CutPrefix of a minus sign, as contracts over memory. Conditions: sizes of at most so many limbs. -/
namespace Go.Proofs.YtgdchljbjnhchaaGreatDoor
open Go.RowKit Limb
set_option linter.unusedVariables false

theorem len_limbs_zero {a : Nat} : (limbs a).length = 0 ↔ a = 0 := by
  constructor
  · intro h
    have h2 := val_limbs a
    rw [List.eq_nil_of_length_eq_zero h] at h2
    exact h2.symm
  · rintro rfl; rw [limbs_zero]; rfl

/-- Two results: a row of cells, and a plain one. -/
theorem results_mixed {P : Program} {fn : Func} {p q : Tmp} {ty : TypeId} (h : fn.results = #[.cell p ty, .tmp q]) (tmps : Array Value) (w : World) (g : Nat) (t : TypeId) (cs : Array Value) (fr : Nat × Nat) (d : TypeDesc) (v : Value)
    (hp : tmps.getD p undef = .pointer (some ⟨g, 0, none⟩)) (hq : tmps.getD q undef = v) (hg : w.heap[g]? = some (.cells cs t fr))
    (hu : P.underlying ty = some d) (hd : (match d with | .struct _ | .array _ _ => true | _ => false) = true) (hi : (P.info? ty).map (·.size) = some cs.size) :
    (results fn tmps).run P w = .ok (.tuple #[.agg cs, v]) w := by
  have hp' : tmps[p]?.getD undef = .pointer (some ⟨g, 0, none⟩) := by simpa using hp
  have hq' : tmps[q]?.getD undef = v := by simpa using hq
  simp [results, h, hp', hq', asAddr, run_loadVar_row w g t ty cs fr d hg hu hd hi]

section
variable {w : World} {s s' : Bool} {A A' : Option Addr} {n c n' c' : Nat} {xs ys : List Nat} {x y : Int} {L L' : Nat}

theorem signed_c {a : Nat} (hx : NN w A n c (limbs a) a L) (b : Bool) (z : Int) (hz : zOf b a = z) :
    Calls Tryz.prog 28 #[.bool b, .slice A n c] w fun e w' => e = .returned (.agg #[.bool (sg z), .slice A n c]) ∧ ZZ w' (sg z) A n c (limbs z.natAbs) z L ∧ Below w.heap.size w w' := by
  have ez : z.natAbs = a := by rw [← hz, zOf_abs]
  have hn : n = 0 ↔ a = 0 := by rw [← hx.isN.len]; exact len_limbs_zero
  have HZ : RowKit.Hid (ZZ w (sg z) A n c (limbs z.natAbs) z L) := ZZ.mk' (by rw [ez]; exact hx)
  clear hx
  by_cases hb : b = true
  · subst hb
    by_cases h0 : a = 0
    · have es : sg z = false := by rw [← hz, h0]; rfl
      obtain rfl : n = 0 := hn.2 h0
      rw [es] at HZ ⊢
      clear es hn ez hz h0
      go_enter Tryz.func28, Tryz.ntmps28
      go_wp2
      refine bodyPost_ret (results_cell_row rfl _ _ w.heap.size 25 #[.bool false, .slice A 0 c] (0, 0) _ rfl (row2_new w _ _ _) Tryz.underlying25 rfl int_size) rfl ?_
      exact ⟨rfl, HZ.out.below (below_new _ _), below_new _ _⟩
    · have es : sg z = true := by
        rw [← hz]; apply sg_neg
        unfold zOf; rw [if_pos rfl]; omega
      have Hp : RowKit.Hid (decide (0 < n) = true) := by
        have : n ≠ 0 := fun h => h0 (hn.1 h)
        show _ = _
        rw [decide_eq_true_eq]; omega
      rw [es] at HZ ⊢
      clear es hn ez hz h0
      go_enter Tryz.func28, Tryz.ntmps28
      go_wp2
      refine bodyPost_ret (results_cell_row rfl _ _ w.heap.size 25 #[.bool (decide (0 < n)), .slice A n c] (0, 0) _ rfl (row2_new w _ _ _) Tryz.underlying25 rfl int_size) rfl ?_
      exact ⟨by rw [Hp.out], HZ.out.below (below_new _ _), below_new _ _⟩
  · have hb2 : b = false := by simpa using hb
    subst hb2
    have es : sg z = false := by rw [← hz]; apply sg_pos; unfold zOf; simp
    rw [es] at HZ ⊢
    clear es hn ez hz hb
    go_enter Tryz.func28, Tryz.ntmps28
    go_wp2
    refine bodyPost_ret (results_cell_row rfl _ _ w.heap.size 25 #[.bool false, .slice A n c] (0, 0) _ rfl (row2_new w _ _ _) Tryz.underlying25 rfl int_size) rfl ?_
    exact ⟨rfl, HZ.out.below (below_new _ _), below_new _ _⟩

theorem isBelow_c (hx : ZZ w s A n c xs x L) (h1 : L ≤ 1000000000) (v : Bool) (hv : sg x = v) :
    Calls Tryz.prog 40 #[.agg #[.bool s, .slice A n c]] w fun e w' => e = .returned (.bool v) ∧ Below w.heap.size w w' := by
  have b1 := below_new w (.cells #[Value.bool s, Value.slice A n c] 25)
  have r1 := row2_new w 25 (.bool s) (.slice A n c)
  have HN := Lib.hid (hx.nn.below b1)
  have HB := Lib.hid b1
  have hc0 := r1.c0
  have hc1 := r1.c1
  have hsg := hx.sgn
  clear b1 r1 hx
  cases s with
  | false =>
    have ev : v = false := by rw [← hv]; apply sg_pos; rw [hsg]; simp
    subst ev
    clear hsg hv
    go_enter Tryz.func40, Tryz.ntmps40
    go_wp2
    go_ret
    exact ⟨rfl, HB.out⟩
  | true =>
    have ev : decide ((0 : Int) < ((blen x.natAbs : Nat) : Int)) = v := by
      rw [← hv]
      unfold sg
      rw [if_pos rfl] at hsg
      rw [decide_eq_decide]
      have h2 : blen x.natAbs = 0 ↔ x.natAbs = 0 := blen_eq_zero
      omega
    obtain ⟨m, hm⟩ : ∃ m, ((blen x.natAbs : Nat) : Int) = m := ⟨_, rfl⟩
    rw [hm] at ev
    have Hm := Lib.hid hm
    clear hsg hv hm
    go_enter Tryz.func40, Tryz.ntmps40
    go_wp2_with fail
    refine (bits_c HN.out h1 m Hm.out).mono ?_
    rintro e w2 ⟨rfl, rfl⟩
    by_cases hp : 0 < m
    · have ev2 : v = true := by rw [← ev]; simp [hp]
      subst ev2
      go_wp2
      go_ret
      exact ⟨rfl, HB.out⟩
    · have ev2 : v = false := by rw [← ev]; simp; omega
      subst ev2
      go_wp2
      go_ret
      exact ⟨rfl, HB.out⟩
end

/-- The first byte of a text is a minus sign; what stands behind it. -/
theorem bytesOf_tail {S : ByteArray} (h : 1 ≤ S.size) : bytesOf (S.extract 1 S.size) = (bytesOf S).tail := by
  unfold bytesOf
  rw [ByteArray.data_extract, Array.toList_extract, List.extract_eq_take_drop, List.map_take, List.map_drop, List.drop_one]
  refine List.take_of_length_le ?_
  rw [List.length_tail, List.length_map, Array.length_toList]
  exact Nat.le_refl _
theorem bytesOf_first {S : ByteArray} : bytesOf (S.extract 0 1) = (bytesOf S).take 1 := by
  unfold bytesOf
  rw [ByteArray.data_extract, Array.toList_extract, List.extract_eq_take_drop, List.map_take, List.map_drop]
  rfl
theorem head_minus (S : ByteArray) : ((S.extract 0 1).toList == (⟨#[45]⟩ : ByteArray).toList) = decide ((bytesOf S).head? = some 45) := by
  have e1 : S.extract 0 1 = strOf ((bytesOf S).take 1) := by rw [← bytesOf_first, strOf_bytesOf]
  have e2 : (⟨#[45]⟩ : ByteArray) = strOf [45] := rfl
  rw [e1, e2, str_beq (bytes_take (bytes_bytesOf S) 1) (bytes_cons.2 ⟨by decide, bytes_nil⟩), decide_eq_decide]
  cases bytesOf S with
  | nil => simp
  | cons x l => simp

theorem hasMinus_c (S : ByteArray) (v : Bool) (hv : decide ((bytesOf S).head? = some 45) = v) (w : World) :
    Calls Tryz.prog 66 #[.string S, .string ⟨#[45]⟩] w fun e w' => e = .returned (.bool v) ∧ w = w' := by
  by_cases h0 : S.size = 0
  · have ev : v = false := by
      rw [← hv, List.eq_nil_of_length_eq_zero ((length_bytesOf S).trans h0)]; rfl
    subst ev
    have h1 : (S.size : Int) < 1 := by omega
    clear hv h0
    go_enter Tryz.func66, Tryz.ntmps66
    go_wp2
    go_ret
    exact ⟨rfl, rfl⟩
  · have h1 : (1 : Int) ≤ (S.size : Int) := by omega
    have h2 : 1 ≤ S.size := by omega
    rw [← head_minus] at hv
    obtain ⟨G, hG⟩ : ∃ G, S.extract 0 1 = G := ⟨_, rfl⟩
    rw [hG] at hv
    have e45 : (⟨#[45]⟩ : ByteArray).toList = [45] := toList_strOf [45]
    rw [e45] at hv
    have HV := Lib.hid hv
    clear h0 hv e45
    go_enter Tryz.func66, Tryz.ntmps66
    go_wp2
    go_ret
    exact ⟨by show Ending.returned (Value.bool (G.toList == [45])) = _; rw [HV.out], rfl⟩

theorem cutLite_yes (S : ByteArray) (h : (bytesOf S).head? = some 45) (w : World) :
    Calls Tryz.prog 46 #[.string S, .string ⟨#[45]⟩] w fun e w' => ∃ R : ByteArray, e = .returned (.tuple #[.string R, .bool true]) ∧ bytesOf R = (bytesOf S).tail ∧ w = w' := by
  have h0 : S.size ≠ 0 := by
    intro h0
    rw [List.eq_nil_of_length_eq_zero ((length_bytesOf S).trans h0)] at h
    cases h
  have h1 : (1 : Int) ≤ (S.size : Int) := by omega
  have h2 : 1 ≤ S.size := by omega
  have HT := Lib.hid (bytesOf_tail h2)
  have HC := Lib.hid (hasMinus_c S true (by rw [h]; rfl) w)
  obtain ⟨R, hR⟩ : ∃ R, S.extract 1 S.size = R := ⟨_, rfl⟩
  rw [hR] at HT
  clear h h0
  go_enter Tryz.func46, Tryz.ntmps46
  go_wp2_with fail
  refine HC.out.mono ?_
  rintro e w2 ⟨rfl, rfl⟩
  go_wp2
  go_ret2
  exact ⟨R, rfl, HT.out, rfl⟩
theorem cutLite_no (S : ByteArray) (h : (bytesOf S).head? ≠ some 45) (w : World) :
    Calls Tryz.prog 46 #[.string S, .string ⟨#[45]⟩] w fun e w' => e = .returned (.tuple #[.string S, .bool false]) ∧ w = w' := by
  have HC := Lib.hid (hasMinus_c S false (by simpa using h) w)
  clear h
  go_enter Tryz.func46, Tryz.ntmps46
  go_wp2_with fail
  refine HC.out.mono ?_
  rintro e w2 ⟨rfl, rfl⟩
  go_wp2
  go_ret2
  exact ⟨rfl, rfl⟩
theorem cutMinus_yes (S : ByteArray) (h : (bytesOf S).head? = some 45) (w : World) :
    Calls Tryz.prog 25 #[.string S, .string ⟨#[45]⟩] w fun e w' => ∃ R : ByteArray, e = .returned (.tuple #[.string R, .bool true]) ∧ bytesOf R = (bytesOf S).tail ∧ w = w' := by
  have HC := Lib.hid (cutLite_yes S h w)
  clear h
  go_enter Tryz.func25, Tryz.ntmps25
  go_wp2_with fail
  refine HC.out.mono ?_
  rintro e w2 ⟨R, rfl, hR, rfl⟩
  have HR := Lib.hid hR
  clear hR
  go_wp2
  go_ret2
  exact ⟨R, rfl, HR.out, rfl⟩
theorem cutMinus_no (S : ByteArray) (h : (bytesOf S).head? ≠ some 45) (w : World) :
    Calls Tryz.prog 25 #[.string S, .string ⟨#[45]⟩] w fun e w' => e = .returned (.tuple #[.string S, .bool false]) ∧ w = w' := by
  have HC := Lib.hid (cutLite_no S h w)
  clear h
  go_enter Tryz.func25, Tryz.ntmps25
  go_wp2_with fail
  refine HC.out.mono ?_
  rintro e w2 ⟨rfl, rfl⟩
  go_wp2
  go_ret2
  exact ⟨rfl, rfl⟩
end Go.Proofs.YtgdchljbjnhchaaGreatDoor

/- Plain mathematics of decimal digits nine by nine: groups of nine, their digits, noughts ahead; what package digits keeps in its table. No condition. -/
namespace Go.Proofs.YtgdchljbjnhchaaGreatDoor.Limb

/-- The last k decimal digits of v, noughts ahead too. -/
def pad : Nat → Nat → List Nat
  | 0, _ => []
  | k + 1, v => pad k (v / 10) ++ [48 + v % 10]
theorem pad_len (k v : Nat) : (pad k v).length = k := by
  induction k generalizing v with
  | zero => rfl
  | succ k ih => rw [pad, List.length_append, ih]; rfl
theorem pad_dig (k v : Nat) : allDig (pad k v) = true := by
  induction k generalizing v with
  | zero => rfl
  | succ k ih => rw [pad, allDig_append, ih]; exact allDig_iff.2 fun x hx => by simp at hx; omega
theorem pad_val (k v : Nat) : decV (pad k v) = v % 10 ^ k := by
  induction k generalizing v with
  | zero => rw [pad, decV_nil, Nat.pow_zero, Nat.mod_one]
  | succ k ih =>
    rw [pad, decV_snoc, ih, Nat.add_sub_cancel_left, Nat.pow_succ, Nat.mul_comm (10 ^ k) 10, Nat.mod_mul]
    omega
theorem pad_step (k p v : Nat) : pad (k + 1) (v / 10 ^ p) = pad k (v / 10 ^ (p + 1)) ++ [48 + v / 10 ^ p % 10] := by
  rw [pad, Nat.div_div_eq_div_mul, ← Nat.pow_succ]

/-- The number that groups of nine digits tell, the lowest first. -/
def gval : List Nat → Nat
  | [] => 0
  | g :: r => gval r * 1000000000 + g
/-- Their digits, the highest first. -/
def flat : List Nat → List Nat
  | [] => []
  | g :: r => flat r ++ pad 9 g
theorem gval_snoc (l : List Nat) (x : Nat) : gval (l ++ [x]) = gval l + x * 1000000000 ^ l.length := by
  induction l with
  | nil => simp [gval]
  | cons g r ih =>
    rw [List.cons_append, gval, ih, gval, List.length_cons, Nat.pow_succ, Nat.add_mul, Nat.mul_assoc]
    omega
theorem flat_dig (l : List Nat) : allDig (flat l) = true := by
  induction l with
  | nil => rfl
  | cons g r ih => rw [flat, allDig_append, ih, pad_dig]; rfl
theorem flat_len (l : List Nat) : (flat l).length = 9 * l.length := by
  induction l with
  | nil => rfl
  | cons g r ih => rw [flat, List.length_append, ih, pad_len, List.length_cons]; omega
theorem flat_val (l : List Nat) (h : ∀ x ∈ l, x < 1000000000) : decV (flat l) = gval l := by
  induction l with
  | nil => rfl
  | cons g r ih =>
    rw [flat, decV_append, ih (fun x hx => h x (by simp [hx])), pad_val, pad_len, gval]
    have := h g (by simp)
    rw [show (10 : Nat) ^ 9 = 1000000000 from rfl, Nat.mod_eq_of_lt this]

/-- Without noughts ahead. -/
def bare (l : List Nat) : List Nat := l.dropWhile (· == 48)
theorem bare_dig {l : List Nat} (h : allDig l = true) : allDig (bare l) = true := allDig_iff.2 fun x hx => allDig_iff.1 h x ((List.dropWhile_sublist _).mem hx)
theorem bare_val (l : List Nat) : decV (bare l) = decV l := by
  induction l with
  | nil => rfl
  | cons x r ih =>
    unfold bare at ih ⊢
    by_cases hx : x = 48
    · subst hx; rw [List.dropWhile_cons_of_pos (by simp), ih, decV_cons]; simp
    · rw [List.dropWhile_cons_of_neg (by simp; exact hx)]
theorem bare_head (l : List Nat) (h : bare l ≠ []) : lim (bare l) 0 ≠ 48 := by
  induction l with
  | nil => exact absurd rfl h
  | cons x r ih =>
    unfold bare at ih h ⊢
    by_cases hx : x = 48
    · subst hx
      rw [List.dropWhile_cons_of_pos (by simp)] at h ⊢
      exact ih h
    · rw [List.dropWhile_cons_of_neg (by simp; exact hx)]; simpa [lim] using hx
theorem bare_nil {l : List Nat} (h : allDig l = true) : bare l = [] ↔ decV l = 0 := by
  constructor
  · intro e; rw [← bare_val, e]; rfl
  · intro e
    rcases Classical.em (bare l = []) with h0 | h0
    · exact h0
    · have := pow_le_of_head (bare_dig h) h0 (bare_head l h0)
      rw [bare_val, e] at this
      have : 0 < 10 ^ ((bare l).length - 1) := Nat.pow_pos (by decide)
      omega
theorem bare_dec {l : List Nat} (h : allDig l = true) (h0 : bare l ≠ []) : bare l = decT (decV l) := (decT_eq (bare_dig h) h0 (bare_head l h0) (bare_val l)).symm

/-- The first k bytes are noughts. -/
def Lead (l : List Nat) (k : Nat) : Prop := k ≤ l.length ∧ bare l = bare (l.drop k)
theorem Lead.start (l : List Nat) : Lead l 0 := ⟨Nat.zero_le _, rfl⟩
theorem Lead.step {l : List Nat} {k : Nat} (h : Lead l k) (hk : k < l.length) (h48 : lim l k = 48) : Lead l (k + 1) := by
  refine ⟨hk, ?_⟩
  have e : l[k] = 48 := by rw [← h48]; simp [lim, List.getD_eq_getElem?_getD, List.getElem?_eq_getElem hk]
  rw [h.2, List.drop_eq_getElem_cons hk, e]
  rfl
theorem Lead.done {l : List Nat} {k : Nat} (h : Lead l k) (hk : k < l.length) (h48 : lim l k ≠ 48) : bare l = l.drop k := by
  have e : l[k] ≠ 48 := by
    intro e; apply h48; rw [← e]; simp [lim, List.getD_eq_getElem?_getD, List.getElem?_eq_getElem hk]
  rw [h.2, List.drop_eq_getElem_cons hk, bare, List.dropWhile_cons_of_neg (by simp; exact e)]
theorem Lead.all {l : List Nat} {k : Nat} (h : Lead l k) (hk : k = l.length) : bare l = [] := by
  rw [h.2, hk, List.drop_length]; rfl

/-- Groups so far, and the number that is left. -/
def GInv (a : Nat) (gs : List Nat) (m : Nat) : Prop := a = m * 1000000000 ^ gs.length + gval gs ∧ (∀ x ∈ gs, x < 1000000000) ∧ (gs.length ≤ 1 ∨ 1000000000 ^ (gs.length - 1) ≤ a)
theorem GInv.start (a : Nat) : GInv a [] a := ⟨by simp [gval], by simp, .inl (by simp)⟩
theorem GInv.step {a m : Nat} {gs : List Nat} (h : GInv a gs m) (h0 : m ≠ 0 ∨ gs = []) : GInv a (gs ++ [m % 1000000000]) (m / 1000000000) := by
  obtain ⟨h1, h2, h3⟩ := h
  refine ⟨?_, ?_, ?_⟩
  · rw [gval_snoc, List.length_append, List.length_singleton, Nat.pow_succ]
    have e := Nat.div_add_mod m 1000000000
    generalize m / 1000000000 = q at *
    generalize m % 1000000000 = r at *
    generalize 1000000000 ^ gs.length = p at *
    subst e
    rw [h1]
    grind
  · intro x hx
    rcases List.mem_append.1 hx with h | h
    · exact h2 x h
    · simp at h; omega
  · rw [List.length_append, List.length_singleton, Nat.add_sub_cancel]
    rcases h0 with h0 | h0
    · right
      have : 1 * 1000000000 ^ gs.length ≤ m * 1000000000 ^ gs.length := Nat.mul_le_mul_right _ (by omega)
      omega
    · left; subst h0; simp
theorem GInv.done {a : Nat} {gs : List Nat} (h : GInv a gs 0) : gval gs = a := by have := h.1; omega
theorem GInv.len {a m L : Nat} {gs : List Nat} (h : GInv a gs m) (hl : a < 4294967296 ^ L) : gs.length ≤ 2 * L + 1 := by
  rcases h.2.2 with h1 | h1
  · omega
  · have h2 : 1000000000 ^ (gs.length - 1) < 10 ^ (10 * L) := Nat.lt_of_le_of_lt h1 (Nat.lt_of_lt_of_le hl pow_digits)
    rw [show (1000000000 : Nat) = 10 ^ 9 from rfl, ← Nat.pow_mul] at h2
    have := (Nat.pow_lt_pow_iff_right (a := 10) (by decide)).1 h2
    omega

theorem PInv.group {l : List Nat} {i t m : Nat} (h : PInv l i t) (hm : i + m ≤ l.length) (hd : allDig ((l.drop i).take m) = true) : PInv l (i + m) (t * 10 ^ m + decV ((l.drop i).take m)) := by
  have e : l.take (i + m) = l.take i ++ (l.drop i).take m := by rw [List.take_add]
  have hl : ((l.drop i).take m).length = m := by rw [List.length_take, List.length_drop]; omega
  refine ⟨by rw [e, allDig_append, h.1, hd]; rfl, by rw [e, decV_append, h.2, hl]⟩

/-- What the library's reader makes of bytes that are too few to overflow. -/
theorem parseM_few (M : Nat) (hM : M ≤ 4294967295) : ∀ (l : List UInt8) (acc : Nat), acc * 10 ^ l.length + 10 ^ l.length ≤ M + 1 →
    Lib.parseUintM M acc l = if allDig (l.map UInt8.toNat) = true then Lib.NumEnd.ok (acc * 10 ^ l.length + decV (l.map UInt8.toNat)) else Lib.NumEnd.syntax
  | [], acc, _ => by
    rw [Lib.parseUintM, if_pos (by rfl)]
    simp [decV_nil]
  | c :: r, acc, h => by
    rw [List.length_cons, Nat.pow_succ] at h
    have h1 : 0 < 10 ^ r.length := Nat.pow_pos (by decide)
    rw [Lib.parseUintM]
    by_cases hd : 48 ≤ c.toNat ∧ c.toNat ≤ 57
    · rw [if_pos hd]
      have h2 : (acc * 10 + (c.toNat - 48)) * 10 ^ r.length + 10 ^ r.length ≤ M + 1 := by
        have h3 := Nat.mul_le_mul_right (10 ^ r.length) (show acc * 10 + (c.toNat - 48) + 1 ≤ acc * 10 + 10 by omega)
        rw [Nat.add_mul, Nat.one_mul] at h3
        have e : (acc * 10 + 10) * 10 ^ r.length = acc * (10 ^ r.length * 10) + 10 ^ r.length * 10 := by grind
        omega
      have h4 : acc * 10 + (c.toNat - 48) ≤ (acc * 10 + (c.toNat - 48)) * 10 ^ r.length := Nat.le_mul_of_pos_right _ h1
      rw [if_neg (by omega), if_neg (by omega), parseM_few M hM r _ h2, List.map_cons]
      have ed : allDig (c.toNat :: r.map UInt8.toNat) = allDig (r.map UInt8.toNat) := by simp [allDig, isDig, hd.1, hd.2]
      have ev : acc * 10 ^ (c :: r).length + decV (c.toNat :: r.map UInt8.toNat) = (acc * 10 + (c.toNat - 48)) * 10 ^ r.length + decV (r.map UInt8.toNat) := by
        rw [decV_cons, List.length_cons, Nat.pow_succ, List.length_map]
        grind
      rw [ed, ev]
    · rw [if_neg hd, List.map_cons]
      have ed : allDig (c.toNat :: r.map UInt8.toNat) = false := by
        simp [allDig, isDig]
        intro h5 h6
        omega
      rw [ed, if_neg (by decide)]

/-- At most nine bytes, and one at least: the number, or a fault. -/
theorem parseB_yes {l : List UInt8} (h0 : l ≠ []) (h9 : l.length ≤ 9) (h : allDig (l.map UInt8.toNat) = true) : Lib.parseUintB 32 l = .ok (decV (l.map UInt8.toNat)) := by
  have hp : 10 ^ l.length ≤ 10 ^ 9 := Nat.pow_le_pow_right (by decide) h9
  rw [Lib.parseUintB, if_neg h0, parseM_few _ (by decide) l 0 (by rw [Nat.zero_mul, Nat.zero_add]; exact Nat.le_trans hp (by decide)), if_pos h, Nat.zero_mul, Nat.zero_add]
theorem parseB_no {l : List UInt8} (h9 : l.length ≤ 9) (h : allDig (l.map UInt8.toNat) = false) : Lib.parseUintB 32 l = Lib.NumEnd.syntax := by
  have hp : 10 ^ l.length ≤ 10 ^ 9 := Nat.pow_le_pow_right (by decide) h9
  rw [Lib.parseUintB]
  split
  · rfl
  · rw [parseM_few _ (by decide) l 0 (by rw [Nat.zero_mul, Nat.zero_add]; exact Nat.le_trans hp (by decide)), if_neg (by rw [h]; decide)]

end Go.Proofs.YtgdchljbjnhchaaGreatDoor.Limb

/- What math/bits' Div32 and package quo's Small answer, as contracts over memory: quotient and rest by one limb. Conditions: the list reads as limbs, of at most 10^8 of them; the high word is below the divisor. -/
namespace Go.Proofs.YtgdchljbjnhchaaGreatDoor
open Go.RowKit Limb
set_option linter.unusedVariables false

theorem or_hi32 (x y : Nat) (hx : x < 4294967296) (hy : y < 4294967296) : bits BinOp.or IntKind.u64 ((x : Int) * 4294967296) (y : Int) = ((x * 4294967296 + y : Nat) : Int) := by
  have e1 : (x : Int) * 4294967296 = ((x * 4294967296 : Nat) : Int) := by omega
  rw [e1, u64_or_nat _ _ (by omega) (by omega), Nat.mul_comm x, show (4294967296 : Nat) = 2 ^ 32 from rfl, Nat.two_pow_add_eq_or_of_lt (by omega)]

set_option maxHeartbeats 400000 in
theorem div32_nat (x y v : Nat) (w : World) (hx : x < v) (hy : y < 4294967296) (hv : v < 4294967296) :
    Calls Tryz.prog 81 #[.int .u32 (x : Int), .int .u32 (y : Int), .int .u32 (v : Int)] w fun e w' => e = .returned (.tuple #[.int .u32 (((x * 4294967296 + y) / v : Nat) : Int), .int .u32 (((x * 4294967296 + y) % v : Nat) : Int)]) ∧ ∃ n, w' = w.drewN n := by
  have hz := one_digit hx hy
  have hm : (x * 4294967296 + y) % v < v := Nat.mod_lt _ (by omega)
  have hs : bits BinOp.or IntKind.u64 ((x : Int) * 4294967296) (y : Int) = ((x * 4294967296 + y : Nat) : Int) := or_hi32 x y (by omega) hy
  obtain ⟨z, hzz⟩ : ∃ z, z = x * 4294967296 + y := ⟨_, rfl⟩
  have hzl : z < 18446744073709551616 := by omega
  rw [← hzz] at hz hm hs ⊢
  obtain ⟨q, hq⟩ : ∃ q, q = z / v := ⟨_, rfl⟩
  obtain ⟨m, hm2⟩ : ∃ m, m = z % v := ⟨_, rfl⟩
  have eq1 : (z : Int) / (v : Int) = (q : Int) := by rw [hq]; simp
  have em1 : (z : Int) % (v : Int) = (m : Int) := by rw [hm2]; simp
  rw [← hq] at hz ⊢
  rw [← hm2] at hm ⊢
  have hv0 : ((v : Int) != 0) = true := by simp; omega
  have hv1 : ((v : Int) == 0) = false := by simp; omega
  clear hzz hq hm2
  go_enter Tryz.func81, Tryz.ntmps81
  go_wp2
  go_quiet (fail)
  go_wp2
  go_ret2
  exact ⟨rfl, _, rfl⟩

theorem ret_small {A : Option Addr} {n c r s : Nat} (h : r = s) : Ending.returned (.tuple #[.slice A n c, .int .u32 ((r : Nat) : Int), .bool true]) = .returned (.tuple #[.slice A n c, .int .u32 ((s : Nat) : Int), .bool true]) := by rw [h]

set_option maxHeartbeats 1000000 in
theorem quoSmall_o {A : Option Addr} {n c : Nat} {xs : List Nat} {a L : Nat} {w : World} (hx : NN w A n c xs a L) (h1 : L ≤ 100000) (v : Nat) (V : Int) (hV : V = v) (hv : v < 4294967296) (h0 : v ≠ 0) :
    Calls Tryz.prog 70 #[.slice A n c, .int .u32 V] w fun e w' => ∃ A1 n1 c1, e = .returned (.tuple #[.slice A1 n1 c1, .int .u32 ((a % v : Nat) : Int), .bool true]) ∧ OwnN w' w.heap.size A1 n1 c1 (limbs (a / v)) ∧ Below w.heap.size w w' := by
  subst hV
  have hv0 : ((v : Int) == 0) = false := by simp; omega
  have hle := hx.le
  have Hval := Lib.hid hx.val
  have Hlt := Lib.hid (lt_pow hx)
  have hT := trim_any A n c xs w hx.isN hx.cap (by omega)
  have hlt := trim_len_le xs
  have hl := hx.isN.len
  have hsm : Small (trim xs) := by rw [trim_eq_limbs hx.isN.small]; exact small_limbs _
  have Hvt : RowKit.Hid (val (trim xs) = a) := by show _ = _; rw [trim_eq_limbs hx.isN.small, val_limbs, Hval.out]
  have hlen : (trim xs).length ≤ 100000 := by omega
  clear hl hlt hx hle Hval
  go_enter Tryz.func70, Tryz.ntmps70
  go_wp2_with fail
  refine hT.mono ?_
  rintro e w1 ⟨A1, n1, c1, rfl, how, hb⟩
  generalize trim xs = ys at *
  have hyl := how.len
  subst hyl
  have How := Lib.hid how
  have Hb := Lib.hid hb
  have hi0 := Lib.hid (OneInv.start ys h0)
  clear how hb hT
  go_wp2
  go_loopw [7, 5] (fun i rv wr => ∃ (k r : Nat) (zs : List Nat), k ≤ ys.length ∧ i = .int .i64 ((k : Int) - 1) ∧ rv = .int .u32 (r : Int) ∧ RowKit.Hid (OneInv ys zs v k r) ∧ RowKit.Hid (OwnN wr w.heap.size A1 ys.length c1 zs) ∧ RowKit.Hid (Below w.heap.size w wr)) (fun i _ _ => (intOf i + 1).toNat)
  case atStart => exact ⟨ys.length, 0, ys, Nat.le_refl _, rfl, rfl, hi0, How, Hb⟩
  case round =>
    clear hi0 How Hb
    obtain ⟨k, r, zs, hk, rfl, rfl, Hinv, How, Hb⟩ := hrel
    by_cases hk0 : k = 0
    · subst hk0
      have hd := Hinv.out.done
      have Hd1 : RowKit.Hid (val zs = a / v) := by show _ = _; rw [hd.1, Hvt.out]
      have hr2 : r = a % v := by rw [hd.2, Hvt.out]
      have Hr := Lib.hid hr2
      have hz := How.out.isN
      have hcap := How.out.caps
      have hsz := How.out.small
      clear hd hr2
      go_wp2_with fail
      refine (trim_any A1 ys.length c1 zs _ hz hcap.1 (by omega)).mono ?_
      rintro e w2 ⟨A2, n2, c2, rfl, how2, hb2⟩
      rw [trim_eq_limbs hsz, Hd1.out] at how2
      have HN := Lib.hid (how2.mono Hb.out.size)
      have HW := Lib.hid (below_two Hb.out hb2)
      clear how2 hb2 hz hcap hsz Hinv How Hb
      go_wp2
      go_ret3
      exact ⟨_, _, _, ret_small Hr.out, HN.out, HW.out⟩
    · obtain ⟨j, rfl⟩ : ∃ j, k = j + 1 := ⟨k - 1, by omega⟩
      have ej : ((j + 1 : Nat) : Int) - 1 = (j : Int) := by omega
      rw [ej]
      obtain ⟨g, rfl, hBg, hgl⟩ := How.out.addr (by omega)
      have h2 := How.out.cell (k := j) (by omega)
      have hr := Hinv.out.2.2.2
      have hz := lim_lt How.out.small j
      clear ej
      go_wp2_with fail
      refine (div32_nat r (lim zs j) v _ hr hz hv).mono ?_
      rintro e w2 ⟨rfl, nd, rfl⟩
      have how2 := How.out.below (below_drewN (Below.refl _ _) nd) (Nat.le_refl _)
      have hb2 := below_drewN Hb.out nd
      have hdl := one_digit hr hz
      have Hst := Lib.hid (Hinv.out.step (k := j) (by omega))
      generalize wr.drewN nd = w2 at *
      obtain ⟨q, hq⟩ : ∃ q, q = (r * 4294967296 + lim zs j) / v := ⟨_, rfl⟩
      obtain ⟨m, hm⟩ : ∃ m, m = (r * 4294967296 + lim zs j) % v := ⟨_, rfl⟩
      rw [← hq] at hdl Hst ⊢
      rw [← hm] at Hst ⊢
      have h3 := how2.cell (k := j) (by omega)
      have h4 := how2.1.frozenAt j
      have Hset := Lib.hid (how2.set j hdl)
      have Hb2 : RowKit.Hid (Below w.heap.size w (w2.setCell ⟨g, j, none⟩ (.int .u32 (q : Int)))) := hb2.setCell (by exact hBg) _
      clear hq hm How Hb Hinv how2 hb2 h2 hz
      go_wp2
      go_roundw
      case rel => exact ⟨j, m, zs.set j q, by omega, by go_num, rfl, Hst, Hset, Hb2⟩
      case measure => simp [intOf] <;> omega

theorem quoSmall_yes {A : Option Addr} {n c : Nat} {xs : List Nat} {a L : Nat} {w : World} (hx : NN w A n c xs a L) (h1 : L ≤ 100000) (v : Nat) (V : Int) (hV : V = v) (hv : v < 4294967296) (h0 : v ≠ 0) :
    Calls Tryz.prog 70 #[.slice A n c, .int .u32 V] w fun e w' => ∃ A1 n1 c1, e = .returned (.tuple #[.slice A1 n1 c1, .int .u32 ((a % v : Nat) : Int), .bool true]) ∧ NN w' A1 n1 c1 (limbs (a / v)) (a / v) L ∧ Below w.heap.size w w' := by
  have Hlt := Lib.hid (lt_pow hx)
  refine (quoSmall_o hx h1 v V hV hv h0).mono ?_
  rintro e w' ⟨A1, n1, c1, rfl, how, hb⟩
  exact ⟨A1, n1, c1, rfl, NN.own how (Nat.lt_of_le_of_lt (Nat.div_le_self _ _) Hlt.out), hb⟩

theorem quoSmall_no {A : Option Addr} {n c : Nat} {xs : List Nat} {a L : Nat} {w : World} (hx : NN w A n c xs a L) (h1 : L ≤ 100000) (V : Int) (hV : V = 0) :
    Calls Tryz.prog 70 #[.slice A n c, .int .u32 V] w fun e w' => ∃ A1 c1, e = .returned (.tuple #[.slice A1 0 c1, .int .u32 0, .bool false]) ∧ Below w.heap.size w w' := by
  subst hV
  go_enter Tryz.func70, Tryz.ntmps70
  go_wp2
  go_ret3
  exact ⟨none, 0, rfl, Below.refl _ _⟩

end Go.Proofs.YtgdchljbjnhchaaGreatDoor

/- What package digits' groups and appendGroup answer, as contracts over memory, where its table of powers of ten reads as it is laid. Condition: the table (Tab), at most 10000 limbs. -/
namespace Go.Proofs.YtgdchljbjnhchaaGreatDoor
open Go.RowKit Limb
set_option linter.unusedVariables false

/-- The table of powers of ten reads as it is laid; the sentinel of strconv is an error. -/
def Tab (w : World) : Prop := (∀ i, i < 10 → w.cell? ⟨0, i, none⟩ = some (.int .u32 ((10 ^ i : Nat) : Int))) ∧ ∃ te pe, w.cell? ⟨1, 0, none⟩ = some (.iface te pe)
theorem Tab.below {w w' : World} (h : Tab w) (hb : Below w.heap.size w w') : Tab w' := by
  obtain ⟨h1, te, pe, h2⟩ := h
  exact ⟨fun i hi => (hb.cell (p := ⟨0, i, none⟩) (Lib.lt_of_cell (h1 i hi))).trans (h1 i hi), te, pe, (hb.cell (p := ⟨1, 0, none⟩) (Lib.lt_of_cell h2)).trans h2⟩
theorem Tab.lt {w : World} (h : Tab w) : 0 < w.heap.size := Lib.lt_of_cell (h.1 0 (by decide))

/-- How long a slice is. -/
def lenOf (v : Value) : Nat := match v with
  | .slice _ n _ => n
  | _ => 0

/-- append of one limb to a row of the call's own, nil too: the literal of one limb lies in a new block. -/
theorem wpList_append_word {w : World} {ops : Array Oper} {rest : List Oper} {o : Oper} {a : Act} {Q : Exit → Act → World → Prop} (hgd : o.guard = none) (s x : Operand)
    (ho : o.op = .call { callee := .builtin .append, args := #[s, x], argTypes := #[22, 22] })
    (base : Nat) (v : Value) (n : Nat) (xs : List Nat) (hs : a.eval s = v) (hown : Hid (w.ownsRow base 42 1 v n (xs.map limV)))
    (g : Nat) (hx : a.eval x = .slice (some ⟨g, 0, none⟩) 1 1) (y : Nat) (hy : Hid (w.cell? ⟨g, 0, none⟩ = some (.int .u32 (y : Int)) ∧ y < 4294967296)) (hb : Hid (n ≤ 1000000000 ∧ base ≤ w.heap.size ∧ Small xs))
    (h : ∀ A2 c2 w', Hid (OwnN w' base A2 (n + 1) c2 (xs ++ [y])) → Hid (w.grownBy w' v.ownBlock) → wpList Tryz.prog ops Q rest (a.put o.dst (.slice A2 (n + 1) c2)) w') : wpList Tryz.prog ops Q (o :: rest) a w := by
  obtain ⟨i0, hi, hz0, hz1, hz2⟩ := info_parts u32_info
  obtain ⟨h1, h3, h4⟩ := hb.out
  refine wpList_append_read hgd s x 22 ho base 42 i0 (.int .u32 0) 4 Tryz.underlying22 hi hz0 hz1 hz2 rfl v n (xs.map limV) hs hown.out (some ⟨g, 0, none⟩) 1 1 ([y].map limV) hx rfl ?_ (oneCell_u32 [y]) (by unfold maxLen; omega) (by omega) h3 ?_
  · intro _
    refine ⟨_, rfl, fun j u hu => ?_⟩
    obtain ⟨hj, rfl⟩ := map_u32_get hu
    obtain rfl : j = 0 := by simpa using hj
    have e : (⟨g, 0, none⟩ : Addr).add 0 = ⟨g, 0, none⟩ := by unfold Addr.add; split <;> simp_all
    rw [e]
    exact hy.out.1
  · intro v' w' hown' hg
    rw [← List.map_append] at hown'
    obtain ⟨A2, c2, rfl, how⟩ := shape_own hown' (small_append.2 ⟨h4, by intro z hz; simp at hz; subst hz; exact hy.out.2⟩)
    exact h A2 c2 w' how hg

/-- What an append to a row of limbs of the call's own leaves of what was there before the call. -/
theorem below_grownN {w0 w w' : World} {A : Option Addr} {n c : Nat} {zs : List Nat} {o : Obj} (hb : Below w0.heap.size w0 w) (how : OwnN w w0.heap.size A n c zs) (hg : (w.alloc o).grownBy w' (Value.ownBlock (.slice A n c))) : Below w0.heap.size w0 w' :=
  (hb.alloc hb.size o).grown hg (by have := hb.size; simp; omega) (fun k hk => (how.1.lt k hk).1)
/-- .. of what lay below a bound. -/
theorem below_grownC {C : Nat} {w0 w w' : World} {A : Option Addr} {n c : Nat} {zs : List Nat} {o : Obj} (hb : Below C w0 w) (hC : C ≤ w.heap.size) (how : OwnB w C A n c zs) (hg : (w.alloc o).grownBy w' (Value.ownBlock (.slice A n c))) : Below C w0 w' :=
  (hb.alloc hC o).grown hg (by simp; omega) (fun k hk => (how.1.lt k hk).1)
/-- .. of whatever is no cells. -/
theorem others_grownB {w0 w w' : World} {B : Nat} {A : Option Addr} {n c : Nat} {zs : List Nat} {o : Obj} (hk : KeepsOthers w0 w) (how : OwnB w B A n c zs) (hg : (w.alloc o).grownBy w' (Value.ownBlock (.slice A n c))) : KeepsOthers w0 w' := by
  refine hk.trans ((KeepsOthers.alloc w o).trans (KeepsOthers.of_grownBy hg fun j ob e ho => ?_))
  have hlt := (how.1.lt j e).2
  rcases how.1.2 with ⟨hv, _⟩ | ⟨g, cap, cur, hv, hB, hh, _⟩
  · injection hv with hA; subst hA; cases e
  · injection hv with hA; subst hA
    injection e with e; subst e
    have h2 := (Below.heap_alloc w o g (Array.getElem?_eq_some_iff.1 hh).1).trans hh
    rw [h2] at ho
    injection ho with ho; subst ho; rfl

set_option maxHeartbeats 2000000 in
set_option maxRecDepth 4000 in
/-- appendGroup: nine digits behind the row. -/
theorem appendGroup_c {w : World} {B : Nat} {A : Option Addr} {n c : Nat} {zs : List Nat} (T : Tab w) (hB : OwnB w B A n c zs) (hBw : B ≤ w.heap.size) (h0 : 0 < B) (hn : n ≤ 900000000) (v : Nat) (hv : v < 1000000000) :
    Calls Tryz.prog 63 #[.slice A n c, .int .u32 (v : Int)] w fun e w' => ∃ A2 c2, e = .returned (.slice A2 (n + 9) c2) ∧ OwnB w' B A2 (n + 9) c2 (zs ++ pad 9 v) ∧ Below B w w' ∧ KeepsOthers w w' := by
  have HT := Lib.hid T
  have HB := Lib.hid hB
  have HK := Lib.hid (KeepsOthers.refl w)
  have HW := Lib.hid (Below.refl B w)
  have HC := Lib.hid hBw
  have H0 := Lib.hid h0
  have HP : RowKit.Hid (zs ++ pad 0 (v / 10 ^ 9) = zs) := by show _ = _; simp [pad]
  clear T hB hBw h0
  go_enter Tryz.func63, Tryz.ntmps63
  go_wp2
  go_loopw [5, 0] (fun pv tv wr => ∃ (j : Nat) (A2 : Option Addr) (c2 : Nat), j ≤ 9 ∧ pv = .int .i64 (8 - (j : Int)) ∧ tv = .slice A2 (n + j) c2 ∧ RowKit.Hid (OwnB wr B A2 (n + j) c2 (zs ++ pad j (v / 10 ^ (9 - j)))) ∧ RowKit.Hid (Below B w wr) ∧ RowKit.Hid (KeepsOthers w wr)) (fun pv _ _ => (intOf pv + 1).toNat)
  case atStart => exact ⟨0, A, c, by decide, rfl, rfl, by show OwnB _ _ _ _ _ _; rw [show 9 - 0 = 9 from rfl, HP.out]; exact HB.out, HW, HK⟩
  case round =>
    clear HB HW HK HP
    obtain ⟨j, A2, c2, hj, rfl, rfl, HB, HW, HK⟩ := hrel
    by_cases h9 : j = 9
    · subst h9
      go_wp2
      go_ret
      exact ⟨A2, c2, rfl, by have := HB.out; rwa [show 9 - 9 = 0 from rfl, Nat.pow_zero, Nat.div_one] at this, HW.out, HK.out⟩
    · obtain ⟨p, hp⟩ : ∃ p, j + p = 8 := ⟨8 - j, by omega⟩
      have ep : (8 : Int) - (j : Int) = (p : Int) := by omega
      have hp9 : p < 10 := by omega
      have hcell : wr.cell? ⟨0, p, none⟩ = some (.int .u32 ((10 ^ p : Nat) : Int)) := (HW.out.cell (p := ⟨0, p, none⟩) H0.out).trans (HT.out.1 p hp9)
      have Hst := pad_step j p v
      rw [show p + 1 = 9 - j by omega] at Hst
      obtain ⟨q, hq⟩ : ∃ q, q = 10 ^ p := ⟨_, rfl⟩
      have hqp : 0 < q := by rw [hq]; exact Nat.pow_pos (by decide)
      rw [← hq] at hcell Hst
      have hq0 : ((q : Int) != 0) = true := by simp; omega
      have hq1 : ((q : Int) == 0) = false := by simp; omega
      obtain ⟨z, hz⟩ : ∃ z, z = v / q := ⟨_, rfl⟩
      have hzl : z < 1000000000 := by rw [hz]; exact Nat.lt_of_le_of_lt (Nat.div_le_self _ _) hv
      have e1 : (v : Int) / (q : Int) = (z : Int) := by rw [hz]; simp
      rw [← hz] at Hst
      have HZ : RowKit.Hid (v / 10 ^ p = z) := by show _ = _; rw [hz, hq]
      obtain ⟨m, hm⟩ : ∃ m, m = z % 10 := ⟨_, rfl⟩
      have hml : m < 10 := by omega
      have e2 : (z : Int) % 10 = (m : Int) := by omega
      rw [← hm] at Hst
      have HS : RowKit.Hid (pad (j + 1) z = pad j (v / 10 ^ (9 - j)) ++ [48 + m]) := Hst
      rw [ep]
      clear hq hz hm Hst ep
      have Hown : RowKit.Hid ((wr.alloc (.cells #[Value.int IntKind.u8 (48 + (m : Int))] 5)).ownsRow B 5 1 (.slice A2 (n + j) c2) (n + j) ((zs ++ pad j (v / 10 ^ (9 - j))).map byV)) := (HB.out.alloc _).row
      have Hlit : RowKit.Hid ((wr.alloc (.cells #[Value.int IntKind.u8 (48 + (m : Int))] 5)).cell? ⟨wr.heap.size, 0, none⟩ = some (.int .u8 ((48 + m : Nat) : Int)) ∧ 48 + m < 256) := ⟨by rw [World.cell?_alloc_at _ _ _ _ rfl]; rfl, by omega⟩
      have Hb : RowKit.Hid (n + j ≤ 1000000000 ∧ B ≤ (wr.alloc (.cells #[Value.int IntKind.u8 (48 + (m : Int))] 5)).heap.size ∧ Bytes (zs ++ pad j (v / 10 ^ (9 - j)))) := ⟨by omega, by have h1 := HW.out.size; have h2 := HC.out; simp; omega, HB.out.bytes⟩
      go_wp2_with (at_builtin; refine wpList_append_byte rfl _ _ rfl B _ (n + j) _ rfl Hown wr.heap.size rfl (48 + m) Hlit Hb ?_)
      intro A3 c3 w3 how3 hg3
      have HW3 := Lib.hid (below_grownC HW.out (Nat.le_trans HC.out HW.out.size) HB.out hg3.out)
      have HK3 := Lib.hid (others_grownB HK.out HB.out hg3.out)
      have HB3 : RowKit.Hid (OwnB w3 B A3 (n + (j + 1)) c3 (zs ++ pad (j + 1) (v / 10 ^ (9 - (j + 1))))) := by
        show OwnB _ _ _ _ _ _
        rw [show 9 - (j + 1) = p by omega, HZ.out, HS.out]
        simpa only [List.append_assoc, Nat.add_assoc] using how3.out
      clear hg3 how3 Hown Hlit Hb HB HW HK
      go_wp2
      go_roundw
      case rel => exact ⟨j + 1, A3, c3, by omega, by go_num, by rw [Nat.add_assoc], HB3, HW3, HK3⟩
      case measure => simp [intOf] <;> omega

set_option maxHeartbeats 2000000 in
set_option maxRecDepth 4000 in
/-- groups: the number nine digits by nine, the lowest first. -/
theorem groups_c {w : World} {A : Option Addr} {n c : Nat} {xs : List Nat} {a L : Nat} (T : Tab w) (hx : NN w A n c xs a L) (h1 : L ≤ 10000) :
    Calls Tryz.prog 62 #[.slice A n c] w fun e w' => ∃ A2 n2 c2 gs, e = .returned (.slice A2 n2 c2) ∧ OwnN w' w.heap.size A2 n2 c2 gs ∧ GInv a gs 0 ∧ n2 ≤ 2 * L + 1 ∧ Below w.heap.size w w' := by
  have HT := Lib.hid T
  have Hlt := Lib.hid (lt_pow hx)
  have Hx := Lib.hid hx
  have HG := Lib.hid (GInv.start a)
  have HW := Lib.hid (Below.refl w.heap.size w)
  have Hle : RowKit.Hid (a = Limb.val xs ∧ xs.length = n) := ⟨hx.val.symm, hx.isN.len⟩
  have H0 : RowKit.Hid ((a ≠ 0 ∨ ([] : List Nat) = []) ∨ n = 0) := .inl (.inr rfl)
  clear T hx
  go_enter Tryz.func62, Tryz.ntmps62
  go_wp2
  go_loopw [0, 3] (fun av ov wr => ∃ (m k : Nat) (ys gs : List Nat) (A1 : Option Addr) (n1 c1 : Nat) (A2 : Option Addr) (c2 : Nat), av = .slice A1 n1 c1 ∧ ov = .slice A2 k c2 ∧ RowKit.Hid (GInv a gs m) ∧ RowKit.Hid (OwnN wr w.heap.size A2 k c2 gs) ∧ RowKit.Hid (NN wr A1 n1 c1 ys m L) ∧ RowKit.Hid (gs = [] ∨ ys = limbs m) ∧ RowKit.Hid (Below w.heap.size w wr)) (fun av _ wr => readN wr av + lenOf av)
  case atStart => exact ⟨a, 0, xs, [], A, n, c, none, 0, rfl, rfl, HG, OwnN.nil _ _, Hx, .inl rfl, HW⟩
  case round =>
    clear HG Hx HW Hle H0
    obtain ⟨m, k, ys, gs, A1, n1, c1, A2, c2, rfl, rfl, HG, HO, HX, HY, HW⟩ := hrel
    by_cases h0 : n1 = 0
    · subst h0
      go_wp2
      go_ret
      have hm : m = 0 := by
        have h2 := HX.out.val
        have h3 := HX.out.isN.len
        rw [List.eq_nil_of_length_eq_zero h3] at h2
        exact h2.symm
      subst hm
      have hk := HO.out.len
      have hl := HG.out.len Hlt.out
      exact ⟨A2, k, c2, gs, rfl, HO.out, HG.out, by omega, HW.out⟩
    · have hpos : (0 : Int) < (n1 : Int) := by omega
      have hcell : wr.cell? ⟨0, 9, none⟩ = some (.int .u32 1000000000) := (HW.out.cell (p := ⟨0, 9, none⟩) HT.out.lt).trans (HT.out.1 9 (by decide))
      have hl := HG.out.len Hlt.out
      have hk2 := HO.out.len
      have hk9 : k ≤ 1000000000 := by omega
      have hm0 : m ≠ 0 ∨ gs = [] := by
        rcases HY.out with h2 | h2
        · exact .inr h2
        · refine .inl fun h3 => h0 ?_
          have h4 := HX.out.isN.len
          rw [h2, h3, limbs_zero] at h4
          exact h4.symm
      have Hst := Lib.hid (HG.out.step hm0)
      obtain ⟨r, hr⟩ : ∃ r, r = m % 1000000000 := ⟨_, rfl⟩
      have hrl : r < 4294967296 := by have := Nat.mod_lt m (show 1000000000 > 0 by decide); omega
      rw [← hr] at Hst
      have HR := Lib.hid hr
      clear hl hk2 hm0 HG hr
      go_wp2_with fail
      refine (quoSmall_o HX.out (by omega) 1000000000 _ rfl (by decide) (by decide)).mono ?_
      rintro e w2 ⟨A3, n3, c3, rfl, hq, bn⟩
      rw [← HR.out]
      have HQ := Lib.hid hq
      have Hrow := Lib.hid (fun k hk => (HO.out.1.lt k hk).2)
      have HO2 := Lib.hid (HO.out.below bn (Nat.le_refl _))
      have HW2 := Lib.hid (below_two HW.out bn)
      have Hm : RowKit.Hid (readN wr (.slice A1 n1 c1) = m ∧ m < 4294967296 ^ n1) := ⟨by rw [readN_eq HX.out.isN, HX.out.val], by have h2 := val_lt HX.out.isN.small; rwa [HX.out.val, HX.out.isN.len] at h2⟩
      have Hq := Lib.hid (Nat.lt_of_le_of_lt (Nat.div_le_self m 1000000000) (lt_pow HX.out))
      clear hq bn HO HW HX HY hcell HR
      have Hown : RowKit.Hid ((w2.alloc (.cells #[Value.int IntKind.u32 (r : Int)] 42)).ownsRow w.heap.size 42 1 (.slice A2 k c2) k (gs.map limV)) := (HO2.out.1.alloc _)
      have Hlit : RowKit.Hid ((w2.alloc (.cells #[Value.int IntKind.u32 (r : Int)] 42)).cell? ⟨w2.heap.size, 0, none⟩ = some (.int .u32 (r : Int)) ∧ r < 4294967296) := ⟨by rw [World.cell?_alloc_at _ _ _ _ rfl]; rfl, hrl⟩
      have Hb : RowKit.Hid (k ≤ 1000000000 ∧ w.heap.size ≤ (w2.alloc (.cells #[Value.int IntKind.u32 (r : Int)] 42)).heap.size ∧ Small gs) := ⟨hk9, by have := HW2.out.size; simp; omega, HO2.out.small⟩
      go_wp2_with (at_builtin; refine wpList_append_word rfl _ _ rfl w.heap.size _ k gs rfl Hown w2.heap.size rfl r Hlit Hb ?_)
      intro A5 c5 w3 how3 hg3
      have HW3 := Lib.hid (below_grownN HW2.out HO2.out hg3.out)
      have HQ3 := Lib.hid (NN.own (HQ.out.keeps hg3.out Hrow.out) Hq.out)
      have HM : RowKit.Hid (readN w3 (.slice A3 n3 c3) + n3 < readN wr (.slice A1 n1 c1) + n1) := by
        show _ < _
        rw [readN_eq HQ3.out.isN, Hm.out.1, val_limbs]
        have h2 := HQ3.out.isN.len
        rcases Nat.eq_zero_or_pos m with h3 | h3
        · rw [h3, Nat.zero_div, limbs_zero] at h2
          rw [h3, ← h2]; simp; omega
        · have h4 := Nat.div_lt_self h3 (show 1 < 1000000000 by decide)
          have h5 := length_limbs_le (Nat.lt_trans h4 Hm.out.2)
          rw [h2] at h5
          omega
      clear hg3 Hown Hlit Hb HO2 HW2 HQ Hrow Hq Hm
      go_wp2
      go_roundw
      case rel => exact ⟨m / 1000000000, k + 1, _, gs ++ [r], A3, n3, c3, A5, c5, rfl, rfl, Hst, how3, HQ3, .inr rfl, HW3⟩
      case measure => exact HM.out

end Go.Proofs.YtgdchljbjnhchaaGreatDoor

/- What the library's bytes.TrimLeft (of noughts) answers, as a contract over memory. Condition: the list reads as bytes. -/
namespace Go.Proofs.YtgdchljbjnhchaaGreatDoor
open Go.RowKit Limb
set_option linter.unusedVariables false

theorem IsB.nil (w : World) (A : Option Addr) : IsB w A 0 [] := ⟨rfl, bytes_nil, fun h => absurd h (by omega)⟩

set_option maxHeartbeats 2000000 in
set_option maxRecDepth 4000 in
theorem trimByte_c {w : World} {A : Option Addr} {n c : Nat} {zs : List Nat} (h : IsB w A n zs) (hc : n ≤ c) (hm : c ≤ maxLen) :
    Calls Tryz.prog 71 #[.slice A n c, .int .u8 48] w fun e w' => ∃ A2 n2 c2, e = .returned (.slice A2 n2 c2) ∧ IsB w A2 n2 (bare zs) ∧ w' = w := by
  have Hm : RowKit.Hid (c ≤ maxLen) := hm
  have H0 : RowKit.Hid (IsB w A n (zs.drop 0)) := h
  have HL := Lib.hid (Lead.start zs)
  have Hn := Lib.hid h.1
  clear h hm
  go_enter Tryz.func71, Tryz.ntmps71
  go_wp2
  go_loopw [0] (fun sv wr => ∃ (k m cc : Nat) (A1 : Option Addr), sv = .slice A1 m cc ∧ m ≤ cc ∧ RowKit.Hid (k + m = n ∧ k + cc = c) ∧ RowKit.Hid (IsB w A1 m (zs.drop k)) ∧ RowKit.Hid (Lead zs k) ∧ wr = w) (fun sv _ => lenOf sv)
  case atStart => exact ⟨0, n, c, A, rfl, hc, ⟨by omega, by omega⟩, H0, HL, rfl⟩
  case round =>
    clear H0 HL
    obtain ⟨k, m, cc, A1, rfl, hmc, Hk, HI, HL, rfl⟩ := hrel
    by_cases h0 : m = 0
    · subst h0
      have hz : bare zs = [] := HL.out.all (by have h1 := Hk.out.1; have h2 := Hn.out; omega)
      have Hz := Lib.hid hz
      clear hz
      go_wp2
      go_ret
      exact ⟨none, 0, 0, rfl, by rw [Hz.out]; exact IsB.nil _ _, rfl⟩
    · have hpos : (0 : Int) < (m : Int) := by omega
      obtain ⟨b, o, rfl, hb, hcs⟩ := HI.out.2.2 (by omega)
      have hx := hcs 0 (by omega)
      have hkl : k < zs.length := by have := Hk.out.1; have := Hn.out; omega
      have hlim : lim (zs.drop k) 0 = lim zs k := by simp [lim]
      rw [hlim, Nat.add_zero] at hx
      by_cases h48 : lim zs k = 48
      · rw [h48] at hx
        have HL2 := Lib.hid (HL.out.step hkl h48)
        have HI2 : ∀ A2 : Option Addr, (cc ≠ 1 → A2 = some ⟨b, o + 1, none⟩) → IsB wr A2 (m - 1) (zs.drop (k + 1)) := fun A2 hA => by
          refine ⟨by rw [List.length_drop]; have h1 := Hk.out.1; have h2 := Hn.out; omega, ?_, fun hp => ?_⟩
          · have := bytes_drop HI.out.2.1 1
            rwa [List.drop_drop] at this
          · refine ⟨b, o + 1, hA (by omega), hb, fun j hj => ?_⟩
            have h3 := hcs (j + 1) (by omega)
            rw [show o + 1 + j = o + (j + 1) by omega, h3]
            have e : lim (zs.drop k) (j + 1) = lim (zs.drop (k + 1)) j := by
              simp only [lim, List.getD_eq_getElem?_getD, List.getElem?_drop]
              rw [show k + (j + 1) = k + 1 + j by omega]
            rw [e]
        have HI3 := Lib.hid HI2
        clear HI2 hcs hlim HI HL
        go_wp2
        go_roundw
        case rel => exact ⟨k + 1, m - 1, cc - 1, _, rfl, by omega, ⟨by have h1 := Hk.out; omega, by have h1 := Hk.out; omega⟩, HI3.out _ (fun hc1 => if_neg hc1), HL2, trivial⟩
        case measure => simp only [lenOf]; omega
      · have hne : ((lim zs k : Nat) : Int) ≠ 48 := by omega
        obtain ⟨d, hd⟩ : ∃ d, lim zs k = d := ⟨_, rfl⟩
        rw [hd] at hx hne
        have hq : ((d : Int) == 48) = false := by simp; omega
        have Hd := Lib.hid (HL.out.done hkl h48)
        have hm0 : ((m : Int) == 0) = false := by simp; omega
        clear hcs hlim
        go_wp2
        go_ret
        exact ⟨_, m, cc, rfl, by rw [Hd.out]; exact HI.out, rfl⟩

set_option maxHeartbeats 2000000 in
set_option maxRecDepth 4000 in
/-- bytes.TrimLeft(s, "0"): without noughts ahead; nothing lies otherwise. -/
theorem trim0_c {w : World} {A : Option Addr} {n c : Nat} {zs : List Nat} (h : IsB w A n zs) (hc : n ≤ c) (hm : c ≤ maxLen) :
    Calls Tryz.prog 64 #[.slice A n c, .string ⟨#[48]⟩] w fun e w' => ∃ A2 n2 c2, e = .returned (.slice A2 n2 c2) ∧ IsB w A2 n2 (bare zs) ∧ w' = w := by
  have HC := Lib.hid (trimByte_c h hc hm)
  have Hz : RowKit.Hid (n = 0 → zs = []) := fun h0 => List.eq_nil_of_length_eq_zero (by rw [h.1, h0])
  clear h
  by_cases h0 : n = 0
  · subst h0
    have HZ : RowKit.Hid (IsB w none 0 (bare zs)) := by show IsB _ _ _ _; rw [Hz.out rfl]; exact IsB.nil _ _
    clear Hz HC
    go_enter Tryz.func64, Tryz.ntmps64
    go_wp2
    go_ret
    exact ⟨none, 0, 0, rfl, HZ.out, rfl⟩
  · have hn0 : ((n : Int) == 0) = false := by simp; omega
    go_enter Tryz.func64, Tryz.ntmps64
    go_wp2_with fail
    refine HC.out.mono ?_
    rintro e w1 ⟨A2, n2, c2, rfl, h2, rfl⟩
    have H2 := Lib.hid h2
    clear h2
    go_wp2
    go_ret
    exact ⟨A2, n2, c2, rfl, H2.out, rfl⟩

end Go.Proofs.YtgdchljbjnhchaaGreatDoor

/- The library's slices.Backward over limbs, as a contract for a loop over it: its closure goes through the limbs from the last one to the first. Condition: what a round keeps (KpB): all blocks below a bound but one. -/
namespace Go.Proofs.YtgdchljbjnhchaaGreatDoor
open Go.RowKit Go.Shelf Limb
set_option linter.unusedVariables false
attribute [local go_sem] Oper.semAt_some

/-- All blocks below n but b lie as they lay. -/
def KpB (b n : Nat) (A B : World) : Prop := ∀ k, k < n → k ≠ b → B.heap[k]? = A.heap[k]?
theorem KpB.refl (b n : Nat) (A : World) : KpB b n A A := fun _ _ _ => rfl
theorem KpB.trans {b n : Nat} {A B C : World} (h : KpB b n A B) (k : KpB b n B C) : KpB b n A C := fun i h1 h2 => (k i h1 h2).trans (h i h1 h2)
theorem KpB.turn {b n : Nat} {w : World} (hn : n ≤ w.heap.size) (W : World) (l : Nat) (o o' : Obj) (hl : w.heap.size ≤ l) (h : W.heap[l]? = some o) (_ : o.isCells = false) (_ : o.isWalk = false) : KpB b n W (W.putObj l o') :=
  fun k h1 _ => World.putObj_heap_other (by omega)
theorem KpB.cell {b n : Nat} {A B : World} (h : KpB b n A B) {p : Addr} (h1 : p.block < n) (h2 : p.block ≠ b) : B.cell? p = A.cell? p := World.cell?_of_block (h p.block h1 h2)
theorem KpB.below {b n : Nat} {A B : World} (h : Below n A B) (hn : n ≤ A.heap.size) : KpB b n A B := fun k h1 _ => h.block k h1
theorem KpB.set {b n : Nat} {A B : World} (h : KpB b n A B) (v : Value) : KpB b n A (B.setCell ⟨b, 0, none⟩ v) := fun k h1 h2 => by
  rw [← h k h1 h2]
  simp only [World.setCell, Array.getElem?_modify]
  rw [if_neg (fun e => h2 e.symm)]

/-- A group of nine digits, and where it stands. -/
abbrev Grp := { p : Nat × Nat // p.2 < 1000000000 }
/-- The group at k. -/
def grpAt (gs : List Nat) (h : ∀ x ∈ gs, x < 1000000000) (k : Nat) : Grp := ⟨(k, lim gs k), by
  show lim gs k < 1000000000
  unfold lim
  rw [List.getD_eq_getElem?_getD]
  rcases Nat.lt_or_ge k gs.length with hk | hk
  · rw [List.getElem?_eq_getElem hk]; exact h _ (List.getElem_mem hk)
  · rw [List.getElem?_eq_none hk]; decide⟩
/-- What has come when k rounds are over: the last groups, the last first. -/
def downs (gs : List Nat) (h : ∀ x ∈ gs, x < 1000000000) (k : Nat) : List Grp := (List.range k).map fun j => grpAt gs h (gs.length - 1 - j)
theorem downs_succ (gs : List Nat) (h : ∀ x ∈ gs, x < 1000000000) (k : Nat) : downs gs h (k + 1) = downs gs h k ++ [grpAt gs h (gs.length - 1 - k)] := by simp [downs, List.range_succ]
theorem downs_len (gs : List Nat) (h : ∀ x ∈ gs, x < 1000000000) (k : Nat) : (downs gs h k).length = k := by simp [downs]
/-- The digits of groups, one behind the other. -/
def cat (l : List Grp) : List Nat := (l.map fun x => pad 9 x.1.2).flatten
theorem cat_snoc (l : List Grp) (x : Grp) : cat (l ++ [x]) = cat l ++ pad 9 x.1.2 := by simp [cat]
theorem cat_len (l : List Grp) : (cat l).length = 9 * l.length := by
  induction l with
  | nil => rfl
  | cons x r ih => simp only [cat, List.map_cons, List.flatten_cons, List.length_append, pad_len, List.length_cons] at ih ⊢; omega
theorem cat_dig (l : List Grp) : allDig (cat l) = true := by
  induction l with
  | nil => rfl
  | cons x r ih => simp only [cat, List.map_cons, List.flatten_cons] at ih ⊢; rw [allDig_append, pad_dig, ih]; rfl
theorem flat_drop (gs : List Nat) (h : ∀ x ∈ gs, x < 1000000000) : ∀ k, k ≤ gs.length → cat (downs gs h k) = flat (gs.drop (gs.length - k))
  | 0, _ => by rw [Nat.sub_zero, List.drop_length]; rfl
  | k + 1, hk => by
    rw [downs_succ, cat_snoc, flat_drop gs h k (by omega)]
    have e : gs.length - (k + 1) < gs.length := by omega
    rw [List.drop_eq_getElem_cons e, flat, show gs.length - (k + 1) + 1 = gs.length - k by omega]
    have e2 : (grpAt gs h (gs.length - 1 - k)).1.2 = gs[gs.length - (k + 1)] := by
      show lim gs _ = _
      rw [show gs.length - 1 - k = gs.length - (k + 1) by omega]
      simp [lim, List.getD_eq_getElem?_getD, List.getElem?_eq_getElem e]
    rw [e2]
theorem cat_downs (gs : List Nat) (h : ∀ x ∈ gs, x < 1000000000) : cat (downs gs h gs.length) = flat gs := by
  rw [flat_drop gs h gs.length (Nat.le_refl _), Nat.sub_self, List.drop_zero]

set_option maxRecDepth 100000 in
set_option maxHeartbeats 2000000 in
theorem back1_in (F : Fence) (n : Nat) (hF : F.fn 69) (hro : F.round = none) (hn : 1 ≤ n) (l Bs Bt n₀ cap : Nat) (A : Option Addr) (gs : List Nat) (hg : ∀ x ∈ gs, x < 1000000000) (hlen : gs.length ≤ 1000000000)
    (hBs : Bs < n₀) (hBst : Bs ≠ Bt) (J Jx : List Grp → World → Prop)
    (hY : ∀ pre x W, J pre W → pre.length < gs.length → YieldAt F (n - 1) Tryz.prog l #[.int .i64 (x.1.1 : Int), .int .u32 (x.1.2 : Int)] W fun e W' =>
      (e = .returned (.bool true) ∧ J (pre ++ [x]) W' ∧ KpB Bt n₀ W W') ∨ (e = .returned (.bool false) ∧ Jx (pre ++ [x]) W'))
    (W : World) (hcB : W.cell? ⟨Bs, 0, none⟩ = some (.slice A gs.length cap)) (hA : 0 < gs.length → ∃ b o, A = some ⟨b, o, none⟩ ∧ b < n₀ ∧ b ≠ Bt ∧ ∀ j, j < gs.length → W.cell? ⟨b, o + j, none⟩ = some (.int .u32 ((lim gs j : Nat) : Int))) (h0 : J [] W) :
    CallsIn F n Tryz.prog 69 #[.func (.yield l) #[] #[], .pointer (some ⟨Bs, 0, none⟩)] W fun e W' => (∃ v, e = .returned v) ∧
      ((∃ ys, ys = downs gs hg gs.length ∧ J ys W') ∨ (∃ pre, (∃ k, k ≤ gs.length ∧ pre = downs gs hg k) ∧ Jx pre W')) := by
  refine callsIn_of_wp Tryz.func69 rfl hF ?_ hro
  simp only [Tryz.ntmps69, List.size_toArray, List.length_cons, List.length_nil, Nat.reduceAdd, Nat.reduceSub, Array.replicate_succ, Array.replicate_zero, List.push_toArray, List.append_toArray, List.nil_append, List.cons_append]
  gi_wp2
  gi_loopw [3] (fun i wr => ∃ k : Nat, k ≤ gs.length ∧ i = .int .i64 ((gs.length : Int) - (k : Int) - 1) ∧ J (downs gs hg k) wr ∧ KpB Bt n₀ W wr)
    (fun i _ => (intOf i + 1).toNat)
  case atStart => exact ⟨0, Nat.zero_le _, by simp, h0, KpB.refl _ _ _⟩
  case round =>
    obtain ⟨k, hk, rfl, hJs, hnx⟩ := hrel
    by_cases hlt : k < gs.length
    · obtain ⟨p, hp⟩ : ∃ p, k + p + 1 = gs.length := ⟨gs.length - 1 - k, by omega⟩
      have ep : (gs.length : Int) - (k : Int) - 1 = (p : Int) := by omega
      obtain ⟨b, o, rfl, hb, hbt, hcs⟩ := hA (by omega)
      have hc1 : wr.cell? ⟨Bs, 0, none⟩ = some (.slice (some ⟨b, o, none⟩) gs.length cap) := (hnx.cell hBs hBst).trans hcB
      have hc2 : wr.cell? ⟨b, o + p, none⟩ = some (.int .u32 ((lim gs p : Nat) : Int)) := (hnx.cell (p := ⟨b, o + p, none⟩) hb hbt).trans (hcs p (by omega))
      obtain ⟨fn, tmps, assign, body, hy, hR⟩ := hY _ (grpAt gs hg (gs.length - 1 - k)) wr hJs (by rw [downs_len]; exact hlt)
      have e1 : ((grpAt gs hg (gs.length - 1 - k)).1.1 : Int) = (p : Int) := by show ((gs.length - 1 - k : Nat) : Int) = _; omega
      have e2 : ((grpAt gs hg (gs.length - 1 - k)).1.2 : Int) = ((lim gs p : Nat) : Int) := by show ((lim gs (gs.length - 1 - k) : Nat) : Int) = _; rw [show gs.length - 1 - k = p by omega]
      rw [e1, e2] at hy
      obtain ⟨d, hd⟩ : ∃ d, lim gs p = d := ⟨_, rfl⟩
      rw [hd] at hy hc2
      rw [ep]
      gi_wp2
      refine hR.mono ?_
      rintro e W3 (⟨rfl, hJ3, hk3⟩ | ⟨rfl, hJx3⟩)
      · gi_wp2
        go_roundw
        case rel => exact ⟨k + 1, by omega, by go_num, by rw [downs_succ]; exact hJ3, hnx.trans hk3⟩
        case measure => simp [intOf] <;> omega
      · gi_wp2
        refine bodyPost_ret (results_none rfl _ _ _) rfl ?_
        exact ⟨⟨_, rfl⟩, .inr ⟨_, ⟨k + 1, by omega, (downs_succ _ _ _).symm⟩, hJx3⟩⟩
    · obtain rfl : k = gs.length := by omega
      gi_wp2
      go_end0
      exact ⟨⟨_, rfl⟩, .inl ⟨_, rfl, hJs⟩⟩

/-- **slices.Backward(s)**: the slice is boxed; the function value captures the box. -/
theorem back_in (A : Option Addr) (len cap : Nat) (w : World) :
    Calls Tryz.prog 61 #[.slice A len cap] w fun e w' => e = .returned (.func (.func 69) #[] #[.pointer (some ⟨w.heap.size, 0, none⟩)]) ∧ w' = w.alloc (.cells #[.slice A len cap] 22) := by
  go_enter Tryz.func61, Tryz.ntmps61
  go_wp2
  go_ret
  exact ⟨rfl, rfl⟩

/-- Its closure over a row of limbs that lies below n₀, in another block than Bt. -/
theorem back_stops (F : Fence) (n : Nat) (hF : F.fn 69) (hro : F.round = none) (hn : 1 ≤ n) (Bs Bt n₀ cap : Nat) (A : Option Addr) (gs : List Nat) (hg : ∀ x ∈ gs, x < 1000000000) (hlen : gs.length ≤ 1000000000)
    (w : World) (hBs : Bs < n₀) (hBst : Bs ≠ Bt) (hn₀ : n₀ ≤ w.heap.size) (hcB : w.cell? ⟨Bs, 0, none⟩ = some (.slice A gs.length cap)) (hA : 0 < gs.length → ∃ b o, A = some ⟨b, o, none⟩ ∧ b < n₀ ∧ b ≠ Bt ∧ ∀ j, j < gs.length → w.cell? ⟨b, o + j, none⟩ = some (.int .u32 ((lim gs j : Nat) : Int))) :
    SeqStopsK F n Tryz.prog 69 #[.pointer (some ⟨Bs, 0, none⟩)] (fun x : Grp => #[Value.int .i64 (x.1.1 : Int), Value.int .u32 (x.1.2 : Int)]) (KpB Bt n₀) (fun ys => ys = downs gs hg gs.length)
      (fun pre => ∃ k, k ≤ gs.length ∧ pre = downs gs hg k) gs.length w := fun l J Jx W hW _ _ hY h0 => by
  refine back1_in F n hF hro hn l Bs Bt n₀ cap A gs hg hlen hBs hBst J Jx hY W ((hW.cell (p := ⟨Bs, 0, none⟩) (Nat.lt_of_lt_of_le hBs hn₀)).trans hcB) (fun h => ?_) h0
  obtain ⟨b, o, e, hb, hbt, hc⟩ := hA h
  exact ⟨b, o, e, hb, hbt, fun j hj => (hW.cell (p := ⟨b, o + j, none⟩) (Nat.lt_of_lt_of_le hb hn₀)).trans (hc j hj)⟩

end Go.Proofs.YtgdchljbjnhchaaGreatDoor

/- What package digits' Text answers, as a contract over memory, where its table of powers of ten reads as it is laid: the decimal digits of any list of limbs. Condition: the table (Tab), at most 10000 limbs. -/
namespace Go.Proofs.YtgdchljbjnhchaaGreatDoor
open Go.RowKit Go.Shelf Limb
set_option linter.unusedVariables false
attribute [local go_sem] Oper.semAt_some

/-- What stands between two rounds: the text so far lies in a row of the call's own beyond n; its slice in the box at b. -/
def TextI (n b B : Nat) (w : World) (pre : List Grp) (W : World) : Prop :=
  ((∃ v, Boxed W b 74 v ∧ W.ownsRow n 5 1 v (cat pre).length ((cat pre).map byV) ∧ True) ∧ n ≤ W.heap.size) ∧ Below B w W

theorem ownFrom_size {β : Type} (B n : Nat) : OwnFrom B (fun (_ : β) W => n ≤ W.heap.size) := fun _ _ _ _ hs hg _ => Nat.le_trans hs hg.size

theorem isB_box {W : World} {A : Option Addr} {n b : Nat} {zs : List Nat} {t : TypeId} {A2 : Option Addr} {n2 c2 : Nat} (h : IsB W A n zs) (hb : Boxed W b t (.slice A2 n2 c2)) (u : Value) : IsB (W.setCell ⟨b, 0, none⟩ u) A n zs := by
  refine ⟨h.1, h.2.1, fun hn => ?_⟩
  obtain ⟨g, o, e, hlt, hc⟩ := h.2.2 hn
  have hne : b ≠ g := by
    rintro rfl
    have h1 := hc 0 hn
    unfold Boxed at hb
    simp only [World.cell?, hb] at h1
    rcases o with _ | o
    · simp at h1
    · simp at h1
  refine ⟨g, o, e, by simpa [World.setCell] using hlt, fun j hj => ?_⟩
  rw [World.cell?_setCell_other W ⟨b, 0, none⟩ ⟨g, o + j, none⟩ u (fun e => hne (by injection e))]
  exact hc j hj

set_option maxRecDepth 100000 in
set_option maxHeartbeats 4000000 in
theorem digText_c {A : Option Addr} {n c : Nat} {xs : List Nat} {a L : Nat} {w : World} (T : Tab w) (hx : NN w A n c xs a L) (h1 : L ≤ 10000) (S : ByteArray) (hS : strOf (decT a) = S) :
    Calls Tryz.prog 42 #[.slice A n c] w fun e w' => e = .returned (.string S) ∧ Below w.heap.size w w' := by
  have HT := Lib.hid T
  have HX := Lib.hid hx
  have HS := Lib.hid hS
  clear T hx hS
  refine (callsIn_wide (n := 6)).1 ?_
  refine callsIn_of_wp_marks Tryz.func42 rfl trivial ?_ rfl
  simp only [Tryz.ntmps42, List.size_toArray, List.length_cons, List.length_nil, Nat.reduceAdd, Nat.reduceSub, Array.replicate_succ, Array.replicate_zero, List.push_toArray, List.append_toArray, List.nil_append, List.cons_append]
  have b0 := (Below.refl w.heap.size w).alloc (Nat.le_refl _) (.cells #[.slice none 0 0] 74)
  have HG := Lib.hid (groups_c (HT.out.below b0) (HX.out.below b0) h1)
  clear b0
  gi_wp2_with fail
  refine ⟨trivial, ?_⟩
  refine (callsIn_wide.2 HG.out).mono ?_
  rintro e w2 ⟨A2, n2, c2, gs, rfl, how, hinv, hn2, bn⟩
  have hgl := how.len
  subst hgl
  have hgs := hinv.2.1
  have Hval := Lib.hid hinv.done
  have hlen9 : gs.length ≤ 1000000000 := by omega
  have bB : Boxed (w.alloc (.cells #[.slice none 0 0] 74)) w.heap.size 74 (.slice none 0 0) := Boxed.new w _ _
  have bB2 : Boxed w2 w.heap.size 74 (.slice none 0 0) := (bn.block _ (by simp)).trans bB
  have hsz : w.heap.size + 1 ≤ w2.heap.size := by have := bn.size; simpa using this
  have bw2 : Below w.heap.size w w2 := ((Below.refl w.heap.size w).alloc (Nat.le_refl _) _).trans (bn.mono (by simp))
  have hA : 0 < gs.length → ∃ b o, A2 = some ⟨b, o, none⟩ ∧ b < w2.heap.size + 1 ∧ b ≠ w.heap.size ∧ ∀ j, j < gs.length → (w2.alloc (.cells #[.slice A2 gs.length c2] 22)).cell? ⟨b, o + j, none⟩ = some (.int .u32 ((lim gs j : Nat) : Int)) := fun h => by
    obtain ⟨g, rfl, hBg, hgw⟩ := how.addr h
    simp only [World.size_alloc] at hBg
    refine ⟨g, 0, rfl, by omega, by omega, fun j hj => ?_⟩
    rw [Nat.zero_add]
    exact (Below.cell (p := ⟨g, j, none⟩) (below_new w2 _) hgw).trans (how.cell hj)
  clear how hinv HG bB bn
  gi_wp2_with fail
  refine ⟨trivial, ?_⟩
  refine (callsIn_wide.2 (back_in _ _ _ w2)).mono ?_
  rintro e w3' ⟨rfl, rfl⟩
  have hs3 : (w2.alloc (.cells #[.slice A2 gs.length c2] 22)).heap.size = w2.heap.size + 1 := World.size_alloc _ _
  have hc3 : (w2.alloc (.cells #[.slice A2 gs.length c2] 22)).cell? ⟨w2.heap.size, 0, none⟩ = some (.slice A2 gs.length c2) := (Boxed.new w2 _ _).cell
  have bB3 : Boxed (w2.alloc (.cells #[.slice A2 gs.length c2] 22)) w.heap.size 74 (.slice none 0 0) := bB2.alloc _
  have bw3 : Below w.heap.size w (w2.alloc (.cells #[.slice A2 gs.length c2] 22)) := bw2.alloc (by omega) _
  generalize w2.alloc (.cells #[.slice A2 gs.length c2] 22) = w3 at *
  clear bB2 bw2
  generalize w2.heap.size = s2 at *
  have hst : Below w3.heap.size w3 w3 := Below.refl _ _
  gi_wp2
  refine wpIn_rangeFunc_ownG rfl (by decide) (gf := 69) (lb := #[.pointer (some ⟨s2, 0, none⟩)]) rfl trivial (enters_of Tryz.func69 (by kernel_rfl) rfl)
    (back_stops Fence.wide _ trivial rfl (by decide) s2 w.heap.size w3.heap.size c2 A2 gs hgs hlen9 w3 (by omega) (by omega) (Nat.le_refl _) hc3 (fun h => by obtain ⟨b, o, e1, e2, e3, e4⟩ := hA h; exact ⟨b, o, e1, by omega, e3, e4⟩))
    (fun h k => KpB.trans h k) (KpB.turn (Nat.le_refl _)) (Below.refl _ _) (fun _ => rfl)
    (TextI w3.heap.size w.heap.size w.heap.size w)
    (fun _ _ _ => False)
    (OwnFrom.and (OwnFrom.and (Own.from (holdsRow_own w3.heap.size w.heap.size 74 5 1 (fun pre => (cat pre).length) (fun pre => (cat pre).map byV) (fun _ _ => True)) _) (ownFrom_size _ _)) (ownFrom_below (Nat.le_refl _) (by omega)))
    (fun _ _ _ _ _ hs _ _ => hs)
    ⟨⟨⟨_, bB3, World.ownsRow_nil _ _ _ _, trivial⟩, Nat.le_refl _⟩, bw3⟩
    (fun x => { tmps := #[.slice A n c, undef, .string ⟨#[]⟩, .pointer (some ⟨w.heap.size, 0, none⟩), undef, .int .u32 (x.1.2 : Int), .slice A n c, .slice A2 gs.length c2, .func (.func 69) #[] #[.pointer (some ⟨s2, 0, none⟩)], .int .i64 (x.1.1 : Int), .int .u32 (x.1.2 : Int), undef, undef, undef, undef, undef, undef, undef, undef, undef, undef], defers := [] }) ?assign ?body ?done ?stop
  case assign =>
    intro l x W K hK
    gi_wp2
    exact hK
  case body =>
    rintro l pre x W ⟨⟨⟨v, hv, hrow, _⟩, hsW⟩, hB⟩ hlt
    obtain ⟨A4, c4, rfl, how⟩ := shape_ownB hrow (allDig_bytes (cat_dig pre))
    rw [cat_len] at how hv
    have hc := hv.cell
    have HC := appendGroup_c (HT.out.below hB) how hsW (by have := HT.out.lt; omega) (by omega) x.1.2 x.2
    clear hrow how
    gi_wp2_with fail
    refine ⟨trivial, ?_⟩
    refine (CallsIn.inRound l (callsIn_wide.2 HC)).mono ?_
    rintro e w4 ⟨A5, c5, rfl, hB5, hb5, hk5⟩
    have hv4 : Boxed w4 w.heap.size 74 (.slice A4 (9 * pre.length) c4) := (hb5.block _ (by omega)).trans hv
    have hc4 := hv4.cell
    have hf4 := hv4.frozen
    have e9 : 9 * pre.length + 9 = (cat (pre ++ [x])).length := by rw [cat_len, List.length_append]; simp; omega
    have hrow5 := hB5.1
    rw [← cat_snoc, e9] at hrow5
    clear hc HC
    gi_wp2
    exact ⟨(hk5.trans (KeepsOthers.setCell _ _ _)).from _, (KpB.below hb5 hsW).set _, ⟨⟨_, hv4.set _, hrow5.kept (grownBy_setCell' _ _ _) (.inr (hv4.not_row (by decide) hrow5).symm), trivial⟩, by have := hb5.size; simp [World.setCell]; omega⟩, (hB.trans (hb5.mono (by omega))).setCell (p := ⟨w.heap.size, 0, none⟩) (Nat.le_refl _) _⟩
  case done =>
    rintro D ys W hD rfl ⟨⟨⟨v, hv, hrow, _⟩, hsW⟩, hB⟩ hK
    obtain ⟨A4, c4, rfl, how⟩ := shape_ownB hrow (allDig_bytes (cat_dig _))
    have hcaps := how.caps
    have hc := hv.cell
    have hf := hv.frozen
    have HC := trim0_c how.isB hcaps.1 hcaps.2
    have hd := flat_dig gs
    have hval : decV (flat gs) = a := by rw [flat_val gs hgs, Hval.out]
    clear hrow how hcaps
    generalize (cat (downs gs hgs gs.length)).length = n4 at *
    rw [cat_downs] at HC
    gi_wp2_with fail
    refine ⟨trivial, ?_⟩
    refine (callsIn_wide.2 HC).mono ?_
    rintro e w5 ⟨A6, n6, c6, rfl, hI, rfl⟩
    have hI2 := isB_box hI hv (.slice A6 n6 c6)
    have hK2 := (KeepsOthers.setCell w5 ⟨w.heap.size, 0, none⟩ (.slice A6 n6 c6)).same D _ hK rfl
    have hB2 : Below w.heap.size w (w5.setCell ⟨w.heap.size, 0, none⟩ (.slice A6 n6 c6)) := hB.setCell (p := ⟨w.heap.size, 0, none⟩) (Nat.le_refl _) _
    have hc2 : (w5.setCell ⟨w.heap.size, 0, none⟩ (.slice A6 n6 c6)).cell? ⟨w.heap.size, 0, none⟩ = some (.slice A6 n6 c6) := (hv.set _).cell
    by_cases h0 : n6 = 0
    · have hz : S = ⟨#[48]⟩ := by
        have h3 : bare (flat gs) = [] := List.eq_nil_of_length_eq_zero (by rw [hI.1, h0])
        have h4 := (bare_nil hd).1 h3
        rw [hval] at h4
        rw [← HS.out, h4]; rfl
      subst h0
      clear hI hI2 HC hd hval
      gi_wp2
      refine ⟨by simp, .inl ⟨_, _, rfl, run_takeDeferred hK2, ?_⟩⟩
      exact ⟨_, results_tmp rfl _ _ _, by rw [hz]; rfl, hB2.trans (belowK_b (w := w) (Nat.le_refl _) _ D _ _ (by omega) hK2 rfl rfl)⟩
    · have hz : strOf (bare (flat gs)) = S := by
        have h3 : bare (flat gs) ≠ [] := fun e => h0 (by rw [← hI.1, e]; rfl)
        rw [bare_dec hd h3, hval, HS.out]
      have hconv := run_text hI2 (c := c6) (by omega)
      rw [hz] at hconv
      clear hI hI2 HC hd hval
      have h00 : ((n6 : Int) == 0) = false := by simp; omega
      gi_wp2
      refine ⟨by simp, .inl ⟨_, _, rfl, run_takeDeferred hK2, ?_⟩⟩
      exact ⟨_, results_tmp rfl _ _ _, rfl, hB2.trans (belowK_b (w := w) (Nat.le_refl _) _ D _ _ (by omega) hK2 rfl rfl)⟩
  case stop =>
    rintro D c pre W _ _ h _
    exact h.elim

end Go.Proofs.YtgdchljbjnhchaaGreatDoor

/- What package digits' Parse and Ten answer, as contracts over memory, where its table of powers of ten reads as it is laid. Condition: the table (Tab). -/
namespace Go.Proofs.YtgdchljbjnhchaaGreatDoor
open Go.RowKit Limb
set_option linter.unusedVariables false

theorem bytesOf_extract (s : ByteArray) (i j : Nat) : bytesOf (s.extract i j) = ((bytesOf s).drop i).take (j - i) := by
  unfold bytesOf
  rw [ByteArray.data_extract, Array.toList_extract, List.extract_eq_take_drop, List.map_take, List.map_drop]

/-- What the library's reader answers of at most nine bytes: a number, or none, with an error. -/
def Red (l : List Nat) (v : Nat) (e : Value) : Prop := (allDig l = true ∧ v = decV l ∧ e = .nilIface) ∨ (allDig l = false ∧ ∃ t p, e = .iface t p)

theorem readUint_yes (s : ByteArray) (w : World) (h0 : 1 ≤ s.size) (h9 : s.size ≤ 9) (h : allDig (bytesOf s) = true) (v : Nat) (hv : decV (bytesOf s) = v) :
    Calls Tryz.prog 47 #[.string s, .int .i64 10, .int .i64 32] w fun e w' => e = .returned (.tuple #[.int .u64 (v : Int), .nilIface]) ∧ Below w.heap.size w w' := by
  have hl : (s.data.toList : List UInt8) ≠ [] := by
    intro e
    have : s.size = 0 := by show s.data.size = 0; rw [← Array.length_toList, e]; rfl
    omega
  have hs : s.data.toList.length = s.size := Array.length_toList
  have hp := parseB_yes hl (by rw [hs]; exact h9) h
  refine (Any.strconv_ParseUint_10_at32_ok Tryz.laysPu14 s (by omega) (decV (bytesOf s)) hp w).mono ?_
  rintro e w' ⟨rfl, hW⟩
  rw [hv]
  refine ⟨rfl, ?_⟩
  rcases hW with rfl | rfl
  · exact Below.refl _ _
  · exact Lib.bytesWorld_below _ _ _

theorem readUint_no (s : ByteArray) (w : World) (T : Tab w) (h9 : s.size ≤ 9) (h : allDig (bytesOf s) = false) :
    Calls Tryz.prog 47 #[.string s, .int .i64 10, .int .i64 32] w fun e w' => ∃ t p, e = .returned (.tuple #[.int .u64 0, .iface t (.pointer (some p))]) ∧ Below w.heap.size w w' := by
  have hs : s.data.toList.length = s.size := Array.length_toList
  have hp := parseB_no (l := s.data.toList) (by rw [hs]; exact h9) h
  obtain ⟨te, pe, he⟩ := T.2
  refine (Any.strconv_ParseUint_10_at32_syntax Tryz.laysPu14 s (by omega) hp _ w he (.inr ⟨te, pe, rfl⟩)).mono ?_
  rintro e w' ⟨N, rfl, _, _, hb⟩
  exact ⟨_, _, rfl, hb⟩

theorem ten_limb {k : Nat} (h : k ≤ 9) : 10 ^ k < 4294967296 := Nat.lt_of_le_of_lt (Nat.pow_le_pow_right (by decide) h) (by decide)

theorem powV_tens {m : Nat} (h : m ≤ 222) : powV 1000000000 (m : Int) = some (1000000000 ^ m) := by
  refine powV_small ?_ fun k hk => ?_
  · exact blen_le (by exact Nat.lt_of_le_of_lt h (by decide))
  · rw [show (1000000000 : Nat) = 10 ^ 9 from rfl, ← Nat.pow_mul]
    exact dec_room_lt (by omega)

/-- How long a text is. -/
def strLen (v : Value) : Nat := match v with
  | .string s => s.size
  | _ => 0

theorem numOk_part {l : List Nat} {i k : Nat} (h : allDig ((l.drop i).take k) = false) : numOk l = false := by
  have h2 : allDig l = false := by
    rw [Bool.eq_false_iff]
    intro h3
    have h4 : allDig ((l.drop i).take k) = true := allDig_iff.2 fun x hx => allDig_iff.1 h3 x (List.mem_of_mem_drop (List.mem_of_mem_take hx))
    rw [h] at h4; cases h4
  unfold numOk
  rw [h2]; simp

set_option maxHeartbeats 4000000 in
set_option maxRecDepth 4000 in
theorem digParse_c (s : ByteArray) (w : World) (T : Tab w) (v : Bool) (hv : numOk (bytesOf s) = v) (m : Nat) (hm : numV (bytesOf s) = m) :
    Calls Tryz.prog 26 #[.string s] w fun e w' => ∃ A1 n1 c1, e = .returned (.tuple #[.slice A1 n1 c1, .bool v]) ∧ NN w' A1 n1 c1 (limbs m) m 223 ∧ Below w.heap.size w w' := by
  have HT := Lib.hid T
  have HV := Lib.hid hv
  have HM := Lib.hid hm
  have hl := length_bytesOf s
  have HL := Lib.hid hl
  clear T hv hm hl
  by_cases h0 : s.size = 0 ∨ 2000 < s.size
  · have hno : numOk (bytesOf s) = false := numOk_len (by rw [HL.out]; exact h0)
    have hr : RowKit.Hid (v = false ∧ limbs m = [] ∧ m = 0) := by
      have h3 : m = 0 := by rw [← HM.out]; exact numV_no hno
      exact ⟨by rw [← HV.out, hno], by rw [h3]; exact limbs_zero, h3⟩
    clear hno
    rcases h0 with h0 | h0
    · have h00 : ((s.size : Int) == 0) = true := by rw [beq_iff_eq]; omega
      go_enter Tryz.func26, Tryz.ntmps26
      go_wp2
      go_ret2
      obtain ⟨rfl, h4, h5⟩ := hr.out
      exact ⟨none, 0, 0, rfl, by rw [h4, h5]; exact ⟨IsN.nil _ _, rfl, Nat.le_refl _, Nat.zero_le _⟩, Below.refl _ _⟩
    · have h00 : ((s.size : Int) == 0) = false := by rw [beq_eq_false_iff_ne]; omega
      have h01 : (2000 : Int) < (s.size : Int) := by omega
      go_enter Tryz.func26, Tryz.ntmps26
      go_wp2
      go_ret2
      obtain ⟨rfl, h4, h5⟩ := hr.out
      exact ⟨none, 0, 0, rfl, by rw [h4, h5]; exact ⟨IsN.nil _ _, rfl, Nat.le_refl _, Nat.zero_le _⟩, Below.refl _ _⟩
  · have h1 : 1 ≤ s.size := by omega
    have h2 : s.size ≤ 2000 := by omega
    have h00 : ((s.size : Int) == 0) = false := by rw [beq_eq_false_iff_ne]; omega
    have h01 : (s.size : Int) ≤ 2000 := by omega
    have HP := Lib.hid (PInv.start (bytesOf s))
    clear h0
    go_enter Tryz.func26, Tryz.ntmps26
    have HN : RowKit.Hid (NN w none 0 0 (limbs 0) 0 223) := ⟨by rw [limbs_zero]; exact IsN.nil _ _, by rw [limbs_zero]; rfl, Nat.le_refl _, Nat.zero_le _⟩
    have HW := Lib.hid (Below.refl w.heap.size w)
    go_wp2
    go_loopw [0, 4] (fun sv ov wr => ∃ (i t : Nat) (S : ByteArray) (A1 : Option Addr) (n1 c1 : Nat), sv = .string S ∧ ov = .slice A1 n1 c1 ∧ RowKit.Hid (bytesOf S = (bytesOf s).drop i ∧ S.size + i = s.size) ∧ RowKit.Hid (PInv (bytesOf s) i t) ∧ RowKit.Hid (NN wr A1 n1 c1 (limbs t) t 223) ∧ RowKit.Hid (Below w.heap.size w wr)) (fun sv _ _ => strLen sv)
    case atStart => exact ⟨0, 0, s, none, 0, 0, rfl, rfl, ⟨rfl, rfl⟩, HP, HN, HW⟩
    case round =>
      clear HP HN HW
      obtain ⟨i, t, S, A1, n1, c1, rfl, rfl, HS, HP, HN, HW⟩ := hrel
      by_cases hS : S.size = 0
      · have hS0 : ¬ (0 : Int) < (S.size : Int) := by omega
        have hi : i = (bytesOf s).length := by rw [HL.out]; have := HS.out.2; omega
        have hp := HP.out
        unfold PInv at hp
        rw [hi, List.take_length] at hp
        have hok : numOk (bytesOf s) = true := numOk_good (by rw [HL.out]; exact h1) (by rw [HL.out]; exact h2) hp.1
        have hr : RowKit.Hid (v = true ∧ t = m) := ⟨by rw [← HV.out, hok], by rw [hp.2, ← HM.out, numV_yes hok]⟩
        clear hi hp hok
        go_wp2
        go_ret2
        obtain ⟨rfl, rfl⟩ := hr.out
        exact ⟨_, _, _, rfl, HN.out, HW.out⟩
      · have hS0 : (0 : Int) < (S.size : Int) := by omega
        obtain ⟨k, hk⟩ : ∃ k, k = min S.size 9 := ⟨_, rfl⟩
        have ek : min (S.size : Int) 9 = (k : Int) := by omega
        have hk1 : 1 ≤ k := by omega
        have hk9 : k ≤ 9 := by omega
        have hkS : k ≤ S.size := by omega
        obtain ⟨G, hG⟩ : ∃ G, S.extract 0 k = G := ⟨_, rfl⟩
        have hb : bytesOf G = ((bytesOf s).drop i).take k := by rw [← hG, bytesOf_extract, HS.out.1]; rfl
        have hGs : G.size = k := by
          rw [← length_bytesOf, hb, List.length_take, List.length_drop, HL.out]
          have := HS.out.2
          omega
        have HG := Lib.hid hb
        clear hb hk
        by_cases hd : allDig (bytesOf G) = true
        · obtain ⟨d, hdv⟩ : ∃ d, decV (bytesOf G) = d := ⟨_, rfl⟩
          have HC := Lib.hid (readUint_yes G wr (by omega) (by omega) hd d hdv)
          have hst := Limb.PInv.group HP.out (m := k) (by rw [HL.out]; have := HS.out.2; omega) (by rw [← HG.out]; exact hd)
          rw [← HG.out, hdv] at hst
          have hlt := hst.lt (by rw [HL.out]; exact h2)
          have hdl : d < 1000000000 := by
            rw [← hdv]
            have h3 := decV_lt hd
            rw [length_bytesOf, hGs] at h3
            exact Nat.lt_of_lt_of_le h3 (Nat.pow_le_pow_right (by decide) hk9)
          obtain ⟨p, hp⟩ : ∃ p, p = 10 ^ k := ⟨_, rfl⟩
          have hpl : p < 4294967296 := by rw [hp]; exact ten_limb hk9
          rw [← hp] at hst hlt
          have Hp := Lib.hid hp
          have HT2 := Lib.hid hst
          have Hlt := Lib.hid hlt
          obtain ⟨S2, hS2⟩ : ∃ S2, S.extract k S.size = S2 := ⟨_, rfl⟩
          have HS2 : RowKit.Hid (bytesOf S2 = (bytesOf s).drop (i + k) ∧ S2.size + (i + k) = s.size) := by
            have h3 : bytesOf S2 = (bytesOf s).drop (i + k) := by
              rw [← hS2, bytesOf_extract, HS.out.1, List.drop_drop]
              refine List.take_of_length_le ?_
              rw [List.length_drop, HL.out]
              have := HS.out.2
              omega
            refine ⟨h3, ?_⟩
            rw [← length_bytesOf, h3, List.length_drop, HL.out]
            have := HS.out.2
            omega
          have hS2l : S2.size < S.size := by have h3 := HS2.out.2; have h4 := HS.out.2; omega
          have HS2l := Lib.hid hS2l
          clear hd hdv hst hlt hp hS2l
          go_wp2_with fail
          refine HC.out.mono ?_
          rintro e w2 ⟨rfl, bn⟩
          have HN2 := Lib.hid (HN.out.below bn)
          have HW2 := Lib.hid (below_two HW.out bn)
          have hcell : w2.cell? ⟨0, k, none⟩ = some (.int .u32 (p : Int)) := by rw [Hp.out]; exact (HT.out.below HW2.out).1 k (by omega)
          clear bn HC HN HW
          go_wp2_with fail
          refine (mulSmall_c HN2.out p _ rfl hpl (by decide)).mono ?_
          rintro e w3 ⟨A3, n3, c3, rfl, hm, bn⟩
          have HM3 := Lib.hid hm
          have HW3 := Lib.hid (below_two HW2.out bn)
          clear hm bn HN2 HW2 hcell
          go_wp2_with fail
          refine (of_c d _ rfl (by omega) w3).mono ?_
          rintro e w4 ⟨A4, n4, c4, rfl, ho, bn⟩
          have HM4 := Lib.hid (HM3.out.below bn)
          have HO4 := Lib.hid ho
          have HW4 := Lib.hid (below_two HW3.out bn)
          clear ho bn HM3 HW3
          go_wp2_with fail
          refine (add_c HM4.out HO4.out 225 (by decide) (by decide) (by decide)).mono ?_
          rintro e w5 ⟨A5, n5, c5, rfl, hs, bn⟩
          have HN5 := Lib.hid (hs.relax Hlt.out)
          have HW5 := Lib.hid (below_two HW4.out bn)
          clear hs bn HM4 HO4 HW4
          go_wp2
          go_roundw
          case rel => exact ⟨i + k, t * p + d, S2, A5, n5, c5, rfl, rfl, HS2, HT2, HN5, HW5⟩
          case measure => exact HS2l.out
        · have hd2 : allDig (bytesOf G) = false := by simpa using hd
          have hno : numOk (bytesOf s) = false := numOk_part (by rw [← HG.out]; exact hd2)
          have hr : RowKit.Hid (v = false ∧ limbs m = [] ∧ m = 0) := by
            have h3 : m = 0 := by rw [← HM.out]; exact numV_no hno
            exact ⟨by rw [← HV.out, hno], by rw [h3]; exact limbs_zero, h3⟩
          have HC := Lib.hid (readUint_no G wr (HT.out.below HW.out) (by omega) hd2)
          clear hno hd hd2
          go_wp2_with fail
          refine HC.out.mono ?_
          rintro e w2 ⟨tt, p, rfl, bn⟩
          have HW2 := Lib.hid (below_two HW.out bn)
          clear bn HC
          go_wp2
          go_ret2
          obtain ⟨rfl, h4, h5⟩ := hr.out
          exact ⟨none, 0, 0, rfl, by rw [h4, h5]; exact ⟨IsN.nil _ _, rfl, Nat.le_refl _, Nat.zero_le _⟩, HW2.out⟩

end Go.Proofs.YtgdchljbjnhchaaGreatDoor

/- Regions that leave their order open: one law by an invariant over what has come up, whatever the order (no branch for each order). Of any program; no condition. -/
namespace Go.Proofs.YtgdchljbjnhchaaGreatDoor
open Go.RowKit
set_option linter.unusedVariables false

section
variable {P : Program} {ops : Array Oper} {Q : Exit → Act → World → Prop} {md : Region.Mode}

/-- How many of the first m have not come up yet. -/
def left (listed : Array Bool) : Nat → Nat
  | 0 => 0
  | k + 1 => left listed k + (if listed.getD k false = true then 0 else 1)
theorem left_le (listed : Array Bool) : ∀ m, left listed m ≤ m
  | 0 => Nat.le_refl _
  | k + 1 => by have := left_le listed k; unfold left; split <;> omega
theorem left_zero {listed : Array Bool} : ∀ {m}, left listed m = 0 → ∀ k, k < m → listed.getD k false = true
  | 0, _, k, hk => by omega
  | m + 1, h, k, hk => by
    unfold left at h
    split at h
    · rename_i h1
      rcases Nat.lt_or_ge k m with h2 | h2
      · exact left_zero (by omega) k h2
      · obtain rfl : k = m := by omega
        exact h1
    · omega
theorem getD_same {listed : Array Bool} {i : Nat} (h : i < listed.size) (d : Bool) : (listed.setIfInBounds i true).getD i d = true := by
  simp [Array.getD_eq_getD_getElem?, h]
theorem getD_other {listed : Array Bool} {i k : Nat} (h : i ≠ k) (d : Bool) : (listed.setIfInBounds i true).getD k d = listed.getD k d := by
  simp [Array.getD_eq_getD_getElem?, h]
theorem left_same {listed : Array Bool} {i : Nat} : ∀ {m}, m ≤ i → left (listed.setIfInBounds i true) m = left listed m
  | 0, _ => rfl
  | m + 1, h => by
    unfold left
    rw [left_same (by omega), getD_other (by omega)]
theorem left_set {listed : Array Bool} {i : Nat} (hs : i < listed.size) (hi : listed.getD i false = false) : ∀ {m}, i < m → left (listed.setIfInBounds i true) m + 1 = left listed m
  | 0, h => by omega
  | m + 1, h => by
    unfold left
    rcases Nat.lt_or_ge i m with h1 | h1
    · have := left_set hs hi h1
      rw [getD_other (by omega)]
      omega
    · obtain rfl : i = m := by omega
      rw [left_same (Nat.le_refl _), getD_same hs, hi]
      simp

/-- **Whatever order is picked**: an invariant J that each operation that may come up hands on; the last operations (from m on) wait for all others. -/
theorem wpAny_inv (m : Nat) (J : Array Bool → Act → World → Prop)
    (hsize : ∀ l a w, J l a w → l.size = ops.size ∧ ∀ k, m ≤ k → l.getD k false = false)
    (hm : m ≤ ops.size)
    (hback : ∀ (i : Nat) (o : Oper), i < m → ops[i]? = some o → ∀ e ∈ o.after, Region.binds md e = true → e.on < i)
    (hstep : ∀ l a w i, J l a w → i ∈ Region.ready md ops l → i < m → wpOp P ops Q i (fun a' w' => J (l.setIfInBounds i true) a' w') a w)
    (hwait : ∀ l a w i, J l a w → i ∈ Region.ready md ops l → m ≤ i → ∀ k, k < m → l.getD k false = true)
    (hfin : ∀ l a w, J l a w → (∀ k, k < m → l.getD k false = true) → wpAny P md ops Q (ops.size - m) l a w) :
    ∀ (c : Nat) (l : Array Bool) (a : Act) (w : World), left l m = c → J l a w → wpAny P md ops Q (ops.size - m + c) l a w := by
  intro c
  induction c with
  | zero => exact fun l a w hc hj => hfin l a w hj (left_zero hc)
  | succ c ih =>
    intro l a w hc hj
    obtain ⟨hs, hlater⟩ := hsize l a w hj
    have hex : ∃ k, k < m ∧ l.getD k false = false := by
      rcases Classical.em (∃ k, k < m ∧ l.getD k false = false) with h | h
      · exact h
      · exfalso
        have hall : ∀ k, k < m → l.getD k false = true := fun k hk => by
          cases hb : l.getD k false with
          | true => rfl
          | false => exact absurd ⟨k, hk, hb⟩ h
        have hz : ∀ j, j ≤ m → left l j = 0 := fun j => by
          induction j with
          | zero => exact fun _ => rfl
          | succ j ihj => exact fun hj2 => by unfold left; rw [ihj (by omega), hall j (by omega)]; rfl
        have := hz m (Nat.le_refl _)
        omega
    refine ⟨fun hr => ?_, fun i hi => ?_⟩
    · exfalso
      -- the least one that has not come up may come up
      obtain ⟨k0, hk0, hb0⟩ := hex
      have hleast : ∀ n, (∃ k, k ≤ n ∧ k < m ∧ l.getD k false = false) → ∃ k, k < m ∧ l.getD k false = false ∧ ∀ j, j < k → l.getD j false = true := by
        intro n
        induction n with
        | zero =>
          rintro ⟨k, h1, h2, h3⟩
          obtain rfl : k = 0 := by omega
          exact ⟨0, h2, h3, fun j hj2 => by omega⟩
        | succ n ihn =>
          rintro ⟨k, h1, h2, h3⟩
          rcases Classical.em (∃ k, k ≤ n ∧ k < m ∧ l.getD k false = false) with h | h
          · exact ihn h
          · refine ⟨k, h2, h3, fun j hj2 => ?_⟩
            cases hb : l.getD j false with
            | true => rfl
            | false => exact absurd ⟨j, by omega, by omega, hb⟩ h
      obtain ⟨k, hk, hb, hmin⟩ := hleast k0 ⟨k0, Nat.le_refl _, hk0, hb0⟩
      have hko : k < ops.size := by omega
      have : k ∈ Region.ready md ops l := mem_ready.2 ⟨by
        simp only [Array.getD_eq_getD_getElem?] at hb ⊢
        rw [Array.getElem?_eq_getElem (by omega)] at hb ⊢
        simpa using hb, ops[k], Array.getElem?_eq_getElem hko, fun e he hbi => hmin _ (hback k _ hk (Array.getElem?_eq_getElem hko) e he hbi)⟩
      rw [hr] at this
      cases this
    · rcases Nat.lt_or_ge i m with h1 | h1
      · have hu : l.getD i false = false := by
          have h2 := (mem_ready.1 hi).1
          simp only [Array.getD_eq_getD_getElem?] at h2 ⊢
          rw [Array.getElem?_eq_getElem (by omega)] at h2 ⊢
          simpa using h2
        have hl := left_set (m := m) (by omega : i < l.size) hu h1
        exact wpOp_mono (fun a' w' hj2 => ih _ a' w' (by omega) hj2) (hstep l a w i hj hi h1)
      · exfalso
        obtain ⟨k, hk, hb⟩ := hex
        rw [hwait l a w i hj hi h1 k hk] at hb
        cases hb

/-- What an operation waits for. -/
def afters (ops : Array Oper) (i : Nat) : List Nat :=
  match ops[i]? with
  | some o => (o.after.toList.filter (Region.binds .any)).map fun e => e.on
  | none => []
theorem ready_after {l : Array Bool} {i e : Nat} (hi : i ∈ Region.ready .any ops l) (he : e ∈ afters ops i) : l.getD e false = true := by
  obtain ⟨_, o, ho, h⟩ := mem_ready.1 hi
  unfold afters at he
  rw [ho] at he
  obtain ⟨x, hx, rfl⟩ := List.mem_map.1 he
  obtain ⟨h1, h2⟩ := List.mem_filter.1 hx
  exact h x (by simpa using h1) h2
/-- What it waits for, and what that waits for. -/
def anc (ops : Array Oper) : Nat → Nat → List Nat
  | 0, _ => []
  | f + 1, i => afters ops i ++ (afters ops i).flatMap (anc ops f)
theorem anc_up {l : Array Bool} (hd : ∀ k, l.getD k false = true → ∀ e ∈ afters ops k, l.getD e false = true) : ∀ (f i : Nat), (∀ e ∈ afters ops i, l.getD e false = true) → ∀ e ∈ anc ops f i, l.getD e false = true
  | 0, _, _, e, he => by cases he
  | f + 1, i, h, e, he => by
    unfold anc at he
    rcases List.mem_append.1 he with h1 | h1
    · exact h e h1
    · obtain ⟨x, hx, hy⟩ := List.mem_flatMap.1 h1
      exact anc_up hd f x (hd x (h x hx)) e hy

def isPlain : Op → Bool
  | .select _ _ => false
  | _ => true

/-- The frame where what has come up so far has been put. -/
def fill (D : Nat → Option Tmp) (vals : Nat → Value) (l : Array Bool) (a : Act) : Nat → Act
  | 0 => a
  | k + 1 => if l.getD k false = true then (fill D vals l a k).put (D k) (vals k) else fill D vals l a k
/-- The frame where all has been put. -/
def fillAll (D : Nat → Option Tmp) (vals : Nat → Value) (a : Act) : Nat → Act
  | 0 => a
  | k + 1 => (fillAll D vals a k).put (D k) (vals k)
def upd (vals : Nat → Value) (i : Nat) (v : Value) : Nat → Value := fun k => if k = i then v else vals k

theorem put_size (a : Act) (d : Option Tmp) (v : Value) : (a.put d v).tmps.size = a.tmps.size := by
  cases d <;> simp [Act.put]
theorem put_defers2 (a : Act) (d : Option Tmp) (v : Value) : (a.put d v).defers = a.defers := by
  cases d <;> rfl
theorem put_same (a : Act) (d : Tmp) (v : Value) (h : d < a.tmps.size) : (a.put (some d) v).eval (.tmp d) = v := by
  simp [Act.put, Act.eval, Array.getD_eq_getD_getElem?, h]
theorem fill_size (D : Nat → Option Tmp) (vals : Nat → Value) (l : Array Bool) (a : Act) : ∀ m, (fill D vals l a m).tmps.size = a.tmps.size
  | 0 => rfl
  | m + 1 => by unfold fill; split <;> simp [put_size, fill_size]
theorem fillAll_size (D : Nat → Option Tmp) (vals : Nat → Value) (a : Act) : ∀ m, (fillAll D vals a m).tmps.size = a.tmps.size
  | 0 => rfl
  | m + 1 => by simp [fillAll, put_size, fillAll_size]
theorem fill_defers (D : Nat → Option Tmp) (vals : Nat → Value) (l : Array Bool) (a : Act) : ∀ m, (fill D vals l a m).defers = a.defers
  | 0 => rfl
  | m + 1 => by unfold fill; split <;> simp [put_defers2, fill_defers]
theorem fillAll_defers (D : Nat → Option Tmp) (vals : Nat → Value) (a : Act) : ∀ m, (fillAll D vals a m).defers = a.defers
  | 0 => rfl
  | m + 1 => by simp [fillAll, put_defers2, fillAll_defers]
theorem fill_all {D : Nat → Option Tmp} {vals : Nat → Value} {l : Array Bool} {a : Act} : ∀ {m}, (∀ k, k < m → l.getD k false = true) → fill D vals l a m = fillAll D vals a m
  | 0, _ => rfl
  | m + 1, h => by
    unfold fill fillAll
    rw [if_pos (h m (by omega)), fill_all fun k hk => h k (by omega)]
theorem fill_none {D : Nat → Option Tmp} {vals : Nat → Value} {l : Array Bool} {a : Act} : ∀ {m}, (∀ k, k < m → l.getD k false = false) → fill D vals l a m = a
  | 0, _ => rfl
  | m + 1, h => by
    unfold fill
    rw [if_neg (by simp [h m (by omega)]), fill_none fun k hk => h k (by omega)]
theorem fill_congr {D : Nat → Option Tmp} {vals vals' : Nat → Value} {l l' : Array Bool} {a : Act} : ∀ {m}, (∀ k, k < m → l.getD k false = l'.getD k false ∧ vals k = vals' k) → fill D vals l a m = fill D vals' l' a m
  | 0, _ => rfl
  | m + 1, h => by
    obtain ⟨h1, h2⟩ := h m (by omega)
    unfold fill
    rw [h1, h2, fill_congr fun k hk => h k (by omega)]
theorem fill_set {D : Nat → Option Tmp} {vals : Nat → Value} {l : Array Bool} {a : Act} {i : Nat} {v : Value} (hs : i < l.size) (hu : l.getD i false = false) :
    ∀ {m}, i < m → (∀ j, j < m → j ≠ i → ∀ d, D j = some d → D i ≠ some d) → (fill D vals l a m).put (D i) v = fill D (upd vals i v) (l.setIfInBounds i true) a m
  | 0, h, _ => by omega
  | m + 1, h, hd => by
    rcases Nat.lt_or_ge i m with h1 | h1
    · have ih := fill_set (D := D) (vals := vals) (a := a) (v := v) hs hu h1 fun j hj => hd j (by omega)
      unfold fill
      rw [getD_other (by omega : i ≠ m), ← ih, show upd vals i v m = vals m from if_neg (by omega)]
      split
      · exact Act.put_comm _ _ _ (hd m (by omega) (by omega))
      · rfl
    · obtain rfl : i = m := by omega
      unfold fill
      rw [if_neg (by simp [hu]), if_pos (getD_same hs _), show upd vals i v i = v from if_pos rfl]
      rw [fill_congr (vals := vals) (vals' := upd vals i v) (l := l) (l' := l.setIfInBounds i true) fun k hk => ⟨(getD_other (by omega) _).symm, (if_neg (by omega)).symm⟩]
theorem fill_eval {D : Nat → Option Tmp} {vals : Nat → Value} {l : Array Bool} {a : Act} {x : Operand} :
    ∀ {m}, (∀ k, k < m → l.getD k false = false → ∀ d, D k = some d → x ≠ .tmp d) → (fill D vals l a m).eval x = (fillAll D vals a m).eval x
  | 0, _ => rfl
  | m + 1, h => by
    have ih := fill_eval (D := D) (vals := vals) (l := l) (a := a) (x := x) (m := m) fun k hk => h k (by omega)
    unfold fill fillAll
    cases hb : l.getD m false with
    | true =>
      rw [if_pos rfl]
      by_cases hx : ∃ d, D m = some d ∧ x = .tmp d
      · obtain ⟨d, h1, rfl⟩ := hx
        rw [h1]
        simp only [Act.put, Act.eval, Array.getD_eq_getD_getElem?, Array.getElem?_setIfInBounds, fill_size, fillAll_size, if_true]
      · rw [Act.eval_put fun d h1 h2 => hx ⟨d, h1, h2⟩, Act.eval_put fun d h1 h2 => hx ⟨d, h1, h2⟩, ih]
    | false =>
      rw [if_neg (by simp), Act.eval_put (h m (by omega) hb), ih]

/-- What the order-free law asks of operation i (m of them, writing ds, in frames of N). -/
def okAt (ops : Array Oper) (m : Nat) (ds : List Tmp) (N : Nat) (i : Nat) : Bool :=
  match ops[i]? with
  | none => false
  | some o => o.dst == ds[i]? && decide (i < ds.length) && decide (ds.getD i 0 < N) && o.guard.isNone && isPlain o.op && (afters ops i).all (fun e => decide (e < i)) &&
      (List.range m).all (fun k => k == i || ds[k]? != ds[i]?) &&
      o.op.operands.toList.all (fun x => match x with
        | .tmp t => (List.range m).all fun k => ds[k]? != some t || (afters ops i).contains k
        | _ => true)
theorem okAt_spec {m : Nat} {ds : List Tmp} {N i : Nat} (h : okAt ops m ds N i = true) :
    ∃ o, ops[i]? = some o ∧ o.dst = some (ds.getD i 0) ∧ ds[i]? = some (ds.getD i 0) ∧ ds.getD i 0 < N ∧ o.guard = none ∧ (∀ cs b, o.op ≠ .select cs b) ∧ (∀ e ∈ afters ops i, e < i) ∧
      (∀ k, k < m → k ≠ i → ds[k]? ≠ ds[i]?) ∧ (∀ x ∈ o.op.operands, ∀ t, x = .tmp t → ∀ k, k < m → ds[k]? = some t → k ∈ afters ops i) := by
  unfold okAt at h
  cases ho : ops[i]? with
  | none => rw [ho] at h; cases h
  | some o =>
    rw [ho] at h
    simp only [Bool.and_eq_true, beq_iff_eq, decide_eq_true_eq, List.all_eq_true, Bool.or_eq_true, bne_iff_ne, List.mem_range, Option.isNone_iff_eq_none] at h
    obtain ⟨⟨⟨⟨⟨⟨⟨h1, h2⟩, h3⟩, h4⟩, h5⟩, h6⟩, h7⟩, h8⟩ := h
    have hi : ds[i]? = some (ds.getD i 0) := by simp [List.getD_eq_getElem?_getD, h2]
    refine ⟨o, rfl, h1.trans hi, hi, h3, h4, ?_, h6, fun k hk hne => (h7 k hk).resolve_left hne, ?_⟩
    · intro cs b he
      rw [he] at h5
      cases h5
    · rintro x hx t rfl k hk hd
      have := h8 _ (by simpa using hx)
      simp only [List.all_eq_true, List.mem_range, Bool.or_eq_true, bne_iff_ne, List.contains_iff_mem] at this
      exact (this k hk).resolve_left fun h => h hd

/-- Step i of the order-free law: run in the frame where all has been put (what has not come up yet is not looked at). -/
def FreeStep (P : Program) (Q : Exit → Act → World → Prop) (ops : Array Oper) (ds : List Tmp) (aF : (Nat → Value) → Act) (S : World → Prop) (Φ : Nat → Value → World → Prop) (fresh : Nat → Bool) (i : Nat) (o : Oper) : Prop :=
  ∀ (vals : Nat → Value) (w : World), S w → (∀ e ∈ afters ops i, Φ e (vals e) w) → ∀ K : Act → World → Prop,
    (∀ a' w', a'.defers = (aF vals).defers → Below w.heap.size w w' → Φ i (a'.eval (.tmp (ds.getD i 0))) w' → (fresh i = true → ∃ q, a'.eval (.tmp (ds.getD i 0)) = .pointer (some ⟨q, 0, none⟩) ∧ w.heap.size ≤ q ∧ q < w'.heap.size) → K a' w') →
    o.wp P (aF vals) w K Q

/-- One step each. -/
def AllAt (F : Nat → Oper → Prop) : Nat → List Oper → Nat → Prop
  | _, _, 0 => True
  | _, [], _ + 1 => True
  | k, o :: os, n + 1 => F k o ∧ AllAt F (k + 1) os n
theorem AllAt.nil {F : Nat → Oper → Prop} {k : Nat} {os : List Oper} : AllAt F k os 0 := by unfold AllAt; trivial
theorem AllAt.cons {F : Nat → Oper → Prop} {k n : Nat} {o : Oper} {os : List Oper} (h : F k o) (t : AllAt F (k + 1) os n) : AllAt F k (o :: os) (n + 1) := ⟨h, t⟩
theorem AllAt.at {F : Nat → Oper → Prop} : ∀ {k : Nat} {os : List Oper} {n : Nat}, AllAt F k os n → ∀ i, i < n → ∀ o, os[i]? = some o → F (k + i) o
  | _, _, 0, _, i, h, _, _ => by omega
  | _, [], _ + 1, _, i, _, o, ho => by cases i <;> cases ho
  | k, x :: xs, n + 1, h, 0, _, o, ho => by
    obtain rfl : x = o := by simpa using ho
    exact h.1
  | k, x :: xs, n + 1, h, i + 1, hi, o, ho => by
    have := AllAt.at h.2 i (by omega) o (by simpa using ho)
    rwa [show k + 1 + i = k + (i + 1) by omega] at this
/-- What has come up: the first m of n. -/
def firsts (n m : Nat) : Array Bool := ((List.range n).map fun k => decide (k < m)).toArray
theorem firsts_eq {l : Array Bool} {n m : Nat} (hs : l.size = n) (hm : m ≤ n) (h : ∀ k, l.getD k false = decide (k < m)) : l = firsts n m := by
  apply Array.ext_getElem?
  intro k
  have := h k
  rw [show (firsts n m)[k]? = ((List.range n).map fun k => decide (k < m))[k]? from List.getElem?_toArray .., List.getElem?_map]
  rcases Nat.lt_or_ge k n with hk | hk
  · rw [List.getElem?_range hk, Array.getElem?_eq_getElem (by omega)]
    simp only [Array.getD_eq_getD_getElem?, Array.getElem?_eq_getElem (show k < l.size by omega), Option.getD_some] at this
    simp [this]
  · rw [Array.getElem?_eq_none (by omega), List.getElem?_eq_none (by simpa using hk)]
    rfl

/-- **The order-free law**: of a region that draws its order, the first m operations (no guards) in whatever order: each meets its own condition in its own world; what it has shown stays (Below). -/
theorem region_free {id : Nat} {a : Act} {w : World} {os : List Oper} (m r : Nat) (ds : List Tmp) (aF : (Nat → Value) → Act) (S : World → Prop) (Φ : Nat → Value → World → Prop) (fresh : Nat → Bool)
    (hm : P.follows .mixedOrders = true)
    (haF : ∀ vals, fillAll (fun k => ds[k]?) vals a m = aF vals)
    (hr : os.length = m + r)
    (hok : (List.range m).all (okAt os.toArray m ds a.tmps.size) = true)
    (hend : (List.range os.length).all (fun i => decide (i < m) || (List.range m).all fun k => (anc os.toArray 3 i).contains k) = true)
    (hQ : ∀ c (t t' : Array Value) (d : List Deferred) w, Q (.panic c) ⟨t, d⟩ w → Q (.panic c) ⟨t', d⟩ w)
    (hSb : ∀ w w', Below w.heap.size w w' → S w → S w')
    (hΦb : ∀ k v w w', Below w.heap.size w w' → Φ k v w → Φ k v w')
    (hS : S w.drew)
    (hop : AllAt (FreeStep P Q os.toArray ds aF S Φ fresh) 0 os m)
    (hfin : ∀ (vals : Nat → Value) (w : World), S w → (∀ k, k < m → Φ k (vals k) w) →
      (∀ j k, j < m → k < m → j ≠ k → fresh j = true → fresh k = true → ∀ p q, vals j = .pointer (some ⟨p, 0, none⟩) → vals k = .pointer (some ⟨q, 0, none⟩) → p ≠ q) →
      wpAny P .any os.toArray Q r (firsts (m + r) m) (aF vals) w) :
    (Code.region id os.toArray true).wp P Q a w := by
  generalize hops : os.toArray = ops at *
  have hsz0 : ops.size = m + r := by rw [← hops]; simpa using hr
  have hle : m ≤ ops.size := by omega
  replace hend : (List.range ops.size).all (fun i => decide (i < m) || (List.range m).all fun k => (anc ops 3 i).contains k) = true := by rw [hsz0, ← hr]; exact hend
  replace hop : ∀ i, i < m → ∀ o, ops[i]? = some o → FreeStep P Q ops ds aF S Φ fresh i o := fun i hi o ho => by
    have := hop.at i hi o (by rw [← hops] at ho; simpa using ho)
    rwa [Nat.zero_add] at this
  replace hfin : ∀ (vals : Nat → Value) (w : World), S w → (∀ k, k < m → Φ k (vals k) w) →
      (∀ j k, j < m → k < m → j ≠ k → fresh j = true → fresh k = true → ∀ p q, vals j = .pointer (some ⟨p, 0, none⟩) → vals k = .pointer (some ⟨q, 0, none⟩) → p ≠ q) →
      ∀ l : Array Bool, l.size = ops.size → (∀ k, l.getD k false = decide (k < m)) → wpAny P .any ops Q (ops.size - m) l (aF vals) w := fun vals w h1 h2 h3 l h4 h5 => by
    rw [firsts_eq (h4.trans hsz0) (by omega) h5, show ops.size - m = r by omega]
    exact hfin vals w h1 h2 h3
  replace hQ : ∀ c (a a' : Act) w, a.defers = a'.defers → Q (.panic c) a w → Q (.panic c) a' w := by
    rintro c ⟨t, d⟩ ⟨t', d'⟩ w he h
    obtain rfl : d = d' := he
    exact hQ c t t' d w h
  refine wp_region_any hm ?_
  have hat : ∀ i, i < m → okAt ops m ds a.tmps.size i = true := fun i hi => List.all_eq_true.1 hok i (List.mem_range.2 hi)
  have hlate : ∀ i, m ≤ i → i < ops.size → ∀ k, k < m → k ∈ anc ops 3 i := fun i h1 h2 k hk => by
    have := List.all_eq_true.1 hend i (List.mem_range.2 h2)
    simp only [Bool.or_eq_true, decide_eq_true_eq, List.all_eq_true, List.mem_range, List.contains_iff_mem] at this
    exact (this.resolve_left (by omega)) k hk
  have hfr : ∀ (l : Array Bool), l = Array.replicate ops.size false → ∀ k, l.getD k false = false := by
    rintro l rfl k
    simp only [Array.getD_eq_getD_getElem?, Array.getElem?_replicate]
    split <;> rfl
  let J : Array Bool → Act → World → Prop := fun l a' w' => (l.size = ops.size ∧ ∀ k, m ≤ k → l.getD k false = false) ∧ S w' ∧ (∀ k, k < m → l.getD k false = true → ∀ e ∈ afters ops k, l.getD e false = true) ∧
    ∃ vals, a' = fill (fun k => ds[k]?) vals l a m ∧ (∀ k, k < m → l.getD k false = true → Φ k (vals k) w' ∧ (fresh k = true → ∃ q, vals k = .pointer (some ⟨q, 0, none⟩) ∧ q < w'.heap.size)) ∧
      (∀ j k, j < m → k < m → l.getD j false = true → l.getD k false = true → j ≠ k → fresh j = true → fresh k = true → ∀ p q, vals j = .pointer (some ⟨p, 0, none⟩) → vals k = .pointer (some ⟨q, 0, none⟩) → p ≠ q)
  have hdown : ∀ l a' w', J l a' w' → ∀ k, l.getD k false = true → ∀ e ∈ afters ops k, l.getD e false = true := fun l a' w' hj k hk => by
    rcases Nat.lt_or_ge k m with h1 | h1
    · exact hj.2.2.1 k h1 hk
    · rw [hj.1.2 k h1] at hk
      cases hk
  have hz : ∀ j, j ≤ m → left (Array.replicate ops.size false) j = j := fun j => by
    induction j with
    | zero => exact fun _ => rfl
    | succ j ihj => exact fun h => by unfold left; rw [ihj (by omega), hfr _ rfl j]; rfl
  have key := wpAny_inv (P := P) (ops := ops) (Q := Q) (md := .any) m J (fun l a' w' hj => hj.1) hle (fun i o h1 ho e he hb => ?hback) (fun l a' w' i hj hi h1 => ?hstep) (fun l a' w' i hj hi h1 k hk => ?hwait) (fun l a' w' hj hall => ?hfin)
    m (Array.replicate ops.size false) a w.drew (hz m (Nat.le_refl _)) ⟨⟨by simp, fun k _ => hfr _ rfl k⟩, hS, fun k _ h => (by rw [hfr _ rfl k] at h; cases h),
      fun _ => undef, (fill_none fun k _ => hfr _ rfl k).symm, fun k _ h => (by rw [hfr _ rfl k] at h; cases h), fun j k _ _ h => (by rw [hfr _ rfl j] at h; cases h)⟩
  · have e : ops.size - m + m = ops.size := by omega
    rw [e] at key
    exact key
  case hback =>
    obtain ⟨_, _, _, _, _, _, _, hlow, _, _⟩ := okAt_spec (hat i h1)
    refine hlow e.on ?_
    unfold afters
    rw [ho]
    exact List.mem_map.2 ⟨e, List.mem_filter.2 ⟨by simpa using he, hb⟩, rfl⟩
  case hwait =>
    have hlt : i < ops.size := by
      obtain ⟨_, o, ho, _⟩ := mem_ready.1 hi
      exact (Array.getElem?_eq_some_iff.1 ho).1
    exact anc_up (hdown l a' w' hj) 3 i (fun e he => ready_after hi he) k (hlate i h1 hlt k hk)
  case hfin =>
    obtain ⟨⟨hs, hl⟩, hSw, _, vals, rfl, hv, hp⟩ := hj
    rw [fill_all hall, haF]
    refine hfin vals w' hSw (fun k hk => (hv k hk (hall k hk)).1) (fun j k h1 h2 => hp j k h1 h2 (hall j h1) (hall k h2)) l hs fun k => ?_
    rcases Nat.lt_or_ge k m with h | h
    · rw [hall k h, decide_eq_true h]
    · rw [hl k h, decide_eq_false (by omega)]
  case hstep =>
    obtain ⟨⟨hs, hl⟩, hSw, hdn, vals, rfl, hv, hp⟩ := hj
    obtain ⟨o, ho, hdst, hdi, hlt, hg, hsel, hlow, hdist, hops⟩ := okAt_spec (hat i h1)
    have hu : l.getD i false = false := by
      have h2 := (mem_ready.1 hi).1
      have h3 : i < l.size := by omega
      simp only [Array.getD_eq_getD_getElem?] at h2 ⊢
      rw [Array.getElem?_eq_getElem h3] at h2 ⊢
      simpa using h2
    have hdep : ∀ e ∈ afters ops i, l.getD e false = true := fun e he => ready_after hi he
    have heval : ∀ x ∈ o.op.operands, (fill (fun k => ds[k]?) vals l a m).eval x = (aF vals).eval x := fun x hx => by
      rw [← haF vals]
      exact fill_eval fun k hk hk2 d hd hxd => by
        rw [hdep k (hops x hx d hxd k hk hd)] at hk2
        cases hk2
    have hrun := hop i h1 o ho vals w' hSw (fun e he => (hv e (by have := hlow e he; omega) (hdep e he)).1)
      (fun a2 w2 => a2.defers = (aF vals).defers ∧ Below w'.heap.size w' w2 ∧ Φ i (a2.eval (.tmp (ds.getD i 0))) w2 ∧ (fresh i = true → ∃ q, a2.eval (.tmp (ds.getD i 0)) = .pointer (some ⟨q, 0, none⟩) ∧ w'.heap.size ≤ q ∧ q < w2.heap.size))
      (fun a2 w2 h1 h2 h3 h4 => ⟨h1, h2, h3, h4⟩)
    have hsz : ds.getD i 0 < (aF vals).tmps.size := by rw [← haF vals, fillAll_size]; exact hlt
    have next : ∀ v w2, Below w'.heap.size w' w2 → Φ i v w2 → (fresh i = true → ∃ q, v = .pointer (some ⟨q, 0, none⟩) ∧ w'.heap.size ≤ q ∧ q < w2.heap.size) →
        J (l.setIfInBounds i true) ((fill (fun k => ds[k]?) vals l a m).put o.dst v) w2 := fun v w2 hb hphi hfresh => by
      have hne : ∀ k, k ≠ i → (l.setIfInBounds i true).getD k false = l.getD k false := fun k hk => getD_other (Ne.symm hk) _
      refine ⟨⟨by simpa using hs, fun k hk => by rw [hne k (by omega)]; exact hl k hk⟩, hSb _ _ hb hSw, fun k hk hk2 e he => ?_, upd vals i v, ?_, fun k hk hk2 => ?_, fun j k hj hk hj2 hk2 hjk fj fk p q ep eq => ?_⟩
      · by_cases hki : k = i
        · subst hki
          rw [hne e (by have := hlow e he; omega)]
          exact hdep e he
        · rw [hne k hki] at hk2
          by_cases hei : e = i
          · subst hei
            exact getD_same (by omega) _
          · rw [hne e hei]
            exact hdn k hk hk2 e he
      · rw [hdst, ← hdi]
        exact fill_set (by omega) hu h1 fun j hj hji d hd hdi2 => hdist j hj hji (hd.trans hdi2.symm)
      · by_cases hki : k = i
        · subst hki
          rw [show upd vals k v k = v from if_pos rfl]
          exact ⟨hphi, fun hf => by obtain ⟨q, h1, _, h3⟩ := hfresh hf; exact ⟨q, h1, h3⟩⟩
        · rw [hne k hki] at hk2
          rw [show upd vals i v k = vals k from if_neg hki]
          obtain ⟨h3, h4⟩ := hv k hk hk2
          exact ⟨hΦb _ _ _ _ hb h3, fun hf => by obtain ⟨q, h5, h6⟩ := h4 hf; exact ⟨q, h5, Nat.lt_of_lt_of_le h6 hb.size⟩⟩
      · by_cases hji : j = i
        · subst hji
          have hki : k ≠ j := fun h => hjk h.symm
          rw [show upd vals j v j = v from if_pos rfl] at ep
          rw [show upd vals j v k = vals k from if_neg hki] at eq
          rw [hne k hki] at hk2
          obtain ⟨q1, e1, l1, _⟩ := hfresh fj
          obtain ⟨q2, e2, l2⟩ := (hv k hk hk2).2 fk
          rw [e1] at ep
          rw [e2] at eq
          cases ep
          cases eq
          omega
        · by_cases hki : k = i
          · subst hki
            rw [show upd vals k v k = v from if_pos rfl] at eq
            rw [show upd vals k v j = vals j from if_neg hji] at ep
            rw [hne j hji] at hj2
            obtain ⟨q1, e1, l1, _⟩ := hfresh fk
            obtain ⟨q2, e2, l2⟩ := (hv j hj hj2).2 fj
            rw [e1] at eq
            rw [e2] at ep
            cases ep
            cases eq
            omega
          · rw [show upd vals i v j = vals j from if_neg hji] at ep
            rw [show upd vals i v k = vals k from if_neg hki] at eq
            rw [hne j hji] at hj2
            rw [hne k hki] at hk2
            exact hp j k hj hk hj2 hk2 hjk fj fk p q ep eq
    unfold wpOp
    rw [ho]
    simp only []
    rw [if_pos (by unfold Region.wanted; rw [hg])]
    refine .inl ?_
    unfold Oper.wp at hrun ⊢
    rw [execOp_congr o hsel heval]
    generalize (execOp (aF vals).eval o).run P w' = r at hrun ⊢
    have hdef : (aF vals).defers = (fill (fun k => ds[k]?) vals l a m).defers := by rw [← haF vals, fillAll_defers, fill_defers]
    have hput : ∀ v, ((aF vals).put o.dst v).eval (.tmp (ds.getD i 0)) = v := fun v => by rw [hdst]; exact put_same _ _ _ hsz
    cases r with
    | ok n w2 =>
      cases n <;> simp only [Oper.upon] at hrun ⊢
      case value v => rw [hput] at hrun; exact next _ _ hrun.2.1 hrun.2.2.1 hrun.2.2.2
      case skip => rw [hput] at hrun; exact next _ _ hrun.2.1 hrun.2.2.1 hrun.2.2.2
      case defer d =>
        exfalso
        have := hrun.1
        rw [put_defers2] at this
        have := congrArg List.length this
        simp at this
      case enter f args =>
        refine Calls.mono hrun fun e w3 he => ?_
        cases e with
        | returned v => simp only at he ⊢; rw [hput] at he; exact next _ _ he.2.1 he.2.2.1 he.2.2.2
        | panicked c => exact hQ _ _ _ _ hdef he
        | outgrown => exact he
      case row r args =>
        refine Rows.mono hrun fun v w3 he => ?_
        rw [hput] at he
        exact next _ _ he.2.1 he.2.2.1 he.2.2.2
    | halt x w2 =>
      cases x <;> simp only [Oper.upon] at hrun ⊢ <;> exact hQ _ _ _ _ hdef hrun
end

end Go.Proofs.YtgdchljbjnhchaaGreatDoor

/- What package whole answers, as contracts over memory: whole numbers in the shortest limbs, 0 not below 0. Conditions: sizes of at most so many limbs; the table of powers of ten where texts are made or read. -/
namespace Go.Proofs.YtgdchljbjnhchaaGreatDoor
open Go.RowKit Limb
set_option linter.unusedVariables false

theorem ZZ.zof {w : World} {s : Bool} {A : Option Addr} {n c : Nat} {xs : List Nat} {x : Int} {L : Nat} (h : ZZ w s A n c xs x L) : zOf s x.natAbs = x := h.sgn.symm
theorem zOf_not {s : Bool} {a : Nat} {x : Int} (h : zOf s a = x) : zOf (!s) a = -x := by
  subst h; cases s <;> simp [zOf]
theorem zOf_add {s : Bool} {a b : Nat} {x y : Int} (h : zOf s a = x) (k : zOf s b = y) : zOf s (a + b) = x + y := by
  subst h; subst k; cases s <;> simp [zOf] <;> omega
theorem zOf_sub {s s' : Bool} {a b : Nat} {x y : Int} (h : zOf s a = x) (k : zOf s' b = y) (hs : s ≠ s') (hab : b ≤ a) : zOf s (a - b) = x + y := by
  subst h; subst k; cases s <;> cases s' <;> simp [zOf] at hs ⊢ <;> omega
theorem zOf_mul {s s' : Bool} {a b : Nat} {x y : Int} (h : zOf s a = x) (k : zOf s' b = y) : zOf (s != s') (a * b) = x * y := by
  subst h; subst k; cases s <;> cases s' <;> simp [zOf, Int.neg_mul, Int.mul_neg]


theorem cmp_abs_neg {x y : Int} (hx : x < 0) (hy : y < 0) : cmpI y.natAbs x.natAbs = cmpZ x y := by
  rcases Int.lt_trichotomy x y with h | h | h
  · rw [cmpZ_lt h, cmpI_lt (by omega)]
  · rw [cmpZ_eq h, cmpI_same (by omega)]
  · rw [cmpZ_gt h, cmpI_gt (by omega)]
theorem cmp_abs_pos {x y : Int} (hx : 0 ≤ x) (hy : 0 ≤ y) : cmpI x.natAbs y.natAbs = cmpZ x y := by
  rcases Int.lt_trichotomy x y with h | h | h
  · rw [cmpZ_lt h, cmpI_lt (by omega)]
  · rw [cmpZ_eq h, cmpI_same (by omega)]
  · rw [cmpZ_gt h, cmpI_gt (by omega)]

theorem conv_u64 {v : Int} (h : -9223372036854775808 ≤ v) (h1 : v ≤ 9223372036854775807) : IntKind.u64.wrap v = if v < 0 then v + 18446744073709551616 else v := by
  rw [IntKind.wrap_u64]; split <;> omega
theorem zz_zof {v : Int} : zOf (decide (v < 0)) v.natAbs = v := by
  unfold zOf
  by_cases h : v < 0
  · simp [h]; omega
  · simp [h]; omega


end Go.Proofs.YtgdchljbjnhchaaGreatDoor
