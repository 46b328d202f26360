/- Part 9 of the texts that the statements of this seat lean on: mathematics, and what functions answer, as contracts over memory; each part says its own conditions. -/
import Derived.Test.YtjikaojffgjndaaGreatDoorM8
import Derived.Lib.ParseIntB
import Derived.RangeFuncOwn
import Derived.Lib.AtoiErrMem
import Derived.Lib.LaidTab
import Derived.Stop.LaidErr
import Derived.ProofKit
import Derived.OpenShut
import Derived.ShutString
import Derived.ChangeOld
import Derived.ChangeArms
/- Plain mathematics of decimal digits nine by nine: groups of nine, their digits, noughts ahead; what package digits keeps in its table. No condition. -/
namespace Go.Proofs.YtjikaojffgjndaaGreatDoor.Limb
def pad : Nat → Nat → List Nat
 | 0, _ => []
 | k + 1, v => pad k (v / 10) ++ [48 + v % 10]
theorem pad_len (k v : Nat) : (pad k v).length = k := by
 induction k generalizing v with
 | zero => rfl
 | succ k ih => rw [pad, List.length_append, ih]; rfl
theorem pad_dig (k v : Nat) : allDig (pad k v) = true := by
 induction k generalizing v with
 | zero => rfl
 | succ k ih => rw [pad, allDig_append, ih]; exact allDig_iff.2 fun x hx => by simp at hx; omega
theorem pad_val (k v : Nat) : decV (pad k v) = v % 10 ^ k := by
 induction k generalizing v with
 | zero => rw [pad, decV_nil, Nat.pow_zero, Nat.mod_one]
 | succ k ih =>
  rw [pad, decV_snoc, ih, Nat.add_sub_cancel_left, Nat.pow_succ, Nat.mul_comm (10 ^ k) 10, Nat.mod_mul]
  omega
theorem pad_step (k p v : Nat) : pad (k + 1) (v / 10 ^ p) = pad k (v / 10 ^ (p + 1)) ++ [48 + v / 10 ^ p % 10] := by
 rw [pad, Nat.div_div_eq_div_mul, ← Nat.pow_succ]
def gval : List Nat → Nat
 | [] => 0
 | g :: r => gval r * 1000000000 + g
def flat : List Nat → List Nat
 | [] => []
 | g :: r => flat r ++ pad 9 g
theorem gval_snoc (l : List Nat) (x : Nat) : gval (l ++ [x]) = gval l + x * 1000000000 ^ l.length := by
 induction l with
 | nil => simp [gval]
 | cons g r ih =>
  rw [List.cons_append, gval, ih, gval, List.length_cons, Nat.pow_succ, Nat.add_mul, Nat.mul_assoc]
  omega
theorem flat_dig (l : List Nat) : allDig (flat l) = true := by
 induction l with
 | nil => rfl
 | cons g r ih => rw [flat, allDig_append, ih, pad_dig]; rfl
theorem flat_val (l : List Nat) (h : ∀ x ∈ l, x < 1000000000) : decV (flat l) = gval l := by
 induction l with
 | nil => rfl
 | cons g r ih =>
  rw [flat, decV_append, ih (fun x hx => h x (by simp [hx])), pad_val, pad_len, gval]
  have := h g (by simp)
  rw [show (10 : Nat) ^ 9 = 1000000000 from rfl, Nat.mod_eq_of_lt this]
def bare (l : List Nat) : List Nat := l.dropWhile (· == 48)
theorem bare_dig {l : List Nat} (h : allDig l = true) : allDig (bare l) = true := allDig_iff.2 fun x hx => allDig_iff.1 h x ((List.dropWhile_sublist _).mem hx)
theorem bare_val (l : List Nat) : decV (bare l) = decV l := by
 induction l with
 | nil => rfl
 | cons x r ih =>
  unfold bare at ih ⊢
  by_cases hx : x = 48
  · subst hx; rw [List.dropWhile_cons_of_pos (by simp), ih, decV_cons]; simp
  · rw [List.dropWhile_cons_of_neg (by simp; exact hx)]
theorem bare_head (l : List Nat) (h : bare l ≠ []) : lim (bare l) 0 ≠ 48 := by
 induction l with
 | nil => exact absurd rfl h
 | cons x r ih =>
  unfold bare at ih h ⊢
  by_cases hx : x = 48
  · subst hx
    rw [List.dropWhile_cons_of_pos (by simp)] at h ⊢
    exact ih h
  · rw [List.dropWhile_cons_of_neg (by simp; exact hx)]; simpa [lim] using hx
theorem bare_nil {l : List Nat} (h : allDig l = true) : bare l = [] ↔ decV l = 0 := by
 constructor
 · intro e; rw [← bare_val, e]; rfl
 · intro e
   rcases Classical.em (bare l = []) with h0 | h0
   · exact h0
   · have := pow_le_of_head (bare_dig h) h0 (bare_head l h0)
     rw [bare_val, e] at this
     have : 0 < 10 ^ ((bare l).length - 1) := Nat.pow_pos (by decide)
     omega
theorem bare_dec {l : List Nat} (h : allDig l = true) (h0 : bare l ≠ []) : bare l = decT (decV l) := (decT_eq (bare_dig h) h0 (bare_head l h0) (bare_val l)).symm
def Lead (l : List Nat) (k : Nat) : Prop := k ≤ l.length ∧ bare l = bare (l.drop k)
theorem Lead.start (l : List Nat) : Lead l 0 := ⟨Nat.zero_le _, rfl⟩
theorem Lead.step {l : List Nat} {k : Nat} (h : Lead l k) (hk : k < l.length) (h48 : lim l k = 48) : Lead l (k + 1) := by
 refine ⟨hk, ?_⟩
 have e : l[k] = 48 := by rw [← h48]; simp [lim, List.getD_eq_getElem?_getD, List.getElem?_eq_getElem hk]
 rw [h.2, List.drop_eq_getElem_cons hk, e]
 rfl
theorem Lead.done {l : List Nat} {k : Nat} (h : Lead l k) (hk : k < l.length) (h48 : lim l k ≠ 48) : bare l = l.drop k := by
 have e : l[k] ≠ 48 := by
  intro e; apply h48; rw [← e]; simp [lim, List.getD_eq_getElem?_getD, List.getElem?_eq_getElem hk]
 rw [h.2, List.drop_eq_getElem_cons hk, bare, List.dropWhile_cons_of_neg (by simp; exact e)]
theorem Lead.all {l : List Nat} {k : Nat} (h : Lead l k) (hk : k = l.length) : bare l = [] := by
 rw [h.2, hk, List.drop_length]; rfl
def GInv (a : Nat) (gs : List Nat) (m : Nat) : Prop := a = m * 1000000000 ^ gs.length + gval gs ∧ (∀ x ∈ gs, x < 1000000000) ∧ (gs.length ≤ 1 ∨ 1000000000 ^ (gs.length - 1) ≤ a)
theorem GInv.start (a : Nat) : GInv a [] a := ⟨by simp [gval], by simp, .inl (by simp)⟩
theorem GInv.step {a m : Nat} {gs : List Nat} (h : GInv a gs m) (h0 : m ≠ 0 ∨ gs = []) : GInv a (gs ++ [m % 1000000000]) (m / 1000000000) := by
 obtain ⟨h1, h2, h3⟩ := h
 refine ⟨?_, ?_, ?_⟩
 · rw [gval_snoc, List.length_append, List.length_singleton, Nat.pow_succ]
   have e := Nat.div_add_mod m 1000000000
   generalize m / 1000000000 = q at *
   generalize m % 1000000000 = r at *
   generalize 1000000000 ^ gs.length = p at *
   subst e
   rw [h1]
   grind
 · intro x hx
   rcases List.mem_append.1 hx with h | h
   · exact h2 x h
   · simp at h; omega
 · rw [List.length_append, List.length_singleton, Nat.add_sub_cancel]
   rcases h0 with h0 | h0
   · right
     have : 1 * 1000000000 ^ gs.length ≤ m * 1000000000 ^ gs.length := Nat.mul_le_mul_right _ (by omega)
     omega
   · left; subst h0; simp
theorem GInv.done {a : Nat} {gs : List Nat} (h : GInv a gs 0) : gval gs = a := by have := h.1; omega
theorem GInv.len {a m L : Nat} {gs : List Nat} (h : GInv a gs m) (hl : a < 4294967296 ^ L) : gs.length ≤ 2 * L + 1 := by
 rcases h.2.2 with h1 | h1
 · omega
 · have h2 : 1000000000 ^ (gs.length - 1) < 10 ^ (10 * L) := Nat.lt_of_le_of_lt h1 (Nat.lt_of_lt_of_le hl pow_digits)
   rw [show (1000000000 : Nat) = 10 ^ 9 from rfl, ← Nat.pow_mul] at h2
   have := (Nat.pow_lt_pow_iff_right (a := 10) (by decide)).1 h2
   omega
theorem PInv.group {l : List Nat} {i t m : Nat} (h : PInv l i t) (hm : i + m ≤ l.length) (hd : allDig ((l.drop i).take m) = true) : PInv l (i + m) (t * 10 ^ m + decV ((l.drop i).take m)) := by
 have e : l.take (i + m) = l.take i ++ (l.drop i).take m := by rw [List.take_add]
 have hl : ((l.drop i).take m).length = m := by rw [List.length_take, List.length_drop]; omega
 refine ⟨by rw [e, allDig_append, h.1, hd]; rfl, by rw [e, decV_append, h.2, hl]⟩
theorem parseM_few (M : Nat) (hM : M ≤ 4294967295) : ∀ (l : List UInt8) (acc : Nat), acc * 10 ^ l.length + 10 ^ l.length ≤ M + 1 →
 Lib.parseUintM M acc l = if allDig (l.map UInt8.toNat) = true then Lib.NumEnd.ok (acc * 10 ^ l.length + decV (l.map UInt8.toNat)) else Lib.NumEnd.syntax
 | [], acc, _ => by
  rw [Lib.parseUintM, if_pos (by rfl)]
  simp [decV_nil]
 | c :: r, acc, h => by
  rw [List.length_cons, Nat.pow_succ] at h
  have h1 : 0 < 10 ^ r.length := Nat.pow_pos (by decide)
  rw [Lib.parseUintM]
  by_cases hd : 48 ≤ c.toNat ∧ c.toNat ≤ 57
  · rw [if_pos hd]
    have h2 : (acc * 10 + (c.toNat - 48)) * 10 ^ r.length + 10 ^ r.length ≤ M + 1 := by
     have h3 := Nat.mul_le_mul_right (10 ^ r.length) (show acc * 10 + (c.toNat - 48) + 1 ≤ acc * 10 + 10 by omega)
     rw [Nat.add_mul, Nat.one_mul] at h3
     have e : (acc * 10 + 10) * 10 ^ r.length = acc * (10 ^ r.length * 10) + 10 ^ r.length * 10 := by grind
     omega
    have h4 : acc * 10 + (c.toNat - 48) ≤ (acc * 10 + (c.toNat - 48)) * 10 ^ r.length := Nat.le_mul_of_pos_right _ h1
    rw [if_neg (by omega), if_neg (by omega), parseM_few M hM r _ h2, List.map_cons]
    have ed : allDig (c.toNat :: r.map UInt8.toNat) = allDig (r.map UInt8.toNat) := by simp [allDig, isDig, hd.1, hd.2]
    have ev : acc * 10 ^ (c :: r).length + decV (c.toNat :: r.map UInt8.toNat) = (acc * 10 + (c.toNat - 48)) * 10 ^ r.length + decV (r.map UInt8.toNat) := by
     rw [decV_cons, List.length_cons, Nat.pow_succ, List.length_map]
     grind
    rw [ed, ev]
  · rw [if_neg hd, List.map_cons]
    have ed : allDig (c.toNat :: r.map UInt8.toNat) = false := by
     simp [allDig, isDig]
     intro h5 h6
     omega
    rw [ed, if_neg (by decide)]
theorem parseB_yes {l : List UInt8} (h0 : l ≠ []) (h9 : l.length ≤ 9) (h : allDig (l.map UInt8.toNat) = true) : Lib.parseUintB 32 l = .ok (decV (l.map UInt8.toNat)) := by
 have hp : 10 ^ l.length ≤ 10 ^ 9 := Nat.pow_le_pow_right (by decide) h9
 rw [Lib.parseUintB, if_neg h0, parseM_few _ (by decide) l 0 (by rw [Nat.zero_mul, Nat.zero_add]; exact Nat.le_trans hp (by decide)), if_pos h, Nat.zero_mul, Nat.zero_add]
theorem parseB_no {l : List UInt8} (h9 : l.length ≤ 9) (h : allDig (l.map UInt8.toNat) = false) : Lib.parseUintB 32 l = Lib.NumEnd.syntax := by
 have hp : 10 ^ l.length ≤ 10 ^ 9 := Nat.pow_le_pow_right (by decide) h9
 rw [Lib.parseUintB]
 split
 · rfl
 · rw [parseM_few _ (by decide) l 0 (by rw [Nat.zero_mul, Nat.zero_add]; exact Nat.le_trans hp (by decide)), if_neg (by rw [h]; decide)]
end Go.Proofs.YtjikaojffgjndaaGreatDoor.Limb

/- What package digits' groups and appendGroup answer, as contracts over memory, where its table of powers of ten reads as it is laid. Condition: the table (Tab), at most 10000 limbs. -/
namespace Go.Proofs.YtjikaojffgjndaaGreatDoor
open Go.RowKit Limb
set_option linter.unusedVariables false
def Tab (w : World) : Prop := (∀ i, i < 10 → w.cell? ⟨0, i, none⟩ = some (.int .u32 ((10 ^ i : Nat) : Int))) ∧ ∃ te pe, w.cell? ⟨3, 0, none⟩ = some (.iface te pe)
theorem Tab.below {w w' : World} (h : Tab w) (hb : Below w.heap.size w w') : Tab w' := by
 obtain ⟨h1, te, pe, h2⟩ := h
 exact ⟨fun i hi => (hb.cell (p := ⟨0, i, none⟩) (Lib.lt_of_cell (h1 i hi))).trans (h1 i hi), te, pe, (hb.cell (p := ⟨3, 0, none⟩) (Lib.lt_of_cell h2)).trans h2⟩
theorem Tab.lt {w : World} (h : Tab w) : 0 < w.heap.size := Lib.lt_of_cell (h.1 0 (by decide))
def lenOf (v : Value) : Nat := match v with
 | .slice _ n _ => n
 | _ => 0
theorem wpList_append_word {w : World} {ops : Array Oper} {rest : List Oper} {o : Oper} {a : Act} {Q : Exit → Act → World → Prop} (hgd : o.guard = none) (s x : Operand)
 (ho : o.op = .call { callee := .builtin .append, args := #[s, x], argTypes := #[22, 22] })
 (base : Nat) (v : Value) (n : Nat) (xs : List Nat) (hs : a.eval s = v) (hown : Hid (w.ownsRow base 74 1 v n (xs.map limV)))
 (g : Nat) (hx : a.eval x = .slice (some ⟨g, 0, none⟩) 1 1) (y : Nat) (hy : Hid (w.cell? ⟨g, 0, none⟩ = some (.int .u32 (y : Int)) ∧ y < 4294967296)) (hb : Hid (n ≤ 1000000000 ∧ base ≤ w.heap.size ∧ Small xs))
 (h : ∀ A2 c2 w', Hid (OwnN w' base A2 (n + 1) c2 (xs ++ [y])) → Hid (w.grownBy w' v.ownBlock) → wpList Tryz.prog ops Q rest (a.put o.dst (.slice A2 (n + 1) c2)) w') : wpList Tryz.prog ops Q (o :: rest) a w := by
 obtain ⟨i0, hi, hz0, hz1, hz2⟩ := info_parts u32_info
 obtain ⟨h1, h3, h4⟩ := hb.out
 refine wpList_append_read hgd s x 22 ho base 74 i0 (.int .u32 0) 4 Tryz.underlying22 hi hz0 hz1 hz2 rfl v n (xs.map limV) hs hown.out (some ⟨g, 0, none⟩) 1 1 ([y].map limV) hx rfl ?_ (oneCell_u32 [y]) (by unfold maxLen; omega) (by omega) h3 ?_
 · intro _
   refine ⟨_, rfl, fun j u hu => ?_⟩
   obtain ⟨hj, rfl⟩ := map_u32_get hu
   obtain rfl : j = 0 := by simpa using hj
   have e : (⟨g, 0, none⟩ : Addr).add 0 = ⟨g, 0, none⟩ := by unfold Addr.add; split <;> simp_all
   rw [e]
   exact hy.out.1
 · intro v' w' hown' hg
   rw [← List.map_append] at hown'
   obtain ⟨A2, c2, rfl, how⟩ := shape_own hown' (small_append.2 ⟨h4, by intro z hz; simp at hz; subst hz; exact hy.out.2⟩)
   exact h A2 c2 w' how hg
theorem below_grownN {w0 w w' : World} {A : Option Addr} {n c : Nat} {zs : List Nat} {o : Obj} (hb : Below w0.heap.size w0 w) (how : OwnN w w0.heap.size A n c zs) (hg : (w.alloc o).grownBy w' (Value.ownBlock (.slice A n c))) : Below w0.heap.size w0 w' :=
 (hb.alloc hb.size o).grown hg (by have := hb.size; simp; omega) (fun k hk => (how.1.lt k hk).1)
theorem below_grownC {C : Nat} {w0 w w' : World} {A : Option Addr} {n c : Nat} {zs : List Nat} {o : Obj} (hb : Below C w0 w) (hC : C ≤ w.heap.size) (how : OwnB w C A n c zs) (hg : (w.alloc o).grownBy w' (Value.ownBlock (.slice A n c))) : Below C w0 w' :=
 (hb.alloc hC o).grown hg (by simp; omega) (fun k hk => (how.1.lt k hk).1)
theorem others_grownB {w0 w w' : World} {B : Nat} {A : Option Addr} {n c : Nat} {zs : List Nat} {o : Obj} (hk : KeepsOthers w0 w) (how : OwnB w B A n c zs) (hg : (w.alloc o).grownBy w' (Value.ownBlock (.slice A n c))) : KeepsOthers w0 w' := by
 refine hk.trans ((KeepsOthers.alloc w o).trans (KeepsOthers.of_grownBy hg fun j ob e ho => ?_))
 have hlt := (how.1.lt j e).2
 rcases how.1.2 with ⟨hv, _⟩ | ⟨g, cap, cur, hv, hB, hh, _⟩
 · injection hv with hA; subst hA; cases e
 · injection hv with hA; subst hA
   injection e with e; subst e
   have h2 := (Below.heap_alloc w o g (Array.getElem?_eq_some_iff.1 hh).1).trans hh
   rw [h2] at ho
   injection ho with ho; subst ho; rfl
set_option maxHeartbeats 2000000 in
set_option maxRecDepth 4000 in
/-- appendGroup: nine digits behind the row. -/
theorem appendGroup_c {w : World} {B : Nat} {A : Option Addr} {n c : Nat} {zs : List Nat} (T : Tab w) (hB : OwnB w B A n c zs) (hBw : B ≤ w.heap.size) (h0 : 0 < B) (hn : n ≤ 900000000) (v : Nat) (hv : v < 1000000000) :
 Calls Tryz.prog 112 #[.slice A n c, .int .u32 (v : Int)] w fun e w' => ∃ A2 c2, e = .returned (.slice A2 (n + 9) c2) ∧ OwnB w' B A2 (n + 9) c2 (zs ++ pad 9 v) ∧ Below B w w' ∧ KeepsOthers w w' := by
 have HT := Lib.hid T
 have HB := Lib.hid hB
 have HK := Lib.hid (KeepsOthers.refl w)
 have HW := Lib.hid (Below.refl B w)
 have HC := Lib.hid hBw
 have H0 := Lib.hid h0
 have HP : RowKit.Hid (zs ++ pad 0 (v / 10 ^ 9) = zs) := by show _ = _; simp [pad]
 clear T hB hBw h0
 go_enter Tryz.func112, Tryz.ntmps112
 go_wp2
 go_loopw [5, 0] (fun pv tv wr => ∃ (j : Nat) (A2 : Option Addr) (c2 : Nat), j ≤ 9 ∧ pv = .int .i64 (8 - (j : Int)) ∧ tv = .slice A2 (n + j) c2 ∧ RowKit.Hid (OwnB wr B A2 (n + j) c2 (zs ++ pad j (v / 10 ^ (9 - j)))) ∧ RowKit.Hid (Below B w wr) ∧ RowKit.Hid (KeepsOthers w wr)) (fun pv _ _ => (intOf pv + 1).toNat)
 case atStart => exact ⟨0, A, c, by decide, rfl, rfl, by show OwnB _ _ _ _ _ _; rw [show 9 - 0 = 9 from rfl, HP.out]; exact HB.out, HW, HK⟩
 case round =>
  clear HB HW HK HP
  obtain ⟨j, A2, c2, hj, rfl, rfl, HB, HW, HK⟩ := hrel
  by_cases h9 : j = 9
  · subst h9
    go_wp2
    go_ret
    exact ⟨A2, c2, rfl, by have := HB.out; rwa [show 9 - 9 = 0 from rfl, Nat.pow_zero, Nat.div_one] at this, HW.out, HK.out⟩
  · obtain ⟨p, hp⟩ : ∃ p, j + p = 8 := ⟨8 - j, by omega⟩
    have ep : (8 : Int) - (j : Int) = (p : Int) := by omega
    have hp9 : p < 10 := by omega
    have hcell : wr.cell? ⟨0, p, none⟩ = some (.int .u32 ((10 ^ p : Nat) : Int)) := (HW.out.cell (p := ⟨0, p, none⟩) H0.out).trans (HT.out.1 p hp9)
    have Hst := pad_step j p v
    rw [show p + 1 = 9 - j by omega] at Hst
    obtain ⟨q, hq⟩ : ∃ q, q = 10 ^ p := ⟨_, rfl⟩
    have hqp : 0 < q := by rw [hq]; exact Nat.pow_pos (by decide)
    rw [← hq] at hcell Hst
    have hq0 : ((q : Int) != 0) = true := by simp; omega
    have hq1 : ((q : Int) == 0) = false := by simp; omega
    obtain ⟨z, hz⟩ : ∃ z, z = v / q := ⟨_, rfl⟩
    have hzl : z < 1000000000 := by rw [hz]; exact Nat.lt_of_le_of_lt (Nat.div_le_self _ _) hv
    have e1 : (v : Int) / (q : Int) = (z : Int) := by rw [hz]; simp
    rw [← hz] at Hst
    have HZ : RowKit.Hid (v / 10 ^ p = z) := by show _ = _; rw [hz, hq]
    obtain ⟨m, hm⟩ : ∃ m, m = z % 10 := ⟨_, rfl⟩
    have hml : m < 10 := by omega
    have e2 : (z : Int) % 10 = (m : Int) := by omega
    rw [← hm] at Hst
    have HS : RowKit.Hid (pad (j + 1) z = pad j (v / 10 ^ (9 - j)) ++ [48 + m]) := Hst
    rw [ep]
    clear hq hz hm Hst ep
    have Hown : RowKit.Hid ((wr.alloc (.cells #[Value.int IntKind.u8 (48 + (m : Int))] 5)).ownsRow B 5 1 (.slice A2 (n + j) c2) (n + j) ((zs ++ pad j (v / 10 ^ (9 - j))).map byV)) := (HB.out.alloc _).row
    have Hlit : RowKit.Hid ((wr.alloc (.cells #[Value.int IntKind.u8 (48 + (m : Int))] 5)).cell? ⟨wr.heap.size, 0, none⟩ = some (.int .u8 ((48 + m : Nat) : Int)) ∧ 48 + m < 256) := ⟨by rw [World.cell?_alloc_at _ _ _ _ rfl]; rfl, by omega⟩
    have Hb : RowKit.Hid (n + j ≤ 1000000000 ∧ B ≤ (wr.alloc (.cells #[Value.int IntKind.u8 (48 + (m : Int))] 5)).heap.size ∧ Bytes (zs ++ pad j (v / 10 ^ (9 - j)))) := ⟨by omega, by have h1 := HW.out.size; have h2 := HC.out; simp; omega, HB.out.bytes⟩
    go_wp2_with (at_builtin; refine wpList_append_byte rfl _ _ rfl B _ (n + j) _ rfl Hown wr.heap.size rfl (48 + m) Hlit Hb ?_)
    intro A3 c3 w3 how3 hg3
    have HW3 := Lib.hid (below_grownC HW.out (Nat.le_trans HC.out HW.out.size) HB.out hg3.out)
    have HK3 := Lib.hid (others_grownB HK.out HB.out hg3.out)
    have HB3 : RowKit.Hid (OwnB w3 B A3 (n + (j + 1)) c3 (zs ++ pad (j + 1) (v / 10 ^ (9 - (j + 1))))) := by
     show OwnB _ _ _ _ _ _
     rw [show 9 - (j + 1) = p by omega, HZ.out, HS.out]
     simpa only [List.append_assoc, Nat.add_assoc] using how3.out
    clear hg3 how3 Hown Hlit Hb HB HW HK
    go_wp2
    go_roundw
    case rel => exact ⟨j + 1, A3, c3, by omega, by go_num, by rw [Nat.add_assoc], HB3, HW3, HK3⟩
    case measure => simp [intOf] <;> omega
set_option maxHeartbeats 2000000 in
set_option maxRecDepth 4000 in
/-- groups: the number nine digits by nine, the lowest first. -/
theorem groups_c {w : World} {A : Option Addr} {n c : Nat} {xs : List Nat} {a L : Nat} (T : Tab w) (hx : NN w A n c xs a L) (h1 : L ≤ 10000) :
 Calls Tryz.prog 111 #[.slice A n c] w fun e w' => ∃ A2 n2 c2 gs, e = .returned (.slice A2 n2 c2) ∧ OwnN w' w.heap.size A2 n2 c2 gs ∧ GInv a gs 0 ∧ n2 ≤ 2 * L + 1 ∧ Below w.heap.size w w' := by
 have HT := Lib.hid T
 have Hlt := Lib.hid (lt_pow hx)
 have Hx := Lib.hid hx
 have HG := Lib.hid (GInv.start a)
 have HW := Lib.hid (Below.refl w.heap.size w)
 have Hle : RowKit.Hid (a = Limb.val xs ∧ xs.length = n) := ⟨hx.val.symm, hx.isN.len⟩
 have H0 : RowKit.Hid ((a ≠ 0 ∨ ([] : List Nat) = []) ∨ n = 0) := .inl (.inr rfl)
 clear T hx
 go_enter Tryz.func111, Tryz.ntmps111
 go_wp2
 go_loopw [0, 3] (fun av ov wr => ∃ (m k : Nat) (ys gs : List Nat) (A1 : Option Addr) (n1 c1 : Nat) (A2 : Option Addr) (c2 : Nat), av = .slice A1 n1 c1 ∧ ov = .slice A2 k c2 ∧ RowKit.Hid (GInv a gs m) ∧ RowKit.Hid (OwnN wr w.heap.size A2 k c2 gs) ∧ RowKit.Hid (NN wr A1 n1 c1 ys m L) ∧ RowKit.Hid (gs = [] ∨ ys = limbs m) ∧ RowKit.Hid (Below w.heap.size w wr)) (fun av _ wr => readN wr av + lenOf av)
 case atStart => exact ⟨a, 0, xs, [], A, n, c, none, 0, rfl, rfl, HG, OwnN.nil _ _, Hx, .inl rfl, HW⟩
 case round =>
  clear HG Hx HW Hle H0
  obtain ⟨m, k, ys, gs, A1, n1, c1, A2, c2, rfl, rfl, HG, HO, HX, HY, HW⟩ := hrel
  by_cases h0 : n1 = 0
  · subst h0
    go_wp2
    go_ret
    have hm : m = 0 := by
     have h2 := HX.out.val
     have h3 := HX.out.isN.len
     rw [List.eq_nil_of_length_eq_zero h3] at h2
     exact h2.symm
    subst hm
    have hk := HO.out.len
    have hl := HG.out.len Hlt.out
    exact ⟨A2, k, c2, gs, rfl, HO.out, HG.out, by omega, HW.out⟩
  · have hpos : (0 : Int) < (n1 : Int) := by omega
    have hcell : wr.cell? ⟨0, 9, none⟩ = some (.int .u32 1000000000) := (HW.out.cell (p := ⟨0, 9, none⟩) HT.out.lt).trans (HT.out.1 9 (by decide))
    have hl := HG.out.len Hlt.out
    have hk2 := HO.out.len
    have hk9 : k ≤ 1000000000 := by omega
    have hm0 : m ≠ 0 ∨ gs = [] := by
     rcases HY.out with h2 | h2
     · exact .inr h2
     · refine .inl fun h3 => h0 ?_
       have h4 := HX.out.isN.len
       rw [h2, h3, limbs_zero] at h4
       exact h4.symm
    have Hst := Lib.hid (HG.out.step hm0)
    obtain ⟨r, hr⟩ : ∃ r, r = m % 1000000000 := ⟨_, rfl⟩
    have hrl : r < 4294967296 := by have := Nat.mod_lt m (show 1000000000 > 0 by decide); omega
    rw [← hr] at Hst
    have HR := Lib.hid hr
    clear hl hk2 hm0 HG hr
    go_wp2_with fail
    refine (quoSmall_o HX.out (by omega) 1000000000 _ rfl (by decide) (by decide)).mono ?_
    rintro e w2 ⟨A3, n3, c3, rfl, hq, bn⟩
    rw [← HR.out]
    have HQ := Lib.hid hq
    have Hrow := Lib.hid (fun k hk => (HO.out.1.lt k hk).2)
    have HO2 := Lib.hid (HO.out.below bn (Nat.le_refl _))
    have HW2 := Lib.hid (below_two HW.out bn)
    have Hm : RowKit.Hid (readN wr (.slice A1 n1 c1) = m ∧ m < 4294967296 ^ n1) := ⟨by rw [readN_eq HX.out.isN, HX.out.val], by have h2 := val_lt HX.out.isN.small; rwa [HX.out.val, HX.out.isN.len] at h2⟩
    have Hq := Lib.hid (Nat.lt_of_le_of_lt (Nat.div_le_self m 1000000000) (lt_pow HX.out))
    clear hq bn HO HW HX HY hcell HR
    have Hown : RowKit.Hid ((w2.alloc (.cells #[Value.int IntKind.u32 (r : Int)] 74)).ownsRow w.heap.size 74 1 (.slice A2 k c2) k (gs.map limV)) := (HO2.out.1.alloc _)
    have Hlit : RowKit.Hid ((w2.alloc (.cells #[Value.int IntKind.u32 (r : Int)] 74)).cell? ⟨w2.heap.size, 0, none⟩ = some (.int .u32 (r : Int)) ∧ r < 4294967296) := ⟨by rw [World.cell?_alloc_at _ _ _ _ rfl]; rfl, hrl⟩
    have Hb : RowKit.Hid (k ≤ 1000000000 ∧ w.heap.size ≤ (w2.alloc (.cells #[Value.int IntKind.u32 (r : Int)] 74)).heap.size ∧ Small gs) := ⟨hk9, by have := HW2.out.size; simp; omega, HO2.out.small⟩
    go_wp2_with (at_builtin; refine wpList_append_word rfl _ _ rfl w.heap.size _ k gs rfl Hown w2.heap.size rfl r Hlit Hb ?_)
    intro A5 c5 w3 how3 hg3
    have HW3 := Lib.hid (below_grownN HW2.out HO2.out hg3.out)
    have HQ3 := Lib.hid (NN.own (HQ.out.keeps hg3.out Hrow.out) Hq.out)
    have HM : RowKit.Hid (readN w3 (.slice A3 n3 c3) + n3 < readN wr (.slice A1 n1 c1) + n1) := by
     show _ < _
     rw [readN_eq HQ3.out.isN, Hm.out.1, val_limbs]
     have h2 := HQ3.out.isN.len
     rcases Nat.eq_zero_or_pos m with h3 | h3
     · rw [h3, Nat.zero_div, limbs_zero] at h2
       rw [h3, ← h2]; simp; omega
     · have h4 := Nat.div_lt_self h3 (show 1 < 1000000000 by decide)
       have h5 := length_limbs_le (Nat.lt_trans h4 Hm.out.2)
       rw [h2] at h5
       omega
    clear hg3 Hown Hlit Hb HO2 HW2 HQ Hrow Hq Hm
    go_wp2
    go_roundw
    case rel => exact ⟨m / 1000000000, k + 1, _, gs ++ [r], A3, n3, c3, A5, c5, rfl, rfl, Hst, how3, HQ3, .inr rfl, HW3⟩
    case measure => exact HM.out
end Go.Proofs.YtjikaojffgjndaaGreatDoor

/- What the library's bytes.TrimLeft (of noughts) answers, as a contract over memory. Condition: the list reads as bytes. -/
namespace Go.Proofs.YtjikaojffgjndaaGreatDoor
open Go.RowKit Limb
set_option linter.unusedVariables false
theorem IsB.nil (w : World) (A : Option Addr) : IsB w A 0 [] := ⟨rfl, bytes_nil, fun h => absurd h (by omega)⟩
set_option maxHeartbeats 2000000 in
set_option maxRecDepth 4000 in
theorem trimByte_c {w : World} {A : Option Addr} {n c : Nat} {zs : List Nat} (h : IsB w A n zs) (hc : n ≤ c) (hm : c ≤ maxLen) :
 Calls Tryz.prog 148 #[.slice A n c, .int .u8 48] w fun e w' => ∃ A2 n2 c2, e = .returned (.slice A2 n2 c2) ∧ IsB w A2 n2 (bare zs) ∧ w' = w := by
 have Hm : RowKit.Hid (c ≤ maxLen) := hm
 have H0 : RowKit.Hid (IsB w A n (zs.drop 0)) := h
 have HL := Lib.hid (Lead.start zs)
 have Hn := Lib.hid h.1
 clear h hm
 go_enter Tryz.func148, Tryz.ntmps148
 go_wp2
 go_loopw [0] (fun sv wr => ∃ (k m cc : Nat) (A1 : Option Addr), sv = .slice A1 m cc ∧ m ≤ cc ∧ RowKit.Hid (k + m = n ∧ k + cc = c) ∧ RowKit.Hid (IsB w A1 m (zs.drop k)) ∧ RowKit.Hid (Lead zs k) ∧ wr = w) (fun sv _ => lenOf sv)
 case atStart => exact ⟨0, n, c, A, rfl, hc, ⟨by omega, by omega⟩, H0, HL, rfl⟩
 case round =>
  clear H0 HL
  obtain ⟨k, m, cc, A1, rfl, hmc, Hk, HI, HL, rfl⟩ := hrel
  by_cases h0 : m = 0
  · subst h0
    have hz : bare zs = [] := HL.out.all (by have h1 := Hk.out.1; have h2 := Hn.out; omega)
    have Hz := Lib.hid hz
    clear hz
    go_wp2
    go_ret
    exact ⟨none, 0, 0, rfl, by rw [Hz.out]; exact IsB.nil _ _, rfl⟩
  · have hpos : (0 : Int) < (m : Int) := by omega
    obtain ⟨b, o, rfl, hb, hcs⟩ := HI.out.2.2 (by omega)
    have hx := hcs 0 (by omega)
    have hkl : k < zs.length := by have := Hk.out.1; have := Hn.out; omega
    have hlim : lim (zs.drop k) 0 = lim zs k := by simp [lim]
    rw [hlim, Nat.add_zero] at hx
    by_cases h48 : lim zs k = 48
    · rw [h48] at hx
      have HL2 := Lib.hid (HL.out.step hkl h48)
      have HI2 : ∀ A2 : Option Addr, (cc ≠ 1 → A2 = some ⟨b, o + 1, none⟩) → IsB wr A2 (m - 1) (zs.drop (k + 1)) := fun A2 hA => by
       refine ⟨by rw [List.length_drop]; have h1 := Hk.out.1; have h2 := Hn.out; omega, ?_, fun hp => ?_⟩
       · have := bytes_drop HI.out.2.1 1
         rwa [List.drop_drop] at this
       · refine ⟨b, o + 1, hA (by omega), hb, fun j hj => ?_⟩
         have h3 := hcs (j + 1) (by omega)
         rw [show o + 1 + j = o + (j + 1) by omega, h3]
         have e : lim (zs.drop k) (j + 1) = lim (zs.drop (k + 1)) j := by
          simp only [lim, List.getD_eq_getElem?_getD, List.getElem?_drop]
          rw [show k + (j + 1) = k + 1 + j by omega]
         rw [e]
      have HI3 := Lib.hid HI2
      clear HI2 hcs hlim HI HL
      go_wp2
      go_roundw
      case rel => exact ⟨k + 1, m - 1, cc - 1, _, rfl, by omega, ⟨by have h1 := Hk.out; omega, by have h1 := Hk.out; omega⟩, HI3.out _ (fun hc1 => if_neg hc1), HL2, trivial⟩
      case measure => simp only [lenOf]; omega
    · have hne : ((lim zs k : Nat) : Int) ≠ 48 := by omega
      obtain ⟨d, hd⟩ : ∃ d, lim zs k = d := ⟨_, rfl⟩
      rw [hd] at hx hne
      have hq : ((d : Int) == 48) = false := by simp; omega
      have Hd := Lib.hid (HL.out.done hkl h48)
      have hm0 : ((m : Int) == 0) = false := by simp; omega
      clear hcs hlim
      go_wp2
      go_ret
      exact ⟨_, m, cc, rfl, by rw [Hd.out]; exact HI.out, rfl⟩
set_option maxHeartbeats 2000000 in
set_option maxRecDepth 4000 in
/-- bytes.TrimLeft(s, "0"): without noughts ahead; nothing lies otherwise. -/
theorem trim0_c {w : World} {A : Option Addr} {n c : Nat} {zs : List Nat} (h : IsB w A n zs) (hc : n ≤ c) (hm : c ≤ maxLen) :
 Calls Tryz.prog 113 #[.slice A n c, .string ⟨#[48]⟩] w fun e w' => ∃ A2 n2 c2, e = .returned (.slice A2 n2 c2) ∧ IsB w A2 n2 (bare zs) ∧ w' = w := by
 have HC := Lib.hid (trimByte_c h hc hm)
 have Hz : RowKit.Hid (n = 0 → zs = []) := fun h0 => List.eq_nil_of_length_eq_zero (by rw [h.1, h0])
 clear h
 by_cases h0 : n = 0
 · subst h0
   have HZ : RowKit.Hid (IsB w none 0 (bare zs)) := by show IsB _ _ _ _; rw [Hz.out rfl]; exact IsB.nil _ _
   clear Hz HC
   go_enter Tryz.func113, Tryz.ntmps113
   go_wp2
   go_ret
   exact ⟨none, 0, 0, rfl, HZ.out, rfl⟩
 · have hn0 : ((n : Int) == 0) = false := by simp; omega
   go_enter Tryz.func113, Tryz.ntmps113
   go_wp2_with fail
   refine HC.out.mono ?_
   rintro e w1 ⟨A2, n2, c2, rfl, h2, rfl⟩
   have H2 := Lib.hid h2
   clear h2
   go_wp2
   go_ret
   exact ⟨A2, n2, c2, rfl, H2.out, rfl⟩
end Go.Proofs.YtjikaojffgjndaaGreatDoor

/- What a row's listed variables give: the table of powers of ten and strconv's sentinel as the contracts ask them. Condition: the variables read as listed. -/
namespace Go.Proofs.YtjikaojffgjndaaGreatDoor
open Go.RowKit Go.ChangeShapes
set_option linter.unusedVariables false
theorem laidMet_drop {P : Program} {w : World} : ∀ (k : Nat) {l : List (String × DataW Unit)}, laidMet P l w → laidMet P (l.drop k) w
 | 0, _, h => h
 | _ + 1, [], h => h
 | k + 1, _ :: _, h => laidMet_drop k h.tail
def tens : List Int := [1, 10, 100, 1000, 10000, 100000, 1000000, 10000000, 100000000, 1000000000]
theorem tens_at : ∀ i, i < 10 → tens.getD i 0 = ((10 ^ i : Nat) : Int) := by decide
theorem powers_tab {W : World} {name : String} {r : List (String × DataW Unit)} (h : laidMet Tryz.prog ((name, Lib.tabData .u32 tens) :: r) W) (hg : Tryz.prog.globalNamed name = some 0) :
 ∀ i, i < 10 → W.cell? ⟨0, i, none⟩ = some (.int .u32 ((10 ^ i : Nat) : Int)) := fun i hi => by
 have hT := Lib.tabIs_of_head hg (t := 104) (by kernel_rfl) Tryz.underlying104 Tryz.underlying74 (by kernel_rfl) (by kernel_rfl) h
 rw [hT.cell hg i hi, tens_at i hi]
theorem err_tab {W : World} {name nm : String} {d : DataW Unit} {r : List (String × DataW Unit)} (h : laidMet Tryz.prog ((name, .iface nm d) :: r) W) (hg : Tryz.prog.globalNamed name = some 3) :
 ∃ te pe, W.cell? ⟨3, 0, none⟩ = some (.iface te pe) := by
 obtain ⟨ps, ⟨g0, t0, cs0, f0, p0, q0, hg0, ht0, hv0, hd0, _, _⟩, _, _⟩ := h
 obtain rfl := Option.some.inj (hg.symm.trans hg0)
 have ht : (Tryz.prog.globals[3]?).map (·.type) = some 115 := by kernel_rfl
 obtain rfl := Option.some.inj (ht.symm.trans ht0)
 obtain ⟨_, u, v, hcs, _⟩ := iface_of_trod Tryz.underlying115 hd0
 have h2 := World.var?_cell hg0 hv0 0
 rw [← Array.getElem?_toList, hcs] at h2
 exact ⟨u, v, by simpa using h2⟩
end Go.Proofs.YtjikaojffgjndaaGreatDoor

/- How an argument that is a slice of 32-bit words is opened: it reads as limbs in the caller's memory. No condition. -/
namespace Go.Proofs.YtjikaojffgjndaaGreatDoor
open Go.ChangeShapes Go.WideShapes Go.ChangeAt Go.RowKit Limb
set_option linter.unusedVariables false
theorem own : ownKnob Tryz.prog.godebug = none := by kernel_rfl
theorem laidOut : laidOutB Tryz.prog = true := by kernel_rfl
theorem wf_u32 {n : Int} (h : (Lit.int .u32 n).wf = true) : 0 ≤ n ∧ n < 4294967296 := by
 have h1 : IntKind.u32.min = 0 := rfl
 have h2 : IntKind.u32.max = 4294967295 := rfl
 simp only [Lit.wf, Bool.and_eq_true, decide_eq_true_eq] at h
 omega
theorem add_zero_addr (a : Addr) : a.add 0 = a := by simp [Addr.add]
theorem open_nat {H : Type} {enc : TypeId × Value → H} {W : World} {sp : Nat → Bool} {held : Bool} {a : Option Addr} {n c : Nat} {d : DataW H} {p : List MemPlace}
 (h : DataW.Trod enc Tryz.prog W 0 sp held 23 (.slice a n c) d p) : ∃ xs, IsN W a n xs ∧ n ≤ c ∧ c ≤ maxLen ∧ (a = none → c = 0) := by
 obtain ⟨fuel, hf⟩ := h
 rcases open_ints Tryz.underlying23 Tryz.underlying74 (by kernel_rfl) hf with ⟨hcs, _⟩ | ⟨x, l, k, zs, hcs, _, hl, hm, hz, _, hcell, hwz⟩
 · simp [Value.cells] at hcs
   obtain ⟨rfl, rfl, rfl⟩ := hcs
   exact ⟨[], IsN.nil _ _, Nat.le_refl _, Nat.zero_le _, fun _ => rfl⟩
 · simp [Value.cells] at hcs
   obtain ⟨rfl, rfl, rfl⟩ := hcs
   have hz' : n ≤ zs.length := by rw [hz]; split <;> omega
   refine ⟨(zs.take n).map Int.toNat, ⟨by simp; omega, ?_, fun hn => ?_⟩, hl, hm, fun e => by cases e⟩
   · intro v hv
     obtain ⟨z, hz2, rfl⟩ := List.mem_map.1 hv
     have := wf_u32 (hwz z (List.mem_of_mem_take hz2))
     omega
   · obtain ⟨b, o, spot⟩ := x
     have h0 := hcell 0 (by omega)
     rw [add_zero_addr] at h0
     have hs : spot = none := World.cell?_spot h0
     subst hs
     refine ⟨b, o, rfl, World.block_lt_of_cell? W _ h0, fun j hj => ?_⟩
     have hj2 := hcell j (by omega)
     have e : (⟨b, o, none⟩ : Addr).add j = ⟨b, o + j, none⟩ := by unfold Addr.add; split <;> simp_all
     rw [e] at hj2
     rw [hj2]
     have hw := wf_u32 (hwz zs[j] (List.getElem_mem (by omega)))
     have e2 : zs.getD j 0 = zs[j] := by simp [List.getD_eq_getElem?_getD, List.getElem?_eq_getElem (show j < zs.length by omega)]
     have e3 : lim ((zs.take n).map Int.toNat) j = (zs[j]).toNat := by
      simp [lim, List.getD_eq_getElem?_getD, hj, List.getElem?_eq_getElem (show j < zs.length by omega)]
     rw [e2, e3, Int.toNat_of_nonneg hw.1]
theorem places_lt {H : Type} {enc : TypeId × Value → H} {W : World} {base : Nat} {sp : Nat → Bool} {held : Bool} {t : TypeId} {v : Value} {d : DataW H} {p : List MemPlace} (h : DataW.Trod enc Tryz.prog W base sp held t v d p) : ∀ x ∈ p, x.block < W.heap.size := by
 obtain ⟨m, hm⟩ := h; exact DataW.trod_lt m _ _ _ hm
end Go.Proofs.YtjikaojffgjndaaGreatDoor

/- How an argument that is a struct of a sign and a list of limbs is opened. No condition. -/
namespace Go.Proofs.YtjikaojffgjndaaGreatDoor
open Go.ChangeShapes Go.WideShapes Go.ChangeAt Go.RowKit Limb
set_option linter.unusedVariables false
theorem cells_bool : Tryz.prog.cellsOf 4 = 1 := by kernel_rfl
theorem cells_nat : Tryz.prog.cellsOf 23 = 1 := by kernel_rfl
theorem cells_int : Tryz.prog.cellsOf 25 = 2 := by kernel_rfl
end Go.Proofs.YtjikaojffgjndaaGreatDoor

/- How an argument that is a rational number is opened: a struct of a struct of a sign and a list of limbs, and of a list of limbs. No condition. -/
namespace Go.Proofs.YtjikaojffgjndaaGreatDoor
open Go.ChangeShapes Go.WideShapes Go.ChangeAt Go.RowKit Limb
set_option linter.unusedVariables false
theorem cells_rat : Tryz.prog.cellsOf 27 = 3 := by kernel_rfl
theorem three_cells {cs : Array Value} {u v x : Value} (h : cs.toList = [u, v, x]) : cs = #[u, v, x] := by
 obtain ⟨l⟩ := cs
 have h2 : l = [u, v, x] := h
 rw [h2]
theorem slice_cell {H : Type} {enc : TypeId × Value → H} {W : World} {sp : Nat → Bool} {held : Bool} {m : Nat} {c : Value} {x : DataW H × List MemPlace}
 (h : DataW.trod enc Tryz.prog W 0 sp held m 23 [c] = some x) : ∃ (a : Option Addr) (n k : Nat) (zs : List Nat), c = .slice a n k ∧ IsN W a n zs ∧ n ≤ k ∧ k ≤ maxLen := by
 have h2 : DataW.Trod enc Tryz.prog W 0 sp held 23 c x.1 x.2 := by
  rcases DataW.trod_slice Tryz.underlying23 h with ⟨e, _⟩ | ⟨a, l, k, es, rs, m2, _, e, _⟩
  · simp at e; subst e; exact ⟨_, h⟩
  · simp at e; subst e; exact ⟨_, h⟩
 rcases DataW.trod_slice Tryz.underlying23 h with ⟨e, _⟩ | ⟨a, l, k, es, rs, m2, _, e, _⟩
 · simp at e; subst e
   obtain ⟨zs, hz, hc, hm, _⟩ := open_nat h2
   exact ⟨_, _, _, zs, rfl, hz, hc, hm⟩
 · simp at e; subst e
   obtain ⟨zs, hz, hc, hm, _⟩ := open_nat h2
   exact ⟨_, _, _, zs, rfl, hz, hc, hm⟩
set_option maxRecDepth 100000 in
theorem open_rat {H : Type} {enc : TypeId × Value → H} {W : World} {r : Reach} {b0 : Nat} {sp : Nat → Bool} {held : Bool} {v : Value} {d : DataW H} {p : List MemPlace}
 (hok : Value.okWide Tryz.prog W r b0 27 v) (h : DataW.Trod enc Tryz.prog W 0 sp held 27 v d p) :
 ∃ (s : Bool) (a : Option Addr) (n c : Nat) (xs : List Nat) (b : Option Addr) (m k : Nat) (ys : List Nat), v = .agg #[.bool s, .slice a n c, .slice b m k] ∧ IsN W a n xs ∧ n ≤ c ∧ c ≤ maxLen ∧ IsN W b m ys ∧ m ≤ k ∧ k ≤ maxLen := by
 obtain ⟨cs, rfl, hsz⟩ := okWide_struct Tryz.underlying27 hok
 rw [cells_rat] at hsz
 obtain ⟨fuel, hf⟩ := h
 obtain ⟨xs, m, rfl, hx, hlen, hxl, hel⟩ := DataW.trod_struct Tryz.underlying27 hf
 have h0 : DataW.trod enc Tryz.prog W 0 sp held m 25 (((Value.agg cs).cells.toList.drop 0).take (Tryz.prog.cellsOf 25)) = xs[0]? := hel 0 _ rfl
 have h1 : DataW.trod enc Tryz.prog W 0 sp held m 23 (((Value.agg cs).cells.toList.drop 2).take (Tryz.prog.cellsOf 23)) = xs[1]? := hel 1 _ rfl
 rw [cells_int] at h0
 rw [cells_nat] at h1
 have hxl2 : xs.length = 2 := by simpa using hxl
 rw [List.getElem?_eq_getElem (by omega)] at h0 h1
 have hcl : cs.toList.length = 3 := by simpa using hsz
 have hcc : (Value.agg cs).cells.toList = cs.toList := rfl
 rw [hcc] at h0 h1
 match hcs : cs.toList, hcl with
 | [c0, c1, c2], _ =>
  rw [hcs] at h0 h1
  obtain ⟨ys, m1, e0, hy, hylen, hyl, hyel⟩ := DataW.trod_struct Tryz.underlying25 h0
  have k0 : DataW.trod enc Tryz.prog W 0 sp held m1 4 ((([c0, c1] : List Value).drop 0).take (Tryz.prog.cellsOf 4)) = ys[0]? := hyel 0 _ rfl
  have k1 : DataW.trod enc Tryz.prog W 0 sp held m1 23 ((([c0, c1] : List Value).drop 1).take (Tryz.prog.cellsOf 23)) = ys[1]? := hyel 1 _ rfl
  rw [cells_bool] at k0
  rw [cells_nat] at k1
  have hyl2 : ys.length = 2 := by simpa using hyl
  rw [List.getElem?_eq_getElem (by omega)] at k0 k1
  obtain ⟨b, hb, _⟩ := DataW.trod_bool Tryz.underlying4 k0
  simp at hb
  subst hb
  obtain ⟨a, n, c, zs, rfl, hz, hc, hm⟩ := slice_cell (c := c1) k1
  obtain ⟨a2, n2, k2, zs2, rfl, hz2, hc2, hm2⟩ := slice_cell (c := c2) h1
  exact ⟨b, _, _, _, zs, _, _, _, zs2, by rw [three_cells hcs], hz, hc, hm, hz2, hc2, hm2⟩
end Go.Proofs.YtjikaojffgjndaaGreatDoor
