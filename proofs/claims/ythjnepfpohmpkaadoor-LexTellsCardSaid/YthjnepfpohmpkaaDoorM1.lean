/- Part 1 of the texts that the statements of this seat lean on: mathematics, and what functions answer, as contracts over memory; each part says its own conditions. -/
import Derived.Test.YthjnepfpohmpkaaDoorM0
import Derived.Deep.RegionHeld3
import Derived.Deep.CutRange
import Derived.Laws.BitsAllLaws
import Derived.Lib.LaidTab
import Derived.LoopIn
/- Mathematics of rational numbers as they are told: Lean's own Rat, its top and its bottom; what may be; the limit of 64 limbs; none is told as 0 and nothing. No condition. -/
namespace Go.Proofs.YthjnepfpohmpkaaDoor
open Go.RowKit Limb
set_option linter.unusedVariables false
def fitsQ (q : Rat) : Bool := decide (q.num.natAbs < 4294967296 ^ 64) && decide (q.den < 4294967296 ^ 64)
theorem mk_num {x : Int} {b : Nat} (hb : b ≠ 0) : (mkRat x b).num.natAbs = x.natAbs / Nat.gcd x.natAbs b ∧ sg (mkRat x b).num = sg x := by
 rw [Rat.num_mkRat, if_neg hb, Nat.gcd_comm]
 have hd : ((Nat.gcd x.natAbs b : Nat) : Int) ∣ x := by
  rw [Int.ofNat_dvd_left]; exact Nat.gcd_dvd_left _ _
 have hg : 0 < Nat.gcd x.natAbs b := Nat.gcd_pos_of_pos_right _ (Nat.pos_of_ne_zero hb)
 refine ⟨by rw [Int.natAbs_ediv_of_dvd hd]; rfl, ?_⟩
 obtain ⟨k, hk⟩ := hd
 generalize Nat.gcd x.natAbs b = g at hk hg ⊢
 subst hk
 rw [Int.mul_ediv_cancel_left _ (by omega)]
 unfold sg
 rw [decide_eq_decide]
 have h2 : (0 : Int) < (g : Int) := by omega
 constructor
 · intro h; exact Int.mul_neg_of_pos_of_neg h2 h
 · intro h
   rcases Int.lt_trichotomy k 0 with h3 | h3 | h3
   · exact h3
   · subst h3; simp at h
   · have := Int.mul_pos h2 h3; omega
theorem mk_den {x : Int} {b : Nat} (hb : b ≠ 0) : (mkRat x b).den = b / Nat.gcd x.natAbs b := by
 rw [Rat.den_mkRat, if_neg hb, Nat.gcd_comm]
theorem zOf_sg {z : Int} : zOf (sg z) z.natAbs = z := by
 unfold zOf sg
 by_cases h : z < 0
 · simp [h]; omega
 · simp [h]; omega
def goodV (s : Bool) (xs ys : List Nat) : Bool :=
 decide (xs = limbs (Limb.val xs)) && decide (ys = limbs (Limb.val ys)) && decide (Limb.val ys ≠ 0) && !(s && decide (Limb.val xs = 0)) && decide (xs.length ≤ 64) && decide (ys.length ≤ 64) && decide (Nat.gcd (Limb.val xs) (Limb.val ys) = 1)
theorem goodV_iff {s : Bool} {xs ys : List Nat} : goodV s xs ys = true ↔ xs = limbs (Limb.val xs) ∧ ys = limbs (Limb.val ys) ∧ Limb.val ys ≠ 0 ∧ ¬ (s = true ∧ Limb.val xs = 0) ∧ xs.length ≤ 64 ∧ ys.length ≤ 64 ∧ Nat.gcd (Limb.val xs) (Limb.val ys) = 1 := by
 unfold goodV
 simp only [Bool.and_eq_true, decide_eq_true_eq, Bool.not_eq_true', Bool.and_eq_false_iff, decide_eq_false_iff_not]
 constructor
 · rintro ⟨⟨⟨⟨⟨⟨h1, h2⟩, h3⟩, h4⟩, h5⟩, h6⟩, h7⟩
   exact ⟨h1, h2, h3, fun ⟨a, b⟩ => by rcases h4 with h4 | h4; · rw [a] at h4; cases h4
                                       · exact h4 b, h5, h6, h7⟩
 · rintro ⟨h1, h2, h3, h4, h5, h6, h7⟩
   refine ⟨⟨⟨⟨⟨⟨h1, h2⟩, h3⟩, ?_⟩, h5⟩, h6⟩, h7⟩
   cases s with
   | false => exact .inl rfl
   | true => exact .inr fun h => h4 ⟨rfl, h⟩
def readQ (s : Bool) (xs ys : List Nat) : Option Rat := if goodV s xs ys = true then some (mkRat (zOf s (Limb.val xs)) (Limb.val ys)) else none
theorem readQ_no {s : Bool} {xs ys : List Nat} (h : goodV s xs ys = false) : readQ s xs ys = none := if_neg (by rw [h]; decide)
theorem readQ_yes {s : Bool} {xs ys : List Nat} (h : goodV s xs ys = true) : ∃ q : Rat, readQ s xs ys = some q ∧ s = sg q.num ∧ xs = limbs q.num.natAbs ∧ ys = limbs q.den ∧ fitsQ q = true ∧ q.num = zOf s (Limb.val xs) ∧ q.den = Limb.val ys := by
 obtain ⟨h1, h2, h3, h4, h5, h6, h7⟩ := goodV_iff.1 h
 have ha : (zOf s (Limb.val xs)).natAbs = Limb.val xs := zOf_abs _ _
 obtain ⟨n1, n2⟩ := mk_num (x := zOf s (Limb.val xs)) h3
 have d1 := mk_den (x := zOf s (Limb.val xs)) h3
 rw [ha, h7, Nat.div_one] at n1 d1
 have hs : sg (zOf s (Limb.val xs)) = s := by
  cases s with
  | false => apply sg_pos; unfold zOf; simp
  | true =>
   have : Limb.val xs ≠ 0 := fun e => h4 ⟨rfl, e⟩
   apply sg_neg; unfold zOf; rw [if_pos rfl]; omega
 have hn : (mkRat (zOf s (Limb.val xs)) (Limb.val ys)).num = zOf s (Limb.val xs) := by
  have e1 := zOf_sg (z := (mkRat (zOf s (Limb.val xs)) (Limb.val ys)).num)
  rw [n1, n2, hs] at e1
  exact e1.symm
 refine ⟨_, if_pos h, ?_, ?_, ?_, ?_, hn, d1⟩
 · rw [n2, hs]
 · rw [n1]; exact h1
 · rw [d1]; exact h2
 · simp only [fitsQ, Bool.and_eq_true, decide_eq_true_eq]
   rw [n1, d1]
   have l1 := val_lt (xs := xs) (by rw [h1]; exact small_limbs _)
   have l2 := val_lt (xs := ys) (by rw [h2]; exact small_limbs _)
   exact ⟨Nat.lt_of_lt_of_le l1 (Nat.pow_le_pow_right (by decide) h5), Nat.lt_of_lt_of_le l2 (Nat.pow_le_pow_right (by decide) h6)⟩
end Go.Proofs.YthjnepfpohmpkaaDoor

/- What the statements' helpers keep.Int and keep.OwnInt, and the reference of layer 6, answer, as contracts over memory. Conditions: sizes of at most so many limbs. -/
namespace Go.Proofs.YthjnepfpohmpkaaDoor
open Go.RowKit Limb
set_option linter.unusedVariables false
section
variable {w : World} {s s' : Bool} {A A' : Option Addr} {n c n' c' : Nat} {xs ys : List Nat} {x y : Int} {L L' : Nat}
end
end Go.Proofs.YthjnepfpohmpkaaDoor

/- Mathematics of the order of rational numbers and of how many limbs sums and products have. No condition. -/
namespace Go.Proofs.YthjnepfpohmpkaaDoor
open Go.RowKit Limb
set_option linter.unusedVariables false
def Bd (q : Rat) (k l : Nat) : Prop := q.num.natAbs < 4294967296 ^ k ∧ q.den < 4294967296 ^ l
theorem Bd.mono {q : Rat} {k l k' l' : Nat} (h : Bd q k l) (hk : k ≤ k') (hl : l ≤ l') : Bd q k' l' :=
 ⟨Nat.lt_of_lt_of_le h.1 (Nat.pow_le_pow_right (by decide) hk), Nat.lt_of_lt_of_le h.2 (Nat.pow_le_pow_right (by decide) hl)⟩
end Go.Proofs.YthjnepfpohmpkaaDoor

/- Blocks of three and of four cells: what they hold, what stays where they are filled. No condition. -/
namespace Go.Proofs.YthjnepfpohmpkaaDoor
open Go.RowKit Limb
set_option linter.unusedVariables false
def Row3 (w : World) (g : Nat) (T : TypeId) (a b c : Value) : Prop := w.heap[g]? = some (.cells #[a, b, c] T (0, 0))
section
variable {w w' : World} {g : Nat} {T : TypeId} {a b c : Value}
theorem Row3.lt (h : Row3 w g T a b c) : g < w.heap.size := by
 rcases Nat.lt_or_ge g w.heap.size with hlt | hge
 · exact hlt
 · unfold Row3 at h; rw [Array.getElem?_eq_none hge] at h; cases h
theorem Row3.below (h : Row3 w g T a b c) (hb : Below w.heap.size w w') : Row3 w' g T a b c := (hb.block g h.lt).trans h
theorem Row3.c0 (h : Row3 w g T a b c) : w.cell? ⟨g, 0, none⟩ = some a := by unfold Row3 at h; simp [World.cell?, h]
theorem Row3.c1 (h : Row3 w g T a b c) : w.cell? ⟨g, 1, none⟩ = some b := by unfold Row3 at h; simp [World.cell?, h]
theorem Row3.c2 (h : Row3 w g T a b c) : w.cell? ⟨g, 2, none⟩ = some c := by unfold Row3 at h; simp [World.cell?, h]
theorem Row3.free (h : Row3 w g T a b c) (k : Nat) : w.frozen? ⟨g, k, none⟩ = false := by unfold Row3 at h; simp [World.frozen?, h]
theorem Row3.fill (h : Row3 w g T a b c) (x y z : Value) : Row3 (((w.setCell ⟨g, 0, none⟩ x).setCell ⟨g, 1, none⟩ y).setCell ⟨g, 2, none⟩ z) g T x y z := by
 unfold Row3 at h ⊢
 simp [World.setCell, Array.getElem?_modify, h]
end
def Row4 (w : World) (g : Nat) (T : TypeId) (a b c d : Value) : Prop := w.heap[g]? = some (.cells #[a, b, c, d] T (0, 0))
section
variable {w w' : World} {g : Nat} {T : TypeId} {a b c d : Value}
theorem Row4.lt (h : Row4 w g T a b c d) : g < w.heap.size := by
 rcases Nat.lt_or_ge g w.heap.size with hlt | hge
 · exact hlt
 · unfold Row4 at h; rw [Array.getElem?_eq_none hge] at h; cases h
theorem Row4.below (h : Row4 w g T a b c d) (hb : Below w.heap.size w w') : Row4 w' g T a b c d := (hb.block g h.lt).trans h
theorem Row4.c0 (h : Row4 w g T a b c d) : w.cell? ⟨g, 0, none⟩ = some a := by unfold Row4 at h; simp [World.cell?, h]
theorem Row4.c1 (h : Row4 w g T a b c d) : w.cell? ⟨g, 1, none⟩ = some b := by unfold Row4 at h; simp [World.cell?, h]
theorem Row4.c2 (h : Row4 w g T a b c d) : w.cell? ⟨g, 2, none⟩ = some c := by unfold Row4 at h; simp [World.cell?, h]
theorem Row4.free (h : Row4 w g T a b c d) (k : Nat) : w.frozen? ⟨g, k, none⟩ = false := by unfold Row4 at h; simp [World.frozen?, h]
theorem Row4.fill (h : Row4 w g T a b c d) (x y z v : Value) : Row4 ((((w.setCell ⟨g, 0, none⟩ x).setCell ⟨g, 1, none⟩ y).setCell ⟨g, 2, none⟩ z).setCell ⟨g, 3, none⟩ v) g T x y z v := by
 unfold Row4 at h ⊢
 simp [World.setCell, Array.getElem?_modify, h]
end
end Go.Proofs.YthjnepfpohmpkaaDoor

/- A block of cells as a list (a local array, a struct): what it holds, what a store leaves of it. Of any program; no condition. -/
namespace Go.Proofs.YthjnepfpohmpkaaDoor
open Go.RowKit Limb
set_option linter.unusedVariables false
def RowV (w : World) (g : Nat) (T : TypeId) (vs : List Value) : Prop := w.heap[g]? = some (.cells vs.toArray T (0, 0))
section
variable {w w' : World} {g : Nat} {T : TypeId} {vs : List Value}
theorem RowV.lt (h : RowV w g T vs) : g < w.heap.size := by
 rcases Nat.lt_or_ge g w.heap.size with hlt | hge
 · exact hlt
 · unfold RowV at h; rw [Array.getElem?_eq_none hge] at h; cases h
theorem RowV.below (h : RowV w g T vs) (hb : Below w.heap.size w w') : RowV w' g T vs := (hb.block g h.lt).trans h
theorem RowV.cell (h : RowV w g T vs) {k : Nat} {v : Value} (hk : vs[k]? = some v) : w.cell? ⟨g, k, none⟩ = some v := by
 unfold RowV at h
 have e : (vs.toArray)[k]? = some v := by rw [List.getElem?_toArray]; exact hk
 simp only [World.cell?, h]
 exact e
theorem RowV.free (h : RowV w g T vs) (k : Nat) : w.frozen? ⟨g, k, none⟩ = false := by unfold RowV at h; simp [World.frozen?, h]
theorem RowV.set (h : RowV w g T vs) (k : Nat) (v : Value) : RowV (w.setCell ⟨g, k, none⟩ v) g T (vs.set k v) := by
 unfold RowV at h ⊢
 have e : (vs.set k v).toArray = vs.toArray.setIfInBounds k v := by simp
 rw [e]
 simp [World.setCell, Array.getElem?_modify, h]
theorem RowV.far (h : RowV w g T vs) {g' : Nat} (hne : g' ≠ g) (k : Nat) (v : Value) : RowV (w.setCell ⟨g', k, none⟩ v) g T vs := by
 unfold RowV at h ⊢
 simp only [World.setCell, Array.getElem?_modify]
 rw [if_neg hne]
 exact h
end
end Go.Proofs.YthjnepfpohmpkaaDoor

/- Two structs of a sign and a slice that two calls answer and that go to two new variables ('x, y := f(..), g(..)'): Go leaves open when the variables are made; whatever the order, both boxes hold the answers. No condition. -/
namespace Go.Proofs.YthjnepfpohmpkaaDoor
open Go.RowKit Limb
set_option linter.unusedVariables false
theorem Row2.far {w : World} {g g' : Nat} {T : TypeId} {u v : Value} (h : Row2 w g' T u v) (hne : g ≠ g') (x y : Value) : Row2 ((w.setCell ⟨g, 0, none⟩ x).setCell ⟨g, 1, none⟩ y) g' T u v := by
 unfold Row2 at h ⊢
 simp only [World.setCell, Array.getElem?_modify]
 rw [if_neg hne, if_neg hne]
 exact h
section
variable {wP w : World} {q r : Nat} {s : Bool} {A : Option Addr} {n c : Nat} {xs : List Nat} {z : Int} {L : Nat} {s' : Bool} {A' : Option Addr} {n' c' : Nat} {xs' : List Nat} {z' : Int} {L' : Nat}
end
end Go.Proofs.YthjnepfpohmpkaaDoor

/- Rational numbers in memory: a struct of a sign and two lists of limbs that reads as a number, or as none. No condition. -/
namespace Go.Proofs.YthjnepfpohmpkaaDoor
open Go.RowKit Limb
set_option linter.unusedVariables false
theorem NN.short {w : World} {A : Option Addr} {n c : Nat} {xs : List Nat} {a L K : Nat} (h : NN w A n c xs a L) (hK : n ≤ K) : NN w A n c xs a K := ⟨h.isN, h.val, h.cap, hK⟩
structure QQ (w : World) (s : Bool) (A : Option Addr) (n c : Nat) (xs : List Nat) (B : Option Addr) (m d : Nat) (ys : List Nat) (o : Option Rat) (L : Nat) : Prop where
 top : ZZ w s A n c xs (zOf s (Limb.val xs)) L
 bot : NN w B m d ys (Limb.val ys) L
 rd : readQ s xs ys = o
theorem QQ.below {w w' : World} {s : Bool} {A : Option Addr} {n c : Nat} {xs : List Nat} {B : Option Addr} {m d : Nat} {ys : List Nat} {o : Option Rat} {L : Nat} (h : QQ w s A n c xs B m d ys o L) (hb : Below w.heap.size w w') : QQ w' s A n c xs B m d ys o L :=
 ⟨h.top.below hb, h.bot.below hb, h.rd⟩
theorem QQ.some {w : World} {s : Bool} {A : Option Addr} {n c : Nat} {xs : List Nat} {B : Option Addr} {m d : Nat} {ys : List Nat} {q : Rat} {L : Nat} (h : QQ w s A n c xs B m d ys (some q) L) :
 s = sg q.num ∧ xs = limbs q.num.natAbs ∧ ys = limbs q.den ∧ fitsQ q = true ∧ ZZ w s A n c xs q.num 64 ∧ NN w B m d ys q.den 64 ∧ goodV s xs ys = true := by
 have hg : goodV s xs ys = true := by
  cases h2 : goodV s xs ys with
  | true => rfl
  | false => have := h.rd; rw [readQ_no h2] at this; cases this
 obtain ⟨q', e, h1, h2, h3, h4, h5, h6⟩ := readQ_yes hg
 have := h.rd
 rw [e] at this
 injection this with this
 subst this
 have hf := h4
 simp only [fitsQ, Bool.and_eq_true, decide_eq_true_eq] at hf
 refine ⟨h1, h2, h3, h4, ?_, ?_, hg⟩
 · have ht := h.top
   rw [← h5] at ht
   refine ⟨?_, ht.sgn⟩
   have hn := ht.nn
   rw [h2] at hn ⊢
   exact hn.relax hf.1
 · have hb := h.bot
   rw [← h6] at hb
   rw [h3] at hb ⊢
   exact hb.relax hf.2
theorem QQ.none {w : World} {s : Bool} {A : Option Addr} {n c : Nat} {xs : List Nat} {B : Option Addr} {m d : Nat} {ys : List Nat} {L : Nat} (h : QQ w s A n c xs B m d ys none L) : goodV s xs ys = false := by
 cases h2 : goodV s xs ys with
 | false => rfl
 | true =>
  obtain ⟨q', e, _⟩ := readQ_yes h2
  have := h.rd
  rw [e] at this
  cases this
end Go.Proofs.YthjnepfpohmpkaaDoor

/- Mathematics of what calls on rational numbers tell: a number or none, and the error beside it. No condition. -/
namespace Go.Proofs.YthjnepfpohmpkaaDoor
open Go.RowKit Limb
set_option linter.unusedVariables false
end Go.Proofs.YthjnepfpohmpkaaDoor

/- Mathematics of the statements of stage 7: which sums, products and quotients have room, and what they are. No condition. -/
namespace Go.Proofs.YthjnepfpohmpkaaDoor
open Go.RowKit Limb
set_option linter.unusedVariables false
theorem QQ.of {w : World} {s : Bool} {A : Option Addr} {n c : Nat} {xs : List Nat} {B : Option Addr} {m d : Nat} {ys : List Nat} {K : Nat} (i : IsN w A n xs) (hc : n ≤ c) (j : IsN w B m ys) (kc : m ≤ d) (h : n ≤ K) (h' : m ≤ K) : QQ w s A n c xs B m d ys (readQ s xs ys) K :=
 ⟨ZZ.of ⟨i, rfl, hc, h⟩, ⟨j, rfl, kc, h'⟩, rfl⟩
theorem Row3.set {w : World} {g g' : Nat} {T : TypeId} {a b c : Value} (h : Row3 w g' T a b c) (hne : g ≠ g') (o : Nat) (v : Value) : Row3 (w.setCell ⟨g, o, Option.none⟩ v) g' T a b c := by
 unfold Row3 at h ⊢
 simp only [World.setCell, Array.getElem?_modify]
 rw [if_neg hne]; exact h
theorem Row4.set {w : World} {g g' : Nat} {T : TypeId} {a b c d : Value} (h : Row4 w g' T a b c d) (hne : g ≠ g') (o : Nat) (v : Value) : Row4 (w.setCell ⟨g, o, Option.none⟩ v) g' T a b c d := by
 unfold Row4 at h ⊢
 simp only [World.setCell, Array.getElem?_modify]
 rw [if_neg hne]; exact h
end Go.Proofs.YthjnepfpohmpkaaDoor

/- Mathematics of powers of rational numbers (Lean's own), of the limbs that they have, and of the statements of stage 8. No condition. -/
namespace Go.Proofs.YthjnepfpohmpkaaDoor
open Go.RowKit Limb
set_option linter.unusedVariables false
theorem inv_told {q : Rat} (h : q.num ≠ 0) : (q⁻¹).num = zOf (sg q.num) q.den ∧ (q⁻¹).den = q.num.natAbs := by
 rw [Rat.num_inv, Rat.den_inv, if_neg h]
 refine ⟨?_, rfl⟩
 rcases Int.lt_trichotomy q.num 0 with h1 | h1 | h1
 · rw [sg_neg h1, Int.sign_eq_neg_one_of_neg h1]; unfold zOf; rw [if_pos rfl]; omega
 · exact absurd h1 h
 · rw [sg_pos (by omega), Int.sign_eq_one_of_pos h1]; unfold zOf; rw [if_neg (by decide)]; omega
theorem Bd.inv {q : Rat} {k l : Nat} (h : Bd q k l) (hq : q.num ≠ 0) : Bd (q⁻¹) l k := by
 obtain ⟨h1, h2⟩ := inv_told hq
 refine ⟨?_, ?_⟩
 · rw [h1, zOf_abs]; exact h.2
 · rw [h2]; exact h.1
end Go.Proofs.YthjnepfpohmpkaaDoor

/- Mathematics of the statements of stage 8: which powers have room, and what they are. No condition. -/
namespace Go.Proofs.YthjnepfpohmpkaaDoor
open Go.RowKit Limb
set_option linter.unusedVariables false
end Go.Proofs.YthjnepfpohmpkaaDoor

/- Mathematics of literals: the longest one with which a text begins, its parts, its number. No condition. -/
namespace Go.Proofs.YthjnepfpohmpkaaDoor.Limb
set_option linter.unusedVariables false
def litRun (l : List Nat) : Nat := (l.takeWhile isDig).length
def litPoint (l : List Nat) : Nat := if lim l 0 = 46 ∧ litRun (l.drop 1) ≠ 0 then 1 + litRun (l.drop 1) else 0
def litAt (l : List Nat) : Nat := if lim l 1 = 45 then 2 else 1
def litExp (l : List Nat) : Nat := if lim l 0 = 101 ∧ litRun (l.drop (litAt l)) ≠ 0 then litAt l + min (litRun (l.drop (litAt l))) 3 else 0
def litLen (l : List Nat) : Nat :=
 if litRun l = 0 then 0 else litRun l + litPoint (l.drop (litRun l)) + litExp (l.drop (litRun l + litPoint (l.drop (litRun l))))
def litGood (l : List Nat) : Bool := decide (1 ≤ l.length) && decide (l.length ≤ 400) && decide (litLen l = l.length)
def litF : Option (List Nat) → List Nat
 | none => []
 | some p => 46 :: p
def litSg (s : Bool) : List Nat := if s = true then [45] else []
def litX : Option (Bool × List Nat) → List Nat
 | none => []
 | some (s, d) => 101 :: (litSg s ++ d)
def litMk (w : List Nat) (f : Option (List Nat)) (x : Option (Bool × List Nat)) : List Nat := w ++ litF f ++ litX x
def Dig1 (l : List Nat) : Prop := allDig l = true ∧ l ≠ []
structure LitOk (w : List Nat) (f : Option (List Nat)) (x : Option (Bool × List Nat)) : Prop where
 whole : Dig1 w
 part : ∀ p, f = some p → Dig1 p
 exp : ∀ s d, x = some (s, d) → Dig1 d ∧ d.length ≤ 3
def Ender (r : List Nat) : Prop := r = [] ∨ ∃ c t, r = c :: t ∧ isDig c = false ∧ c ≠ 46 ∧ c ≠ 101
def Ends (r : List Nat) : Prop := r = [] ∨ ∃ c t, r = c :: t ∧ isDig c = false
theorem lim_cons0 (x : Nat) (l : List Nat) : lim (x :: l) 0 = x := rfl
theorem lim_nil (k : Nat) : lim [] k = 0 := by simp [lim]
theorem lim_drop0 (l : List Nat) (k : Nat) : lim (l.drop k) 0 = lim l k := by
 simp [lim, List.getD_eq_getElem?_getD]
theorem lim_drop1 (l : List Nat) (k j : Nat) : lim (l.drop k) j = lim l (k + j) := by
 simp [lim, List.getD_eq_getElem?_getD, List.getElem?_drop]
theorem run_ends {a r : List Nat} (ha : allDig a = true) (hr : Ends r) : (a ++ r).takeWhile isDig = a := by
 rw [List.takeWhile_append_of_pos (fun x hx => List.all_eq_true.1 ha x hx)]
 rcases hr with rfl | ⟨c, t, rfl, hc⟩
 · simp
 · rw [List.takeWhile_cons_of_neg (by simp [hc])]; simp
theorem litRun_ends {a r : List Nat} (ha : allDig a = true) (hr : Ends r) : litRun (a ++ r) = a.length := by rw [litRun, run_ends ha hr]
theorem Ender.ends {r : List Nat} (h : Ender r) : Ends r := h.imp id fun ⟨c, t, e, hc, _⟩ => ⟨c, t, e, hc⟩
theorem Dig1.pos {l : List Nat} (h : Dig1 l) : l.length ≠ 0 := fun e => h.2 (List.eq_nil_of_length_eq_zero e)
theorem Dig1.lim0 {l r : List Nat} (h : Dig1 l) : isDig (lim (l ++ r) 0) = true := by
 cases l with
 | nil => exact absurd rfl h.2
 | cons x l => exact List.all_eq_true.1 h.1 x (by simp)
theorem isDig_46 : isDig 46 = false := by decide
theorem isDig_101 : isDig 101 = false := by decide
theorem litPoint_none {r : List Nat} (h : lim r 0 ≠ 46) : litPoint r = 0 := if_neg fun h2 => h h2.1
theorem litExp_none {r : List Nat} (h : lim r 0 ≠ 101) : litExp r = 0 := if_neg fun h2 => h h2.1
theorem Ender.lim {r : List Nat} (h : Ender r) : lim r 0 ≠ 46 ∧ lim r 0 ≠ 101 := by
 rcases h with rfl | ⟨c, t, rfl, _, h1, h2⟩
 · rw [lim_nil]; exact ⟨by decide, by decide⟩
 · exact ⟨h1, h2⟩
theorem litPoint_some {p r : List Nat} (hp : Dig1 p) (hr : Ends r) : litPoint (46 :: p ++ r) = 1 + p.length := by
 have e : litRun ((46 :: p ++ r).drop 1) = p.length := by
  show litRun (p ++ r) = _
  exact litRun_ends hp.1 hr
 unfold litPoint
 rw [e, if_pos ⟨rfl, hp.pos⟩]
theorem litExp_some {s : Bool} {d r : List Nat} (hd : Dig1 d) (hl : d.length ≤ 3) (hr : Ends r) : litExp (litX (some (s, d)) ++ r) = (litX (some (s, d))).length := by
 cases s with
 | true =>
  have ea : litAt (101 :: ([45] ++ d) ++ r) = 2 := if_pos rfl
  have e : litRun ((101 :: ([45] ++ d) ++ r).drop 2) = d.length := by
   show litRun (d ++ r) = _
   exact litRun_ends hd.1 hr
  show litExp (101 :: ([45] ++ d) ++ r) = d.length + 1 + 1
  unfold litExp
  rw [ea, e, if_pos ⟨rfl, hd.pos⟩, Nat.min_eq_left hl]
  omega
 | false =>
  have h0 : lim (101 :: ([] ++ d) ++ r) 1 ≠ 45 := by
   intro h
   have h2 := hd.lim0 (r := r)
   have h3 : lim (d ++ r) 0 = 45 := h
   rw [h3] at h2
   exact absurd h2 (by decide)
  have ea : litAt (101 :: ([] ++ d) ++ r) = 1 := if_neg h0
  have e : litRun ((101 :: ([] ++ d) ++ r).drop 1) = d.length := by
   show litRun (d ++ r) = _
   exact litRun_ends hd.1 hr
  show litExp (101 :: ([] ++ d) ++ r) = d.length + 1
  unfold litExp
  rw [ea, e, if_pos ⟨rfl, hd.pos⟩, Nat.min_eq_left hl]
  omega
theorem litLen_mk {w : List Nat} {f : Option (List Nat)} {x : Option (Bool × List Nat)} {r : List Nat} (h : LitOk w f x) (hr : Ender r) : litLen (litMk w f x ++ r) = (litMk w f x).length := by
 have hXr : Ends (litX x ++ r) := by
  cases x with
  | none => exact hr.ends
  | some y => exact .inr ⟨101, _, rfl, isDig_101⟩
 have hX46 : lim (litX x ++ r) 0 ≠ 46 := by
  cases x with
  | none => exact hr.lim.1
  | some y => show (101 : Nat) ≠ 46; decide
 have hXl : litExp (litX x ++ r) = (litX x).length := by
  cases x with
  | none => exact litExp_none hr.lim.2
  | some y =>
   obtain ⟨s, d⟩ := y
   obtain ⟨h1, h2⟩ := h.exp s d rfl
   exact litExp_some h1 h2 hr.ends
 have hFr : Ends (litF f ++ (litX x ++ r)) := by
  cases f with
  | none => exact hXr
  | some p => exact .inr ⟨46, _, rfl, isDig_46⟩
 have hFl : litPoint (litF f ++ (litX x ++ r)) = (litF f).length := by
  cases f with
  | none => exact litPoint_none hX46
  | some p =>
   show litPoint (46 :: p ++ (litX x ++ r)) = p.length + 1
   rw [litPoint_some (h.part p rfl) hXr]; omega
 have e : litMk w f x ++ r = w ++ (litF f ++ (litX x ++ r)) := by unfold litMk; simp
 have e1 : litRun (w ++ (litF f ++ (litX x ++ r))) = w.length := litRun_ends h.whole.1 hFr
 rw [e]
 unfold litLen litMk
 rw [e1, if_neg h.whole.pos, List.drop_left, hFl]
 have e3 : (w ++ (litF f ++ (litX x ++ r))).drop (w.length + (litF f).length) = litX x ++ r := by
  rw [← List.drop_drop, List.drop_left, List.drop_left]
 rw [e3, hXl, List.length_append, List.length_append]
theorem litRun_le (l : List Nat) : litRun l ≤ l.length := (List.takeWhile_sublist _).length_le
theorem take_run (l : List Nat) : l.take (litRun l) = l.takeWhile isDig := (List.prefix_iff_eq_take.1 (List.takeWhile_prefix isDig)).symm
theorem allDig_run (l : List Nat) : allDig (l.takeWhile isDig) = true := by
 rw [allDig, List.all_eq_true]
 intro x hx
 have h := List.all_takeWhile (p := isDig) (l := l)
 exact List.all_eq_true.1 h x hx
theorem dig1_take {l : List Nat} {k : Nat} (h0 : litRun l ≠ 0) (hk : 0 < k) (hl : k ≤ litRun l) : Dig1 (l.take k) := by
 have e : l.take k = (l.takeWhile isDig).take k := by rw [← take_run, List.take_take, Nat.min_eq_left hl]
 rw [e]
 refine ⟨?_, ?_⟩
 · exact allDig_iff.2 fun x hx => allDig_iff.1 (allDig_run l) x (List.mem_of_mem_take hx)
 · intro h
   have h2 : min k (l.takeWhile isDig).length = 0 := by rw [← List.length_take, h]; rfl
   have h3 : litRun l = (l.takeWhile isDig).length := rfl
   omega
theorem lim_ne_cons {l : List Nat} {v : Nat} (h : lim l 0 = v) (hv : v ≠ 0) : l = v :: l.drop 1 := by
 cases l with
 | nil => rw [lim_nil] at h; exact absurd h.symm hv
 | cons x l => rw [show x = v from h]; rfl
theorem point_parts (r : List Nat) : ∃ f, (∀ p, f = some p → Dig1 p) ∧ r.take (litPoint r) = litF f ∧ litPoint r ≤ r.length := by
 unfold litPoint
 by_cases h : lim r 0 = 46 ∧ litRun (r.drop 1) ≠ 0
 · rw [if_pos h]
   refine ⟨some ((r.drop 1).take (litRun (r.drop 1))), fun p hp => ?_, ?_, ?_⟩
   · injection hp with hp
     subst hp
     exact dig1_take h.2 (Nat.pos_of_ne_zero h.2) (Nat.le_refl _)
   · conv => lhs; rw [lim_ne_cons h.1 (by decide)]
     rw [Nat.add_comm 1]; rfl
   · have h1 := litRun_le (r.drop 1)
     rw [List.length_drop] at h1
     omega
 · rw [if_neg h]
   exact ⟨none, (fun p hp => by cases hp), rfl, Nat.zero_le _⟩
theorem exp_parts (r : List Nat) : ∃ x, (∀ s d, x = some (s, d) → Dig1 d ∧ d.length ≤ 3) ∧ r.take (litExp r) = litX x ∧ litExp r ≤ r.length := by
 unfold litExp
 by_cases h : lim r 0 = 101 ∧ litRun (r.drop (litAt r)) ≠ 0
 · rw [if_pos h]
   have h1 := litRun_le (r.drop (litAt r))
   rw [List.length_drop] at h1
   have hd : Dig1 ((r.drop (litAt r)).take (min (litRun (r.drop (litAt r))) 3)) := dig1_take h.2 (by have := h.2; omega) (Nat.min_le_left _ _)
   have hl : ((r.drop (litAt r)).take (min (litRun (r.drop (litAt r))) 3)).length ≤ 3 := by rw [List.length_take]; omega
   have hc := lim_ne_cons h.1 (by decide)
   by_cases h45 : lim r 1 = 45
   · have ea : litAt r = 2 := if_pos h45
     have h5 := h.2
     rw [ea] at h1 hd hl h5 ⊢
     refine ⟨some (true, (r.drop 2).take (min (litRun (r.drop 2)) 3)), fun s d e => ?_, ?_, by omega⟩
     · injection e with e; injection e with e1 e2; subst e2; exact ⟨hd, hl⟩
     · have hc2 : r.drop 1 = 45 :: r.drop 2 := by
        have h2 : lim (r.drop 1) 0 = 45 := by rw [lim_drop0]; exact h45
        have h3 := lim_ne_cons h2 (by decide)
        rwa [List.drop_drop] at h3
       generalize min (litRun (r.drop 2)) 3 = k
       have e : r.take (2 + k) = 101 :: 45 :: (r.drop 2).take k := by
        conv => lhs; rw [hc, hc2]
        rw [show 2 + k = k + 1 + 1 by omega]; rfl
       exact e
   · have ea : litAt r = 1 := if_neg h45
     have h5 := h.2
     rw [ea] at h1 hd hl h5 ⊢
     refine ⟨some (false, (r.drop 1).take (min (litRun (r.drop 1)) 3)), fun s d e => ?_, ?_, by omega⟩
     · injection e with e; injection e with e1 e2; subst e2; exact ⟨hd, hl⟩
     · generalize min (litRun (r.drop 1)) 3 = k
       have e : r.take (1 + k) = 101 :: (r.drop 1).take k := by
        conv => lhs; rw [hc]
        rw [show 1 + k = k + 1 by omega]; rfl
       exact e
 · rw [if_neg h]
   exact ⟨none, (fun s d hp => by cases hp), rfl, Nat.zero_le _⟩
theorem litLen_parts {l : List Nat} (h : litLen l ≠ 0) : ∃ w f x, LitOk w f x ∧ l.take (litLen l) = litMk w f x := by
 have h0 : litRun l ≠ 0 := fun e => h (if_pos e)
 obtain ⟨f, f1, f2, f3⟩ := point_parts (l.drop (litRun l))
 obtain ⟨x, x1, x2, x3⟩ := exp_parts (l.drop (litRun l + litPoint (l.drop (litRun l))))
 refine ⟨l.takeWhile isDig, f, x, ⟨⟨allDig_run l, fun e => h0 (by rw [litRun, e]; rfl)⟩, f1, x1⟩, ?_⟩
 unfold litLen litMk
 rw [if_neg h0, List.take_add, List.take_add, take_run, f2, x2]
theorem litLen_le (l : List Nat) : litLen l ≤ l.length := by
 unfold litLen
 split
 · exact Nat.zero_le _
 · obtain ⟨_, _, _, f3⟩ := point_parts (l.drop (litRun l))
   obtain ⟨_, _, _, x3⟩ := exp_parts (l.drop (litRun l + litPoint (l.drop (litRun l))))
   have h1 := litRun_le l
   rw [List.length_drop] at f3 x3
   omega
theorem Ender.nil : Ender [] := .inl rfl
theorem Ender.of {c : Nat} (t : List Nat) (h : isDig c = false ∧ c ≠ 46 ∧ c ≠ 101) : Ender (c :: t) := .inr ⟨c, t, rfl, h⟩
theorem litGood_iff {l : List Nat} : litGood l = true ↔ 1 ≤ l.length ∧ l.length ≤ 400 ∧ litLen l = l.length := by
 simp [litGood, and_assoc]
theorem litLen_more {l : List Nat} (h : litGood l = true) {c : Nat} (t : List Nat) (hc : isDig c = false ∧ c ≠ 46 ∧ c ≠ 101) : litLen (l ++ c :: t) = l.length := by
 obtain ⟨h1, h2, h3⟩ := litGood_iff.1 h
 obtain ⟨w, f, x, hok, e⟩ := litLen_parts (l := l) (by omega)
 rw [h3, List.take_length] at e
 rw [e]
 exact litLen_mk hok (Ender.of t hc)
theorem litGood_mk {w : List Nat} {f : Option (List Nat)} {x : Option (Bool × List Nat)} (h : LitOk w f x) (hl : (litMk w f x).length ≤ 400) : litGood (litMk w f x) = true := by
 have h2 := litLen_mk h Ender.nil
 rw [List.append_nil] at h2
 refine litGood_iff.2 ⟨?_, hl, h2⟩
 have := h.whole.pos
 unfold litMk
 rw [List.length_append, List.length_append]
 omega
end Go.Proofs.YthjnepfpohmpkaaDoor.Limb

/- What a row's listed variables give: the table of package literal as the contracts ask it. Condition: the variables read as listed. -/
namespace Go.Proofs.YthjnepfpohmpkaaDoor
open Go.RowKit Go.ChangeShapes Limb
set_option linter.unusedVariables false
def kindsL : List Int := [0, 0, 0, 0, 0, 0, 0, 0, 0, 0, 0, 0, 0, 0, 0, 0, 0, 0, 0, 0, 0, 0, 0, 0, 0, 0, 0, 0, 0, 0, 0, 0, 0, 0, 0, 0, 0, 0, 0, 0, 0, 0, 0, 0, 0, 4, 2, 0, 1, 1, 1, 1, 1, 1, 1, 1, 1, 1, 0, 0, 0, 0, 0, 0, 0, 0, 0, 0, 0, 0, 0, 0, 0, 0, 0, 0, 0, 0, 0, 0, 0, 0, 0, 0, 0, 0, 0, 0, 0, 0, 0, 0, 0, 0, 0, 0, 0, 0, 0, 0, 0, 3]
def kindN (c : Nat) : Nat := if c = 45 then 4 else if c = 46 then 2 else if c = 101 then 3 else if isDig c = true then 1 else 0
theorem kinds_at : ∀ i, i < 102 → kindsL.getD i 0 = ((kindN i : Nat) : Int) := by decide
theorem cell_lt {w : World} {a : Addr} {v : Value} (h : w.cell? a = some v) : a.block < w.heap.size := by
 rcases Nat.lt_or_ge a.block w.heap.size with h1 | h1
 · exact h1
 · simp [World.cell?, Array.getElem?_eq_none h1] at h
def KTab (w : World) : Prop := ∀ i, i < 102 → w.cell? ⟨1, i, none⟩ = some (.int .u8 ((kindN i : Nat) : Int))
theorem KTab.below {w w' : World} (h : KTab w) (hb : Below w.heap.size w w') : KTab w' := fun i hi => (hb.cell (p := ⟨1, i, none⟩) (cell_lt (h i hi))).trans (h i hi)
set_option maxRecDepth 4000 in
theorem kinds_tab {W : World} {name : String} {r : List (String × DataW Unit)} (h : laidMet Tryd.prog ((name, Lib.tabData .u8 kindsL) :: r) W) (hg : Tryd.prog.globalNamed name = some 1) :
 ∀ i, i < 102 → W.cell? ⟨1, i, none⟩ = some (.int .u8 ((kindN i : Nat) : Int)) := fun i hi => by
 have hT := Lib.tabIs_of_head hg (t := 52) (by kernel_rfl) Tryd.underlying52 Tryd.underlying5 (by kernel_rfl) (by kernel_rfl) h
 rw [hT.cell hg i hi, kinds_at i hi]
end Go.Proofs.YthjnepfpohmpkaaDoor

/- Mathematics of tokens: a script's text as a list of bytes, what its tokens are; a text with a newline and more behind. No condition. -/
namespace Go.Proofs.YthjnepfpohmpkaaDoor
open Go.RowKit Limb
set_option linter.unusedVariables false
abbrev Tk := Nat × List Nat × Nat
def isLt (c : Nat) : Bool := (decide (97 ≤ c) && decide (c ≤ 122)) || (decide (65 ≤ c) && decide (c ≤ 90)) || decide (c = 95)
def isLw (c : Nat) : Bool := isLt c || isDig c
def isSg (c : Nat) : Bool := [40, 41, 43, 45, 42, 47, 94, 61, 59, 58].contains c
def isBl (c : Nat) : Bool := decide (c = 32) || decide (c = 9) || decide (c = 10)
def notNl (c : Nat) : Bool := decide (c ≠ 10)
def inUn (c : Nat) : Bool := decide (c ≠ 93) && decide (c ≠ 10)
def stopN : List Nat → Bool
 | [] => false
 | d :: _ => isLt d || decide (d = 46)
def closeU : List Nat → Bool
 | [] => false
 | d :: _ => decide (d = 93)
inductive LS where
 | skip : Nat → LS
 | tok : Nat → List Nat → Nat → LS
 | bad : LS
def lexS (c : Nat) (r : List Nat) : LS :=
 if isBl c = true then .skip 1
 else if c = 35 then .skip (1 + (r.takeWhile notNl).length)
 else if isLt c = true then
  if 16 < 1 + (r.takeWhile isLw).length then .bad else .tok 1 ((c :: r).take (1 + (r.takeWhile isLw).length)) (1 + (r.takeWhile isLw).length)
 else if isDig c = true then
  if 400 < litLen (c :: r) ∨ stopN ((c :: r).drop (litLen (c :: r))) = true then .bad else .tok 2 ((c :: r).take (litLen (c :: r))) (litLen (c :: r))
 else if c = 91 then
  if (r.takeWhile inUn).length = 0 ∨ 200 < (r.takeWhile inUn).length ∨ closeU (r.drop (r.takeWhile inUn).length) = false then .bad else .tok 4 (r.take (r.takeWhile inUn).length) ((r.takeWhile inUn).length + 2)
 else if isSg c = true then .tok 3 [c] 1
 else .bad
inductive LR where
 | ok : List Tk → LR
 | bad : Nat → LR
def consL (t : Tk) : LR → LR
 | .ok l => .ok (t :: l)
 | .bad p => .bad p
def lexR : Nat → Nat → List Nat → LR
 | 0, a, _ => .bad a
 | f + 1, _, [] => .ok []
 | f + 1, a, c :: r =>
  match lexS c r with
  | .skip n => lexR f (a + n) ((c :: r).drop n)
  | .tok k t n => consL (k, t, a) (lexR f (a + n) ((c :: r).drop n))
  | .bad => .bad a
def lexT (l : List Nat) : LR := lexR (l.length + 1) 0 l
def lexV (l : List Nat) : List Tk × Int × Int := if 4000 < l.length then ([], 2, 0) else match lexT l with | .ok ts => (ts, 0, 0) | .bad p => ([], 11, p)
theorem litLen_pos {c : Nat} {r : List Nat} (h : isDig c = true) : 1 ≤ litLen (c :: r) := by
 have h1 : litRun (c :: r) = (litRun r) + 1 := by
  unfold litRun
  rw [List.takeWhile_cons_of_pos h]; rfl
 unfold litLen
 rw [if_neg (by omega)]
 omega
theorem lexS_len {c : Nat} {r : List Nat} : (∀ n, lexS c r = .skip n → 1 ≤ n ∧ n ≤ r.length + 1) ∧ ∀ k t n, lexS c r = .tok k t n → 1 ≤ n ∧ n ≤ r.length + 1 := by
 have w : ∀ p : Nat → Bool, (r.takeWhile p).length ≤ r.length := fun p => (List.takeWhile_sublist _).length_le
 have hl := litLen_le (c :: r)
 simp only [List.length_cons] at hl
 refine ⟨fun n h => ?_, fun k t n h => ?_⟩
 · unfold lexS at h
   split at h
   · cases h; omega
   · split at h
     · cases h; have := w notNl; omega
     · split at h
       · split at h <;> cases h
       · split at h
         · split at h <;> cases h
         · split at h
           · split at h <;> cases h
           · split at h <;> cases h
 · unfold lexS at h
   split at h
   · cases h
   · split at h
     · cases h
     · split at h
       · split at h
         · cases h
         · cases h; have := w isLw; omega
       · split at h
         · rename_i hd
           split at h
           · cases h
           · cases h; exact ⟨litLen_pos hd, hl⟩
         · split at h
           · split at h
             · cases h
             · rename_i hn
               cases h
               have h1 := w inUn
               have h2 : closeU (r.drop (r.takeWhile inUn).length) = true := by
                rcases Bool.eq_false_or_eq_true (closeU (r.drop (r.takeWhile inUn).length)) with e | e
                · exact e
                · exact absurd (.inr (.inr e)) hn
               have h3 : (r.takeWhile inUn).length < r.length := by
                rcases Nat.lt_or_ge (r.takeWhile inUn).length r.length with e | e
                · exact e
                · rw [List.drop_eq_nil_of_le e] at h2; cases h2
               omega
           · split at h
             · cases h; omega
             · cases h
theorem lexR_fuel : ∀ (f f' a : Nat) (l : List Nat), l.length < f → l.length < f' → lexR f a l = lexR f' a l
 | 0, _, _, l, h, _ => absurd h (by omega)
 | f + 1, 0, _, l, _, h => absurd h (by omega)
 | f + 1, f' + 1, a, [], _, _ => rfl
 | f + 1, f' + 1, a, c :: r, h1, h2 => by
  simp only [List.length_cons] at h1 h2
  unfold lexR
  have hl := lexS_len (c := c) (r := r)
  cases e : lexS c r with
  | bad => rfl
  | skip n =>
   have := hl.1 n e
   exact lexR_fuel f f' _ _ (by rw [List.length_drop, List.length_cons]; omega) (by rw [List.length_drop, List.length_cons]; omega)
  | tok k t n =>
   have := hl.2 k t n e
   dsimp only
   rw [lexR_fuel f f' _ _ (by rw [List.length_drop, List.length_cons]; omega) (by rw [List.length_drop, List.length_cons]; omega)]
/-! ### a sign behind that ends every token -/
theorem whileL_app {p : Nat → Bool} {c : Nat} {t : List Nat} (h : p c = false) : ∀ l : List Nat, (l ++ c :: t).takeWhile p = l.takeWhile p
 | [] => by rw [List.nil_append, List.takeWhile_cons_of_neg (by rw [h]; decide)]; rfl
 | a :: l => by
  by_cases ha : p a = true
  · rw [List.cons_append, List.takeWhile_cons_of_pos ha, List.takeWhile_cons_of_pos ha, whileL_app h l]
  · rw [List.cons_append, List.takeWhile_cons_of_neg ha, List.takeWhile_cons_of_neg ha]
theorem lim_app {l t : List Nat} {c k : Nat} : (k < l.length → lim (l ++ c :: t) k = lim l k) ∧ (k = l.length → lim (l ++ c :: t) k = c) := by
 refine ⟨fun h => ?_, fun h => ?_⟩
 · simp only [lim, List.getD_eq_getElem?_getD, List.getElem?_append_left h]
 · subst h; simp [lim]
theorem litRun_app {c : Nat} {t : List Nat} (hd : isDig c = false) (l : List Nat) : litRun (l ++ c :: t) = litRun l := by unfold litRun; rw [whileL_app hd]
theorem litRun_dropApp {c : Nat} {t : List Nat} (hd : isDig c = false) (l : List Nat) (k : Nat) (h : k ≤ l.length) : litRun ((l ++ c :: t).drop k) = litRun (l.drop k) := by
 rw [List.drop_append_of_le_length h, litRun_app hd]
theorem litPoint_app {c : Nat} {t : List Nat} (hd : isDig c = false) (h46 : c ≠ 46) (l : List Nat) : litPoint (l ++ c :: t) = litPoint l := by
 cases l with
 | nil => rw [List.nil_append, litPoint_none (by rw [lim_cons0]; exact h46), litPoint_none (by rw [lim_nil]; decide)]
 | cons a l =>
  unfold litPoint
  rw [List.cons_append, lim_cons0, lim_cons0, ← List.cons_append, litRun_dropApp hd _ 1 (by simp)]
theorem litExp_app {c : Nat} {t : List Nat} (hd : isDig c = false) (h101 : c ≠ 101) (h45 : c ≠ 45) (l : List Nat) : litExp (l ++ c :: t) = litExp l := by
 cases l with
 | nil => rw [List.nil_append, litExp_none (by rw [lim_cons0]; exact h101), litExp_none (by rw [lim_nil]; decide)]
 | cons a l =>
  have e : litAt (a :: l ++ c :: t) = litAt (a :: l) := by
   unfold litAt
   cases l with
   | nil =>
    have e1 : lim ([a] ++ c :: t) 1 = c := rfl
    have e2 : lim [a] 1 = 0 := rfl
    rw [e1, e2, if_neg h45, if_neg (by decide)]
   | cons b l => rfl
  have h2 : litAt (a :: l) ≤ 2 := by unfold litAt; split <;> omega
  unfold litExp
  rw [e, List.cons_append, lim_cons0, lim_cons0, ← List.cons_append]
  by_cases hle : litAt (a :: l) ≤ (a :: l).length
  · rw [litRun_dropApp hd _ _ hle]
  · have hl : l = [] := by
     cases l with
     | nil => rfl
     | cons b l => simp at hle; omega
    subst hl
    have h3 : litAt [a] = 1 := rfl
    rw [h3] at hle
    simp at hle
theorem litLen_app {c : Nat} {t : List Nat} (hd : isDig c = false) (h46 : c ≠ 46) (h101 : c ≠ 101) (h45 : c ≠ 45) (l : List Nat) : litLen (l ++ c :: t) = litLen l := by
 unfold litLen
 have h0 := litRun_le l
 rw [litRun_app hd]
 have e1 : (l ++ c :: t).drop (litRun l) = l.drop (litRun l) ++ c :: t := List.drop_append_of_le_length h0
 have hp : litPoint (l.drop (litRun l)) ≤ (l.drop (litRun l)).length := by
  obtain ⟨f, _, _, h⟩ := point_parts (l.drop (litRun l))
  exact h
 have e2 : (l ++ c :: t).drop (litRun l + litPoint (l.drop (litRun l))) = l.drop (litRun l + litPoint (l.drop (litRun l))) ++ c :: t :=
  List.drop_append_of_le_length (by rw [List.length_drop] at hp; omega)
 simp only [e1, litPoint_app hd h46, e2, litExp_app hd h101 h45]
theorem lexS_app (c : Nat) (r t : List Nat) : lexS c (r ++ 10 :: t) = lexS c r := by
 have hw := whileL_app (p := isLw) (c := 10) (t := t) (by decide) r
 have hn := whileL_app (p := notNl) (c := 10) (t := t) (by decide) r
 have hu := whileL_app (p := inUn) (c := 10) (t := t) (by decide) r
 have hlit : litLen (c :: (r ++ 10 :: t)) = litLen (c :: r) := by
  rw [← List.cons_append]
  exact litLen_app (by decide) (by decide) (by decide) (by decide) _
 have w : ∀ p : Nat → Bool, (r.takeWhile p).length ≤ r.length := fun p => (List.takeWhile_sublist _).length_le
 have hl := litLen_le (c :: r)
 have e1 : ∀ n, n ≤ r.length + 1 → (c :: (r ++ 10 :: t)).take n = (c :: r).take n := fun n h => by
  rw [← List.cons_append, List.take_append_of_le_length (by simpa using h)]
 have e2 : ∀ n, n ≤ r.length → (r ++ 10 :: t).take n = r.take n := fun n h => List.take_append_of_le_length h
 have e3 : ∀ n, n ≤ r.length → closeU ((r ++ 10 :: t).drop n) = closeU (r.drop n) := fun n h => by
  rw [List.drop_append_of_le_length h]
  cases r.drop n with
  | nil => rfl
  | cons a q => rfl
 have e4 : ∀ n, n ≤ r.length + 1 → stopN ((c :: (r ++ 10 :: t)).drop n) = stopN ((c :: r).drop n) := fun n h => by
  rw [← List.cons_append, List.drop_append_of_le_length (by simpa using h)]
  cases (c :: r).drop n with
  | nil => rfl
  | cons a q => rfl
 unfold lexS
 have w1 := w isLw
 have w2 := w inUn
 simp only [List.length_cons] at hl
 rw [hw, hn, hu, hlit, e1 _ (by omega), e1 _ hl, e2 _ w2, e3 _ w2, e4 _ hl]
def appL (ts : List Tk) : LR → LR
 | .ok l => .ok (ts ++ l)
 | .bad p => .bad p
def onL (f a : Nat) (t : List Nat) : LR → LR
 | .ok ts => appL ts (lexR f a t)
 | .bad p => .bad p
theorem lexR_app : ∀ (f F a : Nat) (l t : List Nat), l.length + t.length + 1 < f → t.length < F → lexR f a (l ++ 10 :: t) = onL F (a + l.length + 1) t (lexR f a l)
 | 0, _, _, _, _, h, _ => absurd h (by omega)
 | f + 1, F, a, [], t, h1, h2 => by
  rw [List.nil_append]
  unfold lexR
  have e : lexS 10 t = .skip 1 := by unfold lexS; rw [if_pos (by decide)]
  rw [e]
  show lexR f (a + 1) t = appL [] (lexR F (a + 0 + 1) t)
  rw [lexR_fuel f F _ _ (by simp at h1; omega) h2]
  cases lexR F (a + 1) t <;> rfl
 | f + 1, F, a, c :: r, t, h1, h2 => by
  simp only [List.length_cons] at h1
  rw [List.cons_append]
  unfold lexR
  rw [lexS_app]
  have hl := lexS_len (c := c) (r := r)
  cases e : lexS c r with
  | bad => rfl
  | skip n =>
   have := hl.1 n e
   dsimp only
   rw [← List.cons_append, List.drop_append_of_le_length (by simp; omega), lexR_app f F _ _ t (by rw [List.length_drop, List.length_cons]; omega) h2]
   congr 1
   rw [List.length_drop]; simp only [List.length_cons]; omega
  | tok k s n =>
   have := hl.2 k s n e
   dsimp only
   rw [← List.cons_append, List.drop_append_of_le_length (by simp; omega), lexR_app f F _ _ t (by rw [List.length_drop, List.length_cons]; omega) h2,
    show a + n + ((c :: r).drop n).length + 1 = a + (c :: r).length + 1 by rw [List.length_drop]; simp only [List.length_cons]; omega]
   cases lexR f (a + n) ((c :: r).drop n) with
   | bad p => rfl
   | ok ts =>
    show consL _ (appL ts _) = appL ((k, s, a) :: ts) _
    cases lexR F (a + (c :: r).length + 1) t <;> rfl
end Go.Proofs.YthjnepfpohmpkaaDoor

/- Mathematics of tokens: each token's text is of its kind; a word is one token; places move. No condition. -/
namespace Go.Proofs.YthjnepfpohmpkaaDoor
open Go.RowKit Limb
set_option linter.unusedVariables false
def isWdB : List Nat → Bool
 | [] => false
 | c :: r => isLt c && r.all isLw && decide (r.length < 16)
def okTk (t : Tk) : Bool :=
 if t.1 = 1 then isWdB t.2.1 else if t.1 = 2 then litGood t.2.1 else if t.1 = 3 then decide (t.2.1.length = 1) else if t.1 = 4 then decide (1 ≤ t.2.1.length) && decide (t.2.1.length ≤ 200) else false
theorem lt_not {c : Nat} (h : isLt c = true) : isBl c = false ∧ c ≠ 35 := by
 refine ⟨?_, ?_⟩
 · rcases Bool.eq_false_or_eq_true (isBl c) with e | e
   · exfalso
     unfold isBl at e
     simp only [Bool.or_eq_true, decide_eq_true_eq] at e
     rcases e with (rfl | rfl) | rfl <;> exact absurd h (by decide)
   · exact e
 · rintro rfl; exact absurd h (by decide)
theorem take_whileL {p : Nat → Bool} : ∀ l : List Nat, l.take (l.takeWhile p).length = l.takeWhile p
 | [] => rfl
 | a :: l => by
  by_cases h : p a = true
  · rw [List.takeWhile_cons_of_pos h, List.length_cons, List.take_succ_cons, take_whileL l]
  · rw [List.takeWhile_cons_of_neg h]; rfl
theorem take_all {p : Nat → Bool} : ∀ {l : List Nat}, l.all p = true → l.takeWhile p = l
 | [], _ => rfl
 | a :: l, h => by
  simp only [List.all_cons, Bool.and_eq_true] at h
  rw [List.takeWhile_cons_of_pos h.1, take_all h.2]
theorem lexS_kind {c : Nat} {r : List Nat} {k n a : Nat} {s : List Nat} (h : lexS c r = .tok k s n) : okTk (k, s, a) = true := by
 have hl := litLen_le (c :: r)
 unfold lexS at h
 split at h
 · cases h
 · split at h
   · cases h
   · split at h
     · rename_i hc
       split at h
       · cases h
       · rename_i hn
         cases h
         show isWdB ((c :: r).take (1 + (r.takeWhile isLw).length)) = true
         rw [Nat.add_comm 1, List.take_succ_cons, take_whileL]
         show (isLt c && (r.takeWhile isLw).all isLw && decide ((r.takeWhile isLw).length < 16)) = true
         rw [hc, List.all_takeWhile, decide_eq_true (by omega)]
         rfl
     · split at h
       · rename_i hd
         split at h
         · cases h
         · rename_i hn
           cases h
           show litGood ((c :: r).take (litLen (c :: r))) = true
           have h1 := litLen_pos (r := r) hd
           have h4 : litLen (c :: r) ≤ 400 := by
            rcases Nat.lt_or_ge 400 (litLen (c :: r)) with e | e
            · exact absurd (.inl e) hn
            · exact e
           obtain ⟨w, f, x, hok, e⟩ := litLen_parts (l := c :: r) (by omega)
           have e2 := congrArg List.length e
           rw [List.length_take] at e2
           rw [e]
           exact litGood_mk hok (by omega)
       · split at h
         · split at h
           · cases h
           · rename_i hn
             cases h
             have w : (r.takeWhile inUn).length ≤ r.length := (List.takeWhile_sublist _).length_le
             have e1 : (r.take (r.takeWhile inUn).length).length = (r.takeWhile inUn).length := by rw [List.length_take]; omega
             show (decide _ && decide _) = true
             simp only [e1]
             rw [decide_eq_true, decide_eq_true]
             · rfl
             · rcases Nat.lt_or_ge 200 (r.takeWhile inUn).length with e | e
               · exact absurd (.inr (.inl e)) hn
               · exact e
             · rcases Nat.eq_zero_or_pos (r.takeWhile inUn).length with e | e
               · exact absurd (.inl e) hn
               · exact e
         · split at h
           · cases h; rfl
           · cases h
theorem lexR_kind : ∀ (f a : Nat) (l : List Nat) (ts : List Tk), lexR f a l = .ok ts → ∀ t ∈ ts, okTk t = true
 | 0, _, _, _, h => by cases h
 | f + 1, a, [], ts, h => by cases h; simp
 | f + 1, a, c :: r, ts, h => by
  unfold lexR at h
  cases e : lexS c r with
  | bad => rw [e] at h; cases h
  | skip n => rw [e] at h; exact lexR_kind f _ _ ts h
  | tok k s n =>
   rw [e] at h
   dsimp only at h
   cases e2 : lexR f (a + n) ((c :: r).drop n) with
   | bad p => rw [e2] at h; cases h
   | ok us =>
    rw [e2] at h
    cases h
    intro t ht
    rcases List.mem_cons.1 ht with rfl | ht
    · exact lexS_kind e
    · exact lexR_kind f _ _ us e2 t ht
theorem word_one {s : List Nat} (h : isWdB s = true) : lexT s = .ok [(1, s, 0)] := by
 cases s with
 | nil => cases h
 | cons c r =>
  unfold isWdB at h
  simp only [Bool.and_eq_true, decide_eq_true_eq] at h
  obtain ⟨⟨hc, hr⟩, hl⟩ := h
  obtain ⟨n1, n2⟩ := lt_not hc
  have e : r.takeWhile isLw = r := take_all hr
  have es : lexS c r = .tok 1 (c :: r) (1 + r.length) := by
   unfold lexS
   rw [if_neg (by rw [n1]; decide), if_neg n2, if_pos hc, e, if_neg (by omega), List.take_of_length_le (by simp; omega)]
  unfold lexT
  rw [List.length_cons]
  unfold lexR
  rw [es]
  dsimp only
  rw [List.drop_eq_nil_of_le (by simp; omega)]
  cases r <;> rfl
theorem one_word {s : List Nat} (h : lexT s = .ok [(1, s, 0)]) : isWdB s = true := by
 have := lexR_kind _ _ _ _ h (1, s, 0) (by simp)
 exact this
def shL (d : Nat) (ts : List Tk) : List Tk := ts.map fun t => (t.1, t.2.1, t.2.2 + d)
def shR (d : Nat) : LR → LR
 | .ok ts => .ok (shL d ts)
 | .bad p => .bad (p + d)
theorem lexR_shift (d : Nat) : ∀ (f a : Nat) (l : List Nat), lexR f (a + d) l = shR d (lexR f a l)
 | 0, _, _ => rfl
 | f + 1, a, [] => rfl
 | f + 1, a, c :: r => by
  unfold lexR
  cases lexS c r with
  | bad => rfl
  | skip n =>
   dsimp only
   rw [show a + d + n = a + n + d by omega, lexR_shift d f]
  | tok k s n =>
   dsimp only
   rw [show a + d + n = a + n + d by omega, lexR_shift d f]
   cases lexR f (a + n) ((c :: r).drop n) <;> rfl
theorem lexT_row (s t : List Nat) : lexT (s ++ 10 :: t) = onL (t.length + 1) (s.length + 1) t (lexT s) := by
 unfold lexT
 rw [lexR_app _ (t.length + 1) 0 s t (by rw [List.length_append, List.length_cons]; omega) (by omega), lexR_fuel ((s ++ 10 :: t).length + 1) (s.length + 1) 0 s (by rw [List.length_append, List.length_cons]; omega) (by omega), Nat.zero_add]
theorem lexT_row_ok {s t : List Nat} {us ts : List Tk} (h : lexT s = .ok us) (k : lexT t = .ok ts) : lexT (s ++ 10 :: t) = .ok (us ++ shL (s.length + 1) ts) := by
 have e := lexR_shift (s.length + 1) (t.length + 1) 0 t
 rw [Nat.zero_add] at e
 unfold lexT at k
 rw [lexT_row, h]
 show appL us (lexR (t.length + 1) (s.length + 1) t) = _
 rw [e, k]
 rfl
theorem lexT_row_bad {s t : List Nat} {us : List Tk} {p : Nat} (h : lexT s = .ok us) (k : lexT t = .bad p) : lexT (s ++ 10 :: t) = .bad (p + (s.length + 1)) := by
 have e := lexR_shift (s.length + 1) (t.length + 1) 0 t
 rw [Nat.zero_add] at e
 unfold lexT at k
 rw [lexT_row, h]
 show appL us (lexR (t.length + 1) (s.length + 1) t) = _
 rw [e, k]
 rfl
theorem lexT_row_no {s t : List Nat} {p : Nat} (h : lexT s = .bad p) : lexT (s ++ 10 :: t) = .bad p := by rw [lexT_row, h]; rfl
end Go.Proofs.YthjnepfpohmpkaaDoor

/- Mathematics of tokens: where they stand; between them are blanks and notes alone. No condition. -/
namespace Go.Proofs.YthjnepfpohmpkaaDoor
open Go.RowKit Limb
set_option linter.unusedVariables false
def gapB : Bool → List Nat → Bool
 | _, [] => true
 | n, c :: r => if c = 10 then gapB false r else if c = 35 then gapB true r else if n = true then gapB true r else (decide (c = 32) || decide (c = 9)) && gapB false r
def rawT (t : Tk) : List Nat := if t.1 = 4 then 91 :: (t.2.1 ++ [93]) else t.2.1
def Stands (a : Nat) (l : List Nat) : List Tk → Prop
 | [] => gapB false l = true
 | t :: us => a ≤ t.2.2 ∧ gapB false (l.take (t.2.2 - a)) = true ∧ t.2.2 - a + (rawT t).length ≤ l.length ∧ rawT t ≠ [] ∧ (l.drop (t.2.2 - a)).take (rawT t).length = rawT t ∧ Stands (t.2.2 + (rawT t).length) (l.drop (t.2.2 - a + (rawT t).length)) us
theorem gap_note : ∀ (x y : List Nat), (∀ c ∈ x, c ≠ 10) → gapB true (x ++ y) = gapB true y
 | [], y, _ => rfl
 | c :: x, y, h => by
  have hc := h c (by simp)
  have ih := gap_note x y fun d hd => h d (by simp [hd])
  show (if c = 10 then gapB false (x ++ y) else if c = 35 then gapB true (x ++ y) else if true = true then gapB true (x ++ y) else _) = _
  rw [if_neg hc]
  split
  · exact ih
  · exact ih
theorem notNl_of {x : List Nat} (h : ∀ c ∈ x, notNl c = true) : ∀ c ∈ x, c ≠ 10 := fun c hc => by
 have := h c hc
 unfold notNl at this
 simpa using this
theorem while_mem {p : Nat → Bool} : ∀ {l : List Nat}, ∀ c ∈ l.takeWhile p, p c = true
 | [], c, h => by simp at h
 | a :: l, c, h => by
  by_cases ha : p a = true
  · rw [List.takeWhile_cons_of_pos ha] at h
    rcases List.mem_cons.1 h with rfl | h
    · exact ha
    · exact while_mem c h
  · rw [List.takeWhile_cons_of_neg ha] at h; simp at h
theorem while_next {p : Nat → Bool} : ∀ {l : List Nat} {c : Nat} {r : List Nat}, l.drop (l.takeWhile p).length = c :: r → p c = false
 | [], c, r, h => by simp at h
 | a :: l, c, r, h => by
  by_cases ha : p a = true
  · rw [List.takeWhile_cons_of_pos ha, List.length_cons, List.drop_succ_cons] at h
    exact while_next h
  · rw [List.takeWhile_cons_of_neg ha] at h
    simp at h
    obtain ⟨rfl, _⟩ := h
    simpa using ha
theorem gap_skip {c : Nat} {r : List Nat} {n m : Nat} (h : lexS c r = .skip n) (hg : gapB false (((c :: r).drop n).take m) = true) : gapB false ((c :: r).take n ++ ((c :: r).drop n).take m) = true := by
 unfold lexS at h
 split at h
 · rename_i hb
   cases h
   show gapB false (c :: _) = true
   unfold isBl at hb
   simp only [Bool.or_eq_true, decide_eq_true_eq] at hb
   show (if c = 10 then gapB false (r.take m) else if c = 35 then gapB true (r.take m) else if false = true then gapB true (r.take m) else (decide (c = 32) || decide (c = 9)) && gapB false (r.take m)) = true
   have hg2 : gapB false (r.take m) = true := hg
   rcases hb with (rfl | rfl) | rfl
   · simpa using hg2
   · simpa using hg2
   · simpa using hg2
 · split at h
   · rename_i hb h35
     subst h35
     cases h
     rw [Nat.add_comm 1, List.take_succ_cons, List.drop_succ_cons, take_whileL] at *
     show gapB true (r.takeWhile notNl ++ (r.drop (r.takeWhile notNl).length).take m) = true
     rw [gap_note _ _ (notNl_of fun c hc => while_mem c hc)]
     cases e : r.drop (r.takeWhile notNl).length with
     | nil => simp [gapB]
     | cons d q =>
      have hd := while_next e
      have hd2 : d = 10 := by unfold notNl at hd; simpa using hd
      subst hd2
      rw [e] at hg
      cases m with
      | zero => rfl
      | succ m =>
       rw [List.take_succ_cons] at hg ⊢
       exact hg
   · split at h
     · split at h <;> cases h
     · split at h
       · split at h <;> cases h
       · split at h
         · split at h <;> cases h
         · split at h <;> cases h
theorem close_at {r : List Nat} {n : Nat} (h : closeU (r.drop n) = true) : ∃ q, r.drop n = 93 :: q := by
 cases e : r.drop n with
 | nil => rw [e] at h; cases h
 | cons d q => rw [e] at h; unfold closeU at h; simp at h; exact ⟨q, by rw [h]⟩
theorem raw_at {c : Nat} {r s : List Nat} {k n a : Nat} (h : lexS c r = .tok k s n) : (rawT (k, s, a)).length = n ∧ (c :: r).take n = rawT (k, s, a) := by
 have hl := lexS_len.2 k s n h
 have e1 : (c :: r).take n = rawT (k, s, a) → (rawT (k, s, a)).length = n := fun e => by rw [← e, List.length_take, List.length_cons]; omega
 have key : (c :: r).take n = rawT (k, s, a) := by
  unfold lexS at h
  split at h
  · cases h
  · split at h
    · cases h
    · split at h
      · split at h <;> cases h; rfl
      · split at h
        · split at h <;> cases h; rfl
        · split at h
          · rename_i h91
            subst h91
            split at h
            · cases h
            · rename_i hn
              have hc : closeU (r.drop (r.takeWhile inUn).length) = true := by
               rcases Bool.eq_false_or_eq_true (closeU (r.drop (r.takeWhile inUn).length)) with e | e
               · exact e
               · exact absurd (.inr (.inr e)) hn
              cases h
              obtain ⟨q, hq⟩ := close_at hc
              show (91 :: r).take ((r.takeWhile inUn).length + 2) = 91 :: (r.take (r.takeWhile inUn).length ++ [93])
              rw [List.take_succ_cons, List.take_add, hq]
              rfl
          · split at h
            · cases h; rfl
            · cases h
 exact ⟨e1 key, key⟩
theorem lexR_stands : ∀ (f a : Nat) (l : List Nat) (ts : List Tk), lexR f a l = .ok ts → Stands a l ts ∧ ∀ t ∈ ts, a ≤ t.2.2
 | 0, _, _, _, h => by cases h
 | f + 1, a, [], ts, h => by cases h; exact ⟨rfl, by simp⟩
 | f + 1, a, c :: r, ts, h => by
  unfold lexR at h
  cases e : lexS c r with
  | bad => rw [e] at h; cases h
  | skip n =>
   rw [e] at h
   have hl := lexS_len.1 n e
   obtain ⟨h1, h2⟩ := lexR_stands f _ _ ts h
   refine ⟨?_, fun t ht => by have := h2 t ht; omega⟩
   cases ts with
   | nil =>
    have h3 : gapB false ((c :: r).drop n) = true := h1
    have h4 := gap_skip (m := ((c :: r).drop n).length) e (by rw [List.take_length]; exact h3)
    rw [List.take_length, List.take_append_drop] at h4
    exact h4
   | cons t us =>
    obtain ⟨g1, g2, g3, g4, g5, g6⟩ := h1
    rw [List.length_drop] at g3
    rw [List.drop_drop] at g5 g6
    have e1 : n + (t.2.2 - (a + n)) = t.2.2 - a := by omega
    refine ⟨by omega, ?_, by rw [List.length_cons] at g3 ⊢; omega, g4, ?_, ?_⟩
    · have h4 := gap_skip e g2
      rw [← List.take_add, e1] at h4
      exact h4
    · rw [e1] at g5; exact g5
    · rw [show n + (t.2.2 - (a + n) + (rawT t).length) = t.2.2 - a + (rawT t).length by omega] at g6; exact g6
  | tok k s n =>
   rw [e] at h
   dsimp only at h
   cases e2 : lexR f (a + n) ((c :: r).drop n) with
   | bad p => rw [e2] at h; cases h
   | ok us =>
    rw [e2] at h
    cases h
    have hl := lexS_len.2 k s n e
    obtain ⟨r1, r2⟩ := raw_at (a := a) e
    obtain ⟨h1, h2⟩ := lexR_stands f _ _ us e2
    refine ⟨⟨Nat.le_refl _, by rw [Nat.sub_self]; rfl, ?_, ?_, ?_, ?_⟩, fun t ht => ?_⟩
    · rw [Nat.sub_self, r1, List.length_cons]; omega
    · intro h0
      rw [h0] at r1
      simp at r1
      omega
    · rw [Nat.sub_self, List.drop_zero, r1, r2]
    · rw [Nat.sub_self, Nat.zero_add, r1]; exact h1
    · rcases List.mem_cons.1 ht with rfl | ht
      · exact Nat.le_refl _
      · have := h2 t ht; omega
end Go.Proofs.YthjnepfpohmpkaaDoor

/- Mathematics of tokens: a literal behind which a byte stands does not hang on what stands behind that byte. No condition. -/
namespace Go.Proofs.YthjnepfpohmpkaaDoor
open Go.RowKit Limb
set_option linter.unusedVariables false
theorem run_swap {z z' : List Nat} : ∀ {w : List Nat}, litRun (w ++ z) < w.length → litRun (w ++ z') = litRun (w ++ z)
 | [], h => by simp at h
 | a :: w, h => by
  unfold litRun at *
  by_cases ha : isDig a = true
  · rw [List.cons_append, List.takeWhile_cons_of_pos ha, List.length_cons, List.length_cons] at h
    rw [List.cons_append, List.cons_append, List.takeWhile_cons_of_pos ha, List.takeWhile_cons_of_pos ha, List.length_cons, List.length_cons]
    have := run_swap (z := z) (z' := z') (w := w) (by unfold litRun; omega)
    unfold litRun at this
    rw [this]
  · rw [List.cons_append, List.cons_append, List.takeWhile_cons_of_neg ha, List.takeWhile_cons_of_neg ha]
theorem run_min {z z' : List Nat} : ∀ {w : List Nat} {k : Nat}, k ≤ w.length → k ≤ litRun (w ++ z) → k ≤ litRun (w ++ z')
 | [], k, h, _ => by simp at h; omega
 | a :: w, 0, _, _ => Nat.zero_le _
 | a :: w, k + 1, h, h2 => by
  unfold litRun at *
  by_cases ha : isDig a = true
  · rw [List.cons_append, List.takeWhile_cons_of_pos ha, List.length_cons] at h2 ⊢
    have := run_min (z := z) (z' := z') (w := w) (k := k) (by simpa using h) (by unfold litRun; omega)
    unfold litRun at this
    omega
  · rw [List.cons_append, List.takeWhile_cons_of_neg ha] at h2; simp at h2
theorem drop_lim {l : List Nat} {i : Nat} (h : i < l.length) : l.drop i = lim l i :: l.drop (i + 1) := by
 rw [List.drop_eq_getElem_cons h]
 simp [lim, List.getD_eq_getElem?_getD, h]
theorem run_next {l : List Nat} (h : litRun l < l.length) : isDig (lim l (litRun l)) = false := by
 unfold litRun at *
 have e := drop_lim h
 exact while_next e
theorem lim_swap {w z z' : List Nat} {k : Nat} (h : k < w.length) : lim (w ++ z') k = lim (w ++ z) k := by
 simp only [lim, List.getD_eq_getElem?_getD, List.getElem?_append_left h]
theorem litLen_dig {w : List Nat} {d : Nat} {t0 t1 : List Nat} (hw : w ≠ []) (hd : isDig d = true) (h : litLen (w ++ d :: t0) = w.length) : litLen (w ++ d :: t1) = w.length := by
 have hw1 : 1 ≤ w.length := by cases w with
  | nil => exact absurd rfl hw
  | cons a w => simp
 have hat : ∀ t, lim (w ++ d :: t) w.length = d := fun t => lim_app.2 rfl
 have hlen : ∀ t, (w ++ d :: t).length = w.length + t.length + 1 := fun t => by simp; omega
 obtain ⟨a, ha⟩ : ∃ a, litRun (w ++ d :: t0) = a := ⟨_, rfl⟩
 obtain ⟨b, hb⟩ : ∃ b, litPoint ((w ++ d :: t0).drop a) = b := ⟨_, rfl⟩
 obtain ⟨e, he⟩ : ∃ e, litExp ((w ++ d :: t0).drop (a + b)) = e := ⟨_, rfl⟩
 unfold litLen at h
 rw [ha] at h
 by_cases h0 : a = 0
 · rw [if_pos h0] at h; omega
 rw [if_neg h0, hb, he] at h
 have noD : ∀ k, k = w.length → isDig (lim (w ++ d :: t0) k) = false → False := fun k hk hn => by
  subst hk; rw [hat, hd] at hn; cases hn
 have ne : e ≠ 0 := fun e0 => by
  by_cases b0 : b = 0
  · exact noD a (by omega) (by rw [← ha]; exact run_next (by rw [ha, hlen]; omega))
  · have hb2 := hb
    unfold litPoint at hb2
    rw [List.drop_drop] at hb2
    split at hb2
    · have hk : litRun ((w ++ d :: t0).drop (a + 1)) = b - 1 := by omega
      have := run_next (l := (w ++ d :: t0).drop (a + 1)) (by rw [hk, List.length_drop, hlen]; omega)
      rw [hk, lim_drop1] at this
      exact noD (a + 1 + (b - 1)) (by omega) this
    · omega
 have he2 := he
 unfold litExp at he2
 rw [List.drop_drop] at he2
 split at he2
 · rename_i hx
   obtain ⟨x1, x2⟩ := hx
   rw [lim_drop0] at x1
   obtain ⟨g, hg⟩ : ∃ g, litAt ((w ++ d :: t0).drop (a + b)) = g := ⟨_, rfl⟩
   rw [hg] at he2 x2
   have hg2 : 1 ≤ g ∧ g ≤ 2 := by rw [← hg]; unfold litAt; split <;> omega
   have h3 : 3 ≤ litRun ((w ++ d :: t0).drop (a + b + g)) := by
    rcases Nat.lt_or_ge (litRun ((w ++ d :: t0).drop (a + b + g))) 3 with h4 | h4
    · exfalso
      have := run_next (l := (w ++ d :: t0).drop (a + b + g)) (by rw [List.length_drop, hlen]; omega)
      rw [lim_drop1] at this
      exact noD _ (by omega) this
    · exact h4
   have eE : e = g + 3 := by omega
   have q1 : litRun (w ++ d :: t1) = a := by rw [← ha]; exact run_swap (by rw [ha]; omega)
   have q2 : litPoint ((w ++ d :: t1).drop a) = b := by
    rw [← hb]
    unfold litPoint
    rw [lim_drop0, lim_drop0, lim_swap (z := d :: t0) (z' := d :: t1) (by omega), List.drop_drop, List.drop_drop]
    by_cases l46 : lim (w ++ d :: t0) a = 46
    · have hd2 : ∀ t, (w ++ d :: t).drop (a + 1) = w.drop (a + 1) ++ d :: t := fun t => List.drop_append_of_le_length (by omega)
      have hb2 := hb
      unfold litPoint at hb2
      rw [lim_drop0, List.drop_drop] at hb2
      have hr : litRun (w.drop (a + 1) ++ d :: t0) < (w.drop (a + 1)).length := by
       rw [← hd2, List.length_drop]
       split at hb2
       · omega
       · rename_i hn
         have z0 : litRun ((w ++ d :: t0).drop (a + 1)) = 0 := by
          rcases Nat.eq_zero_or_pos (litRun ((w ++ d :: t0).drop (a + 1))) with z | z
          · exact z
          · exact absurd ⟨l46, by omega⟩ hn
         rw [z0]; omega
      rw [hd2, hd2, run_swap (z' := d :: t1) hr]
    · simp only [l46, false_and, if_false]
   have q3 : litExp ((w ++ d :: t1).drop (a + b)) = g + 3 := by
    have hgA : litAt ((w ++ d :: t1).drop (a + b)) = g := by
     rw [← hg]
     unfold litAt
     rw [lim_drop1, lim_drop1, lim_swap (z := d :: t0) (z' := d :: t1) (by omega)]
    have hd2 : ∀ t, (w ++ d :: t).drop (a + b + g) = w.drop (a + b + g) ++ d :: t := fun t => List.drop_append_of_le_length (by omega)
    have h5 : 3 ≤ litRun ((w ++ d :: t1).drop (a + b + g)) := by
     rw [hd2] at h3 ⊢
     exact run_min (by rw [List.length_drop]; omega) h3
    unfold litExp
    rw [hgA, List.drop_drop, lim_drop0, lim_swap (z := d :: t0) (z' := d :: t1) (by omega), if_pos ⟨x1, by omega⟩]
    omega
   unfold litLen
   rw [q1, if_neg h0, q2, q3]
   omega
 · omega
end Go.Proofs.YthjnepfpohmpkaaDoor

/- Mathematics of tokens: blanks and a note put in ahead of a token change nothing but places. No condition. -/
namespace Go.Proofs.YthjnepfpohmpkaaDoor
open Go.RowKit Limb
set_option linter.unusedVariables false
def insL : List Nat := [32, 10, 35, 32, 120, 10]
theorem while_split {p : Nat → Bool} {r : List Nat} {n : Nat} (h : (r.takeWhile p).length = n) : ∃ v, r = r.takeWhile p ++ v ∧ r.drop n = v ∧ (v = [] ∨ ∃ d q, v = d :: q ∧ p d = false) := by
 subst h
 refine ⟨r.drop (r.takeWhile p).length, ?_, rfl, ?_⟩
 · conv => lhs; rw [← List.take_append_drop (r.takeWhile p).length r, take_whileL]
 · cases e : r.drop (r.takeWhile p).length with
   | nil => exact .inl rfl
   | cons d q => exact .inr ⟨d, q, rfl, while_next e⟩
theorem while_at {p : Nat → Bool} {d : Nat} {q : List Nat} (hd : p d = false) : ∀ {u : List Nat}, u.all p = true → (u ++ d :: q).takeWhile p = u
 | [], _ => by rw [List.nil_append, List.takeWhile_cons_of_neg (by rw [hd]; decide)]
 | a :: u, h => by
  simp only [List.all_cons, Bool.and_eq_true] at h
  rw [List.cons_append, List.takeWhile_cons_of_pos h.1, while_at hd h.2]
theorem all_while {p : Nat → Bool} (r : List Nat) : (r.takeWhile p).all p = true := List.all_takeWhile
def Next (v v' : List Nat) : Prop := (∃ z, v' = 32 :: z) ∨ ∃ d z z', v = d :: z ∧ v' = d :: z'
theorem Next.stop {v v' : List Nat} (h : Next v v') {p : Nat → Bool} (h32 : p 32 = false) (hv : v = [] ∨ ∃ d q, v = d :: q ∧ p d = false) : ∃ d q, v' = d :: q ∧ p d = false := by
 rcases h with ⟨z, rfl⟩ | ⟨d, z, z', rfl, rfl⟩
 · exact ⟨32, z, rfl, h32⟩
 · rcases hv with hv | ⟨d2, q, hv, hp⟩
   · cases hv
   · cases hv; exact ⟨d, z', rfl, hp⟩
theorem lexS_swap {c : Nat} {u v v' s : List Nat} {k n : Nat} (h : lexS c (u ++ v) = .tok k s n) (hn : n = u.length + 1) (hv : Next v v') : lexS c (u ++ v') = .tok k s n := by
 subst hn
 unfold lexS at h ⊢
 split at h
 · cases h
 rename_i hb
 rw [if_neg hb]
 split at h
 · cases h
 rename_i h35
 rw [if_neg h35]
 split at h
 · rename_i hl
   rw [if_pos hl]
   split at h
   · cases h
   · rename_i h16
     injection h with e1 e2 e3
     obtain ⟨v0, q1, q2, q3⟩ := while_split (p := isLw) (r := u ++ v) (n := u.length) (by omega)
     rw [List.drop_left] at q2
     subst q2
     have hu : (u ++ v).takeWhile isLw = u := List.append_cancel_right q1.symm
     have hall : u.all isLw = true := by rw [← hu]; exact all_while _
     obtain ⟨d, q, rfl, hd⟩ := hv.stop (p := isLw) (by decide) q3
     rw [while_at hd hall]
     rw [hu] at h16 e2
     rw [if_neg h16]
     rw [← e1, ← e2]
     have e4 : ∀ y : List Nat, (c :: (u ++ y)).take (1 + u.length) = c :: u := fun y => by
      rw [← List.cons_append, List.take_append_of_le_length (by simp; omega), List.take_of_length_le (by simp; omega)]
     rw [e4, e4, Nat.add_comm 1]
 · rename_i hl
   rw [if_neg hl]
   split at h
   · rename_i hd
     rw [if_pos hd]
     split at h
     · cases h
     · rename_i hno
       injection h with e1 e2 e3
       have h400 : litLen (c :: (u ++ v)) ≤ 400 := by
        rcases Nat.lt_or_ge 400 (litLen (c :: (u ++ v))) with e | e
        · exact absurd (.inl e) hno
        · exact e
       have hstop : stopN ((c :: (u ++ v)).drop (litLen (c :: (u ++ v)))) = false := by
        rcases Bool.eq_false_or_eq_true (stopN ((c :: (u ++ v)).drop (litLen (c :: (u ++ v))))) with e | e
        · exact absurd (.inr e) hno
        · exact e
       rw [e3] at e2 hstop h400
       have e4 : ∀ y : List Nat, (c :: (u ++ y)).take (u.length + 1) = c :: u := fun y => by rw [List.take_succ_cons, List.take_left]
       have e5 : ∀ y : List Nat, (c :: (u ++ y)).drop (u.length + 1) = y := fun y => by rw [List.drop_succ_cons, List.drop_left]
       rw [e5] at hstop
       rw [e4] at e2
       have hg : litGood (c :: u) = true := by
        obtain ⟨w, f, x, hok, e⟩ := litLen_parts (l := c :: (u ++ v)) (by omega)
        rw [e3, e4] at e
        rw [e]
        exact litGood_mk hok (by rw [← e, List.length_cons]; omega)
       have key : litLen (c :: (u ++ v')) = u.length + 1 := by
        rcases hv with ⟨z, rfl⟩ | ⟨d, z, z', rfl, rfl⟩
        · rw [← List.cons_append, litLen_more hg _ (by decide)]; rfl
        · by_cases hd2 : isDig d = true
          · have := litLen_dig (w := c :: u) (d := d) (t0 := z) (t1 := z') (by simp) hd2 (by rw [List.cons_append, e3]; rfl)
            rw [List.cons_append] at this
            rw [this]; rfl
          · have h1 : isLt d = false ∧ d ≠ 46 := by
             unfold stopN at hstop
             simp only [Bool.or_eq_false_iff, decide_eq_false_iff_not] at hstop
             exact hstop
            rw [← List.cons_append, litLen_more hg _ ⟨by simpa using hd2, h1.2, fun e => by subst e; exact absurd h1.1 (by decide)⟩]; rfl
       rw [key, e4, e5]
       have hstop2 : stopN v' = false := by
        rcases hv with ⟨z, rfl⟩ | ⟨d, z, z', rfl, rfl⟩
        · rfl
        · exact hstop
       rw [if_neg (by rw [hstop2]; rintro (h1 | h1); · omega
                      · cases h1), ← e1, ← e2]
   · rename_i hd
     rw [if_neg hd]
     split at h
     · rename_i h91
       rw [if_pos h91]
       split at h
       · cases h
       · rename_i hno
         injection h with e1 e2 e3
         obtain ⟨v0, q1, q2, q3⟩ := while_split (p := inUn) (r := u ++ v) rfl
         generalize hm : ((u ++ v).takeWhile inUn) = m at *
         have hc : closeU ((u ++ v).drop m.length) = true := by
          rcases Bool.eq_false_or_eq_true (closeU ((u ++ v).drop m.length)) with e | e
          · exact e
          · exact absurd (.inr (.inr e)) hno
         obtain ⟨q, hq⟩ := close_at hc
         rw [q2] at hq
         subst hq
         have hall : m.all inUn = true := by rw [← hm]; exact all_while _
         have e6 : u = m ++ [93] := by
          have e7 : u ++ v = (m ++ [93]) ++ q := by rw [q1]; simp
          exact (List.append_inj e7 (by simp; omega)).1
         subst e6
         have e8 : ∀ y : List Nat, m ++ [93] ++ y = m ++ 93 :: y := fun y => by simp
         rw [e8] at e2 hno ⊢
         rw [while_at (by decide) hall]
         rw [List.take_left] at e2
         rw [List.drop_left] at hno
         rw [List.take_left, List.drop_left, if_neg, ← e1, ← e2, e3]
         rintro (h1 | h1 | h1)
         · exact hno (.inl h1)
         · exact hno (.inr (.inl h1))
         · cases h1
     · rename_i h91
       rw [if_neg h91]
       split at h
       · rename_i hs
         rw [if_pos hs]
         exact h
       · cases h
theorem lexR_nl {f a : Nat} {q : List Nat} {ts : List Tk} (h : lexR f a (10 :: q) = .ok ts) : ∀ t ∈ ts, a + 1 ≤ t.2.2 := by
 cases f with
 | zero => cases h
 | succ f =>
  unfold lexR at h
  rw [show lexS 10 q = .skip 1 by unfold lexS; rw [if_pos (by decide)]] at h
  exact (lexR_stands f _ _ ts h).2
theorem lexR_ins {f a : Nat} {l : List Nat} (F : Nat) (hF : l.length + 6 < F) (hf : l.length < f) : lexR F a (insL ++ l) = shR 6 (lexR f a l) := by
 obtain ⟨g, rfl⟩ : ∃ g, F = g + 4 := ⟨F - 4, by omega⟩
 have s1 : ∀ r, lexS 32 r = .skip 1 := fun r => by unfold lexS; rw [if_pos (by decide)]
 have s2 : ∀ r, lexS 10 r = .skip 1 := fun r => by unfold lexS; rw [if_pos (by decide)]
 have s3 : lexS 35 (32 :: 120 :: 10 :: l) = .skip 3 := by
  unfold lexS
  rw [if_neg (by decide), if_pos rfl, List.takeWhile_cons_of_pos (by decide), List.takeWhile_cons_of_pos (by decide), List.takeWhile_cons_of_neg (by decide)]
  rfl
 obtain ⟨R, hR⟩ : ∃ R, shR 6 (lexR f a l) = R := ⟨_, rfl⟩
 rw [hR]
 show lexR (g + 3 + 1) a (32 :: 10 :: 35 :: 32 :: 120 :: 10 :: l) = _
 unfold lexR
 rw [s1]
 show lexR (g + 2 + 1) (a + 1) (10 :: 35 :: 32 :: 120 :: 10 :: l) = _
 unfold lexR
 rw [s2]
 show lexR (g + 1 + 1) (a + 1 + 1) (35 :: 32 :: 120 :: 10 :: l) = _
 unfold lexR
 rw [s3]
 show lexR (g + 1) (a + 1 + 1 + 3) (10 :: l) = _
 unfold lexR
 rw [s2]
 show lexR g (a + 6) l = _
 rw [← hR, lexR_shift 6 g a l, lexR_fuel g f a l (by omega) hf]
theorem lexR_cut : ∀ (f F a : Nat) (l : List Nat) (ts : List Tk) (k : Nat) (t : Tk), lexR f a l = .ok ts → l.length < f → l.length + 6 < F → ts[k]? = some t →
 lexR F a (l.take (t.2.2 - a) ++ insL ++ l.drop (t.2.2 - a)) = .ok (ts.take k ++ shL 6 (ts.drop k))
 | 0, _, _, _, _, _, _, h, _, _, _ => by cases h
 | f + 1, F, a, [], ts, k, t, h, _, _, ht => by cases h; simp at ht
 | f + 1, 0, a, c :: r, ts, k, t, h, _, hF, ht => absurd hF (by omega)
 | f + 1, F + 1, a, c :: r, ts, k, t, h, hf, hF, ht => by
  have h0 := h
  simp only [List.length_cons] at hf hF
  have hmem : t ∈ ts := List.mem_of_getElem? ht
  unfold lexR at h
  cases e : lexS c r with
  | bad => rw [e] at h; cases h
  | skip n =>
   rw [e] at h
   dsimp only at h
   have hl := lexS_len.1 n e
   have hst := lexR_stands f _ _ ts h
   have hp := hst.2 t hmem
   have ih := lexR_cut f F (a + n) ((c :: r).drop n) ts k t h (by rw [List.length_drop, List.length_cons]; omega) (by rw [List.length_drop, List.length_cons]; omega) ht
   obtain ⟨m, hm⟩ : ∃ m, t.2.2 - a = n + m := ⟨t.2.2 - a - n, by omega⟩
   have hm2 : t.2.2 - (a + n) = m := by omega
   rw [hm2] at ih
   rw [hm, List.take_add, ← List.drop_drop]
   obtain ⟨n0, rfl⟩ : ∃ n0, n = n0 + 1 := ⟨n - 1, by omega⟩
   rw [List.take_succ_cons]
   rw [List.drop_succ_cons] at ih h ⊢
   have es : lexS c (r.take n0 ++ (r.drop n0).take m ++ insL ++ (r.drop n0).drop m) = .skip (n0 + 1) := by
    unfold lexS at e ⊢
    split at e
    · rename_i hb
      rw [if_pos hb]
      exact e
    · rename_i hb
      rw [if_neg hb]
      split at e
      · rename_i h35
        rw [if_pos h35]
        injection e with e2
        have hn0 : (r.takeWhile notNl).length = n0 := by omega
        obtain ⟨v, q1, q2, q3⟩ := while_split hn0
        have ht0 : r.take n0 = r.takeWhile notNl := by rw [← hn0, take_whileL]
        rw [q2] at h ⊢
        have hno : ∃ z, v.take m ++ insL ++ v.drop m = 10 :: z := by
         rcases q3 with rfl | ⟨d, q, rfl, hd⟩
         · cases f with
           | zero => cases h
           | succ f => cases h; cases ht
         · have hd2 : d = 10 := by unfold notNl at hd; simpa using hd
           subst hd2
           have h1 := lexR_nl h t hmem
           cases m with
           | zero => omega
           | succ m => exact ⟨_, by rw [List.take_succ_cons]; rfl⟩
        obtain ⟨z, hz⟩ := hno
        rw [ht0, List.append_assoc, List.append_assoc, ← List.append_assoc (v.take m), hz, while_at (by decide) (all_while _), hn0, Nat.add_comm]
      · split at e
        · split at e <;> cases e
        · split at e
          · split at e <;> cases e
          · split at e
            · split at e <;> cases e
            · split at e <;> cases e
   show lexR (F + 1) a (c :: (r.take n0 ++ (r.drop n0).take m ++ insL ++ (r.drop n0).drop m)) = _
   unfold lexR
   rw [es]
   dsimp only
   rw [List.drop_succ_cons]
   have e9 : (r.take n0 ++ (r.drop n0).take m ++ insL ++ (r.drop n0).drop m).drop n0 = (r.drop n0).take m ++ insL ++ (r.drop n0).drop m := by
    rw [List.append_assoc, List.append_assoc, List.drop_left' (by rw [List.length_take]; omega), List.append_assoc]
   rw [e9]
   exact ih
  | tok kk s n =>
   rw [e] at h
   dsimp only at h
   have hl := lexS_len.2 kk s n e
   cases e2 : lexR f (a + n) ((c :: r).drop n) with
   | bad p => rw [e2] at h; cases h
   | ok us =>
    rw [e2] at h
    injection h with h
    subst h
    cases k with
    | zero =>
     cases ht
     show lexR (F + 1) a ((c :: r).take (a - a) ++ insL ++ (c :: r).drop (a - a)) = _
     rw [Nat.sub_self]
     show lexR (F + 1) a (insL ++ c :: r) = _
     rw [lexR_ins (f := f + 1) (F + 1) (by rw [List.length_cons]; omega) (by rw [List.length_cons]; omega), h0]
     rfl
    | succ k =>
     have ht2 : us[k]? = some t := ht
     have hmem2 : t ∈ us := List.mem_of_getElem? ht2
     have hst := lexR_stands f _ _ us e2
     have hp := hst.2 t hmem2
     have ih := lexR_cut f F (a + n) ((c :: r).drop n) us k t e2 (by rw [List.length_drop, List.length_cons]; omega) (by rw [List.length_drop, List.length_cons]; omega) ht2
     obtain ⟨m, hm⟩ : ∃ m, t.2.2 - a = n + m := ⟨t.2.2 - a - n, by omega⟩
     have hm2 : t.2.2 - (a + n) = m := by omega
     rw [hm2] at ih
     rw [hm, List.take_add, ← List.drop_drop]
     obtain ⟨n0, rfl⟩ : ∃ n0, n = n0 + 1 := ⟨n - 1, by omega⟩
     rw [List.take_succ_cons]
     rw [List.drop_succ_cons] at ih e2 ⊢
     have e9 : (r.take n0 ++ (r.drop n0).take m ++ insL ++ (r.drop n0).drop m) = r.take n0 ++ ((r.drop n0).take m ++ insL ++ (r.drop n0).drop m) := by
      rw [List.append_assoc, List.append_assoc, List.append_assoc]
     have hlen : (r.take n0).length = n0 := by rw [List.length_take]; omega
     have hnx : Next (r.drop n0) ((r.drop n0).take m ++ insL ++ (r.drop n0).drop m) := by
      cases m with
      | zero => exact .inl ⟨_, rfl⟩
      | succ m =>
       cases hv : r.drop n0 with
       | nil => 
        rw [hv] at e2
        cases f with
        | zero => cases e2
        | succ f => cases e2; cases ht2
       | cons d z => exact .inr ⟨d, z, _, rfl, by rw [List.take_succ_cons]; rfl⟩
     have es : lexS c (r.take n0 ++ ((r.drop n0).take m ++ insL ++ (r.drop n0).drop m)) = .tok kk s (n0 + 1) :=
      lexS_swap (u := r.take n0) (v := r.drop n0) (by rw [List.take_append_drop]; exact e) (by rw [hlen]) hnx
     show lexR (F + 1) a (c :: (r.take n0 ++ (r.drop n0).take m ++ insL ++ (r.drop n0).drop m)) = _
     rw [e9]
     unfold lexR
     rw [es]
     dsimp only
     rw [List.drop_succ_cons, List.drop_left' hlen, ih]
     rfl
end Go.Proofs.YthjnepfpohmpkaaDoor

/- What a row's listed variables give: the tables of packages literal and lex as the contracts ask them. Condition: the variables read as listed. -/
namespace Go.Proofs.YthjnepfpohmpkaaDoor
open Go.RowKit Go.ChangeShapes Limb
set_option linter.unusedVariables false
def lkindsL : List Int := [0, 0, 0, 0, 0, 0, 0, 0, 0, 1, 1, 0, 0, 0, 0, 0, 0, 0, 0, 0, 0, 0, 0, 0, 0, 0, 0, 0, 0, 0, 0, 0, 1, 0, 0, 2, 0, 0, 0, 0, 6, 6, 6, 6, 0, 6, 5, 6, 4, 4, 4, 4, 4, 4, 4, 4, 4, 4, 6, 6, 0, 6, 0, 0, 0, 3, 3, 3, 3, 3, 3, 3, 3, 3, 3, 3, 3, 3, 3, 3, 3, 3, 3, 3, 3, 3, 3, 3, 3, 3, 3, 7, 0, 0, 6, 3, 0, 3, 3, 3, 3, 3, 3, 3, 3, 3, 3, 3, 3, 3, 3, 3, 3, 3, 3, 3, 3, 3, 3, 3, 3, 3, 3]
def lkN (c : Nat) : Nat := if isBl c = true then 1 else if c = 35 then 2 else if isLt c = true then 3 else if isDig c = true then 4 else if c = 46 then 5 else if isSg c = true then 6 else if c = 91 then 7 else 0
set_option maxRecDepth 4000 in
theorem lkinds_at : ∀ i, i < 123 → lkindsL.getD i 0 = ((lkN i : Nat) : Int) := by decide
def NTab (w : World) : Prop := ∀ i, i < 123 → w.cell? ⟨0, i, none⟩ = some (.int .u8 ((lkN i : Nat) : Int))
def XTab (w : World) : Prop := KTab w ∧ NTab w
theorem XTab.below {w w' : World} (h : XTab w) (hb : Below w.heap.size w w') : XTab w' :=
 ⟨h.1.below hb, fun i hi => (hb.cell (p := ⟨0, i, none⟩) (cell_lt (h.2 i hi))).trans (h.2 i hi)⟩
set_option maxRecDepth 4000 in
theorem lkinds_tab {W : World} {name : String} {r : List (String × DataW Unit)} (h : laidMet Tryd.prog ((name, Lib.tabData .u8 lkindsL) :: r) W) (hg : Tryd.prog.globalNamed name = some 0) :
 ∀ i, i < 123 → W.cell? ⟨0, i, none⟩ = some (.int .u8 ((lkN i : Nat) : Int)) := fun i hi => by
 have hT := Lib.tabIs_of_head hg (t := 46) (by kernel_rfl) Tryd.underlying46 Tryd.underlying5 (by kernel_rfl) (by kernel_rfl) h
 rw [hT.cell hg i hi, lkinds_at i hi]
end Go.Proofs.YthjnepfpohmpkaaDoor

/- Mathematics of package lex's parts: kinds of bytes, words read byte by byte, gaps. No condition. -/
namespace Go.Proofs.YthjnepfpohmpkaaDoor
open Go.RowKit Limb
set_option linter.unusedVariables false
theorem lkN_big {c : Nat} (h : 123 ≤ c) : lkN c = 0 := by
 unfold lkN
 rw [if_neg (by simp [isBl]; omega), if_neg (by omega), if_neg (by simp [isLt]; omega), if_neg (by simp [isDig]; omega), if_neg (by omega), if_neg (by simp [isSg]; omega), if_neg (by omega)]
theorem lkN_all : ∀ c, c < 256 → ((lkN c = 1 ↔ isBl c = true) ∧ (lkN c = 2 ↔ c = 35) ∧ (lkN c = 3 ↔ isLt c = true) ∧ (lkN c = 4 ↔ isDig c = true) ∧ (lkN c = 5 ↔ c = 46) ∧ (lkN c = 6 ↔ isSg c = true) ∧ (lkN c = 7 ↔ c = 91)) := by
 decide +kernel
theorem byte_lt (s : ByteArray) (i : Nat) : lim (bytesOf s) i < 256 := bytes_lim (bytes_bytesOf s) i
theorem lw_step {p : Nat → Bool} : ∀ {l : List Nat} {k : Nat}, k ≤ (l.takeWhile p).length → k < l.length → p (lim l k) = true → k + 1 ≤ (l.takeWhile p).length
 | [], k, h, hk, _ => absurd hk (by simp)
 | c :: l, 0, h, hk, hp => by rw [List.takeWhile_cons_of_pos (by simpa [lim] using hp)]; simp
 | c :: l, k + 1, h, hk, hp => by
  by_cases hc : p c = true
  · rw [List.takeWhile_cons_of_pos hc] at h ⊢
    have := lw_step (l := l) (k := k) (by simpa using h) (by simpa using hk) (by simpa [lim] using hp)
    simpa using this
  · rw [List.takeWhile_cons_of_neg hc] at h; simp at h
theorem lw_stop {p : Nat → Bool} : ∀ {l : List Nat} {k : Nat}, k ≤ (l.takeWhile p).length → (k < l.length → p (lim l k) = false) → (l.takeWhile p).length = k
 | [], k, h, _ => by simp at h ⊢; omega
 | c :: l, 0, h, hp => by
  have := hp (by simp)
  rw [List.takeWhile_cons_of_neg (by simpa [lim] using this)]; rfl
 | c :: l, k + 1, h, hp => by
  by_cases hc : p c = true
  · rw [List.takeWhile_cons_of_pos hc] at h ⊢
    have := lw_stop (p := p) (l := l) (k := k) (by simpa using h) (fun h2 => by simpa [lim] using hp (by simpa using h2))
    simpa using this
  · rw [List.takeWhile_cons_of_neg hc] at h; simp at h
def wordN : List Nat → Nat
 | [] => 0
 | c :: r => if isLt c = true then 1 + (r.takeWhile isLw).length else 0
def wdAt (k c : Nat) : Bool := isLt c || (decide (0 < k) && isDig c)
theorem wordN_cons (c : Nat) (r : List Nat) : wordN (c :: r) = if isLt c = true then 1 + (r.takeWhile isLw).length else 0 := rfl
theorem word_step {l : List Nat} {k : Nat} (h : k ≤ wordN l) (hk : k < l.length) (hp : wdAt k (lim l k) = true) : k + 1 ≤ wordN l := by
 cases l with
 | nil => simp at hk
 | cons c l =>
  cases k with
  | zero =>
   have : isLt c = true := by simpa [wdAt, lim] using hp
   rw [wordN_cons, if_pos this]; omega
  | succ k =>
   by_cases hc : isLt c = true
   · rw [wordN_cons, if_pos hc] at h ⊢
     have := lw_step (p := isLw) (l := l) (k := k) (by omega) (by simpa using hk) (by simpa [wdAt, isLw, lim] using hp)
     omega
   · rw [wordN_cons, if_neg hc] at h; omega
theorem word_stop {l : List Nat} {k : Nat} (h : k ≤ wordN l) (hp : k < l.length → wdAt k (lim l k) = false) : wordN l = k := by
 cases l with
 | nil => simp [wordN] at h ⊢; omega
 | cons c l =>
  cases k with
  | zero =>
   have : isLt c = false := by simpa [wdAt, lim] using hp (by simp)
   rw [wordN_cons, if_neg (by rw [this]; decide)]
  | succ k =>
   by_cases hc : isLt c = true
   · rw [wordN_cons, if_pos hc] at h ⊢
     have := lw_stop (p := isLw) (l := l) (k := k) (by omega) (fun h2 => by simpa [wdAt, isLw, lim] using hp (by simpa using h2))
     omega
   · rw [wordN_cons, if_neg hc] at h; omega
theorem wordN_le (l : List Nat) : wordN l ≤ l.length := by
 cases l with
 | nil => exact Nat.le_refl _
 | cons c l =>
  rw [wordN_cons]
  have : (l.takeWhile isLw).length ≤ l.length := (List.takeWhile_sublist _).length_le
  split
  · rw [List.length_cons]; omega
  · omega
def wordL (l : List Nat) : Nat := if 16 < wordN l then 0 else wordN l
def numL (l : List Nat) : Nat := if 400 < litLen l ∨ stopN (l.drop (litLen l)) = true then 0 else litLen l
def unitL (l : List Nat) : Nat :=
 match l with
 | [] => 0
 | _ :: r => if (r.takeWhile inUn).length = 0 ∨ 200 < (r.takeWhile inUn).length ∨ closeU (r.drop (r.takeWhile inUn).length) = false then 0 else (r.takeWhile inUn).length + 2
def ownW (l : List Nat) : Bool := [[117, 110, 105, 116], [115, 111, 117, 114, 99, 101], [99, 111, 118], [108, 101, 116], [111, 117, 116, 112, 117, 116], [105, 110]].contains l
def isNam (l : List Nat) : Bool := isWdB l && !ownW l
theorem wordL_is (l : List Nat) (h : l ≠ []) : decide (wordL l = l.length) = isWdB l := by
 cases l with
 | nil => exact absurd rfl h
 | cons c r =>
  unfold wordL isWdB
  rw [wordN_cons]
  show decide _ = (isLt c && r.all isLw && decide (r.length < 16))
  have hle : (r.takeWhile isLw).length ≤ r.length := (List.takeWhile_sublist _).length_le
  by_cases hc : isLt c = true
  · rw [if_pos hc, hc, Bool.true_and]
    by_cases ha : r.all isLw = true
    · rw [take_all ha, ha, Bool.true_and, List.length_cons]
      by_cases h16 : 16 < 1 + r.length
      · rw [if_pos h16, decide_eq_false (by omega), decide_eq_false (by omega)]
      · rw [if_neg h16, decide_eq_true (by omega), decide_eq_true (by omega)]
    · have hlt : (r.takeWhile isLw).length < r.length := by
       rcases Nat.lt_or_ge (r.takeWhile isLw).length r.length with e | e
       · exact e
       · exfalso
         have e2 : r.takeWhile isLw = r := (List.takeWhile_prefix isLw).eq_of_length (by omega)
         exact ha (by rw [← e2]; exact all_while r)
      have ha2 : r.all isLw = false := by simpa using ha
      rw [ha2, Bool.false_and, List.length_cons]
      split
      · exact decide_eq_false (by omega)
      · exact decide_eq_false (by omega)
  · have hc2 : isLt c = false := by simpa using hc
    rw [if_neg hc, hc2]
    simp
inductive FirstP (c : Nat) (r : List Nat) (k n : Nat) : Prop
 | bad : n = 0 → lexS c r = .bad → FirstP c r k n
 | tok (t : List Nat) : lexS c r = .tok k t n → FirstP c r k n
theorem first_word {c : Nat} {r : List Nat} (h : isLt c = true) : FirstP c r 1 (wordL (c :: r)) := by
 obtain ⟨n1, n2⟩ := lt_not h
 unfold wordL
 rw [wordN_cons, if_pos h]
 by_cases h16 : 16 < 1 + (r.takeWhile isLw).length
 · rw [if_pos h16]
   exact .bad rfl (by unfold lexS; rw [if_neg (by rw [n1]; decide), if_neg n2, if_pos h, if_pos h16])
 · rw [if_neg h16]
   exact .tok _ (by unfold lexS; rw [if_neg (by rw [n1]; decide), if_neg n2, if_pos h, if_neg h16])
theorem first_num {c : Nat} {r : List Nat} (h : isDig c = true) : FirstP c r 2 (numL (c :: r)) := by
 have n1 : isBl c = false := by
  simp only [isDig, Bool.and_eq_true, decide_eq_true_eq] at h
  simp [isBl]; omega
 have n2 : c ≠ 35 := by rintro rfl; exact absurd h (by decide)
 have n3 : isLt c = false := by
  simp only [isDig, Bool.and_eq_true, decide_eq_true_eq] at h
  simp [isLt]; omega
 unfold numL
 by_cases h4 : 400 < litLen (c :: r) ∨ stopN ((c :: r).drop (litLen (c :: r))) = true
 · rw [if_pos h4]
   exact .bad rfl (by unfold lexS; rw [if_neg (by rw [n1]; decide), if_neg n2, if_neg (by rw [n3]; decide), if_pos h, if_pos h4])
 · rw [if_neg h4]
   exact .tok _ (by unfold lexS; rw [if_neg (by rw [n1]; decide), if_neg n2, if_neg (by rw [n3]; decide), if_pos h, if_neg h4])
theorem first_unit {r : List Nat} : FirstP 91 r 4 (unitL (91 :: r)) := by
 unfold unitL
 dsimp only
 by_cases h4 : (r.takeWhile inUn).length = 0 ∨ 200 < (r.takeWhile inUn).length ∨ closeU (r.drop (r.takeWhile inUn).length) = false
 · rw [if_pos h4]
   exact .bad rfl (by unfold lexS; rw [if_neg (by decide), if_neg (by decide), if_neg (by decide), if_neg (by decide), if_pos rfl, if_pos h4])
 · rw [if_neg h4]
   exact .tok _ (by unfold lexS; rw [if_neg (by decide), if_neg (by decide), if_neg (by decide), if_neg (by decide), if_pos rfl, if_neg h4])
theorem first_sign {c : Nat} {r : List Nat} (h : isSg c = true) : FirstP c r 3 1 := by
 have hc : c = 40 ∨ c = 41 ∨ c = 43 ∨ c = 45 ∨ c = 42 ∨ c = 47 ∨ c = 94 ∨ c = 61 ∨ c = 59 ∨ c = 58 := by simpa [isSg] using h
 rcases hc with rfl | rfl | rfl | rfl | rfl | rfl | rfl | rfl | rfl | rfl <;> exact .tok _ rfl
theorem first_none {c : Nat} {r : List Nat} (k : Nat) (h1 : isBl c = false) (h2 : c ≠ 35) (h3 : isLt c = false) (h4 : isDig c = false) (h5 : c ≠ 91) (h6 : isSg c = false) : FirstP c r k 0 :=
 .bad rfl (by unfold lexS; rw [if_neg (by rw [h1]; decide), if_neg h2, if_neg (by rw [h3]; decide), if_neg (by rw [h4]; decide), if_neg h5, if_neg (by rw [h6]; decide)])
def Gap (l : List Nat) (n : Nat) : Prop := n ≤ l.length ∧ ∀ f F a, l.length < f → l.length - n < F → lexR f a l = lexR F (a + n) (l.drop n)
theorem Gap.zero (l : List Nat) : Gap l 0 := ⟨Nat.zero_le _, fun f F a h1 h2 => lexR_fuel f F a l h1 h2⟩
theorem Gap.skip {l : List Nat} {n m c : Nat} {r : List Nat} (h : Gap l n) (hd : l.drop n = c :: r) (hs : lexS c r = .skip m) : Gap l (n + m) := by
 obtain ⟨h1, h2⟩ := h
 have hl := lexS_len.1 m hs
 have hlen : l.length - n = r.length + 1 := by rw [← List.length_drop, hd, List.length_cons]
 refine ⟨by omega, fun f F a hf hF => ?_⟩
 obtain ⟨R, hR⟩ : ∃ R, lexR F (a + (n + m)) (l.drop (n + m)) = R := ⟨_, rfl⟩
 rw [hR, h2 f (l.length + 1) a hf (by omega), hd]
 show lexR (l.length + 1) (a + n) (c :: r) = _
 unfold lexR
 rw [hs]
 dsimp only
 rw [← hR, ← hd, List.drop_drop, ← Nat.add_assoc]
 exact lexR_fuel _ _ _ _ (by rw [List.length_drop]; omega) (by rw [List.length_drop]; omega)
def Stop (l : List Nat) (n : Nat) : Prop := ∀ c r, l.drop n = c :: r → isBl c = false ∧ c ≠ 35
theorem skip_blank {c : Nat} {r : List Nat} (h : isBl c = true) : lexS c r = .skip 1 := by unfold lexS; rw [if_pos h]
theorem skip_note {r : List Nat} : lexS 35 r = .skip (1 + (r.takeWhile notNl).length) := by unfold lexS; rw [if_neg (by decide), if_pos rfl]
theorem note_line {r : List Nat} : ((35 :: r).takeWhile notNl).length = 1 + (r.takeWhile notNl).length := by
 rw [List.takeWhile_cons_of_pos (by decide), List.length_cons, Nat.add_comm]
end Go.Proofs.YthjnepfpohmpkaaDoor

/- Mathematics of the statements of stage 9: what literals tell, in rational numbers. No condition. -/
namespace Go.Proofs.YthjnepfpohmpkaaDoor
open Go.RowKit Limb
set_option linter.unusedVariables false
end Go.Proofs.YthjnepfpohmpkaaDoor

/- What the reference of layer 9 answers (run), as a contract over memory. Condition: texts that can be read. -/
namespace Go.Proofs.YthjnepfpohmpkaaDoor
open Go.RowKit Limb
set_option linter.unusedVariables false
theorem lim_run {l : List Nat} {k : Nat} (h : k < litRun l) : isDig (lim l k) = true := by
 have e : lim l k = lim (l.takeWhile isDig) k := by
  rw [← take_run]
  simp [lim, List.getD_eq_getElem?_getD, h]
 have h2 : k < (l.takeWhile isDig).length := h
 rw [e]
 have h3 : lim (l.takeWhile isDig) k = (l.takeWhile isDig)[k] := by simp [lim, List.getD_eq_getElem?_getD, List.getElem?_eq_getElem h2]
 rw [h3]
 exact List.all_eq_true.1 (allDig_run l) _ (List.getElem_mem h2)
theorem lim_run_stop {l : List Nat} (h : litRun l < l.length) : isDig (lim l (litRun l)) = false := by
 have e : l.drop (litRun l) = l.dropWhile isDig := by
  conv => lhs; rw [← List.takeWhile_append_dropWhile (p := isDig) (l := l)]
  rw [show litRun (l.takeWhile isDig ++ l.dropWhile isDig) = (l.takeWhile isDig).length by rw [List.takeWhile_append_dropWhile]; rfl, List.drop_left]
 have h2 : lim l (litRun l) = lim (l.dropWhile isDig) 0 := by rw [← e, lim_drop0]
 rw [h2]
 cases hd : l.dropWhile isDig with
 | nil => rw [hd] at e; have := congrArg List.length e; rw [List.length_drop] at this; simp at this; omega
 | cons x t =>
  have h3 := List.head_dropWhile_not isDig (l := l) (by rw [hd]; simp)
  simp only [hd, List.head_cons] at h3
  simpa [lim] using h3
theorem run_step {l : List Nat} {k : Nat} (h : k ≤ litRun l) (hk : k < l.length) (hd : isDig (lim l k) = true) : k + 1 ≤ litRun l := by
 rcases Nat.lt_or_ge k (litRun l) with h2 | h2
 · exact h2
 · obtain rfl : k = litRun l := by omega
   rw [lim_run_stop hk] at hd; cases hd
theorem run_stop {l : List Nat} {k : Nat} (h : k ≤ litRun l) (hd : isDig (lim l k) = false) : litRun l = k := by
 rcases Nat.lt_or_ge k (litRun l) with h2 | h2
 · rw [lim_run h2] at hd; cases hd
 · omega
theorem run_full {l : List Nat} {k : Nat} (h : k ≤ litRun l) (hk : k = l.length) : litRun l = k := by
 have := litRun_le l
 omega
set_option maxHeartbeats 1000000 in
set_option maxRecDepth 100000 in
theorem refLRun_c (s : ByteArray) (hs : s.size ≤ 9223372036854775807) (a : Nat) (ha : a ≤ s.size) (w : World) :
 Calls Tryd.prog 27 #[.string s, .int .i64 (a : Int)] w fun e w' => e = .returned (.int .i64 (litRun ((bytesOf s).drop a) : Int)) ∧ w = w' := by
 have hl := length_bytesOf s
 have HL := Lib.hid hl
 clear hl
 go_enter Tryd.func27, Tryd.ntmps27
 go_wp2
 go_loopw [5] (fun i wr => ∃ k : Nat, i = .int .i64 (k : Int) ∧ k ≤ s.size - a ∧ RowKit.Hid (k ≤ litRun ((bytesOf s).drop a)) ∧ w = wr) (fun i _ => s.size - (intOf i).toNat)
 case atStart => exact ⟨0, rfl, Nat.zero_le _, Nat.zero_le _, rfl⟩
 case round =>
  obtain ⟨k, rfl, hk, HK, rfl⟩ := hrel
  have HLD : RowKit.Hid (((bytesOf s).drop a).length = s.size - a) := by show _ = _; rw [List.length_drop, HL.out]
  by_cases hlt : a + k < s.size
  · obtain ⟨d, hd⟩ : ∃ d, (s[a + k]'hlt).toNat = d := ⟨_, rfl⟩
    have hdl : RowKit.Hid (lim ((bytesOf s).drop a) k = d) := by show _ = _; rw [lim_drop1, ← byte_at s (a + k) hlt, hd]
    by_cases h1 : 48 ≤ d
    · by_cases h2 : d ≤ 57
      · have HK2 : RowKit.Hid (k + 1 ≤ litRun ((bytesOf s).drop a)) := run_step HK.out (by rw [HLD.out]; omega) (by rw [hdl.out]; simp [isDig, h1, h2])
        clear hdl HK
        go_wp2
        go_roundw
        case rel => exact ⟨k + 1, by go_num, by omega, HK2, by first | rfl | trivial⟩
        case measure => simp [intOf]; omega
      · have HE : RowKit.Hid (litRun ((bytesOf s).drop a) = k) := run_stop HK.out (by rw [hdl.out]; simp [isDig, h2])
        have h3 : 57 < d := by omega
        clear hdl HK h2
        go_wp2
        go_ret
        exact ⟨by rw [HE.out]; rfl, rfl⟩
    · have HE : RowKit.Hid (litRun ((bytesOf s).drop a) = k) := run_stop HK.out (by rw [hdl.out]; simp [isDig, h1])
      have h3 : d < 48 := by omega
      clear hdl HK h1
      go_wp2
      go_ret
      exact ⟨by rw [HE.out]; rfl, rfl⟩
  · have HE : RowKit.Hid (litRun ((bytesOf s).drop a) = k) := run_full HK.out (by rw [HLD.out]; omega)
    have h3 : s.size = a + k := by omega
    clear HK hlt
    go_wp2
    go_ret
    exact ⟨by rw [HE.out]; rfl, rfl⟩
theorem refLRun_at (s : ByteArray) (hs : s.size ≤ 9223372036854775807) (a : Nat) (ha : a ≤ s.size) (V : Int) (hV : V = a) (n : Nat) (hn : litRun ((bytesOf s).drop a) = n) (w : World) :
 Calls Tryd.prog 27 #[.string s, .int .i64 V] w fun e w' => e = .returned (.int .i64 (n : Int)) ∧ w = w' := by
 subst hV; subst hn; exact refLRun_c s hs a ha w
end Go.Proofs.YthjnepfpohmpkaaDoor
