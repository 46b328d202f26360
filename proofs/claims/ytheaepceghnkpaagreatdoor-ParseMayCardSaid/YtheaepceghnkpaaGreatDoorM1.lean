/- Part 1 of the texts that the statements of this seat lean on: mathematics, and what functions answer, as contracts over memory; each part says its own conditions. -/
import Derived.Test.YtheaepceghnkpaaGreatDoorM0
import Derived.Deep.RegionHeld3
import Derived.Deep.CutRange
import Derived.Laws.BitsAllLaws
import Derived.Lib.LaidTab
import Derived.LoopIn
/- Whole numbers with a sign in memory: a struct of a sign and a list of limbs that reads as an Int; answers are in the shortest limbs, and 0 is not below 0. Texts of whole numbers. No condition. -/
namespace Go.Proofs.YtheaepceghnkpaaGreatDoor
open Go.RowKit Limb
set_option linter.unusedVariables false
def sg (z : Int) : Bool := decide (z < 0)
theorem sg_neg {z : Int} (h : z < 0) : sg z = true := by simp [sg, h]
theorem sg_pos {z : Int} (h : 0 ≤ z) : sg z = false := by simp [sg]; omega
structure ZZ (w : World) (s : Bool) (A : Option Addr) (n c : Nat) (xs : List Nat) (z : Int) (L : Nat) : Prop where
 nn : NN w A n c xs z.natAbs L
 sgn : z = if s = true then -(z.natAbs : Int) else (z.natAbs : Int)
def zOf (s : Bool) (a : Nat) : Int := if s = true then -(a : Int) else (a : Int)
theorem zOf_abs (s : Bool) (a : Nat) : (zOf s a).natAbs = a := by unfold zOf; split <;> omega
theorem ZZ.of {w : World} {s : Bool} {A : Option Addr} {n c : Nat} {xs : List Nat} {a L : Nat} (h : NN w A n c xs a L) : ZZ w s A n c xs (zOf s a) L := by
 refine ⟨by rw [zOf_abs]; exact h, ?_⟩
 rw [zOf_abs]; rfl
theorem ZZ.below {w w' : World} {s : Bool} {A : Option Addr} {n c : Nat} {xs : List Nat} {z : Int} {L : Nat} (h : ZZ w s A n c xs z L) (hb : Below w.heap.size w w') : ZZ w' s A n c xs z L := ⟨h.nn.below hb, h.sgn⟩
theorem ZZ.neg {w : World} {A : Option Addr} {n c : Nat} {xs : List Nat} {z : Int} {L : Nat} (h : ZZ w true A n c xs z L) : z = -(z.natAbs : Int) := h.sgn
theorem ZZ.pos {w : World} {A : Option Addr} {n c : Nat} {xs : List Nat} {z : Int} {L : Nat} (h : ZZ w false A n c xs z L) : z = (z.natAbs : Int) := h.sgn
theorem ZZ.mk' {w : World} {A : Option Addr} {n c : Nat} {z : Int} {L : Nat} (h : NN w A n c (limbs z.natAbs) z.natAbs L) : ZZ w (sg z) A n c (limbs z.natAbs) z L := by
 refine ⟨h, ?_⟩
 unfold sg
 by_cases h0 : z < 0
 · simp [h0]; omega
 · simp [h0]; omega
end Go.Proofs.YtheaepceghnkpaaGreatDoor

/- Mathematics of the order of whole numbers; a number's text and back. No condition. -/
namespace Go.Proofs.YtheaepceghnkpaaGreatDoor
open Go.RowKit Limb
end Go.Proofs.YtheaepceghnkpaaGreatDoor

/- Mathematics of rational numbers as they are told: Lean's own Rat, its top and its bottom; what may be; the limit of 64 limbs; none is told as 0 and nothing. No condition. -/
namespace Go.Proofs.YtheaepceghnkpaaGreatDoor
open Go.RowKit Limb
set_option linter.unusedVariables false
def fitsQ (q : Rat) : Bool := decide (q.num.natAbs < 4294967296 ^ 64) && decide (q.den < 4294967296 ^ 64)
theorem mk_num {x : Int} {b : Nat} (hb : b ≠ 0) : (mkRat x b).num.natAbs = x.natAbs / Nat.gcd x.natAbs b ∧ sg (mkRat x b).num = sg x := by
 rw [Rat.num_mkRat, if_neg hb, Nat.gcd_comm]
 have hd : ((Nat.gcd x.natAbs b : Nat) : Int) ∣ x := by
  rw [Int.ofNat_dvd_left]; exact Nat.gcd_dvd_left _ _
 have hg : 0 < Nat.gcd x.natAbs b := Nat.gcd_pos_of_pos_right _ (Nat.pos_of_ne_zero hb)
 refine ⟨by rw [Int.natAbs_ediv_of_dvd hd]; rfl, ?_⟩
 obtain ⟨k, hk⟩ := hd
 generalize Nat.gcd x.natAbs b = g at hk hg ⊢
 subst hk
 rw [Int.mul_ediv_cancel_left _ (by omega)]
 unfold sg
 rw [decide_eq_decide]
 have h2 : (0 : Int) < (g : Int) := by omega
 constructor
 · intro h; exact Int.mul_neg_of_pos_of_neg h2 h
 · intro h
   rcases Int.lt_trichotomy k 0 with h3 | h3 | h3
   · exact h3
   · subst h3; simp at h
   · have := Int.mul_pos h2 h3; omega
theorem mk_den {x : Int} {b : Nat} (hb : b ≠ 0) : (mkRat x b).den = b / Nat.gcd x.natAbs b := by
 rw [Rat.den_mkRat, if_neg hb, Nat.gcd_comm]
theorem zOf_sg {z : Int} : zOf (sg z) z.natAbs = z := by
 unfold zOf sg
 by_cases h : z < 0
 · simp [h]; omega
 · simp [h]; omega
def goodV (s : Bool) (xs ys : List Nat) : Bool :=
 decide (xs = limbs (Limb.val xs)) && decide (ys = limbs (Limb.val ys)) && decide (Limb.val ys ≠ 0) && !(s && decide (Limb.val xs = 0)) && decide (xs.length ≤ 64) && decide (ys.length ≤ 64) && decide (Nat.gcd (Limb.val xs) (Limb.val ys) = 1)
theorem goodV_iff {s : Bool} {xs ys : List Nat} : goodV s xs ys = true ↔ xs = limbs (Limb.val xs) ∧ ys = limbs (Limb.val ys) ∧ Limb.val ys ≠ 0 ∧ ¬ (s = true ∧ Limb.val xs = 0) ∧ xs.length ≤ 64 ∧ ys.length ≤ 64 ∧ Nat.gcd (Limb.val xs) (Limb.val ys) = 1 := by
 unfold goodV
 simp only [Bool.and_eq_true, decide_eq_true_eq, Bool.not_eq_true', Bool.and_eq_false_iff, decide_eq_false_iff_not]
 constructor
 · rintro ⟨⟨⟨⟨⟨⟨h1, h2⟩, h3⟩, h4⟩, h5⟩, h6⟩, h7⟩
   exact ⟨h1, h2, h3, fun ⟨a, b⟩ => by rcases h4 with h4 | h4; · rw [a] at h4; cases h4
                                       · exact h4 b, h5, h6, h7⟩
 · rintro ⟨h1, h2, h3, h4, h5, h6, h7⟩
   refine ⟨⟨⟨⟨⟨⟨h1, h2⟩, h3⟩, ?_⟩, h5⟩, h6⟩, h7⟩
   cases s with
   | false => exact .inl rfl
   | true => exact .inr fun h => h4 ⟨rfl, h⟩
def readQ (s : Bool) (xs ys : List Nat) : Option Rat := if goodV s xs ys = true then some (mkRat (zOf s (Limb.val xs)) (Limb.val ys)) else none
theorem readQ_no {s : Bool} {xs ys : List Nat} (h : goodV s xs ys = false) : readQ s xs ys = none := if_neg (by rw [h]; decide)
theorem readQ_yes {s : Bool} {xs ys : List Nat} (h : goodV s xs ys = true) : ∃ q : Rat, readQ s xs ys = some q ∧ s = sg q.num ∧ xs = limbs q.num.natAbs ∧ ys = limbs q.den ∧ fitsQ q = true ∧ q.num = zOf s (Limb.val xs) ∧ q.den = Limb.val ys := by
 obtain ⟨h1, h2, h3, h4, h5, h6, h7⟩ := goodV_iff.1 h
 have ha : (zOf s (Limb.val xs)).natAbs = Limb.val xs := zOf_abs _ _
 obtain ⟨n1, n2⟩ := mk_num (x := zOf s (Limb.val xs)) h3
 have d1 := mk_den (x := zOf s (Limb.val xs)) h3
 rw [ha, h7, Nat.div_one] at n1 d1
 have hs : sg (zOf s (Limb.val xs)) = s := by
  cases s with
  | false => apply sg_pos; unfold zOf; simp
  | true =>
   have : Limb.val xs ≠ 0 := fun e => h4 ⟨rfl, e⟩
   apply sg_neg; unfold zOf; rw [if_pos rfl]; omega
 have hn : (mkRat (zOf s (Limb.val xs)) (Limb.val ys)).num = zOf s (Limb.val xs) := by
  have e1 := zOf_sg (z := (mkRat (zOf s (Limb.val xs)) (Limb.val ys)).num)
  rw [n1, n2, hs] at e1
  exact e1.symm
 refine ⟨_, if_pos h, ?_, ?_, ?_, ?_, hn, d1⟩
 · rw [n2, hs]
 · rw [n1]; exact h1
 · rw [d1]; exact h2
 · simp only [fitsQ, Bool.and_eq_true, decide_eq_true_eq]
   rw [n1, d1]
   have l1 := val_lt (xs := xs) (by rw [h1]; exact small_limbs _)
   have l2 := val_lt (xs := ys) (by rw [h2]; exact small_limbs _)
   exact ⟨Nat.lt_of_lt_of_le l1 (Nat.pow_le_pow_right (by decide) h5), Nat.lt_of_lt_of_le l2 (Nat.pow_le_pow_right (by decide) h6)⟩
theorem neg_top (q : Rat) : (-q).num = -q.num ∧ (-q).den = q.den := ⟨rfl, rfl⟩
end Go.Proofs.YtheaepceghnkpaaGreatDoor

/- What the statements' helpers keep.Int and keep.OwnInt, and the reference of layer 6, answer, as contracts over memory. Conditions: sizes of at most so many limbs. -/
namespace Go.Proofs.YtheaepceghnkpaaGreatDoor
open Go.RowKit Limb
set_option linter.unusedVariables false
theorem NN.put2 {w : World} {A : Option Addr} {n c : Nat} {xs : List Nat} {a L g : Nat} {T : TypeId} {b0 : Bool} {A0 : Option Addr} {n0 c0 : Nat} (h : NN w A n c xs a L) (hb : Row2 w g T (.bool b0) (.slice A0 n0 c0)) (u v : Value) : NN ((w.setCell ⟨g, 0, none⟩ u).setCell ⟨g, 1, none⟩ v) A n c xs a L := by
 refine ⟨⟨h.isN.1, h.isN.2.1, fun hn => ?_⟩, h.val, h.cap, h.le⟩
 obtain ⟨b, o, e, hlt, hc⟩ := h.isN.2.2 hn
 have hbg : b ≠ g := by
  rintro rfl
  have h1 := hc 0 hn
  unfold Row2 at hb
  match o, h1 with
  | 0, h1 => simp [World.cell?, hb] at h1
  | 1, h1 => simp [World.cell?, hb] at h1
  | o + 2, h1 => simp [World.cell?, hb] at h1
 refine ⟨b, o, e, by simpa [World.setCell] using hlt, fun j hj => ?_⟩
 rw [cell_setCell_ne _ _ (by intro e; injection e with e; exact hbg e.symm), cell_setCell_ne _ _ (by intro e; injection e with e; exact hbg e.symm)]
 exact hc j hj
section
variable {w : World} {s s' : Bool} {A A' : Option Addr} {n c n' c' : Nat} {xs ys : List Nat} {x y : Int} {L L' : Nat}
end
end Go.Proofs.YtheaepceghnkpaaGreatDoor

/- Mathematics of the order of rational numbers and of how many limbs sums and products have. No condition. -/
namespace Go.Proofs.YtheaepceghnkpaaGreatDoor
open Go.RowKit Limb
set_option linter.unusedVariables false
def Bd (q : Rat) (k l : Nat) : Prop := q.num.natAbs < 4294967296 ^ k ∧ q.den < 4294967296 ^ l
theorem Bd.mono {q : Rat} {k l k' l' : Nat} (h : Bd q k l) (hk : k ≤ k') (hl : l ≤ l') : Bd q k' l' :=
 ⟨Nat.lt_of_lt_of_le h.1 (Nat.pow_le_pow_right (by decide) hk), Nat.lt_of_lt_of_le h.2 (Nat.pow_le_pow_right (by decide) hl)⟩
theorem Bd.neg {q : Rat} {k l : Nat} (h : Bd q k l) : Bd (-q) k l := ⟨by rw [(neg_top q).1, Int.natAbs_neg]; exact h.1, h.2⟩
end Go.Proofs.YtheaepceghnkpaaGreatDoor

/- Blocks of three and of four cells: what they hold, what stays where they are filled. No condition. -/
namespace Go.Proofs.YtheaepceghnkpaaGreatDoor
open Go.RowKit Limb
set_option linter.unusedVariables false
def Row3 (w : World) (g : Nat) (T : TypeId) (a b c : Value) : Prop := w.heap[g]? = some (.cells #[a, b, c] T (0, 0))
section
variable {w w' : World} {g : Nat} {T : TypeId} {a b c : Value}
theorem Row3.lt (h : Row3 w g T a b c) : g < w.heap.size := by
 rcases Nat.lt_or_ge g w.heap.size with hlt | hge
 · exact hlt
 · unfold Row3 at h; rw [Array.getElem?_eq_none hge] at h; cases h
theorem Row3.below (h : Row3 w g T a b c) (hb : Below w.heap.size w w') : Row3 w' g T a b c := (hb.block g h.lt).trans h
theorem Row3.c0 (h : Row3 w g T a b c) : w.cell? ⟨g, 0, none⟩ = some a := by unfold Row3 at h; simp [World.cell?, h]
theorem Row3.c1 (h : Row3 w g T a b c) : w.cell? ⟨g, 1, none⟩ = some b := by unfold Row3 at h; simp [World.cell?, h]
theorem Row3.c2 (h : Row3 w g T a b c) : w.cell? ⟨g, 2, none⟩ = some c := by unfold Row3 at h; simp [World.cell?, h]
theorem Row3.free (h : Row3 w g T a b c) (k : Nat) : w.frozen? ⟨g, k, none⟩ = false := by unfold Row3 at h; simp [World.frozen?, h]
theorem Row3.fill (h : Row3 w g T a b c) (x y z : Value) : Row3 (((w.setCell ⟨g, 0, none⟩ x).setCell ⟨g, 1, none⟩ y).setCell ⟨g, 2, none⟩ z) g T x y z := by
 unfold Row3 at h ⊢
 simp [World.setCell, Array.getElem?_modify, h]
end
def Row4 (w : World) (g : Nat) (T : TypeId) (a b c d : Value) : Prop := w.heap[g]? = some (.cells #[a, b, c, d] T (0, 0))
section
variable {w w' : World} {g : Nat} {T : TypeId} {a b c d : Value}
theorem Row4.lt (h : Row4 w g T a b c d) : g < w.heap.size := by
 rcases Nat.lt_or_ge g w.heap.size with hlt | hge
 · exact hlt
 · unfold Row4 at h; rw [Array.getElem?_eq_none hge] at h; cases h
theorem Row4.below (h : Row4 w g T a b c d) (hb : Below w.heap.size w w') : Row4 w' g T a b c d := (hb.block g h.lt).trans h
theorem Row4.c0 (h : Row4 w g T a b c d) : w.cell? ⟨g, 0, none⟩ = some a := by unfold Row4 at h; simp [World.cell?, h]
theorem Row4.c1 (h : Row4 w g T a b c d) : w.cell? ⟨g, 1, none⟩ = some b := by unfold Row4 at h; simp [World.cell?, h]
theorem Row4.c2 (h : Row4 w g T a b c d) : w.cell? ⟨g, 2, none⟩ = some c := by unfold Row4 at h; simp [World.cell?, h]
theorem Row4.c3 (h : Row4 w g T a b c d) : w.cell? ⟨g, 3, none⟩ = some d := by unfold Row4 at h; simp [World.cell?, h]
theorem Row4.free (h : Row4 w g T a b c d) (k : Nat) : w.frozen? ⟨g, k, none⟩ = false := by unfold Row4 at h; simp [World.frozen?, h]
theorem Row4.fill (h : Row4 w g T a b c d) (x y z v : Value) : Row4 ((((w.setCell ⟨g, 0, none⟩ x).setCell ⟨g, 1, none⟩ y).setCell ⟨g, 2, none⟩ z).setCell ⟨g, 3, none⟩ v) g T x y z v := by
 unfold Row4 at h ⊢
 simp [World.setCell, Array.getElem?_modify, h]
end
end Go.Proofs.YtheaepceghnkpaaGreatDoor

/- A block of cells as a list (a local array, a struct): what it holds, what a store leaves of it. Of any program; no condition. -/
namespace Go.Proofs.YtheaepceghnkpaaGreatDoor
open Go.RowKit Limb
set_option linter.unusedVariables false
def RowV (w : World) (g : Nat) (T : TypeId) (vs : List Value) : Prop := w.heap[g]? = some (.cells vs.toArray T (0, 0))
section
variable {w w' : World} {g : Nat} {T : TypeId} {vs : List Value}
theorem RowV.lt (h : RowV w g T vs) : g < w.heap.size := by
 rcases Nat.lt_or_ge g w.heap.size with hlt | hge
 · exact hlt
 · unfold RowV at h; rw [Array.getElem?_eq_none hge] at h; cases h
theorem RowV.below (h : RowV w g T vs) (hb : Below w.heap.size w w') : RowV w' g T vs := (hb.block g h.lt).trans h
theorem RowV.cell (h : RowV w g T vs) {k : Nat} {v : Value} (hk : vs[k]? = some v) : w.cell? ⟨g, k, none⟩ = some v := by
 unfold RowV at h
 have e : (vs.toArray)[k]? = some v := by rw [List.getElem?_toArray]; exact hk
 simp only [World.cell?, h]
 exact e
theorem RowV.free (h : RowV w g T vs) (k : Nat) : w.frozen? ⟨g, k, none⟩ = false := by unfold RowV at h; simp [World.frozen?, h]
theorem RowV.set (h : RowV w g T vs) (k : Nat) (v : Value) : RowV (w.setCell ⟨g, k, none⟩ v) g T (vs.set k v) := by
 unfold RowV at h ⊢
 have e : (vs.set k v).toArray = vs.toArray.setIfInBounds k v := by simp
 rw [e]
 simp [World.setCell, Array.getElem?_modify, h]
theorem RowV.far (h : RowV w g T vs) {g' : Nat} (hne : g' ≠ g) (k : Nat) (v : Value) : RowV (w.setCell ⟨g', k, none⟩ v) g T vs := by
 unfold RowV at h ⊢
 simp only [World.setCell, Array.getElem?_modify]
 rw [if_neg hne]
 exact h
end
theorem below_set {w w' : World} {B g : Nat} (h : Below B w w') (hg : B ≤ g) (k : Nat) (v : Value) : Below B w (w'.setCell ⟨g, k, none⟩ v) := h.setCell (by exact hg) v
end Go.Proofs.YtheaepceghnkpaaGreatDoor

/- Two structs of a sign and a slice that two calls answer and that go to two new variables ('x, y := f(..), g(..)'): Go leaves open when the variables are made; whatever the order, both boxes hold the answers. No condition. -/
namespace Go.Proofs.YtheaepceghnkpaaGreatDoor
open Go.RowKit Limb
set_option linter.unusedVariables false
def ZB (w : World) (g : Nat) : Prop := Row2 w g 81 (.bool false) (.slice none 0 0)
theorem ZB.below {w w' : World} {g : Nat} (h : ZB w g) (hb : Below w.heap.size w w') : ZB w' g := Row2.below h hb
theorem ZB.lt {w : World} {g : Nat} (h : ZB w g) : g < w.heap.size := Row2.lt h
theorem ZB.cells {w : World} {g : Nat} (h : ZB w g) : w.cell? ⟨g, 0, none⟩ = some (.bool false) ∧ w.cell? ⟨g, 1, none⟩ = some (.slice none 0 0) ∧ w.frozen? ⟨g, 0, none⟩ = false ∧ w.frozen? ⟨g, 1, none⟩ = false := ⟨h.c0, h.c1, h.free 0, h.free 1⟩
theorem ZB.apart {w : World} {g : Nat} (h : ZB w g) : w.heap.size ≠ g ∧ w.heap.size + 1 ≠ g := by have := h.lt; omega
theorem ZZ.put {w : World} {s : Bool} {A : Option Addr} {n c : Nat} {xs : List Nat} {z : Int} {L g : Nat} (h : ZZ w s A n c xs z L) (hb : ZB w g) (u v : Value) : ZZ ((w.setCell ⟨g, 0, none⟩ u).setCell ⟨g, 1, none⟩ v) s A n c xs z L := ⟨h.nn.put2 hb u v, h.sgn⟩
theorem Row2.far {w : World} {g g' : Nat} {T : TypeId} {u v : Value} (h : Row2 w g' T u v) (hne : g ≠ g') (x y : Value) : Row2 ((w.setCell ⟨g, 0, none⟩ x).setCell ⟨g, 1, none⟩ y) g' T u v := by
 unfold Row2 at h ⊢
 simp only [World.setCell, Array.getElem?_modify]
 rw [if_neg hne, if_neg hne]
 exact h
theorem Row2.filled {w : World} {g : Nat} {T : TypeId} {u v : Value} (h : Row2 w g T u v) (x y : Value) : Row2 ((w.setCell ⟨g, 0, none⟩ x).setCell ⟨g, 1, none⟩ y) g T x y := h.fill x y
section
variable {wP w : World} {q r : Nat} {s : Bool} {A : Option Addr} {n c : Nat} {xs : List Nat} {z : Int} {L : Nat} {s' : Bool} {A' : Option Addr} {n' c' : Nat} {xs' : List Nat} {z' : Int} {L' : Nat}
structure Two (wP wx : World) (q r : Nat) (s : Bool) (A : Option Addr) (n c : Nat) (xs : List Nat) (z : Int) (L : Nat) (s' : Bool) (A' : Option Addr) (n' c' : Nat) (xs' : List Nat) (z' : Int) (L' : Nat) : Prop where
 q : Row2 wx q 81 (.bool s) (.slice A n c)
 r : Row2 wx r 81 (.bool s') (.slice A' n' c')
 z : ZZ wx s A n c xs z L
 z' : ZZ wx s' A' n' c' xs' z' L'
 b : Below wP.heap.size wP wx
end
end Go.Proofs.YtheaepceghnkpaaGreatDoor

/- Rational numbers in memory: a struct of a sign and two lists of limbs that reads as a number, or as none. No condition. -/
namespace Go.Proofs.YtheaepceghnkpaaGreatDoor
open Go.RowKit Limb
set_option linter.unusedVariables false
theorem NN.short {w : World} {A : Option Addr} {n c : Nat} {xs : List Nat} {a L K : Nat} (h : NN w A n c xs a L) (hK : n ≤ K) : NN w A n c xs a K := ⟨h.isN, h.val, h.cap, hK⟩
structure QQ (w : World) (s : Bool) (A : Option Addr) (n c : Nat) (xs : List Nat) (B : Option Addr) (m d : Nat) (ys : List Nat) (o : Option Rat) (L : Nat) : Prop where
 top : ZZ w s A n c xs (zOf s (Limb.val xs)) L
 bot : NN w B m d ys (Limb.val ys) L
 rd : readQ s xs ys = o
theorem QQ.below {w w' : World} {s : Bool} {A : Option Addr} {n c : Nat} {xs : List Nat} {B : Option Addr} {m d : Nat} {ys : List Nat} {o : Option Rat} {L : Nat} (h : QQ w s A n c xs B m d ys o L) (hb : Below w.heap.size w w') : QQ w' s A n c xs B m d ys o L :=
 ⟨h.top.below hb, h.bot.below hb, h.rd⟩
theorem QQ.some {w : World} {s : Bool} {A : Option Addr} {n c : Nat} {xs : List Nat} {B : Option Addr} {m d : Nat} {ys : List Nat} {q : Rat} {L : Nat} (h : QQ w s A n c xs B m d ys (some q) L) :
 s = sg q.num ∧ xs = limbs q.num.natAbs ∧ ys = limbs q.den ∧ fitsQ q = true ∧ ZZ w s A n c xs q.num 64 ∧ NN w B m d ys q.den 64 ∧ goodV s xs ys = true := by
 have hg : goodV s xs ys = true := by
  cases h2 : goodV s xs ys with
  | true => rfl
  | false => have := h.rd; rw [readQ_no h2] at this; cases this
 obtain ⟨q', e, h1, h2, h3, h4, h5, h6⟩ := readQ_yes hg
 have := h.rd
 rw [e] at this
 injection this with this
 subst this
 have hf := h4
 simp only [fitsQ, Bool.and_eq_true, decide_eq_true_eq] at hf
 refine ⟨h1, h2, h3, h4, ?_, ?_, hg⟩
 · have ht := h.top
   rw [← h5] at ht
   refine ⟨?_, ht.sgn⟩
   have hn := ht.nn
   rw [h2] at hn ⊢
   exact hn.relax hf.1
 · have hb := h.bot
   rw [← h6] at hb
   rw [h3] at hb ⊢
   exact hb.relax hf.2
theorem QQ.none {w : World} {s : Bool} {A : Option Addr} {n c : Nat} {xs : List Nat} {B : Option Addr} {m d : Nat} {ys : List Nat} {L : Nat} (h : QQ w s A n c xs B m d ys none L) : goodV s xs ys = false := by
 cases h2 : goodV s xs ys with
 | false => rfl
 | true =>
  obtain ⟨q', e, _⟩ := readQ_yes h2
  have := h.rd
  rw [e] at this
  cases this
theorem QQ.good {w : World} {s : Bool} {A : Option Addr} {n c : Nat} {xs : List Nat} {B : Option Addr} {m d : Nat} {ys : List Nat} {o : Option Rat} {L : Nat} (h : QQ w s A n c xs B m d ys o L) : goodV s xs ys = o.isSome := by
 cases o with
 | none => exact h.none
 | some q => exact h.some.2.2.2.2.2.2
end Go.Proofs.YtheaepceghnkpaaGreatDoor

/- Mathematics of what calls on rational numbers tell: a number or none, and the error beside it. No condition. -/
namespace Go.Proofs.YtheaepceghnkpaaGreatDoor
open Go.RowKit Limb
set_option linter.unusedVariables false
end Go.Proofs.YtheaepceghnkpaaGreatDoor

/- Mathematics of the statements of stage 7: which sums, products and quotients have room, and what they are. No condition. -/
namespace Go.Proofs.YtheaepceghnkpaaGreatDoor
open Go.RowKit Limb
set_option linter.unusedVariables false
theorem QQ.of {w : World} {s : Bool} {A : Option Addr} {n c : Nat} {xs : List Nat} {B : Option Addr} {m d : Nat} {ys : List Nat} {K : Nat} (i : IsN w A n xs) (hc : n ≤ c) (j : IsN w B m ys) (kc : m ≤ d) (h : n ≤ K) (h' : m ≤ K) : QQ w s A n c xs B m d ys (readQ s xs ys) K :=
 ⟨ZZ.of ⟨i, rfl, hc, h⟩, ⟨j, rfl, kc, h'⟩, rfl⟩
theorem Row3.set {w : World} {g g' : Nat} {T : TypeId} {a b c : Value} (h : Row3 w g' T a b c) (hne : g ≠ g') (o : Nat) (v : Value) : Row3 (w.setCell ⟨g, o, Option.none⟩ v) g' T a b c := by
 unfold Row3 at h ⊢
 simp only [World.setCell, Array.getElem?_modify]
 rw [if_neg hne]; exact h
theorem Row4.set {w : World} {g g' : Nat} {T : TypeId} {a b c d : Value} (h : Row4 w g' T a b c d) (hne : g ≠ g') (o : Nat) (v : Value) : Row4 (w.setCell ⟨g, o, Option.none⟩ v) g' T a b c d := by
 unfold Row4 at h ⊢
 simp only [World.setCell, Array.getElem?_modify]
 rw [if_neg hne]; exact h
end Go.Proofs.YtheaepceghnkpaaGreatDoor

/- Mathematics of powers of rational numbers (Lean's own), of the limbs that they have, and of the statements of stage 8. No condition. -/
namespace Go.Proofs.YtheaepceghnkpaaGreatDoor
open Go.RowKit Limb
set_option linter.unusedVariables false
theorem inv_told {q : Rat} (h : q.num ≠ 0) : (q⁻¹).num = zOf (sg q.num) q.den ∧ (q⁻¹).den = q.num.natAbs := by
 rw [Rat.num_inv, Rat.den_inv, if_neg h]
 refine ⟨?_, rfl⟩
 rcases Int.lt_trichotomy q.num 0 with h1 | h1 | h1
 · rw [sg_neg h1, Int.sign_eq_neg_one_of_neg h1]; unfold zOf; rw [if_pos rfl]; omega
 · exact absurd h1 h
 · rw [sg_pos (by omega), Int.sign_eq_one_of_pos h1]; unfold zOf; rw [if_neg (by decide)]; omega
theorem Bd.inv {q : Rat} {k l : Nat} (h : Bd q k l) (hq : q.num ≠ 0) : Bd (q⁻¹) l k := by
 obtain ⟨h1, h2⟩ := inv_told hq
 refine ⟨?_, ?_⟩
 · rw [h1, zOf_abs]; exact h.2
 · rw [h2]; exact h.1
end Go.Proofs.YtheaepceghnkpaaGreatDoor

/- Mathematics of the statements of stage 8: which powers have room, and what they are. No condition. -/
namespace Go.Proofs.YtheaepceghnkpaaGreatDoor
open Go.RowKit Limb
set_option linter.unusedVariables false
end Go.Proofs.YtheaepceghnkpaaGreatDoor

/- Mathematics of literals: the longest one with which a text begins, its parts, its number. No condition. -/
namespace Go.Proofs.YtheaepceghnkpaaGreatDoor.Limb
set_option linter.unusedVariables false
def litRun (l : List Nat) : Nat := (l.takeWhile isDig).length
def litPoint (l : List Nat) : Nat := if lim l 0 = 46 ∧ litRun (l.drop 1) ≠ 0 then 1 + litRun (l.drop 1) else 0
def litAt (l : List Nat) : Nat := if lim l 1 = 45 then 2 else 1
def litExp (l : List Nat) : Nat := if lim l 0 = 101 ∧ litRun (l.drop (litAt l)) ≠ 0 then litAt l + min (litRun (l.drop (litAt l))) 3 else 0
def litLen (l : List Nat) : Nat :=
 if litRun l = 0 then 0 else litRun l + litPoint (l.drop (litRun l)) + litExp (l.drop (litRun l + litPoint (l.drop (litRun l))))
def litGood (l : List Nat) : Bool := decide (1 ≤ l.length) && decide (l.length ≤ 400) && decide (litLen l = l.length)
def litF : Option (List Nat) → List Nat
 | none => []
 | some p => 46 :: p
def litSg (s : Bool) : List Nat := if s = true then [45] else []
def litX : Option (Bool × List Nat) → List Nat
 | none => []
 | some (s, d) => 101 :: (litSg s ++ d)
def litMk (w : List Nat) (f : Option (List Nat)) (x : Option (Bool × List Nat)) : List Nat := w ++ litF f ++ litX x
def Dig1 (l : List Nat) : Prop := allDig l = true ∧ l ≠ []
structure LitOk (w : List Nat) (f : Option (List Nat)) (x : Option (Bool × List Nat)) : Prop where
 whole : Dig1 w
 part : ∀ p, f = some p → Dig1 p
 exp : ∀ s d, x = some (s, d) → Dig1 d ∧ d.length ≤ 3
def Ender (r : List Nat) : Prop := r = [] ∨ ∃ c t, r = c :: t ∧ isDig c = false ∧ c ≠ 46 ∧ c ≠ 101
def Ends (r : List Nat) : Prop := r = [] ∨ ∃ c t, r = c :: t ∧ isDig c = false
theorem lim_nil (k : Nat) : lim [] k = 0 := by simp [lim]
theorem lim_drop0 (l : List Nat) (k : Nat) : lim (l.drop k) 0 = lim l k := by
 simp [lim, List.getD_eq_getElem?_getD]
theorem lim_drop1 (l : List Nat) (k j : Nat) : lim (l.drop k) j = lim l (k + j) := by
 simp [lim, List.getD_eq_getElem?_getD, List.getElem?_drop]
theorem run_ends {a r : List Nat} (ha : allDig a = true) (hr : Ends r) : (a ++ r).takeWhile isDig = a := by
 rw [List.takeWhile_append_of_pos (fun x hx => List.all_eq_true.1 ha x hx)]
 rcases hr with rfl | ⟨c, t, rfl, hc⟩
 · simp
 · rw [List.takeWhile_cons_of_neg (by simp [hc])]; simp
theorem litRun_ends {a r : List Nat} (ha : allDig a = true) (hr : Ends r) : litRun (a ++ r) = a.length := by rw [litRun, run_ends ha hr]
theorem Ender.ends {r : List Nat} (h : Ender r) : Ends r := h.imp id fun ⟨c, t, e, hc, _⟩ => ⟨c, t, e, hc⟩
theorem Dig1.pos {l : List Nat} (h : Dig1 l) : l.length ≠ 0 := fun e => h.2 (List.eq_nil_of_length_eq_zero e)
theorem Dig1.lim0 {l r : List Nat} (h : Dig1 l) : isDig (lim (l ++ r) 0) = true := by
 cases l with
 | nil => exact absurd rfl h.2
 | cons x l => exact List.all_eq_true.1 h.1 x (by simp)
theorem isDig_46 : isDig 46 = false := by decide
theorem isDig_101 : isDig 101 = false := by decide
theorem litPoint_none {r : List Nat} (h : lim r 0 ≠ 46) : litPoint r = 0 := if_neg fun h2 => h h2.1
theorem litExp_none {r : List Nat} (h : lim r 0 ≠ 101) : litExp r = 0 := if_neg fun h2 => h h2.1
theorem Ender.lim {r : List Nat} (h : Ender r) : lim r 0 ≠ 46 ∧ lim r 0 ≠ 101 := by
 rcases h with rfl | ⟨c, t, rfl, _, h1, h2⟩
 · rw [lim_nil]; exact ⟨by decide, by decide⟩
 · exact ⟨h1, h2⟩
theorem litPoint_some {p r : List Nat} (hp : Dig1 p) (hr : Ends r) : litPoint (46 :: p ++ r) = 1 + p.length := by
 have e : litRun ((46 :: p ++ r).drop 1) = p.length := by
  show litRun (p ++ r) = _
  exact litRun_ends hp.1 hr
 unfold litPoint
 rw [e, if_pos ⟨rfl, hp.pos⟩]
theorem litExp_some {s : Bool} {d r : List Nat} (hd : Dig1 d) (hl : d.length ≤ 3) (hr : Ends r) : litExp (litX (some (s, d)) ++ r) = (litX (some (s, d))).length := by
 cases s with
 | true =>
  have ea : litAt (101 :: ([45] ++ d) ++ r) = 2 := if_pos rfl
  have e : litRun ((101 :: ([45] ++ d) ++ r).drop 2) = d.length := by
   show litRun (d ++ r) = _
   exact litRun_ends hd.1 hr
  show litExp (101 :: ([45] ++ d) ++ r) = d.length + 1 + 1
  unfold litExp
  rw [ea, e, if_pos ⟨rfl, hd.pos⟩, Nat.min_eq_left hl]
  omega
 | false =>
  have h0 : lim (101 :: ([] ++ d) ++ r) 1 ≠ 45 := by
   intro h
   have h2 := hd.lim0 (r := r)
   have h3 : lim (d ++ r) 0 = 45 := h
   rw [h3] at h2
   exact absurd h2 (by decide)
  have ea : litAt (101 :: ([] ++ d) ++ r) = 1 := if_neg h0
  have e : litRun ((101 :: ([] ++ d) ++ r).drop 1) = d.length := by
   show litRun (d ++ r) = _
   exact litRun_ends hd.1 hr
  show litExp (101 :: ([] ++ d) ++ r) = d.length + 1
  unfold litExp
  rw [ea, e, if_pos ⟨rfl, hd.pos⟩, Nat.min_eq_left hl]
  omega
theorem litLen_mk {w : List Nat} {f : Option (List Nat)} {x : Option (Bool × List Nat)} {r : List Nat} (h : LitOk w f x) (hr : Ender r) : litLen (litMk w f x ++ r) = (litMk w f x).length := by
 have hXr : Ends (litX x ++ r) := by
  cases x with
  | none => exact hr.ends
  | some y => exact .inr ⟨101, _, rfl, isDig_101⟩
 have hX46 : lim (litX x ++ r) 0 ≠ 46 := by
  cases x with
  | none => exact hr.lim.1
  | some y => show (101 : Nat) ≠ 46; decide
 have hXl : litExp (litX x ++ r) = (litX x).length := by
  cases x with
  | none => exact litExp_none hr.lim.2
  | some y =>
   obtain ⟨s, d⟩ := y
   obtain ⟨h1, h2⟩ := h.exp s d rfl
   exact litExp_some h1 h2 hr.ends
 have hFr : Ends (litF f ++ (litX x ++ r)) := by
  cases f with
  | none => exact hXr
  | some p => exact .inr ⟨46, _, rfl, isDig_46⟩
 have hFl : litPoint (litF f ++ (litX x ++ r)) = (litF f).length := by
  cases f with
  | none => exact litPoint_none hX46
  | some p =>
   show litPoint (46 :: p ++ (litX x ++ r)) = p.length + 1
   rw [litPoint_some (h.part p rfl) hXr]; omega
 have e : litMk w f x ++ r = w ++ (litF f ++ (litX x ++ r)) := by unfold litMk; simp
 have e1 : litRun (w ++ (litF f ++ (litX x ++ r))) = w.length := litRun_ends h.whole.1 hFr
 rw [e]
 unfold litLen litMk
 rw [e1, if_neg h.whole.pos, List.drop_left, hFl]
 have e3 : (w ++ (litF f ++ (litX x ++ r))).drop (w.length + (litF f).length) = litX x ++ r := by
  rw [← List.drop_drop, List.drop_left, List.drop_left]
 rw [e3, hXl, List.length_append, List.length_append]
theorem litRun_le (l : List Nat) : litRun l ≤ l.length := (List.takeWhile_sublist _).length_le
theorem take_run (l : List Nat) : l.take (litRun l) = l.takeWhile isDig := (List.prefix_iff_eq_take.1 (List.takeWhile_prefix isDig)).symm
theorem allDig_run (l : List Nat) : allDig (l.takeWhile isDig) = true := by
 rw [allDig, List.all_eq_true]
 intro x hx
 have h := List.all_takeWhile (p := isDig) (l := l)
 exact List.all_eq_true.1 h x hx
theorem dig1_take {l : List Nat} {k : Nat} (h0 : litRun l ≠ 0) (hk : 0 < k) (hl : k ≤ litRun l) : Dig1 (l.take k) := by
 have e : l.take k = (l.takeWhile isDig).take k := by rw [← take_run, List.take_take, Nat.min_eq_left hl]
 rw [e]
 refine ⟨?_, ?_⟩
 · exact allDig_iff.2 fun x hx => allDig_iff.1 (allDig_run l) x (List.mem_of_mem_take hx)
 · intro h
   have h2 : min k (l.takeWhile isDig).length = 0 := by rw [← List.length_take, h]; rfl
   have h3 : litRun l = (l.takeWhile isDig).length := rfl
   omega
theorem lim_ne_cons {l : List Nat} {v : Nat} (h : lim l 0 = v) (hv : v ≠ 0) : l = v :: l.drop 1 := by
 cases l with
 | nil => rw [lim_nil] at h; exact absurd h.symm hv
 | cons x l => rw [show x = v from h]; rfl
theorem point_parts (r : List Nat) : ∃ f, (∀ p, f = some p → Dig1 p) ∧ r.take (litPoint r) = litF f ∧ litPoint r ≤ r.length := by
 unfold litPoint
 by_cases h : lim r 0 = 46 ∧ litRun (r.drop 1) ≠ 0
 · rw [if_pos h]
   refine ⟨some ((r.drop 1).take (litRun (r.drop 1))), fun p hp => ?_, ?_, ?_⟩
   · injection hp with hp
     subst hp
     exact dig1_take h.2 (Nat.pos_of_ne_zero h.2) (Nat.le_refl _)
   · conv => lhs; rw [lim_ne_cons h.1 (by decide)]
     rw [Nat.add_comm 1]; rfl
   · have h1 := litRun_le (r.drop 1)
     rw [List.length_drop] at h1
     omega
 · rw [if_neg h]
   exact ⟨none, (fun p hp => by cases hp), rfl, Nat.zero_le _⟩
theorem exp_parts (r : List Nat) : ∃ x, (∀ s d, x = some (s, d) → Dig1 d ∧ d.length ≤ 3) ∧ r.take (litExp r) = litX x ∧ litExp r ≤ r.length := by
 unfold litExp
 by_cases h : lim r 0 = 101 ∧ litRun (r.drop (litAt r)) ≠ 0
 · rw [if_pos h]
   have h1 := litRun_le (r.drop (litAt r))
   rw [List.length_drop] at h1
   have hd : Dig1 ((r.drop (litAt r)).take (min (litRun (r.drop (litAt r))) 3)) := dig1_take h.2 (by have := h.2; omega) (Nat.min_le_left _ _)
   have hl : ((r.drop (litAt r)).take (min (litRun (r.drop (litAt r))) 3)).length ≤ 3 := by rw [List.length_take]; omega
   have hc := lim_ne_cons h.1 (by decide)
   by_cases h45 : lim r 1 = 45
   · have ea : litAt r = 2 := if_pos h45
     have h5 := h.2
     rw [ea] at h1 hd hl h5 ⊢
     refine ⟨some (true, (r.drop 2).take (min (litRun (r.drop 2)) 3)), fun s d e => ?_, ?_, by omega⟩
     · injection e with e; injection e with e1 e2; subst e2; exact ⟨hd, hl⟩
     · have hc2 : r.drop 1 = 45 :: r.drop 2 := by
        have h2 : lim (r.drop 1) 0 = 45 := by rw [lim_drop0]; exact h45
        have h3 := lim_ne_cons h2 (by decide)
        rwa [List.drop_drop] at h3
       generalize min (litRun (r.drop 2)) 3 = k
       have e : r.take (2 + k) = 101 :: 45 :: (r.drop 2).take k := by
        conv => lhs; rw [hc, hc2]
        rw [show 2 + k = k + 1 + 1 by omega]; rfl
       exact e
   · have ea : litAt r = 1 := if_neg h45
     have h5 := h.2
     rw [ea] at h1 hd hl h5 ⊢
     refine ⟨some (false, (r.drop 1).take (min (litRun (r.drop 1)) 3)), fun s d e => ?_, ?_, by omega⟩
     · injection e with e; injection e with e1 e2; subst e2; exact ⟨hd, hl⟩
     · generalize min (litRun (r.drop 1)) 3 = k
       have e : r.take (1 + k) = 101 :: (r.drop 1).take k := by
        conv => lhs; rw [hc]
        rw [show 1 + k = k + 1 by omega]; rfl
       exact e
 · rw [if_neg h]
   exact ⟨none, (fun s d hp => by cases hp), rfl, Nat.zero_le _⟩
theorem litLen_parts {l : List Nat} (h : litLen l ≠ 0) : ∃ w f x, LitOk w f x ∧ l.take (litLen l) = litMk w f x := by
 have h0 : litRun l ≠ 0 := fun e => h (if_pos e)
 obtain ⟨f, f1, f2, f3⟩ := point_parts (l.drop (litRun l))
 obtain ⟨x, x1, x2, x3⟩ := exp_parts (l.drop (litRun l + litPoint (l.drop (litRun l))))
 refine ⟨l.takeWhile isDig, f, x, ⟨⟨allDig_run l, fun e => h0 (by rw [litRun, e]; rfl)⟩, f1, x1⟩, ?_⟩
 unfold litLen litMk
 rw [if_neg h0, List.take_add, List.take_add, take_run, f2, x2]
theorem litLen_le (l : List Nat) : litLen l ≤ l.length := by
 unfold litLen
 split
 · exact Nat.zero_le _
 · obtain ⟨_, _, _, f3⟩ := point_parts (l.drop (litRun l))
   obtain ⟨_, _, _, x3⟩ := exp_parts (l.drop (litRun l + litPoint (l.drop (litRun l))))
   have h1 := litRun_le l
   rw [List.length_drop] at f3 x3
   omega
theorem Ender.nil : Ender [] := .inl rfl
theorem Ender.of {c : Nat} (t : List Nat) (h : isDig c = false ∧ c ≠ 46 ∧ c ≠ 101) : Ender (c :: t) := .inr ⟨c, t, rfl, h⟩
theorem litGood_iff {l : List Nat} : litGood l = true ↔ 1 ≤ l.length ∧ l.length ≤ 400 ∧ litLen l = l.length := by
 simp [litGood, and_assoc]
theorem litGood_mk {w : List Nat} {f : Option (List Nat)} {x : Option (Bool × List Nat)} (h : LitOk w f x) (hl : (litMk w f x).length ≤ 400) : litGood (litMk w f x) = true := by
 have h2 := litLen_mk h Ender.nil
 rw [List.append_nil] at h2
 refine litGood_iff.2 ⟨?_, hl, h2⟩
 have := h.whole.pos
 unfold litMk
 rw [List.length_append, List.length_append]
 omega
end Go.Proofs.YtheaepceghnkpaaGreatDoor.Limb

/- What a row's listed variables give: the table of package literal as the contracts ask it. Condition: the variables read as listed. -/
namespace Go.Proofs.YtheaepceghnkpaaGreatDoor
open Go.RowKit Go.ChangeShapes Limb
set_option linter.unusedVariables false
def kindsL : List Int := [0, 0, 0, 0, 0, 0, 0, 0, 0, 0, 0, 0, 0, 0, 0, 0, 0, 0, 0, 0, 0, 0, 0, 0, 0, 0, 0, 0, 0, 0, 0, 0, 0, 0, 0, 0, 0, 0, 0, 0, 0, 0, 0, 0, 0, 4, 2, 0, 1, 1, 1, 1, 1, 1, 1, 1, 1, 1, 0, 0, 0, 0, 0, 0, 0, 0, 0, 0, 0, 0, 0, 0, 0, 0, 0, 0, 0, 0, 0, 0, 0, 0, 0, 0, 0, 0, 0, 0, 0, 0, 0, 0, 0, 0, 0, 0, 0, 0, 0, 0, 0, 3]
def kindN (c : Nat) : Nat := if c = 45 then 4 else if c = 46 then 2 else if c = 101 then 3 else if isDig c = true then 1 else 0
theorem kinds_at : ∀ i, i < 102 → kindsL.getD i 0 = ((kindN i : Nat) : Int) := by decide
theorem kcell_lt {w : World} {a : Addr} {v : Value} (h : w.cell? a = some v) : a.block < w.heap.size := by
 rcases Nat.lt_or_ge a.block w.heap.size with h1 | h1
 · exact h1
 · simp [World.cell?, Array.getElem?_eq_none h1] at h
def KTab (w : World) : Prop := ∀ i, i < 102 → w.cell? ⟨5, i, none⟩ = some (.int .u8 ((kindN i : Nat) : Int))
theorem KTab.below {w w' : World} (h : KTab w) (hb : Below w.heap.size w w') : KTab w' := fun i hi => (hb.cell (p := ⟨5, i, none⟩) (kcell_lt (h i hi))).trans (h i hi)
set_option maxRecDepth 4000 in
theorem kinds_tab {W : World} {name : String} {r : List (String × DataW Unit)} (h : laidMet Tryz.prog ((name, Lib.tabData .u8 kindsL) :: r) W) (hg : Tryz.prog.globalNamed name = some 5) :
 ∀ i, i < 102 → W.cell? ⟨5, i, none⟩ = some (.int .u8 ((kindN i : Nat) : Int)) := fun i hi => by
 have hT := Lib.tabIs_of_head hg (t := 148) (by kernel_rfl) Tryz.underlying148 Tryz.underlying5 (by kernel_rfl) (by kernel_rfl) h
 rw [hT.cell hg i hi, kinds_at i hi]
end Go.Proofs.YtheaepceghnkpaaGreatDoor

/- Mathematics of tokens: a script's text as a list of bytes, what its tokens are; a text with a newline and more behind. No condition. -/
namespace Go.Proofs.YtheaepceghnkpaaGreatDoor
open Go.RowKit Limb
set_option linter.unusedVariables false
abbrev Tk := Nat × List Nat × Nat
def isLt (c : Nat) : Bool := (decide (97 ≤ c) && decide (c ≤ 122)) || (decide (65 ≤ c) && decide (c ≤ 90)) || decide (c = 95)
def isLw (c : Nat) : Bool := isLt c || isDig c
def isSg (c : Nat) : Bool := [40, 41, 43, 45, 42, 47, 94, 61, 59, 58].contains c
def isBl (c : Nat) : Bool := decide (c = 32) || decide (c = 9) || decide (c = 10)
def notNl (c : Nat) : Bool := decide (c ≠ 10)
def inUn (c : Nat) : Bool := decide (c ≠ 93) && decide (c ≠ 10)
def stopN : List Nat → Bool
 | [] => false
 | d :: _ => isLt d || decide (d = 46)
def closeU : List Nat → Bool
 | [] => false
 | d :: _ => decide (d = 93)
inductive LS where
 | skip : Nat → LS
 | tok : Nat → List Nat → Nat → LS
 | bad : LS
def lexS (c : Nat) (r : List Nat) : LS :=
 if isBl c = true then .skip 1
 else if c = 35 then .skip (1 + (r.takeWhile notNl).length)
 else if isLt c = true then
  if 16 < 1 + (r.takeWhile isLw).length then .bad else .tok 1 ((c :: r).take (1 + (r.takeWhile isLw).length)) (1 + (r.takeWhile isLw).length)
 else if isDig c = true then
  if 400 < litLen (c :: r) ∨ stopN ((c :: r).drop (litLen (c :: r))) = true then .bad else .tok 2 ((c :: r).take (litLen (c :: r))) (litLen (c :: r))
 else if c = 91 then
  if (r.takeWhile inUn).length = 0 ∨ 200 < (r.takeWhile inUn).length ∨ closeU (r.drop (r.takeWhile inUn).length) = false then .bad else .tok 4 (r.take (r.takeWhile inUn).length) ((r.takeWhile inUn).length + 2)
 else if isSg c = true then .tok 3 [c] 1
 else .bad
inductive LR where
 | ok : List Tk → LR
 | bad : Nat → LR
def consL (t : Tk) : LR → LR
 | .ok l => .ok (t :: l)
 | .bad p => .bad p
def lexR : Nat → Nat → List Nat → LR
 | 0, a, _ => .bad a
 | f + 1, _, [] => .ok []
 | f + 1, a, c :: r =>
  match lexS c r with
  | .skip n => lexR f (a + n) ((c :: r).drop n)
  | .tok k t n => consL (k, t, a) (lexR f (a + n) ((c :: r).drop n))
  | .bad => .bad a
def lexT (l : List Nat) : LR := lexR (l.length + 1) 0 l
def lexV (l : List Nat) : List Tk × Int × Int := if 4000 < l.length then ([], 2, 0) else match lexT l with | .ok ts => (ts, 0, 0) | .bad p => ([], 11, p)
theorem litLen_pos {c : Nat} {r : List Nat} (h : isDig c = true) : 1 ≤ litLen (c :: r) := by
 have h1 : litRun (c :: r) = (litRun r) + 1 := by
  unfold litRun
  rw [List.takeWhile_cons_of_pos h]; rfl
 unfold litLen
 rw [if_neg (by omega)]
 omega
theorem lexS_len {c : Nat} {r : List Nat} : (∀ n, lexS c r = .skip n → 1 ≤ n ∧ n ≤ r.length + 1) ∧ ∀ k t n, lexS c r = .tok k t n → 1 ≤ n ∧ n ≤ r.length + 1 := by
 have w : ∀ p : Nat → Bool, (r.takeWhile p).length ≤ r.length := fun p => (List.takeWhile_sublist _).length_le
 have hl := litLen_le (c :: r)
 simp only [List.length_cons] at hl
 refine ⟨fun n h => ?_, fun k t n h => ?_⟩
 · unfold lexS at h
   split at h
   · cases h; omega
   · split at h
     · cases h; have := w notNl; omega
     · split at h
       · split at h <;> cases h
       · split at h
         · split at h <;> cases h
         · split at h
           · split at h <;> cases h
           · split at h <;> cases h
 · unfold lexS at h
   split at h
   · cases h
   · split at h
     · cases h
     · split at h
       · split at h
         · cases h
         · cases h; have := w isLw; omega
       · split at h
         · rename_i hd
           split at h
           · cases h
           · cases h; exact ⟨litLen_pos hd, hl⟩
         · split at h
           · split at h
             · cases h
             · rename_i hn
               cases h
               have h1 := w inUn
               have h2 : closeU (r.drop (r.takeWhile inUn).length) = true := by
                rcases Bool.eq_false_or_eq_true (closeU (r.drop (r.takeWhile inUn).length)) with e | e
                · exact e
                · exact absurd (.inr (.inr e)) hn
               have h3 : (r.takeWhile inUn).length < r.length := by
                rcases Nat.lt_or_ge (r.takeWhile inUn).length r.length with e | e
                · exact e
                · rw [List.drop_eq_nil_of_le e] at h2; cases h2
               omega
           · split at h
             · cases h; omega
             · cases h
theorem lexR_fuel : ∀ (f f' a : Nat) (l : List Nat), l.length < f → l.length < f' → lexR f a l = lexR f' a l
 | 0, _, _, l, h, _ => absurd h (by omega)
 | f + 1, 0, _, l, _, h => absurd h (by omega)
 | f + 1, f' + 1, a, [], _, _ => rfl
 | f + 1, f' + 1, a, c :: r, h1, h2 => by
  simp only [List.length_cons] at h1 h2
  unfold lexR
  have hl := lexS_len (c := c) (r := r)
  cases e : lexS c r with
  | bad => rfl
  | skip n =>
   have := hl.1 n e
   exact lexR_fuel f f' _ _ (by rw [List.length_drop, List.length_cons]; omega) (by rw [List.length_drop, List.length_cons]; omega)
  | tok k t n =>
   have := hl.2 k t n e
   dsimp only
   rw [lexR_fuel f f' _ _ (by rw [List.length_drop, List.length_cons]; omega) (by rw [List.length_drop, List.length_cons]; omega)]
/-! ### a sign behind that ends every token -/
def appL (ts : List Tk) : LR → LR
 | .ok l => .ok (ts ++ l)
 | .bad p => .bad p
end Go.Proofs.YtheaepceghnkpaaGreatDoor

/- Mathematics of tokens: each token's text is of its kind; a word is one token; places move. No condition. -/
namespace Go.Proofs.YtheaepceghnkpaaGreatDoor
open Go.RowKit Limb
set_option linter.unusedVariables false
def isWdB : List Nat → Bool
 | [] => false
 | c :: r => isLt c && r.all isLw && decide (r.length < 16)
def okTk (t : Tk) : Bool :=
 if t.1 = 1 then isWdB t.2.1 else if t.1 = 2 then litGood t.2.1 else if t.1 = 3 then decide (t.2.1.length = 1) else if t.1 = 4 then decide (1 ≤ t.2.1.length) && decide (t.2.1.length ≤ 200) else false
theorem lt_not {c : Nat} (h : isLt c = true) : isBl c = false ∧ c ≠ 35 := by
 refine ⟨?_, ?_⟩
 · rcases Bool.eq_false_or_eq_true (isBl c) with e | e
   · exfalso
     unfold isBl at e
     simp only [Bool.or_eq_true, decide_eq_true_eq] at e
     rcases e with (rfl | rfl) | rfl <;> exact absurd h (by decide)
   · exact e
 · rintro rfl; exact absurd h (by decide)
theorem take_whileL {p : Nat → Bool} : ∀ l : List Nat, l.take (l.takeWhile p).length = l.takeWhile p
 | [] => rfl
 | a :: l => by
  by_cases h : p a = true
  · rw [List.takeWhile_cons_of_pos h, List.length_cons, List.take_succ_cons, take_whileL l]
  · rw [List.takeWhile_cons_of_neg h]; rfl
theorem take_all {p : Nat → Bool} : ∀ {l : List Nat}, l.all p = true → l.takeWhile p = l
 | [], _ => rfl
 | a :: l, h => by
  simp only [List.all_cons, Bool.and_eq_true] at h
  rw [List.takeWhile_cons_of_pos h.1, take_all h.2]
theorem lexS_kind {c : Nat} {r : List Nat} {k n a : Nat} {s : List Nat} (h : lexS c r = .tok k s n) : okTk (k, s, a) = true := by
 have hl := litLen_le (c :: r)
 unfold lexS at h
 split at h
 · cases h
 · split at h
   · cases h
   · split at h
     · rename_i hc
       split at h
       · cases h
       · rename_i hn
         cases h
         show isWdB ((c :: r).take (1 + (r.takeWhile isLw).length)) = true
         rw [Nat.add_comm 1, List.take_succ_cons, take_whileL]
         show (isLt c && (r.takeWhile isLw).all isLw && decide ((r.takeWhile isLw).length < 16)) = true
         rw [hc, List.all_takeWhile, decide_eq_true (by omega)]
         rfl
     · split at h
       · rename_i hd
         split at h
         · cases h
         · rename_i hn
           cases h
           show litGood ((c :: r).take (litLen (c :: r))) = true
           have h1 := litLen_pos (r := r) hd
           have h4 : litLen (c :: r) ≤ 400 := by
            rcases Nat.lt_or_ge 400 (litLen (c :: r)) with e | e
            · exact absurd (.inl e) hn
            · exact e
           obtain ⟨w, f, x, hok, e⟩ := litLen_parts (l := c :: r) (by omega)
           have e2 := congrArg List.length e
           rw [List.length_take] at e2
           rw [e]
           exact litGood_mk hok (by omega)
       · split at h
         · split at h
           · cases h
           · rename_i hn
             cases h
             have w : (r.takeWhile inUn).length ≤ r.length := (List.takeWhile_sublist _).length_le
             have e1 : (r.take (r.takeWhile inUn).length).length = (r.takeWhile inUn).length := by rw [List.length_take]; omega
             show (decide _ && decide _) = true
             simp only [e1]
             rw [decide_eq_true, decide_eq_true]
             · rfl
             · rcases Nat.lt_or_ge 200 (r.takeWhile inUn).length with e | e
               · exact absurd (.inr (.inl e)) hn
               · exact e
             · rcases Nat.eq_zero_or_pos (r.takeWhile inUn).length with e | e
               · exact absurd (.inl e) hn
               · exact e
         · split at h
           · cases h; rfl
           · cases h
end Go.Proofs.YtheaepceghnkpaaGreatDoor

/- Mathematics of tokens: where they stand; between them are blanks and notes alone. No condition. -/
namespace Go.Proofs.YtheaepceghnkpaaGreatDoor
open Go.RowKit Limb
set_option linter.unusedVariables false
def rawT (t : Tk) : List Nat := if t.1 = 4 then 91 :: (t.2.1 ++ [93]) else t.2.1
theorem notNl_of {x : List Nat} (h : ∀ c ∈ x, notNl c = true) : ∀ c ∈ x, c ≠ 10 := fun c hc => by
 have := h c hc
 unfold notNl at this
 simpa using this
theorem while_mem {p : Nat → Bool} : ∀ {l : List Nat}, ∀ c ∈ l.takeWhile p, p c = true
 | [], c, h => by simp at h
 | a :: l, c, h => by
  by_cases ha : p a = true
  · rw [List.takeWhile_cons_of_pos ha] at h
    rcases List.mem_cons.1 h with rfl | h
    · exact ha
    · exact while_mem c h
  · rw [List.takeWhile_cons_of_neg ha] at h; simp at h
theorem while_next {p : Nat → Bool} : ∀ {l : List Nat} {c : Nat} {r : List Nat}, l.drop (l.takeWhile p).length = c :: r → p c = false
 | [], c, r, h => by simp at h
 | a :: l, c, r, h => by
  by_cases ha : p a = true
  · rw [List.takeWhile_cons_of_pos ha, List.length_cons, List.drop_succ_cons] at h
    exact while_next h
  · rw [List.takeWhile_cons_of_neg ha] at h
    simp at h
    obtain ⟨rfl, _⟩ := h
    simpa using ha
theorem close_at {r : List Nat} {n : Nat} (h : closeU (r.drop n) = true) : ∃ q, r.drop n = 93 :: q := by
 cases e : r.drop n with
 | nil => rw [e] at h; cases h
 | cons d q => rw [e] at h; unfold closeU at h; simp at h; exact ⟨q, by rw [h]⟩
theorem raw_at {c : Nat} {r s : List Nat} {k n a : Nat} (h : lexS c r = .tok k s n) : (rawT (k, s, a)).length = n ∧ (c :: r).take n = rawT (k, s, a) := by
 have hl := lexS_len.2 k s n h
 have e1 : (c :: r).take n = rawT (k, s, a) → (rawT (k, s, a)).length = n := fun e => by rw [← e, List.length_take, List.length_cons]; omega
 have key : (c :: r).take n = rawT (k, s, a) := by
  unfold lexS at h
  split at h
  · cases h
  · split at h
    · cases h
    · split at h
      · split at h <;> cases h; rfl
      · split at h
        · split at h <;> cases h; rfl
        · split at h
          · rename_i h91
            subst h91
            split at h
            · cases h
            · rename_i hn
              have hc : closeU (r.drop (r.takeWhile inUn).length) = true := by
               rcases Bool.eq_false_or_eq_true (closeU (r.drop (r.takeWhile inUn).length)) with e | e
               · exact e
               · exact absurd (.inr (.inr e)) hn
              cases h
              obtain ⟨q, hq⟩ := close_at hc
              show (91 :: r).take ((r.takeWhile inUn).length + 2) = 91 :: (r.take (r.takeWhile inUn).length ++ [93])
              rw [List.take_succ_cons, List.take_add, hq]
              rfl
          · split at h
            · cases h; rfl
            · cases h
 exact ⟨e1 key, key⟩
end Go.Proofs.YtheaepceghnkpaaGreatDoor

/- Mathematics of tokens: a literal behind which a byte stands does not hang on what stands behind that byte. No condition. -/
namespace Go.Proofs.YtheaepceghnkpaaGreatDoor
open Go.RowKit Limb
set_option linter.unusedVariables false
theorem drop_lim {l : List Nat} {i : Nat} (h : i < l.length) : l.drop i = lim l i :: l.drop (i + 1) := by
 rw [List.drop_eq_getElem_cons h]
 simp [lim, List.getD_eq_getElem?_getD, h]
end Go.Proofs.YtheaepceghnkpaaGreatDoor

/- Mathematics of tokens: blanks and a note put in ahead of a token change nothing but places. No condition. -/
namespace Go.Proofs.YtheaepceghnkpaaGreatDoor
open Go.RowKit Limb
set_option linter.unusedVariables false
theorem while_split {p : Nat → Bool} {r : List Nat} {n : Nat} (h : (r.takeWhile p).length = n) : ∃ v, r = r.takeWhile p ++ v ∧ r.drop n = v ∧ (v = [] ∨ ∃ d q, v = d :: q ∧ p d = false) := by
 subst h
 refine ⟨r.drop (r.takeWhile p).length, ?_, rfl, ?_⟩
 · conv => lhs; rw [← List.take_append_drop (r.takeWhile p).length r, take_whileL]
 · cases e : r.drop (r.takeWhile p).length with
   | nil => exact .inl rfl
   | cons d q => exact .inr ⟨d, q, rfl, while_next e⟩
theorem all_while {p : Nat → Bool} (r : List Nat) : (r.takeWhile p).all p = true := List.all_takeWhile
end Go.Proofs.YtheaepceghnkpaaGreatDoor

/- What a row's listed variables give: the tables of packages literal and lex as the contracts ask them. Condition: the variables read as listed. -/
namespace Go.Proofs.YtheaepceghnkpaaGreatDoor
open Go.RowKit Go.ChangeShapes Limb
set_option linter.unusedVariables false
def lkindsL : List Int := [0, 0, 0, 0, 0, 0, 0, 0, 0, 1, 1, 0, 0, 0, 0, 0, 0, 0, 0, 0, 0, 0, 0, 0, 0, 0, 0, 0, 0, 0, 0, 0, 1, 0, 0, 2, 0, 0, 0, 0, 6, 6, 6, 6, 0, 6, 5, 6, 4, 4, 4, 4, 4, 4, 4, 4, 4, 4, 6, 6, 0, 6, 0, 0, 0, 3, 3, 3, 3, 3, 3, 3, 3, 3, 3, 3, 3, 3, 3, 3, 3, 3, 3, 3, 3, 3, 3, 3, 3, 3, 3, 7, 0, 0, 6, 3, 0, 3, 3, 3, 3, 3, 3, 3, 3, 3, 3, 3, 3, 3, 3, 3, 3, 3, 3, 3, 3, 3, 3, 3, 3, 3, 3]
def lkN (c : Nat) : Nat := if isBl c = true then 1 else if c = 35 then 2 else if isLt c = true then 3 else if isDig c = true then 4 else if c = 46 then 5 else if isSg c = true then 6 else if c = 91 then 7 else 0
set_option maxRecDepth 4000 in
theorem lkinds_at : ∀ i, i < 123 → lkindsL.getD i 0 = ((lkN i : Nat) : Int) := by decide
def NTab (w : World) : Prop := ∀ i, i < 123 → w.cell? ⟨1, i, none⟩ = some (.int .u8 ((lkN i : Nat) : Int))
def XTab (w : World) : Prop := KTab w ∧ NTab w
theorem XTab.below {w w' : World} (h : XTab w) (hb : Below w.heap.size w w') : XTab w' :=
 ⟨h.1.below hb, fun i hi => (hb.cell (p := ⟨1, i, none⟩) (kcell_lt (h.2 i hi))).trans (h.2 i hi)⟩
set_option maxRecDepth 4000 in
theorem lkinds_tab {W : World} {name : String} {r : List (String × DataW Unit)} (h : laidMet Tryz.prog ((name, Lib.tabData .u8 lkindsL) :: r) W) (hg : Tryz.prog.globalNamed name = some 1) :
 ∀ i, i < 123 → W.cell? ⟨1, i, none⟩ = some (.int .u8 ((lkN i : Nat) : Int)) := fun i hi => by
 have hT := Lib.tabIs_of_head hg (t := 129) (by kernel_rfl) Tryz.underlying129 Tryz.underlying5 (by kernel_rfl) (by kernel_rfl) h
 rw [hT.cell hg i hi, lkinds_at i hi]
end Go.Proofs.YtheaepceghnkpaaGreatDoor

/- Mathematics of package lex's parts: kinds of bytes, words read byte by byte, gaps. No condition. -/
namespace Go.Proofs.YtheaepceghnkpaaGreatDoor
open Go.RowKit Limb
set_option linter.unusedVariables false
theorem lkN_big {c : Nat} (h : 123 ≤ c) : lkN c = 0 := by
 unfold lkN
 rw [if_neg (by simp [isBl]; omega), if_neg (by omega), if_neg (by simp [isLt]; omega), if_neg (by simp [isDig]; omega), if_neg (by omega), if_neg (by simp [isSg]; omega), if_neg (by omega)]
theorem lkN_all : ∀ c, c < 256 → ((lkN c = 1 ↔ isBl c = true) ∧ (lkN c = 2 ↔ c = 35) ∧ (lkN c = 3 ↔ isLt c = true) ∧ (lkN c = 4 ↔ isDig c = true) ∧ (lkN c = 5 ↔ c = 46) ∧ (lkN c = 6 ↔ isSg c = true) ∧ (lkN c = 7 ↔ c = 91)) := by
 decide +kernel
theorem byte_lt (s : ByteArray) (i : Nat) : lim (bytesOf s) i < 256 := bytes_lim (bytes_bytesOf s) i
theorem lw_step {p : Nat → Bool} : ∀ {l : List Nat} {k : Nat}, k ≤ (l.takeWhile p).length → k < l.length → p (lim l k) = true → k + 1 ≤ (l.takeWhile p).length
 | [], k, h, hk, _ => absurd hk (by simp)
 | c :: l, 0, h, hk, hp => by rw [List.takeWhile_cons_of_pos (by simpa [lim] using hp)]; simp
 | c :: l, k + 1, h, hk, hp => by
  by_cases hc : p c = true
  · rw [List.takeWhile_cons_of_pos hc] at h ⊢
    have := lw_step (l := l) (k := k) (by simpa using h) (by simpa using hk) (by simpa [lim] using hp)
    simpa using this
  · rw [List.takeWhile_cons_of_neg hc] at h; simp at h
theorem lw_stop {p : Nat → Bool} : ∀ {l : List Nat} {k : Nat}, k ≤ (l.takeWhile p).length → (k < l.length → p (lim l k) = false) → (l.takeWhile p).length = k
 | [], k, h, _ => by simp at h ⊢; omega
 | c :: l, 0, h, hp => by
  have := hp (by simp)
  rw [List.takeWhile_cons_of_neg (by simpa [lim] using this)]; rfl
 | c :: l, k + 1, h, hp => by
  by_cases hc : p c = true
  · rw [List.takeWhile_cons_of_pos hc] at h ⊢
    have := lw_stop (p := p) (l := l) (k := k) (by simpa using h) (fun h2 => by simpa [lim] using hp (by simpa using h2))
    simpa using this
  · rw [List.takeWhile_cons_of_neg hc] at h; simp at h
def wordN : List Nat → Nat
 | [] => 0
 | c :: r => if isLt c = true then 1 + (r.takeWhile isLw).length else 0
def wdAt (k c : Nat) : Bool := isLt c || (decide (0 < k) && isDig c)
theorem wordN_cons (c : Nat) (r : List Nat) : wordN (c :: r) = if isLt c = true then 1 + (r.takeWhile isLw).length else 0 := rfl
theorem word_step {l : List Nat} {k : Nat} (h : k ≤ wordN l) (hk : k < l.length) (hp : wdAt k (lim l k) = true) : k + 1 ≤ wordN l := by
 cases l with
 | nil => simp at hk
 | cons c l =>
  cases k with
  | zero =>
   have : isLt c = true := by simpa [wdAt, lim] using hp
   rw [wordN_cons, if_pos this]; omega
  | succ k =>
   by_cases hc : isLt c = true
   · rw [wordN_cons, if_pos hc] at h ⊢
     have := lw_step (p := isLw) (l := l) (k := k) (by omega) (by simpa using hk) (by simpa [wdAt, isLw, lim] using hp)
     omega
   · rw [wordN_cons, if_neg hc] at h; omega
theorem word_stop {l : List Nat} {k : Nat} (h : k ≤ wordN l) (hp : k < l.length → wdAt k (lim l k) = false) : wordN l = k := by
 cases l with
 | nil => simp [wordN] at h ⊢; omega
 | cons c l =>
  cases k with
  | zero =>
   have : isLt c = false := by simpa [wdAt, lim] using hp (by simp)
   rw [wordN_cons, if_neg (by rw [this]; decide)]
  | succ k =>
   by_cases hc : isLt c = true
   · rw [wordN_cons, if_pos hc] at h ⊢
     have := lw_stop (p := isLw) (l := l) (k := k) (by omega) (fun h2 => by simpa [wdAt, isLw, lim] using hp (by simpa using h2))
     omega
   · rw [wordN_cons, if_neg hc] at h; omega
theorem wordN_le (l : List Nat) : wordN l ≤ l.length := by
 cases l with
 | nil => exact Nat.le_refl _
 | cons c l =>
  rw [wordN_cons]
  have : (l.takeWhile isLw).length ≤ l.length := (List.takeWhile_sublist _).length_le
  split
  · rw [List.length_cons]; omega
  · omega
def wordL (l : List Nat) : Nat := if 16 < wordN l then 0 else wordN l
def numL (l : List Nat) : Nat := if 400 < litLen l ∨ stopN (l.drop (litLen l)) = true then 0 else litLen l
def unitL (l : List Nat) : Nat :=
 match l with
 | [] => 0
 | _ :: r => if (r.takeWhile inUn).length = 0 ∨ 200 < (r.takeWhile inUn).length ∨ closeU (r.drop (r.takeWhile inUn).length) = false then 0 else (r.takeWhile inUn).length + 2
def ownW (l : List Nat) : Bool := [[117, 110, 105, 116], [115, 111, 117, 114, 99, 101], [99, 111, 118], [108, 101, 116], [111, 117, 116, 112, 117, 116], [105, 110]].contains l
def isNam (l : List Nat) : Bool := isWdB l && !ownW l
theorem wordL_is (l : List Nat) (h : l ≠ []) : decide (wordL l = l.length) = isWdB l := by
 cases l with
 | nil => exact absurd rfl h
 | cons c r =>
  unfold wordL isWdB
  rw [wordN_cons]
  show decide _ = (isLt c && r.all isLw && decide (r.length < 16))
  have hle : (r.takeWhile isLw).length ≤ r.length := (List.takeWhile_sublist _).length_le
  by_cases hc : isLt c = true
  · rw [if_pos hc, hc, Bool.true_and]
    by_cases ha : r.all isLw = true
    · rw [take_all ha, ha, Bool.true_and, List.length_cons]
      by_cases h16 : 16 < 1 + r.length
      · rw [if_pos h16, decide_eq_false (by omega), decide_eq_false (by omega)]
      · rw [if_neg h16, decide_eq_true (by omega), decide_eq_true (by omega)]
    · have hlt : (r.takeWhile isLw).length < r.length := by
       rcases Nat.lt_or_ge (r.takeWhile isLw).length r.length with e | e
       · exact e
       · exfalso
         have e2 : r.takeWhile isLw = r := (List.takeWhile_prefix isLw).eq_of_length (by omega)
         exact ha (by rw [← e2]; exact all_while r)
      have ha2 : r.all isLw = false := by simpa using ha
      rw [ha2, Bool.false_and, List.length_cons]
      split
      · exact decide_eq_false (by omega)
      · exact decide_eq_false (by omega)
  · have hc2 : isLt c = false := by simpa using hc
    rw [if_neg hc, hc2]
    simp
inductive FirstP (c : Nat) (r : List Nat) (k n : Nat) : Prop
 | bad : n = 0 → lexS c r = .bad → FirstP c r k n
 | tok (t : List Nat) : lexS c r = .tok k t n → FirstP c r k n
theorem first_word {c : Nat} {r : List Nat} (h : isLt c = true) : FirstP c r 1 (wordL (c :: r)) := by
 obtain ⟨n1, n2⟩ := lt_not h
 unfold wordL
 rw [wordN_cons, if_pos h]
 by_cases h16 : 16 < 1 + (r.takeWhile isLw).length
 · rw [if_pos h16]
   exact .bad rfl (by unfold lexS; rw [if_neg (by rw [n1]; decide), if_neg n2, if_pos h, if_pos h16])
 · rw [if_neg h16]
   exact .tok _ (by unfold lexS; rw [if_neg (by rw [n1]; decide), if_neg n2, if_pos h, if_neg h16])
theorem first_num {c : Nat} {r : List Nat} (h : isDig c = true) : FirstP c r 2 (numL (c :: r)) := by
 have n1 : isBl c = false := by
  simp only [isDig, Bool.and_eq_true, decide_eq_true_eq] at h
  simp [isBl]; omega
 have n2 : c ≠ 35 := by rintro rfl; exact absurd h (by decide)
 have n3 : isLt c = false := by
  simp only [isDig, Bool.and_eq_true, decide_eq_true_eq] at h
  simp [isLt]; omega
 unfold numL
 by_cases h4 : 400 < litLen (c :: r) ∨ stopN ((c :: r).drop (litLen (c :: r))) = true
 · rw [if_pos h4]
   exact .bad rfl (by unfold lexS; rw [if_neg (by rw [n1]; decide), if_neg n2, if_neg (by rw [n3]; decide), if_pos h, if_pos h4])
 · rw [if_neg h4]
   exact .tok _ (by unfold lexS; rw [if_neg (by rw [n1]; decide), if_neg n2, if_neg (by rw [n3]; decide), if_pos h, if_neg h4])
theorem first_unit {r : List Nat} : FirstP 91 r 4 (unitL (91 :: r)) := by
 unfold unitL
 dsimp only
 by_cases h4 : (r.takeWhile inUn).length = 0 ∨ 200 < (r.takeWhile inUn).length ∨ closeU (r.drop (r.takeWhile inUn).length) = false
 · rw [if_pos h4]
   exact .bad rfl (by unfold lexS; rw [if_neg (by decide), if_neg (by decide), if_neg (by decide), if_neg (by decide), if_pos rfl, if_pos h4])
 · rw [if_neg h4]
   exact .tok _ (by unfold lexS; rw [if_neg (by decide), if_neg (by decide), if_neg (by decide), if_neg (by decide), if_pos rfl, if_neg h4])
theorem first_sign {c : Nat} {r : List Nat} (h : isSg c = true) : FirstP c r 3 1 := by
 have hc : c = 40 ∨ c = 41 ∨ c = 43 ∨ c = 45 ∨ c = 42 ∨ c = 47 ∨ c = 94 ∨ c = 61 ∨ c = 59 ∨ c = 58 := by simpa [isSg] using h
 rcases hc with rfl | rfl | rfl | rfl | rfl | rfl | rfl | rfl | rfl | rfl <;> exact .tok _ rfl
theorem first_none {c : Nat} {r : List Nat} (k : Nat) (h1 : isBl c = false) (h2 : c ≠ 35) (h3 : isLt c = false) (h4 : isDig c = false) (h5 : c ≠ 91) (h6 : isSg c = false) : FirstP c r k 0 :=
 .bad rfl (by unfold lexS; rw [if_neg (by rw [h1]; decide), if_neg h2, if_neg (by rw [h3]; decide), if_neg (by rw [h4]; decide), if_neg h5, if_neg (by rw [h6]; decide)])
def Gap (l : List Nat) (n : Nat) : Prop := n ≤ l.length ∧ ∀ f F a, l.length < f → l.length - n < F → lexR f a l = lexR F (a + n) (l.drop n)
theorem Gap.zero (l : List Nat) : Gap l 0 := ⟨Nat.zero_le _, fun f F a h1 h2 => lexR_fuel f F a l h1 h2⟩
theorem Gap.skip {l : List Nat} {n m c : Nat} {r : List Nat} (h : Gap l n) (hd : l.drop n = c :: r) (hs : lexS c r = .skip m) : Gap l (n + m) := by
 obtain ⟨h1, h2⟩ := h
 have hl := lexS_len.1 m hs
 have hlen : l.length - n = r.length + 1 := by rw [← List.length_drop, hd, List.length_cons]
 refine ⟨by omega, fun f F a hf hF => ?_⟩
 obtain ⟨R, hR⟩ : ∃ R, lexR F (a + (n + m)) (l.drop (n + m)) = R := ⟨_, rfl⟩
 rw [hR, h2 f (l.length + 1) a hf (by omega), hd]
 show lexR (l.length + 1) (a + n) (c :: r) = _
 unfold lexR
 rw [hs]
 dsimp only
 rw [← hR, ← hd, List.drop_drop, ← Nat.add_assoc]
 exact lexR_fuel _ _ _ _ (by rw [List.length_drop]; omega) (by rw [List.length_drop]; omega)
def Stop (l : List Nat) (n : Nat) : Prop := ∀ c r, l.drop n = c :: r → isBl c = false ∧ c ≠ 35
theorem skip_blank {c : Nat} {r : List Nat} (h : isBl c = true) : lexS c r = .skip 1 := by unfold lexS; rw [if_pos h]
theorem skip_note {r : List Nat} : lexS 35 r = .skip (1 + (r.takeWhile notNl).length) := by unfold lexS; rw [if_neg (by decide), if_pos rfl]
theorem note_line {r : List Nat} : ((35 :: r).takeWhile notNl).length = 1 + (r.takeWhile notNl).length := by
 rw [List.takeWhile_cons_of_pos (by decide), List.length_cons, Nat.add_comm]
end Go.Proofs.YtheaepceghnkpaaGreatDoor

/- Mathematics of formulas as nodes that stand behind their children: where what is beneath a node begins, which rows of nodes may be, depths, leaves, what is put together. No condition. -/
namespace Go.Proofs.YtheaepceghnkpaaGreatDoor
open Go.RowKit Limb
set_option linter.unusedVariables false
structure Nd where
 k : Int
 a : Int
 b : Int
 n : Int
 t : ByteArray
 u : ByteArray
 p : Int
theorem Nd.ext' {x y : Nd} (h1 : x.k = y.k) (h2 : x.a = y.a) (h3 : x.b = y.b) (h4 : x.n = y.n) (h5 : x.t = y.t) (h6 : x.u = y.u) (h7 : x.p = y.p) : x = y := by
 cases x; cases y; simp only [Nd.mk.injEq]; exact ⟨h1, h2, h3, h4, h5, h6, h7⟩
def unitOk (u : ByteArray) : Bool := decide (u.size ≤ 200) && (bytesOf u).all fun c => !(c == 93 || c == 10)
def twoK (k : Int) : Bool := decide (3 ≤ k) && decide (k ≤ 6)
def oneK (k : Int) : Bool := decide (k = 7) || decide (k = 8)
def fitsN (x : Nd) : Bool :=
 if x.k = 1 then decide (x.a = 0) && decide (x.b = 0) && decide (x.n = 0) && litGood (bytesOf x.t) && unitOk x.u
 else if x.k = 2 then decide (x.a = 0) && decide (x.b = 0) && decide (x.n = 0) && decide (x.u.size = 0) && isNam (bytesOf x.t)
 else if twoK x.k then decide (x.n = 0) && decide (x.t.size = 0) && decide (x.u.size = 0)
 else if x.k = 7 then decide (x.b = 0) && decide (x.n = 0) && decide (x.t.size = 0) && decide (x.u.size = 0)
 else if x.k = 8 then decide (x.b = 0) && decide (x.t.size = 0) && decide (x.u.size = 0) && decide (-64 ≤ x.n) && decide (x.n ≤ 64)
 else false
def endN (o : List Nat) (c : Int) (m : Nat) : Option Nat := if 0 ≤ c ∧ c + 1 = (m : Int) then some (o.getD c.toNat 0) else none
def startN (o : List Nat) (x : Nd) : Option Nat :=
 if x.k = 1 ∨ x.k = 2 then some o.length
 else if x.k = 7 ∨ x.k = 8 then endN o x.a o.length
 else match endN o x.b o.length with
  | none => none
  | some s => endN o x.a s
def stepB (o : List Nat) (x : Nd) : Option Nat := if fitsN x = true then startN o x else none
def begF (o : Option (List Nat)) : List Nd → Option (List Nat)
 | [] => o
 | x :: r => begF (o.bind fun o => (stepB o x).map fun s => o ++ [s]) r
def begT (ts : List Nd) : Option (List Nat) := begF (some []) ts
def goodT (ts : List Nd) : Bool := decide (1 ≤ ts.length) && decide (ts.length ≤ 2000) && match begT ts with
 | none => false
 | some o => decide (o.getD (ts.length - 1) 1 = 0)
theorem begF_none (ts : List Nd) : begF none ts = none := by induction ts with
 | nil => rfl
 | cons x r ih => exact ih
theorem begF_append (o : Option (List Nat)) (a b : List Nd) : begF o (a ++ b) = begF (begF o a) b := by induction a generalizing o with
 | nil => rfl
 | cons x r ih => exact ih _
theorem begF_cons {o q : List Nat} {x : Nd} {r : List Nd} (h : begF (some o) (x :: r) = some q) : ∃ s, stepB o x = some s ∧ begF (some (o ++ [s])) r = some q := by
 unfold begF at h
 cases hs : stepB o x with
 | none => rw [Option.bind_some, hs, Option.map_none, begF_none] at h; cases h
 | some s => rw [Option.bind_some, hs, Option.map_some] at h; exact ⟨s, rfl, h⟩
theorem begF_step {o : List Nat} {x : Nd} {s : Nat} (h : stepB o x = some s) (r : List Nd) : begF (some o) (x :: r) = begF (some (o ++ [s])) r := by
 conv => lhs; unfold begF
 rw [Option.bind_some, h, Option.map_some]
theorem begF_fall {o : List Nat} {x : Nd} (h : stepB o x = none) (r : List Nd) : begF (some o) (x :: r) = none := by
 conv => lhs; unfold begF
 rw [Option.bind_some, h, Option.map_none, begF_none]
theorem begF_len {ts : List Nd} : ∀ {o q : List Nat}, begF (some o) ts = some q → q.length = o.length + ts.length := by
 induction ts with
 | nil => intro o q h; injection h with h; rw [h]; rfl
 | cons x r ih =>
  intro o q h
  obtain ⟨s, _, h2⟩ := begF_cons h
  rw [ih h2, List.length_append, List.length_cons]; simp; omega
theorem begT_len {ts : List Nd} {o : List Nat} (h : begT ts = some o) : o.length = ts.length := by have := begF_len h; simpa using this
def Low (o : List Nat) : Prop := ∀ j, j < o.length → o.getD j 0 ≤ j
theorem Low.nil : Low [] := fun j h => by simp at h
theorem Low.le {o : List Nat} (h : Low o) (j : Nat) : o.getD j 0 ≤ j := by
 rcases Nat.lt_or_ge j o.length with h1 | h1
 · exact h j h1
 · rw [List.getD_eq_getElem?_getD, List.getElem?_eq_none h1]; exact Nat.zero_le _
theorem endN_some {o : List Nat} {c : Int} {m s : Nat} (h : endN o c m = some s) : ∃ j : Nat, c = (j : Int) ∧ m = j + 1 ∧ s = o.getD j 0 := by
 unfold endN at h
 split at h
 · rename_i hc
   injection h with h
   exact ⟨c.toNat, by omega, by omega, h.symm⟩
 · cases h
theorem endN_of (o : List Nat) (j : Nat) : endN o (j : Int) (j + 1) = some (o.getD j 0) := by
 unfold endN
 rw [if_pos ⟨by omega, by omega⟩]
 rfl
theorem startN_le {o : List Nat} (hl : Low o) {x : Nd} {s : Nat} (h : startN o x = some s) : s ≤ o.length := by
 unfold startN at h
 split at h
 · injection h with h; omega
 · split at h
   · obtain ⟨j, _, h1, rfl⟩ := endN_some h
     have := hl.le j; omega
   · cases hb : endN o x.b o.length with
     | none => rw [hb] at h; cases h
     | some t =>
      rw [hb] at h
      obtain ⟨j, _, h1, rfl⟩ := endN_some hb
      obtain ⟨i, _, h2, rfl⟩ := endN_some h
      have := hl.le j; have := hl.le i; omega
theorem stepB_le {o : List Nat} (hl : Low o) {x : Nd} {s : Nat} (h : stepB o x = some s) : s ≤ o.length := by
 unfold stepB at h
 split at h
 · exact startN_le hl h
 · cases h
theorem getD_snoc_lt {α : Type} {o : List α} {s d : α} {j : Nat} (h : j < o.length) : (o ++ [s]).getD j d = o.getD j d := by
 simp [List.getD_eq_getElem?_getD, List.getElem?_append_left h]
theorem getD_snoc_eq {α : Type} (o : List α) (s d : α) : (o ++ [s]).getD o.length d = s := by simp [List.getD_eq_getElem?_getD]
theorem Low.snoc {o : List Nat} (hl : Low o) {s : Nat} (h : s ≤ o.length) : Low (o ++ [s]) := by
 intro j hj
 rw [List.length_append, List.length_singleton] at hj
 rcases Nat.lt_or_ge j o.length with h1 | h1
 · rw [getD_snoc_lt h1]; exact hl.le j
 · obtain rfl : j = o.length := by omega
   rw [getD_snoc_eq]; exact h
theorem begF_low {ts : List Nd} : ∀ {o q : List Nat}, Low o → begF (some o) ts = some q → Low q := by
 induction ts with
 | nil => intro o q hl h; injection h with h; exact h ▸ hl
 | cons x r ih => intro o q hl h; obtain ⟨s, h1, h2⟩ := begF_cons h; exact ih (hl.snoc (stepB_le hl h1)) h2
theorem begT_low {ts : List Nd} {o : List Nat} (h : begT ts = some o) : Low o := begF_low Low.nil h
theorem begT_snoc {ts : List Nd} {o : List Nat} (h : begT ts = some o) (x : Nd) : begT (ts ++ [x]) = (stepB o x).map fun s => o ++ [s] := by
 unfold begT at h ⊢
 rw [begF_append, h]
 cases hs : stepB o x with
 | none => rw [begF_fall hs]; rfl
 | some s => rw [begF_step hs]; rfl
theorem begT_fall {ts : List Nd} {i : Nat} {x : Nd} {o : List Nat} (hx : ts[i]? = some x) (h : begT (ts.take i) = some o) (hs : stepB o x = none) : begT ts = none := by
 have e : ts = ts.take i ++ (x :: ts.drop (i + 1)) := by
  have hi := (List.getElem?_eq_some_iff.1 hx).1
  have h2 : ts[i] = x := (List.getElem?_eq_some_iff.1 hx).2
  rw [← h2, ← List.drop_eq_getElem_cons hi, List.take_append_drop]
 rw [e]
 unfold begT at h ⊢
 rw [begF_append, h, begF_fall hs]
theorem begT_next {ts : List Nd} {i : Nat} {x : Nd} {o : List Nat} {s : Nat} (hx : ts[i]? = some x) (h : begT (ts.take i) = some o) (hs : stepB o x = some s) : begT (ts.take (i + 1)) = some (o ++ [s]) := by
 have hi := (List.getElem?_eq_some_iff.1 hx).1
 rw [List.take_add_one, hx, Option.toList_some, begT_snoc h, hs]
 rfl
theorem goodT_no {ts : List Nd} (h : begT ts = none) : goodT ts = false := by unfold goodT; rw [h, Bool.and_false]
theorem goodT_of {ts : List Nd} {o : List Nat} (h : begT ts = some o) (h1 : 1 ≤ ts.length) (h2 : ts.length ≤ 2000) : goodT ts = decide (o.getD (ts.length - 1) 1 = 0) := by
 unfold goodT
 rw [h, decide_eq_true h1, decide_eq_true h2]
 rfl
theorem goodT_empty {ts : List Nd} (h : ts.length < 1) : goodT ts = false := by unfold goodT; rw [decide_eq_false (by omega)]; rfl
theorem goodT_long {ts : List Nd} (h : 2000 < ts.length) : goodT ts = false := by unfold goodT; rw [decide_eq_false (show ¬ ts.length ≤ 2000 by omega), Bool.and_false]; rfl
theorem good_all {ts : List Nd} (h : goodT ts = true) : 1 ≤ ts.length ∧ ts.length ≤ 2000 ∧ ∃ o, begT ts = some o ∧ o.length = ts.length ∧ Low o ∧ o.getD (ts.length - 1) 1 = 0 := by
 unfold goodT at h
 simp only [Bool.and_eq_true, decide_eq_true_eq] at h
 obtain ⟨⟨h1, h2⟩, h3⟩ := h
 cases hb : begT ts with
 | none => rw [hb] at h3; cases h3
 | some o => rw [hb] at h3; exact ⟨h1, h2, o, rfl, begT_len hb, begT_low hb, of_decide_eq_true h3⟩
end Go.Proofs.YtheaepceghnkpaaGreatDoor

/- Mathematics of formulas: nodes moved, two trees joined, depths, leaves and children, what is alike. No condition. -/
namespace Go.Proofs.YtheaepceghnkpaaGreatDoor
open Go.RowKit Limb
set_option linter.unusedVariables false
theorem fitsN_kinds {x : Nd} (h : fitsN x = true) : x.k = 1 ∨ x.k = 2 ∨ twoK x.k = true ∨ x.k = 7 ∨ x.k = 8 := by
 unfold fitsN at h
 by_cases h1 : x.k = 1
 · exact .inl h1
 · rw [if_neg h1] at h
   by_cases h2 : x.k = 2
   · exact .inr (.inl h2)
   · rw [if_neg h2] at h
     by_cases h3 : twoK x.k = true
     · exact .inr (.inr (.inl h3))
     · rw [if_neg h3] at h
       by_cases h7 : x.k = 7
       · exact .inr (.inr (.inr (.inl h7)))
       · rw [if_neg h7] at h
         by_cases h8 : x.k = 8
         · exact .inr (.inr (.inr (.inr h8)))
         · rw [if_neg h8] at h; cases h
theorem twoK_iff {k : Int} : twoK k = true ↔ 3 ≤ k ∧ k ≤ 6 := by unfold twoK; rw [Bool.and_eq_true, decide_eq_true_eq, decide_eq_true_eq]
theorem oneK_iff {k : Int} : oneK k = true ↔ k = 7 ∨ k = 8 := by unfold oneK; rw [Bool.or_eq_true, decide_eq_true_eq, decide_eq_true_eq]
inductive StepC (o : List Nat) (x : Nd) (s : Nat) : Prop where
 | leaf (hk : x.k = 1 ∨ x.k = 2) (hs : s = o.length) : StepC o x s
 | one (hk : oneK x.k = true) (j : Nat) (ha : x.a = (j : Int)) (hl : o.length = j + 1) (hs : s = o.getD j 0) : StepC o x s
 | two (hk : twoK x.k = true) (j i : Nat) (hb : x.b = (j : Int)) (hl : o.length = j + 1) (ha : x.a = (i : Int)) (hi : o.getD j 0 = i + 1) (hs : s = o.getD i 0) : StepC o x s
theorem stepB_cases {o : List Nat} {x : Nd} {s : Nat} (h : stepB o x = some s) : fitsN x = true ∧ StepC o x s := by
 unfold stepB at h
 split at h
 · rename_i hf
   refine ⟨hf, ?_⟩
   unfold startN at h
   rcases fitsN_kinds hf with h1 | h1 | h1 | h1 | h1
   · rw [if_pos (.inl h1)] at h; injection h with h; exact .leaf (.inl h1) h.symm
   · rw [if_pos (.inr h1)] at h; injection h with h; exact .leaf (.inr h1) h.symm
   · have h2 := twoK_iff.1 h1
     rw [if_neg (by omega), if_neg (by omega)] at h
     cases hb : endN o x.b o.length with
     | none => rw [hb] at h; cases h
     | some t =>
      rw [hb] at h
      obtain ⟨j, e1, e2, e3⟩ := endN_some hb
      obtain ⟨i, e4, e5, e6⟩ := endN_some h
      exact .two h1 j i e1 e2 e4 (by omega) e6
   · rw [if_neg (by omega), if_pos (.inl h1)] at h
     obtain ⟨j, e1, e2, e3⟩ := endN_some h
     exact .one (oneK_iff.2 (.inl h1)) j e1 e2 e3
   · rw [if_neg (by omega), if_pos (.inr h1)] at h
     obtain ⟨j, e1, e2, e3⟩ := endN_some h
     exact .one (oneK_iff.2 (.inr h1)) j e1 e2 e3
 · cases h
theorem stepB_leaf {o : List Nat} {x : Nd} (hf : fitsN x = true) (hk : x.k = 1 ∨ x.k = 2) : stepB o x = some o.length := by
 unfold stepB startN
 rw [if_pos hf, if_pos hk]
theorem stepB_one {o : List Nat} {x : Nd} {j : Nat} (hf : fitsN x = true) (hk : oneK x.k = true) (ha : x.a = (j : Int)) (hl : o.length = j + 1) : stepB o x = some (o.getD j 0) := by
 have h := oneK_iff.1 hk
 unfold stepB startN
 rw [if_pos hf, if_neg (by omega), if_pos h, ha, hl, endN_of]
theorem stepB_two {o : List Nat} {x : Nd} {j i : Nat} (hf : fitsN x = true) (hk : twoK x.k = true) (hb : x.b = (j : Int)) (hl : o.length = j + 1) (ha : x.a = (i : Int)) (hi : o.getD j 0 = i + 1) : stepB o x = some (o.getD i 0) := by
 have h := twoK_iff.1 hk
 unfold stepB startN
 rw [if_pos hf, if_neg (by omega), if_neg (by omega), hb, hl, endN_of, hi, ha]
 exact endN_of o i
/-! ### nodes moved -/
def shiftN (d : Nat) (x : Nd) : Nd := if twoK x.k = true then { x with a := x.a + d, b := x.b + d } else if oneK x.k = true then { x with a := x.a + d } else x
theorem shiftN_k (d : Nat) (x : Nd) : (shiftN d x).k = x.k := by
 unfold shiftN
 split
 · rfl
 · split <;> rfl
theorem shiftN_two {d : Nat} {x : Nd} (h : twoK x.k = true) : shiftN d x = { x with a := x.a + d, b := x.b + d } := by unfold shiftN; rw [if_pos h]
theorem one_not_two {k : Int} (h : oneK k = true) : twoK k = false := by have := oneK_iff.1 h; rw [Bool.eq_false_iff]; intro e; have := twoK_iff.1 e; omega
theorem shiftN_one {d : Nat} {x : Nd} (h : oneK x.k = true) : shiftN d x = { x with a := x.a + d } := by unfold shiftN; rw [if_neg (by rw [one_not_two h]; decide), if_pos h]
theorem shiftN_leaf {d : Nat} {x : Nd} (h : twoK x.k = false) (h2 : oneK x.k = false) : shiftN d x = x := by unfold shiftN; rw [h, h2]; rfl
theorem shiftN_zero (x : Nd) : shiftN 0 x = x := by
 unfold shiftN
 split
 · exact Nd.ext' rfl (by simp) (by simp) rfl rfl rfl rfl
 · split
   · exact Nd.ext' rfl (by simp) rfl rfl rfl rfl rfl
   · rfl
theorem fits_shift {d : Nat} {x : Nd} (h : fitsN x = true) : fitsN (shiftN d x) = true := by
 by_cases h1 : twoK x.k = true
 · rw [shiftN_two h1]
   have hk := twoK_iff.1 h1
   unfold fitsN at h ⊢
   rw [if_neg (by omega), if_neg (by omega), if_pos h1] at h
   rw [if_neg (by show ¬ x.k = 1; omega), if_neg (by show ¬ x.k = 2; omega), if_pos h1]
   exact h
 · by_cases h2 : oneK x.k = true
   · rw [shiftN_one h2]
     have hk := oneK_iff.1 h2
     unfold fitsN at h ⊢
     rw [if_neg (by omega), if_neg (by omega), if_neg h1] at h
     rw [if_neg (by show ¬ x.k = 1; omega), if_neg (by show ¬ x.k = 2; omega), if_neg h1]
     exact h
   · rw [shiftN_leaf (by simpa using h1) (by simpa using h2)]; exact h
theorem getD_app_ge {α : Type} {a b : List α} {d : α} (j : Nat) : (a ++ b).getD (a.length + j) d = b.getD j d := by
 rw [List.getD_eq_getElem?_getD, List.getElem?_append_right (by omega), Nat.add_sub_cancel_left, List.getD_eq_getElem?_getD]
theorem getD_map_add {q : List Nat} {d j : Nat} (h : j < q.length) : (q.map (· + d)).getD j 0 = q.getD j 0 + d := by
 simp [List.getD_eq_getElem?_getD, h]
theorem step_shift {oa q : List Nat} {x : Nd} {s : Nat} (hq : Low q) (h : stepB q x = some s) : stepB (oa ++ q.map (· + oa.length)) (shiftN oa.length x) = some (s + oa.length) := by
 obtain ⟨hf, hc⟩ := stepB_cases h
 have hlen : (oa ++ q.map (· + oa.length)).length = oa.length + q.length := by simp
 cases hc with
 | leaf hk hs =>
  have h1 : twoK x.k = false := by rw [Bool.eq_false_iff]; intro e; have := twoK_iff.1 e; omega
  have h2 : oneK x.k = false := by rw [Bool.eq_false_iff]; intro e; have := oneK_iff.1 e; omega
  rw [shiftN_leaf h1 h2, stepB_leaf hf hk, hlen, hs, Nat.add_comm]
 | one hk j ha hl hs =>
  have hf2 := fits_shift (d := oa.length) hf
  rw [shiftN_one hk] at hf2 ⊢
  rw [stepB_one (j := oa.length + j) hf2 hk (by show x.a + _ = _; omega) (by rw [hlen]; omega), getD_app_ge, getD_map_add (by omega), hs]
 | two hk j i hb hl ha hi hs =>
  have hf2 := fits_shift (d := oa.length) hf
  rw [shiftN_two hk] at hf2 ⊢
  have hij : i < q.length := by have := hq.le j; omega
  rw [stepB_two (j := oa.length + j) (i := oa.length + i) hf2 hk (by show x.b + _ = _; omega) (by rw [hlen]; omega) (by show x.a + _ = _; omega) (by rw [getD_app_ge, getD_map_add (by omega), hi]; omega), getD_app_ge, getD_map_add hij, hs]
theorem begF_shift {us : List Nd} {oa : List Nat} : ∀ {q r : List Nat}, Low q → begF (some q) us = some r → begF (some (oa ++ q.map (· + oa.length))) (us.map (shiftN oa.length)) = some (oa ++ r.map (· + oa.length)) := by
 induction us with
 | nil => intro q r _ h; injection h with h; subst h; rfl
 | cons x us ih =>
  intro q r hq h
  obtain ⟨s, h1, h2⟩ := begF_cons h
  have h3 := ih (hq.snoc (stepB_le hq h1)) h2
  rw [List.map_cons, begF_step (step_shift hq h1), ← h3, List.map_append, List.append_assoc]
  rfl
theorem begT_join {ts us : List Nd} {o q : List Nat} (h1 : begT ts = some o) (h2 : begT us = some q) : begT (ts ++ us.map (shiftN ts.length)) = some (o ++ q.map (· + ts.length)) := by
 have hl := begT_len h1
 have h3 := begF_shift (oa := o) Low.nil h2
 unfold begT at h1 ⊢
 rw [begF_append, h1, ← hl]
 simpa using h3
/-! ### depths -/
def depS (d : List Nat) (x : Nd) : Nat := if twoK x.k = true then 1 + max (d.getD x.a.toNat 0) (d.getD x.b.toNat 0) else if oneK x.k = true then 1 + d.getD x.a.toNat 0 else 1
def depF (d : List Nat) : List Nd → List Nat
 | [] => d
 | x :: r => depF (d ++ [depS d x]) r
def depT (ts : List Nd) : List Nat := depF [] ts
theorem depF_append (d : List Nat) (a b : List Nd) : depF d (a ++ b) = depF (depF d a) b := by induction a generalizing d with
 | nil => rfl
 | cons x r ih => exact ih _
theorem depT_snoc (ts : List Nd) (x : Nd) : depT (ts ++ [x]) = depT ts ++ [depS (depT ts) x] := by unfold depT; rw [depF_append]; rfl
theorem depF_len (ts : List Nd) : ∀ d : List Nat, (depF d ts).length = d.length + ts.length := by induction ts with
 | nil => intro d; rfl
 | cons x r ih => intro d; show (depF _ r).length = _; rw [ih, List.length_append, List.length_cons]; simp; omega
theorem depT_len (ts : List Nd) : (depT ts).length = ts.length := by have := depF_len ts []; simpa [depT] using this
def DepOk (d : List Nat) : Prop := ∀ j, j < d.length → 1 ≤ d.getD j 0 ∧ d.getD j 0 ≤ j + 1
theorem DepOk.snoc {d : List Nat} (h : DepOk d) {o : List Nat} {x : Nd} {s : Nat} (hl : o.length = d.length) (ho : Low o) (hs : stepB o x = some s) : DepOk (d ++ [depS d x]) := by
 intro j hj
 rw [List.length_append, List.length_singleton] at hj
 rcases Nat.lt_or_ge j d.length with h1 | h1
 · rw [getD_snoc_lt h1]; exact h j h1
 · obtain rfl : j = d.length := by omega
   rw [getD_snoc_eq]
   unfold depS
   cases (stepB_cases hs).2 with
   | leaf hk _ =>
    have e1 : twoK x.k = false := by rw [Bool.eq_false_iff]; intro e; have := twoK_iff.1 e; omega
    have e2 : oneK x.k = false := by rw [Bool.eq_false_iff]; intro e; have := oneK_iff.1 e; omega
    rw [e1, e2]; simp
   | one hk i ha hl2 _ =>
    rw [if_neg (by rw [one_not_two hk]; decide), if_pos hk, ha, Int.toNat_natCast]
    have := h i (by omega); omega
   | two hk i j hb hl2 ha hi _ =>
    rw [if_pos hk, ha, hb, Int.toNat_natCast, Int.toNat_natCast]
    have h5 := ho.le i
    have := h i (by omega); have := h j (by omega); omega
theorem dep_shift {da : List Nat} {o q : List Nat} {d : List Nat} {x : Nd} {s : Nat} (hq : Low q) (hl : q.length = d.length) (h : stepB q x = some s) : depS (da ++ d) (shiftN da.length x) = depS d x := by
 cases (stepB_cases h).2 with
 | leaf hk _ =>
  have e1 : twoK x.k = false := by rw [Bool.eq_false_iff]; intro e; have := twoK_iff.1 e; omega
  have e2 : oneK x.k = false := by rw [Bool.eq_false_iff]; intro e; have := oneK_iff.1 e; omega
  rw [shiftN_leaf e1 e2]
  unfold depS
  rw [e1, e2]; rfl
 | one hk i ha hl2 _ =>
  rw [shiftN_one hk]
  unfold depS
  rw [if_neg (by show ¬ twoK x.k = true; rw [one_not_two hk]; decide), if_pos (by exact hk), if_neg (by rw [one_not_two hk]; decide), if_pos hk]
  show 1 + (da ++ d).getD (x.a + _).toNat 0 = _
  rw [ha, Int.toNat_natCast, show ((i : Int) + (da.length : Int)).toNat = da.length + i by omega, getD_app_ge]
 | two hk i j hb hl2 ha hi _ =>
  rw [shiftN_two hk]
  unfold depS
  rw [if_pos (by exact hk), if_pos hk]
  show 1 + max ((da ++ d).getD (x.a + _).toNat 0) ((da ++ d).getD (x.b + _).toNat 0) = _
  rw [ha, hb, Int.toNat_natCast, Int.toNat_natCast, show ((i : Int) + (da.length : Int)).toNat = da.length + i by omega, show ((j : Int) + (da.length : Int)).toNat = da.length + j by omega, getD_app_ge, getD_app_ge]
theorem depF_shift {us : List Nd} {da : List Nat} : ∀ {q r d : List Nat}, Low q → q.length = d.length → begF (some q) us = some r → depF (da ++ d) (us.map (shiftN da.length)) = da ++ depF d us := by
 induction us with
 | nil => intro q r d _ _ h; rfl
 | cons x us ih =>
  intro q r d hq hl h
  obtain ⟨s, h1, h2⟩ := begF_cons h
  have h3 := ih (d := d ++ [depS d x]) (hq.snoc (stepB_le hq h1)) (by rw [List.length_append, List.length_append, hl]; rfl) h2
  rw [List.map_cons]
  show depF (da ++ d ++ [depS (da ++ d) (shiftN da.length x)]) _ = _
  rw [dep_shift (o := q) hq hl h1, List.append_assoc]
  exact h3
theorem depT_join {ts us : List Nd} {q : List Nat} (h2 : begT us = some q) : depT (ts ++ us.map (shiftN ts.length)) = depT ts ++ depT us := by
 have h := depF_shift (da := depT ts) (d := []) Low.nil rfl h2
 rw [depT_len, List.append_nil] at h
 unfold depT at h ⊢
 rw [depF_append, h]
end Go.Proofs.YtheaepceghnkpaaGreatDoor

/- Mathematics of formulas: how many leaves, which node is whose child; what is alike. No condition. -/
namespace Go.Proofs.YtheaepceghnkpaaGreatDoor
open Go.RowKit Limb
set_option linter.unusedVariables false
def kidN (j : Nat) (x : Nd) : Nat := if twoK x.k = true then (if x.a = (j : Int) then 1 else 0) + (if x.b = (j : Int) then 1 else 0) else if oneK x.k = true then (if x.a = (j : Int) then 1 else 0) else 0
def kids (ts : List Nd) (j : Nat) : Nat := (ts.map (kidN j)).sum
def leafK (x : Nd) : Bool := decide (x.k = 1) || decide (x.k = 2)
def leafC (ts : List Nd) : Nat := ts.countP leafK
def twoC (ts : List Nd) : Nat := ts.countP fun x => twoK x.k
theorem kids_snoc (ts : List Nd) (x : Nd) (j : Nat) : kids (ts ++ [x]) j = kids ts j + kidN j x := by simp [kids]
theorem leafC_snoc (ts : List Nd) (x : Nd) : leafC (ts ++ [x]) = leafC ts + (if leafK x = true then 1 else 0) := by unfold leafC; rw [List.countP_append, List.countP_singleton]
theorem twoC_snoc (ts : List Nd) (x : Nd) : twoC (ts ++ [x]) = twoC ts + (if twoK x.k = true then 1 else 0) := by unfold twoC; rw [List.countP_append, List.countP_singleton]
theorem nmem {a j : Nat} {S : List Nat} (h : j ≠ a) (h2 : j ∉ S) : j ∉ a :: S := fun e => (List.mem_cons.1 e).elim h h2
inductive Chain (o : List Nat) : Nat → List Nat → Prop where
 | nil : Chain o 0 []
 | cons {j : Nat} {S : List Nat} (h : Chain o (o.getD j 0) S) : Chain o (j + 1) (j :: S)
theorem Chain.lt {o : List Nat} (hl : Low o) {p : Nat} {S : List Nat} (h : Chain o p S) : ∀ j ∈ S, j < p := by
 induction h with
 | nil => intro j hj; cases hj
 | @cons j S h ih =>
  intro i hi
  rcases List.mem_cons.1 hi with rfl | hi
  · omega
  · have := ih i hi; have := hl.le j; omega
theorem Chain.snoc {o : List Nat} (hl : Low o) (s : Nat) {p : Nat} {S : List Nat} (h : Chain o p S) : p ≤ o.length → Chain (o ++ [s]) p S := by
 induction h with
 | nil => intro _; exact .nil
 | @cons j S h ih =>
  intro hp
  refine .cons ?_
  rw [getD_snoc_lt (by omega)]
  exact ih (by have := hl.le j; omega)
structure Roots (P : List Nd) (o S : List Nat) : Prop where
 len : o.length = P.length
 low : Low o
 chain : Chain o P.length S
 kid : ∀ j, j < P.length → kids P j = if j ∈ S then 0 else 1
 none : ∀ j, P.length ≤ j → kids P j = 0
 count : leafC P = twoC P + S.length
theorem Roots.nil : Roots [] [] [] := ⟨rfl, Low.nil, .nil, fun j h => absurd h (by simp), fun _ _ => rfl, rfl⟩
theorem kidN_leaf {x : Nd} (h1 : twoK x.k = false) (h2 : oneK x.k = false) (j : Nat) : kidN j x = 0 := by unfold kidN; rw [h1, h2]; rfl
theorem Roots.step {P : List Nd} {o S : List Nat} {x : Nd} {s : Nat} (h : Roots P o S) (hs : stepB o x = some s) : ∃ S', Roots (P ++ [x]) (o ++ [s]) S' := by
 have hlow := h.low.snoc (stepB_le h.low hs)
 have hlen : (o ++ [s]).length = (P ++ [x]).length := by simp [h.len]
 have hP : (P ++ [x]).length = P.length + 1 := by simp
 have hlt := h.chain.lt h.low
 have hnew : (o ++ [s]).getD P.length 0 = s := by rw [← h.len]; exact getD_snoc_eq o s 0
 cases (stepB_cases hs).2 with
 | leaf hk e =>
  have e1 : twoK x.k = false := by rw [Bool.eq_false_iff]; intro e; have := twoK_iff.1 e; omega
  have e2 : oneK x.k = false := by rw [Bool.eq_false_iff]; intro e; have := oneK_iff.1 e; omega
  have e3 : leafK x = true := by unfold leafK; rw [Bool.or_eq_true, decide_eq_true_eq, decide_eq_true_eq]; exact hk
  refine ⟨P.length :: S, hlen, hlow, ?_, fun j hj => ?_, fun j hj => ?_, ?_⟩
  · rw [hP]
    refine .cons ?_
    rw [hnew]
    have hz := h.chain.snoc h.low s (by rw [h.len]; exact Nat.le_refl _)
    rw [← h.len, ← e] at hz
    exact hz
  · rw [kids_snoc, kidN_leaf e1 e2]
    rcases Nat.lt_or_ge j P.length with h1 | h1
    · rw [h.kid j h1]
      by_cases hm : j ∈ S
      · rw [if_pos hm, if_pos (List.mem_cons_of_mem _ hm)]
      · rw [if_neg hm, if_neg (nmem (by omega) hm)]
    · obtain rfl : j = P.length := by omega
      rw [h.none _ (Nat.le_refl _), if_pos (List.mem_cons_self)]
  · rw [kids_snoc, kidN_leaf e1 e2, h.none j (by omega)]
  · rw [leafC_snoc, twoC_snoc, e1, e3, h.count, List.length_cons]; simp; omega
 | one hk i ha hl e =>
  have e1 := one_not_two hk
  have e3 : leafK x = false := by have := oneK_iff.1 hk; unfold leafK; rw [Bool.or_eq_false_iff, decide_eq_false_iff_not, decide_eq_false_iff_not]; omega
  have hi : P.length = i + 1 := by rw [← h.len]; exact hl
  have hc := h.chain
  rw [hi] at hc
  cases hc with
  | @cons _ S0 hc =>
   have hlt0 := hc.lt h.low
   have hlo := h.low.le i
   refine ⟨P.length :: S0, hlen, hlow, ?_, fun j hj => ?_, fun j hj => ?_, ?_⟩
   · rw [hP]
     refine .cons ?_
     rw [hnew]
     have hz := hc.snoc h.low s (by omega)
     rw [← e] at hz
     exact hz
   · rw [kids_snoc]
     unfold kidN
     rw [if_neg (by rw [e1]; decide), if_pos hk, ha]
     rcases Nat.lt_or_ge j P.length with h1 | h1
     · rw [h.kid j h1]
       by_cases hji : j = i
       · subst hji
         rw [if_pos (List.mem_cons_self), if_pos rfl, if_neg (nmem (by omega) fun e => by have := hlt0 _ e; omega)]
       · rw [if_neg (show ¬ ((i : Int) = (j : Int)) by omega)]
         by_cases hm : j ∈ S0
         · rw [if_pos (List.mem_cons_of_mem _ hm), if_pos (List.mem_cons_of_mem _ hm)]
         · rw [if_neg (nmem (by omega) hm), if_neg (nmem (by omega) hm)]
     · obtain rfl : j = P.length := by omega
       rw [h.none _ (Nat.le_refl _), if_pos (List.mem_cons_self), if_neg (by omega)]
   · rw [kids_snoc, h.none j (by omega)]
     unfold kidN
     rw [if_neg (by rw [e1]; decide), if_pos hk, ha, if_neg (by omega)]
   · rw [leafC_snoc, twoC_snoc, e1, e3, h.count]; simp
 | two hk i m hb hl ha hi e =>
  have e3 : leafK x = false := by have := twoK_iff.1 hk; unfold leafK; rw [Bool.or_eq_false_iff, decide_eq_false_iff_not, decide_eq_false_iff_not]; omega
  have hiP : P.length = i + 1 := by rw [← h.len]; exact hl
  have hc := h.chain
  rw [hiP] at hc
  cases hc with
  | @cons _ S0 hc =>
   have hlo := h.low.le i
   rw [hi] at hc
   cases hc with
   | @cons _ S1 hc =>
    have hlt1 := hc.lt h.low
    have hlo2 := h.low.le m
    refine ⟨P.length :: S1, hlen, hlow, ?_, fun j hj => ?_, fun j hj => ?_, ?_⟩
    · rw [hP]
      refine .cons ?_
      rw [hnew]
      have hz := hc.snoc h.low s (by omega)
      rw [← e] at hz
      exact hz
    · rw [kids_snoc]
      unfold kidN
      rw [if_pos hk, ha, hb]
      rcases Nat.lt_or_ge j P.length with h1 | h1
      · rw [h.kid j h1]
        by_cases hji : j = i
        · subst hji
          rw [if_pos (List.mem_cons_self), if_neg (show ¬ ((m : Int) = (j : Int)) by omega), if_pos rfl, if_neg (nmem (by omega) fun e => by have := hlt1 _ e; omega)]
        · by_cases hjm : j = m
          · subst hjm
            rw [if_pos (List.mem_cons_of_mem _ (List.mem_cons_self)), if_pos rfl, if_neg (show ¬ ((i : Int) = (j : Int)) by omega), if_neg (nmem (by omega) fun e => by have := hlt1 _ e; omega)]
          · rw [if_neg (show ¬ ((m : Int) = (j : Int)) by omega), if_neg (show ¬ ((i : Int) = (j : Int)) by omega)]
            by_cases hm : j ∈ S1
            · rw [if_pos (List.mem_cons_of_mem _ (List.mem_cons_of_mem _ hm)), if_pos (List.mem_cons_of_mem _ hm)]
            · rw [if_neg (nmem (by omega) (nmem (by omega) hm)), if_neg (nmem (by omega) hm)]
      · obtain rfl : j = P.length := by omega
        rw [h.none _ (Nat.le_refl _), if_pos (List.mem_cons_self), if_neg (by omega), if_neg (by omega)]
    · rw [kids_snoc, h.none j (by omega)]
      unfold kidN
      rw [if_pos hk, ha, hb, if_neg (by omega), if_neg (by omega)]
    · rw [leafC_snoc, twoC_snoc, hk, e3, h.count, List.length_cons, List.length_cons, List.length_cons]; simp; omega
theorem Roots.all {us : List Nd} : ∀ {P : List Nd} {o S q : List Nat}, Roots P o S → begF (some o) us = some q → ∃ S', Roots (P ++ us) q S' := by
 induction us with
 | nil => intro P o S q h hq; injection hq with hq; subst hq; rw [List.append_nil]; exact ⟨S, h⟩
 | cons x us ih =>
  intro P o S q h hq
  obtain ⟨s, h1, h2⟩ := begF_cons hq
  obtain ⟨S1, h3⟩ := h.step h1
  obtain ⟨S2, h4⟩ := ih h3 h2
  rw [List.append_assoc] at h4
  exact ⟨S2, h4⟩
/-! ### what is alike -/
def bareN (x : Nd) : Nd := { x with p := 0 }
def sameN (x y : Nd) : Bool := decide (x.k = y.k) && decide (x.a = y.a) && decide (x.b = y.b) && decide (x.n = y.n) && decide (x.t = y.t) && decide (x.u = y.u)
end Go.Proofs.YtheaepceghnkpaaGreatDoor

/- Mathematics of the grammar: what a row of tokens is read as: numbers, formulas, declarations, scripts; or the first error, and where. No condition. -/
namespace Go.Proofs.YtheaepceghnkpaaGreatDoor
open Go.RowKit Limb
set_option linter.unusedVariables false
structure Lim where
 text : Nat
 deep : Nat
 nodes : Nat
 power : Nat
inductive PaR (α : Type) where
 | ok : α → List Tk → Nat → PaR α
 | bad : Nat → Nat → PaR α
def PaR.next {α β : Type} (r : PaR α) (f : α → List Tk → Nat → PaR β) : PaR β :=
 match r with
 | .ok a l n => f a l n
 | .bad e p => .bad e p
theorem PaR.next_ok {α β : Type} (a : α) (l : List Tk) (n : Nat) (f : α → List Tk → Nat → PaR β) : (PaR.ok a l n).next f = f a l n := rfl
theorem PaR.next_bad {α β : Type} (e p : Nat) (f : α → List Tk → Nat → PaR β) : (PaR.bad e p : PaR α).next f = .bad e p := rfl
def isT (kd : Nat) (tx : List Nat) (t : Tk) : Bool := decide (t.1 = kd) && (tx.isEmpty || decide (t.2.1 = tx))
def hereT (en : Nat) : List Tk → Nat
 | [] => en
 | t :: _ => t.2.2
def nextT (kd : Nat) (tx : List Nat) : List Tk → Bool
 | [] => false
 | t :: _ => isT kd tx t
def takeT (en kd : Nat) (tx : List Nat) : List Tk → Nat → PaR Tk
 | [], _ => .bad 12 en
 | t :: r, n => if isT kd tx t = true then .ok t r n else .bad 12 t.2.2
def nameT (en : Nat) : List Tk → Nat → PaR Tk
 | [], _ => .bad 12 en
 | t :: r, n => if t.1 = 1 ∧ isNam t.2.1 = true then .ok t r n else .bad 12 t.2.2
def numB (en : Nat) (s : List Nat) (l : List Tk) (n : Nat) : PaR (List Nat) :=
 (takeT en 2 [] l n).next fun t l2 n => if nextT 3 [47] l2 = true then (takeT en 2 [] l2.tail n).next fun u l3 n => .ok (s ++ t.2.1 ++ [47] ++ u.2.1) l3 n else .ok (s ++ t.2.1) l2 n
def numT (en : Nat) (l : List Tk) (n : Nat) : PaR (List Nat) := if nextT 3 [45] l = true then numB en [45] l.tail n else numB en [] l n
def digV (l : List Nat) : Nat := l.foldl (fun a d => a * 10 + (d - 48)) 0
def smallT (s : List Nat) (most : Nat) : Option Nat := if s.all isDig = true ∧ 1 ≤ s.length ∧ s.length ≤ most then some (digV s) else none
def litN (s u : List Nat) (p : Nat) : List Nd := [⟨1, 0, 0, 0, strOf s, strOf u, p⟩]
def refN (s : List Nat) (p : Nat) : List Nd := [⟨2, 0, 0, 0, strOf s, ⟨#[]⟩, p⟩]
def overN (k j : Int) (t : List Nd) (p : Nat) : List Nd := t ++ [⟨k, (t.length : Int) - 1, 0, j, ⟨#[]⟩, ⟨#[]⟩, p⟩]
def joinN (k : Int) (t u : List Nd) (p : Nat) : List Nd := t ++ u.map (shiftN t.length) ++ [⟨k, (t.length : Int) - 1, (t.length : Int) + (u.length : Int) - 1, 0, ⟨#[]⟩, ⟨#[]⟩, p⟩]
def madeT (L : Lim) (t : List Nd) (p : Nat) (l : List Tk) (n : Nat) : PaR (List Nd) := if L.nodes < n + 1 then .bad 2 p else .ok t l (n + 1)
abbrev Rdr := List Tk → Nat → PaR (List Nd)
def powB (L : Lim) (en : Nat) (t : List Nd) (pa : Nat) (sg : Bool) (l : List Tk) (n : Nat) : PaR (List Nd) :=
 (takeT en 2 [] l n).next fun x r n =>
   match smallT x.2.1 3 with
   | none => .bad 12 x.2.2
   | some k => if L.power < k then .bad 2 x.2.2 else madeT L (overN 8 (if sg = true then -(k : Int) else (k : Int)) t pa) pa r n
def powT (L : Lim) (en : Nat) (t : List Nd) (l : List Tk) (n : Nat) : PaR (List Nd) :=
 if nextT 3 [94] l = true then
  if nextT 3 [45] l.tail = true then powB L en t (hereT en l) true l.tail.tail n else powB L en t (hereT en l) false l.tail n
 else .ok t l n
def atomT (L : Lim) (en : Nat) (l : List Tk) (n : Nat) : PaR (List Nd) :=
 match l with
 | [] => .bad 12 en
 | x :: r =>
  if isT 2 [] x = true then
   match r with
   | [] => madeT L (litN x.2.1 [] x.2.2) x.2.2 [] n
   | y :: q => if isT 4 [] y = true then madeT L (litN x.2.1 y.2.1 x.2.2) x.2.2 q n else madeT L (litN x.2.1 [] x.2.2) x.2.2 (y :: q) n
  else if x.1 = 1 ∧ isNam x.2.1 = true then madeT L (refN x.2.1 x.2.2) x.2.2 r n
  else .bad 12 x.2.2
def loopT (L : Lim) (f : Rdr) (op : Tk → Option Int) : Nat → List Nd → List Tk → Nat → PaR (List Nd)
 | 0, t, l, n => .ok t l n
 | _ + 1, t, [], n => .ok t [] n
 | g + 1, t, x :: r, n =>
  match op x with
  | none => .ok t (x :: r) n
  | some k => (f r n).next fun u r2 n2 => (madeT L (joinN k t u x.2.2) x.2.2 r2 n2).next fun t2 r3 n3 => loopT L f op g t2 r3 n3
def mulO (x : Tk) : Option Int := if isT 3 [42] x = true then some 5 else if isT 3 [47] x = true then some 6 else none
def addO (x : Tk) : Option Int := if isT 3 [43] x = true then some 3 else if isT 3 [45] x = true then some 4 else none
def rowT (L : Lim) (f : Rdr) (op : Tk → Option Int) : Rdr := fun l n => (f l n).next fun t r n => loopT L f op r.length t r n
def termT (L : Lim) (f : Rdr) : Rdr := rowT L f mulO
def formT (L : Lim) (f : Rdr) : Rdr := rowT L (termT L f) addO
def facS (L : Lim) (en : Nat) (sub : Option Rdr) : Rdr := fun l n =>
 if nextT 3 [45] l = true then
  match sub with
  | none => .bad 2 (hereT en l)
  | some f => (f l.tail n).next fun a r n => madeT L (overN 7 0 a (hereT en l)) (hereT en l) r n
 else if nextT 3 [40] l = true then
  match sub with
  | none => .bad 2 (hereT en l)
  | some f => (formT L f l.tail n).next fun t r n => (takeT en 3 [41] r n).next fun _ r n => powT L en t r n
 else (atomT L en l n).next fun t r n => powT L en t r n
def facT (L : Lim) (en : Nat) : Nat → Rdr
 | 0 => facS L en none
 | d + 1 => facS L en (some (facT L en d))
def formL (L : Lim) (en : Nat) : Rdr := formT L (facT L en L.deep)
structure Dc where
 k : Int
 nm : List Nat
 ot : List Nat
 nu : List Nat
 va : List Nat
 un : List Nat
 tr : List Nd
 pl : Int
 at' : Int
def wordK (t : Tk) : Option Nat :=
 if isT 1 [117, 110, 105, 116] t = true then some 1
 else if isT 1 [115, 111, 117, 114, 99, 101] t = true then some 2
 else if isT 1 [99, 111, 118] t = true then some 3
 else if isT 1 [108, 101, 116] t = true then some 4
 else if isT 1 [111, 117, 116, 112, 117, 116] t = true then some 5
 else none
def semiT (en : Nat) (d : Dc) (l : List Tk) (n : Nat) : PaR Dc := (takeT en 3 [59] l n).next fun _ r n => .ok d r n
def unitT (l : List Tk) : List Nat × List Tk :=
 match l with
 | [] => ([], [])
 | t :: r => if isT 4 [] t = true then (t.2.1, r) else ([], t :: r)
def outB (en : Nat) (d : Dc) (l : List Tk) (n : Nat) : PaR Dc :=
 (takeT en 3 [58] l n).next fun _ r n => (takeT en 2 [] r n).next fun x r n =>
   match smallT x.2.1 2 with
   | none => .bad 12 x.2.2
   | some k => if 60 < k then .bad 2 x.2.2 else semiT en { d with pl := k } r n
def bodyT (L : Lim) (en : Nat) (k : Nat) (d : Dc) (l : List Tk) (n : Nat) : PaR Dc :=
 if k = 1 then (numT en l n).next fun s r n => (takeT en 4 [] r n).next fun u r n => semiT en { d with nu := s, un := u.2.1 } r n
 else if k = 2 then (numT en l n).next fun s r n => (takeT en 3 [58] (unitT r).2 n).next fun _ r2 n => (numT en r2 n).next fun v r3 n => semiT en { d with nu := s, va := v, un := (unitT r).1 } r3 n
 else if k = 3 then (numT en l n).next fun s r n => semiT en { d with nu := s } r n
 else if k = 4 then (formL L en l n).next fun t r n => semiT en { d with tr := t } r n
 else (formL L en l n).next fun t r n =>
  if nextT 1 [105, 110] r = true then (takeT en 4 [] r.tail n).next fun u r n => outB en { d with tr := t, un := u.2.1 } r n
  else outB en { d with tr := t } r n
def headT (en : Nat) (k : Nat) (l : List Tk) (n : Nat) : PaR Dc :=
 (nameT en l n).next fun x r n =>
   if k = 3 then (nameT en r n).next fun y r n => (takeT en 3 [61] r n).next fun _ r n => .ok ⟨k, x.2.1, y.2.1, [], [], [], [], 0, x.2.2⟩ r n
   else (takeT en 3 [61] r n).next fun _ r n => .ok ⟨k, x.2.1, [], [], [], [], [], 0, x.2.2⟩ r n
def declT (L : Lim) (en i : Nat) (l : List Tk) (n : Nat) : PaR Dc :=
 match l with
 | [] => .bad 12 en
 | w :: r =>
  match wordK w with
  | none => .bad 12 w.2.2
  | some k => if 60 ≤ i then .bad 2 w.2.2 else (headT en k r n).next fun d r n => bodyT L en k d r n
def scrT (L : Lim) (en : Nat) : Nat → Nat → List Tk → Nat → PaR (List Dc)
 | _, _, [], n => .ok [] [] n
 | 0, _, l, n => .ok [] l n
 | g + 1, i, x :: r, n => (declT L en i (x :: r) n).next fun d r n => (scrT L en g (i + 1) r n).next fun ds r n => .ok (d :: ds) r n
def scrV (L : Lim) (s : List Nat) : List Dc × Int × Int :=
 if L.text < s.length then ([], 2, 0) else
 match lexT s with
 | .bad p => ([], 11, p)
 | .ok ts =>
  match scrT L s.length ts.length 0 ts 0 with
  | .ok ds _ _ => (ds, 0, 0)
  | .bad e p => ([], e, p)
def frmV (L : Lim) (s : List Nat) : List Nd × Int × Int :=
 if L.text < s.length then ([], 2, 0) else
 match lexT s with
 | .bad p => ([], 11, p)
 | .ok ts =>
  match formL L s.length ts 0 with
  | .ok t [] _ => (t, 0, 0)
  | .ok _ (x :: _) _ => ([], 12, x.2.2)
  | .bad e p => ([], e, p)
def cutL (t d n p : Int) : Lim := ⟨(max 0 (min t 4000)).toNat, (max 0 (min d 60)).toNat, (max 0 (min n 2000)).toNat, (max 0 (min p 64)).toNat⟩
def mostL : Lim := ⟨4000, 60, 2000, 64⟩
end Go.Proofs.YtheaepceghnkpaaGreatDoor

/- Mathematics of the statements of stage 9: what literals tell, in rational numbers. No condition. -/
namespace Go.Proofs.YtheaepceghnkpaaGreatDoor
open Go.RowKit Limb
set_option linter.unusedVariables false
end Go.Proofs.YtheaepceghnkpaaGreatDoor

/- Mathematics of reading a literal byte by byte: what has been read stays small, what it is made of. No condition. -/
namespace Go.Proofs.YtheaepceghnkpaaGreatDoor
open Go.RowKit Limb
set_option linter.unusedVariables false
theorem good_mk {l : List Nat} (h : litGood l = true) : ∃ w f x, LitOk w f x ∧ l = litMk w f x := by
 obtain ⟨h1, h2, h3⟩ := litGood_iff.1 h
 obtain ⟨w, f, x, hok, e⟩ := litLen_parts (l := l) (by omega)
 rw [h3, List.take_length] at e
 exact ⟨w, f, x, hok, e⟩
theorem good_bytes {l : List Nat} (h : litGood l = true) {i : Nat} (hi : i < l.length) {d : Nat} (hd : lim l i = d) : (48 ≤ d ∧ d ≤ 57) ∨ d = 46 ∨ d = 101 ∨ d = 45 := by
 obtain ⟨w, f, x, hok, rfl⟩ := good_mk h
 have hm : d ∈ litMk w f x := by
  have e : lim (litMk w f x) i = (litMk w f x)[i] := by simp [lim, List.getD_eq_getElem?_getD, List.getElem?_eq_getElem hi]
  rw [← hd, e]; exact List.getElem_mem hi
 unfold litMk at hm
 rcases List.mem_append.1 hm with hm | hm
 · rcases List.mem_append.1 hm with hm | hm
   · exact .inl (allDig_iff.1 hok.whole.1 d hm)
   · cases f with
     | none => cases hm
     | some p =>
      rcases List.mem_cons.1 hm with rfl | hm
      · exact .inr (.inl rfl)
      · exact .inl (allDig_iff.1 (hok.part p rfl).1 d hm)
 · cases x with
   | none => cases hm
   | some y =>
    obtain ⟨s, q⟩ := y
    rcases List.mem_cons.1 hm with rfl | hm
    · exact .inr (.inr (.inl rfl))
    · rcases List.mem_append.1 hm with hm | hm
      · cases s with
        | true => simp [litSg] at hm; exact .inr (.inr (.inr hm))
        | false => simp [litSg] at hm
      · exact .inl (allDig_iff.1 (hok.exp s q rfl).1.1 d hm)
end Go.Proofs.YtheaepceghnkpaaGreatDoor

/- What the reference of layer 9 answers (run), as a contract over memory. Condition: texts that can be read. -/
namespace Go.Proofs.YtheaepceghnkpaaGreatDoor
open Go.RowKit Limb
set_option linter.unusedVariables false
theorem lim_run {l : List Nat} {k : Nat} (h : k < litRun l) : isDig (lim l k) = true := by
 have e : lim l k = lim (l.takeWhile isDig) k := by
  rw [← take_run]
  simp [lim, List.getD_eq_getElem?_getD, h]
 have h2 : k < (l.takeWhile isDig).length := h
 rw [e]
 have h3 : lim (l.takeWhile isDig) k = (l.takeWhile isDig)[k] := by simp [lim, List.getD_eq_getElem?_getD, List.getElem?_eq_getElem h2]
 rw [h3]
 exact List.all_eq_true.1 (allDig_run l) _ (List.getElem_mem h2)
theorem lim_run_stop {l : List Nat} (h : litRun l < l.length) : isDig (lim l (litRun l)) = false := by
 have e : l.drop (litRun l) = l.dropWhile isDig := by
  conv => lhs; rw [← List.takeWhile_append_dropWhile (p := isDig) (l := l)]
  rw [show litRun (l.takeWhile isDig ++ l.dropWhile isDig) = (l.takeWhile isDig).length by rw [List.takeWhile_append_dropWhile]; rfl, List.drop_left]
 have h2 : lim l (litRun l) = lim (l.dropWhile isDig) 0 := by rw [← e, lim_drop0]
 rw [h2]
 cases hd : l.dropWhile isDig with
 | nil => rw [hd] at e; have := congrArg List.length e; rw [List.length_drop] at this; simp at this; omega
 | cons x t =>
  have h3 := List.head_dropWhile_not isDig (l := l) (by rw [hd]; simp)
  simp only [hd, List.head_cons] at h3
  simpa [lim] using h3
theorem run_step {l : List Nat} {k : Nat} (h : k ≤ litRun l) (hk : k < l.length) (hd : isDig (lim l k) = true) : k + 1 ≤ litRun l := by
 rcases Nat.lt_or_ge k (litRun l) with h2 | h2
 · exact h2
 · obtain rfl : k = litRun l := by omega
   rw [lim_run_stop hk] at hd; cases hd
theorem run_stop {l : List Nat} {k : Nat} (h : k ≤ litRun l) (hd : isDig (lim l k) = false) : litRun l = k := by
 rcases Nat.lt_or_ge k (litRun l) with h2 | h2
 · rw [lim_run h2] at hd; cases hd
 · omega
theorem run_full {l : List Nat} {k : Nat} (h : k ≤ litRun l) (hk : k = l.length) : litRun l = k := by
 have := litRun_le l
 omega
set_option maxHeartbeats 1000000 in
set_option maxRecDepth 100000 in
theorem refLRun_c (s : ByteArray) (hs : s.size ≤ 9223372036854775807) (a : Nat) (ha : a ≤ s.size) (w : World) :
 Calls Tryz.prog 98 #[.string s, .int .i64 (a : Int)] w fun e w' => e = .returned (.int .i64 (litRun ((bytesOf s).drop a) : Int)) ∧ w = w' := by
 have hl := length_bytesOf s
 have HL := Lib.hid hl
 clear hl
 go_enter Tryz.func98, Tryz.ntmps98
 go_wp2
 go_loopw [5] (fun i wr => ∃ k : Nat, i = .int .i64 (k : Int) ∧ k ≤ s.size - a ∧ RowKit.Hid (k ≤ litRun ((bytesOf s).drop a)) ∧ w = wr) (fun i _ => s.size - (intOf i).toNat)
 case atStart => exact ⟨0, rfl, Nat.zero_le _, Nat.zero_le _, rfl⟩
 case round =>
  obtain ⟨k, rfl, hk, HK, rfl⟩ := hrel
  have HLD : RowKit.Hid (((bytesOf s).drop a).length = s.size - a) := by show _ = _; rw [List.length_drop, HL.out]
  by_cases hlt : a + k < s.size
  · obtain ⟨d, hd⟩ : ∃ d, (s[a + k]'hlt).toNat = d := ⟨_, rfl⟩
    have hdl : RowKit.Hid (lim ((bytesOf s).drop a) k = d) := by show _ = _; rw [lim_drop1, ← byte_at s (a + k) hlt, hd]
    by_cases h1 : 48 ≤ d
    · by_cases h2 : d ≤ 57
      · have HK2 : RowKit.Hid (k + 1 ≤ litRun ((bytesOf s).drop a)) := run_step HK.out (by rw [HLD.out]; omega) (by rw [hdl.out]; simp [isDig, h1, h2])
        clear hdl HK
        go_wp2
        go_roundw
        case rel => exact ⟨k + 1, by go_num, by omega, HK2, by first | rfl | trivial⟩
        case measure => simp [intOf]; omega
      · have HE : RowKit.Hid (litRun ((bytesOf s).drop a) = k) := run_stop HK.out (by rw [hdl.out]; simp [isDig, h2])
        have h3 : 57 < d := by omega
        clear hdl HK h2
        go_wp2
        go_ret
        exact ⟨by rw [HE.out]; rfl, rfl⟩
    · have HE : RowKit.Hid (litRun ((bytesOf s).drop a) = k) := run_stop HK.out (by rw [hdl.out]; simp [isDig, h1])
      have h3 : d < 48 := by omega
      clear hdl HK h1
      go_wp2
      go_ret
      exact ⟨by rw [HE.out]; rfl, rfl⟩
  · have HE : RowKit.Hid (litRun ((bytesOf s).drop a) = k) := run_full HK.out (by rw [HLD.out]; omega)
    have h3 : s.size = a + k := by omega
    clear HK hlt
    go_wp2
    go_ret
    exact ⟨by rw [HE.out]; rfl, rfl⟩
theorem refLRun_at (s : ByteArray) (hs : s.size ≤ 9223372036854775807) (a : Nat) (ha : a ≤ s.size) (V : Int) (hV : V = a) (n : Nat) (hn : litRun ((bytesOf s).drop a) = n) (w : World) :
 Calls Tryz.prog 98 #[.string s, .int .i64 V] w fun e w' => e = .returned (.int .i64 (n : Int)) ∧ w = w' := by
 subst hV; subst hn; exact refLRun_c s hs a ha w
end Go.Proofs.YtheaepceghnkpaaGreatDoor
