/- Part 3 of the texts that the statements of this seat lean on: mathematics, and what functions answer, as contracts over memory; each part says its own conditions. -/
import Derived.Test.YtohciicocaoagaaGreatM2
import Derived.Laws.Rows
import Derived.Deep.RegionHeld3
import Derived.Deep.CutRange
import Derived.Laws.BitsAllLaws
import Derived.Orders
import Derived.Below
import Derived.Deep.RegionWith
/- Mathematics of rational numbers as they are told: Lean's own Rat, its top and its bottom; what may be; the limit of 64 limbs; none is told as 0 and nothing. No condition. -/
namespace Go.Proofs.YtohciicocaoagaaGreat
open Go.RowKit Limb
set_option linter.unusedVariables false

/-- Has a number at most 64 limbs at the top and at the bottom? -/
def fitsQ (q : Rat) : Bool := decide (q.num.natAbs < 4294967296 ^ 64) && decide (q.den < 4294967296 ^ 64)
/-- What is told of a number: it, or none, where it is too great. -/
def limQ (q : Rat) : Option Rat := if fitsQ q = true then some q else none
/-- The error beside it. -/
def limE (q : Rat) : Int := if fitsQ q = true then 0 else 2
/-- The top and the bottom that are told; of none 0 and nothing. -/
def oTop : Option Rat → Int
  | some q => q.num
  | none => 0
def oBot : Option Rat → Nat
  | some q => q.den
  | none => 0
theorem limQ_yes {q : Rat} (h : fitsQ q = true) : limQ q = some q := if_pos h
theorem limQ_no {q : Rat} (h : fitsQ q = false) : limQ q = none := if_neg (by rw [h]; decide)
theorem limE_yes {q : Rat} (h : fitsQ q = true) : limE q = 0 := if_pos h
theorem limE_no {q : Rat} (h : fitsQ q = false) : limE q = 2 := if_neg (by rw [h]; decide)
theorem oTop_lt (q : Rat) : (oTop (limQ q)).natAbs < 4294967296 ^ 64 := by
  cases h : fitsQ q with
  | false => rw [limQ_no h]; exact Nat.pow_pos (by decide)
  | true =>
    rw [limQ_yes h]
    simp only [fitsQ, Bool.and_eq_true, decide_eq_true_eq] at h
    exact h.1
theorem oBot_lt (q : Rat) : oBot (limQ q) < 4294967296 ^ 64 := by
  cases h : fitsQ q with
  | false => rw [limQ_no h]; exact Nat.pow_pos (by decide)
  | true =>
    rw [limQ_yes h]
    simp only [fitsQ, Bool.and_eq_true, decide_eq_true_eq] at h
    exact h.2

/-- A top by a bottom, made plain. -/
theorem mk_num {x : Int} {b : Nat} (hb : b ≠ 0) : (mkRat x b).num.natAbs = x.natAbs / Nat.gcd x.natAbs b ∧ sg (mkRat x b).num = sg x := by
  rw [Rat.num_mkRat, if_neg hb, Nat.gcd_comm]
  have hd : ((Nat.gcd x.natAbs b : Nat) : Int) ∣ x := by
    rw [Int.ofNat_dvd_left]; exact Nat.gcd_dvd_left _ _
  have hg : 0 < Nat.gcd x.natAbs b := Nat.gcd_pos_of_pos_right _ (Nat.pos_of_ne_zero hb)
  refine ⟨by rw [Int.natAbs_ediv_of_dvd hd]; rfl, ?_⟩
  obtain ⟨k, hk⟩ := hd
  generalize Nat.gcd x.natAbs b = g at hk hg ⊢
  subst hk
  rw [Int.mul_ediv_cancel_left _ (by omega)]
  unfold sg
  rw [decide_eq_decide]
  have h2 : (0 : Int) < (g : Int) := by omega
  constructor
  · intro h; exact Int.mul_neg_of_pos_of_neg h2 h
  · intro h
    rcases Int.lt_trichotomy k 0 with h3 | h3 | h3
    · exact h3
    · subst h3; simp at h
    · have := Int.mul_pos h2 h3; omega
theorem mk_den {x : Int} {b : Nat} (hb : b ≠ 0) : (mkRat x b).den = b / Nat.gcd x.natAbs b := by
  rw [Rat.den_mkRat, if_neg hb, Nat.gcd_comm]
theorem zOf_sg {z : Int} : zOf (sg z) z.natAbs = z := by
  unfold zOf sg
  by_cases h : z < 0
  · simp [h]; omega
  · simp [h]; omega

/-- May a number be that reads so? -/
def goodV (s : Bool) (xs ys : List Nat) : Bool :=
  decide (xs = limbs (Limb.val xs)) && decide (ys = limbs (Limb.val ys)) && decide (Limb.val ys ≠ 0) && !(s && decide (Limb.val xs = 0)) && decide (xs.length ≤ 64) && decide (ys.length ≤ 64) && decide (Nat.gcd (Limb.val xs) (Limb.val ys) = 1)
theorem goodV_iff {s : Bool} {xs ys : List Nat} : goodV s xs ys = true ↔ xs = limbs (Limb.val xs) ∧ ys = limbs (Limb.val ys) ∧ Limb.val ys ≠ 0 ∧ ¬ (s = true ∧ Limb.val xs = 0) ∧ xs.length ≤ 64 ∧ ys.length ≤ 64 ∧ Nat.gcd (Limb.val xs) (Limb.val ys) = 1 := by
  unfold goodV
  simp only [Bool.and_eq_true, decide_eq_true_eq, Bool.not_eq_true', Bool.and_eq_false_iff, decide_eq_false_iff_not]
  constructor
  · rintro ⟨⟨⟨⟨⟨⟨h1, h2⟩, h3⟩, h4⟩, h5⟩, h6⟩, h7⟩
    exact ⟨h1, h2, h3, fun ⟨a, b⟩ => by rcases h4 with h4 | h4; · rw [a] at h4; cases h4
                                        · exact h4 b, h5, h6, h7⟩
  · rintro ⟨h1, h2, h3, h4, h5, h6, h7⟩
    refine ⟨⟨⟨⟨⟨⟨h1, h2⟩, h3⟩, ?_⟩, h5⟩, h6⟩, h7⟩
    cases s with
    | false => exact .inl rfl
    | true => exact .inr fun h => h4 ⟨rfl, h⟩
/-- The number that reads so. -/
def readQ (s : Bool) (xs ys : List Nat) : Option Rat := if goodV s xs ys = true then some (mkRat (zOf s (Limb.val xs)) (Limb.val ys)) else none
theorem readQ_no {s : Bool} {xs ys : List Nat} (h : goodV s xs ys = false) : readQ s xs ys = none := if_neg (by rw [h]; decide)
/-- Of what may be: a number whose top and bottom stand there in the shortest limbs. -/
theorem readQ_yes {s : Bool} {xs ys : List Nat} (h : goodV s xs ys = true) : ∃ q : Rat, readQ s xs ys = some q ∧ s = sg q.num ∧ xs = limbs q.num.natAbs ∧ ys = limbs q.den ∧ fitsQ q = true ∧ q.num = zOf s (Limb.val xs) ∧ q.den = Limb.val ys := by
  obtain ⟨h1, h2, h3, h4, h5, h6, h7⟩ := goodV_iff.1 h
  have ha : (zOf s (Limb.val xs)).natAbs = Limb.val xs := zOf_abs _ _
  obtain ⟨n1, n2⟩ := mk_num (x := zOf s (Limb.val xs)) h3
  have d1 := mk_den (x := zOf s (Limb.val xs)) h3
  rw [ha, h7, Nat.div_one] at n1 d1
  have hs : sg (zOf s (Limb.val xs)) = s := by
    cases s with
    | false => apply sg_pos; unfold zOf; simp
    | true =>
      have : Limb.val xs ≠ 0 := fun e => h4 ⟨rfl, e⟩
      apply sg_neg; unfold zOf; rw [if_pos rfl]; omega
  have hn : (mkRat (zOf s (Limb.val xs)) (Limb.val ys)).num = zOf s (Limb.val xs) := by
    have e1 := zOf_sg (z := (mkRat (zOf s (Limb.val xs)) (Limb.val ys)).num)
    rw [n1, n2, hs] at e1
    exact e1.symm
  refine ⟨_, if_pos h, ?_, ?_, ?_, ?_, hn, d1⟩
  · rw [n2, hs]
  · rw [n1]; exact h1
  · rw [d1]; exact h2
  · simp only [fitsQ, Bool.and_eq_true, decide_eq_true_eq]
    rw [n1, d1]
    have l1 := val_lt (xs := xs) (by rw [h1]; exact small_limbs _)
    have l2 := val_lt (xs := ys) (by rw [h2]; exact small_limbs _)
    exact ⟨Nat.lt_of_lt_of_le l1 (Nat.pow_le_pow_right (by decide) h5), Nat.lt_of_lt_of_le l2 (Nat.pow_le_pow_right (by decide) h6)⟩
/-- What is told of a number may be. -/
theorem goodV_told {q : Rat} (h : fitsQ q = true) : goodV (sg q.num) (limbs q.num.natAbs) (limbs q.den) = true := by
  simp only [fitsQ, Bool.and_eq_true, decide_eq_true_eq] at h
  rw [goodV_iff, val_limbs, val_limbs]
  refine ⟨rfl, rfl, q.den_nz, ?_, length_limbs_le h.1, length_limbs_le h.2, q.reduced⟩
  rintro ⟨h1, h2⟩
  unfold sg at h1
  rw [decide_eq_true_eq] at h1
  omega
theorem readQ_told {q : Rat} (h : fitsQ q = true) : readQ (sg q.num) (limbs q.num.natAbs) (limbs q.den) = some q := by
  unfold readQ
  rw [if_pos (goodV_told h), val_limbs, val_limbs, zOf_sg, Rat.mkRat_self]
theorem goodV_none : goodV false (limbs (oTop none).natAbs) (limbs (oBot none)) = false := by decide +kernel

/-- Sums and products by tops and bottoms. -/
theorem add_mk (p q : Rat) : p + q = mkRat (p.num * (q.den : Int) + q.num * (p.den : Int)) (p.den * q.den) := by
  rw [Rat.add_def, Rat.normalize_eq_mkRat]
theorem mul_mk (p q : Rat) : p * q = mkRat (p.num * q.num) (p.den * q.den) := by
  rw [Rat.mul_def, Rat.normalize_eq_mkRat]
theorem neg_top (q : Rat) : (-q).num = -q.num ∧ (-q).den = q.den := ⟨rfl, rfl⟩
/-- A quotient by tops and bottoms: the divisor's sign goes to the top. -/
theorem div_mk {p q : Rat} (h : q.num ≠ 0) : p / q = mkRat (p.num * zOf (sg q.num) q.den) (p.den * q.num.natAbs) := by
  have hq : q ≠ 0 := fun e => h (by rw [e]; rfl)
  have e1 : mkRat (p.num * zOf (sg q.num) q.den) (p.den * q.num.natAbs) = p * mkRat (zOf (sg q.num) q.den) q.num.natAbs := by
    rw [← Rat.mkRat_mul_mkRat, Rat.mkRat_self]
  rw [e1, Rat.div_def]
  congr 1
  rw [Rat.inv_def]
  rcases Int.lt_trichotomy q.num 0 with h1 | h1 | h1
  · rw [sg_neg h1]
    obtain ⟨n, hn⟩ : ∃ n : Nat, q.num = -((n : Int) + 1) := ⟨(-(q.num) - 1).toNat, by omega⟩
    rw [hn]
    have e2 : (-((n : Int) + 1)).natAbs = n + 1 := by omega
    rw [e2]
    unfold zOf
    rw [if_pos rfl, show (-((n : Int) + 1)) = Int.negSucc n by omega]
    exact Rat.normalize_eq_mkRat (Nat.succ_ne_zero n)
  · exact absurd h1 h
  · rw [sg_pos (by omega)]
    obtain ⟨n, hn⟩ : ∃ n : Nat, q.num = (n : Int) := ⟨q.num.toNat, by omega⟩
    rw [hn]
    unfold zOf
    rw [if_neg (by decide), Int.natAbs_natCast]
    rfl

/-- Which of two numbers is greater. -/
def cmpQ (p q : Rat) : Int := cmpZ (p.num * (q.den : Int)) (q.num * (p.den : Int))

end Go.Proofs.YtohciicocaoagaaGreat

/- What the reference's Of of layer 2 comes to, as a contract over memory: the product, in shortest limbs. Conditions: both lists read as limbs, of at most 10^6 of them. -/
namespace Go.Proofs.YtohciicocaoagaaGreat
open Go.RowKit Limb
set_option linter.unusedVariables false

theorem mul_step (a : Nat) (ys : List Nat) (k : Nat) : a * val (ys.take k) + a * lim ys k * 2 ^ (32 * k) = a * val (ys.take (k + 1)) := by
  rw [val_take_lim, Nat.mul_add, pow32, Nat.mul_assoc, Nat.mul_comm (lim ys k)]

theorem mul_room {w : World} {A A' : Option Addr} {n c n' c' : Nat} {xs ys : List Nat} {a b L L' : Nat} (hx : NN w A n c xs a L) (hy : NN w A' n' c' ys b L') (k : Nat) : a * val (ys.take k) < 4294967296 ^ (L + L') := by
  have h1 := lt_pow hx
  have h2 := val_lt (small_take hy.isN.small k)
  have h3 : 4294967296 ^ (ys.take k).length ≤ 4294967296 ^ L' := Nat.pow_le_pow_right (by decide) (by rw [List.length_take, hy.isN.len]; have := hy.le; omega)
  rw [Nat.pow_add]
  exact Nat.mul_lt_mul'' h1 (Nat.lt_of_lt_of_le h2 h3)

theorem up_fits {t L k : Nat} (h : t < 4294967296 ^ L) : t * 2 ^ (32 * k) < 4294967296 ^ (L + k) := by
  rw [Nat.pow_add, ← pow32]
  exact Nat.mul_lt_mul_of_pos_right h (Nat.pow_pos (by decide))

set_option maxHeartbeats 1600000 in
theorem refMul_c {A A' : Option Addr} {n c n' c' : Nat} {xs ys : List Nat} {a b L L' : Nat} {w : World} (hx : NN w A n c xs a L) (hy : NN w A' n' c' ys b L') (h1 : L ≤ 1000000) (h2 : L' ≤ 1000000) :
    Calls Tryz.prog 71 #[.slice A n c, .slice A' n' c'] w fun e w' => ∃ A2 n2 c2, e = .returned (.slice A2 n2 c2) ∧ NN w' A2 n2 c2 (limbs (a * b)) (a * b) (L + L') ∧ Below w.heap.size w w' := by
  have hle := hx.le
  have hle' := hy.le
  have Hly := Lib.hid hy.isN.len
  have hsy := hy.isN.small
  have Hyv : RowKit.Hid (val ys = b) := hy.val
  have Hroom := Lib.hid (fun k => mul_room hx hy k)
  have H0 : RowKit.Hid (∀ wr : World, NN wr none 0 0 (limbs (a * val (ys.take 0))) (a * val (ys.take 0)) (L + L')) := by
    intro wr
    have e : a * val (ys.take 0) = 0 := by simp [val]
    rw [e]
    exact ⟨IsN.nil _ _, rfl, Nat.le_refl _, Nat.zero_le _⟩
  go_enter Tryz.func71, Tryz.ntmps71
  go_wp2
  go_loopw [6, 5] (fun i ov wr => ∃ (k t : Nat) (A2 : Option Addr) (n2 c2 : Nat), k ≤ n' ∧ i = .int .i64 (k : Int) ∧ ov = .slice A2 n2 c2 ∧ RowKit.Hid (t = a * val (ys.take k)) ∧ NN wr A2 n2 c2 (limbs t) t (L + L') ∧ Below w.heap.size w wr) (fun i _ _ => n' - (intOf i).toNat)
  case atStart => exact ⟨0, _, none, 0, 0, by omega, rfl, rfl, rfl, H0.out _, Below.refl _ _⟩
  case round =>
    obtain ⟨k, t, A2, n2, c2, hk, rfl, rfl, Ht, ho, bw⟩ := hrel
    have h_x := hx.below bw
    have h_y := hy.below bw
    by_cases hgo : k < n'
    · obtain ⟨b1, o1, hA, hb1, hc1⟩ := h_y.isN.2.2 (by omega)
      subst hA
      have hcell : wr.cell? ⟨b1, o1 + k, none⟩ = some (.int .u32 ((lim ys k : Nat) : Int)) := hc1 k hgo
      have l1 := lim_lt hsy k
      clear hx hy
      go_wp2_with fail
      refine (refSmall_c h_x (lim ys k) _ rfl l1 (by omega)).mono ?_
      rintro e w1 ⟨A3, n3, c3, rfl, h3, bn⟩
      replace ho := ho.below bn
      replace h_x := h_x.below bn
      replace h_y := h_y.below bn
      replace bw := below_two bw bn
      clear bn
      go_wp2_with fail
      refine (refUp_c h3 (32 * k) _ (by omega) (by omega) (by omega) (L + 1 + k) (up_fits (lt_pow h3))).mono ?_
      rintro e w2 ⟨A4, n4, c4, rfl, h4, bn⟩
      replace ho := ho.below bn
      replace h_x := h_x.below bn
      replace h_y := h_y.below bn
      replace bw := below_two bw bn
      clear bn h3
      go_wp2_with fail
      refine (refAdd_c ho h4 (by omega) (by omega)).mono ?_
      rintro e w3 ⟨A5, n5, c5, rfl, h5, bn⟩
      replace bw := below_two bw bn
      clear bn h4 ho h_x h_y
      have e1 : t + a * lim ys k * 2 ^ (32 * k) = a * val (ys.take (k + 1)) := by rw [Ht.out, mul_step]
      rw [e1] at h5
      have h6 := h5.relax (Hroom.out (k + 1))
      clear h5 e1
      obtain ⟨u, hu⟩ : ∃ u, u = a * val (ys.take (k + 1)) := ⟨_, rfl⟩
      rw [← hu] at h6
      have Hu := Lib.hid hu
      clear hu
      go_wp2
      go_roundw
      case rel => exact ⟨k + 1, u, A5, n5, c5, by omega, by go_num, rfl, Hu, h6, bw⟩
      case measure => simp [intOf]; omega
    · obtain rfl : k = n' := by omega
      have Ht2 : RowKit.Hid (t = a * b) := by
        have h := Ht.out
        rw [List.take_of_length_le (by rw [Hly.out]; exact Nat.le_refl _), Hyv.out] at h
        exact h
      clear hx hy
      go_wp2_with fail
      refine (refTrim_c ho (by omega)).mono ?_
      rintro e w4 ⟨A4, n4, c4, rfl, h4, bn⟩
      rw [Ht2.out] at h4
      go_wp2
      go_ret
      exact ⟨_, _, _, rfl, h4, below_two bw bn⟩

end Go.Proofs.YtohciicocaoagaaGreat

/- What the reference's Pow of layer 2 comes to, as a contract over memory: the power bit by bit, and whether there is one. Conditions: the list reads as limbs, of at most 10^5 of them. -/
namespace Go.Proofs.YtohciicocaoagaaGreat
open Go.RowKit Limb
set_option linter.unusedVariables false

theorem below_put {w wr : World} {g : Nat} (h : Below w.heap.size w wr) (hg : w.heap.size ≤ g) (u v : Value) : Below w.heap.size w ((wr.setCell ⟨g, 0, none⟩ u).setCell ⟨g, 1, none⟩ v) :=
  (h.setCell (by exact hg) _).setCell (by exact hg) _

end Go.Proofs.YtohciicocaoagaaGreat

/- What the statements' helpers keep.Int and keep.OwnInt, and the reference of layer 6, answer, as contracts over memory. Conditions: sizes of at most so many limbs. -/
namespace Go.Proofs.YtohciicocaoagaaGreat
open Go.RowKit Limb
set_option linter.unusedVariables false

theorem zsame {x y : Int} (h : x = y) : (decide (sg x = sg y) && same (limbs x.natAbs) (limbs y.natAbs)) = true := by
  subst h; rw [same_self]; simp
theorem zdiff {x y : Int} (h : x ≠ y) : (decide (sg x = sg y) && same (limbs x.natAbs) (limbs y.natAbs)) = false := by
  by_cases h1 : x.natAbs = y.natAbs
  · have : sg x ≠ sg y := by
      unfold sg
      intro e
      have e2 := decide_eq_decide.1 e
      omega
    simp [this]
  · rw [same_limbs_ne h1]; simp

theorem int_size : (Tryz.prog.info? 25).map (·.size) = some 2 := by kernel_rfl

/-- A list of limbs stays where a struct of a sign and a slice is filled. -/
theorem NN.put2 {w : World} {A : Option Addr} {n c : Nat} {xs : List Nat} {a L g : Nat} {T : TypeId} {b0 : Bool} {A0 : Option Addr} {n0 c0 : Nat} (h : NN w A n c xs a L) (hb : Row2 w g T (.bool b0) (.slice A0 n0 c0)) (u v : Value) : NN ((w.setCell ⟨g, 0, none⟩ u).setCell ⟨g, 1, none⟩ v) A n c xs a L := by
  refine ⟨⟨h.isN.1, h.isN.2.1, fun hn => ?_⟩, h.val, h.cap, h.le⟩
  obtain ⟨b, o, e, hlt, hc⟩ := h.isN.2.2 hn
  have hbg : b ≠ g := by
    rintro rfl
    have h1 := hc 0 hn
    unfold Row2 at hb
    match o, h1 with
    | 0, h1 => simp [World.cell?, hb] at h1
    | 1, h1 => simp [World.cell?, hb] at h1
    | o + 2, h1 => simp [World.cell?, hb] at h1
  refine ⟨b, o, e, by simpa [World.setCell] using hlt, fun j hj => ?_⟩
  rw [cell_setCell_ne _ _ (by intro e; injection e with e; exact hbg e.symm), cell_setCell_ne _ _ (by intro e; injection e with e; exact hbg e.symm)]
  exact hc j hj

section
variable {w : World} {s s' : Bool} {A A' : Option Addr} {n c n' c' : Nat} {xs ys : List Nat} {x y : Int} {L L' : Nat}

theorem keepInt_c (hx : ZZ w s A n c xs x L) (hy : ZZ w s' A' n' c' ys y L') (h1 : L ≤ 1000000000) (h2 : L' ≤ 1000000000) (v : Bool) (hv : (decide (s = s') && same xs ys) = v) :
    Calls Tryz.prog 41 #[.agg #[.bool s, .slice A n c], .agg #[.bool s', .slice A' n' c']] w fun e w' => e = .returned (.bool v) ∧ Below w.heap.size w w' := by
  have Hx := Lib.hid hx.nn
  have Hy := Lib.hid hy.nn
  have Hv := Lib.hid hv
  have HW : RowKit.Hid (Below w.heap.size w ((w.alloc (.cells #[Value.bool s, Value.slice A n c] 25)).alloc (.cells #[Value.bool s', Value.slice A' n' c'] 25))) := below_two (below_new _ _) (below_new _ _)
  clear hx hy hv
  by_cases hs : s = s'
  · subst hs
    go_enter Tryz.func41, Tryz.ntmps41
    go_wp2_with fail
    refine (keep_c (Hx.out.below HW.out) (Hy.out.below HW.out) h1 h2 v (by have := Hv.out; simpa using this)).mono ?_
    rintro e w1 ⟨rfl, bn⟩
    have HW1 := Lib.hid (below_two HW.out bn)
    clear bn HW
    go_wp2
    go_ret
    exact ⟨rfl, HW1.out⟩
  · go_enter Tryz.func41, Tryz.ntmps41
    have hs2 : (s == s') = false := by simpa using hs
    have Hv2 : RowKit.Hid (v = false) := by show _ = _; rw [← Hv.out]; simp [hs]
    clear hs Hv
    go_wp2
    go_ret
    exact ⟨by rw [Hv2.out]; rfl, HW.out⟩

theorem ownInt_c (hx : ZZ w s A n c xs x L) (h1 : L ≤ 1000000000) :
    Calls Tryz.prog 30 #[.agg #[.bool s, .slice A n c]] w fun e w' => ∃ A2 n2 c2, e = .returned (.agg #[.bool s, .slice A2 n2 c2]) ∧ ZZ w' s A2 n2 c2 xs x L ∧ Below w.heap.size w w' := by
  have b1 := below_new w (.cells #[Value.bool s, Value.slice A n c] 25)
  have b2 := below_new (w.alloc (.cells #[Value.bool s, Value.slice A n c] 25)) (.cells #[Value.bool false, Value.slice none 0 0] 25)
  have HW := Lib.hid (below_two b1 b2)
  have HN := Lib.hid (hx.nn.below HW.out)
  have HS := Lib.hid hx.sgn
  have r1 := (row2_new w 25 (.bool s) (.slice A n c)).below b2
  have r2 := row2_new (w.alloc (.cells #[Value.bool s, Value.slice A n c] 25)) 25 (.bool false) (.slice none 0 0)
  rw [World.size_alloc] at r2
  clear b1 b2 hx
  go_enter Tryz.func30, Tryz.ntmps30
  go_wp2
  generalize (w.alloc (.cells #[Value.bool s, Value.slice A n c] 25)).alloc (.cells #[Value.bool false, Value.slice none 0 0] 25) = w1 at *
  have HR1 := Lib.hid r1
  have HR2 := Lib.hid r2
  have c0 := r1.c0
  have c1 := r1.c1
  clear r1 r2
  go_region_with (go_at_call 31; (with_reducible refine (own_any _ _ _ _ _ _ _ (by first | exact HN.out | exact HN.out.below (Below.refl _ _).drew) h1).mono ?_); rintro e w2 ⟨A2, n2, c2, rfl, h2, bn⟩; have bn1 : Below w1.heap.size w1 w2 := (by first | exact bn | exact below_two (Below.refl _ _).drew bn); have d0 := (HR1.out.below bn1).c0; have d1 := (HR1.out.below bn1).c1; have e0 := (HR2.out.below bn1).c0; have e1 := (HR2.out.below bn1).c1; have f0 := (HR2.out.below bn1).free 0; have f1 := (HR2.out.below bn1).free 1)
  all_goals
    have HR := HR2.out.below bn1
    have HZ := Lib.hid (h2.put2 HR (.bool s) (.slice A2 n2 c2))
    have HB := Lib.hid (below_fill (below_two HW.out bn1) (Nat.le_succ _) (.bool s) (.slice A2 n2 c2))
    have HF := Lib.hid (HR.fill (.bool s) (.slice A2 n2 c2))
    clear d0 d1 e0 e1 f0 f1 bn bn1 HR h2 c0 c1
    go_wp2
    refine bodyPost_ret (results_cell_row rfl _ _ (w.heap.size + 1) 25 #[.bool s, .slice A2 n2 c2] (0, 0) _ rfl HF.out Tryz.underlying25 rfl int_size) rfl ?_
    exact ⟨A2, n2, c2, rfl, ⟨HZ.out, HS.out⟩, HB.out⟩

end

end Go.Proofs.YtohciicocaoagaaGreat

/- Two structs of a sign and a slice that two calls answer and that go to two new variables ('x, y := f(..), g(..)'): Go leaves open when the variables are made; whatever the order, both boxes hold the answers. No condition. -/
namespace Go.Proofs.YtohciicocaoagaaGreat
open Go.RowKit Limb
set_option linter.unusedVariables false

/-- A new box of the zero struct. -/
abbrev zbox : Obj := .cells #[Value.bool false, Value.slice none 0 0] 25
/-- The box at g holds the zero struct. -/
def ZB (w : World) (g : Nat) : Prop := Row2 w g 25 (.bool false) (.slice none 0 0)

theorem zb1 {w w' : World} (bn : Below (w.alloc zbox).heap.size (w.alloc zbox) w') : ZB w' w.heap.size := (row2_new w _ _ _).below bn
theorem zb1d {w w' : World} (bn : Below (w.alloc zbox).drew.heap.size (w.alloc zbox).drew w') : ZB w' w.heap.size := Row2.below (w := (w.alloc zbox).drew) (row2_new w _ _ _) bn
theorem zb2 {w w' : World} (bn : Below ((w.alloc zbox).alloc zbox).heap.size ((w.alloc zbox).alloc zbox) w') : ZB w' w.heap.size ∧ ZB w' (w.heap.size + 1) := by
  refine ⟨Row2.below (w := (w.alloc zbox).alloc zbox) ((row2_new w _ _ _).below (below_new _ _)) bn, ?_⟩
  have h := Row2.below (row2_new (w.alloc zbox) 25 (.bool false) (.slice none 0 0)) bn
  rw [World.size_alloc] at h
  exact h
theorem zb2d {w w' : World} (bn : Below ((w.alloc zbox).alloc zbox).drew.heap.size ((w.alloc zbox).alloc zbox).drew w') : ZB w' w.heap.size ∧ ZB w' (w.heap.size + 1) := by
  refine ⟨Row2.below (w := ((w.alloc zbox).alloc zbox).drew) (g := w.heap.size) (show Row2 ((w.alloc zbox).alloc zbox) w.heap.size 25 (.bool false) (.slice none 0 0) from (row2_new w _ _ _).below (below_new _ _)) bn, ?_⟩
  have h := Row2.below (w := ((w.alloc zbox).alloc zbox).drew) (g := (w.alloc zbox).heap.size) (row2_new (w.alloc zbox) 25 (.bool false) (.slice none 0 0)) bn
  rw [World.size_alloc] at h
  exact h
theorem ZB.below {w w' : World} {g : Nat} (h : ZB w g) (hb : Below w.heap.size w w') : ZB w' g := Row2.below h hb
theorem ZB.lt {w : World} {g : Nat} (h : ZB w g) : g < w.heap.size := Row2.lt h
theorem ZB.cells {w : World} {g : Nat} (h : ZB w g) : w.cell? ⟨g, 0, none⟩ = some (.bool false) ∧ w.cell? ⟨g, 1, none⟩ = some (.slice none 0 0) ∧ w.frozen? ⟨g, 0, none⟩ = false ∧ w.frozen? ⟨g, 1, none⟩ = false := ⟨h.c0, h.c1, h.free 0, h.free 1⟩

theorem ZB.apart {w : World} {g : Nat} (h : ZB w g) : w.heap.size ≠ g ∧ w.heap.size + 1 ≠ g := by have := h.lt; omega
theorem ZZ.put {w : World} {s : Bool} {A : Option Addr} {n c : Nat} {xs : List Nat} {z : Int} {L g : Nat} (h : ZZ w s A n c xs z L) (hb : ZB w g) (u v : Value) : ZZ ((w.setCell ⟨g, 0, none⟩ u).setCell ⟨g, 1, none⟩ v) s A n c xs z L := ⟨h.nn.put2 hb u v, h.sgn⟩
theorem Row2.far {w : World} {g g' : Nat} {T : TypeId} {u v : Value} (h : Row2 w g' T u v) (hne : g ≠ g') (x y : Value) : Row2 ((w.setCell ⟨g, 0, none⟩ x).setCell ⟨g, 1, none⟩ y) g' T u v := by
  unfold Row2 at h ⊢
  simp only [World.setCell, Array.getElem?_modify]
  rw [if_neg hne, if_neg hne]
  exact h
theorem Row2.filled {w : World} {g : Nat} {T : TypeId} {u v : Value} (h : Row2 w g T u v) (x y : Value) : Row2 ((w.setCell ⟨g, 0, none⟩ x).setCell ⟨g, 1, none⟩ y) g T x y := h.fill x y

section
variable {wP w : World} {q r : Nat} {s : Bool} {A : Option Addr} {n c : Nat} {xs : List Nat} {z : Int} {L : Nat} {s' : Bool} {A' : Option Addr} {n' c' : Nat} {xs' : List Nat} {z' : Int} {L' : Nat}

/-- Both boxes hold the answers. -/
structure Two (wP wx : World) (q r : Nat) (s : Bool) (A : Option Addr) (n c : Nat) (xs : List Nat) (z : Int) (L : Nat) (s' : Bool) (A' : Option Addr) (n' c' : Nat) (xs' : List Nat) (z' : Int) (L' : Nat) : Prop where
  q : Row2 wx q 25 (.bool s) (.slice A n c)
  r : Row2 wx r 25 (.bool s') (.slice A' n' c')
  z : ZZ wx s A n c xs z L
  z' : ZZ wx s' A' n' c' xs' z' L'
  b : Below wP.heap.size wP wx

/-- Both variables were made ahead of the second call. -/
theorem two_pp (hz : ZZ w s A n c xs z L) (hz' : ZZ w s' A' n' c' xs' z' L') (hb : Below wP.heap.size wP w) (h1 : ZB w q) (h2 : ZB w r) (hne : q ≠ r) (hq : wP.heap.size ≤ q) (hr : wP.heap.size ≤ r) :
    Two wP ((((w.setCell ⟨q, 0, none⟩ (.bool s)).setCell ⟨q, 1, none⟩ (.slice A n c)).setCell ⟨r, 0, none⟩ (.bool s')).setCell ⟨r, 1, none⟩ (.slice A' n' c')) q r s A n c xs z L s' A' n' c' xs' z' L' := by
  have h3 : ZB ((w.setCell ⟨q, 0, none⟩ (.bool s)).setCell ⟨q, 1, none⟩ (.slice A n c)) r := Row2.far h2 hne _ _
  exact ⟨(Row2.filled h1 _ _).far (Ne.symm hne) _ _, Row2.filled h3 _ _, (hz.put h1 _ _).put h3 _ _, (hz'.put h1 _ _).put h3 _ _, (((hb.setCell (p := ⟨q, 0, none⟩) hq _).setCell (p := ⟨q, 1, none⟩) hq _).setCell (p := ⟨r, 0, none⟩) hr _).setCell (p := ⟨r, 1, none⟩) hr _⟩
theorem size_set2 (w : World) (q : Nat) (u v : Value) : ((w.setCell ⟨q, 0, none⟩ u).setCell ⟨q, 1, none⟩ v).heap.size = w.heap.size := by simp [World.setCell]
/-- The first one ahead, the second one behind. -/
theorem two_pl (hz : ZZ w s A n c xs z L) (hz' : ZZ w s' A' n' c' xs' z' L') (hb : Below wP.heap.size wP w) (h1 : ZB w q) (hq : wP.heap.size ≤ q) :
    Two wP (((w.setCell ⟨q, 0, none⟩ (.bool s)).setCell ⟨q, 1, none⟩ (.slice A n c)).alloc (.cells #[Value.bool s', Value.slice A' n' c'] 25)) q w.heap.size s A n c xs z L s' A' n' c' xs' z' L' := by
  have b := below_new ((w.setCell ⟨q, 0, none⟩ (.bool s)).setCell ⟨q, 1, none⟩ (.slice A n c)) (.cells #[Value.bool s', Value.slice A' n' c'] 25)
  have h2 := row2_new ((w.setCell ⟨q, 0, none⟩ (.bool s)).setCell ⟨q, 1, none⟩ (.slice A n c)) 25 (.bool s') (.slice A' n' c')
  rw [size_set2] at h2
  exact ⟨(Row2.filled h1 _ _).below b, h2, (hz.put h1 _ _).below b, (hz'.put h1 _ _).below b, below_two ((hb.setCell (p := ⟨q, 0, none⟩) hq _).setCell (p := ⟨q, 1, none⟩) hq _) b⟩
/-- The second one ahead, the first one behind. -/
theorem two_lp (hz : ZZ w s A n c xs z L) (hz' : ZZ w s' A' n' c' xs' z' L') (hb : Below wP.heap.size wP w) (h2 : ZB w r) (hr : wP.heap.size ≤ r) :
    Two wP (((w.setCell ⟨r, 0, none⟩ (.bool s')).setCell ⟨r, 1, none⟩ (.slice A' n' c')).alloc (.cells #[Value.bool s, Value.slice A n c] 25)) w.heap.size r s A n c xs z L s' A' n' c' xs' z' L' := by
  have b := below_new ((w.setCell ⟨r, 0, none⟩ (.bool s')).setCell ⟨r, 1, none⟩ (.slice A' n' c')) (.cells #[Value.bool s, Value.slice A n c] 25)
  have h1 := row2_new ((w.setCell ⟨r, 0, none⟩ (.bool s')).setCell ⟨r, 1, none⟩ (.slice A' n' c')) 25 (.bool s) (.slice A n c)
  rw [size_set2] at h1
  exact ⟨h1, (Row2.filled h2 _ _).below b, (hz.put h2 _ _).below b, (hz'.put h2 _ _).below b, below_two ((hb.setCell (p := ⟨r, 0, none⟩) hr _).setCell (p := ⟨r, 1, none⟩) hr _) b⟩
/-- Both behind. -/
theorem two_ll (hz : ZZ w s A n c xs z L) (hz' : ZZ w s' A' n' c' xs' z' L') (hb : Below wP.heap.size wP w) :
    Two wP ((w.alloc (.cells #[Value.bool s, Value.slice A n c] 25)).alloc (.cells #[Value.bool s', Value.slice A' n' c'] 25)) w.heap.size (w.heap.size + 1) s A n c xs z L s' A' n' c' xs' z' L' := by
  have b1 := below_new w (.cells #[Value.bool s, Value.slice A n c] 25)
  have b2 := below_new (w.alloc (.cells #[Value.bool s, Value.slice A n c] 25)) (.cells #[Value.bool s', Value.slice A' n' c'] 25)
  have h2 := row2_new (w.alloc (.cells #[Value.bool s, Value.slice A n c] 25)) 25 (.bool s') (.slice A' n' c')
  rw [World.size_alloc] at h2
  exact ⟨(row2_new w _ _ _).below b2, h2, (hz.below b1).below b2, (hz'.below b1).below b2, below_two (below_two hb b1) b2⟩
theorem two_ll' (hz : ZZ w s A n c xs z L) (hz' : ZZ w s' A' n' c' xs' z' L') (hb : Below wP.heap.size wP w) :
    Two wP ((w.alloc (.cells #[Value.bool s', Value.slice A' n' c'] 25)).alloc (.cells #[Value.bool s, Value.slice A n c] 25)) (w.heap.size + 1) w.heap.size s A n c xs z L s' A' n' c' xs' z' L' :=
  let h := two_ll hz' hz hb
  ⟨h.r, h.q, h.z', h.z, h.b⟩
end

end Go.Proofs.YtohciicocaoagaaGreat

/- Rational numbers in memory: a struct of a sign and two lists of limbs that reads as a number, or as none. No condition. -/
namespace Go.Proofs.YtohciicocaoagaaGreat
open Go.RowKit Limb
set_option linter.unusedVariables false

theorem NN.short {w : World} {A : Option Addr} {n c : Nat} {xs : List Nat} {a L K : Nat} (h : NN w A n c xs a L) (hK : n ≤ K) : NN w A n c xs a K := ⟨h.isN, h.val, h.cap, hK⟩
/-- A sign and two slices read as the number o, or as none that may be. -/
structure QQ (w : World) (s : Bool) (A : Option Addr) (n c : Nat) (xs : List Nat) (B : Option Addr) (m d : Nat) (ys : List Nat) (o : Option Rat) (L : Nat) : Prop where
  top : ZZ w s A n c xs (zOf s (Limb.val xs)) L
  bot : NN w B m d ys (Limb.val ys) L
  rd : readQ s xs ys = o
theorem QQ.below {w w' : World} {s : Bool} {A : Option Addr} {n c : Nat} {xs : List Nat} {B : Option Addr} {m d : Nat} {ys : List Nat} {o : Option Rat} {L : Nat} (h : QQ w s A n c xs B m d ys o L) (hb : Below w.heap.size w w') : QQ w' s A n c xs B m d ys o L :=
  ⟨h.top.below hb, h.bot.below hb, h.rd⟩
/-- What is told: a number in the shortest limbs, or 0 and nothing. -/
abbrev QT (w : World) (A : Option Addr) (n c : Nat) (B : Option Addr) (m d : Nat) (o : Option Rat) : Prop :=
  QQ w (sg (oTop o)) A n c (limbs (oTop o).natAbs) B m d (limbs (oBot o)) o 64
theorem qt_some {w : World} {A : Option Addr} {n c : Nat} {B : Option Addr} {m d : Nat} {q : Rat} {L L' : Nat} (hz : ZZ w (sg q.num) A n c (limbs q.num.natAbs) q.num L) (hn : NN w B m d (limbs q.den) q.den L') (hf : fitsQ q = true) : QT w A n c B m d (some q) := by
  have h2 := hf
  simp only [fitsQ, Bool.and_eq_true, decide_eq_true_eq] at h2
  refine ⟨?_, ?_, readQ_told hf⟩
  · show ZZ w (sg q.num) A n c (limbs q.num.natAbs) (zOf (sg q.num) (Limb.val (limbs q.num.natAbs))) 64
    rw [val_limbs, zOf_sg]
    exact ⟨hz.nn.relax h2.1, hz.sgn⟩
  · show NN w B m d (limbs q.den) (Limb.val (limbs q.den)) 64
    rw [val_limbs]
    exact hn.relax h2.2
theorem qt_none (w : World) (c d : Nat) : QT w none 0 0 none 0 0 none := by
  have e1 : limbs (oTop none).natAbs = [] := limbs_zero
  have e2 : limbs (oBot none) = [] := limbs_zero
  refine ⟨?_, ?_, readQ_no goodV_none⟩
  · rw [e1]; exact ⟨⟨IsN.nil _ _, rfl, Nat.le_refl _, Nat.zero_le _⟩, rfl⟩
  · rw [e2]; exact ⟨IsN.nil _ _, rfl, Nat.le_refl _, Nat.zero_le _⟩
/-- Of what may be, the top and the bottom. -/
theorem QQ.some {w : World} {s : Bool} {A : Option Addr} {n c : Nat} {xs : List Nat} {B : Option Addr} {m d : Nat} {ys : List Nat} {q : Rat} {L : Nat} (h : QQ w s A n c xs B m d ys (some q) L) :
    s = sg q.num ∧ xs = limbs q.num.natAbs ∧ ys = limbs q.den ∧ fitsQ q = true ∧ ZZ w s A n c xs q.num 64 ∧ NN w B m d ys q.den 64 ∧ goodV s xs ys = true := by
  have hg : goodV s xs ys = true := by
    cases h2 : goodV s xs ys with
    | true => rfl
    | false => have := h.rd; rw [readQ_no h2] at this; cases this
  obtain ⟨q', e, h1, h2, h3, h4, h5, h6⟩ := readQ_yes hg
  have := h.rd
  rw [e] at this
  injection this with this
  subst this
  have hf := h4
  simp only [fitsQ, Bool.and_eq_true, decide_eq_true_eq] at hf
  refine ⟨h1, h2, h3, h4, ?_, ?_, hg⟩
  · have ht := h.top
    rw [← h5] at ht
    refine ⟨?_, ht.sgn⟩
    have hn := ht.nn
    rw [h2] at hn ⊢
    exact hn.relax hf.1
  · have hb := h.bot
    rw [← h6] at hb
    rw [h3] at hb ⊢
    exact hb.relax hf.2
theorem QQ.none {w : World} {s : Bool} {A : Option Addr} {n c : Nat} {xs : List Nat} {B : Option Addr} {m d : Nat} {ys : List Nat} {L : Nat} (h : QQ w s A n c xs B m d ys none L) : goodV s xs ys = false := by
  cases h2 : goodV s xs ys with
  | false => rfl
  | true =>
    obtain ⟨q', e, _⟩ := readQ_yes h2
    have := h.rd
    rw [e] at this
    cases this
theorem QQ.good {w : World} {s : Bool} {A : Option Addr} {n c : Nat} {xs : List Nat} {B : Option Addr} {m d : Nat} {ys : List Nat} {o : Option Rat} {L : Nat} (h : QQ w s A n c xs B m d ys o L) : goodV s xs ys = o.isSome := by
  cases o with
  | none => exact h.none
  | some q => exact h.some.2.2.2.2.2.2
/-- Two that are told are alike just if they are one. -/
theorem keepQ {o o' : Option Rat} (h : o = o') : (decide (sg (oTop o) = sg (oTop o')) && same (limbs (oTop o).natAbs) (limbs (oTop o').natAbs) && same (limbs (oBot o)) (limbs (oBot o'))) = true := by
  subst h; rw [same_self, same_self]; simp
theorem keepQ_ne {p q : Rat} (h : p ≠ q) : (decide (sg p.num = sg q.num) && same (limbs p.num.natAbs) (limbs q.num.natAbs) && same (limbs p.den) (limbs q.den)) = false := by
  by_cases h1 : p.num = q.num
  · have h2 : p.den ≠ q.den := fun e => h (Rat.ext h1 e)
    rw [same_limbs_ne h2]; simp
  · have e : (decide (sg p.num = sg q.num) && same (limbs p.num.natAbs) (limbs q.num.natAbs)) = false := by
      by_cases h3 : p.num.natAbs = q.num.natAbs
      · have : sg p.num ≠ sg q.num := by
          intro e
          apply h1
          rw [← zOf_sg (z := p.num), ← zOf_sg (z := q.num), e, h3]
        simp [this]
      · rw [same_limbs_ne h3]; simp
    rw [e]; rfl

end Go.Proofs.YtohciicocaoagaaGreat

/- Mathematics of the order of rational numbers and of how many limbs sums and products have. No condition. -/
namespace Go.Proofs.YtohciicocaoagaaGreat
open Go.RowKit Limb
set_option linter.unusedVariables false

theorem cmpQ_lt {p q : Rat} (h : p < q) : cmpQ p q = -1 := cmpZ_lt (Rat.lt_iff p q |>.1 h)
theorem cmpQ_eq {p q : Rat} (h : p = q) : cmpQ p q = 0 := by subst h; exact cmpZ_eq rfl
theorem cmpQ_gt {p q : Rat} (h : q < p) : cmpQ p q = 1 := cmpZ_gt (Rat.lt_iff q p |>.1 h)
theorem rat_tri (p q : Rat) : p < q ∨ p = q ∨ q < p := by
  by_cases h : p < q
  · exact .inl h
  · rcases Rat.le_iff_lt_or_eq.1 (Rat.not_lt.1 h) with h2 | h2
    · exact .inr (.inr h2)
    · exact .inr (.inl h2.symm)
theorem cmpQ_bounds (p q : Rat) : -1 ≤ cmpQ p q ∧ cmpQ p q ≤ 1 := cmpZ_bounds _ _
theorem cmpQ_swap (p q : Rat) : cmpQ q p = -cmpQ p q := cmpZ_swap _ _
theorem cmpQ_zero (p q : Rat) : cmpQ p q = 0 ↔ p = q := by
  constructor
  · intro h
    rcases rat_tri p q with h2 | h2 | h2
    · rw [cmpQ_lt h2] at h; cases h
    · exact h2
    · rw [cmpQ_gt h2] at h; cases h
  · exact cmpQ_eq
theorem cmpQ_add (p q r : Rat) : cmpQ (p + r) (q + r) = cmpQ p q := by
  rcases rat_tri p q with h | h | h
  · rw [cmpQ_lt h, cmpQ_lt (Rat.add_lt_add_right.2 h)]
  · subst h; rw [cmpQ_eq rfl, cmpQ_eq rfl]
  · rw [cmpQ_gt h, cmpQ_gt (Rat.add_lt_add_right.2 h)]
theorem cmpQ_neg (p q : Rat) : cmpQ (-p) (-q) = -cmpQ p q := by
  rcases rat_tri p q with h | h | h
  · rw [cmpQ_lt h, cmpQ_gt (Rat.neg_lt_neg_iff.2 h)]; rfl
  · subst h; rw [cmpQ_eq rfl, cmpQ_eq rfl]; rfl
  · rw [cmpQ_gt h, cmpQ_lt (Rat.neg_lt_neg_iff.2 h)]
theorem cmpQ_sub (p q : Rat) : cmpQ (p - q) 0 = cmpQ p q := by
  have h := cmpQ_add (p - q) 0 q
  rw [Rat.sub_eq_add_neg, Rat.add_assoc, Rat.neg_add_cancel, Rat.add_zero, Rat.zero_add] at h
  rw [Rat.sub_eq_add_neg]
  exact h.symm
theorem cmpQ_mul (p q r : Rat) : cmpQ (p * r) (q * r) = cmpQ p q * cmpQ r 0 := by
  rcases rat_tri r 0 with hr | hr | hr
  · have e : ∀ x : Rat, x * r = -(x * -r) := fun x => by rw [Rat.mul_neg, Rat.neg_neg]
    rw [e p, e q, cmpQ_neg, cmpQ_lt hr]
    have hr2 : 0 < -r := by rw [← Rat.neg_zero]; exact Rat.neg_lt_neg_iff.2 hr
    rcases rat_tri p q with h | h | h
    · rw [cmpQ_lt h, cmpQ_lt (Rat.mul_lt_mul_of_pos_right h hr2)]; rfl
    · subst h; rw [cmpQ_eq rfl, cmpQ_eq rfl]; rfl
    · rw [cmpQ_gt h, cmpQ_gt (Rat.mul_lt_mul_of_pos_right h hr2)]; rfl
  · subst hr; rw [Rat.mul_zero, Rat.mul_zero, cmpQ_eq rfl, Int.mul_zero]
  · rw [cmpQ_gt hr, Int.mul_one]
    rcases rat_tri p q with h | h | h
    · rw [cmpQ_lt h, cmpQ_lt (Rat.mul_lt_mul_of_pos_right h hr)]
    · subst h; rw [cmpQ_eq rfl, cmpQ_eq rfl]
    · rw [cmpQ_gt h, cmpQ_gt (Rat.mul_lt_mul_of_pos_right h hr)]
theorem cmpQ_top (q : Rat) : cmpQ q 0 = cmpZ q.num 0 := by
  show cmpZ (q.num * ((0 : Rat).den : Int)) ((0 : Rat).num * (q.den : Int)) = _
  have e1 : (0 : Rat).den = 1 := rfl
  have e2 : (0 : Rat).num = 0 := rfl
  rw [e1, e2]
  simp

/-- A number's top has less than k limbs and one, its bottom l. -/
def Bd (q : Rat) (k l : Nat) : Prop := q.num.natAbs < 4294967296 ^ k ∧ q.den < 4294967296 ^ l
theorem Bd.mono {q : Rat} {k l k' l' : Nat} (h : Bd q k l) (hk : k ≤ k') (hl : l ≤ l') : Bd q k' l' :=
  ⟨Nat.lt_of_lt_of_le h.1 (Nat.pow_le_pow_right (by decide) hk), Nat.lt_of_lt_of_le h.2 (Nat.pow_le_pow_right (by decide) hl)⟩
theorem Bd.fits {q : Rat} {k l : Nat} (h : Bd q k l) (hk : k ≤ 64) (hl : l ≤ 64) : fitsQ q = true := by
  have h2 := h.mono hk hl
  unfold fitsQ
  rw [decide_eq_true h2.1, decide_eq_true h2.2]; rfl
theorem bd_mk {x : Int} {b k l : Nat} (hb : b ≠ 0) (hx : x.natAbs < 4294967296 ^ k) (hl : b < 4294967296 ^ l) : Bd (mkRat x b) k l := by
  refine ⟨?_, ?_⟩
  · rw [(mk_num hb).1]; exact Nat.lt_of_le_of_lt (Nat.div_le_self _ _) hx
  · rw [mk_den hb]; exact Nat.lt_of_le_of_lt (Nat.div_le_self _ _) hl
theorem Bd.mul {p q : Rat} {a b c d : Nat} (h : Bd p a b) (k : Bd q c d) : Bd (p * q) (a + c) (b + d) := by
  rw [mul_mk]
  refine bd_mk (Nat.mul_ne_zero p.den_nz q.den_nz) ?_ ?_
  · rw [Int.natAbs_mul, Nat.pow_add]; exact Nat.mul_lt_mul'' h.1 k.1
  · rw [Nat.pow_add]; exact Nat.mul_lt_mul'' h.2 k.2
theorem Bd.add {p q : Rat} {a b c d e : Nat} (h : Bd p a b) (k : Bd q c d) (h1 : a + d ≤ e) (h2 : c + b ≤ e) : Bd (p + q) (e + 1) (b + d) := by
  rw [add_mk]
  refine bd_mk (Nat.mul_ne_zero p.den_nz q.den_nz) ?_ ?_
  · have l1 : (p.num * (q.den : Int)).natAbs < 4294967296 ^ e := by
      rw [Int.natAbs_mul, Int.natAbs_natCast]
      have := Nat.mul_lt_mul'' h.1 k.2
      rw [← Nat.pow_add] at this
      exact Nat.lt_of_lt_of_le this (Nat.pow_le_pow_right (by decide) h1)
    have l2 : (q.num * (p.den : Int)).natAbs < 4294967296 ^ e := by
      rw [Int.natAbs_mul, Int.natAbs_natCast]
      have := Nat.mul_lt_mul'' k.1 h.2
      rw [← Nat.pow_add] at this
      exact Nat.lt_of_lt_of_le this (Nat.pow_le_pow_right (by decide) h2)
    exact abs_add_lt l1 l2
  · rw [Nat.pow_add]; exact Nat.mul_lt_mul'' h.2 k.2
theorem Bd.neg {q : Rat} {k l : Nat} (h : Bd q k l) : Bd (-q) k l := ⟨by rw [(neg_top q).1, Int.natAbs_neg]; exact h.1, h.2⟩

/-- Half of the sum lies between. -/
theorem half_lt {p q : Rat} (h : p < q) : p < (p + q) / 2 ∧ (p + q) / 2 < q := by
  have h2 : (0 : Rat) < 2 := by decide
  have e2 : (2 : Rat) ≠ 0 := by decide
  have d2 : ∀ x : Rat, x * 2 = x + x := fun x => by
    have : (2 : Rat) = 1 + 1 := by decide +kernel
    rw [this, Rat.mul_add, Rat.mul_one]
  constructor
  · rw [← Rat.mul_lt_mul_right h2, Rat.div_mul_cancel e2, d2, Rat.add_comm p q]
    exact Rat.add_lt_add_right.2 h
  · rw [← Rat.mul_lt_mul_right h2, Rat.div_mul_cancel e2, d2]
    exact Rat.add_lt_add_right.2 h
theorem half_self (p : Rat) : (p + p) / 2 = p := by
  have e2 : (2 : Rat) ≠ 0 := by decide
  have : p + p = p * 2 := by
    have e : (2 : Rat) = 1 + 1 := by decide +kernel
    rw [e, Rat.mul_add, Rat.mul_one]
  rw [this, Rat.mul_div_cancel e2]
theorem cmpQ_half (p q : Rat) : cmpQ p ((p + q) / 2) = cmpQ p q ∧ cmpQ ((p + q) / 2) q = cmpQ p q := by
  rcases rat_tri p q with h | h | h
  · rw [cmpQ_lt h, cmpQ_lt (half_lt h).1, cmpQ_lt (half_lt h).2]; exact ⟨rfl, rfl⟩
  · subst h; rw [half_self, cmpQ_eq rfl]; exact ⟨rfl, rfl⟩
  · have h2 := half_lt h
    rw [Rat.add_comm q p] at h2
    rw [cmpQ_gt h, cmpQ_gt h2.2, cmpQ_gt h2.1]; exact ⟨rfl, rfl⟩

end Go.Proofs.YtohciicocaoagaaGreat

/- Blocks of three and of four cells: what they hold, what stays where they are filled. No condition. -/
namespace Go.Proofs.YtohciicocaoagaaGreat
open Go.RowKit Limb
set_option linter.unusedVariables false

/-- A block of three cells. -/
def Row3 (w : World) (g : Nat) (T : TypeId) (a b c : Value) : Prop := w.heap[g]? = some (.cells #[a, b, c] T (0, 0))
section
variable {w w' : World} {g : Nat} {T : TypeId} {a b c : Value}
theorem Row3.lt (h : Row3 w g T a b c) : g < w.heap.size := by
  rcases Nat.lt_or_ge g w.heap.size with hlt | hge
  · exact hlt
  · unfold Row3 at h; rw [Array.getElem?_eq_none hge] at h; cases h
theorem Row3.below (h : Row3 w g T a b c) (hb : Below w.heap.size w w') : Row3 w' g T a b c := (hb.block g h.lt).trans h
theorem Row3.c0 (h : Row3 w g T a b c) : w.cell? ⟨g, 0, none⟩ = some a := by unfold Row3 at h; simp [World.cell?, h]
theorem Row3.c1 (h : Row3 w g T a b c) : w.cell? ⟨g, 1, none⟩ = some b := by unfold Row3 at h; simp [World.cell?, h]
theorem Row3.c2 (h : Row3 w g T a b c) : w.cell? ⟨g, 2, none⟩ = some c := by unfold Row3 at h; simp [World.cell?, h]
theorem Row3.free (h : Row3 w g T a b c) (k : Nat) : w.frozen? ⟨g, k, none⟩ = false := by unfold Row3 at h; simp [World.frozen?, h]
theorem Row3.fill (h : Row3 w g T a b c) (x y z : Value) : Row3 (((w.setCell ⟨g, 0, none⟩ x).setCell ⟨g, 1, none⟩ y).setCell ⟨g, 2, none⟩ z) g T x y z := by
  unfold Row3 at h ⊢
  simp [World.setCell, Array.getElem?_modify, h]
theorem row3_new (w : World) (T : TypeId) (a b c : Value) : Row3 (w.alloc (.cells #[a, b, c] T)) w.heap.size T a b c := heap_alloc_new _ _
theorem below_fill3' (h : Below w.heap.size w w') (hg : w.heap.size ≤ g) (x y z : Value) : Below w.heap.size w (((w'.setCell ⟨g, 0, none⟩ x).setCell ⟨g, 1, none⟩ y).setCell ⟨g, 2, none⟩ z) :=
  ((h.setCell (by exact hg) _).setCell (by exact hg) _).setCell (by exact hg) _
end
/-- A block of four cells. -/
def Row4 (w : World) (g : Nat) (T : TypeId) (a b c d : Value) : Prop := w.heap[g]? = some (.cells #[a, b, c, d] T (0, 0))
section
variable {w w' : World} {g : Nat} {T : TypeId} {a b c d : Value}
theorem Row4.lt (h : Row4 w g T a b c d) : g < w.heap.size := by
  rcases Nat.lt_or_ge g w.heap.size with hlt | hge
  · exact hlt
  · unfold Row4 at h; rw [Array.getElem?_eq_none hge] at h; cases h
theorem Row4.below (h : Row4 w g T a b c d) (hb : Below w.heap.size w w') : Row4 w' g T a b c d := (hb.block g h.lt).trans h
theorem Row4.c0 (h : Row4 w g T a b c d) : w.cell? ⟨g, 0, none⟩ = some a := by unfold Row4 at h; simp [World.cell?, h]
theorem Row4.c1 (h : Row4 w g T a b c d) : w.cell? ⟨g, 1, none⟩ = some b := by unfold Row4 at h; simp [World.cell?, h]
theorem Row4.c2 (h : Row4 w g T a b c d) : w.cell? ⟨g, 2, none⟩ = some c := by unfold Row4 at h; simp [World.cell?, h]
theorem Row4.c3 (h : Row4 w g T a b c d) : w.cell? ⟨g, 3, none⟩ = some d := by unfold Row4 at h; simp [World.cell?, h]
theorem Row4.free (h : Row4 w g T a b c d) (k : Nat) : w.frozen? ⟨g, k, none⟩ = false := by unfold Row4 at h; simp [World.frozen?, h]
theorem Row4.fill (h : Row4 w g T a b c d) (x y z v : Value) : Row4 ((((w.setCell ⟨g, 0, none⟩ x).setCell ⟨g, 1, none⟩ y).setCell ⟨g, 2, none⟩ z).setCell ⟨g, 3, none⟩ v) g T x y z v := by
  unfold Row4 at h ⊢
  simp [World.setCell, Array.getElem?_modify, h]
theorem row4_new (w : World) (T : TypeId) (a b c d : Value) : Row4 (w.alloc (.cells #[a, b, c, d] T)) w.heap.size T a b c d := heap_alloc_new _ _
theorem below_fill4 (h : Below w.heap.size w w') (hg : w.heap.size ≤ g) (x y z v : Value) : Below w.heap.size w ((((w'.setCell ⟨g, 0, none⟩ x).setCell ⟨g, 1, none⟩ y).setCell ⟨g, 2, none⟩ z).setCell ⟨g, 3, none⟩ v) :=
  (((h.setCell (by exact hg) _).setCell (by exact hg) _).setCell (by exact hg) _).setCell (by exact hg) _
end

/-- A block in which no limb lies. -/
def NoLimb (w : World) (g : Nat) : Prop := ∀ o v, w.cell? ⟨g, o, none⟩ ≠ some (.int .u32 v)
theorem apart_of {w : World} {A : Option Addr} {n c : Nat} {xs : List Nat} {a L g : Nat} (h : NN w A n c xs a L) (hg : NoLimb w g) : Apart g A n := by
  intro hn b o s e
  obtain ⟨b', o', e', hlt, hc⟩ := h.isN.2.2 hn
  rw [e] at e'
  injection e' with e'
  injection e' with e1 e2
  rintro rfl
  subst e1
  exact hg _ _ (hc 0 hn)
theorem Row3.noLimb {w : World} {g : Nat} {T : TypeId} {a b c : Value} (h : Row3 w g T a b c) (ha : ∀ v, a ≠ .int .u32 v) (hb : ∀ v, b ≠ .int .u32 v) (hc : ∀ v, c ≠ .int .u32 v) : NoLimb w g := by
  intro o v e
  unfold Row3 at h
  match o, e with
  | 0, e => rw [show w.cell? ⟨g, 0, none⟩ = some a by simp [World.cell?, h]] at e; exact ha v (Option.some.inj e)
  | 1, e => rw [show w.cell? ⟨g, 1, none⟩ = some b by simp [World.cell?, h]] at e; exact hb v (Option.some.inj e)
  | 2, e => rw [show w.cell? ⟨g, 2, none⟩ = some c by simp [World.cell?, h]] at e; exact hc v (Option.some.inj e)
  | o + 3, e => simp [World.cell?, h] at e
theorem Row4.noLimb {w : World} {g : Nat} {T : TypeId} {a b c d : Value} (h : Row4 w g T a b c d) (ha : ∀ v, a ≠ .int .u32 v) (hb : ∀ v, b ≠ .int .u32 v) (hc : ∀ v, c ≠ .int .u32 v) (hd : ∀ v, d ≠ .int .u32 v) : NoLimb w g := by
  intro o v e
  unfold Row4 at h
  match o, e with
  | 0, e => rw [show w.cell? ⟨g, 0, none⟩ = some a by simp [World.cell?, h]] at e; exact ha v (Option.some.inj e)
  | 1, e => rw [show w.cell? ⟨g, 1, none⟩ = some b by simp [World.cell?, h]] at e; exact hb v (Option.some.inj e)
  | 2, e => rw [show w.cell? ⟨g, 2, none⟩ = some c by simp [World.cell?, h]] at e; exact hc v (Option.some.inj e)
  | 3, e => rw [show w.cell? ⟨g, 3, none⟩ = some d by simp [World.cell?, h]] at e; exact hd v (Option.some.inj e)
  | o + 4, e => simp [World.cell?, h] at e
theorem NN.fillR3 {w : World} {A : Option Addr} {n c : Nat} {xs : List Nat} {a L g : Nat} (h : NN w A n c xs a L) (hg : NoLimb w g) (x y z : Value) : NN (((w.setCell ⟨g, 0, none⟩ x).setCell ⟨g, 1, none⟩ y).setCell ⟨g, 2, none⟩ z) A n c xs a L :=
  ((h.elsewhere (apart_of h hg) 0 x).elsewhere (apart_of h hg) 1 y).elsewhere (apart_of h hg) 2 z
theorem NN.fillR4 {w : World} {A : Option Addr} {n c : Nat} {xs : List Nat} {a L g : Nat} (h : NN w A n c xs a L) (hg : NoLimb w g) (x y z v : Value) : NN ((((w.setCell ⟨g, 0, none⟩ x).setCell ⟨g, 1, none⟩ y).setCell ⟨g, 2, none⟩ z).setCell ⟨g, 3, none⟩ v) A n c xs a L :=
  (h.fillR3 hg x y z).elsewhere (apart_of h hg) 3 v
theorem ZZ.fillR3 {w : World} {s : Bool} {A : Option Addr} {n c : Nat} {xs : List Nat} {z : Int} {L g : Nat} (h : ZZ w s A n c xs z L) (hg : NoLimb w g) (x y v : Value) : ZZ (((w.setCell ⟨g, 0, none⟩ x).setCell ⟨g, 1, none⟩ y).setCell ⟨g, 2, none⟩ v) s A n c xs z L := ⟨h.nn.fillR3 hg x y v, h.sgn⟩
theorem ZZ.fillR4 {w : World} {s : Bool} {A : Option Addr} {n c : Nat} {xs : List Nat} {z : Int} {L g : Nat} (h : ZZ w s A n c xs z L) (hg : NoLimb w g) (x y v u : Value) : ZZ ((((w.setCell ⟨g, 0, none⟩ x).setCell ⟨g, 1, none⟩ y).setCell ⟨g, 2, none⟩ v).setCell ⟨g, 3, none⟩ u) s A n c xs z L := ⟨h.nn.fillR4 hg x y v u, h.sgn⟩

end Go.Proofs.YtohciicocaoagaaGreat

/- Mathematics of what calls on rational numbers tell: a number or none, and the error beside it. No condition. -/
namespace Go.Proofs.YtohciicocaoagaaGreat
open Go.RowKit Limb
set_option linter.unusedVariables false

theorem whole_fits {v : Int} (h0 : -9223372036854775808 ≤ v) (h1 : v ≤ 9223372036854775807) : fitsQ (v : Rat) = true := by
  simp only [fitsQ, Bool.and_eq_true, decide_eq_true_eq]
  have e : (4294967296 : Nat) ^ 2 ≤ 4294967296 ^ 64 := Nat.pow_le_pow_right (by decide) (by decide)
  have e1 : ((v : Rat)).num = v := rfl
  have e2 : ((v : Rat)).den = 1 := rfl
  rw [e1, e2]
  omega
theorem neg_fits {q : Rat} (h : fitsQ q = true) : fitsQ (-q) = true := by
  unfold fitsQ at h ⊢
  rw [(neg_top q).1, (neg_top q).2, Int.natAbs_neg]; exact h
/-- What a call on two numbers tells: of what may not be nothing, and the error 1. -/
def opR (f : Rat → Rat → Option Rat × Int) : Option Rat → Option Rat → Option Rat × Int
  | some p, some q => f p q
  | _, _ => (none, 1)
def limR (q : Rat) : Option Rat × Int := (limQ q, limE q)
def addR : Option Rat → Option Rat → Option Rat × Int := opR fun p q => limR (p + q)
def subR : Option Rat → Option Rat → Option Rat × Int := opR fun p q => limR (p - q)
def mulR : Option Rat → Option Rat → Option Rat × Int := opR fun p q => limR (p * q)
def divR : Option Rat → Option Rat → Option Rat × Int := opR fun p q => if q.num = 0 then (none, 3) else limR (p / q)
def ofR (x : Int) (b : Nat) : Option Rat × Int := if b = 0 then (none, 3) else limR (mkRat x b)
def cmpR : Option Rat → Option Rat → Int
  | some p, some q => cmpQ p q
  | _, _ => 0
def sameR (o o' : Option Rat) : Bool := o.isSome && decide (o = o')
theorem limR_yes {q : Rat} (h : fitsQ q = true) : limR q = (some q, 0) := by unfold limR; rw [limQ_yes h, limE_yes h]
theorem limR_fits {q : Rat} {k l : Nat} (h : Bd q k l) (hk : k ≤ 64) (hl : l ≤ 64) : limR q = (some q, 0) := limR_yes (h.fits hk hl)

theorem sub_mk (p q : Rat) : p - q = mkRat (p.num * (q.den : Int) + -(q.num * (p.den : Int))) (p.den * q.den) := by
  rw [Rat.sub_eq_add_neg, add_mk, (neg_top q).1, (neg_top q).2, Int.neg_mul]
theorem den_pos (q : Rat) : (0 : Int) < (q.den : Int) := by have := q.den_nz; omega
theorem sg_mul_den (z : Int) (q : Rat) : sg (z * (q.den : Int)) = sg z := by
  have h := den_pos q
  rcases Int.lt_trichotomy z 0 with h1 | h1 | h1
  · rw [sg_neg h1, sg_neg (Int.mul_neg_of_neg_of_pos h1 h)]
  · subst h1; rw [Int.zero_mul]
  · rw [sg_pos (Int.le_of_lt h1), sg_pos (Int.le_of_lt (Int.mul_pos h1 h))]
theorem zz_turn {s : Bool} {a : Nat} {x : Int} (h : zOf s a = x) : zOf (!s) a = -x := by
  subst h; cases s <;> simp [zOf]
theorem zz_sg (x : Int) : zOf (sg x) x.natAbs = x := by
  unfold zOf sg
  by_cases h : x < 0
  · simp [h]; omega
  · simp [h]; omega
/-- A quotient out of both products over the cross. -/
theorem div_cross {p q : Rat} (h : q.num ≠ 0) : mkRat (zOf (sg (p.num * (q.den : Int)) != sg (q.num * (p.den : Int))) (p.num * (q.den : Int)).natAbs) (q.num * (p.den : Int)).natAbs = p / q := by
  rw [div_mk h, sg_mul_den q.num p]
  congr 1
  · cases hs : sg q.num with
    | false => rw [Bool.bne_false, zz_sg]; unfold zOf; simp
    | true => rw [Bool.bne_true, zz_turn (zz_sg _)]; unfold zOf; simp [Int.mul_neg]
  · rw [Int.natAbs_mul, Int.natAbs_natCast, Nat.mul_comm]
theorem cross_zero {p q : Rat} : (q.num * (p.den : Int)).natAbs = 0 ↔ q.num = 0 := by
  rw [Int.natAbs_eq_zero, Int.mul_eq_zero]
  have := den_pos p
  constructor
  · rintro (h | h)
    · exact h
    · omega
  · exact .inl
/-- A top without the divisors in common: its sign stays. -/
theorem zz_div {s : Bool} {x : Int} {b : Nat} (hs : zOf s x.natAbs = x) (hb : b ≠ 0) : zOf s (x.natAbs / Nat.gcd x.natAbs b) = (mkRat x b).num := by
  obtain ⟨m1, m2⟩ := mk_num (x := x) hb
  rw [← m1]
  by_cases h0 : x = 0
  · have e : (mkRat x b).num.natAbs = 0 := by rw [m1, h0]; simp
    rw [e]
    have : (mkRat x b).num = 0 := by omega
    rw [this]; unfold zOf; split <;> rfl
  · have e : s = sg x := by
      cases s with
      | true => symm; apply sg_neg; unfold zOf at hs; rw [if_pos rfl] at hs; omega
      | false => symm; apply sg_pos; unfold zOf at hs; rw [if_neg (by decide)] at hs; omega
    rw [e, ← m2, zz_sg]
theorem ZZ.zo {w : World} {s : Bool} {A : Option Addr} {n c : Nat} {xs : List Nat} {x : Int} {L : Nat} (h : ZZ w s A n c xs x L) : zOf s x.natAbs = x := h.sgn.symm
theorem zz_pos {w : World} {B : Option Addr} {m d : Nat} {ys : List Nat} {b L : Nat} (h : NN w B m d ys b L) : ZZ w false B m d ys (b : Int) L := ⟨by rw [Int.natAbs_natCast]; exact h, by simp⟩
theorem zz_none (w : World) : ZZ w false none 0 0 [] 0 0 := ⟨⟨IsN.nil _ _, rfl, Nat.le_refl _, Nat.zero_le _⟩, rfl⟩

theorem len_fits (a : Nat) : (limbs a).length ≤ 64 ↔ a < 4294967296 ^ 64 := by
  constructor
  · intro h
    rcases Nat.lt_or_ge a (4294967296 ^ 64) with h2 | h2
    · exact h2
    · have := lt_length_limbs h2; omega
  · exact fun h => length_limbs_le h
theorem fits_len (q : Rat) {n m : Nat} (hn : (limbs q.num.natAbs).length = n) (hm : (limbs q.den).length = m) : (decide (n ≤ 64) && decide (m ≤ 64)) = fitsQ q := by
  subst hn; subst hm
  unfold fitsQ
  rw [decide_eq_decide.2 (len_fits q.num.natAbs), decide_eq_decide.2 (len_fits q.den)]
theorem ofR_zero {x : Int} {b : Nat} {r : Option Rat} {e : Int} (hb : b = 0) (h : ofR x b = (r, e)) : r = none ∧ e = 3 := by
  unfold ofR at h; rw [if_pos hb] at h; cases h; exact ⟨rfl, rfl⟩
theorem ofR_yes {x : Int} {b : Nat} {r : Option Rat} {e : Int} (hb : b ≠ 0) (h : ofR x b = (r, e)) : limR (mkRat x b) = (r, e) := by
  unfold ofR at h; rwa [if_neg hb] at h
theorem limR_no {q : Rat} (h : fitsQ q = false) : limR q = (none, 2) := by unfold limR; rw [limQ_no h, limE_no h]

/-- Two that read as numbers are one just if they stand there alike. -/
theorem same_read {s s' : Bool} {xs ys xs' ys' : List Nat} {q : Rat} {o' : Option Rat} (h : readQ s xs ys = some q) (h' : readQ s' xs' ys' = o') : (decide (s = s') && decide (xs = xs') && decide (ys = ys')) = decide (some q = o') := by
  rw [Bool.eq_iff_iff]
  simp only [Bool.and_eq_true, decide_eq_true_eq]
  constructor
  · rintro ⟨⟨rfl, rfl⟩, rfl⟩; exact h.symm.trans h'
  · intro e
    rw [← e] at h'
    have g : goodV s xs ys = true := by
      cases hg : goodV s xs ys with
      | true => rfl
      | false => rw [readQ_no hg] at h; cases h
    have g' : goodV s' xs' ys' = true := by
      cases hg : goodV s' xs' ys' with
      | true => rfl
      | false => rw [readQ_no hg] at h'; cases h'
    obtain ⟨q1, e1, a1, a2, a3, _⟩ := readQ_yes g
    obtain ⟨q2, e2, b1, b2, b3, _⟩ := readQ_yes g'
    rw [h] at e1
    rw [h'] at e2
    cases e1
    cases e2
    exact ⟨⟨a1.trans b1.symm, a2.trans b2.symm⟩, a3.trans b3.symm⟩
/-- A block made behind the world w0. -/
def Over (w0 : World) (q : Nat) (w : World) : Prop := w0.heap.size ≤ q
theorem Over.below {w0 w w' : World} {q : Nat} (h : Over w0 q w) (hb : Below w.heap.size w w') : Over w0 q w' := h
theorem ofR_cross {p q : Rat} : ofR (zOf (sg (p.num * (q.den : Int)) != sg (q.num * (p.den : Int))) (p.num * (q.den : Int)).natAbs) (q.num * (p.den : Int)).natAbs = divR (some p) (some q) := by
  show _ = if q.num = 0 then ((none : Option Rat), (3 : Int)) else limR (p / q)
  unfold ofR
  by_cases h : q.num = 0
  · rw [if_pos (cross_zero.2 h), if_pos h]
  · rw [if_neg (mt cross_zero.1 h), if_neg h, div_cross h]
theorem QQ.fillR3 {w : World} {s : Bool} {A : Option Addr} {n c : Nat} {xs : List Nat} {B : Option Addr} {m d : Nat} {ys : List Nat} {o : Option Rat} {L g : Nat} (h : QQ w s A n c xs B m d ys o L) (hg : NoLimb w g) (x y z : Value) :
    QQ (((w.setCell ⟨g, 0, Option.none⟩ x).setCell ⟨g, 1, Option.none⟩ y).setCell ⟨g, 2, Option.none⟩ z) s A n c xs B m d ys o L := ⟨h.top.fillR3 hg x y z, h.bot.fillR3 hg x y z, h.rd⟩
theorem QQ.fillR4 {w : World} {s : Bool} {A : Option Addr} {n c : Nat} {xs : List Nat} {B : Option Addr} {m d : Nat} {ys : List Nat} {o : Option Rat} {L g : Nat} (h : QQ w s A n c xs B m d ys o L) (hg : NoLimb w g) (x y z v : Value) :
    QQ ((((w.setCell ⟨g, 0, Option.none⟩ x).setCell ⟨g, 1, Option.none⟩ y).setCell ⟨g, 2, Option.none⟩ z).setCell ⟨g, 3, Option.none⟩ v) s A n c xs B m d ys o L := ⟨h.top.fillR4 hg x y z v, h.bot.fillR4 hg x y z v, h.rd⟩

end Go.Proofs.YtohciicocaoagaaGreat

/- Mathematics of the statements of stage 7: which sums, products and quotients have room, and what they are. No condition. -/
namespace Go.Proofs.YtohciicocaoagaaGreat
open Go.RowKit Limb
set_option linter.unusedVariables false

theorem QQ.of {w : World} {s : Bool} {A : Option Addr} {n c : Nat} {xs : List Nat} {B : Option Addr} {m d : Nat} {ys : List Nat} {K : Nat} (i : IsN w A n xs) (hc : n ≤ c) (j : IsN w B m ys) (kc : m ≤ d) (h : n ≤ K) (h' : m ≤ K) : QQ w s A n c xs B m d ys (readQ s xs ys) K :=
  ⟨ZZ.of ⟨i, rfl, hc, h⟩, ⟨j, rfl, kc, h'⟩, rfl⟩
/-- An argument that is a number stands there as what is told. -/
theorem qq_told {w : World} {s : Bool} {A : Option Addr} {n c : Nat} {xs : List Nat} {B : Option Addr} {m d : Nat} {ys : List Nat} {q : Rat} {L : Nat} (h : QQ w s A n c xs B m d ys (some q) L) :
    s = sg (oTop (some q)) ∧ xs = limbs (oTop (some q)).natAbs ∧ ys = limbs (oBot (some q)) ∧ QQ w s A n c xs B m d ys (some q) 64 ∧ n ≤ 64 ∧ m ≤ 64 ∧ Bd q n m := by
  obtain ⟨h1, h2, h3, h4, h5, h6, h7⟩ := h.some
  have hn := h5.nn.isN.len
  have hm := h6.isN.len
  obtain ⟨_, _, _, _, l1, l2, _⟩ := goodV_iff.1 h7
  have v1 := val_lt h5.nn.isN.small
  have v2 := val_lt h6.isN.small
  rw [h5.nn.val, hn] at v1
  rw [h6.val, hm] at v2
  exact ⟨h1, h2, h3, ⟨h.top.nn.short (by omega) |> fun t => ⟨t, h.top.sgn⟩, h.bot.short (by omega), h.rd⟩, by omega, by omega, v1, v2⟩

theorem add_is {p q z : Rat} {k l : Nat} (e : p + q = z) (h : Bd z k l) (hk : k ≤ 64) (hl : l ≤ 64) : addR (some p) (some q) = (some z, 0) := by
  show limR (p + q) = _
  rw [e]; exact limR_fits h hk hl
theorem sub_is {p q z : Rat} {k l : Nat} (e : p - q = z) (h : Bd z k l) (hk : k ≤ 64) (hl : l ≤ 64) : subR (some p) (some q) = (some z, 0) := by
  show limR (p - q) = _
  rw [e]; exact limR_fits h hk hl
theorem mul_is {p q z : Rat} {k l : Nat} (e : p * q = z) (h : Bd z k l) (hk : k ≤ 64) (hl : l ≤ 64) : mulR (some p) (some q) = (some z, 0) := by
  show limR (p * q) = _
  rw [e]; exact limR_fits h hk hl
theorem div_is {p q z : Rat} {k l : Nat} (h0 : q.num ≠ 0) (e : p / q = z) (h : Bd z k l) (hk : k ≤ 64) (hl : l ≤ 64) : divR (some p) (some q) = (some z, 0) := by
  show (if q.num = 0 then ((none : Option Rat), (3 : Int)) else limR (p / q)) = _
  rw [if_neg h0, e]; exact limR_fits h hk hl
theorem div_no {p q : Rat} (h0 : q.num = 0) : divR (some p) (some q) = (none, 3) := by
  show (if q.num = 0 then ((none : Option Rat), (3 : Int)) else limR (p / q)) = _
  rw [if_pos h0]
theorem add_back (p q : Rat) : p + q - q = p := by rw [Rat.sub_eq_add_neg, Rat.add_assoc, Rat.add_neg_cancel, Rat.add_zero]
theorem num_ne {q : Rat} (h : q.num ≠ 0) : q ≠ 0 := fun e => h (by rw [e]; rfl)

theorem field_facts {a b c : Rat} {na ma nb mb nc mc : Nat} (ha : Bd a na ma) (hb : Bd b nb mb) (hc : Bd c nc mc) (hT : na + nb + nc + ma + mb + mc ≤ 40) :
    ∃ s u v p x y z : Rat, addR (some a) (some b) = (some s, 0) ∧ addR (some b) (some a) = (some s, 0) ∧ addR (some s) (some c) = (some u, 0) ∧ addR (some b) (some c) = (some v, 0) ∧ addR (some a) (some v) = (some u, 0) ∧
      mulR (some a) (some b) = (some p, 0) ∧ mulR (some b) (some a) = (some p, 0) ∧ mulR (some s) (some c) = (some x, 0) ∧ mulR (some a) (some c) = (some y, 0) ∧ mulR (some b) (some c) = (some z, 0) ∧ addR (some y) (some z) = (some x, 0) ∧
      subR (some s) (some b) = (some a, 0) ∧ (b.num = 0 → divR (some p) (some b) = (none, 3)) ∧ (b.num ≠ 0 → divR (some p) (some b) = (some a, 0)) := by
  have hs : Bd (a + b) (na + mb + nb + ma + 1) (ma + mb) := ha.add hb (by omega) (by omega)
  have hu : Bd (a + b + c) (na + mb + nb + ma + 1 + mc + nc + 1) (ma + mb + mc) := hs.add hc (by omega) (by omega)
  have hv : Bd (b + c) (nb + mc + nc + mb + 1) (mb + mc) := hb.add hc (by omega) (by omega)
  have hp := ha.mul hb
  have hx := hs.mul hc
  have hy := ha.mul hc
  have hz := hb.mul hc
  refine ⟨a + b, a + b + c, b + c, a * b, (a + b) * c, a * c, b * c, add_is rfl hs (by omega) (by omega), add_is (Rat.add_comm _ _) hs (by omega) (by omega), add_is rfl hu (by omega) (by omega), add_is rfl hv (by omega) (by omega), add_is (Rat.add_assoc _ _ _).symm hu (by omega) (by omega),
    mul_is rfl hp (by omega) (by omega), mul_is (Rat.mul_comm _ _) hp (by omega) (by omega), mul_is rfl hx (by omega) (by omega), mul_is rfl hy (by omega) (by omega), mul_is rfl hz (by omega) (by omega), add_is (Rat.add_mul _ _ _).symm hx (by omega) (by omega),
    sub_is (add_back _ _) ha (by omega) (by omega), fun h => div_no h, fun h => div_is h (Rat.mul_div_cancel (num_ne h)) ha (by omega) (by omega)⟩

theorem sign_wrap {x : Int} (h : -1 ≤ x ∧ x ≤ 1) : IntKind.i64.wrap x = x := by rw [IntKind.wrap_i64]; omega
theorem cmpR_some (p q : Rat) : cmpR (some p) (some q) = cmpQ p q := rfl
theorem sign_num {q : Rat} : (cmpQ q 0 == 0) = decide (q.num = 0) := by
  rw [Bool.eq_iff_iff, beq_iff_eq, decide_eq_true_eq, cmpQ_zero]
  exact ⟨fun h => by rw [h]; rfl, fun h => Rat.num_eq_zero.1 h⟩

theorem order_facts {a b c : Rat} {na ma nb mb nc mc : Nat} (ha : Bd a na ma) (hb : Bd b nb mb) (hc : Bd c nc mc) (hT : na + nb + nc + ma + mb + mc ≤ 40) :
    ∃ (s t p q d : Rat) (x y u v : Int), addR (some a) (some c) = (some s, 0) ∧ addR (some b) (some c) = (some t, 0) ∧ mulR (some a) (some c) = (some p, 0) ∧ mulR (some b) (some c) = (some q, 0) ∧ subR (some a) (some b) = (some d, 0) ∧
      cmpR (some a) (some b) = x ∧ cmpR (some b) (some a) = y ∧ cmpR (some s) (some t) = x ∧ cmpR (some c) (some 0) = u ∧ cmpR (some p) (some q) = v ∧ cmpR (some d) (some 0) = x ∧ cmpR (some (-a)) (some (-b)) = y ∧
      IntKind.i64.wrap (-y) = x ∧ IntKind.i64.wrap (-x) = y ∧ IntKind.i64.wrap (x * u) = v ∧ sameR (some a) (some b) = (x == 0) ∧ decide (some a = some b) = (x == 0) := by
  have hs : Bd (a + c) (na + mc + nc + ma + 1) (ma + mc) := ha.add hc (by omega) (by omega)
  have ht : Bd (b + c) (nb + mc + nc + mb + 1) (mb + mc) := hb.add hc (by omega) (by omega)
  have hd : Bd (a - b) (na + mb + nb + ma + 1) (ma + mb) := by rw [Rat.sub_eq_add_neg]; exact ha.add hb.neg (by omega) (by omega)
  have e1 := cmpQ_swap a b
  have b1 := cmpQ_bounds a b
  have b2 := cmpQ_bounds c 0
  have b3 := cmpQ_bounds (a * c) (b * c)
  have e2 := cmpQ_mul a b c
  refine ⟨a + c, b + c, a * c, b * c, a - b, cmpQ a b, cmpQ b a, cmpQ c 0, cmpQ (a * c) (b * c), add_is rfl hs (by omega) (by omega), add_is rfl ht (by omega) (by omega), mul_is rfl (ha.mul hc) (by omega) (by omega), mul_is rfl (hb.mul hc) (by omega) (by omega), sub_is rfl hd (by omega) (by omega),
    rfl, rfl, cmpQ_add a b c, rfl, rfl, cmpQ_sub a b, ?_, ?_, ?_, ?_, ?_, ?_⟩
  · rw [cmpR_some, cmpQ_neg, e1]
  · rw [e1, Int.neg_neg]; exact sign_wrap b1
  · rw [← e1]; exact sign_wrap (cmpQ_bounds b a)
  · rw [← e2]; exact sign_wrap b3
  · show decide (some a = some b) = _
    rw [Bool.eq_iff_iff, beq_iff_eq, decide_eq_true_eq, cmpQ_zero]; simp
  · rw [Bool.eq_iff_iff, beq_iff_eq, decide_eq_true_eq, cmpQ_zero]; simp

theorem between_facts {a b : Rat} {na ma nb mb : Nat} (ha : Bd a na ma) (hb : Bd b nb mb) (hT : na + nb + ma + mb ≤ 40) :
    ∃ (s h t : Rat) (x : Int), ((2 : Int) : Rat) = t ∧ addR (some a) (some b) = (some s, 0) ∧ divR (some s) (some t) = (some h, 0) ∧ cmpR (some a) (some b) = x ∧ cmpR (some a) (some h) = x ∧ cmpR (some h) (some b) = x := by
  have hs : Bd (a + b) (na + mb + nb + ma + 1) (ma + mb) := ha.add hb (by omega) (by omega)
  have h2 : Bd ((1 : Rat) / 2) 1 1 := by unfold Bd; decide +kernel
  have e : (a + b) / 2 = (a + b) * (1 / 2) := by rw [Rat.div_def, Rat.div_def, Rat.one_mul]
  have hh := hs.mul h2
  rw [← e] at hh
  have e2 : ((2 : Int) : Rat) = 2 := rfl
  obtain ⟨c1, c2⟩ := cmpQ_half a b
  exact ⟨a + b, (a + b) / 2, 2, cmpQ a b, e2, add_is rfl hs (by omega) (by omega), div_is (by decide +kernel) rfl hh (by omega) (by omega), rfl, c1, c2⟩

theorem Row3.set {w : World} {g g' : Nat} {T : TypeId} {a b c : Value} (h : Row3 w g' T a b c) (hne : g ≠ g') (o : Nat) (v : Value) : Row3 (w.setCell ⟨g, o, Option.none⟩ v) g' T a b c := by
  unfold Row3 at h ⊢
  simp only [World.setCell, Array.getElem?_modify]
  rw [if_neg hne]; exact h
theorem Row4.set {w : World} {g g' : Nat} {T : TypeId} {a b c d : Value} (h : Row4 w g' T a b c d) (hne : g ≠ g') (o : Nat) (v : Value) : Row4 (w.setCell ⟨g, o, Option.none⟩ v) g' T a b c d := by
  unfold Row4 at h ⊢
  simp only [World.setCell, Array.getElem?_modify]
  rw [if_neg hne]; exact h
theorem keep_self3 (s : Bool) (xs ys : List Nat) : (decide (s = s) && same xs xs && same ys ys) = true := by rw [same_self, same_self]; simp
theorem of_nought (x : Int) : ofR x 0 = (none, 3) := if_pos rfl
theorem ofR_cases {x : Int} {b : Nat} {r : Option Rat} {e : Int} (h : ofR x b = (r, e)) : (r = none ∧ e = 3) ∨ (r = none ∧ e = 2) ∨ ∃ q, r = some q ∧ e = 0 := by
  by_cases hb : b = 0
  · exact .inl (ofR_zero hb h)
  · have h2 := ofR_yes hb h
    cases hf : fitsQ (mkRat x b) with
    | false => rw [limR_no hf] at h2; cases h2; exact .inr (.inl ⟨rfl, rfl⟩)
    | true => rw [limR_yes hf] at h2; cases h2; exact .inr (.inr ⟨_, rfl, rfl⟩)
theorem keep_read {w : World} {s s' : Bool} {A B A' B' : Option Addr} {n c m d n' c' m' d' : Nat} {xs ys xs' ys' : List Nat} {q : Rat} {o' : Option Rat} {L L' : Nat} (h : QQ w s A n c xs B m d ys (some q) L) (h' : QQ w s' A' n' c' xs' B' m' d' ys' o' L') :
    (decide (s = s') && same xs xs' && same ys ys') = decide (some q = o') := same_read h.rd h'.rd
theorem wrap_both {a b : Int} (h : IntKind.i64.wrap a = b) : wrap64 a = b := by
  rw [IntKind.wrap_i64] at h; unfold wrap64; omega
theorem or_one {Y : Nat} (hY : Y < 4294967296) : ∃ k : Nat, bits .or .u32 (Y : Int) 1 = (k : Int) ∧ k < 4294967296 ∧ k ≠ 0 := by
  refine ⟨Y ||| 1, u32_or_nat Y 1 hY (by decide), Nat.or_lt_two_pow (n := 32) hY (by decide), fun h => ?_⟩
  have h2 : (Y ||| 1).testBit 0 = false := by rw [h]; rfl
  rw [Nat.testBit_or] at h2
  simp at h2

/-- With a factor more it is the same number. -/
theorem ofR_factor {q : Rat} {k : Nat} (hk : k ≠ 0) (hf : fitsQ q = true) : ofR (zOf (sg q.num) (q.num.natAbs * k)) (q.den * k) = (some q, 0) := by
  have e : zOf (sg q.num) (q.num.natAbs * k) = q.num * (k : Int) := by
    have h := zz_sg q.num
    cases hs : sg q.num with
    | true => rw [hs] at h; unfold zOf at h ⊢; rw [if_pos rfl] at h ⊢; rw [← h]; simp [Int.neg_mul]
    | false => rw [hs] at h; unfold zOf at h ⊢; rw [if_neg (by decide)] at h ⊢; rw [← h]; simp
  unfold ofR
  rw [if_neg (Nat.mul_ne_zero q.den_nz hk), e]
  have e2 : mkRat (q.num * (k : Int)) (q.den * k) = q := by
    rw [Rat.mkRat_mul_right hk, Rat.mkRat_self]
  rw [e2]; exact limR_yes hf

end Go.Proofs.YtohciicocaoagaaGreat

/- What package whole's own helpers answer (signed, isBelow), and strings.CutPrefix of a minus sign, as contracts over memory. Conditions: sizes of at most so many limbs. -/
namespace Go.Proofs.YtohciicocaoagaaGreat
open Go.RowKit Limb
set_option linter.unusedVariables false

theorem len_limbs_zero {a : Nat} : (limbs a).length = 0 ↔ a = 0 := by
  constructor
  · intro h
    have h2 := val_limbs a
    rw [List.eq_nil_of_length_eq_zero h] at h2
    exact h2.symm
  · rintro rfl; rw [limbs_zero]; rfl

/-- Two results: a row of cells, and a plain one. -/
theorem results_mixed {P : Program} {fn : Func} {p q : Tmp} {ty : TypeId} (h : fn.results = #[.cell p ty, .tmp q]) (tmps : Array Value) (w : World) (g : Nat) (t : TypeId) (cs : Array Value) (fr : Nat × Nat) (d : TypeDesc) (v : Value)
    (hp : tmps.getD p undef = .pointer (some ⟨g, 0, none⟩)) (hq : tmps.getD q undef = v) (hg : w.heap[g]? = some (.cells cs t fr))
    (hu : P.underlying ty = some d) (hd : (match d with | .struct _ | .array _ _ => true | _ => false) = true) (hi : (P.info? ty).map (·.size) = some cs.size) :
    (results fn tmps).run P w = .ok (.tuple #[.agg cs, v]) w := by
  have hp' : tmps[p]?.getD undef = .pointer (some ⟨g, 0, none⟩) := by simpa using hp
  have hq' : tmps[q]?.getD undef = v := by simpa using hq
  simp [results, h, hp', hq', asAddr, run_loadVar_row w g t ty cs fr d hg hu hd hi]

section
variable {w : World} {s s' : Bool} {A A' : Option Addr} {n c n' c' : Nat} {xs ys : List Nat} {x y : Int} {L L' : Nat}

theorem signed_c {a : Nat} (hx : NN w A n c (limbs a) a L) (b : Bool) (z : Int) (hz : zOf b a = z) :
    Calls Tryz.prog 61 #[.bool b, .slice A n c] w fun e w' => e = .returned (.agg #[.bool (sg z), .slice A n c]) ∧ ZZ w' (sg z) A n c (limbs z.natAbs) z L ∧ Below w.heap.size w w' := by
  have ez : z.natAbs = a := by rw [← hz, zOf_abs]
  have hn : n = 0 ↔ a = 0 := by rw [← hx.isN.len]; exact len_limbs_zero
  have HZ : RowKit.Hid (ZZ w (sg z) A n c (limbs z.natAbs) z L) := ZZ.mk' (by rw [ez]; exact hx)
  clear hx
  by_cases hb : b = true
  · subst hb
    by_cases h0 : a = 0
    · have es : sg z = false := by rw [← hz, h0]; rfl
      obtain rfl : n = 0 := hn.2 h0
      rw [es] at HZ ⊢
      clear es hn ez hz h0
      go_enter Tryz.func61, Tryz.ntmps61
      go_wp2
      refine bodyPost_ret (results_cell_row rfl _ _ w.heap.size 25 #[.bool false, .slice A 0 c] (0, 0) _ rfl (row2_new w _ _ _) Tryz.underlying25 rfl int_size) rfl ?_
      exact ⟨rfl, HZ.out.below (below_new _ _), below_new _ _⟩
    · have es : sg z = true := by
        rw [← hz]; apply sg_neg
        unfold zOf; rw [if_pos rfl]; omega
      have Hp : RowKit.Hid (decide (0 < n) = true) := by
        have : n ≠ 0 := fun h => h0 (hn.1 h)
        show _ = _
        rw [decide_eq_true_eq]; omega
      rw [es] at HZ ⊢
      clear es hn ez hz h0
      go_enter Tryz.func61, Tryz.ntmps61
      go_wp2
      refine bodyPost_ret (results_cell_row rfl _ _ w.heap.size 25 #[.bool (decide (0 < n)), .slice A n c] (0, 0) _ rfl (row2_new w _ _ _) Tryz.underlying25 rfl int_size) rfl ?_
      exact ⟨by rw [Hp.out], HZ.out.below (below_new _ _), below_new _ _⟩
  · have hb2 : b = false := by simpa using hb
    subst hb2
    have es : sg z = false := by rw [← hz]; apply sg_pos; unfold zOf; simp
    rw [es] at HZ ⊢
    clear es hn ez hz hb
    go_enter Tryz.func61, Tryz.ntmps61
    go_wp2
    refine bodyPost_ret (results_cell_row rfl _ _ w.heap.size 25 #[.bool false, .slice A n c] (0, 0) _ rfl (row2_new w _ _ _) Tryz.underlying25 rfl int_size) rfl ?_
    exact ⟨rfl, HZ.out.below (below_new _ _), below_new _ _⟩

theorem isBelow_c (hx : ZZ w s A n c xs x L) (h1 : L ≤ 1000000000) (v : Bool) (hv : sg x = v) :
    Calls Tryz.prog 78 #[.agg #[.bool s, .slice A n c]] w fun e w' => e = .returned (.bool v) ∧ Below w.heap.size w w' := by
  have b1 := below_new w (.cells #[Value.bool s, Value.slice A n c] 25)
  have r1 := row2_new w 25 (.bool s) (.slice A n c)
  have HN := Lib.hid (hx.nn.below b1)
  have HB := Lib.hid b1
  have hc0 := r1.c0
  have hc1 := r1.c1
  have hsg := hx.sgn
  clear b1 r1 hx
  cases s with
  | false =>
    have ev : v = false := by rw [← hv]; apply sg_pos; rw [hsg]; simp
    subst ev
    clear hsg hv
    go_enter Tryz.func78, Tryz.ntmps78
    go_wp2
    go_ret
    exact ⟨rfl, HB.out⟩
  | true =>
    have ev : decide ((0 : Int) < ((blen x.natAbs : Nat) : Int)) = v := by
      rw [← hv]
      unfold sg
      rw [if_pos rfl] at hsg
      rw [decide_eq_decide]
      have h2 : blen x.natAbs = 0 ↔ x.natAbs = 0 := blen_eq_zero
      omega
    obtain ⟨m, hm⟩ : ∃ m, ((blen x.natAbs : Nat) : Int) = m := ⟨_, rfl⟩
    rw [hm] at ev
    have Hm := Lib.hid hm
    clear hsg hv hm
    go_enter Tryz.func78, Tryz.ntmps78
    go_wp2_with fail
    refine (bits_c HN.out h1 m Hm.out).mono ?_
    rintro e w2 ⟨rfl, rfl⟩
    by_cases hp : 0 < m
    · have ev2 : v = true := by rw [← ev]; simp [hp]
      subst ev2
      go_wp2
      go_ret
      exact ⟨rfl, HB.out⟩
    · have ev2 : v = false := by rw [← ev]; simp; omega
      subst ev2
      go_wp2
      go_ret
      exact ⟨rfl, HB.out⟩
end

/-- The first byte of a text is a minus sign; what stands behind it. -/
theorem bytesOf_tail {S : ByteArray} (h : 1 ≤ S.size) : bytesOf (S.extract 1 S.size) = (bytesOf S).tail := by
  unfold bytesOf
  rw [ByteArray.data_extract, Array.toList_extract, List.extract_eq_take_drop, List.map_take, List.map_drop, List.drop_one]
  refine List.take_of_length_le ?_
  rw [List.length_tail, List.length_map, Array.length_toList]
  exact Nat.le_refl _
theorem bytesOf_first {S : ByteArray} : bytesOf (S.extract 0 1) = (bytesOf S).take 1 := by
  unfold bytesOf
  rw [ByteArray.data_extract, Array.toList_extract, List.extract_eq_take_drop, List.map_take, List.map_drop]
  rfl
theorem head_minus (S : ByteArray) : ((S.extract 0 1).toList == (⟨#[45]⟩ : ByteArray).toList) = decide ((bytesOf S).head? = some 45) := by
  have e1 : S.extract 0 1 = strOf ((bytesOf S).take 1) := by rw [← bytesOf_first, strOf_bytesOf]
  have e2 : (⟨#[45]⟩ : ByteArray) = strOf [45] := rfl
  rw [e1, e2, str_beq (bytes_take (bytes_bytesOf S) 1) (bytes_cons.2 ⟨by decide, bytes_nil⟩), decide_eq_decide]
  cases bytesOf S with
  | nil => simp
  | cons x l => simp

end Go.Proofs.YtohciicocaoagaaGreat

/- Regions that leave their order open: one law by an invariant over what has come up, whatever the order (no branch for each order). Of any program; no condition. -/
namespace Go.Proofs.YtohciicocaoagaaGreat
open Go.RowKit
set_option linter.unusedVariables false

section
variable {P : Program} {ops : Array Oper} {Q : Exit → Act → World → Prop} {md : Region.Mode}

/-- How many of the first m have not come up yet. -/
def left (listed : Array Bool) : Nat → Nat
  | 0 => 0
  | k + 1 => left listed k + (if listed.getD k false = true then 0 else 1)
theorem left_le (listed : Array Bool) : ∀ m, left listed m ≤ m
  | 0 => Nat.le_refl _
  | k + 1 => by have := left_le listed k; unfold left; split <;> omega
theorem left_zero {listed : Array Bool} : ∀ {m}, left listed m = 0 → ∀ k, k < m → listed.getD k false = true
  | 0, _, k, hk => by omega
  | m + 1, h, k, hk => by
    unfold left at h
    split at h
    · rename_i h1
      rcases Nat.lt_or_ge k m with h2 | h2
      · exact left_zero (by omega) k h2
      · obtain rfl : k = m := by omega
        exact h1
    · omega
theorem getD_same {listed : Array Bool} {i : Nat} (h : i < listed.size) (d : Bool) : (listed.setIfInBounds i true).getD i d = true := by
  simp [Array.getD_eq_getD_getElem?, h]
theorem getD_other {listed : Array Bool} {i k : Nat} (h : i ≠ k) (d : Bool) : (listed.setIfInBounds i true).getD k d = listed.getD k d := by
  simp [Array.getD_eq_getD_getElem?, h]
theorem left_same {listed : Array Bool} {i : Nat} : ∀ {m}, m ≤ i → left (listed.setIfInBounds i true) m = left listed m
  | 0, _ => rfl
  | m + 1, h => by
    unfold left
    rw [left_same (by omega), getD_other (by omega)]
theorem left_set {listed : Array Bool} {i : Nat} (hs : i < listed.size) (hi : listed.getD i false = false) : ∀ {m}, i < m → left (listed.setIfInBounds i true) m + 1 = left listed m
  | 0, h => by omega
  | m + 1, h => by
    unfold left
    rcases Nat.lt_or_ge i m with h1 | h1
    · have := left_set hs hi h1
      rw [getD_other (by omega)]
      omega
    · obtain rfl : i = m := by omega
      rw [left_same (Nat.le_refl _), getD_same hs, hi]
      simp

/-- **Whatever order is picked**: an invariant J that each operation that may come up hands on; the last operations (from m on) wait for all others. -/
theorem wpAny_inv (m : Nat) (J : Array Bool → Act → World → Prop)
    (hsize : ∀ l a w, J l a w → l.size = ops.size ∧ ∀ k, m ≤ k → l.getD k false = false)
    (hm : m ≤ ops.size)
    (hback : ∀ (i : Nat) (o : Oper), i < m → ops[i]? = some o → ∀ e ∈ o.after, Region.binds md e = true → e.on < i)
    (hstep : ∀ l a w i, J l a w → i ∈ Region.ready md ops l → i < m → wpOp P ops Q i (fun a' w' => J (l.setIfInBounds i true) a' w') a w)
    (hwait : ∀ l a w i, J l a w → i ∈ Region.ready md ops l → m ≤ i → ∀ k, k < m → l.getD k false = true)
    (hfin : ∀ l a w, J l a w → (∀ k, k < m → l.getD k false = true) → wpAny P md ops Q (ops.size - m) l a w) :
    ∀ (c : Nat) (l : Array Bool) (a : Act) (w : World), left l m = c → J l a w → wpAny P md ops Q (ops.size - m + c) l a w := by
  intro c
  induction c with
  | zero => exact fun l a w hc hj => hfin l a w hj (left_zero hc)
  | succ c ih =>
    intro l a w hc hj
    obtain ⟨hs, hlater⟩ := hsize l a w hj
    have hex : ∃ k, k < m ∧ l.getD k false = false := by
      rcases Classical.em (∃ k, k < m ∧ l.getD k false = false) with h | h
      · exact h
      · exfalso
        have hall : ∀ k, k < m → l.getD k false = true := fun k hk => by
          cases hb : l.getD k false with
          | true => rfl
          | false => exact absurd ⟨k, hk, hb⟩ h
        have hz : ∀ j, j ≤ m → left l j = 0 := fun j => by
          induction j with
          | zero => exact fun _ => rfl
          | succ j ihj => exact fun hj2 => by unfold left; rw [ihj (by omega), hall j (by omega)]; rfl
        have := hz m (Nat.le_refl _)
        omega
    refine ⟨fun hr => ?_, fun i hi => ?_⟩
    · exfalso
      -- the least one that has not come up may come up
      obtain ⟨k0, hk0, hb0⟩ := hex
      have hleast : ∀ n, (∃ k, k ≤ n ∧ k < m ∧ l.getD k false = false) → ∃ k, k < m ∧ l.getD k false = false ∧ ∀ j, j < k → l.getD j false = true := by
        intro n
        induction n with
        | zero =>
          rintro ⟨k, h1, h2, h3⟩
          obtain rfl : k = 0 := by omega
          exact ⟨0, h2, h3, fun j hj2 => by omega⟩
        | succ n ihn =>
          rintro ⟨k, h1, h2, h3⟩
          rcases Classical.em (∃ k, k ≤ n ∧ k < m ∧ l.getD k false = false) with h | h
          · exact ihn h
          · refine ⟨k, h2, h3, fun j hj2 => ?_⟩
            cases hb : l.getD j false with
            | true => rfl
            | false => exact absurd ⟨j, by omega, by omega, hb⟩ h
      obtain ⟨k, hk, hb, hmin⟩ := hleast k0 ⟨k0, Nat.le_refl _, hk0, hb0⟩
      have hko : k < ops.size := by omega
      have : k ∈ Region.ready md ops l := mem_ready.2 ⟨by
        simp only [Array.getD_eq_getD_getElem?] at hb ⊢
        rw [Array.getElem?_eq_getElem (by omega)] at hb ⊢
        simpa using hb, ops[k], Array.getElem?_eq_getElem hko, fun e he hbi => hmin _ (hback k _ hk (Array.getElem?_eq_getElem hko) e he hbi)⟩
      rw [hr] at this
      cases this
    · rcases Nat.lt_or_ge i m with h1 | h1
      · have hu : l.getD i false = false := by
          have h2 := (mem_ready.1 hi).1
          simp only [Array.getD_eq_getD_getElem?] at h2 ⊢
          rw [Array.getElem?_eq_getElem (by omega)] at h2 ⊢
          simpa using h2
        have hl := left_set (m := m) (by omega : i < l.size) hu h1
        exact wpOp_mono (fun a' w' hj2 => ih _ a' w' (by omega) hj2) (hstep l a w i hj hi h1)
      · exfalso
        obtain ⟨k, hk, hb⟩ := hex
        rw [hwait l a w i hj hi h1 k hk] at hb
        cases hb

/-- What an operation waits for. -/
def afters (ops : Array Oper) (i : Nat) : List Nat :=
  match ops[i]? with
  | some o => (o.after.toList.filter (Region.binds .any)).map fun e => e.on
  | none => []
theorem ready_after {l : Array Bool} {i e : Nat} (hi : i ∈ Region.ready .any ops l) (he : e ∈ afters ops i) : l.getD e false = true := by
  obtain ⟨_, o, ho, h⟩ := mem_ready.1 hi
  unfold afters at he
  rw [ho] at he
  obtain ⟨x, hx, rfl⟩ := List.mem_map.1 he
  obtain ⟨h1, h2⟩ := List.mem_filter.1 hx
  exact h x (by simpa using h1) h2
/-- What it waits for, and what that waits for. -/
def anc (ops : Array Oper) : Nat → Nat → List Nat
  | 0, _ => []
  | f + 1, i => afters ops i ++ (afters ops i).flatMap (anc ops f)
theorem anc_up {l : Array Bool} (hd : ∀ k, l.getD k false = true → ∀ e ∈ afters ops k, l.getD e false = true) : ∀ (f i : Nat), (∀ e ∈ afters ops i, l.getD e false = true) → ∀ e ∈ anc ops f i, l.getD e false = true
  | 0, _, _, e, he => by cases he
  | f + 1, i, h, e, he => by
    unfold anc at he
    rcases List.mem_append.1 he with h1 | h1
    · exact h e h1
    · obtain ⟨x, hx, hy⟩ := List.mem_flatMap.1 h1
      exact anc_up hd f x (hd x (h x hx)) e hy

def isPlain : Op → Bool
  | .select _ _ => false
  | _ => true

/-- The frame where what has come up so far has been put. -/
def fill (D : Nat → Option Tmp) (vals : Nat → Value) (l : Array Bool) (a : Act) : Nat → Act
  | 0 => a
  | k + 1 => if l.getD k false = true then (fill D vals l a k).put (D k) (vals k) else fill D vals l a k
/-- The frame where all has been put. -/
def fillAll (D : Nat → Option Tmp) (vals : Nat → Value) (a : Act) : Nat → Act
  | 0 => a
  | k + 1 => (fillAll D vals a k).put (D k) (vals k)
def upd (vals : Nat → Value) (i : Nat) (v : Value) : Nat → Value := fun k => if k = i then v else vals k

theorem put_size (a : Act) (d : Option Tmp) (v : Value) : (a.put d v).tmps.size = a.tmps.size := by
  cases d <;> simp [Act.put]
theorem put_defers2 (a : Act) (d : Option Tmp) (v : Value) : (a.put d v).defers = a.defers := by
  cases d <;> rfl
theorem put_same (a : Act) (d : Tmp) (v : Value) (h : d < a.tmps.size) : (a.put (some d) v).eval (.tmp d) = v := by
  simp [Act.put, Act.eval, Array.getD_eq_getD_getElem?, h]
theorem fill_size (D : Nat → Option Tmp) (vals : Nat → Value) (l : Array Bool) (a : Act) : ∀ m, (fill D vals l a m).tmps.size = a.tmps.size
  | 0 => rfl
  | m + 1 => by unfold fill; split <;> simp [put_size, fill_size]
theorem fillAll_size (D : Nat → Option Tmp) (vals : Nat → Value) (a : Act) : ∀ m, (fillAll D vals a m).tmps.size = a.tmps.size
  | 0 => rfl
  | m + 1 => by simp [fillAll, put_size, fillAll_size]
theorem fill_defers (D : Nat → Option Tmp) (vals : Nat → Value) (l : Array Bool) (a : Act) : ∀ m, (fill D vals l a m).defers = a.defers
  | 0 => rfl
  | m + 1 => by unfold fill; split <;> simp [put_defers2, fill_defers]
theorem fillAll_defers (D : Nat → Option Tmp) (vals : Nat → Value) (a : Act) : ∀ m, (fillAll D vals a m).defers = a.defers
  | 0 => rfl
  | m + 1 => by simp [fillAll, put_defers2, fillAll_defers]
theorem fill_all {D : Nat → Option Tmp} {vals : Nat → Value} {l : Array Bool} {a : Act} : ∀ {m}, (∀ k, k < m → l.getD k false = true) → fill D vals l a m = fillAll D vals a m
  | 0, _ => rfl
  | m + 1, h => by
    unfold fill fillAll
    rw [if_pos (h m (by omega)), fill_all fun k hk => h k (by omega)]
theorem fill_none {D : Nat → Option Tmp} {vals : Nat → Value} {l : Array Bool} {a : Act} : ∀ {m}, (∀ k, k < m → l.getD k false = false) → fill D vals l a m = a
  | 0, _ => rfl
  | m + 1, h => by
    unfold fill
    rw [if_neg (by simp [h m (by omega)]), fill_none fun k hk => h k (by omega)]
theorem fill_congr {D : Nat → Option Tmp} {vals vals' : Nat → Value} {l l' : Array Bool} {a : Act} : ∀ {m}, (∀ k, k < m → l.getD k false = l'.getD k false ∧ vals k = vals' k) → fill D vals l a m = fill D vals' l' a m
  | 0, _ => rfl
  | m + 1, h => by
    obtain ⟨h1, h2⟩ := h m (by omega)
    unfold fill
    rw [h1, h2, fill_congr fun k hk => h k (by omega)]
theorem fill_set {D : Nat → Option Tmp} {vals : Nat → Value} {l : Array Bool} {a : Act} {i : Nat} {v : Value} (hs : i < l.size) (hu : l.getD i false = false) :
    ∀ {m}, i < m → (∀ j, j < m → j ≠ i → ∀ d, D j = some d → D i ≠ some d) → (fill D vals l a m).put (D i) v = fill D (upd vals i v) (l.setIfInBounds i true) a m
  | 0, h, _ => by omega
  | m + 1, h, hd => by
    rcases Nat.lt_or_ge i m with h1 | h1
    · have ih := fill_set (D := D) (vals := vals) (a := a) (v := v) hs hu h1 fun j hj => hd j (by omega)
      unfold fill
      rw [getD_other (by omega : i ≠ m), ← ih, show upd vals i v m = vals m from if_neg (by omega)]
      split
      · exact Act.put_comm _ _ _ (hd m (by omega) (by omega))
      · rfl
    · obtain rfl : i = m := by omega
      unfold fill
      rw [if_neg (by simp [hu]), if_pos (getD_same hs _), show upd vals i v i = v from if_pos rfl]
      rw [fill_congr (vals := vals) (vals' := upd vals i v) (l := l) (l' := l.setIfInBounds i true) fun k hk => ⟨(getD_other (by omega) _).symm, (if_neg (by omega)).symm⟩]
theorem fill_eval {D : Nat → Option Tmp} {vals : Nat → Value} {l : Array Bool} {a : Act} {x : Operand} :
    ∀ {m}, (∀ k, k < m → l.getD k false = false → ∀ d, D k = some d → x ≠ .tmp d) → (fill D vals l a m).eval x = (fillAll D vals a m).eval x
  | 0, _ => rfl
  | m + 1, h => by
    have ih := fill_eval (D := D) (vals := vals) (l := l) (a := a) (x := x) (m := m) fun k hk => h k (by omega)
    unfold fill fillAll
    cases hb : l.getD m false with
    | true =>
      rw [if_pos rfl]
      by_cases hx : ∃ d, D m = some d ∧ x = .tmp d
      · obtain ⟨d, h1, rfl⟩ := hx
        rw [h1]
        simp only [Act.put, Act.eval, Array.getD_eq_getD_getElem?, Array.getElem?_setIfInBounds, fill_size, fillAll_size, if_true]
      · rw [Act.eval_put fun d h1 h2 => hx ⟨d, h1, h2⟩, Act.eval_put fun d h1 h2 => hx ⟨d, h1, h2⟩, ih]
    | false =>
      rw [if_neg (by simp), Act.eval_put (h m (by omega) hb), ih]

/-- What the order-free law asks of operation i (m of them, writing ds, in frames of N). -/
def okAt (ops : Array Oper) (m : Nat) (ds : List Tmp) (N : Nat) (i : Nat) : Bool :=
  match ops[i]? with
  | none => false
  | some o => o.dst == ds[i]? && decide (i < ds.length) && decide (ds.getD i 0 < N) && o.guard.isNone && isPlain o.op && (afters ops i).all (fun e => decide (e < i)) &&
      (List.range m).all (fun k => k == i || ds[k]? != ds[i]?) &&
      o.op.operands.toList.all (fun x => match x with
        | .tmp t => (List.range m).all fun k => ds[k]? != some t || (afters ops i).contains k
        | _ => true)
theorem okAt_spec {m : Nat} {ds : List Tmp} {N i : Nat} (h : okAt ops m ds N i = true) :
    ∃ o, ops[i]? = some o ∧ o.dst = some (ds.getD i 0) ∧ ds[i]? = some (ds.getD i 0) ∧ ds.getD i 0 < N ∧ o.guard = none ∧ (∀ cs b, o.op ≠ .select cs b) ∧ (∀ e ∈ afters ops i, e < i) ∧
      (∀ k, k < m → k ≠ i → ds[k]? ≠ ds[i]?) ∧ (∀ x ∈ o.op.operands, ∀ t, x = .tmp t → ∀ k, k < m → ds[k]? = some t → k ∈ afters ops i) := by
  unfold okAt at h
  cases ho : ops[i]? with
  | none => rw [ho] at h; cases h
  | some o =>
    rw [ho] at h
    simp only [Bool.and_eq_true, beq_iff_eq, decide_eq_true_eq, List.all_eq_true, Bool.or_eq_true, bne_iff_ne, List.mem_range, Option.isNone_iff_eq_none] at h
    obtain ⟨⟨⟨⟨⟨⟨⟨h1, h2⟩, h3⟩, h4⟩, h5⟩, h6⟩, h7⟩, h8⟩ := h
    have hi : ds[i]? = some (ds.getD i 0) := by simp [List.getD_eq_getElem?_getD, h2]
    refine ⟨o, rfl, h1.trans hi, hi, h3, h4, ?_, h6, fun k hk hne => (h7 k hk).resolve_left hne, ?_⟩
    · intro cs b he
      rw [he] at h5
      cases h5
    · rintro x hx t rfl k hk hd
      have := h8 _ (by simpa using hx)
      simp only [List.all_eq_true, List.mem_range, Bool.or_eq_true, bne_iff_ne, List.contains_iff_mem] at this
      exact (this k hk).resolve_left fun h => h hd

/-- Step i of the order-free law: run in the frame where all has been put (what has not come up yet is not looked at). -/
def FreeStep (P : Program) (Q : Exit → Act → World → Prop) (ops : Array Oper) (ds : List Tmp) (aF : (Nat → Value) → Act) (S : World → Prop) (Φ : Nat → Value → World → Prop) (fresh : Nat → Bool) (i : Nat) (o : Oper) : Prop :=
  ∀ (vals : Nat → Value) (w : World), S w → (∀ e ∈ afters ops i, Φ e (vals e) w) → ∀ K : Act → World → Prop,
    (∀ a' w', a'.defers = (aF vals).defers → Below w.heap.size w w' → Φ i (a'.eval (.tmp (ds.getD i 0))) w' → (fresh i = true → ∃ q, a'.eval (.tmp (ds.getD i 0)) = .pointer (some ⟨q, 0, none⟩) ∧ w.heap.size ≤ q ∧ q < w'.heap.size) → K a' w') →
    o.wp P (aF vals) w K Q

/-- One step each. -/
def AllAt (F : Nat → Oper → Prop) : Nat → List Oper → Nat → Prop
  | _, _, 0 => True
  | _, [], _ + 1 => True
  | k, o :: os, n + 1 => F k o ∧ AllAt F (k + 1) os n
theorem AllAt.nil {F : Nat → Oper → Prop} {k : Nat} {os : List Oper} : AllAt F k os 0 := by unfold AllAt; trivial
theorem AllAt.cons {F : Nat → Oper → Prop} {k n : Nat} {o : Oper} {os : List Oper} (h : F k o) (t : AllAt F (k + 1) os n) : AllAt F k (o :: os) (n + 1) := ⟨h, t⟩
theorem AllAt.at {F : Nat → Oper → Prop} : ∀ {k : Nat} {os : List Oper} {n : Nat}, AllAt F k os n → ∀ i, i < n → ∀ o, os[i]? = some o → F (k + i) o
  | _, _, 0, _, i, h, _, _ => by omega
  | _, [], _ + 1, _, i, _, o, ho => by cases i <;> cases ho
  | k, x :: xs, n + 1, h, 0, _, o, ho => by
    obtain rfl : x = o := by simpa using ho
    exact h.1
  | k, x :: xs, n + 1, h, i + 1, hi, o, ho => by
    have := AllAt.at h.2 i (by omega) o (by simpa using ho)
    rwa [show k + 1 + i = k + (i + 1) by omega] at this
/-- What has come up: the first m of n. -/
def firsts (n m : Nat) : Array Bool := ((List.range n).map fun k => decide (k < m)).toArray
theorem firsts_eq {l : Array Bool} {n m : Nat} (hs : l.size = n) (hm : m ≤ n) (h : ∀ k, l.getD k false = decide (k < m)) : l = firsts n m := by
  apply Array.ext_getElem?
  intro k
  have := h k
  rw [show (firsts n m)[k]? = ((List.range n).map fun k => decide (k < m))[k]? from List.getElem?_toArray .., List.getElem?_map]
  rcases Nat.lt_or_ge k n with hk | hk
  · rw [List.getElem?_range hk, Array.getElem?_eq_getElem (by omega)]
    simp only [Array.getD_eq_getD_getElem?, Array.getElem?_eq_getElem (show k < l.size by omega), Option.getD_some] at this
    simp [this]
  · rw [Array.getElem?_eq_none (by omega), List.getElem?_eq_none (by simpa using hk)]
    rfl

/-- **The order-free law**: of a region that draws its order, the first m operations (no guards) in whatever order: each meets its own condition in its own world; what it has shown stays (Below). -/
theorem region_free {id : Nat} {a : Act} {w : World} {os : List Oper} (m r : Nat) (ds : List Tmp) (aF : (Nat → Value) → Act) (S : World → Prop) (Φ : Nat → Value → World → Prop) (fresh : Nat → Bool)
    (hm : P.follows .mixedOrders = true)
    (haF : ∀ vals, fillAll (fun k => ds[k]?) vals a m = aF vals)
    (hr : os.length = m + r)
    (hok : (List.range m).all (okAt os.toArray m ds a.tmps.size) = true)
    (hend : (List.range os.length).all (fun i => decide (i < m) || (List.range m).all fun k => (anc os.toArray 3 i).contains k) = true)
    (hQ : ∀ c (t t' : Array Value) (d : List Deferred) w, Q (.panic c) ⟨t, d⟩ w → Q (.panic c) ⟨t', d⟩ w)
    (hSb : ∀ w w', Below w.heap.size w w' → S w → S w')
    (hΦb : ∀ k v w w', Below w.heap.size w w' → Φ k v w → Φ k v w')
    (hS : S w.drew)
    (hop : AllAt (FreeStep P Q os.toArray ds aF S Φ fresh) 0 os m)
    (hfin : ∀ (vals : Nat → Value) (w : World), S w → (∀ k, k < m → Φ k (vals k) w) →
      (∀ j k, j < m → k < m → j ≠ k → fresh j = true → fresh k = true → ∀ p q, vals j = .pointer (some ⟨p, 0, none⟩) → vals k = .pointer (some ⟨q, 0, none⟩) → p ≠ q) →
      wpAny P .any os.toArray Q r (firsts (m + r) m) (aF vals) w) :
    (Code.region id os.toArray true).wp P Q a w := by
  generalize hops : os.toArray = ops at *
  have hsz0 : ops.size = m + r := by rw [← hops]; simpa using hr
  have hle : m ≤ ops.size := by omega
  replace hend : (List.range ops.size).all (fun i => decide (i < m) || (List.range m).all fun k => (anc ops 3 i).contains k) = true := by rw [hsz0, ← hr]; exact hend
  replace hop : ∀ i, i < m → ∀ o, ops[i]? = some o → FreeStep P Q ops ds aF S Φ fresh i o := fun i hi o ho => by
    have := hop.at i hi o (by rw [← hops] at ho; simpa using ho)
    rwa [Nat.zero_add] at this
  replace hfin : ∀ (vals : Nat → Value) (w : World), S w → (∀ k, k < m → Φ k (vals k) w) →
      (∀ j k, j < m → k < m → j ≠ k → fresh j = true → fresh k = true → ∀ p q, vals j = .pointer (some ⟨p, 0, none⟩) → vals k = .pointer (some ⟨q, 0, none⟩) → p ≠ q) →
      ∀ l : Array Bool, l.size = ops.size → (∀ k, l.getD k false = decide (k < m)) → wpAny P .any ops Q (ops.size - m) l (aF vals) w := fun vals w h1 h2 h3 l h4 h5 => by
    rw [firsts_eq (h4.trans hsz0) (by omega) h5, show ops.size - m = r by omega]
    exact hfin vals w h1 h2 h3
  replace hQ : ∀ c (a a' : Act) w, a.defers = a'.defers → Q (.panic c) a w → Q (.panic c) a' w := by
    rintro c ⟨t, d⟩ ⟨t', d'⟩ w he h
    obtain rfl : d = d' := he
    exact hQ c t t' d w h
  refine wp_region_any hm ?_
  have hat : ∀ i, i < m → okAt ops m ds a.tmps.size i = true := fun i hi => List.all_eq_true.1 hok i (List.mem_range.2 hi)
  have hlate : ∀ i, m ≤ i → i < ops.size → ∀ k, k < m → k ∈ anc ops 3 i := fun i h1 h2 k hk => by
    have := List.all_eq_true.1 hend i (List.mem_range.2 h2)
    simp only [Bool.or_eq_true, decide_eq_true_eq, List.all_eq_true, List.mem_range, List.contains_iff_mem] at this
    exact (this.resolve_left (by omega)) k hk
  have hfr : ∀ (l : Array Bool), l = Array.replicate ops.size false → ∀ k, l.getD k false = false := by
    rintro l rfl k
    simp only [Array.getD_eq_getD_getElem?, Array.getElem?_replicate]
    split <;> rfl
  let J : Array Bool → Act → World → Prop := fun l a' w' => (l.size = ops.size ∧ ∀ k, m ≤ k → l.getD k false = false) ∧ S w' ∧ (∀ k, k < m → l.getD k false = true → ∀ e ∈ afters ops k, l.getD e false = true) ∧
    ∃ vals, a' = fill (fun k => ds[k]?) vals l a m ∧ (∀ k, k < m → l.getD k false = true → Φ k (vals k) w' ∧ (fresh k = true → ∃ q, vals k = .pointer (some ⟨q, 0, none⟩) ∧ q < w'.heap.size)) ∧
      (∀ j k, j < m → k < m → l.getD j false = true → l.getD k false = true → j ≠ k → fresh j = true → fresh k = true → ∀ p q, vals j = .pointer (some ⟨p, 0, none⟩) → vals k = .pointer (some ⟨q, 0, none⟩) → p ≠ q)
  have hdown : ∀ l a' w', J l a' w' → ∀ k, l.getD k false = true → ∀ e ∈ afters ops k, l.getD e false = true := fun l a' w' hj k hk => by
    rcases Nat.lt_or_ge k m with h1 | h1
    · exact hj.2.2.1 k h1 hk
    · rw [hj.1.2 k h1] at hk
      cases hk
  have hz : ∀ j, j ≤ m → left (Array.replicate ops.size false) j = j := fun j => by
    induction j with
    | zero => exact fun _ => rfl
    | succ j ihj => exact fun h => by unfold left; rw [ihj (by omega), hfr _ rfl j]; rfl
  have key := wpAny_inv (P := P) (ops := ops) (Q := Q) (md := .any) m J (fun l a' w' hj => hj.1) hle (fun i o h1 ho e he hb => ?hback) (fun l a' w' i hj hi h1 => ?hstep) (fun l a' w' i hj hi h1 k hk => ?hwait) (fun l a' w' hj hall => ?hfin)
    m (Array.replicate ops.size false) a w.drew (hz m (Nat.le_refl _)) ⟨⟨by simp, fun k _ => hfr _ rfl k⟩, hS, fun k _ h => (by rw [hfr _ rfl k] at h; cases h),
      fun _ => undef, (fill_none fun k _ => hfr _ rfl k).symm, fun k _ h => (by rw [hfr _ rfl k] at h; cases h), fun j k _ _ h => (by rw [hfr _ rfl j] at h; cases h)⟩
  · have e : ops.size - m + m = ops.size := by omega
    rw [e] at key
    exact key
  case hback =>
    obtain ⟨_, _, _, _, _, _, _, hlow, _, _⟩ := okAt_spec (hat i h1)
    refine hlow e.on ?_
    unfold afters
    rw [ho]
    exact List.mem_map.2 ⟨e, List.mem_filter.2 ⟨by simpa using he, hb⟩, rfl⟩
  case hwait =>
    have hlt : i < ops.size := by
      obtain ⟨_, o, ho, _⟩ := mem_ready.1 hi
      exact (Array.getElem?_eq_some_iff.1 ho).1
    exact anc_up (hdown l a' w' hj) 3 i (fun e he => ready_after hi he) k (hlate i h1 hlt k hk)
  case hfin =>
    obtain ⟨⟨hs, hl⟩, hSw, _, vals, rfl, hv, hp⟩ := hj
    rw [fill_all hall, haF]
    refine hfin vals w' hSw (fun k hk => (hv k hk (hall k hk)).1) (fun j k h1 h2 => hp j k h1 h2 (hall j h1) (hall k h2)) l hs fun k => ?_
    rcases Nat.lt_or_ge k m with h | h
    · rw [hall k h, decide_eq_true h]
    · rw [hl k h, decide_eq_false (by omega)]
  case hstep =>
    obtain ⟨⟨hs, hl⟩, hSw, hdn, vals, rfl, hv, hp⟩ := hj
    obtain ⟨o, ho, hdst, hdi, hlt, hg, hsel, hlow, hdist, hops⟩ := okAt_spec (hat i h1)
    have hu : l.getD i false = false := by
      have h2 := (mem_ready.1 hi).1
      have h3 : i < l.size := by omega
      simp only [Array.getD_eq_getD_getElem?] at h2 ⊢
      rw [Array.getElem?_eq_getElem h3] at h2 ⊢
      simpa using h2
    have hdep : ∀ e ∈ afters ops i, l.getD e false = true := fun e he => ready_after hi he
    have heval : ∀ x ∈ o.op.operands, (fill (fun k => ds[k]?) vals l a m).eval x = (aF vals).eval x := fun x hx => by
      rw [← haF vals]
      exact fill_eval fun k hk hk2 d hd hxd => by
        rw [hdep k (hops x hx d hxd k hk hd)] at hk2
        cases hk2
    have hrun := hop i h1 o ho vals w' hSw (fun e he => (hv e (by have := hlow e he; omega) (hdep e he)).1)
      (fun a2 w2 => a2.defers = (aF vals).defers ∧ Below w'.heap.size w' w2 ∧ Φ i (a2.eval (.tmp (ds.getD i 0))) w2 ∧ (fresh i = true → ∃ q, a2.eval (.tmp (ds.getD i 0)) = .pointer (some ⟨q, 0, none⟩) ∧ w'.heap.size ≤ q ∧ q < w2.heap.size))
      (fun a2 w2 h1 h2 h3 h4 => ⟨h1, h2, h3, h4⟩)
    have hsz : ds.getD i 0 < (aF vals).tmps.size := by rw [← haF vals, fillAll_size]; exact hlt
    have next : ∀ v w2, Below w'.heap.size w' w2 → Φ i v w2 → (fresh i = true → ∃ q, v = .pointer (some ⟨q, 0, none⟩) ∧ w'.heap.size ≤ q ∧ q < w2.heap.size) →
        J (l.setIfInBounds i true) ((fill (fun k => ds[k]?) vals l a m).put o.dst v) w2 := fun v w2 hb hphi hfresh => by
      have hne : ∀ k, k ≠ i → (l.setIfInBounds i true).getD k false = l.getD k false := fun k hk => getD_other (Ne.symm hk) _
      refine ⟨⟨by simpa using hs, fun k hk => by rw [hne k (by omega)]; exact hl k hk⟩, hSb _ _ hb hSw, fun k hk hk2 e he => ?_, upd vals i v, ?_, fun k hk hk2 => ?_, fun j k hj hk hj2 hk2 hjk fj fk p q ep eq => ?_⟩
      · by_cases hki : k = i
        · subst hki
          rw [hne e (by have := hlow e he; omega)]
          exact hdep e he
        · rw [hne k hki] at hk2
          by_cases hei : e = i
          · subst hei
            exact getD_same (by omega) _
          · rw [hne e hei]
            exact hdn k hk hk2 e he
      · rw [hdst, ← hdi]
        exact fill_set (by omega) hu h1 fun j hj hji d hd hdi2 => hdist j hj hji (hd.trans hdi2.symm)
      · by_cases hki : k = i
        · subst hki
          rw [show upd vals k v k = v from if_pos rfl]
          exact ⟨hphi, fun hf => by obtain ⟨q, h1, _, h3⟩ := hfresh hf; exact ⟨q, h1, h3⟩⟩
        · rw [hne k hki] at hk2
          rw [show upd vals i v k = vals k from if_neg hki]
          obtain ⟨h3, h4⟩ := hv k hk hk2
          exact ⟨hΦb _ _ _ _ hb h3, fun hf => by obtain ⟨q, h5, h6⟩ := h4 hf; exact ⟨q, h5, Nat.lt_of_lt_of_le h6 hb.size⟩⟩
      · by_cases hji : j = i
        · subst hji
          have hki : k ≠ j := fun h => hjk h.symm
          rw [show upd vals j v j = v from if_pos rfl] at ep
          rw [show upd vals j v k = vals k from if_neg hki] at eq
          rw [hne k hki] at hk2
          obtain ⟨q1, e1, l1, _⟩ := hfresh fj
          obtain ⟨q2, e2, l2⟩ := (hv k hk hk2).2 fk
          rw [e1] at ep
          rw [e2] at eq
          cases ep
          cases eq
          omega
        · by_cases hki : k = i
          · subst hki
            rw [show upd vals k v k = v from if_pos rfl] at eq
            rw [show upd vals k v j = vals j from if_neg hji] at ep
            rw [hne j hji] at hj2
            obtain ⟨q1, e1, l1, _⟩ := hfresh fk
            obtain ⟨q2, e2, l2⟩ := (hv j hj hj2).2 fj
            rw [e1] at eq
            rw [e2] at ep
            cases ep
            cases eq
            omega
          · rw [show upd vals i v j = vals j from if_neg hji] at ep
            rw [show upd vals i v k = vals k from if_neg hki] at eq
            rw [hne j hji] at hj2
            rw [hne k hki] at hk2
            exact hp j k hj hk hj2 hk2 hjk fj fk p q ep eq
    unfold wpOp
    rw [ho]
    simp only []
    rw [if_pos (by unfold Region.wanted; rw [hg])]
    refine .inl ?_
    unfold Oper.wp at hrun ⊢
    rw [execOp_congr o hsel heval]
    generalize (execOp (aF vals).eval o).run P w' = r at hrun ⊢
    have hdef : (aF vals).defers = (fill (fun k => ds[k]?) vals l a m).defers := by rw [← haF vals, fillAll_defers, fill_defers]
    have hput : ∀ v, ((aF vals).put o.dst v).eval (.tmp (ds.getD i 0)) = v := fun v => by rw [hdst]; exact put_same _ _ _ hsz
    cases r with
    | ok n w2 =>
      cases n <;> simp only [Oper.upon] at hrun ⊢
      case value v => rw [hput] at hrun; exact next _ _ hrun.2.1 hrun.2.2.1 hrun.2.2.2
      case skip => rw [hput] at hrun; exact next _ _ hrun.2.1 hrun.2.2.1 hrun.2.2.2
      case defer d =>
        exfalso
        have := hrun.1
        rw [put_defers2] at this
        have := congrArg List.length this
        simp at this
      case enter f args =>
        refine Calls.mono hrun fun e w3 he => ?_
        cases e with
        | returned v => simp only at he ⊢; rw [hput] at he; exact next _ _ he.2.1 he.2.2.1 he.2.2.2
        | panicked c => exact hQ _ _ _ _ hdef he
        | outgrown => exact he
      case row r args =>
        refine Rows.mono hrun fun v w3 he => ?_
        rw [hput] at he
        exact next _ _ he.2.1 he.2.2.1 he.2.2.2
    | halt x w2 =>
      cases x <;> simp only [Oper.upon] at hrun ⊢ <;> exact hQ _ _ _ _ hdef hrun
end

end Go.Proofs.YtohciicocaoagaaGreat

/- What package whole answers, as contracts over memory: whole numbers in the shortest limbs, 0 not below 0. Conditions: sizes of at most so many limbs; the table of powers of ten where texts are made or read. -/
namespace Go.Proofs.YtohciicocaoagaaGreat
open Go.RowKit Limb
set_option linter.unusedVariables false

theorem ZZ.zof {w : World} {s : Bool} {A : Option Addr} {n c : Nat} {xs : List Nat} {x : Int} {L : Nat} (h : ZZ w s A n c xs x L) : zOf s x.natAbs = x := h.sgn.symm
theorem zOf_not {s : Bool} {a : Nat} {x : Int} (h : zOf s a = x) : zOf (!s) a = -x := by
  subst h; cases s <;> simp [zOf]
theorem zOf_add {s : Bool} {a b : Nat} {x y : Int} (h : zOf s a = x) (k : zOf s b = y) : zOf s (a + b) = x + y := by
  subst h; subst k; cases s <;> simp [zOf] <;> omega
theorem zOf_sub {s s' : Bool} {a b : Nat} {x y : Int} (h : zOf s a = x) (k : zOf s' b = y) (hs : s ≠ s') (hab : b ≤ a) : zOf s (a - b) = x + y := by
  subst h; subst k; cases s <;> cases s' <;> simp [zOf] at hs ⊢ <;> omega
theorem zOf_mul {s s' : Bool} {a b : Nat} {x y : Int} (h : zOf s a = x) (k : zOf s' b = y) : zOf (s != s') (a * b) = x * y := by
  subst h; subst k; cases s <;> cases s' <;> simp [zOf, Int.neg_mul, Int.mul_neg]


theorem cmp_abs_neg {x y : Int} (hx : x < 0) (hy : y < 0) : cmpI y.natAbs x.natAbs = cmpZ x y := by
  rcases Int.lt_trichotomy x y with h | h | h
  · rw [cmpZ_lt h, cmpI_lt (by omega)]
  · rw [cmpZ_eq h, cmpI_same (by omega)]
  · rw [cmpZ_gt h, cmpI_gt (by omega)]
theorem cmp_abs_pos {x y : Int} (hx : 0 ≤ x) (hy : 0 ≤ y) : cmpI x.natAbs y.natAbs = cmpZ x y := by
  rcases Int.lt_trichotomy x y with h | h | h
  · rw [cmpZ_lt h, cmpI_lt (by omega)]
  · rw [cmpZ_eq h, cmpI_same (by omega)]
  · rw [cmpZ_gt h, cmpI_gt (by omega)]

theorem conv_u64 {v : Int} (h : -9223372036854775808 ≤ v) (h1 : v ≤ 9223372036854775807) : IntKind.u64.wrap v = if v < 0 then v + 18446744073709551616 else v := by
  rw [IntKind.wrap_u64]; split <;> omega
theorem zz_zof {v : Int} : zOf (decide (v < 0)) v.natAbs = v := by
  unfold zOf
  by_cases h : v < 0
  · simp [h]; omega
  · simp [h]; omega


end Go.Proofs.YtohciicocaoagaaGreat
