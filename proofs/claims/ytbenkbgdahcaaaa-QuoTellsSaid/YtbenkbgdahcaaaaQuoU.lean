/- Contracts of layer 3 in one form, whether the divisor is 0 or not: quotient, what is left, whether there is one. Conditions: lists read as limbs, of at most 10^5 of them. -/
import Derived.Test.YtbenkbgdahcaaaaQuoW
namespace Go.Proofs.Ytbenkbgdahcaaaa
open Go.RowKit Limb
set_option linter.unusedVariables false

theorem nn_limbs0 (w : World) (A : Option Addr) (c L : Nat) : NN w A 0 c (limbs 0) 0 L := ⟨IsN.nil _ _, rfl, Nat.zero_le _, Nat.zero_le _⟩

theorem remR_lt {w : World} {A : Option Addr} {n c : Nat} {xs : List Nat} {a b L : Nat} (hy : NN w A n c xs b L) : remR a b < 4294967296 ^ L := by
  unfold remR
  split
  · exact Nat.pow_pos (by decide)
  · rename_i h; exact Nat.lt_trans (Nat.mod_lt a (Nat.pos_of_ne_zero h)) (lt_pow hy)

section
variable {A A' : Option Addr} {n c n' c' : Nat} {xs ys : List Nat} {a b L L' : Nat} {w : World}
theorem quoRem_u (hx : NN w A n c xs a L) (hy : NN w A' n' c' ys b L') (h1 : L ≤ 100000) (h2 : L' ≤ 100000) (v : Bool) (hv : decide (b ≠ 0) = v) :
    Calls Try.prog 10 #[.slice A n c, .slice A' n' c'] w fun e w' => ∃ A1 n1 c1 A2 n2 c2, e = .returned (.tuple #[.slice A1 n1 c1, .slice A2 n2 c2, .bool v]) ∧ NN w' A1 n1 c1 (limbs (a / b)) (a / b) L ∧ NN w' A2 n2 c2 (limbs (remR a b)) (remR a b) L' ∧ Below w.heap.size w w' := by
  subst hv
  by_cases hb : b = 0
  · refine (quoRem_no hx hy h1 h2 hb).mono ?_
    rintro e w' ⟨A1, c1, A2, c2, rfl, bn⟩
    refine ⟨A1, 0, c1, A2, 0, c2, by simp [hb], ?_, ?_, bn⟩
    · rw [hb, Nat.div_zero]; exact nn_limbs0 _ _ _ _
    · rw [remR_zero hb]; exact nn_limbs0 _ _ _ _
  · refine (quoRem_yes hx hy h1 h2 hb).mono ?_
    rintro e w' ⟨A1, n1, c1, A2, n2, c2, rfl, hq, hr, bn⟩
    refine ⟨A1, n1, c1, A2, n2, c2, by simp [hb], hq, ?_, bn⟩
    rw [remR_pos hb]; exact hr

theorem refRem_u (hx : NN w A n c xs a L) (hy : NN w A' n' c' ys b L') (h1 : L ≤ 100000) (h2 : L' ≤ 100000) (v : Bool) (hv : decide (b ≠ 0) = v) :
    Calls Try.prog 11 #[.slice A n c, .slice A' n' c'] w fun e w' => ∃ A1 n1 c1 A2 n2 c2, e = .returned (.agg #[.slice A1 n1 c1, .slice A2 n2 c2, .bool v]) ∧ NN w' A1 n1 c1 (limbs (a / b)) (a / b) L ∧ NN w' A2 n2 c2 (limbs (remR a b)) (remR a b) L' ∧ Below w.heap.size w w' := by
  subst hv
  have hl : remR a b < 4294967296 ^ L' := remR_lt hy
  by_cases hb : b = 0
  · refine (refRem_no hx hy h1 h2 hb).mono ?_
    rintro e w' ⟨rfl, bn⟩
    refine ⟨none, 0, 0, none, 0, 0, by simp [hb], ?_, ?_, bn⟩
    · rw [hb, Nat.div_zero]; exact nn_limbs0 _ _ _ _
    · rw [remR_zero hb]; exact nn_limbs0 _ _ _ _
  · refine (refRem_yes hx hy h1 h2 hb).mono ?_
    rintro e w' ⟨A1, n1, c1, A2, n2, c2, rfl, hq, hr, bn⟩
    refine ⟨A1, n1, c1, A2, n2, c2, by simp [hb], hq, ?_, bn⟩
    rw [← remR_pos hb] at hr
    exact hr.relax hl

theorem quoSmall_u (hx : NN w A n c xs a L) (h1 : L ≤ 100000) (d : Nat) (V : Int) (hV : V = d) (hd : d < 4294967296) (v : Bool) (hv : decide (d ≠ 0) = v) :
    Calls Try.prog 12 #[.slice A n c, .int .u32 V] w fun e w' => ∃ A1 n1 c1, e = .returned (.tuple #[.slice A1 n1 c1, .int .u32 ((remR a d : Nat) : Int), .bool v]) ∧ NN w' A1 n1 c1 (limbs (a / d)) (a / d) L ∧ Below w.heap.size w w' := by
  subst hv
  by_cases h0 : d = 0
  · refine (quoSmall_no hx h1 V (by rw [hV, h0]; rfl)).mono ?_
    rintro e w' ⟨A1, c1, rfl, bn⟩
    refine ⟨A1, 0, c1, by rw [remR_zero h0]; simp [h0], ?_, bn⟩
    rw [h0, Nat.div_zero]; exact nn_limbs0 _ _ _ _
  · refine (quoSmall_yes hx h1 d V hV hd h0).mono ?_
    rintro e w' ⟨A1, n1, c1, rfl, hq, bn⟩
    exact ⟨A1, n1, c1, by rw [remR_pos h0]; simp [h0], hq, bn⟩
end

/-- The three cells of a result. -/
def Cells3 (w : World) (g : Nat) (u v b : Value) : Prop := g < w.heap.size ∧ w.cell? ⟨g, 0, none⟩ = some u ∧ w.cell? ⟨g, 1, none⟩ = some v ∧ w.cell? ⟨g, 2, none⟩ = some b
theorem Cells3.below {w w' : World} {g : Nat} {u v b : Value} (h : Cells3 w g u v b) (hb : Below w.heap.size w w') : Cells3 w' g u v b :=
  ⟨Nat.lt_of_lt_of_le h.1 hb.size, (hb.cell (p := ⟨g, 0, none⟩) h.1).trans h.2.1, (hb.cell (p := ⟨g, 1, none⟩) h.1).trans h.2.2.1, (hb.cell (p := ⟨g, 2, none⟩) h.1).trans h.2.2.2⟩
theorem cells3_new (w : World) (u v b : Value) : Cells3 (w.alloc (.cells #[u, v, b] 30)) w.heap.size u v b := by
  refine ⟨by simp, ?_, ?_, ?_⟩ <;> (rw [World.cell?_alloc_at _ _ _ _ rfl]; rfl)

theorem remR_small {a d : Nat} (hd : d < 4294967296) : remR a d < 4294967296 := by
  unfold remR
  split
  · decide
  · rename_i h; exact Nat.lt_trans (Nat.mod_lt a (Nat.pos_of_ne_zero h)) hd

end Go.Proofs.Ytbenkbgdahcaaaa
