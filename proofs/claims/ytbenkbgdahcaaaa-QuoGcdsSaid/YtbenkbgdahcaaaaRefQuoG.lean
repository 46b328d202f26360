/- What the reference's Gcd of layer 3 comes to, as a contract over memory: the greatest divisor in common. Conditions: both lists read as limbs, of at most 40000 of them. -/
import Derived.Test.YtbenkbgdahcaaaaRefQuo
namespace Go.Proofs.Ytbenkbgdahcaaaa
open Go.RowKit Limb
set_option linter.unusedVariables false

/-- What so many cells from an address on read as. -/
def readCells (w : World) (b o : Nat) : Nat → List Nat
  | 0 => []
  | n + 1 => readCells w b o n ++ [match w.cell? ⟨b, o + n, none⟩ with | some (.int _ i) => i.toNat | _ => 0]
/-- The number that a slice of limbs tells in a world: a loop's measure. -/
def readN (w : World) (v : Value) : Nat := match v with
  | .slice (some ⟨b, o, _⟩) n _ => val (readCells w b o n)
  | _ => 0

theorem readCells_eq {w : World} {b o n : Nat} {xs : List Nat} (h : ∀ j, j < n → w.cell? ⟨b, o + j, none⟩ = some (.int .u32 ((lim xs j : Nat) : Int))) (hl : xs.length = n) : ∀ k, k ≤ n → readCells w b o k = xs.take k := by
  intro k
  induction k with
  | zero => intro _; rfl
  | succ k ih =>
    intro hk
    rw [readCells, ih (by omega), h k (by omega), List.take_succ_eq_append_getElem (by omega)]
    simp [lim, List.getD_eq_getElem?_getD, List.getElem?_eq_getElem (show k < xs.length by omega)]

theorem readN_eq {w : World} {A : Option Addr} {n c : Nat} {xs : List Nat} (h : IsN w A n xs) : readN w (.slice A n c) = val xs := by
  by_cases hn : n = 0
  · subst hn
    obtain rfl : xs = [] := List.eq_nil_of_length_eq_zero h.len
    rcases A with _ | ⟨b, o, s⟩ <;> rfl
  · obtain ⟨b, o, rfl, _, hc⟩ := h.2.2 (by omega)
    show val (readCells w b o n) = _
    rw [readCells_eq hc h.len n (Nat.le_refl _), List.take_of_length_le (by rw [h.len]; exact Nat.le_refl _)]

theorem gcd_step (x y : Nat) : Nat.gcd y (x % y) = Nat.gcd x y := by
  rw [Nat.gcd_comm x y, Nat.gcd_rec y x, Nat.gcd_comm]

/-- The greatest divisor in common, under a name that no simp set opens. -/
def gcdN (a b : Nat) : Nat := Nat.gcd a b
theorem gcdN_step {x y g : Nat} (h : gcdN x y = g) : gcdN y (x % y) = g := by unfold gcdN at *; rw [gcd_step]; exact h
theorem gcdN_end {x g : Nat} (h : gcdN x 0 = g) : x = g := by unfold gcdN at h; rwa [Nat.gcd_zero_right] at h

set_option maxHeartbeats 800000 in
theorem refGcd_c {A A' : Option Addr} {n c n' c' : Nat} {xs ys : List Nat} {a b L L' : Nat} {w : World} (hx : NN w A n c xs a L) (hy : NN w A' n' c' ys b L') (h1 : L ≤ 40000) (h2 : L' ≤ 40000) :
    Calls Try.prog 15 #[.slice A n c, .slice A' n' c'] w fun e w' => ∃ A2 n2 c2, e = .returned (.slice A2 n2 c2) ∧ NN w' A2 n2 c2 (limbs (gcdN a b)) (gcdN a b) (L + L') ∧ Below w.heap.size w w' := by
  have r1 := Nat.lt_of_lt_of_le (lt_pow hx) (Nat.pow_le_pow_right (show 0 < 4294967296 by decide) (Nat.le_add_right L L'))
  have r2 := Nat.lt_of_lt_of_le (lt_pow hy) (Nat.pow_le_pow_right (show 0 < 4294967296 by decide) (Nat.le_add_left L' L))
  have R1 := Lib.hid r1
  have R2 := Lib.hid r2
  obtain ⟨g, hg⟩ : ∃ g, gcdN a b = g := ⟨_, rfl⟩
  have Hg := Lib.hid hg
  rw [hg]
  obtain ⟨K, hK⟩ : ∃ K, K = L + L' := ⟨_, rfl⟩
  have hK2 : K ≤ 80000 := by omega
  rw [← hK] at R1 R2 ⊢
  clear r1 r2 hg hK
  go_enter Try.func15, Try.ntmps15
  go_wp2_with fail
  refine (refTrim_c hx (by omega)).mono ?_
  rintro e w1 ⟨A1, n1, c1, rfl, h1', bn⟩
  have hy1 := hy.below bn
  have bw := bn
  clear hx hy bn
  go_wp2_with fail
  refine (refTrim_c hy1 (by omega)).mono ?_
  rintro e w2 ⟨A2, n2, c2, rfl, h2', bn⟩
  have HX := Lib.hid ((h1'.below bn).relax R1.out)
  have HY := Lib.hid (h2'.relax R2.out)
  have HW := Lib.hid (below_two bw bn)
  clear h1' h2' hy1 bn bw
  go_wp2
  go_loopw [5, 6] (fun xv yv wr => ∃ (x y : Nat) (A1 : Option Addr) (n1 c1 : Nat) (A2 : Option Addr) (n2 c2 : Nat), xv = .slice A1 n1 c1 ∧ yv = .slice A2 n2 c2 ∧ RowKit.Hid (gcdN x y = g) ∧ RowKit.Hid (NN wr A1 n1 c1 (limbs x) x K) ∧ RowKit.Hid (NN wr A2 n2 c2 (limbs y) y K) ∧ RowKit.Hid (Below w.heap.size w wr)) (fun _ yv wr => readN wr yv)
  case atStart => exact ⟨a, b, A1, n1, c1, A2, n2, c2, rfl, rfl, Hg, HX, HY, HW⟩
  case round =>
    clear HX HY HW Hg R1 R2
    obtain ⟨x, y, A1, n1, c1, A2, n2, c2, rfl, rfl, Hg, HX, HY, HW⟩ := hrel
    by_cases h0 : y = 0
    · subst h0
      have hn0 : n2 = 0 := by have := HY.out.len; rw [limbs_zero] at this; exact this
      subst hn0
      have HG := Lib.hid (gcdN_end Hg.out)
      go_wp2
      go_ret
      exact ⟨A1, n1, c1, rfl, by rw [← HG.out]; exact HX.out, HW.out⟩
    · have hpos : 0 < n2 := by
        have h := HY.out.len
        rw [limbs_pos h0] at h
        simp at h
        omega
      have H0 := Lib.hid h0
      have hx := HX.out
      have hy := HY.out
      clear h0
      go_wp2_with fail
      refine (refRem_yes hx hy (by omega) (by omega) H0.out).mono ?_
      rintro e w3 ⟨A3, n3, c3, A4, n4, c4, rfl, h3, h4, bn⟩
      have HX2 := Lib.hid (hy.below bn)
      have HY2 := Lib.hid h4
      have HW2 := Lib.hid (below_two HW.out bn)
      have HG2 := Lib.hid (gcdN_step Hg.out)
      have HM : RowKit.Hid (readN w3 (.slice A4 n4 c4) < readN wr (.slice A2 n2 c2)) := by
        show _ < _
        rw [readN_eq h4.isN, readN_eq hy.isN, val_limbs, val_limbs]
        exact Nat.mod_lt _ (Nat.pos_of_ne_zero H0.out)
      clear hx hy h3 h4 bn HX HY HW Hg
      have hfd : ∀ W : World, (Instr.field 30 (.agg #[.slice A3 n3 c3, .slice A4 n4 c4, .bool true]) 1).run Try.prog W = .ok (.slice A4 n4 c4) W := fun _ => by kernel_rfl
      go_wp2
      go_roundw
      case rel => exact ⟨y, x % y, A2, n2, c2, A4, n4, c4, rfl, rfl, HG2, HX2, HY2, HW2⟩
      case measure => exact HM.out

end Go.Proofs.Ytbenkbgdahcaaaa
