/- What package mul's Small and up answer, as contracts over memory: the product of a number and one limb, a number moved up by bits, in shortest limbs, in new memory. Conditions: the list reads as limbs, of at most 10^8 of them; moves of at most 8192 bits. -/
import Derived.Test.YtpkjooiddejgpaaDoorMulB
namespace Go.Proofs.YtpkjooiddejgpaaDoor
open Go.RowKit Limb
set_option linter.unusedVariables false

theorem zeros_limbs (k m : Nat) (h : m ≠ 0) : List.replicate k 0 ++ limbs m = limbs (4294967296 ^ k * m) := by
  have e := eq_limbs (xs := List.replicate k 0 ++ limbs m) (small_append.2 ⟨small_zeros k, small_limbs m⟩) (.inr ?_)
  · rwa [val_zeros, val_limbs] at e
  · rw [val_zeros, val_limbs, List.length_append, List.length_replicate]
    have h1 := length_limbs_pred h
    have h2 : (limbs m).length ≠ 0 := by rw [limbs_pos h]; simp
    rw [show k + (limbs m).length - 1 = k + ((limbs m).length - 1) by omega, Nat.pow_add]
    exact Nat.mul_le_mul_left _ h1

theorem lay_zeros (k : Nat) (ys : List Nat) : lay (List.replicate (k + ys.length) 0) k ys = List.replicate k 0 ++ ys := by
  simp [lay]

set_option maxHeartbeats 1000000 in
theorem mulSmall_any (A : Option Addr) (n c : Nat) (xs : List Nat) (v : Nat) (w : World) (hx : IsN w A n xs) (hm : n ≤ 100000000) (hc : n ≤ c) (hv : v < 4294967296) :
    Calls Tryd.prog 18 #[.slice A n c, .int .u32 (v : Int)] w fun e w' => ∃ A2 n2 c2, e = .returned (.slice A2 n2 c2) ∧ OwnN w' w.heap.size A2 n2 c2 (limbs (val xs * v)) ∧ Below w.heap.size w w' := by
  have hlt := trim_len_le xs
  have hl := hx.len
  have hx' := IsN.take hx (m := (trim xs).length) (by omega)
  rw [← trim_take xs] at hx'
  have ex := trim_eq_limbs hx.small
  have hb : (trim xs).length ≤ 100000000 := by omega
  have Hl : RowKit.Hid (val (trim xs) = val xs) := by show _ = _; rw [ex, val_limbs]
  clear hl ex hlt
  go_enter Tryd.func18, Tryd.ntmps18
  go_wp2_with fail
  refine (mulCut_any A n c xs w hx hc (by omega)).mono ?_
  rintro e w1 ⟨rfl, rfl⟩
  generalize trim xs = ys at *
  clear hx
  by_cases h0 : ys.length = 0
  · obtain rfl : ys = [] := List.eq_nil_of_length_eq_zero h0
    have Hf : RowKit.Hid (limbs (val xs * v) = []) := by show _ = _; rw [← Hl.out]; simp [val, limbs_zero]
    go_wp2
    go_ret
    exact ⟨_, _, _, rfl, by rw [Hf.out]; exact OwnN.nil _ _, Below.refl _ _⟩
  · have hne : (((ys.length : Nat) : Int) == 0) = false := by simp; intro h; exact h0 (by rw [h]; rfl)
    by_cases hv0 : v = 0
    · subst hv0
      have Hf : RowKit.Hid (limbs (val xs * 0) = []) := by show _ = _; rw [Nat.mul_zero, limbs_zero]
      go_wp2
      go_ret
      exact ⟨_, _, _, rfl, by rw [Hf.out]; exact OwnN.nil _ _, Below.refl _ _⟩
    · have hvne : ((v : Int) == 0) = false := by simp; exact hv0
      have hpos : 0 < ys.length := by omega
      clear h0 hv0
      have hmk2 := run_made ((ys.length : Int) + 1) (ys.length + 1) (by omega) (by omega)
      have Hb1 := Lib.hid (below_new w (.cells (madeCells #[.int .u32 0] (ys.length + 1)) 39))
      have hs := own_made w (ys.length + 1) (by omega)
      have Hs := Lib.hid hs
      have Hpart := Lib.hid hs.isN
      have Hdis : RowKit.Hid (∀ b o, (some (⟨w.heap.size, 0, none⟩ : Addr)) = some ⟨b, o, none⟩ → b = w.heap.size → o = 0) := by
        intro b o e1 e2
        injection e1 with e1; injection e1 with e1 e3
        exact e3.symm
      clear hs
      go_wp2_with fail
      refine (addRow_any w _ Hb1.out w.heap.size ys.length (ys.length + 1) _ Hs.out _ _ _ _ Hpart.out (by omega) Hdis.out _ _ ys hx' v hv (by omega)).mono ?_
      rintro e w2 ⟨rfl, ⟨zs, hz, hvz⟩, hb2, ho2⟩
      have hv2 : val zs = val xs * v := by
        rw [hvz, Hl.out, Nat.mul_comm, val_zero (zs := List.take _ _) (fun j => ?_), Nat.zero_add]
        simp [lim, List.getD_eq_getElem?_getD, List.getElem?_replicate]
        split <;> (try split) <;> rfl
      clear Hs Hpart Hdis ho2 hvz
      have hzi := hz.isN
      have hzl := hz.len
      have ht := trim_len_le zs
      have how2 := hz.take (m := (trim zs).length) (by omega)
      rw [← trim_take zs] at how2
      have Hf : RowKit.Hid (trim zs = limbs (val xs * v)) := by
        show _ = _
        rw [trim_eq_limbs hz.small, hv2]
      clear hv2 hz hzl
      go_wp2_with fail
      refine (mulCut_any _ _ _ zs _ hzi (Nat.le_refl _) (by omega)).mono ?_
      rintro e w3 ⟨rfl, rfl⟩
      go_wp2
      go_ret
      refine ⟨_, (trim zs).length, _, rfl, ?_, hb2⟩
      rw [← Hf.out]
      exact how2

theorem two_pow_small (r : Nat) (h : r < 32) : 2 ^ r < 4294967296 := by
  have : 2 ^ r < 2 ^ 32 := Nat.pow_lt_pow_right (by decide) h
  simpa using this

theorem two_pow_int (r : Nat) (h : r < 32) : (2 : Int) ^ r % 4294967296 = ((2 ^ r : Nat) : Int) := by
  have h1 := two_pow_small r h
  have e : (2 : Int) ^ r = ((2 ^ r : Nat) : Int) := by rw [Int.natCast_pow]; rfl
  rw [e]
  generalize 2 ^ r = t at h1 ⊢
  omega

theorem pow_split (a k : Nat) : 4294967296 ^ (k / 32) * (a * 2 ^ (k % 32)) = a * 2 ^ k := by
  rw [Nat.mul_left_comm, pow_move]

end Go.Proofs.YtpkjooiddejgpaaDoor
