/- Plain mathematics of divisions that are done on the heads of two numbers: multiples of both, as far as the heads make the quotients certain. No condition. -/
import Derived.Test.YtbenkbgdahcaaaaQuoG
namespace Go.Proofs.Ytbenkbgdahcaaaa.Limb

theorem square_bd {y t n : Int} (h1 : t ≤ y) (h2 : y * t ≤ n) (h3 : n < 4611686018427387904) (h0 : 0 ≤ y) : t < 2147483648 := by
  by_cases h : t < 2147483648
  · exact h
  · exfalso
    have h4 : 2147483648 * t ≤ y * t := Int.mul_le_mul_of_nonneg_right (by omega) (by omega)
    omega

/-- One division on the heads: half of the cases. -/
theorem head_half {x0 y0 fa fb sa sb ta tb y z q : Int} (ha : 0 ≤ fa) (hb : fb ≤ 0) (hc : sa ≤ 0) (hd : 0 ≤ sb) (hq : 0 ≤ q) (e1 : ta = fa - q * sa) (e2 : tb = fb - q * sb)
    (r1 : z + ta < y + sa) (r2 : 0 ≤ z + tb) (i1 : y * (-tb) + z * sb = x0) (i2 : y * ta + z * (-sa) = y0) (hx : x0 < 4611686018427387904) (hy : y0 < 4611686018427387904) :
    0 ≤ ta ∧ tb ≤ 0 ∧ 0 ≤ z ∧ z < y ∧ ta < 2147483648 ∧ -2147483648 < tb := by
  have p1 : 0 ≤ q * (-sa) := Int.mul_nonneg hq (by omega)
  have p2 : 0 ≤ q * sb := Int.mul_nonneg hq hd
  rw [Int.mul_neg] at p1
  have h1 : 0 ≤ ta := by omega
  have h2 : tb ≤ 0 := by omega
  have h3 : 0 ≤ z := by omega
  have h4 : z < y := by omega
  have p3 : 0 ≤ z * sb := Int.mul_nonneg h3 hd
  have p4 : 0 ≤ z * (-sa) := Int.mul_nonneg h3 (by omega)
  have h5 := square_bd (y := y) (t := ta) (n := y0) (by omega) (by omega) hy (by omega)
  have h6 := square_bd (y := y) (t := -tb) (n := x0) (by omega) (by omega) hx (by omega)
  exact ⟨h1, h2, h3, h4, h5, by omega⟩

/-- What holds of the multipliers and of what the heads still are. -/
structure SInv (x0 y0 a b fa fb sa sb x y : Int) : Prop where
  ex : x = fa * x0 + fb * y0
  ey : y = sa * x0 + sb * y0
  n1 : 0 ≤ x + fa
  n2 : 0 ≤ x + fb
  n3 : 0 ≤ y + sa
  n4 : 0 ≤ y + sb
  sg : (0 ≤ fa ∧ fb ≤ 0 ∧ sa ≤ 0 ∧ 0 ≤ sb ∧ fa * sb - fb * sa = 1) ∨ (fa ≤ 0 ∧ 0 ≤ fb ∧ 0 ≤ sa ∧ sb ≤ 0 ∧ fa * sb - fb * sa = -1)
  m1 : MixOk fa fb
  m2 : MixOk sa sb
  g : Int.gcd (fa * a + fb * b) (sa * a + sb * b) = Int.gcd a b
  st : (fa = 1 ∧ fb = 0 ∧ sa = 0 ∧ sb = 1) ∨ (y + sa < x + fa ∧ y + sb < x + fb ∧ fa * a + fb * b ≤ b)
  yp : 0 ≤ y
  xb : x < 4611686018427387904
  yx : y ≤ x

/-- The heads of two numbers: what stands below them is less than S. -/
structure Heads (x0 y0 a b S : Int) : Prop where
  s : 0 < S
  a1 : x0 * S ≤ a
  a2 : a < (x0 + 1) * S
  b1 : y0 * S ≤ b
  b2 : b < (y0 + 1) * S
  x62 : x0 < 4611686018427387904
  yp : 0 ≤ y0
  yx : y0 ≤ x0
  xp : 0 ≤ x0

theorem SInv.start {x0 y0 a b S : Int} (h : Heads x0 y0 a b S) : SInv x0 y0 a b 1 0 0 1 x0 y0 := by
  have h1 := h.yp; have h2 := h.yx; have h3 := h.x62; have h4 := h.xp
  refine ⟨by omega, by omega, by omega, by omega, by omega, by omega, .inl (by omega), ?_, ?_, by simp, .inl (by omega), by omega, by omega, by omega⟩
  · unfold MixOk; omega
  · unfold MixOk; omega

theorem gcd_less (A B q : Int) : Int.gcd B (A - q * B) = Int.gcd A B := by
  rw [Int.gcd_comm A B, Int.sub_eq_add_neg, ← Int.neg_mul, Int.add_comm]
  exact Int.gcd_mul_right_add_right ..

/-- Below the heads: what is left is not below 0, and less than the number ahead. -/
theorem SInv.near {x0 y0 a b S fa fb sa sb x y : Int} (h : SInv x0 y0 a b fa fb sa sb x y) (hh : Heads x0 y0 a b S) : 0 ≤ sa * a + sb * b ∧ (y + sa < x + fa → y + sb < x + fb → sa * a + sb * b < fa * a + fb * b) := by
  obtain ⟨p, hp⟩ : ∃ p, p = a - x0 * S := ⟨_, rfl⟩
  obtain ⟨r, hr⟩ : ∃ r, r = b - y0 * S := ⟨_, rfl⟩
  have h1 := hh.a1; have h2 := hh.a2; have h3 := hh.b1; have h4 := hh.b2
  rw [Int.add_mul, Int.one_mul] at h2 h4
  have p0 : 0 ≤ p := by omega
  have pS : p ≤ S := by omega
  have r0 : 0 ≤ r := by omega
  have rS : r ≤ S := by omega
  have ea : a = x0 * S + p := by omega
  have eb : b = y0 * S + r := by omega
  have eA : fa * a + fb * b = x * S + fa * p + fb * r := by rw [ea, eb, h.ex]; grind
  have eB : sa * a + sb * b = y * S + sa * p + sb * r := by rw [ea, eb, h.ey]; grind
  rw [eA, eB]
  have hS := hh.s
  have n3 := Int.mul_nonneg h.n3 (Int.le_of_lt hS)
  have n4 := Int.mul_nonneg h.n4 (Int.le_of_lt hS)
  rw [Int.add_mul] at n3 n4
  rcases h.sg with ⟨s1, s2, s3, s4, _⟩ | ⟨s1, s2, s3, s4, _⟩
  · have a1 := Int.mul_nonneg s1 p0
    have a2 := Int.mul_le_mul_of_nonneg_left rS (show 0 ≤ -fb by omega)
    have a3 := Int.mul_le_mul_of_nonneg_left pS (show 0 ≤ -sa by omega)
    have a4 := Int.mul_nonneg (show 0 ≤ -sa by omega) p0
    have a5 := Int.mul_nonneg s4 r0
    have a6 := Int.mul_le_mul_of_nonneg_left rS s4
    rw [Int.neg_mul, Int.neg_mul] at a2 a3
    rw [Int.neg_mul] at a4
    refine ⟨by omega, fun _ l => ?_⟩
    have l2 := Int.mul_lt_mul_of_pos_right l hS
    rw [Int.add_mul, Int.add_mul] at l2
    omega
  · have a1 := Int.mul_nonneg s2 r0
    have a2 := Int.mul_le_mul_of_nonneg_left pS (show 0 ≤ -fa by omega)
    have a3 := Int.mul_le_mul_of_nonneg_left rS (show 0 ≤ -sb by omega)
    have a4 := Int.mul_nonneg (show 0 ≤ -sb by omega) r0
    have a5 := Int.mul_nonneg s3 p0
    have a6 := Int.mul_le_mul_of_nonneg_left pS s3
    rw [Int.neg_mul, Int.neg_mul] at a2 a3
    rw [Int.neg_mul] at a4
    refine ⟨by omega, fun l _ => ?_⟩
    have l2 := Int.mul_lt_mul_of_pos_right l hS
    rw [Int.add_mul, Int.add_mul] at l2
    omega

theorem det_step {fa fb sa sb q : Int} : sa * (fb - q * sb) - sb * (fa - q * sa) = -(fa * sb - fb * sa) := by grind

/-- One division on the heads. -/
theorem SInv.step {x0 y0 a b S fa fb sa sb x y q : Int} (h : SInv x0 y0 a b fa fb sa sb x y) (hh : Heads x0 y0 a b S) (h1 : y + sa ≠ 0) (h2 : y + sb ≠ 0) (hq : q = (x + fa) / (y + sa)) (hq2 : q = (x + fb) / (y + sb)) :
    SInv x0 y0 a b sa sb (fa - q * sa) (fb - q * sb) y (x - q * y) ∧ x - q * y < y ∧ 0 ≤ q := by
  have p1 : 0 < y + sa := by have := h.n3; omega
  have p2 : 0 < y + sb := by have := h.n4; omega
  have q0 : 0 ≤ q := by rw [hq]; exact Int.ediv_nonneg h.n1 (Int.le_of_lt p1)
  have d1 := Int.emod_add_mul_ediv (x + fa) (y + sa)
  have d2 := Int.emod_nonneg (x + fa) (show y + sa ≠ 0 by omega)
  have d3 := Int.emod_lt_of_pos (x + fa) p1
  have d4 := Int.emod_add_mul_ediv (x + fb) (y + sb)
  have d5 := Int.emod_nonneg (x + fb) (show y + sb ≠ 0 by omega)
  have d6 := Int.emod_lt_of_pos (x + fb) p2
  rw [← hq] at d1
  rw [← hq2] at d4
  generalize (x + fa) % (y + sa) = ra at *
  generalize (x + fb) % (y + sb) = rb at *
  clear hq hq2
  have r1 : (x - q * y) + (fa - q * sa) = ra := by grind
  have r2 : (x - q * y) + (fb - q * sb) = rb := by grind
  have hx : x - q * y = (fa - q * sa) * x0 + (fb - q * sb) * y0 := by rw [h.ex, h.ey]; grind
  have hg : Int.gcd (sa * a + sb * b) ((fa - q * sa) * a + (fb - q * sb) * b) = Int.gcd a b := by
    rw [← h.g, ← gcd_less (fa * a + fb * b) (sa * a + sb * b) q]
    congr 1
    grind
  have hBb : sa * a + sb * b ≤ b := by
    rcases h.st with ⟨e1, e2, e3, e4⟩ | ⟨e1, e2, e3⟩
    · subst e3 e4; omega
    · have := (h.near hh).2 e1 e2; omega
  have hdet := @det_step fa fb sa sb q
  obtain ⟨ta, hta⟩ : ∃ t, t = fa - q * sa := ⟨_, rfl⟩
  obtain ⟨tb, htb⟩ : ∃ t, t = fb - q * sb := ⟨_, rfl⟩
  obtain ⟨z, hz⟩ : ∃ t, t = x - q * y := ⟨_, rfl⟩
  rw [← hta] at r1 hx hg hdet ⊢
  rw [← htb] at r2 hx hg hdet ⊢
  rw [← hz] at r1 r2 hx ⊢
  have hx62 := hh.x62
  have hyx := hh.yx
  have hxb := h.xb
  have hyx2 := h.yx
  have m2 := h.m2
  rcases h.sg with ⟨s1, s2, s3, s4, s5⟩ | ⟨s1, s2, s3, s4, s5⟩
  · have i1 : y * (-tb) + z * sb = x0 := by rw [h.ey, hx]; grind
    have i2 : y * ta + z * (-sa) = y0 := by rw [h.ey, hx]; grind
    obtain ⟨k1, k2, k3, k4, k5, k6⟩ := head_half s1 s2 s3 s4 q0 hta htb (by omega) (by omega) i1 i2 hx62 (by omega)
    refine ⟨⟨h.ey, hx, h.n3, h.n4, by omega, by omega, .inr ⟨s3, s4, k1, k2, by omega⟩, m2, ?_, hg, .inr ⟨by omega, by omega, hBb⟩, k3, by omega, by omega⟩, k4, q0⟩
    unfold MixOk; omega
  · have i1 : y * (-ta) + z * sa = y0 := by rw [h.ey, hx]; grind
    have i2 : y * tb + z * (-sb) = x0 := by rw [h.ey, hx]; grind
    obtain ⟨k1, k2, k3, k4, k5, k6⟩ := head_half s2 s1 s4 s3 q0 htb hta (by omega) (by omega) i1 i2 (by omega) hx62
    refine ⟨⟨h.ey, hx, h.n3, h.n4, by omega, by omega, .inl ⟨s3, s4, k2, k1, by omega⟩, m2, ?_, hg, .inr ⟨by omega, by omega, hBb⟩, k3, by omega, by omega⟩, k4, q0⟩
    unfold MixOk; omega

/-- What two multiples must be to go on with. -/
def SEnd (a b fa fb sa sb : Int) : Prop := fb ≠ 0 → 0 ≤ sa * a + sb * b ∧ sa * a + sb * b < fa * a + fb * b ∧ fa * a + fb * b ≤ b ∧ Int.gcd (fa * a + fb * b) (sa * a + sb * b) = Int.gcd a b ∧ MixOk fa fb ∧ MixOk sa sb

theorem SInv.done {x0 y0 a b S fa fb sa sb x y : Int} (h : SInv x0 y0 a b fa fb sa sb x y) (hh : Heads x0 y0 a b S) : SEnd a b fa fb sa sb := by
  intro hfb
  rcases h.st with ⟨e1, e2, e3, e4⟩ | ⟨e1, e2, e3⟩
  · exact absurd e2 hfb
  · obtain ⟨n1, n2⟩ := h.near hh
    exact ⟨n1, n2 e1 e2, e3, h.g, h.m1, h.m2⟩

end Go.Proofs.Ytbenkbgdahcaaaa.Limb
