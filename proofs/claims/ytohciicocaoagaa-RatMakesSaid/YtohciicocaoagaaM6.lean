/- Part 6 of the texts that the statements of this seat lean on: mathematics, and what functions answer, as contracts over memory; each part says its own conditions. -/
import Derived.Test.YtohciicocaoagaaM5
import Derived.Deep.RegionHeld3
/- What package quo's nearer answers, as a contract over memory: two numbers further on in the divisions of two numbers by each other: the same greatest divisor, the second one less than it was. Conditions: both lists are the shortest ones, of at most 10^5 limbs; the first number has more than two limbs, the second one is not 0 and not above it. -/
namespace Go.Proofs.Ytohciicocaoagaa.Limb

theorem gcd_cast {a b x y : Nat} (h : Int.gcd (x : Int) (y : Int) = Int.gcd (a : Int) (b : Int)) : gcdN x y = gcdN a b := by
  unfold gcdN; simpa [Int.gcd_natCast_natCast] using h

/-- The heads of two numbers, as far as the first one's highest 62 bits. -/
theorem heads_of {a b k : Nat} (hk : k + 62 = blen a) (hba : b ≤ a) : Heads ((a / 2 ^ k : Nat) : Int) ((b / 2 ^ k : Nat) : Int) (a : Int) (b : Int) ((2 ^ k : Nat) : Int) := by
  have hS : 0 < 2 ^ k := Nat.two_pow_pos k
  have h1 := Nat.div_mul_le_self a (2 ^ k)
  have h2 := Nat.lt_mul_div_succ a hS
  have h3 := Nat.div_mul_le_self b (2 ^ k)
  have h4 := Nat.lt_mul_div_succ b hS
  have h5 : a / 2 ^ k < 4611686018427387904 := by
    rw [Nat.div_lt_iff_lt_mul hS]
    have := blen_lt a
    rw [← hk, Nat.add_comm, Nat.pow_add] at this
    exact this
  have h6 : b / 2 ^ k ≤ a / 2 ^ k := Nat.div_le_div_right hba
  rw [Nat.mul_comm] at h2 h4
  generalize a / 2 ^ k = x at *
  generalize b / 2 ^ k = y at *
  generalize 2 ^ k = S at *
  refine ⟨by omega, ?_, ?_, ?_, ?_, by omega, by omega, by omega, by omega⟩
  · have : ((x * S : Nat) : Int) ≤ (a : Int) := by omega
    simpa using this
  · have : (a : Int) < (((x + 1) * S : Nat) : Int) := by omega
    simpa using this
  · have : ((y * S : Nat) : Int) ≤ (b : Int) := by omega
    simpa using this
  · have : (b : Int) < (((y + 1) * S : Nat) : Int) := by omega
    simpa using this

theorem head_small {a b k : Nat} (hk : k + 62 = blen a) (hba : b ≤ a) : b / 2 ^ k % 18446744073709551616 = b / 2 ^ k := by
  have h5 : b / 2 ^ k < 4611686018427387904 := by
    rw [Nat.div_lt_iff_lt_mul (Nat.two_pow_pos k)]
    have := blen_lt a
    rw [← hk, Nat.add_comm, Nat.pow_add] at this
    exact Nat.lt_of_le_of_lt hba this
  exact Nat.mod_eq_of_lt (by omega)

theorem blen_long {a : Nat} (h : 2 < (limbs a).length) : 65 ≤ blen a := by
  have h0 : a ≠ 0 := by intro e; rw [e, limbs_zero] at h; simp at h
  have h1 := length_limbs_pred h0
  have h2 : 4294967296 ^ 2 ≤ 4294967296 ^ ((limbs a).length - 1) := Nat.pow_le_pow_right (by decide) (by omega)
  have h3 := blen_lt a
  have h4 : 2 ^ 64 < 2 ^ blen a := Nat.lt_of_le_of_lt (Nat.le_trans (by decide) (Nat.le_trans h2 h1)) h3
  have := (Nat.pow_lt_pow_iff_right (by decide)).1 h4
  omega

end Go.Proofs.Ytohciicocaoagaa.Limb
namespace Go.Proofs.Ytohciicocaoagaa
open Go.RowKit Limb
set_option linter.unusedVariables false

theorem of_c2 (P Q : Int) {A A' : Option Addr} {n c n' c' a b L L' : Nat} {w : World} (hx : NN w A n c (limbs a) a L) (hy : NN w A' n' c' (limbs b) b L') (h1 : L ≤ 100000) (hba : b ≤ a) (hPQ : MixOk P Q) (v : Nat) (hv : P * (a : Int) + Q * (b : Int) = (v : Int)) (hva : v ≤ a) :
    Calls Try.prog 83 #[.agg #[.int .i64 P, .int .i64 Q], .slice A n c, .slice A' n' c'] w fun e w' => ∃ A2 n2 c2, e = .returned (.slice A2 n2 c2) ∧ NN w' A2 n2 c2 (limbs v) v L ∧ Below w.heap.size w w' := by
  have hn : n' ≤ n := by rw [← hx.isN.len, ← hy.isN.len]; exact length_limbs_mono hba
  have hv2 : v < 4294967296 ^ n := by
    have h := val_lt hx.isN.small
    rw [hx.val, hx.isN.len] at h
    omega
  refine (of_mix P Q A n c (limbs a) A' n' c' (limbs b) w hx.isN hy.isN (by have := hx.le; omega) hn hPQ v (by rw [val_limbs, val_limbs]; exact hv) hv2).mono ?_
  rintro e w' ⟨A2, n2, c2, rfl, how, hb⟩
  exact ⟨A2, n2, c2, rfl, NN.own how (Nat.lt_of_le_of_lt hva (lt_pow hx)), hb⟩

set_option maxHeartbeats 1000000 in
theorem nearer_c {A A' : Option Addr} {n c n' c' a b L : Nat} {w : World} (hx : NN w A n c (limbs a) a L) (hy : NN w A' n' c' (limbs b) b L) (h1 : L ≤ 100000) (h3 : 2 < n) (hb : b ≠ 0) (hba : b ≤ a) :
    Calls Try.prog 60 #[.slice A n c, .slice A' n' c'] w fun e w' => ∃ x y A1 n1 c1 A2 n2 c2, e = .returned (.tuple #[.slice A1 n1 c1, .slice A2 n2 c2]) ∧ NN w' A1 n1 c1 (limbs x) x L ∧ NN w' A2 n2 c2 (limbs y) y L ∧
      RowKit.Hid (y < b ∧ y ≤ x ∧ gcdN x y = gcdN a b) ∧ Below w.heap.size w w' := by
  have hbl : 65 ≤ blen a := blen_long (by rw [hx.isN.len]; exact h3)
  have hb32 := blen_NN hx
  obtain ⟨k, hk⟩ : ∃ k, k + 62 = blen a := ⟨blen a - 62, by omega⟩
  have hH := heads_of hk hba
  have hs1 := head_small hk (Nat.le_refl a)
  have hs2 := head_small hk hba
  obtain ⟨x0, hx0⟩ : ∃ x, x = a / 2 ^ k := ⟨_, rfl⟩
  obtain ⟨y0, hy0⟩ : ∃ x, x = b / 2 ^ k := ⟨_, rfl⟩
  rw [← hx0] at hH
  rw [← hy0] at hH
  replace hs1 := hs1.trans hx0.symm
  replace hs2 := hs2.trans hy0.symm
  have x62 : x0 < 4611686018427387904 := by have := hH.x62; omega
  have y62 : y0 < 4611686018427387904 := by have := hH.yx; omega
  obtain ⟨l, hl⟩ : ∃ l, l = blen a := ⟨_, rfl⟩
  have hlk : (l : Int) - 62 = (k : Int) := by omega
  have hkk : k ≤ 3200000 := by omega
  have Hl := Lib.hid hl.symm
  have HH := Lib.hid hH
  have Hs1 := Lib.hid hs1
  have Hs2 := Lib.hid hs2
  have Hb0 := Lib.hid hb
  have Hba := Lib.hid hba
  have hle1 := hx.le
  have hle2 := hy.le
  clear hk hH hs1 hs2 hx0 hy0 hl hbl hb hba hb32
  go_enter Try.func60, Try.ntmps60
  go_wp2_with fail
  refine (bits_c hx (by omega) (l : Int) (by rw [Hl.out])).mono ?_
  rintro e w1 ⟨rfl, rfl⟩
  go_wp2_with fail
  refine (head_any A n c (limbs a) w hx.isN (by omega) k _ (by omega) (by omega) x0 (by rw [val_limbs]; exact Hs1.out)).mono ?_
  rintro e w1 ⟨rfl, nd, rfl⟩
  have bn := below_drewN (Below.refl w.heap.size w) nd
  have hx1 := hx.below bn
  have hy1 := hy.below bn
  have bw := bn
  clear bn hx hy
  generalize w.drewN nd = w1 at *
  go_wp2_with fail
  refine (head_any A' n' c' (limbs b) w1 hy1.isN (by omega) k _ (by omega) (by omega) y0 (by rw [val_limbs]; exact Hs2.out)).mono ?_
  rintro e w2 ⟨rfl, nd, rfl⟩
  have bn := below_drewN (Below.refl w1.heap.size w1) nd
  have hx2 := hx1.below bn
  have hy2 := hy1.below bn
  replace bw := below_two bw bn
  clear bn hx1 hy1
  generalize w1.drewN nd = w2 at *
  go_wp2_with fail
  refine (sure_any (x0 : Int) (y0 : Int) (a : Int) (b : Int) _ HH.out w2).mono ?_
  rintro e w3 ⟨fa, fb, sa, sb, rfl, hE, bn⟩
  have HE := Lib.hid hE
  have hx3 := hx2.below bn
  have hy3 := hy2.below bn
  replace bw := below_two bw bn
  clear hE bn hx2 hy2
  have P7 : RowKit.Hid (Pair ((w3.alloc (.cells #[Value.int .i64 fa, Value.int .i64 fb] 88)).alloc (.cells #[Value.int .i64 sa, Value.int .i64 sb] 88)) w3.heap.size fa fb) := (pair_new w3 fa fb).below (below_new _ _)
  have P8 : RowKit.Hid (Pair ((w3.alloc (.cells #[Value.int .i64 fa, Value.int .i64 fb] 88)).alloc (.cells #[Value.int .i64 sa, Value.int .i64 sb] 88)) (w3.heap.size + 1) sa sb) := by
    have h := pair_new (w3.alloc (.cells #[Value.int .i64 fa, Value.int .i64 fb] 88)) sa sb
    have e : (w3.alloc (.cells #[Value.int .i64 fa, Value.int .i64 fb] 88)).heap.size = w3.heap.size + 1 := by simp
    rw [e] at h
    exact h
  have bn := below_two (below_new w3 (.cells #[Value.int .i64 fa, Value.int .i64 fb] 88)) (below_new _ (.cells #[Value.int .i64 sa, Value.int .i64 sb] 88))
  have hx4 := hx3.below bn
  have hy4 := hy3.below bn
  replace bw := below_two bw bn
  clear bn hx3 hy3
  by_cases hfb : fb = 0
  · subst hfb
    have c71 := P7.out.c1
    clear P7 P8
    go_wp2_with fail
    refine (quoRem_yes hx4 hy4 h1 h1 Hb0.out).mono ?_
    rintro e w5 ⟨A5, n5, c5, A6, n6, c6, rfl, hq, hr, bn⟩
    have HX := Lib.hid (hy4.below bn)
    have HY := Lib.hid hr
    have HW := Lib.hid (below_two bw bn)
    have HP : RowKit.Hid (a % b < b ∧ a % b ≤ b ∧ gcdN b (a % b) = gcdN a b) := ⟨Nat.mod_lt _ (Nat.pos_of_ne_zero Hb0.out), Nat.le_of_lt (Nat.mod_lt _ (Nat.pos_of_ne_zero Hb0.out)), gcdN_step rfl⟩
    clear hq hr bn bw hx4 hy4 c71
    go_wp2
    go_ret2
    exact ⟨b, a % b, _, _, _, _, _, _, rfl, HX.out, HY.out, HP, HW.out⟩
  · have hf1 : (fb != 0) = true := by simp [hfb]
    obtain ⟨v1, v2, v3, v4, v5, v6⟩ := HE.out hfb
    obtain ⟨x, hx⟩ := Int.eq_ofNat_of_zero_le (show 0 ≤ fa * (a : Int) + fb * (b : Int) by omega)
    obtain ⟨y, hy⟩ := Int.eq_ofNat_of_zero_le v1
    rw [hx, hy] at v4
    have HP : RowKit.Hid (y < b ∧ y ≤ x ∧ gcdN x y = gcdN a b) := ⟨by omega, by omega, gcd_cast v4⟩
    have hxa : x ≤ a := by have := Hba.out; omega
    have hya : y ≤ a := by have := Hba.out; omega
    have c70 := P7.out.c0
    have c71 := P7.out.c1
    have c80 := P8.out.c0
    have c81 := P8.out.c1
    have l7 := P7.out.lt
    have l8 := P8.out.lt
    have Hx := Lib.hid hx
    have Hy := Lib.hid hy
    have HX4 := Lib.hid hx4
    have HY4 := Lib.hid hy4
    have HW4 := Lib.hid bw
    clear hx hy v1 v2 v3 v4 P7 P8 HE hx4 hy4 bw
    go_wp2
    generalize (w3.alloc (.cells #[Value.int .i64 fa, Value.int .i64 fb] 88)).alloc (.cells #[Value.int .i64 sa, Value.int .i64 sb] 88) = w4 at *
    obtain ⟨g7, hg7⟩ : ∃ g, g = w3.heap.size := ⟨_, rfl⟩
    rw [← hg7] at c70 c71 c80 c81 l7 l8 ⊢
    clear hg7
    have Hc : RowKit.Hid (∀ wx, Below w4.heap.size w4 wx → wx.cell? ⟨g7, 0, none⟩ = some (.int .i64 fa) ∧ wx.cell? ⟨g7, 1, none⟩ = some (.int .i64 fb) ∧ wx.cell? ⟨g7 + 1, 0, none⟩ = some (.int .i64 sa) ∧ wx.cell? ⟨g7 + 1, 1, none⟩ = some (.int .i64 sb)) := fun wx hb =>
      ⟨(hb.cell (p := ⟨g7, 0, none⟩) l7).trans c70, (hb.cell (p := ⟨g7, 1, none⟩) l7).trans c71, (hb.cell (p := ⟨g7 + 1, 0, none⟩) l8).trans c80, (hb.cell (p := ⟨g7 + 1, 1, none⟩) l8).trans c81⟩
    have KA : RowKit.Hid (∀ wx, Below w4.heap.size w4 wx → (wx.cell? ⟨g7, 0, none⟩ = some (.int .i64 fa) ∧ wx.cell? ⟨g7, 1, none⟩ = some (.int .i64 fb) ∧ wx.cell? ⟨g7 + 1, 0, none⟩ = some (.int .i64 sa) ∧ wx.cell? ⟨g7 + 1, 1, none⟩ = some (.int .i64 sb) ∧ Below w4.heap.size w4 wx)) := fun wx hb =>
      ⟨(Hc.out wx hb).1, (Hc.out wx hb).2.1, (Hc.out wx hb).2.2.1, (Hc.out wx hb).2.2.2, hb⟩
    have KS : RowKit.Hid (∀ wx w2, (wx.cell? ⟨g7, 0, none⟩ = some (.int .i64 fa) ∧ wx.cell? ⟨g7, 1, none⟩ = some (.int .i64 fb) ∧ wx.cell? ⟨g7 + 1, 0, none⟩ = some (.int .i64 sa) ∧ wx.cell? ⟨g7 + 1, 1, none⟩ = some (.int .i64 sb) ∧ Below w4.heap.size w4 wx) → Below wx.heap.size wx w2 →
        (w2.cell? ⟨g7, 0, none⟩ = some (.int .i64 fa) ∧ w2.cell? ⟨g7, 1, none⟩ = some (.int .i64 fb) ∧ w2.cell? ⟨g7 + 1, 0, none⟩ = some (.int .i64 sa) ∧ w2.cell? ⟨g7 + 1, 1, none⟩ = some (.int .i64 sb) ∧ Below w4.heap.size w4 w2)) := fun wx w2 hS hb => KA.out w2 (below_two hS.2.2.2.2 hb)
    have K1 : RowKit.Hid (∀ wx, (wx.cell? ⟨g7, 0, none⟩ = some (.int .i64 fa) ∧ wx.cell? ⟨g7, 1, none⟩ = some (.int .i64 fb) ∧ wx.cell? ⟨g7 + 1, 0, none⟩ = some (.int .i64 sa) ∧ wx.cell? ⟨g7 + 1, 1, none⟩ = some (.int .i64 sb) ∧ Below w4.heap.size w4 wx) →
        Calls Try.prog 83 #[.agg #[.int .i64 fa, .int .i64 fb], .slice A n c, .slice A' n' c'] wx fun e w' => ∃ A2 n2 c2, e = .returned (.slice A2 n2 c2) ∧ NN w' A2 n2 c2 (limbs x) x L ∧ Below wx.heap.size wx w') := fun wx hS =>
      of_c2 fa fb (HX4.out.below hS.2.2.2.2) (HY4.out.below hS.2.2.2.2) h1 Hba.out v5 x Hx.out hxa
    have K2 : RowKit.Hid (∀ wx, (wx.cell? ⟨g7, 0, none⟩ = some (.int .i64 fa) ∧ wx.cell? ⟨g7, 1, none⟩ = some (.int .i64 fb) ∧ wx.cell? ⟨g7 + 1, 0, none⟩ = some (.int .i64 sa) ∧ wx.cell? ⟨g7 + 1, 1, none⟩ = some (.int .i64 sb) ∧ Below w4.heap.size w4 wx) →
        Calls Try.prog 83 #[.agg #[.int .i64 sa, .int .i64 sb], .slice A n c, .slice A' n' c'] wx fun e w' => ∃ A2 n2 c2, e = .returned (.slice A2 n2 c2) ∧ NN w' A2 n2 c2 (limbs y) y L ∧ Below wx.heap.size wx w') := fun wx hS =>
      of_c2 sa sb (HX4.out.below hS.2.2.2.2) (HY4.out.below hS.2.2.2.2) h1 Hba.out v6 y Hy.out hya
    have KF : RowKit.Hid (∀ wx, (wx.cell? ⟨g7, 0, none⟩ = some (.int .i64 fa) ∧ wx.cell? ⟨g7, 1, none⟩ = some (.int .i64 fb) ∧ wx.cell? ⟨g7 + 1, 0, none⟩ = some (.int .i64 sa) ∧ wx.cell? ⟨g7 + 1, 1, none⟩ = some (.int .i64 sb) ∧ Below w4.heap.size w4 wx) → Below w.heap.size w wx) := fun wx hS => below_two HW4.out hS.2.2.2.2
    clear c70 c71 c80 c81 v5 v6 l7 l8 HX4 HY4 HW4 Hc
    go_region_held3 (fun wx => wx.cell? ⟨g7, 0, none⟩ = some (.int .i64 fa) ∧ wx.cell? ⟨g7, 1, none⟩ = some (.int .i64 fb) ∧ wx.cell? ⟨g7 + 1, 0, none⟩ = some (.int .i64 sa) ∧ wx.cell? ⟨g7 + 1, 1, none⟩ = some (.int .i64 sb) ∧ Below w4.heap.size w4 wx) (first | assumption | exact KA.out _ ((Below.refl _ _).drew)) (first
      | (go_at_call 83; (with_reducible refine (K1.out _ (by assumption)).mono ?_); rintro e w2 ⟨A_x, n_x, c_x, rfl, h_x, bn_x⟩; have hS2 := KS.out _ _ (by assumption) bn_x)
      | (go_at_call 83; (with_reducible refine (K2.out _ (by assumption)).mono ?_); rintro e w2 ⟨A_y, n_y, c_y, rfl, h_y, bn_y⟩; have hS2 := KS.out _ _ (by assumption) bn_y))
    all_goals
      have HX := Lib.hid (h_x.below bn_y)
      have HY := Lib.hid h_y
      have HW := Lib.hid (KF.out _ hS2)
      clear h_x h_y bn_x bn_y
      go_wp2
      go_ret2
      exact ⟨x, y, _, _, _, _, _, _, rfl, HX.out, HY.out, HP, HW.out⟩

end Go.Proofs.Ytohciicocaoagaa

/- What package quo's Gcd answers, as a contract over memory: the greatest divisor in common, in its shortest limbs. Conditions: both lists read as limbs, of at most 40000 of them. -/
namespace Go.Proofs.Ytohciicocaoagaa
open Go.RowKit Limb
set_option linter.unusedVariables false

theorem gcdN_comm (a b : Nat) : gcdN a b = gcdN b a := Nat.gcd_comm a b

set_option maxHeartbeats 1000000 in
theorem quoGcd_c {A A' : Option Addr} {n c n' c' : Nat} {xs ys : List Nat} {a b L L' : Nat} {w : World} (hx : NN w A n c xs a L) (hy : NN w A' n' c' ys b L') (h1 : L ≤ 40000) (h2 : L' ≤ 40000) (K : Nat) (hK : gcdN a b < 4294967296 ^ K) :
    Calls Try.prog 28 #[.slice A n c, .slice A' n' c'] w fun e w' => ∃ A2 n2 c2, e = .returned (.slice A2 n2 c2) ∧ NN w' A2 n2 c2 (limbs (gcdN a b)) (gcdN a b) K ∧ Below w.heap.size w w' := by
  have r1 := Nat.lt_of_lt_of_le (lt_pow hx) (Nat.pow_le_pow_right (show 0 < 4294967296 by decide) (Nat.le_add_right L L'))
  have r2 := Nat.lt_of_lt_of_le (lt_pow hy) (Nat.pow_le_pow_right (show 0 < 4294967296 by decide) (Nat.le_add_left L' L))
  obtain ⟨g, hg⟩ : ∃ g, gcdN a b = g := ⟨_, rfl⟩
  obtain ⟨M, hM⟩ : ∃ M, M = L + L' := ⟨_, rfl⟩
  have hM2 : M ≤ 80000 := by omega
  rw [← hM] at r1 r2
  rw [hg] at hK ⊢
  have R1 := Lib.hid r1
  have R2 := Lib.hid r2
  have HK := Lib.hid hK
  have Hg := Lib.hid hg
  clear r1 r2 hM hK hg
  go_enter Try.func28, Try.ntmps28
  go_wp2_with fail
  refine (trim_c hx (by omega)).mono ?_
  rintro e w1 ⟨A1, n1, c1, rfl, hx1, bn⟩
  have hy1 := hy.below bn
  have bw := bn
  clear hx hy bn
  go_wp2_with fail
  refine (trim_c hy1 (by omega)).mono ?_
  rintro e w2 ⟨A2, n2, c2, rfl, hy2, bn⟩
  have hx2 := (hx1.below bn).relax R1.out
  replace hy2 := hy2.relax R2.out
  replace bw := below_two bw bn
  clear bn hx1 hy1 R1 R2
  by_cases hlt : a < b
  case' pos =>
    have Hv := Lib.hid (cmpI_lt hlt)
    have Hr : RowKit.Hid (a ≤ b ∧ gcdN b a = g) := ⟨Nat.le_of_lt hlt, by rw [gcdN_comm]; exact Hg.out⟩
    clear hlt Hg
    go_wp2_with fail
    refine (cmp_c hx2 hy2 (by omega) (by omega) (-1) Hv.out).mono ?_
    rintro e w3 ⟨rfl, bn⟩
    have HX := Lib.hid (hy2.below bn)
    have HY := Lib.hid (hx2.below bn)
  case' neg =>
    obtain ⟨v, hv, hv0⟩ : ∃ v, cmpI a b = v ∧ 0 ≤ v := by
      rcases Nat.lt_trichotomy a b with h | h | h
      · exact absurd h hlt
      · exact ⟨0, by rw [h]; exact cmpI_eq _, by omega⟩
      · exact ⟨1, cmpI_gt h, by omega⟩
    have Hv := Lib.hid hv
    have Hr : RowKit.Hid (b ≤ a ∧ gcdN a b = g) := ⟨Nat.le_of_not_lt hlt, Hg.out⟩
    clear hlt hv Hg
    go_wp2_with fail
    refine (cmp_c hx2 hy2 (by omega) (by omega) v Hv.out).mono ?_
    rintro e w3 ⟨rfl, bn⟩
    have HX := Lib.hid (hx2.below bn)
    have HY := Lib.hid (hy2.below bn)
  all_goals
    have HW := Lib.hid (below_two bw bn)
    clear hx2 hy2 bn bw Hv
    go_wp2
    go_loopw [0, 1] (fun xv yv wr => ∃ (x y : Nat) (A1 : Option Addr) (n1 c1 : Nat) (A2 : Option Addr) (n2 c2 : Nat), xv = .slice A1 n1 c1 ∧ yv = .slice A2 n2 c2 ∧ RowKit.Hid (y ≤ x ∧ gcdN x y = g) ∧ RowKit.Hid (NN wr A1 n1 c1 (limbs x) x M) ∧ RowKit.Hid (NN wr A2 n2 c2 (limbs y) y M) ∧ RowKit.Hid (Below w.heap.size w wr)) (fun _ yv wr => readN wr yv)
    case atStart => exact ⟨_, _, _, _, _, _, _, _, rfl, rfl, Hr, HX, HY, HW⟩
    case round =>
      clear Hr HX HY HW
      obtain ⟨x, y, A1, n1, c1, A2, n2, c2, rfl, rfl, Hr, HX, HY, HW⟩ := hrel
      by_cases h0 : y = 0
      · subst h0
        have hn0 : n2 = 0 := by have := HY.out.isN.len; rw [limbs_zero] at this; exact this.symm
        subst hn0
        have HG := Lib.hid (gcdN_end Hr.out.2)
        go_wp2
        go_ret
        exact ⟨A1, n1, c1, rfl, by rw [← HG.out]; exact HX.out.relax (by rw [HG.out]; exact HK.out), HW.out⟩
      · have hpos : 0 < n2 := by
          have h := HY.out.isN.len
          rw [limbs_pos h0] at h
          simp at h
          omega
        have H0 := Lib.hid h0
        have hx := HX.out
        have hy := HY.out
        clear h0
        by_cases hn : 2 < n1
        · go_wp2_with fail
          refine (nearer_c hx hy (by omega) hn H0.out Hr.out.1).mono ?_
          rintro e w4 ⟨x', y', A3, n3, c3, A4, n4, c4, rfl, h3, h4, Hp, bn⟩
          have HX2 := Lib.hid h3
          have HY2 := Lib.hid h4
          have HW2 := Lib.hid (below_two HW.out bn)
          have HR2 : RowKit.Hid (y' ≤ x' ∧ gcdN x' y' = g) := ⟨Hp.out.2.1, Hp.out.2.2.trans Hr.out.2⟩
          have HM : RowKit.Hid (readN w4 (.slice A4 n4 c4) < readN wr (.slice A2 n2 c2)) := by
            show _ < _
            rw [readN_eq h4.isN, readN_eq hy.isN, val_limbs, val_limbs]
            exact Hp.out.1
          clear hx hy h3 h4 bn HX HY HW Hr Hp
          go_wp2
          go_roundw
          case rel => exact ⟨x', y', A3, n3, c3, A4, n4, c4, rfl, rfl, HR2, HX2, HY2, HW2⟩
          case measure => exact HM.out
        · have hx64 : x < 18446744073709551616 := by
            have h := val_lt hx.isN.small
            rw [hx.val, hx.isN.len] at h
            have h2 : 4294967296 ^ n1 ≤ 4294967296 ^ 2 := Nat.pow_le_pow_right (by decide) (by omega)
            exact Nat.lt_of_lt_of_le h h2
          have hy64 : y < 18446744073709551616 := Nat.lt_of_le_of_lt Hr.out.1 hx64
          have Hx1 : RowKit.Hid (val (limbs x) / 2 ^ 0 % 18446744073709551616 = x) := by show _ = _; rw [val_limbs, Nat.pow_zero, Nat.div_one, Nat.mod_eq_of_lt hx64]
          have Hy1 : RowKit.Hid (val (limbs y) / 2 ^ 0 % 18446744073709551616 = y) := by show _ = _; rw [val_limbs, Nat.pow_zero, Nat.div_one, Nat.mod_eq_of_lt hy64]
          have hg64 : g < 18446744073709551616 := by
            rw [← Hr.out.2]
            exact Nat.lt_of_le_of_lt (Nat.gcd_le_right _ (Nat.pos_of_ne_zero H0.out)) hy64
          have hl1 := hx.le
          have hl2 := hy.le
          have hn2 : n1 ≤ 2 := by omega
          clear HX HY hn
          go_wp2_with fail
          refine (head_any A1 n1 c1 (limbs x) wr hx.isN (by omega) 0 _ rfl (by omega) x Hx1.out).mono ?_
          rintro e w4 ⟨rfl, nd, rfl⟩
          have bn := below_drewN (Below.refl wr.heap.size wr) nd
          have hy3 := hy.below bn
          have bw := below_two HW.out bn
          clear bn hx hy
          generalize wr.drewN nd = w4 at *
          go_wp2_with fail
          refine (head_any A2 n2 c2 (limbs y) w4 hy3.isN (by omega) 0 _ rfl (by omega) y Hy1.out).mono ?_
          rintro e w5 ⟨rfl, nd, rfl⟩
          have bn := below_drewN (Below.refl w4.heap.size w4) nd
          replace bw := below_two bw bn
          clear bn hy3
          generalize w4.drewN nd = w5 at *
          go_wp2_with fail
          refine (gcdSmall_any x y _ _ rfl rfl w5 hx64 hy64 g Hr.out.2).mono ?_
          rintro e w6 ⟨rfl, bn⟩
          replace bw := below_two bw bn
          clear bn
          go_wp2_with fail
          refine (of_c g _ rfl hg64 w6).mono ?_
          rintro e w7 ⟨A7, n7, c7, rfl, ho, bn⟩
          have HO := Lib.hid (ho.relax HK.out)
          replace bw := below_two bw bn
          clear bn ho
          go_wp2
          go_ret
          exact ⟨_, _, _, rfl, HO.out, bw⟩

end Go.Proofs.Ytohciicocaoagaa

/- What package rat's Good answers, as a contract over memory. Conditions: sizes of at most so many limbs. -/
namespace Go.Proofs.Ytohciicocaoagaa
open Go.RowKit Limb
set_option linter.unusedVariables false
section
variable {w : World} {s s' : Bool} {A B A' B' : Option Addr} {n c m d n' c' m' d' : Nat} {xs ys xs' ys' : List Nat} {x y : Int} {a b L L' : Nat}
set_option maxHeartbeats 40000000 in
set_option maxRecDepth 100000 in
theorem rGood_c {o : Option Rat} (hx : QQ w s A n c xs B m d ys o L) (h1 : L ≤ 10000) (v : Bool) (hv : o.isSome = v) :
    Calls Try.prog 14 #[.agg #[.bool s, .slice A n c, .slice B m d]] w fun e w' => e = .returned (.bool v) ∧ Below w.heap.size w w' := by
  have hg := hx.good
  rw [hv] at hg
  have hlx := hx.bot.isN.len
  have hlt := hx.top.nn.isN.len
  have hsx := hx.top.nn.isN.small
  have hsy := hx.bot.isN.small
  have b0 := below_new w (.cells #[Value.bool s, Value.slice A n c, Value.slice B m d] 28)
  have HW := Lib.hid b0
  have HX : RowKit.Hid (NN (w.alloc (.cells #[Value.bool s, Value.slice A n c, Value.slice B m d] 28)) A n c xs (Limb.val xs) L) := by
    have h := hx.top.nn.below b0
    rw [zOf_abs] at h
    exact h
  have HY := Lib.hid (hx.bot.below b0)
  have HR0 := Lib.hid (row3_new w 28 (.bool s) (.slice A n c) (.slice B m d))
  clear b0 hx hv
  by_cases k1 : xs = limbs (Limb.val xs)
  · by_cases k2 : ys = limbs (Limb.val ys)
    · by_cases k5 : n ≤ 64 ∧ m ≤ 64
      · by_cases k3 : m = 0
        · have hgf : goodV s xs ys = false := by
            rw [Bool.eq_false_iff]
            intro h
            obtain ⟨g1, g2, g3, g4, g5, g6, g7⟩ := goodV_iff.1 h
            exact g3 (by rw [List.eq_nil_of_length_eq_zero (hlx.trans k3)]; rfl)
          obtain rfl : v = false := hg.symm.trans hgf
          clear hg hgf hlx hlt hsx hsy
          have m0 : ((m : Int) == 0) = true := by rw [beq_iff_eq]; omega
          have K1 : RowKit.Hid (decide (xs = limbs (Limb.val xs)) = true) := by show _ = _; simpa using k1
          have K2 : RowKit.Hid (decide (ys = limbs (Limb.val ys)) = true) := by show _ = _; simpa using k2
          have K5 : RowKit.Hid ((decide (n ≤ 64) && decide (m ≤ 64)) = true) := by show _ = _; simpa using k5
          clear k1 k2 k5 k3
          go_enter Try.func14, Try.ntmps14
          go_wp2_with fail
          generalize w.alloc (.cells #[Value.bool s, Value.slice A n c, Value.slice B m d] 28) = w1 at *
          refine (rTrimmed_c HX.out (by omega) true K1.out).mono ?_
          rintro e w2 ⟨rfl, rfl⟩
          have c00 := HR0.out.c0
          have c01 := HR0.out.c1
          have c02 := HR0.out.c2
          go_wp2_with fail
          clear c00 c01 c02
          refine (rTrimmed_c HY.out (by omega) true K2.out).mono ?_
          rintro e w2 ⟨rfl, rfl⟩
          have c00 := HR0.out.c0
          have c01 := HR0.out.c1
          have c02 := HR0.out.c2
          go_wp2_with fail
          clear c00 c01 c02
          refine (rFits_c s A B n c m d _ true K5.out).mono ?_
          rintro e w3 ⟨rfl, bn⟩
          replace HX := Lib.hid (HX.out.below bn)
          replace HY := Lib.hid (HY.out.below bn)
          replace HR0 := Lib.hid (HR0.out.below bn)
          replace HW := Lib.hid (below_two HW.out bn)
          clear bn
          have c00 := HR0.out.c0
          have c01 := HR0.out.c1
          have c02 := HR0.out.c2
          go_wp2
          go_ret
          exact ⟨rfl, HW.out⟩
        · by_cases k4 : s = true ∧ n = 0
          · obtain ⟨k4s, k4n⟩ := k4
            have hgf : goodV s xs ys = false := by
              rw [Bool.eq_false_iff]
              intro h
              obtain ⟨g1, g2, g3, g4, g5, g6, g7⟩ := goodV_iff.1 h
              exact g4 ⟨k4s, by rw [List.eq_nil_of_length_eq_zero (hlt.trans k4n)]; rfl⟩
            obtain rfl : v = false := hg.symm.trans hgf
            clear hg hgf hlx hlt hsx hsy
            have m0 : ((m : Int) == 0) = false := by rw [beq_eq_false_iff_ne]; omega
            have n0 : ((n : Int) == 0) = true := by rw [beq_iff_eq]; omega
            subst k4s
            have K1 : RowKit.Hid (decide (xs = limbs (Limb.val xs)) = true) := by show _ = _; simpa using k1
            have K2 : RowKit.Hid (decide (ys = limbs (Limb.val ys)) = true) := by show _ = _; simpa using k2
            have K5 : RowKit.Hid ((decide (n ≤ 64) && decide (m ≤ 64)) = true) := by show _ = _; simpa using k5
            clear k1 k2 k5 k3 k4n
            go_enter Try.func14, Try.ntmps14
            go_wp2_with fail
            generalize w.alloc (.cells #[Value.bool true, Value.slice A n c, Value.slice B m d] 28) = w1 at *
            refine (rTrimmed_c HX.out (by omega) true K1.out).mono ?_
            rintro e w2 ⟨rfl, rfl⟩
            have c00 := HR0.out.c0
            have c01 := HR0.out.c1
            have c02 := HR0.out.c2
            go_wp2_with fail
            clear c00 c01 c02
            refine (rTrimmed_c HY.out (by omega) true K2.out).mono ?_
            rintro e w2 ⟨rfl, rfl⟩
            have c00 := HR0.out.c0
            have c01 := HR0.out.c1
            have c02 := HR0.out.c2
            go_wp2_with fail
            clear c00 c01 c02
            refine (rFits_c true A B n c m d _ true K5.out).mono ?_
            rintro e w3 ⟨rfl, bn⟩
            replace HX := Lib.hid (HX.out.below bn)
            replace HY := Lib.hid (HY.out.below bn)
            replace HR0 := Lib.hid (HR0.out.below bn)
            replace HW := Lib.hid (below_two HW.out bn)
            clear bn
            have c00 := HR0.out.c0
            have c01 := HR0.out.c1
            have c02 := HR0.out.c2
            go_wp2
            go_ret
            exact ⟨rfl, HW.out⟩
          · by_cases hgcd : Nat.gcd (Limb.val xs) (Limb.val ys) = 1
            · have hgt : goodV s xs ys = true := by
                rw [goodV_iff]
                refine ⟨k1, k2, ?_, ?_, by omega, by omega, hgcd⟩
                · intro h; rw [h, limbs_zero] at k2; rw [k2] at hlx; simp at hlx; omega
                · rintro ⟨h1, h2⟩
                  rw [h2, limbs_zero] at k1; rw [k1] at hlt; simp at hlt
                  exact k4 ⟨h1, by omega⟩
              obtain rfl : v = true := hg.symm.trans hgt
              have hl2 := Lib.hid hlx
              clear hg hgt hlx hlt hsx hsy
              obtain ⟨z, hz0⟩ : ∃ z : Int, z = 0 := ⟨_, rfl⟩
              have HZ : RowKit.Hid (cmpI (gcdN (Limb.val xs) (Limb.val ys)) 1 = z) := by show _ = _; rw [hz0]; exact cmpI_same hgcd
              have hzz : (z == 0) = true := by rw [hz0]; rfl
              clear hgcd hz0
              have m0 : ((m : Int) == 0) = false := by rw [beq_eq_false_iff_ne]; omega
              have HG : RowKit.Hid (gcdN (Limb.val xs) (Limb.val ys) < 4294967296 ^ L) := Nat.lt_of_le_of_lt (Nat.gcd_le_right _ (Nat.pos_of_ne_zero fun h0 => k3 (by rw [← hl2.out, k2, h0]; rfl))) (lt_pow HY.out)
              by_cases ks : s = true
              · have n0 : ((n : Int) == 0) = false := by
                  rw [beq_eq_false_iff_ne]
                  have hn0 : n ≠ 0 := fun h => k4 ⟨ks, h⟩
                  omega
                subst ks
                have K1 : RowKit.Hid (decide (xs = limbs (Limb.val xs)) = true) := by show _ = _; simpa using k1
                have K2 : RowKit.Hid (decide (ys = limbs (Limb.val ys)) = true) := by show _ = _; simpa using k2
                have K5 : RowKit.Hid ((decide (n ≤ 64) && decide (m ≤ 64)) = true) := by show _ = _; simpa using k5
                clear k1 k2 k5 k3 k4 hl2
                go_enter Try.func14, Try.ntmps14
                go_wp2_with fail
                generalize w.alloc (.cells #[Value.bool true, Value.slice A n c, Value.slice B m d] 28) = w1 at *
                refine (rTrimmed_c HX.out (by omega) true K1.out).mono ?_
                rintro e w2 ⟨rfl, rfl⟩
                have c00 := HR0.out.c0
                have c01 := HR0.out.c1
                have c02 := HR0.out.c2
                go_wp2_with fail
                clear c00 c01 c02
                refine (rTrimmed_c HY.out (by omega) true K2.out).mono ?_
                rintro e w2 ⟨rfl, rfl⟩
                have c00 := HR0.out.c0
                have c01 := HR0.out.c1
                have c02 := HR0.out.c2
                go_wp2_with fail
                clear c00 c01 c02
                refine (rFits_c true A B n c m d _ true K5.out).mono ?_
                rintro e w3 ⟨rfl, bn⟩
                replace HX := Lib.hid (HX.out.below bn)
                replace HY := Lib.hid (HY.out.below bn)
                replace HR0 := Lib.hid (HR0.out.below bn)
                replace HW := Lib.hid (below_two HW.out bn)
                clear bn
                have c00 := HR0.out.c0
                have c01 := HR0.out.c1
                have c02 := HR0.out.c2
                go_wp2_with fail
                refine (quoGcd_c HX.out HY.out (by omega) (by omega) L HG.out).mono ?_
                rintro e w4 ⟨A3, n3, c3, rfl, h3, bn⟩
                have H3 := Lib.hid h3
                replace HW := Lib.hid (below_two HW.out bn)
                clear bn h3
                clear c00 c01 c02
                go_wp2_with fail
                refine (of_c 1 1 rfl (by decide) _).mono ?_
                rintro e w5 ⟨A4, n4, c4, rfl, h4, bn⟩
                have H4 := Lib.hid h4
                replace H3 := Lib.hid (H3.out.below bn)
                replace HW := Lib.hid (below_two HW.out bn)
                clear bn h4
                go_wp2_with fail
                refine (cmp_c H3.out H4.out (by omega) (by decide) z HZ.out).mono ?_
                rintro e w6 ⟨rfl, bn⟩
                replace HW := Lib.hid (below_two HW.out bn)
                clear bn
                go_wp2
                go_ret
                exact ⟨rfl, HW.out⟩
              · have ks2 : s = false := by simpa using ks
                subst ks2
                have K1 : RowKit.Hid (decide (xs = limbs (Limb.val xs)) = true) := by show _ = _; simpa using k1
                have K2 : RowKit.Hid (decide (ys = limbs (Limb.val ys)) = true) := by show _ = _; simpa using k2
                have K5 : RowKit.Hid ((decide (n ≤ 64) && decide (m ≤ 64)) = true) := by show _ = _; simpa using k5
                clear k1 k2 k5 k3 k4 hl2
                go_enter Try.func14, Try.ntmps14
                go_wp2_with fail
                generalize w.alloc (.cells #[Value.bool false, Value.slice A n c, Value.slice B m d] 28) = w1 at *
                refine (rTrimmed_c HX.out (by omega) true K1.out).mono ?_
                rintro e w2 ⟨rfl, rfl⟩
                have c00 := HR0.out.c0
                have c01 := HR0.out.c1
                have c02 := HR0.out.c2
                go_wp2_with fail
                clear c00 c01 c02
                refine (rTrimmed_c HY.out (by omega) true K2.out).mono ?_
                rintro e w2 ⟨rfl, rfl⟩
                have c00 := HR0.out.c0
                have c01 := HR0.out.c1
                have c02 := HR0.out.c2
                go_wp2_with fail
                clear c00 c01 c02
                refine (rFits_c false A B n c m d _ true K5.out).mono ?_
                rintro e w3 ⟨rfl, bn⟩
                replace HX := Lib.hid (HX.out.below bn)
                replace HY := Lib.hid (HY.out.below bn)
                replace HR0 := Lib.hid (HR0.out.below bn)
                replace HW := Lib.hid (below_two HW.out bn)
                clear bn
                have c00 := HR0.out.c0
                have c01 := HR0.out.c1
                have c02 := HR0.out.c2
                go_wp2_with fail
                refine (quoGcd_c HX.out HY.out (by omega) (by omega) L HG.out).mono ?_
                rintro e w4 ⟨A3, n3, c3, rfl, h3, bn⟩
                have H3 := Lib.hid h3
                replace HW := Lib.hid (below_two HW.out bn)
                clear bn h3
                clear c00 c01 c02
                go_wp2_with fail
                refine (of_c 1 1 rfl (by decide) _).mono ?_
                rintro e w5 ⟨A4, n4, c4, rfl, h4, bn⟩
                have H4 := Lib.hid h4
                replace H3 := Lib.hid (H3.out.below bn)
                replace HW := Lib.hid (below_two HW.out bn)
                clear bn h4
                go_wp2_with fail
                refine (cmp_c H3.out H4.out (by omega) (by decide) z HZ.out).mono ?_
                rintro e w6 ⟨rfl, bn⟩
                replace HW := Lib.hid (below_two HW.out bn)
                clear bn
                go_wp2
                go_ret
                exact ⟨rfl, HW.out⟩
            · have hgf : goodV s xs ys = false := by
                rw [Bool.eq_false_iff]
                intro h
                obtain ⟨g1, g2, g3, g4, g5, g6, g7⟩ := goodV_iff.1 h
                exact hgcd g7
              obtain rfl : v = false := hg.symm.trans hgf
              have hl2 := Lib.hid hlx
              clear hg hgf hlx hlt hsx hsy
              obtain ⟨z, hz0, hz1⟩ : ∃ z : Int, cmpI (gcdN (Limb.val xs) (Limb.val ys)) 1 = z ∧ z ≠ 0 := by
                rcases Nat.lt_trichotomy (gcdN (Limb.val xs) (Limb.val ys)) 1 with h | h | h
                · exact ⟨-1, cmpI_lt h, by decide⟩
                · exact absurd h hgcd
                · exact ⟨1, cmpI_gt h, by decide⟩
              have HZ := Lib.hid hz0
              have hzz : (z == 0) = false := by rw [beq_eq_false_iff_ne]; exact hz1
              clear hgcd hz0 hz1
              have m0 : ((m : Int) == 0) = false := by rw [beq_eq_false_iff_ne]; omega
              have HG : RowKit.Hid (gcdN (Limb.val xs) (Limb.val ys) < 4294967296 ^ L) := Nat.lt_of_le_of_lt (Nat.gcd_le_right _ (Nat.pos_of_ne_zero fun h0 => k3 (by rw [← hl2.out, k2, h0]; rfl))) (lt_pow HY.out)
              by_cases ks : s = true
              · have n0 : ((n : Int) == 0) = false := by
                  rw [beq_eq_false_iff_ne]
                  have hn0 : n ≠ 0 := fun h => k4 ⟨ks, h⟩
                  omega
                subst ks
                have K1 : RowKit.Hid (decide (xs = limbs (Limb.val xs)) = true) := by show _ = _; simpa using k1
                have K2 : RowKit.Hid (decide (ys = limbs (Limb.val ys)) = true) := by show _ = _; simpa using k2
                have K5 : RowKit.Hid ((decide (n ≤ 64) && decide (m ≤ 64)) = true) := by show _ = _; simpa using k5
                clear k1 k2 k5 k3 k4 hl2
                go_enter Try.func14, Try.ntmps14
                go_wp2_with fail
                generalize w.alloc (.cells #[Value.bool true, Value.slice A n c, Value.slice B m d] 28) = w1 at *
                refine (rTrimmed_c HX.out (by omega) true K1.out).mono ?_
                rintro e w2 ⟨rfl, rfl⟩
                have c00 := HR0.out.c0
                have c01 := HR0.out.c1
                have c02 := HR0.out.c2
                go_wp2_with fail
                clear c00 c01 c02
                refine (rTrimmed_c HY.out (by omega) true K2.out).mono ?_
                rintro e w2 ⟨rfl, rfl⟩
                have c00 := HR0.out.c0
                have c01 := HR0.out.c1
                have c02 := HR0.out.c2
                go_wp2_with fail
                clear c00 c01 c02
                refine (rFits_c true A B n c m d _ true K5.out).mono ?_
                rintro e w3 ⟨rfl, bn⟩
                replace HX := Lib.hid (HX.out.below bn)
                replace HY := Lib.hid (HY.out.below bn)
                replace HR0 := Lib.hid (HR0.out.below bn)
                replace HW := Lib.hid (below_two HW.out bn)
                clear bn
                have c00 := HR0.out.c0
                have c01 := HR0.out.c1
                have c02 := HR0.out.c2
                go_wp2_with fail
                refine (quoGcd_c HX.out HY.out (by omega) (by omega) L HG.out).mono ?_
                rintro e w4 ⟨A3, n3, c3, rfl, h3, bn⟩
                have H3 := Lib.hid h3
                replace HW := Lib.hid (below_two HW.out bn)
                clear bn h3
                clear c00 c01 c02
                go_wp2_with fail
                refine (of_c 1 1 rfl (by decide) _).mono ?_
                rintro e w5 ⟨A4, n4, c4, rfl, h4, bn⟩
                have H4 := Lib.hid h4
                replace H3 := Lib.hid (H3.out.below bn)
                replace HW := Lib.hid (below_two HW.out bn)
                clear bn h4
                go_wp2_with fail
                refine (cmp_c H3.out H4.out (by omega) (by decide) z HZ.out).mono ?_
                rintro e w6 ⟨rfl, bn⟩
                replace HW := Lib.hid (below_two HW.out bn)
                clear bn
                go_wp2
                go_ret
                exact ⟨rfl, HW.out⟩
              · have ks2 : s = false := by simpa using ks
                subst ks2
                have K1 : RowKit.Hid (decide (xs = limbs (Limb.val xs)) = true) := by show _ = _; simpa using k1
                have K2 : RowKit.Hid (decide (ys = limbs (Limb.val ys)) = true) := by show _ = _; simpa using k2
                have K5 : RowKit.Hid ((decide (n ≤ 64) && decide (m ≤ 64)) = true) := by show _ = _; simpa using k5
                clear k1 k2 k5 k3 k4 hl2
                go_enter Try.func14, Try.ntmps14
                go_wp2_with fail
                generalize w.alloc (.cells #[Value.bool false, Value.slice A n c, Value.slice B m d] 28) = w1 at *
                refine (rTrimmed_c HX.out (by omega) true K1.out).mono ?_
                rintro e w2 ⟨rfl, rfl⟩
                have c00 := HR0.out.c0
                have c01 := HR0.out.c1
                have c02 := HR0.out.c2
                go_wp2_with fail
                clear c00 c01 c02
                refine (rTrimmed_c HY.out (by omega) true K2.out).mono ?_
                rintro e w2 ⟨rfl, rfl⟩
                have c00 := HR0.out.c0
                have c01 := HR0.out.c1
                have c02 := HR0.out.c2
                go_wp2_with fail
                clear c00 c01 c02
                refine (rFits_c false A B n c m d _ true K5.out).mono ?_
                rintro e w3 ⟨rfl, bn⟩
                replace HX := Lib.hid (HX.out.below bn)
                replace HY := Lib.hid (HY.out.below bn)
                replace HR0 := Lib.hid (HR0.out.below bn)
                replace HW := Lib.hid (below_two HW.out bn)
                clear bn
                have c00 := HR0.out.c0
                have c01 := HR0.out.c1
                have c02 := HR0.out.c2
                go_wp2_with fail
                refine (quoGcd_c HX.out HY.out (by omega) (by omega) L HG.out).mono ?_
                rintro e w4 ⟨A3, n3, c3, rfl, h3, bn⟩
                have H3 := Lib.hid h3
                replace HW := Lib.hid (below_two HW.out bn)
                clear bn h3
                clear c00 c01 c02
                go_wp2_with fail
                refine (of_c 1 1 rfl (by decide) _).mono ?_
                rintro e w5 ⟨A4, n4, c4, rfl, h4, bn⟩
                have H4 := Lib.hid h4
                replace H3 := Lib.hid (H3.out.below bn)
                replace HW := Lib.hid (below_two HW.out bn)
                clear bn h4
                go_wp2_with fail
                refine (cmp_c H3.out H4.out (by omega) (by decide) z HZ.out).mono ?_
                rintro e w6 ⟨rfl, bn⟩
                replace HW := Lib.hid (below_two HW.out bn)
                clear bn
                go_wp2
                go_ret
                exact ⟨rfl, HW.out⟩
      · have hgf : goodV s xs ys = false := by
          rw [Bool.eq_false_iff]
          intro h
          obtain ⟨g1, g2, g3, g4, g5, g6, g7⟩ := goodV_iff.1 h
          exact k5 ⟨by omega, by omega⟩
        obtain rfl : v = false := hg.symm.trans hgf
        clear hg hgf hlx hlt hsx hsy
        have K1 : RowKit.Hid (decide (xs = limbs (Limb.val xs)) = true) := by show _ = _; simpa using k1
        have K2 : RowKit.Hid (decide (ys = limbs (Limb.val ys)) = true) := by show _ = _; simpa using k2
        have K5 : RowKit.Hid ((decide (n ≤ 64) && decide (m ≤ 64)) = false) := by show _ = _; rw [Bool.eq_false_iff]; simpa using k5
        clear k1 k2 k5 
        go_enter Try.func14, Try.ntmps14
        go_wp2_with fail
        generalize w.alloc (.cells #[Value.bool s, Value.slice A n c, Value.slice B m d] 28) = w1 at *
        refine (rTrimmed_c HX.out (by omega) true K1.out).mono ?_
        rintro e w2 ⟨rfl, rfl⟩
        have c00 := HR0.out.c0
        have c01 := HR0.out.c1
        have c02 := HR0.out.c2
        go_wp2_with fail
        clear c00 c01 c02
        refine (rTrimmed_c HY.out (by omega) true K2.out).mono ?_
        rintro e w2 ⟨rfl, rfl⟩
        have c00 := HR0.out.c0
        have c01 := HR0.out.c1
        have c02 := HR0.out.c2
        go_wp2_with fail
        clear c00 c01 c02
        refine (rFits_c s A B n c m d _ false K5.out).mono ?_
        rintro e w3 ⟨rfl, bn⟩
        replace HX := Lib.hid (HX.out.below bn)
        replace HY := Lib.hid (HY.out.below bn)
        replace HR0 := Lib.hid (HR0.out.below bn)
        replace HW := Lib.hid (below_two HW.out bn)
        clear bn
        go_wp2
        go_ret
        exact ⟨rfl, HW.out⟩
    · have hgf : goodV s xs ys = false := by
        rw [Bool.eq_false_iff]
        intro h
        obtain ⟨g1, g2, g3, g4, g5, g6, g7⟩ := goodV_iff.1 h
        exact k2 g2
      obtain rfl : v = false := hg.symm.trans hgf
      clear hg hgf hlx hlt hsx hsy
      have K1 : RowKit.Hid (decide (xs = limbs (Limb.val xs)) = true) := by show _ = _; simpa using k1
      have K2 : RowKit.Hid (decide (ys = limbs (Limb.val ys)) = false) := by show _ = _; simpa using k2
      clear k1 k2
      go_enter Try.func14, Try.ntmps14
      go_wp2_with fail
      generalize w.alloc (.cells #[Value.bool s, Value.slice A n c, Value.slice B m d] 28) = w1 at *
      refine (rTrimmed_c HX.out (by omega) true K1.out).mono ?_
      rintro e w2 ⟨rfl, rfl⟩
      have c00 := HR0.out.c0
      have c01 := HR0.out.c1
      have c02 := HR0.out.c2
      go_wp2_with fail
      clear c00 c01 c02
      refine (rTrimmed_c HY.out (by omega) false K2.out).mono ?_
      rintro e w2 ⟨rfl, rfl⟩
      go_wp2
      go_ret
      exact ⟨rfl, HW.out⟩
  · have hgf : goodV s xs ys = false := by
      rw [Bool.eq_false_iff]
      intro h
      obtain ⟨g1, g2, g3, g4, g5, g6, g7⟩ := goodV_iff.1 h
      exact k1 g1
    obtain rfl : v = false := hg.symm.trans hgf
    clear hg hgf hlx hlt hsx hsy
    have K1 : RowKit.Hid (decide (xs = limbs (Limb.val xs)) = false) := by show _ = _; simpa using k1
    clear k1
    go_enter Try.func14, Try.ntmps14
    go_wp2_with fail
    generalize w.alloc (.cells #[Value.bool s, Value.slice A n c, Value.slice B m d] 28) = w1 at *
    refine (rTrimmed_c HX.out (by omega) false K1.out).mono ?_
    rintro e w2 ⟨rfl, rfl⟩
    go_wp2
    go_ret
    exact ⟨rfl, HW.out⟩

end
end Go.Proofs.Ytohciicocaoagaa

/- What package whole's Cmp answers, as a contract over memory: whole numbers in the shortest limbs, 0 not below 0. Conditions: sizes of at most so many limbs; the table of powers of ten where texts are made or read. -/
namespace Go.Proofs.Ytohciicocaoagaa
open Go.RowKit Limb
set_option linter.unusedVariables false
section
variable {w : World} {s s' : Bool} {A A' : Option Addr} {n c n' c' : Nat} {xs ys : List Nat} {x y : Int} {L L' : Nat}
set_option maxHeartbeats 4000000 in
set_option maxRecDepth 100000 in
theorem wCmp_c (hx : ZZ w s A n c xs x L) (hy : ZZ w s' A' n' c' ys y L') (h1 : L ≤ 100000) (h2 : L' ≤ 100000) (v : Int) (hv : cmpZ x y = v) :
    Calls Try.prog 47 #[.agg #[.bool s, .slice A n c], .agg #[.bool s', .slice A' n' c']] w fun e w' => e = .returned (.int .i64 v) ∧ Below w.heap.size w w' := by
  have b0 := below_new w (.cells #[Value.bool s, Value.slice A n c] 25)
  have b1 := below_new (w.alloc (.cells #[Value.bool s, Value.slice A n c] 25)) (.cells #[Value.bool s', Value.slice A' n' c'] 25)
  have HW := Lib.hid (below_two b0 b1)
  have HN := Lib.hid (hx.below HW.out)
  have HM := Lib.hid (hy.below HW.out)
  have r0 := (row2_new w 25 (.bool s) (.slice A n c)).below b1
  have r1 := row2_new (w.alloc (.cells #[Value.bool s, Value.slice A n c] 25)) 25 (.bool s') (.slice A' n' c')
  simp only [World.size_alloc] at r1
  clear b0 b1 hx hy
  by_cases hx0 : x < 0
  · by_cases hy0 : y < 0
    · have hx2 : sg x = true := sg_neg hx0
      have hy2 : sg y = true := sg_neg hy0
      have HX2 := Lib.hid hx2
      have HY2 := Lib.hid hy2
      clear hx2 hy2
      have HV : RowKit.Hid (cmpI y.natAbs x.natAbs = v) := by
        show _ = _
        rw [← hv]; exact cmp_abs_neg hx0 hy0
      clear hv hx0 hy0
      go_enter Try.func47, Try.ntmps47
      go_wp2_with fail
      generalize (w.alloc (.cells #[Value.bool s, Value.slice A n c] 25)).alloc (.cells #[Value.bool s', Value.slice A' n' c'] 25) = w1 at *
      have HR0 := Lib.hid r0
      have HR1 := Lib.hid r1
      have c00 := r0.c0
      have c01 := r0.c1
      have c10 := r1.c0
      have c11 := r1.c1
      clear r0 r1
      refine (isBelow_c HN.out (by omega) true HX2.out).mono ?_
      rintro e w2 ⟨rfl, bn⟩
      replace HN := Lib.hid (HN.out.below bn)
      replace HM := Lib.hid (HM.out.below bn)
      replace HW := Lib.hid (below_two HW.out bn)
      replace HR0 := Lib.hid (HR0.out.below bn)
      replace HR1 := Lib.hid (HR1.out.below bn)
      clear bn c00 c01 c10 c11
      have c00 := HR0.out.c0
      have c01 := HR0.out.c1
      have c10 := HR1.out.c0
      have c11 := HR1.out.c1
      go_wp2_with fail
      refine (isBelow_c HM.out (by omega) true HY2.out).mono ?_
      rintro e w3 ⟨rfl, bn⟩
      replace HN := Lib.hid (HN.out.below bn)
      replace HM := Lib.hid (HM.out.below bn)
      replace HW := Lib.hid (below_two HW.out bn)
      replace HR0 := Lib.hid (HR0.out.below bn)
      replace HR1 := Lib.hid (HR1.out.below bn)
      clear bn c00 c01 c10 c11
      have c00 := HR0.out.c0
      have c01 := HR0.out.c1
      have c10 := HR1.out.c0
      have c11 := HR1.out.c1
      go_wp2_with fail
      refine (cmp_c HM.out.nn HN.out.nn (by omega) (by omega) v HV.out).mono ?_
      rintro e w9 ⟨rfl, bn⟩
      replace HW := Lib.hid (below_two HW.out bn)
      clear bn c00 c01 c10 c11
      go_wp2
      go_ret
      exact ⟨rfl, HW.out⟩
    · have hx2 : sg x = true := sg_neg hx0
      have hy2 : sg y = false := sg_pos (by omega)
      have HX2 := Lib.hid hx2
      have HY2 := Lib.hid hy2
      clear hx2 hy2
      obtain rfl : v = -1 := by rw [← hv]; exact cmpZ_lt (by omega)
      clear hv hx0 hy0
      go_enter Try.func47, Try.ntmps47
      go_wp2_with fail
      generalize (w.alloc (.cells #[Value.bool s, Value.slice A n c] 25)).alloc (.cells #[Value.bool s', Value.slice A' n' c'] 25) = w1 at *
      have HR0 := Lib.hid r0
      have HR1 := Lib.hid r1
      have c00 := r0.c0
      have c01 := r0.c1
      have c10 := r1.c0
      have c11 := r1.c1
      clear r0 r1
      refine (isBelow_c HN.out (by omega) true HX2.out).mono ?_
      rintro e w2 ⟨rfl, bn⟩
      replace HN := Lib.hid (HN.out.below bn)
      replace HM := Lib.hid (HM.out.below bn)
      replace HW := Lib.hid (below_two HW.out bn)
      replace HR0 := Lib.hid (HR0.out.below bn)
      replace HR1 := Lib.hid (HR1.out.below bn)
      clear bn c00 c01 c10 c11
      have c00 := HR0.out.c0
      have c01 := HR0.out.c1
      have c10 := HR1.out.c0
      have c11 := HR1.out.c1
      go_wp2_with fail
      refine (isBelow_c HM.out (by omega) false HY2.out).mono ?_
      rintro e w3 ⟨rfl, bn⟩
      replace HN := Lib.hid (HN.out.below bn)
      replace HM := Lib.hid (HM.out.below bn)
      replace HW := Lib.hid (below_two HW.out bn)
      replace HR0 := Lib.hid (HR0.out.below bn)
      replace HR1 := Lib.hid (HR1.out.below bn)
      clear bn c00 c01 c10 c11
      have c00 := HR0.out.c0
      have c01 := HR0.out.c1
      have c10 := HR1.out.c0
      have c11 := HR1.out.c1
      go_wp2_with fail
      refine (isBelow_c HN.out (by omega) true HX2.out).mono ?_
      rintro e w4 ⟨rfl, bn⟩
      replace HN := Lib.hid (HN.out.below bn)
      replace HM := Lib.hid (HM.out.below bn)
      replace HW := Lib.hid (below_two HW.out bn)
      replace HR0 := Lib.hid (HR0.out.below bn)
      replace HR1 := Lib.hid (HR1.out.below bn)
      clear bn c00 c01 c10 c11
      have c00 := HR0.out.c0
      have c01 := HR0.out.c1
      have c10 := HR1.out.c0
      have c11 := HR1.out.c1
      go_wp2
      go_ret
      exact ⟨rfl, HW.out⟩
  · by_cases hy0 : y < 0
    · have hx2 : sg x = false := sg_pos (by omega)
      have hy2 : sg y = true := sg_neg hy0
      have HX2 := Lib.hid hx2
      have HY2 := Lib.hid hy2
      clear hx2 hy2
      obtain rfl : v = 1 := by rw [← hv]; exact cmpZ_gt (by omega)
      clear hv hx0 hy0
      go_enter Try.func47, Try.ntmps47
      go_wp2_with fail
      generalize (w.alloc (.cells #[Value.bool s, Value.slice A n c] 25)).alloc (.cells #[Value.bool s', Value.slice A' n' c'] 25) = w1 at *
      have HR0 := Lib.hid r0
      have HR1 := Lib.hid r1
      have c00 := r0.c0
      have c01 := r0.c1
      have c10 := r1.c0
      have c11 := r1.c1
      clear r0 r1
      refine (isBelow_c HN.out (by omega) false HX2.out).mono ?_
      rintro e w2 ⟨rfl, bn⟩
      replace HN := Lib.hid (HN.out.below bn)
      replace HM := Lib.hid (HM.out.below bn)
      replace HW := Lib.hid (below_two HW.out bn)
      replace HR0 := Lib.hid (HR0.out.below bn)
      replace HR1 := Lib.hid (HR1.out.below bn)
      clear bn c00 c01 c10 c11
      have c00 := HR0.out.c0
      have c01 := HR0.out.c1
      have c10 := HR1.out.c0
      have c11 := HR1.out.c1
      go_wp2_with fail
      refine (isBelow_c HN.out (by omega) false HX2.out).mono ?_
      rintro e w3 ⟨rfl, bn⟩
      replace HN := Lib.hid (HN.out.below bn)
      replace HM := Lib.hid (HM.out.below bn)
      replace HW := Lib.hid (below_two HW.out bn)
      replace HR0 := Lib.hid (HR0.out.below bn)
      replace HR1 := Lib.hid (HR1.out.below bn)
      clear bn c00 c01 c10 c11
      have c00 := HR0.out.c0
      have c01 := HR0.out.c1
      have c10 := HR1.out.c0
      have c11 := HR1.out.c1
      go_wp2_with fail
      refine (isBelow_c HM.out (by omega) true HY2.out).mono ?_
      rintro e w4 ⟨rfl, bn⟩
      replace HN := Lib.hid (HN.out.below bn)
      replace HM := Lib.hid (HM.out.below bn)
      replace HW := Lib.hid (below_two HW.out bn)
      replace HR0 := Lib.hid (HR0.out.below bn)
      replace HR1 := Lib.hid (HR1.out.below bn)
      clear bn c00 c01 c10 c11
      have c00 := HR0.out.c0
      have c01 := HR0.out.c1
      have c10 := HR1.out.c0
      have c11 := HR1.out.c1
      go_wp2
      go_ret
      exact ⟨rfl, HW.out⟩
    · have hx2 : sg x = false := sg_pos (by omega)
      have hy2 : sg y = false := sg_pos (by omega)
      have HX2 := Lib.hid hx2
      have HY2 := Lib.hid hy2
      clear hx2 hy2
      have HV : RowKit.Hid (cmpI x.natAbs y.natAbs = v) := by
        show _ = _
        rw [← hv]; exact cmp_abs_pos (by omega) (by omega)
      clear hv hx0 hy0
      go_enter Try.func47, Try.ntmps47
      go_wp2_with fail
      generalize (w.alloc (.cells #[Value.bool s, Value.slice A n c] 25)).alloc (.cells #[Value.bool s', Value.slice A' n' c'] 25) = w1 at *
      have HR0 := Lib.hid r0
      have HR1 := Lib.hid r1
      have c00 := r0.c0
      have c01 := r0.c1
      have c10 := r1.c0
      have c11 := r1.c1
      clear r0 r1
      refine (isBelow_c HN.out (by omega) false HX2.out).mono ?_
      rintro e w2 ⟨rfl, bn⟩
      replace HN := Lib.hid (HN.out.below bn)
      replace HM := Lib.hid (HM.out.below bn)
      replace HW := Lib.hid (below_two HW.out bn)
      replace HR0 := Lib.hid (HR0.out.below bn)
      replace HR1 := Lib.hid (HR1.out.below bn)
      clear bn c00 c01 c10 c11
      have c00 := HR0.out.c0
      have c01 := HR0.out.c1
      have c10 := HR1.out.c0
      have c11 := HR1.out.c1
      go_wp2_with fail
      refine (isBelow_c HN.out (by omega) false HX2.out).mono ?_
      rintro e w3 ⟨rfl, bn⟩
      replace HN := Lib.hid (HN.out.below bn)
      replace HM := Lib.hid (HM.out.below bn)
      replace HW := Lib.hid (below_two HW.out bn)
      replace HR0 := Lib.hid (HR0.out.below bn)
      replace HR1 := Lib.hid (HR1.out.below bn)
      clear bn c00 c01 c10 c11
      have c00 := HR0.out.c0
      have c01 := HR0.out.c1
      have c10 := HR1.out.c0
      have c11 := HR1.out.c1
      go_wp2_with fail
      refine (isBelow_c HM.out (by omega) false HY2.out).mono ?_
      rintro e w4 ⟨rfl, bn⟩
      replace HN := Lib.hid (HN.out.below bn)
      replace HM := Lib.hid (HM.out.below bn)
      replace HW := Lib.hid (below_two HW.out bn)
      replace HR0 := Lib.hid (HR0.out.below bn)
      replace HR1 := Lib.hid (HR1.out.below bn)
      clear bn c00 c01 c10 c11
      have c00 := HR0.out.c0
      have c01 := HR0.out.c1
      have c10 := HR1.out.c0
      have c11 := HR1.out.c1
      go_wp2_with fail
      refine (cmp_c HN.out.nn HM.out.nn (by omega) (by omega) v HV.out).mono ?_
      rintro e w9 ⟨rfl, bn⟩
      replace HW := Lib.hid (below_two HW.out bn)
      clear bn c00 c01 c10 c11
      go_wp2
      go_ret
      exact ⟨rfl, HW.out⟩
end

end Go.Proofs.Ytohciicocaoagaa

/- What package whole's Neg answers, as a contract over memory: whole numbers in the shortest limbs, 0 not below 0. Conditions: sizes of at most so many limbs; the table of powers of ten where texts are made or read. -/
namespace Go.Proofs.Ytohciicocaoagaa
open Go.RowKit Limb
set_option linter.unusedVariables false
section
variable {w : World} {s s' : Bool} {A A' : Option Addr} {n c n' c' : Nat} {xs ys : List Nat} {x y : Int} {L L' : Nat}
set_option maxHeartbeats 4000000 in
set_option maxRecDepth 100000 in
theorem wNeg_c (hx : ZZ w s A n c xs x L) (h1 : L ≤ 100000) (z : Int) (hz : -x = z) :
    Calls Try.prog 46 #[.agg #[.bool s, .slice A n c]] w fun e w' => ∃ A2 n2 c2, e = .returned (.agg #[.bool (sg z), .slice A2 n2 c2]) ∧ ZZ w' (sg z) A2 n2 c2 (limbs z.natAbs) z L ∧ Below w.heap.size w w' := by
  have HS : RowKit.Hid (zOf (!s) x.natAbs = z) := (zOf_not hx.zof).trans hz
  clear hz
  have b0 := below_new w (.cells #[Value.bool s, Value.slice A n c] 25)
  have bz := below_new (w.alloc (.cells #[Value.bool s, Value.slice A n c] 25)) zbox
  have HW := Lib.hid (below_two b0 bz)
  have HN := Lib.hid (hx.nn.below HW.out)
  have r0 := (row2_new w 25 (.bool s) (.slice A n c)).below bz
  have rz : ZB ((w.alloc (.cells #[Value.bool s, Value.slice A n c] 25)).alloc zbox) (w.alloc (.cells #[Value.bool s, Value.slice A n c] 25)).heap.size := row2_new (w.alloc (.cells #[Value.bool s, Value.slice A n c] 25)) _ _ _
  simp only [World.size_alloc] at rz
  clear b0 bz hx
  go_enter Try.func46, Try.ntmps46
  go_wp2
  generalize (w.alloc (.cells #[Value.bool s, Value.slice A n c] 25)).alloc zbox = w1 at *
  have HR0 := Lib.hid r0
  have c00 := r0.c0
  have c01 := r0.c1
  have HZ := Lib.hid rz
  clear r0 rz
  clear c00 c01
  refine region_free 7 1 [3, 4, 5, 6, 7, 8, 9] ?aF (fun wx => Below w1.heap.size w1 wx) (fun k v wx => match k with
      | 0 => v = .pointer (some ⟨w.heap.size, 0, none⟩)
      | 1 => v = .bool s
      | 2 => v = .bool (!s)
      | 3 => v = .pointer (some ⟨w.heap.size, 1, none⟩)
      | 4 => v = .slice A n c
      | 5 => ∃ A2 n2 c2, v = .slice A2 n2 c2 ∧ NN wx A2 n2 c2 (limbs x.natAbs) x.natAbs L
      | _ => ∃ A2 n2 c2, v = .agg #[.bool (sg z), .slice A2 n2 c2] ∧ ZZ wx (sg z) A2 n2 c2 (limbs z.natAbs) z L)
    (fun _ => false) (by kernel_rfl) ?haF rfl (by kernel_rfl) (by kernel_rfl) (fun _ _ _ _ _ h => h) ?hSb ?hPb ?hS ?hop ?hfin
  case haF =>
    intro vals
    simp only [fillAll, List.getElem?_cons_zero, List.getElem?_cons_succ, Act.put, List.setIfInBounds_toArray, List.set_cons_zero, List.set_cons_succ]
    exact rfl
  case hSb => exact fun wx w2 hb hS => below_two hS hb
  case hPb =>
    intro k v wa wb hb h
    match k, h with
    | 0, h => exact h
    | 1, h => exact h
    | 2, h => exact h
    | 3, h => exact h
    | 4, h => exact h
    | 5, ⟨A2, n2, c2, h1, h2⟩ => exact ⟨A2, n2, c2, h1, h2.below hb⟩
    | _ + 6, ⟨A2, n2, c2, h1, h2⟩ => exact ⟨A2, n2, c2, h1, h2.below hb⟩
  case hS => exact (Below.refl _ _).drew
  case hop =>
    refine .cons (k := 0) ?_ (.cons (k := 1) ?_ (.cons (k := 2) ?_ (.cons (k := 3) ?_ (.cons (k := 4) ?_ (.cons (k := 5) ?_ (.cons (k := 6) ?_ (.nil)))))))
    all_goals intro vals wr hS hd KC hK
    all_goals (show Oper.wp _ _ _ _ _ _; dsimp only)
    · go_simp
      refine hK _ _ rfl (Below.refl _ _) rfl (fun h => by cases h)
    · have d0 : vals 0 = _ := hd 0 (by decide +kernel)
      rw [d0]
      have c0 := (HR0.out.below hS).c0
      go_simp
      refine hK _ _ rfl (Below.refl _ _) rfl (fun h => by cases h)
    · have d1 : vals 1 = _ := hd 1 (by decide +kernel)
      rw [d1]
      go_simp
      refine hK _ _ rfl (Below.refl _ _) (by first | rfl | (simp)) (fun h => by cases h)
    · go_simp
      refine hK _ _ rfl (Below.refl _ _) rfl (fun h => by cases h)
    · have d3 : vals 3 = _ := hd 3 (by decide +kernel)
      rw [d3]
      have c0 := (HR0.out.below hS).c1
      go_simp
      refine hK _ _ rfl (Below.refl _ _) rfl (fun h => by cases h)
    · have d4 : vals 4 = _ := hd 4 (by decide +kernel)
      rw [d4]
      go_simp
      go_at_call 59
      with_reducible refine (trim_c (HN.out.below hS) (by omega)).mono ?_
      rintro e w2 ⟨A_r, n_r, c_r, rfl, h_r, bn_r⟩
      refine hK _ _ rfl bn_r ⟨_, _, _, rfl, h_r⟩ (fun h => by cases h)
    · have d2 : vals 2 = _ := hd 2 (by decide +kernel)
      obtain ⟨A_m, n_m, c_m, d5, h_m⟩ := hd 5 (by decide +kernel)
      rw [d2, d5]
      go_simp
      go_at_call 67
      with_reducible refine (signed_c h_m _ z (by first | exact HS.out | simpa using HS.out)).mono ?_
      rintro e w2 ⟨rfl, h_r, bn_r⟩
      refine hK _ _ rfl bn_r ⟨_, _, _, rfl, h_r⟩ (fun h => by cases h)
  case hfin =>
    intro vals wr hS hP hne
    obtain ⟨A2, n2, c2, ez, h3⟩ := hP 6 (by decide)
    have hZ3 := HZ.out.below hS
    obtain ⟨e0, e1, f0, f1⟩ := hZ3.cells
    try dsimp only
    rw [ez]
    have HF := Lib.hid (hZ3.fill (.bool (sg z)) (.slice A2 n2 c2))
    have HP := Lib.hid (h3.put hZ3 (.bool (sg z)) (.slice A2 n2 c2))
    have HB := Lib.hid (below_fill (g := w.heap.size + 1) (below_two HW.out hS) (by omega) (.bool (sg z)) (.slice A2 n2 c2))
    refine wpAny_ready (rs := [7]) (by kernel_rfl) (by simp) (AllReady.cons rfl (fun KC hK => ?_) AllReady.nil)
    go_simp
    refine hK _ _ ?_
    clear hK KC
    refine wpAny_done (by kernel_rfl) ?_ _
    go_wp2
    refine bodyPost_ret (results_cell_row rfl _ _ (w.heap.size + 1) 25 #[.bool (sg z), .slice A2 n2 c2] (0, 0) _ rfl HF.out Try.underlying25 rfl int_size) rfl ?_
    exact ⟨A2, n2, c2, rfl, HP.out, HB.out⟩
end

end Go.Proofs.Ytohciicocaoagaa

/- What package whole's Of answers, as a contract over memory: whole numbers in the shortest limbs, 0 not below 0. Conditions: sizes of at most so many limbs; the table of powers of ten where texts are made or read. -/
namespace Go.Proofs.Ytohciicocaoagaa
open Go.RowKit Limb
set_option linter.unusedVariables false
set_option maxHeartbeats 4000000 in
set_option maxRecDepth 100000 in
theorem wOf_c (v : Int) (h0 : -9223372036854775808 ≤ v) (h1 : v ≤ 9223372036854775807) (w : World) :
    Calls Try.prog 50 #[.int .i64 v] w fun e w' => ∃ A2 n2 c2, e = .returned (.agg #[.bool (sg v), .slice A2 n2 c2]) ∧ ZZ w' (sg v) A2 n2 c2 (limbs v.natAbs) v 2 ∧ Below w.heap.size w w' := by
  have HW := Lib.hid (below_new w zbox)
  have HZ : RowKit.Hid (ZB (w.alloc zbox) w.heap.size) := row2_new w _ _ _
  by_cases hv0 : v < 0
  · obtain ⟨u, hu⟩ : ∃ u, u = v.natAbs := ⟨_, rfl⟩
    have hlt : u < 18446744073709551616 := by omega
    have ec : IntKind.u64.wrap v = v + 18446744073709551616 := by rw [conv_u64 h0 h1, if_pos hv0]
    have en : IntKind.u64.wrap (-(v + 18446744073709551616)) = (u : Int) := by rw [IntKind.wrap_u64]; omega
    have HS : RowKit.Hid (zOf true u = v) := by
      show _ = _
      rw [hu]; unfold zOf; simp; omega
    have HSd : RowKit.Hid (zOf (decide (v < 0)) u = v) := by
      show _ = _
      rw [hu]; exact zz_zof
    have HC := Lib.hid (of_c u _ rfl hlt (w.alloc zbox))
    clear hu h0 h1
    go_enter Try.func50, Try.ntmps50
    go_wp2_with fail
    refine HC.out.mono ?_
    rintro e w2 ⟨A2, n2, c2, rfl, h2, bn⟩
    have BN2 := Lib.hid bn
    clear bn
    go_wp2_with fail
    refine (signed_c h2 _ v (by first | exact HS.out | simpa using HS.out | exact HSd.out)).mono ?_
    rintro e w4 ⟨rfl, h4, bm⟩
    have BN4 := Lib.hid (below_two BN2.out bm)
    obtain ⟨e0, e1, f0, f1⟩ := (HZ.out.below BN4.out).cells
    have HF := Lib.hid ((HZ.out.below BN4.out).fill (.bool (sg v)) (.slice A2 n2 c2))
    have HP := Lib.hid (h4.put (HZ.out.below BN4.out) (.bool (sg v)) (.slice A2 n2 c2))
    have HB := Lib.hid (below_fill (g := w.heap.size) (below_two HW.out BN4.out) (by omega) (.bool (sg v)) (.slice A2 n2 c2))
    clear bm
    go_wp2
    refine bodyPost_ret (results_cell_row rfl _ _ (w.heap.size) 25 #[.bool (sg v), .slice A2 n2 c2] (0, 0) _ rfl HF.out Try.underlying25 rfl int_size) rfl ?_
    exact ⟨A2, n2, c2, rfl, HP.out, HB.out⟩
  · obtain ⟨u, hu⟩ : ∃ u, u = v.natAbs := ⟨_, rfl⟩
    have hlt : u < 18446744073709551616 := by omega
    have ec : IntKind.u64.wrap v = (u : Int) := by rw [conv_u64 h0 h1, if_neg hv0]; omega
    have hv1 : 0 ≤ v := by omega
    have HS : RowKit.Hid (zOf false u = v) := by
      show _ = _
      rw [hu]; unfold zOf; simp; omega
    have HSd : RowKit.Hid (zOf (decide (v < 0)) u = v) := by
      show _ = _
      rw [hu]; exact zz_zof
    have HC := Lib.hid (of_c u _ rfl hlt (w.alloc zbox))
    clear hu h0 h1 hv0
    go_enter Try.func50, Try.ntmps50
    go_wp2_with fail
    refine HC.out.mono ?_
    rintro e w2 ⟨A2, n2, c2, rfl, h2, bn⟩
    have BN2 := Lib.hid bn
    clear bn
    go_wp2_with fail
    refine (signed_c h2 _ v (by first | exact HS.out | simpa using HS.out | exact HSd.out)).mono ?_
    rintro e w4 ⟨rfl, h4, bm⟩
    have BN4 := Lib.hid (below_two BN2.out bm)
    obtain ⟨e0, e1, f0, f1⟩ := (HZ.out.below BN4.out).cells
    have HF := Lib.hid ((HZ.out.below BN4.out).fill (.bool (sg v)) (.slice A2 n2 c2))
    have HP := Lib.hid (h4.put (HZ.out.below BN4.out) (.bool (sg v)) (.slice A2 n2 c2))
    have HB := Lib.hid (below_fill (g := w.heap.size) (below_two HW.out BN4.out) (by omega) (.bool (sg v)) (.slice A2 n2 c2))
    clear bm
    go_wp2
    refine bodyPost_ret (results_cell_row rfl _ _ (w.heap.size) 25 #[.bool (sg v), .slice A2 n2 c2] (0, 0) _ rfl HF.out Try.underlying25 rfl int_size) rfl ?_
    exact ⟨A2, n2, c2, rfl, HP.out, HB.out⟩

end Go.Proofs.Ytohciicocaoagaa

/- What package rat's Cmp, Sign, Neg, Same and Whole answer, as contracts over memory. Conditions: sizes of at most so many limbs. -/
namespace Go.Proofs.Ytohciicocaoagaa
open Go.RowKit Limb
set_option linter.unusedVariables false
section
variable {w : World} {s s' : Bool} {A B A' B' : Option Addr} {n c m d n' c' m' d' : Nat} {xs ys xs' ys' : List Nat} {x y : Int} {o o' : Option Rat} {a b L L' : Nat}
set_option maxHeartbeats 4000000 in
set_option maxRecDepth 100000 in
theorem rCmp_c (hx : QQ w s A n c xs B m d ys o L) (hx' : QQ w s' A' n' c' xs' B' m' d' ys' o' L') (h1 : L ≤ 1000) (h2 : L' ≤ 1000) (v : Int) (hv : cmpR o o' = v) :
    Calls Try.prog 21 #[.agg #[.bool s, .slice A n c, .slice B m d], .agg #[.bool s', .slice A' n' c', .slice B' m' d']] w fun e w' => e = .returned (.int .i64 v) ∧ Below w.heap.size w w' := by
  cases o with
  | none =>
    obtain rfl : v = 0 := hv.symm
    clear hv
    have b0 := below_new w (.cells #[Value.bool s, Value.slice A n c, Value.slice B m d] 28)
    have b1 := below_new (w.alloc (.cells #[Value.bool s, Value.slice A n c, Value.slice B m d] 28)) (.cells #[Value.bool s', Value.slice A' n' c', Value.slice B' m' d'] 28)
    have HW := Lib.hid (below_two b0 b1)
    have HQ0 := Lib.hid (hx.below HW.out)
    have HQ1 := Lib.hid (hx'.below HW.out)
    have r0 := ((row3_new w 28 (.bool s) (.slice A n c) (.slice B m d)).below b1)
    have r1 := (row3_new (w.alloc (.cells #[Value.bool s, Value.slice A n c, Value.slice B m d] 28)) 28 (.bool s') (.slice A' n' c') (.slice B' m' d'))
    simp only [World.size_alloc] at r1
    clear b0 b1 hx hx'
    go_enter Try.func21, Try.ntmps21
    go_wp2_with fail
    generalize (w.alloc (.cells #[Value.bool s, Value.slice A n c, Value.slice B m d] 28)).alloc (.cells #[Value.bool s', Value.slice A' n' c', Value.slice B' m' d'] 28) = w1 at *
    have HR0 := Lib.hid r0
    have HR1 := Lib.hid r1
    clear r0 r1
    refine (rGood_c HQ0.out (by omega) false rfl).mono ?_
    rintro e w2 ⟨rfl, bn⟩
    replace HQ0 := Lib.hid (HQ0.out.below bn)
    replace HR0 := Lib.hid (HR0.out.below bn)
    replace HQ1 := Lib.hid (HQ1.out.below bn)
    replace HR1 := Lib.hid (HR1.out.below bn)
    replace HW := Lib.hid (below_two HW.out bn)
    clear bn
    go_wp2
    go_ret
    exact ⟨rfl, HW.out⟩
  | some p =>
    cases o' with
    | none =>
      obtain rfl : v = 0 := hv.symm
      clear hv
      have b0 := below_new w (.cells #[Value.bool s, Value.slice A n c, Value.slice B m d] 28)
      have b1 := below_new (w.alloc (.cells #[Value.bool s, Value.slice A n c, Value.slice B m d] 28)) (.cells #[Value.bool s', Value.slice A' n' c', Value.slice B' m' d'] 28)
      have HW := Lib.hid (below_two b0 b1)
      have HQ0 := Lib.hid (hx.below HW.out)
      have HQ1 := Lib.hid (hx'.below HW.out)
      have r0 := ((row3_new w 28 (.bool s) (.slice A n c) (.slice B m d)).below b1)
      have r1 := (row3_new (w.alloc (.cells #[Value.bool s, Value.slice A n c, Value.slice B m d] 28)) 28 (.bool s') (.slice A' n' c') (.slice B' m' d'))
      simp only [World.size_alloc] at r1
      clear b0 b1 hx hx'
      go_enter Try.func21, Try.ntmps21
      go_wp2_with fail
      generalize (w.alloc (.cells #[Value.bool s, Value.slice A n c, Value.slice B m d] 28)).alloc (.cells #[Value.bool s', Value.slice A' n' c', Value.slice B' m' d'] 28) = w1 at *
      have HR0 := Lib.hid r0
      have HR1 := Lib.hid r1
      clear r0 r1
      refine (rGood_c HQ0.out (by omega) true rfl).mono ?_
      rintro e w2 ⟨rfl, bn⟩
      replace HQ0 := Lib.hid (HQ0.out.below bn)
      replace HR0 := Lib.hid (HR0.out.below bn)
      replace HQ1 := Lib.hid (HQ1.out.below bn)
      replace HR1 := Lib.hid (HR1.out.below bn)
      replace HW := Lib.hid (below_two HW.out bn)
      clear bn
      have c10 := HR1.out.c0
      have c11 := HR1.out.c1
      have c12 := HR1.out.c2
      go_wp2_with fail
      clear c10 c11 c12
      refine (rGood_c HQ1.out (by omega) false rfl).mono ?_
      rintro e w2 ⟨rfl, bn⟩
      replace HQ0 := Lib.hid (HQ0.out.below bn)
      replace HR0 := Lib.hid (HR0.out.below bn)
      replace HQ1 := Lib.hid (HQ1.out.below bn)
      replace HR1 := Lib.hid (HR1.out.below bn)
      replace HW := Lib.hid (below_two HW.out bn)
      clear bn
      go_wp2
      go_ret
      exact ⟨rfl, HW.out⟩
    | some q =>
      have HV : RowKit.Hid (cmpZ (p.num * (q.den : Int)) (q.num * (p.den : Int)) = v) := hv
      clear hv
      have b0 := below_new w (.cells #[Value.bool s, Value.slice A n c, Value.slice B m d] 28)
      have b1 := below_new (w.alloc (.cells #[Value.bool s, Value.slice A n c, Value.slice B m d] 28)) (.cells #[Value.bool s', Value.slice A' n' c', Value.slice B' m' d'] 28)
      have HW := Lib.hid (below_two b0 b1)
      have HQ0 := Lib.hid (hx.below HW.out)
      have HQ1 := Lib.hid (hx'.below HW.out)
      have r0 := ((row3_new w 28 (.bool s) (.slice A n c) (.slice B m d)).below b1)
      have r1 := (row3_new (w.alloc (.cells #[Value.bool s, Value.slice A n c, Value.slice B m d] 28)) 28 (.bool s') (.slice A' n' c') (.slice B' m' d'))
      simp only [World.size_alloc] at r1
      clear b0 b1 hx hx'
      go_enter Try.func21, Try.ntmps21
      go_wp2_with fail
      generalize (w.alloc (.cells #[Value.bool s, Value.slice A n c, Value.slice B m d] 28)).alloc (.cells #[Value.bool s', Value.slice A' n' c', Value.slice B' m' d'] 28) = w1 at *
      have HR0 := Lib.hid r0
      have HR1 := Lib.hid r1
      clear r0 r1
      refine (rGood_c HQ0.out (by omega) true rfl).mono ?_
      rintro e w2 ⟨rfl, bn⟩
      replace HQ0 := Lib.hid (HQ0.out.below bn)
      replace HR0 := Lib.hid (HR0.out.below bn)
      replace HQ1 := Lib.hid (HQ1.out.below bn)
      replace HR1 := Lib.hid (HR1.out.below bn)
      replace HW := Lib.hid (below_two HW.out bn)
      clear bn
      have c10 := HR1.out.c0
      have c11 := HR1.out.c1
      have c12 := HR1.out.c2
      go_wp2_with fail
      clear c10 c11 c12
      refine (rGood_c HQ1.out (by omega) true rfl).mono ?_
      rintro e wS ⟨rfl, bn⟩
      replace HQ0 := Lib.hid (HQ0.out.below bn)
      replace HR0 := Lib.hid (HR0.out.below bn)
      replace HQ1 := Lib.hid (HQ1.out.below bn)
      replace HR1 := Lib.hid (HR1.out.below bn)
      replace HW := Lib.hid (below_two HW.out bn)
      clear bn
      have HX := Lib.hid HQ0.out.some.2.2.2.2.1
      have HY := Lib.hid HQ0.out.some.2.2.2.2.2.1
      have HX1 := Lib.hid HQ1.out.some.2.2.2.2.1
      have HY1 := Lib.hid HQ1.out.some.2.2.2.2.2.1
      go_wp2_with fail
      refine region_free 7 1 [13, 14, 15, 16, 17, 18, 19] ?aF10 (fun wx => Below wS.heap.size wS wx) (fun k vv wx => match k with
          | 0 => vv = .agg #[.bool s, .slice A n c, .slice B m d]
          | 1 => vv = .agg #[.bool s', .slice A' n' c', .slice B' m' d']
          | 2 => ∃ (e0 : Option Addr) (e1 : Nat) (e2 : Nat), vv = .agg #[.bool (sg (p.num * (q.den : Int))), .slice e0 e1 e2] ∧ ZZ wx (sg (p.num * (q.den : Int))) e0 e1 e2 (limbs (p.num * (q.den : Int)).natAbs) (p.num * (q.den : Int)) 128
          | 3 => vv = .agg #[.bool s', .slice A' n' c', .slice B' m' d']
          | 4 => vv = .agg #[.bool s, .slice A n c, .slice B m d]
          | 5 => ∃ (e0 : Option Addr) (e1 : Nat) (e2 : Nat), vv = .agg #[.bool (sg (q.num * (p.den : Int))), .slice e0 e1 e2] ∧ ZZ wx (sg (q.num * (p.den : Int))) e0 e1 e2 (limbs (q.num * (p.den : Int)).natAbs) (q.num * (p.den : Int)) 128
          | _ => vv = .int .i64 v)
        (fun k => false) (by kernel_rfl) ?haF10 rfl (by kernel_rfl) (by kernel_rfl) (fun _ _ _ _ _ h => h) ?hSb10 ?hPb10 ?hS10 ?hop10 ?hfin10
      case haF10 =>
        intro vals
        simp only [fillAll, List.getElem?_cons_zero, List.getElem?_cons_succ, Act.put, List.setIfInBounds_toArray, List.set_cons_zero, List.set_cons_succ]
        exact rfl
      case hSb10 => exact fun wx w2 hb hS => below_two hS hb
      case hPb10 =>
        intro k v wa wb hb h
        match k, h with
        | 0, h => exact h
        | 1, h => exact h
        | 2, ⟨e0, e1, e2, h1, g0⟩ => exact ⟨e0, e1, e2, h1, g0.below hb⟩
        | 3, h => exact h
        | 4, h => exact h
        | 5, ⟨e0, e1, e2, h1, g0⟩ => exact ⟨e0, e1, e2, h1, g0.below hb⟩
        | _ + 6, h => exact h
      case hS10 => exact (Below.refl _ _).drew
      case hop10 =>
        refine .cons (k := 0) ?_ (.cons (k := 1) ?_ (.cons (k := 2) ?_ (.cons (k := 3) ?_ (.cons (k := 4) ?_ (.cons (k := 5) ?_ (.cons (k := 6) ?_ (.nil)))))))
        all_goals intro vals wr hS hd KC hK
        all_goals (show Oper.wp _ _ _ _ _ _; dsimp only)
        · have z0 := (HR0.out.below hS).c0
          have z1 := (HR0.out.below hS).c1
          have z2 := (HR0.out.below hS).c2
          go_simp
          refine hK _ _ rfl (Below.refl _ _) (by first | rfl | simp) (fun h => by cases h)
        · have z0 := (HR1.out.below hS).c0
          have z1 := (HR1.out.below hS).c1
          have z2 := (HR1.out.below hS).c2
          go_simp
          refine hK _ _ rfl (Below.refl _ _) (by first | rfl | simp) (fun h => by cases h)
        · have d0 : vals 0 = _ := hd 0 (by decide +kernel)
          have d1 : vals 1 = _ := hd 1 (by decide +kernel)
          rw [d0, d1]
          go_simp
          go_at_call 43
          with_reducible refine (rCross_c (HX.out.below hS) (HY1.out.below hS) (by decide) (by decide) (p.num * (q.den : Int)) rfl).mono ?_
          rintro e w2 ⟨r0, r1, r2, rfl, f0, bn_r⟩
          refine hK _ _ rfl bn_r ⟨_, _, _, rfl, f0⟩ (fun h => by cases h)
        · have z0 := (HR1.out.below hS).c0
          have z1 := (HR1.out.below hS).c1
          have z2 := (HR1.out.below hS).c2
          go_simp
          refine hK _ _ rfl (Below.refl _ _) (by first | rfl | simp) (fun h => by cases h)
        · have z0 := (HR0.out.below hS).c0
          have z1 := (HR0.out.below hS).c1
          have z2 := (HR0.out.below hS).c2
          go_simp
          refine hK _ _ rfl (Below.refl _ _) (by first | rfl | simp) (fun h => by cases h)
        · have d3 : vals 3 = _ := hd 3 (by decide +kernel)
          have d4 : vals 4 = _ := hd 4 (by decide +kernel)
          rw [d3, d4]
          go_simp
          go_at_call 43
          with_reducible refine (rCross_c (HX1.out.below hS) (HY.out.below hS) (by decide) (by decide) (q.num * (p.den : Int)) rfl).mono ?_
          rintro e w2 ⟨r0, r1, r2, rfl, f0, bn_r⟩
          refine hK _ _ rfl bn_r ⟨_, _, _, rfl, f0⟩ (fun h => by cases h)
        · obtain ⟨A_2_0, n_2_1, n_2_2, d2, h_2_0⟩ := hd 2 (by decide +kernel)
          obtain ⟨A_5_0, n_5_1, n_5_2, d5, h_5_0⟩ := hd 5 (by decide +kernel)
          rw [d2, d5]
          go_simp
          go_at_call 47
          with_reducible refine (wCmp_c h_2_0 h_5_0 (by decide) (by decide) v HV.out).mono ?_
          rintro e w2 ⟨rfl, bn_r⟩
          refine hK _ _ rfl bn_r rfl (fun h => by cases h)
      case hfin10 =>
        intro vals wr hS hP hne
        have ez_6 : vals 6 = _ := hP 6 (by decide)
        have HB := Lib.hid (below_two HW.out hS)
        try dsimp only
        rw [ez_6]
        refine wpAny_ready (rs := [7]) (by kernel_rfl) (by simp) (AllReady.cons rfl (fun KC hK => ?_) AllReady.nil)
        go_simp
        refine hK _ _ ?_
        clear hK KC
        refine wpAny_done (by kernel_rfl) ?_ _
        go_wp2
        go_ret
        exact ⟨rfl, HB.out⟩

set_option maxHeartbeats 4000000 in
set_option maxRecDepth 100000 in
theorem rSign_c (hx : QQ w s A n c xs B m d ys o L) (h1 : L ≤ 1000) (v : Int) (hv : cmpR o (some 0) = v) :
    Calls Try.prog 20 #[.agg #[.bool s, .slice A n c, .slice B m d]] w fun e w' => e = .returned (.int .i64 v) ∧ Below w.heap.size w w' := by
  cases o with
  | none =>
    obtain rfl : v = 0 := hv.symm
    clear hv
    have b0 := below_new w (.cells #[Value.bool s, Value.slice A n c, Value.slice B m d] 28)
    have HW := Lib.hid b0
    have HQ0 := Lib.hid (hx.below HW.out)
    have r0 := ((row3_new w 28 (.bool s) (.slice A n c) (.slice B m d)))
    clear b0 hx
    go_enter Try.func20, Try.ntmps20
    go_wp2_with fail
    generalize w.alloc (.cells #[Value.bool s, Value.slice A n c, Value.slice B m d] 28) = w1 at *
    have HR0 := Lib.hid r0
    clear r0
    refine (rGood_c HQ0.out (by omega) false rfl).mono ?_
    rintro e w2 ⟨rfl, bn⟩
    replace HQ0 := Lib.hid (HQ0.out.below bn)
    replace HR0 := Lib.hid (HR0.out.below bn)
    replace HW := Lib.hid (below_two HW.out bn)
    clear bn
    go_wp2
    go_ret
    exact ⟨rfl, HW.out⟩
  | some p =>
    have HV : RowKit.Hid (cmpZ p.num 0 = v) := by
      show _ = _
      rw [← cmpQ_top]; exact hv
    clear hv
    have b0 := below_new w (.cells #[Value.bool s, Value.slice A n c, Value.slice B m d] 28)
    have HW := Lib.hid b0
    have HQ0 := Lib.hid (hx.below HW.out)
    have r0 := ((row3_new w 28 (.bool s) (.slice A n c) (.slice B m d)))
    clear b0 hx
    go_enter Try.func20, Try.ntmps20
    go_wp2_with fail
    generalize w.alloc (.cells #[Value.bool s, Value.slice A n c, Value.slice B m d] 28) = w1 at *
    have HR0 := Lib.hid r0
    clear r0
    refine (rGood_c HQ0.out (by omega) true rfl).mono ?_
    rintro e wS ⟨rfl, bn⟩
    replace HQ0 := Lib.hid (HQ0.out.below bn)
    replace HR0 := Lib.hid (HR0.out.below bn)
    replace HW := Lib.hid (below_two HW.out bn)
    clear bn
    have HX := Lib.hid HQ0.out.some.2.2.2.2.1
    have HY := Lib.hid HQ0.out.some.2.2.2.2.2.1
    have Hf := Lib.hid HQ0.out.some.2.2.2.1
    have c00 := HR0.out.c0
    have c01 := HR0.out.c1
    have c02 := HR0.out.c2
    go_wp2_with fail
    clear c00 c01 c02
    refine (wCmp_c HX.out (zz_none _) (by decide) (by decide) v HV.out).mono ?_
    rintro e w3 ⟨rfl, bn⟩
    replace HW := Lib.hid (below_two HW.out bn)
    clear bn
    go_wp2
    go_ret
    exact ⟨rfl, HW.out⟩

set_option maxHeartbeats 4000000 in
set_option maxRecDepth 100000 in
theorem rNeg_c (hx : QQ w s A n c xs B m d ys o L) (h1 : L ≤ 1000) :
    Calls Try.prog 23 #[.agg #[.bool s, .slice A n c, .slice B m d]] w fun e w' => ∃ A2 n2 c2 B2 m2 d2, e = .returned (.agg #[.bool (sg (oTop (o.map fun q => -q))), .slice A2 n2 c2, .slice B2 m2 d2]) ∧ QT w' A2 n2 c2 B2 m2 d2 (o.map fun q => -q) ∧ Below w.heap.size w w' := by
  cases o with
  | none =>
    have b0 := below_new w (.cells #[Value.bool s, Value.slice A n c, Value.slice B m d] 28)
    have b2 := below_new (w.alloc (.cells #[Value.bool s, Value.slice A n c, Value.slice B m d] 28)) (.cells #[Value.bool false, Value.slice none 0 0, Value.slice none 0 0] 28)
    have HW := Lib.hid (below_two b0 b2)
    have HQ0 := Lib.hid (hx.below HW.out)
    have r0 := ((row3_new w 28 (.bool s) (.slice A n c) (.slice B m d))).below b2
    have rz := row3_new (w.alloc (.cells #[Value.bool s, Value.slice A n c, Value.slice B m d] 28)) 28 (.bool false) (.slice none 0 0) (.slice none 0 0)
    simp only [World.size_alloc] at rz
    clear b0 b2 hx
    go_enter Try.func23, Try.ntmps23
    go_wp2_with fail
    generalize (w.alloc (.cells #[Value.bool s, Value.slice A n c, Value.slice B m d] 28)).alloc (.cells #[Value.bool false, Value.slice none 0 0, Value.slice none 0 0] 28) = w1 at *
    have HR0 := Lib.hid r0
    have HZ := Lib.hid rz
    have Hq : RowKit.Hid (w.heap.size ≤ w.heap.size + 1) := by show _ ≤ _; omega
    clear r0 rz
    refine (rGood_c HQ0.out (by omega) false rfl).mono ?_
    rintro e w2 ⟨rfl, bn⟩
    replace HQ0 := Lib.hid (HQ0.out.below bn)
    replace HR0 := Lib.hid (HR0.out.below bn)
    replace HZ := Lib.hid (HZ.out.below bn)
    replace HW := Lib.hid (below_two HW.out bn)
    clear bn
    have e0 := HZ.out.c0
    have e1 := HZ.out.c1
    have e2 := HZ.out.c2
    have f0 := HZ.out.free 0
    have f1 := HZ.out.free 1
    have f2 := HZ.out.free 2
    have HF := Lib.hid (HZ.out.fill (.bool false) (.slice none 0 0) (.slice none 0 0))
    have HB := Lib.hid (below_fill3' HW.out Hq.out (.bool false) (.slice none 0 0) (.slice none 0 0))
    go_wp2
    refine bodyPost_ret (results_cell_row rfl _ _ _ 28 #[.bool false, .slice none 0 0, .slice none 0 0] (0, 0) _ rfl HF.out Try.underlying28 rfl rat_size) rfl ?_
    exact ⟨none, 0, 0, none, 0, 0, rfl, qt_none _ 0 0, HB.out⟩
  | some p =>
    have b0 := below_new w (.cells #[Value.bool s, Value.slice A n c, Value.slice B m d] 28)
    have b2 := below_new (w.alloc (.cells #[Value.bool s, Value.slice A n c, Value.slice B m d] 28)) (.cells #[Value.bool false, Value.slice none 0 0, Value.slice none 0 0] 28)
    have HW := Lib.hid (below_two b0 b2)
    have HQ0 := Lib.hid (hx.below HW.out)
    have r0 := ((row3_new w 28 (.bool s) (.slice A n c) (.slice B m d))).below b2
    have rz := row3_new (w.alloc (.cells #[Value.bool s, Value.slice A n c, Value.slice B m d] 28)) 28 (.bool false) (.slice none 0 0) (.slice none 0 0)
    simp only [World.size_alloc] at rz
    clear b0 b2 hx
    go_enter Try.func23, Try.ntmps23
    go_wp2_with fail
    generalize (w.alloc (.cells #[Value.bool s, Value.slice A n c, Value.slice B m d] 28)).alloc (.cells #[Value.bool false, Value.slice none 0 0, Value.slice none 0 0] 28) = w1 at *
    have HR0 := Lib.hid r0
    have HZ := Lib.hid rz
    have Hq : RowKit.Hid (w.heap.size ≤ w.heap.size + 1) := by show _ ≤ _; omega
    clear r0 rz
    refine (rGood_c HQ0.out (by omega) true rfl).mono ?_
    rintro e wS ⟨rfl, bn⟩
    replace HQ0 := Lib.hid (HQ0.out.below bn)
    replace HR0 := Lib.hid (HR0.out.below bn)
    replace HZ := Lib.hid (HZ.out.below bn)
    replace HW := Lib.hid (below_two HW.out bn)
    clear bn
    have HX := Lib.hid HQ0.out.some.2.2.2.2.1
    have HY := Lib.hid HQ0.out.some.2.2.2.2.2.1
    have Hf := Lib.hid HQ0.out.some.2.2.2.1
    have HYL : RowKit.Hid (NN wS B m d (limbs (-p).den) (-p).den 64) := by
      show NN _ _ _ _ _ _ _
      have e1 := HQ0.out.some.2.2.1
      have e2 := HY.out
      rw [e1] at e2
      exact e2
    go_wp2_with fail
    refine region_free 7 1 [7, 8, 9, 10, 11, 12, 13] ?aF11 (fun wx => Below wS.heap.size wS wx) (fun k vv wx => match k with
        | 0 => vv = .pointer (some ⟨w.heap.size, 0, none⟩)
        | 1 => vv = .agg #[.bool s, .slice A n c]
        | 2 => ∃ (e0 : Option Addr) (e1 : Nat) (e2 : Nat), vv = .agg #[.bool (sg (-p).num), .slice e0 e1 e2] ∧ ZZ wx (sg (-p).num) e0 e1 e2 (limbs (-p).num.natAbs) (-p).num 64
        | 3 => vv = .pointer (some ⟨w.heap.size, 2, none⟩)
        | 4 => vv = .slice B m d
        | 5 => ∃ (e0 : Option Addr) (e1 : Nat) (e2 : Nat), vv = .slice e0 e1 e2 ∧ NN wx e0 e1 e2 (limbs (-p).den) (-p).den 64
        | _ => ∃ (e0 : Option Addr) (e1 : Nat) (e2 : Nat) (e3 : Option Addr) (e4 : Nat) (e5 : Nat), vv = .agg #[.bool (sg (-p).num), .slice e0 e1 e2, .slice e3 e4 e5] ∧ ZZ wx (sg (-p).num) e0 e1 e2 (limbs (-p).num.natAbs) (-p).num 64 ∧ NN wx e3 e4 e5 (limbs (-p).den) (-p).den 64)
      (fun k => false) (by kernel_rfl) ?haF11 rfl (by kernel_rfl) (by kernel_rfl) (fun _ _ _ _ _ h => h) ?hSb11 ?hPb11 ?hS11 ?hop11 ?hfin11
    case haF11 =>
      intro vals
      simp only [fillAll, List.getElem?_cons_zero, List.getElem?_cons_succ, Act.put, List.setIfInBounds_toArray, List.set_cons_zero, List.set_cons_succ]
      exact rfl
    case hSb11 => exact fun wx w2 hb hS => below_two hS hb
    case hPb11 =>
      intro k v wa wb hb h
      match k, h with
      | 0, h => exact h
      | 1, h => exact h
      | 2, ⟨e0, e1, e2, h1, g0⟩ => exact ⟨e0, e1, e2, h1, g0.below hb⟩
      | 3, h => exact h
      | 4, h => exact h
      | 5, ⟨e0, e1, e2, h1, g0⟩ => exact ⟨e0, e1, e2, h1, g0.below hb⟩
      | _ + 6, ⟨e0, e1, e2, e3, e4, e5, h1, g0, g1⟩ => exact ⟨e0, e1, e2, e3, e4, e5, h1, g0.below hb, g1.below hb⟩
    case hS11 => exact (Below.refl _ _).drew
    case hop11 =>
      refine .cons (k := 0) ?_ (.cons (k := 1) ?_ (.cons (k := 2) ?_ (.cons (k := 3) ?_ (.cons (k := 4) ?_ (.cons (k := 5) ?_ (.cons (k := 6) ?_ (.nil)))))))
      all_goals intro vals wr hS hd KC hK
      all_goals (show Oper.wp _ _ _ _ _ _; dsimp only)
      · go_simp
        refine hK _ _ rfl (Below.refl _ _) (by first | rfl | simp) (fun h => by cases h)
      · have d0 : vals 0 = _ := hd 0 (by decide +kernel)
        rw [d0]
        have z0 := (HR0.out.below hS).c0
        have z1 := (HR0.out.below hS).c1
        go_simp
        refine hK _ _ rfl (Below.refl _ _) (by first | rfl | simp) (fun h => by cases h)
      · have d1 : vals 1 = _ := hd 1 (by decide +kernel)
        rw [d1]
        go_simp
        go_at_call 46
        with_reducible refine (wNeg_c (HX.out.below hS) (by decide) (-p).num rfl).mono ?_
        rintro e w2 ⟨r0, r1, r2, rfl, f0, bn_r⟩
        refine hK _ _ rfl bn_r ⟨_, _, _, rfl, f0⟩ (fun h => by cases h)
      · go_simp
        refine hK _ _ rfl (Below.refl _ _) (by first | rfl | simp) (fun h => by cases h)
      · have d3 : vals 3 = _ := hd 3 (by decide +kernel)
        rw [d3]
        have z0 := (HR0.out.below hS).c2
        go_simp
        refine hK _ _ rfl (Below.refl _ _) (by first | rfl | simp) (fun h => by cases h)
      · have d4 : vals 4 = _ := hd 4 (by decide +kernel)
        rw [d4]
        go_simp
        go_at_call 49
        with_reducible refine (rClone_c (HYL.out.below hS) (by decide)).mono ?_
        rintro e w2 ⟨r0, r1, r2, rfl, f0, bn_r⟩
        refine hK _ _ rfl bn_r ⟨_, _, _, rfl, f0⟩ (fun h => by cases h)
      · obtain ⟨A_2_0, n_2_1, n_2_2, d2, h_2_0⟩ := hd 2 (by decide +kernel)
        obtain ⟨A_5_0, n_5_1, n_5_2, d5, h_5_0⟩ := hd 5 (by decide +kernel)
        rw [d2, d5]
        go_simp
        refine hK _ _ rfl (Below.refl _ _) ⟨_, _, _, _, _, _, rfl, h_2_0, h_5_0⟩ (fun h => by cases h)
    case hfin11 =>
      intro vals wr hS hP hne
      obtain ⟨y0, y1, y2, y3, y4, y5, ez, h3_0, h3_1⟩ := hP 6 (by decide)
      have hZ3 := HZ.out.below hS
      have hNo := hZ3.noLimb (by intro v e; cases e) (by intro v e; cases e) (by intro v e; cases e)
      have e0 := hZ3.c0
      have e1 := hZ3.c1
      have e2 := hZ3.c2
      have f0 := hZ3.free 0
      have f1 := hZ3.free 1
      have f2 := hZ3.free 2
      have HF := Lib.hid (hZ3.fill (.bool (sg (-p).num)) (.slice y0 y1 y2) (.slice y3 y4 y5))
      have HP1 := Lib.hid (h3_0.fillR3 hNo (.bool (sg (-p).num)) (.slice y0 y1 y2) (.slice y3 y4 y5))
      have HP2 := Lib.hid (h3_1.fillR3 hNo (.bool (sg (-p).num)) (.slice y0 y1 y2) (.slice y3 y4 y5))
      have HB := Lib.hid (below_fill3' (below_two HW.out hS) Hq.out (.bool (sg (-p).num)) (.slice y0 y1 y2) (.slice y3 y4 y5))
      try dsimp only
      rw [ez]
      refine wpAny_ready (rs := [7]) (by kernel_rfl) (by simp) (AllReady.cons rfl (fun KC hK => ?_) AllReady.nil)
      go_simp
      refine hK _ _ ?_
      clear hK KC
      refine wpAny_done (by kernel_rfl) ?_ _
      go_wp2
      refine bodyPost_ret (results_cell_row rfl _ _ _ 28 #[.bool (sg (-p).num), .slice y0 y1 y2, .slice y3 y4 y5] (0, 0) _ rfl HF.out Try.underlying28 rfl rat_size) rfl ?_
      exact ⟨y0, y1, y2, y3, y4, y5, rfl, qt_some (q := -p) HP1.out HP2.out (neg_fits Hf.out), HB.out⟩

theorem rEqual_c (hx : NN w A n c xs a L) (hy : NN w A' n' c' ys b L') (h1 : L ≤ 1000000000) (h2 : L' ≤ 1000000000) (v : Bool) (hv : decide (xs = ys) = v) :
    Calls Try.prog 48 #[.slice A n c, .slice A' n' c'] w fun e w' => e = .returned (.bool v) ∧ Below w.heap.size w w' := by
  have := rEqual_any A n c xs A' n' c' ys w hx.isN hy.isN (by have := hx.le; omega) (by have := hy.le; omega)
  have e : same xs ys = v := hv
  rwa [e] at this

set_option maxHeartbeats 4000000 in
set_option maxRecDepth 100000 in
theorem rSame_c (hx : QQ w s A n c xs B m d ys o L) (hx' : QQ w s' A' n' c' xs' B' m' d' ys' o' L') (h1 : L ≤ 1000) (h2 : L' ≤ 1000) (v : Bool) (hv : sameR o o' = v) :
    Calls Try.prog 22 #[.agg #[.bool s, .slice A n c, .slice B m d], .agg #[.bool s', .slice A' n' c', .slice B' m' d']] w fun e w' => e = .returned (.bool v) ∧ Below w.heap.size w w' := by
  cases o with
  | none =>
    obtain rfl : v = false := hv.symm
    clear hv
    have b0 := below_new w (.cells #[Value.bool s, Value.slice A n c, Value.slice B m d] 28)
    have b1 := below_new (w.alloc (.cells #[Value.bool s, Value.slice A n c, Value.slice B m d] 28)) (.cells #[Value.bool s', Value.slice A' n' c', Value.slice B' m' d'] 28)
    have HW := Lib.hid (below_two b0 b1)
    have HQ0 := Lib.hid (hx.below HW.out)
    have HQ1 := Lib.hid (hx'.below HW.out)
    have r0 := ((row3_new w 28 (.bool s) (.slice A n c) (.slice B m d)).below b1)
    have r1 := (row3_new (w.alloc (.cells #[Value.bool s, Value.slice A n c, Value.slice B m d] 28)) 28 (.bool s') (.slice A' n' c') (.slice B' m' d'))
    simp only [World.size_alloc] at r1
    clear b0 b1 hx hx'
    go_enter Try.func22, Try.ntmps22
    go_wp2_with fail
    generalize (w.alloc (.cells #[Value.bool s, Value.slice A n c, Value.slice B m d] 28)).alloc (.cells #[Value.bool s', Value.slice A' n' c', Value.slice B' m' d'] 28) = w1 at *
    have HR0 := Lib.hid r0
    have HR1 := Lib.hid r1
    clear r0 r1
    refine (rGood_c HQ0.out (by omega) false rfl).mono ?_
    rintro e w2 ⟨rfl, bn⟩
    replace HQ0 := Lib.hid (HQ0.out.below bn)
    replace HR0 := Lib.hid (HR0.out.below bn)
    replace HQ1 := Lib.hid (HQ1.out.below bn)
    replace HR1 := Lib.hid (HR1.out.below bn)
    replace HW := Lib.hid (below_two HW.out bn)
    clear bn
    go_wp2
    go_ret
    exact ⟨rfl, HW.out⟩
  | some p =>
    have hv2 : decide (some p = o') = v := hv
    rw [← same_read hx.rd hx'.rd] at hv2
    clear hv
    by_cases hs : s = s'
    · subst hs
      by_cases hxs : xs = xs'
      · have K : RowKit.Hid (decide (xs = xs') = true) := by show _ = _; simpa using hxs
        have K2 : RowKit.Hid (decide (ys = ys') = v) := by
          show _ = _
          rw [← hv2]; simp [hxs]
        clear hv2 hxs
        have b0 := below_new w (.cells #[Value.bool s, Value.slice A n c, Value.slice B m d] 28)
        have b1 := below_new (w.alloc (.cells #[Value.bool s, Value.slice A n c, Value.slice B m d] 28)) (.cells #[Value.bool s, Value.slice A' n' c', Value.slice B' m' d'] 28)
        have HW := Lib.hid (below_two b0 b1)
        have HQ0 := Lib.hid (hx.below HW.out)
        have HQ1 := Lib.hid (hx'.below HW.out)
        have r0 := ((row3_new w 28 (.bool s) (.slice A n c) (.slice B m d)).below b1)
        have r1 := (row3_new (w.alloc (.cells #[Value.bool s, Value.slice A n c, Value.slice B m d] 28)) 28 (.bool s) (.slice A' n' c') (.slice B' m' d'))
        simp only [World.size_alloc] at r1
        clear b0 b1 hx hx'
        go_enter Try.func22, Try.ntmps22
        go_wp2_with fail
        generalize (w.alloc (.cells #[Value.bool s, Value.slice A n c, Value.slice B m d] 28)).alloc (.cells #[Value.bool s, Value.slice A' n' c', Value.slice B' m' d'] 28) = w1 at *
        have HR0 := Lib.hid r0
        have HR1 := Lib.hid r1
        clear r0 r1
        refine (rGood_c HQ0.out (by omega) true rfl).mono ?_
        rintro e w2 ⟨rfl, bn⟩
        replace HQ0 := Lib.hid (HQ0.out.below bn)
        replace HR0 := Lib.hid (HR0.out.below bn)
        replace HQ1 := Lib.hid (HQ1.out.below bn)
        replace HR1 := Lib.hid (HR1.out.below bn)
        replace HW := Lib.hid (below_two HW.out bn)
        clear bn
        have HX : RowKit.Hid (NN w2 A n c xs (Limb.val xs) L) := by
          have h := HQ0.out.top.nn
          rw [zOf_abs] at h
          exact h
        have HX1 : RowKit.Hid (NN w2 A' n' c' xs' (Limb.val xs') L') := by
          have h := HQ1.out.top.nn
          rw [zOf_abs] at h
          exact h
        have HY := Lib.hid HQ0.out.bot
        have HY1 := Lib.hid HQ1.out.bot
        have c00 := HR0.out.c0
        have c01 := HR0.out.c1
        have c02 := HR0.out.c2
        have c10 := HR1.out.c0
        have c11 := HR1.out.c1
        have c12 := HR1.out.c2
        go_wp2_with fail
        clear c00 c01 c02
        clear c10 c11 c12
        refine (rEqual_c HX.out HX1.out (by omega) (by omega) true K.out).mono ?_
        rintro e w3 ⟨rfl, bn⟩
        replace HX := Lib.hid (HX.out.below bn)
        replace HX1 := Lib.hid (HX1.out.below bn)
        replace HY := Lib.hid (HY.out.below bn)
        replace HY1 := Lib.hid (HY1.out.below bn)
        replace HR0 := Lib.hid (HR0.out.below bn)
        replace HR1 := Lib.hid (HR1.out.below bn)
        replace HW := Lib.hid (below_two HW.out bn)
        clear bn
        have c00 := HR0.out.c0
        have c01 := HR0.out.c1
        have c02 := HR0.out.c2
        have c10 := HR1.out.c0
        have c11 := HR1.out.c1
        have c12 := HR1.out.c2
        go_wp2_with fail
        clear c00 c01 c02
        clear c10 c11 c12
        refine (rEqual_c HY.out HY1.out (by omega) (by omega) v K2.out).mono ?_
        rintro e w3 ⟨rfl, bn⟩
        replace HX := Lib.hid (HX.out.below bn)
        replace HX1 := Lib.hid (HX1.out.below bn)
        replace HY := Lib.hid (HY.out.below bn)
        replace HY1 := Lib.hid (HY1.out.below bn)
        replace HR0 := Lib.hid (HR0.out.below bn)
        replace HR1 := Lib.hid (HR1.out.below bn)
        replace HW := Lib.hid (below_two HW.out bn)
        clear bn
        go_wp2
        go_ret
        exact ⟨rfl, HW.out⟩
      · have K : RowKit.Hid (decide (xs = xs') = false) := by show _ = _; simpa using hxs
        obtain rfl : v = false := by rw [← hv2]; simp [hxs]
        clear hv2 hxs
        have b0 := below_new w (.cells #[Value.bool s, Value.slice A n c, Value.slice B m d] 28)
        have b1 := below_new (w.alloc (.cells #[Value.bool s, Value.slice A n c, Value.slice B m d] 28)) (.cells #[Value.bool s, Value.slice A' n' c', Value.slice B' m' d'] 28)
        have HW := Lib.hid (below_two b0 b1)
        have HQ0 := Lib.hid (hx.below HW.out)
        have HQ1 := Lib.hid (hx'.below HW.out)
        have r0 := ((row3_new w 28 (.bool s) (.slice A n c) (.slice B m d)).below b1)
        have r1 := (row3_new (w.alloc (.cells #[Value.bool s, Value.slice A n c, Value.slice B m d] 28)) 28 (.bool s) (.slice A' n' c') (.slice B' m' d'))
        simp only [World.size_alloc] at r1
        clear b0 b1 hx hx'
        go_enter Try.func22, Try.ntmps22
        go_wp2_with fail
        generalize (w.alloc (.cells #[Value.bool s, Value.slice A n c, Value.slice B m d] 28)).alloc (.cells #[Value.bool s, Value.slice A' n' c', Value.slice B' m' d'] 28) = w1 at *
        have HR0 := Lib.hid r0
        have HR1 := Lib.hid r1
        clear r0 r1
        refine (rGood_c HQ0.out (by omega) true rfl).mono ?_
        rintro e w2 ⟨rfl, bn⟩
        replace HQ0 := Lib.hid (HQ0.out.below bn)
        replace HR0 := Lib.hid (HR0.out.below bn)
        replace HQ1 := Lib.hid (HQ1.out.below bn)
        replace HR1 := Lib.hid (HR1.out.below bn)
        replace HW := Lib.hid (below_two HW.out bn)
        clear bn
        have HX : RowKit.Hid (NN w2 A n c xs (Limb.val xs) L) := by
          have h := HQ0.out.top.nn
          rw [zOf_abs] at h
          exact h
        have HX1 : RowKit.Hid (NN w2 A' n' c' xs' (Limb.val xs') L') := by
          have h := HQ1.out.top.nn
          rw [zOf_abs] at h
          exact h
        have HY := Lib.hid HQ0.out.bot
        have HY1 := Lib.hid HQ1.out.bot
        have c00 := HR0.out.c0
        have c01 := HR0.out.c1
        have c02 := HR0.out.c2
        have c10 := HR1.out.c0
        have c11 := HR1.out.c1
        have c12 := HR1.out.c2
        go_wp2_with fail
        clear c00 c01 c02
        clear c10 c11 c12
        refine (rEqual_c HX.out HX1.out (by omega) (by omega) false K.out).mono ?_
        rintro e w3 ⟨rfl, bn⟩
        replace HX := Lib.hid (HX.out.below bn)
        replace HX1 := Lib.hid (HX1.out.below bn)
        replace HY := Lib.hid (HY.out.below bn)
        replace HY1 := Lib.hid (HY1.out.below bn)
        replace HR0 := Lib.hid (HR0.out.below bn)
        replace HR1 := Lib.hid (HR1.out.below bn)
        replace HW := Lib.hid (below_two HW.out bn)
        clear bn
        go_wp2
        go_ret
        exact ⟨rfl, HW.out⟩
    · have hs2 : (s == s') = false := by simpa using hs
      obtain rfl : v = false := by rw [← hv2]; simp [hs]
      clear hv2 hs
      have b0 := below_new w (.cells #[Value.bool s, Value.slice A n c, Value.slice B m d] 28)
      have b1 := below_new (w.alloc (.cells #[Value.bool s, Value.slice A n c, Value.slice B m d] 28)) (.cells #[Value.bool s', Value.slice A' n' c', Value.slice B' m' d'] 28)
      have HW := Lib.hid (below_two b0 b1)
      have HQ0 := Lib.hid (hx.below HW.out)
      have HQ1 := Lib.hid (hx'.below HW.out)
      have r0 := ((row3_new w 28 (.bool s) (.slice A n c) (.slice B m d)).below b1)
      have r1 := (row3_new (w.alloc (.cells #[Value.bool s, Value.slice A n c, Value.slice B m d] 28)) 28 (.bool s') (.slice A' n' c') (.slice B' m' d'))
      simp only [World.size_alloc] at r1
      clear b0 b1 hx hx'
      go_enter Try.func22, Try.ntmps22
      go_wp2_with fail
      generalize (w.alloc (.cells #[Value.bool s, Value.slice A n c, Value.slice B m d] 28)).alloc (.cells #[Value.bool s', Value.slice A' n' c', Value.slice B' m' d'] 28) = w1 at *
      have HR0 := Lib.hid r0
      have HR1 := Lib.hid r1
      clear r0 r1
      refine (rGood_c HQ0.out (by omega) true rfl).mono ?_
      rintro e w2 ⟨rfl, bn⟩
      replace HQ0 := Lib.hid (HQ0.out.below bn)
      replace HR0 := Lib.hid (HR0.out.below bn)
      replace HQ1 := Lib.hid (HQ1.out.below bn)
      replace HR1 := Lib.hid (HR1.out.below bn)
      replace HW := Lib.hid (below_two HW.out bn)
      clear bn
      have HX : RowKit.Hid (NN w2 A n c xs (Limb.val xs) L) := by
        have h := HQ0.out.top.nn
        rw [zOf_abs] at h
        exact h
      have HX1 : RowKit.Hid (NN w2 A' n' c' xs' (Limb.val xs') L') := by
        have h := HQ1.out.top.nn
        rw [zOf_abs] at h
        exact h
      have HY := Lib.hid HQ0.out.bot
      have HY1 := Lib.hid HQ1.out.bot
      have c00 := HR0.out.c0
      have c01 := HR0.out.c1
      have c02 := HR0.out.c2
      have c10 := HR1.out.c0
      have c11 := HR1.out.c1
      have c12 := HR1.out.c2
      go_wp2
      go_ret
      exact ⟨rfl, HW.out⟩

end
set_option maxHeartbeats 4000000 in
set_option maxRecDepth 100000 in
theorem rWhole_c (v : Int) (h0 : -9223372036854775808 ≤ v) (h1 : v ≤ 9223372036854775807) (w : World) :
    Calls Try.prog 24 #[.int .i64 v] w fun e w' => ∃ A2 n2 c2 B2 m2 d2, e = .returned (.agg #[.bool (sg (oTop (some (v : Rat)))), .slice A2 n2 c2, .slice B2 m2 d2]) ∧ QT w' A2 n2 c2 B2 m2 d2 (some (v : Rat)) ∧ Below w.heap.size w w' := by
  have HW := Lib.hid (below_new w (.cells #[Value.bool false, Value.slice none 0 0, Value.slice none 0 0] 28))
  have HZ := Lib.hid (row3_new w 28 (.bool false) (.slice none 0 0) (.slice none 0 0))
  go_enter Try.func24, Try.ntmps24
  go_wp2_with fail
  refine (wOf_c v h0 h1 _).mono ?_
  rintro e w2 ⟨A2, n2, c2, rfl, h2, bn⟩
  have H2 := Lib.hid h2
  replace HZ := Lib.hid (HZ.out.below bn)
  replace HW := Lib.hid (below_two HW.out bn)
  clear h2 bn
  go_wp2_with fail
  refine (of_c 1 1 rfl (by decide) _).mono ?_
  rintro e w3 ⟨A4, n4, c4, rfl, h4, bn⟩
  replace H2 := Lib.hid (H2.out.below bn)
  replace HZ := Lib.hid (HZ.out.below bn)
  replace HW := Lib.hid (below_two HW.out bn)
  have HL := Lib.hid h4
  clear h4 bn
  have hNo := HZ.out.noLimb (by intro v e; cases e) (by intro v e; cases e) (by intro v e; cases e)
  have e0 := HZ.out.c0
  have e1 := HZ.out.c1
  have e2 := HZ.out.c2
  have f0 := HZ.out.free 0
  have f1 := HZ.out.free 1
  have f2 := HZ.out.free 2
  have HF := Lib.hid (HZ.out.fill (.bool (sg v)) (.slice A2 n2 c2) (.slice A4 n4 c4))
  have HP1 := Lib.hid (H2.out.fillR3 hNo (.bool (sg v)) (.slice A2 n2 c2) (.slice A4 n4 c4))
  have HP2 := Lib.hid (HL.out.fillR3 hNo (.bool (sg v)) (.slice A2 n2 c2) (.slice A4 n4 c4))
  have HB := Lib.hid (below_fill3' HW.out (Nat.le_refl _) (.bool (sg v)) (.slice A2 n2 c2) (.slice A4 n4 c4))
  clear hNo H2 HL
  go_wp2
  refine bodyPost_ret (results_cell_row rfl _ _ w.heap.size 28 #[.bool (sg v), .slice A2 n2 c2, .slice A4 n4 c4] (0, 0) _ rfl HF.out Try.underlying28 rfl rat_size) rfl ?_
  exact ⟨A2, n2, c2, _, _, _, rfl, qt_some (q := (v : Rat)) HP1.out HP2.out (whole_fits h0 h1), HB.out⟩

end Go.Proofs.Ytohciicocaoagaa

/- What the statements' helper By of layer 7 answers, as a contract over memory. Conditions: two numbers of a machine whose quotient has room. -/
namespace Go.Proofs.Ytohciicocaoagaa
open Go.RowKit Limb
set_option linter.unusedVariables false
theorem refQWhole_is (v : Int) (h0 : -9223372036854775808 ≤ v) (h1 : v ≤ 9223372036854775807) (q : Rat) (hq : (v : Rat) = q) (w : World) : Calls Try.prog 56 #[.int .i64 v] w fun e w' => ∃ A2 n2 c2 B2 m2 d2, e = .returned (.agg #[.bool (sg (oTop (some q))), .slice A2 n2 c2, .slice B2 m2 d2]) ∧ QT w' A2 n2 c2 B2 m2 d2 (some q) ∧ Below w.heap.size w w' := by
  subst hq; exact refQWhole_c v h0 h1 w
theorem rWhole_is (v : Int) (h0 : -9223372036854775808 ≤ v) (h1 : v ≤ 9223372036854775807) (q : Rat) (hq : (v : Rat) = q) (w : World) : Calls Try.prog 24 #[.int .i64 v] w fun e w' => ∃ A2 n2 c2 B2 m2 d2, e = .returned (.agg #[.bool (sg (oTop (some q))), .slice A2 n2 c2, .slice B2 m2 d2]) ∧ QT w' A2 n2 c2 B2 m2 d2 (some q) ∧ Below w.heap.size w w' := by
  subst hq; exact rWhole_c v h0 h1 w

set_option maxHeartbeats 4000000 in
set_option maxRecDepth 100000 in
theorem by_c (a b : Int) (a0 : -9223372036854775808 ≤ a) (a1 : a ≤ 9223372036854775807) (b0 : -9223372036854775808 ≤ b) (b1 : b ≤ 9223372036854775807) (q : Rat) (hq : divR (some (a : Rat)) (some (b : Rat)) = (some q, 0)) (w : World) :
    Calls Try.prog 26 #[.int .i64 a, .int .i64 b] w fun e w' => ∃ A2 n2 c2 B2 m2 d2, e = .returned (.agg #[.bool (sg (oTop (some q))), .slice A2 n2 c2, .slice B2 m2 d2]) ∧ QT w' A2 n2 c2 B2 m2 d2 (some q) ∧ Below w.heap.size w w' := by
  have bw := below_new w (.cells #[Value.bool false, Value.slice none 0 0, Value.slice none 0 0] 28)
  have h_rz := row3_new w 28 (.bool false) (.slice none 0 0) (.slice none 0 0)
  obtain ⟨p, ep⟩ : ∃ p : Rat, (a : Rat) = p := ⟨_, rfl⟩
  obtain ⟨r, er⟩ : ∃ r : Rat, (b : Rat) = r := ⟨_, rfl⟩
  rw [ep, er] at hq
  have ep := Lib.hid ep
  have er := Lib.hid er
  have hq := Lib.hid hq
  have a0 := Lib.hid a0
  have a1 := Lib.hid a1
  have b0 := Lib.hid b0
  have b1 := Lib.hid b1
  go_enter Try.func26, Try.ntmps26
  go_wp2_with fail
  generalize w.alloc (.cells #[Value.bool false, Value.slice none 0 0, Value.slice none 0 0] 28) = w1 at *
  obtain ⟨q_z, eg⟩ : ∃ g, g = w.heap.size := ⟨_, rfl⟩
  have hqz : RowKit.Hid (w.heap.size ≤ q_z) := by show _ ≤ _; omega
  rw [← eg] at h_rz ⊢
  clear eg
  refine (refQWhole_is a a0.out a1.out _ ep.out _).mono ?_
  rintro e w1 ⟨A_a, n_a, c_a, B_a, m_a, d_a, rfl, h_a, bn⟩
  replace h_rz := h_rz.below bn
  replace bw := below_two bw bn
  clear bn
  go_wp2_with fail
  refine (refQWhole_is b b0.out b1.out _ er.out _).mono ?_
  rintro e w2 ⟨A_b, n_b, c_b, B_b, m_b, d_b, rfl, h_b, bn⟩
  replace h_rz := h_rz.below bn
  replace h_a := h_a.below bn
  replace bw := below_two bw bn
  clear bn
  go_wp2_with fail
  refine (refQDiv_c h_a h_b (by decide) (by decide) _ _ hq.out).mono ?_
  rintro e w3 ⟨A_g, n_g, c_g, B_g, m_g, d_g, rfl, h_g, bn⟩
  replace h_rz := h_rz.below bn
  replace h_a := h_a.below bn
  replace h_b := h_b.below bn
  replace bw := below_two bw bn
  clear bn
  have h_rgg := row4_new w3 35 (.bool (sg (oTop (some q)))) (.slice A_g n_g c_g) (.slice B_g m_g d_g) (.int .i64 0)
  have bn := below_new w3 (.cells #[Value.bool (sg (oTop (some q))), Value.slice A_g n_g c_g, Value.slice B_g m_g d_g, Value.int .i64 0] 35)
  replace h_rz := h_rz.below bn
  replace h_a := h_a.below bn
  replace h_b := h_b.below bn
  replace h_g := h_g.below bn
  replace bw := below_two bw bn
  clear bn
  have hNo := h_rz.noLimb (by intro v e; cases e) (by intro v e; cases e) (by intro v e; cases e)
  have e0 := h_rz.c0
  have f0 := h_rz.free 0
  have e1 := h_rz.c1
  have f1 := h_rz.free 1
  have e2 := h_rz.c2
  have f2 := h_rz.free 2
  have y0 := h_rgg.c0
  have y1 := h_rgg.c1
  have y2 := h_rgg.c2
  have y3 := h_rgg.c3
  have HF := Lib.hid (h_rz.fill (.bool (sg (oTop (some q)))) (.slice A_g n_g c_g) (.slice B_g m_g d_g))
  have HP := Lib.hid (QQ.fillR3 h_g hNo (.bool (sg (oTop (some q)))) (.slice A_g n_g c_g) (.slice B_g m_g d_g))
  have HB := Lib.hid (below_fill3' bw hqz.out (.bool (sg (oTop (some q)))) (.slice A_g n_g c_g) (.slice B_g m_g d_g))
  clear hNo
  go_wp2
  refine bodyPost_ret (results_cell_row rfl _ _ _ 28 #[.bool (sg (oTop (some q))), .slice A_g n_g c_g, .slice B_g m_g d_g] (0, 0) _ rfl HF.out Try.underlying28 rfl rat_size) rfl ?_
  exact ⟨A_g, n_g, c_g, B_g, m_g, d_g, rfl, HP.out, HB.out⟩

end Go.Proofs.Ytohciicocaoagaa

/- What the statements' helpers keep.Rat and keep.OwnRat answer, as contracts over memory. Conditions: sizes of at most so many limbs. -/
namespace Go.Proofs.Ytohciicocaoagaa
open Go.RowKit Limb
set_option linter.unusedVariables false
section
variable {w : World} {s s' : Bool} {A B A' B' : Option Addr} {n c m d n' c' m' d' : Nat} {xs ys xs' ys' : List Nat} {x y : Int} {o o' : Option Rat} {a b L L' : Nat}
set_option maxHeartbeats 4000000 in
set_option maxRecDepth 100000 in
theorem keepRat_c (hx : QQ w s A n c xs B m d ys o L) (hx' : QQ w s' A' n' c' xs' B' m' d' ys' o' L') (h1 : L ≤ 100000) (h2 : L' ≤ 100000) (v : Bool) (hv : (decide (s = s') && same xs xs' && same ys ys') = v) :
    Calls Try.prog 13 #[.agg #[.bool s, .slice A n c, .slice B m d], .agg #[.bool s', .slice A' n' c', .slice B' m' d']] w fun e w' => e = .returned (.bool v) ∧ Below w.heap.size w w' := by
  have b0 := below_new w (.cells #[Value.bool s, Value.slice A n c, Value.slice B m d] 28)
  have b1 := below_new (w.alloc (.cells #[Value.bool s, Value.slice A n c, Value.slice B m d] 28)) (.cells #[Value.bool s', Value.slice A' n' c', Value.slice B' m' d'] 28)
  have HW := Lib.hid (below_two b0 b1)
  have HQ0 := Lib.hid (hx.below HW.out)
  have HQ1 := Lib.hid (hx'.below HW.out)
  have r0 := (row3_new w 28 (.bool s) (.slice A n c) (.slice B m d)).below b1
  have r1 := row3_new (w.alloc (.cells #[Value.bool s, Value.slice A n c, Value.slice B m d] 28)) 28 (.bool s') (.slice A' n' c') (.slice B' m' d')
  simp only [World.size_alloc] at r1
  clear b0 b1 hx hx'
  cases ht : decide (s = s') && same xs xs' with
  | true =>
    have K2 : RowKit.Hid (same ys ys' = v) := by
      show _ = _
      rw [← hv, ht, Bool.true_and]
    have K := Lib.hid ht
    clear ht hv
    go_enter Try.func13, Try.ntmps13
    go_wp2_with fail
    generalize (w.alloc (.cells #[Value.bool s, Value.slice A n c, Value.slice B m d] 28)).alloc (.cells #[Value.bool s', Value.slice A' n' c', Value.slice B' m' d'] 28) = w1 at *
    have HR0 := Lib.hid r0
    have HR1 := Lib.hid r1
    clear r0 r1
    refine (keepInt_c HQ0.out.top HQ1.out.top (by omega) (by omega) true K.out).mono ?_
    rintro e w2 ⟨rfl, bn⟩
    replace HQ0 := Lib.hid (HQ0.out.below bn)
    replace HQ1 := Lib.hid (HQ1.out.below bn)
    replace HR0 := Lib.hid (HR0.out.below bn)
    replace HR1 := Lib.hid (HR1.out.below bn)
    replace HW := Lib.hid (below_two HW.out bn)
    clear bn
    have c00 := HR0.out.c0
    have c01 := HR0.out.c1
    have c02 := HR0.out.c2
    have c10 := HR1.out.c0
    have c11 := HR1.out.c1
    have c12 := HR1.out.c2
    go_wp2_with fail
    clear c00 c01 c02
    clear c10 c11 c12
    refine (keep_c HQ0.out.bot HQ1.out.bot (by omega) (by omega) v K2.out).mono ?_
    rintro e w3 ⟨rfl, bn⟩
    replace HW := Lib.hid (below_two HW.out bn)
    clear bn
    go_wp2
    go_ret
    exact ⟨rfl, HW.out⟩
  | false =>
    obtain rfl : v = false := by rw [← hv, ht]; rfl
    have K := Lib.hid ht
    clear ht hv
    go_enter Try.func13, Try.ntmps13
    go_wp2_with fail
    generalize (w.alloc (.cells #[Value.bool s, Value.slice A n c, Value.slice B m d] 28)).alloc (.cells #[Value.bool s', Value.slice A' n' c', Value.slice B' m' d'] 28) = w1 at *
    have HR0 := Lib.hid r0
    have HR1 := Lib.hid r1
    clear r0 r1
    refine (keepInt_c HQ0.out.top HQ1.out.top (by omega) (by omega) false K.out).mono ?_
    rintro e w2 ⟨rfl, bn⟩
    replace HQ0 := Lib.hid (HQ0.out.below bn)
    replace HQ1 := Lib.hid (HQ1.out.below bn)
    replace HR0 := Lib.hid (HR0.out.below bn)
    replace HR1 := Lib.hid (HR1.out.below bn)
    replace HW := Lib.hid (below_two HW.out bn)
    clear bn
    go_wp2
    go_ret
    exact ⟨rfl, HW.out⟩

end
end Go.Proofs.Ytohciicocaoagaa
