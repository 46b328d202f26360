/- What package quo's nearer answers, as a contract over memory: two numbers further on in the divisions of two numbers by each other: the same greatest divisor, the second one less than it was. Conditions: both lists are the shortest ones, of at most 10^5 limbs; the first number has more than two limbs, the second one is not 0 and not above it. -/
import Derived.Test.YtbenkbgdahcaaaaQuoH
import Derived.Test.YtbenkbgdahcaaaaQuoE
import Derived.Deep.RegionHeld3
namespace Go.Proofs.Ytbenkbgdahcaaaa.Limb

theorem gcd_cast {a b x y : Nat} (h : Int.gcd (x : Int) (y : Int) = Int.gcd (a : Int) (b : Int)) : gcdN x y = gcdN a b := by
  unfold gcdN; simpa [Int.gcd_natCast_natCast] using h

/-- The heads of two numbers, as far as the first one's highest 62 bits. -/
theorem heads_of {a b k : Nat} (hk : k + 62 = blen a) (hba : b ≤ a) : Heads ((a / 2 ^ k : Nat) : Int) ((b / 2 ^ k : Nat) : Int) (a : Int) (b : Int) ((2 ^ k : Nat) : Int) := by
  have hS : 0 < 2 ^ k := Nat.two_pow_pos k
  have h1 := Nat.div_mul_le_self a (2 ^ k)
  have h2 := Nat.lt_mul_div_succ a hS
  have h3 := Nat.div_mul_le_self b (2 ^ k)
  have h4 := Nat.lt_mul_div_succ b hS
  have h5 : a / 2 ^ k < 4611686018427387904 := by
    rw [Nat.div_lt_iff_lt_mul hS]
    have := blen_lt a
    rw [← hk, Nat.add_comm, Nat.pow_add] at this
    exact this
  have h6 : b / 2 ^ k ≤ a / 2 ^ k := Nat.div_le_div_right hba
  rw [Nat.mul_comm] at h2 h4
  generalize a / 2 ^ k = x at *
  generalize b / 2 ^ k = y at *
  generalize 2 ^ k = S at *
  refine ⟨by omega, ?_, ?_, ?_, ?_, by omega, by omega, by omega, by omega⟩
  · have : ((x * S : Nat) : Int) ≤ (a : Int) := by omega
    simpa using this
  · have : (a : Int) < (((x + 1) * S : Nat) : Int) := by omega
    simpa using this
  · have : ((y * S : Nat) : Int) ≤ (b : Int) := by omega
    simpa using this
  · have : (b : Int) < (((y + 1) * S : Nat) : Int) := by omega
    simpa using this

theorem head_small {a b k : Nat} (hk : k + 62 = blen a) (hba : b ≤ a) : b / 2 ^ k % 18446744073709551616 = b / 2 ^ k := by
  have h5 : b / 2 ^ k < 4611686018427387904 := by
    rw [Nat.div_lt_iff_lt_mul (Nat.two_pow_pos k)]
    have := blen_lt a
    rw [← hk, Nat.add_comm, Nat.pow_add] at this
    exact Nat.lt_of_le_of_lt hba this
  exact Nat.mod_eq_of_lt (by omega)

theorem blen_long {a : Nat} (h : 2 < (limbs a).length) : 65 ≤ blen a := by
  have h0 : a ≠ 0 := by intro e; rw [e, limbs_zero] at h; simp at h
  have h1 := length_limbs_pred h0
  have h2 : 4294967296 ^ 2 ≤ 4294967296 ^ ((limbs a).length - 1) := Nat.pow_le_pow_right (by decide) (by omega)
  have h3 := blen_lt a
  have h4 : 2 ^ 64 < 2 ^ blen a := Nat.lt_of_le_of_lt (Nat.le_trans (by decide) (Nat.le_trans h2 h1)) h3
  have := (Nat.pow_lt_pow_iff_right (by decide)).1 h4
  omega

end Go.Proofs.Ytbenkbgdahcaaaa.Limb
namespace Go.Proofs.Ytbenkbgdahcaaaa
open Go.RowKit Limb
set_option linter.unusedVariables false

theorem of_c2 (P Q : Int) {A A' : Option Addr} {n c n' c' a b L L' : Nat} {w : World} (hx : NN w A n c (limbs a) a L) (hy : NN w A' n' c' (limbs b) b L') (h1 : L ≤ 100000) (hba : b ≤ a) (hPQ : MixOk P Q) (v : Nat) (hv : P * (a : Int) + Q * (b : Int) = (v : Int)) (hva : v ≤ a) :
    Calls Try.prog 48 #[.agg #[.int .i64 P, .int .i64 Q], .slice A n c, .slice A' n' c'] w fun e w' => ∃ A2 n2 c2, e = .returned (.slice A2 n2 c2) ∧ NN w' A2 n2 c2 (limbs v) v L ∧ Below w.heap.size w w' := by
  have hn : n' ≤ n := by rw [← hx.isN.len, ← hy.isN.len]; exact length_limbs_mono hba
  have hv2 : v < 4294967296 ^ n := by
    have h := val_lt hx.isN.small
    rw [hx.val, hx.isN.len] at h
    omega
  refine (of_mix P Q A n c (limbs a) A' n' c' (limbs b) w hx.isN hy.isN (by have := hx.le; omega) hn hPQ v (by rw [val_limbs, val_limbs]; exact hv) hv2).mono ?_
  rintro e w' ⟨A2, n2, c2, rfl, how, hb⟩
  exact ⟨A2, n2, c2, rfl, NN.own how (Nat.lt_of_le_of_lt hva (lt_pow hx)), hb⟩

set_option maxHeartbeats 1000000 in
theorem nearer_c {A A' : Option Addr} {n c n' c' a b L : Nat} {w : World} (hx : NN w A n c (limbs a) a L) (hy : NN w A' n' c' (limbs b) b L) (h1 : L ≤ 100000) (h3 : 2 < n) (hb : b ≠ 0) (hba : b ≤ a) :
    Calls Try.prog 32 #[.slice A n c, .slice A' n' c'] w fun e w' => ∃ x y A1 n1 c1 A2 n2 c2, e = .returned (.tuple #[.slice A1 n1 c1, .slice A2 n2 c2]) ∧ NN w' A1 n1 c1 (limbs x) x L ∧ NN w' A2 n2 c2 (limbs y) y L ∧
      RowKit.Hid (y < b ∧ y ≤ x ∧ gcdN x y = gcdN a b) ∧ Below w.heap.size w w' := by
  have hbl : 65 ≤ blen a := blen_long (by rw [hx.isN.len]; exact h3)
  have hb32 := blen_NN hx
  obtain ⟨k, hk⟩ : ∃ k, k + 62 = blen a := ⟨blen a - 62, by omega⟩
  have hH := heads_of hk hba
  have hs1 := head_small hk (Nat.le_refl a)
  have hs2 := head_small hk hba
  obtain ⟨x0, hx0⟩ : ∃ x, x = a / 2 ^ k := ⟨_, rfl⟩
  obtain ⟨y0, hy0⟩ : ∃ x, x = b / 2 ^ k := ⟨_, rfl⟩
  rw [← hx0] at hH
  rw [← hy0] at hH
  replace hs1 := hs1.trans hx0.symm
  replace hs2 := hs2.trans hy0.symm
  have x62 : x0 < 4611686018427387904 := by have := hH.x62; omega
  have y62 : y0 < 4611686018427387904 := by have := hH.yx; omega
  obtain ⟨l, hl⟩ : ∃ l, l = blen a := ⟨_, rfl⟩
  have hlk : (l : Int) - 62 = (k : Int) := by omega
  have hkk : k ≤ 3200000 := by omega
  have Hl := Lib.hid hl.symm
  have HH := Lib.hid hH
  have Hs1 := Lib.hid hs1
  have Hs2 := Lib.hid hs2
  have Hb0 := Lib.hid hb
  have Hba := Lib.hid hba
  have hle1 := hx.le
  have hle2 := hy.le
  clear hk hH hs1 hs2 hx0 hy0 hl hbl hb hba hb32
  go_enter Try.func32, Try.ntmps32
  go_wp2_with fail
  refine (bits_c hx (by omega) (l : Int) (by rw [Hl.out])).mono ?_
  rintro e w1 ⟨rfl, rfl⟩
  go_wp2_with fail
  refine (head_any A n c (limbs a) w hx.isN (by omega) k _ (by omega) (by omega) x0 (by rw [val_limbs]; exact Hs1.out)).mono ?_
  rintro e w1 ⟨rfl, nd, rfl⟩
  have bn := below_drewN (Below.refl w.heap.size w) nd
  have hx1 := hx.below bn
  have hy1 := hy.below bn
  have bw := bn
  clear bn hx hy
  generalize w.drewN nd = w1 at *
  go_wp2_with fail
  refine (head_any A' n' c' (limbs b) w1 hy1.isN (by omega) k _ (by omega) (by omega) y0 (by rw [val_limbs]; exact Hs2.out)).mono ?_
  rintro e w2 ⟨rfl, nd, rfl⟩
  have bn := below_drewN (Below.refl w1.heap.size w1) nd
  have hx2 := hx1.below bn
  have hy2 := hy1.below bn
  replace bw := below_two bw bn
  clear bn hx1 hy1
  generalize w1.drewN nd = w2 at *
  go_wp2_with fail
  refine (sure_any (x0 : Int) (y0 : Int) (a : Int) (b : Int) _ HH.out w2).mono ?_
  rintro e w3 ⟨fa, fb, sa, sb, rfl, hE, bn⟩
  have HE := Lib.hid hE
  have hx3 := hx2.below bn
  have hy3 := hy2.below bn
  replace bw := below_two bw bn
  clear hE bn hx2 hy2
  have P7 : RowKit.Hid (Pair ((w3.alloc (.cells #[Value.int .i64 fa, Value.int .i64 fb] 59)).alloc (.cells #[Value.int .i64 sa, Value.int .i64 sb] 59)) w3.heap.size fa fb) := (pair_new w3 fa fb).below (below_new _ _)
  have P8 : RowKit.Hid (Pair ((w3.alloc (.cells #[Value.int .i64 fa, Value.int .i64 fb] 59)).alloc (.cells #[Value.int .i64 sa, Value.int .i64 sb] 59)) (w3.heap.size + 1) sa sb) := by
    have h := pair_new (w3.alloc (.cells #[Value.int .i64 fa, Value.int .i64 fb] 59)) sa sb
    have e : (w3.alloc (.cells #[Value.int .i64 fa, Value.int .i64 fb] 59)).heap.size = w3.heap.size + 1 := by simp
    rw [e] at h
    exact h
  have bn := below_two (below_new w3 (.cells #[Value.int .i64 fa, Value.int .i64 fb] 59)) (below_new _ (.cells #[Value.int .i64 sa, Value.int .i64 sb] 59))
  have hx4 := hx3.below bn
  have hy4 := hy3.below bn
  replace bw := below_two bw bn
  clear bn hx3 hy3
  by_cases hfb : fb = 0
  · subst hfb
    have c71 := P7.out.c1
    clear P7 P8
    go_wp2_with fail
    refine (quoRem_yes hx4 hy4 h1 h1 Hb0.out).mono ?_
    rintro e w5 ⟨A5, n5, c5, A6, n6, c6, rfl, hq, hr, bn⟩
    have HX := Lib.hid (hy4.below bn)
    have HY := Lib.hid hr
    have HW := Lib.hid (below_two bw bn)
    have HP : RowKit.Hid (a % b < b ∧ a % b ≤ b ∧ gcdN b (a % b) = gcdN a b) := ⟨Nat.mod_lt _ (Nat.pos_of_ne_zero Hb0.out), Nat.le_of_lt (Nat.mod_lt _ (Nat.pos_of_ne_zero Hb0.out)), gcdN_step rfl⟩
    clear hq hr bn bw hx4 hy4 c71
    go_wp2
    go_ret2
    exact ⟨b, a % b, _, _, _, _, _, _, rfl, HX.out, HY.out, HP, HW.out⟩
  · have hf1 : (fb != 0) = true := by simp [hfb]
    obtain ⟨v1, v2, v3, v4, v5, v6⟩ := HE.out hfb
    obtain ⟨x, hx⟩ := Int.eq_ofNat_of_zero_le (show 0 ≤ fa * (a : Int) + fb * (b : Int) by omega)
    obtain ⟨y, hy⟩ := Int.eq_ofNat_of_zero_le v1
    rw [hx, hy] at v4
    have HP : RowKit.Hid (y < b ∧ y ≤ x ∧ gcdN x y = gcdN a b) := ⟨by omega, by omega, gcd_cast v4⟩
    have hxa : x ≤ a := by have := Hba.out; omega
    have hya : y ≤ a := by have := Hba.out; omega
    have c70 := P7.out.c0
    have c71 := P7.out.c1
    have c80 := P8.out.c0
    have c81 := P8.out.c1
    have l7 := P7.out.lt
    have l8 := P8.out.lt
    have Hx := Lib.hid hx
    have Hy := Lib.hid hy
    have HX4 := Lib.hid hx4
    have HY4 := Lib.hid hy4
    have HW4 := Lib.hid bw
    clear hx hy v1 v2 v3 v4 P7 P8 HE hx4 hy4 bw
    go_wp2
    generalize (w3.alloc (.cells #[Value.int .i64 fa, Value.int .i64 fb] 59)).alloc (.cells #[Value.int .i64 sa, Value.int .i64 sb] 59) = w4 at *
    obtain ⟨g7, hg7⟩ : ∃ g, g = w3.heap.size := ⟨_, rfl⟩
    rw [← hg7] at c70 c71 c80 c81 l7 l8 ⊢
    clear hg7
    have Hc : RowKit.Hid (∀ wx, Below w4.heap.size w4 wx → wx.cell? ⟨g7, 0, none⟩ = some (.int .i64 fa) ∧ wx.cell? ⟨g7, 1, none⟩ = some (.int .i64 fb) ∧ wx.cell? ⟨g7 + 1, 0, none⟩ = some (.int .i64 sa) ∧ wx.cell? ⟨g7 + 1, 1, none⟩ = some (.int .i64 sb)) := fun wx hb =>
      ⟨(hb.cell (p := ⟨g7, 0, none⟩) l7).trans c70, (hb.cell (p := ⟨g7, 1, none⟩) l7).trans c71, (hb.cell (p := ⟨g7 + 1, 0, none⟩) l8).trans c80, (hb.cell (p := ⟨g7 + 1, 1, none⟩) l8).trans c81⟩
    have KA : RowKit.Hid (∀ wx, Below w4.heap.size w4 wx → (wx.cell? ⟨g7, 0, none⟩ = some (.int .i64 fa) ∧ wx.cell? ⟨g7, 1, none⟩ = some (.int .i64 fb) ∧ wx.cell? ⟨g7 + 1, 0, none⟩ = some (.int .i64 sa) ∧ wx.cell? ⟨g7 + 1, 1, none⟩ = some (.int .i64 sb) ∧ Below w4.heap.size w4 wx)) := fun wx hb =>
      ⟨(Hc.out wx hb).1, (Hc.out wx hb).2.1, (Hc.out wx hb).2.2.1, (Hc.out wx hb).2.2.2, hb⟩
    have KS : RowKit.Hid (∀ wx w2, (wx.cell? ⟨g7, 0, none⟩ = some (.int .i64 fa) ∧ wx.cell? ⟨g7, 1, none⟩ = some (.int .i64 fb) ∧ wx.cell? ⟨g7 + 1, 0, none⟩ = some (.int .i64 sa) ∧ wx.cell? ⟨g7 + 1, 1, none⟩ = some (.int .i64 sb) ∧ Below w4.heap.size w4 wx) → Below wx.heap.size wx w2 →
        (w2.cell? ⟨g7, 0, none⟩ = some (.int .i64 fa) ∧ w2.cell? ⟨g7, 1, none⟩ = some (.int .i64 fb) ∧ w2.cell? ⟨g7 + 1, 0, none⟩ = some (.int .i64 sa) ∧ w2.cell? ⟨g7 + 1, 1, none⟩ = some (.int .i64 sb) ∧ Below w4.heap.size w4 w2)) := fun wx w2 hS hb => KA.out w2 (below_two hS.2.2.2.2 hb)
    have K1 : RowKit.Hid (∀ wx, (wx.cell? ⟨g7, 0, none⟩ = some (.int .i64 fa) ∧ wx.cell? ⟨g7, 1, none⟩ = some (.int .i64 fb) ∧ wx.cell? ⟨g7 + 1, 0, none⟩ = some (.int .i64 sa) ∧ wx.cell? ⟨g7 + 1, 1, none⟩ = some (.int .i64 sb) ∧ Below w4.heap.size w4 wx) →
        Calls Try.prog 48 #[.agg #[.int .i64 fa, .int .i64 fb], .slice A n c, .slice A' n' c'] wx fun e w' => ∃ A2 n2 c2, e = .returned (.slice A2 n2 c2) ∧ NN w' A2 n2 c2 (limbs x) x L ∧ Below wx.heap.size wx w') := fun wx hS =>
      of_c2 fa fb (HX4.out.below hS.2.2.2.2) (HY4.out.below hS.2.2.2.2) h1 Hba.out v5 x Hx.out hxa
    have K2 : RowKit.Hid (∀ wx, (wx.cell? ⟨g7, 0, none⟩ = some (.int .i64 fa) ∧ wx.cell? ⟨g7, 1, none⟩ = some (.int .i64 fb) ∧ wx.cell? ⟨g7 + 1, 0, none⟩ = some (.int .i64 sa) ∧ wx.cell? ⟨g7 + 1, 1, none⟩ = some (.int .i64 sb) ∧ Below w4.heap.size w4 wx) →
        Calls Try.prog 48 #[.agg #[.int .i64 sa, .int .i64 sb], .slice A n c, .slice A' n' c'] wx fun e w' => ∃ A2 n2 c2, e = .returned (.slice A2 n2 c2) ∧ NN w' A2 n2 c2 (limbs y) y L ∧ Below wx.heap.size wx w') := fun wx hS =>
      of_c2 sa sb (HX4.out.below hS.2.2.2.2) (HY4.out.below hS.2.2.2.2) h1 Hba.out v6 y Hy.out hya
    have KF : RowKit.Hid (∀ wx, (wx.cell? ⟨g7, 0, none⟩ = some (.int .i64 fa) ∧ wx.cell? ⟨g7, 1, none⟩ = some (.int .i64 fb) ∧ wx.cell? ⟨g7 + 1, 0, none⟩ = some (.int .i64 sa) ∧ wx.cell? ⟨g7 + 1, 1, none⟩ = some (.int .i64 sb) ∧ Below w4.heap.size w4 wx) → Below w.heap.size w wx) := fun wx hS => below_two HW4.out hS.2.2.2.2
    clear c70 c71 c80 c81 v5 v6 l7 l8 HX4 HY4 HW4 Hc
    go_region_held3 (fun wx => wx.cell? ⟨g7, 0, none⟩ = some (.int .i64 fa) ∧ wx.cell? ⟨g7, 1, none⟩ = some (.int .i64 fb) ∧ wx.cell? ⟨g7 + 1, 0, none⟩ = some (.int .i64 sa) ∧ wx.cell? ⟨g7 + 1, 1, none⟩ = some (.int .i64 sb) ∧ Below w4.heap.size w4 wx) (first | assumption | exact KA.out _ ((Below.refl _ _).drew)) (first
      | (go_at_call 48; (with_reducible refine (K1.out _ (by assumption)).mono ?_); rintro e w2 ⟨A_x, n_x, c_x, rfl, h_x, bn_x⟩; have hS2 := KS.out _ _ (by assumption) bn_x)
      | (go_at_call 48; (with_reducible refine (K2.out _ (by assumption)).mono ?_); rintro e w2 ⟨A_y, n_y, c_y, rfl, h_y, bn_y⟩; have hS2 := KS.out _ _ (by assumption) bn_y))
    all_goals
      have HX := Lib.hid (h_x.below bn_y)
      have HY := Lib.hid h_y
      have HW := Lib.hid (KF.out _ hS2)
      clear h_x h_y bn_x bn_y
      go_wp2
      go_ret2
      exact ⟨x, y, _, _, _, _, _, _, rfl, HX.out, HY.out, HP, HW.out⟩

end Go.Proofs.Ytbenkbgdahcaaaa
