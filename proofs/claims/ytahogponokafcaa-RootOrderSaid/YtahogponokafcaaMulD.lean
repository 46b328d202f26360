/- What package mul's down answers, as a contract over memory: a number moved down by bits, in shortest limbs, in new memory. Conditions: the list reads as limbs, of at most 10^8 of them; moves of at most 8192 bits. -/
import Derived.Test.YtahogponokafcaaMulC
import Derived.RegionTactic
import Derived.BigRegion
import Derived.ChangeAlike
namespace Go.Proofs.Ytahogponokafcaa.Limb

/-- A limb of a number moved down by r bits, and the lowest bits of the next one. -/
def downLimb (ys : List Nat) (r j : Nat) : Nat := lim ys j / 2 ^ r ||| lim ys (j + 1) * 2 ^ (32 - r) % 4294967296

theorem downLimb_lt {ys : List Nat} (hy : Small ys) (r j : Nat) : downLimb ys r j < 4294967296 := by
  have h1 : lim ys j / 2 ^ r < 2 ^ 32 := Nat.lt_of_le_of_lt (Nat.div_le_self _ _) (lim_lt hy j)
  have h2 : lim ys (j + 1) * 2 ^ (32 - r) % 4294967296 < 2 ^ 32 := Nat.mod_lt _ (by decide)
  exact Nat.or_lt_two_pow h1 h2

theorem downLimb_last {ys : List Nat} (r j : Nat) (h : ys.length ≤ j + 1) : downLimb ys r j = lim ys j / 2 ^ r := by
  unfold downLimb; rw [lim_of_ge h]; simp

theorem val_down {ys zs : List Nat} {r : Nat} (hy : Small ys) (hz : Small zs) (hr : r < 32) (hl : zs.length = ys.length) (h : ∀ j, j < ys.length → lim zs j = downLimb ys r j) : val zs = val ys / 2 ^ r := by
  refine Nat.eq_of_testBit_eq fun i => ?_
  rw [testBit_lim zs hz, Nat.testBit_div_two_pow, testBit_lim ys hy]
  by_cases hj : i / 32 < ys.length
  · rw [h _ hj, downLimb, Nat.testBit_or, Nat.testBit_div_two_pow, show (4294967296 : Nat) = 2 ^ 32 from rfl, Nat.testBit_mod_two_pow, Nat.testBit_mul_two_pow]
    have hq : i % 32 < 32 := Nat.mod_lt _ (by decide)
    by_cases hc : i % 32 + r < 32
    · have e1 : (i + r) / 32 = i / 32 := by omega
      have e2 : (i + r) % 32 = i % 32 + r := by omega
      have e3 : ¬ (32 - r ≤ i % 32) := by omega
      rw [e1, e2]
      simp [e3]
    · have e1 : (i + r) / 32 = i / 32 + 1 := by omega
      have e2 : (i + r) % 32 = i % 32 - (32 - r) := by omega
      have e3 : 32 - r ≤ i % 32 := by omega
      have e4 : (lim ys (i / 32)).testBit (i % 32 + r) = false := Nat.testBit_lt_two_pow (Nat.lt_of_lt_of_le (lim_lt hy _) (by
        have : 2 ^ 32 ≤ 2 ^ (i % 32 + r) := Nat.pow_le_pow_right (by decide) (by omega)
        simpa using this))
      rw [e1, e2, e4]
      simp [e3, hq]
  · rw [lim_of_ge (by omega), lim_of_ge (xs := ys) (by omega)]
    simp

theorem val_drop {xs : List Nat} (hx : Small xs) (k : Nat) (hk : k ≤ xs.length) : val (xs.drop k) = val xs / 4294967296 ^ k := by
  have h1 := val_split xs k hk
  have h2 := val_lt (small_take hx k)
  rw [List.length_take, Nat.min_eq_left hk] at h2
  rw [h1, Nat.add_mul_div_left _ _ (Nat.pow_pos (by decide)), Nat.div_eq_of_lt h2, Nat.zero_add]

theorem div_move (a n : Nat) : a / 4294967296 ^ (n / 32) / 2 ^ (n % 32) = a / 2 ^ n := by
  rw [Nat.div_div_eq_div_mul, pow_move]

/-- So many limbs are moved down. -/
def DownInv (ys zs : List Nat) (r k : Nat) : Prop := zs.length = ys.length ∧ (∀ j, j < k → lim zs j = downLimb ys r j) ∧ ∀ j, k ≤ j → lim zs j = lim ys j

theorem DownInv.start (ys : List Nat) (r : Nat) : DownInv ys ys r 0 := ⟨rfl, fun j hj => by omega, fun _ _ => rfl⟩

theorem DownInv.step {ys zs : List Nat} {r k v : Nat} (h : DownInv ys zs r k) (hk : k < ys.length) (hv : v = downLimb ys r k) : DownInv ys (zs.set k v) r (k + 1) := by
  obtain ⟨h1, h2, h3⟩ := h
  refine ⟨by simpa using h1, fun j hj => ?_, fun j hj => by rw [lim_set_ne (by omega)]; exact h3 j (by omega)⟩
  by_cases e : j = k
  · subst e; rw [lim_set_self (by omega), hv]
  · rw [lim_set_ne (fun h => e h.symm)]; exact h2 j (by omega)

theorem set_set {zs : List Nat} {k u v : Nat} : (zs.set k u).set k v = zs.set k v := by simp

end Go.Proofs.Ytahogponokafcaa.Limb
namespace Go.Proofs.Ytahogponokafcaa
open Go.RowKit Limb
set_option linter.unusedVariables false

set_option maxHeartbeats 1000000 in
theorem mulDown_any (A : Option Addr) (n c : Nat) (xs : List Nat) (k : Nat) (V : Int) (hV : V = k) (w : World) (hx : IsN w A n xs) (hm : n ≤ 90000000) (hc : n ≤ c) (hk : k ≤ 8192) :
    Calls Try.prog 35 #[.slice A n c, .int .i64 V] w fun e w' => ∃ A2 n2 c2, e = .returned (.slice A2 n2 c2) ∧ OwnN w' w.heap.size A2 n2 c2 (limbs (val xs / 2 ^ k)) ∧ Below w.heap.size w w' := by
  subst hV
  obtain ⟨q, hq⟩ : ∃ q, q = k / 32 := ⟨_, rfl⟩
  obtain ⟨r, hr⟩ : ∃ r, r = k % 32 := ⟨_, rfl⟩
  have Hk : RowKit.Hid (val xs / 4294967296 ^ q / 2 ^ r = val xs / 2 ^ k) := by show _ = _; rw [hq, hr]; exact div_move _ _
  have eq1 : (k : Int) / 32 = (q : Int) := by omega
  have er1 : (k : Int) % 32 = (r : Int) := by omega
  have hr32 : r < 32 := by omega
  have hq3 : q ≤ 256 := by omega
  clear hq hr
  by_cases hqn : n ≤ q
  · have Hf : RowKit.Hid (limbs (val xs / 2 ^ k) = []) := by
      show _ = _
      have h1 := val_lt hx.small
      rw [hx.len] at h1
      have h2 : 4294967296 ^ n ≤ 4294967296 ^ q := Nat.pow_le_pow_right (by decide) hqn
      rw [← Hk.out, Nat.div_eq_of_lt (Nat.lt_of_lt_of_le h1 h2), Nat.zero_div, limbs_zero]
    go_enter Try.func35, Try.ntmps35
    go_wp2
    go_ret
    exact ⟨_, _, _, rfl, by rw [Hf.out]; exact OwnN.nil _ _, Below.refl _ _⟩
  · have hqn : q < n := by omega
    obtain ⟨m, hm2⟩ : ∃ m, m = n - q := ⟨_, rfl⟩
    have em : (n : Int) - (q : Int) = (m : Int) := by omega
    have em2 : n - q = m := hm2.symm
    have hm0 : 0 < m := by omega
    have hmn : m ≤ 90000000 := by omega
    have hmk2 := run_made (m : Int) m rfl (by omega)
    obtain ⟨b1, o1, rfl, hb1, hc1⟩ := hx.2.2 (by omega)
    have hsrc : IsN w (some ⟨b1, o1 + q, none⟩) m (xs.drop q) := by
      refine ⟨by rw [List.length_drop, hx.len]; omega, small_drop hx.small _, fun _ => ⟨b1, o1 + q, rfl, hb1, fun j hj => ?_⟩⟩
      rw [lim_drop, Nat.add_assoc]
      exact hc1 (q + j) (by omega)
    have b2 := below_new w (.cells (madeCells #[.int .u32 0] m) 30)
    have Hs := Lib.hid (own_made w m (by omega))
    have Hu := Lib.hid (hsrc.below b2)
    have Hb2 := Lib.hid b2
    have Hlen2 : RowKit.Hid (m ≤ m ∧ 0 + m ≤ m) := ⟨Nat.le_refl _, by omega⟩
    have Hvd : RowKit.Hid (val (xs.drop q) = val xs / 4294967296 ^ q) := val_drop hx.small q (by rw [hx.len]; omega)
    obtain ⟨ys, hys⟩ : ∃ ys, ys = xs.drop q := ⟨_, rfl⟩
    rw [← hys] at hsrc Hu Hvd
    have hyl := hsrc.len
    have hysm := hsrc.small
    have Hyl := Lib.hid hyl
    clear hys hsrc b2 hx hc1 hm2 hyl
    go_enter Try.func35, Try.ntmps35
    go_wp2_with (with_reducible refine wpList_copy_nat rfl (.tmp 20) (.tmp 23) rfl w.heap.size 0 m m (some ⟨b1, o1 + q, none⟩) m (c - q) rfl rfl w.heap.size m (List.replicate m 0) Hs ys Hu Hlen2 ?_)
    intro w3 Ho Hoth Hbel
    have Hb3 := Lib.hid (Hbel.out w Hb2.out)
    have Ho3 : RowKit.Hid (OwnN w3 w.heap.size (some ⟨w.heap.size, 0, none⟩) m m ys) := by
      have h := Ho.out
      have e2 : lay (List.replicate m 0) 0 ys = ys := by simp [lay, Hyl.out]
      rw [e2] at h
      exact h
    clear Hs Hu Hb2 Hoth Hbel Ho
    go_wp2
    go_loopw [29] (fun i wr => ∃ (j : Nat) (zs : List Nat), j ≤ m ∧ i = .int .i64 (j : Int) ∧ RowKit.Hid (DownInv ys zs r j) ∧ RowKit.Hid (OwnN wr w.heap.size (some ⟨w.heap.size, 0, none⟩) m m zs) ∧ RowKit.Hid (Below w.heap.size w wr)) (fun i _ => m - (intOf i).toNat)
    case atStart => exact ⟨0, ys, Nat.zero_le _, rfl, DownInv.start _ _, Ho3, Hb3⟩
    case round =>
      clear Ho3 Hb3
      obtain ⟨j, zs, hj, rfl, Hinv, Ho, Hb⟩ := hrel
      by_cases hjm : j < m
      · have hsz := Ho.out.small
        have l1 := lim_lt hsz j
        have l2 := lim_lt hsz (j + 1)
        have h2 := Ho.out.cell (k := j) (by omega)
        have h3 := Ho.out.1.frozenAt j
        obtain ⟨t, ht⟩ : ∃ t, t = lim zs j / 2 ^ r := ⟨_, rfl⟩
        have et : ((lim zs j : Nat) : Int) / 2 ^ r = (t : Int) := by rw [ht]; simp
        have htl : t < 4294967296 := by rw [ht]; exact Nat.lt_of_le_of_lt (Nat.div_le_self _ _) l1
        have Ho1 : RowKit.Hid (OwnN (wr.setCell ⟨w.heap.size, j, none⟩ (.int .u32 (t : Int))) w.heap.size (some ⟨w.heap.size, 0, none⟩) m m (zs.set j t)) := Ho.out.set j htl
        have Hb1 : RowKit.Hid (Below w.heap.size w (wr.setCell ⟨w.heap.size, j, none⟩ (.int .u32 (t : Int)))) := Hb.out.setCell (by exact Nat.le_refl _) _
        have Hz : RowKit.Hid (lim zs j = lim ys j ∧ lim zs (j + 1) = lim ys (j + 1) ∧ zs.length = m) := ⟨Hinv.out.2.2 j (Nat.le_refl _), Hinv.out.2.2 (j + 1) (by omega), Ho.out.len⟩
        have Ht := Lib.hid ht
        by_cases hlast : j + 1 < m
        · have c1 : (wr.setCell ⟨w.heap.size, j, none⟩ (.int .u32 (t : Int))).cell? ⟨w.heap.size, j, none⟩ = some (.int .u32 (t : Int)) := by
            have := Ho1.out.cell (k := j) (by omega)
            rwa [lim_set_self (by rw [Hz.out.2.2]; omega)] at this
          have c2 : (wr.setCell ⟨w.heap.size, j, none⟩ (.int .u32 (t : Int))).cell? ⟨w.heap.size, j + 1, none⟩ = some (.int .u32 ((lim zs (j + 1) : Nat) : Int)) := by
            have := Ho1.out.cell (k := j + 1) (by omega)
            rwa [lim_set_ne (by omega)] at this
          have f1 := Ho1.out.1.frozenAt j
          have hle : (((j : Int) + 1)) < (m : Int) := by omega
          obtain ⟨d, hd⟩ : ∃ d, d = downLimb ys r j := ⟨_, rfl⟩
          have hdl : d < 4294967296 := by rw [hd]; exact downLimb_lt hysm _ _
          have Hbits : RowKit.Hid (bits BinOp.or IntKind.u32 (t : Int) (((lim zs (j + 1) : Nat) : Int) * 2 ^ (32 - r) % 4294967296) = (d : Int)) := by
            have e1 : (((lim zs (j + 1) : Nat) : Int) * 2 ^ (32 - r) % 4294967296) = ((lim zs (j + 1) * 2 ^ (32 - r) % 4294967296 : Nat) : Int) := by
              rw [Int.natCast_emod, Int.natCast_mul, Int.natCast_pow]; rfl
            show _ = _
            rw [e1, u32_or_nat _ _ htl (Nat.mod_lt _ (by decide)), hd, downLimb, ht, Hz.out.1, Hz.out.2.1]
          have Hst : RowKit.Hid (DownInv ys (zs.set j d) r (j + 1)) := Hinv.out.step (by rw [Hyl.out]; exact hjm) hd
          clear ht hd
          go_wp2
          clear h2 h3 et Ho Hb
          generalize wr.setCell ⟨w.heap.size, j, none⟩ (.int .u32 (t : Int)) = W1 at *
          go_region
          rw [Hbits.out]
          have Ho2 : RowKit.Hid (OwnN (W1.setCell ⟨w.heap.size, j, none⟩ (.int .u32 (d : Int))).drew w.heap.size (some ⟨w.heap.size, 0, none⟩) m m (zs.set j d)) := by
            have h := Ho1.out.set j hdl
            rw [set_set] at h
            exact h.below (C := _) (Below.refl _ _).drew (Nat.le_refl _)
          have Hb2 : RowKit.Hid (Below w.heap.size w (W1.setCell ⟨w.heap.size, j, none⟩ (.int .u32 (d : Int))).drew) := (Hb1.out.setCell (by exact Nat.le_refl _) _).drew
          clear Ho1 Hb1 c1 c2 f1 Hbits
          go_wp2
          go_roundw
          case rel => exact ⟨j + 1, zs.set j d, by omega, by go_num, Hst, Ho2, Hb2⟩
          case measure => simp [intOf]; omega
        · have Hst : RowKit.Hid (DownInv ys (zs.set j t) r (j + 1)) := Hinv.out.step (by rw [Hyl.out]; exact hjm) (by rw [downLimb_last _ _ (by rw [Hyl.out]; omega), ht, Hz.out.1])
          have hle : (m : Int) ≤ ((j : Int) + 1) := by omega
          clear ht
          go_wp2
          go_roundw
          case rel => exact ⟨j + 1, zs.set j t, by omega, by go_num, Hst, Ho1, Hb1⟩
          case measure => simp [intOf]; omega
      · obtain rfl : j = m := by omega
        have hz := Ho.out.isN
        have hzl := Ho.out.len
        have ht := trim_len_le zs
        have how2 := Ho.out.take (m := (trim zs).length) (by omega)
        rw [← trim_take zs] at how2
        have Hf : RowKit.Hid (trim zs = limbs (val xs / 2 ^ k)) := by
          show _ = _
          rw [trim_eq_limbs Ho.out.small, val_down hysm Ho.out.small hr32 (by rw [hzl, Hyl.out]) (fun i hi => Hinv.out.2.1 i (by rw [← Hyl.out]; exact hi)), Hvd.out, Hk.out]
        clear hzl
        go_wp2_with fail
        refine (mulCut_any _ _ _ zs _ hz (Nat.le_refl _) (by omega)).mono ?_
        rintro e w3 ⟨rfl, rfl⟩
        go_wp2
        go_ret
        refine ⟨_, (trim zs).length, _, rfl, ?_, Hb.out⟩
        rw [← Hf.out]
        exact how2

end Go.Proofs.Ytahogponokafcaa
