/- What package quo's Gcd answers, as a contract over memory: the greatest divisor in common, in its shortest limbs. Conditions: both lists read as limbs, of at most 40000 of them. -/
import Derived.Test.YtbenkbgdahcaaaaQuoI
namespace Go.Proofs.Ytbenkbgdahcaaaa
open Go.RowKit Limb
set_option linter.unusedVariables false

theorem gcdN_comm (a b : Nat) : gcdN a b = gcdN b a := Nat.gcd_comm a b

set_option maxHeartbeats 1000000 in
theorem quoGcd_c {A A' : Option Addr} {n c n' c' : Nat} {xs ys : List Nat} {a b L L' : Nat} {w : World} (hx : NN w A n c xs a L) (hy : NN w A' n' c' ys b L') (h1 : L ≤ 40000) (h2 : L' ≤ 40000) (K : Nat) (hK : gcdN a b < 4294967296 ^ K) :
    Calls Try.prog 14 #[.slice A n c, .slice A' n' c'] w fun e w' => ∃ A2 n2 c2, e = .returned (.slice A2 n2 c2) ∧ NN w' A2 n2 c2 (limbs (gcdN a b)) (gcdN a b) K ∧ Below w.heap.size w w' := by
  have r1 := Nat.lt_of_lt_of_le (lt_pow hx) (Nat.pow_le_pow_right (show 0 < 4294967296 by decide) (Nat.le_add_right L L'))
  have r2 := Nat.lt_of_lt_of_le (lt_pow hy) (Nat.pow_le_pow_right (show 0 < 4294967296 by decide) (Nat.le_add_left L' L))
  obtain ⟨g, hg⟩ : ∃ g, gcdN a b = g := ⟨_, rfl⟩
  obtain ⟨M, hM⟩ : ∃ M, M = L + L' := ⟨_, rfl⟩
  have hM2 : M ≤ 80000 := by omega
  rw [← hM] at r1 r2
  rw [hg] at hK ⊢
  have R1 := Lib.hid r1
  have R2 := Lib.hid r2
  have HK := Lib.hid hK
  have Hg := Lib.hid hg
  clear r1 r2 hM hK hg
  go_enter Try.func14, Try.ntmps14
  go_wp2_with fail
  refine (trim_c hx (by omega)).mono ?_
  rintro e w1 ⟨A1, n1, c1, rfl, hx1, bn⟩
  have hy1 := hy.below bn
  have bw := bn
  clear hx hy bn
  go_wp2_with fail
  refine (trim_c hy1 (by omega)).mono ?_
  rintro e w2 ⟨A2, n2, c2, rfl, hy2, bn⟩
  have hx2 := (hx1.below bn).relax R1.out
  replace hy2 := hy2.relax R2.out
  replace bw := below_two bw bn
  clear bn hx1 hy1 R1 R2
  by_cases hlt : a < b
  case' pos =>
    have Hv := Lib.hid (cmpI_lt hlt)
    have Hr : RowKit.Hid (a ≤ b ∧ gcdN b a = g) := ⟨Nat.le_of_lt hlt, by rw [gcdN_comm]; exact Hg.out⟩
    clear hlt Hg
    go_wp2_with fail
    refine (cmp_c hx2 hy2 (by omega) (by omega) (-1) Hv.out).mono ?_
    rintro e w3 ⟨rfl, bn⟩
    have HX := Lib.hid (hy2.below bn)
    have HY := Lib.hid (hx2.below bn)
  case' neg =>
    obtain ⟨v, hv, hv0⟩ : ∃ v, cmpI a b = v ∧ 0 ≤ v := by
      rcases Nat.lt_trichotomy a b with h | h | h
      · exact absurd h hlt
      · exact ⟨0, by rw [h]; exact cmpI_eq _, by omega⟩
      · exact ⟨1, cmpI_gt h, by omega⟩
    have Hv := Lib.hid hv
    have Hr : RowKit.Hid (b ≤ a ∧ gcdN a b = g) := ⟨Nat.le_of_not_lt hlt, Hg.out⟩
    clear hlt hv Hg
    go_wp2_with fail
    refine (cmp_c hx2 hy2 (by omega) (by omega) v Hv.out).mono ?_
    rintro e w3 ⟨rfl, bn⟩
    have HX := Lib.hid (hx2.below bn)
    have HY := Lib.hid (hy2.below bn)
  all_goals
    have HW := Lib.hid (below_two bw bn)
    clear hx2 hy2 bn bw Hv
    go_wp2
    go_loopw [0, 1] (fun xv yv wr => ∃ (x y : Nat) (A1 : Option Addr) (n1 c1 : Nat) (A2 : Option Addr) (n2 c2 : Nat), xv = .slice A1 n1 c1 ∧ yv = .slice A2 n2 c2 ∧ RowKit.Hid (y ≤ x ∧ gcdN x y = g) ∧ RowKit.Hid (NN wr A1 n1 c1 (limbs x) x M) ∧ RowKit.Hid (NN wr A2 n2 c2 (limbs y) y M) ∧ RowKit.Hid (Below w.heap.size w wr)) (fun _ yv wr => readN wr yv)
    case atStart => exact ⟨_, _, _, _, _, _, _, _, rfl, rfl, Hr, HX, HY, HW⟩
    case round =>
      clear Hr HX HY HW
      obtain ⟨x, y, A1, n1, c1, A2, n2, c2, rfl, rfl, Hr, HX, HY, HW⟩ := hrel
      by_cases h0 : y = 0
      · subst h0
        have hn0 : n2 = 0 := by have := HY.out.isN.len; rw [limbs_zero] at this; exact this.symm
        subst hn0
        have HG := Lib.hid (gcdN_end Hr.out.2)
        go_wp2
        go_ret
        exact ⟨A1, n1, c1, rfl, by rw [← HG.out]; exact HX.out.relax (by rw [HG.out]; exact HK.out), HW.out⟩
      · have hpos : 0 < n2 := by
          have h := HY.out.isN.len
          rw [limbs_pos h0] at h
          simp at h
          omega
        have H0 := Lib.hid h0
        have hx := HX.out
        have hy := HY.out
        clear h0
        by_cases hn : 2 < n1
        · go_wp2_with fail
          refine (nearer_c hx hy (by omega) hn H0.out Hr.out.1).mono ?_
          rintro e w4 ⟨x', y', A3, n3, c3, A4, n4, c4, rfl, h3, h4, Hp, bn⟩
          have HX2 := Lib.hid h3
          have HY2 := Lib.hid h4
          have HW2 := Lib.hid (below_two HW.out bn)
          have HR2 : RowKit.Hid (y' ≤ x' ∧ gcdN x' y' = g) := ⟨Hp.out.2.1, Hp.out.2.2.trans Hr.out.2⟩
          have HM : RowKit.Hid (readN w4 (.slice A4 n4 c4) < readN wr (.slice A2 n2 c2)) := by
            show _ < _
            rw [readN_eq h4.isN, readN_eq hy.isN, val_limbs, val_limbs]
            exact Hp.out.1
          clear hx hy h3 h4 bn HX HY HW Hr Hp
          go_wp2
          go_roundw
          case rel => exact ⟨x', y', A3, n3, c3, A4, n4, c4, rfl, rfl, HR2, HX2, HY2, HW2⟩
          case measure => exact HM.out
        · have hx64 : x < 18446744073709551616 := by
            have h := val_lt hx.isN.small
            rw [hx.val, hx.isN.len] at h
            have h2 : 4294967296 ^ n1 ≤ 4294967296 ^ 2 := Nat.pow_le_pow_right (by decide) (by omega)
            exact Nat.lt_of_lt_of_le h h2
          have hy64 : y < 18446744073709551616 := Nat.lt_of_le_of_lt Hr.out.1 hx64
          have Hx1 : RowKit.Hid (val (limbs x) / 2 ^ 0 % 18446744073709551616 = x) := by show _ = _; rw [val_limbs, Nat.pow_zero, Nat.div_one, Nat.mod_eq_of_lt hx64]
          have Hy1 : RowKit.Hid (val (limbs y) / 2 ^ 0 % 18446744073709551616 = y) := by show _ = _; rw [val_limbs, Nat.pow_zero, Nat.div_one, Nat.mod_eq_of_lt hy64]
          have hg64 : g < 18446744073709551616 := by
            rw [← Hr.out.2]
            exact Nat.lt_of_le_of_lt (Nat.gcd_le_right _ (Nat.pos_of_ne_zero H0.out)) hy64
          have hl1 := hx.le
          have hl2 := hy.le
          have hn2 : n1 ≤ 2 := by omega
          clear HX HY hn
          go_wp2_with fail
          refine (head_any A1 n1 c1 (limbs x) wr hx.isN (by omega) 0 _ rfl (by omega) x Hx1.out).mono ?_
          rintro e w4 ⟨rfl, nd, rfl⟩
          have bn := below_drewN (Below.refl wr.heap.size wr) nd
          have hy3 := hy.below bn
          have bw := below_two HW.out bn
          clear bn hx hy
          generalize wr.drewN nd = w4 at *
          go_wp2_with fail
          refine (head_any A2 n2 c2 (limbs y) w4 hy3.isN (by omega) 0 _ rfl (by omega) y Hy1.out).mono ?_
          rintro e w5 ⟨rfl, nd, rfl⟩
          have bn := below_drewN (Below.refl w4.heap.size w4) nd
          replace bw := below_two bw bn
          clear bn hy3
          generalize w4.drewN nd = w5 at *
          go_wp2_with fail
          refine (gcdSmall_any x y _ _ rfl rfl w5 hx64 hy64 g Hr.out.2).mono ?_
          rintro e w6 ⟨rfl, bn⟩
          replace bw := below_two bw bn
          clear bn
          go_wp2_with fail
          refine (of_c g _ rfl hg64 w6).mono ?_
          rintro e w7 ⟨A7, n7, c7, rfl, ho, bn⟩
          have HO := Lib.hid (ho.relax HK.out)
          replace bw := below_two bw bn
          clear bn ho
          go_wp2
          go_ret
          exact ⟨_, _, _, rfl, HO.out, bw⟩

end Go.Proofs.Ytbenkbgdahcaaaa
