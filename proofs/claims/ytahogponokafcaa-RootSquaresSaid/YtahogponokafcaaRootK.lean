/- What package root's functions answer, as contracts over memory: the greatest number whose square is not above, whether its square is the number, the least number whose square is not below, in shortest limbs. Conditions: the list reads as limbs, of at most 5*10^4 of them. -/
import Derived.Test.YtahogponokafcaaRootU
import Derived.Test.YtahogponokafcaaQuoE
import Derived.Test.YtahogponokafcaaRefQuoG
namespace Go.Proofs.Ytahogponokafcaa.Limb

theorem rootN_pos {a : Nat} (h : a ≠ 0) : 0 < rootN a := by
  have h1 := rootN_gt a
  rcases Nat.eq_zero_or_pos (rootN a) with e | e
  · rw [e] at h1; omega
  · exact e

theorem twice_le {r g a : Nat} (hg : 0 < g) (h : r * r ≤ a) : 2 * r ≤ g + a / g := by
  by_cases hle : 2 * r ≤ g
  · exact Nat.le_trans hle (Nat.le_add_right _ _)
  · obtain ⟨d, hd⟩ : ∃ d, 2 * r = g + d := ⟨2 * r - g, by omega⟩
    have hk : d ≤ a / g := by
      rw [Nat.le_div_iff_mul_le hg]
      refine Nat.le_trans ?_ h
      rcases Nat.le_total g d with e | e
      · obtain ⟨f, rfl⟩ : ∃ f, d = g + 2 * f := ⟨(d - g) / 2, by omega⟩
        obtain rfl : r = g + f := by omega
        have : (g + f) * (g + f) = (g + 2 * f) * g + f * f := by grind
        omega
      · obtain ⟨f, rfl⟩ : ∃ f, g = d + 2 * f := ⟨(g - d) / 2, by omega⟩
        obtain rfl : r = d + f := by omega
        have : (d + f) * (d + f) = d * (d + 2 * f) + f * f := by grind
        omega
    omega

/-- Newton's next guess is not below the root. -/
theorem half_ge {a g : Nat} (hg : 0 < g) : rootN a ≤ (g + a / g) / 2 := by
  have := twice_le hg (rootN_le a)
  omega

/-- A guess not below the root whose square is not above the number is the root. -/
theorem stop_root {a g : Nat} (hg : 0 < g) (h1 : rootN a ≤ g) (h2 : g ≤ a / g) : g = rootN a := by
  have h3 : g * g ≤ a := (Nat.le_div_iff_mul_le hg).1 h2
  have h4 := sq_lt (Nat.lt_of_le_of_lt h3 (rootN_gt a))
  omega

/-- The first guess for few limbs. -/
theorem guess_ge {a e : Nat} (h : blen a ≤ 2 * e) : rootN a ≤ 2 ^ e := by
  have h1 : a < 2 ^ e * 2 ^ e := by
    rw [← Nat.pow_add]
    exact Nat.lt_of_lt_of_le (blen_lt a) (Nat.pow_le_pow_right (by decide) (by omega))
  exact Nat.le_of_lt (sq_lt (Nat.lt_of_le_of_lt (rootN_le a) h1))

/-- The first guess of the root of the higher limbs. -/
theorem guess_top {a d t : Nat} (h : d = t * t) (ht : 0 < t) : rootN a ≤ t * (rootN (a / d) + 1) := by
  have h1 := rootN_gt (a / d)
  have hd : 0 < d := by rw [h]; exact Nat.mul_pos ht ht
  have h2 : a < (rootN (a / d) + 1) * (rootN (a / d) + 1) * d := (Nat.div_lt_iff_lt_mul hd).1 h1
  refine Nat.le_of_lt (sq_lt (Nat.lt_of_le_of_lt (rootN_le a) (Nat.lt_of_lt_of_eq h2 ?_)))
  rw [h]; grind

end Go.Proofs.Ytahogponokafcaa.Limb
namespace Go.Proofs.Ytahogponokafcaa
open Go.RowKit Limb
set_option linter.unusedVariables false

theorem square_same {a g : Nat} (h : g = rootN a) (h1 : a / g = g) : squareN a = decide (a % g = 0) := by
  have h2 := Nat.div_add_mod a g
  rw [h1] at h2
  by_cases h0 : a % g = 0
  · rw [squareN_yes (by rw [← h]; omega)]; simp [h0]
  · rw [squareN_no (by rw [← h]; omega)]; simp [h0]

theorem square_over {a g : Nat} (h : g = rootN a) (hg : 0 < g) (h1 : g < a / g) : squareN a = false := by
  refine squareN_no fun e => ?_
  rw [← h] at e
  have : a / g = g := by rw [← e]; exact Nat.mul_div_cancel _ hg
  omega

set_option maxHeartbeats 1000000 in
theorem descend_any {A A' : Option Addr} {n c n' c' : Nat} {xs : List Nat} {a g0 L M : Nat} {w : World} (hx : NN w A n c xs a L) (hy : NN w A' n' c' (limbs g0) g0 M) (h1 : L ≤ 90000) (h2 : M ≤ 90000) (hr : rootN a ≤ g0) (h0 : a ≠ 0) :
    Calls Try.prog 21 #[.slice A n c, .slice A' n' c'] w fun e w' => ∃ A2 n2 c2, e = .returned (.tuple #[.slice A2 n2 c2, .bool (squareN a)]) ∧ NN w' A2 n2 c2 (limbs (rootN a)) (rootN a) L ∧ Below w.heap.size w w' := by
  have HL : RowKit.Hid (rootN a < 4294967296 ^ L) := Nat.lt_of_le_of_lt (rootN_le_self a) (lt_pow hx)
  have HP := Lib.hid (rootN_pos h0)
  have HR := Lib.hid hr
  have HX := Lib.hid hx
  have HY := Lib.hid hy
  have HW := Lib.hid (Below.refl w.heap.size w)
  clear hx hy hr h0
  go_enter Try.func21, Try.ntmps21
  go_wp2
  go_loopw [1] (fun gv wr => ∃ (g : Nat) (A1 : Option Addr) (n1 c1 : Nat), gv = .slice A1 n1 c1 ∧ RowKit.Hid (rootN a ≤ g) ∧ RowKit.Hid (NN wr A1 n1 c1 (limbs g) g M) ∧ RowKit.Hid (NN wr A n c xs a L) ∧ RowKit.Hid (Below w.heap.size w wr)) (fun gv wr => readN wr gv)
  case atStart => exact ⟨g0, _, _, _, rfl, HR, HY, HX, HW⟩
  case round =>
    clear HR HY HX HW
    obtain ⟨g, A1, n1, c1, rfl, HR, HY, HX, HW⟩ := hrel
    have hg0 : g ≠ 0 := by have h3 := HP.out; have h4 := HR.out; omega
    have Hg0 := Lib.hid (Nat.pos_of_ne_zero hg0)
    have hx := HX.out
    have hy := HY.out
    obtain ⟨o, ho⟩ : ∃ o, a / g = o := ⟨_, rfl⟩
    obtain ⟨r, hr⟩ : ∃ r, a % g = r := ⟨_, rfl⟩
    have HD := quoRem_yes hx hy (by omega) (by omega) hg0
    rw [ho, hr] at HD
    replace HD := Lib.hid HD
    have Ho := Lib.hid ho
    have Hr := Lib.hid hr
    clear hg0 ho hr
    go_wp2_with fail
    refine HD.out.mono ?_
    rintro e w2 ⟨A2, n2, c2, A3, n3, c3, rfl, hq, hl, bn⟩
    have hx2 := Lib.hid (hx.below bn)
    have hy2 := hy.below bn
    have HN := Lib.hid hy.isN
    have bw := below_two HW.out bn
    have hl3 := hl.isN.len
    have hl4 := hl.le
    have HL3 := Lib.hid hl3
    clear hx hy bn HX HY HW HD hl hl3
    by_cases hlt : o < g
    · have Hv := Lib.hid (cmpI_lt hlt)
      obtain ⟨t, ht⟩ : ∃ t, (g + o) / 2 = t := ⟨_, rfl⟩
      have Hsh : RowKit.Hid (shiftV (g + o) (-1) = t) := by
        show _ = _
        rw [shiftV_down (k := 1) (by omega) (by omega) (by omega), Nat.pow_one, ht]
      have htg : t < g := by omega
      have Htm : RowKit.Hid (t < 4294967296 ^ M) := Nat.lt_trans htg (lt_pow hy2)
      have Htr : RowKit.Hid (rootN a ≤ t) := by
        have h := half_ge (a := a) Hg0.out
        rw [Ho.out, ht] at h
        exact h
      have Htg := Lib.hid htg
      clear hlt ht htg
      go_wp2_with fail
      refine (cmp_c hq hy2 (by omega) (by omega) (-1) Hv.out).mono ?_
      rintro e w3 ⟨rfl, bn⟩
      replace hq := hq.below bn
      replace hy2 := hy2.below bn
      replace hx2 := Lib.hid (hx2.out.below bn)
      replace bw := below_two bw bn
      clear bn
      go_wp2_with fail
      refine (add_c hy2 hq (L + M + 1) (by omega) (by omega) (by omega)).mono ?_
      rintro e w4 ⟨A4, n4, c4, rfl, hs, bn⟩
      replace hx2 := Lib.hid (hx2.out.below bn)
      replace bw := below_two bw bn
      clear bn hq hy2
      go_wp2_with fail
      refine (mulShift_c hs (-1) (by decide) (by decide) t M Hsh.out Htm.out (by omega)).mono ?_
      rintro e w5 ⟨A5, n5, c5, rfl, ht, bn⟩
      have HM : RowKit.Hid (readN w5 (.slice A5 n5 c5) < readN wr (.slice A1 n1 c1)) := by
        show _ < _
        rw [readN_eq ht.isN, readN_eq HN.out, val_limbs, val_limbs]
        exact Htg.out
      replace hx2 := Lib.hid (hx2.out.below bn)
      have HT := Lib.hid ht
      have HW := Lib.hid (below_two bw bn)
      clear bn bw hs ht
      go_wp2
      go_roundw
      case rel => exact ⟨t, A5, n5, c5, rfl, Htr, HT, hx2, HW⟩
      case measure => exact HM.out
    · have hge : g ≤ o := Nat.le_of_not_lt hlt
      have Hgr : RowKit.Hid (g = rootN a) := stop_root Hg0.out HR.out (by rw [Ho.out]; exact hge)
      by_cases heq : o = g
      · have Hv := Lib.hid (cmpI_same heq)
        have Hs : RowKit.Hid (squareN a = decide (r = 0)) := by
          show _ = _
          rw [square_same Hgr.out (by rw [Ho.out]; exact heq), Hr.out]
        clear hlt hge heq
        go_wp2_with fail
        refine (cmp_c hq hy2 (by omega) (by omega) 0 Hv.out).mono ?_
        rintro e w3 ⟨rfl, bn⟩
        have HY2 := Lib.hid (hy2.below bn)
        have HW := Lib.hid (below_two bw bn)
        clear bn bw hy2 hq
        by_cases hr0 : r = 0
        · have hn3 : n3 = 0 := by have h := HL3.out; rw [hr0, limbs_zero] at h; exact h.symm
          subst hn3
          have Hs2 : RowKit.Hid (squareN a = true) := by show _ = _; rw [Hs.out, hr0]; rfl
          clear hr0
          go_wp2
          go_ret2
          exact ⟨A1, n1, c1, by rw [Hs2.out]; rfl, by rw [← Hgr.out]; exact HY2.out.relax (by rw [Hgr.out]; exact HL.out), HW.out⟩
        · have hn3 : 0 < n3 := by have h := HL3.out; rw [limbs_pos hr0] at h; simp at h; omega
          have hn3e : ((n3 : Int) == 0) = false := by simp; omega
          have Hs2 : RowKit.Hid (squareN a = false) := by show _ = _; rw [Hs.out]; simp [hr0]
          clear hr0
          go_wp2
          go_ret2
          exact ⟨A1, n1, c1, by rw [Hs2.out]; rfl, by rw [← Hgr.out]; exact HY2.out.relax (by rw [Hgr.out]; exact HL.out), HW.out⟩
      · have Hv := Lib.hid (cmpI_gt (show g < o by omega))
        have Hs2 : RowKit.Hid (squareN a = false) := square_over Hgr.out Hg0.out (by rw [Ho.out]; omega)
        clear hlt hge heq
        go_wp2_with fail
        refine (cmp_c hq hy2 (by omega) (by omega) 1 Hv.out).mono ?_
        rintro e w3 ⟨rfl, bn⟩
        have HY2 := Lib.hid (hy2.below bn)
        have HW := Lib.hid (below_two bw bn)
        clear bn bw hy2 hq
        go_wp2
        go_ret2
        exact ⟨A1, n1, c1, by rw [Hs2.out]; rfl, by rw [← Hgr.out]; exact HY2.out.relax (by rw [Hgr.out]; exact HL.out), HW.out⟩

theorem rootMore_c {A : Option Addr} {n c : Nat} {xs : List Nat} {a L : Nat} {w : World} (hx : NN w A n c xs a L) (K : Nat) (h1 : L < K) (h2 : 2 < K) (h3 : K ≤ 100000) :
    Calls Try.prog 28 #[.slice A n c] w fun e w' => ∃ A2 n2 c2, e = .returned (.slice A2 n2 c2) ∧ NN w' A2 n2 c2 (limbs (a + 1)) (a + 1) K ∧ Below w.heap.size w w' := by
  go_enter Try.func28, Try.ntmps28
  go_wp2_with fail
  refine (of_c 1 1 rfl (by decide) w).mono ?_
  rintro e w1 ⟨A1, n1, c1, rfl, ho, bn⟩
  have hx1 := hx.below bn
  have bw := bn
  clear bn hx
  go_wp2_with fail
  refine (add_c hx1 ho K h1 h2 (by omega)).mono ?_
  rintro e w2 ⟨A2, n2, c2, rfl, hs, bn⟩
  have HR := Lib.hid hs
  have HW := Lib.hid (below_two bw bn)
  clear hs bn bw hx1 ho
  go_wp2
  go_ret
  exact ⟨_, _, _, rfl, HR.out, HW.out⟩

set_option maxHeartbeats 1000000 in
theorem ahead_c {A : Option Addr} {n c : Nat} {a L : Nat} {w : World} (hx : NN w A n c (limbs a) a L) (h0 : a ≠ 0) (q : Nat) (K : Nat) (hq : q + L ≤ K) (hK : K ≤ 100000) :
    Calls Try.prog 39 #[.slice A n c, .int .i64 (q : Int)] w fun e w' => ∃ A2 n2 c2, e = .returned (.slice A2 n2 c2) ∧ NN w' A2 n2 c2 (limbs (4294967296 ^ q * a)) (4294967296 ^ q * a) K ∧ Below w.heap.size w w' := by
  have hle := hx.le
  have hcap := hx.cap
  have Hf := Lib.hid (zeros_limbs q a h0)
  have hpos : 0 < n := by
    have h := hx.isN.len
    rw [limbs_pos h0] at h
    simp at h
    omega
  have hmk := run_made ((q : Int) + (n : Int)) (q + n) (by omega) (by omega)
  have b2 := below_new w (.cells (madeCells #[.int .u32 0] (q + n)) 30)
  have Hs := Lib.hid (own_made w (q + n) (by omega))
  have Hu := Lib.hid (hx.isN.below b2)
  have Hul := Lib.hid hx.isN.len
  have Hb2 := Lib.hid b2
  have Hlen2 : RowKit.Hid (n ≤ n ∧ q + n ≤ q + n) := ⟨Nat.le_refl _, Nat.le_refl _⟩
  clear hx b2 h0
  go_enter Try.func39, Try.ntmps39
  go_wp2_with (with_reducible refine wpList_copy_nat rfl (.tmp 13) (.tmp 14) rfl w.heap.size q n n A n c rfl rfl w.heap.size (q + n) (List.replicate (q + n) 0) Hs (limbs a) Hu Hlen2 ?_)
  intro w3 Ho Hoth Hbel
  have Hb3 := Lib.hid (Hbel.out w Hb2.out)
  have Ho3 : RowKit.Hid (NN w3 (some ⟨w.heap.size, 0, none⟩) (q + n) (q + n) (limbs (4294967296 ^ q * a)) (4294967296 ^ q * a) K) := by
    have h := Ho.out.isN
    have e2 : lay (List.replicate (q + n) 0) q (limbs a) = List.replicate q 0 ++ limbs a := by
      have := lay_zeros q (limbs a)
      rwa [Hul.out] at this
    rw [e2, Hf.out] at h
    exact ⟨h, val_limbs _, Nat.le_refl _, by omega⟩
  clear Hs Hu Hul Hb2 Hoth Hbel Ho Hf
  go_wp2
  go_ret
  exact ⟨_, _, _, rfl, Ho3.out, Hb3.out⟩

/-- What Floor is asked to answer, for lists of at most k limbs. -/
def FloorOk (k : Nat) : Prop := ∀ {A : Option Addr} {n c : Nat} {xs : List Nat} {a : Nat} {w : World}, NN w A n c xs a k →
    Calls Try.prog 8 #[.slice A n c] w fun e w' => ∃ A2 n2 c2, e = .returned (.tuple #[.slice A2 n2 c2, .bool (squareN a)]) ∧ NN w' A2 n2 c2 (limbs (rootN a)) (rootN a) k ∧ Below w.heap.size w w'

theorem NN.tail {w : World} {A : Option Addr} {n c a L : Nat} {xs : List Nat} (h : NN w A n c xs a L) (k m : Nat) (hk : k + m = n) (hm : 0 < m) : ∃ b o, A = some ⟨b, o, none⟩ ∧ NN w (some ⟨b, o + k, none⟩) m (c - k) (xs.drop k) (a / 4294967296 ^ k) m := by
  obtain ⟨b, o, rfl, hb, hc⟩ := h.isN.2.2 (by omega)
  have hl := h.isN.len
  refine ⟨b, o, rfl, ⟨by rw [List.length_drop]; omega, small_drop h.isN.small _, fun _ => ⟨b, o + k, rfl, hb, fun j hj => ?_⟩⟩, ?_, by have := h.cap; omega, Nat.le_refl _⟩
  · rw [lim_drop, Nat.add_assoc]
    exact hc (k + j) (by omega)
  · rw [val_drop h.isN.small k (by omega), h.val]

set_option maxHeartbeats 1000000 in
theorem above_c {A : Option Addr} {n c a : Nat} {w : World} (hx : NN w A n c (limbs a) a n) (h1 : n ≤ 50000) (h0 : a ≠ 0) (hF : ∀ k, k < n → FloorOk k) :
    Calls Try.prog 22 #[.slice A n c] w fun e w' => ∃ A2 n2 c2 g, e = .returned (.slice A2 n2 c2) ∧ NN w' A2 n2 c2 (limbs g) g (n + 4) ∧ rootN a ≤ g ∧ Below w.heap.size w w' := by
  by_cases hn : n ≤ 2
  · have hb := blen_NN hx
    obtain ⟨b, hb2⟩ : ∃ b, b = blen a := ⟨_, rfl⟩
    obtain ⟨e, he⟩ : ∃ e, (b + 1) / 2 = e := ⟨_, rfl⟩
    have ee : ((b : Int) + 1) / 2 = (e : Int) := by omega
    have he32 : e ≤ 32 := by omega
    have Hg : RowKit.Hid (rootN a ≤ 2 ^ e) := guess_ge (by omega)
    have Hv := Lib.hid (show ((blen a : Nat) : Int) = (b : Int) by rw [hb2])
    have hb64 : b ≤ 64 := by omega
    clear hb hb2 he
    go_enter Try.func22, Try.ntmps22
    go_wp2_with fail
    refine (bits_c hx (by omega) (b : Int) Hv.out).mono ?_
    rintro e1 w1 ⟨rfl, rfl⟩
    have Hw : RowKit.Hid (IntKind.u64.wrap ((2 : Int) ^ e) = ((2 ^ e : Nat) : Int) ∧ 2 ^ e < 18446744073709551616) := by
      have h2 : 2 ^ e ≤ 2 ^ 32 := Nat.pow_le_pow_right (by decide) he32
      have e2 : (2 : Int) ^ e = ((2 ^ e : Nat) : Int) := by rw [Int.natCast_pow]; rfl
      have h3 : 2 ^ e < 18446744073709551616 := Nat.lt_of_le_of_lt h2 (by decide)
      show _ ∧ _
      refine ⟨?_, h3⟩
      rw [e2, IntKind.wrap_u64]
      clear h2 e2
      generalize 2 ^ e = t at h3 ⊢
      omega
    have HX := Lib.hid hx
    go_wp2_with fail
    refine (of_c (2 ^ e) _ Hw.out.1 Hw.out.2 w).mono ?_
    rintro e1 w1 ⟨A1, n1, c1, rfl, ho, bn⟩
    have HR := Lib.hid ho
    have HW := Lib.hid bn
    clear ho bn Hw
    go_wp2
    go_ret
    exact ⟨_, _, _, 2 ^ e, rfl, ⟨HR.out.isN, HR.out.val, HR.out.cap, by have := HR.out.le; omega⟩, Hg.out, HW.out⟩
  · obtain ⟨q, hq⟩ : ∃ q, (n + 1) / 4 = q := ⟨_, rfl⟩
    obtain ⟨k, hk⟩ : ∃ k, 2 * q = k := ⟨_, rfl⟩
    obtain ⟨m, hm⟩ : ∃ m, k + m = n := ⟨n - k, by omega⟩
    have eq1 : ((n : Int) + 1) / 4 = (q : Int) := by omega
    have ek : 2 * (q : Int) = (k : Int) := by omega
    have em : (n : Int) - (k : Int) = (m : Int) := by omega
    have em2 : n - k = m := by omega
    have hm0 : 0 < m := by omega
    have hmn : m < n := by omega
    have hkn : k ≤ n := by omega
    have hcap := hx.cap
    obtain ⟨b, o, rfl, ht⟩ := hx.tail k m hm hm0
    have HF := Lib.hid (hF m hmn ht)
    have Hg : RowKit.Hid (rootN a ≤ 4294967296 ^ q * (rootN (a / 4294967296 ^ k) + 1)) := guess_top (by rw [← Nat.pow_add]; congr 1; omega) (Nat.pow_pos (by decide))
    obtain ⟨r, hr⟩ : ∃ r, rootN (a / 4294967296 ^ k) = r := ⟨_, rfl⟩
    obtain ⟨x, hx2⟩ : ∃ x, squareN (a / 4294967296 ^ k) = x := ⟨_, rfl⟩
    rw [hr] at HF Hg
    rw [hx2] at HF
    have hqm : q + (m + 3) ≤ n + 4 := by omega
    clear hx ht hr hx2 hF hm hq hk
    go_enter Try.func22, Try.ntmps22
    go_wp2_with fail
    refine HF.out.mono ?_
    rintro e1 w1 ⟨A1, n1, c1, rfl, hr, bn⟩
    have bw := bn
    clear bn HF
    go_wp2_with fail
    refine (rootMore_c hr (m + 3) (by omega) (by omega) (by omega)).mono ?_
    rintro e2 w2 ⟨A2, n2, c2, rfl, hs, bn⟩
    replace bw := below_two bw bn
    clear bn hr
    go_wp2_with fail
    refine (ahead_c hs (Nat.succ_ne_zero r) q (n + 4) hqm (by omega)).mono ?_
    rintro e3 w3 ⟨A3, n3, c3, rfl, hh, bn⟩
    have HR := Lib.hid hh
    have HW := Lib.hid (below_two bw bn)
    clear hs hh bn bw
    go_wp2
    go_ret
    exact ⟨_, _, _, _, rfl, HR.out, Hg.out, HW.out⟩

theorem rootFloor_k : ∀ k, k ≤ 50000 → FloorOk k := by
  intro k
  induction k using Nat.strongRecOn with
  | _ k ih =>
    intro hk A n c xs a w hx
    have HIH : RowKit.Hid (∀ j, j < k → FloorOk j) := fun j hj => ih j hj (by omega)
    clear ih
    go_enter Try.func8, Try.ntmps8
    go_wp2_with fail
    refine (trim_c hx (by omega)).mono ?_
    rintro e w1 ⟨A1, n1, c1, rfl, hx1, bn⟩
    have bw := bn
    clear hx bn
    by_cases h0 : a = 0
    · subst h0
      have hn0 : n1 = 0 := by have := hx1.isN.len; rw [limbs_zero] at this; exact this.symm
      subst hn0
      have HW := Lib.hid bw
      clear bw hx1 HIH
      go_wp2
      go_ret2
      refine ⟨none, 0, 0, rfl, ?_, HW.out⟩
      have e0 : rootN 0 = 0 := rfl
      rw [e0, limbs_zero]
      exact ⟨IsN.nil _ _, rfl, Nat.zero_le _, Nat.zero_le _⟩
    · have hpos : 0 < n1 := by
        have h := hx1.isN.len
        rw [limbs_pos h0] at h
        simp at h
        omega
      have hne : ((n1 : Int) == 0) = false := by simp; omega
      have hle := hx1.le
      have hxn : NN w1 A1 n1 c1 (limbs a) a n1 := ⟨hx1.isN, hx1.val, hx1.cap, Nat.le_refl _⟩
      have HL : RowKit.Hid (rootN a < 4294967296 ^ k) := Nat.lt_of_le_of_lt (rootN_le_self a) (lt_pow hx1)
      have H0 := Lib.hid h0
      clear h0 hx1
      go_wp2_with fail
      refine (above_c hxn (by omega) H0.out (fun j hj => HIH.out j (by omega))).mono ?_
      rintro e w2 ⟨A2, n2, c2, g, rfl, hg, hge, bn⟩
      have hx2 := hxn.below bn
      have Hge := Lib.hid hge
      replace bw := below_two bw bn
      clear bn hxn hge HIH
      go_wp2_with fail
      refine (descend_any hx2 hg (by omega) (by omega) Hge.out H0.out).mono ?_
      rintro e w3 ⟨A3, n3, c3, rfl, hr, bn⟩
      have HR := Lib.hid (hr.relax HL.out)
      have HW := Lib.hid (below_two bw bn)
      clear bn bw hr hg hx2
      go_wp2
      go_ret2
      exact ⟨_, _, _, rfl, HR.out, HW.out⟩

theorem rootFloor_c {A : Option Addr} {n c : Nat} {xs : List Nat} {a L : Nat} {w : World} (hx : NN w A n c xs a L) (h1 : L ≤ 50000) (v : Bool) (hv : squareN a = v) :
    Calls Try.prog 8 #[.slice A n c] w fun e w' => ∃ A2 n2 c2, e = .returned (.tuple #[.slice A2 n2 c2, .bool v]) ∧ NN w' A2 n2 c2 (limbs (rootN a)) (rootN a) L ∧ Below w.heap.size w w' := by
  subst hv
  exact rootFloor_k L h1 hx

theorem rootCeil_c {A : Option Addr} {n c : Nat} {xs : List Nat} {a L : Nat} {w : World} (hx : NN w A n c xs a L) (h1 : L ≤ 50000) :
    Calls Try.prog 13 #[.slice A n c] w fun e w' => ∃ A2 n2 c2, e = .returned (.slice A2 n2 c2) ∧ NN w' A2 n2 c2 (limbs (ceilN a)) (ceilN a) L ∧ Below w.heap.size w w' := by
  have HL : RowKit.Hid (ceilN a < 4294967296 ^ L) := Nat.lt_of_le_of_lt (ceilN_le_self a) (lt_pow hx)
  by_cases he : rootN a * rootN a = a
  · have He := Lib.hid (ceilN_yes he)
    have Hs := Lib.hid (squareN_yes he)
    clear he
    go_enter Try.func13, Try.ntmps13
    go_wp2_with fail
    refine (rootFloor_c hx h1 true Hs.out).mono ?_
    rintro e w1 ⟨A1, n1, c1, rfl, hr, bn⟩
    rw [← He.out] at hr
    have HW := Lib.hid bn
    have HR := Lib.hid hr
    clear hr bn hx
    go_wp2
    go_ret
    exact ⟨_, _, _, rfl, HR.out, HW.out⟩
  · have He := Lib.hid (ceilN_no he)
    have Hs := Lib.hid (squareN_no he)
    clear he
    go_enter Try.func13, Try.ntmps13
    go_wp2_with fail
    refine (rootFloor_c hx h1 false Hs.out).mono ?_
    rintro e w1 ⟨A1, n1, c1, rfl, hr, bn⟩
    have bw := bn
    clear hx bn
    go_wp2_with fail
    refine (rootMore_c hr (L + 3) (by omega) (by omega) (by omega)).mono ?_
    rintro e w2 ⟨A3, n3, c3, rfl, hs, bn⟩
    rw [← He.out] at hs
    have HR := Lib.hid (hs.relax HL.out)
    have HW := Lib.hid (below_two bw bn)
    clear hs bn bw hr
    go_wp2
    go_ret
    exact ⟨_, _, _, rfl, HR.out, HW.out⟩

end Go.Proofs.Ytahogponokafcaa
