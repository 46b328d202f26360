/- Of any list of limbs: the number is the sum of 2 to the i of all its bits; moved up by a limb, and a limb added, it has the bits of both. No condition. -/
import Derived.Test.YthcacnlajfidoaaOpen
import Derived.Test.YthcacnlajfidoaaNatW
namespace Go.Proofs.Ythcacnlajfidoaa.lawNatBits
open Go.ChangeShapes Go.WideShapes Go.ChangeAt Go.RowKit Limb
set_option linter.unusedVariables false

theorem mod_step (a i : Nat) : a % 2 ^ (i + 1) = a % 2 ^ i + if a.testBit i then 2 ^ i else 0 := by
  rw [Nat.pow_succ, Nat.mod_mul, Nat.testBit_eq_decide_div_mod_eq]
  rcases Nat.mod_two_eq_zero_or_one (a / 2 ^ i) with h | h <;> simp [h]

theorem pow_room {i : Nat} (K : Nat) (h : i < 32 * K) : 2 ^ i < 4294967296 ^ K := by
  rw [pow32]
  exact Nat.pow_lt_pow_right (by decide) h

theorem val_cons0 (xs : List Nat) (y : Nat) : Limb.val (0 :: xs) + Limb.val [y] = Limb.val (y :: xs) := by simp [Limb.val]; omega

set_option maxHeartbeats 2000000 in
theorem walk (A_a : Option Addr) (n_a c_a : Nat) (xs_a : List Nat) (v_by : Int) (w : World) (i_a : IsN w A_a n_a xs_a) (hc_a : n_a ≤ c_a) (hm_a : c_a ≤ maxLen) (f_by : (Lit.int .u32 v_by).wf = true) :
    Calls Try.prog 6 #[.slice A_a n_a c_a, .int .u32 v_by] w fun e w' => e = .returned (.bool true) ∧ Below w.heap.size w w' := by
  have bw := bel_refl w
  have hmax : (n_a : Int) ≤ 9223372036854775807 := by have := Nat.le_trans hc_a hm_a; unfold maxLen at this; omega
  by_cases l_a : 30 < n_a
  · go_enter Try.func6, Try.ntmps6
    go_wp2_with fail
    refine (wakes_any w).mono ?_
    rintro e w1 ⟨rfl, bn⟩
    replace bw := below_two bw bn
    clear bn
    go_wp2
    go_ret
    exact ⟨rfl, bw⟩
  · have h_a : NN w A_a n_a c_a xs_a (Limb.val xs_a) 30 := ⟨i_a, rfl, hc_a, by omega⟩
    have hby := wf_u32 f_by
    obtain ⟨y, rfl⟩ := Int.eq_ofNat_of_zero_le hby.1
    have hy : y < 4294967296 := by omega
    have hm : blen (Limb.val xs_a) ≤ 960 := blen_NN h_a
    obtain ⟨i0, hi, hz0, hz1, hz2⟩ := info_parts u32_info
    have Hy := Lib.hid hy
    clear hby f_by
    have h_s : NN w none 0 0 (limbs 0) 0 40 := ⟨IsN.nil _ _, rfl, Nat.le_refl _, by omega⟩
    go_enter Try.func6, Try.ntmps6
    go_wp2_with fail
    refine (of_c 1 1 rfl (by decide) w).mono ?_
    rintro e w1 ⟨A_one, n_one, c_one, rfl, h_one, bn⟩
    replace h_a := h_a.below bn
    replace h_s := h_s.below bn
    replace bw := below_two bw bn
    clear bn
    go_wp2_with fail
    refine (bits_c h_a (by decide) _ rfl).mono ?_
    rintro e w1x ⟨rfl, rfl⟩
    replace h_one : NN w1 A_one n_one c_one (limbs (2 ^ 0)) (2 ^ 0) 40 := NN.relax (a := 2 ^ 0) h_one (pow_room (i := 0) 40 (by omega))
    go_wp2
    go_loopw [8, 5, 6] (fun i sm on wr => ∃ (k : Nat) (A1 : Option Addr) (n1 c1 : Nat) (A2 : Option Addr) (n2 c2 : Nat), k ≤ blen (Limb.val xs_a) ∧ i = .int .i64 (k : Int) ∧ sm = .slice A1 n1 c1 ∧ on = .slice A2 n2 c2 ∧
      NN wr A1 n1 c1 (limbs (Limb.val xs_a % 2 ^ k)) (Limb.val xs_a % 2 ^ k) 40 ∧ NN wr A2 n2 c2 (limbs (2 ^ k)) (2 ^ k) 40 ∧ NN wr A_a n_a c_a xs_a (Limb.val xs_a) 30 ∧ Below w.heap.size w wr) (fun i _ _ _ => blen (Limb.val xs_a) - (intOf i).toNat)
    case atStart => exact ⟨0, none, 0, 0, A_one, n_one, c_one, Nat.zero_le _, rfl, rfl, rfl, by rw [Nat.pow_zero, Nat.mod_one]; exact h_s, h_one, h_a, bw⟩
    case round =>
      clear h_s h_one h_a bw
      obtain ⟨k, A1, n1, c1, A2, n2, c2, hk, rfl, rfl, rfl, h1, h2, h_a, bw⟩ := hrel
      by_cases hkm : k < blen (Limb.val xs_a)
      · have Hst := Lib.hid (mod_step (Limb.val xs_a) k)
        by_cases hb : (Limb.val xs_a).testBit k = true
        · have Hb := Lib.hid hb
          clear hb
          go_wp2_with fail
          refine (bit_c h_a (by decide) _ (by omega) (by omega) true (by rw [Int.toNat_natCast]; exact Hb.out)).mono ?_
          rintro e wx ⟨rfl, rfl⟩
          go_wp2_with fail
          refine (add_c h1 h2 41 (by decide) (by decide) (by decide)).mono ?_
          rintro e w2 ⟨A3, n3, c3, rfl, h3, bn⟩
          replace h_a := h_a.below bn
          replace h2 := h2.below bn
          replace bw := below_two bw bn
          clear bn h1
          go_wp2_with fail
          refine (add_c h2 h2 41 (by decide) (by decide) (by decide)).mono ?_
          rintro e w3 ⟨A4, n4, c4, rfl, h4, bn⟩
          replace h_a := h_a.below bn
          replace h3 := h3.below bn
          replace bw := below_two bw bn
          clear bn h2
          have e3 : Limb.val xs_a % 2 ^ k + 2 ^ k = Limb.val xs_a % 2 ^ (k + 1) := by rw [Hst.out, if_pos Hb.out]
          have e4 : 2 ^ k + 2 ^ k = 2 ^ (k + 1) := by rw [Nat.pow_succ]; omega
          rw [e3] at h3
          rw [e4] at h4
          clear e3 e4
          go_wp2
          go_roundw
          case rel => exact ⟨k + 1, A3, n3, c3, A4, n4, c4, by omega, by go_num, rfl, rfl, h3.relax (Nat.lt_of_lt_of_le (Nat.mod_lt _ (Nat.two_pow_pos _)) (Nat.le_of_lt (pow_room 40 (by omega)))), h4.relax (pow_room 40 (by omega)), h_a, bw⟩
          case measure => simp [intOf]; omega
        · have hb : (Limb.val xs_a).testBit k = false := by simpa using hb
          have Hb := Lib.hid hb
          clear hb
          go_wp2_with fail
          refine (bit_c h_a (by decide) _ (by omega) (by omega) false (by rw [Int.toNat_natCast]; exact Hb.out)).mono ?_
          rintro e wx ⟨rfl, rfl⟩
          go_wp2_with fail
          refine (add_c h2 h2 41 (by decide) (by decide) (by decide)).mono ?_
          rintro e w3 ⟨A4, n4, c4, rfl, h4, bn⟩
          replace h_a := h_a.below bn
          replace h1 := h1.below bn
          replace bw := below_two bw bn
          clear bn h2
          have e3 : Limb.val xs_a % 2 ^ k = Limb.val xs_a % 2 ^ (k + 1) := by rw [Hst.out, if_neg (by rw [Hb.out]; decide)]; rfl
          have e4 : 2 ^ k + 2 ^ k = 2 ^ (k + 1) := by rw [Nat.pow_succ]; omega
          rw [e3] at h1
          rw [e4] at h4
          clear e3 e4
          go_wp2
          go_roundw
          case rel => exact ⟨k + 1, A1, n1, c1, A4, n4, c4, by omega, by go_num, rfl, rfl, h1, h4.relax (pow_room 40 (by omega)), h_a, bw⟩
          case measure => simp [intOf]; omega
      · have hke : k = blen (Limb.val xs_a) := by omega
        subst hke
        have em : Limb.val xs_a % 2 ^ blen (Limb.val xs_a) = Limb.val xs_a := Nat.mod_eq_of_lt (blen_lt _)
        rw [em] at h1
        have hnz : ¬ (blen (Limb.val xs_a) < blen (Limb.val xs_a)) := by omega
        clear h2 em
        go_wp2_with fail
        refine (trim_c h_a (by decide)).mono ?_
        rintro e w4 ⟨A5, n5, c5, rfl, h5, bn⟩
        replace h_a := h_a.below bn
        replace h1 := h1.below bn
        replace bw := below_two bw bn
        clear bn
        go_wp2_with fail
        refine (keep_c h1 h5 (by decide) (by decide) true (same_self _)).mono ?_
        rintro e w5 ⟨rfl, bn⟩
        replace h_a := h_a.below bn
        replace bw := below_two bw bn
        clear bn h1 h5
        have hn30 := h_a.le
        have b0 := below_new w5 (.cells #[Value.int IntKind.u32 0] 39)
        have Hown : RowKit.Hid ((w5.alloc (.cells #[Value.int IntKind.u32 0] 39)).ownsRow w5.heap.size 39 1 (.slice (some ⟨w5.heap.size, 0, none⟩) 1 1) 1 [Value.int IntKind.u32 0]) := World.ownsRow_lit w5 #[Value.int IntKind.u32 0] 1 (Nat.le_refl _) (by unfold maxLen; omega) rfl
        have Hb0 := Lib.hid b0
        have Hl : RowKit.Hid ((xs_a.map limV).length = n_a) := by show _ = _; simp [h_a.isN.len]
        have Ha := Lib.hid h_a
        have Hbw := Lib.hid bw
        clear b0 h_a bw
        go_wp2_with (at_builtin; refine wpList_append_read rfl _ _ 23 rfl w5.heap.size 39 i0 (.int .u32 0) 4 Try.underlying23 hi hz0 hz1 hz2 rfl _ 1 [Value.int IntKind.u32 0] rfl Hown.out A_a n_a c_a (xs_a.map limV) rfl Hl.out (Ha.out.below Hb0.out).news (oneCell_u32 xs_a) ?h1 ?h2 ?h3 ?_)
        case h1 => unfold maxLen; omega
        case h2 => omega
        case h3 => simp
        intro v6 w6 hown hgrow
        have hown2 : w6.ownsRow w5.heap.size 39 1 v6 (1 + n_a) ((0 :: xs_a).map limV) := hown
        obtain ⟨A6, c6, rfl, how6⟩ := shape_own hown2 (small_cons.2 ⟨by decide, Ha.out.isN.small⟩)
        have b6 : Below w5.heap.size w5 w6 := Hb0.out.grown hgrow (by simp) (fun k hk => by
          simp [Value.ownBlock] at hk
          omega)
        have h6 : NN w6 A6 (1 + n_a) c6 (0 :: xs_a) (Limb.val (0 :: xs_a)) 31 := ⟨how6.isN, rfl, how6.caps.1, by omega⟩
        have h_a := Ha.out.below b6
        have bw := below_two Hbw.out b6
        clear hown hown2 hgrow how6 b6 Hown Hb0 Ha Hbw
        go_wp2_with fail
        have l := lit_c w6 [y] (by intro x hx; simp at hx; have := Hy.out; omega) 1 rfl
        have b7 := below_new w6 (.cells #[Value.int IntKind.u32 (y : Int)] 39)
        replace h_a := h_a.below b7
        replace h6 := h6.below b7
        replace bw := below_two bw b7
        clear b7
        refine (add_c h6 l 32 (by decide) (by decide) (by decide)).mono ?_
        rintro e w8 ⟨A8, n8, c8, rfl, h8, bn⟩
        replace h_a := h_a.below bn
        replace bw := below_two bw bn
        clear bn l h6
        rw [val_cons0] at h8
        have b0 := below_new w8 (.cells #[Value.int IntKind.u32 (y : Int)] 39)
        have Hown : RowKit.Hid ((w8.alloc (.cells #[Value.int IntKind.u32 (y : Int)] 39)).ownsRow w8.heap.size 39 1 (.slice (some ⟨w8.heap.size, 0, none⟩) 1 1) 1 [Value.int IntKind.u32 (y : Int)]) := World.ownsRow_lit w8 #[Value.int IntKind.u32 (y : Int)] 1 (Nat.le_refl _) (by unfold maxLen; omega) rfl
        have Hb0 := Lib.hid b0
        have Ha := Lib.hid h_a
        have H8 := Lib.hid h8
        have Hbw := Lib.hid bw
        clear b0 h_a bw h8
        go_wp2_with (at_builtin; refine wpList_append_read rfl _ _ 23 rfl w8.heap.size 39 i0 (.int .u32 0) 4 Try.underlying23 hi hz0 hz1 hz2 rfl _ 1 [Value.int IntKind.u32 (y : Int)] rfl Hown.out A_a n_a c_a (xs_a.map limV) rfl Hl.out (Ha.out.below Hb0.out).news (oneCell_u32 xs_a) ?h4 ?h5 ?h6 ?_)
        case h4 => unfold maxLen; omega
        case h5 => omega
        case h6 => simp
        intro v9 w9 hown hgrow
        have hown2 : w9.ownsRow w8.heap.size 39 1 v9 (1 + n_a) ((y :: xs_a).map limV) := hown
        obtain ⟨A9, c9, rfl, how9⟩ := shape_own hown2 (small_cons.2 ⟨Hy.out, Ha.out.isN.small⟩)
        have b9 : Below w8.heap.size w8 w9 := Hb0.out.grown hgrow (by simp) (fun k hk => by
          simp [Value.ownBlock] at hk
          omega)
        have h9 : NN w9 A9 (1 + n_a) c9 (y :: xs_a) (Limb.val (y :: xs_a)) 31 := ⟨how9.isN, rfl, how9.caps.1, by omega⟩
        have h8 := H8.out.below b9
        have bw := below_two Hbw.out b9
        clear hown hown2 hgrow how9 b9 Hown Hb0 Ha Hbw H8
        go_wp2_with fail
        refine (trim_c h9 (by decide)).mono ?_
        rintro e w10 ⟨A10, n10, c10, rfl, h10, bn⟩
        replace h8 := h8.below bn
        replace bw := below_two bw bn
        clear bn h9
        go_wp2_with fail
        refine (keep_c h8 h10 (by decide) (by decide) true (same_self _)).mono ?_
        rintro e w11 ⟨rfl, bn⟩
        replace bw := below_two bw bn
        clear bn h8 h10
        go_wp2_with fail
        refine (wakes_any w11).mono ?_
        rintro e w12 ⟨rfl, bn⟩
        replace bw := below_two bw bn
        clear bn
        go_wp2
        go_ret
        exact ⟨rfl, bw⟩

set_option maxRecDepth 100000 in
theorem lifted (os : Os) (started : os.Started) (H : Type) (enc : TypeId × Value → H) :
    ReturnsInHanded {} Try.checked os 6 .any (Rows.natBitsSpec.pre6 enc Try.prog Try.f6 Rows.natBitsRow.domain false) (Rows.natBitsSpec.post enc Try.prog Try.f6 false true false false) := by
  refine returnsInHanded_of_change (C := Try.checked) own started (by kernel_rfl) Try.func6
    (ChangeSpec.witness6 (enc := enc) (C := Try.checked) false ⟨#[], #[.slice none 0 0, .int .u32 0], []⟩ 8 (by kernel_rfl) (by kernel_rfl) (by kernel_rfl) (by kernel_rfl)) ?_
  intro W base args ds gs before hval0 hW hcnd _
  have hval : ∀ (j : Nat) t v, Try.f6.params[j]? = some t → args[j]? = some v → Value.okWide Try.prog W .any base t v := hval0
  have hW' := hW
  obtain ⟨p, q, hA0, hV, rfl, hfz, hnd⟩ := hW
  have hA : DataW.TrodAll enc Try.prog W 0 (fun _ => true) true Try.f6.params.toList args.toList ds p := hA0
  rw [Try.params6] at hA hval
  obtain ⟨v0, vs0, d0, ds0, p0, q0, hargs, rfl, rfl, h0, r0⟩ := trodAll_cons hA
  obtain ⟨v1, vs1, d1, ds1, p1, q1, rfl, rfl, rfl, h1, r1⟩ := trodAll_cons r0
  obtain ⟨rfl, rfl, rfl⟩ := trodAll_nil r1
  obtain rfl : args = #[v0, v1] := by cases args; simp_all
  obtain ⟨rfl, rfl⟩ := trodVars_none hV
  obtain ⟨a0, len0, cap0, rfl⟩ := okWide_slice Try.underlying23 (hval 0 23 v0 rfl rfl)
  obtain ⟨z0, i0, hc0, hm0, _⟩ := open_nat h0
  obtain ⟨a1, rfl, rfl, rfl, w1⟩ := open_int Try.underlying39 (hval 1 39 v1 rfl rfl) h1
  clear hA0 hval0
  refine (walk a0 len0 cap0 z0 a1 W i0 hc0 hm0 w1).mono fun e W' ⟨he, bel⟩ => ?_
  subst he
  exact ⟨_, rfl, _, _, _, [], _, [], hW', trodAll_mk1 (shut_bool Try.underlying4 _), (trodAll_cons_mk (Below.trod laidOut (by kernel_rfl) (of_decide_eq_true (by kernel_rfl)) h0 bel (places_lt h0)) (trodAll_cons_mk (shut_int Try.underlying39 w1) trodAll_mk0)), rfl, bel.frame _, fun h => by cases h⟩

theorem over : Rows.natBitsRow.holds Try.pinned (OpenSpec.ofChange Rows.natBitsSpec) :=
  OpenClaim.holds_of_wide 6 Try.f6 rfl rfl rfl rfl rfl rfl rfl ⟨rfl, rfl, rfl, rfl, rfl⟩ rfl rfl rfl rfl rfl (by kernel_rfl) Try.func6 (by kernel_rfl)
    (of_decide_eq_true (by kernel_rfl)) (by unfold Func.isWrapper; first | (rw [if_pos (by decide +kernel)]; kernel_rfl) | (rw [if_neg (by decide +kernel)]; exact ⟨rfl, rfl⟩))
    (fun os started H enc _ => lifted os started H enc)

theorem proved : Rows.NatBitsSaid := over

end Go.Proofs.Ythcacnlajfidoaa.lawNatBits
