/- Of any two texts: the longest literal is one, and stands whatever is behind it that is no digit, point or e. Condition: the listed tables. -/
import Derived.Test.YtjpoolddgocbbaaGreatDoorM9
import Derived.Test.YtjpoolddgocbbaaGreatDoorCards
import Derived.Test.YtjpoolddgocbbaaGreatDoorTie
import Derived.ChangeMaps5
import Derived.Lay
import Derived.SevenTiedAt
/- Of any two texts: the longest literal is one, and stands whatever is behind it that is no digit, point or e. Condition: the listed tables. -/
namespace Go.Proofs.YtjpoolddgocbbaaGreatDoor.lawLiteralLongest
open Go.ChangeShapes Go.WideShapes Go.ChangeAt Go.RowKit Limb
set_option linter.unusedVariables false

theorem more_len (s m : ByteArray) (c : UInt8) (h : litGood (bytesOf s) = true) (hc : isDig c.toNat = false ∧ c.toNat ≠ 46 ∧ c.toNat ≠ 101) : litLen (bytesOf (s ++ ⟨#[c]⟩ ++ m)) = s.size := by
  have e : bytesOf (s ++ ⟨#[c]⟩ ++ m) = bytesOf s ++ c.toNat :: bytesOf m := by
    rw [bytesOf_append, bytesOf_append]
    simp [bytesOf]
  rw [e, litLen_more h _ hc, length_bytesOf]
theorem cut_good (s : ByteArray) {n : Nat} (hn : litLen (bytesOf s) = n) (h0 : n ≠ 0) (hs : s.size ≤ 390) : litGood (bytesOf (s.extract 0 n)) = true ∧ (s.extract 0 n).size = n := by
  subst hn
  have e : bytesOf (s.extract 0 (litLen (bytesOf s))) = (bytesOf s).take (litLen (bytesOf s)) := by rw [bytes_cut]; rfl
  have hl := litLen_le (bytesOf s)
  refine ⟨by rw [e]; exact litGood_take h0 (by rw [length_bytesOf]; omega), ?_⟩
  rw [← length_bytesOf, e, List.length_take]
  omega

set_option maxHeartbeats 4000000 in
set_option maxRecDepth 100000 in
theorem walk (s_s : ByteArray) (s_m : ByteArray) (w : World) (z_s : s_s.size ≤ maxLen) (z_m : s_m.size ≤ maxLen) (T : LTab w) :
    Calls Tryz.prog 5 #[.string s_s, .string s_m] w fun e w' => e = .returned (.bool true) ∧ Below w.heap.size w w' := by
  have HTab := Lib.hid T
  clear T
  clear z_s z_m
  have bw := bel_refl w
  by_cases l1 : 390 < s_s.size
  · have L1 : (390 : Int) < s_s.size := by omega
    clear l1
    go_enter Tryz.func5, Tryz.ntmps5
    go_wp2_with fail
    refine (wakes_any _ HTab.out).mono ?_
    rintro e w1 ⟨rfl, bn⟩
    replace HTab := Lib.hid (HTab.out.below bn)
    replace bw := below_two bw bn
    clear bn
    go_wp2
    go_ret
    exact ⟨rfl, bw⟩
  · have L1 : (s_s.size : Int) ≤ 390 := by omega
    clear l1
    by_cases l2 : 300 < s_m.size
    · have L2 : (300 : Int) < s_m.size := by omega
      clear l2
      go_enter Tryz.func5, Tryz.ntmps5
      go_wp2_with fail
      refine (wakes_any _ HTab.out).mono ?_
      rintro e w2 ⟨rfl, bn⟩
      replace HTab := Lib.hid (HTab.out.below bn)
      replace bw := below_two bw bn
      clear bn
      go_wp2
      go_ret
      exact ⟨rfl, bw⟩
    · have L2 : (s_m.size : Int) ≤ 300 := by omega
      clear l2
      have hs : s_s.size ≤ 9223372036854775807 := by omega
      obtain ⟨n, hn⟩ : ∃ n, litLen (bytesOf s_s) = n := ⟨_, rfl⟩
      have hle := litLen_le (bytesOf s_s)
      rw [hn, length_bytesOf] at hle
      have HN := Lib.hid hn
      cases hg : litGood (bytesOf s_s) with
      | false =>
        have HG := Lib.hid hg
        clear hg
        by_cases n0 : n = 0
        · subst n0
          clear hn
          go_enter Tryz.func5, Tryz.ntmps5
          go_wp2_with fail
          refine (refLGood_c s_s hs _ false HG.out).mono ?_
          rintro e wx ⟨rfl, rfl⟩
          go_wp2_with fail
          refine (litLength_c s_s hs _ HTab.out 0 HN.out).mono ?_
          rintro e w3 ⟨rfl, bn⟩
          replace HTab := Lib.hid (HTab.out.below bn)
          replace bw := below_two bw bn
          clear bn
          go_wp2_with fail
          refine (wakes_any _ HTab.out).mono ?_
          rintro e w4 ⟨rfl, bn⟩
          replace HTab := Lib.hid (HTab.out.below bn)
          replace bw := below_two bw bn
          clear bn
          go_wp2
          go_ret
          exact ⟨rfl, bw⟩
        · obtain ⟨hg2, hs2⟩ := cut_good s_s hn n0 (by omega)
          obtain ⟨S, hS⟩ : ∃ S, s_s.extract 0 n = S := ⟨_, rfl⟩
          rw [hS] at hg2 hs2
          have HG2 := Lib.hid hg2
          have n1 : ((n : Int) == 0) = false := by rw [beq_eq_false_iff_ne]; omega
          have hSs : S.size ≤ 9223372036854775807 := by omega
          clear hg2 hn hs2
          go_enter Tryz.func5, Tryz.ntmps5
          go_wp2_with fail
          refine (refLGood_c s_s hs _ false HG.out).mono ?_
          rintro e wx ⟨rfl, rfl⟩
          go_wp2_with fail
          refine (litLength_c s_s hs _ HTab.out n HN.out).mono ?_
          rintro e w5 ⟨rfl, bn⟩
          replace HTab := Lib.hid (HTab.out.below bn)
          replace bw := below_two bw bn
          clear bn
          go_wp2_with fail
          refine (litGood_c S hSs _ HTab.out true HG2.out).mono ?_
          rintro e w6 ⟨rfl, bn⟩
          replace HTab := Lib.hid (HTab.out.below bn)
          replace bw := below_two bw bn
          clear bn
          go_wp2_with fail
          refine (wakes_any _ HTab.out).mono ?_
          rintro e w7 ⟨rfl, bn⟩
          replace HTab := Lib.hid (HTab.out.below bn)
          replace bw := below_two bw bn
          clear bn
          go_wp2
          go_ret
          exact ⟨rfl, bw⟩
      | true =>
        have hL := (litGood_iff.1 hg).2.2
        rw [hn, length_bytesOf] at hL
        subst hL
        have h_b := more_len s_s s_m 32 hg (by decide)
        obtain ⟨S_b, hS_b⟩ : ∃ S, s_s ++ ⟨#[32]⟩ ++ s_m = S := ⟨_, rfl⟩
        rw [hS_b] at h_b
        have z_b : S_b.size ≤ 9223372036854775807 := by rw [← hS_b, ByteArray.size_append, ByteArray.size_append]; show s_s.size + 1 + s_m.size ≤ _; omega
        have H_b := Lib.hid h_b
        clear h_b
        have h_x := more_len s_s s_m 120 hg (by decide)
        obtain ⟨S_x, hS_x⟩ : ∃ S, s_s ++ ⟨#[120]⟩ ++ s_m = S := ⟨_, rfl⟩
        rw [hS_x] at h_x
        have z_x : S_x.size ≤ 9223372036854775807 := by rw [← hS_x, ByteArray.size_append, ByteArray.size_append]; show s_s.size + 1 + s_m.size ≤ _; omega
        have H_x := Lib.hid h_x
        clear h_x
        have HG := Lib.hid hg
        clear hg hn
        go_enter Tryz.func5, Tryz.ntmps5
        go_wp2_with fail
        refine (refLGood_c s_s hs _ true HG.out).mono ?_
        rintro e wx ⟨rfl, rfl⟩
        go_wp2_with fail
        refine (litGood_c s_s hs _ HTab.out true HG.out).mono ?_
        rintro e w8 ⟨rfl, bn⟩
        replace HTab := Lib.hid (HTab.out.below bn)
        replace bw := below_two bw bn
        clear bn
        go_wp2_with fail
        refine (litLength_c s_s hs _ HTab.out _ HN.out).mono ?_
        rintro e w9 ⟨rfl, bn⟩
        replace HTab := Lib.hid (HTab.out.below bn)
        replace bw := below_two bw bn
        clear bn
        go_wp2_with fail
        refine (litLength_c S_b z_b _ HTab.out _ H_b.out).mono ?_
        rintro e w10 ⟨rfl, bn⟩
        replace HTab := Lib.hid (HTab.out.below bn)
        replace bw := below_two bw bn
        clear bn
        go_wp2_with fail
        refine (litLength_c S_x z_x _ HTab.out _ H_x.out).mono ?_
        rintro e w11 ⟨rfl, bn⟩
        replace HTab := Lib.hid (HTab.out.below bn)
        replace bw := below_two bw bn
        clear bn
        go_wp2_with fail
        refine (wakes_any _ HTab.out).mono ?_
        rintro e w12 ⟨rfl, bn⟩
        replace HTab := Lib.hid (HTab.out.below bn)
        replace bw := below_two bw bn
        clear bn
        go_wp2
        go_ret
        exact ⟨rfl, bw⟩

theorem tab_of {W : World} (h : laidMet Tryz.prog Rows.literalLongestRow.laid W) : LTab W := by
  refine ⟨⟨?_, ?_⟩, ?_⟩
  · first | exact powers_tab (laidMet_drop 0 h) (by decide +kernel) | exact powers_tab (laidMet_drop 1 h) (by decide +kernel) | exact powers_tab (laidMet_drop 2 h) (by decide +kernel) | exact powers_tab (laidMet_drop 3 h) (by decide +kernel) | exact powers_tab (laidMet_drop 4 h) (by decide +kernel) | exact powers_tab (laidMet_drop 5 h) (by decide +kernel) | exact powers_tab (laidMet_drop 6 h) (by decide +kernel) | exact powers_tab (laidMet_drop 7 h) (by decide +kernel) | exact powers_tab (laidMet_drop 8 h) (by decide +kernel) | exact powers_tab (laidMet_drop 9 h) (by decide +kernel) | exact powers_tab (laidMet_drop 10 h) (by decide +kernel) | exact powers_tab (laidMet_drop 11 h) (by decide +kernel) | exact powers_tab (laidMet_drop 12 h) (by decide +kernel) | exact powers_tab (laidMet_drop 13 h) (by decide +kernel)
  · first | exact err_tab (laidMet_drop 0 h) (by decide +kernel) | exact err_tab (laidMet_drop 1 h) (by decide +kernel) | exact err_tab (laidMet_drop 2 h) (by decide +kernel) | exact err_tab (laidMet_drop 3 h) (by decide +kernel) | exact err_tab (laidMet_drop 4 h) (by decide +kernel) | exact err_tab (laidMet_drop 5 h) (by decide +kernel) | exact err_tab (laidMet_drop 6 h) (by decide +kernel) | exact err_tab (laidMet_drop 7 h) (by decide +kernel) | exact err_tab (laidMet_drop 8 h) (by decide +kernel) | exact err_tab (laidMet_drop 9 h) (by decide +kernel) | exact err_tab (laidMet_drop 10 h) (by decide +kernel) | exact err_tab (laidMet_drop 11 h) (by decide +kernel) | exact err_tab (laidMet_drop 12 h) (by decide +kernel) | exact err_tab (laidMet_drop 13 h) (by decide +kernel)
  · first | exact kinds_tab (laidMet_drop 0 h) (by decide +kernel) | exact kinds_tab (laidMet_drop 1 h) (by decide +kernel) | exact kinds_tab (laidMet_drop 2 h) (by decide +kernel) | exact kinds_tab (laidMet_drop 3 h) (by decide +kernel) | exact kinds_tab (laidMet_drop 4 h) (by decide +kernel) | exact kinds_tab (laidMet_drop 5 h) (by decide +kernel) | exact kinds_tab (laidMet_drop 6 h) (by decide +kernel) | exact kinds_tab (laidMet_drop 7 h) (by decide +kernel) | exact kinds_tab (laidMet_drop 8 h) (by decide +kernel) | exact kinds_tab (laidMet_drop 9 h) (by decide +kernel) | exact kinds_tab (laidMet_drop 10 h) (by decide +kernel) | exact kinds_tab (laidMet_drop 11 h) (by decide +kernel) | exact kinds_tab (laidMet_drop 12 h) (by decide +kernel) | exact kinds_tab (laidMet_drop 13 h) (by decide +kernel)

set_option maxRecDepth 100000 in
theorem lifted (os : Os) (started : os.Started) (H : Type) (enc : TypeId × Value → H) :
    ReturnsInHanded {} Tryz.checked os 5 .any (fun w args => (Rows.literalLongestSpec.pre enc Tryz.prog Tryz.f5 [] false w args ∧ laidMetH Tryz.prog Rows.literalLongestRow.laid w) ∧ sizedMet enc Tryz.prog Tryz.f5 (OpenSpec.ofChange Rows.literalLongestSpec) false w args)
      (Rows.literalLongestSpec.post enc Tryz.prog Tryz.f5 false true false false) := by
  refine returnsInHanded_of_change_and (C := Tryz.checked) (X := fun w _ => laidMetH Tryz.prog Rows.literalLongestRow.laid w) (fun _ _ _ hh h => h.of_heap hh) own started (by kernel_rfl) Tryz.func5
    (ChangeSpec.witness_shaped (enc := enc) (C := Tryz.checked) (os := os) (X := fun w _ => laidMetH Tryz.prog Rows.literalLongestRow.laid w) false (World.laidAll Tryz.prog os Rows.literalLongestRow.laid) #[.string ⟨#[]⟩, .string ⟨#[]⟩] 8 (World.laidAll_os _ _ _)
      (World.shaped_of_ZipB (by kernel_rfl) (by kernel_rfl)) (by kernel_rfl) (by kernel_rfl) (by kernel_rfl)
      (by rw [MakeChecks.laidMetH_plain _ _ _ (by kernel_rfl)]; exact laidMet_laidAll _ (by kernel_rfl) (by kernel_rfl))) ?_
  intro W base args ds gs before hval0 hW _ _ hL _
  have hval : ∀ (j : Nat) t v, Tryz.f5.params[j]? = some t → args[j]? = some v → Value.okWide Tryz.prog W .any base t v := hval0
  have hW' := hW
  obtain ⟨p, q, hA0, hV, rfl, hfz, hnd⟩ := hW
  have hA : DataW.TrodAll enc Tryz.prog W 0 (fun _ => true) true Tryz.f5.params.toList args.toList ds p := hA0
  rw [Tryz.params5] at hA hval
  obtain ⟨v0, vs0, d0, ds0, p0, q0, hargs, rfl, rfl, h0, r0⟩ := trodAll_cons hA
  obtain ⟨v1, vs1, d1, ds1, p1, q1, rfl, rfl, rfl, h1, r1⟩ := trodAll_cons r0
  obtain ⟨rfl, rfl, rfl⟩ := trodAll_nil r1
  obtain rfl : args = #[v0, v1] := by cases args; simp_all
  obtain ⟨rfl, rfl⟩ := trodVars_none hV
  obtain ⟨a0, rfl, rfl, rfl, w0⟩ := Go.ChangeMaps.open_string Tryz.underlying9 (hval 0 9 v0 rfl rfl) h0
  obtain ⟨a1, rfl, rfl, rfl, w1⟩ := Go.ChangeMaps.open_string Tryz.underlying9 (hval 1 9 v1 rfl rfl) h1
  clear hA0 hval0
  simp only [List.append_nil] at hW'
  rw [MakeChecks.laidMetH_plain _ _ _ (by kernel_rfl)] at hL
  refine (walk a0 a1 W w0 w1 (tab_of hL)).mono fun e W' ⟨he, bel⟩ => ?_
  subst he
  exact ⟨_, rfl, _, _, _, [], _, [], hW', trodAll_mk1 (shut_bool Tryz.underlying4 _), (trodAll_cons_mk (Go.ChangeMaps.shut_string Tryz.underlying9 w0) (trodAll_cons_mk (Go.ChangeMaps.shut_string Tryz.underlying9 w1) trodAll_mk0)), rfl, bel.frame _, fun h => by cases h⟩

theorem over : Rows.literalLongestRow.holds Tryz.pinned (OpenSpec.ofChange Rows.literalLongestSpec) :=
  OpenClaim.holds_of_wide 5 Tryz.f5 rfl rfl rfl rfl rfl rfl rfl ⟨rfl, rfl, rfl, rfl, rfl⟩ rfl rfl rfl rfl rfl (by kernel_rfl) Tryz.func5 (by kernel_rfl)
    (of_decide_eq_true (by kernel_rfl)) (by unfold Func.isWrapper; first | (rw [if_pos (by decide +kernel)]; kernel_rfl) | (rw [if_neg (by decide +kernel)]; exact ⟨rfl, rfl⟩))
    (fun os started H enc _ => lifted os started H enc)

theorem proved : Rows.LiteralLongestCardSaid :=
  Claim7.holds_tied_plain_at .later [] Rows.literalLongestCard.laidKinds true Rows.literalLongestCard.stood.harness Rows.literalLongestCard.stood.looks
    over (fun _ h => by cases h) (by kernel_rfl) (fun _ h => by cases h) literalLongest_row_tie rfl ⟨rfl, rfl⟩ (by kernel_rfl) rfl
    (fun f fn hf hfn => by
      obtain rfl : f = 5 := Option.some.inj ((show Tryz.prog.funcNamed Rows.literalLongestRow.func = some 5 by kernel_rfl).symm.trans hf) |>.symm
      obtain rfl : fn = Tryz.f5 := (Option.some.inj (Tryz.func5.symm.trans hfn)).symm
      exact ⟨by kernel_rfl, fun j t ht => by
        have hm : t ∈ Tryz.f5.params.toList := by simpa using Array.mem_of_getElem? ht
        have hall : (Tryz.f5.params.toList.all fun u => !Tryz.prog.wantsStandIn u) = true := by kernel_rfl
        exact (show Tryz.prog.wantsStandIn t = false by simpa using List.all_eq_true.1 hall t hm)⟩)
    (by kernel_rfl)

end Go.Proofs.YtjpoolddgocbbaaGreatDoor.lawLiteralLongest
