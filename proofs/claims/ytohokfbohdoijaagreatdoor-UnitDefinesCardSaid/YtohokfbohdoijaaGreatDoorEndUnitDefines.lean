/- Of any name and any unit: what is defined is there, once, and is read in texts; what may not be is not. Condition: the variables that the row lists read as listed. -/
import Derived.Test.YtohokfbohdoijaaGreatDoorM13
import Derived.Test.YtohokfbohdoijaaGreatDoorCards
import Derived.Test.YtohokfbohdoijaaGreatDoorTie
import Derived.ChangeMaps5
import Derived.Lay
import Derived.SevenTiedAt
/- Of any name and any unit: what is defined is there, once, and is read in texts; what may not be is not. Condition: the variables that the row lists read as listed. -/
namespace Go.Proofs.YtohokfbohdoijaaGreatDoor.lawUnitDefines
open Go.ChangeShapes Go.WideShapes Go.ChangeAt Go.RowKit Limb
set_option linter.unusedVariables false
theorem i64_wf {xs : List Int} (h : ∀ x ∈ xs, (Lit.int .i64 x).wf = true) : I64 xs := fun x hx => by
 have := h x hx
 have e1 : IntKind.i64.min = -9223372036854775808 := rfl
 have e2 : IntKind.i64.max = 9223372036854775807 := rfl
 simp only [Lit.wf, Bool.and_eq_true, decide_eq_true_eq] at this
 omega
set_option maxHeartbeats 8000000 in
set_option maxRecDepth 100000 in
theorem walk (s_name : ByteArray) (g_u : Bool) (A_u : Option Addr) (n_u c_u : Nat) (xs_u : List Nat) (B_u : Option Addr) (m_u d_u : Nat) (ys_u : List Nat) (ds_u : List Int) (w : World) (z_name : s_name.size ≤ maxLen) (i_u : IsN w A_u n_u xs_u) (hc_u : n_u ≤ c_u) (hm_u : c_u ≤ maxLen) (j_u : IsN w B_u m_u ys_u) (kc_u : m_u ≤ d_u) (km_u : d_u ≤ maxLen) (l_u : ds_u.length = 7) (f_u : ∀ y ∈ ds_u, (Lit.int .i64 y).wf = true) (HT : UTab w) :
 Calls Tryz.prog 7 #[.string s_name, .agg (uV g_u A_u n_u c_u B_u m_u d_u ds_u)] w fun e w' => e = .returned (.bool true) ∧ Below w.heap.size w w' := by
 have HT0 := Lib.hid HT
 clear HT
 have HL_u := Lib.hid l_u
 have H64_u := Lib.hid (i64_wf f_u)
 clear l_u f_u
 have HM_u := Lib.hid (many10 (size_uV (s := g_u) (A := A_u) (n := n_u) (c := c_u) (B := B_u) (m := m_u) (d := d_u) HL_u.out))
 have bw := bel_refl w
 have h_ru := rowA_new w 37 (uV g_u A_u n_u c_u B_u m_u d_u ds_u)
 have bn := below_new w (.cells (uV g_u A_u n_u c_u B_u m_u d_u ds_u) 37)
 replace bw := below_two bw bn
 clear bn
 go_enter Tryz.func7, Tryz.ntmps7
 go_wp2_with fail
 generalize w.alloc (.cells (uV g_u A_u n_u c_u B_u m_u d_u ds_u) 37) = w1 at *
 obtain ⟨q_u, eg⟩ : ∃ g, g = w.heap.size := ⟨_, rfl⟩
 have hqu : Hid (w.heap.size ≤ q_u) := by show _ ≤ _; omega
 rw [← eg] at h_ru ⊢
 have e_u := eg
 clear eg
 clear e_u
 have BSZ := bw.size
 have lt_u := RowA.lt h_ru
 refine (uNew_c w1).mono ?_
 rintro e w2 ⟨rfl, rfl⟩
 have bn := below_new w1 (.cells (tabV 0 none) 95)
 replace h_ru := h_ru.below bn
 replace bw := below_two bw bn
 clear bn
 obtain ⟨q_t, eg⟩ : ∃ g, g = w1.heap.size := ⟨_, rfl⟩
 have hS : TabS (w1.alloc (.cells (tabV 0 none) 95)) w.heap.size q_t stdU := .inl ⟨by rw [eg]; exact tabF_new _, by rw [eg]; exact BSZ, rfl⟩
 rw [← eg]
 have ne_u_t : Hid (q_u ≠ q_t) := by show _ ≠ _; omega
 generalize w1.alloc (.cells (tabV 0 none) 95) = w3 at *
 clear eg BSZ lt_u
 by_cases h60 : 60 < s_name.size
 · have hgt : (60 : Int) < (s_name.size : Int) := by omega
   go_wp2_with fail
   refine (wakes_any _ (Lib.hid (HT0.out.below bw))).mono ?_
   rintro e w4 ⟨rfl, bn⟩
   replace h_ru := h_ru.below bn
   replace hS := hS.below bn
   replace bw := below_two bw bn
   clear bn
   go_wp2
   go_ret
   exact ⟨rfl, bw⟩
 · have hle : (s_name.size : Int) ≤ 60 := by omega
   have hd1 : decide ((60 : Int) < (s_name.size : Int)) = false := decide_eq_false (by omega)
   have hz : Hid (s_name.size ≤ 60) := by show _ ≤ _; omega
   clear h60
   cases hlg : longU n_u m_u with
   | true =>
    have HLG := Lib.hid hlg
    clear hlg
    have HI_u := Lib.hid h_ru.inV
    go_wp2_with (refine wpList_loadV (by rfl) _ _ (by rfl) _ _ (by rfl) _ (by assumption) (by assumption) ?_)
    clear HI_u
    refine (unitLong_c true HLG.out _).mono ?_
    rintro e w4 ⟨rfl, bn⟩
    replace h_ru := h_ru.below bn
    replace hS := hS.below bn
    replace bw := below_two bw bn
    clear bn
    go_wp2_with fail
    refine (wakes_any _ (Lib.hid (HT0.out.below bw))).mono ?_
    rintro e w5 ⟨rfl, bn⟩
    replace h_ru := h_ru.below bn
    replace hS := hS.below bn
    replace bw := below_two bw bn
    clear bn
    go_wp2
    go_ret
    exact ⟨rfl, bw⟩
   | false =>
    have hn : n_u ≤ 70 ∧ m_u ≤ 70 := by
     unfold longU at hlg
     simp only [Bool.or_eq_false_iff, decide_eq_false_iff_not] at hlg
     omega
    have HX0 := Lib.hid (QQ.of (s := g_u) i_u hc_u j_u kc_u hn.1 hn.2)
    generalize readQ g_u xs_u ys_u = o_u at HX0
    have HLG := Lib.hid hlg
    clear hlg hn
    obtain ⟨had, hhad⟩ : ∃ b, (stdU.lookup (bytesOf s_name)).isSome = b := ⟨_, rfl⟩
    have HHAD := Lib.hid hhad
    clear hhad
    have HI_u := Lib.hid h_ru.inV
    go_wp2_with (refine wpList_loadV (by rfl) _ _ (by rfl) _ _ (by rfl) _ (by assumption) (by assumption) ?_)
    clear HI_u
    refine (unitLong_c false HLG.out _).mono ?_
    rintro e w4 ⟨rfl, bn⟩
    replace h_ru := h_ru.below bn
    replace hS := hS.below bn
    replace bw := below_two bw bn
    clear bn
    go_wp2_with fail
    refine (uHas_c (HT0.out.below bw) hS bw.size s_name (by have := hz.out; omega)).mono ?_
    rintro e w5 ⟨rfl, ⟨mb, hM⟩, hk⟩
    replace h_ru := hk.row h_ru ne_u_t.out
    replace bw := bw.trans hk.bel
    clear hk hS
    rw [HHAD.out]
    have HI_u := Lib.hid h_ru.inV
    go_wp2_with (refine wpList_loadV (by rfl) _ _ (by rfl) _ _ (by rfl) _ (by assumption) (by assumption) ?_)
    clear HI_u
    cases hY : mayB o_u ds_u with
    | false =>
     have HY := Lib.hid hY
     clear hY
     refine (uNo_d (HT0.out.below bw) hM bw.size s_name (by have := hz.out; omega) (HX0.out.below bw) (by decide) HL_u.out H64_u.out (.inr HY.out)).mono ?_
     rintro e w6 ⟨rfl, bn⟩
     replace h_ru := h_ru.below bn
     replace hM := hM.below bn
     replace bw := below_two bw bn
     clear bn
     have HI_u := Lib.hid h_ru.inV
     go_wp2_with (refine wpList_loadV (by rfl) _ _ (by rfl) _ _ (by rfl) _ (by assumption) (by assumption) ?_)
     clear HI_u
     refine (refUMay_c (HX0.out.below bw) (by decide) HL_u.out false HY.out).mono ?_
     rintro e w7 ⟨rfl, bn⟩
     replace h_ru := h_ru.below bn
     replace hM := hM.below bn
     replace bw := below_two bw bn
     clear bn
     go_wp2_with fail
     refine (uHas_d (HT0.out.below bw) hM bw.size s_name (by have := hz.out; omega) had HHAD.out).mono ?_
     rintro e w8 ⟨rfl, bn⟩
     replace h_ru := h_ru.below bn
     replace hM := hM.below bn
     replace bw := below_two bw bn
     clear bn
     go_wp2_with fail
     refine (uNames_d (HT0.out.below bw) hM bw.size 92 stdU_len (by decide)).mono ?_
     rintro e w9 ⟨A_w9, c_w9, rfl, bn⟩
     replace h_ru := h_ru.below bn
     replace hM := hM.below bn
     replace bw := below_two bw bn
     clear bn
     go_wp2_with fail
     refine (wakes_any _ (Lib.hid (HT0.out.below bw))).mono ?_
     rintro e w10 ⟨rfl, bn⟩
     replace h_ru := h_ru.below bn
     replace hM := hM.below bn
     replace bw := below_two bw bn
     clear bn
     go_wp2
     go_ret
     exact ⟨rfl, bw⟩
    | true =>
     have HY := Lib.hid hY
     clear hY
     cases hN : isNm (bytesOf s_name) with
     | false =>
      have HN := Lib.hid hN
      clear hN
      refine (uNo_d (HT0.out.below bw) hM bw.size s_name (by have := hz.out; omega) (HX0.out.below bw) (by decide) HL_u.out H64_u.out (.inl HN.out)).mono ?_
      rintro e w6 ⟨rfl, bn⟩
      replace h_ru := h_ru.below bn
      replace hM := hM.below bn
      replace bw := below_two bw bn
      clear bn
      have HI_u := Lib.hid h_ru.inV
      go_wp2_with (refine wpList_loadV (by rfl) _ _ (by rfl) _ _ (by rfl) _ (by assumption) (by assumption) ?_)
      clear HI_u
      refine (refUMay_c (HX0.out.below bw) (by decide) HL_u.out true HY.out).mono ?_
      rintro e w7 ⟨rfl, bn⟩
      replace h_ru := h_ru.below bn
      replace hM := hM.below bn
      replace bw := below_two bw bn
      clear bn
      go_wp2_with fail
      refine (refName_c s_name (by have := hz.out; omega) false HN.out _).mono ?_
      rintro e wx ⟨rfl, rfl⟩
      go_wp2_with fail
      refine (uHas_d (HT0.out.below bw) hM bw.size s_name (by have := hz.out; omega) had HHAD.out).mono ?_
      rintro e w8 ⟨rfl, bn⟩
      replace h_ru := h_ru.below bn
      replace hM := hM.below bn
      replace bw := below_two bw bn
      clear bn
      go_wp2_with fail
      refine (uNames_d (HT0.out.below bw) hM bw.size 92 stdU_len (by decide)).mono ?_
      rintro e w9 ⟨A_w9, c_w9, rfl, bn⟩
      replace h_ru := h_ru.below bn
      replace hM := hM.below bn
      replace bw := below_two bw bn
      clear bn
      go_wp2_with fail
      refine (wakes_any _ (Lib.hid (HT0.out.below bw))).mono ?_
      rintro e w10 ⟨rfl, bn⟩
      replace h_ru := h_ru.below bn
      replace hM := hM.below bn
      replace bw := below_two bw bn
      clear bn
      go_wp2
      go_ret
      exact ⟨rfl, bw⟩
     | true =>
      have HN := Lib.hid hN
      clear hN
      cases had with
      | true =>
       refine (uTwice_d (HT0.out.below bw) hM bw.size s_name (by have := hz.out; omega) (HX0.out.below bw) (by decide) HL_u.out H64_u.out HN HY HHAD).mono ?_
       rintro e w6 ⟨rfl, bn⟩
       replace h_ru := h_ru.below bn
       replace hM := hM.below bn
       replace bw := below_two bw bn
       clear bn
       have HI_u := Lib.hid h_ru.inV
       go_wp2_with (refine wpList_loadV (by rfl) _ _ (by rfl) _ _ (by rfl) _ (by assumption) (by assumption) ?_)
       clear HI_u
       refine (refUMay_c (HX0.out.below bw) (by decide) HL_u.out true HY.out).mono ?_
       rintro e w7 ⟨rfl, bn⟩
       replace h_ru := h_ru.below bn
       replace hM := hM.below bn
       replace bw := below_two bw bn
       clear bn
       go_wp2_with fail
       refine (refName_c s_name (by have := hz.out; omega) true HN.out _).mono ?_
       rintro e wx ⟨rfl, rfl⟩
       go_wp2_with fail
       refine (uNames_d (HT0.out.below bw) hM bw.size 92 stdU_len (by decide)).mono ?_
       rintro e w8 ⟨A_w8, c_w8, rfl, bn⟩
       replace h_ru := h_ru.below bn
       replace hM := hM.below bn
       replace bw := below_two bw bn
       clear bn
       go_wp2_with fail
       refine (wakes_any _ (Lib.hid (HT0.out.below bw))).mono ?_
       rintro e w9 ⟨rfl, bn⟩
       replace h_ru := h_ru.below bn
       replace hM := hM.below bn
       replace bw := below_two bw bn
       clear bn
       go_wp2
       go_ret
       exact ⟨rfl, bw⟩
      | false =>
       obtain ⟨q, rfl, hok⟩ := (mayB_iff HL_u.out (fun q e => by subst e; exact HX0.out.some.2.2.2.1)).1 HY.out
       have HNO : Hid (stdU.lookup (bytesOf s_name) = none) := by
        show _ = _
        have := HHAD.out
        cases e : stdU.lookup (bytesOf s_name) with
        | none => rfl
        | some u => rw [e] at this; cases this
       have HLK : Hid (((bytesOf s_name, ((q, ds_u) : UQ)) :: stdU).lookup (bytesOf s_name) = some (q, ds_u)) := by show _ = _; rw [List.lookup_cons_self]
       have HP := Lib.hid (parse_name HN.out HLK.out hok)
       have HLEN : Hid (((bytesOf s_name, ((q, ds_u) : UQ)) :: stdU).length = 93) := by show _ = _; rw [List.length_cons, stdU_len]
       have HW : Hid ((((bytesOf s_name, ((q, ds_u) : UQ)) :: stdU).lookup (bytesOf s_name)).isSome = true) := by show _ = _; rw [HLK.out]; rfl
       clear hok
       refine (uDefine_ok (HT0.out.below bw) hM.s bw.size s_name (by have := hz.out; omega) (HX0.out.below bw) (by decide) HL_u.out H64_u.out HN HY HNO (by show _ ≤ _; rw [stdU_len]; decide)).mono ?_
       rintro e w6 ⟨rfl, ⟨mb2, hM2⟩, hk⟩
       have hM2 : TabM w6 w.heap.size q_t mb2 ((bytesOf s_name, ((q, ds_u) : UQ)) :: stdU) := hM2
       replace h_ru := hk.row h_ru ne_u_t.out
       replace bw := bw.trans hk.bel
       clear hk hM
       rename TabM w6 w.heap.size q_t mb2 ((bytesOf s_name, ((q, ds_u) : UQ)) :: stdU) => hM
       have HI_u := Lib.hid h_ru.inV
       go_wp2_with (refine wpList_loadV (by rfl) _ _ (by rfl) _ _ (by rfl) _ (by assumption) (by assumption) ?_)
       clear HI_u
       refine (refUMay_c (HX0.out.below bw) (by decide) HL_u.out true HY.out).mono ?_
       rintro e w7 ⟨rfl, bn⟩
       replace h_ru := h_ru.below bn
       replace hM := hM.below bn
       replace bw := below_two bw bn
       clear bn
       go_wp2_with fail
       refine (refName_c s_name (by have := hz.out; omega) true HN.out _).mono ?_
       rintro e wx ⟨rfl, rfl⟩
       go_wp2_with fail
       refine (uOfN_c (HT0.out.below bw) hM.s bw.size s_name (by have := hz.out; omega)).mono ?_
       rintro e w8 ⟨V_v, rfl, hV, hM2, hk⟩
       have bn := hk.done hM
       clear hk hM2
       replace h_ru := h_ru.below bn
       replace hM := hM.below bn
       replace bw := below_two bw bn
       clear bn
       rw [HLK.out] at hV ⊢
       have hV : UV _ V_v (some q) ds_u := hV
       obtain ⟨A_v, n_v, c_v, C_v, m_v, d_v, rfl, h_qv, hl_v⟩ := hV
       have HU_v := Lib.hid (fits10 (size_uV HL_u.out) (uV_one (s := sg (oTop (some q))) (A := A_v) (n := n_v) (c := c_v) (B := C_v) (m := m_v) (d := d_v) (xs := ds_u)))
       clear hl_v
       have tl_t : Hid (q_t < w8.heap.size) := hM.s.lt
       have h_rv := rowA_new w8 37 (uV (sg (oTop (some q))) A_v n_v c_v C_v m_v d_v ds_u)
       have bn := below_new w8 (.cells (uV (sg (oTop (some q))) A_v n_v c_v C_v m_v d_v ds_u) 37)
       replace h_ru := h_ru.below bn
       replace hM := hM.below bn
       replace h_qv := h_qv.below bn
       replace bw := below_two bw bn
       clear bn
       go_wp2_with (refine wpList_storeNew (by rfl) _ _ _ (by rfl) _ _ _ (by rfl) (by rfl) (by assumption) ?_)
       generalize w8.alloc (.cells (uV (sg (oTop (some q))) A_v n_v c_v C_v m_v d_v ds_u) 37) = w9 at *
       obtain ⟨q_v, eg⟩ : ∃ g, g = w8.heap.size := ⟨_, rfl⟩
       have ne_v_t : Hid (q_v ≠ q_t) := by show _ ≠ _; have := tl_t.out; omega
       rw [← eg] at h_rv ⊢
       clear eg
       clear tl_t
       refine (tParse_main (HT0.out.below bw) hM.s bw.size s_name (by have := hz.out; omega)).mono ?_
       rintro e w10 ⟨V_p, E_p, W_p, rfl, hM2, hk, hp⟩
       have bn := hk.done hM
       clear hk hM2
       replace h_ru := h_ru.below bn
       replace hM := hM.below bn
       replace h_qv := h_qv.below bn
       replace h_rv := h_rv.below bn
       replace bw := below_two bw bn
       clear bn
       rw [HP.out] at hp
       obtain ⟨rfl, rfl, hok_p, A_p, n_p, c_p, C_p, m_p, d_p, rfl, h_qp, hl_p⟩ := hp
       have HU_p := Lib.hid (fits10 (size_uV hl_p) (uV_one (s := sg (oTop (some q))) (A := A_p) (n := n_p) (c := c_p) (B := C_p) (m := m_p) (d := d_p) (xs := ds_u)))
       clear hok_p hl_p
       have HU_f := Lib.hid (fitsF (0) (0))
       have tl_t : Hid (q_t < w10.heap.size) := hM.s.lt
       have h_rp := rowA_new w10 37 (uV (sg (oTop (some q))) A_p n_p c_p C_p m_p d_p ds_u)
       have bn := below_new w10 (.cells (uV (sg (oTop (some q))) A_p n_p c_p C_p m_p d_p ds_u) 37)
       replace h_ru := h_ru.below bn
       replace hM := hM.below bn
       replace h_qv := h_qv.below bn
       replace h_rv := h_rv.below bn
       replace h_qp := h_qp.below bn
       replace bw := below_two bw bn
       clear bn
       have h_rf := rowA_new (w10.alloc (.cells (uV (sg (oTop (some q))) A_p n_p c_p C_p m_p d_p ds_u) 37)) 56 (fltC (0) (0))
       have bn := below_new (w10.alloc (.cells (uV (sg (oTop (some q))) A_p n_p c_p C_p m_p d_p ds_u) 37)) (.cells (fltC (0) (0)) 56)
       replace h_ru := h_ru.below bn
       replace hM := hM.below bn
       replace h_qv := h_qv.below bn
       replace h_rv := h_rv.below bn
       replace h_qp := h_qp.below bn
       replace h_rp := h_rp.below bn
       replace bw := below_two bw bn
       clear bn
       have HM_v := Lib.hid (many10 (size_uV (s := sg (oTop (some q))) (A := A_v) (n := n_v) (c := c_v) (B := C_v) (m := m_v) (d := d_v) HL_u.out))
       have HM_p := Lib.hid (many10 (size_uV (s := sg (oTop (some q))) (A := A_p) (n := n_p) (c := c_p) (B := C_p) (m := m_p) (d := d_p) HL_u.out))
       have HI_u := Lib.hid h_ru.inV
       have HI_v := Lib.hid h_rv.inV
       go_wp2_with (first | (refine wpList_storeNewB (by rfl) _ _ _ (by rfl) _ _ _ _ (by rfl) (by rfl) (by assumption) ?_) | (refine wpList_storeNewAt (by rfl) _ _ _ (by rfl) _ _ _ _ (by rfl) (by rfl) (by simp) (by assumption) ?_) | (refine wpList_loadV (by rfl) _ _ (by rfl) _ _ (by rfl) _ (by assumption) (by assumption) ?_) | (refine wpList_storeNew (by rfl) _ _ _ (by rfl) _ _ _ (by rfl) (by rfl) (by assumption) ?_))
       clear HI_u HI_v
       simp only [World.size_alloc] at h_rf
       generalize (w10.alloc (.cells (uV (sg (oTop (some q))) A_p n_p c_p C_p m_p d_p ds_u) 37)).alloc (.cells (fltC (0) (0)) 56) = w11 at *
       obtain ⟨q_f, eg⟩ : ∃ g, g = w10.heap.size + 1 := ⟨_, rfl⟩
       have ne_f_t : Hid (q_f ≠ q_t) := by show _ ≠ _; have := tl_t.out; omega
       rw [← eg] at h_rf ⊢
       clear eg
       obtain ⟨q_p, eg⟩ : ∃ g, g = w10.heap.size := ⟨_, rfl⟩
       have ne_p_t : Hid (q_p ≠ q_t) := by show _ ≠ _; have := tl_t.out; omega
       rw [← eg] at h_rp ⊢
       clear eg
       clear tl_t
       refine (keepUnit_eq (uv_of (HX0.out.below bw) HL_u.out) (uv_qt h_qv HL_u.out) rfl rfl).mono ?_
       rintro e w12 ⟨rfl, bn⟩
       replace h_ru := h_ru.below bn
       replace hM := hM.below bn
       replace h_qv := h_qv.below bn
       replace h_rv := h_rv.below bn
       replace h_qp := h_qp.below bn
       replace h_rp := h_rp.below bn
       replace h_rf := h_rf.below bn
       replace bw := below_two bw bn
       clear bn
       have k0_f := h_rf.cell (k := 0) (v := .int .i64 (0)) rfl
       have HI_p := Lib.hid h_rp.inV
       have HI_u := Lib.hid h_ru.inV
       go_wp2_with (refine wpList_loadV (by rfl) _ _ (by rfl) _ _ (by rfl) _ (by assumption) (by assumption) ?_)
       clear HI_p HI_u k0_f
       refine (keepUnit_eq (uv_qt h_qp HL_u.out) (uv_of (HX0.out.below bw) HL_u.out) rfl rfl).mono ?_
       rintro e w13 ⟨rfl, bn⟩
       replace h_ru := h_ru.below bn
       replace hM := hM.below bn
       replace h_qv := h_qv.below bn
       replace h_rv := h_rv.below bn
       replace h_qp := h_qp.below bn
       replace h_rp := h_rp.below bn
       replace h_rf := h_rf.below bn
       replace bw := below_two bw bn
       clear bn
       go_wp2_with fail
       refine (uNames_d (HT0.out.below bw) hM bw.size 93 HLEN.out (by decide)).mono ?_
       rintro e w14 ⟨A_w14, c_w14, rfl, bn⟩
       replace h_ru := h_ru.below bn
       replace hM := hM.below bn
       replace h_qv := h_qv.below bn
       replace h_rv := h_rv.below bn
       replace h_qp := h_qp.below bn
       replace h_rp := h_rp.below bn
       replace h_rf := h_rf.below bn
       replace bw := below_two bw bn
       clear bn
       have HI_u := Lib.hid h_ru.inV
       go_wp2_with (refine wpList_loadV (by rfl) _ _ (by rfl) _ _ (by rfl) _ (by assumption) (by assumption) ?_)
       clear HI_u
       refine (uTwice_d (HT0.out.below bw) hM bw.size s_name (by have := hz.out; omega) (HX0.out.below bw) (by decide) HL_u.out H64_u.out HN HY HW).mono ?_
       rintro e w15 ⟨rfl, bn⟩
       replace h_ru := h_ru.below bn
       replace hM := hM.below bn
       replace h_qv := h_qv.below bn
       replace h_rv := h_rv.below bn
       replace h_qp := h_qp.below bn
       replace h_rp := h_rp.below bn
       replace h_rf := h_rf.below bn
       replace bw := below_two bw bn
       clear bn
       go_wp2_with fail
       refine (wakes_any _ (Lib.hid (HT0.out.below bw))).mono ?_
       rintro e w16 ⟨rfl, bn⟩
       replace h_ru := h_ru.below bn
       replace hM := hM.below bn
       replace h_qv := h_qv.below bn
       replace h_rv := h_rv.below bn
       replace h_qp := h_qp.below bn
       replace h_rp := h_rp.below bn
       replace h_rf := h_rf.below bn
       replace bw := below_two bw bn
       clear bn
       go_wp2
       go_ret
       exact ⟨rfl, bw⟩
theorem tab_of {W : World} (h : laidMet Tryz.prog Rows.unitDefinesRow.laid W) : UTab W := by
 refine ?_
 · first | exact prefixes_tab (laidMet_drop 0 h) (by decide +kernel) | exact prefixes_tab (laidMet_drop 1 h) (by decide +kernel) | exact prefixes_tab (laidMet_drop 2 h) (by decide +kernel) | exact prefixes_tab (laidMet_drop 3 h) (by decide +kernel) | exact prefixes_tab (laidMet_drop 4 h) (by decide +kernel) | exact prefixes_tab (laidMet_drop 5 h) (by decide +kernel) | exact prefixes_tab (laidMet_drop 6 h) (by decide +kernel) | exact prefixes_tab (laidMet_drop 7 h) (by decide +kernel) | exact prefixes_tab (laidMet_drop 8 h) (by decide +kernel) | exact prefixes_tab (laidMet_drop 9 h) (by decide +kernel) | exact prefixes_tab (laidMet_drop 10 h) (by decide +kernel) | exact prefixes_tab (laidMet_drop 11 h) (by decide +kernel) | exact prefixes_tab (laidMet_drop 12 h) (by decide +kernel) | exact prefixes_tab (laidMet_drop 13 h) (by decide +kernel)
set_option maxRecDepth 100000 in
theorem lifted (os : Os) (started : os.Started) (H : Type) (enc : TypeId × Value → H) :
 ReturnsInHanded {} Tryz.checked os 7 .any (fun w args => (Rows.unitDefinesSpec.pre enc Tryz.prog Tryz.f7 [] false w args ∧ laidMetH Tryz.prog Rows.unitDefinesRow.laid w) ∧ sizedMet enc Tryz.prog Tryz.f7 (OpenSpec.ofChange Rows.unitDefinesSpec) false w args)
  (Rows.unitDefinesSpec.post enc Tryz.prog Tryz.f7 false true false false) := by
 refine returnsInHanded_of_change_and (C := Tryz.checked) (X := fun w _ => laidMetH Tryz.prog Rows.unitDefinesRow.laid w) (fun _ _ _ hh h => h.of_heap hh) own started (by kernel_rfl) Tryz.func7
  (ChangeSpec.witness_shaped (enc := enc) (C := Tryz.checked) (os := os) (X := fun w _ => laidMetH Tryz.prog Rows.unitDefinesRow.laid w) false (World.laidAll Tryz.prog os Rows.unitDefinesRow.laid) #[.string ⟨#[]⟩, .agg #[.bool false, .slice none 0 0, .slice none 0 0, .int .i64 0, .int .i64 0, .int .i64 0, .int .i64 0, .int .i64 0, .int .i64 0, .int .i64 0]] 8 (World.laidAll_os _ _ _)
    (World.shaped_of_ZipB (by kernel_rfl) (by kernel_rfl)) (by kernel_rfl) (by kernel_rfl) (by kernel_rfl)
    (by rw [MakeChecks.laidMetH_plain _ _ _ (by kernel_rfl)]; exact laidMet_laidAll _ (by kernel_rfl) (by kernel_rfl))) ?_
 intro W base args ds gs before hval0 hW _ _ hL _
 have hval : ∀ (j : Nat) t v, Tryz.f7.params[j]? = some t → args[j]? = some v → Value.okWide Tryz.prog W .any base t v := hval0
 have hW' := hW
 obtain ⟨p, q, hA0, hV, rfl, hfz, hnd⟩ := hW
 have hA : DataW.TrodAll enc Tryz.prog W 0 (fun _ => true) true Tryz.f7.params.toList args.toList ds p := hA0
 rw [Tryz.params7] at hA hval
 obtain ⟨v0, vs0, d0, ds0, p0, q0, hargs, rfl, rfl, h0, r0⟩ := trodAll_cons hA
 obtain ⟨v1, vs1, d1, ds1, p1, q1, rfl, rfl, rfl, h1, r1⟩ := trodAll_cons r0
 obtain ⟨rfl, rfl, rfl⟩ := trodAll_nil r1
 obtain rfl : args = #[v0, v1] := by cases args; simp_all
 obtain ⟨rfl, rfl⟩ := trodVars_none hV
 obtain ⟨a0, rfl, rfl, rfl, w0⟩ := Go.ChangeMaps.open_string Tryz.underlying9 (hval 0 9 v0 rfl rfl) h0
 obtain ⟨b1, a1, len1, cap1, z1, e1, lem1, dap1, y1, x1, rfl, i1, hc1, hm1, k1, kc1, km1, lx1, fx1⟩ := open_unit (hval 1 37 v1 rfl rfl) h1
 clear hA0 hval0
 simp only [List.append_nil] at hW'
 rw [MakeChecks.laidMetH_plain _ _ _ (by kernel_rfl)] at hL
 refine (walk a0 b1 a1 len1 cap1 z1 e1 lem1 dap1 y1 x1 W w0 i1 hc1 hm1 k1 kc1 km1 lx1 fx1 (tab_of hL)).mono fun e W' ⟨he, bel⟩ => ?_
 subst he
 exact ⟨_, rfl, _, _, _, [], _, [], hW', trodAll_mk1 (shut_bool Tryz.underlying4 _), (trodAll_cons_mk (Go.ChangeMaps.shut_string Tryz.underlying9 w0) (trodAll_cons_mk (Below.trod laidOut (by kernel_rfl) (of_decide_eq_true (by kernel_rfl)) h1 bel (places_lt h1)) trodAll_mk0)), rfl, bel.frame _, fun h => by cases h⟩
theorem over : Rows.unitDefinesRow.holds Tryz.pinned (OpenSpec.ofChange Rows.unitDefinesSpec) :=
 OpenClaim.holds_of_wide 7 Tryz.f7 rfl rfl rfl rfl rfl rfl rfl ⟨rfl, rfl, rfl, rfl, rfl⟩ rfl rfl rfl rfl rfl (by kernel_rfl) Tryz.func7 (by kernel_rfl)
  (of_decide_eq_true (by kernel_rfl)) (by unfold Func.isWrapper; first | (rw [if_pos (by decide +kernel)]; kernel_rfl) | (rw [if_neg (by decide +kernel)]; exact ⟨rfl, rfl⟩))
  (fun os started H enc _ => lifted os started H enc)
theorem proved : Rows.UnitDefinesCardSaid :=
 Claim7.holds_tied_plain_at .later [] Rows.unitDefinesCard.laidKinds true Rows.unitDefinesCard.stood.harness Rows.unitDefinesCard.stood.looks
  over (fun _ h => by cases h) (by kernel_rfl) (fun _ h => by cases h) unitDefines_row_tie rfl ⟨rfl, rfl⟩ (by kernel_rfl) rfl
  (fun f fn hf hfn => by
    obtain rfl : f = 7 := Option.some.inj ((show Tryz.prog.funcNamed Rows.unitDefinesRow.func = some 7 by kernel_rfl).symm.trans hf) |>.symm
    obtain rfl : fn = Tryz.f7 := (Option.some.inj (Tryz.func7.symm.trans hfn)).symm
    exact ⟨by kernel_rfl, fun j t ht => by
     have hm : t ∈ Tryz.f7.params.toList := by simpa using Array.mem_of_getElem? ht
     have hall : (Tryz.f7.params.toList.all fun u => !Tryz.prog.wantsStandIn u) = true := by kernel_rfl
     exact (show Tryz.prog.wantsStandIn t = false by simpa using List.all_eq_true.1 hall t hm)⟩)
  (by kernel_rfl)
end Go.Proofs.YtohokfbohdoijaaGreatDoor.lawUnitDefines
