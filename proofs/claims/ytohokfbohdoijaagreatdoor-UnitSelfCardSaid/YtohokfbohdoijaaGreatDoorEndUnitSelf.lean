/- Of any text and any small number: a unit by itself is 1; to a power and that power's negative, too; blanks change nothing. Condition: the variables that the row lists read as listed. -/
import Derived.Test.YtohokfbohdoijaaGreatDoorM13
import Derived.Test.YtohokfbohdoijaaGreatDoorCards
import Derived.Test.YtohokfbohdoijaaGreatDoorTie
import Derived.ChangeMaps5
import Derived.Lay
import Derived.SevenTiedAt
/- Of any text and any small number: a unit by itself is 1; to a power and that power's negative, too; blanks change nothing. Condition: the variables that the row lists read as listed. -/
namespace Go.Proofs.YtohokfbohdoijaaGreatDoor.lawUnitSelf
open Go.ChangeShapes Go.WideShapes Go.ChangeAt Go.RowKit Limb
set_option linter.unusedVariables false
theorem i64_wf {xs : List Int} (h : ∀ x ∈ xs, (Lit.int .i64 x).wf = true) : I64 xs := fun x hx => by
 have := h x hx
 have e1 : IntKind.i64.min = -9223372036854775808 := rfl
 have e2 : IntKind.i64.max = 9223372036854775807 := rfl
 simp only [Lit.wf, Bool.and_eq_true, decide_eq_true_eq] at this
 omega
set_option maxHeartbeats 8000000 in
set_option maxRecDepth 100000 in
theorem walk (s_s : ByteArray) (v_n : Int) (w : World) (z_s : s_s.size ≤ maxLen) (f_n : (Lit.int .u8 v_n).wf = true) (HT : UTab w) :
 Calls Tryz.prog 6 #[.string s_s, .int .u8 v_n] w fun e w' => e = .returned (.bool true) ∧ Below w.heap.size w w' := by
 have HT0 := Lib.hid HT
 clear HT
 obtain ⟨N_n, e_n, hN_n⟩ : ∃ N : Nat, v_n = (N : Int) ∧ N < 256 := by
  have e1 : IntKind.u8.min = 0 := rfl
  have e2 : IntKind.u8.max = 255 := rfl
  simp only [Lit.wf, Bool.and_eq_true, decide_eq_true_eq] at f_n
  exact ⟨v_n.toNat, by omega, by omega⟩
 subst e_n
 clear f_n
 have bw := bel_refl w
 go_enter Tryz.func6, Tryz.ntmps6
 go_wp2_with fail
 have BSZ := bw.size
 refine (uNew_c w).mono ?_
 rintro e w1 ⟨rfl, rfl⟩
 have bn := below_new w (.cells (tabV 0 none) 95)
 replace bw := below_two bw bn
 clear bn
 obtain ⟨q_t, eg⟩ : ∃ g, g = w.heap.size := ⟨_, rfl⟩
 have hS : TabS (w.alloc (.cells (tabV 0 none) 95)) w.heap.size q_t stdU := .inl ⟨by rw [eg]; exact tabF_new _, by rw [eg]; exact BSZ, rfl⟩
 rw [← eg]
 generalize w.alloc (.cells (tabV 0 none) 95) = w2 at *
 clear eg BSZ
 by_cases h60 : 60 < s_s.size
 · have hgt : (60 : Int) < (s_s.size : Int) := by omega
   go_wp2_with fail
   refine (wakes_any _ (Lib.hid (HT0.out.below bw))).mono ?_
   rintro e w3 ⟨rfl, bn⟩
   replace hS := hS.below bn
   replace bw := below_two bw bn
   clear bn
   go_wp2
   go_ret
   exact ⟨rfl, bw⟩
 · have hle : (s_s.size : Int) ≤ 60 := by omega
   have hd1 : decide ((60 : Int) < (s_s.size : Int)) = false := decide_eq_false (by omega)
   have hz : Hid (s_s.size ≤ 60) := by show _ ≤ _; omega
   clear h60
   go_wp2_with fail
   cases hN : isNm (bytesOf s_s) with
   | false =>
    have HN := Lib.hid hN
    clear hN
    cases hR : parseU stdU (bytesOf s_s) with
    | bad x r =>
     have HR := Lib.hid hR
     clear hR
     refine (refName_c s_s (by have := hz.out; omega) false HN.out _).mono ?_
     rintro e wx ⟨rfl, rfl⟩
     go_wp2_with fail
     refine (tParse_main (HT0.out.below bw) hS bw.size s_s (by have := hz.out; omega)).mono ?_
     rintro e w3 ⟨V_p, E_p, W_p, rfl, ⟨mb, hM⟩, hk, hp⟩
     replace bw := bw.trans hk.bel
     clear hk hS
     rw [HR.out] at hp
     obtain ⟨e1, e2, e3, e4⟩ := hp
     rw [← e1] at e3
     subst e4
     clear e1 e2
     have hE_p : (E_p != 0) = true := by simpa using e3
     clear e3
     have HU_p := Lib.hid (fits10 (V := z10) rfl z10_one)
     have HU_f := Lib.hid (fitsF (E_p) (W_p))
     have tl_t : Hid (q_t < w3.heap.size) := hM.s.lt
     have h_rp := rowA_new w3 37 z10
     have bn := below_new w3 (.cells z10 37)
     replace hM := hM.below bn
     replace bw := below_two bw bn
     clear bn
     have h_rf := rowA_new (w3.alloc (.cells z10 37)) 56 (fltC (E_p) (W_p))
     have bn := below_new (w3.alloc (.cells z10 37)) (.cells (fltC (E_p) (W_p)) 56)
     replace hM := hM.below bn
     replace h_rp := h_rp.below bn
     replace bw := below_two bw bn
     clear bn
     have k0_f := h_rf.cell (k := 0) (v := .int .i64 (E_p)) rfl
     go_wp2_with (first | (refine wpList_storeNewB (by rfl) _ _ _ (by rfl) _ _ _ _ (by rfl) (by rfl) (by assumption) ?_) | (refine wpList_storeNewAt (by rfl) _ _ _ (by rfl) _ _ _ _ (by rfl) (by rfl) (by simp) (by assumption) ?_) | (refine wpList_storeNew (by rfl) _ _ _ (by rfl) _ _ _ (by rfl) (by rfl) (by assumption) ?_))
     clear k0_f
     simp only [World.size_alloc] at h_rf
     generalize (w3.alloc (.cells z10 37)).alloc (.cells (fltC (E_p) (W_p)) 56) = w4 at *
     obtain ⟨q_f, eg⟩ : ∃ g, g = w3.heap.size + 1 := ⟨_, rfl⟩
     have ne_f_t : Hid (q_f ≠ q_t) := by show _ ≠ _; have := tl_t.out; omega
     rw [← eg] at h_rf ⊢
     clear eg
     obtain ⟨q_p, eg⟩ : ∃ g, g = w3.heap.size := ⟨_, rfl⟩
     have ne_p_t : Hid (q_p ≠ q_t) := by show _ ≠ _; have := tl_t.out; omega
     rw [← eg] at h_rp ⊢
     clear eg
     clear tl_t
     refine (wakes_any _ (Lib.hid (HT0.out.below bw))).mono ?_
     rintro e w5 ⟨rfl, bn⟩
     replace hM := hM.below bn
     replace h_rp := h_rp.below bn
     replace h_rf := h_rf.below bn
     replace bw := below_two bw bn
     clear bn
     go_wp2
     go_ret
     exact ⟨rfl, bw⟩
    | ok y =>
     obtain ⟨q, ds⟩ := y
     have HR := Lib.hid hR
     have HL : Hid (ds.length = 7) := (parseU_ok stdU_ok _ _ _ _ _ oneU_ok hR).2.2.1
     clear hR
     refine (refName_c s_s (by have := hz.out; omega) false HN.out _).mono ?_
     rintro e wx ⟨rfl, rfl⟩
     go_wp2_with fail
     refine (tParse_main (HT0.out.below bw) hS bw.size s_s (by have := hz.out; omega)).mono ?_
     rintro e w3 ⟨V_p, E_p, W_p, rfl, ⟨mb, hM⟩, hk, hp⟩
     replace bw := bw.trans hk.bel
     clear hk hS
     rw [HR.out] at hp
     obtain ⟨rfl, rfl, hok_p, A_p, n_p, c_p, C_p, m_p, d_p, rfl, h_qp, hl_p⟩ := hp
     have HU_p := Lib.hid (fits10 (size_uV hl_p) (uV_one (s := sg (oTop (some q))) (A := A_p) (n := n_p) (c := c_p) (B := C_p) (m := m_p) (d := d_p) (xs := ds)))
     clear hok_p hl_p
     have HU_f := Lib.hid (fitsF (0) (0))
     have tl_t : Hid (q_t < w3.heap.size) := hM.s.lt
     have h_rp := rowA_new w3 37 (uV (sg (oTop (some q))) A_p n_p c_p C_p m_p d_p ds)
     have bn := below_new w3 (.cells (uV (sg (oTop (some q))) A_p n_p c_p C_p m_p d_p ds) 37)
     replace hM := hM.below bn
     replace h_qp := h_qp.below bn
     replace bw := below_two bw bn
     clear bn
     have h_rf := rowA_new (w3.alloc (.cells (uV (sg (oTop (some q))) A_p n_p c_p C_p m_p d_p ds) 37)) 56 (fltC (0) (0))
     have bn := below_new (w3.alloc (.cells (uV (sg (oTop (some q))) A_p n_p c_p C_p m_p d_p ds) 37)) (.cells (fltC (0) (0)) 56)
     replace hM := hM.below bn
     replace h_qp := h_qp.below bn
     replace h_rp := h_rp.below bn
     replace bw := below_two bw bn
     clear bn
     have k0_f := h_rf.cell (k := 0) (v := .int .i64 (0)) rfl
     go_wp2_with (first | (refine wpList_storeNewB (by rfl) _ _ _ (by rfl) _ _ _ _ (by rfl) (by rfl) (by assumption) ?_) | (refine wpList_storeNewAt (by rfl) _ _ _ (by rfl) _ _ _ _ (by rfl) (by rfl) (by simp) (by assumption) ?_) | (refine wpList_storeNew (by rfl) _ _ _ (by rfl) _ _ _ (by rfl) (by rfl) (by assumption) ?_))
     clear k0_f
     simp only [World.size_alloc] at h_rf
     generalize (w3.alloc (.cells (uV (sg (oTop (some q))) A_p n_p c_p C_p m_p d_p ds) 37)).alloc (.cells (fltC (0) (0)) 56) = w4 at *
     obtain ⟨q_f, eg⟩ : ∃ g, g = w3.heap.size + 1 := ⟨_, rfl⟩
     have ne_f_t : Hid (q_f ≠ q_t) := by show _ ≠ _; have := tl_t.out; omega
     rw [← eg] at h_rf ⊢
     clear eg
     obtain ⟨q_p, eg⟩ : ∃ g, g = w3.heap.size := ⟨_, rfl⟩
     have ne_p_t : Hid (q_p ≠ q_t) := by show _ ≠ _; have := tl_t.out; omega
     rw [← eg] at h_rp ⊢
     clear eg
     clear tl_t
     refine (wakes_any _ (Lib.hid (HT0.out.below bw))).mono ?_
     rintro e w5 ⟨rfl, bn⟩
     replace hM := hM.below bn
     replace h_qp := h_qp.below bn
     replace h_rp := h_rp.below bn
     replace h_rf := h_rf.below bn
     replace bw := below_two bw bn
     clear bn
     go_wp2
     go_ret
     exact ⟨rfl, bw⟩
   | true =>
    have HN := Lib.hid hN
    clear hN
    cases hR : parseU stdU (bytesOf s_s) with
    | bad x r =>
     have HR := Lib.hid hR
     clear hR
     refine (refName_c s_s (by have := hz.out; omega) true HN.out _).mono ?_
     rintro e wx ⟨rfl, rfl⟩
     go_wp2_with fail
     refine (tParse_main (HT0.out.below bw) hS bw.size s_s (by have := hz.out; omega)).mono ?_
     rintro e w3 ⟨V_p, E_p, W_p, rfl, ⟨mb, hM⟩, hk, hp⟩
     replace bw := bw.trans hk.bel
     clear hk hS
     rw [HR.out] at hp
     obtain ⟨e1, e2, e3, e4⟩ := hp
     rw [← e1] at e3
     subst e4
     clear e1 e2
     have hE_p : (E_p != 0) = true := by simpa using e3
     clear e3
     have HU_p := Lib.hid (fits10 (V := z10) rfl z10_one)
     have HU_f := Lib.hid (fitsF (E_p) (W_p))
     have tl_t : Hid (q_t < w3.heap.size) := hM.s.lt
     have h_rp := rowA_new w3 37 z10
     have bn := below_new w3 (.cells z10 37)
     replace hM := hM.below bn
     replace bw := below_two bw bn
     clear bn
     have h_rf := rowA_new (w3.alloc (.cells z10 37)) 56 (fltC (E_p) (W_p))
     have bn := below_new (w3.alloc (.cells z10 37)) (.cells (fltC (E_p) (W_p)) 56)
     replace hM := hM.below bn
     replace h_rp := h_rp.below bn
     replace bw := below_two bw bn
     clear bn
     have k0_f := h_rf.cell (k := 0) (v := .int .i64 (E_p)) rfl
     go_wp2_with (first | (refine wpList_storeNewB (by rfl) _ _ _ (by rfl) _ _ _ _ (by rfl) (by rfl) (by assumption) ?_) | (refine wpList_storeNewAt (by rfl) _ _ _ (by rfl) _ _ _ _ (by rfl) (by rfl) (by simp) (by assumption) ?_) | (refine wpList_storeNew (by rfl) _ _ _ (by rfl) _ _ _ (by rfl) (by rfl) (by assumption) ?_))
     clear k0_f
     simp only [World.size_alloc] at h_rf
     generalize (w3.alloc (.cells z10 37)).alloc (.cells (fltC (E_p) (W_p)) 56) = w4 at *
     obtain ⟨q_f, eg⟩ : ∃ g, g = w3.heap.size + 1 := ⟨_, rfl⟩
     have ne_f_t : Hid (q_f ≠ q_t) := by show _ ≠ _; have := tl_t.out; omega
     rw [← eg] at h_rf ⊢
     clear eg
     obtain ⟨q_p, eg⟩ : ∃ g, g = w3.heap.size := ⟨_, rfl⟩
     have ne_p_t : Hid (q_p ≠ q_t) := by show _ ≠ _; have := tl_t.out; omega
     rw [← eg] at h_rp ⊢
     clear eg
     clear tl_t
     refine (wakes_any _ (Lib.hid (HT0.out.below bw))).mono ?_
     rintro e w5 ⟨rfl, bn⟩
     replace hM := hM.below bn
     replace h_rp := h_rp.below bn
     replace h_rf := h_rf.below bn
     replace bw := below_two bw bn
     clear bn
     go_wp2
     go_ret
     exact ⟨rfl, bw⟩
    | ok y =>
     obtain ⟨u, hu⟩ : ∃ u, stdU.lookup (bytesOf s_s) = some u := by
      cases e : stdU.lookup (bytesOf s_s) with
      | none => rw [parse_noname HN.out e] at hR; cases hR
      | some u => exact ⟨u, rfl⟩
     have hok := stdU_ok.ok hu
     obtain ⟨q, ds⟩ := u
     obtain ⟨j, hj⟩ : ∃ j, N_n % 5 = j := ⟨_, rfl⟩
     have hj5 : j < 5 := by omega
     obtain ⟨F1, F2, F3⟩ := self_facts HN.out hu hj5
     have HR := Lib.hid (parse_name HN.out hu hok)
     have HL : Hid (ds.length = 7) := hok.2.2.1
     have ek : (N_n : Int) % 5 = (j : Int) := by omega
     have etm : (N_n : Int).tmod 5 = (j : Int) := by rw [Int.tmod_eq_emod_of_nonneg (by omega)]; exact ek
     have ewr : IntKind.i64.wrap (N_n : Int) = (N_n : Int) := by rw [IntKind.wrap_i64]; omega
     obtain ⟨D, hD⟩ : ∃ D, Limb.strOf [48 + j] = D := ⟨_, rfl⟩
     have zD : D.size = 1 := by rw [← hD, size_strOf]; rfl
     have bD : bytesOf D = [48 + j] := by rw [← hD, bytesOf_strOf (bytes_cons.2 ⟨by omega, bytes_nil⟩)]
     have HJ : Hid (j < 10) := by show _ < _; omega
     obtain ⟨X1, hX1⟩ : ∃ X : ByteArray, (s_s ++ ⟨#[47]⟩ ++ s_s) = X := ⟨_, rfl⟩
     obtain ⟨X2, hX2⟩ : ∃ X : ByteArray, (s_s ++ ⟨#[94]⟩ ++ D ++ ⟨#[42]⟩ ++ s_s ++ ⟨#[94, 45]⟩ ++ D) = X := ⟨_, rfl⟩
     obtain ⟨X3, hX3⟩ : ∃ X : ByteArray, (⟨#[32, 32]⟩ ++ s_s ++ ⟨#[32, 94, 32, 49, 32]⟩) = X := ⟨_, rfl⟩
     have HP1 : Hid (parseU stdU (bytesOf X1) = .ok ((1, dimZ) : UQ)) := by
      show _ = _
      rw [← hX1]
      refine Eq.trans (congrArg (parseU stdU) ?_) F1
      simp only [bytesOf_append, (show bytesOf ⟨#[47]⟩ = [47] from rfl), List.append_assoc, List.cons_append, List.nil_append]
     have HZ1 : Hid (X1.size ≤ 200) := by
      show _ ≤ _
      rw [← hX1]
      have := hz.out
      simp only [ByteArray.size_append, (show (⟨#[47]⟩ : ByteArray).size = 1 from rfl)]
      omega
     have HP2 : Hid (parseU stdU (bytesOf X2) = .ok ((1, dimZ) : UQ)) := by
      show _ = _
      rw [← hX2]
      refine Eq.trans (congrArg (parseU stdU) ?_) F2
      simp only [bytesOf_append, bD, (show bytesOf ⟨#[94]⟩ = [94] from rfl), (show bytesOf ⟨#[42]⟩ = [42] from rfl), (show bytesOf ⟨#[94, 45]⟩ = [94, 45] from rfl), List.append_assoc, List.cons_append, List.nil_append]
     have HZ2 : Hid (X2.size ≤ 200) := by
      show _ ≤ _
      rw [← hX2]
      have := hz.out
      simp only [ByteArray.size_append, zD, (show (⟨#[94]⟩ : ByteArray).size = 1 from rfl), (show (⟨#[42]⟩ : ByteArray).size = 1 from rfl), (show (⟨#[94, 45]⟩ : ByteArray).size = 2 from rfl)]
      omega
     have HP3 : Hid (parseU stdU (bytesOf X3) = .ok ((q, ds) : UQ)) := by
      show _ = _
      rw [← hX3]
      refine Eq.trans (congrArg (parseU stdU) ?_) F3
      simp only [bytesOf_append, (show bytesOf ⟨#[32, 32]⟩ = [32, 32] from rfl), (show bytesOf ⟨#[32, 94, 32, 49, 32]⟩ = [32, 94, 32, 49, 32] from rfl), List.cons_append, List.nil_append]
     have HZ3 : Hid (X3.size ≤ 200) := by
      show _ ≤ _
      rw [← hX3]
      have := hz.out
      simp only [ByteArray.size_append, (show (⟨#[32, 32]⟩ : ByteArray).size = 2 from rfl), (show (⟨#[32, 94, 32, 49, 32]⟩ : ByteArray).size = 5 from rfl)]
      omega
     have HX1 := Lib.hid hX1
     have HX2 := Lib.hid hX2
     have HX3 := Lib.hid hX3
     clear hX1 hX2 hX3
     have HD := Lib.hid hD
     have HO := Lib.hid (show dimZ.length = 7 from rfl)
     clear F1 F2 F3 bD hD hj hj5 hok hu hR
     refine (refName_c s_s (by have := hz.out; omega) true HN.out _).mono ?_
     rintro e wx ⟨rfl, rfl⟩
     go_wp2_with fail
     refine (tParse_main (HT0.out.below bw) hS bw.size s_s (by have := hz.out; omega)).mono ?_
     rintro e w3 ⟨V_p, E_p, W_p, rfl, ⟨mb, hM⟩, hk, hp⟩
     replace bw := bw.trans hk.bel
     clear hk hS
     rw [HR.out] at hp
     obtain ⟨rfl, rfl, hok_p, A_p, n_p, c_p, C_p, m_p, d_p, rfl, h_qp, hl_p⟩ := hp
     have HU_p := Lib.hid (fits10 (size_uV hl_p) (uV_one (s := sg (oTop (some q))) (A := A_p) (n := n_p) (c := c_p) (B := C_p) (m := m_p) (d := d_p) (xs := ds)))
     clear hok_p hl_p
     have HU_f := Lib.hid (fitsF (0) (0))
     have tl_t : Hid (q_t < w3.heap.size) := hM.s.lt
     have h_rp := rowA_new w3 37 (uV (sg (oTop (some q))) A_p n_p c_p C_p m_p d_p ds)
     have bn := below_new w3 (.cells (uV (sg (oTop (some q))) A_p n_p c_p C_p m_p d_p ds) 37)
     replace hM := hM.below bn
     replace h_qp := h_qp.below bn
     replace bw := below_two bw bn
     clear bn
     have h_rf := rowA_new (w3.alloc (.cells (uV (sg (oTop (some q))) A_p n_p c_p C_p m_p d_p ds) 37)) 56 (fltC (0) (0))
     have bn := below_new (w3.alloc (.cells (uV (sg (oTop (some q))) A_p n_p c_p C_p m_p d_p ds) 37)) (.cells (fltC (0) (0)) 56)
     replace hM := hM.below bn
     replace h_qp := h_qp.below bn
     replace h_rp := h_rp.below bn
     replace bw := below_two bw bn
     clear bn
     have k0_f := h_rf.cell (k := 0) (v := .int .i64 (0)) rfl
     go_wp2_with (first | (refine wpList_storeNewB (by rfl) _ _ _ (by rfl) _ _ _ _ (by rfl) (by rfl) (by assumption) ?_) | (refine wpList_storeNewAt (by rfl) _ _ _ (by rfl) _ _ _ _ (by rfl) (by rfl) (by simp) (by assumption) ?_) | (refine wpList_storeNew (by rfl) _ _ _ (by rfl) _ _ _ (by rfl) (by rfl) (by assumption) ?_))
     clear k0_f
     simp only [World.size_alloc] at h_rf
     generalize (w3.alloc (.cells (uV (sg (oTop (some q))) A_p n_p c_p C_p m_p d_p ds) 37)).alloc (.cells (fltC (0) (0)) 56) = w4 at *
     obtain ⟨q_f, eg⟩ : ∃ g, g = w3.heap.size + 1 := ⟨_, rfl⟩
     have ne_f_t : Hid (q_f ≠ q_t) := by show _ ≠ _; have := tl_t.out; omega
     rw [← eg] at h_rf ⊢
     clear eg
     obtain ⟨q_p, eg⟩ : ∃ g, g = w3.heap.size := ⟨_, rfl⟩
     have ne_p_t : Hid (q_p ≠ q_t) := by show _ ≠ _; have := tl_t.out; omega
     rw [← eg] at h_rp ⊢
     clear eg
     clear tl_t
     clear HU_p HU_f
     refine (dec12_c j HJ.out _).mono ?_
     rintro e w5 ⟨rfl, bn⟩
     replace hM := hM.below bn
     replace h_qp := h_qp.below bn
     replace h_rp := h_rp.below bn
     replace h_rf := h_rf.below bn
     replace bw := below_two bw bn
     clear bn
     rw [HD.out]
     go_wp2_with fail
     refine (rWhole_is 1 (by decide) (by decide) 1 (by decide) _).mono ?_
     rintro e w6 ⟨A_o, n_o, c_o, C_o, m_o, d_o, rfl, h_qo, bn⟩
     replace hM := hM.below bn
     replace h_qp := h_qp.below bn
     replace h_rp := h_rp.below bn
     replace h_rf := h_rf.below bn
     replace bw := below_two bw bn
     clear bn
     have HU_o := Lib.hid (fits10 (size_uV HO.out) (uV_one (s := sg (oTop (some 1))) (A := A_o) (n := n_o) (c := c_o) (B := C_o) (m := m_o) (d := d_o) (xs := dimZ)))
     have HBL_o : Hid (∀ W, (Instr.build 37 ([(0, .agg #[.bool (sg (oTop (some 1))), .slice A_o n_o c_o, .slice C_o m_o d_o])] : List (Nat × Value)).toArray).run Tryz.prog W = .ok (.agg (uV (sg (oTop (some 1))) A_o n_o c_o C_o m_o d_o dimZ)) W) := fun W => build_unit0 W
     have tl_t : Hid (q_t < w6.heap.size) := hM.s.lt
     have h_ro := rowA_new w6 37 (uV (sg (oTop (some 1))) A_o n_o c_o C_o m_o d_o dimZ)
     have bn := below_new w6 (.cells (uV (sg (oTop (some 1))) A_o n_o c_o C_o m_o d_o dimZ) 37)
     replace hM := hM.below bn
     replace h_qp := h_qp.below bn
     replace h_rp := h_rp.below bn
     replace h_rf := h_rf.below bn
     replace h_qo := h_qo.below bn
     replace bw := below_two bw bn
     clear bn
     go_wp2_with (first | (refine wpList_buildV (by rfl) _ _ (by rfl) _ (by rfl) _ (by assumption) ?_) | (refine wpList_storeNew (by rfl) _ _ _ (by rfl) _ _ _ (by rfl) (by rfl) (by assumption) ?_))
     clear HBL_o
     generalize w6.alloc (.cells (uV (sg (oTop (some 1))) A_o n_o c_o C_o m_o d_o dimZ) 37) = w7 at *
     obtain ⟨q_o, eg⟩ : ∃ g, g = w6.heap.size := ⟨_, rfl⟩
     have ne_o_t : Hid (q_o ≠ q_t) := by show _ ≠ _; have := tl_t.out; omega
     rw [← eg] at h_ro ⊢
     clear eg
     clear tl_t
     rw [HX1.out]
     refine (tParse_main (HT0.out.below bw) hM.s bw.size X1 HZ1.out).mono ?_
     rintro e w8 ⟨V_a, E_a, W_a, rfl, hM2, hk, hp⟩
     have bn := hk.done hM
     clear hk hM2
     replace hM := hM.below bn
     replace h_qp := h_qp.below bn
     replace h_rp := h_rp.below bn
     replace h_rf := h_rf.below bn
     replace h_qo := h_qo.below bn
     replace h_ro := h_ro.below bn
     replace bw := below_two bw bn
     clear bn
     rw [HP1.out] at hp
     obtain ⟨rfl, rfl, hok_a, A_a, n_a, c_a, C_a, m_a, d_a, rfl, h_qa, hl_a⟩ := hp
     have HU_a := Lib.hid (fits10 (size_uV hl_a) (uV_one (s := sg (oTop (some 1))) (A := A_a) (n := n_a) (c := c_a) (B := C_a) (m := m_a) (d := d_a) (xs := dimZ)))
     clear hok_a hl_a
     have HU_e := Lib.hid (fitsF (0) (0))
     have tl_t : Hid (q_t < w8.heap.size) := hM.s.lt
     have h_ra := rowA_new w8 37 (uV (sg (oTop (some 1))) A_a n_a c_a C_a m_a d_a dimZ)
     have bn := below_new w8 (.cells (uV (sg (oTop (some 1))) A_a n_a c_a C_a m_a d_a dimZ) 37)
     replace hM := hM.below bn
     replace h_qp := h_qp.below bn
     replace h_rp := h_rp.below bn
     replace h_rf := h_rf.below bn
     replace h_qo := h_qo.below bn
     replace h_ro := h_ro.below bn
     replace h_qa := h_qa.below bn
     replace bw := below_two bw bn
     clear bn
     have h_re := rowA_new (w8.alloc (.cells (uV (sg (oTop (some 1))) A_a n_a c_a C_a m_a d_a dimZ) 37)) 56 (fltC (0) (0))
     have bn := below_new (w8.alloc (.cells (uV (sg (oTop (some 1))) A_a n_a c_a C_a m_a d_a dimZ) 37)) (.cells (fltC (0) (0)) 56)
     replace hM := hM.below bn
     replace h_qp := h_qp.below bn
     replace h_rp := h_rp.below bn
     replace h_rf := h_rf.below bn
     replace h_qo := h_qo.below bn
     replace h_ro := h_ro.below bn
     replace h_qa := h_qa.below bn
     replace h_ra := h_ra.below bn
     replace bw := below_two bw bn
     clear bn
     go_wp2_with (first | (refine wpList_storeNewB (by rfl) _ _ _ (by rfl) _ _ _ _ (by rfl) (by rfl) (by assumption) ?_) | (refine wpList_storeNewAt (by rfl) _ _ _ (by rfl) _ _ _ _ (by rfl) (by rfl) (by simp) (by assumption) ?_) | (refine wpList_storeNew (by rfl) _ _ _ (by rfl) _ _ _ (by rfl) (by rfl) (by assumption) ?_))
     simp only [World.size_alloc] at h_re
     generalize (w8.alloc (.cells (uV (sg (oTop (some 1))) A_a n_a c_a C_a m_a d_a dimZ) 37)).alloc (.cells (fltC (0) (0)) 56) = w9 at *
     obtain ⟨q_e, eg⟩ : ∃ g, g = w8.heap.size + 1 := ⟨_, rfl⟩
     have ne_e_t : Hid (q_e ≠ q_t) := by show _ ≠ _; have := tl_t.out; omega
     rw [← eg] at h_re ⊢
     clear eg
     obtain ⟨q_a, eg⟩ : ∃ g, g = w8.heap.size := ⟨_, rfl⟩
     have ne_a_t : Hid (q_a ≠ q_t) := by show _ ≠ _; have := tl_t.out; omega
     rw [← eg] at h_ra ⊢
     clear eg
     clear tl_t
     rw [HX2.out]
     refine (tParse_main (HT0.out.below bw) hM.s bw.size X2 HZ2.out).mono ?_
     rintro e w10 ⟨V_b, E_b, W_b, rfl, hM2, hk, hp⟩
     have bn := hk.done hM
     clear hk hM2
     replace hM := hM.below bn
     replace h_qp := h_qp.below bn
     replace h_rp := h_rp.below bn
     replace h_rf := h_rf.below bn
     replace h_qo := h_qo.below bn
     replace h_ro := h_ro.below bn
     replace h_qa := h_qa.below bn
     replace h_ra := h_ra.below bn
     replace h_re := h_re.below bn
     replace bw := below_two bw bn
     clear bn
     rw [HP2.out] at hp
     obtain ⟨rfl, rfl, hok_b, A_b, n_b, c_b, C_b, m_b, d_b, rfl, h_qb, hl_b⟩ := hp
     have HU_b := Lib.hid (fits10 (size_uV hl_b) (uV_one (s := sg (oTop (some 1))) (A := A_b) (n := n_b) (c := c_b) (B := C_b) (m := m_b) (d := d_b) (xs := dimZ)))
     clear hok_b hl_b
     have HU_g := Lib.hid (fitsF (0) (0))
     have tl_t : Hid (q_t < w10.heap.size) := hM.s.lt
     have h_rb := rowA_new w10 37 (uV (sg (oTop (some 1))) A_b n_b c_b C_b m_b d_b dimZ)
     have bn := below_new w10 (.cells (uV (sg (oTop (some 1))) A_b n_b c_b C_b m_b d_b dimZ) 37)
     replace hM := hM.below bn
     replace h_qp := h_qp.below bn
     replace h_rp := h_rp.below bn
     replace h_rf := h_rf.below bn
     replace h_qo := h_qo.below bn
     replace h_ro := h_ro.below bn
     replace h_qa := h_qa.below bn
     replace h_ra := h_ra.below bn
     replace h_re := h_re.below bn
     replace h_qb := h_qb.below bn
     replace bw := below_two bw bn
     clear bn
     have h_rg := rowA_new (w10.alloc (.cells (uV (sg (oTop (some 1))) A_b n_b c_b C_b m_b d_b dimZ) 37)) 56 (fltC (0) (0))
     have bn := below_new (w10.alloc (.cells (uV (sg (oTop (some 1))) A_b n_b c_b C_b m_b d_b dimZ) 37)) (.cells (fltC (0) (0)) 56)
     replace hM := hM.below bn
     replace h_qp := h_qp.below bn
     replace h_rp := h_rp.below bn
     replace h_rf := h_rf.below bn
     replace h_qo := h_qo.below bn
     replace h_ro := h_ro.below bn
     replace h_qa := h_qa.below bn
     replace h_ra := h_ra.below bn
     replace h_re := h_re.below bn
     replace h_qb := h_qb.below bn
     replace h_rb := h_rb.below bn
     replace bw := below_two bw bn
     clear bn
     go_wp2_with (first | (refine wpList_storeNewB (by rfl) _ _ _ (by rfl) _ _ _ _ (by rfl) (by rfl) (by assumption) ?_) | (refine wpList_storeNewAt (by rfl) _ _ _ (by rfl) _ _ _ _ (by rfl) (by rfl) (by simp) (by assumption) ?_) | (refine wpList_storeNew (by rfl) _ _ _ (by rfl) _ _ _ (by rfl) (by rfl) (by assumption) ?_))
     simp only [World.size_alloc] at h_rg
     generalize (w10.alloc (.cells (uV (sg (oTop (some 1))) A_b n_b c_b C_b m_b d_b dimZ) 37)).alloc (.cells (fltC (0) (0)) 56) = w11 at *
     obtain ⟨q_g, eg⟩ : ∃ g, g = w10.heap.size + 1 := ⟨_, rfl⟩
     have ne_g_t : Hid (q_g ≠ q_t) := by show _ ≠ _; have := tl_t.out; omega
     rw [← eg] at h_rg ⊢
     clear eg
     obtain ⟨q_b, eg⟩ : ∃ g, g = w10.heap.size := ⟨_, rfl⟩
     have ne_b_t : Hid (q_b ≠ q_t) := by show _ ≠ _; have := tl_t.out; omega
     rw [← eg] at h_rb ⊢
     clear eg
     clear tl_t
     rw [HX3.out]
     refine (tParse_main (HT0.out.below bw) hM.s bw.size X3 HZ3.out).mono ?_
     rintro e w12 ⟨V_c, E_c, W_c, rfl, hM2, hk, hp⟩
     have bn := hk.done hM
     clear hk hM2
     replace hM := hM.below bn
     replace h_qp := h_qp.below bn
     replace h_rp := h_rp.below bn
     replace h_rf := h_rf.below bn
     replace h_qo := h_qo.below bn
     replace h_ro := h_ro.below bn
     replace h_qa := h_qa.below bn
     replace h_ra := h_ra.below bn
     replace h_re := h_re.below bn
     replace h_qb := h_qb.below bn
     replace h_rb := h_rb.below bn
     replace h_rg := h_rg.below bn
     replace bw := below_two bw bn
     clear bn
     rw [HP3.out] at hp
     obtain ⟨rfl, rfl, hok_c, A_c, n_c, c_c, C_c, m_c, d_c, rfl, h_qc, hl_c⟩ := hp
     have HU_c := Lib.hid (fits10 (size_uV hl_c) (uV_one (s := sg (oTop (some q))) (A := A_c) (n := n_c) (c := c_c) (B := C_c) (m := m_c) (d := d_c) (xs := ds)))
     clear hok_c hl_c
     have HU_h := Lib.hid (fitsF (0) (0))
     have tl_t : Hid (q_t < w12.heap.size) := hM.s.lt
     have h_rc := rowA_new w12 37 (uV (sg (oTop (some q))) A_c n_c c_c C_c m_c d_c ds)
     have bn := below_new w12 (.cells (uV (sg (oTop (some q))) A_c n_c c_c C_c m_c d_c ds) 37)
     replace hM := hM.below bn
     replace h_qp := h_qp.below bn
     replace h_rp := h_rp.below bn
     replace h_rf := h_rf.below bn
     replace h_qo := h_qo.below bn
     replace h_ro := h_ro.below bn
     replace h_qa := h_qa.below bn
     replace h_ra := h_ra.below bn
     replace h_re := h_re.below bn
     replace h_qb := h_qb.below bn
     replace h_rb := h_rb.below bn
     replace h_rg := h_rg.below bn
     replace h_qc := h_qc.below bn
     replace bw := below_two bw bn
     clear bn
     have h_rh := rowA_new (w12.alloc (.cells (uV (sg (oTop (some q))) A_c n_c c_c C_c m_c d_c ds) 37)) 56 (fltC (0) (0))
     have bn := below_new (w12.alloc (.cells (uV (sg (oTop (some q))) A_c n_c c_c C_c m_c d_c ds) 37)) (.cells (fltC (0) (0)) 56)
     replace hM := hM.below bn
     replace h_qp := h_qp.below bn
     replace h_rp := h_rp.below bn
     replace h_rf := h_rf.below bn
     replace h_qo := h_qo.below bn
     replace h_ro := h_ro.below bn
     replace h_qa := h_qa.below bn
     replace h_ra := h_ra.below bn
     replace h_re := h_re.below bn
     replace h_qb := h_qb.below bn
     replace h_rb := h_rb.below bn
     replace h_rg := h_rg.below bn
     replace h_qc := h_qc.below bn
     replace h_rc := h_rc.below bn
     replace bw := below_two bw bn
     clear bn
     have HM_a := Lib.hid (many10 (size_uV (s := sg (oTop (some 1))) (A := A_a) (n := n_a) (c := c_a) (B := C_a) (m := m_a) (d := d_a) HO.out))
     have HM_b := Lib.hid (many10 (size_uV (s := sg (oTop (some 1))) (A := A_b) (n := n_b) (c := c_b) (B := C_b) (m := m_b) (d := d_b) HO.out))
     have HM_c := Lib.hid (many10 (size_uV (s := sg (oTop (some q))) (A := A_c) (n := n_c) (c := c_c) (B := C_c) (m := m_c) (d := d_c) HL.out))
     have HM_p := Lib.hid (many10 (size_uV (s := sg (oTop (some q))) (A := A_p) (n := n_p) (c := c_p) (B := C_p) (m := m_p) (d := d_p) HL.out))
     have HM_o := Lib.hid (many10 (size_uV (s := sg (oTop (some 1))) (A := A_o) (n := n_o) (c := c_o) (B := C_o) (m := m_o) (d := d_o) HO.out))
     have k0_e := h_re.cell (k := 0) (v := .int .i64 (0)) rfl
     have k0_g := h_rg.cell (k := 0) (v := .int .i64 (0)) rfl
     have k0_h := h_rh.cell (k := 0) (v := .int .i64 (0)) rfl
     have HI_a := Lib.hid h_ra.inV
     have HI_o := Lib.hid h_ro.inV
     go_wp2_with (first | (refine wpList_storeNewB (by rfl) _ _ _ (by rfl) _ _ _ _ (by rfl) (by rfl) (by assumption) ?_) | (refine wpList_storeNewAt (by rfl) _ _ _ (by rfl) _ _ _ _ (by rfl) (by rfl) (by simp) (by assumption) ?_) | (refine wpList_loadV (by rfl) _ _ (by rfl) _ _ (by rfl) _ (by assumption) (by assumption) ?_) | (refine wpList_storeNew (by rfl) _ _ _ (by rfl) _ _ _ (by rfl) (by rfl) (by assumption) ?_))
     clear HI_a HI_o k0_e k0_g k0_h
     simp only [World.size_alloc] at h_rh
     generalize (w12.alloc (.cells (uV (sg (oTop (some q))) A_c n_c c_c C_c m_c d_c ds) 37)).alloc (.cells (fltC (0) (0)) 56) = w13 at *
     obtain ⟨q_h, eg⟩ : ∃ g, g = w12.heap.size + 1 := ⟨_, rfl⟩
     have ne_h_t : Hid (q_h ≠ q_t) := by show _ ≠ _; have := tl_t.out; omega
     rw [← eg] at h_rh ⊢
     clear eg
     obtain ⟨q_c, eg⟩ : ∃ g, g = w12.heap.size := ⟨_, rfl⟩
     have ne_c_t : Hid (q_c ≠ q_t) := by show _ ≠ _; have := tl_t.out; omega
     rw [← eg] at h_rc ⊢
     clear eg
     clear tl_t
     refine (keepUnit_eq (uv_qt h_qa HO.out) (uv_qt h_qo HO.out) rfl rfl).mono ?_
     rintro e w14 ⟨rfl, bn⟩
     replace hM := hM.below bn
     replace h_qp := h_qp.below bn
     replace h_rp := h_rp.below bn
     replace h_rf := h_rf.below bn
     replace h_qo := h_qo.below bn
     replace h_ro := h_ro.below bn
     replace h_qa := h_qa.below bn
     replace h_ra := h_ra.below bn
     replace h_re := h_re.below bn
     replace h_qb := h_qb.below bn
     replace h_rb := h_rb.below bn
     replace h_rg := h_rg.below bn
     replace h_qc := h_qc.below bn
     replace h_rc := h_rc.below bn
     replace h_rh := h_rh.below bn
     replace bw := below_two bw bn
     clear bn
     have HI_b := Lib.hid h_rb.inV
     have HI_o := Lib.hid h_ro.inV
     go_wp2_with (refine wpList_loadV (by rfl) _ _ (by rfl) _ _ (by rfl) _ (by assumption) (by assumption) ?_)
     clear HI_b HI_o
     refine (keepUnit_eq (uv_qt h_qb HO.out) (uv_qt h_qo HO.out) rfl rfl).mono ?_
     rintro e w15 ⟨rfl, bn⟩
     replace hM := hM.below bn
     replace h_qp := h_qp.below bn
     replace h_rp := h_rp.below bn
     replace h_rf := h_rf.below bn
     replace h_qo := h_qo.below bn
     replace h_ro := h_ro.below bn
     replace h_qa := h_qa.below bn
     replace h_ra := h_ra.below bn
     replace h_re := h_re.below bn
     replace h_qb := h_qb.below bn
     replace h_rb := h_rb.below bn
     replace h_rg := h_rg.below bn
     replace h_qc := h_qc.below bn
     replace h_rc := h_rc.below bn
     replace h_rh := h_rh.below bn
     replace bw := below_two bw bn
     clear bn
     have HI_c := Lib.hid h_rc.inV
     have HI_p := Lib.hid h_rp.inV
     go_wp2_with (refine wpList_loadV (by rfl) _ _ (by rfl) _ _ (by rfl) _ (by assumption) (by assumption) ?_)
     clear HI_c HI_p
     refine (keepUnit_eq (uv_qt h_qc HL.out) (uv_qt h_qp HL.out) rfl rfl).mono ?_
     rintro e w16 ⟨rfl, bn⟩
     replace hM := hM.below bn
     replace h_qp := h_qp.below bn
     replace h_rp := h_rp.below bn
     replace h_rf := h_rf.below bn
     replace h_qo := h_qo.below bn
     replace h_ro := h_ro.below bn
     replace h_qa := h_qa.below bn
     replace h_ra := h_ra.below bn
     replace h_re := h_re.below bn
     replace h_qb := h_qb.below bn
     replace h_rb := h_rb.below bn
     replace h_rg := h_rg.below bn
     replace h_qc := h_qc.below bn
     replace h_rc := h_rc.below bn
     replace h_rh := h_rh.below bn
     replace bw := below_two bw bn
     clear bn
     go_wp2_with fail
     refine (wakes_any _ (Lib.hid (HT0.out.below bw))).mono ?_
     rintro e w17 ⟨rfl, bn⟩
     replace hM := hM.below bn
     replace h_qp := h_qp.below bn
     replace h_rp := h_rp.below bn
     replace h_rf := h_rf.below bn
     replace h_qo := h_qo.below bn
     replace h_ro := h_ro.below bn
     replace h_qa := h_qa.below bn
     replace h_ra := h_ra.below bn
     replace h_re := h_re.below bn
     replace h_qb := h_qb.below bn
     replace h_rb := h_rb.below bn
     replace h_rg := h_rg.below bn
     replace h_qc := h_qc.below bn
     replace h_rc := h_rc.below bn
     replace h_rh := h_rh.below bn
     replace bw := below_two bw bn
     clear bn
     go_wp2
     go_ret
     exact ⟨rfl, bw⟩
theorem tab_of {W : World} (h : laidMet Tryz.prog Rows.unitSelfRow.laid W) : UTab W := by
 refine ?_
 · first | exact prefixes_tab (laidMet_drop 0 h) (by decide +kernel) | exact prefixes_tab (laidMet_drop 1 h) (by decide +kernel) | exact prefixes_tab (laidMet_drop 2 h) (by decide +kernel) | exact prefixes_tab (laidMet_drop 3 h) (by decide +kernel) | exact prefixes_tab (laidMet_drop 4 h) (by decide +kernel) | exact prefixes_tab (laidMet_drop 5 h) (by decide +kernel) | exact prefixes_tab (laidMet_drop 6 h) (by decide +kernel) | exact prefixes_tab (laidMet_drop 7 h) (by decide +kernel) | exact prefixes_tab (laidMet_drop 8 h) (by decide +kernel) | exact prefixes_tab (laidMet_drop 9 h) (by decide +kernel) | exact prefixes_tab (laidMet_drop 10 h) (by decide +kernel) | exact prefixes_tab (laidMet_drop 11 h) (by decide +kernel) | exact prefixes_tab (laidMet_drop 12 h) (by decide +kernel) | exact prefixes_tab (laidMet_drop 13 h) (by decide +kernel)
set_option maxRecDepth 100000 in
theorem lifted (os : Os) (started : os.Started) (H : Type) (enc : TypeId × Value → H) :
 ReturnsInHanded {} Tryz.checked os 6 .any (fun w args => (Rows.unitSelfSpec.pre enc Tryz.prog Tryz.f6 [] false w args ∧ laidMetH Tryz.prog Rows.unitSelfRow.laid w) ∧ sizedMet enc Tryz.prog Tryz.f6 (OpenSpec.ofChange Rows.unitSelfSpec) false w args)
  (Rows.unitSelfSpec.post enc Tryz.prog Tryz.f6 false true false false) := by
 refine returnsInHanded_of_change_and (C := Tryz.checked) (X := fun w _ => laidMetH Tryz.prog Rows.unitSelfRow.laid w) (fun _ _ _ hh h => h.of_heap hh) own started (by kernel_rfl) Tryz.func6
  (ChangeSpec.witness_shaped (enc := enc) (C := Tryz.checked) (os := os) (X := fun w _ => laidMetH Tryz.prog Rows.unitSelfRow.laid w) false (World.laidAll Tryz.prog os Rows.unitSelfRow.laid) #[.string ⟨#[]⟩, .int .u8 0] 8 (World.laidAll_os _ _ _)
    (World.shaped_of_ZipB (by kernel_rfl) (by kernel_rfl)) (by kernel_rfl) (by kernel_rfl) (by kernel_rfl)
    (by rw [MakeChecks.laidMetH_plain _ _ _ (by kernel_rfl)]; exact laidMet_laidAll _ (by kernel_rfl) (by kernel_rfl))) ?_
 intro W base args ds gs before hval0 hW _ _ hL _
 have hval : ∀ (j : Nat) t v, Tryz.f6.params[j]? = some t → args[j]? = some v → Value.okWide Tryz.prog W .any base t v := hval0
 have hW' := hW
 obtain ⟨p, q, hA0, hV, rfl, hfz, hnd⟩ := hW
 have hA : DataW.TrodAll enc Tryz.prog W 0 (fun _ => true) true Tryz.f6.params.toList args.toList ds p := hA0
 rw [Tryz.params6] at hA hval
 obtain ⟨v0, vs0, d0, ds0, p0, q0, hargs, rfl, rfl, h0, r0⟩ := trodAll_cons hA
 obtain ⟨v1, vs1, d1, ds1, p1, q1, rfl, rfl, rfl, h1, r1⟩ := trodAll_cons r0
 obtain ⟨rfl, rfl, rfl⟩ := trodAll_nil r1
 obtain rfl : args = #[v0, v1] := by cases args; simp_all
 obtain ⟨rfl, rfl⟩ := trodVars_none hV
 obtain ⟨a0, rfl, rfl, rfl, w0⟩ := Go.ChangeMaps.open_string Tryz.underlying9 (hval 0 9 v0 rfl rfl) h0
 obtain ⟨a1, rfl, rfl, rfl, w1⟩ := open_int Tryz.underlying5 (hval 1 5 v1 rfl rfl) h1
 clear hA0 hval0
 simp only [List.append_nil] at hW'
 rw [MakeChecks.laidMetH_plain _ _ _ (by kernel_rfl)] at hL
 refine (walk a0 a1 W w0 w1 (tab_of hL)).mono fun e W' ⟨he, bel⟩ => ?_
 subst he
 exact ⟨_, rfl, _, _, _, [], _, [], hW', trodAll_mk1 (shut_bool Tryz.underlying4 _), (trodAll_cons_mk (Go.ChangeMaps.shut_string Tryz.underlying9 w0) (trodAll_cons_mk (shut_int Tryz.underlying5 w1) trodAll_mk0)), rfl, bel.frame _, fun h => by cases h⟩
theorem over : Rows.unitSelfRow.holds Tryz.pinned (OpenSpec.ofChange Rows.unitSelfSpec) :=
 OpenClaim.holds_of_wide 6 Tryz.f6 rfl rfl rfl rfl rfl rfl rfl ⟨rfl, rfl, rfl, rfl, rfl⟩ rfl rfl rfl rfl rfl (by kernel_rfl) Tryz.func6 (by kernel_rfl)
  (of_decide_eq_true (by kernel_rfl)) (by unfold Func.isWrapper; first | (rw [if_pos (by decide +kernel)]; kernel_rfl) | (rw [if_neg (by decide +kernel)]; exact ⟨rfl, rfl⟩))
  (fun os started H enc _ => lifted os started H enc)
theorem proved : Rows.UnitSelfCardSaid :=
 Claim7.holds_tied_plain_at .later [] Rows.unitSelfCard.laidKinds true Rows.unitSelfCard.stood.harness Rows.unitSelfCard.stood.looks
  over (fun _ h => by cases h) (by kernel_rfl) (fun _ h => by cases h) unitSelf_row_tie rfl ⟨rfl, rfl⟩ (by kernel_rfl) rfl
  (fun f fn hf hfn => by
    obtain rfl : f = 6 := Option.some.inj ((show Tryz.prog.funcNamed Rows.unitSelfRow.func = some 6 by kernel_rfl).symm.trans hf) |>.symm
    obtain rfl : fn = Tryz.f6 := (Option.some.inj (Tryz.func6.symm.trans hfn)).symm
    exact ⟨by kernel_rfl, fun j t ht => by
     have hm : t ∈ Tryz.f6.params.toList := by simpa using Array.mem_of_getElem? ht
     have hall : (Tryz.f6.params.toList.all fun u => !Tryz.prog.wantsStandIn u) = true := by kernel_rfl
     exact (show Tryz.prog.wantsStandIn t = false by simpa using List.all_eq_true.1 hall t hm)⟩)
  (by kernel_rfl)
end Go.Proofs.YtohokfbohdoijaaGreatDoor.lawUnitSelf
