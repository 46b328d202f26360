/- Of any two texts: one with a sign of multiplying between is told the product of both ones' units, or a fault; what is told may be. Condition: the variables that the row lists read as listed. -/
import Derived.Test.YtohokfbohdoijaaGreatDoorM13
import Derived.Test.YtohokfbohdoijaaGreatDoorCards
import Derived.Test.YtohokfbohdoijaaGreatDoorTie
import Derived.ChangeMaps5
import Derived.Lay
import Derived.SevenTiedAt
/- Of any two texts: one with a sign of multiplying between is told the product of both ones' units, or a fault; what is told may be. Condition: the variables that the row lists read as listed. -/
namespace Go.Proofs.YtohokfbohdoijaaGreatDoor.lawUnitProducts
open Go.ChangeShapes Go.WideShapes Go.ChangeAt Go.RowKit Limb
set_option linter.unusedVariables false
theorem i64_wf {xs : List Int} (h : ∀ x ∈ xs, (Lit.int .i64 x).wf = true) : I64 xs := fun x hx => by
 have := h x hx
 have e1 : IntKind.i64.min = -9223372036854775808 := rfl
 have e2 : IntKind.i64.max = 9223372036854775807 := rfl
 simp only [Lit.wf, Bool.and_eq_true, decide_eq_true_eq] at this
 omega
theorem parsed_fits {w : World} {V : Array Value} {E A : Int} {n : Nat} {R : PR UQ} (h : ParsedP w V E A n R) : V.size = 10 ∧ ∀ v ∈ V, v.oneCell' = true := by
 cases R with
 | ok q => exact UV.size h.2.2.2
 | bad e r => obtain ⟨_, _, _, rfl⟩ := h; exact ⟨rfl, z10_one⟩
theorem mul_may {q r : Rat} {ds es : List Int} (hq : okU (q, ds)) (hr : okU (r, es)) (h : okU (mulX (q, ds) (r, es))) : mulR (some q) (some r) = (some (q * r), 0) ∧ mulD ds es = (addD ds es, 0) := by
 have h2 : fitsQ (q * r) = true := h.2.1
 have h4 : goodD (addD ds es) = true := h.2.2.2
 refine ⟨?_, ?_⟩
 · unfold mulR opR limR limQ limE
   simp only [if_pos h2]
 · unfold mulD
   rw [if_pos ⟨hq.2.2.2, hr.2.2.2⟩]
   unfold mayD
   rw [if_pos h4]
theorem may_of {q : Rat} {ds : List Int} (h : okU (q, ds)) : mayB (some q) ds = true := (mayB_iff h.2.2.1 (fun r e => by cases e; exact h.2.1)).2 ⟨q, rfl, h⟩
set_option maxHeartbeats 8000000 in
set_option maxRecDepth 100000 in
theorem walk (s_a : ByteArray) (s_b : ByteArray) (w : World) (z_a : s_a.size ≤ maxLen) (y_a : s_a.size ≤ 140737488351232) (z_b : s_b.size ≤ maxLen) (y_b : s_b.size ≤ 140737488351232) (HT : UTab w) :
 Calls Tryz.prog 4 #[.string s_a, .string s_b] w fun e w' => e = .returned (.bool true) ∧ Below w.heap.size w w' := by
 have HT0 := Lib.hid HT
 clear HT
 obtain ⟨X, hX⟩ : ∃ X : ByteArray, s_a ++ ⟨#[42]⟩ ++ s_b = X := ⟨_, rfl⟩
 have HX := Lib.hid hX
 have HBX : Hid (bytesOf X = bytesOf s_a ++ 42 :: bytesOf s_b) := by show _ = _; rw [← hX, bytesOf_append, bytesOf_append, show bytesOf ⟨#[42]⟩ = [42] from rfl, List.append_assoc]; rfl
 have HZX : Hid (X.size = s_a.size + 1 + s_b.size) := by show _ = _; rw [← hX, ByteArray.size_append, ByteArray.size_append]; rfl
 clear hX
 obtain ⟨T, hT⟩ : ∃ T, s_a.size + s_b.size = T := ⟨_, rfl⟩
 have es : (s_a.size : Int) + (s_b.size : Int) = (T : Int) := by omega
 have ew : IntKind.i64.wrap ((s_a.size : Int) + (s_b.size : Int)) = (T : Int) := by rw [IntKind.wrap_i64]; omega
 have ew2 : IntKind.i64.wrap (T : Int) = (T : Int) := by rw [IntKind.wrap_i64]; omega
 have bw := bel_refl w
 go_enter Tryz.func4, Tryz.ntmps4
 go_wp2_with fail
 have BSZ := bw.size
 refine (uNew_c w).mono ?_
 rintro e w1 ⟨rfl, rfl⟩
 have bn := below_new w (.cells (tabV 0 none) 95)
 replace bw := below_two bw bn
 clear bn
 obtain ⟨q_t, eg⟩ : ∃ g, g = w.heap.size := ⟨_, rfl⟩
 have hS : TabS (w.alloc (.cells (tabV 0 none) 95)) w.heap.size q_t stdU := .inl ⟨by rw [eg]; exact tabF_new _, by rw [eg]; exact BSZ, rfl⟩
 rw [← eg]
 generalize w.alloc (.cells (tabV 0 none) 95) = w2 at *
 clear eg BSZ
 by_cases h150 : 150 < T
 · have hd0 : decide ((150 : Int) < (T : Int)) = true := decide_eq_true (by omega)
   have hd2 : (150 : Int) < (T : Int) := by omega
   go_wp2_with fail
   refine (wakes_any _ (Lib.hid (HT0.out.below bw))).mono ?_
   rintro e w3 ⟨rfl, bn⟩
   replace hS := hS.below bn
   replace bw := below_two bw bn
   clear bn
   go_wp2
   go_ret
   exact ⟨rfl, bw⟩
 · have hd1 : decide ((150 : Int) < (T : Int)) = false := decide_eq_false (by omega)
   have hd2 : (T : Int) ≤ 150 := by omega
   have hza : Hid (s_a.size ≤ 200) := by show _ ≤ _; omega
   have hzb : Hid (s_b.size ≤ 200) := by show _ ≤ _; omega
   have hzx : Hid (X.size ≤ 200) := by show _ ≤ _; have := HZX.out; omega
   have sza : s_a.size ≤ 150 := by omega
   have szb : s_b.size ≤ 150 := by omega
   clear h150
   go_wp2_with fail
   cases hRa : parseU stdU (bytesOf s_a) with
   | bad xa ra =>
    obtain ⟨xx, rx, hRx⟩ : ∃ e r, parseU stdU (bytesOf X) = .bad e r := by rw [HBX.out]; exact prod_bad stdU_ok hRa
    have HRA := Lib.hid hRa
    have HRX := Lib.hid hRx
    clear hRa hRx
    refine (tParse_main (HT0.out.below bw) hS bw.size s_a hza.out).mono ?_
    rintro e w3 ⟨V_a, E_a, W_a, rfl, ⟨mb, hM⟩, hk, hp⟩
    replace bw := bw.trans hk.bel
    clear hk hS
    rw [HRA.out] at hp
    obtain ⟨e1, e2, e3, e4⟩ := hp
    rw [← e1] at e3
    subst e4
    clear e1 e2
    have hE_a : (E_a != 0) = true := by simpa using e3
    clear e3
    have HU_a := Lib.hid (fits10 (V := z10) rfl z10_one)
    have HU_f := Lib.hid (fitsF (E_a) (W_a))
    have tl_t : Hid (q_t < w3.heap.size) := hM.s.lt
    have h_ra := rowA_new w3 37 z10
    have bn := below_new w3 (.cells z10 37)
    replace hM := hM.below bn
    replace bw := below_two bw bn
    clear bn
    have h_rf := rowA_new (w3.alloc (.cells z10 37)) 56 (fltC (E_a) (W_a))
    have bn := below_new (w3.alloc (.cells z10 37)) (.cells (fltC (E_a) (W_a)) 56)
    replace hM := hM.below bn
    replace h_ra := h_ra.below bn
    replace bw := below_two bw bn
    clear bn
    go_wp2_with (first | (refine wpList_storeNewB (by rfl) _ _ _ (by rfl) _ _ _ _ (by rfl) (by rfl) (by assumption) ?_) | (refine wpList_storeNewAt (by rfl) _ _ _ (by rfl) _ _ _ _ (by rfl) (by rfl) (by simp) (by assumption) ?_) | (refine wpList_storeNew (by rfl) _ _ _ (by rfl) _ _ _ (by rfl) (by rfl) (by assumption) ?_))
    simp only [World.size_alloc] at h_rf
    generalize (w3.alloc (.cells z10 37)).alloc (.cells (fltC (E_a) (W_a)) 56) = w4 at *
    obtain ⟨q_f, eg⟩ : ∃ g, g = w3.heap.size + 1 := ⟨_, rfl⟩
    have ne_f_t : Hid (q_f ≠ q_t) := by show _ ≠ _; have := tl_t.out; omega
    rw [← eg] at h_rf ⊢
    clear eg
    obtain ⟨q_a, eg⟩ : ∃ g, g = w3.heap.size := ⟨_, rfl⟩
    have ne_a_t : Hid (q_a ≠ q_t) := by show _ ≠ _; have := tl_t.out; omega
    rw [← eg] at h_ra ⊢
    clear eg
    clear tl_t
    refine (tParse_main (HT0.out.below bw) hM.s bw.size s_b hzb.out).mono ?_
    rintro e w5 ⟨V_b, E_b, W_b, rfl, hM2, hk, hp⟩
    have bn := hk.done hM
    clear hk hM2
    replace hM := hM.below bn
    replace h_ra := h_ra.below bn
    replace h_rf := h_rf.below bn
    replace bw := below_two bw bn
    clear bn
    have hp2 := parsed_fits hp
    clear hp
    have HU_b := Lib.hid (fits10 hp2.1 hp2.2)
    clear hp2
    have HU_g := Lib.hid (fitsF (E_b) (W_b))
    have tl_t : Hid (q_t < w5.heap.size) := hM.s.lt
    have h_rb := rowA_new w5 37 V_b
    have bn := below_new w5 (.cells V_b 37)
    replace hM := hM.below bn
    replace h_ra := h_ra.below bn
    replace h_rf := h_rf.below bn
    replace bw := below_two bw bn
    clear bn
    have h_rg := rowA_new (w5.alloc (.cells V_b 37)) 56 (fltC (E_b) (W_b))
    have bn := below_new (w5.alloc (.cells V_b 37)) (.cells (fltC (E_b) (W_b)) 56)
    replace hM := hM.below bn
    replace h_ra := h_ra.below bn
    replace h_rf := h_rf.below bn
    replace h_rb := h_rb.below bn
    replace bw := below_two bw bn
    clear bn
    go_wp2_with (first | (refine wpList_storeNewB (by rfl) _ _ _ (by rfl) _ _ _ _ (by rfl) (by rfl) (by assumption) ?_) | (refine wpList_storeNewAt (by rfl) _ _ _ (by rfl) _ _ _ _ (by rfl) (by rfl) (by simp) (by assumption) ?_) | (refine wpList_storeNew (by rfl) _ _ _ (by rfl) _ _ _ (by rfl) (by rfl) (by assumption) ?_))
    simp only [World.size_alloc] at h_rg
    generalize (w5.alloc (.cells V_b 37)).alloc (.cells (fltC (E_b) (W_b)) 56) = w6 at *
    obtain ⟨q_g, eg⟩ : ∃ g, g = w5.heap.size + 1 := ⟨_, rfl⟩
    have ne_g_t : Hid (q_g ≠ q_t) := by show _ ≠ _; have := tl_t.out; omega
    rw [← eg] at h_rg ⊢
    clear eg
    obtain ⟨q_b, eg⟩ : ∃ g, g = w5.heap.size := ⟨_, rfl⟩
    have ne_b_t : Hid (q_b ≠ q_t) := by show _ ≠ _; have := tl_t.out; omega
    rw [← eg] at h_rb ⊢
    clear eg
    clear tl_t
    rw [HX.out]
    refine (tParse_main (HT0.out.below bw) hM.s bw.size X hzx.out).mono ?_
    rintro e w7 ⟨V_x, E_x, W_x, rfl, hM2, hk, hp⟩
    have bn := hk.done hM
    clear hk hM2
    replace hM := hM.below bn
    replace h_ra := h_ra.below bn
    replace h_rf := h_rf.below bn
    replace h_rb := h_rb.below bn
    replace h_rg := h_rg.below bn
    replace bw := below_two bw bn
    clear bn
    rw [HRX.out] at hp
    obtain ⟨e1, e2, e3, e4⟩ := hp
    rw [← e1] at e3
    subst e4
    clear e1 e2
    have hE_x : (E_x != 0) = true := by simpa using e3
    clear e3
    have HU_x := Lib.hid (fits10 (V := z10) rfl z10_one)
    have HU_h := Lib.hid (fitsF (E_x) (W_x))
    have tl_t : Hid (q_t < w7.heap.size) := hM.s.lt
    have h_rx := rowA_new w7 37 z10
    have bn := below_new w7 (.cells z10 37)
    replace hM := hM.below bn
    replace h_ra := h_ra.below bn
    replace h_rf := h_rf.below bn
    replace h_rb := h_rb.below bn
    replace h_rg := h_rg.below bn
    replace bw := below_two bw bn
    clear bn
    have h_rh := rowA_new (w7.alloc (.cells z10 37)) 56 (fltC (E_x) (W_x))
    have bn := below_new (w7.alloc (.cells z10 37)) (.cells (fltC (E_x) (W_x)) 56)
    replace hM := hM.below bn
    replace h_ra := h_ra.below bn
    replace h_rf := h_rf.below bn
    replace h_rb := h_rb.below bn
    replace h_rg := h_rg.below bn
    replace h_rx := h_rx.below bn
    replace bw := below_two bw bn
    clear bn
    have k2_a := h_ra.cell (k := 2) (v := .slice none 0 0) rfl
    have k0_f := h_rf.cell (k := 0) (v := .int .i64 (E_a)) rfl
    have k0_h := h_rh.cell (k := 0) (v := .int .i64 (E_x)) rfl
    go_wp2_with (first | (refine wpList_storeNewB (by rfl) _ _ _ (by rfl) _ _ _ _ (by rfl) (by rfl) (by assumption) ?_) | (refine wpList_storeNewAt (by rfl) _ _ _ (by rfl) _ _ _ _ (by rfl) (by rfl) (by simp) (by assumption) ?_) | (refine wpList_storeNew (by rfl) _ _ _ (by rfl) _ _ _ (by rfl) (by rfl) (by assumption) ?_))
    clear k0_f k0_h k2_a
    simp only [World.size_alloc] at h_rh
    generalize (w7.alloc (.cells z10 37)).alloc (.cells (fltC (E_x) (W_x)) 56) = w8 at *
    obtain ⟨q_h, eg⟩ : ∃ g, g = w7.heap.size + 1 := ⟨_, rfl⟩
    have ne_h_t : Hid (q_h ≠ q_t) := by show _ ≠ _; have := tl_t.out; omega
    rw [← eg] at h_rh ⊢
    clear eg
    obtain ⟨q_x, eg⟩ : ∃ g, g = w7.heap.size := ⟨_, rfl⟩
    have ne_x_t : Hid (q_x ≠ q_t) := by show _ ≠ _; have := tl_t.out; omega
    rw [← eg] at h_rx ⊢
    clear eg
    clear tl_t
    refine (wakes_any _ (Lib.hid (HT0.out.below bw))).mono ?_
    rintro e w9 ⟨rfl, bn⟩
    replace hM := hM.below bn
    replace h_ra := h_ra.below bn
    replace h_rf := h_rf.below bn
    replace h_rb := h_rb.below bn
    replace h_rg := h_rg.below bn
    replace h_rx := h_rx.below bn
    replace h_rh := h_rh.below bn
    replace bw := below_two bw bn
    clear bn
    go_wp2
    go_ret
    exact ⟨rfl, bw⟩
   | ok ya =>
    obtain ⟨q, ds⟩ := ya
    have hoa : okU (q, ds) := parseU_ok stdU_ok _ _ _ _ _ oneU_ok hRa
    have HRA := Lib.hid hRa
    have HL : Hid (ds.length = 7) := hoa.2.2.1
    have HMAY := Lib.hid (may_of hoa)
    have hfr := prod_from (b := bytesOf s_b) stdU_ok hRa hoa
    rw [← HBX.out] at hfr
    clear hRa
    refine (tParse_main (HT0.out.below bw) hS bw.size s_a hza.out).mono ?_
    rintro e w3 ⟨V_a, E_a, W_a, rfl, ⟨mb, hM⟩, hk, hp⟩
    replace bw := bw.trans hk.bel
    clear hk hS
    rw [HRA.out] at hp
    obtain ⟨rfl, rfl, hok_a, A_a, n_a, c_a, C_a, m_a, d_a, rfl, h_qa, hl_a⟩ := hp
    have HU_a := Lib.hid (fits10 (size_uV hl_a) (uV_one (s := sg (oTop (some q))) (A := A_a) (n := n_a) (c := c_a) (B := C_a) (m := m_a) (d := d_a) (xs := ds)))
    clear hok_a hl_a
    have HU_f := Lib.hid (fitsF (0) (0))
    have tl_t : Hid (q_t < w3.heap.size) := hM.s.lt
    have h_ra := rowA_new w3 37 (uV (sg (oTop (some q))) A_a n_a c_a C_a m_a d_a ds)
    have bn := below_new w3 (.cells (uV (sg (oTop (some q))) A_a n_a c_a C_a m_a d_a ds) 37)
    replace hM := hM.below bn
    replace h_qa := h_qa.below bn
    replace bw := below_two bw bn
    clear bn
    have h_rf := rowA_new (w3.alloc (.cells (uV (sg (oTop (some q))) A_a n_a c_a C_a m_a d_a ds) 37)) 56 (fltC (0) (0))
    have bn := below_new (w3.alloc (.cells (uV (sg (oTop (some q))) A_a n_a c_a C_a m_a d_a ds) 37)) (.cells (fltC (0) (0)) 56)
    replace hM := hM.below bn
    replace h_qa := h_qa.below bn
    replace h_ra := h_ra.below bn
    replace bw := below_two bw bn
    clear bn
    go_wp2_with (first | (refine wpList_storeNewB (by rfl) _ _ _ (by rfl) _ _ _ _ (by rfl) (by rfl) (by assumption) ?_) | (refine wpList_storeNewAt (by rfl) _ _ _ (by rfl) _ _ _ _ (by rfl) (by rfl) (by simp) (by assumption) ?_) | (refine wpList_storeNew (by rfl) _ _ _ (by rfl) _ _ _ (by rfl) (by rfl) (by assumption) ?_))
    simp only [World.size_alloc] at h_rf
    generalize (w3.alloc (.cells (uV (sg (oTop (some q))) A_a n_a c_a C_a m_a d_a ds) 37)).alloc (.cells (fltC (0) (0)) 56) = w4 at *
    obtain ⟨q_f, eg⟩ : ∃ g, g = w3.heap.size + 1 := ⟨_, rfl⟩
    have ne_f_t : Hid (q_f ≠ q_t) := by show _ ≠ _; have := tl_t.out; omega
    rw [← eg] at h_rf ⊢
    clear eg
    obtain ⟨q_a, eg⟩ : ∃ g, g = w3.heap.size := ⟨_, rfl⟩
    have ne_a_t : Hid (q_a ≠ q_t) := by show _ ≠ _; have := tl_t.out; omega
    rw [← eg] at h_ra ⊢
    clear eg
    clear tl_t
    have HM_a := Lib.hid (many10 (size_uV (s := sg (oTop (some q))) (A := A_a) (n := n_a) (c := c_a) (B := C_a) (m := m_a) (d := d_a) HL.out))
    cases hRb : parseU stdU (bytesOf s_b) with
    | bad xb rb =>
     rw [hRb] at hfr
     rcases parse_err _ _ _ _ _ _ hRb with rfl | rfl | rfl
     · have HRB := Lib.hid hRb
       clear hRb hfr
       refine (tParse_main (HT0.out.below bw) hM.s bw.size s_b hzb.out).mono ?_
       rintro e w5 ⟨V_b, E_b, W_b, rfl, hM2, hk, hp⟩
       have bn := hk.done hM
       clear hk hM2
       replace hM := hM.below bn
       replace h_qa := h_qa.below bn
       replace h_ra := h_ra.below bn
       replace h_rf := h_rf.below bn
       replace bw := below_two bw bn
       clear bn
       rw [HRB.out] at hp
       obtain ⟨e1, e2, e3, e4⟩ := hp
       subst e1 e4
       clear e2 e3
       have HU_b := Lib.hid (fits10 (V := z10) rfl z10_one)
       have HU_g := Lib.hid (fitsF (2) (W_b))
       have tl_t : Hid (q_t < w5.heap.size) := hM.s.lt
       have h_rb := rowA_new w5 37 z10
       have bn := below_new w5 (.cells z10 37)
       replace hM := hM.below bn
       replace h_qa := h_qa.below bn
       replace h_ra := h_ra.below bn
       replace h_rf := h_rf.below bn
       replace bw := below_two bw bn
       clear bn
       have h_rg := rowA_new (w5.alloc (.cells z10 37)) 56 (fltC (2) (W_b))
       have bn := below_new (w5.alloc (.cells z10 37)) (.cells (fltC (2) (W_b)) 56)
       replace hM := hM.below bn
       replace h_qa := h_qa.below bn
       replace h_ra := h_ra.below bn
       replace h_rf := h_rf.below bn
       replace h_rb := h_rb.below bn
       replace bw := below_two bw bn
       clear bn
       go_wp2_with (first | (refine wpList_storeNewB (by rfl) _ _ _ (by rfl) _ _ _ _ (by rfl) (by rfl) (by assumption) ?_) | (refine wpList_storeNewAt (by rfl) _ _ _ (by rfl) _ _ _ _ (by rfl) (by rfl) (by simp) (by assumption) ?_) | (refine wpList_storeNew (by rfl) _ _ _ (by rfl) _ _ _ (by rfl) (by rfl) (by assumption) ?_))
       simp only [World.size_alloc] at h_rg
       generalize (w5.alloc (.cells z10 37)).alloc (.cells (fltC (2) (W_b)) 56) = w6 at *
       obtain ⟨q_g, eg⟩ : ∃ g, g = w5.heap.size + 1 := ⟨_, rfl⟩
       have ne_g_t : Hid (q_g ≠ q_t) := by show _ ≠ _; have := tl_t.out; omega
       rw [← eg] at h_rg ⊢
       clear eg
       obtain ⟨q_b, eg⟩ : ∃ g, g = w5.heap.size := ⟨_, rfl⟩
       have ne_b_t : Hid (q_b ≠ q_t) := by show _ ≠ _; have := tl_t.out; omega
       rw [← eg] at h_rb ⊢
       clear eg
       clear tl_t
       rw [HX.out]
       refine (tParse_main (HT0.out.below bw) hM.s bw.size X hzx.out).mono ?_
       rintro e w7 ⟨V_x, E_x, W_x, rfl, hM2, hk, hp⟩
       have bn := hk.done hM
       clear hk hM2
       replace hM := hM.below bn
       replace h_qa := h_qa.below bn
       replace h_ra := h_ra.below bn
       replace h_rf := h_rf.below bn
       replace h_rb := h_rb.below bn
       replace h_rg := h_rg.below bn
       replace bw := below_two bw bn
       clear bn
       have hp2 := parsed_fits hp
       clear hp
       have HU_x := Lib.hid (fits10 hp2.1 hp2.2)
       clear hp2
       have HU_h := Lib.hid (fitsF (E_x) (W_x))
       have tl_t : Hid (q_t < w7.heap.size) := hM.s.lt
       have h_rx := rowA_new w7 37 V_x
       have bn := below_new w7 (.cells V_x 37)
       replace hM := hM.below bn
       replace h_qa := h_qa.below bn
       replace h_ra := h_ra.below bn
       replace h_rf := h_rf.below bn
       replace h_rb := h_rb.below bn
       replace h_rg := h_rg.below bn
       replace bw := below_two bw bn
       clear bn
       have h_rh := rowA_new (w7.alloc (.cells V_x 37)) 56 (fltC (E_x) (W_x))
       have bn := below_new (w7.alloc (.cells V_x 37)) (.cells (fltC (E_x) (W_x)) 56)
       replace hM := hM.below bn
       replace h_qa := h_qa.below bn
       replace h_ra := h_ra.below bn
       replace h_rf := h_rf.below bn
       replace h_rb := h_rb.below bn
       replace h_rg := h_rg.below bn
       replace h_rx := h_rx.below bn
       replace bw := below_two bw bn
       clear bn
       have k0_f := h_rf.cell (k := 0) (v := .int .i64 (0)) rfl
       have HI_a := Lib.hid h_ra.inV
       go_wp2_with (first | (refine wpList_storeNewB (by rfl) _ _ _ (by rfl) _ _ _ _ (by rfl) (by rfl) (by assumption) ?_) | (refine wpList_storeNewAt (by rfl) _ _ _ (by rfl) _ _ _ _ (by rfl) (by rfl) (by simp) (by assumption) ?_) | (refine wpList_loadV (by rfl) _ _ (by rfl) _ _ (by rfl) _ (by assumption) (by assumption) ?_) | (refine wpList_storeNew (by rfl) _ _ _ (by rfl) _ _ _ (by rfl) (by rfl) (by assumption) ?_))
       clear HI_a k0_f
       simp only [World.size_alloc] at h_rh
       generalize (w7.alloc (.cells V_x 37)).alloc (.cells (fltC (E_x) (W_x)) 56) = w8 at *
       obtain ⟨q_h, eg⟩ : ∃ g, g = w7.heap.size + 1 := ⟨_, rfl⟩
       have ne_h_t : Hid (q_h ≠ q_t) := by show _ ≠ _; have := tl_t.out; omega
       rw [← eg] at h_rh ⊢
       clear eg
       obtain ⟨q_x, eg⟩ : ∃ g, g = w7.heap.size := ⟨_, rfl⟩
       have ne_x_t : Hid (q_x ≠ q_t) := by show _ ≠ _; have := tl_t.out; omega
       rw [← eg] at h_rx ⊢
       clear eg
       clear tl_t
       refine (refUMay_c h_qa (by decide) HL.out true HMAY.out).mono ?_
       rintro e w9 ⟨rfl, bn⟩
       replace hM := hM.below bn
       replace h_qa := h_qa.below bn
       replace h_ra := h_ra.below bn
       replace h_rf := h_rf.below bn
       replace h_rb := h_rb.below bn
       replace h_rg := h_rg.below bn
       replace h_rx := h_rx.below bn
       replace h_rh := h_rh.below bn
       replace bw := below_two bw bn
       clear bn
       have k0_g := h_rg.cell (k := 0) (v := .int .i64 (2)) rfl
       go_wp2_with fail
       clear k0_g
       refine (wakes_any _ (Lib.hid (HT0.out.below bw))).mono ?_
       rintro e w10 ⟨rfl, bn⟩
       replace hM := hM.below bn
       replace h_qa := h_qa.below bn
       replace h_ra := h_ra.below bn
       replace h_rf := h_rf.below bn
       replace h_rb := h_rb.below bn
       replace h_rg := h_rg.below bn
       replace h_rx := h_rx.below bn
       replace h_rh := h_rh.below bn
       replace bw := below_two bw bn
       clear bn
       go_wp2
       go_ret
       exact ⟨rfl, bw⟩
     · obtain ⟨xx, rx, hRx⟩ : ∃ e r, parseU stdU (bytesOf X) = .bad e r := hfr.resolve_left (by decide)
       have HRB := Lib.hid hRb
       have HRX := Lib.hid hRx
       clear hRb hfr hRx
       refine (tParse_main (HT0.out.below bw) hM.s bw.size s_b hzb.out).mono ?_
       rintro e w5 ⟨V_b, E_b, W_b, rfl, hM2, hk, hp⟩
       have bn := hk.done hM
       clear hk hM2
       replace hM := hM.below bn
       replace h_qa := h_qa.below bn
       replace h_ra := h_ra.below bn
       replace h_rf := h_rf.below bn
       replace bw := below_two bw bn
       clear bn
       rw [HRB.out] at hp
       obtain ⟨e1, e2, e3, e4⟩ := hp
       subst e1 e4
       clear e2 e3
       have HU_b := Lib.hid (fits10 (V := z10) rfl z10_one)
       have HU_g := Lib.hid (fitsF (12) (W_b))
       have tl_t : Hid (q_t < w5.heap.size) := hM.s.lt
       have h_rb := rowA_new w5 37 z10
       have bn := below_new w5 (.cells z10 37)
       replace hM := hM.below bn
       replace h_qa := h_qa.below bn
       replace h_ra := h_ra.below bn
       replace h_rf := h_rf.below bn
       replace bw := below_two bw bn
       clear bn
       have h_rg := rowA_new (w5.alloc (.cells z10 37)) 56 (fltC (12) (W_b))
       have bn := below_new (w5.alloc (.cells z10 37)) (.cells (fltC (12) (W_b)) 56)
       replace hM := hM.below bn
       replace h_qa := h_qa.below bn
       replace h_ra := h_ra.below bn
       replace h_rf := h_rf.below bn
       replace h_rb := h_rb.below bn
       replace bw := below_two bw bn
       clear bn
       go_wp2_with (first | (refine wpList_storeNewB (by rfl) _ _ _ (by rfl) _ _ _ _ (by rfl) (by rfl) (by assumption) ?_) | (refine wpList_storeNewAt (by rfl) _ _ _ (by rfl) _ _ _ _ (by rfl) (by rfl) (by simp) (by assumption) ?_) | (refine wpList_storeNew (by rfl) _ _ _ (by rfl) _ _ _ (by rfl) (by rfl) (by assumption) ?_))
       simp only [World.size_alloc] at h_rg
       generalize (w5.alloc (.cells z10 37)).alloc (.cells (fltC (12) (W_b)) 56) = w6 at *
       obtain ⟨q_g, eg⟩ : ∃ g, g = w5.heap.size + 1 := ⟨_, rfl⟩
       have ne_g_t : Hid (q_g ≠ q_t) := by show _ ≠ _; have := tl_t.out; omega
       rw [← eg] at h_rg ⊢
       clear eg
       obtain ⟨q_b, eg⟩ : ∃ g, g = w5.heap.size := ⟨_, rfl⟩
       have ne_b_t : Hid (q_b ≠ q_t) := by show _ ≠ _; have := tl_t.out; omega
       rw [← eg] at h_rb ⊢
       clear eg
       clear tl_t
       rw [HX.out]
       refine (tParse_main (HT0.out.below bw) hM.s bw.size X hzx.out).mono ?_
       rintro e w7 ⟨V_x, E_x, W_x, rfl, hM2, hk, hp⟩
       have bn := hk.done hM
       clear hk hM2
       replace hM := hM.below bn
       replace h_qa := h_qa.below bn
       replace h_ra := h_ra.below bn
       replace h_rf := h_rf.below bn
       replace h_rb := h_rb.below bn
       replace h_rg := h_rg.below bn
       replace bw := below_two bw bn
       clear bn
       rw [HRX.out] at hp
       obtain ⟨e1, e2, e3, e4⟩ := hp
       rw [← e1] at e3
       subst e4
       clear e1 e2
       have hE_x : (E_x != 0) = true := by simpa using e3
       clear e3
       have HU_x := Lib.hid (fits10 (V := z10) rfl z10_one)
       have HU_h := Lib.hid (fitsF (E_x) (W_x))
       have tl_t : Hid (q_t < w7.heap.size) := hM.s.lt
       have h_rx := rowA_new w7 37 z10
       have bn := below_new w7 (.cells z10 37)
       replace hM := hM.below bn
       replace h_qa := h_qa.below bn
       replace h_ra := h_ra.below bn
       replace h_rf := h_rf.below bn
       replace h_rb := h_rb.below bn
       replace h_rg := h_rg.below bn
       replace bw := below_two bw bn
       clear bn
       have h_rh := rowA_new (w7.alloc (.cells z10 37)) 56 (fltC (E_x) (W_x))
       have bn := below_new (w7.alloc (.cells z10 37)) (.cells (fltC (E_x) (W_x)) 56)
       replace hM := hM.below bn
       replace h_qa := h_qa.below bn
       replace h_ra := h_ra.below bn
       replace h_rf := h_rf.below bn
       replace h_rb := h_rb.below bn
       replace h_rg := h_rg.below bn
       replace h_rx := h_rx.below bn
       replace bw := below_two bw bn
       clear bn
       have k0_f := h_rf.cell (k := 0) (v := .int .i64 (0)) rfl
       have HI_a := Lib.hid h_ra.inV
       go_wp2_with (first | (refine wpList_storeNewB (by rfl) _ _ _ (by rfl) _ _ _ _ (by rfl) (by rfl) (by assumption) ?_) | (refine wpList_storeNewAt (by rfl) _ _ _ (by rfl) _ _ _ _ (by rfl) (by rfl) (by simp) (by assumption) ?_) | (refine wpList_loadV (by rfl) _ _ (by rfl) _ _ (by rfl) _ (by assumption) (by assumption) ?_) | (refine wpList_storeNew (by rfl) _ _ _ (by rfl) _ _ _ (by rfl) (by rfl) (by assumption) ?_))
       clear HI_a k0_f
       simp only [World.size_alloc] at h_rh
       generalize (w7.alloc (.cells z10 37)).alloc (.cells (fltC (E_x) (W_x)) 56) = w8 at *
       obtain ⟨q_h, eg⟩ : ∃ g, g = w7.heap.size + 1 := ⟨_, rfl⟩
       have ne_h_t : Hid (q_h ≠ q_t) := by show _ ≠ _; have := tl_t.out; omega
       rw [← eg] at h_rh ⊢
       clear eg
       obtain ⟨q_x, eg⟩ : ∃ g, g = w7.heap.size := ⟨_, rfl⟩
       have ne_x_t : Hid (q_x ≠ q_t) := by show _ ≠ _; have := tl_t.out; omega
       rw [← eg] at h_rx ⊢
       clear eg
       clear tl_t
       refine (refUMay_c h_qa (by decide) HL.out true HMAY.out).mono ?_
       rintro e w9 ⟨rfl, bn⟩
       replace hM := hM.below bn
       replace h_qa := h_qa.below bn
       replace h_ra := h_ra.below bn
       replace h_rf := h_rf.below bn
       replace h_rb := h_rb.below bn
       replace h_rg := h_rg.below bn
       replace h_rx := h_rx.below bn
       replace h_rh := h_rh.below bn
       replace bw := below_two bw bn
       clear bn
       have k0_g := h_rg.cell (k := 0) (v := .int .i64 (12)) rfl
       have k0_h := h_rh.cell (k := 0) (v := .int .i64 (E_x)) rfl
       go_wp2_with fail
       clear k0_g k0_h
       refine (wakes_any _ (Lib.hid (HT0.out.below bw))).mono ?_
       rintro e w10 ⟨rfl, bn⟩
       replace hM := hM.below bn
       replace h_qa := h_qa.below bn
       replace h_ra := h_ra.below bn
       replace h_rf := h_rf.below bn
       replace h_rb := h_rb.below bn
       replace h_rg := h_rg.below bn
       replace h_rx := h_rx.below bn
       replace h_rh := h_rh.below bn
       replace bw := below_two bw bn
       clear bn
       go_wp2
       go_ret
       exact ⟨rfl, bw⟩
     · obtain ⟨xx, rx, hRx⟩ : ∃ e r, parseU stdU (bytesOf X) = .bad e r := hfr.resolve_left (by decide)
       have HRB := Lib.hid hRb
       have HRX := Lib.hid hRx
       clear hRb hfr hRx
       refine (tParse_main (HT0.out.below bw) hM.s bw.size s_b hzb.out).mono ?_
       rintro e w5 ⟨V_b, E_b, W_b, rfl, hM2, hk, hp⟩
       have bn := hk.done hM
       clear hk hM2
       replace hM := hM.below bn
       replace h_qa := h_qa.below bn
       replace h_ra := h_ra.below bn
       replace h_rf := h_rf.below bn
       replace bw := below_two bw bn
       clear bn
       rw [HRB.out] at hp
       obtain ⟨e1, e2, e3, e4⟩ := hp
       subst e1 e4
       clear e2 e3
       have HU_b := Lib.hid (fits10 (V := z10) rfl z10_one)
       have HU_g := Lib.hid (fitsF (15) (W_b))
       have tl_t : Hid (q_t < w5.heap.size) := hM.s.lt
       have h_rb := rowA_new w5 37 z10
       have bn := below_new w5 (.cells z10 37)
       replace hM := hM.below bn
       replace h_qa := h_qa.below bn
       replace h_ra := h_ra.below bn
       replace h_rf := h_rf.below bn
       replace bw := below_two bw bn
       clear bn
       have h_rg := rowA_new (w5.alloc (.cells z10 37)) 56 (fltC (15) (W_b))
       have bn := below_new (w5.alloc (.cells z10 37)) (.cells (fltC (15) (W_b)) 56)
       replace hM := hM.below bn
       replace h_qa := h_qa.below bn
       replace h_ra := h_ra.below bn
       replace h_rf := h_rf.below bn
       replace h_rb := h_rb.below bn
       replace bw := below_two bw bn
       clear bn
       go_wp2_with (first | (refine wpList_storeNewB (by rfl) _ _ _ (by rfl) _ _ _ _ (by rfl) (by rfl) (by assumption) ?_) | (refine wpList_storeNewAt (by rfl) _ _ _ (by rfl) _ _ _ _ (by rfl) (by rfl) (by simp) (by assumption) ?_) | (refine wpList_storeNew (by rfl) _ _ _ (by rfl) _ _ _ (by rfl) (by rfl) (by assumption) ?_))
       simp only [World.size_alloc] at h_rg
       generalize (w5.alloc (.cells z10 37)).alloc (.cells (fltC (15) (W_b)) 56) = w6 at *
       obtain ⟨q_g, eg⟩ : ∃ g, g = w5.heap.size + 1 := ⟨_, rfl⟩
       have ne_g_t : Hid (q_g ≠ q_t) := by show _ ≠ _; have := tl_t.out; omega
       rw [← eg] at h_rg ⊢
       clear eg
       obtain ⟨q_b, eg⟩ : ∃ g, g = w5.heap.size := ⟨_, rfl⟩
       have ne_b_t : Hid (q_b ≠ q_t) := by show _ ≠ _; have := tl_t.out; omega
       rw [← eg] at h_rb ⊢
       clear eg
       clear tl_t
       rw [HX.out]
       refine (tParse_main (HT0.out.below bw) hM.s bw.size X hzx.out).mono ?_
       rintro e w7 ⟨V_x, E_x, W_x, rfl, hM2, hk, hp⟩
       have bn := hk.done hM
       clear hk hM2
       replace hM := hM.below bn
       replace h_qa := h_qa.below bn
       replace h_ra := h_ra.below bn
       replace h_rf := h_rf.below bn
       replace h_rb := h_rb.below bn
       replace h_rg := h_rg.below bn
       replace bw := below_two bw bn
       clear bn
       rw [HRX.out] at hp
       obtain ⟨e1, e2, e3, e4⟩ := hp
       rw [← e1] at e3
       subst e4
       clear e1 e2
       have hE_x : (E_x != 0) = true := by simpa using e3
       clear e3
       have HU_x := Lib.hid (fits10 (V := z10) rfl z10_one)
       have HU_h := Lib.hid (fitsF (E_x) (W_x))
       have tl_t : Hid (q_t < w7.heap.size) := hM.s.lt
       have h_rx := rowA_new w7 37 z10
       have bn := below_new w7 (.cells z10 37)
       replace hM := hM.below bn
       replace h_qa := h_qa.below bn
       replace h_ra := h_ra.below bn
       replace h_rf := h_rf.below bn
       replace h_rb := h_rb.below bn
       replace h_rg := h_rg.below bn
       replace bw := below_two bw bn
       clear bn
       have h_rh := rowA_new (w7.alloc (.cells z10 37)) 56 (fltC (E_x) (W_x))
       have bn := below_new (w7.alloc (.cells z10 37)) (.cells (fltC (E_x) (W_x)) 56)
       replace hM := hM.below bn
       replace h_qa := h_qa.below bn
       replace h_ra := h_ra.below bn
       replace h_rf := h_rf.below bn
       replace h_rb := h_rb.below bn
       replace h_rg := h_rg.below bn
       replace h_rx := h_rx.below bn
       replace bw := below_two bw bn
       clear bn
       have k0_f := h_rf.cell (k := 0) (v := .int .i64 (0)) rfl
       have HI_a := Lib.hid h_ra.inV
       go_wp2_with (first | (refine wpList_storeNewB (by rfl) _ _ _ (by rfl) _ _ _ _ (by rfl) (by rfl) (by assumption) ?_) | (refine wpList_storeNewAt (by rfl) _ _ _ (by rfl) _ _ _ _ (by rfl) (by rfl) (by simp) (by assumption) ?_) | (refine wpList_loadV (by rfl) _ _ (by rfl) _ _ (by rfl) _ (by assumption) (by assumption) ?_) | (refine wpList_storeNew (by rfl) _ _ _ (by rfl) _ _ _ (by rfl) (by rfl) (by assumption) ?_))
       clear HI_a k0_f
       simp only [World.size_alloc] at h_rh
       generalize (w7.alloc (.cells z10 37)).alloc (.cells (fltC (E_x) (W_x)) 56) = w8 at *
       obtain ⟨q_h, eg⟩ : ∃ g, g = w7.heap.size + 1 := ⟨_, rfl⟩
       have ne_h_t : Hid (q_h ≠ q_t) := by show _ ≠ _; have := tl_t.out; omega
       rw [← eg] at h_rh ⊢
       clear eg
       obtain ⟨q_x, eg⟩ : ∃ g, g = w7.heap.size := ⟨_, rfl⟩
       have ne_x_t : Hid (q_x ≠ q_t) := by show _ ≠ _; have := tl_t.out; omega
       rw [← eg] at h_rx ⊢
       clear eg
       clear tl_t
       refine (refUMay_c h_qa (by decide) HL.out true HMAY.out).mono ?_
       rintro e w9 ⟨rfl, bn⟩
       replace hM := hM.below bn
       replace h_qa := h_qa.below bn
       replace h_ra := h_ra.below bn
       replace h_rf := h_rf.below bn
       replace h_rb := h_rb.below bn
       replace h_rg := h_rg.below bn
       replace h_rx := h_rx.below bn
       replace h_rh := h_rh.below bn
       replace bw := below_two bw bn
       clear bn
       have k0_g := h_rg.cell (k := 0) (v := .int .i64 (15)) rfl
       have k0_h := h_rh.cell (k := 0) (v := .int .i64 (E_x)) rfl
       go_wp2_with fail
       clear k0_g k0_h
       refine (wakes_any _ (Lib.hid (HT0.out.below bw))).mono ?_
       rintro e w10 ⟨rfl, bn⟩
       replace hM := hM.below bn
       replace h_qa := h_qa.below bn
       replace h_ra := h_ra.below bn
       replace h_rf := h_rf.below bn
       replace h_rb := h_rb.below bn
       replace h_rg := h_rg.below bn
       replace h_rx := h_rx.below bn
       replace h_rh := h_rh.below bn
       replace bw := below_two bw bn
       clear bn
       go_wp2
       go_ret
       exact ⟨rfl, bw⟩
    | ok yb =>
     obtain ⟨r, es⟩ := yb
     have hob : okU (r, es) := parseU_ok stdU_ok _ _ _ _ _ oneU_ok hRb
     have HRB := Lib.hid hRb
     have HLB : Hid (es.length = 7) := hob.2.2.1
     rw [hRb] at hfr
     clear hRb
     refine (tParse_main (HT0.out.below bw) hM.s bw.size s_b hzb.out).mono ?_
     rintro e w5 ⟨V_b, E_b, W_b, rfl, hM2, hk, hp⟩
     have bn := hk.done hM
     clear hk hM2
     replace hM := hM.below bn
     replace h_qa := h_qa.below bn
     replace h_ra := h_ra.below bn
     replace h_rf := h_rf.below bn
     replace bw := below_two bw bn
     clear bn
     rw [HRB.out] at hp
     obtain ⟨rfl, rfl, hok_b, A_b, n_b, c_b, C_b, m_b, d_b, rfl, h_qb, hl_b⟩ := hp
     have HU_b := Lib.hid (fits10 (size_uV hl_b) (uV_one (s := sg (oTop (some r))) (A := A_b) (n := n_b) (c := c_b) (B := C_b) (m := m_b) (d := d_b) (xs := es)))
     clear hok_b hl_b
     have HU_g := Lib.hid (fitsF (0) (0))
     have tl_t : Hid (q_t < w5.heap.size) := hM.s.lt
     have h_rb := rowA_new w5 37 (uV (sg (oTop (some r))) A_b n_b c_b C_b m_b d_b es)
     have bn := below_new w5 (.cells (uV (sg (oTop (some r))) A_b n_b c_b C_b m_b d_b es) 37)
     replace hM := hM.below bn
     replace h_qa := h_qa.below bn
     replace h_ra := h_ra.below bn
     replace h_rf := h_rf.below bn
     replace h_qb := h_qb.below bn
     replace bw := below_two bw bn
     clear bn
     have h_rg := rowA_new (w5.alloc (.cells (uV (sg (oTop (some r))) A_b n_b c_b C_b m_b d_b es) 37)) 56 (fltC (0) (0))
     have bn := below_new (w5.alloc (.cells (uV (sg (oTop (some r))) A_b n_b c_b C_b m_b d_b es) 37)) (.cells (fltC (0) (0)) 56)
     replace hM := hM.below bn
     replace h_qa := h_qa.below bn
     replace h_ra := h_ra.below bn
     replace h_rf := h_rf.below bn
     replace h_qb := h_qb.below bn
     replace h_rb := h_rb.below bn
     replace bw := below_two bw bn
     clear bn
     go_wp2_with (first | (refine wpList_storeNewB (by rfl) _ _ _ (by rfl) _ _ _ _ (by rfl) (by rfl) (by assumption) ?_) | (refine wpList_storeNewAt (by rfl) _ _ _ (by rfl) _ _ _ _ (by rfl) (by rfl) (by simp) (by assumption) ?_) | (refine wpList_storeNew (by rfl) _ _ _ (by rfl) _ _ _ (by rfl) (by rfl) (by assumption) ?_))
     simp only [World.size_alloc] at h_rg
     generalize (w5.alloc (.cells (uV (sg (oTop (some r))) A_b n_b c_b C_b m_b d_b es) 37)).alloc (.cells (fltC (0) (0)) 56) = w6 at *
     obtain ⟨q_g, eg⟩ : ∃ g, g = w5.heap.size + 1 := ⟨_, rfl⟩
     have ne_g_t : Hid (q_g ≠ q_t) := by show _ ≠ _; have := tl_t.out; omega
     rw [← eg] at h_rg ⊢
     clear eg
     obtain ⟨q_b, eg⟩ : ∃ g, g = w5.heap.size := ⟨_, rfl⟩
     have ne_b_t : Hid (q_b ≠ q_t) := by show _ ≠ _; have := tl_t.out; omega
     rw [← eg] at h_rb ⊢
     clear eg
     clear tl_t
     rw [HX.out]
     rcases hfr with hRx | ⟨rx, hRx⟩
     · have hox : okU (mulX (q, ds) (r, es)) := parseU_ok stdU_ok _ _ _ _ _ oneU_ok hRx
       obtain ⟨hm1, hm2⟩ := mul_may hoa hob hox
       have IA := Lib.hid (i64_good hoa.2.2.2)
       have IB := Lib.hid (i64_good hob.2.2.2)
       have hRx : parseU stdU (bytesOf X) = .ok ((q * r, addD ds es) : UQ) := hRx
       have hlz : (addD ds es).length = 7 := hox.2.2.1
       clear hoa hob hox
       generalize addD ds es = zs at *
       obtain ⟨t, ht⟩ : ∃ t, q * r = t := ⟨_, rfl⟩
       rw [ht] at hRx hm1
       have HM1 := Lib.hid hm1
       have HM2 := Lib.hid hm2
       have HRX := Lib.hid hRx
       have HLZ := Lib.hid hlz
       clear hm1 hm2 hRx hlz ht
       refine (tParse_main (HT0.out.below bw) hM.s bw.size X hzx.out).mono ?_
       rintro e w7 ⟨V_p, E_p, W_p, rfl, hM2, hk, hp⟩
       have bn := hk.done hM
       clear hk hM2
       replace hM := hM.below bn
       replace h_qa := h_qa.below bn
       replace h_ra := h_ra.below bn
       replace h_rf := h_rf.below bn
       replace h_qb := h_qb.below bn
       replace h_rb := h_rb.below bn
       replace h_rg := h_rg.below bn
       replace bw := below_two bw bn
       clear bn
       rw [HRX.out] at hp
       obtain ⟨rfl, rfl, hok_p, A_p, n_p, c_p, C_p, m_p, d_p, rfl, h_qp, hl_p⟩ := hp
       have HU_p := Lib.hid (fits10 (size_uV hl_p) (uV_one (s := sg (oTop (some t))) (A := A_p) (n := n_p) (c := c_p) (B := C_p) (m := m_p) (d := d_p) (xs := zs)))
       clear hok_p hl_p
       have HU_h := Lib.hid (fitsF (0) (0))
       have tl_t : Hid (q_t < w7.heap.size) := hM.s.lt
       have h_rp := rowA_new w7 37 (uV (sg (oTop (some t))) A_p n_p c_p C_p m_p d_p zs)
       have bn := below_new w7 (.cells (uV (sg (oTop (some t))) A_p n_p c_p C_p m_p d_p zs) 37)
       replace hM := hM.below bn
       replace h_qa := h_qa.below bn
       replace h_ra := h_ra.below bn
       replace h_rf := h_rf.below bn
       replace h_qb := h_qb.below bn
       replace h_rb := h_rb.below bn
       replace h_rg := h_rg.below bn
       replace h_qp := h_qp.below bn
       replace bw := below_two bw bn
       clear bn
       have h_rh := rowA_new (w7.alloc (.cells (uV (sg (oTop (some t))) A_p n_p c_p C_p m_p d_p zs) 37)) 56 (fltC (0) (0))
       have bn := below_new (w7.alloc (.cells (uV (sg (oTop (some t))) A_p n_p c_p C_p m_p d_p zs) 37)) (.cells (fltC (0) (0)) 56)
       replace hM := hM.below bn
       replace h_qa := h_qa.below bn
       replace h_ra := h_ra.below bn
       replace h_rf := h_rf.below bn
       replace h_qb := h_qb.below bn
       replace h_rb := h_rb.below bn
       replace h_rg := h_rg.below bn
       replace h_qp := h_qp.below bn
       replace h_rp := h_rp.below bn
       replace bw := below_two bw bn
       clear bn
       have k0_f := h_rf.cell (k := 0) (v := .int .i64 (0)) rfl
       have HI_a := Lib.hid h_ra.inV
       go_wp2_with (first | (refine wpList_storeNewB (by rfl) _ _ _ (by rfl) _ _ _ _ (by rfl) (by rfl) (by assumption) ?_) | (refine wpList_storeNewAt (by rfl) _ _ _ (by rfl) _ _ _ _ (by rfl) (by rfl) (by simp) (by assumption) ?_) | (refine wpList_loadV (by rfl) _ _ (by rfl) _ _ (by rfl) _ (by assumption) (by assumption) ?_) | (refine wpList_storeNew (by rfl) _ _ _ (by rfl) _ _ _ (by rfl) (by rfl) (by assumption) ?_))
       clear HI_a k0_f
       simp only [World.size_alloc] at h_rh
       generalize (w7.alloc (.cells (uV (sg (oTop (some t))) A_p n_p c_p C_p m_p d_p zs) 37)).alloc (.cells (fltC (0) (0)) 56) = w8 at *
       obtain ⟨q_h, eg⟩ : ∃ g, g = w7.heap.size + 1 := ⟨_, rfl⟩
       have ne_h_t : Hid (q_h ≠ q_t) := by show _ ≠ _; have := tl_t.out; omega
       rw [← eg] at h_rh ⊢
       clear eg
       obtain ⟨q_p, eg⟩ : ∃ g, g = w7.heap.size := ⟨_, rfl⟩
       have ne_p_t : Hid (q_p ≠ q_t) := by show _ ≠ _; have := tl_t.out; omega
       rw [← eg] at h_rp ⊢
       clear eg
       clear tl_t
       refine (refUMay_c h_qa (by decide) HL.out true HMAY.out).mono ?_
       rintro e w9 ⟨rfl, bn⟩
       replace hM := hM.below bn
       replace h_qa := h_qa.below bn
       replace h_ra := h_ra.below bn
       replace h_rf := h_rf.below bn
       replace h_qb := h_qb.below bn
       replace h_rb := h_rb.below bn
       replace h_rg := h_rg.below bn
       replace h_qp := h_qp.below bn
       replace h_rp := h_rp.below bn
       replace h_rh := h_rh.below bn
       replace bw := below_two bw bn
       clear bn
       have HM_a7 := Lib.hid (many7 HL.out)
       have HM_a3 := Lib.hid (many3 (.bool (sg (oTop (some q)))) (.slice A_a n_a c_a) (.slice C_a m_a d_a))
       have HM_b7 := Lib.hid (many7 HLB.out)
       have HM_b3 := Lib.hid (many3 (.bool (sg (oTop (some r)))) (.slice A_b n_b c_b) (.slice C_b m_b d_b))
       have k0_g := h_rg.cell (k := 0) (v := .int .i64 (0)) rfl
       have k0_h := h_rh.cell (k := 0) (v := .int .i64 (0)) rfl
       have HI_a7 := Lib.hid (uV_dim h_ra)
       have HI_b7 := Lib.hid (uV_dim h_rb)
       go_wp2_with (refine wpList_loadV (by rfl) _ _ (by rfl) _ _ (by rfl) _ (by assumption) (by assumption) ?_)
       clear HI_a7 HI_b7 k0_g k0_h
       refine (dMul_c HL.out IA.out HLB.out IB.out zs 0 HM2.out).mono ?_
       rintro e w10 ⟨rfl, bn⟩
       replace hM := hM.below bn
       replace h_qa := h_qa.below bn
       replace h_ra := h_ra.below bn
       replace h_rf := h_rf.below bn
       replace h_qb := h_qb.below bn
       replace h_rb := h_rb.below bn
       replace h_rg := h_rg.below bn
       replace h_qp := h_qp.below bn
       replace h_rp := h_rp.below bn
       replace h_rh := h_rh.below bn
       replace bw := below_two bw bn
       clear bn
       have HU_d := Lib.hid (fits7 HLZ.out)
       have tl_t : Hid (q_t < w10.heap.size) := hM.s.lt
       have h_rd := rowA_new w10 35 (dimV zs)
       have bn := below_new w10 (.cells (dimV zs) 35)
       replace hM := hM.below bn
       replace h_qa := h_qa.below bn
       replace h_ra := h_ra.below bn
       replace h_rf := h_rf.below bn
       replace h_qb := h_qb.below bn
       replace h_rb := h_rb.below bn
       replace h_rg := h_rg.below bn
       replace h_qp := h_qp.below bn
       replace h_rp := h_rp.below bn
       replace h_rh := h_rh.below bn
       replace bw := below_two bw bn
       clear bn
       have HI_a3 := Lib.hid (uV_rat h_ra)
       have HI_b3 := Lib.hid (uV_rat h_rb)
       go_wp2_with (first | (refine wpList_loadV (by rfl) _ _ (by rfl) _ _ (by rfl) _ (by assumption) (by assumption) ?_) | (refine wpList_storeNew (by rfl) _ _ _ (by rfl) _ _ _ (by rfl) (by rfl) (by assumption) ?_))
       clear HI_a3 HI_b3
       generalize w10.alloc (.cells (dimV zs) 35) = w11 at *
       obtain ⟨q_d, eg⟩ : ∃ g, g = w10.heap.size := ⟨_, rfl⟩
       have ne_d_t : Hid (q_d ≠ q_t) := by show _ ≠ _; have := tl_t.out; omega
       rw [← eg] at h_rd ⊢
       clear eg
       clear tl_t
       refine (rMul_c h_qa h_qb (by decide) (by decide) (some t) 0 HM1.out).mono ?_
       rintro e w12 ⟨A_m, n_m, c_m, C_m, m_m, d_m, rfl, h_qm, bn⟩
       replace hM := hM.below bn
       replace h_qa := h_qa.below bn
       replace h_ra := h_ra.below bn
       replace h_rf := h_rf.below bn
       replace h_qb := h_qb.below bn
       replace h_rb := h_rb.below bn
       replace h_rg := h_rg.below bn
       replace h_qp := h_qp.below bn
       replace h_rp := h_rp.below bn
       replace h_rh := h_rh.below bn
       replace h_rd := h_rd.below bn
       replace bw := below_two bw bn
       clear bn
       have HU_m := Lib.hid (fits3 (s := sg (oTop (some t))) (A := A_m) (n := n_m) (c := c_m) (B := C_m) (m := m_m) (d := d_m))
       have tl_t : Hid (q_t < w12.heap.size) := hM.s.lt
       have h_rm := rowA_new w12 33 #[.bool (sg (oTop (some t))), .slice A_m n_m c_m, .slice C_m m_m d_m]
       have bn := below_new w12 (.cells #[.bool (sg (oTop (some t))), .slice A_m n_m c_m, .slice C_m m_m d_m] 33)
       replace hM := hM.below bn
       replace h_qa := h_qa.below bn
       replace h_ra := h_ra.below bn
       replace h_rf := h_rf.below bn
       replace h_qb := h_qb.below bn
       replace h_rb := h_rb.below bn
       replace h_rg := h_rg.below bn
       replace h_qp := h_qp.below bn
       replace h_rp := h_rp.below bn
       replace h_rh := h_rh.below bn
       replace h_rd := h_rd.below bn
       replace h_qm := h_qm.below bn
       replace bw := below_two bw bn
       clear bn
       have HM_p7 := Lib.hid (many7 HLZ.out)
       have HM_p3 := Lib.hid (many3 (.bool (sg (oTop (some t)))) (.slice A_p n_p c_p) (.slice C_p m_p d_p))
       have HM_m3 := Lib.hid (many3 (.bool (sg (oTop (some t)))) (.slice A_m n_m c_m) (.slice C_m m_m d_m))
       have heq := fun W => equal_dim (xs := zs) (ys := zs) HLZ.out HLZ.out (b := true) (by simp) W
       have HI_p7 := Lib.hid (uV_dim h_rp)
       have HI_p3 := Lib.hid (uV_rat h_rp)
       have HI_d7 := Lib.hid h_rd.inV
       have HI_m3 := Lib.hid h_rm.inV
       go_wp2_with (first | (refine wpList_loadV (by rfl) _ _ (by rfl) _ _ (by rfl) _ (by assumption) (by assumption) ?_) | (refine wpList_storeNew (by rfl) _ _ _ (by rfl) _ _ _ (by rfl) (by rfl) (by assumption) ?_))
       clear HI_p7 HI_p3 HI_d7 HI_m3 heq
       generalize w12.alloc (.cells #[.bool (sg (oTop (some t))), .slice A_m n_m c_m, .slice C_m m_m d_m] 33) = w13 at *
       obtain ⟨q_m, eg⟩ : ∃ g, g = w12.heap.size := ⟨_, rfl⟩
       have ne_m_t : Hid (q_m ≠ q_t) := by show _ ≠ _; have := tl_t.out; omega
       rw [← eg] at h_rm ⊢
       clear eg
       clear tl_t
       refine (keepRat_c h_qp h_qm (by decide) (by decide) true (keepQ rfl)).mono ?_
       rintro e w14 ⟨rfl, bn⟩
       replace hM := hM.below bn
       replace h_qa := h_qa.below bn
       replace h_ra := h_ra.below bn
       replace h_rf := h_rf.below bn
       replace h_qb := h_qb.below bn
       replace h_rb := h_rb.below bn
       replace h_rg := h_rg.below bn
       replace h_qp := h_qp.below bn
       replace h_rp := h_rp.below bn
       replace h_rh := h_rh.below bn
       replace h_rd := h_rd.below bn
       replace h_qm := h_qm.below bn
       replace h_rm := h_rm.below bn
       replace bw := below_two bw bn
       clear bn
       go_wp2_with fail
       refine (wakes_any _ (Lib.hid (HT0.out.below bw))).mono ?_
       rintro e w15 ⟨rfl, bn⟩
       replace hM := hM.below bn
       replace h_qa := h_qa.below bn
       replace h_ra := h_ra.below bn
       replace h_rf := h_rf.below bn
       replace h_qb := h_qb.below bn
       replace h_rb := h_rb.below bn
       replace h_rg := h_rg.below bn
       replace h_qp := h_qp.below bn
       replace h_rp := h_rp.below bn
       replace h_rh := h_rh.below bn
       replace h_rd := h_rd.below bn
       replace h_qm := h_qm.below bn
       replace h_rm := h_rm.below bn
       replace bw := below_two bw bn
       clear bn
       go_wp2
       go_ret
       exact ⟨rfl, bw⟩
     · have HRX := Lib.hid hRx
       clear hRx
       refine (tParse_main (HT0.out.below bw) hM.s bw.size X hzx.out).mono ?_
       rintro e w7 ⟨V_x, E_x, W_x, rfl, hM2, hk, hp⟩
       have bn := hk.done hM
       clear hk hM2
       replace hM := hM.below bn
       replace h_qa := h_qa.below bn
       replace h_ra := h_ra.below bn
       replace h_rf := h_rf.below bn
       replace h_qb := h_qb.below bn
       replace h_rb := h_rb.below bn
       replace h_rg := h_rg.below bn
       replace bw := below_two bw bn
       clear bn
       rw [HRX.out] at hp
       obtain ⟨e1, e2, e3, e4⟩ := hp
       subst e1 e4
       clear e2 e3
       have HU_x := Lib.hid (fits10 (V := z10) rfl z10_one)
       have HU_h := Lib.hid (fitsF (2) (W_x))
       have tl_t : Hid (q_t < w7.heap.size) := hM.s.lt
       have h_rx := rowA_new w7 37 z10
       have bn := below_new w7 (.cells z10 37)
       replace hM := hM.below bn
       replace h_qa := h_qa.below bn
       replace h_ra := h_ra.below bn
       replace h_rf := h_rf.below bn
       replace h_qb := h_qb.below bn
       replace h_rb := h_rb.below bn
       replace h_rg := h_rg.below bn
       replace bw := below_two bw bn
       clear bn
       have h_rh := rowA_new (w7.alloc (.cells z10 37)) 56 (fltC (2) (W_x))
       have bn := below_new (w7.alloc (.cells z10 37)) (.cells (fltC (2) (W_x)) 56)
       replace hM := hM.below bn
       replace h_qa := h_qa.below bn
       replace h_ra := h_ra.below bn
       replace h_rf := h_rf.below bn
       replace h_qb := h_qb.below bn
       replace h_rb := h_rb.below bn
       replace h_rg := h_rg.below bn
       replace h_rx := h_rx.below bn
       replace bw := below_two bw bn
       clear bn
       have k0_f := h_rf.cell (k := 0) (v := .int .i64 (0)) rfl
       have HI_a := Lib.hid h_ra.inV
       go_wp2_with (first | (refine wpList_storeNewB (by rfl) _ _ _ (by rfl) _ _ _ _ (by rfl) (by rfl) (by assumption) ?_) | (refine wpList_storeNewAt (by rfl) _ _ _ (by rfl) _ _ _ _ (by rfl) (by rfl) (by simp) (by assumption) ?_) | (refine wpList_loadV (by rfl) _ _ (by rfl) _ _ (by rfl) _ (by assumption) (by assumption) ?_) | (refine wpList_storeNew (by rfl) _ _ _ (by rfl) _ _ _ (by rfl) (by rfl) (by assumption) ?_))
       clear HI_a k0_f
       simp only [World.size_alloc] at h_rh
       generalize (w7.alloc (.cells z10 37)).alloc (.cells (fltC (2) (W_x)) 56) = w8 at *
       obtain ⟨q_h, eg⟩ : ∃ g, g = w7.heap.size + 1 := ⟨_, rfl⟩
       have ne_h_t : Hid (q_h ≠ q_t) := by show _ ≠ _; have := tl_t.out; omega
       rw [← eg] at h_rh ⊢
       clear eg
       obtain ⟨q_x, eg⟩ : ∃ g, g = w7.heap.size := ⟨_, rfl⟩
       have ne_x_t : Hid (q_x ≠ q_t) := by show _ ≠ _; have := tl_t.out; omega
       rw [← eg] at h_rx ⊢
       clear eg
       clear tl_t
       refine (refUMay_c h_qa (by decide) HL.out true HMAY.out).mono ?_
       rintro e w9 ⟨rfl, bn⟩
       replace hM := hM.below bn
       replace h_qa := h_qa.below bn
       replace h_ra := h_ra.below bn
       replace h_rf := h_rf.below bn
       replace h_qb := h_qb.below bn
       replace h_rb := h_rb.below bn
       replace h_rg := h_rg.below bn
       replace h_rx := h_rx.below bn
       replace h_rh := h_rh.below bn
       replace bw := below_two bw bn
       clear bn
       have k0_g := h_rg.cell (k := 0) (v := .int .i64 (0)) rfl
       have k0_h := h_rh.cell (k := 0) (v := .int .i64 (2)) rfl
       go_wp2_with fail
       clear k0_g k0_h
       refine (wakes_any _ (Lib.hid (HT0.out.below bw))).mono ?_
       rintro e w10 ⟨rfl, bn⟩
       replace hM := hM.below bn
       replace h_qa := h_qa.below bn
       replace h_ra := h_ra.below bn
       replace h_rf := h_rf.below bn
       replace h_qb := h_qb.below bn
       replace h_rb := h_rb.below bn
       replace h_rg := h_rg.below bn
       replace h_rx := h_rx.below bn
       replace h_rh := h_rh.below bn
       replace bw := below_two bw bn
       clear bn
       go_wp2
       go_ret
       exact ⟨rfl, bw⟩
theorem tab_of {W : World} (h : laidMet Tryz.prog Rows.unitProductsRow.laid W) : UTab W := by
 refine ?_
 · first | exact prefixes_tab (laidMet_drop 0 h) (by decide +kernel) | exact prefixes_tab (laidMet_drop 1 h) (by decide +kernel) | exact prefixes_tab (laidMet_drop 2 h) (by decide +kernel) | exact prefixes_tab (laidMet_drop 3 h) (by decide +kernel) | exact prefixes_tab (laidMet_drop 4 h) (by decide +kernel) | exact prefixes_tab (laidMet_drop 5 h) (by decide +kernel) | exact prefixes_tab (laidMet_drop 6 h) (by decide +kernel) | exact prefixes_tab (laidMet_drop 7 h) (by decide +kernel) | exact prefixes_tab (laidMet_drop 8 h) (by decide +kernel) | exact prefixes_tab (laidMet_drop 9 h) (by decide +kernel) | exact prefixes_tab (laidMet_drop 10 h) (by decide +kernel) | exact prefixes_tab (laidMet_drop 11 h) (by decide +kernel) | exact prefixes_tab (laidMet_drop 12 h) (by decide +kernel) | exact prefixes_tab (laidMet_drop 13 h) (by decide +kernel)
set_option maxRecDepth 100000 in
theorem lifted (os : Os) (started : os.Started) (H : Type) (enc : TypeId × Value → H) :
 ReturnsInHanded {} Tryz.checked os 4 .any (fun w args => (Rows.unitProductsSpec.pre enc Tryz.prog Tryz.f4 [] false w args ∧ laidMetH Tryz.prog Rows.unitProductsRow.laid w) ∧ sizedMet enc Tryz.prog Tryz.f4 (OpenSpec.ofChange Rows.unitProductsSpec) false w args)
  (Rows.unitProductsSpec.post enc Tryz.prog Tryz.f4 false true false false) := by
 refine returnsInHanded_of_change_and (C := Tryz.checked) (X := fun w _ => laidMetH Tryz.prog Rows.unitProductsRow.laid w) (fun _ _ _ hh h => h.of_heap hh) own started (by kernel_rfl) Tryz.func4
  (ChangeSpec.witness_shaped (enc := enc) (C := Tryz.checked) (os := os) (X := fun w _ => laidMetH Tryz.prog Rows.unitProductsRow.laid w) false (World.laidAll Tryz.prog os Rows.unitProductsRow.laid) #[.string ⟨#[]⟩, .string ⟨#[]⟩] 8 (World.laidAll_os _ _ _)
    (World.shaped_of_ZipB (by kernel_rfl) (by kernel_rfl)) (by kernel_rfl) (by kernel_rfl) (by kernel_rfl)
    (by rw [MakeChecks.laidMetH_plain _ _ _ (by kernel_rfl)]; exact laidMet_laidAll _ (by kernel_rfl) (by kernel_rfl))) ?_
 intro W base args ds gs before hval0 hW _ hwt hL _
 have hval : ∀ (j : Nat) t v, Tryz.f4.params[j]? = some t → args[j]? = some v → Value.okWide Tryz.prog W .any base t v := hval0
 have hW' := hW
 obtain ⟨p, q, hA0, hV, rfl, hfz, hnd⟩ := hW
 have hA : DataW.TrodAll enc Tryz.prog W 0 (fun _ => true) true Tryz.f4.params.toList args.toList ds p := hA0
 rw [Tryz.params4] at hA hval hwt
 obtain ⟨v0, vs0, d0, ds0, p0, q0, hargs, rfl, rfl, h0, r0⟩ := trodAll_cons hA
 obtain ⟨v1, vs1, d1, ds1, p1, q1, rfl, rfl, rfl, h1, r1⟩ := trodAll_cons r0
 obtain ⟨rfl, rfl, rfl⟩ := trodAll_nil r1
 obtain rfl : args = #[v0, v1] := by cases args; simp_all
 obtain ⟨rfl, rfl⟩ := trodVars_none hV
 obtain ⟨a0, rfl, rfl, rfl, w0⟩ := Go.ChangeMaps.open_string Tryz.underlying9 (hval 0 9 v0 rfl rfl) h0
 obtain ⟨a1, rfl, rfl, rfl, w1⟩ := Go.ChangeMaps.open_string Tryz.underlying9 (hval 1 9 v1 rfl rfl) h1
 clear hA0 hval0
 have hwt2 := List.all_eq_true.1 hwt
 have y0 : a0.size ≤ 140737488351232 := by
  have h : decide (a0.data.toList.length ≤ reachBytes) = true := hwt2 (a0.data.toList.length) (by simp [DataW.weightsEach, DataW.weights])
  simpa [reachBytes] using of_decide_eq_true h
 have y1 : a1.size ≤ 140737488351232 := by
  have h : decide (a1.data.toList.length ≤ reachBytes) = true := hwt2 (a1.data.toList.length) (by simp [DataW.weightsEach, DataW.weights])
  simpa [reachBytes] using of_decide_eq_true h
 simp only [List.append_nil] at hW'
 rw [MakeChecks.laidMetH_plain _ _ _ (by kernel_rfl)] at hL
 refine (walk a0 a1 W w0 y0 w1 y1 (tab_of hL)).mono fun e W' ⟨he, bel⟩ => ?_
 subst he
 exact ⟨_, rfl, _, _, _, [], _, [], hW', trodAll_mk1 (shut_bool Tryz.underlying4 _), (trodAll_cons_mk (Go.ChangeMaps.shut_string Tryz.underlying9 w0) (trodAll_cons_mk (Go.ChangeMaps.shut_string Tryz.underlying9 w1) trodAll_mk0)), rfl, bel.frame _, fun h => by cases h⟩
theorem over : Rows.unitProductsRow.holds Tryz.pinned (OpenSpec.ofChange Rows.unitProductsSpec) :=
 OpenClaim.holds_of_wide 4 Tryz.f4 rfl rfl rfl rfl rfl rfl rfl ⟨rfl, rfl, rfl, rfl, rfl⟩ rfl rfl rfl rfl rfl (by kernel_rfl) Tryz.func4 (by kernel_rfl)
  (of_decide_eq_true (by kernel_rfl)) (by unfold Func.isWrapper; first | (rw [if_pos (by decide +kernel)]; kernel_rfl) | (rw [if_neg (by decide +kernel)]; exact ⟨rfl, rfl⟩))
  (fun os started H enc _ => lifted os started H enc)
theorem proved : Rows.UnitProductsCardSaid :=
 Claim7.holds_tied_plain_at .later [] Rows.unitProductsCard.laidKinds true Rows.unitProductsCard.stood.harness Rows.unitProductsCard.stood.looks
  over (fun _ h => by cases h) (by kernel_rfl) (fun _ h => by cases h) unitProducts_row_tie rfl ⟨rfl, rfl⟩ (by kernel_rfl) rfl
  (fun f fn hf hfn => by
    obtain rfl : f = 4 := Option.some.inj ((show Tryz.prog.funcNamed Rows.unitProductsRow.func = some 4 by kernel_rfl).symm.trans hf) |>.symm
    obtain rfl : fn = Tryz.f4 := (Option.some.inj (Tryz.func4.symm.trans hfn)).symm
    exact ⟨by kernel_rfl, fun j t ht => by
     have hm : t ∈ Tryz.f4.params.toList := by simpa using Array.mem_of_getElem? ht
     have hall : (Tryz.f4.params.toList.all fun u => !Tryz.prog.wantsStandIn u) = true := by kernel_rfl
     exact (show Tryz.prog.wantsStandIn t = false by simpa using List.all_eq_true.1 hall t hm)⟩)
  (by kernel_rfl)
end Go.Proofs.YtohokfbohdoijaaGreatDoor.lawUnitProducts
