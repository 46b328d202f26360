/- Of any two numbers: a name's unit is that of its text, to the power 2 its square, with a prefix so many times it. Condition: the variables that the row lists read as listed. -/
import Derived.Test.YtohokfbohdoijaaGreatDoorM13
import Derived.Test.YtohokfbohdoijaaGreatDoorCards
import Derived.Test.YtohokfbohdoijaaGreatDoorTie
import Derived.ChangeMaps5
import Derived.Lay
import Derived.SevenTiedAt
/- Of any two numbers: a name's unit is that of its text, to the power 2 its square, with a prefix so many times it. Condition: the variables that the row lists read as listed. -/
namespace Go.Proofs.YtohokfbohdoijaaGreatDoor.lawUnitNames
open Go.ChangeShapes Go.WideShapes Go.ChangeAt Go.RowKit Limb
set_option linter.unusedVariables false
theorem i64_wf {xs : List Int} (h : ∀ x ∈ xs, (Lit.int .i64 x).wf = true) : I64 xs := fun x hx => by
 have := h x hx
 have e1 : IntKind.i64.min = -9223372036854775808 := rfl
 have e2 : IntKind.i64.max = 9223372036854775807 := rfl
 simp only [Lit.wf, Bool.and_eq_true, decide_eq_true_eq] at this
 omega
theorem base_at : ∀ i < 15, ∃ Bs : ByteArray, ([.string ⟨#[109]⟩, .string ⟨#[115]⟩, .string ⟨#[65]⟩, .string ⟨#[75]⟩, .string ⟨#[109, 111, 108]⟩, .string ⟨#[99, 100]⟩, .string ⟨#[103]⟩, .string ⟨#[72, 122]⟩, .string ⟨#[78]⟩, .string ⟨#[80, 97]⟩, .string ⟨#[74]⟩, .string ⟨#[87]⟩, .string ⟨#[67]⟩, .string ⟨#[86]⟩, .string ⟨#[76]⟩] : List Value)[i]? = some (.string Bs) ∧ bytesOf Bs = (bAt i).1 := by
 intro i hi
 match i, hi with
 | 0, _ => exact ⟨_, rfl, rfl⟩
 | 1, _ => exact ⟨_, rfl, rfl⟩
 | 2, _ => exact ⟨_, rfl, rfl⟩
 | 3, _ => exact ⟨_, rfl, rfl⟩
 | 4, _ => exact ⟨_, rfl, rfl⟩
 | 5, _ => exact ⟨_, rfl, rfl⟩
 | 6, _ => exact ⟨_, rfl, rfl⟩
 | 7, _ => exact ⟨_, rfl, rfl⟩
 | 8, _ => exact ⟨_, rfl, rfl⟩
 | 9, _ => exact ⟨_, rfl, rfl⟩
 | 10, _ => exact ⟨_, rfl, rfl⟩
 | 11, _ => exact ⟨_, rfl, rfl⟩
 | 12, _ => exact ⟨_, rfl, rfl⟩
 | 13, _ => exact ⟨_, rfl, rfl⟩
 | 14, _ => exact ⟨_, rfl, rfl⟩
theorem getElem_base {i : Nat} (hi : i < 15) {v : Value} (h : ([.string ⟨#[109]⟩, .string ⟨#[115]⟩, .string ⟨#[65]⟩, .string ⟨#[75]⟩, .string ⟨#[109, 111, 108]⟩, .string ⟨#[99, 100]⟩, .string ⟨#[103]⟩, .string ⟨#[72, 122]⟩, .string ⟨#[78]⟩, .string ⟨#[80, 97]⟩, .string ⟨#[74]⟩, .string ⟨#[87]⟩, .string ⟨#[67]⟩, .string ⟨#[86]⟩, .string ⟨#[76]⟩] : List Value)[i]? = some v) {p : i < ([.string ⟨#[109]⟩, .string ⟨#[115]⟩, .string ⟨#[65]⟩, .string ⟨#[75]⟩, .string ⟨#[109, 111, 108]⟩, .string ⟨#[99, 100]⟩, .string ⟨#[103]⟩, .string ⟨#[72, 122]⟩, .string ⟨#[78]⟩, .string ⟨#[80, 97]⟩, .string ⟨#[74]⟩, .string ⟨#[87]⟩, .string ⟨#[67]⟩, .string ⟨#[86]⟩, .string ⟨#[76]⟩] : List Value).length} : ([.string ⟨#[109]⟩, .string ⟨#[115]⟩, .string ⟨#[65]⟩, .string ⟨#[75]⟩, .string ⟨#[109, 111, 108]⟩, .string ⟨#[99, 100]⟩, .string ⟨#[103]⟩, .string ⟨#[72, 122]⟩, .string ⟨#[78]⟩, .string ⟨#[80, 97]⟩, .string ⟨#[74]⟩, .string ⟨#[87]⟩, .string ⟨#[67]⟩, .string ⟨#[86]⟩, .string ⟨#[76]⟩] : List Value)[i]'p = v := by
 rw [List.getElem?_eq_getElem p] at h
 exact Option.some.inj h
theorem pre_facts {i k : Nat} (hi : i < 15) (hk : k < 5) : ∃ (x1 : Rat) (x2 : List Int) (y1 : Rat) (y2 : List Int), stdU.lookup (bAt i).1 = some (x1, x2) ∧ stdU.lookup ((pAt (k + 1)).1 ++ (bAt i).1) = some (y1, y2) ∧ mulR (some x1) (some ((10 : Rat) ^ (pAt (k + 1)).2)) = (some y1, 0) ∧ x2 = y2 ∧ x2.length = 7 := by
 have h := std_pre i hi k hk
 unfold preB at h
 cases e1 : stdU.lookup (bAt i).1 with
 | none => rw [e1] at h; cases h
 | some x =>
  cases e2 : stdU.lookup ((pAt (k + 1)).1 ++ (bAt i).1) with
  | none => rw [e1, e2] at h; cases h
  | some y =>
   rw [e1, e2] at h
   simp only [Bool.and_eq_true, decide_eq_true_eq] at h
   obtain ⟨⟨h1, h2⟩, h3⟩ := h
   refine ⟨x.1, x.2, y.1, y.2, rfl, rfl, ?_, h2, (stdU_ok.ok e1).2.2.1⟩
   rw [h1] at h3
   unfold mulR opR limR limQ limE
   simp only [h1, if_pos h3]
theorem pre_bytes : ∀ k < 5, bytesOf ((⟨#[107, 77, 109, 117, 99]⟩ : ByteArray).extract k (k + 1)) = (pAt (k + 1)).1 ∧ ((⟨#[107, 77, 109, 117, 99]⟩ : ByteArray).extract k (k + 1)).size = 1 := by decide +kernel
theorem bAt_len : ∀ i < 15, (bAt i).1.length ≤ 10 := by decide +kernel
theorem base_size {i : Nat} (hi : i < 15) {Bs : ByteArray} (h : bytesOf Bs = (bAt i).1) : Bs.size ≤ 10 := by
 rw [← length_bytesOf, h]; exact bAt_len i hi
def facQ (k : Nat) : Rat := (10 : Rat) ^ (pAt (k + 1)).2
theorem pick5 {w : World} {A_f0 : Option Addr} {n_f0 c_f0 : Nat} {C_f0 : Option Addr} {m_f0 d_f0 : Nat} {A_f1 : Option Addr} {n_f1 c_f1 : Nat} {C_f1 : Option Addr} {m_f1 d_f1 : Nat} {A_f2 : Option Addr} {n_f2 c_f2 : Nat} {C_f2 : Option Addr} {m_f2 d_f2 : Nat} {A_f3 : Option Addr} {n_f3 c_f3 : Nat} {C_f3 : Option Addr} {m_f3 d_f3 : Nat} {A_f4 : Option Addr} {n_f4 c_f4 : Nat} {C_f4 : Option Addr} {m_f4 d_f4 : Nat} (h0 : QT w A_f0 n_f0 c_f0 C_f0 m_f0 d_f0 (some (facQ 0))) (h1 : QT w A_f1 n_f1 c_f1 C_f1 m_f1 d_f1 (some (facQ 1))) (h2 : QT w A_f2 n_f2 c_f2 C_f2 m_f2 d_f2 (some (facQ 2))) (h3 : QT w A_f3 n_f3 c_f3 C_f3 m_f3 d_f3 (some (facQ 3))) (h4 : QT w A_f4 n_f4 c_f4 C_f4 m_f4 d_f4 (some (facQ 4)))
 (k : Nat) (hk : k < 5) : ∃ A n c C m d, (∀ j v, (#[.bool (sg (oTop (some (facQ k)))), .slice A n c, .slice C m d] : Array Value)[j]? = some v → (#[.bool (sg (oTop (some (facQ 0)))), .slice A_f0 n_f0 c_f0, .slice C_f0 m_f0 d_f0, .bool (sg (oTop (some (facQ 1)))), .slice A_f1 n_f1 c_f1, .slice C_f1 m_f1 d_f1, .bool (sg (oTop (some (facQ 2)))), .slice A_f2 n_f2 c_f2, .slice C_f2 m_f2 d_f2, .bool (sg (oTop (some (facQ 3)))), .slice A_f3 n_f3 c_f3, .slice C_f3 m_f3 d_f3, .bool (sg (oTop (some (facQ 4)))), .slice A_f4 n_f4 c_f4, .slice C_f4 m_f4 d_f4] : Array Value)[k * 3 + j]? = some v) ∧ QT w A n c C m d (some (facQ k)) := by
 match k, hk with
 | 0, _ => exact ⟨A_f0, n_f0, c_f0, C_f0, m_f0, d_f0, fun j v hv => (match j, hv with | 0, hv => hv | 1, hv => hv | 2, hv => hv | j + 3, hv => absurd hv (by simp)), h0⟩
 | 1, _ => exact ⟨A_f1, n_f1, c_f1, C_f1, m_f1, d_f1, fun j v hv => (match j, hv with | 0, hv => hv | 1, hv => hv | 2, hv => hv | j + 3, hv => absurd hv (by simp)), h1⟩
 | 2, _ => exact ⟨A_f2, n_f2, c_f2, C_f2, m_f2, d_f2, fun j v hv => (match j, hv with | 0, hv => hv | 1, hv => hv | 2, hv => hv | j + 3, hv => absurd hv (by simp)), h2⟩
 | 3, _ => exact ⟨A_f3, n_f3, c_f3, C_f3, m_f3, d_f3, fun j v hv => (match j, hv with | 0, hv => hv | 1, hv => hv | 2, hv => hv | j + 3, hv => absurd hv (by simp)), h3⟩
 | 4, _ => exact ⟨A_f4, n_f4, c_f4, C_f4, m_f4, d_f4, fun j v hv => (match j, hv with | 0, hv => hv | 1, hv => hv | 2, hv => hv | j + 3, hv => absurd hv (by simp)), h4⟩
theorem texts_lt {L : List ByteArray} (h : L.Pairwise (fun a b => a.data.toList < b.data.toList)) {p i : Nat} {X Y : ByteArray} (hY : L[p]? = some Y) (hX : L[i]? = some X) (hp : p < i) : Y.data.toList < X.data.toList := by
 obtain ⟨hp1, rfl⟩ := List.getElem?_eq_some_iff.1 hY
 obtain ⟨hi1, rfl⟩ := List.getElem?_eq_some_iff.1 hX
 exact (List.pairwise_iff_getElem.1 h) p i hp1 hi1 hp
theorem texts_rise {X Y : ByteArray} (h : Y.data.toList < X.data.toList) : Op.bytesLess X.toList Y.toList = false ∧ (X.toList == Y.toList) = false := by
 rw [bytesLess_eq, ByteArray.toList_eq, ByteArray.toList_eq]
 refine ⟨decide_eq_false fun h2 => List.lt_irrefl _ (List.lt_trans h h2), ?_⟩
 rw [beq_eq_false_iff_ne]
 intro e
 rw [e] at h
 exact List.lt_irrefl _ h
set_option maxHeartbeats 8000000 in
set_option maxRecDepth 100000 in
theorem walk (v_n : Int) (v_k : Int) (w : World) (f_n : (Lit.int .u16 v_n).wf = true) (f_k : (Lit.int .u16 v_k).wf = true) (HT : UTab w) :
 Calls Tryz.prog 5 #[.int .u16 v_n, .int .u16 v_k] w fun e w' => e = .returned (.bool true) ∧ Below w.heap.size w w' := by
 have HT0 := Lib.hid HT
 clear HT
 obtain ⟨N_n, e_n, hN_n⟩ : ∃ N : Nat, v_n = (N : Int) ∧ N < 65536 := by
  have e1 : IntKind.u16.min = 0 := rfl
  have e2 : IntKind.u16.max = 65535 := rfl
  simp only [Lit.wf, Bool.and_eq_true, decide_eq_true_eq] at f_n
  exact ⟨v_n.toNat, by omega, by omega⟩
 subst e_n
 clear f_n
 obtain ⟨N_k, e_k, hN_k⟩ : ∃ N : Nat, v_k = (N : Int) ∧ N < 65536 := by
  have e1 : IntKind.u16.min = 0 := rfl
  have e2 : IntKind.u16.max = 65535 := rfl
  simp only [Lit.wf, Bool.and_eq_true, decide_eq_true_eq] at f_k
  exact ⟨v_k.toNat, by omega, by omega⟩
 subst e_k
 clear f_k
 have ew_n : IntKind.i64.wrap (N_n : Int) = (N_n : Int) := by rw [IntKind.wrap_i64]; omega
 have ew_k : IntKind.i64.wrap (N_k : Int) = (N_k : Int) := by rw [IntKind.wrap_i64]; omega
 have bw := bel_refl w
 go_enter Tryz.func5, Tryz.ntmps5
 go_wp2_with fail
 have BSZ := bw.size
 refine (uNew_c w).mono ?_
 rintro e w1 ⟨rfl, rfl⟩
 have bn := below_new w (.cells (tabV 0 none) 95)
 replace bw := below_two bw bn
 clear bn
 obtain ⟨q_t, eg⟩ : ∃ g, g = w.heap.size := ⟨_, rfl⟩
 have hS : TabS (w.alloc (.cells (tabV 0 none) 95)) w.heap.size q_t stdU := .inl ⟨by rw [eg]; exact tabF_new _, by rw [eg]; exact BSZ, rfl⟩
 rw [← eg]
 generalize w.alloc (.cells (tabV 0 none) 95) = w2 at *
 clear eg BSZ
 go_wp2_with fail
 refine (uNames_c (HT0.out.below bw) hS bw.size (by rw [stdU_len]; decide)).mono ?_
 rintro e w3 ⟨A_l, n_l, c_l, L, rfl, hown, hn, hno, ⟨mb, hM⟩, hk⟩
 replace bw := bw.trans hk.bel
 clear hk hS
 have hn92 : n_l = 92 := by rw [hn]; exact stdU_len
 subst hn92
 clear hn
 obtain ⟨g, rfl, hgB, hglt, hnc, hcm, _⟩ := hown.cells (by decide)
 have HNO := Lib.hid hno
 have HLEN : Hid (L.length = 92) := hno.len.trans stdU_len
 have HLT := Lib.hid (hno.lt stdU_ok)
 have HOW := Lib.hid hown
 clear hno hown hgB hglt
 go_wp2_with fail
 have HM := Lib.hid hM
 have HBW := Lib.hid bw
 clear hM bw
 go_loopw [7] (fun iv wr => ∃ i : Nat, 1 ≤ i ∧ i ≤ 92 ∧ iv = .int .i64 (i : Int) ∧ Hid (OwnR wr w.heap.size 9 1 (some ⟨g, 0, none⟩) 92 c_l (L.map Value.string)) ∧ Hid (TabM wr w.heap.size q_t mb stdU) ∧ Hid (Below w.heap.size w wr)) (fun iv _ => 92 - (intOf iv).toNat)
 · exact ⟨1, by decide, by decide, rfl, HOW, HM, HBW⟩
 · obtain ⟨i, h1, hi, rfl, HOW, HM, HBW⟩ := hrel
   by_cases h92 : i < 92
   · obtain ⟨p, hp⟩ : ∃ p, p + 1 = i := ⟨i - 1, by omega⟩
     have hpi : Hid (p < i) := by show _ < _; omega
     obtain ⟨_, eg, _, _, _, _, hcell⟩ := HOW.out.cells (by decide)
     cases eg
     obtain ⟨X, hX⟩ : ∃ S, L[i]? = some S := ⟨L[i]'(by rw [HLEN.out]; exact h92), List.getElem?_eq_getElem _⟩
     obtain ⟨Y, hY⟩ : ∃ S, L[p]? = some S := ⟨L[p]'(by rw [HLEN.out]; omega), List.getElem?_eq_getElem _⟩
     have cX := hcell i (.string X) (by rw [List.getElem?_map, hX]; rfl)
     have cY := hcell p (.string Y) (by rw [List.getElem?_map, hY]; rfl)
     have hlt := texts_lt HLT.out hY hX hpi.out
     obtain ⟨b1, b2⟩ := texts_rise hlt
     have e1 : (i : Int) - 1 = (p : Int) := by omega
     have e2 : IntKind.i64.wrap ((i : Int) - 1) = (p : Int) := by rw [e1, IntKind.wrap_i64]; omega
     have e3 : p < 92 := by omega
     have HS := Lib.hid hp
     clear hX hY hlt hcell hp hpi
     go_wp2
     go_quiet (fail)
     have bn := below_drewN (Below.refl wr.heap.size wr) nq
     have k1 := Lib.hid (HOW.out.below bn)
     have k2 := Lib.hid (HM.out.below bn)
     have k3 := Lib.hid (below_two HBW.out bn)
     clear bn HOW HM HBW cX cY
     generalize wr.drewN nq = w9 at *
     go_wp2
     exact ⟨⟨i + 1, by omega, by omega, by simp, k1, k2, k3⟩, by simp [intOf]; omega⟩
   · obtain rfl : i = 92 := by omega
     have hM := HM.out
     have bw := HBW.out
     clear HM HBW h92 h1 hi
     obtain ⟨j, hj⟩ : ∃ j, N_n % 92 = j := ⟨_, rfl⟩
     have lj : j < 92 := by omega
     have ek_j : (N_n : Int) % 92 = (j : Int) := by omega
     have et_j : (N_n : Int).tmod 92 = (j : Int) := by rw [Int.tmod_eq_emod_of_nonneg (by omega)]; exact ek_j
     obtain ⟨_, eg, _, _, _, _, hcell⟩ := HOW.out.cells (by decide)
     cases eg
     obtain ⟨X, hX⟩ : ∃ S, L[j]? = some S := ⟨L[j]'(by rw [HLEN.out]; exact lj), List.getElem?_eq_getElem _⟩
     have cX := hcell j (.string X) (by rw [List.getElem?_map, hX]; rfl)
     obtain ⟨u, hlk⟩ := lookup_some (HNO.out.2.mem_iff.1 (List.mem_map.2 ⟨X, List.mem_of_getElem? hX, rfl⟩))
     obtain ⟨q, ds⟩ := u
     obtain ⟨hnm, hok, hp1, hp2, hf, hg, hlen⟩ := square_facts hlk
     obtain ⟨t, ht⟩ : ∃ t, q * q = t := ⟨_, rfl⟩
     obtain ⟨zs, hzs⟩ : ∃ z, ds.map (· * (2 : Int)) = z := ⟨_, rfl⟩
     dsimp only at hp2 hf hg
     rw [ht, hzs] at hp2
     rw [ht] at hf
     rw [hzs] at hg
     obtain ⟨X2, hX2⟩ : ∃ Z : ByteArray, X ++ ⟨#[94, 50]⟩ = Z := ⟨_, rfl⟩
     have HP2 : Hid (parseU stdU (bytesOf X2) = .ok ((t, zs) : UQ)) := by show _ = _; rw [← hX2, bytesOf_append, show bytesOf ⟨#[94, 50]⟩ = [94, 50] from rfl]; exact hp2
     have HZ2 : Hid (X2.size ≤ 200) := by show _ ≤ _; rw [← hX2, ByteArray.size_append, show (⟨#[94, 50]⟩ : ByteArray).size = 2 from rfl]; rw [length_bytesOf] at hlen; omega
     have HZ : Hid (X.size ≤ 200) := by show _ ≤ _; rw [length_bytesOf] at hlen; omega
     have zX : X.size ≤ 200 := HZ.out
     have HX2 := Lib.hid hX2
     have HLK := Lib.hid hlk
     have HP1 := Lib.hid hp1
     have HL : Hid (ds.length = 7) := hok.2.2.1
     have HLZ : Hid (zs.length = 7) := by show _ = _; rw [← hzs, List.length_map]; exact hok.2.2.1
     have I_ds := Lib.hid (i64_good hok.2.2.2)
     have HM1 : Hid (mulR (some q) (some q) = (some t, 0)) := by show _ = _; unfold mulR opR limR limQ limE; simp only [ht, if_pos hf]
     have HM2 : Hid (powD ds 2 = (zs, 0)) := by show _ = _; unfold powD; rw [if_pos hok.2.2.2, hzs]; unfold mayD; rw [if_pos hg]
     have HHAS : Hid ((stdU.lookup (bytesOf X)).isSome = true) := by show _ = _; rw [hlk]; rfl
     clear hX hX2 hlk hnm hok hp1 hp2 hf hg hlen ht hzs hcell HOW HNO HLEN HLT
     generalize wr = w40 at *
     go_wp2_with fail
     clear cX
     refine (uOfN_c (HT0.out.below bw) hM.s bw.size X (by have := HZ.out; omega)).mono ?_
     rintro e w41 ⟨V_u, rfl, hV, hM2, hk⟩
     have bn := hk.done hM
     clear hk hM2
     replace hM := hM.below bn
     replace bw := below_two bw bn
     clear bn
     rw [HLK.out] at hV ⊢
     have hV : UV _ V_u (some q) ds := hV
     obtain ⟨A_u, n_u, c_u, C_u, m_u, d_u, rfl, h_qu, hl_u⟩ := hV
     have HU_u := Lib.hid (fits10 (size_uV HL.out) (uV_one (s := sg (oTop (some q))) (A := A_u) (n := n_u) (c := c_u) (B := C_u) (m := m_u) (d := d_u) (xs := ds)))
     clear hl_u
     have tl_t : Hid (q_t < w41.heap.size) := hM.s.lt
     have h_ru := rowA_new w41 37 (uV (sg (oTop (some q))) A_u n_u c_u C_u m_u d_u ds)
     have bn := below_new w41 (.cells (uV (sg (oTop (some q))) A_u n_u c_u C_u m_u d_u ds) 37)
     replace hM := hM.below bn
     replace h_qu := h_qu.below bn
     replace bw := below_two bw bn
     clear bn
     go_wp2_with (refine wpList_storeNew (by rfl) _ _ _ (by rfl) _ _ _ (by rfl) (by rfl) (by assumption) ?_)
     generalize w41.alloc (.cells (uV (sg (oTop (some q))) A_u n_u c_u C_u m_u d_u ds) 37) = w42 at *
     obtain ⟨q_u, eg⟩ : ∃ g, g = w41.heap.size := ⟨_, rfl⟩
     have ne_u_t : Hid (q_u ≠ q_t) := by show _ ≠ _; have := tl_t.out; omega
     rw [← eg] at h_ru ⊢
     clear eg
     clear tl_t
     refine (tParse_main (HT0.out.below bw) hM.s bw.size X HZ.out).mono ?_
     rintro e w43 ⟨V_v, E_v, W_v, rfl, hM2, hk, hp⟩
     have bn := hk.done hM
     clear hk hM2
     replace hM := hM.below bn
     replace h_qu := h_qu.below bn
     replace h_ru := h_ru.below bn
     replace bw := below_two bw bn
     clear bn
     rw [HP1.out] at hp
     obtain ⟨rfl, rfl, hok_v, A_v, n_v, c_v, C_v, m_v, d_v, rfl, h_qv, hl_v⟩ := hp
     have HU_v := Lib.hid (fits10 (size_uV hl_v) (uV_one (s := sg (oTop (some q))) (A := A_v) (n := n_v) (c := c_v) (B := C_v) (m := m_v) (d := d_v) (xs := ds)))
     clear hok_v hl_v
     have HU_e := Lib.hid (fitsF (0) (0))
     have tl_t : Hid (q_t < w43.heap.size) := hM.s.lt
     have h_rv := rowA_new w43 37 (uV (sg (oTop (some q))) A_v n_v c_v C_v m_v d_v ds)
     have bn := below_new w43 (.cells (uV (sg (oTop (some q))) A_v n_v c_v C_v m_v d_v ds) 37)
     replace hM := hM.below bn
     replace h_qu := h_qu.below bn
     replace h_ru := h_ru.below bn
     replace h_qv := h_qv.below bn
     replace bw := below_two bw bn
     clear bn
     have h_re := rowA_new (w43.alloc (.cells (uV (sg (oTop (some q))) A_v n_v c_v C_v m_v d_v ds) 37)) 56 (fltC (0) (0))
     have bn := below_new (w43.alloc (.cells (uV (sg (oTop (some q))) A_v n_v c_v C_v m_v d_v ds) 37)) (.cells (fltC (0) (0)) 56)
     replace hM := hM.below bn
     replace h_qu := h_qu.below bn
     replace h_ru := h_ru.below bn
     replace h_qv := h_qv.below bn
     replace h_rv := h_rv.below bn
     replace bw := below_two bw bn
     clear bn
     go_wp2_with (first | (refine wpList_storeNewB (by rfl) _ _ _ (by rfl) _ _ _ _ (by rfl) (by rfl) (by assumption) ?_) | (refine wpList_storeNewAt (by rfl) _ _ _ (by rfl) _ _ _ _ (by rfl) (by rfl) (by simp) (by assumption) ?_) | (refine wpList_storeNew (by rfl) _ _ _ (by rfl) _ _ _ (by rfl) (by rfl) (by assumption) ?_))
     simp only [World.size_alloc] at h_re
     generalize (w43.alloc (.cells (uV (sg (oTop (some q))) A_v n_v c_v C_v m_v d_v ds) 37)).alloc (.cells (fltC (0) (0)) 56) = w44 at *
     obtain ⟨q_e, eg⟩ : ∃ g, g = w43.heap.size + 1 := ⟨_, rfl⟩
     have ne_e_t : Hid (q_e ≠ q_t) := by show _ ≠ _; have := tl_t.out; omega
     rw [← eg] at h_re ⊢
     clear eg
     obtain ⟨q_v, eg⟩ : ∃ g, g = w43.heap.size := ⟨_, rfl⟩
     have ne_v_t : Hid (q_v ≠ q_t) := by show _ ≠ _; have := tl_t.out; omega
     rw [← eg] at h_rv ⊢
     clear eg
     clear tl_t
     rw [HX2.out]
     refine (tParse_main (HT0.out.below bw) hM.s bw.size X2 HZ2.out).mono ?_
     rintro e w45 ⟨V_y, E_y, W_y, rfl, hM2, hk, hp⟩
     have bn := hk.done hM
     clear hk hM2
     replace hM := hM.below bn
     replace h_qu := h_qu.below bn
     replace h_ru := h_ru.below bn
     replace h_qv := h_qv.below bn
     replace h_rv := h_rv.below bn
     replace h_re := h_re.below bn
     replace bw := below_two bw bn
     clear bn
     rw [HP2.out] at hp
     obtain ⟨rfl, rfl, hok_y, A_y, n_y, c_y, C_y, m_y, d_y, rfl, h_qy, hl_y⟩ := hp
     have HU_y := Lib.hid (fits10 (size_uV hl_y) (uV_one (s := sg (oTop (some t))) (A := A_y) (n := n_y) (c := c_y) (B := C_y) (m := m_y) (d := d_y) (xs := zs)))
     clear hok_y hl_y
     have HU_f := Lib.hid (fitsF (0) (0))
     have tl_t : Hid (q_t < w45.heap.size) := hM.s.lt
     have h_ry := rowA_new w45 37 (uV (sg (oTop (some t))) A_y n_y c_y C_y m_y d_y zs)
     have bn := below_new w45 (.cells (uV (sg (oTop (some t))) A_y n_y c_y C_y m_y d_y zs) 37)
     replace hM := hM.below bn
     replace h_qu := h_qu.below bn
     replace h_ru := h_ru.below bn
     replace h_qv := h_qv.below bn
     replace h_rv := h_rv.below bn
     replace h_re := h_re.below bn
     replace h_qy := h_qy.below bn
     replace bw := below_two bw bn
     clear bn
     have h_rf := rowA_new (w45.alloc (.cells (uV (sg (oTop (some t))) A_y n_y c_y C_y m_y d_y zs) 37)) 56 (fltC (0) (0))
     have bn := below_new (w45.alloc (.cells (uV (sg (oTop (some t))) A_y n_y c_y C_y m_y d_y zs) 37)) (.cells (fltC (0) (0)) 56)
     replace hM := hM.below bn
     replace h_qu := h_qu.below bn
     replace h_ru := h_ru.below bn
     replace h_qv := h_qv.below bn
     replace h_rv := h_rv.below bn
     replace h_re := h_re.below bn
     replace h_qy := h_qy.below bn
     replace h_ry := h_ry.below bn
     replace bw := below_two bw bn
     clear bn
     have HM_u3 := Lib.hid (many3 (.bool (sg (oTop (some q)))) (.slice A_u n_u c_u) (.slice C_u m_u d_u))
     have HM_u7 := Lib.hid (many7 HL.out)
     have HM_u := Lib.hid (many10 (size_uV (s := sg (oTop (some q))) (A := A_u) (n := n_u) (c := c_u) (B := C_u) (m := m_u) (d := d_u) HL.out))
     have HM_v := Lib.hid (many10 (size_uV (s := sg (oTop (some q))) (A := A_v) (n := n_v) (c := c_v) (B := C_v) (m := m_v) (d := d_v) HL.out))
     have HI_u3 := Lib.hid (uV_rat h_ru)
     go_wp2_with (first | (refine wpList_storeNewB (by rfl) _ _ _ (by rfl) _ _ _ _ (by rfl) (by rfl) (by assumption) ?_) | (refine wpList_storeNewAt (by rfl) _ _ _ (by rfl) _ _ _ _ (by rfl) (by rfl) (by simp) (by assumption) ?_) | (refine wpList_loadV (by rfl) _ _ (by rfl) _ _ (by rfl) _ (by assumption) (by assumption) ?_) | (refine wpList_storeNew (by rfl) _ _ _ (by rfl) _ _ _ (by rfl) (by rfl) (by assumption) ?_))
     clear HI_u3
     simp only [World.size_alloc] at h_rf
     generalize (w45.alloc (.cells (uV (sg (oTop (some t))) A_y n_y c_y C_y m_y d_y zs) 37)).alloc (.cells (fltC (0) (0)) 56) = w46 at *
     obtain ⟨q_f, eg⟩ : ∃ g, g = w45.heap.size + 1 := ⟨_, rfl⟩
     have ne_f_t : Hid (q_f ≠ q_t) := by show _ ≠ _; have := tl_t.out; omega
     rw [← eg] at h_rf ⊢
     clear eg
     obtain ⟨q_y, eg⟩ : ∃ g, g = w45.heap.size := ⟨_, rfl⟩
     have ne_y_t : Hid (q_y ≠ q_t) := by show _ ≠ _; have := tl_t.out; omega
     rw [← eg] at h_ry ⊢
     clear eg
     clear tl_t
     refine (rMul_c h_qu h_qu (by decide) (by decide) (some t) 0 HM1.out).mono ?_
     rintro e w47 ⟨A_s, n_s, c_s, C_s, m_s, d_s, rfl, h_qs, bn⟩
     replace hM := hM.below bn
     replace h_qu := h_qu.below bn
     replace h_ru := h_ru.below bn
     replace h_qv := h_qv.below bn
     replace h_rv := h_rv.below bn
     replace h_re := h_re.below bn
     replace h_qy := h_qy.below bn
     replace h_ry := h_ry.below bn
     replace h_rf := h_rf.below bn
     replace bw := below_two bw bn
     clear bn
     have HU_s := Lib.hid (fits3 (s := sg (oTop (some t))) (A := A_s) (n := n_s) (c := c_s) (B := C_s) (m := m_s) (d := d_s))
     have tl_t : Hid (q_t < w47.heap.size) := hM.s.lt
     have h_rs := rowA_new w47 33 #[.bool (sg (oTop (some t))), .slice A_s n_s c_s, .slice C_s m_s d_s]
     have bn := below_new w47 (.cells #[.bool (sg (oTop (some t))), .slice A_s n_s c_s, .slice C_s m_s d_s] 33)
     replace hM := hM.below bn
     replace h_qu := h_qu.below bn
     replace h_ru := h_ru.below bn
     replace h_qv := h_qv.below bn
     replace h_rv := h_rv.below bn
     replace h_re := h_re.below bn
     replace h_qy := h_qy.below bn
     replace h_ry := h_ry.below bn
     replace h_rf := h_rf.below bn
     replace h_qs := h_qs.below bn
     replace bw := below_two bw bn
     clear bn
     have HI_u7 := Lib.hid (uV_dim h_ru)
     go_wp2_with (first | (refine wpList_loadV (by rfl) _ _ (by rfl) _ _ (by rfl) _ (by assumption) (by assumption) ?_) | (refine wpList_storeNew (by rfl) _ _ _ (by rfl) _ _ _ (by rfl) (by rfl) (by assumption) ?_))
     clear HI_u7
     generalize w47.alloc (.cells #[.bool (sg (oTop (some t))), .slice A_s n_s c_s, .slice C_s m_s d_s] 33) = w48 at *
     obtain ⟨q_s, eg⟩ : ∃ g, g = w47.heap.size := ⟨_, rfl⟩
     have ne_s_t : Hid (q_s ≠ q_t) := by show _ ≠ _; have := tl_t.out; omega
     rw [← eg] at h_rs ⊢
     clear eg
     clear tl_t
     refine (dPow_c HL.out I_ds.out 2 (by decide) (by decide) zs 0 HM2.out).mono ?_
     rintro e w49 ⟨rfl, bn⟩
     replace hM := hM.below bn
     replace h_qu := h_qu.below bn
     replace h_ru := h_ru.below bn
     replace h_qv := h_qv.below bn
     replace h_rv := h_rv.below bn
     replace h_re := h_re.below bn
     replace h_qy := h_qy.below bn
     replace h_ry := h_ry.below bn
     replace h_rf := h_rf.below bn
     replace h_qs := h_qs.below bn
     replace h_rs := h_rs.below bn
     replace bw := below_two bw bn
     clear bn
     have HU_d := Lib.hid (fits7 HLZ.out)
     have tl_t : Hid (q_t < w49.heap.size) := hM.s.lt
     have h_rd := rowA_new w49 35 (dimV zs)
     have bn := below_new w49 (.cells (dimV zs) 35)
     replace hM := hM.below bn
     replace h_qu := h_qu.below bn
     replace h_ru := h_ru.below bn
     replace h_qv := h_qv.below bn
     replace h_rv := h_rv.below bn
     replace h_re := h_re.below bn
     replace h_qy := h_qy.below bn
     replace h_ry := h_ry.below bn
     replace h_rf := h_rf.below bn
     replace h_qs := h_qs.below bn
     replace h_rs := h_rs.below bn
     replace bw := below_two bw bn
     clear bn
     have k0_e := h_re.cell (k := 0) (v := .int .i64 (0)) rfl
     have HI_u := Lib.hid h_ru.inV
     have HI_v := Lib.hid h_rv.inV
     go_wp2_with (first | (refine wpList_loadV (by rfl) _ _ (by rfl) _ _ (by rfl) _ (by assumption) (by assumption) ?_) | (refine wpList_storeNew (by rfl) _ _ _ (by rfl) _ _ _ (by rfl) (by rfl) (by assumption) ?_))
     clear HI_u HI_v k0_e
     generalize w49.alloc (.cells (dimV zs) 35) = w50 at *
     obtain ⟨q_d, eg⟩ : ∃ g, g = w49.heap.size := ⟨_, rfl⟩
     have ne_d_t : Hid (q_d ≠ q_t) := by show _ ≠ _; have := tl_t.out; omega
     rw [← eg] at h_rd ⊢
     clear eg
     clear tl_t
     refine (keepUnit_eq (uv_qt h_qu HL.out) (uv_qt h_qv HL.out) rfl rfl).mono ?_
     rintro e w51 ⟨rfl, bn⟩
     replace hM := hM.below bn
     replace h_qu := h_qu.below bn
     replace h_ru := h_ru.below bn
     replace h_qv := h_qv.below bn
     replace h_rv := h_rv.below bn
     replace h_re := h_re.below bn
     replace h_qy := h_qy.below bn
     replace h_ry := h_ry.below bn
     replace h_rf := h_rf.below bn
     replace h_qs := h_qs.below bn
     replace h_rs := h_rs.below bn
     replace h_rd := h_rd.below bn
     replace bw := below_two bw bn
     clear bn
     have HM_y3 := Lib.hid (many3 (.bool (sg (oTop (some t)))) (.slice A_y n_y c_y) (.slice C_y m_y d_y))
     have HM_s3 := Lib.hid (many3 (.bool (sg (oTop (some t)))) (.slice A_s n_s c_s) (.slice C_s m_s d_s))
     have HM_y7 := Lib.hid (many7 HLZ.out)
     have heq := fun W => equal_dim (xs := zs) (ys := zs) HLZ.out HLZ.out (b := true) (by simp) W
     have k0_f := h_rf.cell (k := 0) (v := .int .i64 (0)) rfl
     have HI_y3 := Lib.hid (uV_rat h_ry)
     have HI_s3 := Lib.hid h_rs.inV
     go_wp2_with (refine wpList_loadV (by rfl) _ _ (by rfl) _ _ (by rfl) _ (by assumption) (by assumption) ?_)
     clear HI_y3 HI_s3 k0_f
     refine (keepRat_c h_qy h_qs (by decide) (by decide) true (keepQ rfl)).mono ?_
     rintro e w52 ⟨rfl, bn⟩
     replace hM := hM.below bn
     replace h_qu := h_qu.below bn
     replace h_ru := h_ru.below bn
     replace h_qv := h_qv.below bn
     replace h_rv := h_rv.below bn
     replace h_re := h_re.below bn
     replace h_qy := h_qy.below bn
     replace h_ry := h_ry.below bn
     replace h_rf := h_rf.below bn
     replace h_qs := h_qs.below bn
     replace h_rs := h_rs.below bn
     replace h_rd := h_rd.below bn
     replace bw := below_two bw bn
     clear bn
     have HI_y7 := Lib.hid (uV_dim h_ry)
     have HI_d7 := Lib.hid h_rd.inV
     go_wp2_with (refine wpList_loadV (by rfl) _ _ (by rfl) _ _ (by rfl) _ (by assumption) (by assumption) ?_)
     clear HI_y7 HI_d7 heq
     refine (uHas_d (HT0.out.below bw) hM bw.size X (by have := HZ.out; omega) true HHAS.out).mono ?_
     rintro e w53 ⟨rfl, bn⟩
     replace hM := hM.below bn
     replace h_qu := h_qu.below bn
     replace h_ru := h_ru.below bn
     replace h_qv := h_qv.below bn
     replace h_rv := h_rv.below bn
     replace h_re := h_re.below bn
     replace h_qy := h_qy.below bn
     replace h_ry := h_ry.below bn
     replace h_rf := h_rf.below bn
     replace h_qs := h_qs.below bn
     replace h_rs := h_rs.below bn
     replace h_rd := h_rd.below bn
     replace bw := below_two bw bn
     clear bn
     clear h_ru h_rv h_re h_ry h_rf h_rs h_rd h_qu h_qv h_qy h_qs
     clear HU_u HU_v HU_e HU_y HU_f HU_s HU_d HM_u3 HM_u7 HM_u HM_v HM_y3 HM_s3 HM_y7 lj ek_j et_j hj HL HLZ I_ds HLK HP1 HP2 HX2 HHAS HM1 HM2
     obtain ⟨ib, hib⟩ : ∃ j, N_n % 15 = j := ⟨_, rfl⟩
     have lib : ib < 15 := by omega
     have ek_ib : (N_n : Int) % 15 = (ib : Int) := by omega
     have et_ib : (N_n : Int).tmod 15 = (ib : Int) := by rw [Int.tmod_eq_emod_of_nonneg (by omega)]; exact ek_ib
     obtain ⟨kk, hkk⟩ : ∃ j, N_k % 5 = j := ⟨_, rfl⟩
     have lkk : kk < 5 := by omega
     have ek_kk : (N_k : Int) % 5 = (kk : Int) := by omega
     have et_kk : (N_k : Int).tmod 5 = (kk : Int) := by rw [Int.tmod_eq_emod_of_nonneg (by omega)]; exact ek_kk
     obtain ⟨Bs, hBs, hBb⟩ := base_at ib lib
     have HBb := Lib.hid hBb
     have zB : Bs.size ≤ 10 := base_size lib hBb
     clear hBb
     have bn := below_new w53 (.cells #[.string ⟨#[109]⟩, .string ⟨#[115]⟩, .string ⟨#[65]⟩, .string ⟨#[75]⟩, .string ⟨#[109, 111, 108]⟩, .string ⟨#[99, 100]⟩, .string ⟨#[103]⟩, .string ⟨#[72, 122]⟩, .string ⟨#[78]⟩, .string ⟨#[80, 97]⟩, .string ⟨#[74]⟩, .string ⟨#[87]⟩, .string ⟨#[67]⟩, .string ⟨#[86]⟩, .string ⟨#[76]⟩] 9)
     replace hM := hM.below bn
     replace bw := below_two bw bn
     clear bn
     go_wp2_with fail
     rw [getElem_base lib hBs]
     clear hBs
     generalize w53.alloc (.cells #[.string ⟨#[109]⟩, .string ⟨#[115]⟩, .string ⟨#[65]⟩, .string ⟨#[75]⟩, .string ⟨#[109, 111, 108]⟩, .string ⟨#[99, 100]⟩, .string ⟨#[103]⟩, .string ⟨#[72, 122]⟩, .string ⟨#[78]⟩, .string ⟨#[80, 97]⟩, .string ⟨#[74]⟩, .string ⟨#[87]⟩, .string ⟨#[67]⟩, .string ⟨#[86]⟩, .string ⟨#[76]⟩] 9) = w54 at *
     refine (rWhole_is 1000 (by decide) (by decide) (facQ 0) (by decide +kernel) _).mono ?_
     rintro e w55 ⟨A_f0, n_f0, c_f0, C_f0, m_f0, d_f0, rfl, h_qf0, bn⟩
     replace hM := hM.below bn
     replace bw := below_two bw bn
     clear bn
     go_wp2_with fail
     refine (rWhole_is 1000000 (by decide) (by decide) (facQ 1) (by decide +kernel) _).mono ?_
     rintro e w56 ⟨A_f1, n_f1, c_f1, C_f1, m_f1, d_f1, rfl, h_qf1, bn⟩
     replace hM := hM.below bn
     replace h_qf0 := h_qf0.below bn
     replace bw := below_two bw bn
     clear bn
     go_wp2_with fail
     refine (by_c 1 1000 (by decide) (by decide) (by decide) (by decide) (facQ 2) (by decide +kernel) _).mono ?_
     rintro e w57 ⟨A_f2, n_f2, c_f2, C_f2, m_f2, d_f2, rfl, h_qf2, bn⟩
     replace hM := hM.below bn
     replace h_qf0 := h_qf0.below bn
     replace h_qf1 := h_qf1.below bn
     replace bw := below_two bw bn
     clear bn
     go_wp2_with fail
     refine (by_c 1 1000000 (by decide) (by decide) (by decide) (by decide) (facQ 3) (by decide +kernel) _).mono ?_
     rintro e w58 ⟨A_f3, n_f3, c_f3, C_f3, m_f3, d_f3, rfl, h_qf3, bn⟩
     replace hM := hM.below bn
     replace h_qf0 := h_qf0.below bn
     replace h_qf1 := h_qf1.below bn
     replace h_qf2 := h_qf2.below bn
     replace bw := below_two bw bn
     clear bn
     go_wp2_with fail
     refine (by_c 1 100 (by decide) (by decide) (by decide) (by decide) (facQ 4) (by decide +kernel) _).mono ?_
     rintro e w59 ⟨A_f4, n_f4, c_f4, C_f4, m_f4, d_f4, rfl, h_qf4, bn⟩
     replace hM := hM.below bn
     replace h_qf0 := h_qf0.below bn
     replace h_qf1 := h_qf1.below bn
     replace h_qf2 := h_qf2.below bn
     replace h_qf3 := h_qf3.below bn
     replace bw := below_two bw bn
     clear bn
     obtain ⟨A_z, n_z, c_z, C_z, m_z, d_z, hz5, h_qz⟩ := pick5 h_qf0 h_qf1 h_qf2 h_qf3 h_qf4 kk lkk
     clear h_qf0 h_qf1 h_qf2 h_qf3 h_qf4
     have h_rq := rowA_new w59 33 #[.bool (sg (oTop (some (facQ 0)))), .slice A_f0 n_f0 c_f0, .slice C_f0 m_f0 d_f0, .bool (sg (oTop (some (facQ 1)))), .slice A_f1 n_f1 c_f1, .slice C_f1 m_f1 d_f1, .bool (sg (oTop (some (facQ 2)))), .slice A_f2 n_f2 c_f2, .slice C_f2 m_f2 d_f2, .bool (sg (oTop (some (facQ 3)))), .slice A_f3 n_f3 c_f3, .slice C_f3 m_f3 d_f3, .bool (sg (oTop (some (facQ 4)))), .slice A_f4 n_f4 c_f4, .slice C_f4 m_f4 d_f4]
     have bn := below_new w59 (.cells #[.bool (sg (oTop (some (facQ 0)))), .slice A_f0 n_f0 c_f0, .slice C_f0 m_f0 d_f0, .bool (sg (oTop (some (facQ 1)))), .slice A_f1 n_f1 c_f1, .slice C_f1 m_f1 d_f1, .bool (sg (oTop (some (facQ 2)))), .slice A_f2 n_f2 c_f2, .slice C_f2 m_f2 d_f2, .bool (sg (oTop (some (facQ 3)))), .slice A_f3 n_f3 c_f3, .slice C_f3 m_f3 d_f3, .bool (sg (oTop (some (facQ 4)))), .slice A_f4 n_f4 c_f4, .slice C_f4 m_f4 d_f4] 33)
     replace hM := hM.below bn
     replace h_qz := h_qz.below bn
     replace bw := below_two bw bn
     clear bn
     have HI_q := Lib.hid (h_rq.part hz5)
     have HM_q := Lib.hid (many3 (.bool (sg (oTop (some (facQ kk))))) (.slice A_z n_z c_z) (.slice C_z m_z d_z))
     clear h_rq hz5
     have HU_z := Lib.hid (fits3 (s := sg (oTop (some (facQ kk)))) (A := A_z) (n := n_z) (c := c_z) (B := C_z) (m := m_z) (d := d_z))
     have tl_t : Hid (q_t < (w59.alloc (.cells #[.bool (sg (oTop (some (facQ 0)))), .slice A_f0 n_f0 c_f0, .slice C_f0 m_f0 d_f0, .bool (sg (oTop (some (facQ 1)))), .slice A_f1 n_f1 c_f1, .slice C_f1 m_f1 d_f1, .bool (sg (oTop (some (facQ 2)))), .slice A_f2 n_f2 c_f2, .slice C_f2 m_f2 d_f2, .bool (sg (oTop (some (facQ 3)))), .slice A_f3 n_f3 c_f3, .slice C_f3 m_f3 d_f3, .bool (sg (oTop (some (facQ 4)))), .slice A_f4 n_f4 c_f4, .slice C_f4 m_f4 d_f4] 33)).heap.size) := hM.s.lt
     have h_rz := rowA_new (w59.alloc (.cells #[.bool (sg (oTop (some (facQ 0)))), .slice A_f0 n_f0 c_f0, .slice C_f0 m_f0 d_f0, .bool (sg (oTop (some (facQ 1)))), .slice A_f1 n_f1 c_f1, .slice C_f1 m_f1 d_f1, .bool (sg (oTop (some (facQ 2)))), .slice A_f2 n_f2 c_f2, .slice C_f2 m_f2 d_f2, .bool (sg (oTop (some (facQ 3)))), .slice A_f3 n_f3 c_f3, .slice C_f3 m_f3 d_f3, .bool (sg (oTop (some (facQ 4)))), .slice A_f4 n_f4 c_f4, .slice C_f4 m_f4 d_f4] 33)) 33 #[.bool (sg (oTop (some (facQ kk)))), .slice A_z n_z c_z, .slice C_z m_z d_z]
     have bn := below_new (w59.alloc (.cells #[.bool (sg (oTop (some (facQ 0)))), .slice A_f0 n_f0 c_f0, .slice C_f0 m_f0 d_f0, .bool (sg (oTop (some (facQ 1)))), .slice A_f1 n_f1 c_f1, .slice C_f1 m_f1 d_f1, .bool (sg (oTop (some (facQ 2)))), .slice A_f2 n_f2 c_f2, .slice C_f2 m_f2 d_f2, .bool (sg (oTop (some (facQ 3)))), .slice A_f3 n_f3 c_f3, .slice C_f3 m_f3 d_f3, .bool (sg (oTop (some (facQ 4)))), .slice A_f4 n_f4 c_f4, .slice C_f4 m_f4 d_f4] 33)) (.cells #[.bool (sg (oTop (some (facQ kk)))), .slice A_z n_z c_z, .slice C_z m_z d_z] 33)
     replace hM := hM.below bn
     replace h_qz := h_qz.below bn
     replace bw := below_two bw bn
     clear bn
     go_wp2_with (first | (refine wpList_loadV (by rfl) _ _ (by rfl) _ _ (by rfl) _ (by assumption) (by assumption) ?_) | (refine wpList_storeNew (by rfl) _ _ _ (by rfl) _ _ _ (by rfl) (by rfl) (by assumption) ?_))
     simp only [World.size_alloc] at h_rz
     generalize (w59.alloc (.cells #[.bool (sg (oTop (some (facQ 0)))), .slice A_f0 n_f0 c_f0, .slice C_f0 m_f0 d_f0, .bool (sg (oTop (some (facQ 1)))), .slice A_f1 n_f1 c_f1, .slice C_f1 m_f1 d_f1, .bool (sg (oTop (some (facQ 2)))), .slice A_f2 n_f2 c_f2, .slice C_f2 m_f2 d_f2, .bool (sg (oTop (some (facQ 3)))), .slice A_f3 n_f3 c_f3, .slice C_f3 m_f3 d_f3, .bool (sg (oTop (some (facQ 4)))), .slice A_f4 n_f4 c_f4, .slice C_f4 m_f4 d_f4] 33)).alloc (.cells #[.bool (sg (oTop (some (facQ kk)))), .slice A_z n_z c_z, .slice C_z m_z d_z] 33) = w60 at *
     obtain ⟨q_z, eg⟩ : ∃ g, g = w59.heap.size + 1 := ⟨_, rfl⟩
     rw [← eg] at h_rz ⊢
     clear eg tl_t HI_q HM_q
     obtain ⟨x1, x2, y1, y2, hl1, hl2, hmx, hd12, hx7⟩ := pre_facts lib lkk
     rw [← HBb.out] at hl1 hl2
     obtain ⟨Ps, hPs⟩ : ∃ P : ByteArray, (⟨#[107, 77, 109, 117, 99]⟩ : ByteArray).extract kk (kk + 1) = P := ⟨_, rfl⟩
     obtain ⟨hp6, hp7⟩ := pre_bytes kk lkk
     rw [hPs] at hp6 hp7
     have zP : Ps.size = 1 := hp7
     have HL1 := Lib.hid hl1
     have HL2 := Lib.hid hl2
     have HMX : Hid (mulR (some x1) (some (facQ kk)) = (some y1, 0)) := hmx
     have HX7 := Lib.hid hx7
     subst hd12
     obtain ⟨X3, hX3⟩ : ∃ Z : ByteArray, Ps ++ Bs = Z := ⟨_, rfl⟩
     have HL3 : Hid (stdU.lookup (bytesOf X3) = some (y1, x2)) := by show _ = _; rw [← hX3, bytesOf_append, hp6]; exact HL2.out
     have zX3 : Hid (X3.size ≤ 1000000) := by show _ ≤ _; rw [← hX3, ByteArray.size_append]; omega
     have HX3 := Lib.hid hX3
     clear hl1 hl2 hmx hx7 hX3 hp6 hp7
     refine (uOfN_c (HT0.out.below bw) hM.s bw.size Bs (by omega)).mono ?_
     rintro e w61 ⟨V_x, rfl, hV, hM2, hk⟩
     have bn := hk.done hM
     clear hk hM2
     replace hM := hM.below bn
     replace h_qz := h_qz.below bn
     replace h_rz := h_rz.below bn
     replace bw := below_two bw bn
     clear bn
     rw [HL1.out] at hV ⊢
     have hV : UV _ V_x (some x1) x2 := hV
     obtain ⟨A_x, n_x, c_x, C_x, m_x, d_x, rfl, h_qx, hl_x⟩ := hV
     have HU_x := Lib.hid (fits10 (size_uV HX7.out) (uV_one (s := sg (oTop (some x1))) (A := A_x) (n := n_x) (c := c_x) (B := C_x) (m := m_x) (d := d_x) (xs := x2)))
     clear hl_x
     have tl_t : Hid (q_t < w61.heap.size) := hM.s.lt
     have h_rx := rowA_new w61 37 (uV (sg (oTop (some x1))) A_x n_x c_x C_x m_x d_x x2)
     have bn := below_new w61 (.cells (uV (sg (oTop (some x1))) A_x n_x c_x C_x m_x d_x x2) 37)
     replace hM := hM.below bn
     replace h_qz := h_qz.below bn
     replace h_rz := h_rz.below bn
     replace h_qx := h_qx.below bn
     replace bw := below_two bw bn
     clear bn
     go_wp2_with (refine wpList_storeNew (by rfl) _ _ _ (by rfl) _ _ _ (by rfl) (by rfl) (by assumption) ?_)
     generalize w61.alloc (.cells (uV (sg (oTop (some x1))) A_x n_x c_x C_x m_x d_x x2) 37) = w62 at *
     obtain ⟨q_x, eg⟩ : ∃ g, g = w61.heap.size := ⟨_, rfl⟩
     have ne_x_t : Hid (q_x ≠ q_t) := by show _ ≠ _; have := tl_t.out; omega
     rw [← eg] at h_rx ⊢
     clear eg
     clear tl_t
     rw [HX3.out]
     refine (uOfN_c (HT0.out.below bw) hM.s bw.size X3 zX3.out).mono ?_
     rintro e w63 ⟨V_o, rfl, hV, hM2, hk⟩
     have bn := hk.done hM
     clear hk hM2
     replace hM := hM.below bn
     replace h_qz := h_qz.below bn
     replace h_rz := h_rz.below bn
     replace h_qx := h_qx.below bn
     replace h_rx := h_rx.below bn
     replace bw := below_two bw bn
     clear bn
     rw [HL3.out] at hV ⊢
     have hV : UV _ V_o (some y1) x2 := hV
     obtain ⟨A_o, n_o, c_o, C_o, m_o, d_o, rfl, h_qo, hl_o⟩ := hV
     have HU_o := Lib.hid (fits10 (size_uV HX7.out) (uV_one (s := sg (oTop (some y1))) (A := A_o) (n := n_o) (c := c_o) (B := C_o) (m := m_o) (d := d_o) (xs := x2)))
     clear hl_o
     have tl_t : Hid (q_t < w63.heap.size) := hM.s.lt
     have h_ro := rowA_new w63 37 (uV (sg (oTop (some y1))) A_o n_o c_o C_o m_o d_o x2)
     have bn := below_new w63 (.cells (uV (sg (oTop (some y1))) A_o n_o c_o C_o m_o d_o x2) 37)
     replace hM := hM.below bn
     replace h_qz := h_qz.below bn
     replace h_rz := h_rz.below bn
     replace h_qx := h_qx.below bn
     replace h_rx := h_rx.below bn
     replace h_qo := h_qo.below bn
     replace bw := below_two bw bn
     clear bn
     have HM_x3 := Lib.hid (many3 (.bool (sg (oTop (some x1)))) (.slice A_x n_x c_x) (.slice C_x m_x d_x))
     have HM_z3 := Lib.hid (many3 (.bool (sg (oTop (some (facQ kk))))) (.slice A_z n_z c_z) (.slice C_z m_z d_z))
     have HM_o3 := Lib.hid (many3 (.bool (sg (oTop (some y1)))) (.slice A_o n_o c_o) (.slice C_o m_o d_o))
     have HM_x7 := Lib.hid (many7 HX7.out)
     have HI_x3 := Lib.hid (uV_rat h_rx)
     have HI_z3 := Lib.hid h_rz.inV
     go_wp2_with (first | (refine wpList_loadV (by rfl) _ _ (by rfl) _ _ (by rfl) _ (by assumption) (by assumption) ?_) | (refine wpList_storeNew (by rfl) _ _ _ (by rfl) _ _ _ (by rfl) (by rfl) (by assumption) ?_))
     clear HI_x3 HI_z3
     generalize w63.alloc (.cells (uV (sg (oTop (some y1))) A_o n_o c_o C_o m_o d_o x2) 37) = w64 at *
     obtain ⟨q_o, eg⟩ : ∃ g, g = w63.heap.size := ⟨_, rfl⟩
     have ne_o_t : Hid (q_o ≠ q_t) := by show _ ≠ _; have := tl_t.out; omega
     rw [← eg] at h_ro ⊢
     clear eg
     clear tl_t
     refine (rMul_c h_qx h_qz (by decide) (by decide) (some y1) 0 HMX.out).mono ?_
     rintro e w65 ⟨A_r, n_r, c_r, C_r, m_r, d_r, rfl, h_qr, bn⟩
     replace hM := hM.below bn
     replace h_qz := h_qz.below bn
     replace h_rz := h_rz.below bn
     replace h_qx := h_qx.below bn
     replace h_rx := h_rx.below bn
     replace h_qo := h_qo.below bn
     replace h_ro := h_ro.below bn
     replace bw := below_two bw bn
     clear bn
     have HU_r := Lib.hid (fits3 (s := sg (oTop (some y1))) (A := A_r) (n := n_r) (c := c_r) (B := C_r) (m := m_r) (d := d_r))
     have tl_t : Hid (q_t < w65.heap.size) := hM.s.lt
     have h_rr := rowA_new w65 33 #[.bool (sg (oTop (some y1))), .slice A_r n_r c_r, .slice C_r m_r d_r]
     have bn := below_new w65 (.cells #[.bool (sg (oTop (some y1))), .slice A_r n_r c_r, .slice C_r m_r d_r] 33)
     replace hM := hM.below bn
     replace h_qz := h_qz.below bn
     replace h_rz := h_rz.below bn
     replace h_qx := h_qx.below bn
     replace h_rx := h_rx.below bn
     replace h_qo := h_qo.below bn
     replace h_ro := h_ro.below bn
     replace h_qr := h_qr.below bn
     replace bw := below_two bw bn
     clear bn
     have HM_r3 := Lib.hid (many3 (.bool (sg (oTop (some y1)))) (.slice A_r n_r c_r) (.slice C_r m_r d_r))
     have HI_o3 := Lib.hid (uV_rat h_ro)
     have HI_r3 := Lib.hid h_rr.inV
     go_wp2_with (first | (refine wpList_loadV (by rfl) _ _ (by rfl) _ _ (by rfl) _ (by assumption) (by assumption) ?_) | (refine wpList_storeNew (by rfl) _ _ _ (by rfl) _ _ _ (by rfl) (by rfl) (by assumption) ?_))
     clear HI_o3 HI_r3
     generalize w65.alloc (.cells #[.bool (sg (oTop (some y1))), .slice A_r n_r c_r, .slice C_r m_r d_r] 33) = w66 at *
     obtain ⟨q_r, eg⟩ : ∃ g, g = w65.heap.size := ⟨_, rfl⟩
     have ne_r_t : Hid (q_r ≠ q_t) := by show _ ≠ _; have := tl_t.out; omega
     rw [← eg] at h_rr ⊢
     clear eg
     clear tl_t
     refine (keepRat_c h_qo h_qr (by decide) (by decide) true (keepQ rfl)).mono ?_
     rintro e w67 ⟨rfl, bn⟩
     replace hM := hM.below bn
     replace h_qz := h_qz.below bn
     replace h_rz := h_rz.below bn
     replace h_qx := h_qx.below bn
     replace h_rx := h_rx.below bn
     replace h_qo := h_qo.below bn
     replace h_ro := h_ro.below bn
     replace h_qr := h_qr.below bn
     replace h_rr := h_rr.below bn
     replace bw := below_two bw bn
     clear bn
     have heq := fun W => equal_dim (xs := x2) (ys := x2) HX7.out HX7.out (b := true) (by simp) W
     have HI_x7 := Lib.hid (uV_dim h_rx)
     have HI_o7 := Lib.hid (uV_dim h_ro)
     go_wp2_with (refine wpList_loadV (by rfl) _ _ (by rfl) _ _ (by rfl) _ (by assumption) (by assumption) ?_)
     clear HI_x7 HI_o7 heq
     refine (wakes_any _ (Lib.hid (HT0.out.below bw))).mono ?_
     rintro e w68 ⟨rfl, bn⟩
     replace hM := hM.below bn
     replace h_qz := h_qz.below bn
     replace h_rz := h_rz.below bn
     replace h_qx := h_qx.below bn
     replace h_rx := h_rx.below bn
     replace h_qo := h_qo.below bn
     replace h_ro := h_ro.below bn
     replace h_qr := h_qr.below bn
     replace h_rr := h_rr.below bn
     replace bw := below_two bw bn
     clear bn
     go_wp2
     go_ret
     exact ⟨rfl, bw⟩
theorem tab_of {W : World} (h : laidMet Tryz.prog Rows.unitNamesRow.laid W) : UTab W := by
 refine ?_
 · first | exact prefixes_tab (laidMet_drop 0 h) (by decide +kernel) | exact prefixes_tab (laidMet_drop 1 h) (by decide +kernel) | exact prefixes_tab (laidMet_drop 2 h) (by decide +kernel) | exact prefixes_tab (laidMet_drop 3 h) (by decide +kernel) | exact prefixes_tab (laidMet_drop 4 h) (by decide +kernel) | exact prefixes_tab (laidMet_drop 5 h) (by decide +kernel) | exact prefixes_tab (laidMet_drop 6 h) (by decide +kernel) | exact prefixes_tab (laidMet_drop 7 h) (by decide +kernel) | exact prefixes_tab (laidMet_drop 8 h) (by decide +kernel) | exact prefixes_tab (laidMet_drop 9 h) (by decide +kernel) | exact prefixes_tab (laidMet_drop 10 h) (by decide +kernel) | exact prefixes_tab (laidMet_drop 11 h) (by decide +kernel) | exact prefixes_tab (laidMet_drop 12 h) (by decide +kernel) | exact prefixes_tab (laidMet_drop 13 h) (by decide +kernel)
set_option maxRecDepth 100000 in
theorem lifted (os : Os) (started : os.Started) (H : Type) (enc : TypeId × Value → H) :
 ReturnsInHanded {} Tryz.checked os 5 .any (fun w args => (Rows.unitNamesSpec.pre enc Tryz.prog Tryz.f5 [] false w args ∧ laidMetH Tryz.prog Rows.unitNamesRow.laid w) ∧ sizedMet enc Tryz.prog Tryz.f5 (OpenSpec.ofChange Rows.unitNamesSpec) false w args)
  (Rows.unitNamesSpec.post enc Tryz.prog Tryz.f5 false true false false) := by
 refine returnsInHanded_of_change_and (C := Tryz.checked) (X := fun w _ => laidMetH Tryz.prog Rows.unitNamesRow.laid w) (fun _ _ _ hh h => h.of_heap hh) own started (by kernel_rfl) Tryz.func5
  (ChangeSpec.witness_shaped (enc := enc) (C := Tryz.checked) (os := os) (X := fun w _ => laidMetH Tryz.prog Rows.unitNamesRow.laid w) false (World.laidAll Tryz.prog os Rows.unitNamesRow.laid) #[.int .u16 0, .int .u16 0] 8 (World.laidAll_os _ _ _)
    (World.shaped_of_ZipB (by kernel_rfl) (by kernel_rfl)) (by kernel_rfl) (by kernel_rfl) (by kernel_rfl)
    (by rw [MakeChecks.laidMetH_plain _ _ _ (by kernel_rfl)]; exact laidMet_laidAll _ (by kernel_rfl) (by kernel_rfl))) ?_
 intro W base args ds gs before hval0 hW _ _ hL _
 have hval : ∀ (j : Nat) t v, Tryz.f5.params[j]? = some t → args[j]? = some v → Value.okWide Tryz.prog W .any base t v := hval0
 have hW' := hW
 obtain ⟨p, q, hA0, hV, rfl, hfz, hnd⟩ := hW
 have hA : DataW.TrodAll enc Tryz.prog W 0 (fun _ => true) true Tryz.f5.params.toList args.toList ds p := hA0
 rw [Tryz.params5] at hA hval
 obtain ⟨v0, vs0, d0, ds0, p0, q0, hargs, rfl, rfl, h0, r0⟩ := trodAll_cons hA
 obtain ⟨v1, vs1, d1, ds1, p1, q1, rfl, rfl, rfl, h1, r1⟩ := trodAll_cons r0
 obtain ⟨rfl, rfl, rfl⟩ := trodAll_nil r1
 obtain rfl : args = #[v0, v1] := by cases args; simp_all
 obtain ⟨rfl, rfl⟩ := trodVars_none hV
 obtain ⟨a0, rfl, rfl, rfl, w0⟩ := open_int Tryz.underlying72 (hval 0 72 v0 rfl rfl) h0
 obtain ⟨a1, rfl, rfl, rfl, w1⟩ := open_int Tryz.underlying72 (hval 1 72 v1 rfl rfl) h1
 clear hA0 hval0
 simp only [List.append_nil] at hW'
 rw [MakeChecks.laidMetH_plain _ _ _ (by kernel_rfl)] at hL
 refine (walk a0 a1 W w0 w1 (tab_of hL)).mono fun e W' ⟨he, bel⟩ => ?_
 subst he
 exact ⟨_, rfl, _, _, _, [], _, [], hW', trodAll_mk1 (shut_bool Tryz.underlying4 _), (trodAll_cons_mk (shut_int Tryz.underlying72 w0) (trodAll_cons_mk (shut_int Tryz.underlying72 w1) trodAll_mk0)), rfl, bel.frame _, fun h => by cases h⟩
theorem over : Rows.unitNamesRow.holds Tryz.pinned (OpenSpec.ofChange Rows.unitNamesSpec) :=
 OpenClaim.holds_of_wide 5 Tryz.f5 rfl rfl rfl rfl rfl rfl rfl ⟨rfl, rfl, rfl, rfl, rfl⟩ rfl rfl rfl rfl rfl (by kernel_rfl) Tryz.func5 (by kernel_rfl)
  (of_decide_eq_true (by kernel_rfl)) (by unfold Func.isWrapper; first | (rw [if_pos (by decide +kernel)]; kernel_rfl) | (rw [if_neg (by decide +kernel)]; exact ⟨rfl, rfl⟩))
  (fun os started H enc _ => lifted os started H enc)
theorem proved : Rows.UnitNamesCardSaid :=
 Claim7.holds_tied_plain_at .later [] Rows.unitNamesCard.laidKinds true Rows.unitNamesCard.stood.harness Rows.unitNamesCard.stood.looks
  over (fun _ h => by cases h) (by kernel_rfl) (fun _ h => by cases h) unitNames_row_tie rfl ⟨rfl, rfl⟩ (by kernel_rfl) rfl
  (fun f fn hf hfn => by
    obtain rfl : f = 5 := Option.some.inj ((show Tryz.prog.funcNamed Rows.unitNamesRow.func = some 5 by kernel_rfl).symm.trans hf) |>.symm
    obtain rfl : fn = Tryz.f5 := (Option.some.inj (Tryz.func5.symm.trans hfn)).symm
    exact ⟨by kernel_rfl, fun j t ht => by
     have hm : t ∈ Tryz.f5.params.toList := by simpa using Array.mem_of_getElem? ht
     have hall : (Tryz.f5.params.toList.all fun u => !Tryz.prog.wantsStandIn u) = true := by kernel_rfl
     exact (show Tryz.prog.wantsStandIn t = false by simpa using List.all_eq_true.1 hall t hm)⟩)
  (by kernel_rfl)
end Go.Proofs.YtohokfbohdoijaaGreatDoor.lawUnitNames
