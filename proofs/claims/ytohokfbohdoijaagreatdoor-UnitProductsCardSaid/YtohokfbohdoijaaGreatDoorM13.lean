/- Part 13 of the texts that the statements of this seat lean on: mathematics, and what functions answer, as contracts over memory; each part says its own conditions. -/
import Derived.Test.YtohokfbohdoijaaGreatDoorM12
import Derived.Test.YtohokfbohdoijaaGreatDoorIter
/- What the method Names of a table of units answers, as a contract over memory: all names, sorted. Conditions: at most a million names; the table of prefixes reads as it is laid. -/
namespace Go.Proofs.YtohokfbohdoijaaGreatDoor
open Go.RowKit Limb
set_option linter.unusedVariables false
def NamesOf (M : Tb) (L : List ByteArray) : Prop := L.Pairwise (fun a b => a.data.toList ≤ b.data.toList) ∧ (L.map bytesOf).Perm (M.map (·.1))
theorem NamesOf.len {M : Tb} {L : List ByteArray} (h : NamesOf M L) : L.length = M.length := by
 have := h.2.length_eq
 simpa using this
theorem NamesOf.eq {M : Tb} {L L' : List ByteArray} (h : NamesOf M L) (h' : NamesOf M L') : L = L' := by
 have hp : L.Perm L' := by
  have e := h.2.trans h'.2.symm
  have e2 := e.map Limb.strOf
  rw [List.map_map, List.map_map] at e2
  have e3 : ∀ X : List ByteArray, X.map (Limb.strOf ∘ bytesOf) = X := fun X => by
   conv => rhs; rw [← List.map_id X]
   exact List.map_congr_left fun s _ => strOf_bytesOf s
  rwa [e3, e3] at e2
 refine List.Perm.eq_of_pairwise (le := fun a b : ByteArray => a.data.toList ≤ b.data.toList) (fun a b _ _ h1 h2 => ?_) h.1 h'.1 hp
 have := List.le_antisymm h1 h2
 cases a; cases b
 congr 1
 exact Array.ext' this
theorem NamesOf.lt {M : Tb} {L : List ByteArray} (h : NamesOf M L) (hM : TbOk M) : L.Pairwise (fun a b => a.data.toList < b.data.toList) := by
 have hn : (L.map bytesOf).Nodup := h.2.nodup_iff.2 hM.1
 rw [List.nodup_iff_pairwise_ne, List.pairwise_map] at hn
 refine (h.1.and hn).imp fun {a b} hab => ?_
 rcases List.le_iff_lt_or_eq.1 hab.1 with e | e
 · exact e
 · exact absurd (by unfold bytesOf; rw [e]) hab.2
theorem names_row {w : World} {B : Nat} {T : TypeId} {v : Value} {ss : List (List UInt8)} (h : w.ownsRow B T 1 v ss.length ((ss.mergeSort (fun x y => decide (x ≤ y))).map encStr)) :
 ∃ A c, v = .slice A ss.length c ∧ OwnR w B T 1 A ss.length c (((ss.mergeSort (fun x y => decide (x ≤ y))).map fun l => (⟨l.toArray⟩ : ByteArray)).map Value.string) := by
 obtain ⟨A, c, rfl, h2⟩ := shape_row h
 exact ⟨A, c, rfl, by rw [List.map_map]; exact h2⟩
theorem names_sort {M : Tb} {D : DataW Value} {ss : List (List UInt8)} (hM : TbOk M) (h : ss.Perm (strKeys D)) (hp : (strKeys D).Perm (M.map fun p => p.1.map UInt8.ofNat)) : NamesOf M ((ss.mergeSort (fun x y => decide (x ≤ y))).map fun l => (⟨l.toArray⟩ : ByteArray)) := by
 have tr : ∀ a b c : List UInt8, decide (a ≤ b) = true → decide (b ≤ c) = true → decide (a ≤ c) = true := fun a b c h1 h2 => by simp only [decide_eq_true_eq] at *; exact List.le_trans h1 h2
 have tot : ∀ a b : List UInt8, (decide (a ≤ b) || decide (b ≤ a)) = true := fun a b => by simp only [Bool.or_eq_true, decide_eq_true_eq]; exact List.le_total a b
 refine ⟨?_, ?_⟩
 · rw [List.pairwise_map]
   exact (List.pairwise_mergeSort tr tot ss).imp fun {a b} h => by simpa using h
 · rw [List.map_map]
   have e1 := (((List.mergeSort_perm ss (fun x y => decide (x ≤ y))).trans h).trans hp).map (List.map UInt8.toNat)
   rw [List.map_map] at e1
   have e2 : M.map ((List.map UInt8.toNat) ∘ fun p => p.1.map UInt8.ofNat) = M.map (·.1) := List.map_congr_left fun p hp => by
    have := bytesOf_strOf (hM.2 p hp).1
    simpa [bytesOf, Limb.strOf] using this
   rw [e2] at e1
   exact e1
section
variable {w : World} {B tb : Nat} {M : Tb}
set_option maxHeartbeats 4000000 in
set_option maxRecDepth 100000 in
theorem uNames_c (T : UTab w) (hs : TabS w B tb M) (hB : B ≤ w.heap.size) (hn : M.length ≤ 1000000) :
 Calls Tryz.prog 22 #[.pointer (some ⟨tb, 0, none⟩)] w fun e w' => ∃ A n c L, e = .returned (.slice A n c) ∧ OwnR w' B 9 1 A n c (L.map Value.string) ∧ n = M.length ∧ NamesOf M L ∧ (∃ mb, TabM w' B tb mb M) ∧ Kp tb B w w' := by
 have HT := Lib.hid T
 have HS := Lib.hid hs
 have HB := Lib.hid hB
 clear T hs hB
 go_enter Tryz.func22, Tryz.ntmps22
 go_wp2_with fail
 refine (uKnown_c HT.out HS.out HB.out).mono ?_
 rintro e w2 ⟨mb, rfl, hM, hk⟩
 obtain ⟨D, hown, hok, hlk, hperm⟩ := hM.map
 have hkeys := (callsIn_wide (n := 5)).1 (Tryz.maps_Keys_53 (some mb) w2)
 have hsz := hown.size_le
 have hsort := (callsIn_wide (n := 5)).1 (Tryz.slices_Sorted_keys_52_53 mb M.length D heldR w2 hown (by unfold maxLen; omega) (by omega))
 have HKS := Lib.hid hkeys
 have HSO := Lib.hid hsort
 have HM := Lib.hid hM
 have HK := Lib.hid hk
 have HP := Lib.hid hperm
 have HO := Lib.hid hok
 clear hkeys hsort hM hk hown hlk hperm hok hsz
 go_wp2_with (first | (go_at_call 53; refine HKS.out.mono ?_; rintro e w3 ⟨rfl, rfl⟩) | (go_at_call 52; refine HSO.out.mono ?_; rintro e w4 ⟨v, ss, rfl, hS, hrow, hnil, hb⟩))
 go_ret
 obtain ⟨A, c, rfl, ho⟩ := names_row hrow
 have b2 := below_two (below_new w2 _) hb
 refine ⟨A, _, c, _, rfl, ho.mono (by have := HK.out.size; have := HB.out; simp only [World.size_alloc]; omega), ?_, names_sort HO.out hS HP.out, ⟨mb, HM.out.below b2⟩, HK.out.trans (Kp.of b2 (Nat.le_trans HB.out HK.out.size))⟩
 have e1 := (hS.trans HP.out).length_eq
 simpa using e1
end
end Go.Proofs.YtohokfbohdoijaaGreatDoor

/- Arms of walks over units: a store into the last block but one; == of two faults. No condition. -/
namespace Go.Proofs.YtohokfbohdoijaaGreatDoor
open Go.RowKit Limb
set_option linter.unusedVariables false
theorem setRow_alloc_before (w : World) (c c' : Array Value) (t : TypeId) (B : Obj) : ((w.alloc (.cells c t)).alloc B).setRow w.heap.size c' = (w.alloc (.cells c' t)).alloc B := by
 simp only [World.setRow, World.alloc]
 congr 1
 apply Array.ext_getElem?
 intro i
 rw [Array.getElem?_modify]
 simp only [Array.getElem?_push, Array.size_push]
 by_cases h : w.heap.size = i
 · subst h; simp
 · simp only [h, if_false, Ne.symm h]
theorem wpList_storeNewB {P : Program} {ops : Array Oper} {rest : List Oper} {o : Oper} {a : Act} {w : World} {Q : Exit → Act → World → Prop} (hg : Region.wanted o (yielded ops a.tmps) = true) (ty : TypeId) (x y : Operand) (ho : o.op = .store ty x y) (V V0 : Array Value) (T : TypeId) (B : Obj) (hx : a.eval x = .pointer (some ⟨w.heap.size, 0, none⟩)) (hy : a.eval y = .agg V) (hT : Hid (Many P ty V.size ∧ V0.size = V.size ∧ ∀ v ∈ V, v.oneCell' = true))
 (h : wpList P ops Q rest (a.put o.dst undef) ((w.alloc (.cells V T)).alloc B)) : wpList P ops Q (o :: rest) a ((w.alloc (.cells V0 T)).alloc B) := by
 refine wpList_storeV hg ty x y ho w.heap.size hx V hy T V0 ((rowA_new w T V0).below (below_new _ _)) hT ?_
 rw [setRow_alloc_before]
 exact h
theorem equal_flt {e a e' a' : Int} {b : Bool} (h : (decide (e = e') && decide (a = a')) = b) (W : World) : (Op.equalIn 10000 56 (.agg (fltC e a)) (.agg (fltC e' a'))).run Tryz.prog W = .ok b W := by
 subst h
 by_cases h1 : e = e'
 · subst h1
   by_cases h2 : a = a'
   · subst h2
     have : (Op.equalIn 10000 56 (.agg (fltC e a)) (.agg (fltC e a))).run Tryz.prog W = .ok (decide (e = e) && decide (a = a)) W := by go_simp
     exact this
   · go_simp
 · go_simp
theorem uv_qt {w : World} {A : Option Addr} {n c : Nat} {B : Option Addr} {m d : Nat} {o : Option Rat} {xs : List Int} (h : QT w A n c B m d o) (hx : xs.length = 7) : UV w (uV (sg (oTop o)) A n c B m d xs) o xs := ⟨A, n, c, B, m, d, rfl, h, hx⟩
section
variable {w : World} {B tb mb : Nat} {M : Tb}
/-! ### the calls of a table that was asked before -/
theorem uNames_d (T : UTab w) (hM : TabM w B tb mb M) (hB : B ≤ w.heap.size) (k : Nat) (hk : M.length = k) (h1 : k ≤ 1000000) :
 Calls Tryz.prog 22 #[.pointer (some ⟨tb, 0, none⟩)] w fun e w' => ∃ A c, e = .returned (.slice A k c) ∧ Below w.heap.size w w' := by
 refine (uNames_c T hM.s hB (by rw [hk]; exact h1)).mono ?_
 rintro e w' ⟨A, n, c, L, rfl, _, hn, _, _, hk2⟩
 rw [hk] at hn
 subst hn
 exact ⟨A, c, rfl, hk2.done hM⟩
theorem uHas_d (T : UTab w) (hM : TabM w B tb mb M) (hB : B ≤ w.heap.size) (s : ByteArray) (hz : s.size ≤ 1000000) (v : Bool) (hv : (M.lookup (bytesOf s)).isSome = v) :
 Calls Tryz.prog 17 #[.pointer (some ⟨tb, 0, none⟩), .string s] w fun e w' => e = .returned (.bool v) ∧ Below w.heap.size w w' := by
 refine (uHas_c T hM.s hB s hz).mono ?_
 rintro e w' ⟨rfl, _, hk2⟩
 rw [hv]
 exact ⟨rfl, hk2.done hM⟩
theorem uTwice_d {s : Bool} {A : Option Addr} {n c : Nat} {az : List Nat} {C : Option Addr} {m d : Nat} {bz : List Nat} {o : Option Rat} {L : Nat} {xs : List Int} (T : UTab w) (hM : TabM w B tb mb M) (hB : B ≤ w.heap.size) (t : ByteArray) (hz : t.size ≤ 1000000) (hx : QQ w s A n c az C m d bz o L) (hL : L ≤ 1000) (hl : xs.length = 7) (h64 : I64 xs) (hN : Hid (isNm (bytesOf t) = true)) (hY : Hid (mayB o xs = true)) (hW : Hid ((M.lookup (bytesOf t)).isSome = true)) :
 Calls Tryz.prog 13 #[.pointer (some ⟨tb, 0, none⟩), .string t, .agg (uV s A n c C m d xs)] w fun e w' => e = .returned (.int .i64 14) ∧ Below w.heap.size w w' := by
 refine (uDefine_twice T hM.s hB t hz hx hL hl h64 hN hY hW).mono ?_
 rintro e w' ⟨rfl, _, hk2⟩
 exact ⟨rfl, hk2.done hM⟩
theorem uNo_d {s : Bool} {A : Option Addr} {n c : Nat} {az : List Nat} {C : Option Addr} {m d : Nat} {bz : List Nat} {o : Option Rat} {L : Nat} {xs : List Int} (T : UTab w) (hM : TabM w B tb mb M) (hB : B ≤ w.heap.size) (t : ByteArray) (hz : t.size ≤ 1000000) (hx : QQ w s A n c az C m d bz o L) (hL : L ≤ 1000) (hl : xs.length = 7) (h64 : I64 xs) (h : isNm (bytesOf t) = false ∨ mayB o xs = false) :
 Calls Tryz.prog 13 #[.pointer (some ⟨tb, 0, none⟩), .string t, .agg (uV s A n c C m d xs)] w fun e w' => e = .returned (.int .i64 1) ∧ Below w.heap.size w w' := by
 cases hN : isNm (bytesOf t) with
 | false =>
  refine (uDefine_name T hM.s hB t hz hx hL hl h64 hN).mono ?_
  rintro e w' ⟨rfl, _, hk2⟩
  exact ⟨rfl, hk2.done hM⟩
 | true =>
  have hY : mayB o xs = false := h.resolve_left (by rw [hN]; decide)
  refine (uDefine_may T hM.s hB t hz hx hL hl h64 hN hY).mono ?_
  rintro e w' ⟨rfl, _, hk2⟩
  exact ⟨rfl, hk2.done hM⟩
end
end Go.Proofs.YtohokfbohdoijaaGreatDoor

/- What the statements' helper wakes of layer 12 answers, as a contract over memory. Condition: the table of prefixes reads as it is laid. -/
namespace Go.Proofs.YtohokfbohdoijaaGreatDoor
open Go.RowKit Limb
set_option linter.unusedVariables false
theorem wake_p1 : parseU stdU (bytesOf ⟨#[107, 103, 42, 109, 47, 115, 94, 50]⟩) = .ok (1, [1, 1, -2, 0, 0, 0, 0]) := by kernel_rfl
theorem wake_p2 : parseU stdU (bytesOf ⟨#[107, 103, 32, 109, 47, 115, 94, 50]⟩) = .bad 12 5 := by kernel_rfl
theorem wake_p3 : parseU stdU (bytesOf ⟨#[109, 42, 120, 120]⟩) = .bad 15 2 := by kernel_rfl
theorem wake_p4 : parseU stdU (bytesOf ⟨#[32, 109, 76, 32, 47, 32, 109, 105, 110, 32, 94, 32, 45, 50, 32]⟩) = .ok ((9/2500 : Rat), [3, 0, 2, 0, 0, 0, 0]) := by kernel_rfl
theorem wake_by1 : divR (some ((381 : Int) : Rat)) (some ((1250 : Int) : Rat)) = (some (381/1250 : Rat), 0) := by decide +kernel
def wakeM : Tb := (bytesOf ⟨#[102, 111, 111, 116]⟩, ((381/1250 : Rat), [1, 0, 0, 0, 0, 0, 0])) :: stdU
theorem wake_l1 : wakeM.lookup (bytesOf ⟨#[102, 111, 111, 116]⟩) = some ((381/1250 : Rat), [1, 0, 0, 0, 0, 0, 0]) := by decide +kernel
theorem wake_by2 : divR (some ((3600 : Int) : Rat)) (some ((1000000 : Int) : Rat)) = (some (9/2500 : Rat), 0) := by decide +kernel
theorem wakeM_len : wakeM.length = 93 := by rw [wakeM, List.length_cons, stdU_len]
theorem wake_h1 : (wakeM.lookup (bytesOf ⟨#[117, 99, 100]⟩)).isSome = true := by decide +kernel
theorem wake_h2 : (wakeM.lookup (bytesOf ⟨#[107, 109, 105, 110]⟩)).isSome = false := by decide +kernel
theorem build_unit0 {s : Bool} {A : Option Addr} {n c : Nat} {B : Option Addr} {m d : Nat} (W : World) :
 (Instr.build 37 ([(0, .agg #[.bool s, .slice A n c, .slice B m d])] : List (Nat × Value)).toArray).run Tryz.prog W = .ok (.agg (uV s A n c B m d dimZ)) W := by kernel_rfl
theorem build_unit_p {s : Bool} {A : Option Addr} {n c : Nat} {B : Option Addr} {m d : Nat} (W : World) :
 (Instr.build 37 ([(0, .agg #[.bool s, .slice A n c, .slice B m d]), (1, .agg #[.int .i64 1, .int .i64 0, .int .i64 0, .int .i64 0, .int .i64 0, .int .i64 0, .int .i64 0])] : List (Nat × Value)).toArray).run Tryz.prog W = .ok (.agg (uV s A n c B m d [1, 0, 0, 0, 0, 0, 0])) W := by kernel_rfl
theorem build_unit_o {s : Bool} {A : Option Addr} {n c : Nat} {B : Option Addr} {m d : Nat} (W : World) :
 (Instr.build 37 ([(0, .agg #[.bool s, .slice A n c, .slice B m d]), (1, .agg #[.int .i64 1, .int .i64 1, .int .i64 (-2), .int .i64 0, .int .i64 0, .int .i64 0, .int .i64 0])] : List (Nat × Value)).toArray).run Tryz.prog W = .ok (.agg (uV s A n c B m d [1, 1, -2, 0, 0, 0, 0])) W := by kernel_rfl
set_option maxHeartbeats 8000000 in
set_option maxRecDepth 100000 in
theorem wakes_any (w : World) (HT0 : Hid (UTab w)) : Calls Tryz.prog 10 #[] w fun e w' => e = .returned (.bool true) ∧ Below w.heap.size w w' := by
 have bw := bel_refl w
 have BSZ : w.heap.size ≤ w.heap.size := Nat.le_refl _
 go_enter Tryz.func10, Tryz.ntmps10
 go_wp2_with fail
 refine (uNew_c w).mono ?_
 rintro e w1 ⟨rfl, rfl⟩
 have bn := below_new w (.cells (tabV 0 none) 95)
 replace bw := below_two bw bn
 clear bn
 obtain ⟨q_t, eg⟩ : ∃ g, g = w.heap.size := ⟨_, rfl⟩
 have hS : TabS (w.alloc (.cells (tabV 0 none) 95)) w.heap.size q_t stdU := .inl ⟨by rw [eg]; exact tabF_new _, by rw [eg]; exact BSZ, rfl⟩
 rw [← eg]
 generalize w.alloc (.cells (tabV 0 none) 95) = w2 at *
 clear eg BSZ
 go_wp2_with fail
 refine (tParse_main (HT0.out.below bw) hS bw.size ⟨#[107, 103, 42, 109, 47, 115, 94, 50]⟩ (by decide)).mono ?_
 rintro e w3 ⟨V_n, E_n, W_n, rfl, ⟨mb, hM⟩, hk, hp⟩
 replace bw := bw.trans hk.bel
 clear hk hS
 rw [wake_p1] at hp
 obtain ⟨rfl, rfl, hok_n, A_n, n_n, c_n, C_n, m_n, d_n, rfl, h_qn, hl_n⟩ := hp
 have HU_n := Lib.hid (fits10 (size_uV hl_n) (uV_one (s := sg (oTop (some 1))) (A := A_n) (n := n_n) (c := c_n) (B := C_n) (m := m_n) (d := d_n) (xs := [1, 1, -2, 0, 0, 0, 0])))
 clear hok_n hl_n
 have HU_e := Lib.hid (fitsF (0) (0))
 have tl_t : Hid (q_t < w3.heap.size) := hM.s.lt
 have h_rn := rowA_new w3 37 (uV (sg (oTop (some 1))) A_n n_n c_n C_n m_n d_n [1, 1, -2, 0, 0, 0, 0])
 have bn := below_new w3 (.cells (uV (sg (oTop (some 1))) A_n n_n c_n C_n m_n d_n [1, 1, -2, 0, 0, 0, 0]) 37)
 replace hM := hM.below bn
 replace h_qn := h_qn.below bn
 replace bw := below_two bw bn
 clear bn
 have h_re := rowA_new (w3.alloc (.cells (uV (sg (oTop (some 1))) A_n n_n c_n C_n m_n d_n [1, 1, -2, 0, 0, 0, 0]) 37)) 56 (fltC (0) (0))
 have bn := below_new (w3.alloc (.cells (uV (sg (oTop (some 1))) A_n n_n c_n C_n m_n d_n [1, 1, -2, 0, 0, 0, 0]) 37)) (.cells (fltC (0) (0)) 56)
 replace hM := hM.below bn
 replace h_qn := h_qn.below bn
 replace h_rn := h_rn.below bn
 replace bw := below_two bw bn
 clear bn
 go_wp2_with (first | (refine wpList_storeNewB (by rfl) _ _ _ (by rfl) _ _ _ _ (by rfl) (by rfl) (by assumption) ?_) | (refine wpList_storeNewAt (by rfl) _ _ _ (by rfl) _ _ _ _ (by rfl) (by rfl) (by simp) (by assumption) ?_) | (refine wpList_storeNew (by rfl) _ _ _ (by rfl) _ _ _ (by rfl) (by rfl) (by assumption) ?_))
 simp only [World.size_alloc] at h_re
 generalize (w3.alloc (.cells (uV (sg (oTop (some 1))) A_n n_n c_n C_n m_n d_n [1, 1, -2, 0, 0, 0, 0]) 37)).alloc (.cells (fltC (0) (0)) 56) = w4 at *
 obtain ⟨q_e, eg⟩ : ∃ g, g = w3.heap.size + 1 := ⟨_, rfl⟩
 have ne_e_t : Hid (q_e ≠ q_t) := by show _ ≠ _; have := tl_t.out; omega
 rw [← eg] at h_re ⊢
 clear eg
 obtain ⟨q_n, eg⟩ : ∃ g, g = w3.heap.size := ⟨_, rfl⟩
 have ne_n_t : Hid (q_n ≠ q_t) := by show _ ≠ _; have := tl_t.out; omega
 rw [← eg] at h_rn ⊢
 clear eg
 clear tl_t
 refine (tParse_main (HT0.out.below bw) hM.s bw.size ⟨#[107, 103, 32, 109, 47, 115, 94, 50]⟩ (by decide)).mono ?_
 rintro e w5 ⟨V_y, E_y, W_y, rfl, hM2, hk, hp⟩
 have bn := hk.done hM
 clear hk hM2
 replace hM := hM.below bn
 replace h_qn := h_qn.below bn
 replace h_rn := h_rn.below bn
 replace h_re := h_re.below bn
 replace bw := below_two bw bn
 clear bn
 rw [wake_p2] at hp
 obtain ⟨e1, e2, _, e3⟩ := hp
 have e4 : W_y = 3 := by rw [e2]; rfl
 subst e1 e3 e4
 clear e2
 have HU_y := Lib.hid (fits10 (V := z10) rfl z10_one)
 have HU_f := Lib.hid (fitsF (12) (3))
 have tl_t : Hid (q_t < w5.heap.size) := hM.s.lt
 have h_ry := rowA_new w5 37 z10
 have bn := below_new w5 (.cells z10 37)
 replace hM := hM.below bn
 replace h_qn := h_qn.below bn
 replace h_rn := h_rn.below bn
 replace h_re := h_re.below bn
 replace bw := below_two bw bn
 clear bn
 have h_rf := rowA_new (w5.alloc (.cells z10 37)) 56 (fltC (12) (3))
 have bn := below_new (w5.alloc (.cells z10 37)) (.cells (fltC (12) (3)) 56)
 replace hM := hM.below bn
 replace h_qn := h_qn.below bn
 replace h_rn := h_rn.below bn
 replace h_re := h_re.below bn
 replace h_ry := h_ry.below bn
 replace bw := below_two bw bn
 clear bn
 go_wp2_with (first | (refine wpList_storeNewB (by rfl) _ _ _ (by rfl) _ _ _ _ (by rfl) (by rfl) (by assumption) ?_) | (refine wpList_storeNewAt (by rfl) _ _ _ (by rfl) _ _ _ _ (by rfl) (by rfl) (by simp) (by assumption) ?_) | (refine wpList_storeNew (by rfl) _ _ _ (by rfl) _ _ _ (by rfl) (by rfl) (by assumption) ?_))
 simp only [World.size_alloc] at h_rf
 generalize (w5.alloc (.cells z10 37)).alloc (.cells (fltC (12) (3)) 56) = w6 at *
 obtain ⟨q_f, eg⟩ : ∃ g, g = w5.heap.size + 1 := ⟨_, rfl⟩
 have ne_f_t : Hid (q_f ≠ q_t) := by show _ ≠ _; have := tl_t.out; omega
 rw [← eg] at h_rf ⊢
 clear eg
 obtain ⟨q_y, eg⟩ : ∃ g, g = w5.heap.size := ⟨_, rfl⟩
 have ne_y_t : Hid (q_y ≠ q_t) := by show _ ≠ _; have := tl_t.out; omega
 rw [← eg] at h_ry ⊢
 clear eg
 clear tl_t
 refine (tParse_main (HT0.out.below bw) hM.s bw.size ⟨#[109, 42, 120, 120]⟩ (by decide)).mono ?_
 rintro e w7 ⟨V_z, E_z, W_z, rfl, hM2, hk, hp⟩
 have bn := hk.done hM
 clear hk hM2
 replace hM := hM.below bn
 replace h_qn := h_qn.below bn
 replace h_rn := h_rn.below bn
 replace h_re := h_re.below bn
 replace h_ry := h_ry.below bn
 replace h_rf := h_rf.below bn
 replace bw := below_two bw bn
 clear bn
 rw [wake_p3] at hp
 obtain ⟨e1, e2, _, e3⟩ := hp
 have e4 : W_z = 2 := by rw [e2]; rfl
 subst e1 e3 e4
 clear e2
 have HU_z := Lib.hid (fits10 (V := z10) rfl z10_one)
 have HU_g := Lib.hid (fitsF (15) (2))
 have tl_t : Hid (q_t < w7.heap.size) := hM.s.lt
 have h_rz := rowA_new w7 37 z10
 have bn := below_new w7 (.cells z10 37)
 replace hM := hM.below bn
 replace h_qn := h_qn.below bn
 replace h_rn := h_rn.below bn
 replace h_re := h_re.below bn
 replace h_ry := h_ry.below bn
 replace h_rf := h_rf.below bn
 replace bw := below_two bw bn
 clear bn
 have h_rg := rowA_new (w7.alloc (.cells z10 37)) 56 (fltC (15) (2))
 have bn := below_new (w7.alloc (.cells z10 37)) (.cells (fltC (15) (2)) 56)
 replace hM := hM.below bn
 replace h_qn := h_qn.below bn
 replace h_rn := h_rn.below bn
 replace h_re := h_re.below bn
 replace h_ry := h_ry.below bn
 replace h_rf := h_rf.below bn
 replace h_rz := h_rz.below bn
 replace bw := below_two bw bn
 clear bn
 go_wp2_with (first | (refine wpList_storeNewB (by rfl) _ _ _ (by rfl) _ _ _ _ (by rfl) (by rfl) (by assumption) ?_) | (refine wpList_storeNewAt (by rfl) _ _ _ (by rfl) _ _ _ _ (by rfl) (by rfl) (by simp) (by assumption) ?_) | (refine wpList_storeNew (by rfl) _ _ _ (by rfl) _ _ _ (by rfl) (by rfl) (by assumption) ?_))
 simp only [World.size_alloc] at h_rg
 generalize (w7.alloc (.cells z10 37)).alloc (.cells (fltC (15) (2)) 56) = w8 at *
 obtain ⟨q_g, eg⟩ : ∃ g, g = w7.heap.size + 1 := ⟨_, rfl⟩
 have ne_g_t : Hid (q_g ≠ q_t) := by show _ ≠ _; have := tl_t.out; omega
 rw [← eg] at h_rg ⊢
 clear eg
 obtain ⟨q_z, eg⟩ : ∃ g, g = w7.heap.size := ⟨_, rfl⟩
 have ne_z_t : Hid (q_z ≠ q_t) := by show _ ≠ _; have := tl_t.out; omega
 rw [← eg] at h_rz ⊢
 clear eg
 clear tl_t
 refine (tParse_main (HT0.out.below bw) hM.s bw.size ⟨#[32, 109, 76, 32, 47, 32, 109, 105, 110, 32, 94, 32, 45, 50, 32]⟩ (by decide)).mono ?_
 rintro e w9 ⟨V_l, E_l, W_l, rfl, hM2, hk, hp⟩
 have bn := hk.done hM
 clear hk hM2
 replace hM := hM.below bn
 replace h_qn := h_qn.below bn
 replace h_rn := h_rn.below bn
 replace h_re := h_re.below bn
 replace h_ry := h_ry.below bn
 replace h_rf := h_rf.below bn
 replace h_rz := h_rz.below bn
 replace h_rg := h_rg.below bn
 replace bw := below_two bw bn
 clear bn
 rw [wake_p4] at hp
 obtain ⟨rfl, rfl, hok_l, A_l, n_l, c_l, C_l, m_l, d_l, rfl, h_ql, hl_l⟩ := hp
 have HU_l := Lib.hid (fits10 (size_uV hl_l) (uV_one (s := sg (oTop (some (9/2500 : Rat)))) (A := A_l) (n := n_l) (c := c_l) (B := C_l) (m := m_l) (d := d_l) (xs := [3, 0, 2, 0, 0, 0, 0])))
 clear hok_l hl_l
 have HU_h := Lib.hid (fitsF (0) (0))
 have tl_t : Hid (q_t < w9.heap.size) := hM.s.lt
 have h_rl := rowA_new w9 37 (uV (sg (oTop (some (9/2500 : Rat)))) A_l n_l c_l C_l m_l d_l [3, 0, 2, 0, 0, 0, 0])
 have bn := below_new w9 (.cells (uV (sg (oTop (some (9/2500 : Rat)))) A_l n_l c_l C_l m_l d_l [3, 0, 2, 0, 0, 0, 0]) 37)
 replace hM := hM.below bn
 replace h_qn := h_qn.below bn
 replace h_rn := h_rn.below bn
 replace h_re := h_re.below bn
 replace h_ry := h_ry.below bn
 replace h_rf := h_rf.below bn
 replace h_rz := h_rz.below bn
 replace h_rg := h_rg.below bn
 replace h_ql := h_ql.below bn
 replace bw := below_two bw bn
 clear bn
 have h_rh := rowA_new (w9.alloc (.cells (uV (sg (oTop (some (9/2500 : Rat)))) A_l n_l c_l C_l m_l d_l [3, 0, 2, 0, 0, 0, 0]) 37)) 56 (fltC (0) (0))
 have bn := below_new (w9.alloc (.cells (uV (sg (oTop (some (9/2500 : Rat)))) A_l n_l c_l C_l m_l d_l [3, 0, 2, 0, 0, 0, 0]) 37)) (.cells (fltC (0) (0)) 56)
 replace hM := hM.below bn
 replace h_qn := h_qn.below bn
 replace h_rn := h_rn.below bn
 replace h_re := h_re.below bn
 replace h_ry := h_ry.below bn
 replace h_rf := h_rf.below bn
 replace h_rz := h_rz.below bn
 replace h_rg := h_rg.below bn
 replace h_ql := h_ql.below bn
 replace h_rl := h_rl.below bn
 replace bw := below_two bw bn
 clear bn
 go_wp2_with (first | (refine wpList_storeNewB (by rfl) _ _ _ (by rfl) _ _ _ _ (by rfl) (by rfl) (by assumption) ?_) | (refine wpList_storeNewAt (by rfl) _ _ _ (by rfl) _ _ _ _ (by rfl) (by rfl) (by simp) (by assumption) ?_) | (refine wpList_storeNew (by rfl) _ _ _ (by rfl) _ _ _ (by rfl) (by rfl) (by assumption) ?_))
 simp only [World.size_alloc] at h_rh
 generalize (w9.alloc (.cells (uV (sg (oTop (some (9/2500 : Rat)))) A_l n_l c_l C_l m_l d_l [3, 0, 2, 0, 0, 0, 0]) 37)).alloc (.cells (fltC (0) (0)) 56) = w10 at *
 obtain ⟨q_h, eg⟩ : ∃ g, g = w9.heap.size + 1 := ⟨_, rfl⟩
 have ne_h_t : Hid (q_h ≠ q_t) := by show _ ≠ _; have := tl_t.out; omega
 rw [← eg] at h_rh ⊢
 clear eg
 obtain ⟨q_l, eg⟩ : ∃ g, g = w9.heap.size := ⟨_, rfl⟩
 have ne_l_t : Hid (q_l ≠ q_t) := by show _ ≠ _; have := tl_t.out; omega
 rw [← eg] at h_rl ⊢
 clear eg
 clear tl_t
 refine (by_c 381 1250 (by decide) (by decide) (by decide) (by decide) (381/1250 : Rat) wake_by1 _).mono ?_
 rintro e w11 ⟨A_p, n_p, c_p, C_p, m_p, d_p, rfl, h_qp, bn⟩
 replace hM := hM.below bn
 replace h_qn := h_qn.below bn
 replace h_rn := h_rn.below bn
 replace h_re := h_re.below bn
 replace h_ry := h_ry.below bn
 replace h_rf := h_rf.below bn
 replace h_rz := h_rz.below bn
 replace h_rg := h_rg.below bn
 replace h_ql := h_ql.below bn
 replace h_rl := h_rl.below bn
 replace h_rh := h_rh.below bn
 replace bw := below_two bw bn
 clear bn
 have HBL_p : Hid (∀ W, (Instr.build 37 ([(0, .agg #[.bool (sg (oTop (some (381/1250 : Rat)))), .slice A_p n_p c_p, .slice C_p m_p d_p]), (1, .agg #[.int .i64 1, .int .i64 0, .int .i64 0, .int .i64 0, .int .i64 0, .int .i64 0, .int .i64 0])] : List (Nat × Value)).toArray).run Tryz.prog W = .ok (.agg (uV (sg (oTop (some (381/1250 : Rat)))) A_p n_p c_p C_p m_p d_p [1, 0, 0, 0, 0, 0, 0])) W) := fun W => build_unit_p W
 go_wp2_with (refine wpList_buildV (by rfl) _ _ (by rfl) _ (by rfl) _ (by assumption) ?_)
 clear HBL_p
 refine (uDefine_ok (HT0.out.below bw) hM.s bw.size ⟨#[102, 111, 111, 116]⟩ (by decide) h_qp (by decide) rfl (by unfold I64; decide) (by show _ = _; decide +kernel) (by show _ = _; decide +kernel) (by show _ = _; decide +kernel) (by show _ ≤ _; rw [stdU_len]; decide)).mono ?_
 rintro e w12 ⟨rfl, ⟨mb2, hM2⟩, hk⟩
 have hM2 : TabM w12 w.heap.size q_t mb2 wakeM := hM2
 replace h_qn := QT.kw hk h_qn
 replace h_rn := hk.row h_rn ne_n_t.out
 replace h_re := hk.row h_re ne_e_t.out
 replace h_ry := hk.row h_ry ne_y_t.out
 replace h_rf := hk.row h_rf ne_f_t.out
 replace h_rz := hk.row h_rz ne_z_t.out
 replace h_rg := hk.row h_rg ne_g_t.out
 replace h_ql := QT.kw hk h_ql
 replace h_rl := hk.row h_rl ne_l_t.out
 replace h_rh := hk.row h_rh ne_h_t.out
 replace h_qp := QT.kw hk h_qp
 replace bw := bw.trans hk.bel
 clear hk hM
 rename TabM w12 w.heap.size q_t mb2 wakeM => hM
 clear h_qp h_ry h_rz
 go_wp2_with fail
 refine (rWhole_is 2 (by decide) (by decide) 2 (by decide) _).mono ?_
 rintro e w13 ⟨A_v, n_v, c_v, C_v, m_v, d_v, rfl, h_qv, bn⟩
 replace hM := hM.below bn
 replace h_qn := h_qn.below bn
 replace h_rn := h_rn.below bn
 replace h_re := h_re.below bn
 replace h_rf := h_rf.below bn
 replace h_rg := h_rg.below bn
 replace h_ql := h_ql.below bn
 replace h_rl := h_rl.below bn
 replace h_rh := h_rh.below bn
 replace bw := below_two bw bn
 clear bn
 have HBL_v : Hid (∀ W, (Instr.build 37 ([(0, .agg #[.bool (sg (oTop (some 2))), .slice A_v n_v c_v, .slice C_v m_v d_v])] : List (Nat × Value)).toArray).run Tryz.prog W = .ok (.agg (uV (sg (oTop (some 2))) A_v n_v c_v C_v m_v d_v dimZ)) W) := fun W => build_unit0 W
 go_wp2_with (refine wpList_buildV (by rfl) _ _ (by rfl) _ (by rfl) _ (by assumption) ?_)
 clear HBL_v
 refine (uDefine_twice (HT0.out.below bw) hM.s bw.size ⟨#[109]⟩ (by decide) h_qv (by decide) rfl (by unfold I64; decide) (by show _ = _; decide +kernel) (by show _ = _; decide +kernel) (by show _ = _; decide +kernel)).mono ?_
 rintro e w14 ⟨rfl, hM2, hk⟩
 have bn := hk.done hM
 clear hk hM2
 replace hM := hM.below bn
 replace h_qn := h_qn.below bn
 replace h_rn := h_rn.below bn
 replace h_re := h_re.below bn
 replace h_rf := h_rf.below bn
 replace h_rg := h_rg.below bn
 replace h_ql := h_ql.below bn
 replace h_rl := h_rl.below bn
 replace h_rh := h_rh.below bn
 replace h_qv := h_qv.below bn
 replace bw := below_two bw bn
 clear bn
 clear h_qv
 go_wp2_with fail
 refine (uOfN_c (HT0.out.below bw) hM.s bw.size ⟨#[102, 111, 111, 116]⟩ (by decide)).mono ?_
 rintro e w15 ⟨V_u, rfl, hV, hM2, hk⟩
 have bn := hk.done hM
 clear hk hM2
 replace hM := hM.below bn
 replace h_qn := h_qn.below bn
 replace h_rn := h_rn.below bn
 replace h_re := h_re.below bn
 replace h_rf := h_rf.below bn
 replace h_rg := h_rg.below bn
 replace h_ql := h_ql.below bn
 replace h_rl := h_rl.below bn
 replace h_rh := h_rh.below bn
 replace bw := below_two bw bn
 clear bn
 rw [wake_l1] at hV ⊢
 have hV : UV _ V_u (some (381/1250 : Rat)) [1, 0, 0, 0, 0, 0, 0] := hV
 obtain ⟨A_u, n_u, c_u, C_u, m_u, d_u, rfl, h_qu, hl_u⟩ := hV
 have HU_u := Lib.hid (fits10 (size_uV hl_u) (uV_one (s := sg (oTop (some (381/1250 : Rat)))) (A := A_u) (n := n_u) (c := c_u) (B := C_u) (m := m_u) (d := d_u) (xs := [1, 0, 0, 0, 0, 0, 0])))
 clear hl_u
 have tl_t : Hid (q_t < w15.heap.size) := hM.s.lt
 have h_ru := rowA_new w15 37 (uV (sg (oTop (some (381/1250 : Rat)))) A_u n_u c_u C_u m_u d_u [1, 0, 0, 0, 0, 0, 0])
 have bn := below_new w15 (.cells (uV (sg (oTop (some (381/1250 : Rat)))) A_u n_u c_u C_u m_u d_u [1, 0, 0, 0, 0, 0, 0]) 37)
 replace hM := hM.below bn
 replace h_qn := h_qn.below bn
 replace h_rn := h_rn.below bn
 replace h_re := h_re.below bn
 replace h_rf := h_rf.below bn
 replace h_rg := h_rg.below bn
 replace h_ql := h_ql.below bn
 replace h_rl := h_rl.below bn
 replace h_rh := h_rh.below bn
 replace h_qu := h_qu.below bn
 replace bw := below_two bw bn
 clear bn
 go_wp2_with (refine wpList_storeNew (by rfl) _ _ _ (by rfl) _ _ _ (by rfl) (by rfl) (by assumption) ?_)
 generalize w15.alloc (.cells (uV (sg (oTop (some (381/1250 : Rat)))) A_u n_u c_u C_u m_u d_u [1, 0, 0, 0, 0, 0, 0]) 37) = w16 at *
 obtain ⟨q_u, eg⟩ : ∃ g, g = w15.heap.size := ⟨_, rfl⟩
 have ne_u_t : Hid (q_u ≠ q_t) := by show _ ≠ _; have := tl_t.out; omega
 rw [← eg] at h_ru ⊢
 clear eg
 clear tl_t
 refine (tParse_nil ⟨#[109]⟩ _).mono ?_
 rintro e w17 ⟨rfl, bn⟩
 replace hM := hM.below bn
 replace h_qn := h_qn.below bn
 replace h_rn := h_rn.below bn
 replace h_re := h_re.below bn
 replace h_rf := h_rf.below bn
 replace h_rg := h_rg.below bn
 replace h_ql := h_ql.below bn
 replace h_rl := h_rl.below bn
 replace h_rh := h_rh.below bn
 replace h_qu := h_qu.below bn
 replace h_ru := h_ru.below bn
 replace bw := below_two bw bn
 clear bn
 have HU_j := Lib.hid (fits10 (V := z10) rfl z10_one)
 have HU_i := Lib.hid (fitsF (1) (0))
 have tl_t : Hid (q_t < w17.heap.size) := hM.s.lt
 have h_rj := rowA_new w17 37 z10
 have bn := below_new w17 (.cells z10 37)
 replace hM := hM.below bn
 replace h_qn := h_qn.below bn
 replace h_rn := h_rn.below bn
 replace h_re := h_re.below bn
 replace h_rf := h_rf.below bn
 replace h_rg := h_rg.below bn
 replace h_ql := h_ql.below bn
 replace h_rl := h_rl.below bn
 replace h_rh := h_rh.below bn
 replace h_qu := h_qu.below bn
 replace h_ru := h_ru.below bn
 replace bw := below_two bw bn
 clear bn
 have h_ri := rowA_new (w17.alloc (.cells z10 37)) 56 (fltC (1) (0))
 have bn := below_new (w17.alloc (.cells z10 37)) (.cells (fltC (1) (0)) 56)
 replace hM := hM.below bn
 replace h_qn := h_qn.below bn
 replace h_rn := h_rn.below bn
 replace h_re := h_re.below bn
 replace h_rf := h_rf.below bn
 replace h_rg := h_rg.below bn
 replace h_ql := h_ql.below bn
 replace h_rl := h_rl.below bn
 replace h_rh := h_rh.below bn
 replace h_qu := h_qu.below bn
 replace h_ru := h_ru.below bn
 replace h_rj := h_rj.below bn
 replace bw := below_two bw bn
 clear bn
 clear HU_n HU_e HU_f HU_y HU_g HU_z HU_l HU_h HU_u
 go_wp2_with (first | (refine wpList_storeNewB (by rfl) _ _ _ (by rfl) _ _ _ _ (by rfl) (by rfl) (by assumption) ?_) | (refine wpList_storeNewAt (by rfl) _ _ _ (by rfl) _ _ _ _ (by rfl) (by rfl) (by simp) (by assumption) ?_) | (refine wpList_storeNew (by rfl) _ _ _ (by rfl) _ _ _ (by rfl) (by rfl) (by assumption) ?_))
 simp only [World.size_alloc] at h_ri
 generalize (w17.alloc (.cells z10 37)).alloc (.cells (fltC (1) (0)) 56) = w18 at *
 obtain ⟨q_i, eg⟩ : ∃ g, g = w17.heap.size + 1 := ⟨_, rfl⟩
 have ne_i_t : Hid (q_i ≠ q_t) := by show _ ≠ _; have := tl_t.out; omega
 rw [← eg] at h_ri ⊢
 clear eg
 obtain ⟨q_j, eg⟩ : ∃ g, g = w17.heap.size := ⟨_, rfl⟩
 have ne_j_t : Hid (q_j ≠ q_t) := by show _ ≠ _; have := tl_t.out; omega
 rw [← eg] at h_rj ⊢
 clear eg
 clear tl_t
 generalize w18 = wS at *
 refine region_freeg 80 1 [59, 60, 61, 62, 63, 64, 65, 66, 67, 68, 69, 70, 71, 72, 73, 74, 75, 76, 77, 78, 79, 80, 81, 82, 83, 84, 85, 86, 87, 88, 89, 90, 91, 92, 93, 94, 95, 96, 97, 98, 99, 100, 101, 102, 103, 104, 105, 106, 107, 108, 109, 110, 111, 112, 113, 114, 115, 116, 117, 118, 119, 120, 121, 122, 123, 124, 125, 126, 127, 128, 129, 130, 131, 132, 133, 134, 135, 136, 137, 138] ?aF1 (fun wx => Below wS.heap.size wS wx) (fun k vv wx => match k with
  | 0 => vv = .pointer (some ⟨q_e, 0, none⟩)
  | 1 => vv = .int .i64 0
  | 2 => vv = .bool true
  | 3 => vv = .bool true
  | 4 => vv = .agg (uV (sg (oTop (some 1))) A_n n_n c_n C_n m_n d_n [1, 1, -2, 0, 0, 0, 0])
  | 5 => ∃ (e0 : Option Addr) (e1 : Nat) (e2 : Nat) (e3 : Option Addr) (e4 : Nat) (e5 : Nat), vv = .agg #[.bool (sg (oTop (some 1))), .slice e0 e1 e2, .slice e3 e4 e5] ∧ QT wx e0 e1 e2 e3 e4 e5 (some 1)
  | 6 => vv = .agg #[.int .i64 1, .int .i64 1, .int .i64 (-2), .int .i64 0, .int .i64 0, .int .i64 0, .int .i64 0]
  | 7 => ∃ (e0 : Option Addr) (e1 : Nat) (e2 : Nat) (e3 : Option Addr) (e4 : Nat) (e5 : Nat), vv = .agg (uV (sg (oTop (some 1))) e0 e1 e2 e3 e4 e5 [1, 1, -2, 0, 0, 0, 0]) ∧ QT wx e0 e1 e2 e3 e4 e5 (some 1)
  | 8 => vv = .bool true
  | 9 => vv = .bool true
  | 10 => vv = .bool true
  | 11 => vv = .agg (fltC (12) (3))
  | 12 => vv = .agg #[.int .i64 12, .int .i64 3]
  | 13 => vv = .bool true
  | 14 => vv = .bool true
  | 15 => vv = .bool true
  | 16 => vv = .agg (fltC (15) (2))
  | 17 => vv = .agg #[.int .i64 15, .int .i64 2]
  | 18 => vv = .bool true
  | 19 => vv = .bool true
  | 20 => vv = .bool true
  | 21 => vv = .pointer (some ⟨q_h, 0, none⟩)
  | 22 => vv = .int .i64 0
  | 23 => vv = .bool true
  | 24 => vv = .bool true
  | 25 => vv = .bool true
  | 26 => vv = .pointer (some ⟨q_l, 0, none⟩)
  | 27 => vv = .agg #[.bool (sg (oTop (some (9/2500 : Rat)))), .slice A_l n_l c_l, .slice C_l m_l d_l]
  | 28 => ∃ (e0 : Option Addr) (e1 : Nat) (e2 : Nat) (e3 : Option Addr) (e4 : Nat) (e5 : Nat), vv = .agg #[.bool (sg (oTop (some (9/2500 : Rat)))), .slice e0 e1 e2, .slice e3 e4 e5] ∧ QT wx e0 e1 e2 e3 e4 e5 (some (9/2500 : Rat))
  | 29 => vv = .bool true
  | 30 => vv = .bool true
  | 31 => vv = .bool true
  | 32 => vv = .pointer (some ⟨q_l, 3, none⟩)
  | 33 => vv = .agg (dimV [3, 0, 2, 0, 0, 0, 0])
  | 34 => vv = .agg #[.int .i64 3, .int .i64 0, .int .i64 2, .int .i64 0, .int .i64 0, .int .i64 0, .int .i64 0]
  | 35 => vv = .bool true
  | 36 => vv = .bool true
  | 37 => vv = .bool true
  | 38 => vv = .int .i64 0
  | 39 => vv = .bool true
  | 40 => vv = .bool true
  | 41 => vv = .bool true
  | 42 => vv = .int .i64 14
  | 43 => vv = .bool true
  | 44 => vv = .bool true
  | 45 => vv = .bool true
  | 46 => vv = .bool true
  | 47 => vv = .bool true
  | 48 => vv = .bool true
  | 49 => vv = .pointer (some ⟨q_u, 3, none⟩)
  | 50 => vv = .agg (dimV [1, 0, 0, 0, 0, 0, 0])
  | 51 => vv = .agg #[.int .i64 1, .int .i64 0, .int .i64 0, .int .i64 0, .int .i64 0, .int .i64 0, .int .i64 0]
  | 52 => vv = .bool true
  | 53 => vv = .bool true
  | 54 => vv = .bool true
  | 55 => vv = .pointer (some ⟨q_t, 0, none⟩)
  | 56 => ∃ (e0 : Option Addr) (e1 : Nat), vv = .slice e0 93 e1
  | 57 => vv = .int .i64 93
  | 58 => vv = .bool true
  | 59 => vv = .bool true
  | 60 => vv = .bool true
  | 61 => vv = .pointer (some ⟨q_t, 0, none⟩)
  | 62 => vv = .bool true
  | 63 => vv = .bool true
  | 64 => vv = .bool true
  | 65 => vv = .pointer (some ⟨q_t, 0, none⟩)
  | 66 => vv = .bool false
  | 67 => vv = .bool true
  | 68 => vv = .bool true
  | 69 => vv = .bool true
  | 70 => vv = .agg (fltC (1) (0))
  | 71 => vv = .agg #[.int .i64 1, .int .i64 0]
  | 72 => vv = .bool true
  | 73 => vv = .bool true
  | 74 => vv = .bool true
  | 75 => vv = .pointer none
  | 76 => vv = .agg (uV (sg (oTop (some (381/1250 : Rat)))) A_u n_u c_u C_u m_u d_u [1, 0, 0, 0, 0, 0, 0])
  | 77 => vv = .int .i64 1
  | 78 => vv = .bool true
  | _ => vv = .bool true)
  (fun k => false) (by kernel_rfl) ?haF1 rfl (by kernel_rfl) (by kernel_rfl) (fun _ _ _ _ _ h => h) ?hSb1 ?hPb1 ?hS1 ?hop1 ?hfin1
 case haF1 =>
  intro vals
  simp only [fillAll, List.getElem?_cons_zero, List.getElem?_cons_succ, Act.put, List.setIfInBounds_toArray, List.set_cons_zero, List.set_cons_succ]
  exact rfl
 case hSb1 => exact fun wx w2 hb hS => below_two hS hb
 case hPb1 =>
  intro k v wa wb hb h
  match k, h with
  | 0, h => exact h
  | 1, h => exact h
  | 2, h => exact h
  | 3, h => exact h
  | 4, h => exact h
  | 5, ⟨e0, e1, e2, e3, e4, e5, h1, g0⟩ => exact ⟨e0, e1, e2, e3, e4, e5, h1, g0.below hb⟩
  | 6, h => exact h
  | 7, ⟨e0, e1, e2, e3, e4, e5, h1, g0⟩ => exact ⟨e0, e1, e2, e3, e4, e5, h1, g0.below hb⟩
  | 8, h => exact h
  | 9, h => exact h
  | 10, h => exact h
  | 11, h => exact h
  | 12, h => exact h
  | 13, h => exact h
  | 14, h => exact h
  | 15, h => exact h
  | 16, h => exact h
  | 17, h => exact h
  | 18, h => exact h
  | 19, h => exact h
  | 20, h => exact h
  | 21, h => exact h
  | 22, h => exact h
  | 23, h => exact h
  | 24, h => exact h
  | 25, h => exact h
  | 26, h => exact h
  | 27, h => exact h
  | 28, ⟨e0, e1, e2, e3, e4, e5, h1, g0⟩ => exact ⟨e0, e1, e2, e3, e4, e5, h1, g0.below hb⟩
  | 29, h => exact h
  | 30, h => exact h
  | 31, h => exact h
  | 32, h => exact h
  | 33, h => exact h
  | 34, h => exact h
  | 35, h => exact h
  | 36, h => exact h
  | 37, h => exact h
  | 38, h => exact h
  | 39, h => exact h
  | 40, h => exact h
  | 41, h => exact h
  | 42, h => exact h
  | 43, h => exact h
  | 44, h => exact h
  | 45, h => exact h
  | 46, h => exact h
  | 47, h => exact h
  | 48, h => exact h
  | 49, h => exact h
  | 50, h => exact h
  | 51, h => exact h
  | 52, h => exact h
  | 53, h => exact h
  | 54, h => exact h
  | 55, h => exact h
  | 56, ⟨e0, e1, h1⟩ => exact ⟨e0, e1, h1⟩
  | 57, h => exact h
  | 58, h => exact h
  | 59, h => exact h
  | 60, h => exact h
  | 61, h => exact h
  | 62, h => exact h
  | 63, h => exact h
  | 64, h => exact h
  | 65, h => exact h
  | 66, h => exact h
  | 67, h => exact h
  | 68, h => exact h
  | 69, h => exact h
  | 70, h => exact h
  | 71, h => exact h
  | 72, h => exact h
  | 73, h => exact h
  | 74, h => exact h
  | 75, h => exact h
  | 76, h => exact h
  | 77, h => exact h
  | 78, h => exact h
  | _ + 79, h => exact h
 case hS1 => exact (Below.refl _ _).drew
 case hop1 =>
  refine .cons (k := 0) (.plain rfl ?_) (.cons (k := 1) (.plain rfl ?_) (.cons (k := 2) (.plain rfl ?_) (.cons (k := 3) (.plain rfl ?_) (.cons (k := 4) (.yes (fun vals wr hS hd g b e => by cases e; exact hd 3 (by decide +kernel)) ?_) (.cons (k := 5) (.yes (fun vals wr hS hd g b e => by cases e; exact hd 3 (by decide +kernel)) ?_) (.cons (k := 6) (.yes (fun vals wr hS hd g b e => by cases e; exact hd 3 (by decide +kernel)) ?_) (.cons (k := 7) (.yes (fun vals wr hS hd g b e => by cases e; exact hd 3 (by decide +kernel)) ?_) (.cons (k := 8) (.yes (fun vals wr hS hd g b e => by cases e; exact hd 3 (by decide +kernel)) ?_) (.cons (k := 9) (.plain rfl ?_) (.cons (k := 10) (.plain rfl ?_) (.cons (k := 11) (.yes (fun vals wr hS hd g b e => by cases e; exact hd 10 (by decide +kernel)) ?_) (.cons (k := 12) (.yes (fun vals wr hS hd g b e => by cases e; exact hd 10 (by decide +kernel)) ?_) (.cons (k := 13) (.yes (fun vals wr hS hd g b e => by cases e; exact hd 10 (by decide +kernel)) ?_) (.cons (k := 14) (.plain rfl ?_) (.cons (k := 15) (.plain rfl ?_) (.cons (k := 16) (.yes (fun vals wr hS hd g b e => by cases e; exact hd 15 (by decide +kernel)) ?_) (.cons (k := 17) (.yes (fun vals wr hS hd g b e => by cases e; exact hd 15 (by decide +kernel)) ?_) (.cons (k := 18) (.yes (fun vals wr hS hd g b e => by cases e; exact hd 15 (by decide +kernel)) ?_) (.cons (k := 19) (.plain rfl ?_) (.cons (k := 20) (.plain rfl ?_) (.cons (k := 21) (.yes (fun vals wr hS hd g b e => by cases e; exact hd 20 (by decide +kernel)) ?_) (.cons (k := 22) (.yes (fun vals wr hS hd g b e => by cases e; exact hd 20 (by decide +kernel)) ?_) (.cons (k := 23) (.yes (fun vals wr hS hd g b e => by cases e; exact hd 20 (by decide +kernel)) ?_) (.cons (k := 24) (.plain rfl ?_) (.cons (k := 25) (.plain rfl ?_) (.cons (k := 26) (.yes (fun vals wr hS hd g b e => by cases e; exact hd 25 (by decide +kernel)) ?_) (.cons (k := 27) (.yes (fun vals wr hS hd g b e => by cases e; exact hd 25 (by decide +kernel)) ?_) (.cons (k := 28) (.yes (fun vals wr hS hd g b e => by cases e; exact hd 25 (by decide +kernel)) ?_) (.cons (k := 29) (.yes (fun vals wr hS hd g b e => by cases e; exact hd 25 (by decide +kernel)) ?_) (.cons (k := 30) (.plain rfl ?_) (.cons (k := 31) (.plain rfl ?_) (.cons (k := 32) (.yes (fun vals wr hS hd g b e => by cases e; exact hd 31 (by decide +kernel)) ?_) (.cons (k := 33) (.yes (fun vals wr hS hd g b e => by cases e; exact hd 31 (by decide +kernel)) ?_) (.cons (k := 34) (.yes (fun vals wr hS hd g b e => by cases e; exact hd 31 (by decide +kernel)) ?_) (.cons (k := 35) (.yes (fun vals wr hS hd g b e => by cases e; exact hd 31 (by decide +kernel)) ?_) (.cons (k := 36) (.plain rfl ?_) (.cons (k := 37) (.plain rfl ?_) (.cons (k := 38) (.yes (fun vals wr hS hd g b e => by cases e; exact hd 37 (by decide +kernel)) ?_) (.cons (k := 39) (.yes (fun vals wr hS hd g b e => by cases e; exact hd 37 (by decide +kernel)) ?_) (.cons (k := 40) (.plain rfl ?_) (.cons (k := 41) (.plain rfl ?_) (.cons (k := 42) (.yes (fun vals wr hS hd g b e => by cases e; exact hd 41 (by decide +kernel)) ?_) (.cons (k := 43) (.yes (fun vals wr hS hd g b e => by cases e; exact hd 41 (by decide +kernel)) ?_) (.cons (k := 44) (.plain rfl ?_) (.cons (k := 45) (.plain rfl ?_) (.cons (k := 46) (.yes (fun vals wr hS hd g b e => by cases e; exact hd 45 (by decide +kernel)) ?_) (.cons (k := 47) (.plain rfl ?_) (.cons (k := 48) (.plain rfl ?_) (.cons (k := 49) (.yes (fun vals wr hS hd g b e => by cases e; exact hd 48 (by decide +kernel)) ?_) (.cons (k := 50) (.yes (fun vals wr hS hd g b e => by cases e; exact hd 48 (by decide +kernel)) ?_) (.cons (k := 51) (.yes (fun vals wr hS hd g b e => by cases e; exact hd 48 (by decide +kernel)) ?_) (.cons (k := 52) (.yes (fun vals wr hS hd g b e => by cases e; exact hd 48 (by decide +kernel)) ?_) (.cons (k := 53) (.plain rfl ?_) (.cons (k := 54) (.plain rfl ?_) (.cons (k := 55) (.yes (fun vals wr hS hd g b e => by cases e; exact hd 54 (by decide +kernel)) ?_) (.cons (k := 56) (.yes (fun vals wr hS hd g b e => by cases e; exact hd 54 (by decide +kernel)) ?_) (.cons (k := 57) (.yes (fun vals wr hS hd g b e => by cases e; exact hd 54 (by decide +kernel)) ?_) (.cons (k := 58) (.yes (fun vals wr hS hd g b e => by cases e; exact hd 54 (by decide +kernel)) ?_) (.cons (k := 59) (.plain rfl ?_) (.cons (k := 60) (.plain rfl ?_) (.cons (k := 61) (.yes (fun vals wr hS hd g b e => by cases e; exact hd 60 (by decide +kernel)) ?_) (.cons (k := 62) (.yes (fun vals wr hS hd g b e => by cases e; exact hd 60 (by decide +kernel)) ?_) (.cons (k := 63) (.plain rfl ?_) (.cons (k := 64) (.plain rfl ?_) (.cons (k := 65) (.yes (fun vals wr hS hd g b e => by cases e; exact hd 64 (by decide +kernel)) ?_) (.cons (k := 66) (.yes (fun vals wr hS hd g b e => by cases e; exact hd 64 (by decide +kernel)) ?_) (.cons (k := 67) (.yes (fun vals wr hS hd g b e => by cases e; exact hd 64 (by decide +kernel)) ?_) (.cons (k := 68) (.plain rfl ?_) (.cons (k := 69) (.plain rfl ?_) (.cons (k := 70) (.yes (fun vals wr hS hd g b e => by cases e; exact hd 69 (by decide +kernel)) ?_) (.cons (k := 71) (.yes (fun vals wr hS hd g b e => by cases e; exact hd 69 (by decide +kernel)) ?_) (.cons (k := 72) (.yes (fun vals wr hS hd g b e => by cases e; exact hd 69 (by decide +kernel)) ?_) (.cons (k := 73) (.plain rfl ?_) (.cons (k := 74) (.plain rfl ?_) (.cons (k := 75) (.yes (fun vals wr hS hd g b e => by cases e; exact hd 74 (by decide +kernel)) ?_) (.cons (k := 76) (.yes (fun vals wr hS hd g b e => by cases e; exact hd 74 (by decide +kernel)) ?_) (.cons (k := 77) (.yes (fun vals wr hS hd g b e => by cases e; exact hd 74 (by decide +kernel)) ?_) (.cons (k := 78) (.yes (fun vals wr hS hd g b e => by cases e; exact hd 74 (by decide +kernel)) ?_) (.cons (k := 79) (.plain rfl ?_) (.nil))))))))))))))))))))))))))))))))))))))))))))))))))))))))))))))))))))))))))))))))
  all_goals intro vals wr hS hd KC hK
  all_goals (show Oper.wp _ _ _ _ _ _; dsimp only)
  · go_simp
    refine hK _ _ rfl (Below.refl _ _) (by first | rfl | simp) (fun h => by cases h)
  · have d0 : vals 0 = _ := hd 0 (by decide +kernel)
    rw [d0]
    have z0 := (h_re.below hS).cell (k := 0) (v := .int .i64 (0)) rfl
    go_simp
    refine hK _ _ rfl (Below.refl _ _) (by first | rfl | simp) (fun h => by cases h)
  · have d1 : vals 1 = _ := hd 1 (by decide +kernel)
    rw [d1]
    go_simp
    refine hK _ _ rfl (Below.refl _ _) (by first | rfl | simp) (fun h => by cases h)
  · have d2 : vals 2 = _ := hd 2 (by decide +kernel)
    rw [d2]
    go_simp
    refine hK _ _ rfl (Below.refl _ _) (by first | rfl | simp) (fun h => by cases h)
  · refine wp_loadV 37 _ rfl q_n 0 (by kernel_rfl) (uV (sg (oTop (some 1))) A_n n_n c_n C_n m_n d_n [1, 1, -2, 0, 0, 0, 0]) (Lib.hid (h_rn.below hS).inV) (Lib.hid (many10 (size_uV rfl))) ?_
    refine hK _ _ rfl (Below.refl _ _) (by first | rfl | simp) (fun h => by cases h)
  · go_simp
    go_at_call 29
    with_reducible refine (rWhole_is 1 (by decide) (by decide) 1 (by decide) _).mono ?_
    rintro e w2 ⟨r0, r1, r2, r3, r4, r5, rfl, f0, bn_r⟩
    refine hK _ _ rfl bn_r ⟨_, _, _, _, _, _, rfl, f0⟩ (fun h => by cases h)
  · go_simp
    refine hK _ _ rfl (Below.refl _ _) (by first | rfl | simp) (fun h => by cases h)
  · obtain ⟨A_5_0, n_5_1, n_5_2, A_5_3, n_5_4, n_5_5, d5, h_5_0⟩ := hd 5 (by decide +kernel)
    have d6 : vals 6 = _ := hd 6 (by decide +kernel)
    rw [d5, d6]
    refine wp_buildV _ _ rfl _ (by rfl) _ (Lib.hid (fun W => build_unit_o W)) ?_
    refine hK _ _ rfl (Below.refl _ _) ⟨_, _, _, _, _, _, rfl, h_5_0⟩ (fun h => by cases h)
  · have d4 : vals 4 = _ := hd 4 (by decide +kernel)
    obtain ⟨A_7_0, n_7_1, n_7_2, A_7_3, n_7_4, n_7_5, d7, h_7_0⟩ := hd 7 (by decide +kernel)
    rw [d4, d7]
    go_simp
    go_at_call 18
    with_reducible refine (keepUnit_eq (uv_qt (h_qn.below hS) rfl) (uv_qt h_7_0 rfl) rfl rfl).mono ?_
    rintro e w2 ⟨rfl, bn_r⟩
    refine hK _ _ rfl bn_r rfl (fun h => by cases h)
  · have d3 : vals 3 = _ := hd 3 (by decide +kernel)
    have d8 : vals 8 = _ := hd 8 (by decide +kernel)
    rw [d3, d8]
    go_simp
    refine hK _ _ rfl (Below.refl _ _) (by first | rfl | simp) (fun h => by cases h)
  · have d9 : vals 9 = _ := hd 9 (by decide +kernel)
    rw [d9]
    go_simp
    refine hK _ _ rfl (Below.refl _ _) (by first | rfl | simp) (fun h => by cases h)
  · refine wp_loadV 56 _ rfl q_f 0 (by kernel_rfl) (fltC (12) (3)) (Lib.hid (h_rf.below hS).inV) (Lib.hid (manyF (12) (3))) ?_
    refine hK _ _ rfl (Below.refl _ _) (by first | rfl | simp) (fun h => by cases h)
  · go_simp
    refine hK _ _ rfl (Below.refl _ _) (by first | rfl | simp) (fun h => by cases h)
  · have d11 : vals 11 = _ := hd 11 (by decide +kernel)
    have d12 : vals 12 = _ := hd 12 (by decide +kernel)
    rw [d11, d12]
    have heq := fun W => equal_flt (e := 12) (a := 3) (e' := 12) (a' := 3) (b := true) (by decide) W
    go_simp
    refine hK _ _ rfl (Below.refl _ _) (by first | rfl | simp) (fun h => by cases h)
  · have d10 : vals 10 = _ := hd 10 (by decide +kernel)
    have d13 : vals 13 = _ := hd 13 (by decide +kernel)
    rw [d10, d13]
    go_simp
    refine hK _ _ rfl (Below.refl _ _) (by first | rfl | simp) (fun h => by cases h)
  · have d14 : vals 14 = _ := hd 14 (by decide +kernel)
    rw [d14]
    go_simp
    refine hK _ _ rfl (Below.refl _ _) (by first | rfl | simp) (fun h => by cases h)
  · refine wp_loadV 56 _ rfl q_g 0 (by kernel_rfl) (fltC (15) (2)) (Lib.hid (h_rg.below hS).inV) (Lib.hid (manyF (15) (2))) ?_
    refine hK _ _ rfl (Below.refl _ _) (by first | rfl | simp) (fun h => by cases h)
  · go_simp
    refine hK _ _ rfl (Below.refl _ _) (by first | rfl | simp) (fun h => by cases h)
  · have d16 : vals 16 = _ := hd 16 (by decide +kernel)
    have d17 : vals 17 = _ := hd 17 (by decide +kernel)
    rw [d16, d17]
    have heq := fun W => equal_flt (e := 15) (a := 2) (e' := 15) (a' := 2) (b := true) (by decide) W
    go_simp
    refine hK _ _ rfl (Below.refl _ _) (by first | rfl | simp) (fun h => by cases h)
  · have d15 : vals 15 = _ := hd 15 (by decide +kernel)
    have d18 : vals 18 = _ := hd 18 (by decide +kernel)
    rw [d15, d18]
    go_simp
    refine hK _ _ rfl (Below.refl _ _) (by first | rfl | simp) (fun h => by cases h)
  · have d19 : vals 19 = _ := hd 19 (by decide +kernel)
    rw [d19]
    go_simp
    refine hK _ _ rfl (Below.refl _ _) (by first | rfl | simp) (fun h => by cases h)
  · go_simp
    refine hK _ _ rfl (Below.refl _ _) (by first | rfl | simp) (fun h => by cases h)
  · have d21 : vals 21 = _ := hd 21 (by decide +kernel)
    rw [d21]
    have z0 := (h_rh.below hS).cell (k := 0) (v := .int .i64 (0)) rfl
    go_simp
    refine hK _ _ rfl (Below.refl _ _) (by first | rfl | simp) (fun h => by cases h)
  · have d22 : vals 22 = _ := hd 22 (by decide +kernel)
    rw [d22]
    go_simp
    refine hK _ _ rfl (Below.refl _ _) (by first | rfl | simp) (fun h => by cases h)
  · have d20 : vals 20 = _ := hd 20 (by decide +kernel)
    have d23 : vals 23 = _ := hd 23 (by decide +kernel)
    rw [d20, d23]
    go_simp
    refine hK _ _ rfl (Below.refl _ _) (by first | rfl | simp) (fun h => by cases h)
  · have d24 : vals 24 = _ := hd 24 (by decide +kernel)
    rw [d24]
    go_simp
    refine hK _ _ rfl (Below.refl _ _) (by first | rfl | simp) (fun h => by cases h)
  · go_simp
    refine hK _ _ rfl (Below.refl _ _) (by first | rfl | simp) (fun h => by cases h)
  · have d26 : vals 26 = _ := hd 26 (by decide +kernel)
    rw [d26]
    refine wp_loadV 33 _ rfl q_l 0 (by kernel_rfl) #[.bool (sg (oTop (some (9/2500 : Rat)))), .slice A_l n_l c_l, .slice C_l m_l d_l] (Lib.hid (uV_rat (h_rl.below hS))) (Lib.hid (many3 _ _ _)) ?_
    refine hK _ _ rfl (Below.refl _ _) (by first | rfl | simp) (fun h => by cases h)
  · go_simp
    go_at_call 30
    with_reducible refine (by_c 3600 1000000 (by decide) (by decide) (by decide) (by decide) (9/2500 : Rat) wake_by2 _).mono ?_
    rintro e w2 ⟨r0, r1, r2, r3, r4, r5, rfl, f0, bn_r⟩
    refine hK _ _ rfl bn_r ⟨_, _, _, _, _, _, rfl, f0⟩ (fun h => by cases h)
  · have d27 : vals 27 = _ := hd 27 (by decide +kernel)
    obtain ⟨A_28_0, n_28_1, n_28_2, A_28_3, n_28_4, n_28_5, d28, h_28_0⟩ := hd 28 (by decide +kernel)
    rw [d27, d28]
    go_simp
    go_at_call 27
    with_reducible refine (keepRat_c (h_ql.below hS) h_28_0 (by decide) (by decide) true (keepQ rfl)).mono ?_
    rintro e w2 ⟨rfl, bn_r⟩
    refine hK _ _ rfl bn_r rfl (fun h => by cases h)
  · have d25 : vals 25 = _ := hd 25 (by decide +kernel)
    have d29 : vals 29 = _ := hd 29 (by decide +kernel)
    rw [d25, d29]
    go_simp
    refine hK _ _ rfl (Below.refl _ _) (by first | rfl | simp) (fun h => by cases h)
  · have d30 : vals 30 = _ := hd 30 (by decide +kernel)
    rw [d30]
    go_simp
    refine hK _ _ rfl (Below.refl _ _) (by first | rfl | simp) (fun h => by cases h)
  · go_simp
    refine hK _ _ rfl (Below.refl _ _) (by first | rfl | simp) (fun h => by cases h)
  · have d32 : vals 32 = _ := hd 32 (by decide +kernel)
    rw [d32]
    refine wp_loadV 35 _ rfl q_l 3 (by kernel_rfl) (dimV [3, 0, 2, 0, 0, 0, 0]) (Lib.hid (uV_dim (h_rl.below hS))) (Lib.hid (many7 rfl)) ?_
    refine hK _ _ rfl (Below.refl _ _) (by first | rfl | simp) (fun h => by cases h)
  · go_simp
    refine hK _ _ rfl (Below.refl _ _) (by first | rfl | simp) (fun h => by cases h)
  · have d33 : vals 33 = _ := hd 33 (by decide +kernel)
    have d34 : vals 34 = _ := hd 34 (by decide +kernel)
    rw [d33, d34]
    have heq := fun W => equal_dim (xs := [3, 0, 2, 0, 0, 0, 0]) (ys := [3, 0, 2, 0, 0, 0, 0]) rfl rfl (b := true) (by decide) W
    change ∀ W, (Op.equalIn 10000 35 (.agg (dimV [3, 0, 2, 0, 0, 0, 0])) (.agg #[.int .i64 3, .int .i64 0, .int .i64 2, .int .i64 0, .int .i64 0, .int .i64 0, .int .i64 0])).run Tryz.prog W = .ok true W at heq
    go_simp
    refine hK _ _ rfl (Below.refl _ _) (by first | rfl | simp) (fun h => by cases h)
  · have d31 : vals 31 = _ := hd 31 (by decide +kernel)
    have d35 : vals 35 = _ := hd 35 (by decide +kernel)
    rw [d31, d35]
    go_simp
    refine hK _ _ rfl (Below.refl _ _) (by first | rfl | simp) (fun h => by cases h)
  · have d36 : vals 36 = _ := hd 36 (by decide +kernel)
    rw [d36]
    go_simp
    refine hK _ _ rfl (Below.refl _ _) (by first | rfl | simp) (fun h => by cases h)
  · go_simp
    refine hK _ _ rfl (Below.refl _ _) (by first | rfl | simp) (fun h => by cases h)
  · have d38 : vals 38 = _ := hd 38 (by decide +kernel)
    rw [d38]
    go_simp
    refine hK _ _ rfl (Below.refl _ _) (by first | rfl | simp) (fun h => by cases h)
  · have d37 : vals 37 = _ := hd 37 (by decide +kernel)
    have d39 : vals 39 = _ := hd 39 (by decide +kernel)
    rw [d37, d39]
    go_simp
    refine hK _ _ rfl (Below.refl _ _) (by first | rfl | simp) (fun h => by cases h)
  · have d40 : vals 40 = _ := hd 40 (by decide +kernel)
    rw [d40]
    go_simp
    refine hK _ _ rfl (Below.refl _ _) (by first | rfl | simp) (fun h => by cases h)
  · go_simp
    refine hK _ _ rfl (Below.refl _ _) (by first | rfl | simp) (fun h => by cases h)
  · have d42 : vals 42 = _ := hd 42 (by decide +kernel)
    rw [d42]
    go_simp
    refine hK _ _ rfl (Below.refl _ _) (by first | rfl | simp) (fun h => by cases h)
  · have d41 : vals 41 = _ := hd 41 (by decide +kernel)
    have d43 : vals 43 = _ := hd 43 (by decide +kernel)
    rw [d41, d43]
    go_simp
    refine hK _ _ rfl (Below.refl _ _) (by first | rfl | simp) (fun h => by cases h)
  · have d44 : vals 44 = _ := hd 44 (by decide +kernel)
    rw [d44]
    go_simp
    refine hK _ _ rfl (Below.refl _ _) (by first | rfl | simp) (fun h => by cases h)
  · go_simp
    refine hK _ _ rfl (Below.refl _ _) (by first | rfl | simp) (fun h => by cases h)
  · have d45 : vals 45 = _ := hd 45 (by decide +kernel)
    have d46 : vals 46 = _ := hd 46 (by decide +kernel)
    rw [d45, d46]
    go_simp
    refine hK _ _ rfl (Below.refl _ _) (by first | rfl | simp) (fun h => by cases h)
  · have d47 : vals 47 = _ := hd 47 (by decide +kernel)
    rw [d47]
    go_simp
    refine hK _ _ rfl (Below.refl _ _) (by first | rfl | simp) (fun h => by cases h)
  · go_simp
    refine hK _ _ rfl (Below.refl _ _) (by first | rfl | simp) (fun h => by cases h)
  · have d49 : vals 49 = _ := hd 49 (by decide +kernel)
    rw [d49]
    refine wp_loadV 35 _ rfl q_u 3 (by kernel_rfl) (dimV [1, 0, 0, 0, 0, 0, 0]) (Lib.hid (uV_dim (h_ru.below hS))) (Lib.hid (many7 rfl)) ?_
    refine hK _ _ rfl (Below.refl _ _) (by first | rfl | simp) (fun h => by cases h)
  · go_simp
    refine hK _ _ rfl (Below.refl _ _) (by first | rfl | simp) (fun h => by cases h)
  · have d50 : vals 50 = _ := hd 50 (by decide +kernel)
    have d51 : vals 51 = _ := hd 51 (by decide +kernel)
    rw [d50, d51]
    have heq := fun W => equal_dim (xs := [1, 0, 0, 0, 0, 0, 0]) (ys := [1, 0, 0, 0, 0, 0, 0]) rfl rfl (b := true) (by decide) W
    change ∀ W, (Op.equalIn 10000 35 (.agg (dimV [1, 0, 0, 0, 0, 0, 0])) (.agg #[.int .i64 1, .int .i64 0, .int .i64 0, .int .i64 0, .int .i64 0, .int .i64 0, .int .i64 0])).run Tryz.prog W = .ok true W at heq
    go_simp
    refine hK _ _ rfl (Below.refl _ _) (by first | rfl | simp) (fun h => by cases h)
  · have d48 : vals 48 = _ := hd 48 (by decide +kernel)
    have d52 : vals 52 = _ := hd 52 (by decide +kernel)
    rw [d48, d52]
    go_simp
    refine hK _ _ rfl (Below.refl _ _) (by first | rfl | simp) (fun h => by cases h)
  · have d53 : vals 53 = _ := hd 53 (by decide +kernel)
    rw [d53]
    go_simp
    refine hK _ _ rfl (Below.refl _ _) (by first | rfl | simp) (fun h => by cases h)
  · go_simp
    refine hK _ _ rfl (Below.refl _ _) (by first | rfl | simp) (fun h => by cases h)
  · have d55 : vals 55 = _ := hd 55 (by decide +kernel)
    rw [d55]
    go_simp
    go_at_call 22
    with_reducible refine (uNames_d (HT0.out.below (below_two bw hS)) (hM.below hS) (Nat.le_trans bw.size hS.size) 93 wakeM_len (by decide)).mono ?_
    rintro e w2 ⟨r0, r1, rfl, bn_r⟩
    refine hK _ _ rfl bn_r ⟨_, _, rfl⟩ (fun h => by cases h)
  · obtain ⟨A_56_0, n_56_1, d56⟩ := hd 56 (by decide +kernel)
    rw [d56]
    go_simp
    refine hK _ _ rfl (Below.refl _ _) (by first | rfl | simp) (fun h => by cases h)
  · have d57 : vals 57 = _ := hd 57 (by decide +kernel)
    rw [d57]
    go_simp
    refine hK _ _ rfl (Below.refl _ _) (by first | rfl | simp) (fun h => by cases h)
  · have d54 : vals 54 = _ := hd 54 (by decide +kernel)
    have d58 : vals 58 = _ := hd 58 (by decide +kernel)
    rw [d54, d58]
    go_simp
    refine hK _ _ rfl (Below.refl _ _) (by first | rfl | simp) (fun h => by cases h)
  · have d59 : vals 59 = _ := hd 59 (by decide +kernel)
    rw [d59]
    go_simp
    refine hK _ _ rfl (Below.refl _ _) (by first | rfl | simp) (fun h => by cases h)
  · go_simp
    refine hK _ _ rfl (Below.refl _ _) (by first | rfl | simp) (fun h => by cases h)
  · have d61 : vals 61 = _ := hd 61 (by decide +kernel)
    rw [d61]
    go_simp
    go_at_call 17
    with_reducible refine (uHas_d (HT0.out.below (below_two bw hS)) (hM.below hS) (Nat.le_trans bw.size hS.size) ⟨#[117, 99, 100]⟩ (by decide) true wake_h1).mono ?_
    rintro e w2 ⟨rfl, bn_r⟩
    refine hK _ _ rfl bn_r rfl (fun h => by cases h)
  · have d60 : vals 60 = _ := hd 60 (by decide +kernel)
    have d62 : vals 62 = _ := hd 62 (by decide +kernel)
    rw [d60, d62]
    go_simp
    refine hK _ _ rfl (Below.refl _ _) (by first | rfl | simp) (fun h => by cases h)
  · have d63 : vals 63 = _ := hd 63 (by decide +kernel)
    rw [d63]
    go_simp
    refine hK _ _ rfl (Below.refl _ _) (by first | rfl | simp) (fun h => by cases h)
  · go_simp
    refine hK _ _ rfl (Below.refl _ _) (by first | rfl | simp) (fun h => by cases h)
  · have d65 : vals 65 = _ := hd 65 (by decide +kernel)
    rw [d65]
    go_simp
    go_at_call 17
    with_reducible refine (uHas_d (HT0.out.below (below_two bw hS)) (hM.below hS) (Nat.le_trans bw.size hS.size) ⟨#[107, 109, 105, 110]⟩ (by decide) false wake_h2).mono ?_
    rintro e w2 ⟨rfl, bn_r⟩
    refine hK _ _ rfl bn_r rfl (fun h => by cases h)
  · have d66 : vals 66 = _ := hd 66 (by decide +kernel)
    rw [d66]
    go_simp
    refine hK _ _ rfl (Below.refl _ _) (by first | rfl | simp) (fun h => by cases h)
  · have d64 : vals 64 = _ := hd 64 (by decide +kernel)
    have d67 : vals 67 = _ := hd 67 (by decide +kernel)
    rw [d64, d67]
    go_simp
    refine hK _ _ rfl (Below.refl _ _) (by first | rfl | simp) (fun h => by cases h)
  · have d68 : vals 68 = _ := hd 68 (by decide +kernel)
    rw [d68]
    go_simp
    refine hK _ _ rfl (Below.refl _ _) (by first | rfl | simp) (fun h => by cases h)
  · refine wp_loadV 56 _ rfl q_i 0 (by kernel_rfl) (fltC (1) (0)) (Lib.hid (h_ri.below hS).inV) (Lib.hid (manyF (1) (0))) ?_
    refine hK _ _ rfl (Below.refl _ _) (by first | rfl | simp) (fun h => by cases h)
  · go_simp
    refine hK _ _ rfl (Below.refl _ _) (by first | rfl | simp) (fun h => by cases h)
  · have d70 : vals 70 = _ := hd 70 (by decide +kernel)
    have d71 : vals 71 = _ := hd 71 (by decide +kernel)
    rw [d70, d71]
    have heq := fun W => equal_flt (e := 1) (a := 0) (e' := 1) (a' := 0) (b := true) (by decide) W
    go_simp
    refine hK _ _ rfl (Below.refl _ _) (by first | rfl | simp) (fun h => by cases h)
  · have d69 : vals 69 = _ := hd 69 (by decide +kernel)
    have d72 : vals 72 = _ := hd 72 (by decide +kernel)
    rw [d69, d72]
    go_simp
    refine hK _ _ rfl (Below.refl _ _) (by first | rfl | simp) (fun h => by cases h)
  · have d73 : vals 73 = _ := hd 73 (by decide +kernel)
    rw [d73]
    go_simp
    refine hK _ _ rfl (Below.refl _ _) (by first | rfl | simp) (fun h => by cases h)
  · go_simp
    refine hK _ _ rfl (Below.refl _ _) (by first | rfl | simp) (fun h => by cases h)
  · refine wp_loadV 37 _ rfl q_u 0 (by kernel_rfl) (uV (sg (oTop (some (381/1250 : Rat)))) A_u n_u c_u C_u m_u d_u [1, 0, 0, 0, 0, 0, 0]) (Lib.hid (h_ru.below hS).inV) (Lib.hid (many10 (size_uV rfl))) ?_
    refine hK _ _ rfl (Below.refl _ _) (by first | rfl | simp) (fun h => by cases h)
  · have d75 : vals 75 = _ := hd 75 (by decide +kernel)
    have d76 : vals 76 = _ := hd 76 (by decide +kernel)
    rw [d75, d76]
    go_simp
    go_at_call 13
    with_reducible refine (uDefine_nil ⟨#[109]⟩ ⟨size_uV rfl, uV_one⟩).mono ?_
    rintro e w2 ⟨rfl, bn_r⟩
    refine hK _ _ rfl bn_r rfl (fun h => by cases h)
  · have d77 : vals 77 = _ := hd 77 (by decide +kernel)
    rw [d77]
    go_simp
    refine hK _ _ rfl (Below.refl _ _) (by first | rfl | simp) (fun h => by cases h)
  · have d74 : vals 74 = _ := hd 74 (by decide +kernel)
    have d78 : vals 78 = _ := hd 78 (by decide +kernel)
    rw [d74, d78]
    go_simp
    refine hK _ _ rfl (Below.refl _ _) (by first | rfl | simp) (fun h => by cases h)
 case hfin1 =>
  intro vals wr hS hP hne
  have ez_79 : vals 79 = _ := hP 79 (by decide)
  have HB := Lib.hid (below_two bw hS)
  try dsimp only
  rw [ez_79]
  refine wpAny_ready (rs := [80]) (by kernel_rfl) (by simp) (AllReady.cons rfl (fun KC hK => ?_) AllReady.nil)
  go_simp
  refine hK _ _ ?_
  clear hK KC
  refine wpAny_done (by kernel_rfl) ?_ _
  go_wp2
  go_ret
  exact ⟨rfl, HB.out⟩
end Go.Proofs.YtohokfbohdoijaaGreatDoor
