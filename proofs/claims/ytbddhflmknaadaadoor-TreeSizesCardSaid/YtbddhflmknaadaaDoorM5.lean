/- Part 5 of the texts that the statements of this seat lean on: mathematics, and what functions answer, as contracts over memory; each part says its own conditions. -/
import Derived.Test.YtbddhflmknaadaaDoorM4
/- What the reference of layer 14 answers (Begin), as a contract over memory. Conditions: a row of at most 10^6 nodes that can be read, texts of at most 10^6 bytes. -/
namespace Go.Proofs.YtbddhflmknaadaaDoor
open Go.RowKit Limb
set_option linter.unusedVariables false
theorem no_step {kk a b j : Int} {t u : ByteArray} {p : Int} {os : List Nat} {m : Nat} (hm : m = os.length) (hlow : Low os)
 (h8 : (decide (kk = 1) && (decide (a = 0) && decide (b = 0) && decide (j = 0)) && litGood (bytesOf t) && unitOk u) = false)
 (h10 : (decide (kk = 2) && (decide (a = 0) && decide (b = 0) && decide (j = 0)) && isNam (bytesOf t) && decide (u.size = 0)) = false)
 (h12 : (((decide (kk = 7) && decide (j = 0)) || (decide (kk = 8) && decide (-64 ≤ j) && decide (j ≤ 64))) && decide (0 < m) && decide (a + 1 = (m : Int)) && decide (b = 0) && decide (t.size = 0) && decide (u.size = 0)) = false)
 (h14 : (twoK kk && decide (1 < m) && decide (b + 1 = (m : Int)) && decide (0 < os.getD (m - 1) 0) && decide (a + 1 = (os.getD (m - 1) 0 : Int)) && decide (j = 0) && decide (t.size = 0) && decide (u.size = 0)) = false) : stepB os ⟨kk, a, b, j, t, u, p⟩ = none := by
 cases hs : stepB os ⟨kk, a, b, j, t, u, p⟩ with
 | none => rfl
 | some s =>
  exfalso
  obtain ⟨hf, hc⟩ := stepB_cases hs
  unfold fitsN at hf
  dsimp only at hf
  cases hc with
  | leaf hk _ =>
   dsimp only at hk
   rcases hk with rfl | rfl
   · rw [if_pos rfl] at hf
     simp only [Bool.and_eq_true, decide_eq_true_eq] at hf
     simp [hf] at h8
   · rw [if_neg (by decide), if_pos rfl] at hf
     simp only [Bool.and_eq_true, decide_eq_true_eq] at hf
     simp [hf] at h10
  | one hk i ha hl _ =>
   dsimp only at hk ha
   have h78 := oneK_iff.1 hk
   rw [if_neg (by omega), if_neg (by omega), if_neg (by rw [one_not_two hk]; decide)] at hf
   rcases h78 with rfl | rfl
   · rw [if_pos rfl] at hf
     simp only [Bool.and_eq_true, decide_eq_true_eq] at hf
     simp [hf] at h12
     omega
   · rw [if_neg (by decide), if_pos rfl] at hf
     simp only [Bool.and_eq_true, decide_eq_true_eq] at hf
     simp [hf] at h12
     omega
  | two hk i r hb hl ha hi _ =>
   dsimp only at hk ha hb
   have h36 := twoK_iff.1 hk
   rw [if_neg (by omega), if_neg (by omega), if_pos hk] at hf
   simp only [Bool.and_eq_true, decide_eq_true_eq] at hf
   have hmi : m - 1 = i := by omega
   have hlo := hlow.le i
   rw [hmi, hi] at h14
   simp [hf, hk] at h14
   omega
theorem empty_yes {s : ByteArray} (h : s.size = 0) : s.toList.isEmpty = true := by
 have : s = ⟨#[]⟩ := by
  cases s with
  | mk a => have h2 : a = #[] := Array.eq_empty_of_size_eq_zero h
            rw [h2]
 rw [this]; decide +kernel
theorem empty_no {s : ByteArray} (h : ¬ s.size = 0) : s.toList.isEmpty = false := by
 rw [ByteArray.toList_eq, Bool.eq_false_iff]
 intro e
 have h2 : s.data.toList = [] := List.isEmpty_iff.1 e
 exact h (by show s.data.size = 0; rw [← Array.length_toList, h2]; rfl)
def NumO (w : World) (B : Nat) (A : Option Addr) (n c : Nat) (os : List Nat) : Prop := n = os.length ∧ n ≤ c ∧ OwnR w B 3 1 A n c (os.map fun (x : Nat) => Value.int .i64 (x : Int))
theorem num_elem : Elem Tryd.prog 41 3 1 := elem_of Tryd.underlying41 (v := .int .i64 0) (b := 8) (by kernel_rfl) rfl (by decide) (by decide)
theorem NumO.nil (w : World) (B : Nat) : NumO w B none 0 0 [] := ⟨rfl, Nat.le_refl _, OwnR.nil _ _ _ _⟩
theorem NumO.below {w w' : World} {B n c : Nat} {A : Option Addr} {os : List Nat} (h : NumO w B A n c os) (hb : Below w.heap.size w w') : NumO w' B A n c os := ⟨h.1, h.2.1, h.2.2.below hb⟩
theorem NumO.cell {w : World} {B n c : Nat} {A : Option Addr} {os : List Nat} (h : NumO w B A n c os) {j : Nat} (hj : j < os.length) : ∃ g, A = some ⟨g, 0, none⟩ ∧ w.cell? ⟨g, j, none⟩ = some (.int .i64 ((os.getD j 0 : Nat) : Int)) := by
 obtain ⟨g, e, _, _, _, _, h6⟩ := h.2.2.cells (by have := h.1; omega)
 refine ⟨g, e, h6 j _ ?_⟩
 rw [List.getElem?_map, List.getElem?_eq_getElem hj, List.getD_eq_getElem?_getD, List.getElem?_eq_getElem hj]
 rfl
theorem NumO.len {w : World} {B n c : Nat} {A : Option Addr} {os : List Nat} (h : NumO w B A n c os) : n = os.length := h.1
set_option maxHeartbeats 4000000 in
set_option maxRecDepth 100000 in
theorem rBegin_c {w : World} {A : Option Addr} {n c : Nat} {ts : List Nd} (h : TreR w A n c ts) (hm : Mild ts) :
 Calls Tryd.prog 28 #[.slice A n c] w fun e w' => ∃ B m d, e = .returned (.slice B m d) ∧ NumO w' w.heap.size B m d ((begT ts).getD []) ∧ Below w.heap.size w w' := by
 obtain ⟨hn, hc, hcm, _⟩ := id h
 have hn6 := hm.1
 rw [← hn] at hn6
 have H := Lib.hid h
 have HM := Lib.hid hm
 have HN := Lib.hid hn
 clear h hm hn
 go_enter Tryd.func28, Tryd.ntmps28
 go_wp2
 go_loopw [3, 4] (fun s i wr => ∃ (B : Option Addr) (m d : Nat) (os : List Nat), s = .slice B m d ∧ i = .int .i64 (m : Int) ∧ m ≤ n ∧ Hid (NumO wr w.heap.size B m d os) ∧ Hid (begT (ts.take m) = some os) ∧ Hid (Below w.heap.size w wr)) (fun _ i _ => n - (intOf i).toNat)
 case atStart => exact ⟨none, 0, 0, [], rfl, rfl, Nat.zero_le _, NumO.nil _ _, rfl, Below.refl _ _⟩
 case round =>
  obtain ⟨B, m, d, os, rfl, rfl, hk, HO, HBe, HB⟩ := hrel
  by_cases hlt : m < n
  · skip
    obtain ⟨x, hx⟩ : ∃ x, ts[m]? = some x := ⟨_, List.getElem?_eq_getElem (by rw [← HN.out]; exact hlt)⟩
    have HX := Lib.hid hx
    obtain ⟨g, og, rfl, hg, hin⟩ := (H.out.below HB.out).at hx
    obtain ⟨hxt, hxu⟩ := HM.out.at hx
    obtain ⟨kk, a, b, j, t, u, p⟩ := x
    dsimp only at hxt hxu
    have HI_x : Hid (InV wr g (og + m * 7) (ndC kk a b j t u p)) := hin
    have HM_x := Lib.hid (manyNd kk a b j t u p)
    have HU_x : Hid (Many Tryd.prog 37 (ndC kk a b j t u p).size ∧ zN.size = (ndC kk a b j t u p).size ∧ ∀ v ∈ ndC kk a b j t u p, v.oneCell' = true) := fitsNd ⟨kk, a, b, j, t, u, p⟩ zNd
    have bn := below_new wr (.cells (ndC kk a b j t u p) 37)
    have HOs := Lib.hid (HO.out.below bn)
    have HBs := Lib.hid (below_two HB.out bn)
    clear hx hin bn HO HB hg
    go_upto_region 6 with (first | (refine wpList_loadV (by rfl) _ _ (by rfl) _ _ (by rfl) _ (by assumption) (by assumption) ?_) | (refine wpList_storeNew (by rfl) _ _ _ (by rfl) _ _ _ (by rfl) (by rfl) (by assumption) ?_))
    have hrx := rowA_new wr 37 (ndC kk a b j t u p)
    generalize wr.alloc (.cells (ndC kk a b j t u p) 37) = wS at *
    obtain ⟨q5, hq5⟩ : ∃ g, g = wr.heap.size := ⟨_, rfl⟩
    rw [← hq5] at hrx ⊢
    clear hq5 HI_x HU_x
    have k0 := hrx.cell (k := 0) (v := .int .i64 kk) rfl
    have k1 := hrx.cell (k := 1) (v := .int .i64 a) rfl
    have kb2 := hrx.cell (k := 2) (v := .int .i64 b) rfl
    have k3 := hrx.cell (k := 3) (v := .int .i64 j) rfl
    have k4 := hrx.cell (k := 4) (v := .string t) rfl
    have k5 := hrx.cell (k := 5) (v := .string u) rfl
    have HRx := Lib.hid hrx
    clear hrx
    obtain ⟨lf, hlf⟩ : ∃ lf, (decide (a = 0) && decide (b = 0) && decide (j = 0)) = lf := ⟨_, rfl⟩
    dsimp only [Act.put]
    go_cut [6] from 17 to 29 (fun v wx => v = .bool lf ∧ wS = wx)
    case first =>
     by_cases ha : a = 0
     · have ea : (a == 0) = true := by rw [beq_iff_eq]; omega
       by_cases hb : b = 0
       · have eb : (b == 0) = true := by rw [beq_iff_eq]; omega
         by_cases hj : j = 0
         · have ej : (j == 0) = true := by rw [beq_iff_eq]; omega
           have hl : lf = true := by rw [← hlf]; simp [ha, hb, hj]
           subst hl
           clear hlf ha hb hj
           go_wp2_with fail
           go_meet
           exact ⟨rfl, rfl⟩
         · have ej : (j == 0) = false := by rw [beq_eq_false_iff_ne]; omega
           have hl : lf = false := by rw [← hlf]; simp [ha, hb, hj]
           subst hl
           clear hlf ha hb hj
           go_wp2_with fail
           go_meet
           exact ⟨rfl, rfl⟩
       · have eb : (b == 0) = false := by rw [beq_eq_false_iff_ne]; omega
         have hl : lf = false := by rw [← hlf]; simp [ha, hb]
         subst hl
         clear hlf ha hb
         go_wp2_with fail
         go_meet
         exact ⟨rfl, rfl⟩
     · have ea : (a == 0) = false := by rw [beq_eq_false_iff_ne]; omega
       have hl : lf = false := by rw [← hlf]; simp [ha]
       subst hl
       clear hlf ha
       go_wp2_with fail
       go_meet
       exact ⟨rfl, rfl⟩
    case rest =>
     obtain ⟨rfl, rfl⟩ := hcut
     have HLf := Lib.hid hlf
     clear hlf
     obtain ⟨lg, hlg⟩ : ∃ b, litGood (bytesOf t) = b := ⟨_, rfl⟩
     obtain ⟨un, hun⟩ : ∃ b, unitOk u = b := ⟨_, rfl⟩
     obtain ⟨nm, hnm⟩ : ∃ b, isNam (bytesOf t) = b := ⟨_, rfl⟩
     have HLg := Lib.hid hlg
     have HUn := Lib.hid hun
     have HNm := Lib.hid hnm
     clear hlg hun hnm
     obtain ⟨c8, h8⟩ : ∃ c, (decide (kk = 1) && lf && lg && un) = c := ⟨_, rfl⟩
     have H8 := Lib.hid h8
     go_upto_region 8 with fail
     go_cut [6, 30] from 31 to 46 (fun l v wx => l = .bool lf ∧ v = .bool c8 ∧ wS = wx)
     case first =>
      by_cases hkk1 : kk = 1
      · have ekk1 : (kk == 1) = true := by rw [beq_iff_eq]; omega
        cases lf
        · skip
          have hl : c8 = false := by rw [← h8]; simp [hkk1]
          subst hl
          clear h8 hkk1
          go_wp2_with (first | (go_at_call 34; (with_reducible refine (refLGood_c t (by omega) wS _ HLg.out).mono ?_); rintro e wx ⟨rfl, rfl⟩) | (go_at_call 35; (with_reducible refine (rUnits_c u (by omega) _ HUn.out wS).mono ?_); rintro e wx ⟨rfl, rfl⟩))
          go_meet
          exact ⟨rfl, rfl, rfl⟩
        · skip
          cases lg
          · skip
            have hl : c8 = false := by rw [← h8]; simp [hkk1]
            subst hl
            clear h8 hkk1
            go_wp2_with (first | (go_at_call 34; (with_reducible refine (refLGood_c t (by omega) wS _ HLg.out).mono ?_); rintro e wx ⟨rfl, rfl⟩) | (go_at_call 35; (with_reducible refine (rUnits_c u (by omega) _ HUn.out wS).mono ?_); rintro e wx ⟨rfl, rfl⟩))
            go_meet
            exact ⟨rfl, rfl, rfl⟩
          · skip
            cases un
            · skip
              have hl : c8 = false := by rw [← h8]; simp [hkk1]
              subst hl
              clear h8 hkk1
              go_wp2_with (first | (go_at_call 34; (with_reducible refine (refLGood_c t (by omega) wS _ HLg.out).mono ?_); rintro e wx ⟨rfl, rfl⟩) | (go_at_call 35; (with_reducible refine (rUnits_c u (by omega) _ HUn.out wS).mono ?_); rintro e wx ⟨rfl, rfl⟩))
              go_meet
              exact ⟨rfl, rfl, rfl⟩
            · skip
              have hl : c8 = true := by rw [← h8]; simp [hkk1]
              subst hl
              clear h8 hkk1
              go_wp2_with (first | (go_at_call 34; (with_reducible refine (refLGood_c t (by omega) wS _ HLg.out).mono ?_); rintro e wx ⟨rfl, rfl⟩) | (go_at_call 35; (with_reducible refine (rUnits_c u (by omega) _ HUn.out wS).mono ?_); rintro e wx ⟨rfl, rfl⟩))
              go_meet
              exact ⟨rfl, rfl, rfl⟩
      · have ekk1 : (kk == 1) = false := by rw [beq_eq_false_iff_ne]; omega
        have hl : c8 = false := by rw [← h8]; simp [hkk1]
        subst hl
        clear h8 hkk1
        go_wp2_with (first | (go_at_call 34; (with_reducible refine (refLGood_c t (by omega) wS _ HLg.out).mono ?_); rintro e wx ⟨rfl, rfl⟩) | (go_at_call 35; (with_reducible refine (rUnits_c u (by omega) _ HUn.out wS).mono ?_); rintro e wx ⟨rfl, rfl⟩))
        go_meet
        exact ⟨rfl, rfl, rfl⟩
     case rest =>
      obtain ⟨rfl, rfl, rfl⟩ := hcut
      cases c8 with
      | true =>
       as_aux_lemma =>
        clear h8
        have HSt : Hid (stepB os ⟨kk, a, b, j, t, u, p⟩ = some m) := by
         show _ = _
         have h := H8.out
         rw [← HLf.out, ← HLg.out, ← HUn.out] at h
         simp only [Bool.and_eq_true, decide_eq_true_eq] at h
         obtain ⟨⟨⟨h1, ⟨h2, h3⟩, h4⟩, h5⟩, h6⟩ := h
         have e : os.length = m := HOs.out.1.symm
         rw [← e]
         refine stepB_leaf ?_ (.inl h1)
         unfold fitsN
         rw [if_pos h1, decide_eq_true h2, decide_eq_true h3, decide_eq_true h4, h5, h6]
         rfl
        have bl := below_new wS (.cells #[.int .i64 (m : Int)] 3)
        have HO2 := Lib.hid (HOs.out.2.2.below bl)
        have HL2 : Hid (RowA (wS.alloc (.cells #[.int .i64 (m : Int)] 3)) wS.heap.size 3 #[.int .i64 (m : Int)] ∧ (#[.int .i64 (m : Int)] : Array Value).size = 1 ∧ ∀ v ∈ (#[.int .i64 (m : Int)] : Array Value), v.oneCell' = true) := ⟨rowA_new _ _ _, rfl, by simp [Value.oneCell']⟩
        have HE2 : Hid (m ≤ 1000000 ∧ w.heap.size ≤ (wS.alloc (.cells #[.int .i64 (m : Int)] 3)).heap.size) := ⟨by omega, by have := HBs.out.size; simp; omega⟩
        have HB2 := Lib.hid (below_two HBs.out bl)
        clear bl HBs
        go_wp2_with (at_builtin; refine wpList_append_one rfl _ _ 41 rfl w.heap.size 3 1 num_elem B m d _ rfl HO2 wS.heap.size rfl 3 #[.int .i64 (m : Int)] HL2 HE2 ?_)
        intro A2 c2 w5 hO5 hg5
        have HB5 := Lib.hid (below_append HB2.out (Nat.le_refl _) HE2.out.2 HO2.out hg5.out)
        have HO5 : Hid (NumO w5 w.heap.size A2 (m + 1) c2 (os ++ [m])) := by
         have h5 := hO5.out
         obtain ⟨g9, _, _, _, hc9, _⟩ := h5.cells (by omega)
         refine ⟨by rw [List.length_append, ← HOs.out.1]; rfl, hc9, ?_⟩
         rw [List.map_append]
         exact h5
        have HBe2 : Hid (begT (ts.take (m + 1)) = some (os ++ [m])) := by
         have h1 := HOs.out.1
         have h2 := HX.out
         have h3 := HBe.out
         have hz := begT_next (i := os.length) (by rw [← h1]; exact h2) (by rw [← h1]; exact h3) HSt.out
         rw [← h1] at hz
         exact hz
        clear hO5 hg5 HO2 HL2 HE2 HB2
        go_wp2
        go_roundw
        case rel => exact ⟨A2, m + 1, c2, os ++ [m], rfl, by first | rfl | (go_num), hlt, HO5, HBe2, HB5⟩
        case measure => simp [intOf]; omega
      | false =>
       as_aux_lemma =>
        clear h8
        obtain ⟨c10, h10⟩ : ∃ c, (decide (kk = 2) && lf && nm && decide (u.size = 0)) = c := ⟨_, rfl⟩
        have H10 := Lib.hid h10
        go_upto_region 10 with fail
        go_cut [6, 51] from 52 to 67 (fun l v wx => l = .bool lf ∧ v = .bool c10 ∧ wS = wx)
        case first =>
         by_cases hkk2 : kk = 2
         · have ekk2 : (kk == 2) = true := by rw [beq_iff_eq]; omega
           cases lf
           · skip
             have hl : c10 = false := by rw [← h10]; simp [hkk2]
             subst hl
             clear h10 hkk2
             go_wp2_with (go_at_call 36; (with_reducible refine (rxIsName_c t (by omega) wS _ HNm.out).mono ?_); rintro e wx ⟨rfl, rfl⟩)
             go_meet
             exact ⟨rfl, rfl, rfl⟩
           · skip
             cases nm
             · skip
               have hl : c10 = false := by rw [← h10]; simp [hkk2]
               subst hl
               clear h10 hkk2
               go_wp2_with (go_at_call 36; (with_reducible refine (rxIsName_c t (by omega) wS _ HNm.out).mono ?_); rintro e wx ⟨rfl, rfl⟩)
               go_meet
               exact ⟨rfl, rfl, rfl⟩
             · skip
               by_cases hu0 : u.size = 0
               · have eu0 : u.toList.isEmpty = true := empty_yes hu0
                 have hl : c10 = true := by rw [← h10]; simp [hkk2, hu0]
                 subst hl
                 clear h10 hkk2 hu0
                 go_wp2_with (go_at_call 36; (with_reducible refine (rxIsName_c t (by omega) wS _ HNm.out).mono ?_); rintro e wx ⟨rfl, rfl⟩)
                 go_meet
                 exact ⟨rfl, rfl, rfl⟩
               · have eu0 : u.toList.isEmpty = false := empty_no hu0
                 have hl : c10 = false := by rw [← h10]; simp [hkk2, hu0]
                 subst hl
                 clear h10 hkk2 hu0
                 go_wp2_with (go_at_call 36; (with_reducible refine (rxIsName_c t (by omega) wS _ HNm.out).mono ?_); rintro e wx ⟨rfl, rfl⟩)
                 go_meet
                 exact ⟨rfl, rfl, rfl⟩
         · have ekk2 : (kk == 2) = false := by rw [beq_eq_false_iff_ne]; omega
           have hl : c10 = false := by rw [← h10]; simp [hkk2]
           subst hl
           clear h10 hkk2
           go_wp2_with (go_at_call 36; (with_reducible refine (rxIsName_c t (by omega) wS _ HNm.out).mono ?_); rintro e wx ⟨rfl, rfl⟩)
           go_meet
           exact ⟨rfl, rfl, rfl⟩
        case rest =>
         obtain ⟨rfl, rfl, rfl⟩ := hcut
         cases c10 with
         | true =>
          as_aux_lemma =>
           clear h10
           have HSt : Hid (stepB os ⟨kk, a, b, j, t, u, p⟩ = some m) := by
            show _ = _
            have h := H10.out
            rw [← HLf.out, ← HNm.out] at h
            simp only [Bool.and_eq_true, decide_eq_true_eq] at h
            obtain ⟨⟨⟨h1, ⟨h2, h3⟩, h4⟩, h5⟩, h6⟩ := h
            have e : os.length = m := HOs.out.1.symm
            rw [← e]
            refine stepB_leaf ?_ (.inr h1)
            unfold fitsN
            rw [if_neg (by show ¬ kk = 1; omega), if_pos h1, decide_eq_true h2, decide_eq_true h3, decide_eq_true h4, decide_eq_true h6, h5]
            rfl
           have bl := below_new wS (.cells #[.int .i64 (m : Int)] 3)
           have HO2 := Lib.hid (HOs.out.2.2.below bl)
           have HL2 : Hid (RowA (wS.alloc (.cells #[.int .i64 (m : Int)] 3)) wS.heap.size 3 #[.int .i64 (m : Int)] ∧ (#[.int .i64 (m : Int)] : Array Value).size = 1 ∧ ∀ v ∈ (#[.int .i64 (m : Int)] : Array Value), v.oneCell' = true) := ⟨rowA_new _ _ _, rfl, by simp [Value.oneCell']⟩
           have HE2 : Hid (m ≤ 1000000 ∧ w.heap.size ≤ (wS.alloc (.cells #[.int .i64 (m : Int)] 3)).heap.size) := ⟨by omega, by have := HBs.out.size; simp; omega⟩
           have HB2 := Lib.hid (below_two HBs.out bl)
           clear bl HBs
           go_wp2_with (at_builtin; refine wpList_append_one rfl _ _ 41 rfl w.heap.size 3 1 num_elem B m d _ rfl HO2 wS.heap.size rfl 3 #[.int .i64 (m : Int)] HL2 HE2 ?_)
           intro A2 c2 w5 hO5 hg5
           have HB5 := Lib.hid (below_append HB2.out (Nat.le_refl _) HE2.out.2 HO2.out hg5.out)
           have HO5 : Hid (NumO w5 w.heap.size A2 (m + 1) c2 (os ++ [m])) := by
            have h5 := hO5.out
            obtain ⟨g9, _, _, _, hc9, _⟩ := h5.cells (by omega)
            refine ⟨by rw [List.length_append, ← HOs.out.1]; rfl, hc9, ?_⟩
            rw [List.map_append]
            exact h5
           have HBe2 : Hid (begT (ts.take (m + 1)) = some (os ++ [m])) := by
            have h1 := HOs.out.1
            have h2 := HX.out
            have h3 := HBe.out
            have hz := begT_next (i := os.length) (by rw [← h1]; exact h2) (by rw [← h1]; exact h3) HSt.out
            rw [← h1] at hz
            exact hz
           clear hO5 hg5 HO2 HL2 HE2 HB2
           go_wp2
           go_roundw
           case rel => exact ⟨A2, m + 1, c2, os ++ [m], rfl, by first | rfl | (go_num), hlt, HO5, HBe2, HB5⟩
           case measure => simp [intOf]; omega
         | false =>
          as_aux_lemma =>
           clear h10
           obtain ⟨c12, h12⟩ : ∃ c, (((decide (kk = 7) && decide (j = 0)) || (decide (kk = 8) && decide (-64 ≤ j) && decide (j ≤ 64))) && decide (0 < m) && decide (a + 1 = (m : Int)) && decide (b = 0) && decide (t.size = 0) && decide (u.size = 0)) = c := ⟨_, rfl⟩
           have H12 := Lib.hid h12
           go_upto_region 12 with fail
           go_cut [72] from 73 to 121 (fun v wx => v = .bool c12 ∧ wS = wx)
           case first =>
            by_cases hk7 : kk = 7
            · have hk8 : ¬ kk = 8 := by omega
              have ek7 : (kk == 7) = true := by rw [beq_iff_eq]; omega
              have ek8 : (kk == 8) = false := by rw [beq_eq_false_iff_ne]; omega
              by_cases hj0 : j = 0
              · have ej0 : (j == 0) = true := by rw [beq_iff_eq]; omega
                by_cases hm0 : 0 < m
                · have em0 : decide ((0 : Int) < (m : Int)) = true := decide_eq_true (by omega)
                  by_cases ham : a + 1 = (m : Int)
                  · have eam : (a == ((m : Int) - 1)) = true := by rw [beq_iff_eq]; omega
                    by_cases hb0 : b = 0
                    · have eb0 : (b == 0) = true := by rw [beq_iff_eq]; omega
                      by_cases ht0 : t.size = 0
                      · have et0 : t.toList.isEmpty = true := empty_yes ht0
                        by_cases hu0 : u.size = 0
                        · have eu0 : u.toList.isEmpty = true := empty_yes hu0
                          have hl : c12 = true := by rw [← h12]; simp [hk7, hj0, hm0, ham, hb0, ht0, hu0]
                          subst hl
                          clear h12 hk7 hk8 hj0 ham hb0 ht0 hu0
                          go_wp2_with fail
                          go_meet
                          exact ⟨rfl, rfl⟩
                        · have eu0 : u.toList.isEmpty = false := empty_no hu0
                          have hl : c12 = false := by rw [← h12]; simp [hk7, hj0, hm0, ham, hb0, ht0, hu0]
                          subst hl
                          clear h12 hk7 hk8 hj0 ham hb0 ht0 hu0
                          go_wp2_with fail
                          go_meet
                          exact ⟨rfl, rfl⟩
                      · have et0 : t.toList.isEmpty = false := empty_no ht0
                        have hl : c12 = false := by rw [← h12]; simp [hk7, hj0, hm0, ham, hb0, ht0]
                        subst hl
                        clear h12 hk7 hk8 hj0 ham hb0 ht0
                        go_wp2_with fail
                        go_meet
                        exact ⟨rfl, rfl⟩
                    · have eb0 : (b == 0) = false := by rw [beq_eq_false_iff_ne]; omega
                      have hl : c12 = false := by rw [← h12]; simp [hk7, hj0, hm0, ham, hb0]
                      subst hl
                      clear h12 hk7 hk8 hj0 ham hb0
                      go_wp2_with fail
                      go_meet
                      exact ⟨rfl, rfl⟩
                  · have eam : (a == ((m : Int) - 1)) = false := by rw [beq_eq_false_iff_ne]; omega
                    have hl : c12 = false := by rw [← h12]; simp [hk7, hj0, hm0, ham]
                    subst hl
                    clear h12 hk7 hk8 hj0 ham
                    go_wp2_with fail
                    go_meet
                    exact ⟨rfl, rfl⟩
                · have em0 : decide ((0 : Int) < (m : Int)) = false := decide_eq_false (by omega)
                  have hl : c12 = false := by rw [← h12]; simp [hk7, hj0, hm0]
                  subst hl
                  clear h12 hk7 hk8 hj0
                  go_wp2_with fail
                  go_meet
                  exact ⟨rfl, rfl⟩
              · have ej0 : (j == 0) = false := by rw [beq_eq_false_iff_ne]; omega
                have hl : c12 = false := by rw [← h12]; simp [hk7, hj0]
                subst hl
                clear h12 hk7 hk8 hj0
                go_wp2_with fail
                go_meet
                exact ⟨rfl, rfl⟩
            · have ek7 : (kk == 7) = false := by rw [beq_eq_false_iff_ne]; omega
              by_cases hk8 : kk = 8
              · have ek8 : (kk == 8) = true := by rw [beq_iff_eq]; omega
                by_cases hj1 : -64 ≤ j
                · have ej1 : decide (-64 ≤ j) = true := decide_eq_true hj1
                  by_cases hj2 : j ≤ 64
                  · have ej2 : decide (j ≤ 64) = true := decide_eq_true hj2
                    by_cases hm0 : 0 < m
                    · have em0 : decide ((0 : Int) < (m : Int)) = true := decide_eq_true (by omega)
                      by_cases ham : a + 1 = (m : Int)
                      · have eam : (a == ((m : Int) - 1)) = true := by rw [beq_iff_eq]; omega
                        by_cases hb0 : b = 0
                        · have eb0 : (b == 0) = true := by rw [beq_iff_eq]; omega
                          by_cases ht0 : t.size = 0
                          · have et0 : t.toList.isEmpty = true := empty_yes ht0
                            by_cases hu0 : u.size = 0
                            · have eu0 : u.toList.isEmpty = true := empty_yes hu0
                              have hl : c12 = true := by rw [← h12]; simp [hk8, hj1, hj2, hm0, ham, hb0, ht0, hu0]
                              subst hl
                              clear h12 hk7 hk8 hj1 hj2 ham hb0 ht0 hu0
                              go_wp2_with fail
                              go_meet
                              exact ⟨rfl, rfl⟩
                            · have eu0 : u.toList.isEmpty = false := empty_no hu0
                              have hl : c12 = false := by rw [← h12]; simp [hk8, hj1, hj2, hm0, ham, hb0, ht0, hu0]
                              subst hl
                              clear h12 hk7 hk8 hj1 hj2 ham hb0 ht0 hu0
                              go_wp2_with fail
                              go_meet
                              exact ⟨rfl, rfl⟩
                          · have et0 : t.toList.isEmpty = false := empty_no ht0
                            have hl : c12 = false := by rw [← h12]; simp [hk8, hj1, hj2, hm0, ham, hb0, ht0]
                            subst hl
                            clear h12 hk7 hk8 hj1 hj2 ham hb0 ht0
                            go_wp2_with fail
                            go_meet
                            exact ⟨rfl, rfl⟩
                        · have eb0 : (b == 0) = false := by rw [beq_eq_false_iff_ne]; omega
                          have hl : c12 = false := by rw [← h12]; simp [hk8, hj1, hj2, hm0, ham, hb0]
                          subst hl
                          clear h12 hk7 hk8 hj1 hj2 ham hb0
                          go_wp2_with fail
                          go_meet
                          exact ⟨rfl, rfl⟩
                      · have eam : (a == ((m : Int) - 1)) = false := by rw [beq_eq_false_iff_ne]; omega
                        have hl : c12 = false := by rw [← h12]; simp [hk8, hj1, hj2, hm0, ham]
                        subst hl
                        clear h12 hk7 hk8 hj1 hj2 ham
                        go_wp2_with fail
                        go_meet
                        exact ⟨rfl, rfl⟩
                    · have em0 : decide ((0 : Int) < (m : Int)) = false := decide_eq_false (by omega)
                      have hl : c12 = false := by rw [← h12]; simp [hk8, hj1, hj2, hm0]
                      subst hl
                      clear h12 hk7 hk8 hj1 hj2
                      go_wp2_with fail
                      go_meet
                      exact ⟨rfl, rfl⟩
                  · have ej2 : decide (j ≤ 64) = false := decide_eq_false hj2
                    have hl : c12 = false := by rw [← h12]; simp [hk8, hj1, hj2]
                    subst hl
                    clear h12 hk7 hk8 hj1 hj2
                    go_wp2_with fail
                    go_meet
                    exact ⟨rfl, rfl⟩
                · have ej1 : decide (-64 ≤ j) = false := decide_eq_false hj1
                  have hl : c12 = false := by rw [← h12]; simp [hk8, hj1]
                  subst hl
                  clear h12 hk7 hk8 hj1
                  go_wp2_with fail
                  go_meet
                  exact ⟨rfl, rfl⟩
              · have ek8 : (kk == 8) = false := by rw [beq_eq_false_iff_ne]; omega
                have hl : c12 = false := by rw [← h12]; simp [hk7, hk8]
                subst hl
                clear h12 hk7 hk8
                go_wp2_with fail
                go_meet
                exact ⟨rfl, rfl⟩
           case rest =>
            obtain ⟨rfl, rfl⟩ := hcut
            cases c12 with
            | true =>
             as_aux_lemma =>
              clear h12
              have hm0 : 0 < m := by
               have h := H12.out
               simp only [Bool.and_eq_true, decide_eq_true_eq] at h
               exact h.1.1.1.1.2
              obtain ⟨gB, rfl, hcl⟩ := HOs.out.cell (j := m - 1) (by rw [← HOs.out.1]; omega)
              obtain ⟨y, hy⟩ : ∃ y, os.getD (m - 1) 0 = y := ⟨_, rfl⟩
              have Hy := Lib.hid hy
              rw [hy] at hcl
              clear hy
              obtain ⟨m1, hm1⟩ : ∃ k, m - 1 = k := ⟨_, rfl⟩
              rw [hm1] at hcl
              have hmi : (m : Int) - 1 = (m1 : Int) := by omega
              have hml : (m1 : Int) < (m : Int) := by omega
              have HSt : Hid (stepB os ⟨kk, a, b, j, t, u, p⟩ = some y) := by
               show _ = _
               have h := H12.out
               simp only [Bool.and_eq_true, Bool.or_eq_true, decide_eq_true_eq] at h
               obtain ⟨⟨⟨⟨⟨h1, h2⟩, h3⟩, h4⟩, h5⟩, h6⟩ := h
               have e : os.length = m := HOs.out.1.symm
               have e2 : os.getD (m - 1) 0 = y := Hy.out
               rw [← e2]
               refine stepB_one (j := m - 1) ?_ (oneK_iff.2 (by show kk = 7 ∨ kk = 8; omega)) (by show a = _; omega) (by omega)
               unfold fitsN
               rcases h1 with ⟨h1, h7⟩ | ⟨⟨h1, h7⟩, h8⟩
               · rw [if_neg (by show ¬ kk = 1; omega), if_neg (by show ¬ kk = 2; omega), if_neg (by show ¬ twoK kk = true; rw [h1]; decide), if_pos h1, decide_eq_true h4, decide_eq_true h7, decide_eq_true h5, decide_eq_true h6]; rfl
               · rw [if_neg (by show ¬ kk = 1; omega), if_neg (by show ¬ kk = 2; omega), if_neg (by show ¬ twoK kk = true; rw [h1]; decide), if_neg (by show ¬ kk = 7; omega), if_pos h1, decide_eq_true h4, decide_eq_true h7, decide_eq_true h8, decide_eq_true h5, decide_eq_true h6]; rfl
              have bl := below_new wS (.cells #[.int .i64 (y : Int)] 3)
              have HO2 := Lib.hid (HOs.out.2.2.below bl)
              have HL2 : Hid (RowA (wS.alloc (.cells #[.int .i64 (y : Int)] 3)) wS.heap.size 3 #[.int .i64 (y : Int)] ∧ (#[.int .i64 (y : Int)] : Array Value).size = 1 ∧ ∀ v ∈ (#[.int .i64 (y : Int)] : Array Value), v.oneCell' = true) := ⟨rowA_new _ _ _, rfl, by simp [Value.oneCell']⟩
              have HE2 : Hid (m ≤ 1000000 ∧ w.heap.size ≤ (wS.alloc (.cells #[.int .i64 (y : Int)] 3)).heap.size) := ⟨by omega, by have := HBs.out.size; simp; omega⟩
              have HB2 := Lib.hid (below_two HBs.out bl)
              clear bl HBs
              go_wp2_with (at_builtin; refine wpList_append_one rfl _ _ 41 rfl w.heap.size 3 1 num_elem _ m d _ rfl HO2 wS.heap.size rfl 3 #[.int .i64 (y : Int)] HL2 HE2 ?_)
              intro A2 c2 w5 hO5 hg5
              have HB5 := Lib.hid (below_append HB2.out (Nat.le_refl _) HE2.out.2 HO2.out hg5.out)
              have HO5 : Hid (NumO w5 w.heap.size A2 (m + 1) c2 (os ++ [y])) := by
               have h5 := hO5.out
               obtain ⟨g9, _, _, _, hc9, _⟩ := h5.cells (by omega)
               refine ⟨by rw [List.length_append, ← HOs.out.1]; rfl, hc9, ?_⟩
               rw [List.map_append]
               exact h5
              have HBe2 : Hid (begT (ts.take (m + 1)) = some (os ++ [y])) := by
               have h1 := HOs.out.1
               have h2 := HX.out
               have h3 := HBe.out
               have hz := begT_next (i := os.length) (by rw [← h1]; exact h2) (by rw [← h1]; exact h3) HSt.out
               rw [← h1] at hz
               exact hz
              clear hO5 hg5 HO2 HL2 HE2 HB2
              go_wp2
              go_roundw
              case rel => exact ⟨A2, m + 1, c2, os ++ [y], rfl, by first | rfl | (go_num), hlt, HO5, HBe2, HB5⟩
              case measure => simp [intOf]; omega
            | false =>
             as_aux_lemma =>
              clear h12
              obtain ⟨k2, hk2⟩ : ∃ b, twoK kk = b := ⟨_, rfl⟩
              have HK2 := Lib.hid hk2
              have HTw : Hid (∀ W, Calls Tryd.prog 25 #[.int .i64 kk] W fun e w' => e = .returned (.bool k2) ∧ w' = W) := fun W => (rTwo_c kk k2 HK2.out W).mono fun e w' h => ⟨h.1, h.2.symm⟩
              clear hk2
              by_cases hm1 : 1 < m
              · skip
                as_aux_lemma =>
                 go_upto_region 14 with fail
                 obtain ⟨gB, rfl, hcl⟩ := HOs.out.cell (j := m - 1) (by rw [← HOs.out.1]; omega)
                 obtain ⟨y, hy⟩ : ∃ y, os.getD (m - 1) 0 = y := ⟨_, rfl⟩
                 have Hy := Lib.hid hy
                 rw [hy] at hcl
                 clear hy
                 have hyl : y ≤ m - 1 := by rw [← Hy.out]; have h3 := HBe.out; exact (begT_low h3).le _
                 obtain ⟨m1, hm1e⟩ : ∃ k, m - 1 = k := ⟨_, rfl⟩
                 rw [hm1e] at hcl
                 have hmi : IntKind.i64.wrap ((m : Int) - 1) = (m1 : Int) := by rw [IntKind.wrap_i64]; omega
                 have hmi2 : (m : Int) - 1 = (m1 : Int) := by omega
                 have hyi : IntKind.i64.wrap ((y : Int) - 1) = (y : Int) - 1 := by rw [IntKind.wrap_i64]; omega
                 have hml : (m1 : Int) < (m : Int) := by omega
                 have hml2 : m1 < m := by omega
                 have em1 : decide ((1 : Int) < (m : Int)) = true := decide_eq_true (by omega)
                 have em2 : decide (1 < m) = true := decide_eq_true hm1
                 obtain ⟨c14, h14⟩ : ∃ c, (k2 && decide (1 < m) && decide (b + 1 = (m : Int)) && decide (0 < y) && decide (a + 1 = (y : Int)) && decide (j = 0) && decide (t.size = 0) && decide (u.size = 0)) = c := ⟨_, rfl⟩
                 have H14 := Lib.hid h14
                 go_cut [130] from 131 to 178 (fun v wx => v = .bool c14 ∧ ∃ q, wx = wS.drewN q)
                 case first =>
                  cases k2
                  · skip
                    have hl : c14 = false := by rw [← h14]; simp [hm1]
                    subst hl
                    clear h14
                    go_quiet ((go_at_call 25; exact Calls.quiet_of_same (HTw.out _)))
                    go_wp2_with fail
                    go_meet
                    exact ⟨rfl, _, rfl⟩
                  · skip
                    by_cases hb1 : b + 1 = (m : Int)
                    · have eb1 : (b == (m1 : Int)) = true := by rw [beq_iff_eq]; omega
                      by_cases hy0 : 0 < y
                      · have ey0 : decide (0 < y) = true := decide_eq_true hy0
                        by_cases hay : a + 1 = (y : Int)
                        · have eay : (a == ((y : Int) - 1)) = true := by rw [beq_iff_eq]; omega
                          by_cases hj0 : j = 0
                          · have ej0 : (j == 0) = true := by rw [beq_iff_eq]; omega
                            by_cases ht0 : t.size = 0
                            · have et0 : t.toList.isEmpty = true := empty_yes ht0
                              by_cases hu0 : u.size = 0
                              · have eu0 : u.toList.isEmpty = true := empty_yes hu0
                                have ey1 : decide ((0 : Int) < (y : Int)) = true := by rw [decide_eq_true_eq]; omega
                                have hl : c14 = true := by rw [← h14]; simp [hm1, hb1, hy0, hay, hj0, ht0, hu0]
                                subst hl
                                clear h14 hb1 hay hj0 ht0 hu0
                                go_quiet ((go_at_call 25; exact Calls.quiet_of_same (HTw.out _)))
                                go_wp2_with fail
                                go_meet
                                exact ⟨rfl, _, rfl⟩
                              · have eu0 : u.toList.isEmpty = false := empty_no hu0
                                have ey1 : decide ((0 : Int) < (y : Int)) = true := by rw [decide_eq_true_eq]; omega
                                have hl : c14 = false := by rw [← h14]; simp [hm1, hb1, hy0, hay, hj0, ht0, hu0]
                                subst hl
                                clear h14 hb1 hay hj0 ht0 hu0
                                go_quiet ((go_at_call 25; exact Calls.quiet_of_same (HTw.out _)))
                                go_wp2_with fail
                                go_meet
                                exact ⟨rfl, _, rfl⟩
                            · have et0 : t.toList.isEmpty = false := empty_no ht0
                              have ey1 : decide ((0 : Int) < (y : Int)) = true := by rw [decide_eq_true_eq]; omega
                              have hl : c14 = false := by rw [← h14]; simp [hm1, hb1, hy0, hay, hj0, ht0]
                              subst hl
                              clear h14 hb1 hay hj0 ht0
                              go_quiet ((go_at_call 25; exact Calls.quiet_of_same (HTw.out _)))
                              go_wp2_with fail
                              go_meet
                              exact ⟨rfl, _, rfl⟩
                          · have ej0 : (j == 0) = false := by rw [beq_eq_false_iff_ne]; omega
                            have ey1 : decide ((0 : Int) < (y : Int)) = true := by rw [decide_eq_true_eq]; omega
                            have hl : c14 = false := by rw [← h14]; simp [hm1, hb1, hy0, hay, hj0]
                            subst hl
                            clear h14 hb1 hay hj0
                            go_quiet ((go_at_call 25; exact Calls.quiet_of_same (HTw.out _)))
                            go_wp2_with fail
                            go_meet
                            exact ⟨rfl, _, rfl⟩
                        · have eay : (a == ((y : Int) - 1)) = false := by rw [beq_eq_false_iff_ne]; omega
                          have ey1 : decide ((0 : Int) < (y : Int)) = true := by rw [decide_eq_true_eq]; omega
                          have hl : c14 = false := by rw [← h14]; simp [hm1, hb1, hy0, hay]
                          subst hl
                          clear h14 hb1 hay
                          go_quiet ((go_at_call 25; exact Calls.quiet_of_same (HTw.out _)))
                          go_wp2_with fail
                          go_meet
                          exact ⟨rfl, _, rfl⟩
                      · have ey0 : decide (0 < y) = false := decide_eq_false hy0
                        have ey1 : decide ((0 : Int) < (y : Int)) = false := by rw [decide_eq_false_iff_not]; omega
                        have hl : c14 = false := by rw [← h14]; simp [hm1, hb1, hy0]
                        subst hl
                        clear h14 hb1
                        go_quiet ((go_at_call 25; exact Calls.quiet_of_same (HTw.out _)))
                        go_wp2_with fail
                        go_meet
                        exact ⟨rfl, _, rfl⟩
                    · have eb1 : (b == (m1 : Int)) = false := by rw [beq_eq_false_iff_ne]; omega
                      have hl : c14 = false := by rw [← h14]; simp [hm1, hb1]
                      subst hl
                      clear h14 hb1
                      go_quiet ((go_at_call 25; exact Calls.quiet_of_same (HTw.out _)))
                      go_wp2_with fail
                      go_meet
                      exact ⟨rfl, _, rfl⟩
                 case rest =>
                  obtain ⟨rfl, q, rfl⟩ := hcut
                  cases c14 with
                  | true =>
                   as_aux_lemma =>
                    clear h14 k0 k1 kb2 k3 k4 k5 hcl
                    have bq : Below wS.heap.size wS (wS.drewN q) := below_drewN (Below.refl _ _) q
                    replace HOs := Lib.hid (HOs.out.below bq)
                    replace HBs := Lib.hid (below_two HBs.out bq)
                    have hrx2 := RowA.below HRx.out bq
                    have k1 := hrx2.cell (k := 1) (v := .int .i64 a) rfl
                    clear bq hrx2 HRx
                    generalize wS.drewN q = wS at *
                    have hy14 : 0 < y ∧ a + 1 = (y : Int) := by
                     have h := H14.out
                     simp only [Bool.and_eq_true, decide_eq_true_eq] at h
                     exact ⟨h.1.1.1.1.2, h.1.1.1.2⟩
                    obtain ⟨gB2, e2, hcl2⟩ := HOs.out.cell (j := y - 1) (by rw [← HOs.out.1]; omega)
                    cases e2
                    obtain ⟨z, hz⟩ : ∃ z, os.getD (y - 1) 0 = z := ⟨_, rfl⟩
                    have Hz := Lib.hid hz
                    rw [hz] at hcl2
                    clear hz
                    obtain ⟨y1, hy1⟩ : ∃ k, y - 1 = k := ⟨_, rfl⟩
                    rw [hy1] at hcl2
                    have hay : a = (y1 : Int) := by omega
                    have hyl3 : (y1 : Int) < (m : Int) := by omega
                    have HOs0 := HOs
                    have HSt : Hid (stepB os ⟨kk, a, b, j, t, u, p⟩ = some z) := by
                     show _ = _
                     have h := H14.out
                     simp only [Bool.and_eq_true, decide_eq_true_eq] at h
                     obtain ⟨⟨⟨⟨⟨⟨⟨h1, h2⟩, h3⟩, h4⟩, h5⟩, h6⟩, h7⟩, h8⟩ := h
                     have e : os.length = m := HOs0.out.1.symm
                     have e2 : os.getD (y - 1) 0 = z := Hz.out
                     have hk := HK2.out
                     rw [h1] at hk
                     rw [← e2]
                     have h36 := twoK_iff.1 hk
                     refine stepB_two (j := m - 1) (i := y - 1) ?_ hk (by show b = _; omega) (by omega) (by show a = _; omega) (by rw [Hy.out]; omega)
                     unfold fitsN
                     rw [if_neg (by show ¬ kk = 1; omega), if_neg (by show ¬ kk = 2; omega), if_pos (by exact hk), decide_eq_true h6, decide_eq_true h7, decide_eq_true h8]
                     rfl
                    have bl := below_new wS (.cells #[.int .i64 (z : Int)] 3)
                    have HO2 := Lib.hid (HOs.out.2.2.below bl)
                    have HL2 : Hid (RowA (wS.alloc (.cells #[.int .i64 (z : Int)] 3)) wS.heap.size 3 #[.int .i64 (z : Int)] ∧ (#[.int .i64 (z : Int)] : Array Value).size = 1 ∧ ∀ v ∈ (#[.int .i64 (z : Int)] : Array Value), v.oneCell' = true) := ⟨rowA_new _ _ _, rfl, by simp [Value.oneCell']⟩
                    have HE2 : Hid (m ≤ 1000000 ∧ w.heap.size ≤ (wS.alloc (.cells #[.int .i64 (z : Int)] 3)).heap.size) := ⟨by omega, by have := HBs.out.size; simp; omega⟩
                    have HB2 := Lib.hid (below_two HBs.out bl)
                    clear bl HBs
                    go_wp2_with (at_builtin; refine wpList_append_one rfl _ _ 41 rfl w.heap.size 3 1 num_elem _ m d _ rfl HO2 wS.heap.size rfl 3 #[.int .i64 (z : Int)] HL2 HE2 ?_)
                    intro A2 c2 w5 hO5 hg5
                    have HB5 := Lib.hid (below_append HB2.out (Nat.le_refl _) HE2.out.2 HO2.out hg5.out)
                    have HO5 : Hid (NumO w5 w.heap.size A2 (m + 1) c2 (os ++ [z])) := by
                     have h5 := hO5.out
                     obtain ⟨g9, _, _, _, hc9, _⟩ := h5.cells (by omega)
                     refine ⟨by rw [List.length_append, ← HOs.out.1]; rfl, hc9, ?_⟩
                     rw [List.map_append]
                     exact h5
                    have HBe2 : Hid (begT (ts.take (m + 1)) = some (os ++ [z])) := by
                     have h1 := HOs.out.1
                     have h2 := HX.out
                     have h3 := HBe.out
                     have hz := begT_next (i := os.length) (by rw [← h1]; exact h2) (by rw [← h1]; exact h3) HSt.out
                     rw [← h1] at hz
                     exact hz
                    clear hO5 hg5 HO2 HL2 HE2 HB2
                    go_wp2
                    go_roundw
                    case rel => exact ⟨A2, m + 1, c2, os ++ [z], rfl, by first | rfl | (go_num), hlt, HO5, HBe2, HB5⟩
                    case measure => simp [intOf]; omega
                  | false =>
                   as_aux_lemma =>
                    clear h14
                    have HNone : Hid (begT ts = Option.none) := by
                     have h1 := HOs.out.1
                     have h2 := HX.out
                     have h3 := HBe.out
                     rw [h1] at h2 h3
                     refine begT_fall h2 h3 (no_step h1 (begT_low h3) ?_ ?_ ?_ ?_)
                     · have h := H8.out; rw [← HLf.out, ← HLg.out, ← HUn.out] at h; exact h
                     · have h := H10.out; rw [← HLf.out, ← HNm.out] at h; exact h
                     · exact H12.out
                     · have h := H14.out; rw [← HK2.out, ← Hy.out] at h; exact h
                    have HF := Lib.hid (below_drewN HBs.out q)
                    go_wp2
                    go_ret
                    exact ⟨none, 0, 0, rfl, by rw [HNone.out]; exact NumO.nil _ _, HF.out⟩
              · have em1 : decide ((1 : Int) < (m : Int)) = false := decide_eq_false (by omega)
                have em2 : decide (1 < m) = false := decide_eq_false hm1
                as_aux_lemma =>
                 go_upto_region 14 with fail
                 cases k2 with
                 | false =>
                  go_quiet ((go_at_call 25; exact Calls.quiet_of_same (HTw.out _)))
                  have HNone : Hid (begT ts = Option.none) := by
                   have h1 := HOs.out.1
                   have h2 := HX.out
                   have h3 := HBe.out
                   rw [h1] at h2 h3
                   refine begT_fall h2 h3 (no_step h1 (begT_low h3) ?_ ?_ ?_ ?_)
                   · have h := H8.out; rw [← HLf.out, ← HLg.out, ← HUn.out] at h; exact h
                   · have h := H10.out; rw [← HLf.out, ← HNm.out] at h; exact h
                   · exact H12.out
                   · rw [decide_eq_false hm1, Bool.and_false]; rfl
                  have HF := Lib.hid (below_drewN HBs.out nq)
                  go_wp2
                  go_ret
                  exact ⟨none, 0, 0, rfl, by rw [HNone.out]; exact NumO.nil _ _, HF.out⟩
                 | true =>
                  go_quiet ((go_at_call 25; exact Calls.quiet_of_same (HTw.out _)))
                  have HNone : Hid (begT ts = Option.none) := by
                   have h1 := HOs.out.1
                   have h2 := HX.out
                   have h3 := HBe.out
                   rw [h1] at h2 h3
                   refine begT_fall h2 h3 (no_step h1 (begT_low h3) ?_ ?_ ?_ ?_)
                   · have h := H8.out; rw [← HLf.out, ← HLg.out, ← HUn.out] at h; exact h
                   · have h := H10.out; rw [← HLf.out, ← HNm.out] at h; exact h
                   · exact H12.out
                   · rw [decide_eq_false hm1, Bool.and_false]; rfl
                  have HF := Lib.hid (below_drewN HBs.out nq)
                  go_wp2
                  go_ret
                  exact ⟨none, 0, 0, rfl, by rw [HNone.out]; exact NumO.nil _ _, HF.out⟩
  · obtain rfl : m = n := by omega
    have HBf : Hid (begT ts = some os) := by have h := HBe.out; rw [HN.out, List.take_length] at h; exact h
    go_wp2
    go_ret
    exact ⟨B, m, d, rfl, by rw [HBf.out]; exact HO.out, HB.out⟩
end Go.Proofs.YtbddhflmknaadaaDoor

/- Own rows of nodes; what keep.OwnTree, keep.Tree answer, as contracts over memory. Conditions: rows of nodes that can be read, at most 10^6 nodes. -/
namespace Go.Proofs.YtbddhflmknaadaaDoor
open Go.RowKit Limb
set_option linter.unusedVariables false
def OwnT (w : World) (B : Nat) (A : Option Addr) (n c : Nat) (ts : List Nd) : Prop := n = ts.length ∧ OwnR w B 37 7 A n c (ndCells ts)
theorem OwnR.caps {w : World} {B sz n c : Nat} {e : TypeId} {A : Option Addr} {xs : List Value} (h : OwnR w B e sz A n c xs) : n ≤ c ∧ c ≤ maxLen := by
 rcases h.2 with ⟨hv, h0⟩ | ⟨g, cap, cur, hv, hB, hg, hnc, hcm, _⟩
 · injection hv with h1 h2 h3
   subst h2 h3
   exact ⟨Nat.le_refl _, Nat.zero_le _⟩
 · injection hv with h1 h2 h3
   subst h3
   exact ⟨hnc, hcm⟩
theorem OwnT.tree {w : World} {B n c : Nat} {A : Option Addr} {ts : List Nd} (h : OwnT w B A n c ts) : TreR w A n c ts := OwnR.tree h.2 h.1 h.2.caps.1 h.2.caps.2
theorem OwnT.below {w w' : World} {B n c : Nat} {A : Option Addr} {ts : List Nd} (h : OwnT w B A n c ts) (hb : Below w.heap.size w w') : OwnT w' B A n c ts := ⟨h.1, h.2.below hb⟩
theorem OwnT.blk {w : World} {B n c : Nat} {A : Option Addr} {ts : List Nd} (h : OwnT w B A n c ts) (h0 : 0 < n) : ∃ g, A = some ⟨g, 0, none⟩ ∧ B ≤ g ∧ g < w.heap.size := by
 obtain ⟨g, e, h1, h2, _⟩ := h.2.cells h0
 exact ⟨g, e, h1, h2⟩
theorem ndCells_set {ts : List Nd} {i r : Nat} {x y : Nd} {v : Value} (hx : ts[i]? = some x) (hr : r < 7) (hy : (ndV x).toList.set r v = (ndV y).toList) : (ndCells ts).set (i * 7 + r) v = ndCells (ts.set i y) := by
 induction ts generalizing i with
 | nil => simp at hx
 | cons z ts ih =>
  have e : ∀ z ts, ndCells (z :: ts) = (ndV z).toList ++ ndCells ts := fun _ _ => rfl
  cases i with
  | zero =>
   obtain rfl : z = x := by simpa using hx
   rw [List.set_cons_zero, e, e, Nat.zero_mul, Nat.zero_add, List.set_append_left _ _ (by show r < 7; exact hr), hy]
  | succ i =>
   rw [List.set_cons_succ, e, e, List.set_append_right _ _ (by show 7 ≤ _; omega), show (i + 1) * 7 + r - (ndV z).toList.length = i * 7 + r by show (i + 1) * 7 + r - 7 = _; omega, ih (by simpa using hx)]
theorem OwnR.set {w : World} {B sz n c g : Nat} {e : TypeId} {xs : List Value} (h : OwnR w B e sz (some ⟨g, 0, none⟩) n c xs) {j : Nat} (hj : j < xs.length) (v : Value) : OwnR (w.setCell ⟨g, j, none⟩ v) B e sz (some ⟨g, 0, none⟩) n c (xs.set j v) := by
 refine ⟨by rw [List.length_set]; exact h.1, ?_⟩
 rcases h.2 with ⟨hv, _⟩ | ⟨g2, cap, cur, hv, hB, hg, hnc, hcm, hcs, ht⟩
 · cases hv
 · injection hv with h1 h2 h3
   injection h1 with h1
   injection h1 with h1
   subst h1
   refine .inr ⟨g, cap, cur.setIfInBounds j v, by rw [h3], hB, ?_, hnc, hcm, by rw [Array.size_setIfInBounds]; exact hcs, ?_⟩
   · have : RowA (w.setCell ⟨g, j, none⟩ v) g e (cur.setIfInBounds j v) := RowA.set (show RowA w g e cur from hg) j v
     exact this
   · rw [Array.toList_setIfInBounds, ← ht]
     rw [← ht] at hj
     have h1 := h.1
     rw [List.take_set]
theorem OwnT.set {w : World} {B n c g : Nat} {ts : List Nd} (h : OwnT w B (some ⟨g, 0, none⟩) n c ts) {i r : Nat} {x y : Nd} {v : Value} (hx : ts[i]? = some x) (hr : r < 7) (hy : (ndV x).toList.set r v = (ndV y).toList) : OwnT (w.setCell ⟨g, i * 7 + r, none⟩ v) B (some ⟨g, 0, none⟩) n c (ts.set i y) := by
 refine ⟨by rw [List.length_set]; exact h.1, ?_⟩
 rw [← ndCells_set hx hr hy]
 have hi := (List.getElem?_eq_some_iff.1 hx).1
 exact h.2.set (by rw [len_ndCells]; omega) v
theorem OwnT.free {w : World} {B n c g : Nat} {ts : List Nd} (h : OwnT w B (some ⟨g, 0, none⟩) n c ts) (j : Nat) : w.frozen? ⟨g, j, none⟩ = false := by
 rcases h.2.2 with ⟨hv, _⟩ | ⟨g2, cap, cur, hv, hB, hg, _⟩
 · cases hv
 · injection hv with h1 h2 h3
   injection h1 with h1
   injection h1 with h1
   subst h1
   exact RowA.free (show RowA w g 37 cur from hg) j
theorem OwnT.inV {w : World} {B n c g : Nat} {ts : List Nd} (h : OwnT w B (some ⟨g, 0, none⟩) n c ts) {i : Nat} {x : Nd} (hx : ts[i]? = some x) : InV w g (i * 7) (ndV x) := by
 obtain ⟨g2, o, e, _, h3⟩ := h.tree.2.2.2 (by have := (List.getElem?_eq_some_iff.1 hx).1; have := h.1; omega)
 obtain ⟨g3, e3, _, _, _, _, h6⟩ := h.2.cells (by have := (List.getElem?_eq_some_iff.1 hx).1; have := h.1; omega)
 cases e3
 exact fun j v hj => h6 _ _ (ndCells_at hx j v hj)
theorem wpList_append_nd {w : World} {ops : Array Oper} {rest : List Oper} {o : Oper} {a : Act} {Q : Exit → Act → World → Prop} (hgd : o.guard = none) (s x : Operand)
 (ho : o.op = .call { callee := .builtin .append, args := #[s, x], argTypes := #[23, 23] })
 (base : Nat) (v : Value) (n : Nat) (xs : List Nd) (hs : a.eval s = v) (hown : Hid (w.ownsRow base 37 7 v n (ndCells xs)))
 (A : Option Addr) (m c : Nat) (ys : List Nd) (hx : a.eval x = .slice A m c) (hy : Hid (TreR w A m c ys)) (hb : Hid (n ≤ 1000000 ∧ m ≤ 1000000 ∧ base ≤ w.heap.size))
 (h : ∀ A2 c2 w', Hid (OwnR w' base 37 7 A2 (n + m) c2 (ndCells (xs ++ ys))) → Hid (w.grownBy w' v.ownBlock) → wpList Tryd.prog ops Q rest (a.put o.dst (.slice A2 (n + m) c2)) w') : wpList Tryd.prog ops Q (o :: rest) a w := by
 obtain ⟨i, z, h1, h2, h3, h4, h5, h6, h7⟩ := nds_elem
 obtain ⟨b1, b2, b3⟩ := hb.out
 obtain ⟨y1, y2, y3, y4⟩ := hy.out
 rcases Nat.eq_zero_or_pos m with h0 | h0
 · subst h0
   obtain rfl : ys = [] := List.eq_nil_of_length_eq_zero y1.symm
   rcases A with _ | ad
   · refine wpList_plain hgd fun KK hK => ?_
     have hrun := run_append_nothing (P := Tryd.prog) w base 23 o.type 37 i 7 h1 h2 v n (ndCells xs) hown.out c
     unfold Oper.wp execOp
     simp only [ho, resolve, invoke, builtin, Sem.run_bind, Sem.run_pure, Result.andThen_ok, List.map_toArray, List.map_cons, List.map_nil, hs, hx, hrun]
     obtain ⟨A2, c2, rfl, how⟩ := shape_row hown.out
     exact hK _ _ (h A2 c2 w (by rw [List.append_nil]; exact how) (World.grownBy.refl w _))
   · refine wpList_append_own w hgd s x 23 ho base 37 i z 7 i.bytes h1 h2 h3 h4 rfl h5 h6 v n (ndCells xs) hs hown.out ad 0 c [] hx rfl (fun j u hu => by simp at hu) (fun u hu => by cases hu) (by unfold maxLen; omega) ?_ b3 ?_
     · exact Nat.le_trans (Nat.mul_le_mul (show n + 0 ≤ 1000001 by omega) h7) (by decide)
     · intro v' w' ho' hg _
       obtain ⟨A2, c2, rfl, how⟩ := shape_row ho'
       exact h A2 c2 w' (show OwnR _ _ _ _ _ _ _ _ from by rw [List.append_nil]; simpa using how) hg
 · obtain ⟨gs, os, rfl, hgs, hin⟩ := y4 h0
   refine wpList_append_own w hgd s x 23 ho base 37 i z 7 i.bytes h1 h2 h3 h4 rfl h5 h6 v n (ndCells xs) hs hown.out ⟨gs, os, none⟩ m c (ndCells ys) hx (by rw [len_ndCells, y1]) ?_ (ndCells_one ys) (by unfold maxLen; omega) ?_ b3 ?_
   · intro j u hu
     obtain ⟨i2, r, x2, rfl, hx2, hr⟩ := ndCells_get hu
     rw [Addr.add_mid, ← Nat.add_assoc]
     exact hin i2 x2 hx2 r u hr
   · exact Nat.le_trans (Nat.mul_le_mul (show n + m ≤ 2000000 by omega) h7) (by decide)
   · intro v' w' ho' hg _
     rw [← ndCells_app] at ho'
     obtain ⟨A2, c2, rfl, how⟩ := shape_row ho'
     exact h A2 c2 w' how hg
theorem own_nd0 (w : World) : (w.alloc (.cells #[] 37)).ownsRow w.heap.size 37 7 (.slice (some ⟨w.heap.size, 0, none⟩) 0 0) 0 (ndCells []) := by
 have := World.ownsRow_lit (e := 37) (size := 7) w #[] 0 (Nat.le_refl _) (Nat.zero_le _) (by simp)
 simpa [ndCells] using this
theorem eqN_iff {x y : Nd} : eqN x y = true ↔ x = y := by
 constructor
 · intro h
   unfold eqN sameN at h
   simp only [Bool.and_eq_true, decide_eq_true_eq] at h
   obtain ⟨⟨⟨⟨⟨⟨h1, h2⟩, h3⟩, h4⟩, h5⟩, h6⟩, h7⟩ := h
   exact Nd.ext' h1 h2 h3 h4 h5 h6 h7
 · rintro rfl
   unfold eqN sameN
   simp
def eqT : List Nd → List Nd → Bool
 | [], [] => true
 | x :: a, y :: b => eqN x y && eqT a b
 | _, _ => false
theorem eqT_iff : ∀ {a b : List Nd}, eqT a b = true ↔ a = b
 | [], [] => ⟨fun _ => rfl, fun _ => rfl⟩
 | [], y :: b => ⟨(fun h => by cases h), (fun h => by cases h)⟩
 | x :: a, [] => ⟨(fun h => by cases h), (fun h => by cases h)⟩
 | x :: a, y :: b => by
  unfold eqT
  rw [Bool.and_eq_true, eqN_iff, eqT_iff, List.cons.injEq]
set_option maxHeartbeats 4000000 in
set_option maxRecDepth 100000 in
theorem kOwnT_c {w : World} {A : Option Addr} {n c : Nat} {ts : List Nd} (h : TreR w A n c ts) (hn6 : n ≤ 1000000) :
 Calls Tryd.prog 9 #[.slice A n c] w fun e w' => ∃ A2 c2, e = .returned (.slice A2 n c2) ∧ OwnT w' w.heap.size A2 n c2 ts ∧ Below w.heap.size w w' := by
 have hn := h.1
 have bn := below_new w (.cells #[] 37)
 have Hx := Lib.hid (h.below bn)
 have Hown := Lib.hid (own_nd0 w)
 have Hb : Hid (0 ≤ 1000000 ∧ n ≤ 1000000 ∧ w.heap.size ≤ (w.alloc (.cells #[] 37)).heap.size) := ⟨by omega, hn6, by simp⟩
 have HN := Lib.hid hn
 clear h bn hn
 go_enter Tryd.func9, Tryd.ntmps9
 go_wp2_with (at_builtin; refine wpList_append_nd rfl _ _ rfl w.heap.size _ 0 [] rfl Hown A n c ts rfl Hx Hb ?_)
 intro A2 c2 w' how hgrow
 have HB := Lib.hid (below_lit hgrow.out (Nat.le_refl _))
 have HO : Hid (OwnT w' w.heap.size A2 n c2 ts) := ⟨HN.out, by have h := how.out; simpa using h⟩
 clear how hgrow Hown Hb Hx
 try rw [Nat.zero_add]
 go_wp2
 go_ret
 exact ⟨_, _, by first | rfl | simp, HO.out, HB.out⟩
set_option maxHeartbeats 4000000 in
set_option maxRecDepth 100000 in
theorem kTree_c {w : World} {A B : Option Addr} {n c m0 d : Nat} {ts us : List Nd} (h1 : TreR w A n c ts) (h2 : TreR w B m0 d us) (v : Bool) (hv : eqT ts us = v) :
 Calls Tryd.prog 18 #[.slice A n c, .slice B m0 d] w fun e w' => e = .returned (.bool v) ∧ Below w.heap.size w w' := by
 obtain ⟨hn, hc, hcm, _⟩ := id h1
 obtain ⟨hn2, hc2, hcm2, _⟩ := id h2
 have H1 := Lib.hid h1
 have H2 := Lib.hid h2
 have HN1 := Lib.hid hn
 have HN2 := Lib.hid hn2
 have HV := Lib.hid hv
 clear h1 h2 hn hn2 hv
 have eq1 : maxLen = 9223372036854775807 := rfl
 by_cases hl : n = m0
 · subst hl
   go_enter Tryd.func18, Tryd.ntmps18
   go_wp2
   go_loopw [5] (fun i wr => ∃ k0 : Nat, i = .int .i64 (k0 : Int) ∧ k0 ≤ n ∧ Hid (∀ i x y, i < k0 → ts[i]? = some x → us[i]? = some y → x = y) ∧ Hid (Below w.heap.size w wr)) (fun i _ => n - (intOf i).toNat)
   case atStart => exact ⟨0, rfl, Nat.zero_le _, fun i x y h => absurd h (Nat.not_lt_zero i), Below.refl _ _⟩
   case round =>
    obtain ⟨k0, rfl, hk, HP, HB⟩ := hrel
    by_cases hlt : k0 < n
    · skip
      obtain ⟨x, hx⟩ : ∃ x, ts[k0]? = some x := ⟨_, List.getElem?_eq_getElem (by rw [← HN1.out]; exact hlt)⟩
      obtain ⟨y, hy⟩ : ∃ y, us[k0]? = some y := ⟨_, List.getElem?_eq_getElem (by rw [← HN2.out]; exact hlt)⟩
      have HX := Lib.hid hx
      have HY := Lib.hid hy
      obtain ⟨g, og, rfl, hg, hin⟩ := (H1.out.below HB.out).at hx
      obtain ⟨g2, og2, rfl, hg2, hin2⟩ := (H2.out.below HB.out).at hy
      obtain ⟨k1, a1, b1, m1, t1, u1, p1⟩ := x
      obtain ⟨k2, a2, b2, m2, t2, u2, p2⟩ := y
      have HI_1 : Hid (InV wr g (og + k0 * 7) (ndC k1 a1 b1 m1 t1 u1 p1)) := hin
      have HI_2 : Hid (InV wr g2 (og2 + k0 * 7) (ndC k2 a2 b2 m2 t2 u2 p2)) := hin2
      have HG1 := Lib.hid hg
      have HG2 := Lib.hid hg2
      have HM_1 := Lib.hid (manyNd k1 a1 b1 m1 t1 u1 p1)
      have HM_2 := Lib.hid (manyNd k2 a2 b2 m2 t2 u2 p2)
      clear hx hy hin hin2 hg hg2
      go_wp2
      generalize wr = wS at *
      have g1 : (k0 : Int) < (n : Int) := by omega
      cases hq : eqN ⟨k1, a1, b1, m1, t1, u1, p1⟩ ⟨k2, a2, b2, m2, t2, u2, p2⟩
      · skip
        have HQ := Lib.hid hq
        have HV0 : Hid (v = false) := by
         show _ = _
         rw [← HV.out]
         refine Bool.eq_false_iff.2 fun e0 => ?_
         have e := eqT_iff.1 e0
         have h1 := HX.out
         rw [e, HY.out] at h1
         have h2 := eqN_iff.2 (Option.some.inj h1)
         have h3 : eqN ⟨k1, a1, b1, m1, t1, u1, p1⟩ ⟨k2, a2, b2, m2, t2, u2, p2⟩ = true := eqN_iff.2 (Option.some.inj h1).symm
         rw [HQ.out] at h3; cases h3
        clear hq
        refine region_freed 9 0 6 [17, 18, 19, 20, 21, 22, 23, 24, 25] ?aF4 (fun wx => Below wS.heap.size wS wx) (fun k vv wx => match k with
         | 0 => vv = .slice (some ⟨g, og, none⟩) n c
         | 1 => vv = .int .i64 (k0 : Int)
         | 2 => vv = .pointer (some ⟨g, og + k0 * 7, none⟩)
         | 3 => vv = .agg (ndC k1 a1 b1 m1 t1 u1 p1)
         | 4 => vv = .slice (some ⟨g2, og2, none⟩) n d
         | 5 => vv = .int .i64 (k0 : Int)
         | 6 => vv = .pointer (some ⟨g2, og2 + k0 * 7, none⟩)
         | 7 => vv = .agg (ndC k2 a2 b2 m2 t2 u2 p2)
         | _ => vv = .bool true)
         (fun k => false) (by kernel_rfl) ?haF4 rfl (by kernel_rfl) (by kernel_rfl) (fun _ _ _ _ _ h => h) ?hSb4 ?hPb4 ?hS4 ?hop4 ?hfin4
        case haF4 =>
         intro vals
         simp only [fillAll, List.getElem?_cons_zero, List.getElem?_cons_succ, Act.put, List.setIfInBounds_toArray, List.set_cons_zero, List.set_cons_succ]
         exact rfl
        case hSb4 => exact fun wx w2 hb hS => below_two hS hb
        case hPb4 =>
         intro k v wa wb hb h
         match k, h with
         | 0, h => exact h
         | 1, h => exact h
         | 2, h => exact h
         | 3, h => exact h
         | 4, h => exact h
         | 5, h => exact h
         | 6, h => exact h
         | 7, h => exact h
         | _ + 8, h => exact h
        case hS4 => exact (Below.refl _ _).drew
        case hop4 =>
         refine .cons (k := 0) (.plain rfl ?_) (.cons (k := 1) (.plain rfl ?_) (.cons (k := 2) (.plain rfl ?_) (.cons (k := 3) (.plain rfl ?_) (.cons (k := 4) (.plain rfl ?_) (.cons (k := 5) (.plain rfl ?_) (.cons (k := 6) (.plain rfl ?_) (.cons (k := 7) (.plain rfl ?_) (.cons (k := 8) (.plain rfl ?_) (.nil)))))))))
         all_goals intro vals wr hS hd KC hK
         all_goals (show Oper.wp _ _ _ _ _ _; dsimp only)
         · go_simp
           refine hK _ _ rfl (Below.refl _ _) (by first | rfl | simp) (fun h => by cases h)
         · go_simp
           refine hK _ _ rfl (Below.refl _ _) (by first | rfl | simp) (fun h => by cases h)
         · have d0 : vals 0 = _ := hd 0 (by decide +kernel)
           have d1 : vals 1 = _ := hd 1 (by decide +kernel)
           rw [d0, d1]
           go_simp
           refine hK _ _ rfl (Below.refl _ _) (by first | rfl | simp) (fun h => by cases h)
         · have d2 : vals 2 = _ := hd 2 (by decide +kernel)
           rw [d2]
           refine wp_loadV 37 _ rfl _ _ rfl (ndC k1 a1 b1 m1 t1 u1 p1) (Lib.hid HI_1.out.below HG1.out hS) (Lib.hid HM_1.out) ?_
           refine hK _ _ rfl (Below.refl _ _) (by first | rfl | simp) (fun h => by cases h)
         · go_simp
           refine hK _ _ rfl (Below.refl _ _) (by first | rfl | simp) (fun h => by cases h)
         · go_simp
           refine hK _ _ rfl (Below.refl _ _) (by first | rfl | simp) (fun h => by cases h)
         · have d4 : vals 4 = _ := hd 4 (by decide +kernel)
           have d5 : vals 5 = _ := hd 5 (by decide +kernel)
           rw [d4, d5]
           go_simp
           refine hK _ _ rfl (Below.refl _ _) (by first | rfl | simp) (fun h => by cases h)
         · have d6 : vals 6 = _ := hd 6 (by decide +kernel)
           rw [d6]
           refine wp_loadV 37 _ rfl _ _ rfl (ndC k2 a2 b2 m2 t2 u2 p2) (Lib.hid HI_2.out.below HG2.out hS) (Lib.hid HM_2.out) ?_
           refine hK _ _ rfl (Below.refl _ _) (by first | rfl | simp) (fun h => by cases h)
         · have d3 : vals 3 = _ := hd 3 (by decide +kernel)
           have d7 : vals 7 = _ := hd 7 (by decide +kernel)
           rw [d3, d7]
           have heq : ∀ W, (Op.equalIn 10000 37 (.agg (ndC k1 a1 b1 m1 t1 u1 p1)) (.agg (ndC k2 a2 b2 m2 t2 u2 p2))).run Tryd.prog W = .ok false W := fun W => equal_nd (x := ⟨k1, a1, b1, m1, t1, u1, p1⟩) (y := ⟨k2, a2, b2, m2, t2, u2, p2⟩) HQ.out W
           go_simp
           refine hK _ _ rfl (Below.refl _ _) (by first | rfl | simp) (fun h => by cases h)
        case hfin4 =>
         intro vals wr hS hP hne
         have ez_8 : vals 8 = _ := hP 8 (by decide)
         try dsimp only
         rw [ez_8]
         refine wpAny_done (by kernel_rfl) ?_ _
         have HB2 := Lib.hid (below_two HB.out hS)
         clear hS hP hne
         go_wp2
         go_ret
         exact ⟨by rw [HV0.out]; rfl, HB2.out⟩
      · skip
        have HQ := Lib.hid hq
        have HP2 : Hid (∀ i x y, i < k0 + 1 → ts[i]? = some x → us[i]? = some y → x = y) := by
         intro i x y hi h1 h2
         rcases Nat.lt_or_ge i k0 with h | h
         · exact HP.out i x y h h1 h2
         · obtain rfl : i = k0 := by omega
           obtain rfl := Option.some.inj (HX.out.symm.trans h1)
           obtain rfl := Option.some.inj (HY.out.symm.trans h2)
           exact eqN_iff.1 HQ.out
        clear hq HP
        refine region_freed 9 0 6 [17, 18, 19, 20, 21, 22, 23, 24, 25] ?aF5 (fun wx => Below wS.heap.size wS wx) (fun k vv wx => match k with
         | 0 => vv = .slice (some ⟨g, og, none⟩) n c
         | 1 => vv = .int .i64 (k0 : Int)
         | 2 => vv = .pointer (some ⟨g, og + k0 * 7, none⟩)
         | 3 => vv = .agg (ndC k1 a1 b1 m1 t1 u1 p1)
         | 4 => vv = .slice (some ⟨g2, og2, none⟩) n d
         | 5 => vv = .int .i64 (k0 : Int)
         | 6 => vv = .pointer (some ⟨g2, og2 + k0 * 7, none⟩)
         | 7 => vv = .agg (ndC k2 a2 b2 m2 t2 u2 p2)
         | _ => vv = .bool false)
         (fun k => false) (by kernel_rfl) ?haF5 rfl (by kernel_rfl) (by kernel_rfl) (fun _ _ _ _ _ h => h) ?hSb5 ?hPb5 ?hS5 ?hop5 ?hfin5
        case haF5 =>
         intro vals
         simp only [fillAll, List.getElem?_cons_zero, List.getElem?_cons_succ, Act.put, List.setIfInBounds_toArray, List.set_cons_zero, List.set_cons_succ]
         exact rfl
        case hSb5 => exact fun wx w2 hb hS => below_two hS hb
        case hPb5 =>
         intro k v wa wb hb h
         match k, h with
         | 0, h => exact h
         | 1, h => exact h
         | 2, h => exact h
         | 3, h => exact h
         | 4, h => exact h
         | 5, h => exact h
         | 6, h => exact h
         | 7, h => exact h
         | _ + 8, h => exact h
        case hS5 => exact (Below.refl _ _).drew
        case hop5 =>
         refine .cons (k := 0) (.plain rfl ?_) (.cons (k := 1) (.plain rfl ?_) (.cons (k := 2) (.plain rfl ?_) (.cons (k := 3) (.plain rfl ?_) (.cons (k := 4) (.plain rfl ?_) (.cons (k := 5) (.plain rfl ?_) (.cons (k := 6) (.plain rfl ?_) (.cons (k := 7) (.plain rfl ?_) (.cons (k := 8) (.plain rfl ?_) (.nil)))))))))
         all_goals intro vals wr hS hd KC hK
         all_goals (show Oper.wp _ _ _ _ _ _; dsimp only)
         · go_simp
           refine hK _ _ rfl (Below.refl _ _) (by first | rfl | simp) (fun h => by cases h)
         · go_simp
           refine hK _ _ rfl (Below.refl _ _) (by first | rfl | simp) (fun h => by cases h)
         · have d0 : vals 0 = _ := hd 0 (by decide +kernel)
           have d1 : vals 1 = _ := hd 1 (by decide +kernel)
           rw [d0, d1]
           go_simp
           refine hK _ _ rfl (Below.refl _ _) (by first | rfl | simp) (fun h => by cases h)
         · have d2 : vals 2 = _ := hd 2 (by decide +kernel)
           rw [d2]
           refine wp_loadV 37 _ rfl _ _ rfl (ndC k1 a1 b1 m1 t1 u1 p1) (Lib.hid HI_1.out.below HG1.out hS) (Lib.hid HM_1.out) ?_
           refine hK _ _ rfl (Below.refl _ _) (by first | rfl | simp) (fun h => by cases h)
         · go_simp
           refine hK _ _ rfl (Below.refl _ _) (by first | rfl | simp) (fun h => by cases h)
         · go_simp
           refine hK _ _ rfl (Below.refl _ _) (by first | rfl | simp) (fun h => by cases h)
         · have d4 : vals 4 = _ := hd 4 (by decide +kernel)
           have d5 : vals 5 = _ := hd 5 (by decide +kernel)
           rw [d4, d5]
           go_simp
           refine hK _ _ rfl (Below.refl _ _) (by first | rfl | simp) (fun h => by cases h)
         · have d6 : vals 6 = _ := hd 6 (by decide +kernel)
           rw [d6]
           refine wp_loadV 37 _ rfl _ _ rfl (ndC k2 a2 b2 m2 t2 u2 p2) (Lib.hid HI_2.out.below HG2.out hS) (Lib.hid HM_2.out) ?_
           refine hK _ _ rfl (Below.refl _ _) (by first | rfl | simp) (fun h => by cases h)
         · have d3 : vals 3 = _ := hd 3 (by decide +kernel)
           have d7 : vals 7 = _ := hd 7 (by decide +kernel)
           rw [d3, d7]
           have heq : ∀ W, (Op.equalIn 10000 37 (.agg (ndC k1 a1 b1 m1 t1 u1 p1)) (.agg (ndC k2 a2 b2 m2 t2 u2 p2))).run Tryd.prog W = .ok true W := fun W => equal_nd (x := ⟨k1, a1, b1, m1, t1, u1, p1⟩) (y := ⟨k2, a2, b2, m2, t2, u2, p2⟩) HQ.out W
           go_simp
           refine hK _ _ rfl (Below.refl _ _) (by first | rfl | simp) (fun h => by cases h)
        case hfin5 =>
         intro vals wr hS hP hne
         have ez_8 : vals 8 = _ := hP 8 (by decide)
         try dsimp only
         rw [ez_8]
         refine wpAny_done (by kernel_rfl) ?_ _
         have HB2 := Lib.hid (below_two HB.out hS)
         clear hS hP hne
         go_wp2
         go_roundw
         case rel => exact ⟨k0 + 1, by go_num, hlt, HP2, HB2⟩
         case measure => simp [intOf]; omega
    · obtain rfl : n = k0 := by omega
      have HV1 : Hid (v = true) := by
       show _ = _
       rw [← HV.out]
       refine eqT_iff.2 (List.ext_getElem? fun i => ?_)
       by_cases hi : i < n
       · have h1 : ts[i]? = some (ts[i]'(by rw [← HN1.out]; exact hi)) := List.getElem?_eq_getElem _
         have h2 : us[i]? = some (us[i]'(by rw [← HN2.out]; exact hi)) := List.getElem?_eq_getElem _
         rw [h1, h2, HP.out i _ _ hi h1 h2]
       · rw [List.getElem?_eq_none (by rw [← HN1.out]; omega), List.getElem?_eq_none (by rw [← HN2.out]; omega)]
      go_wp2
      go_ret
      exact ⟨by rw [HV1.out]; rfl, HB.out⟩
 · have HV0 : Hid (v = false) := by
    show _ = _
    rw [← HV.out]
    exact Bool.eq_false_iff.2 fun e => hl (by rw [HN1.out, HN2.out, eqT_iff.1 e])
   have e0 : ((n : Int) != (m0 : Int)) = true := by rw [bne_iff_ne]; omega
   go_enter Tryd.func18, Tryd.ntmps18
   go_wp2
   go_ret
   exact ⟨by rw [HV0.out]; rfl, Below.refl _ _⟩
end Go.Proofs.YtbddhflmknaadaaDoor

/- What keep.Bare, keep.LargeTree answer, as contracts over memory. Conditions: rows of nodes that can be read. -/
namespace Go.Proofs.YtbddhflmknaadaaDoor
open Go.RowKit Limb
set_option linter.unusedVariables false
theorem map_set_step {ts : List Nd} {f : Nd → Nd} {i : Nat} {x : Nd} (hx : ts[i]? = some x) : ((ts.take i).map f ++ ts.drop i).set i (f x) = (ts.take (i + 1)).map f ++ ts.drop (i + 1) := by
 have hi := (List.getElem?_eq_some_iff.1 hx).1
 have h2 : ((ts.take i).map f).length = i := by simp; omega
 rw [List.set_append_right (h := by rw [h2]; exact Nat.le_refl _), h2, Nat.sub_self, List.drop_eq_getElem_cons hi, List.set_cons_zero, List.take_add_one, hx]
 simp
theorem map_at_step {ts : List Nd} {f : Nd → Nd} {i : Nat} {x : Nd} (hx : ts[i]? = some x) : ((ts.take i).map f ++ ts.drop i)[i]? = some x := by
 have hi := (List.getElem?_eq_some_iff.1 hx).1
 have h2 : ((ts.take i).map f).length = i := by simp; omega
 rw [List.getElem?_append_right (by rw [h2]; exact Nat.le_refl _), h2, Nat.sub_self, List.drop_eq_getElem_cons hi, List.getElem?_cons_zero, (List.getElem?_eq_some_iff.1 hx).2]
def atL (p : Int) (ts : List Nd) (i : Nat) : List Nd := (ts.take i).map (fun x => { x with p := p }) ++ ts.drop i
theorem atL_zero (p : Int) (ts : List Nd) : atL p ts 0 = ts := by simp [atL]
theorem atL_all (p : Int) (ts : List Nd) : atL p ts ts.length = ts.map (fun x => { x with p := p }) := by simp [atL]
def sizeT (ts : List Nd) : Nat := (ts.map fun x => 1 + min x.t.size 6000 + min x.u.size 6000).sum
def largeT (ts : List Nd) : Bool := decide (6000 < sizeT ts)
theorem sizeT_next {ts : List Nd} {k : Nat} {x : Nd} (h : ts[k]? = some x) : sizeT (ts.take (k + 1)) = sizeT (ts.take k) + (1 + min x.t.size 6000 + min x.u.size 6000) := by
 rw [List.take_add_one, h, Option.toList_some]
 simp [sizeT]
theorem sizeT_le (ts : List Nd) (k : Nat) : sizeT (ts.take k) ≤ sizeT ts := by
 have : sizeT ts = sizeT (ts.take k) + sizeT (ts.drop k) := by
  unfold sizeT
  rw [List.map_take, List.map_drop, ← List.sum_append, List.take_append_drop]
 omega
theorem mild_of {ts : List Nd} (h : largeT ts = false) : ts.length ≤ 6000 ∧ ∀ x ∈ ts, x.t.size ≤ 6000 ∧ x.u.size ≤ 6000 := by
 have h6 : sizeT ts ≤ 6000 := by unfold largeT at h; rw [decide_eq_false_iff_not] at h; omega
 clear h
 induction ts with
 | nil => exact ⟨Nat.zero_le _, fun x hx => by cases hx⟩
 | cons y ts ih =>
  have e : sizeT (y :: ts) = (1 + min y.t.size 6000 + min y.u.size 6000) + sizeT ts := by simp [sizeT]
  have hl : ts.length ≤ sizeT ts := by
   clear ih e h6
   induction ts with
   | nil => exact Nat.zero_le _
   | cons z ts ih => have e : sizeT (z :: ts) = (1 + min z.t.size 6000 + min z.u.size 6000) + sizeT ts := by simp [sizeT]
                     rw [List.length_cons, e]; omega
  obtain ⟨h1, h2⟩ := ih (by omega)
  refine ⟨by rw [List.length_cons]; omega, fun x hx => ?_⟩
  rcases List.mem_cons.1 hx with rfl | hx
  · omega
  · exact h2 x hx
theorem mild_small {ts : List Nd} (h : largeT ts = false) : Mild ts := ⟨by have := (mild_of h).1; omega, fun x hx => by have := (mild_of h).2 x hx; omega⟩
set_option maxHeartbeats 4000000 in
set_option maxRecDepth 100000 in
theorem kBare_c {w : World} {A : Option Addr} {n c : Nat} {ts : List Nd} (h : TreR w A n c ts) (hn6 : n ≤ 1000000) :
 Calls Tryd.prog 24 #[.slice A n c] w fun e w' => ∃ A2 c2, e = .returned (.slice A2 n c2) ∧ OwnT w' w.heap.size A2 n c2 (ts.map bareN) ∧ Below w.heap.size w w' := by
 have hn := h.1
 have HN := Lib.hid hn
 have HO := Lib.hid (kOwnT_c h hn6)
 clear h hn
 go_enter Tryd.func24, Tryd.ntmps24
 go_wp2_with fail
 refine HO.out.mono ?_
 rintro e w1 ⟨A2, c2, rfl, ho, bn⟩
 have HO0 : Hid (OwnT w1 w.heap.size A2 n c2 (atL 0 ts 0)) := by show OwnT _ _ _ _ _ _; rw [atL_zero]; exact ho
 have hcc := ho.2.caps.1
 have HB0 := Lib.hid bn
 clear ho bn HO
 go_wp2
 go_loopw [4] (fun i wr => ∃ k : Nat, i = .int .i64 (k : Int) ∧ k ≤ n ∧ Hid (OwnT wr w.heap.size A2 n c2 (atL 0 ts k)) ∧ Hid (Below w.heap.size w wr)) (fun i _ => n - (intOf i).toNat)
 case atStart => exact ⟨0, rfl, Nat.zero_le _, HO0, HB0⟩
 case round =>
  obtain ⟨k, rfl, hk, HO, HB⟩ := hrel
  by_cases hlt : k < n
  · skip
    obtain ⟨x, hx⟩ : ∃ x, ts[k]? = some x := ⟨_, List.getElem?_eq_getElem (by rw [← HN.out]; exact hlt)⟩
    have hx2 : (atL 0 ts k)[k]? = some x := map_at_step hx
    obtain ⟨g, rfl, hgB, _⟩ := HO.out.blk (by omega)
    have c6 := HO.out.inV hx2 6 (.int .i64 x.p) rfl
    have f6 := HO.out.free (k * 7 + 6)
    have HO2 : Hid (OwnT (wr.setCell ⟨g, k * 7 + 6, none⟩ (.int .i64 0)) w.heap.size (some ⟨g, 0, none⟩) n c2 (atL 0 ts (k + 1))) := by
     show OwnT _ _ _ _ _ _
     have h := HO.out.set (r := 6) (y := { x with p := 0 }) (v := .int .i64 0) hx2 (by decide) rfl
     unfold atL at h ⊢
     rw [map_set_step (f := fun x => { x with p := 0 }) hx] at h
     exact h
    have HB2 := Lib.hid (below_set HB.out hgB (k * 7 + 6) (.int .i64 0))
    clear hx hx2 HO HB
    go_wp2
    go_roundw
    case rel => exact ⟨k + 1, by go_num, hlt, HO2, HB2⟩
    case measure => simp [intOf]; omega
  · obtain rfl : n = k := by omega
    have HOf : Hid (OwnT wr w.heap.size A2 n c2 (ts.map bareN)) := by show OwnT _ _ _ _ _ _; have h := HO.out; rw [HN.out, atL_all] at h; rw [HN.out]; exact h
    go_wp2
    go_ret
    exact ⟨_, _, rfl, HOf.out, HB.out⟩
set_option maxHeartbeats 4000000 in
set_option maxRecDepth 100000 in
theorem kLarge_c {w : World} {A : Option Addr} {n c : Nat} {ts : List Nd} (h : TreR w A n c ts) (v : Bool) (hv : largeT ts = v) :
 Calls Tryd.prog 7 #[.slice A n c] w fun e w' => e = .returned (.bool v) ∧ Below w.heap.size w w' := by
 obtain ⟨hn, hc, hcm, _⟩ := id h
 have H := Lib.hid h
 have HN := Lib.hid hn
 have HV := Lib.hid hv
 have eq1 : maxLen = 9223372036854775807 := rfl
 clear h hn hv
 go_enter Tryd.func7, Tryd.ntmps7
 go_wp2
 go_loopw [3, 4] (fun s i wr => ∃ k0 m : Nat, s = .int .i64 (m : Int) ∧ i = .int .i64 (k0 : Int) ∧ k0 ≤ n ∧ m ≤ 18002 ∧ Hid (sizeT (ts.take k0) = m) ∧ Hid (Below w.heap.size w wr)) (fun _ i _ => n - (intOf i).toNat)
 case atStart => exact ⟨0, 0, rfl, rfl, Nat.zero_le _, by omega, rfl, Below.refl _ _⟩
 case round =>
  obtain ⟨k0, m, rfl, rfl, hk, hm, HS, HB⟩ := hrel
  have bigF : 6000 < m → Hid (v = true) := fun hb => by
   show _ = _
   rw [← HV.out]
   exact decide_eq_true (by have := sizeT_le ts k0; rw [HS.out] at this; omega)
  by_cases hlt : k0 < n
  · by_cases hb : 6000 < m
    · have HVt := bigF hb
      have eb : decide ((6000 : Int) < (m : Int)) = true := decide_eq_true (by omega)
      clear bigF
      go_wp2
      go_ret
      exact ⟨by rw [HVt.out]; rfl, HB.out⟩
    · skip
      clear bigF
      have hb7 : decide ((m : Int) ≤ 6000) = true := decide_eq_true (by omega)
      have hb8 : decide (m ≤ 6000) = true := decide_eq_true (by omega)
      obtain ⟨x, hx⟩ : ∃ x, ts[k0]? = some x := ⟨_, List.getElem?_eq_getElem (by rw [← HN.out]; exact hlt)⟩
      have hsn := sizeT_next hx
      rw [HS.out] at hsn
      obtain ⟨g, og, rfl, hg, hin⟩ := (H.out.below HB.out).at hx
      have c4 := hin 4 (.string x.t) rfl
      have c5 := hin 5 (.string x.u) rfl
      obtain ⟨kk, a, b, j, t, u, p⟩ := x
      dsimp only at c4 c5 hsn
      obtain ⟨mt, hmt⟩ : ∃ q, min t.size 6000 = q := ⟨_, rfl⟩
      obtain ⟨mu, hmu⟩ : ∃ q, min u.size 6000 = q := ⟨_, rfl⟩
      rw [hmt, hmu] at hsn
      have HSn := Lib.hid hsn
      have et : min (t.size : Int) 6000 = (mt : Int) := by omega
      have eu : min (u.size : Int) 6000 = (mu : Int) := by omega
      have hmt6 : mt ≤ 6000 := by omega
      have hmu6 : mu ≤ 6000 := by omega
      have HG := Lib.hid hg
      have C4 := Lib.hid c4
      have C5 := Lib.hid c5
      have HMT := Lib.hid et
      have HMU := Lib.hid eu
      clear hx hin hsn hg HS c4 c5 hmt hmu et eu
      go_wp2
      generalize wr = wS at *
      have g1 : (k0 : Int) < (n : Int) := by omega
      refine region_freed 18 1 12 [15, 16, 17, 18, 19, 20, 21, 22, 23, 24, 25, 26, 27, 28, 29, 30, 31, 32] ?aF4 (fun wx => Below wS.heap.size wS wx) (fun k vv wx => match k with
       | 0 => vv = .int .i64 (m : Int)
       | 1 => vv = .slice (some ⟨g, og, none⟩) n c
       | 2 => vv = .int .i64 (k0 : Int)
       | 3 => vv = .pointer (some ⟨g, og + k0 * 7, none⟩)
       | 4 => vv = .pointer (some ⟨g, og + k0 * 7 + 4, none⟩)
       | 5 => vv = .string t
       | 6 => vv = .int .i64 (t.size : Int)
       | 7 => vv = .int .i64 (mt : Int)
       | 8 => vv = .int .i64 (1 + (mt : Int))
       | 9 => vv = .slice (some ⟨g, og, none⟩) n c
       | 10 => vv = .int .i64 (k0 : Int)
       | 11 => vv = .pointer (some ⟨g, og + k0 * 7, none⟩)
       | 12 => vv = .pointer (some ⟨g, og + k0 * 7 + 5, none⟩)
       | 13 => vv = .string u
       | 14 => vv = .int .i64 (u.size : Int)
       | 15 => vv = .int .i64 (mu : Int)
       | 16 => vv = .int .i64 (1 + (mt : Int) + (mu : Int))
       | _ => vv = .int .i64 ((m : Int) + (1 + (mt : Int) + (mu : Int))))
       (fun k => false) (by kernel_rfl) ?haF4 rfl (by kernel_rfl) (by kernel_rfl) (fun _ _ _ _ _ h => h) ?hSb4 ?hPb4 ?hS4 ?hop4 ?hfin4
      case haF4 =>
       intro vals
       simp only [fillAll, List.getElem?_cons_zero, List.getElem?_cons_succ, Act.put, List.setIfInBounds_toArray, List.set_cons_zero, List.set_cons_succ]
       exact rfl
      case hSb4 => exact fun wx w2 hb hS => below_two hS hb
      case hPb4 =>
       intro k v wa wb hb h
       match k, h with
       | 0, h => exact h
       | 1, h => exact h
       | 2, h => exact h
       | 3, h => exact h
       | 4, h => exact h
       | 5, h => exact h
       | 6, h => exact h
       | 7, h => exact h
       | 8, h => exact h
       | 9, h => exact h
       | 10, h => exact h
       | 11, h => exact h
       | 12, h => exact h
       | 13, h => exact h
       | 14, h => exact h
       | 15, h => exact h
       | 16, h => exact h
       | _ + 17, h => exact h
      case hS4 => exact (Below.refl _ _).drew
      case hop4 =>
       refine .cons (k := 0) (.plain rfl ?_) (.cons (k := 1) (.plain rfl ?_) (.cons (k := 2) (.plain rfl ?_) (.cons (k := 3) (.plain rfl ?_) (.cons (k := 4) (.plain rfl ?_) (.cons (k := 5) (.plain rfl ?_) (.cons (k := 6) (.plain rfl ?_) (.cons (k := 7) (.plain rfl ?_) (.cons (k := 8) (.plain rfl ?_) (.cons (k := 9) (.plain rfl ?_) (.cons (k := 10) (.plain rfl ?_) (.cons (k := 11) (.plain rfl ?_) (.cons (k := 12) (.plain rfl ?_) (.cons (k := 13) (.plain rfl ?_) (.cons (k := 14) (.plain rfl ?_) (.cons (k := 15) (.plain rfl ?_) (.cons (k := 16) (.plain rfl ?_) (.cons (k := 17) (.plain rfl ?_) (.nil))))))))))))))))))
       all_goals intro vals wr hS hd KC hK
       all_goals (show Oper.wp _ _ _ _ _ _; dsimp only)
       · go_simp
         refine hK _ _ rfl (Below.refl _ _) (by first | rfl | simp) (fun h => by cases h)
       · go_simp
         refine hK _ _ rfl (Below.refl _ _) (by first | rfl | simp) (fun h => by cases h)
       · go_simp
         refine hK _ _ rfl (Below.refl _ _) (by first | rfl | simp) (fun h => by cases h)
       · have d1 : vals 1 = _ := hd 1 (by decide +kernel)
         have d2 : vals 2 = _ := hd 2 (by decide +kernel)
         rw [d1, d2]
         go_simp
         refine hK _ _ rfl (Below.refl _ _) (by first | rfl | simp) (fun h => by cases h)
       · have d3 : vals 3 = _ := hd 3 (by decide +kernel)
         rw [d3]
         go_simp
         refine hK _ _ rfl (Below.refl _ _) (by first | rfl | simp) (fun h => by cases h)
       · have d4 : vals 4 = _ := hd 4 (by decide +kernel)
         rw [d4]
         have z0 := (hS.cell (p := ⟨g, og + k0 * 7 + 4, none⟩) HG.out).trans C4.out
         go_simp
         refine hK _ _ rfl (Below.refl _ _) (by first | rfl | simp) (fun h => by cases h)
       · have d5 : vals 5 = _ := hd 5 (by decide +kernel)
         rw [d5]
         go_simp
         refine hK _ _ rfl (Below.refl _ _) (by first | rfl | simp) (fun h => by cases h)
       · have d6 : vals 6 = _ := hd 6 (by decide +kernel)
         rw [d6]
         have hm1 := HMT.out
         go_simp
         refine hK _ _ rfl (Below.refl _ _) (by first | rfl | simp) (fun h => by cases h)
       · have d7 : vals 7 = _ := hd 7 (by decide +kernel)
         rw [d7]
         have hwr : IntKind.i64.wrap (1 + (mt : Int)) = 1 + (mt : Int) := by rw [IntKind.wrap_i64]; omega
         go_simp
         refine hK _ _ rfl (Below.refl _ _) (by first | rfl | simp) (fun h => by cases h)
       · go_simp
         refine hK _ _ rfl (Below.refl _ _) (by first | rfl | simp) (fun h => by cases h)
       · go_simp
         refine hK _ _ rfl (Below.refl _ _) (by first | rfl | simp) (fun h => by cases h)
       · have d9 : vals 9 = _ := hd 9 (by decide +kernel)
         have d10 : vals 10 = _ := hd 10 (by decide +kernel)
         rw [d9, d10]
         go_simp
         refine hK _ _ rfl (Below.refl _ _) (by first | rfl | simp) (fun h => by cases h)
       · have d11 : vals 11 = _ := hd 11 (by decide +kernel)
         rw [d11]
         go_simp
         refine hK _ _ rfl (Below.refl _ _) (by first | rfl | simp) (fun h => by cases h)
       · have d12 : vals 12 = _ := hd 12 (by decide +kernel)
         rw [d12]
         have z0 := (hS.cell (p := ⟨g, og + k0 * 7 + 5, none⟩) HG.out).trans C5.out
         go_simp
         refine hK _ _ rfl (Below.refl _ _) (by first | rfl | simp) (fun h => by cases h)
       · have d13 : vals 13 = _ := hd 13 (by decide +kernel)
         rw [d13]
         go_simp
         refine hK _ _ rfl (Below.refl _ _) (by first | rfl | simp) (fun h => by cases h)
       · have d14 : vals 14 = _ := hd 14 (by decide +kernel)
         rw [d14]
         have hm1 := HMU.out
         go_simp
         refine hK _ _ rfl (Below.refl _ _) (by first | rfl | simp) (fun h => by cases h)
       · have d8 : vals 8 = _ := hd 8 (by decide +kernel)
         have d15 : vals 15 = _ := hd 15 (by decide +kernel)
         rw [d8, d15]
         have hwr : IntKind.i64.wrap (1 + (mt : Int) + (mu : Int)) = 1 + (mt : Int) + (mu : Int) := by rw [IntKind.wrap_i64]; omega
         go_simp
         refine hK _ _ rfl (Below.refl _ _) (by first | rfl | simp) (fun h => by cases h)
       · have d0 : vals 0 = _ := hd 0 (by decide +kernel)
         have d16 : vals 16 = _ := hd 16 (by decide +kernel)
         rw [d0, d16]
         have hwr : IntKind.i64.wrap ((m : Int) + (1 + (mt : Int) + (mu : Int))) = (m : Int) + (1 + (mt : Int) + (mu : Int)) := by rw [IntKind.wrap_i64]; omega
         go_simp
         refine hK _ _ rfl (Below.refl _ _) (by first | rfl | simp) (fun h => by cases h)
      case hfin4 =>
       intro vals wr hS hP hne
       have ez_17 : vals 17 = _ := hP 17 (by decide)
       try dsimp only
       rw [ez_17]
       refine wpAny_ready (rs := [18]) (by kernel_rfl) (by simp) (AllReady.cons rfl (fun KC hK => ?_) AllReady.nil)
       go_simp
       refine hK _ _ ?_
       clear hK KC
       refine wpAny_done (by kernel_rfl) ?_ _
       go_wp2
       have HB2 := Lib.hid (below_two HB.out hS)
       clear hS hP hne
       go_roundw
       case rel => exact ⟨k0 + 1, m + (1 + mt + mu), by first | rfl | (go_num), by go_num, hlt, by omega, HSn, HB2⟩
       case measure => simp [intOf]; omega
  · obtain rfl : n = k0 := by omega
    have HVf : Hid (v = decide (6000 < m)) := by show _ = _; rw [← HV.out]; unfold largeT; have h := HS.out; rw [HN.out, List.take_length] at h; rw [h]
    clear bigF
    have eb : decide ((6000 : Int) < (m : Int)) = v := by rw [HVf.out, decide_eq_decide]; omega
    have eb2 : decide (6000 < m) = v := HVf.out.symm
    clear HVf
    go_wp2
    go_ret
    exact ⟨rfl, HB.out⟩
end Go.Proofs.YtbddhflmknaadaaDoor

/- What the reference of layer 14 answers (Good, whole, Leaf, Over), as contracts over memory. Conditions: rows of nodes that can be read, at most 10^6 of them, texts of at most 10^6 bytes. -/
namespace Go.Proofs.YtbddhflmknaadaaDoor
open Go.RowKit Limb
set_option linter.unusedVariables false
def wholeT (ts : List Nd) : List Nd := if goodT ts = true then ts else []
theorem wholeT_yes {ts : List Nd} (h : goodT ts = true) : wholeT ts = ts := if_pos h
theorem wholeT_no {ts : List Nd} (h : goodT ts = false) : wholeT ts = [] := if_neg (by rw [h]; decide)
set_option maxHeartbeats 4000000 in
set_option maxRecDepth 100000 in
theorem rTGood_c {w : World} {A : Option Addr} {n c : Nat} {ts : List Nd} (h : TreR w A n c ts) (hm : Mild ts) (v : Bool) (hv : goodT ts = v) :
 Calls Tryd.prog 19 #[.slice A n c] w fun e w' => e = .returned (.bool v) ∧ Below w.heap.size w w' := by
 obtain ⟨hn, hc, hcm, _⟩ := id h
 have hn6 := hm.1
 rw [← hn] at hn6
 have HBg := Lib.hid (rBegin_c h hm)
 have HN := Lib.hid hn
 clear h hm hn
 by_cases h0 : n < 1
 · rw [goodT_empty (by rw [← HN.out]; exact h0)] at hv
   subst hv
   obtain rfl : n = 0 := by omega
   clear HBg
   go_enter Tryd.func19, Tryd.ntmps19
   go_wp2
   go_ret
   exact ⟨rfl, Below.refl _ _⟩
 · by_cases h2 : 2000 < n
   · rw [goodT_long (by rw [← HN.out]; exact h2)] at hv
     subst hv
     have e1 : decide ((n : Int) < 1) = false := decide_eq_false (by omega)
     have e2 : decide ((2000 : Int) < (n : Int)) = true := decide_eq_true (by omega)
     clear HBg
     go_enter Tryd.func19, Tryd.ntmps19
     go_wp2
     go_ret
     exact ⟨rfl, Below.refl _ _⟩
   · have e1 : decide ((n : Int) < 1) = false := decide_eq_false (by omega)
     have e2 : decide ((2000 : Int) < (n : Int)) = false := decide_eq_false (by omega)
     have HV := Lib.hid hv
     clear hv
     go_enter Tryd.func19, Tryd.ntmps19
     go_wp2_with fail
     refine HBg.out.mono ?_
     rintro e w1 ⟨B, m, d, rfl, hO, bn⟩
     have HO := Lib.hid hO
     have HB := Lib.hid bn
     clear hO bn HBg
     cases hb : begT ts with
     | none =>
      rw [hb] at HO
      have hm0 : m = 0 := HO.out.1
      subst hm0
      have HV0 : Hid (v = false) := by show _ = _; rw [← HV.out]; exact goodT_no hb
      have em : ((0 : Int) == (n : Int)) = false := by rw [beq_eq_false_iff_ne]; omega
      clear hb
      go_wp2
      go_ret
      exact ⟨by rw [HV0.out]; rfl, HB.out⟩
     | some os =>
      rw [hb] at HO
      have HO2 : Hid (NumO w1 w.heap.size B m d os) := HO.out
      have hol := begT_len hb
      have hmn : m = n := by rw [HO2.out.1, HN.out, hol]
      subst hmn
      obtain ⟨j, hj⟩ : ∃ j, m = j + 1 := ⟨m - 1, by omega⟩
      obtain ⟨gB, rfl, hcl⟩ := HO2.out.cell (j := j) (by rw [hol, ← HN.out]; omega)
      obtain ⟨z, hz⟩ : ∃ z, os.getD j 0 = z := ⟨_, rfl⟩
      rw [hz] at hcl
      have hv2 : v = decide (z = 0) := by
       rw [← HV.out, goodT_of hb (by rw [← HN.out]; omega) (by rw [← HN.out]; omega), ← HN.out, hj, Nat.add_sub_cancel, ← hz]
       congr 2
       rw [List.getD_eq_getElem?_getD, List.getD_eq_getElem?_getD, List.getElem?_eq_getElem (by rw [hol, ← HN.out]; omega)]
       rfl
      have ez : ((z : Int) == 0) = v := by rw [hv2, Bool.eq_iff_iff, beq_iff_eq, decide_eq_true_eq]; omega
      have hw1 : (m : Int) - 1 = (j : Int) := by omega
      have hjl : (j : Int) < (m : Int) := by omega
      clear hb hol hz hv2 HO HO2 hj
      go_wp2
      go_ret
      exact ⟨rfl, HB.out⟩
set_option maxHeartbeats 4000000 in
set_option maxRecDepth 100000 in
theorem rWhole_c {w : World} {A : Option Addr} {n c : Nat} {ts : List Nd} (h : TreR w A n c ts) (hm : Mild ts) :
 Calls Tryd.prog 27 #[.slice A n c] w fun e w' => ∃ A2 n2 c2, e = .returned (.slice A2 n2 c2) ∧ TreR w' A2 n2 c2 (wholeT ts) ∧ Below w.heap.size w w' := by
 cases hg : goodT ts
 · skip
   have HG := Lib.hid (rTGood_c h hm false hg)
   have HH := Lib.hid h
   have Hg := Lib.hid hg
   clear h hm hg
   go_enter Tryd.func27, Tryd.ntmps27
   go_wp2_with fail
   refine HG.out.mono ?_
   rintro e w1 ⟨rfl, bn⟩
   have HB := Lib.hid bn
   have HT := Lib.hid (HH.out.below bn)
   clear bn HG HH
   go_wp2
   go_ret
   exact ⟨none, 0, 0, rfl, by rw [wholeT_no Hg.out]; exact TreR.nil _ (Nat.zero_le _), HB.out⟩
 · skip
   have HG := Lib.hid (rTGood_c h hm true hg)
   have HH := Lib.hid h
   have Hg := Lib.hid hg
   clear h hm hg
   go_enter Tryd.func27, Tryd.ntmps27
   go_wp2_with fail
   refine HG.out.mono ?_
   rintro e w1 ⟨rfl, bn⟩
   have HB := Lib.hid bn
   have HT := Lib.hid (HH.out.below bn)
   clear bn HG HH
   go_wp2
   go_ret
   exact ⟨_, _, _, rfl, by rw [wholeT_yes Hg.out]; exact HT.out, HB.out⟩
set_option maxHeartbeats 4000000 in
set_option maxRecDepth 100000 in
theorem rLeaf_c (kk a b j : Int) (t u : ByteArray) (p : Int) (ht : t.size ≤ 1000000) (hu : u.size ≤ 1000000) (w : World) :
 Calls Tryd.prog 15 #[.agg (ndC kk a b j t u p)] w fun e w' => ∃ A2 n2 c2, e = .returned (.slice A2 n2 c2) ∧ TreR w' A2 n2 c2 (wholeT [⟨kk, a, b, j, t, u, p⟩]) ∧ Below w.heap.size w w' := by
 have b1 := below_new w (.cells (ndC kk a b j t u p) 37)
 have b2 := below_new (w.alloc (.cells (ndC kk a b j t u p) 37)) (.cells (ndC kk a b j t u p) 37)
 have HI_x : Hid (InV (w.alloc (.cells (ndC kk a b j t u p) 37)) w.heap.size 0 (ndC kk a b j t u p)) := (rowA_new w 37 (ndC kk a b j t u p)).inV
 have HM_x := Lib.hid (manyNd kk a b j t u p)
 have hnr : NdR ((w.alloc (.cells (ndC kk a b j t u p) 37)).alloc (.cells (ndC kk a b j t u p) 37)) (w.alloc (.cells (ndC kk a b j t u p) 37)).heap.size [⟨kk, a, b, j, t, u, p⟩] := NdR.one (rowA_new (w.alloc (.cells (ndC kk a b j t u p) 37)) 37 (ndC kk a b j t u p))
 have HT : Hid (TreR ((w.alloc (.cells (ndC kk a b j t u p) 37)).alloc (.cells (ndC kk a b j t u p) 37)) (some ⟨w.heap.size + 1, 0, none⟩) 1 1 [⟨kk, a, b, j, t, u, p⟩]) := by
  have h := hnr.tree (by show 1 ≤ maxLen; unfold maxLen; omega)
  rw [World.size_alloc] at h
  exact h
 have HMi : Hid (Mild [(⟨kk, a, b, j, t, u, p⟩ : Nd)]) := ⟨by show 1 ≤ 1000000; omega, fun y hy => by rw [List.mem_singleton.1 hy]; exact ⟨ht, hu⟩⟩
 have HB := Lib.hid (below_two b1 b2)
 clear b1 b2 hnr
 go_enter Tryd.func15, Tryd.ntmps15
 go_wp2_with (refine wpList_loadV (by rfl) _ _ (by rfl) _ _ (by rfl) _ (by assumption) (by assumption) ?_)
 refine (rWhole_c HT.out HMi.out).mono ?_
 rintro e w2 ⟨A2, n2, c2, rfl, htr, bn⟩
 have HTR := Lib.hid htr
 have HB2 := Lib.hid (below_two HB.out bn)
 clear htr bn
 go_wp2
 go_ret
 exact ⟨_, _, _, rfl, HTR.out, HB2.out⟩
set_option maxHeartbeats 4000000 in
set_option maxRecDepth 100000 in
theorem rOver_c (kk j : Int) {w : World} {A : Option Addr} {n c : Nat} {ts : List Nd} (h : TreR w A n c ts) (hm : Mild ts) :
 Calls Tryd.prog 17 #[.slice A n c, .int .i64 kk, .int .i64 j] w fun e w' => ∃ A2 n2 c2, e = .returned (.slice A2 n2 c2) ∧ TreR w' A2 n2 c2 (if goodT ts = true then wholeT (ts ++ [⟨kk, (n : Int) - 1, 0, j, ⟨#[]⟩, ⟨#[]⟩, 0⟩]) else []) ∧ Below w.heap.size w w' := by
 cases hg : goodT ts
 · skip
   have HG := Lib.hid (rTGood_c h hm false hg)
   have HH := Lib.hid h
   have HMi := Lib.hid hm
   have Hg := Lib.hid hg
   have hn6 := hm.1
   rw [← h.1] at hn6
   clear h hm hg
   go_enter Tryd.func17, Tryd.ntmps17
   go_wp2_with fail
   refine HG.out.mono ?_
   rintro e w1 ⟨rfl, bn⟩
   have HB := Lib.hid bn
   have HT := Lib.hid (HH.out.below bn)
   clear bn HG HH
   go_wp2
   go_ret
   exact ⟨none, 0, 0, rfl, by first | exact TreR.nil _ (Nat.zero_le _) | (rw [if_neg (by rw [Hg.out]; decide)]; exact TreR.nil _ (Nat.zero_le _)), HB.out⟩
 · skip
   have HG := Lib.hid (rTGood_c h hm true hg)
   have HH := Lib.hid h
   have HMi := Lib.hid hm
   have Hg := Lib.hid hg
   have hn6 := hm.1
   rw [← h.1] at hn6
   clear h hm hg
   go_enter Tryd.func17, Tryd.ntmps17
   go_wp2_with fail
   refine HG.out.mono ?_
   rintro e w1 ⟨rfl, bn⟩
   have HB := Lib.hid bn
   have HT := Lib.hid (HH.out.below bn)
   clear bn HG HH
   have hn2 := (good_all Hg.out).2.1
   rw [← HT.out.1] at hn2
   have HBd : Hid (∀ W, (Instr.build 37 ([(0, .int .i64 kk), (1, .int .i64 ((n : Int) - 1)), (3, .int .i64 j)] : List (Nat × Value)).toArray).run Tryd.prog W = .ok (.agg (ndC kk ((n : Int) - 1) 0 j ⟨#[]⟩ ⟨#[]⟩ 0)) W) := fun W => by kernel_rfl
   have bl0 := below_new w1 (.cells #[] 37)
   have Hx := Lib.hid (TreR.below HT.out bl0)
   have Hown := Lib.hid (own_nd0 w1)
   have Hb : Hid (0 ≤ 1000000 ∧ n ≤ 1000000 ∧ w1.heap.size ≤ (w1.alloc (.cells #[] 37)).heap.size) := ⟨by omega, by omega, by simp⟩
   clear bl0
   go_wp2_with (at_builtin; refine wpList_append_nd rfl _ _ rfl w1.heap.size _ 0 [] rfl Hown A n c ts rfl Hx Hb ?_)
   intro A2 c2 w2 hO hg2
   have HB2 := Lib.hid (below_two HB.out (below_lit hg2.out (Nat.le_refl _)))
   have ho2 : OwnT w2 w1.heap.size A2 n c2 ts := ⟨HT.out.1, by have h := hO.out; simpa using h⟩
   have b2 := below_new w2 (.cells (ndC kk ((n : Int) - 1) 0 j ⟨#[]⟩ ⟨#[]⟩ 0) 37)
   have Hw12 : w1.heap.size ≤ w2.heap.size := by have := hg2.out.size; simp at this; omega
   have Hown2 : Hid ((w2.alloc (.cells (ndC kk ((n : Int) - 1) 0 j ⟨#[]⟩ ⟨#[]⟩ 0) 37)).ownsRow w1.heap.size 37 7 (.slice A2 n c2) n (ndCells ts)) := (ho2.below b2).2
   have hnr : NdR (w2.alloc (.cells (ndC kk ((n : Int) - 1) 0 j ⟨#[]⟩ ⟨#[]⟩ 0) 37)) w2.heap.size [(⟨kk, (n : Int) - 1, 0, j, ⟨#[]⟩, ⟨#[]⟩, 0⟩ : Nd)] := NdR.one (rowA_new w2 37 (ndC kk ((n : Int) - 1) 0 j ⟨#[]⟩ ⟨#[]⟩ 0))
   have Hx2 : Hid (TreR (w2.alloc (.cells (ndC kk ((n : Int) - 1) 0 j ⟨#[]⟩ ⟨#[]⟩ 0) 37)) (some ⟨w2.heap.size, 0, none⟩) 1 1 [(⟨kk, (n : Int) - 1, 0, j, ⟨#[]⟩, ⟨#[]⟩, 0⟩ : Nd)]) := hnr.tree (by show 1 ≤ maxLen; unfold maxLen; omega)
   have Hb2 : Hid (n ≤ 1000000 ∧ 1 ≤ 1000000 ∧ w1.heap.size ≤ (w2.alloc (.cells (ndC kk ((n : Int) - 1) 0 j ⟨#[]⟩ ⟨#[]⟩ 0) 37)).heap.size) := ⟨by omega, by omega, by simp; omega⟩
   have HB3 := Lib.hid (below_two HB2.out b2)
   have Hsz := Lib.hid Hw12
   clear hO hg2 ho2 b2 hnr Hown Hx Hb Hw12 HB2
   try rw [Nat.zero_add]
   go_wp2_with (first | (refine wpList_buildV (by rfl) _ _ (by rfl) _ (by rfl) _ (by assumption) ?_) | (at_builtin; refine wpList_append_nd rfl _ _ rfl w1.heap.size _ n ts rfl Hown2 (some ⟨w2.heap.size, 0, none⟩) 1 1 [(⟨kk, (n : Int) - 1, 0, j, ⟨#[]⟩, ⟨#[]⟩, 0⟩ : Nd)] rfl Hx2 Hb2 ?_))
   intro A3 c3 w3 hO3 hg3
   have HB4 : Hid (Below w.heap.size w w3) := by
    refine HB3.out.grown hg3.out ?_ fun g hg => ?_
    · have := HB3.out.size; exact this
    · have h9 := OwnR.lt (show OwnR (w2.alloc (.cells (ndC kk ((n : Int) - 1) 0 j ⟨#[]⟩ ⟨#[]⟩ 0) 37)) w1.heap.size 37 7 A2 n c2 (ndCells ts) from Hown2.out) g hg
      have := HB.out.size; omega
   have ht3 : OwnT w3 w1.heap.size A3 (n + 1) c3 (ts ++ [(⟨kk, (n : Int) - 1, 0, j, ⟨#[]⟩, ⟨#[]⟩, 0⟩ : Nd)]) := ⟨by rw [List.length_append, HT.out.1]; rfl, hO3.out⟩
   have HT3 := Lib.hid ht3.tree
   have HM3 : Hid (Mild (ts ++ [(⟨kk, (n : Int) - 1, 0, j, ⟨#[]⟩, ⟨#[]⟩, 0⟩ : Nd)])) := ⟨by rw [List.length_append, ← HT.out.1]; show n + 1 ≤ _; omega, fun y hy => by rcases List.mem_append.1 hy with h | h; exact HMi.out.2 y h; rw [List.mem_singleton.1 h]; exact ⟨Nat.zero_le _, Nat.zero_le _⟩⟩
   clear hO3 hg3 ht3 Hown2 Hx2 Hb2 HB3
   go_wp2_with fail
   refine (rWhole_c HT3.out HM3.out).mono ?_
   rintro e w4 ⟨A4, n4, c4, rfl, htr, bn⟩
   have HTR := Lib.hid htr
   have HB5 := Lib.hid (below_two HB4.out bn)
   clear htr bn
   go_wp2
   go_ret
   exact ⟨_, _, _, rfl, by first | exact HTR.out | (rw [if_pos Hg.out]; exact HTR.out), HB5.out⟩
end Go.Proofs.YtbddhflmknaadaaDoor
