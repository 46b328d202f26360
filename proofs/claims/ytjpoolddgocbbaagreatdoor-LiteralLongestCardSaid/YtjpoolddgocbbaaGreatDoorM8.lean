/- Part 8 of the texts that the statements of this seat lean on: mathematics, and what functions answer, as contracts over memory; each part says its own conditions. -/
import Derived.Test.YtjpoolddgocbbaaGreatDoorM7
import Derived.Lib.SliceRun
import Derived.RangeFuncOwn
import Derived.Lib.AtoiErrMem
import Derived.Lib.LaidTab
import Derived.Stop.LaidErr
import Derived.ProofKit
import Derived.OpenShut
import Derived.ShutString
import Derived.ChangeOld
import Derived.ChangeArms
/- What the reference of layer 9 answers (Parse), as a contract over memory: the number of a literal, or why there is none. Condition: texts that can be read. -/
namespace Go.Proofs.YtjpoolddgocbbaaGreatDoor
open Go.RowKit Limb
set_option linter.unusedVariables false
theorem ten_v (N : Nat) (V : Int) (hV : V = N) (T : Nat) (hT : 10 ^ N = T) (w : World) (h1 : N ≤ 10000) (K : Nat) (hK : T < 4294967296 ^ K) :
    Calls Tryz.prog 29 #[.int .i64 V] w fun e w' => ∃ A1 n1 c1, e = .returned (.slice A1 n1 c1) ∧ NN w' A1 n1 c1 (limbs T) T K ∧ Below w.heap.size w w' := by
  subst hV; subst hT; exact refTen_c N w h1 K hK
/-- A sign as a factor. -/
def sgI (b : Bool) : Int := if b = true then -1 else 1

set_option maxHeartbeats 2000000 in
set_option maxRecDepth 100000 in
theorem refLParse_c (s : ByteArray) (hs : s.size ≤ 9223372036854775807) (w : World) (r : Option Rat) (e : Int) (hR : litR (bytesOf s) = (r, e)) :
    Calls Tryz.prog 9 #[.string s] w fun ee w' => ∃ A2 n2 c2 B2 m2 d2, ee = .returned (.agg #[.bool (sg (oTop r)), .slice A2 n2 c2, .slice B2 m2 d2, .int .i64 e]) ∧ QT w' A2 n2 c2 B2 m2 d2 r ∧ Below w.heap.size w w' := by
  cases hg : litGood (bytesOf s) with
  | false =>
    have HG := Lib.hid hg
    rw [litR_no hg] at hR
    cases hR
    clear hg
    have hl := length_bytesOf s
    have HL := Lib.hid hl
    have b0 := below_new w (.cells #[Value.bool false, Value.slice none 0 0, Value.slice none 0 0, Value.int IntKind.i64 0] 33)
    have HW := Lib.hid b0
    have rz := row4_new w 33 (.bool false) (.slice none 0 0) (.slice none 0 0) (.int .i64 0)
    have Hq : RowKit.Hid (w.heap.size ≤ w.heap.size) := Nat.le_refl _
    clear hl b0
    go_enter Tryz.func9, Tryz.ntmps9
    go_wp2_with fail
    generalize w.alloc (.cells #[Value.bool false, Value.slice none 0 0, Value.slice none 0 0, Value.int IntKind.i64 0] 33) = w1 at *
    have HZ := Lib.hid rz
    clear rz
    refine (refLGood_c s hs _ false HG.out).mono ?_
    rintro e w2 ⟨rfl, rfl⟩
    have e0 := HZ.out.c0
    have e1 := HZ.out.c1
    have e2 := HZ.out.c2
    have e3 := HZ.out.c3
    have f0 := HZ.out.free 0
    have f1 := HZ.out.free 1
    have f2 := HZ.out.free 2
    have f3 := HZ.out.free 3
    have HF := Lib.hid (HZ.out.fill (.bool false) (.slice none 0 0) (.slice none 0 0) (.int .i64 12))
    have HB := Lib.hid (below_fill4 HW.out Hq.out (.bool false) (.slice none 0 0) (.slice none 0 0) (.int .i64 12))
    go_wp2
    refine bodyPost_ret (results_cell_row rfl _ _ _ 33 #[.bool false, .slice none 0 0, .slice none 0 0, .int .i64 12] (0, 0) _ rfl HF.out Tryz.underlying33 rfl got7_size) rfl ?_
    exact ⟨none, 0, 0, none, 0, 0, rfl, qt_none _ 0 0, HB.out⟩
  | true =>
    have HG := Lib.hid hg
    clear hg
    have hl := length_bytesOf s
    have HL := Lib.hid hl
    have b0 := below_new w (.cells #[Value.bool false, Value.slice none 0 0, Value.slice none 0 0, Value.int IntKind.i64 0] 33)
    have HW := Lib.hid b0
    have rz := row4_new w 33 (.bool false) (.slice none 0 0) (.slice none 0 0) (.int .i64 0)
    have Hq : RowKit.Hid (w.heap.size ≤ w.heap.size) := Nat.le_refl _
    clear hl b0
    go_enter Tryz.func9, Tryz.ntmps9
    go_wp2_with fail
    generalize w.alloc (.cells #[Value.bool false, Value.slice none 0 0, Value.slice none 0 0, Value.int IntKind.i64 0] 33) = w1 at *
    have HZ := Lib.hid rz
    clear rz
    refine (refLGood_c s hs _ true HG.out).mono ?_
    rintro e w2 ⟨rfl, rfl⟩
    go_wp2
    go_loopw [3, 4, 5, 6, 7, 8, 9] (fun dv pv xv sv tv ev iv wr => ∃ (i pl ex : Nat) (D : ByteArray) (ng pt ee : Bool), i ≤ s.size ∧ dv = .string D ∧ pv = .int .i64 (pl : Int) ∧ xv = .int .i64 (ex : Int) ∧ sv = .int .i64 (sgI ng) ∧ tv = .bool pt ∧ ev = .bool ee ∧ iv = .int .i64 (i : Int) ∧ RowKit.Hid (litRead ((bytesOf s).take i) = ⟨bytesOf D, pl, ex, ng, pt, ee⟩) ∧ w1 = wr) (fun _ _ _ _ _ _ iv _ => s.size - (intOf iv).toNat)
    case atStart => exact ⟨0, 0, 0, ⟨#[]⟩, false, false, false, Nat.zero_le _, rfl, rfl, rfl, rfl, rfl, rfl, rfl, rfl, rfl⟩
    case round =>
      obtain ⟨i, pl, ex, D, ng, pt, ee, hi, rfl, rfl, rfl, rfl, rfl, rfl, rfl, HT, rfl⟩ := hrel
      by_cases hlt : i < s.size
      · obtain ⟨d, hd_d⟩ : ∃ d, (s[i]'hlt).toNat = d := ⟨_, rfl⟩
        have L_d : RowKit.Hid (lim (bytesOf s) (i) = d) := by show _ = _; rw [← byte_at s (i) hlt, hd_d]
        obtain ⟨hx9, hp9, hd9⟩ := good_at HG.out i HT.out
        rw [length_bytesOf] at hd9
        have HS : RowKit.Hid (litRead ((bytesOf s).take (i + 1)) = litStep ⟨bytesOf D, pl, ex, ng, pt, ee⟩ d) := by
          show _ = _
          rw [read_step (by rw [HL.out]; exact hlt), HT.out, L_d.out]
        by_cases g1 : d = 46
        · have e46 : ((d : Int) == 46) = true := by rw [beq_iff_eq]; omega
          have HN : RowKit.Hid (litRead ((bytesOf s).take (i + 1)) = ⟨bytesOf D, pl, ex, ng, true, ee⟩) := by
            show _ = _
            rw [HS.out]
            exact if_pos g1
          clear HS HT L_d
          go_wp2
          go_roundw
          case rel => exact ⟨i + 1, pl, ex, D, ng, true, ee, by omega, rfl, by go_num, by go_num, rfl, rfl, rfl, by go_num, HN, by first | rfl | trivial⟩
          case measure => simp [intOf]; omega
        · by_cases g2 : d = 101
          · have e46 : ((d : Int) == 46) = false := by rw [beq_eq_false_iff_ne]; omega
            have e101 : ((d : Int) == 101) = true := by rw [beq_iff_eq]; omega
            have HN : RowKit.Hid (litRead ((bytesOf s).take (i + 1)) = ⟨bytesOf D, pl, ex, ng, pt, true⟩) := by
              show _ = _
              rw [HS.out]
              exact (if_neg g1).trans (if_pos g2)
            clear HS HT L_d
            go_wp2
            go_roundw
            case rel => exact ⟨i + 1, pl, ex, D, ng, pt, true, by omega, rfl, by go_num, by go_num, rfl, rfl, rfl, by go_num, HN, by first | rfl | trivial⟩
            case measure => simp [intOf]; omega
          · by_cases g3 : d = 45
            · have e46 : ((d : Int) == 46) = false := by rw [beq_eq_false_iff_ne]; omega
              have e101 : ((d : Int) == 101) = false := by rw [beq_eq_false_iff_ne]; omega
              have e45 : ((d : Int) == 45) = true := by rw [beq_iff_eq]; omega
              have HN : RowKit.Hid (litRead ((bytesOf s).take (i + 1)) = ⟨bytesOf D, pl, ex, true, pt, ee⟩) := by
                show _ = _
                rw [HS.out]
                exact (if_neg g1).trans ((if_neg g2).trans (if_pos g3))
              clear HS HT L_d
              go_wp2
              go_roundw
              case rel => exact ⟨i + 1, pl, ex, D, true, pt, ee, by omega, rfl, by go_num, by go_num, rfl, rfl, rfl, by go_num, HN, by first | rfl | trivial⟩
              case measure => simp [intOf]; omega
            · have e46 : ((d : Int) == 46) = false := by rw [beq_eq_false_iff_ne]; omega
              have e101 : ((d : Int) == 101) = false := by rw [beq_eq_false_iff_ne]; omega
              have e45 : ((d : Int) == 45) = false := by rw [beq_eq_false_iff_ne]; omega
              have hdd : 48 ≤ d ∧ d ≤ 57 := by have h := good_bytes HG.out (i := i) (by rw [HL.out]; exact hlt) L_d.out; omega
              obtain ⟨x, hx⟩ : ∃ x, d - 48 = x := ⟨_, rfl⟩
              have hx1 : x ≤ 9 := by omega
              have edd : IntKind.u8.wrap ((d : Int) - 48) = (x : Int) := by rw [IntKind.wrap_u8]; omega
              have ew : IntKind.i64.wrap (x : Int) = (x : Int) := by rw [IntKind.wrap_i64]; omega
              cases ee with
              | true =>
                have HN0 : litRead ((bytesOf s).take (i + 1)) = ⟨bytesOf D, pl, ex * 10 + (d - 48), ng, pt, true⟩ := by
                  rw [HS.out]
                  exact (if_neg g1).trans ((if_neg g2).trans ((if_neg g3).trans (if_pos rfl)))
                rw [hx] at HN0
                have hy9 := (good_at HG.out (i + 1) HN0).1
                obtain ⟨y, hy⟩ : ∃ y, ex * 10 + x = y := ⟨_, rfl⟩
                rw [hy] at HN0 hy9
                have ey : (ex : Int) * 10 + (x : Int) = (y : Int) := by omega
                have HN := Lib.hid HN0
                clear HN0 HS HT L_d hx hy hdd
                go_wp2
                go_roundw
                case rel => exact ⟨i + 1, pl, y, D, ng, pt, true, by omega, rfl, by go_num, by go_num, rfl, rfl, rfl, by go_num, HN, by first | rfl | trivial⟩
                case measure => simp [intOf]; omega
              | false =>
                cases pt with
                | true =>
                  have hcb : bytesOf (s.extract i (i + 1)) = [d] := byte_cut s i hlt L_d.out
                  have hcs : (s.extract i (i + 1)).size = 1 := by rw [← length_bytesOf, hcb]; rfl
                  obtain ⟨c, hc⟩ : ∃ c, s.extract i (i + 1) = c := ⟨_, rfl⟩
                  rw [hc] at hcb hcs
                  have HN : RowKit.Hid (litRead ((bytesOf s).take (i + 1)) = ⟨bytesOf (D ++ c), pl + 1, ex, ng, true, false⟩) := by
                    show _ = _
                    rw [HS.out, bytesOf_append, hcb]
                    exact (if_neg g1).trans ((if_neg g2).trans ((if_neg g3).trans (if_neg Bool.false_ne_true)))
                  clear HS HT L_d hx hdd hcb
                  go_wp2
                  go_roundw
                  case rel => exact ⟨i + 1, pl + 1, ex, D ++ c, ng, true, false, by omega, rfl, by go_num, by go_num, rfl, rfl, rfl, by go_num, HN, by first | rfl | trivial⟩
                  case measure => simp [intOf]; omega
                | false =>
                  have hcb : bytesOf (s.extract i (i + 1)) = [d] := byte_cut s i hlt L_d.out
                  have hcs : (s.extract i (i + 1)).size = 1 := by rw [← length_bytesOf, hcb]; rfl
                  obtain ⟨c, hc⟩ : ∃ c, s.extract i (i + 1) = c := ⟨_, rfl⟩
                  rw [hc] at hcb hcs
                  have HN : RowKit.Hid (litRead ((bytesOf s).take (i + 1)) = ⟨bytesOf (D ++ c), pl + 0, ex, ng, false, false⟩) := by
                    show _ = _
                    rw [HS.out, bytesOf_append, hcb]
                    exact (if_neg g1).trans ((if_neg g2).trans ((if_neg g3).trans (if_neg Bool.false_ne_true)))
                  clear HS HT L_d hx hdd hcb
                  go_wp2
                  go_roundw
                  case rel => exact ⟨i + 1, pl, ex, D ++ c, ng, false, false, by omega, rfl, by go_num, by go_num, rfl, rfl, rfl, by go_num, HN, by first | rfl | trivial⟩
                  case measure => simp [intOf]; omega
      · obtain rfl : i = s.size := by omega
        obtain ⟨hx9, hp9, hd9⟩ := good_at HG.out s.size HT.out
        rw [length_bytesOf] at hd9
        have HT0 := HT.out
        rw [← HL.out, List.take_length] at HT0
        replace HT := Lib.hid HT0
        clear HT0
        obtain ⟨hok, hnv⟩ := num_read HG.out HT.out
        obtain ⟨DD, hDD⟩ : ∃ DD, decV (bytesOf D) = DD := ⟨_, rfl⟩
        have HD : RowKit.Hid (numV (bytesOf D) = DD) := hnv.trans hDD
        clear hok hnv
        cases ng with
        | true =>
          by_cases hk : 0 ≤ -(ex : Int) - (pl : Int)
          · obtain ⟨N, hN⟩ : ∃ N : Nat, -(ex : Int) - (pl : Int) = (N : Int) := ⟨(-(ex : Int) - (pl : Int)).toNat, by omega⟩
            have ek : -(ex : Int) - (pl : Int) = (N : Int) := by omega
            have HN : RowKit.Hid (N ≤ 1399) := by show _ ≤ _; omega
            obtain ⟨T, hT⟩ : ∃ T : Nat, 10 ^ N = T := ⟨_, rfl⟩
            have HTT := Lib.hid hT
            have HTl : RowKit.Hid (T < 4294967296 ^ 156) := by show _ < _; rw [← hT]; exact ten_limbs HN.out
            have HO := Lib.hid (litR_up HG.out HT.out (N := N) (by show (if true = true then -(ex : Int) else (ex : Int)) - (pl : Int) = _; rw [if_pos rfl]; omega) hDD HTT.out hR)
            have es : sgI true = -1 := rfl
            clear hT hDD hR HT hd9
            go_wp2_with fail
            refine (refParse_c D w1).mono ?_
            rintro e w3 ⟨A1, n1, c1, rfl, hn1, bn⟩
            rw [HD.out] at hn1
            have hfld : ∀ (b : Bool) (W : World), (Instr.field 58 (.agg #[.slice A1 n1 c1, .bool b]) 0).run Tryz.prog W = .ok (.slice A1 n1 c1) W := fun _ _ => by kernel_rfl
            have H1 := Lib.hid hn1
            replace HZ := Lib.hid (HZ.out.below bn)
            replace HW := Lib.hid (below_two HW.out bn)
            clear bn hn1
            go_wp2_with fail
            refine (refMake_c H1.out (by decide) (DD : Int) rfl).mono ?_
            rintro e w4 ⟨A2, n2, c2, rfl, hz2, bn⟩
            have HX := Lib.hid hz2
            replace HZ := Lib.hid (HZ.out.below bn)
            replace HW := Lib.hid (below_two HW.out bn)
            clear bn hz2 H1 hfld
            have bx := below_new w4 (.cells #[Value.bool (sg (DD : Int)), Value.slice A2 n2 c2] 26)
            have HR0 := Lib.hid (row2_new w4 26 (.bool (sg (DD : Int))) (.slice A2 n2 c2))
            replace HZ := Lib.hid (HZ.out.below bx)
            replace HX := Lib.hid (HX.out.below bx)
            replace HW := Lib.hid (below_two HW.out bx)
            clear bx
            go_wp2
            generalize w4.alloc (.cells #[Value.bool (sg (DD : Int)), Value.slice A2 n2 c2] 26) = wS at *
            obtain ⟨q6, eg⟩ : ∃ g, g = w4.heap.size := ⟨_, rfl⟩
            rw [← eg] at HR0 ⊢
            clear eg
            refine region_free 7 1 [68, 69, 70, 71, 72, 73, 74] ?aF16 (fun wx => Below wS.heap.size wS wx) (fun k vv wx => match k with
                | 0 => vv = .agg #[.bool (sg (DD : Int)), .slice A2 n2 c2]
                | 1 => vv = .int .i64 (N : Int)
                | 2 => ∃ (e0 : Option Addr) (e1 : Nat) (e2 : Nat), vv = .slice e0 e1 e2 ∧ NN wx e0 e1 e2 (limbs T) T 156
                | 3 => ∃ (e0 : Option Addr) (e1 : Nat) (e2 : Nat), vv = .agg #[.bool (sg (T : Int)), .slice e0 e1 e2] ∧ ZZ wx (sg (T : Int)) e0 e1 e2 (limbs (T : Int).natAbs) (T : Int) 156
                | 4 => ∃ (e0 : Option Addr) (e1 : Nat) (e2 : Nat), vv = .agg #[.bool (sg ((DD : Int) * (T : Int))), .slice e0 e1 e2] ∧ ZZ wx (sg ((DD : Int) * (T : Int))) e0 e1 e2 (limbs ((DD : Int) * (T : Int)).natAbs) ((DD : Int) * (T : Int)) (223 + 156)
                | 5 => ∃ (e0 : Option Addr) (e1 : Nat) (e2 : Nat), vv = .slice e0 e1 e2 ∧ NN wx e0 e1 e2 (limbs 1) 1 1
                | _ => ∃ (e0 : Option Addr) (e1 : Nat) (e2 : Nat) (e3 : Option Addr) (e4 : Nat) (e5 : Nat), vv = .agg #[.bool (sg (oTop r)), .slice e0 e1 e2, .slice e3 e4 e5, .int .i64 e] ∧ QT wx e0 e1 e2 e3 e4 e5 r)
              (fun k => false) (by kernel_rfl) ?haF16 rfl (by kernel_rfl) (by kernel_rfl) (fun _ _ _ _ _ h => h) ?hSb16 ?hPb16 ?hS16 ?hop16 ?hfin16
            case haF16 =>
              intro vals
              simp only [fillAll, List.getElem?_cons_zero, List.getElem?_cons_succ, Act.put, List.setIfInBounds_toArray, List.set_cons_zero, List.set_cons_succ]
              exact rfl
            case hSb16 => exact fun wx w2 hb hS => below_two hS hb
            case hPb16 =>
              intro k v wa wb hb h
              match k, h with
              | 0, h => exact h
              | 1, h => exact h
              | 2, ⟨e0, e1, e2, h1, g0⟩ => exact ⟨e0, e1, e2, h1, g0.below hb⟩
              | 3, ⟨e0, e1, e2, h1, g0⟩ => exact ⟨e0, e1, e2, h1, g0.below hb⟩
              | 4, ⟨e0, e1, e2, h1, g0⟩ => exact ⟨e0, e1, e2, h1, g0.below hb⟩
              | 5, ⟨e0, e1, e2, h1, g0⟩ => exact ⟨e0, e1, e2, h1, g0.below hb⟩
              | _ + 6, ⟨e0, e1, e2, e3, e4, e5, h1, g0⟩ => exact ⟨e0, e1, e2, e3, e4, e5, h1, g0.below hb⟩
            case hS16 => exact (Below.refl _ _).drew
            case hop16 =>
              refine .cons (k := 0) ?_ (.cons (k := 1) ?_ (.cons (k := 2) ?_ (.cons (k := 3) ?_ (.cons (k := 4) ?_ (.cons (k := 5) ?_ (.cons (k := 6) ?_ (.nil)))))))
              all_goals intro vals wr hS hd KC hK
              all_goals (show Oper.wp _ _ _ _ _ _; dsimp only)
              · have z0 := (HR0.out.below hS).c0
                have z1 := (HR0.out.below hS).c1
                go_simp
                refine hK _ _ rfl (Below.refl _ _) (by first | rfl | simp) (fun h => by cases h)
              · go_simp
                refine hK _ _ rfl (Below.refl _ _) (by first | rfl | simp) (fun h => by cases h)
              · have d1 : vals 1 = _ := hd 1 (by decide +kernel)
                rw [d1]
                go_simp
                go_at_call 29
                with_reducible refine (ten_v N _ rfl T HTT.out _ (Nat.le_trans HN.out (by decide)) 156 HTl.out).mono ?_
                rintro e w2 ⟨r0, r1, r2, rfl, f0, bn_r⟩
                refine hK _ _ rfl bn_r ⟨_, _, _, rfl, f0⟩ (fun h => by cases h)
              · obtain ⟨A_2_0, n_2_1, n_2_2, d2, h_2_0⟩ := hd 2 (by decide +kernel)
                rw [d2]
                go_simp
                go_at_call 25
                with_reducible refine (refMake_c h_2_0 (by decide) (T : Int) rfl).mono ?_
                rintro e w2 ⟨r0, r1, r2, rfl, f0, bn_r⟩
                refine hK _ _ rfl bn_r ⟨_, _, _, rfl, f0⟩ (fun h => by cases h)
              · have d0 : vals 0 = _ := hd 0 (by decide +kernel)
                obtain ⟨A_3_0, n_3_1, n_3_2, d3, h_3_0⟩ := hd 3 (by decide +kernel)
                rw [d0, d3]
                go_simp
                go_at_call 28
                with_reducible refine (refIMul_c (HX.out.below hS) h_3_0 (by decide) (by decide) ((DD : Int) * (T : Int)) rfl).mono ?_
                rintro e w2 ⟨r0, r1, r2, rfl, f0, bn_r⟩
                refine hK _ _ rfl bn_r ⟨_, _, _, rfl, f0⟩ (fun h => by cases h)
              · go_simp
                go_at_call 29
                with_reducible refine (ten_v 0 0 rfl 1 rfl _ (by decide) 1 (by decide)).mono ?_
                rintro e w2 ⟨r0, r1, r2, rfl, f0, bn_r⟩
                refine hK _ _ rfl bn_r ⟨_, _, _, rfl, f0⟩ (fun h => by cases h)
              · obtain ⟨A_4_0, n_4_1, n_4_2, d4, h_4_0⟩ := hd 4 (by decide +kernel)
                obtain ⟨A_5_0, n_5_1, n_5_2, d5, h_5_0⟩ := hd 5 (by decide +kernel)
                rw [d4, d5]
                go_simp
                go_at_call 27
                with_reducible refine (refQOf_c h_4_0 h_5_0 (by decide) (by decide) r e HO.out).mono ?_
                rintro e w2 ⟨r0, r1, r2, r3, r4, r5, rfl, f0, bn_r⟩
                refine hK _ _ rfl bn_r ⟨_, _, _, _, _, _, rfl, f0⟩ (fun h => by cases h)
            case hfin16 =>
              intro vals wr hS hP hne
              obtain ⟨A_6_0, n_6_1, n_6_2, A_6_3, n_6_4, n_6_5, ez_6, h_6_0⟩ := hP 6 (by decide)
              have hZ3 := HZ.out.below hS
              have hNo := hZ3.noLimb (by intro v e; cases e) (by intro v e; cases e) (by intro v e; cases e) (by intro v e; cases e)
              have e0 := hZ3.c0
              have e1 := hZ3.c1
              have e2 := hZ3.c2
              have e3 := hZ3.c3
              have f0 := hZ3.free 0
              have f1 := hZ3.free 1
              have f2 := hZ3.free 2
              have f3 := hZ3.free 3
              have HF := Lib.hid (hZ3.fill (.bool (sg (oTop r))) (.slice A_6_0 n_6_1 n_6_2) (.slice A_6_3 n_6_4 n_6_5) (.int .i64 e))
              have HP := Lib.hid (QQ.fillR4 h_6_0 hNo (.bool (sg (oTop r))) (.slice A_6_0 n_6_1 n_6_2) (.slice A_6_3 n_6_4 n_6_5) (.int .i64 e))
              have HB := Lib.hid (below_fill4 (below_two HW.out hS) Hq.out (.bool (sg (oTop r))) (.slice A_6_0 n_6_1 n_6_2) (.slice A_6_3 n_6_4 n_6_5) (.int .i64 e))
              try dsimp only
              rw [ez_6]
              refine wpAny_ready (rs := [7]) (by kernel_rfl) (by simp) (AllReady.cons rfl (fun KC hK => ?_) AllReady.nil)
              go_simp
              refine hK _ _ ?_
              clear hK KC
              refine wpAny_done (by kernel_rfl) ?_ _
              go_wp2
              refine bodyPost_ret (results_cell_row rfl _ _ _ 33 #[.bool (sg (oTop r)), .slice A_6_0 n_6_1 n_6_2, .slice A_6_3 n_6_4 n_6_5, .int .i64 e] (0, 0) _ rfl HF.out Tryz.underlying33 rfl got7_size) rfl ?_
              exact ⟨A_6_0, n_6_1, n_6_2, A_6_3, n_6_4, n_6_5, rfl, HP.out, HB.out⟩
          · obtain ⟨N, hN⟩ : ∃ N : Nat, -(ex : Int) - (pl : Int) = -(N : Int) := ⟨(-(-(ex : Int) - (pl : Int))).toNat, by omega⟩
            have ek : -(ex : Int) - (pl : Int) = -(N : Int) := by omega
            have HN : RowKit.Hid (N ≤ 1399) := by show _ ≤ _; omega
            obtain ⟨T, hT⟩ : ∃ T : Nat, 10 ^ N = T := ⟨_, rfl⟩
            have HTT := Lib.hid hT
            have HTl : RowKit.Hid (T < 4294967296 ^ 156) := by show _ < _; rw [← hT]; exact ten_limbs HN.out
            have HO := Lib.hid (litR_down HG.out HT.out (N := N) (by show (if true = true then -(ex : Int) else (ex : Int)) - (pl : Int) = _; rw [if_pos rfl]; omega) hDD HTT.out hR)
            have en : IntKind.i64.wrap (-(-(N : Int))) = (N : Int) := by rw [IntKind.wrap_i64]; omega
            have en2 : IntKind.i64.wrap (N : Int) = (N : Int) := by rw [IntKind.wrap_i64]; omega
            have hN0 : 0 < N := by omega
            have hk2 : ¬ (0 : Int) ≤ -(N : Int) := by omega
            have es : sgI true = -1 := rfl
            clear hT hDD hR HT hd9
            go_wp2_with fail
            refine (refParse_c D w1).mono ?_
            rintro e w3 ⟨A1, n1, c1, rfl, hn1, bn⟩
            rw [HD.out] at hn1
            have hfld : ∀ (b : Bool) (W : World), (Instr.field 58 (.agg #[.slice A1 n1 c1, .bool b]) 0).run Tryz.prog W = .ok (.slice A1 n1 c1) W := fun _ _ => by kernel_rfl
            have H1 := Lib.hid hn1
            replace HZ := Lib.hid (HZ.out.below bn)
            replace HW := Lib.hid (below_two HW.out bn)
            clear bn hn1
            go_wp2_with fail
            refine (refMake_c H1.out (by decide) (DD : Int) rfl).mono ?_
            rintro e w4 ⟨A2, n2, c2, rfl, hz2, bn⟩
            have HX := Lib.hid hz2
            replace HZ := Lib.hid (HZ.out.below bn)
            replace HW := Lib.hid (below_two HW.out bn)
            clear bn hz2 H1 hfld
            have bx := below_new w4 (.cells #[Value.bool (sg (DD : Int)), Value.slice A2 n2 c2] 26)
            have HR0 := Lib.hid (row2_new w4 26 (.bool (sg (DD : Int))) (.slice A2 n2 c2))
            replace HZ := Lib.hid (HZ.out.below bx)
            replace HX := Lib.hid (HX.out.below bx)
            replace HW := Lib.hid (below_two HW.out bx)
            clear bx
            go_wp2
            generalize w4.alloc (.cells #[Value.bool (sg (DD : Int)), Value.slice A2 n2 c2] 26) = wS at *
            obtain ⟨q6, eg⟩ : ∃ g, g = w4.heap.size := ⟨_, rfl⟩
            rw [← eg] at HR0 ⊢
            clear eg
            refine region_free 5 1 [75, 76, 77, 78, 79] ?aF17 (fun wx => Below wS.heap.size wS wx) (fun k vv wx => match k with
                | 0 => vv = .agg #[.bool (sg (DD : Int)), .slice A2 n2 c2]
                | 1 => vv = .int .i64 (-(N : Int))
                | 2 => vv = .int .i64 (N : Int)
                | 3 => ∃ (e0 : Option Addr) (e1 : Nat) (e2 : Nat), vv = .slice e0 e1 e2 ∧ NN wx e0 e1 e2 (limbs T) T 156
                | _ => ∃ (e0 : Option Addr) (e1 : Nat) (e2 : Nat) (e3 : Option Addr) (e4 : Nat) (e5 : Nat), vv = .agg #[.bool (sg (oTop r)), .slice e0 e1 e2, .slice e3 e4 e5, .int .i64 e] ∧ QT wx e0 e1 e2 e3 e4 e5 r)
              (fun k => false) (by kernel_rfl) ?haF17 rfl (by kernel_rfl) (by kernel_rfl) (fun _ _ _ _ _ h => h) ?hSb17 ?hPb17 ?hS17 ?hop17 ?hfin17
            case haF17 =>
              intro vals
              simp only [fillAll, List.getElem?_cons_zero, List.getElem?_cons_succ, Act.put, List.setIfInBounds_toArray, List.set_cons_zero, List.set_cons_succ]
              exact rfl
            case hSb17 => exact fun wx w2 hb hS => below_two hS hb
            case hPb17 =>
              intro k v wa wb hb h
              match k, h with
              | 0, h => exact h
              | 1, h => exact h
              | 2, h => exact h
              | 3, ⟨e0, e1, e2, h1, g0⟩ => exact ⟨e0, e1, e2, h1, g0.below hb⟩
              | _ + 4, ⟨e0, e1, e2, e3, e4, e5, h1, g0⟩ => exact ⟨e0, e1, e2, e3, e4, e5, h1, g0.below hb⟩
            case hS17 => exact (Below.refl _ _).drew
            case hop17 =>
              refine .cons (k := 0) ?_ (.cons (k := 1) ?_ (.cons (k := 2) ?_ (.cons (k := 3) ?_ (.cons (k := 4) ?_ (.nil)))))
              all_goals intro vals wr hS hd KC hK
              all_goals (show Oper.wp _ _ _ _ _ _; dsimp only)
              · have z0 := (HR0.out.below hS).c0
                have z1 := (HR0.out.below hS).c1
                go_simp
                refine hK _ _ rfl (Below.refl _ _) (by first | rfl | simp) (fun h => by cases h)
              · go_simp
                refine hK _ _ rfl (Below.refl _ _) (by first | rfl | simp) (fun h => by cases h)
              · have d1 : vals 1 = _ := hd 1 (by decide +kernel)
                rw [d1]
                go_simp
                refine hK _ _ rfl (Below.refl _ _) (by first | rfl | simp) (fun h => by cases h)
              · have d2 : vals 2 = _ := hd 2 (by decide +kernel)
                rw [d2]
                go_simp
                go_at_call 29
                with_reducible refine (ten_v N _ rfl T HTT.out _ (Nat.le_trans HN.out (by decide)) 156 HTl.out).mono ?_
                rintro e w2 ⟨r0, r1, r2, rfl, f0, bn_r⟩
                refine hK _ _ rfl bn_r ⟨_, _, _, rfl, f0⟩ (fun h => by cases h)
              · have d0 : vals 0 = _ := hd 0 (by decide +kernel)
                obtain ⟨A_3_0, n_3_1, n_3_2, d3, h_3_0⟩ := hd 3 (by decide +kernel)
                rw [d0, d3]
                go_simp
                go_at_call 27
                with_reducible refine (refQOf_c (HX.out.below hS) h_3_0 (by decide) (by decide) r e HO.out).mono ?_
                rintro e w2 ⟨r0, r1, r2, r3, r4, r5, rfl, f0, bn_r⟩
                refine hK _ _ rfl bn_r ⟨_, _, _, _, _, _, rfl, f0⟩ (fun h => by cases h)
            case hfin17 =>
              intro vals wr hS hP hne
              obtain ⟨A_4_0, n_4_1, n_4_2, A_4_3, n_4_4, n_4_5, ez_4, h_4_0⟩ := hP 4 (by decide)
              have hZ3 := HZ.out.below hS
              have hNo := hZ3.noLimb (by intro v e; cases e) (by intro v e; cases e) (by intro v e; cases e) (by intro v e; cases e)
              have e0 := hZ3.c0
              have e1 := hZ3.c1
              have e2 := hZ3.c2
              have e3 := hZ3.c3
              have f0 := hZ3.free 0
              have f1 := hZ3.free 1
              have f2 := hZ3.free 2
              have f3 := hZ3.free 3
              have HF := Lib.hid (hZ3.fill (.bool (sg (oTop r))) (.slice A_4_0 n_4_1 n_4_2) (.slice A_4_3 n_4_4 n_4_5) (.int .i64 e))
              have HP := Lib.hid (QQ.fillR4 h_4_0 hNo (.bool (sg (oTop r))) (.slice A_4_0 n_4_1 n_4_2) (.slice A_4_3 n_4_4 n_4_5) (.int .i64 e))
              have HB := Lib.hid (below_fill4 (below_two HW.out hS) Hq.out (.bool (sg (oTop r))) (.slice A_4_0 n_4_1 n_4_2) (.slice A_4_3 n_4_4 n_4_5) (.int .i64 e))
              try dsimp only
              rw [ez_4]
              refine wpAny_ready (rs := [5]) (by kernel_rfl) (by simp) (AllReady.cons rfl (fun KC hK => ?_) AllReady.nil)
              go_simp
              refine hK _ _ ?_
              clear hK KC
              refine wpAny_done (by kernel_rfl) ?_ _
              go_wp2
              refine bodyPost_ret (results_cell_row rfl _ _ _ 33 #[.bool (sg (oTop r)), .slice A_4_0 n_4_1 n_4_2, .slice A_4_3 n_4_4 n_4_5, .int .i64 e] (0, 0) _ rfl HF.out Tryz.underlying33 rfl got7_size) rfl ?_
              exact ⟨A_4_0, n_4_1, n_4_2, A_4_3, n_4_4, n_4_5, rfl, HP.out, HB.out⟩
        | false =>
          by_cases hk : 0 ≤ (ex : Int) - (pl : Int)
          · obtain ⟨N, hN⟩ : ∃ N : Nat, (ex : Int) - (pl : Int) = (N : Int) := ⟨((ex : Int) - (pl : Int)).toNat, by omega⟩
            have ek : (ex : Int) - (pl : Int) = (N : Int) := by omega
            have HN : RowKit.Hid (N ≤ 1399) := by show _ ≤ _; omega
            obtain ⟨T, hT⟩ : ∃ T : Nat, 10 ^ N = T := ⟨_, rfl⟩
            have HTT := Lib.hid hT
            have HTl : RowKit.Hid (T < 4294967296 ^ 156) := by show _ < _; rw [← hT]; exact ten_limbs HN.out
            have HO := Lib.hid (litR_up HG.out HT.out (N := N) (by show (if false = true then -(ex : Int) else (ex : Int)) - (pl : Int) = _; rw [if_neg (by decide)]; omega) hDD HTT.out hR)
            have es : sgI false = 1 := rfl
            clear hT hDD hR HT hd9
            go_wp2_with fail
            refine (refParse_c D w1).mono ?_
            rintro e w3 ⟨A1, n1, c1, rfl, hn1, bn⟩
            rw [HD.out] at hn1
            have hfld : ∀ (b : Bool) (W : World), (Instr.field 58 (.agg #[.slice A1 n1 c1, .bool b]) 0).run Tryz.prog W = .ok (.slice A1 n1 c1) W := fun _ _ => by kernel_rfl
            have H1 := Lib.hid hn1
            replace HZ := Lib.hid (HZ.out.below bn)
            replace HW := Lib.hid (below_two HW.out bn)
            clear bn hn1
            go_wp2_with fail
            refine (refMake_c H1.out (by decide) (DD : Int) rfl).mono ?_
            rintro e w4 ⟨A2, n2, c2, rfl, hz2, bn⟩
            have HX := Lib.hid hz2
            replace HZ := Lib.hid (HZ.out.below bn)
            replace HW := Lib.hid (below_two HW.out bn)
            clear bn hz2 H1 hfld
            have bx := below_new w4 (.cells #[Value.bool (sg (DD : Int)), Value.slice A2 n2 c2] 26)
            have HR0 := Lib.hid (row2_new w4 26 (.bool (sg (DD : Int))) (.slice A2 n2 c2))
            replace HZ := Lib.hid (HZ.out.below bx)
            replace HX := Lib.hid (HX.out.below bx)
            replace HW := Lib.hid (below_two HW.out bx)
            clear bx
            go_wp2
            generalize w4.alloc (.cells #[Value.bool (sg (DD : Int)), Value.slice A2 n2 c2] 26) = wS at *
            obtain ⟨q6, eg⟩ : ∃ g, g = w4.heap.size := ⟨_, rfl⟩
            rw [← eg] at HR0 ⊢
            clear eg
            refine region_free 7 1 [68, 69, 70, 71, 72, 73, 74] ?aF18 (fun wx => Below wS.heap.size wS wx) (fun k vv wx => match k with
                | 0 => vv = .agg #[.bool (sg (DD : Int)), .slice A2 n2 c2]
                | 1 => vv = .int .i64 (N : Int)
                | 2 => ∃ (e0 : Option Addr) (e1 : Nat) (e2 : Nat), vv = .slice e0 e1 e2 ∧ NN wx e0 e1 e2 (limbs T) T 156
                | 3 => ∃ (e0 : Option Addr) (e1 : Nat) (e2 : Nat), vv = .agg #[.bool (sg (T : Int)), .slice e0 e1 e2] ∧ ZZ wx (sg (T : Int)) e0 e1 e2 (limbs (T : Int).natAbs) (T : Int) 156
                | 4 => ∃ (e0 : Option Addr) (e1 : Nat) (e2 : Nat), vv = .agg #[.bool (sg ((DD : Int) * (T : Int))), .slice e0 e1 e2] ∧ ZZ wx (sg ((DD : Int) * (T : Int))) e0 e1 e2 (limbs ((DD : Int) * (T : Int)).natAbs) ((DD : Int) * (T : Int)) (223 + 156)
                | 5 => ∃ (e0 : Option Addr) (e1 : Nat) (e2 : Nat), vv = .slice e0 e1 e2 ∧ NN wx e0 e1 e2 (limbs 1) 1 1
                | _ => ∃ (e0 : Option Addr) (e1 : Nat) (e2 : Nat) (e3 : Option Addr) (e4 : Nat) (e5 : Nat), vv = .agg #[.bool (sg (oTop r)), .slice e0 e1 e2, .slice e3 e4 e5, .int .i64 e] ∧ QT wx e0 e1 e2 e3 e4 e5 r)
              (fun k => false) (by kernel_rfl) ?haF18 rfl (by kernel_rfl) (by kernel_rfl) (fun _ _ _ _ _ h => h) ?hSb18 ?hPb18 ?hS18 ?hop18 ?hfin18
            case haF18 =>
              intro vals
              simp only [fillAll, List.getElem?_cons_zero, List.getElem?_cons_succ, Act.put, List.setIfInBounds_toArray, List.set_cons_zero, List.set_cons_succ]
              exact rfl
            case hSb18 => exact fun wx w2 hb hS => below_two hS hb
            case hPb18 =>
              intro k v wa wb hb h
              match k, h with
              | 0, h => exact h
              | 1, h => exact h
              | 2, ⟨e0, e1, e2, h1, g0⟩ => exact ⟨e0, e1, e2, h1, g0.below hb⟩
              | 3, ⟨e0, e1, e2, h1, g0⟩ => exact ⟨e0, e1, e2, h1, g0.below hb⟩
              | 4, ⟨e0, e1, e2, h1, g0⟩ => exact ⟨e0, e1, e2, h1, g0.below hb⟩
              | 5, ⟨e0, e1, e2, h1, g0⟩ => exact ⟨e0, e1, e2, h1, g0.below hb⟩
              | _ + 6, ⟨e0, e1, e2, e3, e4, e5, h1, g0⟩ => exact ⟨e0, e1, e2, e3, e4, e5, h1, g0.below hb⟩
            case hS18 => exact (Below.refl _ _).drew
            case hop18 =>
              refine .cons (k := 0) ?_ (.cons (k := 1) ?_ (.cons (k := 2) ?_ (.cons (k := 3) ?_ (.cons (k := 4) ?_ (.cons (k := 5) ?_ (.cons (k := 6) ?_ (.nil)))))))
              all_goals intro vals wr hS hd KC hK
              all_goals (show Oper.wp _ _ _ _ _ _; dsimp only)
              · have z0 := (HR0.out.below hS).c0
                have z1 := (HR0.out.below hS).c1
                go_simp
                refine hK _ _ rfl (Below.refl _ _) (by first | rfl | simp) (fun h => by cases h)
              · go_simp
                refine hK _ _ rfl (Below.refl _ _) (by first | rfl | simp) (fun h => by cases h)
              · have d1 : vals 1 = _ := hd 1 (by decide +kernel)
                rw [d1]
                go_simp
                go_at_call 29
                with_reducible refine (ten_v N _ rfl T HTT.out _ (Nat.le_trans HN.out (by decide)) 156 HTl.out).mono ?_
                rintro e w2 ⟨r0, r1, r2, rfl, f0, bn_r⟩
                refine hK _ _ rfl bn_r ⟨_, _, _, rfl, f0⟩ (fun h => by cases h)
              · obtain ⟨A_2_0, n_2_1, n_2_2, d2, h_2_0⟩ := hd 2 (by decide +kernel)
                rw [d2]
                go_simp
                go_at_call 25
                with_reducible refine (refMake_c h_2_0 (by decide) (T : Int) rfl).mono ?_
                rintro e w2 ⟨r0, r1, r2, rfl, f0, bn_r⟩
                refine hK _ _ rfl bn_r ⟨_, _, _, rfl, f0⟩ (fun h => by cases h)
              · have d0 : vals 0 = _ := hd 0 (by decide +kernel)
                obtain ⟨A_3_0, n_3_1, n_3_2, d3, h_3_0⟩ := hd 3 (by decide +kernel)
                rw [d0, d3]
                go_simp
                go_at_call 28
                with_reducible refine (refIMul_c (HX.out.below hS) h_3_0 (by decide) (by decide) ((DD : Int) * (T : Int)) rfl).mono ?_
                rintro e w2 ⟨r0, r1, r2, rfl, f0, bn_r⟩
                refine hK _ _ rfl bn_r ⟨_, _, _, rfl, f0⟩ (fun h => by cases h)
              · go_simp
                go_at_call 29
                with_reducible refine (ten_v 0 0 rfl 1 rfl _ (by decide) 1 (by decide)).mono ?_
                rintro e w2 ⟨r0, r1, r2, rfl, f0, bn_r⟩
                refine hK _ _ rfl bn_r ⟨_, _, _, rfl, f0⟩ (fun h => by cases h)
              · obtain ⟨A_4_0, n_4_1, n_4_2, d4, h_4_0⟩ := hd 4 (by decide +kernel)
                obtain ⟨A_5_0, n_5_1, n_5_2, d5, h_5_0⟩ := hd 5 (by decide +kernel)
                rw [d4, d5]
                go_simp
                go_at_call 27
                with_reducible refine (refQOf_c h_4_0 h_5_0 (by decide) (by decide) r e HO.out).mono ?_
                rintro e w2 ⟨r0, r1, r2, r3, r4, r5, rfl, f0, bn_r⟩
                refine hK _ _ rfl bn_r ⟨_, _, _, _, _, _, rfl, f0⟩ (fun h => by cases h)
            case hfin18 =>
              intro vals wr hS hP hne
              obtain ⟨A_6_0, n_6_1, n_6_2, A_6_3, n_6_4, n_6_5, ez_6, h_6_0⟩ := hP 6 (by decide)
              have hZ3 := HZ.out.below hS
              have hNo := hZ3.noLimb (by intro v e; cases e) (by intro v e; cases e) (by intro v e; cases e) (by intro v e; cases e)
              have e0 := hZ3.c0
              have e1 := hZ3.c1
              have e2 := hZ3.c2
              have e3 := hZ3.c3
              have f0 := hZ3.free 0
              have f1 := hZ3.free 1
              have f2 := hZ3.free 2
              have f3 := hZ3.free 3
              have HF := Lib.hid (hZ3.fill (.bool (sg (oTop r))) (.slice A_6_0 n_6_1 n_6_2) (.slice A_6_3 n_6_4 n_6_5) (.int .i64 e))
              have HP := Lib.hid (QQ.fillR4 h_6_0 hNo (.bool (sg (oTop r))) (.slice A_6_0 n_6_1 n_6_2) (.slice A_6_3 n_6_4 n_6_5) (.int .i64 e))
              have HB := Lib.hid (below_fill4 (below_two HW.out hS) Hq.out (.bool (sg (oTop r))) (.slice A_6_0 n_6_1 n_6_2) (.slice A_6_3 n_6_4 n_6_5) (.int .i64 e))
              try dsimp only
              rw [ez_6]
              refine wpAny_ready (rs := [7]) (by kernel_rfl) (by simp) (AllReady.cons rfl (fun KC hK => ?_) AllReady.nil)
              go_simp
              refine hK _ _ ?_
              clear hK KC
              refine wpAny_done (by kernel_rfl) ?_ _
              go_wp2
              refine bodyPost_ret (results_cell_row rfl _ _ _ 33 #[.bool (sg (oTop r)), .slice A_6_0 n_6_1 n_6_2, .slice A_6_3 n_6_4 n_6_5, .int .i64 e] (0, 0) _ rfl HF.out Tryz.underlying33 rfl got7_size) rfl ?_
              exact ⟨A_6_0, n_6_1, n_6_2, A_6_3, n_6_4, n_6_5, rfl, HP.out, HB.out⟩
          · obtain ⟨N, hN⟩ : ∃ N : Nat, (ex : Int) - (pl : Int) = -(N : Int) := ⟨(-((ex : Int) - (pl : Int))).toNat, by omega⟩
            have ek : (ex : Int) - (pl : Int) = -(N : Int) := by omega
            have HN : RowKit.Hid (N ≤ 1399) := by show _ ≤ _; omega
            obtain ⟨T, hT⟩ : ∃ T : Nat, 10 ^ N = T := ⟨_, rfl⟩
            have HTT := Lib.hid hT
            have HTl : RowKit.Hid (T < 4294967296 ^ 156) := by show _ < _; rw [← hT]; exact ten_limbs HN.out
            have HO := Lib.hid (litR_down HG.out HT.out (N := N) (by show (if false = true then -(ex : Int) else (ex : Int)) - (pl : Int) = _; rw [if_neg (by decide)]; omega) hDD HTT.out hR)
            have en : IntKind.i64.wrap (-(-(N : Int))) = (N : Int) := by rw [IntKind.wrap_i64]; omega
            have en2 : IntKind.i64.wrap (N : Int) = (N : Int) := by rw [IntKind.wrap_i64]; omega
            have hN0 : 0 < N := by omega
            have hk2 : ¬ (0 : Int) ≤ -(N : Int) := by omega
            have es : sgI false = 1 := rfl
            clear hT hDD hR HT hd9
            go_wp2_with fail
            refine (refParse_c D w1).mono ?_
            rintro e w3 ⟨A1, n1, c1, rfl, hn1, bn⟩
            rw [HD.out] at hn1
            have hfld : ∀ (b : Bool) (W : World), (Instr.field 58 (.agg #[.slice A1 n1 c1, .bool b]) 0).run Tryz.prog W = .ok (.slice A1 n1 c1) W := fun _ _ => by kernel_rfl
            have H1 := Lib.hid hn1
            replace HZ := Lib.hid (HZ.out.below bn)
            replace HW := Lib.hid (below_two HW.out bn)
            clear bn hn1
            go_wp2_with fail
            refine (refMake_c H1.out (by decide) (DD : Int) rfl).mono ?_
            rintro e w4 ⟨A2, n2, c2, rfl, hz2, bn⟩
            have HX := Lib.hid hz2
            replace HZ := Lib.hid (HZ.out.below bn)
            replace HW := Lib.hid (below_two HW.out bn)
            clear bn hz2 H1 hfld
            have bx := below_new w4 (.cells #[Value.bool (sg (DD : Int)), Value.slice A2 n2 c2] 26)
            have HR0 := Lib.hid (row2_new w4 26 (.bool (sg (DD : Int))) (.slice A2 n2 c2))
            replace HZ := Lib.hid (HZ.out.below bx)
            replace HX := Lib.hid (HX.out.below bx)
            replace HW := Lib.hid (below_two HW.out bx)
            clear bx
            go_wp2
            generalize w4.alloc (.cells #[Value.bool (sg (DD : Int)), Value.slice A2 n2 c2] 26) = wS at *
            obtain ⟨q6, eg⟩ : ∃ g, g = w4.heap.size := ⟨_, rfl⟩
            rw [← eg] at HR0 ⊢
            clear eg
            refine region_free 5 1 [75, 76, 77, 78, 79] ?aF19 (fun wx => Below wS.heap.size wS wx) (fun k vv wx => match k with
                | 0 => vv = .agg #[.bool (sg (DD : Int)), .slice A2 n2 c2]
                | 1 => vv = .int .i64 (-(N : Int))
                | 2 => vv = .int .i64 (N : Int)
                | 3 => ∃ (e0 : Option Addr) (e1 : Nat) (e2 : Nat), vv = .slice e0 e1 e2 ∧ NN wx e0 e1 e2 (limbs T) T 156
                | _ => ∃ (e0 : Option Addr) (e1 : Nat) (e2 : Nat) (e3 : Option Addr) (e4 : Nat) (e5 : Nat), vv = .agg #[.bool (sg (oTop r)), .slice e0 e1 e2, .slice e3 e4 e5, .int .i64 e] ∧ QT wx e0 e1 e2 e3 e4 e5 r)
              (fun k => false) (by kernel_rfl) ?haF19 rfl (by kernel_rfl) (by kernel_rfl) (fun _ _ _ _ _ h => h) ?hSb19 ?hPb19 ?hS19 ?hop19 ?hfin19
            case haF19 =>
              intro vals
              simp only [fillAll, List.getElem?_cons_zero, List.getElem?_cons_succ, Act.put, List.setIfInBounds_toArray, List.set_cons_zero, List.set_cons_succ]
              exact rfl
            case hSb19 => exact fun wx w2 hb hS => below_two hS hb
            case hPb19 =>
              intro k v wa wb hb h
              match k, h with
              | 0, h => exact h
              | 1, h => exact h
              | 2, h => exact h
              | 3, ⟨e0, e1, e2, h1, g0⟩ => exact ⟨e0, e1, e2, h1, g0.below hb⟩
              | _ + 4, ⟨e0, e1, e2, e3, e4, e5, h1, g0⟩ => exact ⟨e0, e1, e2, e3, e4, e5, h1, g0.below hb⟩
            case hS19 => exact (Below.refl _ _).drew
            case hop19 =>
              refine .cons (k := 0) ?_ (.cons (k := 1) ?_ (.cons (k := 2) ?_ (.cons (k := 3) ?_ (.cons (k := 4) ?_ (.nil)))))
              all_goals intro vals wr hS hd KC hK
              all_goals (show Oper.wp _ _ _ _ _ _; dsimp only)
              · have z0 := (HR0.out.below hS).c0
                have z1 := (HR0.out.below hS).c1
                go_simp
                refine hK _ _ rfl (Below.refl _ _) (by first | rfl | simp) (fun h => by cases h)
              · go_simp
                refine hK _ _ rfl (Below.refl _ _) (by first | rfl | simp) (fun h => by cases h)
              · have d1 : vals 1 = _ := hd 1 (by decide +kernel)
                rw [d1]
                go_simp
                refine hK _ _ rfl (Below.refl _ _) (by first | rfl | simp) (fun h => by cases h)
              · have d2 : vals 2 = _ := hd 2 (by decide +kernel)
                rw [d2]
                go_simp
                go_at_call 29
                with_reducible refine (ten_v N _ rfl T HTT.out _ (Nat.le_trans HN.out (by decide)) 156 HTl.out).mono ?_
                rintro e w2 ⟨r0, r1, r2, rfl, f0, bn_r⟩
                refine hK _ _ rfl bn_r ⟨_, _, _, rfl, f0⟩ (fun h => by cases h)
              · have d0 : vals 0 = _ := hd 0 (by decide +kernel)
                obtain ⟨A_3_0, n_3_1, n_3_2, d3, h_3_0⟩ := hd 3 (by decide +kernel)
                rw [d0, d3]
                go_simp
                go_at_call 27
                with_reducible refine (refQOf_c (HX.out.below hS) h_3_0 (by decide) (by decide) r e HO.out).mono ?_
                rintro e w2 ⟨r0, r1, r2, r3, r4, r5, rfl, f0, bn_r⟩
                refine hK _ _ rfl bn_r ⟨_, _, _, _, _, _, rfl, f0⟩ (fun h => by cases h)
            case hfin19 =>
              intro vals wr hS hP hne
              obtain ⟨A_4_0, n_4_1, n_4_2, A_4_3, n_4_4, n_4_5, ez_4, h_4_0⟩ := hP 4 (by decide)
              have hZ3 := HZ.out.below hS
              have hNo := hZ3.noLimb (by intro v e; cases e) (by intro v e; cases e) (by intro v e; cases e) (by intro v e; cases e)
              have e0 := hZ3.c0
              have e1 := hZ3.c1
              have e2 := hZ3.c2
              have e3 := hZ3.c3
              have f0 := hZ3.free 0
              have f1 := hZ3.free 1
              have f2 := hZ3.free 2
              have f3 := hZ3.free 3
              have HF := Lib.hid (hZ3.fill (.bool (sg (oTop r))) (.slice A_4_0 n_4_1 n_4_2) (.slice A_4_3 n_4_4 n_4_5) (.int .i64 e))
              have HP := Lib.hid (QQ.fillR4 h_4_0 hNo (.bool (sg (oTop r))) (.slice A_4_0 n_4_1 n_4_2) (.slice A_4_3 n_4_4 n_4_5) (.int .i64 e))
              have HB := Lib.hid (below_fill4 (below_two HW.out hS) Hq.out (.bool (sg (oTop r))) (.slice A_4_0 n_4_1 n_4_2) (.slice A_4_3 n_4_4 n_4_5) (.int .i64 e))
              try dsimp only
              rw [ez_4]
              refine wpAny_ready (rs := [5]) (by kernel_rfl) (by simp) (AllReady.cons rfl (fun KC hK => ?_) AllReady.nil)
              go_simp
              refine hK _ _ ?_
              clear hK KC
              refine wpAny_done (by kernel_rfl) ?_ _
              go_wp2
              refine bodyPost_ret (results_cell_row rfl _ _ _ 33 #[.bool (sg (oTop r)), .slice A_4_0 n_4_1 n_4_2, .slice A_4_3 n_4_4 n_4_5, .int .i64 e] (0, 0) _ rfl HF.out Tryz.underlying33 rfl got7_size) rfl ?_
              exact ⟨A_4_0, n_4_1, n_4_2, A_4_3, n_4_4, n_4_5, rfl, HP.out, HB.out⟩

end Go.Proofs.YtjpoolddgocbbaaGreatDoor

/- What package rat's own helpers answer (isTrimmed, fits, cross), and slices.Equal, slices.Clone of limbs, as contracts over memory. Conditions: sizes of at most so many limbs. -/
namespace Go.Proofs.YtjpoolddgocbbaaGreatDoor
open Go.RowKit Limb
set_option linter.unusedVariables false
section
variable {w : World} {s s' : Bool} {A B A' B' : Option Addr} {n c m d n' c' m' d' : Nat} {xs ys xs' ys' : List Nat} {x y : Int} {a b L L' : Nat}
set_option maxHeartbeats 4000000 in
set_option maxRecDepth 100000 in
theorem rTrimmed_c (hx : NN w A n c xs a L) (h1 : L ≤ 9223372036854775807) (v : Bool) (hv : decide (xs = limbs a) = v) :
    Calls Tryz.prog 64 #[.slice A n c] w fun e w' => e = .returned (.bool v) ∧ w = w' := by
  have Hv := Lib.hid hv
  have Hx := Lib.hid hx
  have hsm := hx.isN.small
  have hlen := hx.isN.len
  have hle := hx.le
  have htr := trimmed_iff hsm
  rw [hx.val] at htr
  clear hx hv
  by_cases h0 : n = 0
  · have hB : RowKit.Hid (v = true) := by
      show _ = _
      rw [← Hv.out, decide_eq_true_eq, htr]
      exact .inl (List.eq_nil_of_length_eq_zero (by omega))
    subst h0
    clear hlen htr
    go_enter Tryz.func64, Tryz.ntmps64
    go_wp2
    go_ret
    exact ⟨by rw [hB.out]; rfl, rfl⟩
  · obtain ⟨g, o, eA, hlt, hc⟩ := Hx.out.isN.2.2 (by omega)
    obtain ⟨k, hk⟩ : ∃ k, n = k + 1 := ⟨n - 1, by omega⟩
    have hcell := hc k (by omega)
    obtain ⟨u, hu⟩ : ∃ u, lim xs k = u := ⟨_, rfl⟩
    rw [hu] at hcell
    have h00 : ((n : Int) == 0) = false := by rw [beq_eq_false_iff_ne]; omega
    have h0k : (n : Int) - 1 = (k : Int) := by omega
    have hB : RowKit.Hid (decide (u ≠ 0) = v) := by
      show _ = _
      rw [← Hv.out, decide_eq_decide, htr, ← hu, show xs.length - 1 = k by omega]
      constructor
      · exact fun h => .inr h
      · rintro (h | h)
        · rw [h] at hlen; simp at hlen; omega
        · exact h
    subst eA
    clear htr hc hu hsm
    subst hk
    go_enter Tryz.func64, Tryz.ntmps64
    go_wp2
    go_ret
    refine ⟨?_, rfl⟩
    rw [← hB.out]
    show Ending.returned (Value.bool (((k : Int) + 1 == 0) || ((u : Int) != 0))) = _
    rw [show ((k : Int) + 1 == 0) = false by rw [beq_eq_false_iff_ne]; omega, Bool.false_or]
    congr 2
    rw [Bool.eq_iff_iff]
    simp

set_option maxHeartbeats 4000000 in
set_option maxRecDepth 100000 in
theorem rFits_c (s : Bool) (A B : Option Addr) (n c m d : Nat) (w : World) (v : Bool) (hv : (decide (n ≤ 64) && decide (m ≤ 64)) = v) :
    Calls Tryz.prog 65 #[.agg #[.bool s, .slice A n c, .slice B m d]] w fun e w' => e = .returned (.bool v) ∧ Below w.heap.size w w' := by
  have HW := Lib.hid (below_new w (.cells #[Value.bool s, Value.slice A n c, Value.slice B m d] 28))
  have Hv := Lib.hid hv
  clear hv
  by_cases h1 : n ≤ 64
  · have e1 : decide ((n : Int) ≤ 64) = true := by rw [decide_eq_true_eq]; omega
    have HV : RowKit.Hid (decide ((m : Int) ≤ 64) = v) := by
      show _ = _
      rw [← Hv.out, decide_eq_true h1, Bool.true_and, decide_eq_decide]; omega
    clear h1 Hv
    go_enter Tryz.func65, Tryz.ntmps65
    go_wp2
    go_ret
    exact ⟨by rw [← HV.out]; rfl, HW.out⟩
  · have e1 : decide ((n : Int) ≤ 64) = false := by rw [decide_eq_false_iff_not]; omega
    have HV : RowKit.Hid (false = v) := by
      show _ = _
      rw [← Hv.out, decide_eq_false h1]; rfl
    clear h1 Hv
    go_enter Tryz.func65, Tryz.ntmps65
    go_wp2
    go_ret
    exact ⟨by rw [← HV.out]; rfl, HW.out⟩

set_option maxHeartbeats 4000000 in
set_option maxRecDepth 100000 in
theorem rCross_c (hx : ZZ w s A n c xs x L) (hy' : NN w B' m' d' ys' b L') (h1 : L ≤ 1000) (h2 : L' ≤ 1000) (z : Int) (hz : x * (b : Int) = z) :
    Calls Tryz.prog 42 #[.agg #[.bool s, .slice A n c, .slice B m d], .agg #[.bool s', .slice A' n' c', .slice B' m' d']] w fun e w' => ∃ A2 n2 c2, e = .returned (.agg #[.bool (sg z), .slice A2 n2 c2]) ∧ ZZ w' (sg z) A2 n2 c2 (limbs z.natAbs) z (L + L') ∧ Below w.heap.size w w' := by
  have b0 := below_new w (.cells #[Value.bool s, Value.slice A n c, Value.slice B m d] 28)
  have b1 := below_new (w.alloc (.cells #[Value.bool s, Value.slice A n c, Value.slice B m d] 28)) (.cells #[Value.bool s', Value.slice A' n' c', Value.slice B' m' d'] 28)
  have b2 := below_new ((w.alloc (.cells #[Value.bool s, Value.slice A n c, Value.slice B m d] 28)).alloc (.cells #[Value.bool s', Value.slice A' n' c', Value.slice B' m' d'] 28)) zbox
  have HW := Lib.hid (below_two (below_two b0 b1) b2)
  have HX := Lib.hid (hx.below HW.out)
  have HY := Lib.hid (zz_pos (hy'.below HW.out))
  have rz : ZB (((w.alloc (.cells #[Value.bool s, Value.slice A n c, Value.slice B m d] 28)).alloc (.cells #[Value.bool s', Value.slice A' n' c', Value.slice B' m' d'] 28)).alloc zbox) ((w.alloc (.cells #[Value.bool s, Value.slice A n c, Value.slice B m d] 28)).alloc (.cells #[Value.bool s', Value.slice A' n' c', Value.slice B' m' d'] 28)).heap.size := row2_new ((w.alloc (.cells #[Value.bool s, Value.slice A n c, Value.slice B m d] 28)).alloc (.cells #[Value.bool s', Value.slice A' n' c', Value.slice B' m' d'] 28)) _ _ _
  simp only [World.size_alloc] at rz
  clear b0 b1 b2 hx hy'
  go_enter Tryz.func42, Tryz.ntmps42
  go_wp2_with fail
  generalize ((w.alloc (.cells #[Value.bool s, Value.slice A n c, Value.slice B m d] 28)).alloc (.cells #[Value.bool s', Value.slice A' n' c', Value.slice B' m' d'] 28)).alloc zbox = w1 at *
  have HZ := Lib.hid rz
  clear rz
  refine (wMul_c HX.out HY.out (L + L') (by omega) (by omega) (Nat.le_refl _) z hz).mono ?_
  rintro e w2 ⟨A2, n2, c2, rfl, h4, bm⟩
  have BN4 := Lib.hid bm
  obtain ⟨e0, e1, f0, f1⟩ := (HZ.out.below BN4.out).cells
  have HF := Lib.hid ((HZ.out.below BN4.out).fill (.bool (sg z)) (.slice A2 n2 c2))
  have HP := Lib.hid (h4.put (HZ.out.below BN4.out) (.bool (sg z)) (.slice A2 n2 c2))
  have HB := Lib.hid (below_fill (g := w.heap.size + 1 + 1) (below_two HW.out BN4.out) (by omega) (.bool (sg z)) (.slice A2 n2 c2))
  clear bm h4
  go_wp2
  refine bodyPost_ret (results_cell_row rfl _ _ (w.heap.size + 1 + 1) 26 #[.bool (sg z), .slice A2 n2 c2] (0, 0) _ rfl HF.out Tryz.underlying26 rfl int_size) rfl ?_
  exact ⟨A2, n2, c2, rfl, HP.out, HB.out⟩

end
end Go.Proofs.YtjpoolddgocbbaaGreatDoor

/- What package rat's Of answers, as a contract over memory. Conditions: sizes of at most so many limbs. -/
namespace Go.Proofs.YtjpoolddgocbbaaGreatDoor
open Go.RowKit Limb
set_option linter.unusedVariables false
section
variable {w : World} {s s' : Bool} {A B A' B' : Option Addr} {n c m d n' c' m' d' : Nat} {xs ys xs' ys' : List Nat} {x y : Int} {a b L L' : Nat}
set_option maxHeartbeats 4000000 in
set_option maxRecDepth 100000 in
theorem rOf_c (hx : ZZ w s A n c xs x L) (hy : NN w B m d ys b L') (h1 : L ≤ 10000) (h2 : L' ≤ 10000) (r : Option Rat) (e : Int) (hR : ofR x b = (r, e)) :
    Calls Tryz.prog 39 #[.agg #[.bool s, .slice A n c], .slice B m d] w fun ee w' => ∃ A2 n2 c2 B2 m2 d2, ee = .returned (.tuple #[.agg #[.bool (sg (oTop r)), .slice A2 n2 c2, .slice B2 m2 d2], .int .i64 e]) ∧ QT w' A2 n2 c2 B2 m2 d2 r ∧ Below w.heap.size w w' := by
  have b0 := below_new w (.cells #[Value.bool s, Value.slice A n c] 26)
  have b1 := below_new (w.alloc (.cells #[Value.bool s, Value.slice A n c] 26)) (.cells #[Value.bool false, Value.slice none 0 0, Value.slice none 0 0] 28)
  have HW := Lib.hid (below_two b0 b1)
  have HX := Lib.hid (hx.below HW.out)
  have HY := Lib.hid (hy.below HW.out)
  have r0 := (row2_new w 26 (.bool s) (.slice A n c)).below b1
  have rz := row3_new (w.alloc (.cells #[Value.bool s, Value.slice A n c] 26)) 28 (.bool false) (.slice none 0 0) (.slice none 0 0)
  simp only [World.size_alloc] at rz
  have Hq : RowKit.Hid (w.heap.size ≤ w.heap.size + 1) := Nat.le_succ _
  clear b0 b1 hx hy
  by_cases hb : b = 0
  · obtain ⟨rfl, rfl⟩ := ofR_zero hb hR
    clear hR
    have HB0 : RowKit.Hid (((blen b : Nat) : Int) = 0) := by show _ = _; rw [hb]; rfl
    clear hb
    go_enter Tryz.func39, Tryz.ntmps39
    go_wp2_with fail
    generalize (w.alloc (.cells #[Value.bool s, Value.slice A n c] 26)).alloc (.cells #[Value.bool false, Value.slice none 0 0, Value.slice none 0 0] 28) = w1 at *
    have HR0 := Lib.hid r0
    have HZ := Lib.hid rz
    clear r0 rz
    refine (bits_c HY.out (by omega) 0 HB0.out).mono ?_
    rintro e w2 ⟨rfl, rfl⟩
    have e0 := HZ.out.c0
    have e1 := HZ.out.c1
    have e2 := HZ.out.c2
    have f0 := HZ.out.free 0
    have f1 := HZ.out.free 1
    have f2 := HZ.out.free 2
    have HF := Lib.hid (HZ.out.fill (.bool false) (.slice none 0 0) (.slice none 0 0))
    have HB := Lib.hid (below_fill3' HW.out Hq.out (.bool false) (.slice none 0 0) (.slice none 0 0))
    go_wp2
    refine bodyPost_ret (results_mixed rfl _ _ _ 28 #[.bool false, .slice none 0 0, .slice none 0 0] (0, 0) _ (.int .i64 3) rfl rfl HF.out Tryz.underlying28 rfl rat_size) rfl ?_
    exact ⟨none, 0, 0, none, 0, 0, rfl, qt_none _ 0 0, HB.out⟩
  · have hL := ofR_yes hb hR
    clear hR
    obtain ⟨q, hq⟩ : ∃ q, mkRat x b = q := ⟨_, rfl⟩
    rw [hq] at hL
    obtain ⟨g, hg⟩ : ∃ g, gcdN x.natAbs b = g := ⟨_, rfl⟩
    have hg2 : Nat.gcd x.natAbs b = g := hg
    have hg0 : g ≠ 0 := by rw [← hg2]; exact Nat.pos_iff_ne_zero.1 (Nat.gcd_pos_of_pos_right _ (Nat.pos_of_ne_zero hb))
    have m3 := mk_den (x := x) hb
    rw [hq, hg2] at m3
    have HS : RowKit.Hid (zOf s (x.natAbs / g) = q.num) := by
      show _ = _
      rw [← hg2, ← hq]; exact zz_div HX.out.zo hb
    have HD : RowKit.Hid (b / g = q.den) := m3.symm
    have Hg := Lib.hid hg
    have HG : RowKit.Hid (gcdN x.natAbs b < 4294967296 ^ L') := Nat.lt_of_le_of_lt (Nat.gcd_le_right _ (Nat.pos_of_ne_zero hb)) (lt_pow HY.out)
    obtain ⟨z, hz⟩ : ∃ z : Int, ((blen b : Nat) : Int) = z := ⟨_, rfl⟩
    have hz0 : (z == 0) = false := by
      rw [beq_eq_false_iff_ne, ← hz]
      have := mt blen_eq_zero.1 hb
      omega
    have HB0 := Lib.hid hz
    have Hg0 := Lib.hid hg0
    clear hz hb hg hg2 hg0 m3 hq
    go_enter Tryz.func39, Tryz.ntmps39
    go_wp2_with fail
    generalize (w.alloc (.cells #[Value.bool s, Value.slice A n c] 26)).alloc (.cells #[Value.bool false, Value.slice none 0 0, Value.slice none 0 0] 28) = w1 at *
    have HR0 := Lib.hid r0
    have HZ := Lib.hid rz
    clear r0 rz
    refine (bits_c HY.out (by omega) z HB0.out).mono ?_
    rintro e w2 ⟨rfl, rfl⟩
    have c0 := HR0.out.c0
    have c1 := HR0.out.c1
    go_wp2_with fail
    clear c0 c1
    refine (quoGcd_c HX.out.nn HY.out (by omega) (by omega) L' HG.out).mono ?_
    rw [Hg.out]
    rintro e w2 ⟨A3, n3, c3, rfl, h3, bn⟩
    replace HX := Lib.hid (HX.out.below bn)
    replace HY := Lib.hid (HY.out.below bn)
    replace HR0 := Lib.hid (HR0.out.below bn)
    replace HZ := Lib.hid (HZ.out.below bn)
    replace HW := Lib.hid (below_two HW.out bn)
    clear bn
    have H3 := Lib.hid h3
    clear h3
    have c0 := HR0.out.c0
    have c1 := HR0.out.c1
    go_wp2_with fail
    clear c0 c1
    refine (quoRem_yes HX.out.nn H3.out (by omega) (by omega) Hg0.out).mono ?_
    rintro e w2 ⟨A4, n4, c4, A5, n5, c5, rfl, h4, h5, bn⟩
    replace HX := Lib.hid (HX.out.below bn)
    replace HY := Lib.hid (HY.out.below bn)
    replace HR0 := Lib.hid (HR0.out.below bn)
    replace HZ := Lib.hid (HZ.out.below bn)
    replace H3 := Lib.hid (H3.out.below bn)
    replace HW := Lib.hid (below_two HW.out bn)
    clear bn
    have H4 := Lib.hid h4
    clear h4 h5
    have c0 := HR0.out.c0
    have c1 := HR0.out.c1
    go_wp2_with fail
    clear c0 c1
    refine (quoRem_yes HY.out H3.out (by omega) (by omega) Hg0.out).mono ?_
    rintro e w2 ⟨A6, n6, c6, A7, n7, c7, rfl, h6, h7, bn⟩
    replace HX := Lib.hid (HX.out.below bn)
    replace HY := Lib.hid (HY.out.below bn)
    replace HR0 := Lib.hid (HR0.out.below bn)
    replace HZ := Lib.hid (HZ.out.below bn)
    replace H3 := Lib.hid (H3.out.below bn)
    replace H4 := Lib.hid (H4.out.below bn)
    replace HW := Lib.hid (below_two HW.out bn)
    clear bn
    have H6 : RowKit.Hid (NN w2 A6 n6 c6 (limbs q.den) q.den L') := by show NN _ _ _ _ _ _ _; rw [← HD.out]; exact h6
    clear h6 h7
    have c0 := HR0.out.c0
    have c1 := HR0.out.c1
    go_wp2_with fail
    clear c0 c1
    refine (wTrim_c (show ZZ _ s _ _ _ _ q.num L from by rw [← HS.out]; exact ZZ.of H4.out) (by omega)).mono ?_
    rintro e w2 ⟨A8, n8, c8, rfl, h8, bn⟩
    replace HX := Lib.hid (HX.out.below bn)
    replace HY := Lib.hid (HY.out.below bn)
    replace HR0 := Lib.hid (HR0.out.below bn)
    replace HZ := Lib.hid (HZ.out.below bn)
    replace H3 := Lib.hid (H3.out.below bn)
    replace H4 := Lib.hid (H4.out.below bn)
    replace H6 := Lib.hid (H6.out.below bn)
    replace HW := Lib.hid (below_two HW.out bn)
    clear bn
    have H8 := Lib.hid h8
    clear h8 HX HY H3 H4
    cases hf : fitsQ q with
    | true =>
      rw [limR_yes hf] at hL
      cases hL
      have HK : RowKit.Hid ((decide (n8 ≤ 64) && decide (n6 ≤ 64)) = true) := by show _ = _; rw [fits_len q H8.out.nn.isN.len H6.out.isN.len, hf]
      have Hf := Lib.hid hf
      clear hf
      have bx := below_new w2 (.cells #[Value.bool (sg q.num), Value.slice A8 n8 c8, Value.slice A6 n6 c6] 28)
      have HR8 := Lib.hid (row3_new w2 28 (.bool (sg q.num)) (.slice A8 n8 c8) (.slice A6 n6 c6))
      replace H8 := Lib.hid (H8.out.below bx)
      replace H6 := Lib.hid (H6.out.below bx)
      replace HZ := Lib.hid (HZ.out.below bx)
      replace HW := Lib.hid (below_two HW.out bx)
      clear bx HR0
      have e0 := HZ.out.c0
      have e1 := HZ.out.c1
      have e2 := HZ.out.c2
      have y0 := HR8.out.c0
      have y1 := HR8.out.c1
      have y2 := HR8.out.c2
      go_wp2_with fail
      clear y0 y1 y2 e0 e1 e2
      generalize w2.alloc (.cells #[Value.bool (sg q.num), Value.slice A8 n8 c8, Value.slice A6 n6 c6] 28) = w3 at *
      obtain ⟨q8, eg⟩ : ∃ g, g = w2.heap.size := ⟨_, rfl⟩
      rw [← eg] at HR8 ⊢
      clear eg
      refine (rFits_c (sg q.num) A8 A6 n8 c8 n6 c6 _ true HK.out).mono ?_
      rintro e w4 ⟨rfl, bn⟩
      replace H8 := Lib.hid (H8.out.below bn)
      replace H6 := Lib.hid (H6.out.below bn)
      replace HZ := Lib.hid (HZ.out.below bn)
      replace HR8 := Lib.hid (HR8.out.below bn)
      replace HW := Lib.hid (below_two HW.out bn)
      clear bn
      have y0 := HR8.out.c0
      have y1 := HR8.out.c1
      have y2 := HR8.out.c2
      have e0 := HZ.out.c0
      have e1 := HZ.out.c1
      have e2 := HZ.out.c2
      have f0 := HZ.out.free 0
      have f1 := HZ.out.free 1
      have f2 := HZ.out.free 2
      have hNo := HZ.out.noLimb (by intro v e; cases e) (by intro v e; cases e) (by intro v e; cases e)
      have HF := Lib.hid (HZ.out.fill (.bool (sg q.num)) (.slice A8 n8 c8) (.slice A6 n6 c6))
      have HP := Lib.hid ((qt_some H8.out H6.out Hf.out).fillR3 hNo (.bool (sg q.num)) (.slice A8 n8 c8) (.slice A6 n6 c6))
      have HB := Lib.hid (below_fill3' HW.out Hq.out (.bool (sg q.num)) (.slice A8 n8 c8) (.slice A6 n6 c6))
      clear hNo
      go_wp2
      refine bodyPost_ret (results_mixed rfl _ _ _ 28 #[.bool (sg q.num), .slice A8 n8 c8, .slice A6 n6 c6] (0, 0) _ (.int .i64 0) rfl rfl HF.out Tryz.underlying28 rfl rat_size) rfl ?_
      exact ⟨A8, n8, c8, A6, n6, c6, rfl, HP.out, HB.out⟩
    | false =>
      rw [limR_no hf] at hL
      cases hL
      have HK : RowKit.Hid ((decide (n8 ≤ 64) && decide (n6 ≤ 64)) = false) := by show _ = _; rw [fits_len q H8.out.nn.isN.len H6.out.isN.len, hf]
      have Hf := Lib.hid hf
      clear hf
      have bx := below_new w2 (.cells #[Value.bool (sg q.num), Value.slice A8 n8 c8, Value.slice A6 n6 c6] 28)
      have HR8 := Lib.hid (row3_new w2 28 (.bool (sg q.num)) (.slice A8 n8 c8) (.slice A6 n6 c6))
      replace H8 := Lib.hid (H8.out.below bx)
      replace H6 := Lib.hid (H6.out.below bx)
      replace HZ := Lib.hid (HZ.out.below bx)
      replace HW := Lib.hid (below_two HW.out bx)
      clear bx HR0
      have e0 := HZ.out.c0
      have e1 := HZ.out.c1
      have e2 := HZ.out.c2
      have y0 := HR8.out.c0
      have y1 := HR8.out.c1
      have y2 := HR8.out.c2
      go_wp2_with fail
      clear y0 y1 y2 e0 e1 e2
      generalize w2.alloc (.cells #[Value.bool (sg q.num), Value.slice A8 n8 c8, Value.slice A6 n6 c6] 28) = w3 at *
      obtain ⟨q8, eg⟩ : ∃ g, g = w2.heap.size := ⟨_, rfl⟩
      rw [← eg] at HR8 ⊢
      clear eg
      refine (rFits_c (sg q.num) A8 A6 n8 c8 n6 c6 _ false HK.out).mono ?_
      rintro e w4 ⟨rfl, bn⟩
      replace H8 := Lib.hid (H8.out.below bn)
      replace H6 := Lib.hid (H6.out.below bn)
      replace HZ := Lib.hid (HZ.out.below bn)
      replace HR8 := Lib.hid (HR8.out.below bn)
      replace HW := Lib.hid (below_two HW.out bn)
      clear bn
      have e0 := HZ.out.c0
      have e1 := HZ.out.c1
      have e2 := HZ.out.c2
      have f0 := HZ.out.free 0
      have f1 := HZ.out.free 1
      have f2 := HZ.out.free 2
      have HF := Lib.hid (HZ.out.fill (.bool false) (.slice none 0 0) (.slice none 0 0))
      have HB := Lib.hid (below_fill3' HW.out Hq.out (.bool false) (.slice none 0 0) (.slice none 0 0))
      go_wp2
      refine bodyPost_ret (results_mixed rfl _ _ _ 28 #[.bool false, .slice none 0 0, .slice none 0 0] (0, 0) _ (.int .i64 2) rfl rfl HF.out Tryz.underlying28 rfl rat_size) rfl ?_
      exact ⟨none, 0, 0, none, 0, 0, rfl, qt_none _ 0 0, HB.out⟩

end
end Go.Proofs.YtjpoolddgocbbaaGreatDoor

/- What package rat's Good answers, as a contract over memory. Conditions: sizes of at most so many limbs. -/
namespace Go.Proofs.YtjpoolddgocbbaaGreatDoor
open Go.RowKit Limb
set_option linter.unusedVariables false
section
variable {w : World} {s s' : Bool} {A B A' B' : Option Addr} {n c m d n' c' m' d' : Nat} {xs ys xs' ys' : List Nat} {x y : Int} {a b L L' : Nat}
set_option maxHeartbeats 40000000 in
set_option maxRecDepth 100000 in
theorem rGood_c {o : Option Rat} (hx : QQ w s A n c xs B m d ys o L) (h1 : L ≤ 10000) (v : Bool) (hv : o.isSome = v) :
    Calls Tryz.prog 38 #[.agg #[.bool s, .slice A n c, .slice B m d]] w fun e w' => e = .returned (.bool v) ∧ Below w.heap.size w w' := by
  have hg := hx.good
  rw [hv] at hg
  have hlx := hx.bot.isN.len
  have hlt := hx.top.nn.isN.len
  have hsx := hx.top.nn.isN.small
  have hsy := hx.bot.isN.small
  have b0 := below_new w (.cells #[Value.bool s, Value.slice A n c, Value.slice B m d] 28)
  have HW := Lib.hid b0
  have HX : RowKit.Hid (NN (w.alloc (.cells #[Value.bool s, Value.slice A n c, Value.slice B m d] 28)) A n c xs (Limb.val xs) L) := by
    have h := hx.top.nn.below b0
    rw [zOf_abs] at h
    exact h
  have HY := Lib.hid (hx.bot.below b0)
  have HR0 := Lib.hid (row3_new w 28 (.bool s) (.slice A n c) (.slice B m d))
  clear b0 hx hv
  by_cases k1 : xs = limbs (Limb.val xs)
  · by_cases k2 : ys = limbs (Limb.val ys)
    · by_cases k5 : n ≤ 64 ∧ m ≤ 64
      · by_cases k3 : m = 0
        · have hgf : goodV s xs ys = false := by
            rw [Bool.eq_false_iff]
            intro h
            obtain ⟨g1, g2, g3, g4, g5, g6, g7⟩ := goodV_iff.1 h
            exact g3 (by rw [List.eq_nil_of_length_eq_zero (hlx.trans k3)]; rfl)
          obtain rfl : v = false := hg.symm.trans hgf
          clear hg hgf hlx hlt hsx hsy
          have m0 : ((m : Int) == 0) = true := by rw [beq_iff_eq]; omega
          have K1 : RowKit.Hid (decide (xs = limbs (Limb.val xs)) = true) := by show _ = _; simpa using k1
          have K2 : RowKit.Hid (decide (ys = limbs (Limb.val ys)) = true) := by show _ = _; simpa using k2
          have K5 : RowKit.Hid ((decide (n ≤ 64) && decide (m ≤ 64)) = true) := by show _ = _; simpa using k5
          clear k1 k2 k5 k3
          go_enter Tryz.func38, Tryz.ntmps38
          go_wp2_with fail
          generalize w.alloc (.cells #[Value.bool s, Value.slice A n c, Value.slice B m d] 28) = w1 at *
          refine (rTrimmed_c HX.out (by omega) true K1.out).mono ?_
          rintro e w2 ⟨rfl, rfl⟩
          have c00 := HR0.out.c0
          have c01 := HR0.out.c1
          have c02 := HR0.out.c2
          go_wp2_with fail
          clear c00 c01 c02
          refine (rTrimmed_c HY.out (by omega) true K2.out).mono ?_
          rintro e w2 ⟨rfl, rfl⟩
          have c00 := HR0.out.c0
          have c01 := HR0.out.c1
          have c02 := HR0.out.c2
          go_wp2_with fail
          clear c00 c01 c02
          refine (rFits_c s A B n c m d _ true K5.out).mono ?_
          rintro e w3 ⟨rfl, bn⟩
          replace HX := Lib.hid (HX.out.below bn)
          replace HY := Lib.hid (HY.out.below bn)
          replace HR0 := Lib.hid (HR0.out.below bn)
          replace HW := Lib.hid (below_two HW.out bn)
          clear bn
          have c00 := HR0.out.c0
          have c01 := HR0.out.c1
          have c02 := HR0.out.c2
          go_wp2
          go_ret
          exact ⟨rfl, HW.out⟩
        · by_cases k4 : s = true ∧ n = 0
          · obtain ⟨k4s, k4n⟩ := k4
            have hgf : goodV s xs ys = false := by
              rw [Bool.eq_false_iff]
              intro h
              obtain ⟨g1, g2, g3, g4, g5, g6, g7⟩ := goodV_iff.1 h
              exact g4 ⟨k4s, by rw [List.eq_nil_of_length_eq_zero (hlt.trans k4n)]; rfl⟩
            obtain rfl : v = false := hg.symm.trans hgf
            clear hg hgf hlx hlt hsx hsy
            have m0 : ((m : Int) == 0) = false := by rw [beq_eq_false_iff_ne]; omega
            have n0 : ((n : Int) == 0) = true := by rw [beq_iff_eq]; omega
            subst k4s
            have K1 : RowKit.Hid (decide (xs = limbs (Limb.val xs)) = true) := by show _ = _; simpa using k1
            have K2 : RowKit.Hid (decide (ys = limbs (Limb.val ys)) = true) := by show _ = _; simpa using k2
            have K5 : RowKit.Hid ((decide (n ≤ 64) && decide (m ≤ 64)) = true) := by show _ = _; simpa using k5
            clear k1 k2 k5 k3 k4n
            go_enter Tryz.func38, Tryz.ntmps38
            go_wp2_with fail
            generalize w.alloc (.cells #[Value.bool true, Value.slice A n c, Value.slice B m d] 28) = w1 at *
            refine (rTrimmed_c HX.out (by omega) true K1.out).mono ?_
            rintro e w2 ⟨rfl, rfl⟩
            have c00 := HR0.out.c0
            have c01 := HR0.out.c1
            have c02 := HR0.out.c2
            go_wp2_with fail
            clear c00 c01 c02
            refine (rTrimmed_c HY.out (by omega) true K2.out).mono ?_
            rintro e w2 ⟨rfl, rfl⟩
            have c00 := HR0.out.c0
            have c01 := HR0.out.c1
            have c02 := HR0.out.c2
            go_wp2_with fail
            clear c00 c01 c02
            refine (rFits_c true A B n c m d _ true K5.out).mono ?_
            rintro e w3 ⟨rfl, bn⟩
            replace HX := Lib.hid (HX.out.below bn)
            replace HY := Lib.hid (HY.out.below bn)
            replace HR0 := Lib.hid (HR0.out.below bn)
            replace HW := Lib.hid (below_two HW.out bn)
            clear bn
            have c00 := HR0.out.c0
            have c01 := HR0.out.c1
            have c02 := HR0.out.c2
            go_wp2
            go_ret
            exact ⟨rfl, HW.out⟩
          · by_cases hgcd : Nat.gcd (Limb.val xs) (Limb.val ys) = 1
            · have hgt : goodV s xs ys = true := by
                rw [goodV_iff]
                refine ⟨k1, k2, ?_, ?_, by omega, by omega, hgcd⟩
                · intro h; rw [h, limbs_zero] at k2; rw [k2] at hlx; simp at hlx; omega
                · rintro ⟨h1, h2⟩
                  rw [h2, limbs_zero] at k1; rw [k1] at hlt; simp at hlt
                  exact k4 ⟨h1, by omega⟩
              obtain rfl : v = true := hg.symm.trans hgt
              have hl2 := Lib.hid hlx
              clear hg hgt hlx hlt hsx hsy
              obtain ⟨z, hz0⟩ : ∃ z : Int, z = 0 := ⟨_, rfl⟩
              have HZ : RowKit.Hid (cmpI (gcdN (Limb.val xs) (Limb.val ys)) 1 = z) := by show _ = _; rw [hz0]; exact cmpI_same hgcd
              have hzz : (z == 0) = true := by rw [hz0]; rfl
              clear hgcd hz0
              have m0 : ((m : Int) == 0) = false := by rw [beq_eq_false_iff_ne]; omega
              have HG : RowKit.Hid (gcdN (Limb.val xs) (Limb.val ys) < 4294967296 ^ L) := Nat.lt_of_le_of_lt (Nat.gcd_le_right _ (Nat.pos_of_ne_zero fun h0 => k3 (by rw [← hl2.out, k2, h0]; rfl))) (lt_pow HY.out)
              by_cases ks : s = true
              · have n0 : ((n : Int) == 0) = false := by
                  rw [beq_eq_false_iff_ne]
                  have hn0 : n ≠ 0 := fun h => k4 ⟨ks, h⟩
                  omega
                subst ks
                have K1 : RowKit.Hid (decide (xs = limbs (Limb.val xs)) = true) := by show _ = _; simpa using k1
                have K2 : RowKit.Hid (decide (ys = limbs (Limb.val ys)) = true) := by show _ = _; simpa using k2
                have K5 : RowKit.Hid ((decide (n ≤ 64) && decide (m ≤ 64)) = true) := by show _ = _; simpa using k5
                clear k1 k2 k5 k3 k4 hl2
                go_enter Tryz.func38, Tryz.ntmps38
                go_wp2_with fail
                generalize w.alloc (.cells #[Value.bool true, Value.slice A n c, Value.slice B m d] 28) = w1 at *
                refine (rTrimmed_c HX.out (by omega) true K1.out).mono ?_
                rintro e w2 ⟨rfl, rfl⟩
                have c00 := HR0.out.c0
                have c01 := HR0.out.c1
                have c02 := HR0.out.c2
                go_wp2_with fail
                clear c00 c01 c02
                refine (rTrimmed_c HY.out (by omega) true K2.out).mono ?_
                rintro e w2 ⟨rfl, rfl⟩
                have c00 := HR0.out.c0
                have c01 := HR0.out.c1
                have c02 := HR0.out.c2
                go_wp2_with fail
                clear c00 c01 c02
                refine (rFits_c true A B n c m d _ true K5.out).mono ?_
                rintro e w3 ⟨rfl, bn⟩
                replace HX := Lib.hid (HX.out.below bn)
                replace HY := Lib.hid (HY.out.below bn)
                replace HR0 := Lib.hid (HR0.out.below bn)
                replace HW := Lib.hid (below_two HW.out bn)
                clear bn
                have c00 := HR0.out.c0
                have c01 := HR0.out.c1
                have c02 := HR0.out.c2
                go_wp2_with fail
                refine (quoGcd_c HX.out HY.out (by omega) (by omega) L HG.out).mono ?_
                rintro e w4 ⟨A3, n3, c3, rfl, h3, bn⟩
                have H3 := Lib.hid h3
                replace HW := Lib.hid (below_two HW.out bn)
                clear bn h3
                clear c00 c01 c02
                go_wp2_with fail
                refine (of_c 1 1 rfl (by decide) _).mono ?_
                rintro e w5 ⟨A4, n4, c4, rfl, h4, bn⟩
                have H4 := Lib.hid h4
                replace H3 := Lib.hid (H3.out.below bn)
                replace HW := Lib.hid (below_two HW.out bn)
                clear bn h4
                go_wp2_with fail
                refine (cmp_c H3.out H4.out (by omega) (by decide) z HZ.out).mono ?_
                rintro e w6 ⟨rfl, bn⟩
                replace HW := Lib.hid (below_two HW.out bn)
                clear bn
                go_wp2
                go_ret
                exact ⟨rfl, HW.out⟩
              · have ks2 : s = false := by simpa using ks
                subst ks2
                have K1 : RowKit.Hid (decide (xs = limbs (Limb.val xs)) = true) := by show _ = _; simpa using k1
                have K2 : RowKit.Hid (decide (ys = limbs (Limb.val ys)) = true) := by show _ = _; simpa using k2
                have K5 : RowKit.Hid ((decide (n ≤ 64) && decide (m ≤ 64)) = true) := by show _ = _; simpa using k5
                clear k1 k2 k5 k3 k4 hl2
                go_enter Tryz.func38, Tryz.ntmps38
                go_wp2_with fail
                generalize w.alloc (.cells #[Value.bool false, Value.slice A n c, Value.slice B m d] 28) = w1 at *
                refine (rTrimmed_c HX.out (by omega) true K1.out).mono ?_
                rintro e w2 ⟨rfl, rfl⟩
                have c00 := HR0.out.c0
                have c01 := HR0.out.c1
                have c02 := HR0.out.c2
                go_wp2_with fail
                clear c00 c01 c02
                refine (rTrimmed_c HY.out (by omega) true K2.out).mono ?_
                rintro e w2 ⟨rfl, rfl⟩
                have c00 := HR0.out.c0
                have c01 := HR0.out.c1
                have c02 := HR0.out.c2
                go_wp2_with fail
                clear c00 c01 c02
                refine (rFits_c false A B n c m d _ true K5.out).mono ?_
                rintro e w3 ⟨rfl, bn⟩
                replace HX := Lib.hid (HX.out.below bn)
                replace HY := Lib.hid (HY.out.below bn)
                replace HR0 := Lib.hid (HR0.out.below bn)
                replace HW := Lib.hid (below_two HW.out bn)
                clear bn
                have c00 := HR0.out.c0
                have c01 := HR0.out.c1
                have c02 := HR0.out.c2
                go_wp2_with fail
                refine (quoGcd_c HX.out HY.out (by omega) (by omega) L HG.out).mono ?_
                rintro e w4 ⟨A3, n3, c3, rfl, h3, bn⟩
                have H3 := Lib.hid h3
                replace HW := Lib.hid (below_two HW.out bn)
                clear bn h3
                clear c00 c01 c02
                go_wp2_with fail
                refine (of_c 1 1 rfl (by decide) _).mono ?_
                rintro e w5 ⟨A4, n4, c4, rfl, h4, bn⟩
                have H4 := Lib.hid h4
                replace H3 := Lib.hid (H3.out.below bn)
                replace HW := Lib.hid (below_two HW.out bn)
                clear bn h4
                go_wp2_with fail
                refine (cmp_c H3.out H4.out (by omega) (by decide) z HZ.out).mono ?_
                rintro e w6 ⟨rfl, bn⟩
                replace HW := Lib.hid (below_two HW.out bn)
                clear bn
                go_wp2
                go_ret
                exact ⟨rfl, HW.out⟩
            · have hgf : goodV s xs ys = false := by
                rw [Bool.eq_false_iff]
                intro h
                obtain ⟨g1, g2, g3, g4, g5, g6, g7⟩ := goodV_iff.1 h
                exact hgcd g7
              obtain rfl : v = false := hg.symm.trans hgf
              have hl2 := Lib.hid hlx
              clear hg hgf hlx hlt hsx hsy
              obtain ⟨z, hz0, hz1⟩ : ∃ z : Int, cmpI (gcdN (Limb.val xs) (Limb.val ys)) 1 = z ∧ z ≠ 0 := by
                rcases Nat.lt_trichotomy (gcdN (Limb.val xs) (Limb.val ys)) 1 with h | h | h
                · exact ⟨-1, cmpI_lt h, by decide⟩
                · exact absurd h hgcd
                · exact ⟨1, cmpI_gt h, by decide⟩
              have HZ := Lib.hid hz0
              have hzz : (z == 0) = false := by rw [beq_eq_false_iff_ne]; exact hz1
              clear hgcd hz0 hz1
              have m0 : ((m : Int) == 0) = false := by rw [beq_eq_false_iff_ne]; omega
              have HG : RowKit.Hid (gcdN (Limb.val xs) (Limb.val ys) < 4294967296 ^ L) := Nat.lt_of_le_of_lt (Nat.gcd_le_right _ (Nat.pos_of_ne_zero fun h0 => k3 (by rw [← hl2.out, k2, h0]; rfl))) (lt_pow HY.out)
              by_cases ks : s = true
              · have n0 : ((n : Int) == 0) = false := by
                  rw [beq_eq_false_iff_ne]
                  have hn0 : n ≠ 0 := fun h => k4 ⟨ks, h⟩
                  omega
                subst ks
                have K1 : RowKit.Hid (decide (xs = limbs (Limb.val xs)) = true) := by show _ = _; simpa using k1
                have K2 : RowKit.Hid (decide (ys = limbs (Limb.val ys)) = true) := by show _ = _; simpa using k2
                have K5 : RowKit.Hid ((decide (n ≤ 64) && decide (m ≤ 64)) = true) := by show _ = _; simpa using k5
                clear k1 k2 k5 k3 k4 hl2
                go_enter Tryz.func38, Tryz.ntmps38
                go_wp2_with fail
                generalize w.alloc (.cells #[Value.bool true, Value.slice A n c, Value.slice B m d] 28) = w1 at *
                refine (rTrimmed_c HX.out (by omega) true K1.out).mono ?_
                rintro e w2 ⟨rfl, rfl⟩
                have c00 := HR0.out.c0
                have c01 := HR0.out.c1
                have c02 := HR0.out.c2
                go_wp2_with fail
                clear c00 c01 c02
                refine (rTrimmed_c HY.out (by omega) true K2.out).mono ?_
                rintro e w2 ⟨rfl, rfl⟩
                have c00 := HR0.out.c0
                have c01 := HR0.out.c1
                have c02 := HR0.out.c2
                go_wp2_with fail
                clear c00 c01 c02
                refine (rFits_c true A B n c m d _ true K5.out).mono ?_
                rintro e w3 ⟨rfl, bn⟩
                replace HX := Lib.hid (HX.out.below bn)
                replace HY := Lib.hid (HY.out.below bn)
                replace HR0 := Lib.hid (HR0.out.below bn)
                replace HW := Lib.hid (below_two HW.out bn)
                clear bn
                have c00 := HR0.out.c0
                have c01 := HR0.out.c1
                have c02 := HR0.out.c2
                go_wp2_with fail
                refine (quoGcd_c HX.out HY.out (by omega) (by omega) L HG.out).mono ?_
                rintro e w4 ⟨A3, n3, c3, rfl, h3, bn⟩
                have H3 := Lib.hid h3
                replace HW := Lib.hid (below_two HW.out bn)
                clear bn h3
                clear c00 c01 c02
                go_wp2_with fail
                refine (of_c 1 1 rfl (by decide) _).mono ?_
                rintro e w5 ⟨A4, n4, c4, rfl, h4, bn⟩
                have H4 := Lib.hid h4
                replace H3 := Lib.hid (H3.out.below bn)
                replace HW := Lib.hid (below_two HW.out bn)
                clear bn h4
                go_wp2_with fail
                refine (cmp_c H3.out H4.out (by omega) (by decide) z HZ.out).mono ?_
                rintro e w6 ⟨rfl, bn⟩
                replace HW := Lib.hid (below_two HW.out bn)
                clear bn
                go_wp2
                go_ret
                exact ⟨rfl, HW.out⟩
              · have ks2 : s = false := by simpa using ks
                subst ks2
                have K1 : RowKit.Hid (decide (xs = limbs (Limb.val xs)) = true) := by show _ = _; simpa using k1
                have K2 : RowKit.Hid (decide (ys = limbs (Limb.val ys)) = true) := by show _ = _; simpa using k2
                have K5 : RowKit.Hid ((decide (n ≤ 64) && decide (m ≤ 64)) = true) := by show _ = _; simpa using k5
                clear k1 k2 k5 k3 k4 hl2
                go_enter Tryz.func38, Tryz.ntmps38
                go_wp2_with fail
                generalize w.alloc (.cells #[Value.bool false, Value.slice A n c, Value.slice B m d] 28) = w1 at *
                refine (rTrimmed_c HX.out (by omega) true K1.out).mono ?_
                rintro e w2 ⟨rfl, rfl⟩
                have c00 := HR0.out.c0
                have c01 := HR0.out.c1
                have c02 := HR0.out.c2
                go_wp2_with fail
                clear c00 c01 c02
                refine (rTrimmed_c HY.out (by omega) true K2.out).mono ?_
                rintro e w2 ⟨rfl, rfl⟩
                have c00 := HR0.out.c0
                have c01 := HR0.out.c1
                have c02 := HR0.out.c2
                go_wp2_with fail
                clear c00 c01 c02
                refine (rFits_c false A B n c m d _ true K5.out).mono ?_
                rintro e w3 ⟨rfl, bn⟩
                replace HX := Lib.hid (HX.out.below bn)
                replace HY := Lib.hid (HY.out.below bn)
                replace HR0 := Lib.hid (HR0.out.below bn)
                replace HW := Lib.hid (below_two HW.out bn)
                clear bn
                have c00 := HR0.out.c0
                have c01 := HR0.out.c1
                have c02 := HR0.out.c2
                go_wp2_with fail
                refine (quoGcd_c HX.out HY.out (by omega) (by omega) L HG.out).mono ?_
                rintro e w4 ⟨A3, n3, c3, rfl, h3, bn⟩
                have H3 := Lib.hid h3
                replace HW := Lib.hid (below_two HW.out bn)
                clear bn h3
                clear c00 c01 c02
                go_wp2_with fail
                refine (of_c 1 1 rfl (by decide) _).mono ?_
                rintro e w5 ⟨A4, n4, c4, rfl, h4, bn⟩
                have H4 := Lib.hid h4
                replace H3 := Lib.hid (H3.out.below bn)
                replace HW := Lib.hid (below_two HW.out bn)
                clear bn h4
                go_wp2_with fail
                refine (cmp_c H3.out H4.out (by omega) (by decide) z HZ.out).mono ?_
                rintro e w6 ⟨rfl, bn⟩
                replace HW := Lib.hid (below_two HW.out bn)
                clear bn
                go_wp2
                go_ret
                exact ⟨rfl, HW.out⟩
      · have hgf : goodV s xs ys = false := by
          rw [Bool.eq_false_iff]
          intro h
          obtain ⟨g1, g2, g3, g4, g5, g6, g7⟩ := goodV_iff.1 h
          exact k5 ⟨by omega, by omega⟩
        obtain rfl : v = false := hg.symm.trans hgf
        clear hg hgf hlx hlt hsx hsy
        have K1 : RowKit.Hid (decide (xs = limbs (Limb.val xs)) = true) := by show _ = _; simpa using k1
        have K2 : RowKit.Hid (decide (ys = limbs (Limb.val ys)) = true) := by show _ = _; simpa using k2
        have K5 : RowKit.Hid ((decide (n ≤ 64) && decide (m ≤ 64)) = false) := by show _ = _; rw [Bool.eq_false_iff]; simpa using k5
        clear k1 k2 k5 
        go_enter Tryz.func38, Tryz.ntmps38
        go_wp2_with fail
        generalize w.alloc (.cells #[Value.bool s, Value.slice A n c, Value.slice B m d] 28) = w1 at *
        refine (rTrimmed_c HX.out (by omega) true K1.out).mono ?_
        rintro e w2 ⟨rfl, rfl⟩
        have c00 := HR0.out.c0
        have c01 := HR0.out.c1
        have c02 := HR0.out.c2
        go_wp2_with fail
        clear c00 c01 c02
        refine (rTrimmed_c HY.out (by omega) true K2.out).mono ?_
        rintro e w2 ⟨rfl, rfl⟩
        have c00 := HR0.out.c0
        have c01 := HR0.out.c1
        have c02 := HR0.out.c2
        go_wp2_with fail
        clear c00 c01 c02
        refine (rFits_c s A B n c m d _ false K5.out).mono ?_
        rintro e w3 ⟨rfl, bn⟩
        replace HX := Lib.hid (HX.out.below bn)
        replace HY := Lib.hid (HY.out.below bn)
        replace HR0 := Lib.hid (HR0.out.below bn)
        replace HW := Lib.hid (below_two HW.out bn)
        clear bn
        go_wp2
        go_ret
        exact ⟨rfl, HW.out⟩
    · have hgf : goodV s xs ys = false := by
        rw [Bool.eq_false_iff]
        intro h
        obtain ⟨g1, g2, g3, g4, g5, g6, g7⟩ := goodV_iff.1 h
        exact k2 g2
      obtain rfl : v = false := hg.symm.trans hgf
      clear hg hgf hlx hlt hsx hsy
      have K1 : RowKit.Hid (decide (xs = limbs (Limb.val xs)) = true) := by show _ = _; simpa using k1
      have K2 : RowKit.Hid (decide (ys = limbs (Limb.val ys)) = false) := by show _ = _; simpa using k2
      clear k1 k2
      go_enter Tryz.func38, Tryz.ntmps38
      go_wp2_with fail
      generalize w.alloc (.cells #[Value.bool s, Value.slice A n c, Value.slice B m d] 28) = w1 at *
      refine (rTrimmed_c HX.out (by omega) true K1.out).mono ?_
      rintro e w2 ⟨rfl, rfl⟩
      have c00 := HR0.out.c0
      have c01 := HR0.out.c1
      have c02 := HR0.out.c2
      go_wp2_with fail
      clear c00 c01 c02
      refine (rTrimmed_c HY.out (by omega) false K2.out).mono ?_
      rintro e w2 ⟨rfl, rfl⟩
      go_wp2
      go_ret
      exact ⟨rfl, HW.out⟩
  · have hgf : goodV s xs ys = false := by
      rw [Bool.eq_false_iff]
      intro h
      obtain ⟨g1, g2, g3, g4, g5, g6, g7⟩ := goodV_iff.1 h
      exact k1 g1
    obtain rfl : v = false := hg.symm.trans hgf
    clear hg hgf hlx hlt hsx hsy
    have K1 : RowKit.Hid (decide (xs = limbs (Limb.val xs)) = false) := by show _ = _; simpa using k1
    clear k1
    go_enter Tryz.func38, Tryz.ntmps38
    go_wp2_with fail
    generalize w.alloc (.cells #[Value.bool s, Value.slice A n c, Value.slice B m d] 28) = w1 at *
    refine (rTrimmed_c HX.out (by omega) false K1.out).mono ?_
    rintro e w2 ⟨rfl, rfl⟩
    go_wp2
    go_ret
    exact ⟨rfl, HW.out⟩

end
end Go.Proofs.YtjpoolddgocbbaaGreatDoor

/- What package rat's Cmp, Sign, Neg, Same and Whole answer, as contracts over memory. Conditions: sizes of at most so many limbs. -/
namespace Go.Proofs.YtjpoolddgocbbaaGreatDoor
open Go.RowKit Limb
set_option linter.unusedVariables false
section
variable {w : World} {s s' : Bool} {A B A' B' : Option Addr} {n c m d n' c' m' d' : Nat} {xs ys xs' ys' : List Nat} {x y : Int} {o o' : Option Rat} {a b L L' : Nat}
end
set_option maxHeartbeats 4000000 in
set_option maxRecDepth 100000 in
theorem rWhole_c (v : Int) (h0 : -9223372036854775808 ≤ v) (h1 : v ≤ 9223372036854775807) (w : World) :
    Calls Tryz.prog 16 #[.int .i64 v] w fun e w' => ∃ A2 n2 c2 B2 m2 d2, e = .returned (.agg #[.bool (sg (oTop (some (v : Rat)))), .slice A2 n2 c2, .slice B2 m2 d2]) ∧ QT w' A2 n2 c2 B2 m2 d2 (some (v : Rat)) ∧ Below w.heap.size w w' := by
  have HW := Lib.hid (below_new w (.cells #[Value.bool false, Value.slice none 0 0, Value.slice none 0 0] 28))
  have HZ := Lib.hid (row3_new w 28 (.bool false) (.slice none 0 0) (.slice none 0 0))
  go_enter Tryz.func16, Tryz.ntmps16
  go_wp2_with fail
  refine (wOf_c v h0 h1 _).mono ?_
  rintro e w2 ⟨A2, n2, c2, rfl, h2, bn⟩
  have H2 := Lib.hid h2
  replace HZ := Lib.hid (HZ.out.below bn)
  replace HW := Lib.hid (below_two HW.out bn)
  clear h2 bn
  go_wp2_with fail
  refine (of_c 1 1 rfl (by decide) _).mono ?_
  rintro e w3 ⟨A4, n4, c4, rfl, h4, bn⟩
  replace H2 := Lib.hid (H2.out.below bn)
  replace HZ := Lib.hid (HZ.out.below bn)
  replace HW := Lib.hid (below_two HW.out bn)
  have HL := Lib.hid h4
  clear h4 bn
  have hNo := HZ.out.noLimb (by intro v e; cases e) (by intro v e; cases e) (by intro v e; cases e)
  have e0 := HZ.out.c0
  have e1 := HZ.out.c1
  have e2 := HZ.out.c2
  have f0 := HZ.out.free 0
  have f1 := HZ.out.free 1
  have f2 := HZ.out.free 2
  have HF := Lib.hid (HZ.out.fill (.bool (sg v)) (.slice A2 n2 c2) (.slice A4 n4 c4))
  have HP1 := Lib.hid (H2.out.fillR3 hNo (.bool (sg v)) (.slice A2 n2 c2) (.slice A4 n4 c4))
  have HP2 := Lib.hid (HL.out.fillR3 hNo (.bool (sg v)) (.slice A2 n2 c2) (.slice A4 n4 c4))
  have HB := Lib.hid (below_fill3' HW.out (Nat.le_refl _) (.bool (sg v)) (.slice A2 n2 c2) (.slice A4 n4 c4))
  clear hNo H2 HL
  go_wp2
  refine bodyPost_ret (results_cell_row rfl _ _ w.heap.size 28 #[.bool (sg v), .slice A2 n2 c2, .slice A4 n4 c4] (0, 0) _ rfl HF.out Tryz.underlying28 rfl rat_size) rfl ?_
  exact ⟨A2, n2, c2, _, _, _, rfl, qt_some (q := (v : Rat)) HP1.out HP2.out (whole_fits h0 h1), HB.out⟩

end Go.Proofs.YtjpoolddgocbbaaGreatDoor

/- What the statements' helper By of layer 7 answers, as a contract over memory. Conditions: two numbers of a machine whose quotient has room. -/
namespace Go.Proofs.YtjpoolddgocbbaaGreatDoor
open Go.RowKit Limb
set_option linter.unusedVariables false
theorem refQWhole_is (v : Int) (h0 : -9223372036854775808 ≤ v) (h1 : v ≤ 9223372036854775807) (q : Rat) (hq : (v : Rat) = q) (w : World) : Calls Tryz.prog 45 #[.int .i64 v] w fun e w' => ∃ A2 n2 c2 B2 m2 d2, e = .returned (.agg #[.bool (sg (oTop (some q))), .slice A2 n2 c2, .slice B2 m2 d2]) ∧ QT w' A2 n2 c2 B2 m2 d2 (some q) ∧ Below w.heap.size w w' := by
  subst hq; exact refQWhole_c v h0 h1 w
theorem rWhole_is (v : Int) (h0 : -9223372036854775808 ≤ v) (h1 : v ≤ 9223372036854775807) (q : Rat) (hq : (v : Rat) = q) (w : World) : Calls Tryz.prog 16 #[.int .i64 v] w fun e w' => ∃ A2 n2 c2 B2 m2 d2, e = .returned (.agg #[.bool (sg (oTop (some q))), .slice A2 n2 c2, .slice B2 m2 d2]) ∧ QT w' A2 n2 c2 B2 m2 d2 (some q) ∧ Below w.heap.size w w' := by
  subst hq; exact rWhole_c v h0 h1 w

set_option maxHeartbeats 4000000 in
set_option maxRecDepth 100000 in
theorem by_c (a b : Int) (a0 : -9223372036854775808 ≤ a) (a1 : a ≤ 9223372036854775807) (b0 : -9223372036854775808 ≤ b) (b1 : b ≤ 9223372036854775807) (q : Rat) (hq : divR (some (a : Rat)) (some (b : Rat)) = (some q, 0)) (w : World) :
    Calls Tryz.prog 20 #[.int .i64 a, .int .i64 b] w fun e w' => ∃ A2 n2 c2 B2 m2 d2, e = .returned (.agg #[.bool (sg (oTop (some q))), .slice A2 n2 c2, .slice B2 m2 d2]) ∧ QT w' A2 n2 c2 B2 m2 d2 (some q) ∧ Below w.heap.size w w' := by
  have bw := below_new w (.cells #[Value.bool false, Value.slice none 0 0, Value.slice none 0 0] 28)
  have h_rz := row3_new w 28 (.bool false) (.slice none 0 0) (.slice none 0 0)
  obtain ⟨p, ep⟩ : ∃ p : Rat, (a : Rat) = p := ⟨_, rfl⟩
  obtain ⟨r, er⟩ : ∃ r : Rat, (b : Rat) = r := ⟨_, rfl⟩
  rw [ep, er] at hq
  have ep := Lib.hid ep
  have er := Lib.hid er
  have hq := Lib.hid hq
  have a0 := Lib.hid a0
  have a1 := Lib.hid a1
  have b0 := Lib.hid b0
  have b1 := Lib.hid b1
  go_enter Tryz.func20, Tryz.ntmps20
  go_wp2_with fail
  generalize w.alloc (.cells #[Value.bool false, Value.slice none 0 0, Value.slice none 0 0] 28) = w1 at *
  obtain ⟨q_z, eg⟩ : ∃ g, g = w.heap.size := ⟨_, rfl⟩
  have hqz : RowKit.Hid (w.heap.size ≤ q_z) := by show _ ≤ _; omega
  rw [← eg] at h_rz ⊢
  clear eg
  refine (refQWhole_is a a0.out a1.out _ ep.out _).mono ?_
  rintro e w1 ⟨A_a, n_a, c_a, B_a, m_a, d_a, rfl, h_a, bn⟩
  replace h_rz := h_rz.below bn
  replace bw := below_two bw bn
  clear bn
  go_wp2_with fail
  refine (refQWhole_is b b0.out b1.out _ er.out _).mono ?_
  rintro e w2 ⟨A_b, n_b, c_b, B_b, m_b, d_b, rfl, h_b, bn⟩
  replace h_rz := h_rz.below bn
  replace h_a := h_a.below bn
  replace bw := below_two bw bn
  clear bn
  go_wp2_with fail
  refine (refQDiv_c h_a h_b (by decide) (by decide) _ _ hq.out).mono ?_
  rintro e w3 ⟨A_g, n_g, c_g, B_g, m_g, d_g, rfl, h_g, bn⟩
  replace h_rz := h_rz.below bn
  replace h_a := h_a.below bn
  replace h_b := h_b.below bn
  replace bw := below_two bw bn
  clear bn
  have h_rgg := row4_new w3 33 (.bool (sg (oTop (some q)))) (.slice A_g n_g c_g) (.slice B_g m_g d_g) (.int .i64 0)
  have bn := below_new w3 (.cells #[Value.bool (sg (oTop (some q))), Value.slice A_g n_g c_g, Value.slice B_g m_g d_g, Value.int .i64 0] 33)
  replace h_rz := h_rz.below bn
  replace h_a := h_a.below bn
  replace h_b := h_b.below bn
  replace h_g := h_g.below bn
  replace bw := below_two bw bn
  clear bn
  have hNo := h_rz.noLimb (by intro v e; cases e) (by intro v e; cases e) (by intro v e; cases e)
  have e0 := h_rz.c0
  have f0 := h_rz.free 0
  have e1 := h_rz.c1
  have f1 := h_rz.free 1
  have e2 := h_rz.c2
  have f2 := h_rz.free 2
  have y0 := h_rgg.c0
  have y1 := h_rgg.c1
  have y2 := h_rgg.c2
  have y3 := h_rgg.c3
  have HF := Lib.hid (h_rz.fill (.bool (sg (oTop (some q)))) (.slice A_g n_g c_g) (.slice B_g m_g d_g))
  have HP := Lib.hid (QQ.fillR3 h_g hNo (.bool (sg (oTop (some q)))) (.slice A_g n_g c_g) (.slice B_g m_g d_g))
  have HB := Lib.hid (below_fill3' bw hqz.out (.bool (sg (oTop (some q)))) (.slice A_g n_g c_g) (.slice B_g m_g d_g))
  clear hNo
  go_wp2
  refine bodyPost_ret (results_cell_row rfl _ _ _ 28 #[.bool (sg (oTop (some q))), .slice A_g n_g c_g, .slice B_g m_g d_g] (0, 0) _ rfl HF.out Tryz.underlying28 rfl rat_size) rfl ?_
  exact ⟨A_g, n_g, c_g, B_g, m_g, d_g, rfl, HP.out, HB.out⟩

end Go.Proofs.YtjpoolddgocbbaaGreatDoor

/- What package digits' groups and appendGroup answer, as contracts over memory, where its table of powers of ten reads as it is laid. Condition: the table (Tab), at most 10000 limbs. -/
namespace Go.Proofs.YtjpoolddgocbbaaGreatDoor
open Go.RowKit Limb
set_option linter.unusedVariables false

/-- The table of powers of ten reads as it is laid; the sentinel of strconv is an error. -/
def Tab (w : World) : Prop := (∀ i, i < 10 → w.cell? ⟨0, i, none⟩ = some (.int .u32 ((10 ^ i : Nat) : Int))) ∧ ∃ te pe, w.cell? ⟨3, 0, none⟩ = some (.iface te pe)
theorem Tab.below {w w' : World} (h : Tab w) (hb : Below w.heap.size w w') : Tab w' := by
  obtain ⟨h1, te, pe, h2⟩ := h
  exact ⟨fun i hi => (hb.cell (p := ⟨0, i, none⟩) (Lib.lt_of_cell (h1 i hi))).trans (h1 i hi), te, pe, (hb.cell (p := ⟨3, 0, none⟩) (Lib.lt_of_cell h2)).trans h2⟩
theorem Tab.lt {w : World} (h : Tab w) : 0 < w.heap.size := Lib.lt_of_cell (h.1 0 (by decide))

/-- How long a slice is. -/
def lenOf (v : Value) : Nat := match v with
  | .slice _ n _ => n
  | _ => 0

/-- append of one limb to a row of the call's own, nil too: the literal of one limb lies in a new block. -/
theorem wpList_append_word {w : World} {ops : Array Oper} {rest : List Oper} {o : Oper} {a : Act} {Q : Exit → Act → World → Prop} (hgd : o.guard = none) (s x : Operand)
    (ho : o.op = .call { callee := .builtin .append, args := #[s, x], argTypes := #[23, 23] })
    (base : Nat) (v : Value) (n : Nat) (xs : List Nat) (hs : a.eval s = v) (hown : Hid (w.ownsRow base 38 1 v n (xs.map limV)))
    (g : Nat) (hx : a.eval x = .slice (some ⟨g, 0, none⟩) 1 1) (y : Nat) (hy : Hid (w.cell? ⟨g, 0, none⟩ = some (.int .u32 (y : Int)) ∧ y < 4294967296)) (hb : Hid (n ≤ 1000000000 ∧ base ≤ w.heap.size ∧ Small xs))
    (h : ∀ A2 c2 w', Hid (OwnN w' base A2 (n + 1) c2 (xs ++ [y])) → Hid (w.grownBy w' v.ownBlock) → wpList Tryz.prog ops Q rest (a.put o.dst (.slice A2 (n + 1) c2)) w') : wpList Tryz.prog ops Q (o :: rest) a w := by
  obtain ⟨i0, hi, hz0, hz1, hz2⟩ := info_parts u32_info
  obtain ⟨h1, h3, h4⟩ := hb.out
  refine wpList_append_read hgd s x 23 ho base 38 i0 (.int .u32 0) 4 Tryz.underlying23 hi hz0 hz1 hz2 rfl v n (xs.map limV) hs hown.out (some ⟨g, 0, none⟩) 1 1 ([y].map limV) hx rfl ?_ (oneCell_u32 [y]) (by unfold maxLen; omega) (by omega) h3 ?_
  · intro _
    refine ⟨_, rfl, fun j u hu => ?_⟩
    obtain ⟨hj, rfl⟩ := map_u32_get hu
    obtain rfl : j = 0 := by simpa using hj
    have e : (⟨g, 0, none⟩ : Addr).add 0 = ⟨g, 0, none⟩ := by unfold Addr.add; split <;> simp_all
    rw [e]
    exact hy.out.1
  · intro v' w' hown' hg
    rw [← List.map_append] at hown'
    obtain ⟨A2, c2, rfl, how⟩ := shape_own hown' (small_append.2 ⟨h4, by intro z hz; simp at hz; subst hz; exact hy.out.2⟩)
    exact h A2 c2 w' how hg

/-- What an append to a row of limbs of the call's own leaves of what was there before the call. -/
theorem below_grownN {w0 w w' : World} {A : Option Addr} {n c : Nat} {zs : List Nat} {o : Obj} (hb : Below w0.heap.size w0 w) (how : OwnN w w0.heap.size A n c zs) (hg : (w.alloc o).grownBy w' (Value.ownBlock (.slice A n c))) : Below w0.heap.size w0 w' :=
  (hb.alloc hb.size o).grown hg (by have := hb.size; simp; omega) (fun k hk => (how.1.lt k hk).1)
/-- .. of what lay below a bound. -/
theorem below_grownC {C : Nat} {w0 w w' : World} {A : Option Addr} {n c : Nat} {zs : List Nat} {o : Obj} (hb : Below C w0 w) (hC : C ≤ w.heap.size) (how : OwnB w C A n c zs) (hg : (w.alloc o).grownBy w' (Value.ownBlock (.slice A n c))) : Below C w0 w' :=
  (hb.alloc hC o).grown hg (by simp; omega) (fun k hk => (how.1.lt k hk).1)
/-- .. of whatever is no cells. -/
theorem others_grownB {w0 w w' : World} {B : Nat} {A : Option Addr} {n c : Nat} {zs : List Nat} {o : Obj} (hk : KeepsOthers w0 w) (how : OwnB w B A n c zs) (hg : (w.alloc o).grownBy w' (Value.ownBlock (.slice A n c))) : KeepsOthers w0 w' := by
  refine hk.trans ((KeepsOthers.alloc w o).trans (KeepsOthers.of_grownBy hg fun j ob e ho => ?_))
  have hlt := (how.1.lt j e).2
  rcases how.1.2 with ⟨hv, _⟩ | ⟨g, cap, cur, hv, hB, hh, _⟩
  · injection hv with hA; subst hA; cases e
  · injection hv with hA; subst hA
    injection e with e; subst e
    have h2 := (Below.heap_alloc w o g (Array.getElem?_eq_some_iff.1 hh).1).trans hh
    rw [h2] at ho
    injection ho with ho; subst ho; rfl

end Go.Proofs.YtjpoolddgocbbaaGreatDoor

/- What the library's bytes.TrimLeft (of noughts) answers, as a contract over memory. Condition: the list reads as bytes. -/
namespace Go.Proofs.YtjpoolddgocbbaaGreatDoor
open Go.RowKit Limb
set_option linter.unusedVariables false

theorem IsB.nil (w : World) (A : Option Addr) : IsB w A 0 [] := ⟨rfl, bytes_nil, fun h => absurd h (by omega)⟩

end Go.Proofs.YtjpoolddgocbbaaGreatDoor

/- What a row's listed variables give: the table of powers of ten and strconv's sentinel as the contracts ask them. Condition: the variables read as listed. -/
namespace Go.Proofs.YtjpoolddgocbbaaGreatDoor
open Go.RowKit Go.ChangeShapes
set_option linter.unusedVariables false

theorem laidMet_drop {P : Program} {w : World} : ∀ (k : Nat) {l : List (String × DataW Unit)}, laidMet P l w → laidMet P (l.drop k) w
  | 0, _, h => h
  | _ + 1, [], h => h
  | k + 1, _ :: _, h => laidMet_drop k h.tail

/-- The powers of ten that a limb holds. -/
def tens : List Int := [1, 10, 100, 1000, 10000, 100000, 1000000, 10000000, 100000000, 1000000000]
theorem tens_at : ∀ i, i < 10 → tens.getD i 0 = ((10 ^ i : Nat) : Int) := by decide

theorem powers_tab {W : World} {name : String} {r : List (String × DataW Unit)} (h : laidMet Tryz.prog ((name, Lib.tabData .u32 tens) :: r) W) (hg : Tryz.prog.globalNamed name = some 0) :
    ∀ i, i < 10 → W.cell? ⟨0, i, none⟩ = some (.int .u32 ((10 ^ i : Nat) : Int)) := fun i hi => by
  have hT := Lib.tabIs_of_head hg (t := 78) (by kernel_rfl) Tryz.underlying78 Tryz.underlying38 (by kernel_rfl) (by kernel_rfl) h
  rw [hT.cell hg i hi, tens_at i hi]

theorem err_tab {W : World} {name nm : String} {d : DataW Unit} {r : List (String × DataW Unit)} (h : laidMet Tryz.prog ((name, .iface nm d) :: r) W) (hg : Tryz.prog.globalNamed name = some 3) :
    ∃ te pe, W.cell? ⟨3, 0, none⟩ = some (.iface te pe) := by
  obtain ⟨ps, ⟨g0, t0, cs0, f0, p0, q0, hg0, ht0, hv0, hd0, _, _⟩, _, _⟩ := h
  obtain rfl := Option.some.inj (hg.symm.trans hg0)
  have ht : (Tryz.prog.globals[3]?).map (·.type) = some 52 := by kernel_rfl
  obtain rfl := Option.some.inj (ht.symm.trans ht0)
  obtain ⟨_, u, v, hcs, _⟩ := iface_of_trod Tryz.underlying52 hd0
  have h2 := World.var?_cell hg0 hv0 0
  rw [← Array.getElem?_toList, hcs] at h2
  exact ⟨u, v, by simpa using h2⟩

end Go.Proofs.YtjpoolddgocbbaaGreatDoor

/- What a row's listed variables give: the tables of packages digits and literal as the contracts ask them. Condition: the variables read as listed. -/
namespace Go.Proofs.YtjpoolddgocbbaaGreatDoor
open Go.RowKit Go.ChangeShapes Limb
set_option linter.unusedVariables false

/-- What package literal's table holds. -/
def kindsL : List Int := [0, 0, 0, 0, 0, 0, 0, 0, 0, 0, 0, 0, 0, 0, 0, 0, 0, 0, 0, 0, 0, 0, 0, 0, 0, 0, 0, 0, 0, 0, 0, 0, 0, 0, 0, 0, 0, 0, 0, 0, 0, 0, 0, 0, 0, 4, 2, 0, 1, 1, 1, 1, 1, 1, 1, 1, 1, 1, 0, 0, 0, 0, 0, 0, 0, 0, 0, 0, 0, 0, 0, 0, 0, 0, 0, 0, 0, 0, 0, 0, 0, 0, 0, 0, 0, 0, 0, 0, 0, 0, 0, 0, 0, 0, 0, 0, 0, 0, 0, 0, 0, 3]
/-- A byte's kind: a minus, a point, an e, a digit, or none of them. -/
def kindN (c : Nat) : Nat := if c = 45 then 4 else if c = 46 then 2 else if c = 101 then 3 else if isDig c = true then 1 else 0
theorem kinds_at : ∀ i, i < 102 → kindsL.getD i 0 = ((kindN i : Nat) : Int) := by decide
/-- The tables of packages digits and literal read as they are laid. -/
def LTab (w : World) : Prop := Tab w ∧ ∀ i, i < 102 → w.cell? ⟨1, i, none⟩ = some (.int .u8 ((kindN i : Nat) : Int))
theorem LTab.below {w w' : World} (h : LTab w) (hb : Below w.heap.size w w') : LTab w' :=
  ⟨h.1.below hb, fun i hi => (hb.cell (p := ⟨1, i, none⟩) (Lib.lt_of_cell (h.2 i hi))).trans (h.2 i hi)⟩
set_option maxRecDepth 4000 in
theorem kinds_tab {W : World} {name : String} {r : List (String × DataW Unit)} (h : laidMet Tryz.prog ((name, Lib.tabData .u8 kindsL) :: r) W) (hg : Tryz.prog.globalNamed name = some 1) :
    ∀ i, i < 102 → W.cell? ⟨1, i, none⟩ = some (.int .u8 ((kindN i : Nat) : Int)) := fun i hi => by
  have hT := Lib.tabIs_of_head hg (t := 111) (by kernel_rfl) Tryz.underlying111 Tryz.underlying5 (by kernel_rfl) (by kernel_rfl) h
  rw [hT.cell hg i hi, kinds_at i hi]

end Go.Proofs.YtjpoolddgocbbaaGreatDoor

/- How an argument that is a slice of 32-bit words is opened: it reads as limbs in the caller's memory. No condition. -/
namespace Go.Proofs.YtjpoolddgocbbaaGreatDoor
open Go.ChangeShapes Go.WideShapes Go.ChangeAt Go.RowKit Limb
set_option linter.unusedVariables false

theorem own : ownKnob Tryz.prog.godebug = none := by kernel_rfl
theorem laidOut : laidOutB Tryz.prog = true := by kernel_rfl

theorem wf_u32 {n : Int} (h : (Lit.int .u32 n).wf = true) : 0 ≤ n ∧ n < 4294967296 := by
  have h1 : IntKind.u32.min = 0 := rfl
  have h2 : IntKind.u32.max = 4294967295 := rfl
  simp only [Lit.wf, Bool.and_eq_true, decide_eq_true_eq] at h
  omega

theorem add_zero_addr (a : Addr) : a.add 0 = a := by simp [Addr.add]

/-- What a slice of words that came in reads as. -/
theorem open_nat {H : Type} {enc : TypeId × Value → H} {W : World} {sp : Nat → Bool} {held : Bool} {a : Option Addr} {n c : Nat} {d : DataW H} {p : List MemPlace}
    (h : DataW.Trod enc Tryz.prog W 0 sp held 24 (.slice a n c) d p) : ∃ xs, IsN W a n xs ∧ n ≤ c ∧ c ≤ maxLen ∧ (a = none → c = 0) := by
  obtain ⟨fuel, hf⟩ := h
  rcases open_ints Tryz.underlying24 Tryz.underlying38 (by kernel_rfl) hf with ⟨hcs, _⟩ | ⟨x, l, k, zs, hcs, _, hl, hm, hz, _, hcell, hwz⟩
  · simp [Value.cells] at hcs
    obtain ⟨rfl, rfl, rfl⟩ := hcs
    exact ⟨[], IsN.nil _ _, Nat.le_refl _, Nat.zero_le _, fun _ => rfl⟩
  · simp [Value.cells] at hcs
    obtain ⟨rfl, rfl, rfl⟩ := hcs
    have hz' : n ≤ zs.length := by rw [hz]; split <;> omega
    refine ⟨(zs.take n).map Int.toNat, ⟨by simp; omega, ?_, fun hn => ?_⟩, hl, hm, fun e => by cases e⟩
    · intro v hv
      obtain ⟨z, hz2, rfl⟩ := List.mem_map.1 hv
      have := wf_u32 (hwz z (List.mem_of_mem_take hz2))
      omega
    · obtain ⟨b, o, spot⟩ := x
      have h0 := hcell 0 (by omega)
      rw [add_zero_addr] at h0
      have hs : spot = none := World.cell?_spot h0
      subst hs
      refine ⟨b, o, rfl, World.block_lt_of_cell? W _ h0, fun j hj => ?_⟩
      have hj2 := hcell j (by omega)
      have e : (⟨b, o, none⟩ : Addr).add j = ⟨b, o + j, none⟩ := by unfold Addr.add; split <;> simp_all
      rw [e] at hj2
      rw [hj2]
      have hw := wf_u32 (hwz zs[j] (List.getElem_mem (by omega)))
      have e2 : zs.getD j 0 = zs[j] := by simp [List.getD_eq_getElem?_getD, List.getElem?_eq_getElem (show j < zs.length by omega)]
      have e3 : lim ((zs.take n).map Int.toNat) j = (zs[j]).toNat := by
        simp [lim, List.getD_eq_getElem?_getD, hj, List.getElem?_eq_getElem (show j < zs.length by omega)]
      rw [e2, e3, Int.toNat_of_nonneg hw.1]

theorem places_lt {H : Type} {enc : TypeId × Value → H} {W : World} {base : Nat} {sp : Nat → Bool} {held : Bool} {t : TypeId} {v : Value} {d : DataW H} {p : List MemPlace} (h : DataW.Trod enc Tryz.prog W base sp held t v d p) : ∀ x ∈ p, x.block < W.heap.size := by
  obtain ⟨m, hm⟩ := h; exact DataW.trod_lt m _ _ _ hm

theorem long_yes {n : Nat} (h : 300 < n) : tooLong n = true := by simp [tooLong, h]
theorem long_no {n : Nat} (h : n ≤ 300) : tooLong n = false := by simp [tooLong]; omega

end Go.Proofs.YtjpoolddgocbbaaGreatDoor

/- How an argument that is a struct of a sign and a list of limbs is opened. No condition. -/
namespace Go.Proofs.YtjpoolddgocbbaaGreatDoor
open Go.ChangeShapes Go.WideShapes Go.ChangeAt Go.RowKit Limb
set_option linter.unusedVariables false

theorem cells_bool : Tryz.prog.cellsOf 4 = 1 := by kernel_rfl
theorem cells_nat : Tryz.prog.cellsOf 24 = 1 := by kernel_rfl
theorem cells_int : Tryz.prog.cellsOf 26 = 2 := by kernel_rfl

theorem two_cells {cs : Array Value} {u v : Value} (h : cs.toList = [u, v]) : cs = #[u, v] := by
  obtain ⟨l⟩ := cs
  have h2 : l = [u, v] := h
  rw [h2]

set_option maxRecDepth 100000 in
theorem open_zint {H : Type} {enc : TypeId × Value → H} {W : World} {r : Reach} {b0 : Nat} {sp : Nat → Bool} {held : Bool} {v : Value} {d : DataW H} {p : List MemPlace}
    (hok : Value.okWide Tryz.prog W r b0 26 v) (h : DataW.Trod enc Tryz.prog W 0 sp held 26 v d p) :
    ∃ (s : Bool) (a : Option Addr) (n c : Nat) (xs : List Nat), v = .agg #[.bool s, .slice a n c] ∧ IsN W a n xs ∧ n ≤ c ∧ c ≤ maxLen := by
  obtain ⟨cs, rfl, hsz⟩ := okWide_struct Tryz.underlying26 hok
  rw [cells_int] at hsz
  obtain ⟨fuel, hf⟩ := h
  obtain ⟨xs, m, rfl, hx, hlen, hxl, hel⟩ := DataW.trod_struct Tryz.underlying26 hf
  have h0 : DataW.trod enc Tryz.prog W 0 sp held m 4 (((Value.agg cs).cells.toList.drop 0).take (Tryz.prog.cellsOf 4)) = xs[0]? := hel 0 _ rfl
  have h1 : DataW.trod enc Tryz.prog W 0 sp held m 24 (((Value.agg cs).cells.toList.drop 1).take (Tryz.prog.cellsOf 24)) = xs[1]? := hel 1 _ rfl
  rw [cells_bool] at h0
  rw [cells_nat] at h1
  have hxl2 : xs.length = 2 := by simpa using hxl
  rw [List.getElem?_eq_getElem (by omega)] at h0 h1
  have hcl : cs.toList.length = 2 := by simpa using hsz
  have hcc : (Value.agg cs).cells.toList = cs.toList := rfl
  rw [hcc] at h0 h1
  match hcs : cs.toList, hcl with
  | [c0, c1], _ =>
    rw [hcs] at h0 h1
    obtain ⟨b, hb, _⟩ := DataW.trod_bool Tryz.underlying4 h0
    simp at hb
    subst hb
    have h2 : DataW.Trod enc Tryz.prog W 0 sp held 24 c1 xs[1].1 xs[1].2 := by
      rcases DataW.trod_slice Tryz.underlying24 h1 with ⟨e, _⟩ | ⟨a, l, k, es, rs, m2, _, e, _⟩
      · simp at e; subst e; exact ⟨_, h1⟩
      · simp at e; subst e; exact ⟨_, h1⟩
    rcases DataW.trod_slice Tryz.underlying24 h1 with ⟨e, _⟩ | ⟨a, l, k, es, rs, m2, _, e, _⟩
    · simp at e; subst e
      obtain ⟨zs, hz, hc, hm, _⟩ := open_nat h2
      exact ⟨b, _, _, _, zs, by rw [two_cells hcs], hz, hc, hm⟩
    · simp at e; subst e
      obtain ⟨zs, hz, hc, hm, _⟩ := open_nat h2
      exact ⟨b, _, _, _, zs, by rw [two_cells hcs], hz, hc, hm⟩

end Go.Proofs.YtjpoolddgocbbaaGreatDoor

/- How an argument that is a struct of a number and a text is opened. No condition. -/
namespace Go.Proofs.YtjpoolddgocbbaaGreatDoor
open Go.ChangeShapes Go.WideShapes Go.ChangeAt Go.RowKit Limb
set_option linter.unusedVariables false

theorem cells_i64 : Tryz.prog.cellsOf 2 = 1 := by kernel_rfl
theorem cells_str : Tryz.prog.cellsOf 9 = 1 := by kernel_rfl
end Go.Proofs.YtjpoolddgocbbaaGreatDoor
