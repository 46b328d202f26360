/- What the reference's Floor and Exact of layer 4 come to, as contracts over memory: the greatest number whose square is not above, and whether its square is the number. Conditions: the list reads as limbs, of at most 10^5 of them. -/
import Derived.Test.YtahogponokafcaaRefMulC
import Derived.Test.YtahogponokafcaaRefQuo
namespace Go.Proofs.Ytahogponokafcaa.Limb

/-- The greatest number up to n whose square is not above a. -/
def rootTo (a : Nat) : Nat → Nat
  | 0 => 0
  | n + 1 => if (n + 1) * (n + 1) ≤ a then n + 1 else rootTo a n
/-- The greatest number whose square is not above. -/
def rootN (a : Nat) : Nat := rootTo a a

theorem rootTo_spec (a : Nat) : ∀ n, rootTo a n * rootTo a n ≤ a ∧ ∀ m, m ≤ n → m * m ≤ a → m ≤ rootTo a n := by
  intro n
  induction n with
  | zero => exact ⟨by simp [rootTo], fun m hm _ => by simp [rootTo]; omega⟩
  | succ n ih =>
    rw [rootTo]
    split
    · rename_i h; exact ⟨h, fun m hm _ => hm⟩
    · rename_i h
      refine ⟨ih.1, fun m hm hq => ?_⟩
      by_cases e : m = n + 1
      · subst e; exact absurd hq h
      · exact ih.2 m (by omega) hq

theorem rootN_le (a : Nat) : rootN a * rootN a ≤ a := (rootTo_spec a a).1
theorem rootN_gt (a : Nat) : a < (rootN a + 1) * (rootN a + 1) := by
  refine Nat.lt_of_not_le fun h => ?_
  have h1 : rootN a + 1 ≤ (rootN a + 1) * (rootN a + 1) := Nat.le_mul_of_pos_left _ (by omega)
  have h2 := (rootTo_spec a a).2 (rootN a + 1) (Nat.le_trans h1 h) h
  exact absurd h2 (by unfold rootN; omega)
theorem rootN_eq {r a : Nat} (h1 : r * r ≤ a) (h2 : a < (r + 1) * (r + 1)) : r = rootN a := by
  have k1 := rootN_le a
  have k2 := rootN_gt a
  rcases Nat.lt_trichotomy r (rootN a) with h | h | h
  · have : (r + 1) * (r + 1) ≤ rootN a * rootN a := Nat.mul_le_mul h h
    omega
  · exact h
  · have : (rootN a + 1) * (rootN a + 1) ≤ r * r := Nat.mul_le_mul h h
    omega
theorem rootN_le_self (a : Nat) : rootN a ≤ a := by
  rcases Nat.eq_zero_or_pos (rootN a) with h | h
  · omega
  · exact Nat.le_trans (Nat.le_mul_of_pos_left _ h) (rootN_le a)

/-- A root that is made bit by bit: the bits set so far, all from j on. -/
def SInv (a : Nat) (zs : List Nat) (j : Nat) : Prop := val zs * val zs ≤ a ∧ a < (val zs + 2 ^ j) * (val zs + 2 ^ j) ∧ val zs % 2 ^ j = 0

theorem SInv.start (a k n : Nat) (h : n = (blen a + 1) / 2) : SInv a (List.replicate k 0) (n + 1) := by
  have e0 : val (List.replicate k 0) = 0 := val_zero fun j => by simp [lim, List.getD_eq_getElem?_getD, List.getElem?_replicate]; split <;> rfl
  refine ⟨by rw [e0]; exact Nat.zero_le _, ?_, by rw [e0, Nat.zero_mod]⟩
  rw [e0, Nat.zero_add, ← Nat.pow_add]
  exact Nat.lt_of_lt_of_le (blen_lt a) (Nat.pow_le_pow_right (by decide) (by omega))
theorem SInv.bit {a j : Nat} {zs : List Nat} (h : SInv a zs (j + 1)) (hz : Small zs) (hj : j / 32 < zs.length) : val (zs.set (j / 32) (lim zs (j / 32) ||| 2 ^ (j % 32))) = val zs + 2 ^ j := by
  have h4 := low_bit h.2.2
  rw [lim_eq_div zs hz] at h4
  rw [h4, val_set_add hj, pow_move]
theorem SInv.yes {a j : Nat} {zs ys : List Nat} (h : SInv a zs (j + 1)) (hv : val ys = val zs + 2 ^ j) (hle : (val zs + 2 ^ j) * (val zs + 2 ^ j) ≤ a) : SInv a ys j := by
  obtain ⟨h1, h2, h3⟩ := h
  refine ⟨by rw [hv]; exact hle, ?_, by rw [hv, Nat.add_mod_right]; exact mod_low h3⟩
  have e : val ys + 2 ^ j = val zs + 2 ^ (j + 1) := by rw [hv, Nat.pow_succ]; omega
  rw [e]; exact h2
theorem SInv.no {a j : Nat} {zs : List Nat} (h : SInv a zs (j + 1)) (hlt : a < (val zs + 2 ^ j) * (val zs + 2 ^ j)) : SInv a zs j := ⟨h.1, hlt, mod_low h.2.2⟩
theorem SInv.done {a : Nat} {zs : List Nat} (h : SInv a zs 0) : val zs = rootN a := rootN_eq h.1 (by have := h.2.1; rwa [Nat.pow_zero] at this)
theorem SInv.clear {a j : Nat} {zs : List Nat} (h : SInv a zs (j + 1)) (hz : Small zs) : (lim zs (j / 32)).testBit (j % 32) = false := by
  rw [← testBit_lim zs hz]
  have h1 := congrArg (fun t => Nat.testBit t j) h.2.2
  simp only [Nat.testBit_mod_two_pow, Nat.zero_testBit] at h1
  simpa using h1

theorem and_not_bit {x k : Nat} (hx : x < 4294967296) (hk : k < 32) (hb : x.testBit k = false) : (x ||| 2 ^ k) &&& (4294967295 - 2 ^ k) = x := by
  have hp : 2 ^ k < 2 ^ 32 := Nat.pow_lt_pow_right (by decide) hk
  have e : 4294967295 - 2 ^ k = 2 ^ 32 - (2 ^ k + 1) := by omega
  rw [e]
  refine Nat.eq_of_testBit_eq fun i => ?_
  rw [Nat.testBit_and, Nat.testBit_or, Nat.testBit_two_pow_sub_succ hp, Nat.testBit_two_pow]
  by_cases hi : i < 32
  · by_cases he : k = i
    · subst he; simp [hb]
    · simp [hi, he]
  · have : x.testBit i = false := Nat.testBit_lt_two_pow (Nat.lt_of_lt_of_le hx (by
      have : 2 ^ 32 ≤ 2 ^ i := Nat.pow_le_pow_right (by decide) (by omega)
      simpa using this))
    simp [this, hi]

theorem set_back {zs : List Nat} {k d : Nat} (h : k < zs.length) : (zs.set k d).set k (lim zs k) = zs := by
  rw [set_set]
  have e : lim zs k = zs[k] := by simp [lim, List.getD_eq_getElem?_getD, List.getElem?_eq_getElem h]
  rw [e, List.set_getElem_self]

end Go.Proofs.Ytahogponokafcaa.Limb
namespace Go.Proofs.Ytahogponokafcaa
open Go.RowKit Limb
set_option linter.unusedVariables false

set_option maxHeartbeats 3200000 in
theorem refFloor_c {A : Option Addr} {n c : Nat} {xs : List Nat} {a L : Nat} {w : World} (hx : NN w A n c xs a L) (h1 : L ≤ 100000) :
    Calls Try.prog 9 #[.slice A n c] w fun e w' => ∃ A2 n2 c2, e = .returned (.slice A2 n2 c2) ∧ NN w' A2 n2 c2 (limbs (rootN a)) (rootN a) L ∧ Below w.heap.size w w' := by
  have hba := blen_NN hx
  have HL : RowKit.Hid (rootN a < 4294967296 ^ L) := Nat.lt_of_le_of_lt (rootN_le_self a) (lt_pow hx)
  obtain ⟨n0, hn0⟩ : ∃ n0, n0 = (blen a + 1) / 2 := ⟨_, rfl⟩
  obtain ⟨q0, hq0⟩ : ∃ q0, q0 = n0 / 32 := ⟨_, rfl⟩
  have en : (((blen a : Nat) : Int) + 1) / 2 = (n0 : Int) := by omega
  have eq0 : (n0 : Int) / 32 = (q0 : Int) := by omega
  have hn0L : n0 ≤ 16 * L + 1 := by omega
  have hq0L : q0 ≤ L := by omega
  have hmk := run_made ((q0 : Int) + 1) (q0 + 1) (by omega) (by omega)
  have Hn0 := Lib.hid hn0
  have Hq0 := Lib.hid hq0
  have b0 := below_new w (.cells (madeCells #[.int .u32 0] (q0 + 1)) 30)
  have HQ := Lib.hid (own_made w (q0 + 1) (by omega))
  have HX : RowKit.Hid (NN (w.alloc (.cells (madeCells #[.int .u32 0] (q0 + 1)) 30)) A n c xs a L ∧ Apart w.heap.size A n) := ⟨hx.below b0, Apart.old hx (Nat.le_refl _)⟩
  have HW := Lib.hid b0
  have Hbits := Lib.hid (refBits_c hx (by omega) _ rfl)
  clear hn0 hq0 b0 hx
  go_enter Try.func9, Try.ntmps9
  go_wp2_with fail
  refine Hbits.out.mono ?_
  rintro e w1 ⟨rfl, rfl⟩
  clear Hbits
  go_wp2
  rw [en]
  clear en
  go_loopw [5] (fun i wr => ∃ (j : Nat) (zs : List Nat), j ≤ n0 + 1 ∧ i = .int .i64 ((j : Int) - 1) ∧ RowKit.Hid (SInv a zs j) ∧ RowKit.Hid (OwnN wr w.heap.size (some ⟨w.heap.size, 0, none⟩) (q0 + 1) (q0 + 1) zs) ∧
    RowKit.Hid (NN wr A n c xs a L ∧ Apart w.heap.size A n) ∧ RowKit.Hid (Below w.heap.size w wr)) (fun i _ => (intOf i + 1).toNat)
  case atStart => exact ⟨n0 + 1, _, Nat.le_refl _, by go_num, SInv.start _ _ _ Hn0.out, HQ, HX, HW⟩
  case round =>
    clear HQ HX HW hmk
    obtain ⟨j, zs, hj, rfl, Hinv, Hq, Hx, Hbw⟩ := hrel
    rcases j with _ | p
    · have Hd := Lib.hid Hinv.out.done
      have hq := Hq.out.isN
      have hqn : NN wr (some ⟨w.heap.size, 0, none⟩) (q0 + 1) (q0 + 1) zs (val zs) (L + 1) := ⟨hq, rfl, Nat.le_refl _, by omega⟩
      go_wp2_with fail
      refine (refTrim_c hqn (by omega)).mono ?_
      rintro e w4 ⟨A4, n4, c4, rfl, h4, bn⟩
      rw [Hd.out] at h4
      have H4 := Lib.hid (h4.relax HL.out)
      have HW4 := Lib.hid (below_two Hbw.out bn)
      clear h4 bn hq hqn
      go_wp2
      go_ret
      exact ⟨_, _, _, rfl, H4.out, HW4.out⟩
    · have ep : (((p + 1 : Nat) : Int) - 1) = (p : Int) := by omega
      rw [ep]
      clear ep
      have hpn : p ≤ n0 := by omega
      obtain ⟨pq, hpq⟩ : ∃ pq, pq = p / 32 := ⟨_, rfl⟩
      obtain ⟨pr, hpr⟩ : ∃ pr, pr = p % 32 := ⟨_, rfl⟩
      have epq : (p : Int) / 32 = (pq : Int) := by omega
      have epr : (p : Int) % 32 = (pr : Int) := by omega
      have hpr32 : pr < 32 := by omega
      have hpq1 : pq < q0 + 1 := by have := Hq0.out; omega
      have hcell := Hq.out.cell (k := pq) hpq1
      have hfro := Hq.out.1.frozenAt pq
      have l1 := lim_lt Hq.out.small pq
      obtain ⟨d, hd⟩ : ∃ d, d = lim zs pq ||| 2 ^ pr := ⟨_, rfl⟩
      have hdl : d < 4294967296 := by rw [hd]; exact bit_small l1 hpr32
      have Hor : RowKit.Hid (bits BinOp.or IntKind.u32 ((lim zs pq : Nat) : Int) (2 ^ pr % 4294967296) = (d : Int)) := by
        show _ = _
        rw [two_pow_int pr hpr32, u32_or_nat _ _ l1 (two_pow_small pr hpr32), hd]
      have Hand : RowKit.Hid (bits BinOp.andNot IntKind.u32 (d : Int) (2 ^ pr % 4294967296) = ((lim zs pq : Nat) : Int)) := by
        have h := Hinv.out.clear Hq.out.small
        rw [← hpq, ← hpr] at h
        show _ = _
        rw [two_pow_int pr hpr32, u32_andNot_nat _ _ hdl (two_pow_small pr hpr32), hd, and_not_bit l1 hpr32 h]
      have Hval : RowKit.Hid (val (zs.set pq d) = val zs + 2 ^ p) := by
        have h := Hinv.out.bit Hq.out.small (by rw [Hq.out.len, ← hpq]; exact hpq1)
        rw [← hpq, ← hpr, ← hd] at h
        exact h
      have Hq5 : RowKit.Hid (OwnN (wr.setCell ⟨w.heap.size, pq, none⟩ (.int .u32 (d : Int))) w.heap.size (some ⟨w.heap.size, 0, none⟩) (q0 + 1) (q0 + 1) (zs.set pq d)) := Hq.out.set pq hdl
      have Hx5 : RowKit.Hid (NN (wr.setCell ⟨w.heap.size, pq, none⟩ (.int .u32 (d : Int))) A n c xs a L ∧ Apart w.heap.size A n) := ⟨Hx.out.1.elsewhere Hx.out.2 _ _, Hx.out.2⟩
      have Hbw5 : RowKit.Hid (Below w.heap.size w (wr.setCell ⟨w.heap.size, pq, none⟩ (.int .u32 (d : Int)))) := Hbw.out.setCell (by exact Nat.le_refl _) _
      have Hzl := Lib.hid Hq.out.len
      have Hl1 := Lib.hid l1
      clear hpq hpr hd Hq Hx Hbw l1
      go_wp2_with fail
      rw [Hor.out]
      clear Hor hcell hfro
      generalize wr.setCell ⟨w.heap.size, pq, none⟩ (.int .u32 (d : Int)) = w5 at *
      have hrow : NN w5 (some ⟨w.heap.size, 0, none⟩) (q0 + 1) (q0 + 1) (zs.set pq d) (val zs + 2 ^ p) (L + 1) := ⟨Hq5.out.isN, Hval.out, Nat.le_refl _, by omega⟩
      refine (refMul_c hrow hrow (by omega) (by omega)).mono ?_
      rintro e w6 ⟨A6, n6, c6, rfl, h6, bn⟩
      have Hq6 := Lib.hid (Hq5.out.below bn (Nat.le_refl _))
      have hx6 := Hx5.out.1.below bn
      have Hap := Lib.hid Hx5.out.2
      have Hbw6 := Lib.hid (below_two Hbw5.out bn)
      clear bn hrow Hq5 Hx5 Hbw5
      by_cases hgt : a < (val zs + 2 ^ p) * (val zs + 2 ^ p)
      · have Hgt := Lib.hid hgt
        have Hv := Lib.hid (cmpI_gt hgt)
        clear hgt
        go_wp2_with fail
        refine (refCmp_c h6 hx6 (by omega) (by omega) 1 Hv.out).mono ?_
        rintro e w7 ⟨rfl, rfl⟩
        have hcell := Hq6.out.cell (k := pq) hpq1
        rw [lim_set_self (by rw [Hzl.out]; exact hpq1)] at hcell
        have hfro := Hq6.out.1.frozenAt pq
        have Hq7 : RowKit.Hid (OwnN (w6.setCell ⟨w.heap.size, pq, none⟩ (.int .u32 ((lim zs pq : Nat) : Int))) w.heap.size (some ⟨w.heap.size, 0, none⟩) (q0 + 1) (q0 + 1) zs) := by
          have h := Hq6.out.set pq Hl1.out
          rw [set_back (by rw [Hzl.out]; exact hpq1)] at h
          exact h
        have Hx7 : RowKit.Hid (NN (w6.setCell ⟨w.heap.size, pq, none⟩ (.int .u32 ((lim zs pq : Nat) : Int))) A n c xs a L ∧ Apart w.heap.size A n) := ⟨hx6.elsewhere Hap.out _ _, Hap.out⟩
        have Hbw7 : RowKit.Hid (Below w.heap.size w (w6.setCell ⟨w.heap.size, pq, none⟩ (.int .u32 ((lim zs pq : Nat) : Int)))) := Hbw6.out.setCell (by exact Nat.le_refl _) _
        have Hst := Lib.hid (Hinv.out.no Hgt.out)
        have hand := Hand.out
        clear h6 hx6 Hq6 Hbw6 Hand
        go_wp2
        go_roundw
        case rel => exact ⟨p, zs, by omega, by go_num, Hst, Hq7, Hx7, Hbw7⟩
        case measure => simp [intOf]
      · have hle : (val zs + 2 ^ p) * (val zs + 2 ^ p) ≤ a := Nat.le_of_not_lt hgt
        obtain ⟨v, hv, hv0⟩ : ∃ v : Int, cmpI ((val zs + 2 ^ p) * (val zs + 2 ^ p)) a = v ∧ v ≤ 0 := by
          rcases Nat.lt_or_eq_of_le hle with h | h
          · exact ⟨-1, cmpI_lt h, by omega⟩
          · exact ⟨0, cmpI_same h, by omega⟩
        have Hv := Lib.hid hv
        have Hst := Lib.hid (Hinv.out.yes Hval.out hle)
        have Hx7 : RowKit.Hid (NN w6 A n c xs a L ∧ Apart w.heap.size A n) := ⟨hx6, Hap.out⟩
        clear hgt hle hv
        go_wp2_with fail
        refine (refCmp_c h6 hx6 (by omega) (by omega) v Hv.out).mono ?_
        rintro e w7 ⟨rfl, rfl⟩
        clear h6 hx6
        go_wp2
        go_roundw
        case rel => exact ⟨p, zs.set pq d, by omega, by go_num, Hst, Hq6, Hx7, Hbw6⟩
        case measure => simp [intOf]

/-- Is a number's root exact? -/
def squareN (a : Nat) : Bool := decide (rootN a * rootN a = a)

theorem refExact_c {A : Option Addr} {n c : Nat} {xs : List Nat} {a L : Nat} {w : World} (hx : NN w A n c xs a L) (h1 : L ≤ 100000) :
    Calls Try.prog 10 #[.slice A n c] w fun e w' => e = .returned (.bool (squareN a)) ∧ Below w.heap.size w w' := by
  have Hle := Lib.hid (rootN_le a)
  go_enter Try.func10, Try.ntmps10
  go_wp2_with fail
  refine (refFloor_c hx h1).mono ?_
  rintro e w1 ⟨A1, n1, c1, rfl, hr, bn⟩
  have hx1 := hx.below bn
  have bw := bn
  clear hx bn
  go_wp2_with fail
  refine (refMul_c hr hr (by omega) (by omega)).mono ?_
  rintro e w2 ⟨A2, n2, c2, rfl, hs, bn⟩
  have hx2 := hx1.below bn
  have HW := Lib.hid (below_two bw bn)
  clear hx1 bn bw hr
  by_cases he : rootN a * rootN a = a
  · have Hv := Lib.hid (cmpI_same he)
    have Hs : RowKit.Hid (squareN a = true) := by show _ = _; simp [squareN, he]
    clear he
    go_wp2_with fail
    refine (refCmp_c hs hx2 (by omega) (by omega) 0 Hv.out).mono ?_
    rintro e w3 ⟨rfl, rfl⟩
    go_wp2
    go_ret
    exact ⟨by rw [Hs.out]; rfl, HW.out⟩
  · have Hv := Lib.hid (cmpI_lt (Nat.lt_of_le_of_ne Hle.out he))
    have Hs : RowKit.Hid (squareN a = false) := by show _ = _; simp [squareN, he]
    clear he
    go_wp2_with fail
    refine (refCmp_c hs hx2 (by omega) (by omega) (-1) Hv.out).mono ?_
    rintro e w3 ⟨rfl, rfl⟩
    go_wp2
    go_ret
    exact ⟨by rw [Hs.out]; rfl, HW.out⟩

end Go.Proofs.Ytahogponokafcaa
