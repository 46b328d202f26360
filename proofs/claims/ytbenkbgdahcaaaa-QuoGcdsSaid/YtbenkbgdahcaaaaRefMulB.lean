/- What the reference's Down and Shift of layer 2 come to, as contracts over memory: a number moved by bits, in shortest limbs. Conditions: the list reads as limbs, of at most 9*10^7 of them. -/
import Derived.Test.YtbenkbgdahcaaaaRefMulA
namespace Go.Proofs.Ytbenkbgdahcaaaa
open Go.RowKit Limb
set_option linter.unusedVariables false

theorem down_or {a b r : Nat} (ha : a < 4294967296) : (a ||| b * 4294967296) / 2 ^ r % 4294967296 = a / 2 ^ r ||| b * 2 ^ (32 - r) % 4294967296 ∨ 32 ≤ r := by
  by_cases hr : 32 ≤ r
  · exact .inr hr
  refine .inl (Nat.eq_of_testBit_eq fun i => ?_)
  rw [show (4294967296 : Nat) = 2 ^ 32 from rfl, Nat.testBit_mod_two_pow, Nat.testBit_div_two_pow, Nat.testBit_or, Nat.testBit_mul_two_pow, Nat.testBit_or, Nat.testBit_div_two_pow, Nat.testBit_mod_two_pow, Nat.testBit_mul_two_pow]
  by_cases hi : i < 32
  · by_cases hc : i + r < 32
    · have e1 : ¬ (32 ≤ i + r) := by omega
      have e2 : ¬ (32 - r ≤ i) := by omega
      simp [hi, e1, e2]
    · have e1 : 32 ≤ i + r := by omega
      have e2 : 32 - r ≤ i := by omega
      have e3 : i + r - 32 = i - (32 - r) := by omega
      simp [hi, e1, e2, e3]
  · have e4 : a.testBit (i + r) = false := Nat.testBit_lt_two_pow (Nat.lt_of_lt_of_le ha (by
      have : 2 ^ 32 ≤ 2 ^ (i + r) := Nat.pow_le_pow_right (by decide) (by omega)
      simpa using this))
    simp [hi, e4]

theorem down_lim {ys : List Nat} {r j : Nat} (hy : Small ys) (hr : r < 32) : (lim ys j ||| lim ys (j + 1) * 4294967296) / 2 ^ r % 4294967296 = downLimb ys r j := by
  rcases down_or (a := lim ys j) (b := lim ys (j + 1)) (r := r) (lim_lt hy j) with h | h
  · exact h
  · omega

/-- Limbs of a number moved down, made one by one. -/
def RDown (ys zs : List Nat) (r k : Nat) : Prop := zs.length = k ∧ ∀ j, j < k → lim zs j = downLimb ys r j
theorem RDown.start (ys : List Nat) (r : Nat) : RDown ys [] r 0 := ⟨rfl, fun j hj => by omega⟩
theorem lim_append_lt {zs us : List Nat} {j : Nat} (h : j < zs.length) : lim (zs ++ us) j = lim zs j := by
  simp [lim, List.getD_eq_getElem?_getD, List.getElem?_append_left h]
theorem lim_append_at {zs : List Nat} {u : Nat} : lim (zs ++ [u]) zs.length = u := by
  simp [lim, List.getD_eq_getElem?_getD]
theorem RDown.step {ys zs : List Nat} {r k v : Nat} (h : RDown ys zs r k) (hv : v = downLimb ys r k) : RDown ys (zs ++ [v]) r (k + 1) := by
  obtain ⟨h1, h2⟩ := h
  refine ⟨by simp [h1], fun j hj => ?_⟩
  by_cases e : j = k
  · subst e; rw [← h1, lim_append_at, h1, hv]
  · rw [lim_append_lt (by omega)]; exact h2 j (by omega)

set_option maxHeartbeats 1600000 in
theorem refDown_o {A : Option Addr} {n c : Nat} {xs : List Nat} {a L : Nat} {w : World} (hx : NN w A n c xs a L) (m : Nat) (V : Int) (hV : V = m) (hm : m ≤ 100000000) (h1 : L ≤ 100000000) :
    Calls Try.prog 30 #[.slice A n c, .int .i64 V] w fun e w' => ∃ A2 n2 c2, e = .returned (.slice A2 n2 c2) ∧ OwnN w' w.heap.size A2 n2 c2 (limbs (a / 2 ^ m)) ∧ Below w.heap.size w w' := by
  subst hV
  obtain ⟨q, hq⟩ : ∃ q, q = m / 32 := ⟨_, rfl⟩
  obtain ⟨r, hr⟩ : ∃ r, r = m % 32 := ⟨_, rfl⟩
  have Hmv : RowKit.Hid (a / 4294967296 ^ q / 2 ^ r = a / 2 ^ m) := by show _ = _; rw [hq, hr]; exact div_move _ _
  have eq1 : (m : Int) / 32 = (q : Int) := by omega
  have er1 : (m : Int) % 32 = (r : Int) := by omega
  have hr32 : r < 32 := by omega
  have hq3 : q ≤ 3125000 := by omega
  have hle := hx.le
  have Hlx := Lib.hid hx.isN.len
  have hsx := hx.isN.small
  have hav : RowKit.Hid (val xs = a) := hx.val
  have hsy : Small (xs.drop q) := small_drop hsx q
  have hly : RowKit.Hid (∀ j, lim (xs.drop q) j = lim xs (q + j)) := fun j => lim_drop xs q j
  have hlen : RowKit.Hid ((xs.drop q).length = n - q) := by show _ = _; rw [List.length_drop, Hlx.out]
  have Hend : RowKit.Hid (∀ zs : List Nat, Small zs → RDown (xs.drop q) zs r (n - q) → val zs = a / 2 ^ m) := by
    intro zs hz h
    have e1 := val_down hsy hz hr32 (by rw [h.1, hlen.out]) (fun j hj => h.2 j (by rw [← hlen.out]; exact hj))
    by_cases hqn : q ≤ n
    · rw [e1, val_drop hsx q (by rw [Hlx.out]; exact hqn), hav.out, Hmv.out]
    · have e2 : xs.drop q = [] := List.drop_of_length_le (by rw [Hlx.out]; omega)
      have h3 := lt_pow hx
      have h4 : a < 4294967296 ^ q := by
        rw [← hav.out]
        have h5 := val_lt hsx
        rw [Hlx.out] at h5
        exact Nat.lt_of_lt_of_le h5 (Nat.pow_le_pow_right (by decide) (by omega))
      rw [e1, e2, ← Hmv.out, Nat.div_eq_of_lt h4]
      rfl
  obtain ⟨ys, hys⟩ : ∃ ys, ys = xs.drop q := ⟨_, rfl⟩
  rw [← hys] at hsy hly hlen Hend
  clear hq hr hys
  go_enter Try.func30, Try.ntmps30
  go_wp2
  go_loopw [6, 5] (fun i ov wr => ∃ (k : Nat) (zs : List Nat) (A2 : Option Addr) (c2 : Nat), k ≤ n - q ∧ i = .int .i64 ((q : Int) + (k : Int)) ∧ ov = .slice A2 k c2 ∧ RowKit.Hid (RDown ys zs r k) ∧ RowKit.Hid (OwnN wr w.heap.size A2 k c2 zs) ∧ RowKit.Hid (Below w.heap.size w wr)) (fun i _ _ => n - (intOf i).toNat)
  case atStart => exact ⟨0, [], none, 0, by omega, by go_num, rfl, RDown.start _ _, OwnN.nil _ _, Below.refl _ _⟩
  case round =>
    obtain ⟨k, zs, A2, c2, hk, rfl, rfl, Hinv, How0, Hbw0⟩ := hrel
    have how := How0.out
    have bw := Hbw0.out
    clear How0 Hbw0
    by_cases hgo : q + k < n
    · obtain ⟨b1, o1, rfl, hb1, hc1⟩ := hx.isN.2.2 (by omega)
      have e0 : ((q : Int) + (k : Int)) = ((q + k : Nat) : Int) := by omega
      rw [e0]
      obtain ⟨t, ht⟩ : ∃ t, t = q + k := ⟨_, rfl⟩
      rw [← ht] at hgo ⊢
      clear e0
      have hcell : wr.cell? ⟨b1, o1 + t, none⟩ = some (.int .u32 ((lim xs t : Nat) : Int)) := (bw.cell (p := ⟨b1, o1 + t, none⟩) hb1).trans (hc1 t hgo)
      have l1 := lim_lt hsx t
      have l2 := lim_lt hsx (t + 1)
      have Hq : RowKit.Hid (lim ys k = lim xs t ∧ lim ys (k + 1) = lim xs (t + 1)) := ⟨by rw [hly.out, ht], by rw [hly.out, ht]; rfl⟩
      have Hdl : RowKit.Hid ((lim xs t ||| lim xs (t + 1) * 4294967296) / 2 ^ r % 4294967296 = downLimb ys r k) := by
        have := down_lim (j := k) hsy hr32
        rw [Hq.out.1, Hq.out.2] at this
        exact this
      obtain ⟨sl, hsl⟩ : ∃ sl, sl = downLimb ys r k := ⟨_, rfl⟩
      have hsl2 : sl < 4294967296 := by rw [hsl]; exact downLimb_lt hsy _ _
      have Hst : RowKit.Hid (RDown ys (zs ++ [sl]) r (k + 1)) := Hinv.out.step hsl
      rw [← hsl] at Hdl
      have Ht := Lib.hid ht
      clear ht
      have hkk : k ≤ 200000000 := by omega
      by_cases hlast : t + 1 < n
      case' pos =>
        have hcell2 : wr.cell? ⟨b1, o1 + (t + 1), none⟩ = some (.int .u32 ((lim xs (t + 1) : Nat) : Int)) := (bw.cell (p := ⟨b1, o1 + (t + 1), none⟩) hb1).trans (hc1 (t + 1) hlast)
        obtain ⟨s, hs⟩ : ∃ s, s = lim xs t ||| lim xs (t + 1) * 4294967296 := ⟨_, rfl⟩
        have hor : bits BinOp.or IntKind.u64 ((lim xs t : Nat) : Int) (((lim xs (t + 1) : Nat) : Int) * 4294967296) = (s : Int) := by
          have := u64_or_nat (lim xs t) (lim xs (t + 1) * 4294967296) (by omega) (by omega)
          rw [hs, ← this]; rfl
        have hs2 : s < 18446744073709551616 := by
          rw [hs]
          exact Nat.or_lt_two_pow (n := 64) (by omega) (by omega)
        rw [← hs] at Hdl
        have hlt : (((t : Int) + 1)) < (n : Int) := by omega
        have es : ((s : Int) / 2 ^ r) % 4294967296 = ((sl : Nat) : Int) := by
          rw [← Hdl.out, Int.natCast_emod, Int.natCast_ediv, Int.natCast_pow]; rfl
      case' neg =>
        have hl0 : lim xs (t + 1) = 0 := lim_of_ge (by rw [Hlx.out]; omega)
        obtain ⟨s, hs⟩ : ∃ s, s = lim xs t := ⟨_, rfl⟩
        rw [hl0, Nat.zero_mul, Nat.or_zero, ← hs] at Hdl
        rw [← hs] at hcell l1
        have hlt : (n : Int) ≤ ((t : Int) + 1) := by omega
        have es : ((s : Int) / 2 ^ r) % 4294967296 = ((sl : Nat) : Int) := by
          rw [← Hdl.out, Int.natCast_emod, Int.natCast_ediv, Int.natCast_pow]; rfl
      all_goals
        have Hown : RowKit.Hid ((wr.alloc (.cells #[Value.int IntKind.u32 (sl : Int)] 24)).ownsRow w.heap.size 24 1 (.slice A2 (k) c2) (k) (zs.map limV)) := (how.alloc _).row
        have Hlit : RowKit.Hid (NN (wr.alloc (.cells #[Value.int IntKind.u32 (sl : Int)] 24)) (some ⟨wr.heap.size, 0, none⟩) 1 1 [sl] (val [sl]) 1) := lit_c wr [sl] (by intro x hx; simp at hx; omega) 1 rfl
        have Hb : RowKit.Hid ((k) ≤ 1000000000 ∧ 1 ≤ 1000000000 ∧ w.heap.size ≤ (wr.alloc (.cells #[Value.int IntKind.u32 (sl : Int)] 24)).heap.size ∧ Small zs) := ⟨by omega, by omega, by have := bw.size; simp; omega, how.small⟩
        have How := Lib.hid how
        have Hbw := Lib.hid bw
        clear how bw Hinv Hdl hs hsl hsl2 Hq
        go_wp2_with (at_builtin; refine wpList_append_nat rfl _ _ rfl w.heap.size _ (k) zs rfl Hown (some ⟨wr.heap.size, 0, none⟩) 1 1 [sl] (val [sl]) 1 rfl Hlit Hb ?_)
        intro A3 c3 w3 how3 hg3
        have bw3 := below_grown Hbw.out How.out hg3.out
        have How3 := Lib.hid how3.out
        have Bw3 := Lib.hid bw3
        clear how3 hg3 Hown Hlit Hb How Hbw bw3
        go_wp2
        go_roundw
        case rel => exact ⟨k + 1, zs ++ [sl], A3, c3, by have := Ht.out; omega, by rw [Ht.out]; go_num, rfl, Hst, How3, Bw3⟩
        case measure => simp [intOf]; omega
    · have e0 : ((q : Int) + (k : Int)) = ((q + k : Nat) : Int) := by omega
      rw [e0]
      have hge : (n : Int) ≤ ((q + k : Nat) : Int) := by omega
      obtain ⟨t, ht⟩ : ∃ t, t = q + k := ⟨_, rfl⟩
      rw [← ht] at hge ⊢
      have hkn : k = n - q := by omega
      have hv : val zs = a / 2 ^ m := Hend.out zs how.small (by rw [← hkn]; exact Hinv.out)
      have hz : NN wr A2 k c2 zs (a / 2 ^ m) L := ⟨how.isN, hv, how.caps.1, by omega⟩
      clear hv how ht hkn
      go_wp2_with fail
      refine (refTrim_o hz (by omega)).mono ?_
      rintro e w4 ⟨A4, n4, c4, rfl, h4, bn⟩
      go_wp2
      go_ret
      exact ⟨_, _, _, rfl, h4.mono bw.size, below_two bw bn⟩

theorem refDown_c {A : Option Addr} {n c : Nat} {xs : List Nat} {a L : Nat} {w : World} (hx : NN w A n c xs a L) (m : Nat) (V : Int) (hV : V = m) (hm : m ≤ 100000000) (h1 : L ≤ 100000000) :
    Calls Try.prog 30 #[.slice A n c, .int .i64 V] w fun e w' => ∃ A2 n2 c2, e = .returned (.slice A2 n2 c2) ∧ NN w' A2 n2 c2 (limbs (a / 2 ^ m)) (a / 2 ^ m) L ∧ Below w.heap.size w w' := by
  have hl := lt_pow hx
  refine (refDown_o hx m V hV hm h1).mono ?_
  rintro e w' ⟨A2, n2, c2, rfl, how, hb⟩
  exact ⟨A2, n2, c2, rfl, NN.own how (Nat.lt_of_le_of_lt (Nat.div_le_self _ _) hl), hb⟩

end Go.Proofs.Ytbenkbgdahcaaaa
