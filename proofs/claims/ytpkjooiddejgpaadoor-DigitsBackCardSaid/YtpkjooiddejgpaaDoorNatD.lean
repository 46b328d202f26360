/- What package nat's Cmp answers, as a contract over memory: the order of the numbers that both lists tell. Conditions: both read as limbs, of at most 10^9 of them. -/
import Derived.Test.YtpkjooiddejgpaaDoorNatC
namespace Go.Proofs.YtpkjooiddejgpaaDoor
open Go.RowKit Limb
set_option linter.unusedVariables false

/-- -1, 0 or 1. -/
def cmpI (a b : Nat) : Int := if a < b then -1 else if a = b then 0 else 1
theorem cmpI_lt {a b : Nat} (h : a < b) : cmpI a b = -1 := by simp [cmpI, h]
theorem cmpI_gt {a b : Nat} (h : b < a) : cmpI a b = 1 := by unfold cmpI; rw [if_neg (by omega), if_neg (by omega)]
theorem cmpI_eq (a : Nat) : cmpI a a = 0 := by simp [cmpI]

theorem order_quiet (b : Bool) (w : World) : Calls Tryd.prog 37 #[.bool b] w fun e w' => e = .returned (.int .i64 (if b then -1 else 1)) ∧ w' = w :=
  (order_any b w).mono fun _ _ h => ⟨h.1, h.2.symm⟩
theorem order_true (w : World) : Calls Tryd.prog 37 #[.bool true] w fun e w' => e = .returned (.int .i64 (-1)) ∧ w' = w := order_quiet true w
theorem order_false (w : World) : Calls Tryd.prog 37 #[.bool false] w fun e w' => e = .returned (.int .i64 1) ∧ w' = w := order_quiet false w

set_option maxHeartbeats 800000 in
theorem cmp_any (A : Option Addr) (n c : Nat) (xs : List Nat) (A' : Option Addr) (n' c' : Nat) (ys : List Nat) (w : World) (hx : IsN w A n xs) (hy : IsN w A' n' ys) (hm : n ≤ 1000000000) (hm' : n' ≤ 1000000000) (hc : n ≤ c) (hc' : n' ≤ c') :
    Calls Tryd.prog 20 #[.slice A n c, .slice A' n' c'] w fun e w' => e = .returned (.int .i64 (cmpI (val xs) (val ys))) ∧ Below w.heap.size w w' := by
  have hlt := trim_len_le xs
  have hlt' := trim_len_le ys
  have hl := hx.len
  have hl' := hy.len
  have hx' := IsN.take hx (m := (trim xs).length) (by omega)
  rw [← trim_take xs] at hx'
  have hy' := IsN.take hy (m := (trim ys).length) (by omega)
  rw [← trim_take ys] at hy'
  have ex := trim_eq_limbs hx.small
  have ey := trim_eq_limbs hy.small
  have hb : (trim xs).length ≤ 1000000000 := by omega
  have hb' : (trim ys).length ≤ 1000000000 := by omega
  have Hl := Lib.hid ex
  have Hl' := Lib.hid ey
  clear hl hl' ex ey hlt hlt'
  go_enter Tryd.func20, Tryd.ntmps20
  go_wp2_with fail
  refine (cut_any A n c xs w hx hc (by unfold maxLen; omega)).mono ?_
  rintro e w1 ⟨rfl, rfl⟩
  go_wp2_with fail
  refine (cut_any A' n' c' ys w hy hc' (by unfold maxLen; omega)).mono ?_
  rintro e w1 ⟨rfl, rfl⟩
  generalize trim xs = xs' at *
  generalize trim ys = ys' at *
  clear hx hy
  by_cases hlen : xs'.length = ys'.length
  · have hne : (((xs'.length : Nat) : Int) != ((ys'.length : Nat) : Int)) = false := by simp [hlen]
    have Hlen := Lib.hid hlen
    clear hlen
    go_wp2
    go_loopw [5] (fun i wr => ∃ k : Nat, k ≤ xs'.length ∧ i = .int .i64 ((k : Int) - 1) ∧ (∀ j, k ≤ j → j < xs'.length → lim xs' j = lim ys' j) ∧ Below w.heap.size w wr) (fun i _ => (intOf i + 1).toNat)
    case atStart => exact ⟨xs'.length, Nat.le_refl _, rfl, fun j h1 h2 => absurd h1 (by omega), Below.refl _ _⟩
    case round =>
      obtain ⟨k, hk, rfl, heq, hbel⟩ := hrel
      have Heq := Lib.hid heq
      clear heq
      by_cases hk0 : k = 0
      · subst hk0
        have e : RowKit.Hid (cmpI (val xs) (val ys) = 0) := by
          have h1 : xs' = ys' := lim_ext Hlen.out (fun j hj => Heq.out j (by omega) hj)
          have h2 : val xs = val ys := limbs_inj (by rw [← Hl.out, ← Hl'.out, h1])
          rw [h2]; exact cmpI_eq _
        go_wp2
        go_ret
        exact ⟨by rw [e.out]; rfl, hbel⟩
      · obtain ⟨b1, o, hA, hb1, hcell⟩ := hx'.2.2 (by omega)
        obtain ⟨b2, o', hA', hb2, hcell'⟩ := hy'.2.2 (by have := Hlen.out; omega)
        have h1 : wr.cell? ⟨b1, o + (k - 1), none⟩ = some (.int .u32 ((lim xs' (k - 1) : Nat) : Int)) := (hbel.cell (p := ⟨b1, o + (k - 1), none⟩) hb1).trans (hcell (k - 1) (by omega))
        have h2 : wr.cell? ⟨b2, o' + (k - 1), none⟩ = some (.int .u32 ((lim ys' (k - 1) : Nat) : Int)) := (hbel.cell (p := ⟨b2, o' + (k - 1), none⟩) hb2).trans (hcell' (k - 1) (by have := Hlen.out; omega))
        have hk2 : k ≤ ys'.length := by have := Hlen.out; omega
        subst hA
        subst hA'
        by_cases hq : lim xs' (k - 1) = lim ys' (k - 1)
        · have hq' : (((lim xs' (k - 1) : Nat) : Int) != ((lim ys' (k - 1) : Nat) : Int)) = false := by simp [hq]
          have Hq := Lib.hid hq
          clear hq
          go_wp2
          go_quiet (fail)
          go_wp2
          go_roundw
          case rel => exact ⟨k - 1, by omega, by go_num, fun j h1 h2 => by
            rcases Nat.lt_or_ge j k with h | h
            · have : j = k - 1 := by omega
              subst this; exact Hq.out
            · exact Heq.out j h h2, below_drewN hbel _⟩
          case measure => simp [intOf]; omega
        · have hq' : (((lim xs' (k - 1) : Nat) : Int) != ((lim ys' (k - 1) : Nat) : Int)) = true := by simp; omega
          by_cases ho : lim xs' (k - 1) < lim ys' (k - 1)
          · have e : RowKit.Hid (cmpI (val xs) (val ys) = -1) := by
              have h1 := val_lt_of_lim (xs := xs') (ys := ys') hx'.small Hlen.out (k := k - 1) (by omega) ho (fun j h1 h2 => Heq.out j (by omega) h2)
              rw [Hl.out, Hl'.out, val_limbs, val_limbs] at h1
              exact cmpI_lt h1
            go_wp2
            go_quiet (fail)
            have h1' : (wr.drewN nq).cell? ⟨b1, o + (k - 1), none⟩ = some (.int .u32 ((lim xs' (k - 1) : Nat) : Int)) := h1
            have h2' : (wr.drewN nq).cell? ⟨b2, o' + (k - 1), none⟩ = some (.int .u32 ((lim ys' (k - 1) : Nat) : Int)) := h2
            have hbel' := below_drewN hbel nq
            clear h1 h2 hbel
            generalize wr.drewN nq = wq at *
            go_wp2
            go_quiet ((go_at_call 37; exact Calls.quiet_of_same (order_true _)))
            go_wp2
            go_ret
            exact ⟨by rw [e.out]; rfl, below_drewN hbel' _⟩
          · have ho' : decide (((lim xs' (k - 1) : Nat) : Int) < ((lim ys' (k - 1) : Nat) : Int)) = false := by simp; omega
            have e : RowKit.Hid (cmpI (val xs) (val ys) = 1) := by
              have h1 := val_lt_of_lim (xs := ys') (ys := xs') hy'.small Hlen.out.symm (k := k - 1) (by omega) (show lim ys' (k - 1) < lim xs' (k - 1) by omega) (fun j h1 h2 => (Heq.out j (by omega) (by have := Hlen.out; omega)).symm)
              rw [Hl.out, Hl'.out, val_limbs, val_limbs] at h1
              exact cmpI_gt h1
            go_wp2
            go_quiet (fail)
            have h1' : (wr.drewN nq).cell? ⟨b1, o + (k - 1), none⟩ = some (.int .u32 ((lim xs' (k - 1) : Nat) : Int)) := h1
            have h2' : (wr.drewN nq).cell? ⟨b2, o' + (k - 1), none⟩ = some (.int .u32 ((lim ys' (k - 1) : Nat) : Int)) := h2
            have hbel' := below_drewN hbel nq
            clear h1 h2 hbel
            generalize wr.drewN nq = wq at *
            go_wp2
            go_quiet ((go_at_call 37; exact Calls.quiet_of_same (order_false _)))
            go_wp2
            go_ret
            exact ⟨by rw [e.out]; rfl, below_drewN hbel' _⟩
  · have hne : (((xs'.length : Nat) : Int) != ((ys'.length : Nat) : Int)) = true := by simp; omega
    by_cases ho : xs'.length < ys'.length
    · have e : RowKit.Hid (cmpI (val xs) (val ys) = -1) := by
        refine cmpI_lt (Nat.lt_of_not_le fun h => ?_)
        have := length_limbs_mono h
        rw [← Hl.out, ← Hl'.out] at this
        omega
      go_wp2_with (go_at_call 37; refine (order_true _).mono ?_; rintro e w1 ⟨rfl, rfl⟩)
      go_ret
      exact ⟨by rw [e.out]; rfl, Below.refl _ _⟩
    · have e : RowKit.Hid (cmpI (val xs) (val ys) = 1) := by
        refine cmpI_gt (Nat.lt_of_not_le fun h => ?_)
        have := length_limbs_mono h
        rw [← Hl.out, ← Hl'.out] at this
        omega
      have ho' : decide (((xs'.length : Nat) : Int) < ((ys'.length : Nat) : Int)) = false := by simp; omega
      go_wp2_with (go_at_call 37; refine (order_false _).mono ?_; rintro e w1 ⟨rfl, rfl⟩)
      go_ret
      exact ⟨by rw [e.out]; rfl, Below.refl _ _⟩

end Go.Proofs.YtpkjooiddejgpaaDoor
