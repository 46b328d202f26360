/- What the document's own answers for layer 1 (package steelyardref01) come to, as contracts over memory: Of, Cmp. Conditions: arguments read as limbs, of at most 10^9 of them. -/
import Derived.Test.YtahogponokafcaaRefT
namespace Go.Proofs.Ytahogponokafcaa
open Go.RowKit Limb
set_option linter.unusedVariables false

/-- Numbers alike from a place on are so ordered as below it. -/
theorem val_eq_of_lim {xs ys : List Nat} (hx : Small xs) (hy : Small ys) (h : ∀ j, lim xs j = lim ys j) : val xs = val ys := by
  have e : ∀ k, val (xs.take k) = val (ys.take k) := by
    intro k
    induction k with
    | zero => rfl
    | succ k ih => rw [val_take_lim, val_take_lim, ih, h k]
  have := e (max xs.length ys.length)
  rwa [List.take_of_length_le (by omega), List.take_of_length_le (by omega)] at this

theorem val_lt_pad {xs ys : List Nat} (hx : Small xs) (hy : Small ys) {k : Nat} (hlt : lim xs k < lim ys k) (h : ∀ j, k < j → lim xs j = lim ys j) : val xs < val ys := by
  have e : ∀ m, val (xs.take (k + 1 + m)) + 4294967296 ^ k ≤ val (ys.take (k + 1 + m)) + val (xs.take k) := by
    intro m
    induction m with
    | zero =>
      rw [Nat.add_zero, val_take_lim, val_take_lim]
      have h1 : 4294967296 ^ k * (lim xs k + 1) ≤ 4294967296 ^ k * lim ys k := Nat.mul_le_mul_left _ hlt
      rw [Nat.mul_add] at h1
      omega
    | succ m ih =>
      rw [← Nat.add_assoc, val_take_lim, val_take_lim, h (k + 1 + m) (by omega)]
      omega
  have h1 := e (max xs.length ys.length)
  rw [List.take_of_length_le (by omega), List.take_of_length_le (by omega)] at h1
  have h2 := val_lt (small_take hx k)
  have h3 : 4294967296 ^ (xs.take k).length ≤ 4294967296 ^ k := Nat.pow_le_pow_right (by decide) (by rw [List.length_take]; omega)
  omega

set_option maxHeartbeats 800000 in
theorem refCmp_any (A : Option Addr) (n c : Nat) (xs : List Nat) (A' : Option Addr) (n' c' : Nat) (ys : List Nat) (w : World) (hx : IsN w A n xs) (hy : IsN w A' n' ys) (hm : n ≤ 1000000000) (hm' : n' ≤ 1000000000) :
    Calls Try.prog 24 #[.slice A n c, .slice A' n' c'] w fun e w' => e = .returned (.int .i64 (cmpI (val xs) (val ys))) ∧ w = w' := by
  have hl := Lib.hid hx.len
  have hl' := Lib.hid hy.len
  by_cases hnn : n < n'
  case' pos => obtain ⟨M, hM, hM1, hM2⟩ : ∃ M, n' = M ∧ n ≤ M ∧ n' ≤ M := ⟨n', rfl, by omega, by omega⟩
  case' neg => obtain ⟨M, hM, hM1, hM2⟩ : ∃ M, n = M ∧ n ≤ M ∧ n' ≤ M := ⟨n, rfl, by omega, by omega⟩
  all_goals
    have hMb : M ≤ 1000000000 := by omega
    have HM := Lib.hid hM
    clear hM
    go_enter Try.func24, Try.ntmps24
    go_wp2
    go_loop [5] (fun i => ∃ k : Nat, k ≤ M ∧ i = .int .i64 ((k : Int) - 1) ∧ (∀ j, k ≤ j → lim xs j = lim ys j)) (fun i => (intOf i + 1).toNat)
    case atStart => exact ⟨M, Nat.le_refl _, by rw [← HM.out], fun j h1 => by rw [lim_of_ge (by have := hl.out; omega), lim_of_ge (by have := hl'.out; omega)]⟩
    case round =>
      obtain ⟨k, hk, rfl, heq⟩ := hrel
      have Heq := Lib.hid heq
      clear heq
      by_cases hk0 : k = 0
      · subst hk0
        have e : RowKit.Hid (cmpI (val xs) (val ys) = 0) := cmpI_same (val_eq_of_lim hx.small hy.small fun j => Heq.out j (Nat.zero_le _))
        go_wp2
        go_ret
        exact ⟨by rw [e.out]; rfl, rfl⟩
      · have b1 := lim_lt hx.small (k - 1)
        have b2 := lim_lt hy.small (k - 1)
        have ek : ((k : Int) - 1).toNat = k - 1 := by omega
        have Ek := Lib.hid ek
        clear ek
        have c1 : ∀ w' : World, w = w' → Calls Try.prog 27 #[.slice A n c, .int .i64 ((k : Int) - 1)] w' fun e w2 => e = .returned (.int .u64 ((lim xs (k - 1) : Nat) : Int)) ∧ w' = w2 := by
          rintro w' rfl
          have := refAt_any A n c xs ((k : Int) - 1) w hx hm (by omega) (by omega)
          rwa [Ek.out] at this
        have c2 : ∀ w' : World, w = w' → Calls Try.prog 27 #[.slice A' n' c', .int .i64 ((k : Int) - 1)] w' fun e w2 => e = .returned (.int .u64 ((lim ys (k - 1) : Nat) : Int)) ∧ w' = w2 := by
          rintro w' rfl
          have := refAt_any A' n' c' ys ((k : Int) - 1) w hy hm' (by omega) (by omega)
          rwa [Ek.out] at this
        have C1 := Lib.hid c1
        have C2 := Lib.hid c2
        clear c1 c2
        rcases Nat.lt_trichotomy (lim xs (k - 1)) (lim ys (k - 1)) with ho | ho | ho
        · have e : RowKit.Hid (cmpI (val xs) (val ys) = -1) := cmpI_lt (val_lt_pad hx.small hy.small ho fun j hj => Heq.out j (by omega))
          go_wp2_with fail
          refine (C1.out _ rfl).mono ?_
          rintro e w1 ⟨rfl, rfl⟩
          go_wp2_with fail
          refine (C2.out _ rfl).mono ?_
          rintro e w1 ⟨rfl, rfl⟩
          go_wp2
          go_ret
          exact ⟨by rw [e.out]; rfl, rfl⟩
        · have Ho := Lib.hid ho
          have hle : lim xs (k - 1) ≤ lim ys (k - 1) := by omega
          have hge : lim ys (k - 1) ≤ lim xs (k - 1) := by omega
          clear ho
          go_wp2_with fail
          refine (C1.out _ rfl).mono ?_
          rintro e w1 ⟨rfl, rfl⟩
          go_wp2_with fail
          refine (C2.out _ rfl).mono ?_
          rintro e w1 ⟨rfl, rfl⟩
          go_wp2_with fail
          refine (C1.out _ rfl).mono ?_
          rintro e w1 ⟨rfl, rfl⟩
          go_wp2_with fail
          refine (C2.out _ rfl).mono ?_
          rintro e w1 ⟨rfl, rfl⟩
          go_wp2
          go_round
          case rel => exact ⟨k - 1, by omega, by go_num, fun j h1 => by
            rcases Nat.lt_or_ge j k with h | h
            · have : j = k - 1 := by omega
              subst this; exact Ho.out
            · exact Heq.out j h⟩
          case measure => simp [intOf]; omega
        · have e : RowKit.Hid (cmpI (val xs) (val ys) = 1) := cmpI_gt (val_lt_pad hy.small hx.small ho fun j hj => (Heq.out j (by omega)).symm)
          have hle : ¬ lim xs (k - 1) < lim ys (k - 1) := by omega
          go_wp2_with fail
          refine (C1.out _ rfl).mono ?_
          rintro e w1 ⟨rfl, rfl⟩
          go_wp2_with fail
          refine (C2.out _ rfl).mono ?_
          rintro e w1 ⟨rfl, rfl⟩
          go_wp2_with fail
          refine (C1.out _ rfl).mono ?_
          rintro e w1 ⟨rfl, rfl⟩
          go_wp2_with fail
          refine (C2.out _ rfl).mono ?_
          rintro e w1 ⟨rfl, rfl⟩
          go_wp2
          go_ret
          exact ⟨by rw [e.out]; rfl, rfl⟩

end Go.Proofs.Ytahogponokafcaa
