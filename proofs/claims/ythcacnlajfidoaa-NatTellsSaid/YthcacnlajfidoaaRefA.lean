/- What the document's own answers for layer 1 (package steelyardref01) come to, as contracts over memory: at, Trim, Of, Cmp. Conditions: arguments read as limbs, of at most 10^9 of them. -/
import Derived.Test.YthcacnlajfidoaaNatK
namespace Go.Proofs.Ythcacnlajfidoaa
open Go.RowKit Limb
set_option linter.unusedVariables false

theorem refAt_any (A : Option Addr) (n c : Nat) (xs : List Nat) (i : Int) (w : World) (hx : IsN w A n xs) (hm : n ≤ 1000000000) (h0 : 0 ≤ i) (h1 : i ≤ 9223372036854775807) :
    Calls Try.prog 29 #[.slice A n c, .int .i64 i] w fun e w' => e = .returned (.int .u64 ((lim xs i.toNat : Nat) : Int)) ∧ w = w' := by
  obtain ⟨i, rfl⟩ := Int.eq_ofNat_of_zero_le h0
  rw [Int.toNat_natCast]
  have hl := hx.len
  by_cases hi : i < n
  · obtain ⟨b, o, hA, hb1, hcell⟩ := hx.2.2 (by omega)
    subst hA
    have h2 := hcell i hi
    have hlt32 := lim_lt hx.small i
    go_enter Try.func29, Try.ntmps29
    go_wp2
    go_ret
    exact ⟨rfl, rfl⟩
  · have H := Lib.hid (lim_of_ge (xs := xs) (k := i) (by omega))
    have hi' : (n : Int) ≤ (i : Int) := by omega
    go_enter Try.func29, Try.ntmps29
    go_wp2
    go_ret
    exact ⟨by rw [H.out]; rfl, rfl⟩

set_option maxHeartbeats 400000 in
theorem refTrim_any (A : Option Addr) (n c : Nat) (xs : List Nat) (w : World) (hx : IsN w A n xs) (hc : n ≤ c) (hm : n ≤ 1000000000) :
    Calls Try.prog 23 #[.slice A n c] w fun e w' => ∃ A2 n2 c2, e = .returned (.slice A2 n2 c2) ∧ OwnN w' w.heap.size A2 n2 c2 (trim xs) ∧ Below w.heap.size w w' := by
  have hl := hx.len
  go_enter Try.func23, Try.ntmps23
  go_wp2
  go_loop [3] (fun i => ∃ k : Nat, k ≤ n ∧ i = .int .i64 k ∧ trim (xs.take k) = trim xs) (fun i => (intOf i).toNat)
  case atStart => exact ⟨n, Nat.le_refl _, rfl, by rw [List.take_of_length_le (by omega)]⟩
  case round =>
    obtain ⟨k, hk, rfl, ht⟩ := hrel
    by_cases hgo : 0 < k ∧ lim xs (k - 1) = 0
    · obtain ⟨hk0, hz⟩ := hgo
      obtain ⟨b, o, rfl, hb, hcell⟩ := hx.2.2 (by omega)
      have h1 := hcell (k - 1) (by omega)
      have h2 : trim (xs.take k) = trim (xs.take (k - 1)) := by
        have := trim_take_last (xs := xs) (k := k - 1) (by omega) hz
        rwa [Nat.sub_add_cancel (by omega)] at this
      have H2 := Lib.hid (h2.symm.trans ht)
      clear h2 ht
      rw [hz] at h1
      clear hz
      go_wp2
      go_round
      case rel => exact ⟨k - 1, by omega, by go_num, H2.out⟩
      case measure => simp [intOf]; omega
    · have h2 : trim xs = xs.take k := by
        rw [← ht]
        by_cases hk0 : k = 0
        · subst hk0; rfl
        · have := trim_take_full (xs := xs) (k := k - 1) (by omega) (fun h => hgo ⟨by omega, h⟩)
          rwa [Nat.sub_add_cancel (by omega)] at this
      have H2 := Lib.hid h2
      have hx2 := IsN.take hx hk
      have b0 := below_new w (.cells #[] 39)
      have Hx : RowKit.Hid (NN (w.alloc (.cells #[] 39)) A k c (xs.take k) (val (xs.take k)) 1000000000) := NN.below ⟨hx2, rfl, by omega, by omega⟩ b0
      have Hown : RowKit.Hid ((w.alloc (.cells #[] 39)).ownsRow w.heap.size 39 1 (.slice (some ⟨w.heap.size, 0, none⟩) 0 0) 0 (([] : List Nat).map limV)) := own_lit w [] 0 rfl (by omega)
      have Hb : RowKit.Hid (0 ≤ 1000000000 ∧ 1000000000 ≤ 1000000000 ∧ w.heap.size ≤ (w.alloc (.cells #[] 39)).heap.size ∧ Small []) := ⟨by omega, by omega, by simp, small_nil⟩
      clear hx2 b0
      by_cases hk0 : k = 0
      · subst hk0
        clear h2 ht
        go_wp2_with (at_builtin; refine wpList_append_nat rfl _ _ rfl w.heap.size _ 0 [] rfl Hown A 0 c (xs.take 0) (val (xs.take 0)) 1000000000 rfl Hx Hb ?_)
        intro A2 c2 w' how hgrow
        have hb2 := below_lit hgrow.out (Nat.le_refl _)
        have hn : OwnN w' w.heap.size A2 0 c2 (trim xs) := by
          rw [H2.out]
          exact how.out
        clear how hgrow Hown Hb Hx
        go_wp2
        go_ret
        exact ⟨_, _, _, rfl, hn, hb2⟩
      · obtain ⟨b, o, rfl, hb, hcell⟩ := hx.2.2 (by omega)
        have h1 := hcell (k - 1) (by omega)
        have hlt := lim_lt hx.small (k - 1)
        have hz' : (((lim xs (k - 1) : Nat) : Int) == 0) = false := by simp; exact fun h => hgo ⟨by omega, h⟩
        clear hgo h2 ht
        go_wp2_with (at_builtin; refine wpList_append_nat rfl _ _ rfl w.heap.size _ 0 [] rfl Hown (some ⟨b, o, none⟩) k c (xs.take k) (val (xs.take k)) 1000000000 rfl Hx Hb ?_)
        intro A2 c2 w' how hgrow
        have hb2 := below_lit hgrow.out (Nat.le_refl _)
        have hn : OwnN w' w.heap.size A2 k c2 (trim xs) := by
          rw [H2.out]
          exact how.out
        clear how hgrow Hown Hb Hx
        go_wp2
        go_ret
        exact ⟨_, _, _, rfl, hn, hb2⟩

set_option maxHeartbeats 400000 in
theorem refOf_any (v : Int) (w : World) (h0 : 0 ≤ v) (h1 : v < 18446744073709551616) :
    Calls Try.prog 25 #[.int .u64 v] w fun e w' => ∃ A' n' c', e = .returned (.slice A' n' c') ∧ OwnN w' w.heap.size A' n' c' (limbs v.toNat) ∧ Below w.heap.size w w' := by
  go_enter Try.func25, Try.ntmps25
  go_wp2_with fail
  obtain ⟨v, rfl⟩ := Int.eq_ofNat_of_zero_le h0
  have e : (#[Value.int IntKind.u32 ((v : Int) % 4294967296), Value.int IntKind.u32 ((v : Int) / 4294967296)] : Array Value) = ([v % 4294967296, v / 4294967296].map limV).toArray := rfl
  have hs : Small [v % 4294967296, v / 4294967296] := by
    intro x hx
    simp at hx
    omega
  have hv : trim [v % 4294967296, v / 4294967296] = limbs ((v : Int)).toNat := by
    rw [trim_eq_limbs hs]
    congr 1
    simp [val]
    omega
  rw [e]
  refine (refTrim_any _ 2 2 [v % 4294967296, v / 4294967296] _ (isN_lit w [v % 4294967296, v / 4294967296] hs) (by omega) (by omega)).mono ?_
  rintro e w1 ⟨A', n', c', rfl, hown, hbel⟩
  rw [hv] at hown
  have hb : Below w.heap.size w w1 := ((Below.refl _ _).alloc (Nat.le_refl _) _).trans (hbel.mono (by simp))
  have hown' : OwnN w1 w.heap.size A' n' c' (limbs ((v : Int)).toNat) := hown.mono (by simp)
  clear hown hbel hv
  go_wp2
  go_ret
  exact ⟨_, _, _, rfl, hown', hb⟩

/-- Numbers alike from a place on are so ordered as below it. -/
theorem val_eq_of_lim {xs ys : List Nat} (hx : Small xs) (hy : Small ys) (h : ∀ j, lim xs j = lim ys j) : val xs = val ys := by
  have e : ∀ k, val (xs.take k) = val (ys.take k) := by
    intro k
    induction k with
    | zero => rfl
    | succ k ih => rw [val_take_lim, val_take_lim, ih, h k]
  have := e (max xs.length ys.length)
  rwa [List.take_of_length_le (by omega), List.take_of_length_le (by omega)] at this

theorem val_lt_pad {xs ys : List Nat} (hx : Small xs) (hy : Small ys) {k : Nat} (hlt : lim xs k < lim ys k) (h : ∀ j, k < j → lim xs j = lim ys j) : val xs < val ys := by
  have e : ∀ m, val (xs.take (k + 1 + m)) + 4294967296 ^ k ≤ val (ys.take (k + 1 + m)) + val (xs.take k) := by
    intro m
    induction m with
    | zero =>
      rw [Nat.add_zero, val_take_lim, val_take_lim]
      have h1 : 4294967296 ^ k * (lim xs k + 1) ≤ 4294967296 ^ k * lim ys k := Nat.mul_le_mul_left _ hlt
      rw [Nat.mul_add] at h1
      omega
    | succ m ih =>
      rw [← Nat.add_assoc, val_take_lim, val_take_lim, h (k + 1 + m) (by omega)]
      omega
  have h1 := e (max xs.length ys.length)
  rw [List.take_of_length_le (by omega), List.take_of_length_le (by omega)] at h1
  have h2 := val_lt (small_take hx k)
  have h3 : 4294967296 ^ (xs.take k).length ≤ 4294967296 ^ k := Nat.pow_le_pow_right (by decide) (by rw [List.length_take]; omega)
  omega

set_option maxHeartbeats 800000 in
theorem refCmp_any (A : Option Addr) (n c : Nat) (xs : List Nat) (A' : Option Addr) (n' c' : Nat) (ys : List Nat) (w : World) (hx : IsN w A n xs) (hy : IsN w A' n' ys) (hm : n ≤ 1000000000) (hm' : n' ≤ 1000000000) :
    Calls Try.prog 12 #[.slice A n c, .slice A' n' c'] w fun e w' => e = .returned (.int .i64 (cmpI (val xs) (val ys))) ∧ w = w' := by
  have hl := Lib.hid hx.len
  have hl' := Lib.hid hy.len
  by_cases hnn : n < n'
  case' pos => obtain ⟨M, hM, hM1, hM2⟩ : ∃ M, n' = M ∧ n ≤ M ∧ n' ≤ M := ⟨n', rfl, by omega, by omega⟩
  case' neg => obtain ⟨M, hM, hM1, hM2⟩ : ∃ M, n = M ∧ n ≤ M ∧ n' ≤ M := ⟨n, rfl, by omega, by omega⟩
  all_goals
    have hMb : M ≤ 1000000000 := by omega
    have HM := Lib.hid hM
    clear hM
    go_enter Try.func12, Try.ntmps12
    go_wp2
    go_loop [5] (fun i => ∃ k : Nat, k ≤ M ∧ i = .int .i64 ((k : Int) - 1) ∧ (∀ j, k ≤ j → lim xs j = lim ys j)) (fun i => (intOf i + 1).toNat)
    case atStart => exact ⟨M, Nat.le_refl _, by rw [← HM.out], fun j h1 => by rw [lim_of_ge (by have := hl.out; omega), lim_of_ge (by have := hl'.out; omega)]⟩
    case round =>
      obtain ⟨k, hk, rfl, heq⟩ := hrel
      have Heq := Lib.hid heq
      clear heq
      by_cases hk0 : k = 0
      · subst hk0
        have e : RowKit.Hid (cmpI (val xs) (val ys) = 0) := cmpI_same (val_eq_of_lim hx.small hy.small fun j => Heq.out j (Nat.zero_le _))
        go_wp2
        go_ret
        exact ⟨by rw [e.out]; rfl, rfl⟩
      · have b1 := lim_lt hx.small (k - 1)
        have b2 := lim_lt hy.small (k - 1)
        have ek : ((k : Int) - 1).toNat = k - 1 := by omega
        have Ek := Lib.hid ek
        clear ek
        have c1 : ∀ w' : World, w = w' → Calls Try.prog 29 #[.slice A n c, .int .i64 ((k : Int) - 1)] w' fun e w2 => e = .returned (.int .u64 ((lim xs (k - 1) : Nat) : Int)) ∧ w' = w2 := by
          rintro w' rfl
          have := refAt_any A n c xs ((k : Int) - 1) w hx hm (by omega) (by omega)
          rwa [Ek.out] at this
        have c2 : ∀ w' : World, w = w' → Calls Try.prog 29 #[.slice A' n' c', .int .i64 ((k : Int) - 1)] w' fun e w2 => e = .returned (.int .u64 ((lim ys (k - 1) : Nat) : Int)) ∧ w' = w2 := by
          rintro w' rfl
          have := refAt_any A' n' c' ys ((k : Int) - 1) w hy hm' (by omega) (by omega)
          rwa [Ek.out] at this
        have C1 := Lib.hid c1
        have C2 := Lib.hid c2
        clear c1 c2
        rcases Nat.lt_trichotomy (lim xs (k - 1)) (lim ys (k - 1)) with ho | ho | ho
        · have e : RowKit.Hid (cmpI (val xs) (val ys) = -1) := cmpI_lt (val_lt_pad hx.small hy.small ho fun j hj => Heq.out j (by omega))
          go_wp2_with fail
          refine (C1.out _ rfl).mono ?_
          rintro e w1 ⟨rfl, rfl⟩
          go_wp2_with fail
          refine (C2.out _ rfl).mono ?_
          rintro e w1 ⟨rfl, rfl⟩
          go_wp2
          go_ret
          exact ⟨by rw [e.out]; rfl, rfl⟩
        · have Ho := Lib.hid ho
          have hle : lim xs (k - 1) ≤ lim ys (k - 1) := by omega
          have hge : lim ys (k - 1) ≤ lim xs (k - 1) := by omega
          clear ho
          go_wp2_with fail
          refine (C1.out _ rfl).mono ?_
          rintro e w1 ⟨rfl, rfl⟩
          go_wp2_with fail
          refine (C2.out _ rfl).mono ?_
          rintro e w1 ⟨rfl, rfl⟩
          go_wp2_with fail
          refine (C1.out _ rfl).mono ?_
          rintro e w1 ⟨rfl, rfl⟩
          go_wp2_with fail
          refine (C2.out _ rfl).mono ?_
          rintro e w1 ⟨rfl, rfl⟩
          go_wp2
          go_round
          case rel => exact ⟨k - 1, by omega, by go_num, fun j h1 => by
            rcases Nat.lt_or_ge j k with h | h
            · have : j = k - 1 := by omega
              subst this; exact Ho.out
            · exact Heq.out j h⟩
          case measure => simp [intOf]; omega
        · have e : RowKit.Hid (cmpI (val xs) (val ys) = 1) := cmpI_gt (val_lt_pad hy.small hx.small ho fun j hj => (Heq.out j (by omega)).symm)
          have hle : ¬ lim xs (k - 1) < lim ys (k - 1) := by omega
          go_wp2_with fail
          refine (C1.out _ rfl).mono ?_
          rintro e w1 ⟨rfl, rfl⟩
          go_wp2_with fail
          refine (C2.out _ rfl).mono ?_
          rintro e w1 ⟨rfl, rfl⟩
          go_wp2_with fail
          refine (C1.out _ rfl).mono ?_
          rintro e w1 ⟨rfl, rfl⟩
          go_wp2_with fail
          refine (C2.out _ rfl).mono ?_
          rintro e w1 ⟨rfl, rfl⟩
          go_wp2
          go_ret
          exact ⟨by rw [e.out]; rfl, rfl⟩

end Go.Proofs.Ythcacnlajfidoaa
