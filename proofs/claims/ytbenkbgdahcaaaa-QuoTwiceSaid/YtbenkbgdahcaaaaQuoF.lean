/- What package quo's limbAt, head and gcdSmall answer, as contracts over memory: a limb, 0 beyond; the 64 bits from a place on; the greatest divisor of two words. Conditions: the list reads as limbs, of at most 10^9 of them. -/
import Derived.Test.YtbenkbgdahcaaaaNatK
import Derived.Test.YtbenkbgdahcaaaaQuoM
import Derived.Test.YtbenkbgdahcaaaaRefQuoG
import Derived.BigQuiet
import Derived.IntWalk
import Derived.Deep.QuietTactic
namespace Go.Proofs.Ytbenkbgdahcaaaa.Limb

/-- The 64 bits of a number from bit k on, off three limbs. -/
theorem head_bits {V k l0 l1 l2 : Nat} (e0 : l0 = V / 4294967296 ^ (k / 32) % 4294967296) (e1 : l1 = V / 4294967296 ^ (k / 32 + 1) % 4294967296) (e2 : l2 = V / 4294967296 ^ (k / 32 + 2) % 4294967296) :
    (l0 ||| l1 * 4294967296) / 2 ^ (k % 32) ||| (l2 * 2 ^ (64 - k % 32) % 18446744073709551616) = V / 2 ^ k % 18446744073709551616 := by
  refine Nat.eq_of_testBit_eq fun i => ?_
  have hr : k % 32 < 32 := Nat.mod_lt _ (by decide)
  have hk : k = 32 * (k / 32) + k % 32 := by omega
  rw [e0, e1, e2, pow32, pow32, pow32, show (18446744073709551616 : Nat) = 2 ^ 64 from rfl, show (4294967296 : Nat) = 2 ^ 32 from rfl]
  simp only [Nat.testBit_or, Nat.testBit_div_two_pow, Nat.testBit_mod_two_pow, Nat.testBit_mul_two_pow]
  generalize k % 32 = r at *
  generalize k / 32 = q at *
  subst hk
  by_cases c1 : i + r < 32
  · have e : i + r + 32 * q = i + (32 * q + r) := by omega
    have d1 : i < 64 := by omega
    have d2 : ¬ 64 - r ≤ i := by omega
    have d3 : ¬ 32 ≤ i + r := by omega
    simp [c1, d1, d2, d3, e]
  · by_cases c2 : i + r < 64
    · have e : i + r - 32 + 32 * (q + 1) = i + (32 * q + r) := by omega
      have d1 : i < 64 := by omega
      have d2 : ¬ 64 - r ≤ i := by omega
      have d3 : 32 ≤ i + r := by omega
      have d4 : i + r - 32 < 32 := by omega
      simp [c1, d1, d2, d3, d4, e]
    · by_cases c3 : i < 64
      · have e : i - (64 - r) + 32 * (q + 2) = i + (32 * q + r) := by omega
        have d2 : 64 - r ≤ i := by omega
        have d4 : ¬ i + r - 32 < 32 := by omega
        have d5 : i - (64 - r) < 32 := by omega
        simp [c1, c3, d2, d4, d5, e]
      · simp [c3]
        omega

end Go.Proofs.Ytbenkbgdahcaaaa.Limb
namespace Go.Proofs.Ytbenkbgdahcaaaa
open Go.RowKit Limb
set_option linter.unusedVariables false

set_option maxHeartbeats 400000 in
theorem limbAt_any (A : Option Addr) (n c : Nat) (xs : List Nat) (w : World) (hx : IsN w A n xs) (hm : n ≤ 1000000000) (k : Nat) (I : Int) (hI : I = k) (hk : k ≤ 100000000000) :
    Calls Try.prog 49 #[.slice A n c, .int .i64 I] w fun e w' => e = .returned (.int .u64 ((lim xs k : Nat) : Int)) ∧ w = w' := by
  subst hI
  by_cases h : k < n
  · obtain ⟨b, o, rfl, hb, hc⟩ := hx.2.2 (by omega)
    have h1 := hc k h
    have h2 := lim_lt hx.small k
    go_enter Try.func49, Try.ntmps49
    go_wp2
    go_ret
    exact ⟨rfl, rfl⟩
  · have h1 : lim xs k = 0 := lim_of_ge (by rw [hx.len]; omega)
    have H1 := Lib.hid h1
    clear h1
    go_enter Try.func49, Try.ntmps49
    go_wp2
    go_ret
    exact ⟨ret_int (by rw [H1.out]; rfl), rfl⟩

/-- The same, in a world that drew. -/
theorem limbAt_q {A : Option Addr} {n c : Nat} {xs : List Nat} {w : World} (hx : IsN w A n xs) (hm : n ≤ 1000000000) (k : Nat) (I : Int) (hI : I = k) (hk : k ≤ 100000000000) (nd : Nat) :
    Calls Try.prog 49 #[.slice A n c, .int .i64 I] (w.drewN nd) fun e w' => e = .returned (.int .u64 ((lim xs k : Nat) : Int)) ∧ ∃ m, w' = w.drewN m :=
  (limbAt_any A n c xs (w.drewN nd) (hx.below (below_drewN (Below.refl _ _) nd)) hm k I hI hk).mono fun _ _ ⟨h1, h2⟩ => ⟨h1, nd, h2.symm⟩

set_option maxHeartbeats 1000000 in
theorem head_any (A : Option Addr) (n c : Nat) (xs : List Nat) (w : World) (hx : IsN w A n xs) (hm : n ≤ 1000000000) (k : Nat) (I : Int) (hI : I = k) (hk : k ≤ 1000000000000) (v : Nat) (hv : val xs / 2 ^ k % 18446744073709551616 = v) :
    Calls Try.prog 34 #[.slice A n c, .int .i64 I] w fun e w' => e = .returned (.int .u64 (v : Int)) ∧ ∃ nd, w' = w.drewN nd := by
  subst hI
  obtain ⟨q, hq⟩ : ∃ q, q = k / 32 := ⟨_, rfl⟩
  obtain ⟨r, hr⟩ : ∃ r, r = k % 32 := ⟨_, rfl⟩
  have eq1 : (k : Int) / 32 = (q : Int) := by omega
  have er1 : (k : Int) % 32 = (r : Int) := by omega
  have hr32 : r < 32 := by omega
  have hq3 : q ≤ 90000000000 := by omega
  have l0 := lim_lt hx.small q
  have l1 := lim_lt hx.small (q + 1)
  have l2 := lim_lt hx.small (q + 2)
  have hh := head_bits (V := val xs) (k := k) (lim_eq_div xs hx.small _).symm (lim_eq_div xs hx.small _).symm (lim_eq_div xs hx.small _).symm
  rw [← hq, ← hr, hv] at hh
  have Hh := Lib.hid hh
  clear hh hv hq hr
  go_enter Try.func34, Try.ntmps34
  go_wp2_with fail
  refine (limbAt_any A n c xs w hx hm q _ rfl (by omega)).mono ?_
  rintro e w1 ⟨rfl, rfl⟩
  go_wp2_with fail
  refine (limbAt_any A n c xs w hx hm (q + 1) _ (by omega) (by omega)).mono ?_
  rintro e w1 ⟨rfl, rfl⟩
  obtain ⟨low, hlow⟩ : ∃ x, x = lim xs q ||| lim xs (q + 1) * 4294967296 := ⟨_, rfl⟩
  have hor : bits BinOp.or IntKind.u64 ((lim xs q : Nat) : Int) (((lim xs (q + 1) : Nat) : Int) * 4294967296) = (low : Int) := by
    have := u64_or_nat (lim xs q) (lim xs (q + 1) * 4294967296) (by omega) (by omega)
    rw [hlow, ← this]; rfl
  have hlow2 : low < 18446744073709551616 := by
    rw [hlow]
    exact Nat.or_lt_two_pow (n := 64) (by omega) (by omega)
  rw [← hlow] at Hh
  clear hlow
  have ew : IntKind.i64.wrap ((q : Int) + 2) = (q : Int) + 2 := IntWalk.i64_in _ (by omega)
  have e2 : (q : Int) + 2 = ((q + 2 : Nat) : Int) := by omega
  have E2 := Lib.hid e2
  have ew2 : IntKind.i64.wrap (64 - (r : Int)) = 64 - (r : Int) := IntWalk.i64_in _ (by omega)
  clear e2
  go_wp2
  go_quiet ((go_at_call 49; exact limbAt_q hx hm (q + 2) _ E2.out (by omega) _))
  go_wp2
  have Hor : RowKit.Hid (bits BinOp.or IntKind.u64 ((low : Int) / 2 ^ r) (IntKind.u64.wrap (((lim xs (q + 2) : Nat) : Int) * 2 ^ (64 - r))) = (v : Int)) := by
    show _ = _
    have a1 : (low : Int) / 2 ^ r = ((low / 2 ^ r : Nat) : Int) := by rw [Int.natCast_ediv, Int.natCast_pow]; rfl
    have a2 : IntKind.u64.wrap (((lim xs (q + 2) : Nat) : Int) * 2 ^ (64 - r)) = ((lim xs (q + 2) * 2 ^ (64 - r) % 18446744073709551616 : Nat) : Int) := by
      rw [IntKind.wrap_u64, Int.natCast_emod, Int.natCast_mul, Int.natCast_pow]; rfl
    rw [a1, a2, u64_or_nat _ _ (Nat.lt_of_le_of_lt (Nat.div_le_self _ _) hlow2) (Nat.mod_lt _ (by decide)), Hh.out]
  go_ret
  exact ⟨ret_int Hor.out, _, rfl⟩

theorem gcd_word {x y : Nat} (hy : y ≠ 0) : gcdN y (x % y) = gcdN x y := gcdN_step rfl

set_option maxHeartbeats 1000000 in
theorem gcdSmall_any (x y : Nat) (X Y : Int) (hX : X = x) (hY : Y = y) (w : World) (hx : x < 18446744073709551616) (hy : y < 18446744073709551616) (g : Nat) (hg : gcdN x y = g) :
    Calls Try.prog 33 #[.int .u64 X, .int .u64 Y] w fun e w' => e = .returned (.int .u64 (g : Int)) ∧ Below w.heap.size w w' := by
  subst hX hY
  have Hg := Lib.hid hg
  have Hb := Lib.hid (Below.refl w.heap.size w)
  clear hg
  go_enter Try.func33, Try.ntmps33
  go_wp2
  go_loopw [0, 1] (fun a b wr => ∃ (x y : Nat), a = .int .u64 (x : Int) ∧ b = .int .u64 (y : Int) ∧ x < 18446744073709551616 ∧ y < 18446744073709551616 ∧ RowKit.Hid (gcdN x y = g) ∧ RowKit.Hid (Below w.heap.size w wr)) (fun _ b _ => (intOf b).toNat)
  case atStart => exact ⟨x, y, rfl, rfl, hx, hy, Hg, Hb⟩
  case round =>
    clear hx hy Hg Hb
    obtain ⟨x, y, rfl, rfl, hx, hy, Hg, Hb⟩ := hrel
    by_cases h0 : y = 0
    · subst h0
      have He := Lib.hid (gcdN_end Hg.out)
      go_wp2
      go_ret
      exact ⟨ret_int (by rw [He.out]), Hb.out⟩
    · have hne : ((y : Int) == 0) = false := by simp; omega
      have hne2 : ((y : Int) != 0) = true := by simp; omega
      obtain ⟨m, hm⟩ : ∃ m, m = x % y := ⟨_, rfl⟩
      have hml : m < y := by rw [hm]; exact Nat.mod_lt _ (by omega)
      have em : (x : Int) % (y : Int) = (m : Int) := by rw [hm]; simp
      have Hg2 : RowKit.Hid (gcdN y m = g) := by show _ = _; rw [hm]; exact gcdN_step Hg.out
      have hy0 : 0 < y := by omega
      clear hm Hg h0
      go_wp2
      go_quiet (fail)
      have Hb2 := Lib.hid (below_drewN Hb.out nq)
      clear Hb
      go_wp2
      go_roundw
      case rel => exact ⟨y, m, rfl, by rw [em], hy, by omega, Hg2, Hb2⟩
      case measure => simp [intOf]; omega

end Go.Proofs.Ytbenkbgdahcaaaa
