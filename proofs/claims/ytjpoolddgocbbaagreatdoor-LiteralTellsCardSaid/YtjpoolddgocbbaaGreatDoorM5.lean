/- Part 5 of the texts that the statements of this seat lean on: mathematics, and what functions answer, as contracts over memory; each part says its own conditions. -/
import Derived.Test.YtjpoolddgocbbaaGreatDoorM4
import Derived.Laws.Rows
import Derived.RegionTactic
import Derived.BigRegion
import Derived.IntWalk
import Derived.Deep.RegionHeld3
import Derived.Deep.CutRange
import Derived.Laws.BitsAllLaws
/- What package quo's mix.of answers, as a contract over memory: the sum of multiples of two numbers, in its shortest limbs. Conditions: both read as limbs, the second one not longer, of at most 10^8 of them; the multipliers are below 2^31, one of them not above 0 and one not below; the sum is not below 0 and fits in the first one's limbs. -/
namespace Go.Proofs.YtjpoolddgocbbaaGreatDoor.Limb

/-- A sum of multiples, limb by limb. -/
def OfInv (P Q : Int) (xs ys zs : List Nat) (k : Nat) (cy : Int) : Prop :=
  zs.length = xs.length ∧ ((val (zs.take k) : Nat) : Int) + cy * ((4294967296 ^ k : Nat) : Int) = P * ((val (xs.take k) : Nat) : Int) + Q * ((val (ys.take k) : Nat) : Int)

theorem OfInv.start (P Q : Int) (xs ys zs : List Nat) (h : zs.length = xs.length) : OfInv P Q xs ys zs 0 0 := ⟨h, by simp [val]⟩

theorem of_step {Z cy E P Q X Y x y lo c2 : Int} (h : Z + cy * E = P * X + Q * Y) (hs : cy + (P * x + Q * y) = lo + c2 * 4294967296) : Z + E * lo + c2 * (E * 4294967296) = P * (X + E * x) + Q * (Y + E * y) := by grind

theorem OfInv.step {P Q : Int} {xs ys zs : List Nat} {k lo : Nat} {cy c2 : Int} (h : OfInv P Q xs ys zs k cy) (hk : k < xs.length) (hs : cy + (P * ((lim xs k : Nat) : Int) + Q * ((lim ys k : Nat) : Int)) = (lo : Int) + c2 * 4294967296) :
    OfInv P Q xs ys (zs.set k lo) (k + 1) c2 := by
  obtain ⟨h1, h2⟩ := h
  refine ⟨by simpa using h1, ?_⟩
  rw [val_take_set (by omega), val_take_lim xs, val_take_lim ys, Nat.pow_succ]
  simp only [Int.natCast_add, Int.natCast_mul]
  exact of_step h2 hs

theorem OfInv.done {P Q : Int} {xs ys zs : List Nat} {k v : Nat} {cy : Int} (h : OfInv P Q xs ys zs k cy) (hk : k = xs.length) (hy : ys.length ≤ k) (hz : Small zs) (hv : P * ((val xs : Nat) : Int) + Q * ((val ys : Nat) : Int) = (v : Int)) (hv2 : v < 4294967296 ^ k) : val zs = v := by
  obtain ⟨h1, h2⟩ := h
  rw [List.take_of_length_le (by omega), List.take_of_length_le (by omega), List.take_of_length_le hy, hv] at h2
  have h3 := val_lt hz
  rw [h1, ← hk] at h3
  generalize 4294967296 ^ k = E at *
  have h4 : cy = 0 := by
    rcases Int.lt_trichotomy cy 0 with h | h | h
    · exfalso
      have : (cy + 1) * (E : Int) ≤ 0 := Int.mul_nonpos_of_nonpos_of_nonneg (by omega) (by omega)
      rw [Int.add_mul, Int.one_mul] at this
      omega
    · exact h
    · exfalso
      have : 0 ≤ (cy - 1) * (E : Int) := Int.mul_nonneg (by omega) (by omega)
      rw [Int.sub_mul, Int.one_mul] at this
      omega
  subst h4
  omega

/-- Multipliers below 2^31, not both on one side of 0. -/
def MixOk (P Q : Int) : Prop := -2147483648 < P ∧ P < 2147483648 ∧ -2147483648 < Q ∧ Q < 2147483648 ∧ ((0 ≤ P ∧ Q ≤ 0) ∨ (P ≤ 0 ∧ 0 ≤ Q))

theorem mul_bd {a x : Int} (hx0 : 0 ≤ x) (hx : x ≤ 4294967295) (ha : 0 ≤ a) : 0 ≤ a * x ∧ a * x ≤ a * 4294967295 := ⟨Int.mul_nonneg ha hx0, Int.mul_le_mul_of_nonneg_left hx ha⟩
theorem mul_bd' {a x : Int} (hx0 : 0 ≤ x) (hx : x ≤ 4294967295) (ha : a ≤ 0) : a * x ≤ 0 ∧ a * 4294967295 ≤ a * x := by
  have h1 := Int.mul_nonneg (show 0 ≤ -a by omega) hx0
  have h2 := Int.mul_le_mul_of_nonneg_left hx (show 0 ≤ -a by omega)
  rw [Int.neg_mul] at h1 h2
  rw [Int.neg_mul] at h2
  omega

theorem mix_bound {P Q : Int} (h : MixOk P Q) : ∃ lo hi : Int, -2147483648 < lo ∧ lo ≤ 0 ∧ 0 ≤ hi ∧ hi < 2147483648 ∧ ∀ x y : Int, 0 ≤ x → x ≤ 4294967295 → 0 ≤ y → y ≤ 4294967295 →
    lo * 4294967295 ≤ P * x + Q * y ∧ P * x + Q * y ≤ hi * 4294967295 ∧ -9223372036854775808 ≤ P * x ∧ P * x ≤ 9223372036854775807 ∧ -9223372036854775808 ≤ Q * y ∧ Q * y ≤ 9223372036854775807 := by
  obtain ⟨h1, h2, h3, h4, h5⟩ := h
  rcases h5 with ⟨h5, h6⟩ | ⟨h5, h6⟩
  · refine ⟨Q, P, h3, h6, h5, h2, fun x y a b c d => ?_⟩
    have e1 := mul_bd a b h5
    have e2 := mul_bd' c d h6
    omega
  · refine ⟨P, Q, h1, h5, h6, h4, fun x y a b c d => ?_⟩
    have e1 := mul_bd' a b h5
    have e2 := mul_bd c d h6
    omega

end Go.Proofs.YtjpoolddgocbbaaGreatDoor.Limb
namespace Go.Proofs.YtjpoolddgocbbaaGreatDoor
open Go.RowKit Limb
set_option linter.unusedVariables false

set_option maxHeartbeats 600000 in
theorem of_mix (P Q : Int) (A : Option Addr) (n c : Nat) (xs : List Nat) (A' : Option Addr) (n' c' : Nat) (ys : List Nat) (w : World) (hx : IsN w A n xs) (hy : IsN w A' n' ys) (hm : n ≤ 100000000) (hn : n' ≤ n) (hPQ : MixOk P Q)
    (v : Nat) (hv : P * ((val xs : Nat) : Int) + Q * ((val ys : Nat) : Int) = (v : Int)) (hv2 : v < 4294967296 ^ n) :
    Calls Tryz.prog 119 #[.agg #[.int .i64 P, .int .i64 Q], .slice A n c, .slice A' n' c'] w fun e w' => ∃ A2 n2 c2, e = .returned (.slice A2 n2 c2) ∧ OwnN w' w.heap.size A2 n2 c2 (limbs v) ∧ Below w.heap.size w w' := by
  obtain ⟨lo, hi, hlo1, hlo2, hhi1, hhi2, hbd⟩ := mix_bound hPQ
  have Hbd := Lib.hid hbd
  have Hv := Lib.hid hv
  have Hv2 := Lib.hid hv2
  obtain ⟨p1, p2, q1, q2, _⟩ := hPQ
  have hmk := run_made (n : Int) n rfl (by omega)
  have hbx := below_new w (.cells #[.int .i64 P, .int .i64 Q] 128)
  have cP : (w.alloc (.cells #[.int .i64 P, .int .i64 Q] 128)).cell? ⟨w.heap.size, 0, none⟩ = some (.int .i64 P) := by
    rw [World.cell?_alloc_at _ _ _ _ rfl]; rfl
  have cQ : (w.alloc (.cells #[.int .i64 P, .int .i64 Q] 128)).cell? ⟨w.heap.size, 1, none⟩ = some (.int .i64 Q) := by
    rw [World.cell?_alloc_at _ _ _ _ rfl]; rfl
  have hx1 := hx.below hbx
  have hy1 := hy.below hbx
  have Hbx := Lib.hid hbx
  obtain ⟨w1, hw1⟩ : ∃ x, x = w.alloc (.cells #[.int .i64 P, .int .i64 Q] 128) := ⟨_, rfl⟩
  have hsz : w1.heap.size = w.heap.size + 1 := by rw [hw1]; simp
  have Hw1 := Lib.hid hw1
  rw [← hw1] at cP cQ hx1 hy1 Hbx
  have Hrow : RowKit.Hid (OwnN (w1.alloc (.cells (madeCells #[.int .u32 0] n) 38)) (w.heap.size + 1) (some ⟨w.heap.size + 1, 0, none⟩) n n (List.replicate n 0)) := by
    have h := own_made w1 n (by omega)
    rw [hsz] at h
    exact h
  have Hb1 : RowKit.Hid (Below (w.heap.size + 1) w1 (w1.alloc (.cells (madeCells #[.int .u32 0] n) 38))) := by
    have h := below_new w1 (.cells (madeCells #[.int .u32 0] n) 38)
    rw [hsz] at h
    exact h
  have Hsz := Lib.hid hsz
  have Hst := Lib.hid (OfInv.start P Q xs ys (List.replicate n 0) (by rw [List.length_replicate, hx1.len]))
  have Hxl := Lib.hid hx1.len
  have Hyl := Lib.hid hy1.len
  clear hbd hv hv2 hbx hx hy hsz hw1
  go_enter Tryz.func119, Tryz.ntmps119
  go_wp2
  rw [← Hw1.out]
  go_loopw [15, 8] (fun i cv wr => ∃ (k : Nat) (cy : Int) (zs : List Nat), k ≤ n ∧ i = .int .i64 (k : Int) ∧ cv = .int .i64 cy ∧ lo ≤ cy ∧ cy ≤ hi ∧ RowKit.Hid (OfInv P Q xs ys zs k cy) ∧ RowKit.Hid (OwnN wr (w.heap.size + 1) (some ⟨w.heap.size + 1, 0, none⟩) n n zs) ∧ RowKit.Hid (Below (w.heap.size + 1) w1 wr)) (fun i _ _ => n - (intOf i).toNat)
  case atStart => exact ⟨0, 0, _, Nat.zero_le _, rfl, rfl, hlo2, hhi1, Hst, Hrow, Hb1⟩
  case round =>
    clear Hst Hrow Hb1 hmk
    obtain ⟨k, cy, zs, hk, rfl, rfl, hc1, hc2, Hinv, Hrow, Hb⟩ := hrel
    by_cases hkn : k < n
    · have hb := Hb.out
      rw [← Hsz.out] at hb
      have hxk := hx1.below hb
      have hyk := hy1.below hb
      have dP : wr.cell? ⟨w.heap.size, 0, none⟩ = some (.int .i64 P) := (Hb.out.cell (p := ⟨w.heap.size, 0, none⟩) (Nat.lt_succ_self _)).trans cP
      have dQ : wr.cell? ⟨w.heap.size, 1, none⟩ = some (.int .i64 Q) := (Hb.out.cell (p := ⟨w.heap.size, 1, none⟩) (Nat.lt_succ_self _)).trans cQ
      have lx := lim_lt hxk.small k
      have ly := lim_lt hyk.small k
      have HA := Lib.hid (fun nd => limbAt_q (c := c) hxk (by omega) k _ rfl (by omega) nd)
      have HB := Lib.hid (fun nd => limbAt_q (c := c') hyk (by omega) k _ rfl (by omega) nd)
      obtain ⟨b1, b2, b3, b4, b5, b6⟩ := Hbd.out ((lim xs k : Nat) : Int) ((lim ys k : Nat) : Int) (by omega) (by omega) (by omega) (by omega)
      obtain ⟨px, hpx⟩ : ∃ x, x = P * ((lim xs k : Nat) : Int) := ⟨_, rfl⟩
      obtain ⟨qy, hqy⟩ : ∃ x, x = Q * ((lim ys k : Nat) : Int) := ⟨_, rfl⟩
      rw [← hpx, ← hqy] at b1 b2
      rw [← hpx] at b3 b4
      rw [← hqy] at b5 b6
      obtain ⟨l, hl⟩ : ∃ l : Nat, (l : Int) = (cy + (px + qy)) % 4294967296 := ⟨((cy + (px + qy)) % 4294967296).toNat, by omega⟩
      obtain ⟨c2, hc2'⟩ : ∃ c2 : Int, c2 = (cy + (px + qy)) / 4294967296 := ⟨_, rfl⟩
      have hl4 : l < 4294967296 := by omega
      have hs : cy + (px + qy) = (l : Int) + c2 * 4294967296 := by omega
      have hc3 : lo ≤ c2 := by omega
      have hc4 : c2 ≤ hi := by omega
      have Hst : RowKit.Hid (OfInv P Q xs ys (zs.set k l) (k + 1) c2) := Hinv.out.step (by rw [Hxl.out]; exact hkn) (by rw [← hpx, ← hqy]; exact hs)
      have w1' : IntKind.i64.wrap (P * ((lim xs k : Nat) : Int)) = px := by rw [← hpx]; exact IntWalk.i64_in _ (by omega)
      have w2' : IntKind.i64.wrap (Q * ((lim ys k : Nat) : Int)) = qy := by rw [← hqy]; exact IntWalk.i64_in _ (by omega)
      have w3' : IntKind.i64.wrap (px + qy) = px + qy := IntWalk.i64_in _ (by omega)
      have w4' : IntKind.i64.wrap (cy + (px + qy)) = cy + (px + qy) := IntWalk.i64_in _ (by omega)
      have w5' : IntKind.i64.wrap ((lim xs k : Nat) : Int) = ((lim xs k : Nat) : Int) := IntWalk.i64_in _ (by omega)
      have w6' : IntKind.i64.wrap ((lim ys k : Nat) : Int) = ((lim ys k : Nat) : Int) := IntWalk.i64_in _ (by omega)
      have es : (cy + (px + qy)) % 4294967296 = (l : Int) := hl.symm
      have eh : (cy + (px + qy)) / 4294967296 = c2 := hc2'.symm
      clear hb hxk hyk hpx hqy hl hc2' hs Hinv
      go_wp2
      go_quiet ((first | (go_at_call 120; with_reducible exact HA.out _) | (go_at_call 120; with_reducible exact HB.out _)))
      have Hrow2 : RowKit.Hid (OwnN (wr.drewN nq) (w.heap.size + 1) (some ⟨w.heap.size + 1, 0, none⟩) n n zs) := Hrow.out.below (below_drewN (Below.refl _ _) nq) (Nat.le_refl _)
      have Hb2 := Lib.hid (below_drewN Hb.out nq)
      clear Hrow Hb w1' w2' w3' w4' w5' w6' dP dQ HA HB
      generalize wr.drewN nq = w2 at *
      have c0 := Hrow2.out.cell (k := k) (by omega)
      have f0 := Hrow2.out.1.frozenAt k
      have Hset := Lib.hid (Hrow2.out.set k hl4)
      have Hb3 : RowKit.Hid (Below (w.heap.size + 1) w1 (w2.setCell ⟨w.heap.size + 1, k, none⟩ (.int .u32 (l : Int)))) := Hb2.out.setCell (by exact Nat.le_refl _) _
      clear Hrow2 Hb2
      go_wp2
      go_roundw
      case rel => exact ⟨k + 1, c2, zs.set k l, by omega, by go_num, rfl, hc3, hc4, Hst, Hset, Hb3⟩
      case measure => simp [intOf]; omega
    · obtain rfl : k = n := by omega
      have hz := Hrow.out.isN
      have hsm := Hrow.out.small
      have hval := Hinv.out.done Hxl.out.symm (by rw [Hyl.out]; exact hn) hsm Hv.out Hv2.out
      have Hval := Lib.hid hval
      clear hval
      go_wp2_with fail
      refine (trim_any _ k k zs wr hz (Nat.le_refl _) (by omega)).mono ?_
      rintro e w5 ⟨A5, n5, c5, rfl, how, hb5⟩
      have How : RowKit.Hid (OwnN w5 w.heap.size A5 n5 c5 (limbs v)) := by
        rw [trim_eq_limbs hsm, Hval.out] at how
        have hs := Hb.out.size
        exact how.mono (by have := Hsz.out; omega)
      have HW : RowKit.Hid (Below w.heap.size w w5) := by
        have hb := Hb.out
        rw [← Hsz.out] at hb
        exact below_two (below_two Hbx.out hb) hb5
      clear how hb5
      go_wp2
      go_ret
      exact ⟨_, _, _, rfl, How.out, HW.out⟩

end Go.Proofs.YtjpoolddgocbbaaGreatDoor

/- Plain mathematics of divisions that are done on the heads of two numbers: multiples of both, as far as the heads make the quotients certain. No condition. -/
namespace Go.Proofs.YtjpoolddgocbbaaGreatDoor.Limb

theorem square_bd {y t n : Int} (h1 : t ≤ y) (h2 : y * t ≤ n) (h3 : n < 4611686018427387904) (h0 : 0 ≤ y) : t < 2147483648 := by
  by_cases h : t < 2147483648
  · exact h
  · exfalso
    have h4 : 2147483648 * t ≤ y * t := Int.mul_le_mul_of_nonneg_right (by omega) (by omega)
    omega

/-- One division on the heads: half of the cases. -/
theorem head_half {x0 y0 fa fb sa sb ta tb y z q : Int} (ha : 0 ≤ fa) (hb : fb ≤ 0) (hc : sa ≤ 0) (hd : 0 ≤ sb) (hq : 0 ≤ q) (e1 : ta = fa - q * sa) (e2 : tb = fb - q * sb)
    (r1 : z + ta < y + sa) (r2 : 0 ≤ z + tb) (i1 : y * (-tb) + z * sb = x0) (i2 : y * ta + z * (-sa) = y0) (hx : x0 < 4611686018427387904) (hy : y0 < 4611686018427387904) :
    0 ≤ ta ∧ tb ≤ 0 ∧ 0 ≤ z ∧ z < y ∧ ta < 2147483648 ∧ -2147483648 < tb := by
  have p1 : 0 ≤ q * (-sa) := Int.mul_nonneg hq (by omega)
  have p2 : 0 ≤ q * sb := Int.mul_nonneg hq hd
  rw [Int.mul_neg] at p1
  have h1 : 0 ≤ ta := by omega
  have h2 : tb ≤ 0 := by omega
  have h3 : 0 ≤ z := by omega
  have h4 : z < y := by omega
  have p3 : 0 ≤ z * sb := Int.mul_nonneg h3 hd
  have p4 : 0 ≤ z * (-sa) := Int.mul_nonneg h3 (by omega)
  have h5 := square_bd (y := y) (t := ta) (n := y0) (by omega) (by omega) hy (by omega)
  have h6 := square_bd (y := y) (t := -tb) (n := x0) (by omega) (by omega) hx (by omega)
  exact ⟨h1, h2, h3, h4, h5, by omega⟩

/-- What holds of the multipliers and of what the heads still are. -/
structure SInv (x0 y0 a b fa fb sa sb x y : Int) : Prop where
  ex : x = fa * x0 + fb * y0
  ey : y = sa * x0 + sb * y0
  n1 : 0 ≤ x + fa
  n2 : 0 ≤ x + fb
  n3 : 0 ≤ y + sa
  n4 : 0 ≤ y + sb
  sg : (0 ≤ fa ∧ fb ≤ 0 ∧ sa ≤ 0 ∧ 0 ≤ sb ∧ fa * sb - fb * sa = 1) ∨ (fa ≤ 0 ∧ 0 ≤ fb ∧ 0 ≤ sa ∧ sb ≤ 0 ∧ fa * sb - fb * sa = -1)
  m1 : MixOk fa fb
  m2 : MixOk sa sb
  g : Int.gcd (fa * a + fb * b) (sa * a + sb * b) = Int.gcd a b
  st : (fa = 1 ∧ fb = 0 ∧ sa = 0 ∧ sb = 1) ∨ (y + sa < x + fa ∧ y + sb < x + fb ∧ fa * a + fb * b ≤ b)
  yp : 0 ≤ y
  xb : x < 4611686018427387904
  yx : y ≤ x

/-- The heads of two numbers: what stands below them is less than S. -/
structure Heads (x0 y0 a b S : Int) : Prop where
  s : 0 < S
  a1 : x0 * S ≤ a
  a2 : a < (x0 + 1) * S
  b1 : y0 * S ≤ b
  b2 : b < (y0 + 1) * S
  x62 : x0 < 4611686018427387904
  yp : 0 ≤ y0
  yx : y0 ≤ x0
  xp : 0 ≤ x0

theorem SInv.start {x0 y0 a b S : Int} (h : Heads x0 y0 a b S) : SInv x0 y0 a b 1 0 0 1 x0 y0 := by
  have h1 := h.yp; have h2 := h.yx; have h3 := h.x62; have h4 := h.xp
  refine ⟨by omega, by omega, by omega, by omega, by omega, by omega, .inl (by omega), ?_, ?_, by simp, .inl (by omega), by omega, by omega, by omega⟩
  · unfold MixOk; omega
  · unfold MixOk; omega

theorem gcd_less (A B q : Int) : Int.gcd B (A - q * B) = Int.gcd A B := by
  rw [Int.gcd_comm A B, Int.sub_eq_add_neg, ← Int.neg_mul, Int.add_comm]
  exact Int.gcd_mul_right_add_right ..

/-- Below the heads: what is left is not below 0, and less than the number ahead. -/
theorem SInv.near {x0 y0 a b S fa fb sa sb x y : Int} (h : SInv x0 y0 a b fa fb sa sb x y) (hh : Heads x0 y0 a b S) : 0 ≤ sa * a + sb * b ∧ (y + sa < x + fa → y + sb < x + fb → sa * a + sb * b < fa * a + fb * b) := by
  obtain ⟨p, hp⟩ : ∃ p, p = a - x0 * S := ⟨_, rfl⟩
  obtain ⟨r, hr⟩ : ∃ r, r = b - y0 * S := ⟨_, rfl⟩
  have h1 := hh.a1; have h2 := hh.a2; have h3 := hh.b1; have h4 := hh.b2
  rw [Int.add_mul, Int.one_mul] at h2 h4
  have p0 : 0 ≤ p := by omega
  have pS : p ≤ S := by omega
  have r0 : 0 ≤ r := by omega
  have rS : r ≤ S := by omega
  have ea : a = x0 * S + p := by omega
  have eb : b = y0 * S + r := by omega
  have eA : fa * a + fb * b = x * S + fa * p + fb * r := by rw [ea, eb, h.ex]; grind
  have eB : sa * a + sb * b = y * S + sa * p + sb * r := by rw [ea, eb, h.ey]; grind
  rw [eA, eB]
  have hS := hh.s
  have n3 := Int.mul_nonneg h.n3 (Int.le_of_lt hS)
  have n4 := Int.mul_nonneg h.n4 (Int.le_of_lt hS)
  rw [Int.add_mul] at n3 n4
  rcases h.sg with ⟨s1, s2, s3, s4, _⟩ | ⟨s1, s2, s3, s4, _⟩
  · have a1 := Int.mul_nonneg s1 p0
    have a2 := Int.mul_le_mul_of_nonneg_left rS (show 0 ≤ -fb by omega)
    have a3 := Int.mul_le_mul_of_nonneg_left pS (show 0 ≤ -sa by omega)
    have a4 := Int.mul_nonneg (show 0 ≤ -sa by omega) p0
    have a5 := Int.mul_nonneg s4 r0
    have a6 := Int.mul_le_mul_of_nonneg_left rS s4
    rw [Int.neg_mul, Int.neg_mul] at a2 a3
    rw [Int.neg_mul] at a4
    refine ⟨by omega, fun _ l => ?_⟩
    have l2 := Int.mul_lt_mul_of_pos_right l hS
    rw [Int.add_mul, Int.add_mul] at l2
    omega
  · have a1 := Int.mul_nonneg s2 r0
    have a2 := Int.mul_le_mul_of_nonneg_left pS (show 0 ≤ -fa by omega)
    have a3 := Int.mul_le_mul_of_nonneg_left rS (show 0 ≤ -sb by omega)
    have a4 := Int.mul_nonneg (show 0 ≤ -sb by omega) r0
    have a5 := Int.mul_nonneg s3 p0
    have a6 := Int.mul_le_mul_of_nonneg_left pS s3
    rw [Int.neg_mul, Int.neg_mul] at a2 a3
    rw [Int.neg_mul] at a4
    refine ⟨by omega, fun l _ => ?_⟩
    have l2 := Int.mul_lt_mul_of_pos_right l hS
    rw [Int.add_mul, Int.add_mul] at l2
    omega

theorem det_step {fa fb sa sb q : Int} : sa * (fb - q * sb) - sb * (fa - q * sa) = -(fa * sb - fb * sa) := by grind

/-- One division on the heads. -/
theorem SInv.step {x0 y0 a b S fa fb sa sb x y q : Int} (h : SInv x0 y0 a b fa fb sa sb x y) (hh : Heads x0 y0 a b S) (h1 : y + sa ≠ 0) (h2 : y + sb ≠ 0) (hq : q = (x + fa) / (y + sa)) (hq2 : q = (x + fb) / (y + sb)) :
    SInv x0 y0 a b sa sb (fa - q * sa) (fb - q * sb) y (x - q * y) ∧ x - q * y < y ∧ 0 ≤ q := by
  have p1 : 0 < y + sa := by have := h.n3; omega
  have p2 : 0 < y + sb := by have := h.n4; omega
  have q0 : 0 ≤ q := by rw [hq]; exact Int.ediv_nonneg h.n1 (Int.le_of_lt p1)
  have d1 := Int.emod_add_mul_ediv (x + fa) (y + sa)
  have d2 := Int.emod_nonneg (x + fa) (show y + sa ≠ 0 by omega)
  have d3 := Int.emod_lt_of_pos (x + fa) p1
  have d4 := Int.emod_add_mul_ediv (x + fb) (y + sb)
  have d5 := Int.emod_nonneg (x + fb) (show y + sb ≠ 0 by omega)
  have d6 := Int.emod_lt_of_pos (x + fb) p2
  rw [← hq] at d1
  rw [← hq2] at d4
  generalize (x + fa) % (y + sa) = ra at *
  generalize (x + fb) % (y + sb) = rb at *
  clear hq hq2
  have r1 : (x - q * y) + (fa - q * sa) = ra := by grind
  have r2 : (x - q * y) + (fb - q * sb) = rb := by grind
  have hx : x - q * y = (fa - q * sa) * x0 + (fb - q * sb) * y0 := by rw [h.ex, h.ey]; grind
  have hg : Int.gcd (sa * a + sb * b) ((fa - q * sa) * a + (fb - q * sb) * b) = Int.gcd a b := by
    rw [← h.g, ← gcd_less (fa * a + fb * b) (sa * a + sb * b) q]
    congr 1
    grind
  have hBb : sa * a + sb * b ≤ b := by
    rcases h.st with ⟨e1, e2, e3, e4⟩ | ⟨e1, e2, e3⟩
    · subst e3 e4; omega
    · have := (h.near hh).2 e1 e2; omega
  have hdet := @det_step fa fb sa sb q
  obtain ⟨ta, hta⟩ : ∃ t, t = fa - q * sa := ⟨_, rfl⟩
  obtain ⟨tb, htb⟩ : ∃ t, t = fb - q * sb := ⟨_, rfl⟩
  obtain ⟨z, hz⟩ : ∃ t, t = x - q * y := ⟨_, rfl⟩
  rw [← hta] at r1 hx hg hdet ⊢
  rw [← htb] at r2 hx hg hdet ⊢
  rw [← hz] at r1 r2 hx ⊢
  have hx62 := hh.x62
  have hyx := hh.yx
  have hxb := h.xb
  have hyx2 := h.yx
  have m2 := h.m2
  rcases h.sg with ⟨s1, s2, s3, s4, s5⟩ | ⟨s1, s2, s3, s4, s5⟩
  · have i1 : y * (-tb) + z * sb = x0 := by rw [h.ey, hx]; grind
    have i2 : y * ta + z * (-sa) = y0 := by rw [h.ey, hx]; grind
    obtain ⟨k1, k2, k3, k4, k5, k6⟩ := head_half s1 s2 s3 s4 q0 hta htb (by omega) (by omega) i1 i2 hx62 (by omega)
    refine ⟨⟨h.ey, hx, h.n3, h.n4, by omega, by omega, .inr ⟨s3, s4, k1, k2, by omega⟩, m2, ?_, hg, .inr ⟨by omega, by omega, hBb⟩, k3, by omega, by omega⟩, k4, q0⟩
    unfold MixOk; omega
  · have i1 : y * (-ta) + z * sa = y0 := by rw [h.ey, hx]; grind
    have i2 : y * tb + z * (-sb) = x0 := by rw [h.ey, hx]; grind
    obtain ⟨k1, k2, k3, k4, k5, k6⟩ := head_half s2 s1 s4 s3 q0 htb hta (by omega) (by omega) i1 i2 (by omega) hx62
    refine ⟨⟨h.ey, hx, h.n3, h.n4, by omega, by omega, .inl ⟨s3, s4, k2, k1, by omega⟩, m2, ?_, hg, .inr ⟨by omega, by omega, hBb⟩, k3, by omega, by omega⟩, k4, q0⟩
    unfold MixOk; omega

/-- What two multiples must be to go on with. -/
def SEnd (a b fa fb sa sb : Int) : Prop := fb ≠ 0 → 0 ≤ sa * a + sb * b ∧ sa * a + sb * b < fa * a + fb * b ∧ fa * a + fb * b ≤ b ∧ Int.gcd (fa * a + fb * b) (sa * a + sb * b) = Int.gcd a b ∧ MixOk fa fb ∧ MixOk sa sb

theorem SInv.done {x0 y0 a b S fa fb sa sb x y : Int} (h : SInv x0 y0 a b fa fb sa sb x y) (hh : Heads x0 y0 a b S) : SEnd a b fa fb sa sb := by
  intro hfb
  rcases h.st with ⟨e1, e2, e3, e4⟩ | ⟨e1, e2, e3⟩
  · exact absurd e2 hfb
  · obtain ⟨n1, n2⟩ := h.near hh
    exact ⟨n1, n2 e1 e2, e3, h.g, h.m1, h.m2⟩

end Go.Proofs.YtjpoolddgocbbaaGreatDoor.Limb

/- What package quo's sure answers, as a contract over memory: two multiples of both heads, as far as these make the quotients certain. Conditions: the heads are those of two numbers, below 2^62, the second one not above the first. -/
namespace Go.Proofs.YtjpoolddgocbbaaGreatDoor
open Go.RowKit Limb
set_option linter.unusedVariables false

/-- A pair of multipliers in memory. -/
def Pair (w : World) (g : Nat) (u v : Int) : Prop := w.heap[g]? = some (.cells #[Value.int .i64 u, Value.int .i64 v] 128 (0, 0))
theorem Pair.lt {w : World} {g : Nat} {u v : Int} (h : Pair w g u v) : g < w.heap.size := by
  rcases Nat.lt_or_ge g w.heap.size with hlt | hge
  · exact hlt
  · unfold Pair at h; rw [Array.getElem?_eq_none hge] at h; cases h
theorem Pair.below {w w' : World} {g : Nat} {u v : Int} (h : Pair w g u v) (hb : Below w.heap.size w w') : Pair w' g u v := (hb.block g h.lt).trans h
theorem Pair.c0 {w : World} {g : Nat} {u v : Int} (h : Pair w g u v) : w.cell? ⟨g, 0, none⟩ = some (.int .i64 u) := by unfold Pair at h; simp [World.cell?, h]
theorem Pair.c1 {w : World} {g : Nat} {u v : Int} (h : Pair w g u v) : w.cell? ⟨g, 1, none⟩ = some (.int .i64 v) := by unfold Pair at h; simp [World.cell?, h]
theorem Pair.f0 {w : World} {g : Nat} {u v : Int} (h : Pair w g u v) (k : Nat) : w.frozen? ⟨g, k, none⟩ = false := by unfold Pair at h; simp [World.frozen?, h]
theorem Pair.put {w : World} {g : Nat} {u v : Int} (h : Pair w g u v) (u' v' : Int) : Pair ((w.setCell ⟨g, 0, none⟩ (.int .i64 u')).setCell ⟨g, 1, none⟩ (.int .i64 v')) g u' v' := by
  unfold Pair at h ⊢
  simp [World.setCell, Array.getElem?_modify, h]
theorem Pair.other {w : World} {g k : Nat} {u v : Int} (h : Pair w g u v) (hk : k ≠ g) (x y : Value) : Pair ((w.setCell ⟨k, 0, none⟩ x).setCell ⟨k, 1, none⟩ y) g u v := by
  unfold Pair at h ⊢
  simp [World.setCell, Array.getElem?_modify, h, hk]
theorem pair_new (w : World) (u v : Int) : Pair (w.alloc (.cells #[Value.int .i64 u, Value.int .i64 v] 128)) w.heap.size u v := heap_alloc_new _ _

theorem mix_size : (Tryz.prog.info? 128).map (·.size) = some 2 := by kernel_rfl

/-- Two results, each a row of cells. -/
theorem results_two {P : Program} {fn : Func} {p q : Tmp} {ty : TypeId} (h : fn.results = #[.cell p ty, .cell q ty]) (tmps : Array Value) (w : World) (g k : Nat) (t : TypeId) (cs ds : Array Value) (fr : Nat × Nat) (d : TypeDesc)
    (hp : tmps.getD p undef = .pointer (some ⟨g, 0, none⟩)) (hq : tmps.getD q undef = .pointer (some ⟨k, 0, none⟩)) (hg : w.heap[g]? = some (.cells cs t fr)) (hk : w.heap[k]? = some (.cells ds t fr))
    (hu : P.underlying ty = some d) (hd : (match d with | .struct _ | .array _ _ => true | _ => false) = true) (hi : (P.info? ty).map (·.size) = some cs.size) (hj : (P.info? ty).map (·.size) = some ds.size) :
    (results fn tmps).run P w = .ok (.tuple #[.agg cs, .agg ds]) w := by
  have hp' : tmps[p]?.getD undef = .pointer (some ⟨g, 0, none⟩) := by simpa using hp
  have hq' : tmps[q]?.getD undef = .pointer (some ⟨k, 0, none⟩) := by simpa using hq
  simp [results, h, hp', hq', asAddr, run_loadVar_row w g t ty cs fr d hg hu hd hi, run_loadVar_row w k t ty ds fr d hk hu hd hj]

theorem below_put2 {w wr : World} {g : Nat} (h : Below w.heap.size w wr) (hg : w.heap.size ≤ g) (u v : Value) : Below w.heap.size w ((wr.setCell ⟨g, 0, none⟩ u).setCell ⟨g, 1, none⟩ v) :=
  (h.setCell (by exact hg) _).setCell (by exact hg) _

set_option maxHeartbeats 1000000 in
theorem sure_any (x0 y0 a b S : Int) (hh : Heads x0 y0 a b S) (w : World) :
    Calls Tryz.prog 118 #[.int .i64 x0, .int .i64 y0] w fun e w' => ∃ fa fb sa sb : Int, e = .returned (.tuple #[.agg #[.int .i64 fa, .int .i64 fb], .agg #[.int .i64 sa, .int .i64 sb]]) ∧ SEnd a b fa fb sa sb ∧ Below w.heap.size w w' := by
  have h0 := SInv.start hh
  have H0 := Lib.hid h0
  have Hh := Lib.hid hh
  have P4 : RowKit.Hid (Pair ((w.alloc (.cells #[Value.int .i64 1, Value.int .i64 0] 128)).alloc (.cells #[Value.int .i64 0, Value.int .i64 1] 128)) w.heap.size 1 0) := (pair_new w 1 0).below (below_new _ _)
  have P5 : RowKit.Hid (Pair ((w.alloc (.cells #[Value.int .i64 1, Value.int .i64 0] 128)).alloc (.cells #[Value.int .i64 0, Value.int .i64 1] 128)) (w.heap.size + 1) 0 1) := by
    have h := pair_new (w.alloc (.cells #[Value.int .i64 1, Value.int .i64 0] 128)) 0 1
    have e : (w.alloc (.cells #[Value.int .i64 1, Value.int .i64 0] 128)).heap.size = w.heap.size + 1 := by simp
    rw [e] at h
    exact h
  have HB := Lib.hid (below_two (below_new w (.cells #[Value.int .i64 1, Value.int .i64 0] 128)) (below_new _ (.cells #[Value.int .i64 0, Value.int .i64 1] 128)))
  clear hh h0
  go_enter Tryz.func118, Tryz.ntmps118
  go_wp2
  go_loopw [0, 1] (fun xv yv wr => ∃ fa fb sa sb x y : Int, xv = .int .i64 x ∧ yv = .int .i64 y ∧ RowKit.Hid (SInv x0 y0 a b fa fb sa sb x y) ∧ RowKit.Hid (Pair wr w.heap.size fa fb) ∧ RowKit.Hid (Pair wr (w.heap.size + 1) sa sb) ∧ RowKit.Hid (Below w.heap.size w wr)) (fun _ yv _ => (intOf yv).toNat)
  case atStart => exact ⟨1, 0, 0, 1, x0, y0, rfl, rfl, H0, P4, P5, HB⟩
  case round =>
    clear H0 P4 P5 HB
    obtain ⟨fa, fb, sa, sb, x, y, rfl, rfl, Hi, P4, P5, HB⟩ := hrel
    obtain ⟨f1, f2, f3, f4, _⟩ := Hi.out.m1
    obtain ⟨s1, s2, s3, s4, _⟩ := Hi.out.m2
    have yp := Hi.out.yp
    have xb := Hi.out.xb
    have yx := Hi.out.yx
    have n1 := Hi.out.n1
    have n2 := Hi.out.n2
    have n3 := Hi.out.n3
    have n4 := Hi.out.n4
    have c40 := P4.out.c0
    have c41 := P4.out.c1
    have c50 := P5.out.c0
    have c51 := P5.out.c1
    by_cases hgo : y + sa ≠ 0 ∧ y + sb ≠ 0 ∧ (x + fa) / (y + sa) = (x + fb) / (y + sb)
    · obtain ⟨g1, g2, g3⟩ := hgo
      obtain ⟨q, hq⟩ : ∃ q, q = (x + fa) / (y + sa) := ⟨_, rfl⟩
      obtain ⟨hst, hlt, q0⟩ := Hi.out.step Hh.out g1 g2 hq (hq.trans g3)
      have d1 : ((y + sa) != 0) = true := by simpa using g1
      have d2 : ((y + sb) != 0) = true := by simpa using g2
      have d3 : ((y + sa) == 0) = false := by simpa using g1
      have d4 : ((y + sb) == 0) = false := by simpa using g2
      have eq1 : (x + fa) / (y + sa) = q := hq.symm
      have eq2 : (x + fb) / (y + sb) = q := by rw [← g3]; exact hq.symm
      obtain ⟨qa, hqa⟩ : ∃ t, t = q * sa := ⟨_, rfl⟩
      obtain ⟨qb, hqb⟩ : ∃ t, t = q * sb := ⟨_, rfl⟩
      obtain ⟨qy, hqy⟩ : ∃ t, t = q * y := ⟨_, rfl⟩
      rw [← hqa, ← hqb, ← hqy] at hst
      rw [← hqy] at hlt
      obtain ⟨t1, t2, t3, t4, _⟩ := hst.m2
      have z0 := hst.yp
      have p1 : 0 < y + sa := by omega
      have p2 : 0 < y + sb := by omega
      have q62 : q ≤ 4611686020574871552 := by
        rw [hq]
        exact Int.le_trans (Int.ediv_le_self _ n1) (by omega)
      have k1 : RowKit.wrap64 ((x + fa).tdiv (y + sa)) = q := by rw [Int.tdiv_eq_ediv_of_nonneg n1, eq1]; exact IntWalk.wrap64_in _ (by omega)
      have k2 : RowKit.wrap64 ((x + fb).tdiv (y + sb)) = q := by rw [Int.tdiv_eq_ediv_of_nonneg n2, eq2]; exact IntWalk.wrap64_in _ (by omega)
      have k3 : RowKit.wrap64 (q * y) = qy := by rw [← hqy]; exact IntWalk.wrap64_in _ (by omega)
      have w1' : IntKind.i64.wrap (q * sa) = qa := by rw [← hqa]; exact IntWalk.i64_in _ (by omega)
      have w2' : IntKind.i64.wrap (q * sb) = qb := by rw [← hqb]; exact IntWalk.i64_in _ (by omega)
      have w3' : IntKind.i64.wrap (fa - qa) = fa - qa := IntWalk.i64_in _ (by omega)
      have w4' : IntKind.i64.wrap (fb - qb) = fb - qb := IntWalk.i64_in _ (by omega)
      have Hst := Lib.hid hst
      clear hst hq g1 g2 g3 hqa hqb hqy Hi
      go_wp2
      rw [eq1, eq2]
      clear eq1 eq2 k1 k2
      have r40 : wr.drew.cell? ⟨w.heap.size, 0, none⟩ = some (.int .i64 fa) := c40
      have r41 : wr.drew.cell? ⟨w.heap.size, 1, none⟩ = some (.int .i64 fb) := c41
      have r50 : wr.drew.cell? ⟨w.heap.size + 1, 0, none⟩ = some (.int .i64 sa) := c50
      have r51 : wr.drew.cell? ⟨w.heap.size + 1, 1, none⟩ = some (.int .i64 sb) := c51
      have z40 := P4.out.f0 0
      have z41 := P4.out.f0 1
      have z50 := P5.out.f0 0
      have z51 := P5.out.f0 1
      go_region
      have Q4 := Lib.hid ((P4.out.put sa sb).other (k := w.heap.size + 1) (by omega) (.int .i64 (fa - qa)) (.int .i64 (fb - qb)))
      have Q5 := Lib.hid ((P5.out.other (k := w.heap.size) (by omega) (.int .i64 sa) (.int .i64 sb)).put (fa - qa) (fb - qb))
      have QB := Lib.hid (below_put2 (below_put2 HB.out (Nat.le_refl _) (.int .i64 sa) (.int .i64 sb)) (Nat.le_succ _) (.int .i64 (fa - qa)) (.int .i64 (fb - qb)))
      clear r40 r41 r50 r51 z40 z41 z50 z51 c40 c41 c50 c51 P4 P5 HB w1' w2' w3' w4' d1 d2 d3 d4
      generalize ((wr.setCell ⟨w.heap.size, 0, none⟩ (.int .i64 sa)).setCell ⟨w.heap.size, 1, none⟩ (.int .i64 sb)).setCell ⟨w.heap.size + 1, 0, none⟩ (.int .i64 (fa - qa)) = w5 at *
      generalize w5.setCell ⟨w.heap.size + 1, 1, none⟩ (.int .i64 (fb - qb)) = w6 at *
      have R4 : RowKit.Hid (Pair w6.drew w.heap.size sa sb) := Q4.out
      have R5 : RowKit.Hid (Pair w6.drew (w.heap.size + 1) (fa - qa) (fb - qb)) := Q5.out
      have RB : RowKit.Hid (Below w.heap.size w w6.drew) := QB.out.drew
      clear Q4 Q5 QB
      go_wp2
      go_roundw
      case rel => exact ⟨sa, sb, fa - qa, fb - qb, y, x - qy, rfl, rfl, Hst, R4, R5, RB⟩
      case measure => simp [intOf]; omega
    · have Hend := Lib.hid (Hi.out.done Hh.out)
      have z40 := P4.out.f0 0
      have z41 := P4.out.f0 1
      have z50 := P5.out.f0 0
      have z51 := P5.out.f0 1
      have r40 : wr.drew.cell? ⟨w.heap.size, 0, none⟩ = some (.int .i64 fa) := c40
      have r41 : wr.drew.cell? ⟨w.heap.size, 1, none⟩ = some (.int .i64 fb) := c41
      have r50 : wr.drew.cell? ⟨w.heap.size + 1, 0, none⟩ = some (.int .i64 sa) := c50
      have r51 : wr.drew.cell? ⟨w.heap.size + 1, 1, none⟩ = some (.int .i64 sb) := c51
      by_cases g1 : y + sa = 0
      case' pos =>
        have hz : y + sa ≤ 0 := by omega
      case' neg =>
        by_cases g2 : y + sb = 0
        case' pos =>
          have hz : 0 < y + sa := by omega
        case' neg =>
          have p1 : 0 < y + sa := by omega
          have p2 : 0 < y + sb := by omega
          have hz : (x + fa) / (y + sa) ≠ (x + fb) / (y + sb) := fun h => hgo ⟨g1, g2, h⟩
      all_goals
        clear hgo Hi
        go_wp2
      all_goals
        go_region
        have Q4 := Lib.hid ((P4.out.put fa fb).other (k := w.heap.size + 1) (by omega) (.int .i64 sa) (.int .i64 sb))
        have Q5 := Lib.hid ((P5.out.other (k := w.heap.size) (by omega) (.int .i64 fa) (.int .i64 fb)).put sa sb)
        have QB := Lib.hid (below_put2 (below_put2 HB.out (Nat.le_refl _) (.int .i64 fa) (.int .i64 fb)) (Nat.le_succ _) (.int .i64 sa) (.int .i64 sb))
        go_wp2
        refine bodyPost_ret (results_two rfl _ _ w.heap.size (w.heap.size + 1) 128 #[Value.int .i64 fa, Value.int .i64 fb] #[Value.int .i64 sa, Value.int .i64 sb] (0, 0) _ rfl rfl Q4.out Q5.out Tryz.underlying128 rfl mix_size mix_size) rfl ?_
        exact ⟨fa, fb, sa, sb, rfl, Hend.out, QB.out.drew⟩

end Go.Proofs.YtjpoolddgocbbaaGreatDoor

/- What package quo's nearer answers, as a contract over memory: two numbers further on in the divisions of two numbers by each other: the same greatest divisor, the second one less than it was. Conditions: both lists are the shortest ones, of at most 10^5 limbs; the first number has more than two limbs, the second one is not 0 and not above it. -/
namespace Go.Proofs.YtjpoolddgocbbaaGreatDoor.Limb

theorem gcd_cast {a b x y : Nat} (h : Int.gcd (x : Int) (y : Int) = Int.gcd (a : Int) (b : Int)) : gcdN x y = gcdN a b := by
  unfold gcdN; simpa [Int.gcd_natCast_natCast] using h

/-- The heads of two numbers, as far as the first one's highest 62 bits. -/
theorem heads_of {a b k : Nat} (hk : k + 62 = blen a) (hba : b ≤ a) : Heads ((a / 2 ^ k : Nat) : Int) ((b / 2 ^ k : Nat) : Int) (a : Int) (b : Int) ((2 ^ k : Nat) : Int) := by
  have hS : 0 < 2 ^ k := Nat.two_pow_pos k
  have h1 := Nat.div_mul_le_self a (2 ^ k)
  have h2 := Nat.lt_mul_div_succ a hS
  have h3 := Nat.div_mul_le_self b (2 ^ k)
  have h4 := Nat.lt_mul_div_succ b hS
  have h5 : a / 2 ^ k < 4611686018427387904 := by
    rw [Nat.div_lt_iff_lt_mul hS]
    have := blen_lt a
    rw [← hk, Nat.add_comm, Nat.pow_add] at this
    exact this
  have h6 : b / 2 ^ k ≤ a / 2 ^ k := Nat.div_le_div_right hba
  rw [Nat.mul_comm] at h2 h4
  generalize a / 2 ^ k = x at *
  generalize b / 2 ^ k = y at *
  generalize 2 ^ k = S at *
  refine ⟨by omega, ?_, ?_, ?_, ?_, by omega, by omega, by omega, by omega⟩
  · have : ((x * S : Nat) : Int) ≤ (a : Int) := by omega
    simpa using this
  · have : (a : Int) < (((x + 1) * S : Nat) : Int) := by omega
    simpa using this
  · have : ((y * S : Nat) : Int) ≤ (b : Int) := by omega
    simpa using this
  · have : (b : Int) < (((y + 1) * S : Nat) : Int) := by omega
    simpa using this

theorem head_small {a b k : Nat} (hk : k + 62 = blen a) (hba : b ≤ a) : b / 2 ^ k % 18446744073709551616 = b / 2 ^ k := by
  have h5 : b / 2 ^ k < 4611686018427387904 := by
    rw [Nat.div_lt_iff_lt_mul (Nat.two_pow_pos k)]
    have := blen_lt a
    rw [← hk, Nat.add_comm, Nat.pow_add] at this
    exact Nat.lt_of_le_of_lt hba this
  exact Nat.mod_eq_of_lt (by omega)

theorem blen_long {a : Nat} (h : 2 < (limbs a).length) : 65 ≤ blen a := by
  have h0 : a ≠ 0 := by intro e; rw [e, limbs_zero] at h; simp at h
  have h1 := length_limbs_pred h0
  have h2 : 4294967296 ^ 2 ≤ 4294967296 ^ ((limbs a).length - 1) := Nat.pow_le_pow_right (by decide) (by omega)
  have h3 := blen_lt a
  have h4 : 2 ^ 64 < 2 ^ blen a := Nat.lt_of_le_of_lt (Nat.le_trans (by decide) (Nat.le_trans h2 h1)) h3
  have := (Nat.pow_lt_pow_iff_right (by decide)).1 h4
  omega

end Go.Proofs.YtjpoolddgocbbaaGreatDoor.Limb
namespace Go.Proofs.YtjpoolddgocbbaaGreatDoor
open Go.RowKit Limb
set_option linter.unusedVariables false

theorem of_c2 (P Q : Int) {A A' : Option Addr} {n c n' c' a b L L' : Nat} {w : World} (hx : NN w A n c (limbs a) a L) (hy : NN w A' n' c' (limbs b) b L') (h1 : L ≤ 100000) (hba : b ≤ a) (hPQ : MixOk P Q) (v : Nat) (hv : P * (a : Int) + Q * (b : Int) = (v : Int)) (hva : v ≤ a) :
    Calls Tryz.prog 119 #[.agg #[.int .i64 P, .int .i64 Q], .slice A n c, .slice A' n' c'] w fun e w' => ∃ A2 n2 c2, e = .returned (.slice A2 n2 c2) ∧ NN w' A2 n2 c2 (limbs v) v L ∧ Below w.heap.size w w' := by
  have hn : n' ≤ n := by rw [← hx.isN.len, ← hy.isN.len]; exact length_limbs_mono hba
  have hv2 : v < 4294967296 ^ n := by
    have h := val_lt hx.isN.small
    rw [hx.val, hx.isN.len] at h
    omega
  refine (of_mix P Q A n c (limbs a) A' n' c' (limbs b) w hx.isN hy.isN (by have := hx.le; omega) hn hPQ v (by rw [val_limbs, val_limbs]; exact hv) hv2).mono ?_
  rintro e w' ⟨A2, n2, c2, rfl, how, hb⟩
  exact ⟨A2, n2, c2, rfl, NN.own how (Nat.lt_of_le_of_lt hva (lt_pow hx)), hb⟩

set_option maxHeartbeats 1000000 in
theorem nearer_c {A A' : Option Addr} {n c n' c' a b L : Nat} {w : World} (hx : NN w A n c (limbs a) a L) (hy : NN w A' n' c' (limbs b) b L) (h1 : L ≤ 100000) (h3 : 2 < n) (hb : b ≠ 0) (hba : b ≤ a) :
    Calls Tryz.prog 94 #[.slice A n c, .slice A' n' c'] w fun e w' => ∃ x y A1 n1 c1 A2 n2 c2, e = .returned (.tuple #[.slice A1 n1 c1, .slice A2 n2 c2]) ∧ NN w' A1 n1 c1 (limbs x) x L ∧ NN w' A2 n2 c2 (limbs y) y L ∧
      RowKit.Hid (y < b ∧ y ≤ x ∧ gcdN x y = gcdN a b) ∧ Below w.heap.size w w' := by
  have hbl : 65 ≤ blen a := blen_long (by rw [hx.isN.len]; exact h3)
  have hb32 := blen_NN hx
  obtain ⟨k, hk⟩ : ∃ k, k + 62 = blen a := ⟨blen a - 62, by omega⟩
  have hH := heads_of hk hba
  have hs1 := head_small hk (Nat.le_refl a)
  have hs2 := head_small hk hba
  obtain ⟨x0, hx0⟩ : ∃ x, x = a / 2 ^ k := ⟨_, rfl⟩
  obtain ⟨y0, hy0⟩ : ∃ x, x = b / 2 ^ k := ⟨_, rfl⟩
  rw [← hx0] at hH
  rw [← hy0] at hH
  replace hs1 := hs1.trans hx0.symm
  replace hs2 := hs2.trans hy0.symm
  have x62 : x0 < 4611686018427387904 := by have := hH.x62; omega
  have y62 : y0 < 4611686018427387904 := by have := hH.yx; omega
  obtain ⟨l, hl⟩ : ∃ l, l = blen a := ⟨_, rfl⟩
  have hlk : (l : Int) - 62 = (k : Int) := by omega
  have hkk : k ≤ 3200000 := by omega
  have Hl := Lib.hid hl.symm
  have HH := Lib.hid hH
  have Hs1 := Lib.hid hs1
  have Hs2 := Lib.hid hs2
  have Hb0 := Lib.hid hb
  have Hba := Lib.hid hba
  have hle1 := hx.le
  have hle2 := hy.le
  clear hk hH hs1 hs2 hx0 hy0 hl hbl hb hba hb32
  go_enter Tryz.func94, Tryz.ntmps94
  go_wp2_with fail
  refine (bits_c hx (by omega) (l : Int) (by rw [Hl.out])).mono ?_
  rintro e w1 ⟨rfl, rfl⟩
  go_wp2_with fail
  refine (head_any A n c (limbs a) w hx.isN (by omega) k _ (by omega) (by omega) x0 (by rw [val_limbs]; exact Hs1.out)).mono ?_
  rintro e w1 ⟨rfl, nd, rfl⟩
  have bn := below_drewN (Below.refl w.heap.size w) nd
  have hx1 := hx.below bn
  have hy1 := hy.below bn
  have bw := bn
  clear bn hx hy
  generalize w.drewN nd = w1 at *
  go_wp2_with fail
  refine (head_any A' n' c' (limbs b) w1 hy1.isN (by omega) k _ (by omega) (by omega) y0 (by rw [val_limbs]; exact Hs2.out)).mono ?_
  rintro e w2 ⟨rfl, nd, rfl⟩
  have bn := below_drewN (Below.refl w1.heap.size w1) nd
  have hx2 := hx1.below bn
  have hy2 := hy1.below bn
  replace bw := below_two bw bn
  clear bn hx1 hy1
  generalize w1.drewN nd = w2 at *
  go_wp2_with fail
  refine (sure_any (x0 : Int) (y0 : Int) (a : Int) (b : Int) _ HH.out w2).mono ?_
  rintro e w3 ⟨fa, fb, sa, sb, rfl, hE, bn⟩
  have HE := Lib.hid hE
  have hx3 := hx2.below bn
  have hy3 := hy2.below bn
  replace bw := below_two bw bn
  clear hE bn hx2 hy2
  have P7 : RowKit.Hid (Pair ((w3.alloc (.cells #[Value.int .i64 fa, Value.int .i64 fb] 128)).alloc (.cells #[Value.int .i64 sa, Value.int .i64 sb] 128)) w3.heap.size fa fb) := (pair_new w3 fa fb).below (below_new _ _)
  have P8 : RowKit.Hid (Pair ((w3.alloc (.cells #[Value.int .i64 fa, Value.int .i64 fb] 128)).alloc (.cells #[Value.int .i64 sa, Value.int .i64 sb] 128)) (w3.heap.size + 1) sa sb) := by
    have h := pair_new (w3.alloc (.cells #[Value.int .i64 fa, Value.int .i64 fb] 128)) sa sb
    have e : (w3.alloc (.cells #[Value.int .i64 fa, Value.int .i64 fb] 128)).heap.size = w3.heap.size + 1 := by simp
    rw [e] at h
    exact h
  have bn := below_two (below_new w3 (.cells #[Value.int .i64 fa, Value.int .i64 fb] 128)) (below_new _ (.cells #[Value.int .i64 sa, Value.int .i64 sb] 128))
  have hx4 := hx3.below bn
  have hy4 := hy3.below bn
  replace bw := below_two bw bn
  clear bn hx3 hy3
  by_cases hfb : fb = 0
  · subst hfb
    have c71 := P7.out.c1
    clear P7 P8
    go_wp2_with fail
    refine (quoRem_yes hx4 hy4 h1 h1 Hb0.out).mono ?_
    rintro e w5 ⟨A5, n5, c5, A6, n6, c6, rfl, hq, hr, bn⟩
    have HX := Lib.hid (hy4.below bn)
    have HY := Lib.hid hr
    have HW := Lib.hid (below_two bw bn)
    have HP : RowKit.Hid (a % b < b ∧ a % b ≤ b ∧ gcdN b (a % b) = gcdN a b) := ⟨Nat.mod_lt _ (Nat.pos_of_ne_zero Hb0.out), Nat.le_of_lt (Nat.mod_lt _ (Nat.pos_of_ne_zero Hb0.out)), gcdN_step rfl⟩
    clear hq hr bn bw hx4 hy4 c71
    go_wp2
    go_ret2
    exact ⟨b, a % b, _, _, _, _, _, _, rfl, HX.out, HY.out, HP, HW.out⟩
  · have hf1 : (fb != 0) = true := by simp [hfb]
    obtain ⟨v1, v2, v3, v4, v5, v6⟩ := HE.out hfb
    obtain ⟨x, hx⟩ := Int.eq_ofNat_of_zero_le (show 0 ≤ fa * (a : Int) + fb * (b : Int) by omega)
    obtain ⟨y, hy⟩ := Int.eq_ofNat_of_zero_le v1
    rw [hx, hy] at v4
    have HP : RowKit.Hid (y < b ∧ y ≤ x ∧ gcdN x y = gcdN a b) := ⟨by omega, by omega, gcd_cast v4⟩
    have hxa : x ≤ a := by have := Hba.out; omega
    have hya : y ≤ a := by have := Hba.out; omega
    have c70 := P7.out.c0
    have c71 := P7.out.c1
    have c80 := P8.out.c0
    have c81 := P8.out.c1
    have l7 := P7.out.lt
    have l8 := P8.out.lt
    have Hx := Lib.hid hx
    have Hy := Lib.hid hy
    have HX4 := Lib.hid hx4
    have HY4 := Lib.hid hy4
    have HW4 := Lib.hid bw
    clear hx hy v1 v2 v3 v4 P7 P8 HE hx4 hy4 bw
    go_wp2
    generalize (w3.alloc (.cells #[Value.int .i64 fa, Value.int .i64 fb] 128)).alloc (.cells #[Value.int .i64 sa, Value.int .i64 sb] 128) = w4 at *
    obtain ⟨g7, hg7⟩ : ∃ g, g = w3.heap.size := ⟨_, rfl⟩
    rw [← hg7] at c70 c71 c80 c81 l7 l8 ⊢
    clear hg7
    have Hc : RowKit.Hid (∀ wx, Below w4.heap.size w4 wx → wx.cell? ⟨g7, 0, none⟩ = some (.int .i64 fa) ∧ wx.cell? ⟨g7, 1, none⟩ = some (.int .i64 fb) ∧ wx.cell? ⟨g7 + 1, 0, none⟩ = some (.int .i64 sa) ∧ wx.cell? ⟨g7 + 1, 1, none⟩ = some (.int .i64 sb)) := fun wx hb =>
      ⟨(hb.cell (p := ⟨g7, 0, none⟩) l7).trans c70, (hb.cell (p := ⟨g7, 1, none⟩) l7).trans c71, (hb.cell (p := ⟨g7 + 1, 0, none⟩) l8).trans c80, (hb.cell (p := ⟨g7 + 1, 1, none⟩) l8).trans c81⟩
    have KA : RowKit.Hid (∀ wx, Below w4.heap.size w4 wx → (wx.cell? ⟨g7, 0, none⟩ = some (.int .i64 fa) ∧ wx.cell? ⟨g7, 1, none⟩ = some (.int .i64 fb) ∧ wx.cell? ⟨g7 + 1, 0, none⟩ = some (.int .i64 sa) ∧ wx.cell? ⟨g7 + 1, 1, none⟩ = some (.int .i64 sb) ∧ Below w4.heap.size w4 wx)) := fun wx hb =>
      ⟨(Hc.out wx hb).1, (Hc.out wx hb).2.1, (Hc.out wx hb).2.2.1, (Hc.out wx hb).2.2.2, hb⟩
    have KS : RowKit.Hid (∀ wx w2, (wx.cell? ⟨g7, 0, none⟩ = some (.int .i64 fa) ∧ wx.cell? ⟨g7, 1, none⟩ = some (.int .i64 fb) ∧ wx.cell? ⟨g7 + 1, 0, none⟩ = some (.int .i64 sa) ∧ wx.cell? ⟨g7 + 1, 1, none⟩ = some (.int .i64 sb) ∧ Below w4.heap.size w4 wx) → Below wx.heap.size wx w2 →
        (w2.cell? ⟨g7, 0, none⟩ = some (.int .i64 fa) ∧ w2.cell? ⟨g7, 1, none⟩ = some (.int .i64 fb) ∧ w2.cell? ⟨g7 + 1, 0, none⟩ = some (.int .i64 sa) ∧ w2.cell? ⟨g7 + 1, 1, none⟩ = some (.int .i64 sb) ∧ Below w4.heap.size w4 w2)) := fun wx w2 hS hb => KA.out w2 (below_two hS.2.2.2.2 hb)
    have K1 : RowKit.Hid (∀ wx, (wx.cell? ⟨g7, 0, none⟩ = some (.int .i64 fa) ∧ wx.cell? ⟨g7, 1, none⟩ = some (.int .i64 fb) ∧ wx.cell? ⟨g7 + 1, 0, none⟩ = some (.int .i64 sa) ∧ wx.cell? ⟨g7 + 1, 1, none⟩ = some (.int .i64 sb) ∧ Below w4.heap.size w4 wx) →
        Calls Tryz.prog 119 #[.agg #[.int .i64 fa, .int .i64 fb], .slice A n c, .slice A' n' c'] wx fun e w' => ∃ A2 n2 c2, e = .returned (.slice A2 n2 c2) ∧ NN w' A2 n2 c2 (limbs x) x L ∧ Below wx.heap.size wx w') := fun wx hS =>
      of_c2 fa fb (HX4.out.below hS.2.2.2.2) (HY4.out.below hS.2.2.2.2) h1 Hba.out v5 x Hx.out hxa
    have K2 : RowKit.Hid (∀ wx, (wx.cell? ⟨g7, 0, none⟩ = some (.int .i64 fa) ∧ wx.cell? ⟨g7, 1, none⟩ = some (.int .i64 fb) ∧ wx.cell? ⟨g7 + 1, 0, none⟩ = some (.int .i64 sa) ∧ wx.cell? ⟨g7 + 1, 1, none⟩ = some (.int .i64 sb) ∧ Below w4.heap.size w4 wx) →
        Calls Tryz.prog 119 #[.agg #[.int .i64 sa, .int .i64 sb], .slice A n c, .slice A' n' c'] wx fun e w' => ∃ A2 n2 c2, e = .returned (.slice A2 n2 c2) ∧ NN w' A2 n2 c2 (limbs y) y L ∧ Below wx.heap.size wx w') := fun wx hS =>
      of_c2 sa sb (HX4.out.below hS.2.2.2.2) (HY4.out.below hS.2.2.2.2) h1 Hba.out v6 y Hy.out hya
    have KF : RowKit.Hid (∀ wx, (wx.cell? ⟨g7, 0, none⟩ = some (.int .i64 fa) ∧ wx.cell? ⟨g7, 1, none⟩ = some (.int .i64 fb) ∧ wx.cell? ⟨g7 + 1, 0, none⟩ = some (.int .i64 sa) ∧ wx.cell? ⟨g7 + 1, 1, none⟩ = some (.int .i64 sb) ∧ Below w4.heap.size w4 wx) → Below w.heap.size w wx) := fun wx hS => below_two HW4.out hS.2.2.2.2
    clear c70 c71 c80 c81 v5 v6 l7 l8 HX4 HY4 HW4 Hc
    go_region_held3 (fun wx => wx.cell? ⟨g7, 0, none⟩ = some (.int .i64 fa) ∧ wx.cell? ⟨g7, 1, none⟩ = some (.int .i64 fb) ∧ wx.cell? ⟨g7 + 1, 0, none⟩ = some (.int .i64 sa) ∧ wx.cell? ⟨g7 + 1, 1, none⟩ = some (.int .i64 sb) ∧ Below w4.heap.size w4 wx) (first | assumption | exact KA.out _ ((Below.refl _ _).drew)) (first
      | (go_at_call 119; (with_reducible refine (K1.out _ (by assumption)).mono ?_); rintro e w2 ⟨A_x, n_x, c_x, rfl, h_x, bn_x⟩; have hS2 := KS.out _ _ (by assumption) bn_x)
      | (go_at_call 119; (with_reducible refine (K2.out _ (by assumption)).mono ?_); rintro e w2 ⟨A_y, n_y, c_y, rfl, h_y, bn_y⟩; have hS2 := KS.out _ _ (by assumption) bn_y))
    all_goals
      have HX := Lib.hid (h_x.below bn_y)
      have HY := Lib.hid h_y
      have HW := Lib.hid (KF.out _ hS2)
      clear h_x h_y bn_x bn_y
      go_wp2
      go_ret2
      exact ⟨x, y, _, _, _, _, _, _, rfl, HX.out, HY.out, HP, HW.out⟩

end Go.Proofs.YtjpoolddgocbbaaGreatDoor

/- What package quo's Gcd answers, as a contract over memory: the greatest divisor in common, in its shortest limbs. Conditions: both lists read as limbs, of at most 40000 of them. -/
namespace Go.Proofs.YtjpoolddgocbbaaGreatDoor
open Go.RowKit Limb
set_option linter.unusedVariables false

theorem gcdN_comm (a b : Nat) : gcdN a b = gcdN b a := Nat.gcd_comm a b

set_option maxHeartbeats 1000000 in
theorem quoGcd_c {A A' : Option Addr} {n c n' c' : Nat} {xs ys : List Nat} {a b L L' : Nat} {w : World} (hx : NN w A n c xs a L) (hy : NN w A' n' c' ys b L') (h1 : L ≤ 40000) (h2 : L' ≤ 40000) (K : Nat) (hK : gcdN a b < 4294967296 ^ K) :
    Calls Tryz.prog 67 #[.slice A n c, .slice A' n' c'] w fun e w' => ∃ A2 n2 c2, e = .returned (.slice A2 n2 c2) ∧ NN w' A2 n2 c2 (limbs (gcdN a b)) (gcdN a b) K ∧ Below w.heap.size w w' := by
  have r1 := Nat.lt_of_lt_of_le (lt_pow hx) (Nat.pow_le_pow_right (show 0 < 4294967296 by decide) (Nat.le_add_right L L'))
  have r2 := Nat.lt_of_lt_of_le (lt_pow hy) (Nat.pow_le_pow_right (show 0 < 4294967296 by decide) (Nat.le_add_left L' L))
  obtain ⟨g, hg⟩ : ∃ g, gcdN a b = g := ⟨_, rfl⟩
  obtain ⟨M, hM⟩ : ∃ M, M = L + L' := ⟨_, rfl⟩
  have hM2 : M ≤ 80000 := by omega
  rw [← hM] at r1 r2
  rw [hg] at hK ⊢
  have R1 := Lib.hid r1
  have R2 := Lib.hid r2
  have HK := Lib.hid hK
  have Hg := Lib.hid hg
  clear r1 r2 hM hK hg
  go_enter Tryz.func67, Tryz.ntmps67
  go_wp2_with fail
  refine (trim_c hx (by omega)).mono ?_
  rintro e w1 ⟨A1, n1, c1, rfl, hx1, bn⟩
  have hy1 := hy.below bn
  have bw := bn
  clear hx hy bn
  go_wp2_with fail
  refine (trim_c hy1 (by omega)).mono ?_
  rintro e w2 ⟨A2, n2, c2, rfl, hy2, bn⟩
  have hx2 := (hx1.below bn).relax R1.out
  replace hy2 := hy2.relax R2.out
  replace bw := below_two bw bn
  clear bn hx1 hy1 R1 R2
  by_cases hlt : a < b
  case' pos =>
    have Hv := Lib.hid (cmpI_lt hlt)
    have Hr : RowKit.Hid (a ≤ b ∧ gcdN b a = g) := ⟨Nat.le_of_lt hlt, by rw [gcdN_comm]; exact Hg.out⟩
    clear hlt Hg
    go_wp2_with fail
    refine (cmp_c hx2 hy2 (by omega) (by omega) (-1) Hv.out).mono ?_
    rintro e w3 ⟨rfl, bn⟩
    have HX := Lib.hid (hy2.below bn)
    have HY := Lib.hid (hx2.below bn)
  case' neg =>
    obtain ⟨v, hv, hv0⟩ : ∃ v, cmpI a b = v ∧ 0 ≤ v := by
      rcases Nat.lt_trichotomy a b with h | h | h
      · exact absurd h hlt
      · exact ⟨0, by rw [h]; exact cmpI_eq _, by omega⟩
      · exact ⟨1, cmpI_gt h, by omega⟩
    have Hv := Lib.hid hv
    have Hr : RowKit.Hid (b ≤ a ∧ gcdN a b = g) := ⟨Nat.le_of_not_lt hlt, Hg.out⟩
    clear hlt hv Hg
    go_wp2_with fail
    refine (cmp_c hx2 hy2 (by omega) (by omega) v Hv.out).mono ?_
    rintro e w3 ⟨rfl, bn⟩
    have HX := Lib.hid (hx2.below bn)
    have HY := Lib.hid (hy2.below bn)
  all_goals
    have HW := Lib.hid (below_two bw bn)
    clear hx2 hy2 bn bw Hv
    go_wp2
    go_loopw [0, 1] (fun xv yv wr => ∃ (x y : Nat) (A1 : Option Addr) (n1 c1 : Nat) (A2 : Option Addr) (n2 c2 : Nat), xv = .slice A1 n1 c1 ∧ yv = .slice A2 n2 c2 ∧ RowKit.Hid (y ≤ x ∧ gcdN x y = g) ∧ RowKit.Hid (NN wr A1 n1 c1 (limbs x) x M) ∧ RowKit.Hid (NN wr A2 n2 c2 (limbs y) y M) ∧ RowKit.Hid (Below w.heap.size w wr)) (fun _ yv wr => readN wr yv)
    case atStart => exact ⟨_, _, _, _, _, _, _, _, rfl, rfl, Hr, HX, HY, HW⟩
    case round =>
      clear Hr HX HY HW
      obtain ⟨x, y, A1, n1, c1, A2, n2, c2, rfl, rfl, Hr, HX, HY, HW⟩ := hrel
      by_cases h0 : y = 0
      · subst h0
        have hn0 : n2 = 0 := by have := HY.out.isN.len; rw [limbs_zero] at this; exact this.symm
        subst hn0
        have HG := Lib.hid (gcdN_end Hr.out.2)
        go_wp2
        go_ret
        exact ⟨A1, n1, c1, rfl, by rw [← HG.out]; exact HX.out.relax (by rw [HG.out]; exact HK.out), HW.out⟩
      · have hpos : 0 < n2 := by
          have h := HY.out.isN.len
          rw [limbs_pos h0] at h
          simp at h
          omega
        have H0 := Lib.hid h0
        have hx := HX.out
        have hy := HY.out
        clear h0
        by_cases hn : 2 < n1
        · go_wp2_with fail
          refine (nearer_c hx hy (by omega) hn H0.out Hr.out.1).mono ?_
          rintro e w4 ⟨x', y', A3, n3, c3, A4, n4, c4, rfl, h3, h4, Hp, bn⟩
          have HX2 := Lib.hid h3
          have HY2 := Lib.hid h4
          have HW2 := Lib.hid (below_two HW.out bn)
          have HR2 : RowKit.Hid (y' ≤ x' ∧ gcdN x' y' = g) := ⟨Hp.out.2.1, Hp.out.2.2.trans Hr.out.2⟩
          have HM : RowKit.Hid (readN w4 (.slice A4 n4 c4) < readN wr (.slice A2 n2 c2)) := by
            show _ < _
            rw [readN_eq h4.isN, readN_eq hy.isN, val_limbs, val_limbs]
            exact Hp.out.1
          clear hx hy h3 h4 bn HX HY HW Hr Hp
          go_wp2
          go_roundw
          case rel => exact ⟨x', y', A3, n3, c3, A4, n4, c4, rfl, rfl, HR2, HX2, HY2, HW2⟩
          case measure => exact HM.out
        · have hx64 : x < 18446744073709551616 := by
            have h := val_lt hx.isN.small
            rw [hx.val, hx.isN.len] at h
            have h2 : 4294967296 ^ n1 ≤ 4294967296 ^ 2 := Nat.pow_le_pow_right (by decide) (by omega)
            exact Nat.lt_of_lt_of_le h h2
          have hy64 : y < 18446744073709551616 := Nat.lt_of_le_of_lt Hr.out.1 hx64
          have Hx1 : RowKit.Hid (val (limbs x) / 2 ^ 0 % 18446744073709551616 = x) := by show _ = _; rw [val_limbs, Nat.pow_zero, Nat.div_one, Nat.mod_eq_of_lt hx64]
          have Hy1 : RowKit.Hid (val (limbs y) / 2 ^ 0 % 18446744073709551616 = y) := by show _ = _; rw [val_limbs, Nat.pow_zero, Nat.div_one, Nat.mod_eq_of_lt hy64]
          have hg64 : g < 18446744073709551616 := by
            rw [← Hr.out.2]
            exact Nat.lt_of_le_of_lt (Nat.gcd_le_right _ (Nat.pos_of_ne_zero H0.out)) hy64
          have hl1 := hx.le
          have hl2 := hy.le
          have hn2 : n1 ≤ 2 := by omega
          clear HX HY hn
          go_wp2_with fail
          refine (head_any A1 n1 c1 (limbs x) wr hx.isN (by omega) 0 _ rfl (by omega) x Hx1.out).mono ?_
          rintro e w4 ⟨rfl, nd, rfl⟩
          have bn := below_drewN (Below.refl wr.heap.size wr) nd
          have hy3 := hy.below bn
          have bw := below_two HW.out bn
          clear bn hx hy
          generalize wr.drewN nd = w4 at *
          go_wp2_with fail
          refine (head_any A2 n2 c2 (limbs y) w4 hy3.isN (by omega) 0 _ rfl (by omega) y Hy1.out).mono ?_
          rintro e w5 ⟨rfl, nd, rfl⟩
          have bn := below_drewN (Below.refl w4.heap.size w4) nd
          replace bw := below_two bw bn
          clear bn hy3
          generalize w4.drewN nd = w5 at *
          go_wp2_with fail
          refine (gcdSmall_any x y _ _ rfl rfl w5 hx64 hy64 g Hr.out.2).mono ?_
          rintro e w6 ⟨rfl, bn⟩
          replace bw := below_two bw bn
          clear bn
          go_wp2_with fail
          refine (of_c g _ rfl hg64 w6).mono ?_
          rintro e w7 ⟨A7, n7, c7, rfl, ho, bn⟩
          have HO := Lib.hid (ho.relax HK.out)
          replace bw := below_two bw bn
          clear bn ho
          go_wp2
          go_ret
          exact ⟨_, _, _, rfl, HO.out, bw⟩

end Go.Proofs.YtjpoolddgocbbaaGreatDoor

/- Two structs of a sign and a slice that two calls answer and that go to two new variables ('x, y := f(..), g(..)'): Go leaves open when the variables are made; whatever the order, both boxes hold the answers. No condition. -/
namespace Go.Proofs.YtjpoolddgocbbaaGreatDoor
open Go.RowKit Limb
set_option linter.unusedVariables false

/-- A new box of the zero struct. -/
abbrev zbox : Obj := .cells #[Value.bool false, Value.slice none 0 0] 26
/-- The box at g holds the zero struct. -/
def ZB (w : World) (g : Nat) : Prop := Row2 w g 26 (.bool false) (.slice none 0 0)

theorem zb1 {w w' : World} (bn : Below (w.alloc zbox).heap.size (w.alloc zbox) w') : ZB w' w.heap.size := (row2_new w _ _ _).below bn
theorem zb1d {w w' : World} (bn : Below (w.alloc zbox).drew.heap.size (w.alloc zbox).drew w') : ZB w' w.heap.size := Row2.below (w := (w.alloc zbox).drew) (row2_new w _ _ _) bn
theorem zb2 {w w' : World} (bn : Below ((w.alloc zbox).alloc zbox).heap.size ((w.alloc zbox).alloc zbox) w') : ZB w' w.heap.size ∧ ZB w' (w.heap.size + 1) := by
  refine ⟨Row2.below (w := (w.alloc zbox).alloc zbox) ((row2_new w _ _ _).below (below_new _ _)) bn, ?_⟩
  have h := Row2.below (row2_new (w.alloc zbox) 26 (.bool false) (.slice none 0 0)) bn
  rw [World.size_alloc] at h
  exact h
theorem zb2d {w w' : World} (bn : Below ((w.alloc zbox).alloc zbox).drew.heap.size ((w.alloc zbox).alloc zbox).drew w') : ZB w' w.heap.size ∧ ZB w' (w.heap.size + 1) := by
  refine ⟨Row2.below (w := ((w.alloc zbox).alloc zbox).drew) (g := w.heap.size) (show Row2 ((w.alloc zbox).alloc zbox) w.heap.size 26 (.bool false) (.slice none 0 0) from (row2_new w _ _ _).below (below_new _ _)) bn, ?_⟩
  have h := Row2.below (w := ((w.alloc zbox).alloc zbox).drew) (g := (w.alloc zbox).heap.size) (row2_new (w.alloc zbox) 26 (.bool false) (.slice none 0 0)) bn
  rw [World.size_alloc] at h
  exact h
theorem ZB.below {w w' : World} {g : Nat} (h : ZB w g) (hb : Below w.heap.size w w') : ZB w' g := Row2.below h hb
theorem ZB.lt {w : World} {g : Nat} (h : ZB w g) : g < w.heap.size := Row2.lt h
theorem ZB.cells {w : World} {g : Nat} (h : ZB w g) : w.cell? ⟨g, 0, none⟩ = some (.bool false) ∧ w.cell? ⟨g, 1, none⟩ = some (.slice none 0 0) ∧ w.frozen? ⟨g, 0, none⟩ = false ∧ w.frozen? ⟨g, 1, none⟩ = false := ⟨h.c0, h.c1, h.free 0, h.free 1⟩

theorem ZB.apart {w : World} {g : Nat} (h : ZB w g) : w.heap.size ≠ g ∧ w.heap.size + 1 ≠ g := by have := h.lt; omega
theorem ZZ.put {w : World} {s : Bool} {A : Option Addr} {n c : Nat} {xs : List Nat} {z : Int} {L g : Nat} (h : ZZ w s A n c xs z L) (hb : ZB w g) (u v : Value) : ZZ ((w.setCell ⟨g, 0, none⟩ u).setCell ⟨g, 1, none⟩ v) s A n c xs z L := ⟨h.nn.put2 hb u v, h.sgn⟩
theorem Row2.far {w : World} {g g' : Nat} {T : TypeId} {u v : Value} (h : Row2 w g' T u v) (hne : g ≠ g') (x y : Value) : Row2 ((w.setCell ⟨g, 0, none⟩ x).setCell ⟨g, 1, none⟩ y) g' T u v := by
  unfold Row2 at h ⊢
  simp only [World.setCell, Array.getElem?_modify]
  rw [if_neg hne, if_neg hne]
  exact h
theorem Row2.filled {w : World} {g : Nat} {T : TypeId} {u v : Value} (h : Row2 w g T u v) (x y : Value) : Row2 ((w.setCell ⟨g, 0, none⟩ x).setCell ⟨g, 1, none⟩ y) g T x y := h.fill x y

section
variable {wP w : World} {q r : Nat} {s : Bool} {A : Option Addr} {n c : Nat} {xs : List Nat} {z : Int} {L : Nat} {s' : Bool} {A' : Option Addr} {n' c' : Nat} {xs' : List Nat} {z' : Int} {L' : Nat}

/-- Both boxes hold the answers. -/
structure Two (wP wx : World) (q r : Nat) (s : Bool) (A : Option Addr) (n c : Nat) (xs : List Nat) (z : Int) (L : Nat) (s' : Bool) (A' : Option Addr) (n' c' : Nat) (xs' : List Nat) (z' : Int) (L' : Nat) : Prop where
  q : Row2 wx q 26 (.bool s) (.slice A n c)
  r : Row2 wx r 26 (.bool s') (.slice A' n' c')
  z : ZZ wx s A n c xs z L
  z' : ZZ wx s' A' n' c' xs' z' L'
  b : Below wP.heap.size wP wx

/-- Both variables were made ahead of the second call. -/
theorem two_pp (hz : ZZ w s A n c xs z L) (hz' : ZZ w s' A' n' c' xs' z' L') (hb : Below wP.heap.size wP w) (h1 : ZB w q) (h2 : ZB w r) (hne : q ≠ r) (hq : wP.heap.size ≤ q) (hr : wP.heap.size ≤ r) :
    Two wP ((((w.setCell ⟨q, 0, none⟩ (.bool s)).setCell ⟨q, 1, none⟩ (.slice A n c)).setCell ⟨r, 0, none⟩ (.bool s')).setCell ⟨r, 1, none⟩ (.slice A' n' c')) q r s A n c xs z L s' A' n' c' xs' z' L' := by
  have h3 : ZB ((w.setCell ⟨q, 0, none⟩ (.bool s)).setCell ⟨q, 1, none⟩ (.slice A n c)) r := Row2.far h2 hne _ _
  exact ⟨(Row2.filled h1 _ _).far (Ne.symm hne) _ _, Row2.filled h3 _ _, (hz.put h1 _ _).put h3 _ _, (hz'.put h1 _ _).put h3 _ _, (((hb.setCell (p := ⟨q, 0, none⟩) hq _).setCell (p := ⟨q, 1, none⟩) hq _).setCell (p := ⟨r, 0, none⟩) hr _).setCell (p := ⟨r, 1, none⟩) hr _⟩
theorem size_set2 (w : World) (q : Nat) (u v : Value) : ((w.setCell ⟨q, 0, none⟩ u).setCell ⟨q, 1, none⟩ v).heap.size = w.heap.size := by simp [World.setCell]
/-- The first one ahead, the second one behind. -/
theorem two_pl (hz : ZZ w s A n c xs z L) (hz' : ZZ w s' A' n' c' xs' z' L') (hb : Below wP.heap.size wP w) (h1 : ZB w q) (hq : wP.heap.size ≤ q) :
    Two wP (((w.setCell ⟨q, 0, none⟩ (.bool s)).setCell ⟨q, 1, none⟩ (.slice A n c)).alloc (.cells #[Value.bool s', Value.slice A' n' c'] 26)) q w.heap.size s A n c xs z L s' A' n' c' xs' z' L' := by
  have b := below_new ((w.setCell ⟨q, 0, none⟩ (.bool s)).setCell ⟨q, 1, none⟩ (.slice A n c)) (.cells #[Value.bool s', Value.slice A' n' c'] 26)
  have h2 := row2_new ((w.setCell ⟨q, 0, none⟩ (.bool s)).setCell ⟨q, 1, none⟩ (.slice A n c)) 26 (.bool s') (.slice A' n' c')
  rw [size_set2] at h2
  exact ⟨(Row2.filled h1 _ _).below b, h2, (hz.put h1 _ _).below b, (hz'.put h1 _ _).below b, below_two ((hb.setCell (p := ⟨q, 0, none⟩) hq _).setCell (p := ⟨q, 1, none⟩) hq _) b⟩
/-- The second one ahead, the first one behind. -/
theorem two_lp (hz : ZZ w s A n c xs z L) (hz' : ZZ w s' A' n' c' xs' z' L') (hb : Below wP.heap.size wP w) (h2 : ZB w r) (hr : wP.heap.size ≤ r) :
    Two wP (((w.setCell ⟨r, 0, none⟩ (.bool s')).setCell ⟨r, 1, none⟩ (.slice A' n' c')).alloc (.cells #[Value.bool s, Value.slice A n c] 26)) w.heap.size r s A n c xs z L s' A' n' c' xs' z' L' := by
  have b := below_new ((w.setCell ⟨r, 0, none⟩ (.bool s')).setCell ⟨r, 1, none⟩ (.slice A' n' c')) (.cells #[Value.bool s, Value.slice A n c] 26)
  have h1 := row2_new ((w.setCell ⟨r, 0, none⟩ (.bool s')).setCell ⟨r, 1, none⟩ (.slice A' n' c')) 26 (.bool s) (.slice A n c)
  rw [size_set2] at h1
  exact ⟨h1, (Row2.filled h2 _ _).below b, (hz.put h2 _ _).below b, (hz'.put h2 _ _).below b, below_two ((hb.setCell (p := ⟨r, 0, none⟩) hr _).setCell (p := ⟨r, 1, none⟩) hr _) b⟩
/-- Both behind. -/
theorem two_ll (hz : ZZ w s A n c xs z L) (hz' : ZZ w s' A' n' c' xs' z' L') (hb : Below wP.heap.size wP w) :
    Two wP ((w.alloc (.cells #[Value.bool s, Value.slice A n c] 26)).alloc (.cells #[Value.bool s', Value.slice A' n' c'] 26)) w.heap.size (w.heap.size + 1) s A n c xs z L s' A' n' c' xs' z' L' := by
  have b1 := below_new w (.cells #[Value.bool s, Value.slice A n c] 26)
  have b2 := below_new (w.alloc (.cells #[Value.bool s, Value.slice A n c] 26)) (.cells #[Value.bool s', Value.slice A' n' c'] 26)
  have h2 := row2_new (w.alloc (.cells #[Value.bool s, Value.slice A n c] 26)) 26 (.bool s') (.slice A' n' c')
  rw [World.size_alloc] at h2
  exact ⟨(row2_new w _ _ _).below b2, h2, (hz.below b1).below b2, (hz'.below b1).below b2, below_two (below_two hb b1) b2⟩
theorem two_ll' (hz : ZZ w s A n c xs z L) (hz' : ZZ w s' A' n' c' xs' z' L') (hb : Below wP.heap.size wP w) :
    Two wP ((w.alloc (.cells #[Value.bool s', Value.slice A' n' c'] 26)).alloc (.cells #[Value.bool s, Value.slice A n c] 26)) (w.heap.size + 1) w.heap.size s A n c xs z L s' A' n' c' xs' z' L' :=
  let h := two_ll hz' hz hb
  ⟨h.r, h.q, h.z', h.z, h.b⟩
end

end Go.Proofs.YtjpoolddgocbbaaGreatDoor

/- Rational numbers in memory: a struct of a sign and two lists of limbs that reads as a number, or as none. No condition. -/
namespace Go.Proofs.YtjpoolddgocbbaaGreatDoor
open Go.RowKit Limb
set_option linter.unusedVariables false

theorem NN.short {w : World} {A : Option Addr} {n c : Nat} {xs : List Nat} {a L K : Nat} (h : NN w A n c xs a L) (hK : n ≤ K) : NN w A n c xs a K := ⟨h.isN, h.val, h.cap, hK⟩
/-- A sign and two slices read as the number o, or as none that may be. -/
structure QQ (w : World) (s : Bool) (A : Option Addr) (n c : Nat) (xs : List Nat) (B : Option Addr) (m d : Nat) (ys : List Nat) (o : Option Rat) (L : Nat) : Prop where
  top : ZZ w s A n c xs (zOf s (Limb.val xs)) L
  bot : NN w B m d ys (Limb.val ys) L
  rd : readQ s xs ys = o
theorem QQ.below {w w' : World} {s : Bool} {A : Option Addr} {n c : Nat} {xs : List Nat} {B : Option Addr} {m d : Nat} {ys : List Nat} {o : Option Rat} {L : Nat} (h : QQ w s A n c xs B m d ys o L) (hb : Below w.heap.size w w') : QQ w' s A n c xs B m d ys o L :=
  ⟨h.top.below hb, h.bot.below hb, h.rd⟩
/-- What is told: a number in the shortest limbs, or 0 and nothing. -/
abbrev QT (w : World) (A : Option Addr) (n c : Nat) (B : Option Addr) (m d : Nat) (o : Option Rat) : Prop :=
  QQ w (sg (oTop o)) A n c (limbs (oTop o).natAbs) B m d (limbs (oBot o)) o 64
theorem qt_some {w : World} {A : Option Addr} {n c : Nat} {B : Option Addr} {m d : Nat} {q : Rat} {L L' : Nat} (hz : ZZ w (sg q.num) A n c (limbs q.num.natAbs) q.num L) (hn : NN w B m d (limbs q.den) q.den L') (hf : fitsQ q = true) : QT w A n c B m d (some q) := by
  have h2 := hf
  simp only [fitsQ, Bool.and_eq_true, decide_eq_true_eq] at h2
  refine ⟨?_, ?_, readQ_told hf⟩
  · show ZZ w (sg q.num) A n c (limbs q.num.natAbs) (zOf (sg q.num) (Limb.val (limbs q.num.natAbs))) 64
    rw [val_limbs, zOf_sg]
    exact ⟨hz.nn.relax h2.1, hz.sgn⟩
  · show NN w B m d (limbs q.den) (Limb.val (limbs q.den)) 64
    rw [val_limbs]
    exact hn.relax h2.2
theorem qt_none (w : World) (c d : Nat) : QT w none 0 0 none 0 0 none := by
  have e1 : limbs (oTop none).natAbs = [] := limbs_zero
  have e2 : limbs (oBot none) = [] := limbs_zero
  refine ⟨?_, ?_, readQ_no goodV_none⟩
  · rw [e1]; exact ⟨⟨IsN.nil _ _, rfl, Nat.le_refl _, Nat.zero_le _⟩, rfl⟩
  · rw [e2]; exact ⟨IsN.nil _ _, rfl, Nat.le_refl _, Nat.zero_le _⟩
/-- Of what may be, the top and the bottom. -/
theorem QQ.some {w : World} {s : Bool} {A : Option Addr} {n c : Nat} {xs : List Nat} {B : Option Addr} {m d : Nat} {ys : List Nat} {q : Rat} {L : Nat} (h : QQ w s A n c xs B m d ys (some q) L) :
    s = sg q.num ∧ xs = limbs q.num.natAbs ∧ ys = limbs q.den ∧ fitsQ q = true ∧ ZZ w s A n c xs q.num 64 ∧ NN w B m d ys q.den 64 ∧ goodV s xs ys = true := by
  have hg : goodV s xs ys = true := by
    cases h2 : goodV s xs ys with
    | true => rfl
    | false => have := h.rd; rw [readQ_no h2] at this; cases this
  obtain ⟨q', e, h1, h2, h3, h4, h5, h6⟩ := readQ_yes hg
  have := h.rd
  rw [e] at this
  injection this with this
  subst this
  have hf := h4
  simp only [fitsQ, Bool.and_eq_true, decide_eq_true_eq] at hf
  refine ⟨h1, h2, h3, h4, ?_, ?_, hg⟩
  · have ht := h.top
    rw [← h5] at ht
    refine ⟨?_, ht.sgn⟩
    have hn := ht.nn
    rw [h2] at hn ⊢
    exact hn.relax hf.1
  · have hb := h.bot
    rw [← h6] at hb
    rw [h3] at hb ⊢
    exact hb.relax hf.2
theorem QQ.none {w : World} {s : Bool} {A : Option Addr} {n c : Nat} {xs : List Nat} {B : Option Addr} {m d : Nat} {ys : List Nat} {L : Nat} (h : QQ w s A n c xs B m d ys none L) : goodV s xs ys = false := by
  cases h2 : goodV s xs ys with
  | false => rfl
  | true =>
    obtain ⟨q', e, _⟩ := readQ_yes h2
    have := h.rd
    rw [e] at this
    cases this
theorem QQ.good {w : World} {s : Bool} {A : Option Addr} {n c : Nat} {xs : List Nat} {B : Option Addr} {m d : Nat} {ys : List Nat} {o : Option Rat} {L : Nat} (h : QQ w s A n c xs B m d ys o L) : goodV s xs ys = o.isSome := by
  cases o with
  | none => exact h.none
  | some q => exact h.some.2.2.2.2.2.2
/-- Two that are told are alike just if they are one. -/
theorem keepQ {o o' : Option Rat} (h : o = o') : (decide (sg (oTop o) = sg (oTop o')) && same (limbs (oTop o).natAbs) (limbs (oTop o').natAbs) && same (limbs (oBot o)) (limbs (oBot o'))) = true := by
  subst h; rw [same_self, same_self]; simp
theorem keepQ_ne {p q : Rat} (h : p ≠ q) : (decide (sg p.num = sg q.num) && same (limbs p.num.natAbs) (limbs q.num.natAbs) && same (limbs p.den) (limbs q.den)) = false := by
  by_cases h1 : p.num = q.num
  · have h2 : p.den ≠ q.den := fun e => h (Rat.ext h1 e)
    rw [same_limbs_ne h2]; simp
  · have e : (decide (sg p.num = sg q.num) && same (limbs p.num.natAbs) (limbs q.num.natAbs)) = false := by
      by_cases h3 : p.num.natAbs = q.num.natAbs
      · have : sg p.num ≠ sg q.num := by
          intro e
          apply h1
          rw [← zOf_sg (z := p.num), ← zOf_sg (z := q.num), e, h3]
        simp [this]
      · rw [same_limbs_ne h3]; simp
    rw [e]; rfl

end Go.Proofs.YtjpoolddgocbbaaGreatDoor

/- Mathematics of what calls on rational numbers tell: a number or none, and the error beside it. No condition. -/
namespace Go.Proofs.YtjpoolddgocbbaaGreatDoor
open Go.RowKit Limb
set_option linter.unusedVariables false

theorem whole_fits {v : Int} (h0 : -9223372036854775808 ≤ v) (h1 : v ≤ 9223372036854775807) : fitsQ (v : Rat) = true := by
  simp only [fitsQ, Bool.and_eq_true, decide_eq_true_eq]
  have e : (4294967296 : Nat) ^ 2 ≤ 4294967296 ^ 64 := Nat.pow_le_pow_right (by decide) (by decide)
  have e1 : ((v : Rat)).num = v := rfl
  have e2 : ((v : Rat)).den = 1 := rfl
  rw [e1, e2]
  omega
theorem neg_fits {q : Rat} (h : fitsQ q = true) : fitsQ (-q) = true := by
  unfold fitsQ at h ⊢
  rw [(neg_top q).1, (neg_top q).2, Int.natAbs_neg]; exact h
/-- What a call on two numbers tells: of what may not be nothing, and the error 1. -/
def opR (f : Rat → Rat → Option Rat × Int) : Option Rat → Option Rat → Option Rat × Int
  | some p, some q => f p q
  | _, _ => (none, 1)
def limR (q : Rat) : Option Rat × Int := (limQ q, limE q)
def addR : Option Rat → Option Rat → Option Rat × Int := opR fun p q => limR (p + q)
def subR : Option Rat → Option Rat → Option Rat × Int := opR fun p q => limR (p - q)
def mulR : Option Rat → Option Rat → Option Rat × Int := opR fun p q => limR (p * q)
def divR : Option Rat → Option Rat → Option Rat × Int := opR fun p q => if q.num = 0 then (none, 3) else limR (p / q)
def ofR (x : Int) (b : Nat) : Option Rat × Int := if b = 0 then (none, 3) else limR (mkRat x b)
def cmpR : Option Rat → Option Rat → Int
  | some p, some q => cmpQ p q
  | _, _ => 0
def sameR (o o' : Option Rat) : Bool := o.isSome && decide (o = o')
theorem limR_yes {q : Rat} (h : fitsQ q = true) : limR q = (some q, 0) := by unfold limR; rw [limQ_yes h, limE_yes h]
theorem limR_fits {q : Rat} {k l : Nat} (h : Bd q k l) (hk : k ≤ 64) (hl : l ≤ 64) : limR q = (some q, 0) := limR_yes (h.fits hk hl)

theorem sub_mk (p q : Rat) : p - q = mkRat (p.num * (q.den : Int) + -(q.num * (p.den : Int))) (p.den * q.den) := by
  rw [Rat.sub_eq_add_neg, add_mk, (neg_top q).1, (neg_top q).2, Int.neg_mul]
theorem den_pos (q : Rat) : (0 : Int) < (q.den : Int) := by have := q.den_nz; omega
theorem sg_mul_den (z : Int) (q : Rat) : sg (z * (q.den : Int)) = sg z := by
  have h := den_pos q
  rcases Int.lt_trichotomy z 0 with h1 | h1 | h1
  · rw [sg_neg h1, sg_neg (Int.mul_neg_of_neg_of_pos h1 h)]
  · subst h1; rw [Int.zero_mul]
  · rw [sg_pos (Int.le_of_lt h1), sg_pos (Int.le_of_lt (Int.mul_pos h1 h))]
theorem zz_turn {s : Bool} {a : Nat} {x : Int} (h : zOf s a = x) : zOf (!s) a = -x := by
  subst h; cases s <;> simp [zOf]
theorem zz_sg (x : Int) : zOf (sg x) x.natAbs = x := by
  unfold zOf sg
  by_cases h : x < 0
  · simp [h]; omega
  · simp [h]; omega
/-- A quotient out of both products over the cross. -/
theorem div_cross {p q : Rat} (h : q.num ≠ 0) : mkRat (zOf (sg (p.num * (q.den : Int)) != sg (q.num * (p.den : Int))) (p.num * (q.den : Int)).natAbs) (q.num * (p.den : Int)).natAbs = p / q := by
  rw [div_mk h, sg_mul_den q.num p]
  congr 1
  · cases hs : sg q.num with
    | false => rw [Bool.bne_false, zz_sg]; unfold zOf; simp
    | true => rw [Bool.bne_true, zz_turn (zz_sg _)]; unfold zOf; simp [Int.mul_neg]
  · rw [Int.natAbs_mul, Int.natAbs_natCast, Nat.mul_comm]
theorem cross_zero {p q : Rat} : (q.num * (p.den : Int)).natAbs = 0 ↔ q.num = 0 := by
  rw [Int.natAbs_eq_zero, Int.mul_eq_zero]
  have := den_pos p
  constructor
  · rintro (h | h)
    · exact h
    · omega
  · exact .inl
/-- A top without the divisors in common: its sign stays. -/
theorem zz_div {s : Bool} {x : Int} {b : Nat} (hs : zOf s x.natAbs = x) (hb : b ≠ 0) : zOf s (x.natAbs / Nat.gcd x.natAbs b) = (mkRat x b).num := by
  obtain ⟨m1, m2⟩ := mk_num (x := x) hb
  rw [← m1]
  by_cases h0 : x = 0
  · have e : (mkRat x b).num.natAbs = 0 := by rw [m1, h0]; simp
    rw [e]
    have : (mkRat x b).num = 0 := by omega
    rw [this]; unfold zOf; split <;> rfl
  · have e : s = sg x := by
      cases s with
      | true => symm; apply sg_neg; unfold zOf at hs; rw [if_pos rfl] at hs; omega
      | false => symm; apply sg_pos; unfold zOf at hs; rw [if_neg (by decide)] at hs; omega
    rw [e, ← m2, zz_sg]
theorem ZZ.zo {w : World} {s : Bool} {A : Option Addr} {n c : Nat} {xs : List Nat} {x : Int} {L : Nat} (h : ZZ w s A n c xs x L) : zOf s x.natAbs = x := h.sgn.symm
theorem zz_pos {w : World} {B : Option Addr} {m d : Nat} {ys : List Nat} {b L : Nat} (h : NN w B m d ys b L) : ZZ w false B m d ys (b : Int) L := ⟨by rw [Int.natAbs_natCast]; exact h, by simp⟩
theorem zz_none (w : World) : ZZ w false none 0 0 [] 0 0 := ⟨⟨IsN.nil _ _, rfl, Nat.le_refl _, Nat.zero_le _⟩, rfl⟩

theorem len_fits (a : Nat) : (limbs a).length ≤ 64 ↔ a < 4294967296 ^ 64 := by
  constructor
  · intro h
    rcases Nat.lt_or_ge a (4294967296 ^ 64) with h2 | h2
    · exact h2
    · have := lt_length_limbs h2; omega
  · exact fun h => length_limbs_le h
theorem fits_len (q : Rat) {n m : Nat} (hn : (limbs q.num.natAbs).length = n) (hm : (limbs q.den).length = m) : (decide (n ≤ 64) && decide (m ≤ 64)) = fitsQ q := by
  subst hn; subst hm
  unfold fitsQ
  rw [decide_eq_decide.2 (len_fits q.num.natAbs), decide_eq_decide.2 (len_fits q.den)]
theorem ofR_zero {x : Int} {b : Nat} {r : Option Rat} {e : Int} (hb : b = 0) (h : ofR x b = (r, e)) : r = none ∧ e = 3 := by
  unfold ofR at h; rw [if_pos hb] at h; cases h; exact ⟨rfl, rfl⟩
theorem ofR_yes {x : Int} {b : Nat} {r : Option Rat} {e : Int} (hb : b ≠ 0) (h : ofR x b = (r, e)) : limR (mkRat x b) = (r, e) := by
  unfold ofR at h; rwa [if_neg hb] at h
theorem limR_no {q : Rat} (h : fitsQ q = false) : limR q = (none, 2) := by unfold limR; rw [limQ_no h, limE_no h]

/-- Two that read as numbers are one just if they stand there alike. -/
theorem same_read {s s' : Bool} {xs ys xs' ys' : List Nat} {q : Rat} {o' : Option Rat} (h : readQ s xs ys = some q) (h' : readQ s' xs' ys' = o') : (decide (s = s') && decide (xs = xs') && decide (ys = ys')) = decide (some q = o') := by
  rw [Bool.eq_iff_iff]
  simp only [Bool.and_eq_true, decide_eq_true_eq]
  constructor
  · rintro ⟨⟨rfl, rfl⟩, rfl⟩; exact h.symm.trans h'
  · intro e
    rw [← e] at h'
    have g : goodV s xs ys = true := by
      cases hg : goodV s xs ys with
      | true => rfl
      | false => rw [readQ_no hg] at h; cases h
    have g' : goodV s' xs' ys' = true := by
      cases hg : goodV s' xs' ys' with
      | true => rfl
      | false => rw [readQ_no hg] at h'; cases h'
    obtain ⟨q1, e1, a1, a2, a3, _⟩ := readQ_yes g
    obtain ⟨q2, e2, b1, b2, b3, _⟩ := readQ_yes g'
    rw [h] at e1
    rw [h'] at e2
    cases e1
    cases e2
    exact ⟨⟨a1.trans b1.symm, a2.trans b2.symm⟩, a3.trans b3.symm⟩
/-- A block made behind the world w0. -/
def Over (w0 : World) (q : Nat) (w : World) : Prop := w0.heap.size ≤ q
theorem Over.below {w0 w w' : World} {q : Nat} (h : Over w0 q w) (hb : Below w.heap.size w w') : Over w0 q w' := h
theorem ofR_cross {p q : Rat} : ofR (zOf (sg (p.num * (q.den : Int)) != sg (q.num * (p.den : Int))) (p.num * (q.den : Int)).natAbs) (q.num * (p.den : Int)).natAbs = divR (some p) (some q) := by
  show _ = if q.num = 0 then ((none : Option Rat), (3 : Int)) else limR (p / q)
  unfold ofR
  by_cases h : q.num = 0
  · rw [if_pos (cross_zero.2 h), if_pos h]
  · rw [if_neg (mt cross_zero.1 h), if_neg h, div_cross h]
theorem QQ.fillR3 {w : World} {s : Bool} {A : Option Addr} {n c : Nat} {xs : List Nat} {B : Option Addr} {m d : Nat} {ys : List Nat} {o : Option Rat} {L g : Nat} (h : QQ w s A n c xs B m d ys o L) (hg : NoLimb w g) (x y z : Value) :
    QQ (((w.setCell ⟨g, 0, Option.none⟩ x).setCell ⟨g, 1, Option.none⟩ y).setCell ⟨g, 2, Option.none⟩ z) s A n c xs B m d ys o L := ⟨h.top.fillR3 hg x y z, h.bot.fillR3 hg x y z, h.rd⟩
theorem QQ.fillR4 {w : World} {s : Bool} {A : Option Addr} {n c : Nat} {xs : List Nat} {B : Option Addr} {m d : Nat} {ys : List Nat} {o : Option Rat} {L g : Nat} (h : QQ w s A n c xs B m d ys o L) (hg : NoLimb w g) (x y z v : Value) :
    QQ ((((w.setCell ⟨g, 0, Option.none⟩ x).setCell ⟨g, 1, Option.none⟩ y).setCell ⟨g, 2, Option.none⟩ z).setCell ⟨g, 3, Option.none⟩ v) s A n c xs B m d ys o L := ⟨h.top.fillR4 hg x y z v, h.bot.fillR4 hg x y z v, h.rd⟩

end Go.Proofs.YtjpoolddgocbbaaGreatDoor

/- Mathematics of the statements of stage 7: which sums, products and quotients have room, and what they are. No condition. -/
namespace Go.Proofs.YtjpoolddgocbbaaGreatDoor
open Go.RowKit Limb
set_option linter.unusedVariables false

theorem QQ.of {w : World} {s : Bool} {A : Option Addr} {n c : Nat} {xs : List Nat} {B : Option Addr} {m d : Nat} {ys : List Nat} {K : Nat} (i : IsN w A n xs) (hc : n ≤ c) (j : IsN w B m ys) (kc : m ≤ d) (h : n ≤ K) (h' : m ≤ K) : QQ w s A n c xs B m d ys (readQ s xs ys) K :=
  ⟨ZZ.of ⟨i, rfl, hc, h⟩, ⟨j, rfl, kc, h'⟩, rfl⟩
/-- An argument that is a number stands there as what is told. -/
theorem qq_told {w : World} {s : Bool} {A : Option Addr} {n c : Nat} {xs : List Nat} {B : Option Addr} {m d : Nat} {ys : List Nat} {q : Rat} {L : Nat} (h : QQ w s A n c xs B m d ys (some q) L) :
    s = sg (oTop (some q)) ∧ xs = limbs (oTop (some q)).natAbs ∧ ys = limbs (oBot (some q)) ∧ QQ w s A n c xs B m d ys (some q) 64 ∧ n ≤ 64 ∧ m ≤ 64 ∧ Bd q n m := by
  obtain ⟨h1, h2, h3, h4, h5, h6, h7⟩ := h.some
  have hn := h5.nn.isN.len
  have hm := h6.isN.len
  obtain ⟨_, _, _, _, l1, l2, _⟩ := goodV_iff.1 h7
  have v1 := val_lt h5.nn.isN.small
  have v2 := val_lt h6.isN.small
  rw [h5.nn.val, hn] at v1
  rw [h6.val, hm] at v2
  exact ⟨h1, h2, h3, ⟨h.top.nn.short (by omega) |> fun t => ⟨t, h.top.sgn⟩, h.bot.short (by omega), h.rd⟩, by omega, by omega, v1, v2⟩

theorem add_is {p q z : Rat} {k l : Nat} (e : p + q = z) (h : Bd z k l) (hk : k ≤ 64) (hl : l ≤ 64) : addR (some p) (some q) = (some z, 0) := by
  show limR (p + q) = _
  rw [e]; exact limR_fits h hk hl
theorem sub_is {p q z : Rat} {k l : Nat} (e : p - q = z) (h : Bd z k l) (hk : k ≤ 64) (hl : l ≤ 64) : subR (some p) (some q) = (some z, 0) := by
  show limR (p - q) = _
  rw [e]; exact limR_fits h hk hl
theorem mul_is {p q z : Rat} {k l : Nat} (e : p * q = z) (h : Bd z k l) (hk : k ≤ 64) (hl : l ≤ 64) : mulR (some p) (some q) = (some z, 0) := by
  show limR (p * q) = _
  rw [e]; exact limR_fits h hk hl
theorem div_is {p q z : Rat} {k l : Nat} (h0 : q.num ≠ 0) (e : p / q = z) (h : Bd z k l) (hk : k ≤ 64) (hl : l ≤ 64) : divR (some p) (some q) = (some z, 0) := by
  show (if q.num = 0 then ((none : Option Rat), (3 : Int)) else limR (p / q)) = _
  rw [if_neg h0, e]; exact limR_fits h hk hl
theorem div_no {p q : Rat} (h0 : q.num = 0) : divR (some p) (some q) = (none, 3) := by
  show (if q.num = 0 then ((none : Option Rat), (3 : Int)) else limR (p / q)) = _
  rw [if_pos h0]
theorem add_back (p q : Rat) : p + q - q = p := by rw [Rat.sub_eq_add_neg, Rat.add_assoc, Rat.add_neg_cancel, Rat.add_zero]
theorem num_ne {q : Rat} (h : q.num ≠ 0) : q ≠ 0 := fun e => h (by rw [e]; rfl)

theorem field_facts {a b c : Rat} {na ma nb mb nc mc : Nat} (ha : Bd a na ma) (hb : Bd b nb mb) (hc : Bd c nc mc) (hT : na + nb + nc + ma + mb + mc ≤ 40) :
    ∃ s u v p x y z : Rat, addR (some a) (some b) = (some s, 0) ∧ addR (some b) (some a) = (some s, 0) ∧ addR (some s) (some c) = (some u, 0) ∧ addR (some b) (some c) = (some v, 0) ∧ addR (some a) (some v) = (some u, 0) ∧
      mulR (some a) (some b) = (some p, 0) ∧ mulR (some b) (some a) = (some p, 0) ∧ mulR (some s) (some c) = (some x, 0) ∧ mulR (some a) (some c) = (some y, 0) ∧ mulR (some b) (some c) = (some z, 0) ∧ addR (some y) (some z) = (some x, 0) ∧
      subR (some s) (some b) = (some a, 0) ∧ (b.num = 0 → divR (some p) (some b) = (none, 3)) ∧ (b.num ≠ 0 → divR (some p) (some b) = (some a, 0)) := by
  have hs : Bd (a + b) (na + mb + nb + ma + 1) (ma + mb) := ha.add hb (by omega) (by omega)
  have hu : Bd (a + b + c) (na + mb + nb + ma + 1 + mc + nc + 1) (ma + mb + mc) := hs.add hc (by omega) (by omega)
  have hv : Bd (b + c) (nb + mc + nc + mb + 1) (mb + mc) := hb.add hc (by omega) (by omega)
  have hp := ha.mul hb
  have hx := hs.mul hc
  have hy := ha.mul hc
  have hz := hb.mul hc
  refine ⟨a + b, a + b + c, b + c, a * b, (a + b) * c, a * c, b * c, add_is rfl hs (by omega) (by omega), add_is (Rat.add_comm _ _) hs (by omega) (by omega), add_is rfl hu (by omega) (by omega), add_is rfl hv (by omega) (by omega), add_is (Rat.add_assoc _ _ _).symm hu (by omega) (by omega),
    mul_is rfl hp (by omega) (by omega), mul_is (Rat.mul_comm _ _) hp (by omega) (by omega), mul_is rfl hx (by omega) (by omega), mul_is rfl hy (by omega) (by omega), mul_is rfl hz (by omega) (by omega), add_is (Rat.add_mul _ _ _).symm hx (by omega) (by omega),
    sub_is (add_back _ _) ha (by omega) (by omega), fun h => div_no h, fun h => div_is h (Rat.mul_div_cancel (num_ne h)) ha (by omega) (by omega)⟩

theorem sign_wrap {x : Int} (h : -1 ≤ x ∧ x ≤ 1) : IntKind.i64.wrap x = x := by rw [IntKind.wrap_i64]; omega
theorem cmpR_some (p q : Rat) : cmpR (some p) (some q) = cmpQ p q := rfl
theorem sign_num {q : Rat} : (cmpQ q 0 == 0) = decide (q.num = 0) := by
  rw [Bool.eq_iff_iff, beq_iff_eq, decide_eq_true_eq, cmpQ_zero]
  exact ⟨fun h => by rw [h]; rfl, fun h => Rat.num_eq_zero.1 h⟩

theorem order_facts {a b c : Rat} {na ma nb mb nc mc : Nat} (ha : Bd a na ma) (hb : Bd b nb mb) (hc : Bd c nc mc) (hT : na + nb + nc + ma + mb + mc ≤ 40) :
    ∃ (s t p q d : Rat) (x y u v : Int), addR (some a) (some c) = (some s, 0) ∧ addR (some b) (some c) = (some t, 0) ∧ mulR (some a) (some c) = (some p, 0) ∧ mulR (some b) (some c) = (some q, 0) ∧ subR (some a) (some b) = (some d, 0) ∧
      cmpR (some a) (some b) = x ∧ cmpR (some b) (some a) = y ∧ cmpR (some s) (some t) = x ∧ cmpR (some c) (some 0) = u ∧ cmpR (some p) (some q) = v ∧ cmpR (some d) (some 0) = x ∧ cmpR (some (-a)) (some (-b)) = y ∧
      IntKind.i64.wrap (-y) = x ∧ IntKind.i64.wrap (-x) = y ∧ IntKind.i64.wrap (x * u) = v ∧ sameR (some a) (some b) = (x == 0) ∧ decide (some a = some b) = (x == 0) := by
  have hs : Bd (a + c) (na + mc + nc + ma + 1) (ma + mc) := ha.add hc (by omega) (by omega)
  have ht : Bd (b + c) (nb + mc + nc + mb + 1) (mb + mc) := hb.add hc (by omega) (by omega)
  have hd : Bd (a - b) (na + mb + nb + ma + 1) (ma + mb) := by rw [Rat.sub_eq_add_neg]; exact ha.add hb.neg (by omega) (by omega)
  have e1 := cmpQ_swap a b
  have b1 := cmpQ_bounds a b
  have b2 := cmpQ_bounds c 0
  have b3 := cmpQ_bounds (a * c) (b * c)
  have e2 := cmpQ_mul a b c
  refine ⟨a + c, b + c, a * c, b * c, a - b, cmpQ a b, cmpQ b a, cmpQ c 0, cmpQ (a * c) (b * c), add_is rfl hs (by omega) (by omega), add_is rfl ht (by omega) (by omega), mul_is rfl (ha.mul hc) (by omega) (by omega), mul_is rfl (hb.mul hc) (by omega) (by omega), sub_is rfl hd (by omega) (by omega),
    rfl, rfl, cmpQ_add a b c, rfl, rfl, cmpQ_sub a b, ?_, ?_, ?_, ?_, ?_, ?_⟩
  · rw [cmpR_some, cmpQ_neg, e1]
  · rw [e1, Int.neg_neg]; exact sign_wrap b1
  · rw [← e1]; exact sign_wrap (cmpQ_bounds b a)
  · rw [← e2]; exact sign_wrap b3
  · show decide (some a = some b) = _
    rw [Bool.eq_iff_iff, beq_iff_eq, decide_eq_true_eq, cmpQ_zero]; simp
  · rw [Bool.eq_iff_iff, beq_iff_eq, decide_eq_true_eq, cmpQ_zero]; simp

theorem between_facts {a b : Rat} {na ma nb mb : Nat} (ha : Bd a na ma) (hb : Bd b nb mb) (hT : na + nb + ma + mb ≤ 40) :
    ∃ (s h t : Rat) (x : Int), ((2 : Int) : Rat) = t ∧ addR (some a) (some b) = (some s, 0) ∧ divR (some s) (some t) = (some h, 0) ∧ cmpR (some a) (some b) = x ∧ cmpR (some a) (some h) = x ∧ cmpR (some h) (some b) = x := by
  have hs : Bd (a + b) (na + mb + nb + ma + 1) (ma + mb) := ha.add hb (by omega) (by omega)
  have h2 : Bd ((1 : Rat) / 2) 1 1 := by unfold Bd; decide +kernel
  have e : (a + b) / 2 = (a + b) * (1 / 2) := by rw [Rat.div_def, Rat.div_def, Rat.one_mul]
  have hh := hs.mul h2
  rw [← e] at hh
  have e2 : ((2 : Int) : Rat) = 2 := rfl
  obtain ⟨c1, c2⟩ := cmpQ_half a b
  exact ⟨a + b, (a + b) / 2, 2, cmpQ a b, e2, add_is rfl hs (by omega) (by omega), div_is (by decide +kernel) rfl hh (by omega) (by omega), rfl, c1, c2⟩

theorem Row3.set {w : World} {g g' : Nat} {T : TypeId} {a b c : Value} (h : Row3 w g' T a b c) (hne : g ≠ g') (o : Nat) (v : Value) : Row3 (w.setCell ⟨g, o, Option.none⟩ v) g' T a b c := by
  unfold Row3 at h ⊢
  simp only [World.setCell, Array.getElem?_modify]
  rw [if_neg hne]; exact h
theorem Row4.set {w : World} {g g' : Nat} {T : TypeId} {a b c d : Value} (h : Row4 w g' T a b c d) (hne : g ≠ g') (o : Nat) (v : Value) : Row4 (w.setCell ⟨g, o, Option.none⟩ v) g' T a b c d := by
  unfold Row4 at h ⊢
  simp only [World.setCell, Array.getElem?_modify]
  rw [if_neg hne]; exact h
theorem keep_self3 (s : Bool) (xs ys : List Nat) : (decide (s = s) && same xs xs && same ys ys) = true := by rw [same_self, same_self]; simp
theorem of_nought (x : Int) : ofR x 0 = (none, 3) := if_pos rfl
theorem ofR_cases {x : Int} {b : Nat} {r : Option Rat} {e : Int} (h : ofR x b = (r, e)) : (r = none ∧ e = 3) ∨ (r = none ∧ e = 2) ∨ ∃ q, r = some q ∧ e = 0 := by
  by_cases hb : b = 0
  · exact .inl (ofR_zero hb h)
  · have h2 := ofR_yes hb h
    cases hf : fitsQ (mkRat x b) with
    | false => rw [limR_no hf] at h2; cases h2; exact .inr (.inl ⟨rfl, rfl⟩)
    | true => rw [limR_yes hf] at h2; cases h2; exact .inr (.inr ⟨_, rfl, rfl⟩)
theorem keep_read {w : World} {s s' : Bool} {A B A' B' : Option Addr} {n c m d n' c' m' d' : Nat} {xs ys xs' ys' : List Nat} {q : Rat} {o' : Option Rat} {L L' : Nat} (h : QQ w s A n c xs B m d ys (some q) L) (h' : QQ w s' A' n' c' xs' B' m' d' ys' o' L') :
    (decide (s = s') && same xs xs' && same ys ys') = decide (some q = o') := same_read h.rd h'.rd
theorem wrap_both {a b : Int} (h : IntKind.i64.wrap a = b) : wrap64 a = b := by
  rw [IntKind.wrap_i64] at h; unfold wrap64; omega
theorem or_one {Y : Nat} (hY : Y < 4294967296) : ∃ k : Nat, bits .or .u32 (Y : Int) 1 = (k : Int) ∧ k < 4294967296 ∧ k ≠ 0 := by
  refine ⟨Y ||| 1, u32_or_nat Y 1 hY (by decide), Nat.or_lt_two_pow (n := 32) hY (by decide), fun h => ?_⟩
  have h2 : (Y ||| 1).testBit 0 = false := by rw [h]; rfl
  rw [Nat.testBit_or] at h2
  simp at h2

/-- With a factor more it is the same number. -/
theorem ofR_factor {q : Rat} {k : Nat} (hk : k ≠ 0) (hf : fitsQ q = true) : ofR (zOf (sg q.num) (q.num.natAbs * k)) (q.den * k) = (some q, 0) := by
  have e : zOf (sg q.num) (q.num.natAbs * k) = q.num * (k : Int) := by
    have h := zz_sg q.num
    cases hs : sg q.num with
    | true => rw [hs] at h; unfold zOf at h ⊢; rw [if_pos rfl] at h ⊢; rw [← h]; simp [Int.neg_mul]
    | false => rw [hs] at h; unfold zOf at h ⊢; rw [if_neg (by decide)] at h ⊢; rw [← h]; simp
  unfold ofR
  rw [if_neg (Nat.mul_ne_zero q.den_nz hk), e]
  have e2 : mkRat (q.num * (k : Int)) (q.den * k) = q := by
    rw [Rat.mkRat_mul_right hk, Rat.mkRat_self]
  rw [e2]; exact limR_yes hf

end Go.Proofs.YtjpoolddgocbbaaGreatDoor

/- Mathematics of powers of rational numbers (Lean's own), of the limbs that they have, and of the statements of stage 8. No condition. -/
namespace Go.Proofs.YtjpoolddgocbbaaGreatDoor
open Go.RowKit Limb
set_option linter.unusedVariables false

/-- What a power tells. -/
def powR : Option Rat → Int → Option Rat × Int
  | some q, n => if 128 < n ∨ n < -128 then (none, 2) else if n = 0 then (some 1, 0) else if n < 0 ∧ q.num = 0 then (none, 3) else limR (q ^ n)
  | none, _ => (none, 1)
/-- What a number times a power of ten tells. -/
def scaleR : Option Rat → Int → Option Rat × Int
  | some q, n => if 600 < n ∨ n < -600 then (none, 2) else limR (q * (10 : Rat) ^ n)
  | none, _ => (none, 1)

theorem ne_of_num {q : Rat} (h : q.num ≠ 0) : q ≠ 0 := num_ne h
theorem num_of_ne {q : Rat} (h : q ≠ 0) : q.num ≠ 0 := fun e => h (Rat.num_eq_zero.1 e)
theorem npow_ne {q : Rat} (h : q ≠ 0) (n : Nat) : q ^ n ≠ 0 := by
  refine ne_of_num ?_
  rw [Rat.num_pow]
  exact Int.pow_ne_zero (num_of_ne h)
theorem inv_ne {q : Rat} (h : q ≠ 0) : q⁻¹ ≠ 0 := fun e => by
  have := Rat.mul_inv_cancel q h
  rw [e, Rat.mul_zero] at this
  exact absurd this (by decide)
theorem zpow_ne {q : Rat} (h : q ≠ 0) (n : Int) : q ^ n ≠ 0 := by
  rcases Int.le_total 0 n with h0 | h0
  · obtain ⟨k, rfl⟩ := Int.eq_ofNat_of_zero_le h0
    rw [Rat.zpow_natCast]; exact npow_ne h k
  · obtain ⟨k, hk⟩ := Int.eq_ofNat_of_zero_le (show 0 ≤ -n by omega)
    obtain rfl : n = -(k : Int) := by omega
    rw [Rat.zpow_neg, Rat.zpow_natCast]; exact inv_ne (npow_ne h k)
/-- What is turned: the sign goes to the top. -/
theorem inv_told {q : Rat} (h : q.num ≠ 0) : (q⁻¹).num = zOf (sg q.num) q.den ∧ (q⁻¹).den = q.num.natAbs := by
  rw [Rat.num_inv, Rat.den_inv, if_neg h]
  refine ⟨?_, rfl⟩
  rcases Int.lt_trichotomy q.num 0 with h1 | h1 | h1
  · rw [sg_neg h1, Int.sign_eq_neg_one_of_neg h1]; unfold zOf; rw [if_pos rfl]; omega
  · exact absurd h1 h
  · rw [sg_pos (by omega), Int.sign_eq_one_of_pos h1]; unfold zOf; rw [if_neg (by decide)]; omega

theorem mul_inv {a b : Rat} (ha : a ≠ 0) (hb : b ≠ 0) : (a * b)⁻¹ = a⁻¹ * b⁻¹ := by rw [Rat.inv_mul_rev, Rat.mul_comm]
theorem mul_npow (a b : Rat) (n : Nat) : (a * b) ^ n = a ^ n * b ^ n := by
  induction n with
  | zero => rw [Rat.pow_zero, Rat.pow_zero, Rat.pow_zero, Rat.mul_one]
  | succ n ih =>
    rw [Rat.pow_succ, Rat.pow_succ, Rat.pow_succ, ih, Rat.mul_assoc, Rat.mul_assoc]
    congr 1
    rw [← Rat.mul_assoc, Rat.mul_comm (b ^ n) a, Rat.mul_assoc]
theorem mul_ne {a b : Rat} (ha : a ≠ 0) (hb : b ≠ 0) : a * b ≠ 0 := fun e => by
  rcases Rat.mul_eq_zero.1 e with h | h
  · exact ha h
  · exact hb h
theorem mul_zpow {a b : Rat} (ha : a ≠ 0) (hb : b ≠ 0) (n : Int) : (a * b) ^ n = a ^ n * b ^ n := by
  rcases Int.le_total 0 n with h0 | h0
  · obtain ⟨k, rfl⟩ := Int.eq_ofNat_of_zero_le h0
    rw [Rat.zpow_natCast, Rat.zpow_natCast, Rat.zpow_natCast, mul_npow]
  · obtain ⟨k, hk⟩ := Int.eq_ofNat_of_zero_le (show 0 ≤ -n by omega)
    obtain rfl : n = -(k : Int) := by omega
    rw [Rat.zpow_neg, Rat.zpow_neg, Rat.zpow_neg, Rat.zpow_natCast, Rat.zpow_natCast, Rat.zpow_natCast, mul_npow, mul_inv (npow_ne ha k) (npow_ne hb k)]
theorem zpow_mul_nat {a : Rat} (ha : a ≠ 0) (k : Int) (j : Nat) : (a ^ k) ^ j = a ^ (k * (j : Int)) := by
  induction j with
  | zero => rw [Rat.pow_zero, show k * ((0 : Nat) : Int) = 0 by simp, Rat.zpow_zero]
  | succ j ih =>
    rw [Rat.pow_succ, ih, ← Rat.zpow_add ha]
    congr 1
    rw [Int.natCast_succ, Int.mul_add, Int.mul_one]
theorem zpow_mul {a : Rat} (ha : a ≠ 0) (k j : Int) : (a ^ k) ^ j = a ^ (k * j) := by
  rcases Int.le_total 0 j with h0 | h0
  · obtain ⟨i, rfl⟩ := Int.eq_ofNat_of_zero_le h0
    rw [Rat.zpow_natCast, zpow_mul_nat ha]
  · obtain ⟨i, hi⟩ := Int.eq_ofNat_of_zero_le (show 0 ≤ -j by omega)
    obtain rfl : j = -(i : Int) := by omega
    rw [Rat.zpow_neg, Rat.zpow_natCast, zpow_mul_nat ha, ← Rat.zpow_neg, Int.mul_neg]

/-- How many limbs a power has. -/
theorem pow_room {x l n : Nat} (h : x < 4294967296 ^ l) : x ^ n < 4294967296 ^ (l * n + 1) := by
  have h1 : x ^ n ≤ (4294967296 ^ l) ^ n := Nat.pow_le_pow_left (Nat.le_of_lt h) n
  rw [← Nat.pow_mul] at h1
  refine Nat.lt_of_le_of_lt h1 (Nat.pow_lt_pow_right (by decide) (Nat.lt_succ_self _))
theorem Bd.npow {q : Rat} {k l : Nat} (h : Bd q k l) (n : Nat) : Bd (q ^ n) (k * n + 1) (l * n + 1) := by
  refine ⟨?_, ?_⟩
  · rw [Rat.num_pow, Int.natAbs_pow]; exact pow_room h.1
  · rw [Rat.den_pow]; exact pow_room h.2
theorem Bd.inv {q : Rat} {k l : Nat} (h : Bd q k l) (hq : q.num ≠ 0) : Bd (q⁻¹) l k := by
  obtain ⟨h1, h2⟩ := inv_told hq
  refine ⟨?_, ?_⟩
  · rw [h1, zOf_abs]; exact h.2
  · rw [h2]; exact h.1
theorem Bd.zpow {q : Rat} {l : Nat} (h : Bd q l l) (hq : q ≠ 0) (n : Int) : Bd (q ^ n) (l * n.natAbs + 1) (l * n.natAbs + 1) := by
  rcases Int.le_total 0 n with h0 | h0
  · obtain ⟨k, rfl⟩ := Int.eq_ofNat_of_zero_le h0
    rw [Rat.zpow_natCast, Int.natAbs_natCast]; exact h.npow k
  · obtain ⟨k, hk⟩ := Int.eq_ofNat_of_zero_le (show 0 ≤ -n by omega)
    obtain rfl : n = -(k : Int) := by omega
    rw [Rat.zpow_neg, Rat.zpow_natCast, Int.natAbs_neg, Int.natAbs_natCast]
    exact (h.npow k).inv (num_of_ne (npow_ne hq k))
theorem one_bd : Bd 1 1 1 := by unfold Bd; decide +kernel

/-- A power that has room. -/
theorem pow_is {q z : Rat} {n : Int} {l : Nat} (hn : -128 ≤ n ∧ n ≤ 128) (hq : q ≠ 0 ∨ 0 ≤ n) (e : q ^ n = z) (h : Bd z l l) (hl : l ≤ 64) : powR (some q) n = (some z, 0) := by
  show (if 128 < n ∨ n < -128 then ((none : Option Rat), (2 : Int)) else if n = 0 then (some 1, 0) else if n < 0 ∧ q.num = 0 then (none, 3) else limR (q ^ n)) = _
  rw [if_neg (by omega)]
  by_cases h0 : n = 0
  · rw [if_pos h0, ← e, h0, Rat.zpow_zero]
  · rw [if_neg h0, if_neg, e]
    · exact limR_fits h hl hl
    · rintro ⟨h1, h2⟩
      rcases hq with h3 | h3
      · exact num_of_ne h3 h2
      · omega
theorem pow_none {q : Rat} {n : Int} (hn : -128 ≤ n ∧ n < 0) (hq : q.num = 0) : powR (some q) n = (none, 3) := by
  show (if 128 < n ∨ n < -128 then ((none : Option Rat), (2 : Int)) else if n = 0 then (some 1, 0) else if n < 0 ∧ q.num = 0 then (none, 3) else limR (q ^ n)) = _
  rw [if_neg (by omega), if_neg (by omega), if_pos ⟨hn.2, hq⟩]
theorem scale_is {q z : Rat} {n : Int} {l : Nat} (hn : -600 ≤ n ∧ n ≤ 600) (e : q * (10 : Rat) ^ n = z) (h : Bd z l l) (hl : l ≤ 64) : scaleR (some q) n = (some z, 0) := by
  show (if 600 < n ∨ n < -600 then ((none : Option Rat), (2 : Int)) else limR (q * (10 : Rat) ^ n)) = _
  rw [if_neg (by omega), e]; exact limR_fits h hl hl

theorem ten_ne : (10 : Rat) ≠ 0 := by decide
theorem ten_room (n : Nat) : 10 ^ n < 4294967296 ^ (n / 9 + 1) := by
  have h1 : 10 ^ n ≤ 10 ^ (9 * (n / 9) + 8) := Nat.pow_le_pow_right (by decide) (by omega)
  have h2 : 10 ^ (9 * (n / 9) + 8) = (10 ^ 9) ^ (n / 9) * 10 ^ 8 := by rw [Nat.pow_add, Nat.pow_mul]
  have h3 : (10 ^ 9) ^ (n / 9) ≤ 4294967296 ^ (n / 9) := Nat.pow_le_pow_left (by decide) _
  have h4 : (10 ^ 9) ^ (n / 9) * 10 ^ 8 < 4294967296 ^ (n / 9) * 4294967296 := Nat.lt_of_le_of_lt (Nat.mul_le_mul_right _ h3) (Nat.mul_lt_mul_of_pos_left (by decide) (Nat.pow_pos (by decide)))
  rw [Nat.pow_succ]
  omega
theorem ten_bd (n : Int) : Bd ((10 : Rat) ^ n) (n.natAbs / 9 + 1) (n.natAbs / 9 + 1) := by
  have hN : ∀ k : Nat, Bd ((10 : Rat) ^ k) (k / 9 + 1) (k / 9 + 1) := fun k => by
    refine ⟨?_, ?_⟩
    · rw [Rat.num_pow, Int.natAbs_pow]; exact ten_room k
    · rw [Rat.den_pow, show (10 : Rat).den = 1 from rfl, Nat.one_pow]; exact Nat.one_lt_pow (by omega) (by decide)
  rcases Int.le_total 0 n with h0 | h0
  · obtain ⟨k, rfl⟩ := Int.eq_ofNat_of_zero_le h0
    rw [Rat.zpow_natCast, Int.natAbs_natCast]; exact hN k
  · obtain ⟨k, hk⟩ := Int.eq_ofNat_of_zero_le (show 0 ≤ -n by omega)
    obtain rfl : n = -(k : Int) := by omega
    rw [Rat.zpow_neg, Rat.zpow_natCast, Int.natAbs_neg, Int.natAbs_natCast]
    exact (hN k).inv (num_of_ne (npow_ne ten_ne k))

theorem rlt_trans {a b c : Rat} (h : a < b) (k : b < c) : a < c := by
  refine Rat.not_le.1 fun h2 => ?_
  have h3 := Rat.le_trans h2 (Rat.le_of_lt h)
  exact absurd k (Rat.not_lt.2 h3)
/-- Signs and the order of powers. -/
theorem npow_lt {p q : Rat} (hp : 0 < p) (h : p < q) (n : Nat) : p ^ (n + 1) < q ^ (n + 1) := by
  induction n with
  | zero => rw [Rat.pow_one, Rat.pow_one]; exact h
  | succ n ih =>
    rw [Rat.pow_succ p, Rat.pow_succ q]
    have hq : 0 < q := rlt_trans hp h
    have h1 : p ^ (n + 1) * p < q ^ (n + 1) * p := Rat.mul_lt_mul_of_pos_right ih hp
    have h2 : p * q ^ (n + 1) < q * q ^ (n + 1) := Rat.mul_lt_mul_of_pos_right h (Rat.pow_pos hq)
    rw [Rat.mul_comm p, Rat.mul_comm q] at h2
    exact rlt_trans h1 h2
theorem inv_lt {p q : Rat} (hp : 0 < p) (h : p < q) : q⁻¹ < p⁻¹ := by
  have hq : 0 < q := rlt_trans hp h
  have p0 : p ≠ 0 := fun e => by rw [e] at hp; exact absurd hp (by decide)
  have q0 : q ≠ 0 := fun e => by rw [e] at hq; exact absurd hq (by decide)
  have ip : 0 < p⁻¹ := Rat.inv_pos.2 hp
  have iq : 0 < q⁻¹ := Rat.inv_pos.2 hq
  have h1 : p * (p⁻¹ * q⁻¹) < q * (p⁻¹ * q⁻¹) := Rat.mul_lt_mul_of_pos_right h (Rat.mul_pos ip iq)
  rw [← Rat.mul_assoc, Rat.mul_inv_cancel p p0, Rat.one_mul, Rat.mul_comm p⁻¹, ← Rat.mul_assoc, Rat.mul_inv_cancel q q0, Rat.one_mul] at h1
  exact h1
theorem cmpQ_npow {p q : Rat} (hp : 0 < p) (hq : 0 < q) (n : Nat) : cmpQ (p ^ (n + 1)) (q ^ (n + 1)) = cmpQ p q := by
  rcases rat_tri p q with h | h | h
  · rw [cmpQ_lt h, cmpQ_lt (npow_lt hp h n)]
  · subst h; rw [cmpQ_eq rfl, cmpQ_eq rfl]
  · rw [cmpQ_gt h, cmpQ_gt (npow_lt hq h n)]
theorem cmpQ_inv {p q : Rat} (hp : 0 < p) (hq : 0 < q) : cmpQ p⁻¹ q⁻¹ = -cmpQ p q := by
  rcases rat_tri p q with h | h | h
  · rw [cmpQ_lt h, cmpQ_gt (inv_lt hp h)]; rfl
  · subst h; rw [cmpQ_eq rfl, cmpQ_eq rfl]; rfl
  · rw [cmpQ_gt h, cmpQ_lt (inv_lt hq h)]
/-- The sign of a power: a product of signs. -/
theorem cmpQ_mul0 (p q : Rat) : cmpQ (p * q) 0 = cmpQ p 0 * cmpQ q 0 := by
  have h := cmpQ_mul p 0 q
  rwa [Rat.zero_mul] at h
theorem sign_even (q : Rat) (n : Nat) : cmpQ (q ^ (2 * n + 2)) 0 = cmpQ q 0 * cmpQ q 0 ∧ cmpQ (q ^ (2 * n + 1)) 0 = cmpQ q 0 := by
  have hs : ∀ s : Int, -1 ≤ s ∧ s ≤ 1 → s * s * s = s := fun s ⟨h1, h2⟩ => by
    have : s = -1 ∨ s = 0 ∨ s = 1 := by omega
    rcases this with h | h | h <;> subst h <;> rfl
  induction n with
  | zero => exact ⟨by rw [show 2 * 0 + 2 = 0 + 1 + 1 from rfl, Rat.pow_succ, cmpQ_mul0, Rat.pow_one], by rw [Rat.pow_one]⟩
  | succ n ih =>
    have e1 : cmpQ (q ^ (2 * (n + 1) + 1)) 0 = cmpQ q 0 := by
      rw [show 2 * (n + 1) + 1 = (2 * n + 2) + 1 by omega, Rat.pow_succ, cmpQ_mul0, ih.1]; exact hs _ (cmpQ_bounds q 0)
    refine ⟨?_, e1⟩
    rw [show 2 * (n + 1) + 2 = (2 * (n + 1) + 1) + 1 by omega, Rat.pow_succ, cmpQ_mul0, e1]

end Go.Proofs.YtjpoolddgocbbaaGreatDoor

/- Mathematics of the statements of stage 8: which powers have room, and what they are. No condition. -/
namespace Go.Proofs.YtjpoolddgocbbaaGreatDoor
open Go.RowKit Limb
set_option linter.unusedVariables false

theorem abs_mul_le {k j : Int} (hk : k.natAbs ≤ 5) (hj : j.natAbs ≤ 5) : (k * j).natAbs ≤ 25 := by
  rw [Int.natAbs_mul]; exact Nat.mul_le_mul hk hj
theorem pow_some {q : Rat} {l : Nat} (hq : Bd q l l) (q0 : q ≠ 0) {n : Int} {m : Nat} (hn : n.natAbs ≤ m) (hm : m ≤ 128) (hl : l * m + 1 ≤ 64) : powR (some q) n = (some (q ^ n), 0) := by
  have h := hq.zpow q0 n
  have h2 : l * n.natAbs + 1 ≤ 64 := Nat.le_trans (Nat.succ_le_succ (Nat.mul_le_mul_left l hn)) hl
  exact pow_is (by omega) (.inl q0) rfl h h2

theorem sums_facts {a b : Rat} (ha : Bd a 2 2) (hb : Bd b 2 2) (a0 : a.num ≠ 0) (b0 : b.num ≠ 0) {k j : Int} (hk : k.natAbs ≤ 5) (hj : j.natAbs ≤ 5) :
    ∃ x y z q c s t : Rat, powR (some a) k = (some x, 0) ∧ powR (some a) j = (some y, 0) ∧ powR (some a) (k + j) = (some z, 0) ∧ mulR (some x) (some y) = (some z, 0) ∧ powR (some x) j = (some q, 0) ∧ powR (some a) (k * j) = (some q, 0) ∧
      mulR (some a) (some b) = (some c, 0) ∧ powR (some c) k = (some s, 0) ∧ powR (some b) k = (some t, 0) ∧ mulR (some x) (some t) = (some s, 0) := by
  have a1 := num_ne a0
  have b1 := num_ne b0
  have c1 := mul_ne a1 b1
  have hc : Bd (a * b) 4 4 := ha.mul hb
  have kj := abs_mul_le hk hj
  have hz : Bd (a ^ (k + j)) 21 21 := (ha.zpow a1 (k + j)).mono (by omega) (by omega)
  have hq : Bd (a ^ (k * j)) 51 51 := (ha.zpow a1 (k * j)).mono (by omega) (by omega)
  have hs : Bd ((a * b) ^ k) 21 21 := (hc.zpow c1 k).mono (by omega) (by omega)
  refine ⟨a ^ k, a ^ j, a ^ (k + j), a ^ (k * j), a * b, (a * b) ^ k, b ^ k, pow_some ha a1 hk (by decide) (by decide), pow_some ha a1 hj (by decide) (by decide), pow_some ha a1 (show (k + j).natAbs ≤ 10 by omega) (by decide) (by decide), ?_, ?_, pow_some ha a1 kj (by decide) (by decide),
    mul_is rfl hc (by decide) (by decide), pow_some hc c1 hk (by decide) (by decide), pow_some hb b1 hk (by decide) (by decide), ?_⟩
  · exact mul_is (Rat.zpow_add a1 k j).symm hz (by decide) (by decide)
  · exact pow_is (by omega) (.inl (zpow_ne a1 k)) (zpow_mul a1 k j) hq (by decide)
  · exact mul_is (mul_zpow a1 b1 k).symm hs (by decide) (by decide)

theorem zero_of_num {q : Rat} (h : q.num = 0) : q = 0 := Rat.num_eq_zero.1 h
theorem zero_npow (n : Nat) : (0 : Rat) ^ (n + 1) = 0 := by rw [Rat.pow_succ, Rat.mul_zero]
/-- Powers of 0 by what is not below 0. -/
theorem zero_facts {q : Rat} (h : q.num = 0) {k : Nat} (hk : k ≤ 128) : ∃ x : Rat, powR (some q) (k : Int) = (some x, 0) ∧ decide (some x = some (0 : Rat)) = decide (0 < k) := by
  obtain rfl := zero_of_num h
  have hz : Bd (0 : Rat) 1 1 := by unfold Bd; decide +kernel
  rcases Nat.eq_zero_or_pos k with h0 | h0
  · subst h0
    exact ⟨1, pow_is (by omega) (.inr (by omega)) (Rat.zpow_zero _) one_bd (by decide), by decide +kernel⟩
  · obtain ⟨n, rfl⟩ : ∃ n, k = n + 1 := ⟨k - 1, by omega⟩
    refine ⟨0, pow_is (by omega) (.inr (by omega)) (by rw [Rat.zpow_natCast]; exact zero_npow n) hz (by decide), ?_⟩
    rw [decide_eq_true rfl, decide_eq_true (by omega)]

/-- The sign of a power. -/
def signPow (s : Int) (k : Nat) : Int := if k = 0 then 1 else if k % 2 = 0 then s * s else s
theorem sign_pow (q : Rat) (k : Nat) : cmpQ (q ^ k) 0 = signPow (cmpQ q 0) k := by
  unfold signPow
  by_cases h0 : k = 0
  · rw [if_pos h0, h0, Rat.pow_zero]; decide +kernel
  · rw [if_neg h0]
    by_cases h2 : k % 2 = 0
    · rw [if_pos h2]
      obtain ⟨n, rfl⟩ : ∃ n, k = 2 * n + 2 := ⟨k / 2 - 1, by omega⟩
      exact (sign_even q n).1
    · rw [if_neg h2]
      obtain ⟨n, rfl⟩ : ∃ n, k = 2 * n + 1 := ⟨k / 2, by omega⟩
      exact (sign_even q n).2
theorem signs_facts {a : Rat} (ha : Bd a 2 2) {k : Nat} (hk : k ≤ 8) :
    ∃ x : Rat, powR (some a) (k : Int) = (some x, 0) ∧ cmpR (some x) (some 0) = signPow (cmpQ a 0) k ∧ ((a.num = 0 ∧ 0 < k ∧ powR (some a) (-(k : Int)) = (none, 3)) ∨ ((a.num ≠ 0 ∨ k = 0) ∧ ∃ y : Rat, powR (some a) (-(k : Int)) = (some y, 0) ∧ mulR (some x) (some y) = (some 1, 0))) := by
  have hx : Bd (a ^ k) 17 17 := (ha.npow k).mono (by omega) (by omega)
  refine ⟨a ^ k, pow_is (by omega) (.inr (by omega)) (Rat.zpow_natCast _ _) hx (by decide), sign_pow a k, ?_⟩
  by_cases h0 : a.num = 0 ∧ 0 < k
  · exact .inl ⟨h0.1, h0.2, pow_none (by omega) h0.1⟩
  · refine .inr ⟨by omega, ?_⟩
    rcases Nat.eq_zero_or_pos k with hk0 | hk0
    · subst hk0
      exact ⟨1, pow_is (by omega) (.inr (by omega)) (Rat.zpow_zero _) one_bd (by decide), mul_is (by rw [Rat.pow_zero, Rat.mul_one]) one_bd (by decide) (by decide)⟩
    · have a1 : a ≠ 0 := num_ne (fun h => h0 ⟨h, hk0⟩)
      refine ⟨a ^ (-(k : Int)), pow_some ha a1 (show (-(k : Int)).natAbs ≤ 8 by omega) (by decide) (by decide), mul_is ?_ one_bd (by decide) (by decide)⟩
      rw [← Rat.zpow_natCast, ← Rat.zpow_add a1, Int.add_right_neg, Rat.zpow_zero]

theorem tens_facts {a : Rat} (ha : Bd a 4 4) {n m : Int} (hn : -128 ≤ n ∧ n ≤ 127) (hm : -128 ≤ m ∧ m ≤ 127) :
    ∃ x y : Rat, scaleR (some a) n = (some x, 0) ∧ scaleR (some x) m = (some y, 0) ∧ scaleR (some a) (n + m) = (some y, 0) ∧ scaleR (some x) (-n) = (some a, 0) := by
  have hx : Bd (a * (10 : Rat) ^ n) 19 19 := (ha.mul (ten_bd n)).mono (by omega) (by omega)
  have hy : Bd (a * (10 : Rat) ^ (n + m)) 33 33 := (ha.mul (ten_bd (n + m))).mono (by omega) (by omega)
  refine ⟨a * (10 : Rat) ^ n, a * (10 : Rat) ^ (n + m), scale_is (by omega) rfl hx (by decide), scale_is (by omega) ?_ hy (by decide), scale_is (by omega) rfl hy (by decide), scale_is (by omega) ?_ ha (by decide)⟩
  · rw [Rat.mul_assoc, ← Rat.zpow_add ten_ne]
  · rw [Rat.mul_assoc, ← Rat.zpow_add ten_ne, Int.add_right_neg, Rat.zpow_zero, Rat.mul_one]

theorem pos_of_cmp {q : Rat} (h : 0 < cmpQ q 0) : 0 < q := by
  rcases rat_tri q 0 with h2 | h2 | h2
  · rw [cmpQ_lt h2] at h; omega
  · rw [cmpQ_eq h2] at h; omega
  · exact h2
theorem porder_facts {a b : Rat} (ha : Bd a 2 2) (hb : Bd b 2 2) (pa : 0 < cmpQ a 0) (pb : 0 < cmpQ b 0) {k : Nat} (hk : 1 ≤ k ∧ k ≤ 9) :
    ∃ (x y z t : Rat) (c d : Int), powR (some a) (k : Int) = (some x, 0) ∧ powR (some b) (k : Int) = (some y, 0) ∧ powR (some a) (-(k : Int)) = (some z, 0) ∧ powR (some b) (-(k : Int)) = (some t, 0) ∧
      cmpR (some a) (some b) = c ∧ cmpR (some x) (some y) = c ∧ cmpR (some z) (some t) = d ∧ IntKind.i64.wrap (-c) = d := by
  have a1 := pos_of_cmp pa
  have b1 := pos_of_cmp pb
  have a0 : a ≠ 0 := fun e => by rw [e] at a1; exact absurd a1 (by decide)
  have b0 : b ≠ 0 := fun e => by rw [e] at b1; exact absurd b1 (by decide)
  obtain ⟨n, rfl⟩ : ∃ n, k = n + 1 := ⟨k - 1, by omega⟩
  have e1 := cmpQ_npow a1 b1 n
  have e2 := cmpQ_inv (Rat.pow_pos a1 (n := n + 1)) (Rat.pow_pos b1 (n := n + 1))
  refine ⟨a ^ (n + 1), b ^ (n + 1), a ^ (-((n + 1 : Nat) : Int)), b ^ (-((n + 1 : Nat) : Int)), cmpQ a b, -cmpQ a b, pow_some ha a0 (show ((n + 1 : Nat) : Int).natAbs ≤ 9 by omega) (by decide) (by decide), pow_some hb b0 (show ((n + 1 : Nat) : Int).natAbs ≤ 9 by omega) (by decide) (by decide),
    pow_some ha a0 (show (-((n + 1 : Nat) : Int)).natAbs ≤ 9 by omega) (by decide) (by decide), pow_some hb b0 (show (-((n + 1 : Nat) : Int)).natAbs ≤ 9 by omega) (by decide) (by decide), rfl, e1, ?_, ?_⟩
  · show cmpQ _ _ = _
    rw [Rat.zpow_neg, Rat.zpow_neg, Rat.zpow_natCast, Rat.zpow_natCast, e2, e1]
  · have := cmpQ_bounds a b
    rw [← cmpQ_swap]; exact sign_wrap (cmpQ_bounds b a)

theorem ten_num (n : Nat) : ((10 : Rat) ^ n).num = ((10 ^ n : Nat) : Int) ∧ ((10 : Rat) ^ n).den = 1 := by
  refine ⟨?_, ?_⟩
  · rw [Rat.num_pow, show (10 : Rat).num = ((10 : Nat) : Int) from rfl, Int.natCast_pow]
  · rw [Rat.den_pow, show (10 : Rat).den = 1 from rfl, Nat.one_pow]
/-- A number times a power of ten, out of its top and its bottom. -/
theorem scale_up (q : Rat) (n : Nat) : ofR (q.num * ((10 ^ n : Nat) : Int)) q.den = limR (q * (10 : Rat) ^ (n : Int)) := by
  obtain ⟨h1, h2⟩ := ten_num n
  unfold ofR
  rw [if_neg q.den_nz, Rat.zpow_natCast, mul_mk, h1, h2, Nat.mul_one]
theorem scale_down (q : Rat) (n : Nat) : ofR q.num (q.den * 10 ^ n) = limR (q * (10 : Rat) ^ (-(n : Int))) := by
  have h0 : ((10 : Rat) ^ n).num ≠ 0 := num_of_ne (npow_ne ten_ne n)
  have hp : (10 : Nat) ^ n ≠ 0 := Nat.pos_iff_ne_zero.1 (Nat.pow_pos (by decide))
  obtain ⟨h1, h2⟩ := ten_num n
  obtain ⟨h3, h4⟩ := inv_told h0
  unfold ofR
  rw [if_neg (Nat.mul_ne_zero q.den_nz hp), Rat.zpow_neg, Rat.zpow_natCast, mul_mk, h3, h4, h1, h2, Int.natAbs_natCast, sg_pos (show (0 : Int) ≤ ((10 ^ n : Nat) : Int) from Int.natCast_nonneg _)]
  congr 2
  unfold zOf
  rw [if_neg (by decide)]; simp
/-- The sign of a power, as it is told. -/
theorem zOf_pow {x : Int} (n : Nat) : zOf (sg x && decide (n % 2 = 1)) (x.natAbs ^ n) = x ^ n := by
  induction n with
  | zero => simp [zOf]
  | succ n ih =>
    rw [Int.pow_succ, ← ih, Nat.pow_succ]
    have hx := zz_sg x
    cases hs : sg x with
    | false =>
      rw [hs] at hx
      have e : zOf false x.natAbs = (x.natAbs : Int) := by unfold zOf; rw [if_neg (by decide)]
      rw [e] at hx
      unfold zOf
      simp only [Bool.false_and, Bool.false_eq_true, if_false]
      rw [Int.natCast_mul, hx]
    | true =>
      rw [hs] at hx
      have e : zOf true x.natAbs = -(x.natAbs : Int) := by unfold zOf; rw [if_pos rfl]
      rw [e] at hx
      unfold zOf
      simp only [Bool.true_and, decide_eq_true_eq]
      by_cases h : n % 2 = 1
      · rw [if_pos h, if_neg (by omega), Int.natCast_mul, Int.neg_mul, ← Int.mul_neg]
        congr 1
        omega
      · rw [if_neg h, if_pos (by omega), Int.natCast_mul, ← Int.mul_neg, hx]

theorem powR_big {q : Rat} {n : Int} (h : 128 < n ∨ n < -128) : powR (some q) n = (none, 2) := if_pos h
theorem powR_zero {q : Rat} {n : Int} (h : n = 0) : powR (some q) n = (some 1, 0) := by
  subst h; rfl
theorem powR_lim {q : Rat} {n : Int} (h1 : n ≤ 128) (h2 : -128 ≤ n) (h0 : n ≠ 0) (hq : 0 < n ∨ q.num ≠ 0) : powR (some q) n = limR (q ^ n) := by
  show (if 128 < n ∨ n < -128 then ((none : Option Rat), (2 : Int)) else if n = 0 then (some 1, 0) else if n < 0 ∧ q.num = 0 then (none, 3) else limR (q ^ n)) = _
  rw [if_neg (by omega), if_neg h0, if_neg (by omega)]
theorem scaleR_big {q : Rat} {n : Int} (h : 600 < n ∨ n < -600) : scaleR (some q) n = (none, 2) := if_pos h
theorem scaleR_lim {q : Rat} {n : Int} (h1 : n ≤ 600) (h2 : -600 ≤ n) : scaleR (some q) n = limR (q * (10 : Rat) ^ n) := if_neg (by omega)
theorem ten_fits {n : Nat} (h : n ≤ 600) : 10 ^ n < 4294967296 ^ 67 :=
  Nat.lt_of_lt_of_le (ten_room n) (Nat.pow_le_pow_right (by decide) (by omega))

end Go.Proofs.YtjpoolddgocbbaaGreatDoor
