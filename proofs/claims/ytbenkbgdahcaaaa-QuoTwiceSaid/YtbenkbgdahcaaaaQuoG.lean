/- What package quo's mix.of answers, as a contract over memory: the sum of multiples of two numbers, in its shortest limbs. Conditions: both read as limbs, the second one not longer, of at most 10^8 of them; the multipliers are below 2^31, one of them not above 0 and one not below; the sum is not below 0 and fits in the first one's limbs. -/
import Derived.Test.YtbenkbgdahcaaaaQuoF
import Derived.Test.YtbenkbgdahcaaaaMulB
namespace Go.Proofs.Ytbenkbgdahcaaaa.Limb

/-- A sum of multiples, limb by limb. -/
def OfInv (P Q : Int) (xs ys zs : List Nat) (k : Nat) (cy : Int) : Prop :=
  zs.length = xs.length ∧ ((val (zs.take k) : Nat) : Int) + cy * ((4294967296 ^ k : Nat) : Int) = P * ((val (xs.take k) : Nat) : Int) + Q * ((val (ys.take k) : Nat) : Int)

theorem OfInv.start (P Q : Int) (xs ys zs : List Nat) (h : zs.length = xs.length) : OfInv P Q xs ys zs 0 0 := ⟨h, by simp [val]⟩

theorem of_step {Z cy E P Q X Y x y lo c2 : Int} (h : Z + cy * E = P * X + Q * Y) (hs : cy + (P * x + Q * y) = lo + c2 * 4294967296) : Z + E * lo + c2 * (E * 4294967296) = P * (X + E * x) + Q * (Y + E * y) := by grind

theorem OfInv.step {P Q : Int} {xs ys zs : List Nat} {k lo : Nat} {cy c2 : Int} (h : OfInv P Q xs ys zs k cy) (hk : k < xs.length) (hs : cy + (P * ((lim xs k : Nat) : Int) + Q * ((lim ys k : Nat) : Int)) = (lo : Int) + c2 * 4294967296) :
    OfInv P Q xs ys (zs.set k lo) (k + 1) c2 := by
  obtain ⟨h1, h2⟩ := h
  refine ⟨by simpa using h1, ?_⟩
  rw [val_take_set (by omega), val_take_lim xs, val_take_lim ys, Nat.pow_succ]
  simp only [Int.natCast_add, Int.natCast_mul]
  exact of_step h2 hs

theorem OfInv.done {P Q : Int} {xs ys zs : List Nat} {k v : Nat} {cy : Int} (h : OfInv P Q xs ys zs k cy) (hk : k = xs.length) (hy : ys.length ≤ k) (hz : Small zs) (hv : P * ((val xs : Nat) : Int) + Q * ((val ys : Nat) : Int) = (v : Int)) (hv2 : v < 4294967296 ^ k) : val zs = v := by
  obtain ⟨h1, h2⟩ := h
  rw [List.take_of_length_le (by omega), List.take_of_length_le (by omega), List.take_of_length_le hy, hv] at h2
  have h3 := val_lt hz
  rw [h1, ← hk] at h3
  generalize 4294967296 ^ k = E at *
  have h4 : cy = 0 := by
    rcases Int.lt_trichotomy cy 0 with h | h | h
    · exfalso
      have : (cy + 1) * (E : Int) ≤ 0 := Int.mul_nonpos_of_nonpos_of_nonneg (by omega) (by omega)
      rw [Int.add_mul, Int.one_mul] at this
      omega
    · exact h
    · exfalso
      have : 0 ≤ (cy - 1) * (E : Int) := Int.mul_nonneg (by omega) (by omega)
      rw [Int.sub_mul, Int.one_mul] at this
      omega
  subst h4
  omega

/-- Multipliers below 2^31, not both on one side of 0. -/
def MixOk (P Q : Int) : Prop := -2147483648 < P ∧ P < 2147483648 ∧ -2147483648 < Q ∧ Q < 2147483648 ∧ ((0 ≤ P ∧ Q ≤ 0) ∨ (P ≤ 0 ∧ 0 ≤ Q))

theorem mul_bd {a x : Int} (hx0 : 0 ≤ x) (hx : x ≤ 4294967295) (ha : 0 ≤ a) : 0 ≤ a * x ∧ a * x ≤ a * 4294967295 := ⟨Int.mul_nonneg ha hx0, Int.mul_le_mul_of_nonneg_left hx ha⟩
theorem mul_bd' {a x : Int} (hx0 : 0 ≤ x) (hx : x ≤ 4294967295) (ha : a ≤ 0) : a * x ≤ 0 ∧ a * 4294967295 ≤ a * x := by
  have h1 := Int.mul_nonneg (show 0 ≤ -a by omega) hx0
  have h2 := Int.mul_le_mul_of_nonneg_left hx (show 0 ≤ -a by omega)
  rw [Int.neg_mul] at h1 h2
  rw [Int.neg_mul] at h2
  omega

theorem mix_bound {P Q : Int} (h : MixOk P Q) : ∃ lo hi : Int, -2147483648 < lo ∧ lo ≤ 0 ∧ 0 ≤ hi ∧ hi < 2147483648 ∧ ∀ x y : Int, 0 ≤ x → x ≤ 4294967295 → 0 ≤ y → y ≤ 4294967295 →
    lo * 4294967295 ≤ P * x + Q * y ∧ P * x + Q * y ≤ hi * 4294967295 ∧ -9223372036854775808 ≤ P * x ∧ P * x ≤ 9223372036854775807 ∧ -9223372036854775808 ≤ Q * y ∧ Q * y ≤ 9223372036854775807 := by
  obtain ⟨h1, h2, h3, h4, h5⟩ := h
  rcases h5 with ⟨h5, h6⟩ | ⟨h5, h6⟩
  · refine ⟨Q, P, h3, h6, h5, h2, fun x y a b c d => ?_⟩
    have e1 := mul_bd a b h5
    have e2 := mul_bd' c d h6
    omega
  · refine ⟨P, Q, h1, h5, h6, h4, fun x y a b c d => ?_⟩
    have e1 := mul_bd' a b h5
    have e2 := mul_bd c d h6
    omega

end Go.Proofs.Ytbenkbgdahcaaaa.Limb
namespace Go.Proofs.Ytbenkbgdahcaaaa
open Go.RowKit Limb
set_option linter.unusedVariables false

set_option maxHeartbeats 600000 in
theorem of_mix (P Q : Int) (A : Option Addr) (n c : Nat) (xs : List Nat) (A' : Option Addr) (n' c' : Nat) (ys : List Nat) (w : World) (hx : IsN w A n xs) (hy : IsN w A' n' ys) (hm : n ≤ 100000000) (hn : n' ≤ n) (hPQ : MixOk P Q)
    (v : Nat) (hv : P * ((val xs : Nat) : Int) + Q * ((val ys : Nat) : Int) = (v : Int)) (hv2 : v < 4294967296 ^ n) :
    Calls Try.prog 48 #[.agg #[.int .i64 P, .int .i64 Q], .slice A n c, .slice A' n' c'] w fun e w' => ∃ A2 n2 c2, e = .returned (.slice A2 n2 c2) ∧ OwnN w' w.heap.size A2 n2 c2 (limbs v) ∧ Below w.heap.size w w' := by
  obtain ⟨lo, hi, hlo1, hlo2, hhi1, hhi2, hbd⟩ := mix_bound hPQ
  have Hbd := Lib.hid hbd
  have Hv := Lib.hid hv
  have Hv2 := Lib.hid hv2
  obtain ⟨p1, p2, q1, q2, _⟩ := hPQ
  have hmk := run_made (n : Int) n rfl (by omega)
  have hbx := below_new w (.cells #[.int .i64 P, .int .i64 Q] 59)
  have cP : (w.alloc (.cells #[.int .i64 P, .int .i64 Q] 59)).cell? ⟨w.heap.size, 0, none⟩ = some (.int .i64 P) := by
    rw [World.cell?_alloc_at _ _ _ _ rfl]; rfl
  have cQ : (w.alloc (.cells #[.int .i64 P, .int .i64 Q] 59)).cell? ⟨w.heap.size, 1, none⟩ = some (.int .i64 Q) := by
    rw [World.cell?_alloc_at _ _ _ _ rfl]; rfl
  have hx1 := hx.below hbx
  have hy1 := hy.below hbx
  have Hbx := Lib.hid hbx
  obtain ⟨w1, hw1⟩ : ∃ x, x = w.alloc (.cells #[.int .i64 P, .int .i64 Q] 59) := ⟨_, rfl⟩
  have hsz : w1.heap.size = w.heap.size + 1 := by rw [hw1]; simp
  have Hw1 := Lib.hid hw1
  rw [← hw1] at cP cQ hx1 hy1 Hbx
  have Hrow : RowKit.Hid (OwnN (w1.alloc (.cells (madeCells #[.int .u32 0] n) 24)) (w.heap.size + 1) (some ⟨w.heap.size + 1, 0, none⟩) n n (List.replicate n 0)) := by
    have h := own_made w1 n (by omega)
    rw [hsz] at h
    exact h
  have Hb1 : RowKit.Hid (Below (w.heap.size + 1) w1 (w1.alloc (.cells (madeCells #[.int .u32 0] n) 24))) := by
    have h := below_new w1 (.cells (madeCells #[.int .u32 0] n) 24)
    rw [hsz] at h
    exact h
  have Hsz := Lib.hid hsz
  have Hst := Lib.hid (OfInv.start P Q xs ys (List.replicate n 0) (by rw [List.length_replicate, hx1.len]))
  have Hxl := Lib.hid hx1.len
  have Hyl := Lib.hid hy1.len
  clear hbd hv hv2 hbx hx hy hsz hw1
  go_enter Try.func48, Try.ntmps48
  go_wp2
  rw [← Hw1.out]
  go_loopw [15, 8] (fun i cv wr => ∃ (k : Nat) (cy : Int) (zs : List Nat), k ≤ n ∧ i = .int .i64 (k : Int) ∧ cv = .int .i64 cy ∧ lo ≤ cy ∧ cy ≤ hi ∧ RowKit.Hid (OfInv P Q xs ys zs k cy) ∧ RowKit.Hid (OwnN wr (w.heap.size + 1) (some ⟨w.heap.size + 1, 0, none⟩) n n zs) ∧ RowKit.Hid (Below (w.heap.size + 1) w1 wr)) (fun i _ _ => n - (intOf i).toNat)
  case atStart => exact ⟨0, 0, _, Nat.zero_le _, rfl, rfl, hlo2, hhi1, Hst, Hrow, Hb1⟩
  case round =>
    clear Hst Hrow Hb1 hmk
    obtain ⟨k, cy, zs, hk, rfl, rfl, hc1, hc2, Hinv, Hrow, Hb⟩ := hrel
    by_cases hkn : k < n
    · have hb := Hb.out
      rw [← Hsz.out] at hb
      have hxk := hx1.below hb
      have hyk := hy1.below hb
      have dP : wr.cell? ⟨w.heap.size, 0, none⟩ = some (.int .i64 P) := (Hb.out.cell (p := ⟨w.heap.size, 0, none⟩) (Nat.lt_succ_self _)).trans cP
      have dQ : wr.cell? ⟨w.heap.size, 1, none⟩ = some (.int .i64 Q) := (Hb.out.cell (p := ⟨w.heap.size, 1, none⟩) (Nat.lt_succ_self _)).trans cQ
      have lx := lim_lt hxk.small k
      have ly := lim_lt hyk.small k
      have HA := Lib.hid (fun nd => limbAt_q (c := c) hxk (by omega) k _ rfl (by omega) nd)
      have HB := Lib.hid (fun nd => limbAt_q (c := c') hyk (by omega) k _ rfl (by omega) nd)
      obtain ⟨b1, b2, b3, b4, b5, b6⟩ := Hbd.out ((lim xs k : Nat) : Int) ((lim ys k : Nat) : Int) (by omega) (by omega) (by omega) (by omega)
      obtain ⟨px, hpx⟩ : ∃ x, x = P * ((lim xs k : Nat) : Int) := ⟨_, rfl⟩
      obtain ⟨qy, hqy⟩ : ∃ x, x = Q * ((lim ys k : Nat) : Int) := ⟨_, rfl⟩
      rw [← hpx, ← hqy] at b1 b2
      rw [← hpx] at b3 b4
      rw [← hqy] at b5 b6
      obtain ⟨l, hl⟩ : ∃ l : Nat, (l : Int) = (cy + (px + qy)) % 4294967296 := ⟨((cy + (px + qy)) % 4294967296).toNat, by omega⟩
      obtain ⟨c2, hc2'⟩ : ∃ c2 : Int, c2 = (cy + (px + qy)) / 4294967296 := ⟨_, rfl⟩
      have hl4 : l < 4294967296 := by omega
      have hs : cy + (px + qy) = (l : Int) + c2 * 4294967296 := by omega
      have hc3 : lo ≤ c2 := by omega
      have hc4 : c2 ≤ hi := by omega
      have Hst : RowKit.Hid (OfInv P Q xs ys (zs.set k l) (k + 1) c2) := Hinv.out.step (by rw [Hxl.out]; exact hkn) (by rw [← hpx, ← hqy]; exact hs)
      have w1' : IntKind.i64.wrap (P * ((lim xs k : Nat) : Int)) = px := by rw [← hpx]; exact IntWalk.i64_in _ (by omega)
      have w2' : IntKind.i64.wrap (Q * ((lim ys k : Nat) : Int)) = qy := by rw [← hqy]; exact IntWalk.i64_in _ (by omega)
      have w3' : IntKind.i64.wrap (px + qy) = px + qy := IntWalk.i64_in _ (by omega)
      have w4' : IntKind.i64.wrap (cy + (px + qy)) = cy + (px + qy) := IntWalk.i64_in _ (by omega)
      have w5' : IntKind.i64.wrap ((lim xs k : Nat) : Int) = ((lim xs k : Nat) : Int) := IntWalk.i64_in _ (by omega)
      have w6' : IntKind.i64.wrap ((lim ys k : Nat) : Int) = ((lim ys k : Nat) : Int) := IntWalk.i64_in _ (by omega)
      have es : (cy + (px + qy)) % 4294967296 = (l : Int) := hl.symm
      have eh : (cy + (px + qy)) / 4294967296 = c2 := hc2'.symm
      clear hb hxk hyk hpx hqy hl hc2' hs Hinv
      go_wp2
      go_quiet ((first | (go_at_call 49; with_reducible exact HA.out _) | (go_at_call 49; with_reducible exact HB.out _)))
      have Hrow2 : RowKit.Hid (OwnN (wr.drewN nq) (w.heap.size + 1) (some ⟨w.heap.size + 1, 0, none⟩) n n zs) := Hrow.out.below (below_drewN (Below.refl _ _) nq) (Nat.le_refl _)
      have Hb2 := Lib.hid (below_drewN Hb.out nq)
      clear Hrow Hb w1' w2' w3' w4' w5' w6' dP dQ HA HB
      generalize wr.drewN nq = w2 at *
      have c0 := Hrow2.out.cell (k := k) (by omega)
      have f0 := Hrow2.out.1.frozenAt k
      have Hset := Lib.hid (Hrow2.out.set k hl4)
      have Hb3 : RowKit.Hid (Below (w.heap.size + 1) w1 (w2.setCell ⟨w.heap.size + 1, k, none⟩ (.int .u32 (l : Int)))) := Hb2.out.setCell (by exact Nat.le_refl _) _
      clear Hrow2 Hb2
      go_wp2
      go_roundw
      case rel => exact ⟨k + 1, c2, zs.set k l, by omega, by go_num, rfl, hc3, hc4, Hst, Hset, Hb3⟩
      case measure => simp [intOf]; omega
    · obtain rfl : k = n := by omega
      have hz := Hrow.out.isN
      have hsm := Hrow.out.small
      have hval := Hinv.out.done Hxl.out.symm (by rw [Hyl.out]; exact hn) hsm Hv.out Hv2.out
      have Hval := Lib.hid hval
      clear hval
      go_wp2_with fail
      refine (trim_any _ k k zs wr hz (Nat.le_refl _) (by omega)).mono ?_
      rintro e w5 ⟨A5, n5, c5, rfl, how, hb5⟩
      have How : RowKit.Hid (OwnN w5 w.heap.size A5 n5 c5 (limbs v)) := by
        rw [trim_eq_limbs hsm, Hval.out] at how
        have hs := Hb.out.size
        exact how.mono (by have := Hsz.out; omega)
      have HW : RowKit.Hid (Below w.heap.size w w5) := by
        have hb := Hb.out
        rw [← Hsz.out] at hb
        exact below_two (below_two Hbx.out hb) hb5
      clear how hb5
      go_wp2
      go_ret
      exact ⟨_, _, _, rfl, How.out, HW.out⟩

end Go.Proofs.Ytbenkbgdahcaaaa
